/- My texts on the way to WholeTexts, one behind the other: contracts of the program and of the document's answers. -/
import Derived.Test.YtgimgagnfkinmaaDoorJ1
import Derived.BigQuiet
import Derived.Lib.ItoaNum
import Derived.Test.YtgimgagnfkinmaaDoorShelf
import Derived.Lib.ItoaMem
import Derived.Lib.ItoaLen
import Derived.Lib.Walk
import Derived.Deep.LoopGhost
import Derived.Handy
import Derived.Deep.QuietTactic
import Derived.Deep.RegionHeld3
/- nat.giveBack, nat.guess, nat.nextWord: one word of a quotient. -/
namespace Go.Proofs.YtgimgagnfkinmaaDoor
open Go.RowKit
set_option linter.unusedVariables false

theorem give_step (ds us ys : List Int) (i k : Nat) (c T : Int) (hk : i + k < us.length) (hT : T = c + (us[i + k]?.getD 0 + ds[k]?.getD 0)) (hu : us[i + k]?.getD 0 = ys[i + k]?.getD 0)
    (h : segTo us i k + c * 4294967296 ^ k = segTo ys i k + valTo ds k) :
    segTo (us.set (i + k) (T % 4294967296)) i (k + 1) + T / 4294967296 * 4294967296 ^ (k + 1) = segTo ys i (k + 1) + valTo ds (k + 1) := by
  rw [segTo_set us i k _ hk, segTo_succ ys, valTo_succ, pw_succ, ← hu]
  have e := carry_step (4294967296 ^ k) (T % 4294967296) (T / 4294967296) T (by omega)
  have e2 : T * 4294967296 ^ k = c * 4294967296 ^ k + (us[i + k]?.getD 0 * 4294967296 ^ k + ds[k]?.getD 0 * 4294967296 ^ k) := by
    rw [hT, Int.add_mul, Int.add_mul]
  omega

set_option maxHeartbeats 3200000 in
set_option maxRecDepth 100000 in
theorem giveBack_any (base g N i m cap : Nat) (ys : List Int) (b : Option Addr) (cap' : Nat) (ds : List Int) (w : World) (ho : OwnW w base g N ys) (hwy : Wd ys) (him : i + m + 1 ≤ N) (hcap : cap = N - i) (hN : N ≤ 1099511627776)
    (h : Reads w base b m cap' ds) (hm : 0 < m) :
    Calls Tryd.prog 114 #[.slice (some ⟨g, i, none⟩) (m + 1) cap, .slice b m cap'] w fun e w' => ∃ (c : Int) (us : List Int), e = .returned (.tuple #[]) ∧ OwnW w' base g N us ∧ Wd us ∧ (c = 0 ∨ c = 1) ∧
      (∀ j, j < i ∨ i + m + 1 ≤ j → us[j]?.getD 0 = ys[j]?.getD 0) ∧ segTo us i (m + 1) = segTo ys i (m + 1) + val ds - c * 4294967296 ^ (m + 1) ∧ w.grownBy w' (some g) := by
  have hbase := ho.base
  rcases h.2.2.1 with h0 | ⟨b2, o2, rfl, hb2, hc2⟩
  · omega
  · have hwz := h.2.1
    have HL := hid h.1
    have HC := hid hc2
    have hcm : m + 1 ≤ cap := by omega
    have hcz : ¬ cap = 0 := by omega
    clear h hc2
    go_enter Tryd.func114, Tryd.ntmps114
    go_wp2_with fail
    go_loopw [5, 12] (fun c t wr => ∃ (k : Nat) (o : Int) (us : List Int), k ≤ m ∧ t = .int .i64 k ∧ c = .int .u64 o ∧ 0 ≤ o ∧ o ≤ 1 ∧ Wd us ∧ Hid (segTo us i k + o * 4294967296 ^ k = segTo ys i k + valTo ds k) ∧
      Hid (∀ j, j < i ∨ i + k ≤ j → us[j]?.getD 0 = ys[j]?.getD 0) ∧ OwnW wr base g N us ∧ w.grownBy wr (some g)) (fun _ t _ => m - (intOf t).toNat)
    case atStart => exact ⟨0, 0, ys, by omega, rfl, rfl, by omega, by omega, hwy, show _ = _ by simp [segTo, valTo], fun _ _ => rfl, ho, World.grownBy.refl _ _⟩
    case round =>
      obtain ⟨k, o, us, hk, rfl, rfl, c0, c1, hwu, HV, HK, hou, hg⟩ := hrel
      have hb : Below base w wr := (Below.refl _ _).grown hg (by omega) (fun k hk => by simp at hk; omega)
      by_cases hlt : k < m
      · have x1 : wr.cell? ⟨b2, o2 + k, none⟩ = some (.int .u32 (ds[k]?.getD 0)) := (hb.cell (p := ⟨b2, o2 + k, none⟩) hb2).trans (HC.out k hlt)
        have y1 := hou.cell (i + k) (by omega)
        have f1 := hou.free (i + k)
        have bz := hwz.at k
        have bu := hwu.at (i + k)
        have hlu := hou.len
        obtain ⟨T, hT⟩ : ∃ T, T = o + (us[i + k]?.getD 0 + ds[k]?.getD 0) := ⟨_, rfl⟩
        have HT := hid hT
        have T0 : 0 ≤ T ∧ T ≤ 8589934591 := by omega
        have HV' := hid (give_step ds us ys i k o T (by omega) hT (HK.out _ (by omega)) HV.out)
        have HK' : Hid (∀ j, j < i ∨ i + (k + 1) ≤ j → (us.set (i + k) (T % 4294967296))[j]?.getD 0 = ys[j]?.getD 0) := fun j hj => by
          rw [List.getElem?_set, if_neg (by omega)]
          exact HK.out j (by omega)
        have HO' := hid (hou.set (i + k) (T % 4294967296))
        have HB' := hid (grown_trans hg (OwnC.set (cap := N) hou (i + k) (T % 4294967296)).2)
        clear hlu hou hb hg HV HK hT
        go_wp2_with fail
        go_roundw
        case rel => rw [← HT.out]; exact ⟨k + 1, T / 4294967296, us.set (i + k) (T % 4294967296), by omega, by go_num, by go_num, by omega, by omega, hwu.set _ (by omega), HV', HK', HO'.out, HB'.out⟩
        case measure => simp [intOf]; omega
      · have hkm : k = m := by omega
        subst hkm
        have y1 := hou.cell (i + k) (by omega)
        have f1 := hou.free (i + k)
        have bu := hwu.at (i + k)
        have hlu := hou.len
        obtain ⟨z, hz⟩ : ∃ z, (us[i + k]?.getD 0 + o) % 4294967296 = z := ⟨_, rfl⟩
        have hwr : IntKind.u32.wrap (us[i + k]?.getD 0 + o) = z := by rw [IntKind.wrap_u32, hz]
        have z0 : 0 ≤ z ∧ z ≤ 4294967295 := by omega
        obtain ⟨c, hc⟩ : ∃ c, c = (us[i + k]?.getD 0 + o) / 4294967296 := ⟨_, rfl⟩
        have HCC : Hid (c = 0 ∨ c = 1) := by show _ ∨ _; omega
        have HO' := hid (hou.set (i + k) z)
        have HB' := hid (grown_trans hg (OwnC.set (cap := N) hou (i + k) z).2)
        have HK' : Hid (∀ j, j < i ∨ i + k + 1 ≤ j → (us.set (i + k) z)[j]?.getD 0 = ys[j]?.getD 0) := fun j hj => by
          rw [List.getElem?_set, if_neg (by omega)]
          exact HK.out j (by omega)
        have HV' : Hid (segTo (us.set (i + k) z) i (k + 1) = segTo ys i (k + 1) + val ds - c * 4294967296 ^ (k + 1)) := by
          show _ = _
          have e := HV.out
          rw [segTo_set us i k _ (by omega), segTo_succ ys, ← HK.out (i + k) (by omega), ← valTo_stable ds k (by have := HL.out; omega), pw_succ]
          have e2 := carry_step (4294967296 ^ k) z c (us[i + k]?.getD 0 + o) (by omega)
          rw [Int.add_mul] at e2
          omega
        clear hlu hou hb hg HV HK hz hc
        go_wp2_with fail
        go_end0
        exact ⟨c, us.set (i + k) z, rfl, HO'.out, hwu.set _ z0, HCC.out, HK'.out, HV'.out, HB'.out⟩

/-- What a guess of a quotient's word must meet: it is not too small. -/
theorem guess_first (P h l dl u2 u1 u0 ll t : Int) (hP : 0 < P) (hh : 0 < h) (l0 : 0 ≤ l) (dl0 : 0 ≤ dl) (ll1 : ll < P) (hu0 : 0 ≤ u0 ∧ u0 ≤ 4294967295) (ht : t = u1 + u2 * 4294967296) (t0 : 0 ≤ t) :
    ll + (u0 + t * 4294967296) * P < (t / h + 1) * (dl + (l + h * 4294967296) * P) := by
  have e := Int.mul_ediv_add_emod t h
  have e1 := Int.emod_lt_of_pos t hh
  have q0 : 0 ≤ t / h := Int.ediv_nonneg t0 (by omega)
  have e2 : t + 1 ≤ (t / h + 1) * h := by rw [Int.add_mul, Int.mul_comm (t / h) h]; omega
  have e3 : (t + 1) * 4294967296 * P ≤ (t / h + 1) * h * 4294967296 * P := Int.mul_le_mul_of_nonneg_right (Int.mul_le_mul_of_nonneg_right e2 (by omega)) (by omega)
  have e4 : (t / h + 1) * (dl + (l + h * 4294967296) * P) = (t / h + 1) * dl + (t / h + 1) * (l * P) + (t / h + 1) * h * 4294967296 * P := by
    rw [Int.mul_add, Int.add_mul l, Int.mul_add, Int.mul_assoc ((t / h + 1) * h), Int.mul_assoc (t / h + 1) h, Int.mul_assoc h]; omega
  have e5 : 0 ≤ (t / h + 1) * dl := Int.mul_nonneg (by omega) dl0
  have e6 : 0 ≤ (t / h + 1) * (l * P) := Int.mul_nonneg (by omega) (Int.mul_nonneg l0 (by omega))
  have e7 : (u0 + t * 4294967296 + 1) * P ≤ (t + 1) * 4294967296 * P := Int.mul_le_mul_of_nonneg_right (by omega) (by omega)
  rw [Int.add_mul _ 1 P] at e7
  rw [e4]
  omega
/-- A guess that the next two words call too great is. -/
theorem guess_less (P h l dl t u0 ll q r : Int) (hP : 0 < P) (dl0 : 0 ≤ dl) (ll1 : ll < P) (q0 : 0 ≤ q) (hr : q * h + r = t) (hgt : u0 + r * 4294967296 < q * l) :
    ll + (u0 + t * 4294967296) * P < q * (dl + (l + h * 4294967296) * P) := by
  have e1 : u0 + t * 4294967296 + 1 ≤ q * (l + h * 4294967296) := by
    rw [Int.mul_add, ← Int.mul_assoc, ← hr, Int.add_mul]; omega
  have e2 : (u0 + t * 4294967296 + 1) * P ≤ q * (l + h * 4294967296) * P := Int.mul_le_mul_of_nonneg_right e1 (by omega)
  rw [Int.add_mul _ 1 P] at e2
  have e3 : 0 ≤ q * dl := Int.mul_nonneg q0 dl0
  rw [Int.mul_add q dl, ← Int.mul_assoc q]
  omega
/-- A guess that the next two words don't call too great is at most one too great. -/
theorem guess_most (P h l dl t u0 ll q r : Int) (hP : 0 < P) (dl0 : 0 ≤ dl) (dl1 : dl < P) (ll0 : 0 ≤ ll) (hh : 1 ≤ h) (l0 : 0 ≤ l) (q0 : 0 ≤ q) (q1 : q ≤ 4294967295) (hr : q * h + r = t) (hle : q * l ≤ u0 + r * 4294967296) :
    q * (dl + (l + h * 4294967296) * P) ≤ (ll + (u0 + t * 4294967296) * P) + (dl + (l + h * 4294967296) * P) := by
  have e1 : q * (l + h * 4294967296) ≤ u0 + t * 4294967296 := by
    rw [Int.mul_add, ← Int.mul_assoc, ← hr, Int.add_mul]; omega
  have e2 : q * (l + h * 4294967296) * P ≤ (u0 + t * 4294967296) * P := Int.mul_le_mul_of_nonneg_right e1 (by omega)
  have e3 : q * dl ≤ 4294967296 * P := by
    have a1 : q * dl ≤ q * P := Int.mul_le_mul_of_nonneg_left (by omega) q0
    have a2 : q * P ≤ 4294967296 * P := Int.mul_le_mul_of_nonneg_right (by omega) (by omega)
    omega
  have e4 : 4294967296 * P ≤ (l + h * 4294967296) * P := Int.mul_le_mul_of_nonneg_right (by omega) (by omega)
  rw [Int.mul_add q dl, ← Int.mul_assoc q]
  omega
end Go.Proofs.YtgimgagnfkinmaaDoor

/- nat.guess, nat.nextWord: one word of a quotient. -/
namespace Go.Proofs.YtgimgagnfkinmaaDoor
open Go.RowKit
set_option linter.unusedVariables false

theorem bdn {B : Nat} {a w : World} (h : Below B a w) (n : Nat) : Below B a (w.drewN n) := h.trans ⟨rfl, rfl, rfl, Nat.le_refl _, fun _ _ => rfl⟩
theorem seg_three (ys : List Int) (i e : Nat) : segTo ys i (e + 3) = segTo ys i e + (ys[i + e]?.getD 0 + (ys[i + (e + 1)]?.getD 0 + ys[i + (e + 2)]?.getD 0 * 4294967296) * 4294967296) * 4294967296 ^ e := by
  rw [segTo_succ, segTo_succ, segTo_succ, pw_succ (e + 1), pw_succ e]
  generalize ys[i + (e + 2)]?.getD 0 = u2
  generalize ys[i + (e + 1)]?.getD 0 = u1
  generalize ys[i + e]?.getD 0 = u0
  generalize (4294967296 : Int) ^ e = P
  have e1 : u2 * (P * 4294967296 * 4294967296) = u2 * 4294967296 * 4294967296 * P := by rw [Int.mul_assoc P, Int.mul_comm P, ← Int.mul_assoc, ← Int.mul_assoc]
  have e2 : u1 * (P * 4294967296) = u1 * 4294967296 * P := by rw [Int.mul_comm P, ← Int.mul_assoc]
  rw [e1, e2, Int.add_mul u0, Int.add_mul u1, Int.add_mul (u1 * 4294967296)]
  omega
theorem val_two_top (ds : List Int) (e : Nat) (h : ds.length = e + 2) : val ds = valTo ds e + (ds[e]?.getD 0 + ds[e + 1]?.getD 0 * 4294967296) * 4294967296 ^ e := by
  unfold val
  rw [h, valTo_succ, valTo_succ, pw_succ, Int.add_mul, Int.mul_assoc (ds[e + 1]?.getD 0), Int.mul_comm 4294967296 (4294967296 ^ e)]
  omega
theorem segTo_bounds {xs : List Int} (hw : Wd xs) (i : Nat) : ∀ k, 0 ≤ segTo xs i k ∧ segTo xs i k < 4294967296 ^ k
  | 0 => ⟨Int.le_refl _, by simp [segTo]⟩
  | k + 1 => by
    obtain ⟨h0, h1⟩ := segTo_bounds hw i k
    obtain ⟨z0, z1⟩ := hw.at (i + k)
    have hp := pw_pos k
    rw [segTo_succ, pw_succ]
    have e1 : 0 ≤ xs[i + k]?.getD 0 * 4294967296 ^ k := Int.mul_nonneg z0 (Int.le_of_lt hp)
    have e2 : xs[i + k]?.getD 0 * 4294967296 ^ k ≤ 4294967295 * 4294967296 ^ k := Int.mul_le_mul_of_nonneg_right z1 (Int.le_of_lt hp)
    omega

/-- The two highest words bound the rest of a guess. -/
theorem guess_top (P H Lo dl ll t u0 : Int) (hP : 0 < P) (dl1 : dl < P) (ll0 : 0 ≤ ll) (hu : 0 ≤ u0) (h : ll + (u0 + t * 4294967296) * P < 4294967296 * (dl + (Lo + H * 4294967296) * P)) : t ≤ Lo + H * 4294967296 := by
  by_cases c : t ≤ Lo + H * 4294967296
  · exact c
  · have e1 : (Lo + H * 4294967296 + 1) * 4294967296 * P ≤ (u0 + t * 4294967296) * P := Int.mul_le_mul_of_nonneg_right (by omega) (by omega)
    have e2 : (Lo + H * 4294967296 + 1) * 4294967296 * P = 4294967296 * ((Lo + H * 4294967296) * P) + 4294967296 * P := by
      rw [Int.mul_comm (Lo + H * 4294967296 + 1), Int.mul_assoc, Int.add_mul, Int.one_mul, Int.mul_add]
    rw [Int.mul_add] at h
    omega
theorem guess_break (H Lo t q r : Int) (h0 : 0 < H) (hr : q * H + r = t) (ht : t ≤ Lo + H * 4294967296) (hb : 4294967296 ≤ r) (hl : Lo ≤ 4294967295) : q ≤ 4294967295 := by
  have e : q * H < 4294967296 * H := by omega
  have := Int.lt_of_mul_lt_mul_right e (by omega)
  omega
theorem guess_down (D q L : Int) (hD : 0 ≤ D) (hq : 4294967296 ≤ q) (h : L < 4294967296 * D) : L < (q - 1 + 1) * D := by
  have : 4294967296 * D ≤ q * D := Int.mul_le_mul_of_nonneg_right hq hD
  rw [show q - 1 + 1 = q by omega]; omega

set_option maxHeartbeats 3200000 in
set_option maxRecDepth 100000 in
theorem guess_any (base g N i e cap : Nat) (ys : List Int) (b : Option Addr) (cap' : Nat) (ds : List Int) (w : World) (ho : OwnW w base g N ys) (hwy : Wd ys) (him : i + (e + 2) + 1 ≤ N) (hcap : cap = N - i) (hN : N ≤ 1099511627776)
    (h : Reads w base b (e + 2) cap' ds) (hh : 1 ≤ ds[e + 1]?.getD 0) (hLD : segTo ys i (e + 3) < 4294967296 * val ds) :
    Calls Tryd.prog 112 #[.slice (some ⟨g, i, none⟩) (e + 2 + 1) cap, .slice b (e + 2) cap'] w fun x w' => ∃ q : Int, x = .returned (.int .u32 q) ∧ 0 ≤ q ∧ q ≤ 4294967295 ∧ segTo ys i (e + 3) < (q + 1) * val ds ∧ q * val ds ≤ segTo ys i (e + 3) + val ds ∧ Below w.heap.size w w' := by
  rcases h.2.2.1 with h0 | ⟨b2, o2, rfl, hb2, hc2⟩
  · omega
  · have hwz := h.2.1
    have hl := h.1
    have c1 := hc2 (e + 1) (by omega)
    have c0 := hc2 e (by omega)
    have l2 := ho.cell (i + (e + 2)) (by omega)
    have l1 := ho.cell (i + (e + 1)) (by omega)
    have l0 := ho.cell (i + e) (by omega)
    have bh := hwz.at (e + 1)
    have bl := hwz.at e
    have b2' := hwy.at (i + (e + 2))
    have b1' := hwy.at (i + (e + 1))
    have b0' := hwy.at (i + e)
    have hS := seg_three ys i e
    have hD := val_two_top ds e hl
    have sb := segTo_bounds hwy i e
    have vb := valTo_bounds hwz e
    generalize ds[e + 1]?.getD 0 = H at *
    generalize ds[e]?.getD 0 = Lo at *
    generalize ys[i + (e + 2)]?.getD 0 = u2 at *
    generalize ys[i + (e + 1)]?.getD 0 = u1 at *
    generalize ys[i + e]?.getD 0 = u0 at *
    obtain ⟨t, ht⟩ : ∃ t, t = u1 + u2 * 4294967296 := ⟨_, rfl⟩
    have hor : bits BinOp.or IntKind.u64 (u2 * 4294967296) u1 = t := by rw [or_join u2 _ b2'.1 b2'.2 b1'.1 b1'.2, ht]
    have t0 : 0 ≤ t ∧ t ≤ 18446744073709551615 := by omega
    have P0 := pw_pos e
    have HTB : Hid (t ≤ Lo + H * 4294967296) := guess_top (4294967296 ^ e) H Lo (valTo ds e) (segTo ys i e) t u0 P0 vb.2 sb.1 b0'.1 (by rw [hS, hD, ← ht] at hLD; exact hLD)
    have HQ0 : Hid (segTo ys i (e + 3) < (t / H + 1) * val ds) := by
      show _ < _
      rw [hS, hD, ← ht]
      exact guess_first (4294967296 ^ e) H Lo (valTo ds e) u2 u1 u0 (segTo ys i e) t P0 (by omega) bl.1 vb.1 sb.2 b0' ht t0.1
    have HLESS : Hid (∀ q r : Int, 0 ≤ q → q * H + r = t → u0 + r * 4294967296 < q * Lo → segTo ys i (e + 3) < (q - 1 + 1) * val ds) := fun q r hq hr hgt => by
      rw [hS, hD, ← ht, show q - 1 + 1 = q by omega]
      exact guess_less (4294967296 ^ e) H Lo (valTo ds e) t u0 (segTo ys i e) q r P0 vb.1 sb.2 hq hr hgt
    have HMOST : Hid (∀ q r : Int, 0 ≤ q → q ≤ 4294967295 → q * H + r = t → q * Lo ≤ u0 + r * 4294967296 → q * val ds ≤ segTo ys i (e + 3) + val ds) := fun q r hq hq1 hr hle => by
      rw [hS, hD, ← ht]
      exact guess_most (4294967296 ^ e) H Lo (valTo ds e) t u0 (segTo ys i e) q r P0 vb.1 vb.2 sb.1 hh bl.1 hq hq1 hr hle
    have hcm : e + 2 + 1 ≤ cap := by omega
    have q0 : 0 ≤ t / H := Int.ediv_nonneg t0.1 (by omega)
    have q1 : t / H ≤ t := Int.ediv_le_self _ (by omega)
    have r0 : 0 ≤ t % H := Int.emod_nonneg _ (by omega)
    have r1 : t % H < H := Int.emod_lt_of_pos _ (by omega)
    have HE0 : Hid (t / H * H + t % H = t) := by show _ = _; rw [Int.mul_comm]; exact Int.mul_ediv_add_emod t H
    have hHz : ¬ H = 0 := by omega
    have HLD := hid hLD
    have HDN := hid (val_nonneg hwz)
    clear hc2 h hl hS hD sb vb hLD ho ht P0
    go_enter Tryd.func112, Tryd.ntmps112
    go_wp2_with fail
    go_quiet (fail)
    go_wp2_with fail
    go_quiet (fail)
    go_wp2_with fail
    go_quiet (fail)
    go_wp2_with fail
    go_loopw [9, 10] (fun c d wr => ∃ (q r : Int), c = .int .u64 q ∧ d = .int .u64 r ∧ 0 ≤ q ∧ q ≤ 18446744073709551615 ∧ 0 ≤ r ∧ r ≤ 4294967295 ∧ Hid (q * H + r = t) ∧ Hid (segTo ys i (e + 3) < (q + 1) * val ds) ∧ wr.cell? ⟨g, i + e, none⟩ = some (.int .u32 u0) ∧ Below w.heap.size w wr) (fun c _ _ => (intOf c).toNat)
    case atStart => exact ⟨t / H, t % H, rfl, rfl, q0, by omega, r0, by omega, HE0, HQ0, l0, bdn (bdn (bdn (Below.refl _ _) _) _) _⟩
    case round =>
      obtain ⟨q, r, rfl, rfl, qa, qb, ra, rb, HE, HQ, lw, hb⟩ := hrel
      clear q0 q1 r0 r1 HE0 HQ0 c1 c0 l0 l1 l2 hor
      have hE' : (q - 1) * H + (r + H) = t := by rw [Int.sub_mul, Int.one_mul]; have := HE.out; omega
      have HE' := hid hE'
      by_cases big : 4294967295 < q
      · have HQ' : Hid (segTo ys i (e + 3) < (q - 1 + 1) * val ds) := guess_down (val ds) q _ HDN.out (by omega) HLD.out
        by_cases rr : 4294967295 < r + H
        · have qc := guess_break H Lo t (q - 1) (r + H) (by omega) hE' HTB.out (by omega) bl.2
          have HM : Hid ((q - 1) * val ds ≤ segTo ys i (e + 3) + val ds) := HMOST.out (q - 1) (r + H) (by omega) qc hE' (by
            have a := prod_word (q - 1) Lo ⟨by omega, qc⟩ bl
            omega)
          clear hE'
          go_wp2_with fail
          go_ret
          exact ⟨q - 1, ret_int (by omega), by omega, qc, HQ'.out, HM.out, hb⟩
        · clear hE'
          go_wp2_with fail
          go_roundw
          case rel => exact ⟨q - 1, r + H, by go_num, by go_num, by omega, by omega, by omega, by omega, HE', HQ', lw, hb⟩
          case measure => simp [intOf]; omega
      · have bp := prod_word q Lo ⟨qa, by omega⟩ bl
        obtain ⟨p, hp⟩ : ∃ p, q * Lo = p := ⟨_, rfl⟩
        rw [hp] at bp
        obtain ⟨s, hs⟩ : ∃ s, s = u0 + r * 4294967296 := ⟨_, rfl⟩
        have hor : bits BinOp.or IntKind.u64 (r * 4294967296) u0 = s := by rw [or_join r _ ra rb b0'.1 b0'.2, hs]
        by_cases gt : s < p
        · have HQ' : Hid (segTo ys i (e + 3) < (q - 1 + 1) * val ds) := HLESS.out q r qa HE.out (by rw [hp, ← hs]; exact gt)
          have q1 : 1 ≤ q := by
            by_cases c : q = 0
            · rw [c] at hp; simp at hp; omega
            · omega
          by_cases rr : 4294967295 < r + H
          · have qc := guess_break H Lo t (q - 1) (r + H) (by omega) hE' HTB.out (by omega) bl.2
            have HM : Hid ((q - 1) * val ds ≤ segTo ys i (e + 3) + val ds) := HMOST.out (q - 1) (r + H) (by omega) qc hE' (by
              have a := prod_word (q - 1) Lo ⟨by omega, qc⟩ bl
              omega)
            clear hE' hs
            go_wp2_with fail
            go_ret
            exact ⟨q - 1, ret_int (by omega), by omega, qc, HQ'.out, HM.out, hb⟩
          · clear hE' hs
            go_wp2_with fail
            go_roundw
            case rel => exact ⟨q - 1, r + H, by go_num, by go_num, by omega, by omega, by omega, by omega, HE', HQ', lw, hb⟩
            case measure => simp [intOf]; omega
        · have HM : Hid (q * val ds ≤ segTo ys i (e + 3) + val ds) := HMOST.out q r qa (by omega) HE.out (by rw [hp, ← hs]; omega)
          clear hE' hs
          go_wp2_with fail
          go_ret
          exact ⟨q, ret_int (by omega), qa, by omega, HQ.out, HM.out, hb⟩
end Go.Proofs.YtgimgagnfkinmaaDoor

/- nat.nextWord: one word of a quotient. -/
namespace Go.Proofs.YtgimgagnfkinmaaDoor
open Go.RowKit
set_option linter.unusedVariables false

theorem grown_of_below {w w' : World} (hb : Below w.heap.size w w') (r : Option Nat) : w.grownBy w' r := ⟨hb.os, hb.tape, hb.output, hb.size, fun k hk _ => hb.block k hk⟩

set_option maxHeartbeats 800000 in
set_option maxRecDepth 100000 in
theorem nextWord_any (base g N i e cap : Nat) (ys : List Int) (b : Option Addr) (cap' : Nat) (ds : List Int) (w : World) (ho : OwnW w base g N ys) (hwy : Wd ys) (him : i + (e + 2) + 1 ≤ N) (hcap : cap = N - i) (hN : N ≤ 1099511627776)
    (h : Reads w base b (e + 2) cap' ds) (hh : 1 ≤ ds[e + 1]?.getD 0) (hLD : segTo ys i (e + 3) < 4294967296 * val ds) :
    Calls Tryd.prog 111 #[.slice (some ⟨g, i, none⟩) (e + 2 + 1) cap, .slice b (e + 2) cap'] w fun x w' => ∃ (q : Int) (us : List Int), x = .returned (.int .u32 q) ∧ 0 ≤ q ∧ q ≤ 4294967295 ∧ OwnW w' base g N us ∧ Wd us ∧
      (∀ j, j < i ∨ i + (e + 2) + 1 ≤ j → us[j]?.getD 0 = ys[j]?.getD 0) ∧ segTo us i (e + 3) = segTo ys i (e + 3) - q * val ds ∧ segTo us i (e + 3) < val ds ∧ w.grownBy w' (some g) := by
  subst hcap
  have hbase := ho.base
  have hbw : base ≤ w.heap.size := by omega
  have HG := hid (guess_any base g N i e _ ys b cap' ds w ho hwy him rfl hN h hh hLD)
  have vd := val_lt h.2.1
  have vd0 := val_nonneg h.2.1
  rw [h.1] at vd
  have sb := segTo_bounds hwy i (e + 3)
  have hpw : (4294967296 : Int) ^ (e + 2) ≤ 4294967296 ^ (e + 3) := pw_le (by omega)
  have HF := hid (And.intro vd (And.intro vd0 (And.intro sb hpw)))
  have HR := hid h
  have HO := hid ho
  clear h ho vd vd0 sb hpw hLD
  go_enter Tryd.func111, Tryd.ntmps111
  go_wp2_with fail
  refine Calls.mono HG.out ?_
  rintro x w1 ⟨q, rfl, q0, q1, ha, hb, hbel⟩
  rw [Int.add_mul, Int.one_mul] at ha
  have HA := hid ha
  have HBB := hid hb
  clear ha hb
  have o1 : OwnW w1 base g N ys := owns_later HO.out hbel
  have r1 := HR.out.later (hbel.mono hbw) (Nat.le_refl _)
  have hs1 := hbel.size
  have HT := hid (takeTimes_any base g N i (e + 2) _ ys b cap' ds q w1 o1 hwy him rfl hN r1 (by omega) ⟨q0, q1⟩)
  have hbel' : Below base w w1 := hbel.mono hbw
  have hg1 := grown_of_below hbel (some g)
  clear o1 HG HO hbel
  go_wp2_with fail
  refine Calls.mono HT.out ?_
  rintro x w2 ⟨sh, us, rfl, o2, wu, ku, hv, hg2⟩
  have hg3 := grown_trans hg1 hg2
  have hb2 : Below base w1 w2 := (Below.refl _ _).grown hg2 (by omega) (fun k hk => by simp at hk; omega)
  have sb2 := segTo_bounds wu i (e + 3)
  rw [show e + 2 + 1 = e + 3 from rfl] at hv
  obtain ⟨vd, vd0, sb, hpw⟩ := HF.out
  have ha := HA.out
  have hb := HBB.out
  cases sh with
  | false =>
    rw [if_neg (by decide)] at hv
    have hlt : segTo us i (e + 3) < val ds := by omega
    have HV : Hid (segTo us i (e + 3) = segTo ys i (e + 3) - q * val ds) := by show _ = _; omega
    have HLT := hid hlt
    clear hv sb sb2 hpw vd vd0 ha hb hlt HT
    go_wp2_with fail
    go_ret
    exact ⟨q, us, rfl, q0, q1, o2, wu, ku, HV.out, HLT.out, hg3⟩
  | true =>
    rw [if_pos rfl] at hv
    have hq1 : 1 ≤ q := by
      by_cases c : q = 0
      · rw [c] at hv; simp at hv; omega
      · omega
    have hbs := hbel'.size
    have HB := hid (giveBack_any base g N i (e + 2) _ us b cap' ds w2 o2 wu him rfl hN (r1.later hb2 (Nat.le_refl _)) (by omega))
    have HV := hid hv
    clear hv o2 ha hb HT vd vd0 sb hpw sb2
    go_wp2_with fail
    refine Calls.mono HB.out ?_
    rintro x w3 ⟨c, zs, rfl, o3, wz, hc, kz, hvz, hg4⟩
    have sb2 := segTo_bounds wu i (e + 3)
    have sb3 := segTo_bounds wz i (e + 3)
    obtain ⟨vd, vd0, sb, hpw⟩ := HF.out
    rw [show e + 2 + 1 = e + 3 from rfl] at hvz
    have e1 : (q - 1) * val ds = q * val ds - val ds := by rw [Int.sub_mul, Int.one_mul]
    have hc1 : c = 1 := by
      rcases hc with hc | hc
      · rw [hc] at hvz
        have := HV.out
        have := HBB.out
        simp at hvz
        omega
      · exact hc
    rw [hc1, Int.one_mul] at hvz
    have HV2 : Hid (segTo zs i (e + 3) = segTo ys i (e + 3) - (q - 1) * val ds) := by show _ = _; rw [e1]; have := HV.out; omega
    have HLT : Hid (segTo zs i (e + 3) < val ds) := by show _ < _; have := HV.out; have := HA.out; have := HBB.out; omega
    have HO3 := hid o3
    have HKZ : Hid (∀ j, j < i ∨ i + (e + 2) + 1 ≤ j → zs[j]?.getD 0 = ys[j]?.getD 0) := fun j hj => by rw [kz j hj]; exact ku j hj
    have hg5 := grown_trans hg3 hg4
    have hqq : IntKind.u32.wrap (q - 1) = q - 1 := by rw [IntKind.wrap_u32]; omega
    clear hvz o3 kz ku e1 hg4 hg3 HB sb sb2 sb3 hpw vd vd0
    go_wp2_with fail
    go_ret
    exact ⟨q - 1, zs, rfl, by omega, by omega, HO3.out, wz, HKZ.out, HV2.out, HLT.out, hg5⟩
end Go.Proofs.YtgimgagnfkinmaaDoor

/- nat.Shift: of every list that can be read and every number the list moved up or down, or the error, in new memory. -/
namespace Go.Proofs.YtgimgagnfkinmaaDoor
open Go.RowKit
set_option linter.unusedVariables false

theorem pw_two (k : Nat) : (4294967296 : Int) ^ k = 2 ^ (32 * k) := by
  rw [Int.pow_mul]; rfl
theorem pw_two_le {K e : Nat} (h : 32 * K ≤ e) : (4294967296 : Int) ^ K ≤ 2 ^ e := by rw [pw_two]; exact two_le h
theorem bitLen_bounds (x : Int) (h0 : 1 ≤ x) (h1 : x ≤ 4294967295) : 1 ≤ Lib.bitLen x.toNat ∧ (2 : Int) ^ (Lib.bitLen x.toNat - 1) ≤ x ∧ x < 2 ^ Lib.bitLen x.toNat := by
  obtain ⟨a, b, c⟩ := Lib.bitLenAux_bounds 64 x.toNat (by omega) (by omega)
  refine ⟨a, ?_, ?_⟩
  · have := Int.ofNat_le.2 b
    rw [Int.natCast_pow, Int.toNat_of_nonneg (by omega)] at this
    exact this
  · have := Int.ofNat_lt.2 c
    rw [Int.natCast_pow, Int.toNat_of_nonneg (by omega)] at this
    exact this
theorem bits_bounds {xs : List Int} (hw : Wd xs) (hp : 0 < sz xs) : 1 ≤ bitsOf xs ∧ (2 : Int) ^ (bitsOf xs - 1) ≤ val xs ∧ val xs < 2 ^ bitsOf xs ∧ bitsOf xs ≤ 32 * sz xs ∧ 32 * (sz xs - 1) < bitsOf xs := by
  obtain ⟨m, hm⟩ : ∃ m, sz xs = m + 1 := ⟨sz xs - 1, by omega⟩
  have ht := sz_top xs hp
  have hb := hw.at m
  have h32 := bitLen_le32 (xs[m]?.getD 0) hb.2
  rw [hm, Nat.add_sub_cancel] at ht
  obtain ⟨b1, b2, b3⟩ := bitLen_bounds (xs[m]?.getD 0) (by omega) hb.2
  have e : bitsOf xs = m * 32 + Lib.bitLen (xs[m]?.getD 0).toNat := by unfold bitsOf; rw [hm, if_neg (by omega), Nat.add_sub_cancel]
  have hv : val xs = valTo xs m + xs[m]?.getD 0 * 4294967296 ^ m := by rw [val_sz, hm, valTo_succ]
  have vb := valTo_bounds hw m
  rw [e, hv]
  generalize Lib.bitLen (xs[m]?.getD 0).toNat = L at *
  have hpw := pw_pos m
  refine ⟨by omega, ?_, ?_, by omega, by omega⟩
  · have e1 : (2 : Int) ^ (m * 32 + L - 1) = 2 ^ (L - 1) * 4294967296 ^ m := by rw [pw_two, ← Int.pow_add]; congr 1; omega
    have e2 : (2 : Int) ^ (L - 1) * 4294967296 ^ m ≤ xs[m]?.getD 0 * 4294967296 ^ m := Int.mul_le_mul_of_nonneg_right b2 (Int.le_of_lt hpw)
    rw [e1]; omega
  · have e1 : (2 : Int) ^ (m * 32 + L) = 2 ^ L * 4294967296 ^ m := by rw [pw_two, ← Int.pow_add]; congr 1; omega
    have e2 : (xs[m]?.getD 0 + 1) * 4294967296 ^ m ≤ (2 : Int) ^ L * 4294967296 ^ m := Int.mul_le_mul_of_nonneg_right (by omega) (Int.le_of_lt hpw)
    rw [Int.add_mul] at e2
    rw [e1]; omega

set_option maxHeartbeats 1600000 in
set_option maxRecDepth 100000 in
theorem shift_up (v : Value) (xs : List Int) (n : Nat) (w : World) (h : Sl w v xs) (hl : xs.length ≤ 8192) (hx : Trimmed xs) (hn : n ≤ 262144) :
    Calls Tryd.prog 7 #[v, .int .i64 n] w (Told w 0 (val xs * 2 ^ n)) := by
  have HC := hid (check_sl v xs w h (by omega))
  rw [chk_good hl hx] at HC
  have wx := h.wd
  by_cases h0 : xs.length = 0
  · have hxe : xs = [] := List.eq_nil_of_length_eq_zero h0
    subst hxe
    have HT : Hid (Tells 0 (val [] * 2 ^ n) [] 0) := Tells.ok Wd.nil Trimmed.nil (by rw [val_nil]; simp) (by rw [val_nil]; have := pw_pos 8192; unfold wide; omega)
    obtain ⟨a, cap, rfl, hr⟩ := h
    clear h0 hr
    go_enter Tryd.func7, Tryd.ntmps7
    go_wp2_with fail
    refine Calls.mono HC.out ?_
    rintro e w' ⟨rfl, rfl⟩
    go_wp2_with fail
    go_ret2
    exact ⟨_, [], _, rfl, World.ownsRow_nil _ _ _ _, HT.out, Below.refl _ _⟩
  · obtain ⟨b1, b2, b3, b4, b5⟩ := bits_bounds wx (by rw [hx]; omega)
    rw [hx] at b4 b5
    have HB := hid (bits_sl v xs w h (by omega))
    obtain ⟨b, hb⟩ : ∃ b, bitsOf xs = b := ⟨_, rfl⟩
    rw [hb] at HB b1 b2 b3 b4 b5
    clear hb
    have hz : ((xs.length : Int) == 0) = false := by simp; exact fun e => h0 (by simp [e])
    have n1 : ¬ (b : Int) + (n : Int) ≤ 0 := by omega
    by_cases hlong : 262144 < b + n
    · have HT : Hid (Tells 0 (val xs * 2 ^ n) [] 3) := Tells.tooLong (by
        have e1 : (2 : Int) ^ (b - 1) * 2 ^ n ≤ val xs * 2 ^ n := Int.mul_le_mul_of_nonneg_right b2 (Int.le_of_lt (two_pos n))
        rw [← Int.pow_add] at e1
        have e2 : (4294967296 : Int) ^ 8192 ≤ 2 ^ (b - 1 + n) := pw_two_le (K := 8192) (by omega)
        unfold wide
        omega)
      have hli : (262144 : Int) < (b : Int) + (n : Int) := by omega
      obtain ⟨a, cap, rfl, hr⟩ := h
      clear b2 b3 hr h0
      go_enter Tryd.func7, Tryd.ntmps7
      go_wp2_with fail
      refine Calls.mono HC.out ?_
      rintro e w' ⟨rfl, rfl⟩
      go_wp2_with fail
      refine Calls.mono HB.out ?_
      rintro e w' ⟨rfl, rfl⟩
      go_wp2_with fail
      refine Calls.mono HB.out ?_
      rintro e w' ⟨rfl, rfl⟩
      go_wp2_with fail
      go_ret2
      exact ⟨_, [], _, rfl, World.ownsRow_nil _ _ _ _, HT.out, Below.refl _ _⟩
    · have hli : ¬ (262144 : Int) < (b : Int) + (n : Int) := by omega
      obtain ⟨a, cap, rfl, hr⟩ := h
      obtain ⟨W, hW⟩ : ∃ W : Nat, (n : Int) / 32 = (W : Int) := ⟨n / 32, by omega⟩
      obtain ⟨t, ht⟩ : ∃ t : Nat, (n : Int) % 32 = (t : Int) := ⟨n % 32, by omega⟩
      have hwt : n = t + 32 * W := by omega
      have HR := hid (raise_any a xs.length cap xs W t w hr (by omega) (by omega) (by omega) (by omega))
      have HE : Hid (∀ y : Int, y = val xs * 2 ^ t * 4294967296 ^ W → y = val xs * 2 ^ n) := fun y hy => by
        rw [hy, pw_two, Int.mul_assoc, ← Int.pow_add, ← hwt]
      clear b2 b3 hr h0 hwt
      go_enter Tryd.func7, Tryd.ntmps7
      go_wp2_with fail
      refine Calls.mono HC.out ?_
      rintro e w' ⟨rfl, rfl⟩
      go_wp2_with fail
      refine Calls.mono HB.out ?_
      rintro e w' ⟨rfl, rfl⟩
      go_wp2_with fail
      refine Calls.mono HB.out ?_
      rintro e w' ⟨rfl, rfl⟩
      go_wp2_with fail
      refine Calls.mono HR.out ?_
      rintro e w1 ⟨ys, rfl, oy, wy, hvy, hb1⟩
      have HTT := hid (told_any _ _ _ ys w1 oy wy (by omega))
      rw [HE.out _ hvy] at HTT
      clear oy hvy
      go_wp2_with fail
      refine Calls.mono HTT.out ?_
      rintro e w2 ⟨v2, zs, code, rfl, ho2, ht2, rfl⟩
      go_wp2_with fail
      go_ret2
      exact ⟨_, zs, code, rfl, ho2, ht2, hb1⟩

set_option maxHeartbeats 1600000 in
set_option maxRecDepth 100000 in
theorem shift_down (v : Value) (xs : List Int) (m : Nat) (w : World) (h : Sl w v xs) (hl : xs.length ≤ 8192) (hx : Trimmed xs) (hm1 : 1 ≤ m) (hm : m ≤ 262144) :
    Calls Tryd.prog 7 #[v, .int .i64 (-(m : Int))] w (Told w 0 (val xs / 2 ^ m)) := by
  have HC := hid (check_sl v xs w h (by omega))
  rw [chk_good hl hx] at HC
  have wx := h.wd
  by_cases h0 : xs.length = 0
  · have hxe : xs = [] := List.eq_nil_of_length_eq_zero h0
    subst hxe
    have HT : Hid (Tells 0 (val [] / 2 ^ m) [] 0) := Tells.ok Wd.nil Trimmed.nil (by rw [val_nil]; simp) (by rw [val_nil, Int.zero_ediv]; exact pw_pos 8192)
    obtain ⟨a, cap, rfl, hr⟩ := h
    clear h0 hr
    go_enter Tryd.func7, Tryd.ntmps7
    go_wp2_with fail
    refine Calls.mono HC.out ?_
    rintro e w' ⟨rfl, rfl⟩
    go_wp2_with fail
    go_ret2
    exact ⟨_, [], _, rfl, World.ownsRow_nil _ _ _ _, HT.out, Below.refl _ _⟩
  · obtain ⟨b1, b2, b3, b4, b5⟩ := bits_bounds wx (by rw [hx]; omega)
    rw [hx] at b4 b5
    have HB := hid (bits_sl v xs w h (by omega))
    obtain ⟨b, hb⟩ : ∃ b, bitsOf xs = b := ⟨_, rfl⟩
    rw [hb] at HB b1 b2 b3 b4 b5
    clear hb
    have hz : ((xs.length : Int) == 0) = false := by simp; exact fun e => h0 (by simp [e])
    have vn := val_nonneg wx
    by_cases hgone : b ≤ m
    · have HT : Hid (Tells 0 (val xs / 2 ^ m) [] 0) := by
        have e : val xs / 2 ^ m = 0 := Int.ediv_eq_zero_of_lt vn (by have := two_le hgone; omega)
        rw [e]
        exact Tells.ok Wd.nil Trimmed.nil val_nil (by have := pw_pos 8192; unfold wide; omega)
      have hli : (b : Int) + -(m : Int) ≤ 0 := by omega
      obtain ⟨a, cap, rfl, hr⟩ := h
      clear b2 b3 hr h0
      go_enter Tryd.func7, Tryd.ntmps7
      go_wp2_with fail
      refine Calls.mono HC.out ?_
      rintro e w' ⟨rfl, rfl⟩
      go_wp2_with fail
      refine Calls.mono HB.out ?_
      rintro e w' ⟨rfl, rfl⟩
      go_wp2_with fail
      go_ret2
      exact ⟨_, [], _, rfl, World.ownsRow_nil _ _ _ _, HT.out, Below.refl _ _⟩
    · have hli : ¬ (b : Int) + -(m : Int) ≤ 0 := by omega
      have hlj : ¬ (262144 : Int) < (b : Int) + -(m : Int) := by omega
      obtain ⟨a, cap, rfl, hr⟩ := h
      obtain ⟨W, hW⟩ : ∃ W : Nat, (m : Int) / 32 = (W : Int) := ⟨m / 32, by omega⟩
      obtain ⟨t, ht⟩ : ∃ t : Nat, (m : Int) % 32 = (t : Int) := ⟨m % 32, by omega⟩
      have hwt : m = t + 32 * W := by omega
      have HR := hid (lower_any a xs.length cap xs W t w hr (by omega) (by omega) (by omega))
      have HE : Hid (∀ y : Int, y = val xs / 4294967296 ^ W / 2 ^ t → y = val xs / 2 ^ m) := fun y hy => by
        rw [hy, pw_two, Int.ediv_ediv_of_nonneg (Int.le_of_lt (two_pos _)), ← Int.pow_add, hwt, Nat.add_comm]
      clear b2 b3 hr h0 hwt
      go_enter Tryd.func7, Tryd.ntmps7
      go_wp2_with fail
      refine Calls.mono HC.out ?_
      rintro e w' ⟨rfl, rfl⟩
      go_wp2_with fail
      refine Calls.mono HB.out ?_
      rintro e w' ⟨rfl, rfl⟩
      go_wp2_with fail
      refine Calls.mono HB.out ?_
      rintro e w' ⟨rfl, rfl⟩
      go_wp2_with fail
      refine Calls.mono HR.out ?_
      rintro e w1 ⟨ys, rfl, oy, wy, hvy, hb1⟩
      have HTT := hid (told_any _ _ _ ys w1 oy wy (by omega))
      rw [HE.out _ hvy] at HTT
      clear oy hvy
      go_wp2_with fail
      refine Calls.mono HTT.out ?_
      rintro e w2 ⟨v2, zs, code, rfl, ho2, ht2, rfl⟩
      go_wp2_with fail
      go_ret2
      exact ⟨_, zs, code, rfl, ho2, ht2, hb1⟩
end Go.Proofs.YtgimgagnfkinmaaDoor

/- nat.divideLong: quotient and rest by two words or more, in new memory. -/
namespace Go.Proofs.YtgimgagnfkinmaaDoor
open Go.RowKit
set_option linter.unusedVariables false

theorem lead_any (x : Int) (w : World) (h0 : 1 ≤ x) (h1 : x ≤ 4294967295) :
    Calls Tryd.prog 110 #[.int .u32 x] w fun e w' => e = .returned (.int .i64 ((32 - Lib.bitLen x.toNat : Nat) : Int)) ∧ w = w' := by
  have h2 := bitLen_le32 x h1
  have HL := hid (len32_any x w (by omega) h1)
  obtain ⟨L, hL⟩ : ∃ L, Lib.bitLen x.toNat = L := ⟨_, rfl⟩
  rw [hL] at HL h2 ⊢
  clear hL
  go_enter Tryd.func110, Tryd.ntmps110
  go_wp2_with fail
  refine Calls.mono HL.out ?_
  rintro e w' ⟨rfl, rfl⟩
  go_wp2_with fail
  go_ret
  exact ⟨ret_int (by omega), rfl⟩

theorem raise_zero (a : Option Addr) (n cap : Nat) (xs : List Int) (t : Nat) (w : World) (h : Reads w w.heap.size a n cap xs) (hn : n ≤ 274877906944) (hn0 : 0 < n) (ht : t ≤ 31) :
    Calls Tryd.prog 30 #[.slice a n cap, .int .i64 0, .int .i64 t] w fun e w' => ∃ (ys : List Int), e = .returned (.slice (some ⟨w.heap.size, 0, none⟩) (n + 1) (n + 1)) ∧ OwnW w' w.heap.size w.heap.size (n + 1) ys ∧ Wd ys ∧ val ys = val xs * 2 ^ t ∧ Below w.heap.size w w' := by
  refine Calls.mono (raise_any a n cap xs 0 t w h hn hn0 (by omega) ht) ?_
  rintro e w' ⟨ys, rfl, oy, wy, hv, hb⟩
  exact ⟨ys, rfl, oy, wy, by rw [hv, Int.pow_zero, Int.mul_one], hb⟩
theorem lower_zero (a : Option Addr) (n cap : Nat) (xs : List Int) (t : Nat) (w : World) (h : Reads w w.heap.size a n cap xs) (hn : n ≤ 274877906944) (hn0 : 0 < n) (ht : t ≤ 31) :
    Calls Tryd.prog 29 #[.slice a n cap, .int .i64 0, .int .i64 t] w fun e w' => ∃ (ys : List Int), e = .returned (.slice (some ⟨w.heap.size, 0, none⟩) n n) ∧ OwnW w' w.heap.size w.heap.size n ys ∧ Wd ys ∧ val ys = val xs / 2 ^ t ∧ Below w.heap.size w w' := by
  refine Calls.mono (lower_any a n cap xs 0 t w h hn hn0 ht) ?_
  rintro e w' ⟨ys, rfl, oy, wy, hv, hb⟩
  exact ⟨ys, rfl, oy, wy, by rw [hv, Int.pow_zero, Int.ediv_one], hb⟩

/-- The divisor, moved up until its highest bit is set. -/
theorem normal {ys : List Int} (hw : Wd ys) (ht : Trimmed ys) (e : Nat) (hl : ys.length = e + 2) : 1 ≤ ys[e + 1]?.getD 0 ∧ ys[e + 1]?.getD 0 ≤ 4294967295 ∧ 32 - Lib.bitLen (ys[e + 1]?.getD 0).toNat ≤ 31 ∧
    val ys * 2 ^ (32 - Lib.bitLen (ys[e + 1]?.getD 0).toNat) < 4294967296 ^ (e + 2) ∧ (4294967296 : Int) ^ (e + 2) ≤ 2 * (val ys * 2 ^ (32 - Lib.bitLen (ys[e + 1]?.getD 0).toNat)) := by
  have hs : sz ys = e + 2 := by rw [ht]; exact hl
  have tp := sz_top ys (by omega)
  rw [hs, show e + 2 - 1 = e + 1 by omega] at tp
  have b := hw.at (e + 1)
  obtain ⟨l1, l2, l3⟩ := bitLen_bounds (ys[e + 1]?.getD 0) (by omega) b.2
  have l4 := bitLen_le32 (ys[e + 1]?.getD 0) b.2
  obtain ⟨b1, b2, b3, b4, b5⟩ := bits_bounds hw (by omega)
  have hb : bitsOf ys = (e + 1) * 32 + Lib.bitLen (ys[e + 1]?.getD 0).toNat := by unfold bitsOf; rw [hs, if_neg (by omega), show e + 2 - 1 = e + 1 by omega]
  rw [hb] at b1 b2 b3
  generalize Lib.bitLen (ys[e + 1]?.getD 0).toNat = L at *
  have p := two_pos (32 - L)
  refine ⟨by omega, b.2, by omega, ?_, ?_⟩
  · have e1 : val ys * 2 ^ (32 - L) < 2 ^ ((e + 1) * 32 + L) * 2 ^ (32 - L) := Int.mul_lt_mul_of_pos_right b3 p
    rw [← Int.pow_add] at e1
    rw [pw_two, show 32 * (e + 2) = (e + 1) * 32 + L + (32 - L) by omega]
    exact e1
  · have e1 : (2 : Int) ^ ((e + 1) * 32 + L - 1) * 2 ^ (32 - L) ≤ val ys * 2 ^ (32 - L) := Int.mul_le_mul_of_nonneg_right b2 (Int.le_of_lt p)
    rw [← Int.pow_add] at e1
    have e2 : (2 : Int) ^ (32 * (e + 2)) = 2 * 2 ^ ((e + 1) * 32 + L - 1 + (32 - L)) := by
      rw [show 32 * (e + 2) = ((e + 1) * 32 + L - 1 + (32 - L)) + 1 by omega, Int.pow_succ, Int.mul_comm]
    rw [pw_two, e2]
    omega
theorem top_nought {ds : List Int} (hw : Wd ds) (m : Nat) (hl : ds.length = m + 1) (h : val ds < 4294967296 ^ m) : val (ds.take m) = val ds := by
  have e : val ds = valTo ds m + ds[m]?.getD 0 * 4294967296 ^ m := by unfold val; rw [hl, valTo_succ]
  have b := (valTo_bounds hw m).1
  have hz : ds[m]?.getD 0 = 0 := by
    have hb := hw.at m
    by_cases c : ds[m]?.getD 0 = 0
    · exact c
    · have : 1 * (4294967296 : Int) ^ m ≤ ds[m]?.getD 0 * 4294967296 ^ m := Int.mul_le_mul_of_nonneg_right (by omega) (Int.le_of_lt (pw_pos m))
      omega
  rw [e, hz]
  unfold val
  rw [List.length_take, hl, Nat.min_eq_left (by omega), valTo_congr (ds.take m) ds m (fun j hj => by rw [List.getElem?_take, if_pos hj])]
  omega
theorem top_one {ds : List Int} (hw : Wd ds) (e : Nat) (hl : ds.length = e + 2) (h : (4294967296 : Int) ^ (e + 2) ≤ 2 * val ds) : 1 ≤ ds[e + 1]?.getD 0 := by
  have hb := hw.at (e + 1)
  by_cases c : ds[e + 1]?.getD 0 = 0
  · have e1 : val ds = valTo ds (e + 1) + ds[e + 1]?.getD 0 * 4294967296 ^ (e + 1) := by unfold val; rw [hl, valTo_succ]
    rw [c] at e1
    have b := (valTo_bounds hw (e + 1)).2
    have := pw_succ (e + 1)
    have hp := pw_pos (e + 1)
    rw [show e + 2 = e + 1 + 1 from rfl] at h
    omega
  · omega
/-- The number, moved up by as many bits, is below the divisor moved up by all words that the quotient may have. -/
theorem long_start (A D : Int) (n m K : Nat) (X : Int) (t : Nat) (ht : t ≤ 31) (hn : m + K = n + 1) (hX : X < 4294967296 ^ n) (hX0 : 0 ≤ X) (hA : A = X * 2 ^ t) (hD : (4294967296 : Int) ^ m ≤ 2 * D) : A < D * 4294967296 ^ K := by
  have p := two_pos t
  have e1 : X * 2 ^ t < 4294967296 ^ n * 2 ^ t := Int.mul_lt_mul_of_pos_right hX p
  have e2 : (4294967296 : Int) ^ n * 2 ^ t ≤ 4294967296 ^ n * 2 ^ 31 := Int.mul_le_mul_of_nonneg_left (two_le ht) (Int.le_of_lt (pw_pos n))
  have e3 : (4294967296 : Int) ^ m * 4294967296 ^ K ≤ 2 * D * 4294967296 ^ K := Int.mul_le_mul_of_nonneg_right hD (Int.le_of_lt (pw_pos K))
  rw [← Int.pow_add, hn, pw_succ, Int.mul_assoc] at e3
  rw [hA]
  omega
/-- One word of the quotient: what is left, and what was taken. -/
theorem long_step (us vs qs : List Int) (m K k : Nat) (A D q : Int) (hk : k < K) (hlq : qs.length = K) (wv : Wd vs) (hDm : D < 4294967296 ^ m)
    (hA : A = valTo us (k + 1 + m) + segTo qs (k + 1) (K - (k + 1)) * D * 4294967296 ^ (k + 1))
    (hlow : ∀ j, j < k → vs[j]?.getD 0 = us[j]?.getD 0) (hseg : segTo vs k (m + 1) = segTo us k (m + 1) - q * D) (hlt : segTo vs k (m + 1) < D) :
    A = valTo vs (k + m) + segTo (qs.set k q) k (K - k) * D * 4294967296 ^ k ∧ segTo vs k m < D := by
  have hz : vs[k + m]?.getD 0 = 0 := by
    have hb := wv.at (k + m)
    have sb := segTo_nonneg wv k m
    by_cases c : vs[k + m]?.getD 0 = 0
    · exact c
    · have : 1 * (4294967296 : Int) ^ m ≤ vs[k + m]?.getD 0 * 4294967296 ^ m := Int.mul_le_mul_of_nonneg_right (by omega) (Int.le_of_lt (pw_pos m))
      rw [segTo_succ] at hlt
      omega
  have hs : segTo vs k (m + 1) = segTo vs k m := by rw [segTo_succ, hz]; omega
  refine ⟨?_, by rw [← hs]; exact hlt⟩
  obtain ⟨d, hd⟩ : ∃ d, K - k = d + 1 := ⟨K - k - 1, by omega⟩
  rw [show k + 1 + m = k + (m + 1) by omega, valTo_seg us k (m + 1), show K - (k + 1) = d by omega, pw_succ k] at hA
  rw [valTo_seg vs k m, ← hs, hseg, hd, segTo_cons (qs.set k q) d k, List.getElem?_set, if_pos rfl, if_pos (by omega), segTo_congr (qs.set k q) qs (k + 1) d (fun j hj => by rw [List.getElem?_set, if_neg (by omega)]),
    valTo_congr vs us k hlow, hA]
  show _ = valTo us k + (segTo us k (m + 1) - q * D) * 4294967296 ^ k + (q + _) * D * 4294967296 ^ k
  rw [Int.sub_mul, Int.add_mul, Int.add_mul, Int.mul_comm (4294967296 ^ k) 4294967296, ← Int.mul_assoc, Int.mul_assoc (segTo qs (k + 1) d) D 4294967296, Int.mul_comm D 4294967296, ← Int.mul_assoc]
  omega
end Go.Proofs.YtgimgagnfkinmaaDoor

/- nat.divideLong: quotient and rest by two words or more, in new memory. -/
namespace Go.Proofs.YtgimgagnfkinmaaDoor
open Go.RowKit
set_option linter.unusedVariables false

set_option maxHeartbeats 800000 in
set_option maxRecDepth 100000 in
theorem divideLong_any (v u : Value) (xs ys : List Int) (e : Nat) (w : World) (h : Sl w v xs) (g : Sl w u ys) (hn : xs.length ≤ 8192) (hx : Trimmed xs) (hy : Trimmed ys) (hl : ys.length = e + 2) (hge : ys.length ≤ xs.length) :
    Calls Tryd.prog 109 #[v, u] w (Divided w xs ys) := by
  obtain ⟨i0, hi, hz0, hz1, hz2⟩ := info_parts Tryd.infoW
  have wx := h.wd
  have wy := g.wd
  obtain ⟨a, cap, rfl, hr⟩ := h
  obtain ⟨b, cap', rfl, gr⟩ := g
  obtain ⟨n, hnn⟩ : ∃ n, xs.length = n := ⟨_, rfl⟩
  rw [hl] at gr hge ⊢
  rw [hnn] at hr hn hge ⊢
  obtain ⟨K, hK⟩ : ∃ K, e + 2 + K = n + 1 := ⟨n + 1 - (e + 2), by omega⟩
  obtain ⟨s1, s2, s3, s4, s5⟩ := normal wy hy e hl
  obtain ⟨t, ht⟩ : ∃ t, 32 - Lib.bitLen (ys[e + 1]?.getD 0).toNat = t := ⟨_, rfl⟩
  have HLD := hid (lead_any (ys[e + 1]?.getD 0) w s1 s2)
  rw [ht] at s3 s4 s5 HLD
  have HR1 := hid (raise_zero b (e + 2) cap' ys t w gr (by omega) (by omega) s3)
  rcases gr.2.2.1 with h0 | ⟨b2, o2, rfl, hb2, hc2⟩
  · omega
  have hc0 := hc2 (e + 1) (by omega)
  have HX := hid hr
  have HN := hid (And.intro hnn hl)
  have HS4 := hid s4
  have HS5 := hid s5
  generalize ys[e + 1]?.getD 0 = top at *
  clear hc2 gr hr hnn hl s4 s5 ht
  go_enter Tryd.func109, Tryd.ntmps109
  go_wp2_with fail
  refine Calls.mono HLD.out ?_
  rintro x w' ⟨rfl, rfl⟩
  go_wp2_with fail
  refine Calls.mono HR1.out ?_
  rintro x w1 ⟨dF, rfl, oF, wF, hvF, hb1⟩
  have hlF := oF.len
  have hvd : val (dF.take (e + 2)) = val ys * 2 ^ t := by rw [top_nought wF (e + 2) (by omega) (by rw [hvF]; exact HS4.out), hvF]
  have oD : OwnC w1 w.heap.size w.heap.size (e + 2) (e + 2 + 1) (dF.take (e + 2)) := OwnC.take (cap := e + 2 + 1) oF (e + 2) (by omega)
  have wD : Wd (dF.take (e + 2)) := wF.take _
  have lD : (dF.take (e + 2)).length = e + 2 := by rw [List.length_take]; omega
  generalize dF.take (e + 2) = ds at *
  have hg1 := oF.base
  have hs1 := hb1.size
  have hrD : Reads w1 w1.heap.size (some ⟨w.heap.size, 0, none⟩) (e + 2) (e + 2 + 1) ds := by
    obtain ⟨a, cap, hv, hr⟩ := Reads.own oD wD
    simp only [Value.slice.injEq] at hv
    obtain ⟨rfl, _, rfl⟩ := hv
    exact hr
  have HR2 := hid (raise_zero a n cap xs t w1 (HX.out.later hb1 hs1) (by omega) (by omega) s3)
  have HVD := hid hvd
  have HRD := hid hrD
  have HLDS := hid lD
  have HB1 := hid hb1
  clear oF wF hvF hlF hvd oD hrD lD hb1 HLD HR1 HX
  go_wp2_with fail
  refine Calls.mono HR2.out ?_
  rintro x w2 ⟨lf, rfl, oL, wL, hvL, hb2'⟩
  have hs2 := hb2'.size
  have hgL := oL.base
  have HVL := hid hvL
  have HOL := hid oL
  have HB2 := hid hb2'
  have hKi : ((n : Int) - ((e : Int) + 2) + 1) = (K : Int) := by omega
  clear hvL oL hb2' HR2
  go_wp2_with (at_make; refine wpList_make_full _ rfl _ _ 22 rfl w2.heap.size 47 i0 (.int .u32 0) 1 Tryd.underlying22 hi hz0 hz1 _ _ _ _ K rfl rfl (by omega) (by omega) (by rw [hz2]; omega) (by unfold maxLen; omega) (Nat.le_refl _) ?_)
  intro w3 hown hgrow
  have hbel3 : Below w2.heap.size w2 w3 := (Below.refl _ _).grown hgrow (Nat.le_refl _) (fun k hk => by simp at hk)
  have hs3 := hbel3.size
  have HOQ := hid (OwnW.made hown)
  have HB3 := hid hbel3
  have hgQ := (OwnW.made hown).base
  clear hown hgrow hbel3
  go_wp2_with fail
  go_loopw [9] (fun z wr => ∃ (k : Nat) (us qs : List Int), k ≤ K ∧ z = .int .i64 ((k : Int) - 1) ∧ Wd us ∧ Wd qs ∧ Hid (val lf = valTo us (k + (e + 2)) + segTo qs k (K - k) * val ds * 4294967296 ^ k) ∧ Hid (segTo us k (e + 2) < val ds) ∧
    OwnW wr w1.heap.size w1.heap.size (n + 1) us ∧ OwnW wr w2.heap.size w2.heap.size K qs ∧ Below w1.heap.size w1 wr) (fun z _ => (intOf z + 1).toNat)
  case atStart =>
    have hll := HOL.out.len
    have hKm : K + (e + 2) = n + 1 := by omega
    have hst := long_start (val lf) (val ds) n (e + 2) K (val xs) t s3 hK (by have := val_lt wx; rw [HN.out.1] at this; exact this) (val_nonneg wx) HVL.out (by rw [HVD.out]; exact HS5.out)
    refine ⟨K, lf, List.replicate K 0, Nat.le_refl _, rfl, wL, Wd.replicate _, ?_, ?_, owns_later HOL.out HB3.out, HOQ.out, HB2.out.trans (HB3.out.mono hs2)⟩
    · show _ = _
      rw [hKm, valTo_stable lf _ (by omega), Nat.sub_self]
      simp [segTo]
    · show _ < _
      have e1 : val lf = valTo lf K + segTo lf K (e + 2) * 4294967296 ^ K := by rw [← valTo_seg, hKm, valTo_stable lf _ (by omega)]
      have b := (valTo_bounds wL K).1
      exact Int.lt_of_mul_lt_mul_right (show segTo lf K (e + 2) * 4294967296 ^ K < val ds * 4294967296 ^ K by omega) (Int.le_of_lt (pw_pos K))
  case round =>
    obtain ⟨k, us, qs, hk, rfl, wu, wq, HV, HS, oU, oQ, hb⟩ := hrel
    have hbs := hb.size
    have hqb := oQ.base
    rcases k with _ | k
    · have oT : OwnC wr w1.heap.size w1.heap.size (e + 2) (n + 1) (us.take (e + 2)) := OwnC.take (cap := n + 1) oU (e + 2) (by omega)
      have hrT : Reads wr wr.heap.size (some ⟨w1.heap.size, 0, none⟩) (e + 2) (n + 1) (us.take (e + 2)) := by
        obtain ⟨a, cap, hv, hr⟩ := Reads.own oT (wu.take _)
        simp only [Value.slice.injEq] at hv
        obtain ⟨rfl, _, rfl⟩ := hv
        exact hr
      have hlu := oU.len
      have hlq := oQ.len
      have hvR : val (us.take (e + 2)) = valTo us (e + 2) := by
        unfold val
        rw [List.length_take, Nat.min_eq_left (by omega), valTo_congr (us.take (e + 2)) us _ (fun j hj => by rw [List.getElem?_take, if_pos hj])]
      have HF : Hid (val xs = val qs * val ys + val (us.take (e + 2)) / 2 ^ t ∧ val (us.take (e + 2)) / 2 ^ t < val ys) := by
        have e1 := HV.out
        have e2 := HS.out
        rw [segTo_zero] at e2
        rw [segTo_zero, Nat.zero_add, Nat.sub_zero, valTo_stable qs K (by omega), Int.pow_zero, Int.mul_one, HVL.out, HVD.out, ← hvR, ← Int.mul_assoc] at e1
        rw [← hvR, HVD.out] at e2
        have hp := two_pos t
        have e3 : val (us.take (e + 2)) = (val xs - val qs * val ys) * 2 ^ t := by rw [Int.sub_mul]; omega
        have e4 : val (us.take (e + 2)) / 2 ^ t = val xs - val qs * val ys := by rw [e3]; exact Int.mul_ediv_cancel _ (by omega)
        refine ⟨by rw [e4]; omega, Int.ediv_lt_of_lt_mul hp e2⟩
      have HLW := hid (lower_zero (some ⟨w1.heap.size, 0, none⟩) (e + 2) (n + 1) (us.take (e + 2)) t wr hrT (by omega) (by omega) s3)
      have HOQ' := hid oQ
      have HBW : Hid (Below w.heap.size w wr) := HB1.out.trans (hb.mono hs1)
      clear oT hrT hvR hlu HV HS oU oQ hb
      go_wp2_with fail
      refine Calls.mono HLW.out ?_
      rintro x w5 ⟨rs, rfl, oR, wR, hvR, hb5⟩
      have hs5 := hb5.size
      have oQ5 : OwnC w5 w2.heap.size w2.heap.size K K qs := owns_later HOQ'.out hb5
      have sq := sz_le qs
      rw [hlq] at sq
      have hlr := oR.len
      have sr := sz_le rs
      rw [hlr] at sr
      have hrQ : Reads w5.drew w5.heap.size (some ⟨w2.heap.size, 0, none⟩) K K qs := by
        obtain ⟨a, cap, hv, hr⟩ := Reads.own oQ5 wq
        simp only [Value.slice.injEq] at hv
        obtain ⟨rfl, _, rfl⟩ := hv
        exact hr
      have hrR : Reads w5.drew w5.heap.size (some ⟨wr.heap.size, 0, none⟩) (e + 2) (e + 2) rs := by
        obtain ⟨a, cap, hv, hr⟩ := Reads.own oR wR
        simp only [Value.slice.injEq] at hv
        obtain ⟨rfl, _, rfl⟩ := hv
        exact hr
      have HZ1 := hid (size_any _ _ _ qs _ w5.drew hrQ (by omega))
      have HZ2 := hid (size_any _ _ _ rs _ w5.drew hrR (by omega))
      have hbR := oR.base
      have HFIN : Hid (Divided w xs ys (.returned (.tuple #[.slice (some ⟨w2.heap.size, 0, none⟩) (sz qs) K, .slice (some ⟨wr.heap.size, 0, none⟩) (sz rs) (e + 2)])) w5.drew) := by
        have hbd : Below w5.heap.size w5 w5.drew := (Below.refl _ w5).drew
        refine ⟨_, _, trimmed qs, trimmed rs, wr.heap.size, rfl, ?_, ?_, ?_, ?_, by omega, by show wr.heap.size ≤ w5.heap.size; omega, wq.trimmed, wR.trimmed, Trimmed.trimmed _, Trimmed.trimmed _, ?_, ?_, HBW.out.trans ((hb5.mono (by omega)).trans (hbd.mono (by omega)))⟩
        · rw [length_trimmed]
          have o1 : w5.ownsRow w2.heap.size 47 1 (.slice (some ⟨w2.heap.size, 0, none⟩) (sz qs) K) (sz qs) ((trimmed qs).map (Value.int .u32)) := OwnC.take oQ5 (sz qs) sq
          exact owns_base (owns_later o1 hbd) (by omega)
        · rw [length_trimmed]
          have o1 : w5.ownsRow wr.heap.size 47 1 (.slice (some ⟨wr.heap.size, 0, none⟩) (sz rs) (e + 2)) (sz rs) ((trimmed rs).map (Value.int .u32)) := OwnC.take (cap := e + 2) oR (sz rs) sr
          exact owns_base (owns_later o1 hbd) (by omega)
        · intro g hg; simp [Value.ownBlock] at hg; omega
        · intro g hg; simp [Value.ownBlock] at hg; show _ ∧ g < w5.heap.size; omega
        · rw [val_trimmed, val_trimmed, hvR]; exact HF.out.1
        · rw [val_trimmed, hvR]; exact HF.out.2
      clear oR oQ5 hrQ hrR hvR hb5 hlr hlq HF HLW
      go_wp2_with fail
      go_region_with (first | (go_at_call 58; with_reducible refine Calls.mono HZ1.out ?_; rintro e w' ⟨rfl, rfl⟩) | (go_at_call 58; with_reducible refine Calls.mono HZ2.out ?_; rintro e w' ⟨rfl, rfl⟩))
      all_goals
        go_wp2
        go_ret2
        exact HFIN.out
    · have ek : (((k + 1 : Nat) : Int) - 1) = (k : Int) := by omega
      rw [ek]
      clear ek
      have bu := wu.at k
      have hseg : segTo us k (e + 3) = us[k]?.getD 0 + segTo us (k + 1) (e + 2) * 4294967296 := segTo_cons us (e + 2) k
      have hLD : segTo us k (e + 3) < 4294967296 * val ds := by rw [hseg]; have := HS.out; omega
      have HNW := hid (nextWord_any w1.heap.size w1.heap.size (n + 1) k e _ us (some ⟨w.heap.size, 0, none⟩) (e + 2 + 1) ds wr oU wu (by omega) rfl (by omega) (HRD.out.later hb (Nat.le_refl _)) (top_one wD e HLDS.out (by rw [HVD.out]; exact HS5.out)) hLD)
      have HOQ' := hid oQ
      have HB' := hid hb
      have hne : ¬ n + 1 = k := by omega
      clear hLD hseg bu oU oQ hb
      go_wp2_with fail
      rw [show k + (e + 2) + 1 - k = e + 2 + 1 by omega]
      refine Calls.mono HNW.out ?_
      rintro x w6 ⟨q, vs, rfl, q0, q1, oV, wv, kv, hsv, hlv, hg6⟩
      have oQ6 : OwnW w6 w2.heap.size w2.heap.size K qs := World.ownsRow.kept HOQ'.out hg6 (by right; intro e; simp [Value.ownBlock] at e; omega)
      have y1 := oQ6.cell k (by omega)
      have f1 := oQ6.free k
      have hlq := oQ6.len
      have hsv' : segTo vs k (e + 2 + 1) = segTo us k (e + 2 + 1) - q * val ds := hsv
      have hlv' : segTo vs k (e + 2 + 1) < val ds := hlv
      have hst := long_step us vs qs (e + 2) K k (val lf) (val ds) q (by omega) hlq wv (by rw [HVD.out]; exact HS4.out) HV.out (fun j hj => kv j (.inl hj)) hsv' hlv'
      have HST1 := hid hst.1
      have HST2 := hid hst.2
      have hos := OwnC.set (cap := K) oQ6 k q
      have HOQ2 : Hid (OwnW (w6.setCell ⟨w2.heap.size, k, none⟩ (.int .u32 q)) w2.heap.size w2.heap.size K (qs.set k q)) := hos.1
      have HOU : Hid (OwnW (w6.setCell ⟨w2.heap.size, k, none⟩ (.int .u32 q)) w1.heap.size w1.heap.size (n + 1) vs) := World.ownsRow.kept oV hos.2 (by right; intro e; simp [Value.ownBlock] at e; omega)
      have hb6 : Below w1.heap.size wr w6 := (Below.refl _ _).grown hg6 hbs (fun k hk => by simp at hk; omega)
      have HB6 : Hid (Below w1.heap.size w1 (w6.setCell ⟨w2.heap.size, k, none⟩ (.int .u32 q))) := (HB'.out.trans hb6).setCell (p := ⟨w2.heap.size, k, none⟩) hs2 (.int .u32 q)
      clear oQ6 hlq hsv hlv hsv' hlv' hst hos hb6 hg6 oV kv HNW HOQ' HB' HV HS
      go_wp2_with fail
      go_roundw
      case rel => exact ⟨k, vs, qs.set k q, by omega, by go_num, wv, wq.set _ ⟨q0, q1⟩, HST1, HST2, HOU.out, HOQ2.out, HB6.out⟩
      case measure => simp [intOf]
end Go.Proofs.YtgimgagnfkinmaaDoor

/- nat.divide, nat.DivMod: of every two numbers quotient and rest, in new memory; nat.Shift by any number. -/
namespace Go.Proofs.YtgimgagnfkinmaaDoor
open Go.RowKit
set_option linter.unusedVariables false

theorem len_le_of_val {xs ys : List Int} (wx : Wd xs) (wy : Wd ys) (ty : Trimmed ys) (h : val ys ≤ val xs) : ys.length ≤ xs.length := len_of_lt wy ty (by have := val_lt wx; omega)

set_option maxHeartbeats 800000 in
set_option maxRecDepth 100000 in
theorem divide_long (v u : Value) (xs ys : List Int) (e : Nat) (w : World) (h : Sl w v xs) (g : Sl w u ys) (hn : xs.length ≤ 8192) (hx : Trimmed xs) (hy : Trimmed ys) (hl : ys.length = e + 2) (hge : val ys ≤ val xs) :
    Calls Tryd.prog 105 #[v, u] w (Divided w xs ys) := by
  have hle := len_le_of_val h.wd g.wd hy hge
  have hci : 0 ≤ cmpI (val xs) (val ys) := by unfold cmpI; rw [if_neg (by omega)]; split <;> omega
  have CC := hid (compare_sl v u xs ys w h g (by omega) (by omega))
  obtain ⟨c, hc⟩ : ∃ c, cmpI (val xs) (val ys) = c := ⟨_, rfl⟩
  rw [hc] at CC hci
  have HD : Hid (∀ w1, Below w.heap.size w w1 → Calls Tryd.prog 109 #[v, u] w1 (Divided w1 xs ys)) := fun w1 hb => divideLong_any v u xs ys e w1 (h.later hb) (g.later hb) hn hx hy hl hle
  obtain ⟨b, cap', rfl, gr⟩ := g
  have h1 : ((ys.length : Int) == 1) = false := by simp; omega
  clear hc gr h hl hge
  go_enter Tryd.func105, Tryd.ntmps105
  go_wp2_with fail
  refine Calls.mono CC.out ?_
  rintro x w1 ⟨rfl, hb1⟩
  have HDD := hid (HD.out w1 hb1)
  have hs1 := hb1.size
  go_wp2_with fail
  refine Calls.mono HDD.out ?_
  rintro x w2 ⟨v1, u1, q, r, c, rfl, oq, orr, lq, lr, c1, c2, wq, wr, tq, tr, hv, hlt, hb2⟩
  have HF : Hid (Divided w xs ys (.returned (.tuple #[v1, u1])) w2) := ⟨v1, u1, q, r, c, rfl, owns_base oq hs1, owns_base orr hs1, fun g hg => by have := lq g hg; omega, lr, by omega, c2, wq, wr, tq, tr, hv, hlt, hb1.trans (hb2.mono hs1)⟩
  clear oq orr hv hlt hb2 HDD
  go_wp2_with fail
  go_ret2
  exact HF.out

theorem divide_any (v u : Value) (xs ys : List Int) (w : World) (h : Sl w v xs) (g : Sl w u ys) (hn : xs.length ≤ 8192) (hm : ys.length ≤ 8192) (hx : Trimmed xs) (hy : Trimmed ys) (h0 : 0 < ys.length) :
    Calls Tryd.prog 105 #[v, u] w (Divided w xs ys) := by
  by_cases hlt : val xs < val ys
  · exact divide_less v u xs ys w h g hn hm hlt
  · by_cases h1 : ys.length = 1
    · obtain ⟨y, rfl⟩ := List.length_eq_one_iff.1 h1
      have hy1 : 1 ≤ y := by
        have b := g.wd.head
        by_cases c : y = 0
        · rw [c] at hy; simp [Trimmed, sz, szTo] at hy
        · omega
      exact divide_word v u xs y w h g hn hx hy1 (by rw [val_one] at hlt; omega)
    · exact divide_long v u xs ys (ys.length - 2) w h g hn hx hy (by omega) (by omega)

set_option maxHeartbeats 800000 in
set_option maxRecDepth 100000 in
theorem divMod_any (v u : Value) (xs ys : List Int) (w : World) (h : Sl w v xs) (g : Sl w u ys) (lx : xs.length ≤ 8192) (ly : ys.length ≤ 8192) (tx : Trimmed xs) (ty : Trimmed ys) (h0 : 0 < ys.length) :
    Calls Tryd.prog 93 #[v, u] w fun e w' => ∃ v1 u1 q r, e = .returned (.tuple #[v1, u1, .int .i64 0]) ∧ Sl w' v1 q ∧ Sl w' u1 r ∧ Trimmed q ∧ Trimmed r ∧ val xs = val q * val ys + val r ∧ val r < val ys ∧ Below w.heap.size w w' := by
  have HB := hid (checkBoth_sl v u xs ys w h g (by omega) (by omega))
  rw [both_good (chk_good lx tx) (chk_good ly ty)] at HB
  have HD : Hid (Calls Tryd.prog 105 #[v, u] w (Divided w xs ys)) := divide_any v u xs ys w h g lx ly tx ty h0
  obtain ⟨b, cap', rfl, gr⟩ := g
  have hz : ((ys.length : Int) == 0) = false := by simp; exact fun e => by rw [e] at h0; simp at h0
  clear gr h ty
  go_enter Tryd.func93, Tryd.ntmps93
  go_wp2_with fail
  refine Calls.mono HB.out ?_
  rintro e w' ⟨rfl, rfl⟩
  go_wp2_with fail
  refine Calls.mono HD.out ?_
  rintro e w1 ⟨v1, u1, q, r, c, rfl, oq, orr, _, _, _, _, wq, wr, tq, tr, hv, hlt, hbel⟩
  have HQ := hid (Sl.own oq wq)
  have HR := hid (Sl.own orr wr)
  have HV := hid hv
  have HLT := hid hlt
  clear oq orr hv hlt
  go_wp2
  go_ret3
  exact ⟨v1, u1, q, r, rfl, HQ.out, HR.out, tq, tr, HV.out, HLT.out, hbel⟩

theorem shift_neg (v : Value) (xs : List Int) (m : Nat) (w : World) (h : Sl w v xs) (hl : xs.length ≤ 8192) (hx : Trimmed xs) (hm : m ≤ 262144) :
    Calls Tryd.prog 7 #[v, .int .i64 (-(m : Int))] w (Told w 0 (val xs / 2 ^ m)) := by
  by_cases h0 : m = 0
  · subst h0
    have := shift_up v xs 0 w h hl hx (by omega)
    rw [Int.pow_zero, Int.mul_one] at this
    rw [Int.pow_zero, Int.ediv_one]
    exact this
  · exact shift_down v xs m w h hl hx (by omega) hm

theorem bits_is {xs : List Int} (hw : Wd xs) (b : Nat) (h1 : 1 ≤ b) (h2 : (2 : Int) ^ (b - 1) ≤ val xs) (h3 : val xs < 2 ^ b) : bitsOf xs = b := by
  have hp : 0 < sz xs := by
    by_cases c : sz xs = 0
    · have := two_pos (b - 1)
      rw [val_sz, c] at h2
      have : valTo xs 0 = 0 := rfl
      omega
    · omega
  obtain ⟨b1, b2, b3, _, _⟩ := bits_bounds hw hp
  rcases Nat.lt_trichotomy (bitsOf xs) b with h | h | h
  · have := two_le (t := bitsOf xs) (u := b - 1) (by omega); omega
  · exact h
  · have := two_le (t := b) (u := bitsOf xs - 1) (by omega); omega
end Go.Proofs.YtgimgagnfkinmaaDoor

/- Whole numbers: whole.divide, DivMod: quotient and rest, the rest never below 0. -/
namespace Go.Proofs.YtgimgagnfkinmaaDoor
open Go.RowKit
set_option linter.unusedVariables false

set_option maxHeartbeats 800000 in
set_option maxRecDepth 100000 in
theorem divMod_own (v u : Value) (xs ys : List Int) (w : World) (h : Sl w v xs) (g : Sl w u ys) (lx : xs.length ≤ 8192) (ly : ys.length ≤ 8192) (tx : Trimmed xs) (ty : Trimmed ys) (h0 : 0 < ys.length) :
    Calls Tryd.prog 93 #[v, u] w fun e w' => ∃ v1 u1 q r, e = .returned (.tuple #[v1, u1, .int .i64 0]) ∧ w'.ownsRow w.heap.size 47 1 v1 q.length (q.map (Value.int .u32)) ∧ w'.ownsRow w.heap.size 47 1 u1 r.length (r.map (Value.int .u32)) ∧ Wd q ∧ Wd r ∧ Trimmed q ∧ Trimmed r ∧ val xs = val q * val ys + val r ∧ val r < val ys ∧ Below w.heap.size w w' := by
  have HB := hid (checkBoth_sl v u xs ys w h g (by omega) (by omega))
  rw [both_good (chk_good lx tx) (chk_good ly ty)] at HB
  have HD : Hid (Calls Tryd.prog 105 #[v, u] w (Divided w xs ys)) := divide_any v u xs ys w h g lx ly tx ty h0
  obtain ⟨b, cap', rfl, gr⟩ := g
  have hz : ((ys.length : Int) == 0) = false := by simp; exact fun e => by rw [e] at h0; simp at h0
  clear gr h ty
  go_enter Tryd.func93, Tryd.ntmps93
  go_wp2_with fail
  refine Calls.mono HB.out ?_
  rintro e w' ⟨rfl, rfl⟩
  go_wp2_with fail
  refine Calls.mono HD.out ?_
  rintro e w1 ⟨v1, u1, q, r, c, rfl, oq, orr, _, _, _, _, wq, wr, tq, tr, hv, hlt, hbel⟩
  have HQ := hid oq
  have HR := hid orr
  have HV := hid hv
  have HLT := hid hlt
  clear oq orr hv hlt
  go_wp2
  go_ret3
  exact ⟨v1, u1, q, r, rfl, HQ.out, HR.out, wq, wr, tq, tr, HV.out, HLT.out, hbel⟩

/-- A size and a rest, in new memory. -/
def WParts (w : World) (n : Bool) (xs ys : List Int) (x : Ending) (w' : World) : Prop := ∃ v1 u1 q r, x = .returned (.tuple #[v1, u1]) ∧ w'.ownsRow w.heap.size 47 1 v1 q.length (q.map (Value.int .u32)) ∧ w'.ownsRow w.heap.size 47 1 u1 r.length (r.map (Value.int .u32)) ∧ Wd q ∧ Wd r ∧ Trimmed q ∧ Trimmed r ∧ q.length ≤ 2048 ∧ r.length ≤ 2048 ∧
  val xs = val q * val ys + sg n (val r) ∧ val r < val ys ∧ Below w.heap.size w w'
theorem q_le {x q y r : Int} (h : x = q * y + r) (hy : 1 ≤ y) (hq : 0 ≤ q) (hr : 0 ≤ r) : q ≤ x - r := by
  have : q * 1 ≤ q * y := Int.mul_le_mul_of_nonneg_left hy hq
  omega
theorem val_pos' {zs : List Int} (hw : Wd zs) (ht : Trimmed zs) (h : 0 < zs.length) : 1 ≤ val zs := by
  have h1 := val_ge hw ht h
  have h2 := pw_pos (zs.length - 1)
  omega
theorem below2048 {zs : List Int} (hw : Wd zs) (hl : zs.length ≤ 2048) : val zs < wlim := by
  have h1 := val_lt hw
  have h2 : (4294967296 : Int) ^ zs.length ≤ 4294967296 ^ 2048 := pw_le hl
  unfold wlim
  exact Int.lt_of_lt_of_le h1 h2
theorem short2048 {zs : List Int} (hw : Wd zs) (ht : Trimmed zs) (h : val zs < wlim) : zs.length ≤ 2048 := by
  by_cases c : 2048 < zs.length
  · have := (len2048 hw ht).1 c; omega
  · omega

set_option maxHeartbeats 3200000 in
set_option maxRecDepth 100000 in
theorem wdivide_any (n : Bool) (v : Value) (xs : List Int) (m0 : Bool) (u : Value) (ys : List Int) (w : World) (h : Sl w v xs) (g : Sl w u ys) (lx : xs.length ≤ 2048) (ly : ys.length ≤ 2048) (tx : Trimmed xs) (ty : Trimmed ys) (h0 : 0 < ys.length) :
    Calls Tryd.prog 76 #[.agg #[.bool n, v], .agg #[.bool m0, u]] w (WParts w n xs ys) := by
  have wx := h.wd
  have wy := g.wd
  have HY1 := hid (val_pos' wy ty h0)
  have HXL := hid (below2048 wx lx)
  have HYL := hid (below2048 wy ly)
  obtain ⟨a, cap, rfl, hr⟩ := h
  obtain ⟨b, cap', rfl, gr⟩ := g
  have h : Sl w (.slice a xs.length cap) xs := ⟨a, cap, rfl, hr⟩
  have g : Sl w (.slice b ys.length cap') ys := ⟨b, cap', rfl, gr⟩
  clear hr gr
  have HB : Hid (Below w.heap.size w ((w.alloc (.cells #[.bool n, .slice a xs.length cap] 37)).alloc (.cells #[.bool m0, .slice b ys.length cap'] 37))) := bt (alloc_later _ _) (alloc_later _ _)
  have HN : Hid (Box ((w.alloc (.cells #[.bool n, .slice a xs.length cap] 37)).alloc (.cells #[.bool m0, .slice b ys.length cap'] 37)) w.heap.size 37 #[.bool n, .slice a xs.length cap]) := Box.later (Box.made w _ _) (alloc_later _ _) (by simp)
  have HM : Hid (Box ((w.alloc (.cells #[.bool n, .slice a xs.length cap] 37)).alloc (.cells #[.bool m0, .slice b ys.length cap'] 37)) (w.heap.size + 1) 37 #[.bool m0, .slice b ys.length cap']) := by
    have e := Box.made (w.alloc (.cells #[.bool n, .slice a xs.length cap] 37)) 37 #[.bool m0, .slice b ys.length cap']
    simp at e
    exact e
  have HXS : Hid (w.heap.size ≤ ((w.alloc (.cells #[.bool n, .slice a xs.length cap] 37)).alloc (.cells #[.bool m0, .slice b ys.length cap'] 37)).heap.size) := HB.out.size
  have HD := hid (divMod_own _ _ xs ys _ (h.later HB.out) (g.later HB.out) (by omega) (by omega) tx ty h0)
  have HG := hid (g.later HB.out)
  clear h g
  cases n with
  | false =>
    go_enter Tryd.func76, Tryd.ntmps76
    go_wp2_with fail
    refine Calls.mono HD.out ?_
    rintro e w1 ⟨v1, u1, q, r, rfl, oq, orr, wq, wr, tq, tr, hv, hlt, hb1⟩
    obtain ⟨p0, p1, _, _⟩ := res_box HN.out hb1
    obtain ⟨q0, q1, _, _⟩ := res_box HM.out hb1
    have hq := q_le hv HY1.out (val_nonneg wq) (val_nonneg wr)
    have hr0 := val_nonneg wr
    have HF : Hid (WParts w false xs ys (.returned (.tuple #[v1, u1])) w1) := ⟨v1, u1, q, r, rfl, owns_base oq HXS.out, owns_base orr HXS.out, wq, wr, tq, tr, short2048 wq tq (by have := HXL.out; omega), short2048 wr tr (by have := HYL.out; omega), hv, hlt, bt HB.out hb1⟩
    obtain ⟨a1, k1, hv1⟩ := own_slice' oq
    obtain ⟨a2, k2, hv2⟩ := own_slice' orr
    subst hv1
    subst hv2
    clear oq orr hv hlt hb1 hq hr0
    go_wp2_with fail
    go_ret2
    exact HF.out
  | true =>
    go_enter Tryd.func76, Tryd.ntmps76
    go_wp2_with fail
    refine Calls.mono HD.out ?_
    rintro e w1 ⟨v1, u1, q, r, rfl, oq, orr, wq, wr, tq, tr, hv, hlt, hb1⟩
    obtain ⟨p0, p1, _, _⟩ := res_box HN.out hb1
    obtain ⟨q0, q1, _, _⟩ := res_box HM.out hb1
    have hq := q_le hv HY1.out (val_nonneg wq) (val_nonneg wr)
    have hr0 := val_nonneg wr
    have hq0 := val_nonneg wq
    by_cases hr : r.length = 0
    · have hrn : r = [] := List.eq_nil_of_length_eq_zero hr
      subst hrn
      have HF : Hid (WParts w true xs ys (.returned (.tuple #[v1, u1])) w1) := ⟨v1, u1, q, [], rfl, owns_base oq HXS.out, owns_base orr HXS.out, wq, wr, tq, tr, short2048 wq tq (by have := HXL.out; omega), by simp, by rw [hv]; rfl, hlt, bt HB.out hb1⟩
      obtain ⟨a1, k1, hv1⟩ := own_slice' oq
      obtain ⟨a2, k2, hv2⟩ := own_slice' orr
      subst hv1
      subst hv2
      clear oq orr hv hlt hb1 hq hr0 hr
      go_wp2_with fail
      go_ret2
      exact HF.out
    · have hr1 := val_pos' wr tr (by omega)
      have hrb : ((r.length : Int) == 0) = false := by simp; exact fun e => hr (by rw [e]; rfl)
      have lq : q.length ≤ 2048 := short2048 wq tq (by have := HXL.out; omega)
      have lr : r.length ≤ 2048 := short2048 wr tr (by have := HYL.out; omega)
      have HQ := hid (Sl.own oq wq)
      have HR := hid (Sl.own orr wr)
      obtain ⟨a1, k1, hv1⟩ := own_slice' oq
      obtain ⟨a2, k2, hv2⟩ := own_slice' orr
      subst hv1
      subst hv2
      have HOF := hid (of_any 1 w1 (by omega) (by omega))
      have HB1 := hid hb1
      have HVL := hid (And.intro hv (And.intro hlt (And.intro hq (And.intro hr0 (And.intro hq0 hr1)))))
      clear oq orr hv hlt hb1 hq hr0 hq0 hr1 hr HD
      go_wp2_with fail
      refine Calls.mono HOF.out ?_
      rintro e w2 ⟨v2, rfl, o2, hb2⟩
      have s2 := Sl.own (owns_len o2) (of_wd 1 (by omega) (by omega)).trimmed
      have e2 : trimmed [1 % 4294967296, 1 / 4294967296] = [1] := by decide
      rw [e2] at s2
      have HAD := hid (add_sl _ _ q [1] w2 (HQ.out.later hb2) s2 (by omega) (by simp))
      rw [both_good (chk_good (by omega) tq) (chk_good (by simp) (show Trimmed [1] from rfl)), val_one] at HAD
      have HB2 := hid (bt HB1.out hb2)
      have HR2 := hid (HR.out.later hb2)
      clear o2 hb2 s2 e2 HOF HR HQ p0 p1 q0 q1
      go_wp2_with fail
      refine Calls.mono HAD.out ?_
      rintro e w3 ⟨v3, z3, c3, rfl, o3, t3, hb3⟩
      have hw3 : val q + 1 < wide := by have := HVL.out; have := HXL.out; have := wide2048; omega
      obtain ⟨rfl, hv3⟩ := t3.good rfl hw3
      have w3' := t3.wd
      have tt3 := t3.trim
      obtain ⟨a3, k3, hs3⟩ := own_slice' o3
      subst hs3
      obtain ⟨q0, q1, _, _⟩ := res_box HM.out (bt HB2.out hb3)
      have HSB := hid (sub_sl _ _ ys r w3 ((HG.out.later HB2.out).later hb3) (HR2.out.later hb3) (by omega) (by omega))
      rw [if_pos (both_good (chk_good (by omega) ty) (chk_good (by omega) tr)), if_neg (by have := HVL.out.2.1; omega)] at HSB
      have HB3 := hid (bt HB2.out hb3)
      have HO3 := hid o3
      have HV3 := hid hv3
      clear o3 t3 hb3 hv3 hw3 HAD HR2
      go_wp2_with fail
      refine Calls.mono HSB.out ?_
      rintro e w4 ⟨v4, z4, c4, rfl, o4, t4, hb4⟩
      have hw4 : val ys - val r < wide := by have := HVL.out; have := HYL.out; have := wide2048; omega
      obtain ⟨rfl, hv4⟩ := t4.good rfl hw4
      have w4' := t4.wd
      have tt4 := t4.trim
      obtain ⟨a4, k4, hs4⟩ := own_slice' o4
      subst hs4
      have HF : Hid (WParts w true xs ys (.returned (.tuple #[.slice a3 z3.length k3, .slice a4 z4.length k4])) w4) := by
        obtain ⟨g1, g2, g3, g4, g5, g6⟩ := HVL.out
        refine ⟨_, _, z3, z4, rfl, owns_base (owns_later HO3.out hb4) (by have := HXS.out; have := HB2.out.size; omega), owns_base o4 (by have := HXS.out; have := HB3.out.size; omega), w3', w4', tt3, tt4, short2048 w3' tt3 (by rw [HV3.out]; have := HXL.out; omega), short2048 w4' tt4 (by rw [hv4]; have := HYL.out; omega), ?_, by rw [hv4]; omega, bt HB.out (bt HB3.out hb4)⟩
        rw [HV3.out, hv4, Int.add_mul, Int.one_mul]
        show _ = _ + -(val ys - val r)
        omega
      clear o4 t4 hb4 hv4 hw4 HSB q0 q1
      go_wp2_with fail
      go_ret2
      exact HF.out

/-- Quotient and rest of whole numbers, in new memory. -/
def WDiv (w : World) (X Y : Int) (x : Ending) (w' : World) : Prop := ∃ nq vq zq vr zr, x = .returned (.tuple #[.agg #[.bool nq, vq], .agg #[.bool false, vr], .int .i64 0]) ∧ w'.ownsRow w.heap.size 47 1 vq zq.length (zq.map (Value.int .u32)) ∧ w'.ownsRow w.heap.size 47 1 vr zr.length (zr.map (Value.int .u32)) ∧ Wd zq ∧ Wd zr ∧ Trimmed zq ∧ Trimmed zr ∧ zq.length ≤ 2048 ∧ zr.length ≤ 2048 ∧ (nq = false ∨ 0 < zq.length) ∧
  X = wval nq zq * Y + val zr ∧ val zr < (Y.natAbs : Int) ∧ Below w.heap.size w w'
theorem div_sign {n m : Bool} {x y q r : Int} (h : x = q * y + sg n r) : sg n x = sg (n != m) q * sg m y + r := by
  cases n <;> cases m <;> simp [sg, Int.neg_mul, Int.mul_neg] at * <;> omega

set_option maxHeartbeats 3200000 in
set_option maxRecDepth 100000 in
theorem wdivMod_any (n : Bool) (v : Value) (xs : List Int) (m0 : Bool) (u : Value) (ys : List Int) (w : World) (h : Sl w v xs) (g : Sl w u ys) (hx : wchk n xs = 0) (hy : wchk m0 ys = 0) (h0 : 0 < ys.length) :
    Calls Tryd.prog 49 #[.agg #[.bool n, v], .agg #[.bool m0, u]] w (WDiv w (wval n xs) (wval m0 ys)) := by
  obtain ⟨lx, tx, _⟩ := wchk_ok hx
  obtain ⟨ly, ty, _⟩ := wchk_ok hy
  have wx := h.wd
  have wy := g.wd
  obtain ⟨a, cap, rfl, hr⟩ := h
  obtain ⟨b, cap', rfl, gr⟩ := g
  have h : Sl w (.slice a xs.length cap) xs := ⟨a, cap, rfl, hr⟩
  have g : Sl w (.slice b ys.length cap') ys := ⟨b, cap', rfl, gr⟩
  clear hr gr
  have HB : Hid (Below w.heap.size w ((((w.alloc (.cells #[.bool n, .slice a xs.length cap] 37)).alloc (.cells #[.bool m0, .slice b ys.length cap'] 37)).alloc (.cells #[.bool false, .slice none 0 0] 37)).alloc (.cells #[.bool false, .slice none 0 0] 37))) := bt (bt (bt (alloc_later _ _) (alloc_later _ _)) (alloc_later _ _)) (alloc_later _ _)
  have HN : Hid (Box ((((w.alloc (.cells #[.bool n, .slice a xs.length cap] 37)).alloc (.cells #[.bool m0, .slice b ys.length cap'] 37)).alloc (.cells #[.bool false, .slice none 0 0] 37)).alloc (.cells #[.bool false, .slice none 0 0] 37)) w.heap.size 37 #[.bool n, .slice a xs.length cap]) := Box.later (Box.made w _ _) (bt (bt (alloc_later _ _) (alloc_later _ _)) (alloc_later _ _)) (by simp)
  have HM : Hid (Box ((((w.alloc (.cells #[.bool n, .slice a xs.length cap] 37)).alloc (.cells #[.bool m0, .slice b ys.length cap'] 37)).alloc (.cells #[.bool false, .slice none 0 0] 37)).alloc (.cells #[.bool false, .slice none 0 0] 37)) (w.heap.size + 1) 37 #[.bool m0, .slice b ys.length cap']) := by
    have e := Box.later (Box.made (w.alloc (.cells #[.bool n, .slice a xs.length cap] 37)) 37 #[.bool m0, .slice b ys.length cap']) (bt (alloc_later ((w.alloc (.cells #[.bool n, .slice a xs.length cap] 37)).alloc (.cells #[.bool m0, .slice b ys.length cap'] 37)) (.cells #[.bool false, .slice none 0 0] 37)) (alloc_later _ (.cells #[.bool false, .slice none 0 0] 37))) (by simp)
    simp at e
    exact e
  have HZ1 : Hid (Box ((((w.alloc (.cells #[.bool n, .slice a xs.length cap] 37)).alloc (.cells #[.bool m0, .slice b ys.length cap'] 37)).alloc (.cells #[.bool false, .slice none 0 0] 37)).alloc (.cells #[.bool false, .slice none 0 0] 37)) (w.heap.size + 1 + 1) 37 #[.bool false, .slice none 0 0]) := by
    have e := Box.later (Box.made ((w.alloc (.cells #[.bool n, .slice a xs.length cap] 37)).alloc (.cells #[.bool m0, .slice b ys.length cap'] 37)) 37 #[.bool false, .slice none 0 0]) (alloc_later (((w.alloc (.cells #[.bool n, .slice a xs.length cap] 37)).alloc (.cells #[.bool m0, .slice b ys.length cap'] 37)).alloc (.cells #[.bool false, .slice none 0 0] 37)) (.cells #[.bool false, .slice none 0 0] 37)) (by simp)
    simp at e
    exact e
  have HZ2 : Hid (Box ((((w.alloc (.cells #[.bool n, .slice a xs.length cap] 37)).alloc (.cells #[.bool m0, .slice b ys.length cap'] 37)).alloc (.cells #[.bool false, .slice none 0 0] 37)).alloc (.cells #[.bool false, .slice none 0 0] 37)) (w.heap.size + 1 + 1 + 1) 37 #[.bool false, .slice none 0 0]) := by
    have e := Box.made (((w.alloc (.cells #[.bool n, .slice a xs.length cap] 37)).alloc (.cells #[.bool m0, .slice b ys.length cap'] 37)).alloc (.cells #[.bool false, .slice none 0 0] 37)) 37 #[.bool false, .slice none 0 0]
    simp at e
    exact e
  have HXS : Hid (w.heap.size + 1 + 1 + 1 < ((((w.alloc (.cells #[.bool n, .slice a xs.length cap] 37)).alloc (.cells #[.bool m0, .slice b ys.length cap'] 37)).alloc (.cells #[.bool false, .slice none 0 0] 37)).alloc (.cells #[.bool false, .slice none 0 0] 37)).heap.size) := HZ2.out.lt
  have HCB := hid (wcheckBoth_any n _ xs m0 _ ys _ (h.later HB.out) (g.later HB.out) (by omega) (by omega))
  rw [wboth_good hx hy] at HCB
  have HIN := hid (fun w1 (hb : Below _ ((((w.alloc (.cells #[.bool n, .slice a xs.length cap] 37)).alloc (.cells #[.bool m0, .slice b ys.length cap'] 37)).alloc (.cells #[.bool false, .slice none 0 0] 37)).alloc (.cells #[.bool false, .slice none 0 0] 37)) w1) => wdivide_any n _ xs m0 _ ys w1 ((h.later HB.out).later hb) ((g.later HB.out).later hb) lx ly tx ty h0)
  have hyb : ((ys.length : Int) == 0) = false := by simp; exact fun e => by rw [e] at h0; simp at h0
  clear h g hx hy
  go_enter Tryd.func49, Tryd.ntmps49
  go_wp2_with fail
  refine Calls.mono HCB.out ?_
  rintro e w1 ⟨rfl, hb1⟩
  obtain ⟨p0, p1, _, _⟩ := res_box HN.out hb1
  obtain ⟨q0, q1, _, _⟩ := res_box HM.out hb1
  have HIN1 := hid (HIN.out w1 hb1)
  have HB1 := hid hb1
  clear hb1 HIN
  go_wp2_with fail
  refine Calls.mono HIN1.out ?_
  rintro e w2 ⟨v1, u1, q, r, rfl, oq, orr, wq, wr, tq, tr, lq, lr, hv, hlt, hb2⟩
  obtain ⟨a1, k1, hs1⟩ := own_slice' oq
  obtain ⟨a2, k2, hs2⟩ := own_slice' orr
  subst hs1
  subst hs2
  have HB2 := hid (bt HB1.out hb2)
  obtain ⟨p0, p1, _, _⟩ := res_box HN.out HB2.out
  obtain ⟨q0, q1, _, _⟩ := res_box HM.out HB2.out
  have HU := hid (wunlike_any n a xs.length cap m0 b ys.length cap' w2)
  have HOQ := hid (owns_base oq HB1.out.size)
  have HOR := hid (owns_base orr HB1.out.size)
  have HVV := hid (And.intro hv hlt)
  obtain ⟨sn, hsn⟩ : ∃ sn, (n != m0) = sn := ⟨_, rfl⟩
  rw [hsn] at HU
  have HSN := hid hsn
  clear oq orr hv hlt hb2 hsn HIN1
  go_wp2_with fail
  refine Calls.mono HU.out ?_
  rintro e w3 ⟨rfl, hb3⟩
  have HF1 := hid (formed_any sn a1 q.length k1 w3)
  have HB3 := hid (bt HB2.out hb3)
  have HOQ3 := hid (owns_later HOQ.out hb3)
  have HOR3 := hid (owns_later HOR.out hb3)
  obtain ⟨nb, hnb⟩ : ∃ nb, (sn && decide (0 < q.length)) = nb := ⟨_, rfl⟩
  rw [hnb] at HF1
  have HNB := hid hnb
  clear hb3 hnb p0 p1 q0 q1 HU HOQ HOR
  go_wp2_with fail
  refine Calls.mono HF1.out ?_
  rintro e w4 ⟨rfl, hb4⟩
  have HF2 := hid (formed_any false a2 r.length k2 w4)
  have HB4 := hid (bt HB3.out hb4)
  have HOQ4 := hid (owns_later HOQ3.out hb4)
  have HOR4 := hid (owns_later HOR3.out hb4)
  rw [Bool.false_and] at HF2
  clear hb4 HF1 HOQ3 HOR3
  go_wp2_with fail
  refine Calls.mono HF2.out ?_
  rintro e w5 ⟨rfl, hb5⟩
  obtain ⟨r0, r1, f0, f1⟩ := res_box HZ1.out (bt HB4.out hb5)
  obtain ⟨s0, s1, g0, g1⟩ := res_box HZ2.out (bt HB4.out hb5)
  have HOQ5 := hid (owns_later HOQ4.out hb5)
  have HOR5 := hid (owns_later HOR4.out hb5)
  have HB5 := hid (bt HB.out (bt HB4.out hb5))
  clear hb5 HF2 HOQ4 HOR4
  go_wp2_with fail
  refine bodyPost_ret (v := .tuple #[.agg #[.bool nb, .slice a1 q.length k1], .agg #[.bool false, .slice a2 r.length k2], .int .i64 0]) (by simp [results, Tryd.results49, go_sem, r0, r1, s0, s1]) rfl ?_
  have hge : ∀ (z : Value) (zs : List Int), w5.ownsRow ((((w.alloc (.cells #[.bool n, .slice a xs.length cap] 37)).alloc (.cells #[.bool m0, .slice b ys.length cap'] 37)).alloc (.cells #[.bool false, .slice none 0 0] 37)).alloc (.cells #[.bool false, .slice none 0 0] 37)).heap.size 47 1 z zs.length (zs.map (Value.int .u32)) → ∀ g, z.ownBlock = some g → g ≠ w.heap.size + 1 + 1 ∧ g ≠ w.heap.size + 1 + 1 + 1 := fun z zs ho g hg => by
    have h1 := (World.ownsRow.lt ho g hg).1
    have h2 := HXS.out
    omega
  have hwn : wval nb q = sg sn (val q) := by
    rw [← HNB.out]
    unfold wval sg
    cases sn with
    | false => rfl
    | true =>
      by_cases c : 0 < q.length
      · simp [c]
      · have e0 : val q = 0 := trimmed_zero' (by omega)
        simp [c, e0]
  refine ⟨nb, _, q, _, r, rfl, owns_base (own_put2 (own_put2 HOQ5.out _ (fun g hg => (hge _ q HOQ5.out g hg).1) _ _) _ (fun g hg => (hge _ q HOQ5.out g hg).2) _ _) (by have := HXS.out; omega), owns_base (own_put2 (own_put2 HOR5.out _ (fun g hg => (hge _ r HOR5.out g hg).1) _ _) _ (fun g hg => (hge _ r HOR5.out g hg).2) _ _) (by have := HXS.out; omega), wq, wr, tq, tr, lq, lr, ?_, ?_, ?_, below_put2 (below_put2 HB5.out _ (by omega) _ _) _ (by omega) _ _⟩
  · rw [← HNB.out]
    by_cases c : 0 < q.length
    · exact .inr c
    · left; simp [c]
  · rw [hwn, ← HSN.out]
    exact div_sign HVV.out.1
  · have e1 := HVV.out.2
    have e2 := val_nonneg wy
    unfold wval
    cases m0 <;> simp <;> omega
end Go.Proofs.YtgimgagnfkinmaaDoor

/- Whole numbers: whole.Compare, Abs: of every two numbers whose words can be read. -/
namespace Go.Proofs.YtgimgagnfkinmaaDoor
open Go.RowKit
set_option linter.unusedVariables false

theorem cmp_neg (x y : Int) : cmpI (-x) (-y) = cmpI y x := by
  unfold cmpI
  by_cases h1 : y < x
  · rw [if_pos (by omega), if_pos h1]
  · rw [if_neg (by omega), if_neg h1]
    by_cases h2 : x < y
    · rw [if_pos (by omega), if_pos h2]
    · rw [if_neg (by omega), if_neg (by omega)]
theorem ret_cmp {a b c d : Int} (h : a = b) (g : c = d) : Ending.returned (.tuple #[.int .i64 a, .int .i64 c]) = .returned (.tuple #[.int .i64 b, .int .i64 d]) := by rw [h, g]

end Go.Proofs.YtgimgagnfkinmaaDoor

/- The laws of layer 2: lives (two of the chapter's examples hold); the document's own made, Of. -/
namespace Go.Proofs.YtgimgagnfkinmaaDoor
open Go.RowKit
set_option linter.unusedVariables false

theorem wlim_big : (18446744073709551616 : Int) ≤ wlim := by
  have : (4294967296 : Int) ^ 2 ≤ 4294967296 ^ 2048 := pw_le (by omega)
  unfold wlim
  have e : (4294967296 : Int) ^ 2 = 18446744073709551616 := by decide
  rw [e] at this
  exact this
theorem WTells.num {t : Int} {n : Bool} {zs : List Int} {code : Int} (h : WTells 0 t n zs code) (h0 : -18446744073709551616 < t) (h1 : t < 18446744073709551616) : code = 0 ∧ wval n zs = t := by
  have := wlim_big
  exact h.good rfl (by omega) (by omega)
theorem wval_pos {n : Bool} {zs : List Int} (hw : Wd zs) (h : 0 < wval n zs) : n = false ∧ val zs = wval n zs := by
  have := val_nonneg hw
  cases n with
  | false => exact ⟨rfl, rfl⟩
  | true => have e : wval true zs = -(val zs) := rfl; omega

set_option maxHeartbeats 3200000 in
set_option maxRecDepth 100000 in
theorem lives_any (w : World) : Calls Tryd.prog 16 #[] w fun e w' => e = .returned (.bool true) ∧ Below w.heap.size w w' := by
  have t1 : Trimmed [4294967295] := rfl
  have t4 : Trimmed [0, 1] := rfl
  have w1' : Wd [4294967295] := Wd.one (by omega)
  have w4' : Wd [0, 1] := Wd.cons (by omega) (Wd.one (by omega))
  have k1 := wchk_good (n := false) (xs := [4294967295]) (by simp) t1 (.inl rfl)
  have S0 := hid (Sl.lit' w _ [4294967295] #[.int .u32 4294967295] 1 rfl w1' (by unfold maxLen; simp) rfl rfl)
  have hb0 := alloc_later w (.cells #[.int .u32 4294967295] 47)
  have HO := hid (lawOf_any 1 (w.alloc (.cells #[.int .u32 4294967295] 47)) (by omega) (by omega))
  have HB0 := hid hb0
  clear hb0
  go_enter Tryd.func16, Tryd.ntmps16
  go_wp2_with fail
  refine Calls.mono HO.out ?_
  rintro e w1 ⟨n1, v1, z1, rfl, o1, wd1, tr1, l1, ng1, hv1, hb1⟩
  have k2 := wchk_good (n := n1) (xs := z1) (by omega) tr1 ng1
  have HA := hid (wadd_any false _ [4294967295] n1 _ z1 w1 (S0.out.later hb1) (Sl.own o1 wd1) (by simp) (by omega))
  rw [wboth_good k1 k2, hv1, show wval false [4294967295] + 1 = 4294967296 by simp [wval, val, valTo]] at HA
  have HB1 := hid (bt HB0.out hb1)
  obtain ⟨a1, c1, hs1⟩ := own_slice' o1
  subst hs1
  clear o1 hb1 hv1 HO S0
  go_wp2_with fail
  refine Calls.mono HA.out ?_
  rintro e w2 ⟨n2, v2, z2, cc, rfl, o2, wt, hb2⟩
  obtain ⟨rfl, hv2⟩ := wt.num (by omega) (by omega)
  obtain ⟨rfl, hv2'⟩ := wval_pos wt.wd (by rw [hv2]; omega)
  have hz2 : z2 = [0, 1] := trimmed_eq wt.wd w4' wt.trim t4 (by rw [hv2', hv2, val_two]; omega)
  subst hz2
  obtain ⟨a2, c2, hs2⟩ := own_slice' o2
  subst hs2
  have HS2 := hid (Sl.own o2 w4')
  have HB2 := hid (bt HB1.out hb2)
  clear o2 wt hb2 hv2 hv2' HA
  -- the second example
  have hbA := alloc_later w2 (.cells #[.bool false, .slice a2 [0, 1].length c2] 37)
  have HX2 := hid (Box.made w2 37 #[.bool false, .slice a2 [0, 1].length c2])
  have HO3 := hid (lawOf_any (-7) (w2.alloc (.cells #[.bool false, .slice a2 [0, 1].length c2] 37)) (by omega) (by omega))
  have HBA := hid hbA
  clear hbA
  go_wp2_with fail
  refine Calls.mono HO3.out ?_
  rintro e w3 ⟨n3, v3, z3, rfl, o3, wd3, tr3, l3, ng3, hv3, hb3⟩
  have k3 := wchk_good (n := n3) (xs := z3) (by omega) tr3 ng3
  have HO4 := hid (lawOf_any 2 w3 (by omega) (by omega))
  obtain ⟨a3, c3, hs3⟩ := own_slice' o3
  subst hs3
  have HS3 := hid (Sl.own o3 wd3)
  have HB3 := hid (bt HBA.out hb3)
  have HV3 := hid hv3
  have HW3 := hid hb3
  clear o3 hb3 hv3 HO3
  go_wp2_with fail
  refine Calls.mono HO4.out ?_
  rintro e w4 ⟨n4, v4, z4, rfl, o4, wd4, tr4, l4, ng4, hv4, hb4⟩
  have k4 := wchk_good (n := n4) (xs := z4) (by omega) tr4 ng4
  have hz4 : 0 < z4.length := by
    by_cases c : 0 < z4.length
    · exact c
    · have e0 := trimmed_zero' (us := z4) (by omega)
      exfalso
      revert hv4
      unfold wval
      rw [e0]
      cases n4 <;> simp
  have HD := hid (wdivMod_any n3 _ z3 n4 _ z4 w4 (HS3.out.later hb4) (Sl.own o4 wd4) k3 k4 hz4)
  rw [HV3.out, hv4] at HD
  obtain ⟨a4, c4, hs4⟩ := own_slice' o4
  subst hs4
  have HB4 := hid (bt HB3.out hb4)
  have HW4 := hid (bt HW3.out hb4)
  clear o4 hb4 hv4 HO4 HS3 HV3
  go_wp2_with fail
  refine Calls.mono HD.out ?_
  rintro e w5 ⟨nq, vq, zq, vr, zr, rfl, oq, orr, wq, wr, tq, tr, lq, lr, ngq, hX, hY, hb5⟩
  have r0 := val_nonneg wr
  have hr1 : val zr = 1 := by simp at hY; omega
  have hq4 : wval nq zq = -4 := by omega
  obtain ⟨aq, cq, hsq⟩ := own_slice' oq
  obtain ⟨ar, cr, hsr⟩ := own_slice' orr
  subst hsq
  subst hsr
  have hbC : Below w5.heap.size w5 (((w5.alloc (.cells #[.bool nq, .slice aq zq.length cq] 37)).alloc (.cells #[.bool false, .slice ar zr.length cr] 37)).alloc (.cells #[.int .u32 0, .int .u32 1] 47)) := bt (bt (alloc_later _ _) (alloc_later _ _)) (alloc_later _ _)
  have HSQ := hid ((Sl.own oq wq).later hbC)
  have HSR := hid ((Sl.own orr wr).later hbC)
  have HIQ : Hid (i64of nq zq = (-4, true)) := by
    have := i64of_yes (n := nq) (xs := zq) ⟨wchk_good (by omega) tq ngq, by omega, by omega⟩
    rw [hq4] at this
    exact this
  have HIR : Hid (i64of false zr = (1, true)) := by
    have e1 : wval false zr = 1 := hr1
    have := i64of_yes (n := false) (xs := zr) ⟨wchk_good (by omega) tr (.inl rfl), by omega, by omega⟩
    rw [e1] at this
    exact this
  obtain ⟨m0, m1, _, _⟩ := res_box HX2.out (bt (bt HW4.out hb5) hbC)
  have L6 := Sl.lit' ((w5.alloc (.cells #[.bool nq, .slice aq zq.length cq] 37)).alloc (.cells #[.bool false, .slice ar zr.length cr] 37)) (w5.heap.size + 1 + 1) [0, 1] #[.int .u32 0, .int .u32 1] 2 (by simp) w4' (by unfold maxLen; simp) rfl rfl
  have HSM := hid (sameWhole_any false _ [0, 1] false _ [0, 1] _ (HS2.out.later (bt (bt (bt HBA.out HW4.out) hb5) hbC)) L6 (by simp) (by simp))
  rw [show decide (false = false ∧ [0, 1] = ([0, 1] : List Int)) = true from decide_eq_true ⟨rfl, rfl⟩] at HSM
  have HXQ := hid (Box.later (Box.made w5 37 #[.bool nq, .slice aq zq.length cq]) (bt (alloc_later _ (.cells #[.bool false, .slice ar zr.length cr] 37)) (alloc_later _ (.cells #[.int .u32 0, .int .u32 1] 47))) (by simp))
  have HXR : Hid (Box (((w5.alloc (.cells #[.bool nq, .slice aq zq.length cq] 37)).alloc (.cells #[.bool false, .slice ar zr.length cr] 37)).alloc (.cells #[.int .u32 0, .int .u32 1] 47)) (w5.heap.size + 1) 37 #[.bool false, .slice ar zr.length cr]) := by
    have e := Box.later (Box.made (w5.alloc (.cells #[.bool nq, .slice aq zq.length cq] 37)) 37 #[.bool false, .slice ar zr.length cr]) (alloc_later _ (.cells #[.int .u32 0, .int .u32 1] 47)) (by simp)
    simp at e
    exact e
  have m0' : w5.cell? ⟨w2.heap.size, 0, none⟩ = some (.bool false) := (res_box HX2.out (bt HW4.out hb5)).1
  have m1' : w5.cell? ⟨w2.heap.size, 1, none⟩ = some (.slice a2 [0, 1].length c2) := (res_box HX2.out (bt HW4.out hb5)).2.1
  have hne5 : w2.heap.size < w5.heap.size := by have := HX2.out.lt; have := HW4.out.size; have := hb5.size; omega
  have HBE := hid (bt (bt (bt HB2.out HB4.out) hb5) hbC)
  clear oq orr wq wr tq tr hX hY hb5 r0 hr1 hq4 hbC L6 HD HB4 HW4
  go_wp2_with fail
  refine Calls.mono HSM.out ?_
  rintro e w6 ⟨rfl, hb6⟩
  obtain ⟨x0, x1, _, _⟩ := res_box HXQ.out hb6
  have HI1 := hid (lawIs_any nq _ zq (-4) w6 (HSQ.out.later hb6) (by omega))
  rw [decide_eq_true HIQ.out] at HI1
  have HB6 := hid hb6
  clear hb6 HSM
  go_wp2_with fail
  refine Calls.mono HI1.out ?_
  rintro e w7 ⟨rfl, hb7⟩
  obtain ⟨y0, y1, _, _⟩ := res_box HXR.out (bt HB6.out hb7)
  have HI2 := hid (lawIs_any false _ zr 1 w7 ((HSR.out.later HB6.out).later hb7) (by omega))
  rw [decide_eq_true HIR.out] at HI2
  have HB7 := hid (bt HB6.out hb7)
  clear hb7 HI1 x0 x1
  go_wp2_with fail
  refine Calls.mono HI2.out ?_
  rintro e w8 ⟨rfl, hb8⟩
  have hbF := bt HBE.out (bt HB7.out hb8)
  clear hb8 HI2
  go_wp2_with fail
  go_ret
  exact ⟨rfl, hbF⟩
end Go.Proofs.YtgimgagnfkinmaaDoor

/- Whole numbers: whole.Sub; slackwaterlaw02.add, mul, same: of numbers that may be. -/
namespace Go.Proofs.YtgimgagnfkinmaaDoor
open Go.RowKit
set_option linter.unusedVariables false

theorem wval_neg (m : Bool) (ys : List Int) (h : m = false ∨ 0 < ys.length) : wval (!m && decide (0 < ys.length)) ys = -(wval m ys) := by
  by_cases c : 0 < ys.length
  · cases m <;> simp [wval, c]
  · have e0 : val ys = 0 := trimmed_zero' (by omega)
    cases m <;> simp [wval, c, e0]

/-- A whole number that may be, and true. -/
def WOk (w : World) (t : Int) (x : Ending) (w' : World) : Prop := ∃ n v zs, x = .returned (.tuple #[.agg #[.bool n, v], .bool true]) ∧ w'.ownsRow w.heap.size 47 1 v zs.length (zs.map (Value.int .u32)) ∧ Wd zs ∧ wchk n zs = 0 ∧ wval n zs = t ∧ Below w.heap.size w w'

theorem wsame' {n m : Bool} {xs ys : List Int} (wx : Wd xs) (wy : Wd ys) (tx : Trimmed xs) (ty : Trimmed ys) (nx : n = false ∨ 0 < xs.length) (ny : m = false ∨ 0 < ys.length) (h : wval n xs = wval m ys) : n = m ∧ xs = ys := by
  have x0 := val_nonneg wx
  have y0 := val_nonneg wy
  cases n <;> cases m
  · exact ⟨rfl, trimmed_eq wx wy tx ty h⟩
  · have e : val xs = -(val ys) := h
    have := val_pos' wy ty (ny.elim (fun e => by cases e) id)
    omega
  · have e : -(val xs) = val ys := h
    have := val_pos' wx tx (nx.elim (fun e => by cases e) id)
    omega
  · have e : -(val xs) = -(val ys) := h
    exact ⟨rfl, trimmed_eq wx wy tx ty (by omega)⟩

end Go.Proofs.YtgimgagnfkinmaaDoor

/- strconv.FormatUint to the base 10 tells a number's digits: of every number of 64 bits, where the library's table of powers of ten stands as its text lays it. -/
namespace Go.Proofs.YtgimgagnfkinmaaDoor
open Go.RowKit Go.Lib Go.Sort
set_option linter.unusedVariables false

/-- The table of powers of ten stands as the library's text lays it. -/
def Tab (w : World) : Prop := Lib.TabIs Tryd.prog w "internal/strconv.uint64pow10" .u64 Lib.pow10Tab
theorem Tab.later {w w' : World} (h : Tab w) (hb : Below w.heap.size w w') : Tab w' := by
  unfold Tab Lib.TabIs World.var? at *
  cases hg : Tryd.prog.globalNamed "internal/strconv.uint64pow10" with
  | none => simp [hg] at h
  | some g =>
    simp only [hg, Option.bind_some] at h ⊢
    have hlt : g < w.heap.size := by
      rcases Nat.lt_or_ge g w.heap.size with h' | h'
      · exact h'
      · rw [Array.getElem?_eq_none h'] at h; simp at h
    rw [hb.block g hlt]
    exact h

theorem holds_zero0 (w : World) (T : TypeId) (nd : Nat) (hs : nd ≤ 24) : Holds (fun (b : UInt8) => Value.int .u8 (b.toNat : Int)) (w.alloc (.cells zeros24 T)) w.heap.size 0 (Array.replicate nd (0 : UInt8)) := fun j hj => by
  have hj' : j < nd := by simpa using hj
  refine ⟨?_, World.frozen?_alloc_new _ _ _ _⟩
  rw [World.cell?_alloc_new, zeros24_at _ (by omega), getElem!_pos _ j hj]
  simp
theorem fin_pos0 (w : World) (o : Obj) (dk : Array UInt8) (k : Nat) : Below w.heap.size w ((putRow (fun (b : UInt8) => Value.int .u8 (b.toNat : Int)) (w.alloc o) w.heap.size 0 dk).drewN k) := by
  rw [alloc_eq_grow]
  obtain ⟨os', _, e⟩ := putRow_grow_new (fun (b : UInt8) => Value.int .u8 (b.toNat : Int)) w #[o] w.heap.size 0 dk (Nat.le_refl _)
  rw [e]
  refine ⟨rfl, rfl, rfl, ?_, fun j hj => ?_⟩
  · show w.heap.size ≤ (w.heap ++ os').size
    simp
  · show (w.heap ++ os')[j]? = _
    rw [Array.getElem?_append_left hj]

set_option maxHeartbeats 3200000 in
set_option maxRecDepth 100000 in
theorem formatUint_any (u : Nat) (hu64 : u < 18446744073709551616) (w : World) (htab : Tab w) :
    Calls Tryd.prog 64 #[.int .u64 u, .int .i64 10] w fun e w' => e = .returned (.string ⟨(Lib.decDigits u).toArray⟩) ∧ Below w.heap.size w w' := by
  by_cases hs : u < 100
  · have hlt : (u : Int) < 100 := by omega
    go_enter Tryd.func64, Tryd.ntmps64
    go_wp2_with fail
    refine (Tryd.internal_strconv_small u hs _).mono ?_
    rintro e w' ⟨rfl, rfl⟩
    go_wp2
    go_ret
    exact ⟨rfl, Below.refl _ _⟩
  · have hu1 : 1 ≤ u := by omega
    have hge : ¬ (u : Int) < 100 := by omega
    have hnd20 : Lib.nDigits u ≤ 20 := nDigits_le20 u hu64
    have hnd24 : Lib.nDigits u ≤ 24 := by omega
    have hal : Tryd.prog.arrayLen 102 = 24 := by kernel_rfl
    have hsl : ∀ W, (Instr.sliceAt 102 (.pointer (some ⟨w.heap.size, 0, none⟩)) none (some (.int .i64 (Lib.nDigits u : Int))) none).run Tryd.prog W = .ok (.slice (some ⟨w.heap.size, 0, none⟩) (Lib.nDigits u) 24) W := fun W => by
      rw [run_sliceAt_array_h W 102 ⟨w.heap.size, 0, none⟩ (by kernel_rfl) .i64 (Lib.nDigits u : Int) (by omega) (by rw [hal]; omega)]
      go_simp
    have hH0 := holds_zero0 w 102 (Lib.nDigits u) (by omega)
    have hfmt := Tryd.internal_strconv_formatBase10 w.heap.size 0 24 u (Array.replicate (Lib.nDigits u) 0) (w.alloc (.cells Lib.zeros24 102)) hH0 (by rw [Array.size_replicate]; exact Lib.lt_pow_nDigits u) hu64 (by rw [Array.size_replicate]; omega)
    rw [Array.size_replicate] at hfmt
    have HH0 := hid hH0
    have HFM := hid hfmt
    have HT := hid (Lib.tabIs_alloc htab (.cells Lib.zeros24 102))
    clear hH0 hal hfmt htab
    go_enter Tryd.func64, Tryd.ntmps64
    go_wp2_with fail
    refine (Tryd.internal_strconv_numDigits u hu1 hu64 _ HT.out).mono ?_
    rintro e w' ⟨rfl, rfl⟩
    go_wp2_with fail
    refine Calls.mono HFM.out ?_
    rintro e w' ⟨rfl, k, v', dk, rfl, hF⟩
    have HF := hid hF
    have hcv : (convert 54 9 (.slice (some ⟨w.heap.size, 0, none⟩) (Lib.nDigits u) 24)).run Tryd.prog ((putRow (fun (b : UInt8) => Value.int .u8 (b.toNat : Int)) (w.alloc (.cells Lib.zeros24 102)) w.heap.size 0 dk).drewN k) = .ok (.string ⟨(Lib.decDigits u).toArray⟩) ((putRow (fun (b : UInt8) => Value.int .u8 (b.toNat : Int)) (w.alloc (.cells Lib.zeros24 102)) w.heap.size 0 dk).drewN k) := by
      have h := run_convert_bytes_back (P := Tryd.prog) ((putRow (fun (b : UInt8) => Value.int .u8 (b.toNat : Int)) (w.alloc (.cells Lib.zeros24 102)) w.heap.size 0 dk).drewN k) 54 9 5 ⟨w.heap.size, 0, none⟩ 24 (Lib.decDigits u) Tryd.underlying54 Tryd.underlying5 Tryd.underlying9 (fun j hj => by
        rw [Lib.add_plain, Lib.row_is_numeral hF j hj, World.cell?_drewN]
        exact cell?_putRow (fun (b : UInt8) => Value.int .u8 (b.toNat : Int)) _ w.heap.size 0 _ dk HH0.out (by rw [hF.size, Array.size_replicate]) j (by rw [hF.size]; rw [Lib.decDigits_length] at hj; exact hj))
      rw [Lib.decDigits_length] at h
      exact h
    clear hF
    go_wp2
    go_ret
    exact ⟨rfl, fin_pos0 w _ dk k⟩

set_option maxHeartbeats 800000 in
set_option maxRecDepth 100000 in
theorem format_any (u : Nat) (hu64 : u < 18446744073709551616) (w : World) (htab : Tab w) :
    Calls Tryd.prog 37 #[.int .u64 u, .int .i64 10] w fun e w' => e = .returned (.string ⟨(Lib.decDigits u).toArray⟩) ∧ Below w.heap.size w w' := by
  go_enter Tryd.func37, Tryd.ntmps37
  go_wp2_with fail
  refine (formatUint_any u hu64 w htab).mono ?_
  rintro e w' ⟨rfl, hb⟩
  go_wp2
  go_ret
  exact ⟨rfl, hb⟩
end Go.Proofs.YtgimgagnfkinmaaDoor

/- nat.split tells a number's pieces of nine digits, the lowest first, in new memory. -/
namespace Go.Proofs.YtgimgagnfkinmaaDoor
open Go.RowKit
set_option linter.unusedVariables false

/-- The value of pieces of nine digits. -/
def pval : List Int → Int
  | [] => 0
  | p :: ps => p + pval ps * 1000000000
theorem pval_snoc : ∀ (ps : List Int) (p : Int), pval (ps ++ [p]) = pval ps + p * 1000000000 ^ ps.length
  | [], p => by simp [pval]
  | q :: ps, p => by
    show q + pval (ps ++ [p]) * 1000000000 = q + pval ps * 1000000000 + p * 1000000000 ^ (ps.length + 1)
    rw [pval_snoc ps p, Int.add_mul, Int.pow_succ, ← Int.mul_assoc, Int.add_assoc]
/-- Each number is a piece of nine digits. -/
def Pc (ps : List Int) : Prop := ∀ p ∈ ps, 0 ≤ p ∧ p < 1000000000
theorem Pc.snoc {ps : List Int} (h : Pc ps) {p : Int} (h0 : 0 ≤ p ∧ p < 1000000000) : Pc (ps ++ [p]) := fun q hq => by
  rcases List.mem_append.1 hq with hq | hq
  · exact h q hq
  · simp at hq; rw [hq]; exact h0
theorem Pc.at {ps : List Int} (h : Pc ps) (j : Nat) : 0 ≤ ps[j]?.getD 0 ∧ ps[j]?.getD 0 < 1000000000 := by
  by_cases hj : j < ps.length
  · rw [List.getElem?_eq_getElem hj]; exact h _ (List.getElem_mem hj)
  · rw [List.getElem?_eq_none (by omega)]; exact ⟨by decide, by decide⟩
theorem pval_nonneg {ps : List Int} (h : Pc ps) : 0 ≤ pval ps := by
  induction ps with
  | nil => exact Int.le_refl _
  | cons p ps ih =>
    have h1 := h p List.mem_cons_self
    have h2 := ih (fun q hq => h q (List.mem_cons_of_mem _ hq))
    show 0 ≤ p + pval ps * 1000000000
    omega

/-- So many pieces a number of at most 8,192 words has. -/
theorem pieces_few (xs ps : List Int) (v : Int) (K : Nat) (hx : Wd xs) (hl : xs.length ≤ K) (hp : Pc ps) (hv : 1 ≤ v) (h : val xs = pval ps + v * 1000000000 ^ ps.length) : 29 * ps.length < 32 * K := by
  have h1 := val_lt hx
  have h2 : (4294967296 : Int) ^ xs.length ≤ 4294967296 ^ K := pw_le hl
  have h3 := pval_nonneg hp
  have h4 : (0 : Int) < 1000000000 ^ ps.length := Int.pow_pos (by decide)
  have h5 : 1 * (1000000000 : Int) ^ ps.length ≤ v * 1000000000 ^ ps.length := Int.mul_le_mul_of_nonneg_right hv (Int.le_of_lt h4)
  have h6 : (1000000000 : Int) ^ ps.length < 4294967296 ^ K := by omega
  have h7 : (1000000000 : Nat) ^ ps.length < 4294967296 ^ K := by
    refine Int.ofNat_lt.1 ?_
    rw [Int.natCast_pow, Int.natCast_pow]
    exact h6
  have h8 : (2 ^ 29 : Nat) ^ ps.length ≤ 1000000000 ^ ps.length := Nat.pow_le_pow_left (by decide) _
  have h9 : (4294967296 : Nat) ^ K = 2 ^ (32 * K) := by rw [show (4294967296 : Nat) = 2 ^ 32 by decide, ← Nat.pow_mul]
  rw [h9] at h7
  rw [← Nat.pow_mul] at h8
  have h10 : 2 ^ (29 * ps.length) < 2 ^ (32 * K) := Nat.lt_of_le_of_lt h8 h7
  exact (Nat.pow_lt_pow_iff_right (a := 2) (by decide)).1 h10

theorem trimmed_zero {us : List Int} (hw : Wd us) (ht : Trimmed us) : us.length = 0 ↔ val us = 0 := by
  constructor
  · intro h
    rw [List.eq_nil_of_length_eq_zero h]; rfl
  · intro h
    have := trimmed_eq hw Wd.nil ht Trimmed.nil (by rw [h, val_nil])
    rw [this]; rfl

set_option maxHeartbeats 3200000 in
set_option maxRecDepth 100000 in
theorem split_any (v : Value) (xs : List Int) (w : World) (h : Sl w v xs) (hn : xs.length ≤ 8192) (hx : Trimmed xs) (hpos : 0 < xs.length) :
    Calls Tryd.prog 36 #[v] w fun e w' => ∃ (vp : Value) (ps : List Int), e = .returned vp ∧ w'.ownsRow w.heap.size 47 1 vp ps.length (ps.map (Value.int .u32)) ∧ Pc ps ∧ pval ps = val xs ∧ 0 < ps.length ∧ ps.length ≤ 9040 ∧ 0 < ps[ps.length - 1]?.getD 0 ∧ Below w.heap.size w w' := by
  obtain ⟨i0, hi, hz0, hz1, hz2⟩ := info_parts Tryd.infoW
  have wx := h.wd
  have HX := hid hx
  clear hx
  go_enter Tryd.func36, Tryd.ntmps36
  go_wp2_with fail
  refine (trim_sl v xs w h (by omega)).mono ?_
  rintro e w1 ⟨vt, rfl, ot, hb1⟩
  rw [show sz xs = xs.length from HX.out, trimmed_of HX.out] at ot
  obtain ⟨gl, cl, hvl, hcl1, hcl2⟩ := own_shape' ot hpos
  rw [hvl] at ot ⊢
  have hgl := ot.lt gl rfl
  have hcl3 : cl ≤ 9223372036854775807 := by unfold maxLen at hcl2; omega
  clear hcl2 hvl h
  go_wp2_with fail
  go_loopg [3, 4] (val xs).toNat (fun k l p wr => ∃ (n : Nat) (us ps : List Int), l = .slice (some ⟨gl, 0, none⟩) n cl ∧ n ≤ xs.length ∧ OwnC wr w.heap.size gl n cl us ∧ Wd us ∧ Trimmed us ∧ Hid ((k : Int) = val us) ∧
    wr.ownsRow (gl + 1) 47 1 p ps.length (ps.map (Value.int .u32)) ∧ Pc ps ∧ Hid (val xs = pval ps + val us * 1000000000 ^ ps.length) ∧ ps.length ≤ 9040 ∧ Hid (n = 0 → 0 < ps.length ∧ 0 < ps[ps.length - 1]?.getD 0) ∧ Below w.heap.size w wr)
  case atStart => exact ⟨xs.length, xs, [], rfl, Nat.le_refl _, ot, wx, HX.out, show _ = _ by have := val_nonneg wx; omega, World.ownsRow_nil _ _ _ _, fun _ h => by simp at h, show _ = _ by simp [pval], by simp, fun e => by omega, hb1⟩
  case round =>
    obtain ⟨n, us, ps, rfl, hnx, ho, hwu, htu, HKK, hop, hpc, HV, hpl, HL, hb⟩ := hrel
    have hlu := ho.len
    rcases n with _ | n
    · have hu0 : us = [] := List.eq_nil_of_length_eq_zero hlu
      have HV' : Hid (pval ps = val xs) := by show _ = _; rw [HV.out, hu0, val_nil]; simp
      have HL' := hid (HL.out rfl)
      have HO' := hid (owns_base (base' := w.heap.size) hop (by omega))
      clear HV HL hop ho hu0 hlu HKK
      go_wp2_with fail
      go_ret
      exact ⟨_, ps, rfl, HO'.out, hpc, HV'.out, HL'.out.1, hpl, HL'.out.2, hb⟩
    · have hv1 : 1 ≤ val us := by
        have h0 := val_nonneg hwu
        have h1 := (trimmed_zero hwu htu)
        have : ¬ val us = 0 := fun e => by have := h1.2 e; omega
        omega
      have hfew : ps.length ≤ 9039 := by have := pieces_few xs ps (val us) 8192 wx hn hpc hv1 HV.out; omega
      have HW1 := hid hv1
      have HLU := hid hlu
      clear hv1 hlu
      go_wp2_with fail
      refine (divideByWord_any _ _ _ _ us 1000000000 wr ho hwu (by omega) ⟨by omega, by omega⟩).mono ?_
      rintro e w2 ⟨r, qs, rfl, r0, r1, oq, hwq, hvq, hg2⟩
      have hop2 := hop.kept hg2 (by
        cases e : u4.ownBlock with
        | none => exact .inl rfl
        | some g => right; intro e2; have := hop.lt g e; simp at e2; omega)
      have hgs := hg2.size
      have hgl2 : gl < w2.heap.size := (World.ownsRow.lt oq gl rfl).2
      have hbs := hb.size
      have hb2 : Below w.heap.size w w2 := hb.grown hg2 (by omega) (fun k hk => by simp at hk; omega)
      obtain ⟨R, hR⟩ : ∃ R, R = ps.map (Value.int .u32) := ⟨_, rfl⟩
      have HM : Hid ((ps ++ [r]).map (Value.int .u32) = R ++ [.int .u32 r]) := by show _ = _; rw [hR]; simp
      rw [← hR] at hop2
      have HOQ := hid oq
      have HVQ := hid hvq
      clear hR hop ho hg2 hb oq hvq
      go_wp2_with (at_builtin; refine wpList_append_own _ rfl _ _ 22 rfl (gl + 1) 47 i0 (.int .u32 0) 1 4 Tryd.underlying22 hi hz0 hz1 hz2 rfl (by decide) _ _ _ rfl (hop2.alloc _) ⟨w2.heap.size, 0, none⟩ 1 1 [.int .u32 r] rfl rfl (cell_one_new _ _ _) (by simp [Value.oneCell']) (by unfold maxLen; omega) (by omega) (by simp; omega) ?_)
      intro v3 w3 op3 hg3 _
      have hb3 : Below w.heap.size w w3 := (hb2.alloc (by omega) _).grown hg3 (by simp; omega) (fun g hg => by have := hop2.lt g hg; omega)
      have oq3 : OwnC w3 w.heap.size gl (n + 1) cl qs := by
        have := World.ownsRow.kept (World.ownsRow.alloc HOQ.out (.cells #[.int .u32 r] 47)) hg3 (by
          right
          intro e
          have := hop2.lt gl e.symm
          omega)
        exact this
      have sx := sz_le qs
      rw [oq3.len] at sx
      have hr3 : Reads w3 w3.heap.size (some ⟨gl, 0, none⟩) (n + 1) cl qs := by
        obtain ⟨a, cap, hv, hr⟩ := Reads.own oq3 hwq
        simp only [Value.slice.injEq] at hv
        obtain ⟨rfl, _, rfl⟩ := hv
        exact hr
      have HQ3 := hid (oq3.take (sz qs) sx)
      have HP3 := hid op3
      have HR3 := hid hr3
      have hc3 := oq3.cap
      have hc4 : cl ≤ 9223372036854775807 := hcl3
      clear hg3 op3 oq3 hr3 hop2 hc3
      go_wp2_with fail
      refine (size_any _ _ _ qs _ _ HR3.out (by omega)).mono ?_
      rintro e w4 ⟨rfl, rfl⟩
      have e1 : val us = val qs * 1000000000 + r := HVQ.out
      have HKK' : Hid (((val qs).toNat : Int) = val (trimmed qs)) := by show _ = _; rw [val_trimmed]; have := val_nonneg hwq; omega
      have HV' : Hid (val xs = pval (ps ++ [r]) + val (trimmed qs) * 1000000000 ^ (ps ++ [r]).length) := by
        show _ = _
        rw [val_trimmed, pval_snoc, HV.out, e1, List.length_append, List.length_singleton, Int.pow_succ, Int.add_mul, Int.mul_assoc, Int.mul_comm 1000000000 (1000000000 ^ ps.length), ← Int.mul_assoc]
        omega
      have HL' : Hid (sz qs = 0 → 0 < (ps ++ [r]).length ∧ 0 < (ps ++ [r])[(ps ++ [r]).length - 1]?.getD 0) := fun e0 => by
        refine ⟨by simp, ?_⟩
        have e2 : val qs = 0 := by rw [val_sz, e0]; rfl
        have := HW1.out
        simp
        omega
      have hless : (val qs).toNat < gk := by have := HKK.out; have := HW1.out; have := val_nonneg hwq; omega
      have HLS := hid hless
      have HPL : Hid ((ps ++ [r]).length ≤ 9040) := by show _ ≤ _; simp; omega
      have HPP : Hid (w3.ownsRow (gl + 1) 47 1 v3 (ps ++ [r]).length ((ps ++ [r]).map (Value.int .u32))) := by
        show World.ownsRow _ _ _ _ _ _ _
        rw [HM.out, List.length_append, List.length_singleton]
        exact HP3.out
      clear e1 hless HP3
      go_wp2_with fail
      go_roundg (val qs).toNat
      case measure => exact HLS.out
      case rel => exact ⟨sz qs, trimmed qs, ps ++ [r], rfl, by omega, HQ3.out, hwq.trimmed, Trimmed.trimmed _, HKK', HPP.out, hpc.snoc ⟨r0, r1⟩, HV', HPL.out, HL', hb3⟩
end Go.Proofs.YtgimgagnfkinmaaDoor

/- nat.Print tells the decimal digits of a number's value, or its error: of every list that can be read, where the library's table of powers of ten stands as its text lays it. -/
namespace Go.Proofs.YtgimgagnfkinmaaDoor
open Go.RowKit Go.Lib
set_option linter.unusedVariables false

/-- Nine digits, noughts ahead. -/
def pad : Nat → Nat → List UInt8
  | 0, _ => []
  | k + 1, p => pad k (p / 10) ++ [UInt8.ofNat (48 + p % 10)]
theorem digits_pad (hi : Nat) (h : 1 ≤ hi) : ∀ (k p : Nat), p < 10 ^ k → decDigits (hi * 10 ^ k + p) = decDigits hi ++ pad k p
  | 0, p, hp => by
    have : p = 0 := by simpa using hp
    subst this; simp [pad]
  | k + 1, p, hp => by
    have hk : 1 ≤ 10 ^ k := Nat.one_le_pow _ _ (by decide)
    have e1 : hi * 10 ^ (k + 1) = hi * 10 ^ k * 10 := by rw [Nat.pow_succ, Nat.mul_assoc]
    have h2 : hi ≤ hi * 10 ^ k := Nat.le_mul_of_pos_right hi hk
    have hge : ¬ hi * 10 ^ (k + 1) + p < 10 := by omega
    rw [decDigits, dif_neg hge]
    have e2 : (hi * 10 ^ (k + 1) + p) / 10 = hi * 10 ^ k + p / 10 := by omega
    have e3 : (hi * 10 ^ (k + 1) + p) % 10 = p % 10 := by omega
    rw [e2, e3, digits_pad hi h k (p / 10) (by rw [Nat.pow_succ] at hp; omega), pad, List.append_assoc]
theorem pad_eq : ∀ (k p : Nat), p < 10 ^ (k + 1) → pad (k + 1) p = List.replicate (k + 1 - nDigits p) 48 ++ decDigits p ∧ nDigits p ≤ k + 1
  | 0, p, hp => by
    have h10 : p < 10 := by simpa using hp
    rw [nDigits_small h10, decDigits_one h10]
    refine ⟨?_, Nat.le_refl _⟩
    simp [pad]
    congr 1
    omega
  | k + 1, p, hp => by
    by_cases h10 : p < 10
    · have ih := pad_eq k (p / 10) (by rw [Nat.pow_succ] at hp; omega)
      have e0 : p / 10 = 0 := by omega
      rw [e0, nDigits_small (by omega), decDigits_one (by omega)] at ih
      rw [nDigits_small h10, decDigits_one h10]
      refine ⟨?_, by omega⟩
      show pad (k + 1) (p / 10) ++ _ = _
      rw [e0, ih.1]
      have e1 : k + 1 + 1 - 1 = (k + 1 - 1) + 1 := by omega
      rw [e1, List.replicate_succ', show p % 10 = p by omega]
      rfl
    · have ih := pad_eq k (p / 10) (by rw [Nat.pow_succ] at hp; omega)
      rw [nDigits_big h10]
      refine ⟨?_, by omega⟩
      show pad (k + 1) (p / 10) ++ _ = _
      rw [ih.1, decDigits.eq_def p, dif_neg h10, List.append_assoc]
      congr 2
      omega

theorem repeat_noughts : ∀ c, repeatL [48] c = List.replicate c 48
  | 0 => rfl
  | c + 1 => by show [48] ++ repeatL [48] c = _; rw [repeat_noughts c]; rfl

/-- The digits of the pieces from place k on. -/
theorem piece_step (ps : List Int) (hp : Pc ps) (k : Nat) (hk : k + 1 < ps.length) (htop : 0 < ps[ps.length - 1]?.getD 0) :
    decDigits (pval (ps.drop k)).toNat = decDigits (pval (ps.drop (k + 1))).toNat ++ (List.replicate (9 - nDigits (ps[k]?.getD 0).toNat) 48 ++ decDigits (ps[k]?.getD 0).toNat) ∧ nDigits (ps[k]?.getD 0).toNat ≤ 9 := by
  have hb := hp.at k
  have e1 : ps.drop k = ps[k]?.getD 0 :: ps.drop (k + 1) := by
    rw [List.drop_eq_getElem_cons (by omega), List.getElem?_eq_getElem (by omega)]; rfl
  have hpc : Pc (ps.drop (k + 1)) := fun q hq => hp q (List.mem_of_mem_drop hq)
  have hpos : 1 ≤ pval (ps.drop (k + 1)) := by
    have main : ∀ l : List Int, Pc l → 0 < l.length → 0 < l[l.length - 1]?.getD 0 → 1 ≤ pval l := by
      intro l
      induction l with
      | nil => intro _ h; simp at h
      | cons q l ih =>
        intro hc _ ht
        have hq := hc q List.mem_cons_self
        show 1 ≤ q + pval l * 1000000000
        rcases l with _ | ⟨q2, l⟩
        · simp at ht; simp [pval]; omega
        · have := ih (fun x hx => hc x (List.mem_cons_of_mem _ hx)) (by simp) (by simpa using ht)
          omega
    refine main _ hpc (by rw [List.length_drop]; omega) ?_
    rw [List.getElem?_drop, List.length_drop, show k + 1 + (ps.length - (k + 1) - 1) = ps.length - 1 by omega]
    exact htop
  have e2 : (pval (ps.drop k)).toNat = (pval (ps.drop (k + 1))).toNat * 10 ^ 9 + (ps[k]?.getD 0).toNat := by
    rw [e1]
    show (ps[k]?.getD 0 + pval (ps.drop (k + 1)) * 1000000000).toNat = _
    omega
  have pe := pad_eq 8 (ps[k]?.getD 0).toNat (by omega)
  rw [e2, digits_pad _ (by omega) 9 _ (by omega), pe.1]
  exact ⟨rfl, pe.2⟩

theorem builder_later {T e B b : Nat} {bs : List Value} {w w' : World} (h : IsBuilder T e B b bs w) (hb : Below w.heap.size w w') : IsBuilder T e B b bs w' := by
  have main : ∀ p, BuilderAt T e B b p bs w → BuilderAt T e B b p bs w' := by
    intro p h
    have hlt := h.lt
    obtain ⟨hB, v, hbk, hown, hne⟩ := h
    exact ⟨hB, v, (hb.block b hlt).trans hbk, owns_later hown hb, hne⟩
  exact h.imp (main _) (main _)
theorem builder_lt {T e B b : Nat} {bs : List Value} {w : World} (h : IsBuilder T e B b bs w) : b < w.heap.size := by
  rcases h with h | h
  · exact h.lt
  · exact h.lt

theorem ret_text {a b : ByteArray} {c d : Int} (h : a = b) (g : c = d) : Ending.returned (.tuple #[.string a, .int .i64 c]) = .returned (.tuple #[.string b, .int .i64 d]) := by rw [h, g]

set_option maxHeartbeats 6400000 in
set_option maxRecDepth 100000 in
theorem print_any (v : Value) (xs : List Int) (w : World) (h : Sl w v xs) (hn : xs.length ≤ 281474976710656) (htab : Tab w) :
    Calls Tryd.prog 9 #[v] w fun e w' => e = .returned (.tuple #[.string (if chk xs = 0 then ⟨(decDigits (val xs).toNat).toArray⟩ else ⟨#[]⟩), .int .i64 (chk xs)]) ∧ Below w.heap.size w w' := by
  by_cases hc : chk xs = 0
  · have HC := hid (check_sl v xs w h hn)
    rw [hc] at HC ⊢
    rw [if_pos rfl]
    have l1 := (chk_ok hc).1
    have t1 := (chk_ok hc).2
    have wx := h.wd
    clear hc
    by_cases h0 : xs.length = 0
    · have hx : xs = [] := List.eq_nil_of_length_eq_zero h0
      have HF : Hid ((⟨(decDigits (val xs).toNat).toArray⟩ : ByteArray) = ⟨#[48]⟩) := by
        show _ = _
        rw [hx, val_nil, show Int.toNat 0 = 0 from rfl, decDigits_one (by decide)]
        rfl
      obtain ⟨a, cap, rfl, hr⟩ := h
      have hz : ((xs.length : Int) == 0) = true := by simp [hx]
      clear hx h0 hr t1
      go_enter Tryd.func9, Tryd.ntmps9
      go_wp2_with fail
      refine Calls.mono HC.out ?_
      rintro e w' ⟨rfl, rfl⟩
      go_wp2_with fail
      go_ret2
      exact ⟨ret_text HF.out.symm rfl, Below.refl _ _⟩
    · have hz : ((xs.length : Int) == 0) = false := by simp; exact fun e => h0 (by simp [e])
      have HS := hid (split_any v xs w h l1 t1 (by omega))
      have HT := hid htab
      obtain ⟨a, cap, rfl, hr⟩ := h
      clear hr t1 h0 htab
      go_enter Tryd.func9, Tryd.ntmps9
      go_wp2_with fail
      refine Calls.mono HC.out ?_
      rintro e w' ⟨rfl, rfl⟩
      go_wp2_with fail
      refine Calls.mono HS.out ?_
      rintro e w1 ⟨vp, ps, rfl, op, hpc, hpv, hp0, hp1, htop, hb1⟩
      obtain ⟨gp, cp, hvp, hcp1, hcp2⟩ := own_shape' op hp0
      rw [hvp] at op ⊢
      have hgp := op.lt gp rfl
      have hcell : ∀ j, j < ps.length → w1.cell? ⟨gp, j, none⟩ = some (.int .u32 (ps[j]?.getD 0)) := fun j hj => by
        rw [op.cellAt j (by omega), List.getElem?_map, List.getElem?_eq_getElem hj]; rfl
      have HCE := hid hcell
      have HPV := hid hpv
      have HTP := hid htop
      obtain ⟨K, hK⟩ : ∃ K, K = ps.length := ⟨_, rfl⟩
      have HK := hid hK
      rw [← hK] at hp0 hp1 hcp1 ⊢
      have hs1 := hb1.size
      have hcp3 : cp ≤ 9223372036854775807 := by unfold maxLen at hcp2; omega
      obtain ⟨b, hb⟩ : ∃ b, b = w1.heap.size := ⟨_, rfl⟩
      have HBB : Hid (IsBuilder 56 5 b b (byteCells []) (w1.alloc (.cells #[.pointer none, .slice none 0 0] 56))) := by
        left
        exact ⟨Nat.le_refl _, .slice none 0 0, by rw [hb]; exact heap_alloc_new w1 _, World.ownsRow_nil _ _ _ _, by simp [Value.ownBlock]⟩
      have hbA : Below w.heap.size w (w1.alloc (.cells #[.pointer none, .slice none 0 0] 56)) := hb1.alloc hs1 _
      have hbB : Below b w1 (w1.alloc (.cells #[.pointer none, .slice none 0 0] 56)) := (Below.refl _ _).alloc (by omega) _
      have hgpb : gp < b := by omega
      have hwb : w.heap.size ≤ b := by omega
      clear op hcell hpv htop hK hcp2 hvp hs1 HS HC
      go_wp2_with fail
      rw [← hb]
      clear hb
      go_loopw [7] (fun t wr => ∃ (k : Nat) (txt : List UInt8), k ≤ K ∧ t = .int .i64 ((k : Int) - 1) ∧ Hid (k < K → txt = decDigits (pval (ps.drop k)).toNat) ∧ Hid (k = K → txt = []) ∧ txt.length ≤ 9 * (K - k) ∧
        IsBuilder 56 5 b b (byteCells txt) wr ∧ Below w.heap.size w wr ∧ Below b w1 wr) (fun t _ => (RowKit.intOf t + 1).toNat)
      case atStart => exact ⟨K, [], Nat.le_refl _, rfl, fun e => by omega, fun _ => rfl, by simp, HBB.out, hbA, hbB⟩
      case round =>
        obtain ⟨k, txt, hk, rfl, HX, HY, hlen, hbu, hb2, hb3⟩ := hrel
        have hblt := builder_lt hbu
        rcases k with _ | k
        · have HX' : Hid (txt = decDigits (val xs).toNat) := by
            show _ = _
            rw [HX.out hp0, List.drop_zero, HPV.out]
          clear HX HY
          go_wp2_with fail
          refine (Tryd.Builder_String_any b b txt wr hbu (by omega)).mono ?_
          rintro e w3 ⟨rfl, hb4⟩
          have hbF : Below w.heap.size w w3 := hb2.trans (hb4.mono hwb)
          go_wp2_with fail
          go_ret2
          exact ⟨ret_text (by rw [HX'.out]) rfl, hbF⟩
        · have ek : (((k + 1 : Nat) : Int) - 1) = (k : Int) := by omega
          rw [ek]
          clear ek
          have bp := hpc.at k
          have x1 : wr.cell? ⟨gp, k, none⟩ = some (.int .u32 (ps[k]?.getD 0)) := (hb3.cell (p := ⟨gp, k, none⟩) hgpb).trans (HCE.out k (by have := HK.out; omega))
          obtain ⟨p, hp⟩ : ∃ p : Nat, (p : Int) = ps[k]?.getD 0 := ⟨(ps[k]?.getD 0).toNat, by omega⟩
          rw [← hp] at x1 bp
          have hp9 : p < 1000000000 := by omega
          have HP := hid hp
          have htw := HT.out.later hb2
          clear hp bp
          go_wp2_with fail
          refine (format_any p (by omega) wr htw).mono ?_
          rintro e w4 ⟨rfl, hb4⟩
          have hnd : nDigits p ≤ 9 := (pad_eq 8 p (by omega)).2
          obtain ⟨S, hS⟩ : ∃ S : ByteArray, S = ⟨(decDigits p).toArray⟩ := ⟨_, rfl⟩
          have hSs : S.size = nDigits p := by rw [hS, ← decDigits_length]; exact List.size_toArray
          rw [← hS]
          have hSn : S.size ≤ 9 := by omega
          have HSE := hid hS
          have HSS := hid hSs
          have hbu4 := builder_later hbu hb4
          have hs4 := hb4.size
          have hb24 : Below w.heap.size w w4 := bt hb2 hb4
          have hb34 : Below b w1 w4 := hb3.trans (hb4.mono (by omega))
          clear hS hSs hbu hb4 htw x1 hb2 hb3
          by_cases hlast : k + 1 < K
          · have hli : (k : Int) < (K : Int) - 1 := by omega
            go_wp2_with fail
            rw [show (9 : Int) - (S.size : Int) = ((9 - S.size : Nat) : Int) by omega]
            refine (Tryd.strings_Repeat ⟨#[48]⟩ (9 - S.size) w4 (by omega) (by show 1 * _ ≤ _; omega)).mono ?_
            rintro e w5 ⟨rfl, hb5⟩
            have hbu5 := builder_later hbu4 hb5
            have hs5 := hb5.size
            obtain ⟨Z, hZ⟩ : ∃ Z : ByteArray, Z = ⟨(repeatL [48] (9 - S.size)).toArray⟩ := ⟨_, rfl⟩
            have hZs : Z.size = 9 - S.size := by rw [hZ]; show (repeatL [48] (9 - S.size)).toArray.size = _; rw [List.size_toArray, repeatL_length]; simp
            have hZ' : Z = ⟨(repeatL (ByteArray.mk #[48]).data.toList (9 - S.size)).toArray⟩ := hZ
            rw [← hZ']
            have HZE := hid hZ
            have hb25 : Below w.heap.size w w5 := bt hb24 hb5
            have hb35 : Below b w1 w5 := hb34.trans (hb5.mono (by omega))
            have HZS := hid hZs
            have hz9 : Z.size ≤ 9 := by omega
            clear hZ hZ' hZs hbu4 hb5 hb24 hb34
            go_wp2_with fail
            refine (Tryd.Builder_WriteString b b (byteCells txt) Z w5 hbu5 (by rw [byteCells_length]; omega) (by omega)).mono ?_
            rintro e w6 ⟨rfl, hbu6, hb6⟩
            have hs6 := hb6.size
            have hb26 : Below w.heap.size w w6 := hb25.trans (hb6.mono hwb)
            have hb36 : Below b w1 w6 := hb35.trans hb6
            rw [strCells_eq, ← byteCells_append] at hbu6
            clear hbu5 hb6 hb25 hb35
            go_wp2_with fail
            refine (Tryd.Builder_WriteString b b (byteCells (txt ++ Z.data.toList)) S w6 (.inr hbu6) (by have e1 : Z.data.toList.length = Z.size := Array.length_toList; rw [byteCells_length, List.length_append]; omega) (by omega)).mono ?_
            rintro e w7 ⟨rfl, hbu7, hb7⟩
            have hb27 : Below w.heap.size w w7 := hb26.trans (hb7.mono hwb)
            have hb37 : Below b w1 w7 := hb36.trans hb7
            rw [strCells_eq, ← byteCells_append] at hbu7
            have HB7 := hid (show IsBuilder 56 5 b b (byteCells (txt ++ Z.data.toList ++ S.data.toList)) w7 from .inr hbu7)
            have HTX : Hid (txt ++ Z.data.toList ++ S.data.toList = decDigits (pval (ps.drop k)).toNat) := by
              show _ = _
              have st := piece_step ps hpc k (by have := HK.out; omega) HTP.out
              have ep : (ps[k]?.getD 0).toNat = p := by have := HP.out; omega
              rw [ep] at st
              rw [st.1, HX.out hlast, HZE.out, HSS.out, HSE.out, repeat_noughts, List.append_assoc]
            have HLN : Hid ((txt ++ Z.data.toList ++ S.data.toList).length ≤ 9 * (K - k)) := by
              show _ ≤ _
              have e1 : Z.data.toList.length = Z.size := Array.length_toList
              have e2 : S.data.toList.length = S.size := Array.length_toList
              have := HZS.out
              rw [List.length_append, List.length_append]
              omega
            clear hbu6 hbu7 hb7 hb26 hb36 HX HY
            go_wp2_with fail
            go_roundw
            case rel => exact ⟨k, _, by omega, rfl, fun _ => HTX.out, fun e => by omega, HLN.out, HB7.out, hb27, hb37⟩
            case measure => simp [RowKit.intOf]
          · have hkK : k + 1 = K := by omega
            have hli : ¬ (k : Int) < (K : Int) - 1 := by omega
            have htx : txt = [] := HY.out hkK
            go_wp2_with fail
            refine (Tryd.Builder_WriteString b b (byteCells txt) S w4 hbu4 (by rw [byteCells_length]; omega) (by omega)).mono ?_
            rintro e w5 ⟨rfl, hbu5, hb5⟩
            rw [strCells_eq, ← byteCells_append] at hbu5
            have hb25 : Below w.heap.size w w5 := hb24.trans (hb5.mono hwb)
            have hb35 : Below b w1 w5 := hb34.trans hb5
            have HB5 := hid (show IsBuilder 56 5 b b (byteCells (txt ++ S.data.toList)) w5 from .inr hbu5)
            have HTX : Hid (txt ++ S.data.toList = decDigits (pval (ps.drop k)).toNat) := by
              show _ = _
              have ed : ps.drop k = [ps[k]?.getD 0] := by
                rw [List.drop_eq_getElem_cons (by have := HK.out; omega), List.getElem?_eq_getElem (by have := HK.out; omega), List.drop_eq_nil_of_le (by have := HK.out; omega)]; rfl
              have ep : (ps[k]?.getD 0).toNat = p := by have := HP.out; omega
              rw [htx, ed, HSE.out]
              simp [pval, ep]
            have HLN : Hid ((txt ++ S.data.toList).length ≤ 9 * (K - k)) := by
              show _ ≤ _
              have e2 : S.data.toList.length = S.size := Array.length_toList
              rw [List.length_append, htx]
              simp
              omega
            clear hbu4 hbu5 hb5 hb24 hb34 HX HY htx
            go_wp2_with fail
            go_roundw
            case rel => exact ⟨k, _, by omega, rfl, fun _ => HTX.out, fun e => by omega, HLN.out, HB5.out, hb25, hb35⟩
            case measure => simp [RowKit.intOf]
  · have hne : (chk xs != 0) = true := by simp [hc]
    rw [if_neg hc]
    clear hc
    go_enter Tryd.func9, Tryd.ntmps9
    go_wp2_with fail
    refine (check_sl v xs w h hn).mono ?_
    rintro e w' ⟨rfl, rfl⟩
    go_wp2
    go_ret2
    exact ⟨rfl, Below.refl _ _⟩
end Go.Proofs.YtgimgagnfkinmaaDoor

/- nat.Parse reads decimal digits, or tells the error: of every text. -/
namespace Go.Proofs.YtgimgagnfkinmaaDoor
open Go.RowKit
set_option linter.unusedVariables false

/-- Digits alone. -/
def Dg (l : List UInt8) : Prop := ∀ c ∈ l, 48 ≤ (c.toNat : Int) ∧ (c.toNat : Int) ≤ 57
/-- The text of a number: digits alone, no nought ahead. -/
def IsNum (l : List UInt8) : Prop := 0 < l.length ∧ (l[0]?.getD 0 = 48 → l.length ≤ 1) ∧ Dg l

theorem byte_at (s : ByteArray) (k : Nat) (h : k < s.size) : s.data.toList[k]? = some s[k] := by
  have : k < s.data.toList.length := by simpa using h
  rw [List.getElem?_eq_getElem this]; rfl
theorem size_list (s : ByteArray) : s.data.toList.length = s.size := Array.length_toList
theorem mem_at {l : List UInt8} {c : UInt8} (h : c ∈ l) : ∃ k : Nat, k < l.length ∧ l[k]? = some c := by
  obtain ⟨k, hk, e⟩ := List.getElem_of_mem h
  exact ⟨k, hk, by rw [List.getElem?_eq_getElem hk, e]⟩

open Classical in
set_option maxHeartbeats 1600000 in
set_option maxRecDepth 100000 in
theorem isNumber_loop (s : ByteArray) (w : World) (hs : s.size ≤ 65536) (hp : 0 < s.size) (hem : s.toList.isEmpty = false) (hz : ((s[0].toNat : Int) = 48 ∧ s.size = 1) ∨ ¬ (s[0].toNat : Int) = 48) (H1 : Hid (s.data.toList[0]?.getD 0 = 48 → s.data.toList.length ≤ 1)) :
    Calls Tryd.prog 42 #[.string s] w fun e w' => e = .returned (.bool (decide (IsNum s.data.toList))) ∧ w = w' := by
  have hl := size_list s
  have HL := hid hl
  have hen : ¬ s.toList = [] := fun e => by rw [e] at hem; simp at hem
  have hb : ((s[0].toNat : Int) == 48) = true ∧ ¬ 1 < s.size ∨ ((s[0].toNat : Int) == 48) = false := by
    rcases hz with ⟨h1, h2⟩ | h1
    · left; exact ⟨by simp [h1], by omega⟩
    · right; simp [h1]
  clear hl hz
  rcases hb with ⟨c0b, c1⟩ | c0b
  all_goals
    go_enter Tryd.func42, Tryd.ntmps42
    go_wp2_with fail
    go_loop [18] (fun t => ∃ k : Nat, k ≤ s.size ∧ t = .int .i64 k ∧ Hid (∀ j : Nat, j < k → 48 ≤ ((s.data.toList[j]?.getD 0).toNat : Int) ∧ ((s.data.toList[j]?.getD 0).toNat : Int) ≤ 57)) (fun t => s.size - (intOf t).toNat)
    case atStart => exact ⟨0, by omega, rfl, fun j hj => by omega⟩
    case round =>
      obtain ⟨k, hk, rfl, HJ⟩ := hrel
      by_cases hlt : k < s.size
      · have bk := byte_at s k hlt
        by_cases d1 : (s[k].toNat : Int) < 48
        · have HF : Hid (decide (IsNum s.data.toList) = false) := decide_eq_false (fun h => by
            have := h.2.2 _ (List.mem_of_getElem? bk)
            omega)
          clear bk
          go_wp2_with fail
          go_ret
          exact ⟨ret_bool HF.out.symm, rfl⟩
        · by_cases d2 : 57 < (s[k].toNat : Int)
          · have HF : Hid (decide (IsNum s.data.toList) = false) := decide_eq_false (fun h => by
              have := h.2.2 _ (List.mem_of_getElem? bk)
              omega)
            clear bk
            go_wp2_with fail
            go_ret
            exact ⟨ret_bool HF.out.symm, rfl⟩
          · have HJ' : Hid (∀ j : Nat, j < k + 1 → 48 ≤ ((s.data.toList[j]?.getD 0).toNat : Int) ∧ ((s.data.toList[j]?.getD 0).toNat : Int) ≤ 57) := fun j hj => by
              by_cases e : j = k
              · rw [e, bk]; show 48 ≤ (s[k].toNat : Int) ∧ (s[k].toNat : Int) ≤ 57; omega
              · exact HJ.out j (by omega)
            clear bk
            go_wp2_with fail
            go_round
            case rel => exact ⟨k + 1, by omega, by go_num, HJ'⟩
            case measure => simp [intOf]; omega
      · have HF : Hid (decide (IsNum s.data.toList) = true) := decide_eq_true (by
          refine ⟨by have := HL.out; omega, H1.out, fun c hc => ?_⟩
          obtain ⟨j, hj, e⟩ := mem_at hc
          have := HJ.out j (by have := HL.out; omega)
          rw [e] at this
          exact this)
        go_wp2_with fail
        go_ret
        exact ⟨ret_bool HF.out.symm, rfl⟩

open Classical in
set_option maxHeartbeats 1600000 in
set_option maxRecDepth 100000 in
theorem isNumber_any (s : ByteArray) (w : World) (hs : s.size ≤ 65536) :
    Calls Tryd.prog 42 #[.string s] w fun e w' => e = .returned (.bool (decide (IsNum s.data.toList))) ∧ w = w' := by
  have hl := size_list s
  by_cases h0 : s.size = 0
  · have HF : Hid (decide (IsNum s.data.toList) = false) := decide_eq_false (fun h => by have := h.1; omega)
    have hse : s = ⟨#[]⟩ := by
      obtain ⟨d⟩ := s
      have : d = #[] := Array.eq_empty_of_size_eq_zero h0
      rw [this]
    subst hse
    clear h0 hl
    go_enter Tryd.func42, Tryd.ntmps42
    go_wp2
    go_ret
    exact ⟨ret_bool HF.out.symm, rfl⟩
  · have hp : 0 < s.size := by omega
    have b0 := byte_at s 0 hp
    have hem : s.toList.isEmpty = false := by
      rw [ByteArray.toList_eq]
      cases hx : s.data.toList with
      | nil => rw [hx] at hl; simp at hl; omega
      | cons _ _ => rfl
    have hen : ¬ s.toList = [] := fun e => by rw [e] at hem; simp at hem
    by_cases c0 : (s[0].toNat : Int) = 48
    · have c0b : ((s[0].toNat : Int) == 48) = true := by simp [c0]
      have hc48 : s[0] = 48 := UInt8.toNat_inj.1 (by show s[0].toNat = 48; omega)
      by_cases c1 : 1 < s.size
      · have HF : Hid (decide (IsNum s.data.toList) = false) := decide_eq_false (fun h => by
          have := h.2.1 (by rw [b0, hc48]; rfl)
          omega)
        clear hl h0 b0 hen hc48
        go_enter Tryd.func42, Tryd.ntmps42
        go_wp2_with fail
        go_ret
        exact ⟨ret_bool HF.out.symm, rfl⟩
      · have H1 : Hid (s.data.toList[0]?.getD 0 = 48 → s.data.toList.length ≤ 1) := fun _ => by omega
        exact isNumber_loop s w hs hp hem (.inl ⟨c0, by omega⟩) H1
    · have H1 : Hid (s.data.toList[0]?.getD 0 = 48 → s.data.toList.length ≤ 1) := fun e => by
        rw [b0] at e
        have e : s[0] = 48 := e
        exact absurd (by rw [e]; rfl) c0
      exact isNumber_loop s w hs hp hem (.inr c0) H1

/-- The number of the first k digits. -/
def numTo (l : List UInt8) : Nat → Int
  | 0 => 0
  | k + 1 => numTo l k * 10 + (((l[k]?.getD 48).toNat : Int) - 48)
theorem numTo_bounds {l : List UInt8} (hd : Dg l) : ∀ k, 0 ≤ numTo l k ∧ numTo l k < 10 ^ k
  | 0 => ⟨Int.le_refl _, by simp [numTo]⟩
  | k + 1 => by
    obtain ⟨h0, h1⟩ := numTo_bounds hd k
    have hc : 48 ≤ ((l[k]?.getD 48).toNat : Int) ∧ ((l[k]?.getD 48).toNat : Int) ≤ 57 := by
      by_cases hk : k < l.length
      · rw [List.getElem?_eq_getElem hk]; exact hd _ (List.getElem_mem hk)
      · rw [List.getElem?_eq_none (by omega)]; decide
    show 0 ≤ numTo l k * 10 + _ ∧ numTo l k * 10 + _ < _
    rw [Int.pow_succ]
    omega
theorem numTo_congr (l l' : List UInt8) : ∀ k, (∀ j, j < k → l[j]?.getD 48 = l'[j]?.getD 48) → numTo l k = numTo l' k
  | 0, _ => rfl
  | k + 1, h => by
    show numTo l k * 10 + _ = numTo l' k * 10 + _
    rw [numTo_congr l l' k (fun j hj => h j (by omega)), h k (by omega)]
theorem numTo_add (l : List UInt8) (m : Nat) : ∀ n, numTo l (m + n) = numTo l m * 10 ^ n + numTo (l.drop m) n
  | 0 => by simp [numTo]
  | n + 1 => by
    have ih := numTo_add l m n
    show numTo l (m + n) * 10 + _ = numTo l m * 10 ^ (n + 1) + (numTo (l.drop m) n * 10 + _)
    rw [ih, Int.pow_succ, List.getElem?_drop, Int.add_mul, Int.mul_assoc, Int.add_assoc]
    rfl
theorem Dg.drop {l : List UInt8} (h : Dg l) (k : Nat) : Dg (l.drop k) := fun c hc => h c (List.mem_of_mem_drop hc)
theorem Dg.take {l : List UInt8} (h : Dg l) (k : Nat) : Dg (l.take k) := fun c hc => h c (List.mem_of_mem_take hc)

set_option maxHeartbeats 1600000 in
set_option maxRecDepth 100000 in
theorem wordOf_any (s : ByteArray) (w : World) (hs : s.size ≤ 9) (hd : Dg s.data.toList) :
    Calls Tryd.prog 72 #[.string s] w fun e w' => e = .returned (.int .u32 (numTo s.data.toList s.size)) ∧ w = w' := by
  have HD := hid hd
  clear hd
  go_enter Tryd.func72, Tryd.ntmps72
  go_wp2_with fail
  go_loop [3, 7] (fun x t => ∃ (k : Nat) (y : Int), k ≤ s.size ∧ t = .int .i64 k ∧ x = .int .u32 y ∧ Hid (y = numTo s.data.toList k)) (fun _ t => s.size - (intOf t).toNat)
  case atStart => exact ⟨0, 0, by omega, rfl, rfl, rfl⟩
  case round =>
    obtain ⟨k, y, hk, rfl, rfl, HY⟩ := hrel
    by_cases hlt : k < s.size
    · have bk := byte_at s k hlt
      have hb : 48 ≤ (s[k].toNat : Int) ∧ (s[k].toNat : Int) ≤ 57 := HD.out _ (List.mem_of_getElem? bk)
      have hy := numTo_bounds HD.out k
      rw [← HY.out] at hy
      have hp : (10 : Int) ^ k ≤ 10 ^ 8 := by
        obtain ⟨d, hd⟩ : ∃ d, 8 = k + d := ⟨8 - k, by omega⟩
        rw [hd, Int.pow_add]
        have h1 : (0 : Int) < 10 ^ k := Int.pow_pos (by decide)
        have h2 : (0 : Int) < 10 ^ d := Int.pow_pos (by decide)
        have h3 : (10 : Int) ^ k * 1 ≤ 10 ^ k * 10 ^ d := Int.mul_le_mul_of_nonneg_left (by omega) (by omega)
        omega
      have hy0 : 0 ≤ y := hy.1
      have hy1 : y < 100000000 := by have := hy.2; omega
      have hb0 := hb.1
      have hb1 := hb.2
      have HY' : Hid (y * 10 + ((s[k].toNat : Int) - 48) = numTo s.data.toList (k + 1)) := by
        show _ = numTo s.data.toList k * 10 + _
        rw [bk, ← HY.out]; rfl
      clear hy hp hb bk HY
      go_wp2
      go_round
      case rel => exact ⟨k + 1, _, by omega, by go_num, rfl, HY'.out⟩
      case measure => simp [intOf]; omega
    · have hkn : k = s.size := by omega
      go_wp2
      go_ret
      exact ⟨ret_int (by rw [HY.out, hkn]), rfl⟩
end Go.Proofs.YtgimgagnfkinmaaDoor

/- nat.timesPiece, nat.join: the number of digits, piece by piece, in new memory. -/
namespace Go.Proofs.YtgimgagnfkinmaaDoor
open Go.RowKit
set_option linter.unusedVariables false

theorem times_step (ys us : List Int) (k : Nat) (x c t : Int) (hk : k < us.length) (ht : c + ys[k]?.getD 0 * 1000000000 = t)
    (h : valTo us k + c * 4294967296 ^ k = valTo ys k * 1000000000 + x) :
    valTo (us.set k (t % 4294967296)) (k + 1) + t / 4294967296 * 4294967296 ^ (k + 1) = valTo ys (k + 1) * 1000000000 + x := by
  rw [valTo_set us k _ hk, valTo_succ, pw_succ]
  have e := carry_step (4294967296 ^ k) (t % 4294967296) (t / 4294967296) t (by omega)
  have e2 : t * 4294967296 ^ k = c * 4294967296 ^ k + ys[k]?.getD 0 * 4294967296 ^ k * 1000000000 := by
    rw [← ht, Int.add_mul, Int.mul_assoc, Int.mul_comm 1000000000, ← Int.mul_assoc]
  omega
theorem val_snoc (us : List Int) (z : Int) : val (us ++ [z]) = val us + z * 4294967296 ^ us.length := by
  unfold val
  rw [List.length_append, List.length_singleton, valTo_succ, valTo_congr (us ++ [z]) us us.length (fun j hj => by rw [List.getElem?_append_left hj])]
  simp

set_option maxHeartbeats 3200000 in
set_option maxRecDepth 100000 in
theorem timesPiece_any (base n : Nat) (v : Value) (ys : List Int) (x : Int) (w : World) (ho : w.ownsRow base 47 1 v n (ys.map (Value.int .u32))) (hwy : Wd ys) (hn : n ≤ 1000000) (hx : 0 ≤ x ∧ x ≤ 4294967295) (hbase : base ≤ w.heap.size) :
    Calls Tryd.prog 71 #[v, .int .u32 x] w fun e w' => ∃ (v' : Value) (zs : List Int), e = .returned v' ∧ w'.ownsRow base 47 1 v' zs.length (zs.map (Value.int .u32)) ∧ Wd zs ∧ zs.length ≤ n + 1 ∧ val zs = val ys * 1000000000 + x ∧ Below base w w' := by
  obtain ⟨i0, hi, hz0, hz1, hz2⟩ := info_parts Tryd.infoW
  have hx1 := hx.1
  have hx2 := hx.2
  rcases ho.2 with ⟨rfl, rfl⟩ | ⟨g, cap, cur, rfl, hrest⟩
  · have hy : ys = [] := List.eq_nil_of_length_eq_zero (by have := ho.1; simpa using this)
    subst hy
    clear ho
    by_cases h0 : x = 0
    · subst h0
      go_enter Tryd.func71, Tryd.ntmps71
      go_wp2
      refine wp_loop_rounds 1 ?_
      rw [rounds_succ]
      go_wp2
      go_ret
      exact ⟨_, [], rfl, World.ownsRow_nil _ _ _ _, Wd.nil, by simp, by simp [val, valTo], Below.refl _ _⟩
    · have hne : (x != 0) = true := by simp [h0]
      clear h0
      go_enter Tryd.func71, Tryd.ntmps71
      go_wp2_with fail
      refine wp_loop_rounds 1 ?_
      rw [rounds_succ]
      go_wp2_with (at_builtin; refine wpList_append_own _ rfl _ _ 22 rfl base 47 i0 (.int .u32 0) 1 4 Tryd.underlying22 hi hz0 hz1 hz2 rfl (by decide) _ _ _ rfl (World.ownsRow_nil _ _ _ _) ⟨w.heap.size, 0, none⟩ 1 1 [.int .u32 x] rfl rfl (cell_one_new _ _ _) (by simp [Value.oneCell']) (by unfold maxLen; omega) (by omega) (by simp; omega) ?_)
      intro v3 w3 op3 hg3 _
      have hb3 : Below base w w3 := ((Below.refl base w).alloc (by omega) _).grown hg3 (by simp; omega) (fun g hg => by simp [Value.ownBlock] at hg)
      have HP : Hid (w3.ownsRow base 47 1 v3 [x].length ([x].map (Value.int .u32))) := op3
      clear op3 hg3
      go_wp2
      go_ret
      exact ⟨v3, [x], rfl, HP.out, Wd.one hx, by simp, by rw [val_one, val_nil]; omega, hb3⟩
  · have ho' : OwnC w base g n cap ys := ho
    have hlen := ho'.len
    have hgl := World.ownsRow.lt ho g rfl
    have hcap := ho'.cap
    have hcp1 := hcap.1
    have hcp2 : cap ≤ 9223372036854775807 := by have := hcap.2; unfold maxLen at this; omega
    have HLN := hid hlen
    clear hlen hrest ho hx hcap
    go_enter Tryd.func71, Tryd.ntmps71
    go_wp2_with fail
    go_loopw [5, 12] (fun c t wr => ∃ (k : Nat) (r : Int) (us : List Int), k ≤ n ∧ t = .int .i64 k ∧ c = .int .u64 r ∧ 0 ≤ r ∧ r ≤ 4294967295 ∧ Wd us ∧ Hid (valTo us k + r * 4294967296 ^ k = valTo ys k * 1000000000 + x) ∧
      Hid (∀ j, k ≤ j → us[j]?.getD 0 = ys[j]?.getD 0) ∧ OwnC wr base g n cap us ∧ Below base w wr) (fun _ t _ => n - (intOf t).toNat)
    case atStart => exact ⟨0, x, ys, by omega, rfl, by go_num, by omega, by omega, hwy, show _ = _ by simp [valTo], fun _ _ => rfl, ho', Below.refl _ _⟩
    case round =>
      obtain ⟨k, r, us, hk, rfl, rfl, r0, r1, hwu, HV, HK, hou, hb⟩ := hrel
      by_cases hlt : k < n
      · have y1 := hou.cell k hlt
        have f1 := hou.free k
        have bu := hwu.at k
        have hlu := hou.len
        obtain ⟨t, ht⟩ : ∃ t, t = r + us[k]?.getD 0 * 1000000000 := ⟨_, rfl⟩
        have HT := hid ht
        have HV' := hid (times_step ys us k x r t (by omega) (by rw [ht, HK.out k (by omega)]) HV.out)
        have HK' : Hid (∀ j, k + 1 ≤ j → (us.set k (t % 4294967296))[j]?.getD 0 = ys[j]?.getD 0) := fun j hj => by
          rw [List.getElem?_set, if_neg (by omega)]
          exact HK.out j (by omega)
        have HO' := hid (hou.set k (t % 4294967296)).1
        have HB' := hid (hb.setCell (p := ⟨g, k, none⟩) hgl.1 (.int .u32 (t % 4294967296)))
        have ht0 : 0 ≤ t ∧ t ≤ 18446744073709551615 := by omega
        clear hlu hou hb HV HK ht
        go_wp2
        go_roundw
        case rel => rw [← HT.out]; exact ⟨k + 1, t / 4294967296, us.set k (t % 4294967296), by omega, by go_num, by go_num, by have := HT.out; omega, by have := HT.out; omega, hwu.set _ (by omega), HV', HK', HO'.out, HB'.out⟩
        case measure => simp [intOf]; omega
      · have hkm : k = n := by omega
        subst hkm
        have HV' : Hid (val us + r * 4294967296 ^ us.length = val ys * 1000000000 + x) := by
          show _ = _
          have e := HV.out
          rw [valTo_stable us k (by have := hou.len; omega), valTo_stable ys k (by have := HLN.out; omega)] at e
          rw [hou.len]
          exact e
        clear HV
        by_cases h0 : r = 0
        · subst h0
          have HE : Hid (val us = val ys * 1000000000 + x) := by show _ = _; have := HV'.out; omega
          have HO := hid (owns_len hou)
          have HU := hid hou.len
          clear hou HV'
          go_wp2_with fail
          go_ret
          exact ⟨_, us, rfl, HO.out, hwu, by have := HU.out; omega, HE.out, hb⟩
        · have hne : (r != 0) = true := by simp [h0]
          obtain ⟨R, hR⟩ : ∃ R, R = us.map (Value.int .u32) := ⟨_, rfl⟩
          have HM : Hid ((us ++ [r]).map (Value.int .u32) = R ++ [.int .u32 r]) := by show _ = _; rw [hR]; simp
          have hop : wr.ownsRow base 47 1 (.slice (some ⟨g, 0, none⟩) k cap) k R := by rw [hR]; exact hou
          have HU := hid hou.len
          have hbs := hb.size
          clear hR hou h0
          go_wp2_with (at_builtin; refine wpList_append_own _ rfl _ _ 22 rfl base 47 i0 (.int .u32 0) 1 4 Tryd.underlying22 hi hz0 hz1 hz2 rfl (by decide) _ _ _ rfl (hop.alloc _) ⟨wr.heap.size, 0, none⟩ 1 1 [.int .u32 r] rfl rfl (cell_one_new _ _ _) (by simp [Value.oneCell']) (by unfold maxLen; omega) (by omega) (by simp; omega) ?_)
          intro v3 w3 op3 hg3 _
          have hb3 : Below base w w3 := (hb.alloc (by omega) _).grown hg3 (by simp; omega) (fun g2 hg2 => by have := hop.lt g2 hg2; omega)
          have HPP : Hid (w3.ownsRow base 47 1 v3 (us ++ [r]).length ((us ++ [r]).map (Value.int .u32))) := by
            show World.ownsRow _ _ _ _ _ _ _
            rw [HM.out, List.length_append, List.length_singleton, HU.out]
            exact op3
          clear op3 hg3 hop
          go_wp2
          go_ret
          exact ⟨v3, us ++ [r], rfl, HPP.out, hwu.append (Wd.one ⟨r0, r1⟩), by rw [List.length_append, HU.out]; simp, by rw [val_snoc]; exact HV'.out, hb3⟩
end Go.Proofs.YtgimgagnfkinmaaDoor

/- nat.join, nat.Parse: the number of digits, piece by piece, in new memory; every text read, or its error. -/
namespace Go.Proofs.YtgimgagnfkinmaaDoor
open Go.RowKit
set_option linter.unusedVariables false

theorem list_size (s : ByteArray) {l : List UInt8} (h : s.data.toList = l) : s.size = l.length := by rw [← h]; exact (size_list s).symm

theorem extract_list (s : ByteArray) (i j : Nat) : (s.extract i j).data.toList = (s.data.toList.drop i).take (j - i) := by
  rw [ByteArray.data_extract, Array.toList_extract, List.extract_eq_take_drop]
theorem numTo_take (l : List UInt8) (n : Nat) : numTo (l.take n) n = numTo l n :=
  numTo_congr _ _ _ (fun j hj => by rw [List.getElem?_take, if_pos hj])
theorem numTo_piece (l : List UInt8) (m n k : Nat) (t : Int) (ht : t = numTo l m) (h : m = 0 ∨ k % 9 = 0) (hn : n = (k - 1) % 9 + 1) (hk : 0 < k) : t * 1000000000 + numTo (l.drop m) n = numTo l (m + n) := by
  rw [numTo_add, ht]
  rcases h with h | h
  · rw [h]; simp [numTo]
  · have : n = 9 := by omega
    rw [this]; rfl

set_option maxHeartbeats 3200000 in
set_option maxRecDepth 100000 in
theorem join_any (s : ByteArray) (w : World) (hs : s.size ≤ 65536) (hd : Dg s.data.toList) :
    Calls Tryd.prog 43 #[.string s] w fun e w' => ∃ (v : Value) (zs : List Int), e = .returned v ∧ w'.ownsRow w.heap.size 47 1 v zs.length (zs.map (Value.int .u32)) ∧ Wd zs ∧ zs.length ≤ s.size ∧ val zs = numTo s.data.toList s.size ∧ Below w.heap.size w w' := by
  have HD := hid hd
  have HL := hid (size_list s)
  clear hd
  go_enter Tryd.func43, Tryd.ntmps43
  go_wp2_with fail
  go_loopg [0, 3] s.size (fun k t v wr => ∃ (m : Nat) (s' : ByteArray) (ys : List Int), t = .string s' ∧ m + k = s.size ∧ s'.size = k ∧ Hid (s'.data.toList = s.data.toList.drop m) ∧ wr.ownsRow w.heap.size 47 1 v ys.length (ys.map (Value.int .u32)) ∧ Wd ys ∧ ys.length ≤ m ∧
    Hid (val ys = numTo s.data.toList m) ∧ Hid (m = 0 ∨ k % 9 = 0) ∧ Below w.heap.size w wr)
  case atStart => exact ⟨0, s, [], rfl, by omega, rfl, show _ = _ by simp, World.ownsRow_nil _ _ _ _, Wd.nil, by simp, show _ = _ by simp [val, valTo, numTo], .inl rfl, Below.refl _ _⟩
  case round =>
    obtain ⟨m, s', ys, rfl, hmk, hsz, HS, hop, hwy, hly, HV, HN, hb⟩ := hrel
    by_cases h0 : s'.size = 0
    · have hse : s' = ⟨#[]⟩ := by
        obtain ⟨d⟩ := s'
        have : d = #[] := Array.eq_empty_of_size_eq_zero h0
        rw [this]
      subst hse
      have hm : m = s.size := by omega
      have HV' : Hid (val ys = numTo s.data.toList s.size) := by show _ = _; rw [HV.out, hm]
      have HO := hid hop
      clear hop HS h0
      go_wp2_with fail
      go_ret
      exact ⟨_, ys, rfl, HO.out, hwy, by omega, HV'.out, hb⟩
    · have hp : 0 < s'.size := by omega
      have hem : s'.toList.isEmpty = false := by
        rw [ByteArray.toList_eq]
        have hl := size_list s'
        cases hx : s'.data.toList with
        | nil => rw [hx] at hl; simp at hl; omega
        | cons _ _ => rfl
      have hen : ¬ s'.toList = [] := fun e => by rw [e] at hem; simp at hem
      have hl1 : (s'.extract 0 ((gk - 1) % 9 + 1)).data.toList = (s.data.toList.drop m).take ((gk - 1) % 9 + 1) := by rw [extract_list, HS.out]; simp
      have hl2 : (s'.extract ((gk - 1) % 9 + 1) gk).data.toList = s.data.toList.drop (m + ((gk - 1) % 9 + 1)) := by
        rw [extract_list, HS.out, List.drop_drop, List.take_of_length_le (by rw [List.length_drop, HL.out]; omega)]
      have z1 : (s'.extract 0 ((gk - 1) % 9 + 1)).size = (gk - 1) % 9 + 1 := by
        rw [list_size _ hl1, List.length_take, List.length_drop, HL.out]; omega
      have z2 : (s'.extract ((gk - 1) % 9 + 1) gk).size = gk - ((gk - 1) % 9 + 1) := by
        rw [list_size _ hl2, List.length_drop, HL.out]; omega
      have hdg : Dg (s'.extract 0 ((gk - 1) % 9 + 1)).data.toList := by rw [hl1]; exact (HD.out.drop _).take _
      have hnum : numTo (s'.extract 0 ((gk - 1) % 9 + 1)).data.toList (s'.extract 0 ((gk - 1) % 9 + 1)).size = numTo (s.data.toList.drop m) ((gk - 1) % 9 + 1) := by
        rw [z1, hl1, numTo_take]
      have hpc := numTo_piece s.data.toList m ((gk - 1) % 9 + 1) gk _ HV.out HN.out rfl (by omega)
      have hbd := numTo_bounds (HD.out.drop m) ((gk - 1) % 9 + 1)
      have hp9 : (10 : Int) ^ ((gk - 1) % 9 + 1) ≤ 10 ^ 9 := by
        have h9 : (gk - 1) % 9 + 1 ≤ 9 := by omega
        generalize (gk - 1) % 9 + 1 = q at h9
        obtain ⟨d, hd⟩ : ∃ d, 9 = q + d := ⟨9 - q, by omega⟩
        rw [hd, Int.pow_add]
        have h1 : (0 : Int) < 10 ^ q := Int.pow_pos (by decide)
        have h2 : (0 : Int) < 10 ^ d := Int.pow_pos (by decide)
        have h3 : (10 : Int) ^ q * 1 ≤ 10 ^ q * 10 ^ d := Int.mul_le_mul_of_nonneg_left (by omega) (by omega)
        omega
      have HW := hid (wordOf_any (s'.extract 0 ((gk - 1) % 9 + 1)) wr (by rw [z1]; omega) hdg)
      rw [hnum] at HW
      obtain ⟨x, hx⟩ : ∃ x, x = numTo (s.data.toList.drop m) ((gk - 1) % 9 + 1) := ⟨_, rfl⟩
      rw [← hx] at HW hpc hbd
      have hx0 := hbd.1
      have hx1 : x ≤ 4294967295 := by have := hbd.2; omega
      have hbs := hb.size
      have HT := hid (timesPiece_any w.heap.size _ u3 ys x wr hop hwy (by omega) ⟨hx0, hx1⟩ hbs)
      have HPC := hid hpc
      have HL2 := hid hl2
      have HN' : Hid (m + ((gk - 1) % 9 + 1) = 0 ∨ (gk - ((gk - 1) % 9 + 1)) % 9 = 0) := by right; omega
      clear hop hx hl1 hl2 z1 hdg hnum hpc hbd hp9 HV HN HS
      go_wp2_with fail
      refine Calls.mono HW.out ?_
      rintro e w1 ⟨rfl, rfl⟩
      go_wp2_with fail
      refine Calls.mono HT.out ?_
      rintro e w2 ⟨v2, zs, rfl, ho2, hwz, hlz, hvz, hb2⟩
      have HO2 := hid ho2
      have HV2 : Hid (val zs = numTo s.data.toList (m + ((gk - 1) % 9 + 1))) := by show _ = _; rw [hvz]; exact HPC.out
      clear ho2 hvz HT HW HPC
      go_wp2_with fail
      go_roundg (gk - ((gk - 1) % 9 + 1))
      case measure => omega
      case rel => exact ⟨m + ((gk - 1) % 9 + 1), _, zs, rfl, by omega, z2, HL2, HO2.out, hwz, by omega, HV2, HN', hb.trans hb2⟩

set_option maxHeartbeats 800000 in
set_option maxRecDepth 100000 in
theorem told_own (base n : Nat) (v : Value) (ys : List Int) (w : World) (ho : w.ownsRow base 47 1 v n (ys.map (Value.int .u32))) (hw : Wd ys) (hN : n ≤ 1099511627776) :
    Calls Tryd.prog 28 #[v] w fun e w' => ∃ v zs code, e = .returned (.tuple #[v, .int .i64 code]) ∧ w.ownsRow base 47 1 v zs.length (zs.map (Value.int .u32)) ∧ Tells 0 (val ys) zs code ∧ w = w' := by
  have hlen : ys.length = n := by have := ho.1; simpa using this
  have sx := sz_le ys
  rw [hlen] at sx
  have HT := hid (Tells.told hw)
  rcases ho.2 with ⟨rfl, rfl⟩ | ⟨g, cap, cur, rfl, hrest⟩
  · have hy : ys = [] := List.eq_nil_of_length_eq_zero hlen
    subst hy
    rw [if_neg (by simp [sz, szTo]), if_neg (by simp [sz, szTo])] at HT
    have HZ := hid (size_any none 0 0 [] w.heap.size w (by obtain ⟨a, cap, hv, hr⟩ := Reads.own ho hw; simp only [Value.slice.injEq] at hv; obtain ⟨rfl, _, rfl⟩ := hv; exact hr) (by omega))
    clear ho
    go_enter Tryd.func28, Tryd.ntmps28
    go_wp2_with fail
    refine Calls.mono HZ.out ?_
    rintro e w' ⟨rfl, rfl⟩
    rw [show sz [] = 0 from rfl]
    go_wp2
    go_ret2
    exact ⟨_, [], _, rfl, World.ownsRow_nil _ _ _ _, HT.out, rfl⟩
  · have ho' : OwnC w base g n cap ys := ho
    have hcap := ho'.cap
    have hcp1 := hcap.1
    have hcp2 : cap ≤ 9223372036854775807 := by have := hcap.2; unfold maxLen at this; omega
    have hr : Reads w w.heap.size (some ⟨g, 0, none⟩) n cap ys := by
      obtain ⟨a, cap, hv, hr⟩ := Reads.own ho' hw
      simp only [Value.slice.injEq] at hv
      obtain ⟨rfl, _, rfl⟩ := hv
      exact hr
    by_cases hs : 8192 < sz ys
    · rw [if_pos hs, if_pos hs] at HT
      have hsi : (8192 : Int) < (sz ys : Int) := by omega
      clear hlen hrest hcap
      go_enter Tryd.func28, Tryd.ntmps28
      go_wp2_with fail
      refine (size_any _ _ _ ys _ _ hr (by omega)).mono ?_
      rintro e w' ⟨rfl, rfl⟩
      go_wp2
      go_ret2
      exact ⟨_, [], _, rfl, World.ownsRow_nil _ _ _ _, HT.out, rfl⟩
    · rw [if_neg hs, if_neg hs] at HT
      have hsi : (sz ys : Int) ≤ 8192 := by omega
      have HO := hid (owns_len (ho'.take (sz ys) sx))
      clear hlen hrest hcap
      go_enter Tryd.func28, Tryd.ntmps28
      go_wp2_with fail
      refine (size_any _ _ _ ys _ _ hr (by omega)).mono ?_
      rintro e w' ⟨rfl, rfl⟩
      go_wp2
      go_ret2
      exact ⟨_, _, _, rfl, HO.out, HT.out, rfl⟩

open Classical in
/-- Parse's error, of a text. -/
noncomputable def pErr (s : ByteArray) : Int := if 65536 < s.size then 3 else if IsNum s.data.toList then 0 else 110

open Classical in
set_option maxHeartbeats 1600000 in
set_option maxRecDepth 100000 in
theorem parse_any (s : ByteArray) (w : World) (hs : s.size ≤ maxLen) :
    Calls Tryd.prog 11 #[.string s] w (Told w (pErr s) (numTo s.data.toList s.size)) := by
  unfold maxLen at hs
  by_cases h1 : 65536 < s.size
  · have HE : Hid (pErr s = 3) := by show _ = _; unfold pErr; rw [if_pos h1]
    have HT := hid (Tells.err (t := numTo s.data.toList s.size) (e := 3) (by decide))
    rw [HE.out]
    go_enter Tryd.func11, Tryd.ntmps11
    go_wp2_with fail
    go_ret2
    exact ⟨_, [], _, rfl, World.ownsRow_nil _ _ _ _, HT.out, Below.refl _ _⟩
  · have h2 : s.size ≤ 65536 := by omega
    by_cases hnum : IsNum s.data.toList
    · have HE : Hid (pErr s = 0) := by show _ = _; unfold pErr; rw [if_neg h1, if_pos hnum]
      have HI := hid (isNumber_any s w h2)
      rw [decide_eq_true hnum] at HI
      have HJ := hid (join_any s w h2 hnum.2.2)
      rw [HE.out]
      clear h1 hnum
      go_enter Tryd.func11, Tryd.ntmps11
      go_wp2_with fail
      refine Calls.mono HI.out ?_
      rintro e w' ⟨rfl, rfl⟩
      go_wp2_with fail
      refine Calls.mono HJ.out ?_
      rintro e w1 ⟨v, zs, rfl, ho, hwz, hlz, hvz, hb⟩
      have HT := hid (told_own _ _ v zs w1 ho hwz (by omega))
      clear ho
      go_wp2_with fail
      refine Calls.mono HT.out ?_
      rintro e w2 ⟨v2, us, code, rfl, ho2, ht2, rfl⟩
      rw [hvz] at ht2
      have HO2 := hid ho2
      have HT2 := hid ht2
      clear ho2 ht2 hvz
      go_wp2
      go_ret2
      exact ⟨_, us, code, rfl, HO2.out, HT2.out, hb⟩
    · have HE : Hid (pErr s = 110) := by show _ = _; unfold pErr; rw [if_neg h1, if_neg hnum]
      have HI := hid (isNumber_any s w h2)
      rw [decide_eq_false hnum] at HI
      have HT := hid (Tells.err (t := numTo s.data.toList s.size) (e := 110) (by decide))
      rw [HE.out]
      clear h1 hnum
      go_enter Tryd.func11, Tryd.ntmps11
      go_wp2_with fail
      refine Calls.mono HI.out ?_
      rintro e w' ⟨rfl, rfl⟩
      go_wp2_with fail
      go_ret2
      exact ⟨_, [], _, rfl, World.ownsRow_nil _ _ _ _, HT.out, Below.refl _ _⟩
end Go.Proofs.YtgimgagnfkinmaaDoor

/- What the laws' own example says. -/
namespace Go.Proofs.YtgimgagnfkinmaaDoor
open Go.RowKit
set_option linter.unusedVariables false

theorem digits_ex : Lib.decDigits 4294967296 = [52, 50, 57, 52, 57, 54, 55, 50, 57, 54] := by simp [Lib.decDigits]

end Go.Proofs.YtgimgagnfkinmaaDoor

/- The law NatBack answers true, and writes nothing that was there: whatever list and text come in, where the library's table of powers of ten stands as its text lays it. -/
namespace Go.Proofs.YtgimgagnfkinmaaDoor
open Go.RowKit Go.Lib
set_option linter.unusedVariables false

theorem numTo_snoc (l : List UInt8) (c : UInt8) : numTo (l ++ [c]) (l.length + 1) = numTo l l.length * 10 + ((c.toNat : Int) - 48) := by
  show numTo (l ++ [c]) l.length * 10 + _ = _
  rw [numTo_congr (l ++ [c]) l l.length (fun j hj => by rw [List.getElem?_append_left hj])]
  simp
theorem toNat_digit (d : Nat) (h : d < 10) : (UInt8.ofNat (48 + d)).toNat = 48 + d := by
  rw [UInt8.toNat_ofNat']; omega
theorem Dg.snoc {l : List UInt8} (h : Dg l) {c : UInt8} (hc : 48 ≤ (c.toNat : Int) ∧ (c.toNat : Int) ≤ 57) : Dg (l ++ [c]) := fun x hx => by
  rcases List.mem_append.1 hx with hx | hx
  · exact h x hx
  · simp at hx; rw [hx]; exact hc
theorem isNum_dec : ∀ n : Nat, IsNum (decDigits n) ∧ numTo (decDigits n) (decDigits n).length = n ∧ (0 < n → ¬ (decDigits n)[0]?.getD 0 = 48)
  | n => by
    by_cases h : n < 10
    · rw [decDigits_one h]
      have e := toNat_digit n h
      refine ⟨⟨by simp, fun _ => by simp, fun c hc => ?_⟩, ?_, fun h0 => ?_⟩
      · rw [List.mem_singleton.1 hc, e]; omega
      · show (0 : Int) * 10 + (((UInt8.ofNat (48 + n)).toNat : Int) - 48) = n
        rw [e]; omega
      · intro e2
        have e2 : UInt8.ofNat (48 + n) = 48 := e2
        rw [e2] at e
        have : (48 : UInt8).toNat = 48 := rfl
        omega
    · obtain ⟨⟨h1, h2, h3⟩, h4, h5⟩ := isNum_dec (n / 10)
      have e := toNat_digit (n % 10) (by omega)
      rw [decDigits, dif_neg h]
      have h6 := h5 (by omega)
      have hz : (decDigits (n / 10) ++ [UInt8.ofNat (48 + n % 10)])[0]?.getD 0 = (decDigits (n / 10))[0]?.getD 0 := by rw [List.getElem?_append_left h1]
      refine ⟨⟨by simp, fun e2 => ?_, h3.snoc (by rw [e]; omega)⟩, ?_, fun _ => by rw [hz]; exact h6⟩
      · rw [hz] at e2; exact absurd e2 h6
      · rw [List.length_append, List.length_singleton, numTo_snoc, h4, e]; omega
theorem num_pos (l : List UInt8) (hd : Dg l) (h0 : ¬ l[0]?.getD 0 = 48) (hp : 0 < l.length) : ∀ k, 1 ≤ numTo l (k + 1)
  | 0 => by
    show 1 ≤ (0 : Int) * 10 + (((l[0]?.getD 48).toNat : Int) - 48)
    rw [List.getElem?_eq_getElem hp] at h0 ⊢
    have h1 := hd _ (List.getElem_mem hp)
    have h2 : ¬ (l[0].toNat : Int) = 48 := fun e => h0 (UInt8.toNat_inj.1 (by show l[0].toNat = 48; omega))
    simp only [Option.getD_some]
    omega
  | k + 1 => by
    have ih := num_pos l hd h0 hp k
    have hb := numTo_bounds hd (k + 1)
    show 1 ≤ numTo l (k + 1) * 10 + (((l[k + 1]?.getD 48).toNat : Int) - 48)
    have hc : 48 ≤ ((l[k + 1]?.getD 48).toNat : Int) := by
      by_cases hk : k + 1 < l.length
      · rw [List.getElem?_eq_getElem hk]; exact (hd _ (List.getElem_mem hk)).1
      · rw [List.getElem?_eq_none (by omega)]; decide
    omega
theorem dec_num : ∀ (k : Nat) (l : List UInt8), l.length = k + 1 → IsNum l → decDigits (numTo l l.length).toNat = l
  | 0, l, hl, h => by
    obtain ⟨c, rfl⟩ := List.length_eq_one_iff.1 hl
    have hc := h.2.2 c (by simp)
    have e : numTo [c] [c].length = (c.toNat : Int) - 48 := by simp [numTo]
    rw [e, decDigits_one (by omega)]
    congr 1
    refine UInt8.toNat_inj.1 ?_
    rw [toNat_digit _ (by omega)]; omega
  | k + 1, l, hl, h => by
    have hne : l ≠ [] := fun e => by rw [e] at hl; simp at hl
    obtain ⟨l', c, rfl⟩ : ∃ l' c, l = l' ++ [c] := ⟨l.dropLast, l.getLast hne, (List.dropLast_concat_getLast hne).symm⟩
    have hl' : l'.length = k + 1 := by simp at hl; exact hl
    have hd' : Dg l' := fun x hx => h.2.2 x (List.mem_append_left _ hx)
    have hc := h.2.2 c (by simp)
    have h0 : ¬ l'[0]?.getD 0 = 48 := fun e => by
      have := h.2.1 (by rw [List.getElem?_append_left (by omega)]; exact e)
      omega
    have hn : IsNum l' := ⟨by omega, fun e => absurd e h0, hd'⟩
    have ih := dec_num k l' hl' hn
    have hp := num_pos l' hd' h0 (by omega) k
    rw [← hl'] at hp
    rw [List.length_append, List.length_singleton, numTo_snoc]
    obtain ⟨q, hq⟩ : ∃ q : Nat, numTo l' l'.length = q := ⟨(numTo l' l'.length).toNat, by omega⟩
    rw [hq] at ih hp ⊢
    rw [decDigits, dif_neg (by omega)]
    have e1 : ((q : Int) * 10 + ((c.toNat : Int) - 48)).toNat / 10 = q := by omega
    have e2 : ((q : Int) * 10 + ((c.toNat : Int) - 48)).toNat % 10 = c.toNat - 48 := by omega
    rw [e1, e2]
    have ih : decDigits q = l' := ih
    rw [ih]
    congr 2
    refine UInt8.toNat_inj.1 ?_
    rw [toNat_digit _ (by omega)]; omega
theorem nDigits_le : ∀ (k n : Nat), n < 10 ^ (k + 1) → nDigits n ≤ k + 1
  | k, n, h => (pad_eq k n h).2
theorem digits_few {x : Int} {L : Nat} (h0 : 0 ≤ x) (h : x < 4294967296 ^ L) : nDigits x.toNat ≤ 10 * L + 1 := by
  refine nDigits_le _ _ ?_
  have h1 : (4294967296 : Int) ^ L ≤ 10 ^ (10 * L) := by
    have e : (4294967296 : Nat) ^ L ≤ (10 ^ 10) ^ L := Nat.pow_le_pow_left (by decide) _
    rw [← Nat.pow_mul] at e
    have := Int.ofNat_le.2 e
    rw [Int.natCast_pow, Int.natCast_pow] at this
    exact this
  have h2 : x < 10 ^ (10 * L) := by omega
  have h3 : (x.toNat : Int) < ((10 ^ (10 * L) : Nat) : Int) := by rw [Int.natCast_pow]; rw [Int.toNat_of_nonneg h0]; exact h2
  have h4 := Int.ofNat_lt.1 h3
  have h5 : (10 : Nat) ^ (10 * L) ≤ 10 ^ (10 * L + 1) := Nat.pow_le_pow_right (by decide) (by omega)
  omega

open Classical in
/-- Whether the first k signs are digits, the text not being empty, and without a nought ahead. -/
noncomputable def rightTo (l : List UInt8) (k : Nat) : Bool := decide (0 < l.length ∧ (l[0]?.getD 0 = 48 → l.length ≤ 1) ∧ ∀ j : Nat, j < k → 48 ≤ ((l[j]?.getD 0).toNat : Int) ∧ ((l[j]?.getD 0).toNat : Int) ≤ 57)
open Classical in
theorem rightTo_all (l : List UInt8) : rightTo l l.length = decide (IsNum l) := by
  unfold rightTo
  by_cases h : IsNum l
  · rw [decide_eq_true h]
    refine decide_eq_true ⟨h.1, h.2.1, fun j hj => ?_⟩
    rw [List.getElem?_eq_getElem hj]; exact h.2.2 _ (List.getElem_mem hj)
  · rw [decide_eq_false h]
    refine decide_eq_false (fun g => h ⟨g.1, g.2.1, fun c hc => ?_⟩)
    obtain ⟨j, hj, e⟩ := mem_at hc
    have := g.2.2 j hj
    rw [e] at this
    exact this
theorem rightTo_no {l : List UInt8} {k : Nat} (h : rightTo l k = false) : rightTo l (k + 1) = false := by
  unfold rightTo at h ⊢
  have := of_decide_eq_false h
  exact decide_eq_false (fun g => this ⟨g.1, g.2.1, fun j hj => g.2.2 j (by omega)⟩)
theorem rightTo_bad {l : List UInt8} {k : Nat} {c : UInt8} (h : l[k]? = some c) (hc : ¬ (48 ≤ (c.toNat : Int) ∧ (c.toNat : Int) ≤ 57)) : rightTo l (k + 1) = false := by
  unfold rightTo
  refine decide_eq_false (fun g => hc ?_)
  have := g.2.2 k (by omega)
  rw [h] at this
  exact this
theorem rightTo_good {l : List UInt8} {k : Nat} {c : UInt8} (hr : rightTo l k = true) (h : l[k]? = some c) (hc : 48 ≤ (c.toNat : Int) ∧ (c.toNat : Int) ≤ 57) : rightTo l (k + 1) = true := by
  unfold rightTo at hr ⊢
  have g := of_decide_eq_true hr
  refine decide_eq_true ⟨g.1, g.2.1, fun j hj => ?_⟩
  by_cases e : j = k
  · rw [e, h]; exact hc
  · exact g.2.2 j (by omega)
end Go.Proofs.YtgimgagnfkinmaaDoor

/- Whole numbers as texts: whole.Print, strings.CutPrefix by a minus, whole.Parse. -/
namespace Go.Proofs.YtgimgagnfkinmaaDoor
open Go.RowKit Go.Lib
set_option linter.unusedVariables false

theorem wdec_len : ∀ (k n : Nat), n < 10 ^ (k + 1) → (decDigits n).length ≤ k + 1
  | 0, n, h => by rw [decDigits_one (by simpa using h)]; simp
  | k + 1, n, h => by
    by_cases c : n < 10
    · rw [decDigits_one c]; simp
    · have ih := wdec_len k (n / 10) (by rw [Nat.pow_succ] at h; omega)
      rw [decDigits, dif_neg c, List.length_append, List.length_singleton]
      omega
theorem ten_pow (m : Nat) : (4294967296 : Int) ^ m ≤ 10 ^ (10 * m) := by
  induction m with
  | zero => simp
  | succ m ih =>
    rw [pw_succ, show 10 * (m + 1) = 10 * m + 10 by omega, Int.pow_add]
    have p := pw_pos m
    have e : (10 : Int) ^ 10 = 10000000000 := by decide
    rw [e]
    omega
theorem dec_short' {xs : List Int} (hw : Wd xs) (m : Nat) (hl : xs.length ≤ m) : (decDigits (val xs).toNat).length ≤ 10 * m + 1 := by
  have h1 := val_lt hw
  have h2 : (4294967296 : Int) ^ xs.length ≤ 4294967296 ^ m := pw_le hl
  have h3 := ten_pow m
  have h0 := val_nonneg hw
  have h4 : val xs < 10 ^ (10 * m) := Int.lt_of_lt_of_le h1 (Int.le_trans h2 h3)
  have h6 : (10 : Int) ^ (10 * m + 1) = 10 ^ (10 * m) * 10 := Int.pow_succ _ _
  have h7 : (0 : Int) < 10 ^ (10 * m) := Int.pow_pos (by decide)
  have h5 : (((val xs).toNat : Nat) : Int) < ((10 ^ (10 * m + 1) : Nat) : Int) := by
    rw [Int.toNat_of_nonneg h0, Int.natCast_pow]
    show _ < (10 : Int) ^ (10 * m + 1)
    rw [h6]; omega
  exact wdec_len (10 * m) _ (Int.ofNat_lt.1 h5)
theorem dec_short {xs : List Int} (hw : Wd xs) (hl : xs.length ≤ 2048) : (decDigits (val xs).toNat).length ≤ 20481 := by
  have := dec_short' hw 2048 hl
  omega
theorem ten_le (k : Nat) : (10 : Int) ^ k ≤ 4294967296 ^ k := by
  induction k with
  | zero => simp
  | succ k ih =>
    rw [Int.pow_succ, pw_succ]
    have p := pw_pos k
    omega

/-- The text of a whole number. -/
def wtext (n : Bool) (xs : List Int) : List UInt8 := (if n then [45] else []) ++ decDigits (val xs).toNat

set_option maxHeartbeats 1600000 in
set_option maxRecDepth 100000 in
theorem wprint_any (n : Bool) (v : Value) (xs : List Int) (w : World) (h : Sl w v xs) (hx : wchk n xs = 0) (htab : Tab w) :
    Calls Tryd.prog 19 #[.agg #[.bool n, v]] w fun e w' => ∃ T : ByteArray, e = .returned (.tuple #[.string T, .int .i64 0]) ∧ T.data.toList = wtext n xs ∧ Below w.heap.size w w' := by
  obtain ⟨lx, tx, _⟩ := wchk_ok hx
  have wx := h.wd
  have HB := hid (alloc_later w (.cells #[.bool n, v] 37))
  have HX := hid (Box.made w 37 #[.bool n, v])
  have HC := hid (wcheck_any n v xs _ (h.later HB.out) (by omega))
  rw [hx] at HC
  have HP := hid (fun w1 (hb : Below (w.alloc (.cells #[.bool n, v] 37)).heap.size (w.alloc (.cells #[.bool n, v] 37)) w1) => print_any v xs w1 ((h.later HB.out).later hb) (by omega) (htab.later (bt HB.out hb)))
  rw [chk_good (by omega) tx, if_pos rfl] at HP
  obtain ⟨D, hD⟩ : ∃ D : ByteArray, D = ⟨(decDigits (val xs).toNat).toArray⟩ := ⟨_, rfl⟩
  have hds : D.size ≤ 20481 := by
    have e : D.size = (decDigits (val xs).toNat).length := by rw [hD]; exact (size_list _).symm
    rw [e]; exact dec_short wx lx
  have HDL : Hid (D.data.toList = decDigits (val xs).toNat) := by rw [hD]; rfl
  rw [← hD] at HP
  obtain ⟨a, cap, rfl, hr⟩ := h
  clear hr hD hx
  cases n with
  | false =>
    go_enter Tryd.func19, Tryd.ntmps19
    go_wp2_with fail
    refine Calls.mono HC.out ?_
    rintro e w1 ⟨rfl, hb1⟩
    obtain ⟨p0, p1, _, _⟩ := res_box HX.out hb1
    have HP1 := hid (HP.out w1 hb1)
    have HB1 := hid hb1
    clear hb1 HP
    go_wp2_with fail
    refine Calls.mono HP1.out ?_
    rintro e w2 ⟨rfl, hb2⟩
    obtain ⟨q0, q1, _, _⟩ := res_box HX.out (bt HB1.out hb2)
    have hbF := bt HB.out (bt HB1.out hb2)
    clear hb2 p0 p1
    go_wp2_with fail
    go_ret2
    exact ⟨D, rfl, HDL.out, hbF⟩
  | true =>
    go_enter Tryd.func19, Tryd.ntmps19
    go_wp2_with fail
    refine Calls.mono HC.out ?_
    rintro e w1 ⟨rfl, hb1⟩
    obtain ⟨p0, p1, _, _⟩ := res_box HX.out hb1
    have HP1 := hid (HP.out w1 hb1)
    have HB1 := hid hb1
    clear hb1 HP
    go_wp2_with fail
    refine Calls.mono HP1.out ?_
    rintro e w2 ⟨rfl, hb2⟩
    obtain ⟨q0, q1, _, _⟩ := res_box HX.out (bt HB1.out hb2)
    have hbF := bt HB.out (bt HB1.out hb2)
    clear hb2 p0 p1
    go_wp2_with fail
    go_ret2
    refine ⟨_, rfl, ?_, hbF⟩
    show _ = 45 :: decDigits (val xs).toNat
    rw [← HDL.out]
    simp

theorem cut_minus (s : ByteArray) (w : World) (hs : s.size ≤ 65536) :
    Calls Tryd.prog 80 #[.string s, .string ⟨#[45]⟩] w fun e w' => ∃ (T : ByteArray) (b : Bool), e = .returned (.tuple #[.string T, .bool b]) ∧ b = decide (s.data.toList[0]? = some 45) ∧ T.data.toList = (if b then s.data.toList.drop 1 else s.data.toList) ∧ w = w' := by
  have HH := hid (Tryd.stringslite_HasPrefix s ⟨#[45]⟩ w)
  have e0 : Lib.hasPrefix s.data.toList (⟨#[45]⟩ : ByteArray).data.toList = decide (s.data.toList[0]? = some 45) := by
    cases hl : s.data.toList with
    | nil => simp [Lib.hasPrefix]
    | cons c l =>
      by_cases hc : c = 45
      · subst hc; simp [Lib.hasPrefix, List.isPrefixOf]
      · have hc' : ¬ (45 : UInt8) = c := fun e => hc e.symm
        simp [Lib.hasPrefix, List.isPrefixOf, hc, hc']
  rw [e0] at HH
  by_cases c : s.data.toList[0]? = some 45
  · have hd : decide (s.data.toList[0]? = some 45) = true := decide_eq_true c
    rw [hd] at HH ⊢
    have h1 : 1 ≤ s.size := by
      rw [← size_list]
      by_cases z : s.data.toList.length = 0
      · rw [List.getElem?_eq_none (by omega)] at c; cases c
      · omega
    have HX := hid (extract_list s 1 s.size)
    clear c hd e0
    go_enter Tryd.func80, Tryd.ntmps80
    go_wp2_with fail
    refine Calls.mono HH.out ?_
    rintro e w' ⟨rfl, rfl⟩
    go_wp2_with fail
    go_ret2
    refine ⟨_, true, rfl, rfl, ?_, rfl⟩
    rw [if_pos rfl, HX.out, List.take_of_length_le (by rw [List.length_drop, size_list]; omega)]
  · have hd : decide (s.data.toList[0]? = some 45) = false := decide_eq_false c
    rw [hd] at HH ⊢
    clear c hd e0
    go_enter Tryd.func80, Tryd.ntmps80
    go_wp2_with fail
    refine Calls.mono HH.out ?_
    rintro e w' ⟨rfl, rfl⟩
    go_wp2_with fail
    go_ret2
    exact ⟨s, false, rfl, rfl, rfl, rfl⟩

theorem cutPrefix_minus (s : ByteArray) (w : World) (hs : s.size ≤ 65536) :
    Calls Tryd.prog 54 #[.string s, .string ⟨#[45]⟩] w fun e w' => ∃ (T : ByteArray) (b : Bool), e = .returned (.tuple #[.string T, .bool b]) ∧ b = decide (s.data.toList[0]? = some 45) ∧ T.data.toList = (if b then s.data.toList.drop 1 else s.data.toList) ∧ w = w' := by
  have HH := hid (cut_minus s w hs)
  go_enter Tryd.func54, Tryd.ntmps54
  go_wp2_with fail
  refine Calls.mono HH.out ?_
  rintro e w' ⟨T, b, rfl, h1, h2, rfl⟩
  have HR := hid (And.intro h1 h2)
  clear h1 h2
  go_wp2_with fail
  go_ret2
  exact ⟨T, b, rfl, HR.out.1, HR.out.2, rfl⟩
/-- What stands behind a minus. -/
def wdig (b : Bool) (l : List UInt8) : List UInt8 := if b then l.drop 1 else l
def wneg (s : ByteArray) : Bool := decide (s.data.toList[0]? = some 45)
def wnum (s : ByteArray) : Int := numTo (wdig (wneg s) s.data.toList) (wdig (wneg s) s.data.toList).length
open Classical in
/-- Parse's error, of a text. -/
noncomputable def wpErr (s : ByteArray) : Int := if 65536 < s.size then 3 else if IsNum (wdig (wneg s) s.data.toList) ∧ (wneg s = false ∨ 0 < wnum s) then 0 else 120
theorem pErr_ok (s : ByteArray) (hs : s.size ≤ 65536) (h : IsNum s.data.toList) : pErr s = 0 := by unfold pErr; rw [if_neg (by omega), if_pos h]
theorem pErr_not (s : ByteArray) (hs : s.size ≤ 65536) (h : ¬ IsNum s.data.toList) : pErr s = 110 := by unfold pErr; rw [if_neg (by omega), if_neg h]

set_option maxHeartbeats 3200000 in
set_option maxRecDepth 100000 in
theorem wparse_any (s : ByteArray) (w : World) (hs : s.size ≤ 65536) :
    Calls Tryd.prog 21 #[.string s] w (WTold w (wpErr s) (sg (wneg s) (wnum s))) := by
  have HB := hid (alloc_later w (.cells #[.bool false, .slice none 0 0] 37))
  have HXB := hid (Box.made w 37 #[.bool false, .slice none 0 0])
  have HCP := hid (cutPrefix_minus s (w.alloc (.cells #[.bool false, .slice none 0 0] 37)) hs)
  obtain ⟨bw, hbw⟩ : ∃ bw, decide (s.data.toList[0]? = some 45) = bw := ⟨_, rfl⟩
  have hw : wneg s = bw := hbw
  by_cases hN : IsNum (wdig bw s.data.toList)
  · have hn0 : 0 ≤ numTo (wdig bw s.data.toList) (wdig bw s.data.toList).length := (numTo_bounds hN.2.2 _).1
    have HN := hid hN
    have HN0 := hid hn0
    have hnum : wnum s = numTo (wdig bw s.data.toList) (wdig bw s.data.toList).length := by unfold wnum; rw [hw]
    cases bw with
    | false =>
      have HE : Hid (wpErr s = 0) := by show _ = _; unfold wpErr; rw [if_neg (by omega), if_pos ⟨by rw [hw]; exact hN, .inl hw⟩]
      rw [HE.out, hw, hnum]
      clear hN hn0 hw hnum HE
      go_enter Tryd.func21, Tryd.ntmps21
      go_wp2_with fail
      refine Calls.mono HCP.out ?_
      rintro e w' ⟨T, b, rfl, hbb, hTl, rfl⟩
      rw [hbw] at hbb
      subst hbb
      have hTs : T.size ≤ 65536 := by
        rw [← size_list, hTl]
        have := size_list s
        split
        · rw [List.length_drop]; omega
        · omega
      have HP := parse_any T (w.alloc (.cells #[.bool false, .slice none 0 0] 37)) (by unfold maxLen; omega)
      rw [pErr_ok T hTs (by rw [hTl]; exact HN.out)] at HP
      rw [show numTo T.data.toList T.size = numTo (wdig false s.data.toList) (wdig false s.data.toList).length by rw [← size_list, hTl]; rfl] at HP
      have HH := hid HP
      clear HP hTl hTs
      go_wp2_with fail
      refine Calls.mono HH.out ?_
      rintro e w2 ⟨v2, zs, code, rfl, o2, t2, hb2⟩
      obtain ⟨a2, c2, hv2⟩ := own_slice' o2
      subst hv2
      obtain ⟨m3, us, cc, e1, e2, wt⟩ := wtells_of (n := false) t2 HN0.out
      have HTD := hid (wtold_any false a2 zs.length c2 code w2 (tells_code t2))
      rw [e1 a2 c2] at HTD
      have HO2 := hid o2
      have HB1 := hid hb2
      have HWT := hid wt
      have HE2 := hid e2
      have HT2 := hid t2
      clear o2 hb2 e1 e2 wt t2 HH
      by_cases hcw : numTo (wdig false s.data.toList) (wdig false s.data.toList).length < wide
      · obtain rfl := (HT2.out.good rfl hcw).1
        clear hcw
        go_wp2_with fail
        refine Calls.mono HTD.out ?_
        rintro e w3 ⟨rfl, hb3⟩
        obtain ⟨r0, r1, f0, f1⟩ := res_box HXB.out (bt HB1.out hb3)
        have HO3 := hid (wtold_cut HWT.out HE2.out (owns_later HO2.out hb3))
        obtain ⟨a3, k3, c3, e3⟩ := cut_slice cc a2 zs.length c2
        rw [e3] at HO3 ⊢
        have HBC := hid (bt HB.out (bt HB1.out hb3))
        have HGE : Hid (∀ g, (Value.slice a3 k3 c3).ownBlock = some g → g ≠ w.heap.size) := fun g hg => by
          have h1 := (World.ownsRow.lt HO3.out g hg).1
          have h2 := HXB.out.lt
          omega
        clear hb3 e3
        go_wp2_with fail
        refine bodyPost_ret (v := .tuple #[.agg #[.bool m3, .slice a3 k3 c3], .int .i64 cc]) (by simp [results, Tryd.results21, go_sem, r0, r1]) rfl ?_
        exact ⟨m3, _, us, cc, rfl, owns_base (own_put2 HO3.out _ HGE.out _ _) (by have := HXB.out.lt; omega), HWT.out, below_put2 HBC.out _ (Nat.le_refl _) _ _⟩
      · obtain rfl := (HT2.out.long rfl (by omega)).1
        clear hcw
        go_wp2_with fail
        refine Calls.mono HTD.out ?_
        rintro e w3 ⟨rfl, hb3⟩
        obtain ⟨r0, r1, f0, f1⟩ := res_box HXB.out (bt HB1.out hb3)
        have HO3 := hid (wtold_cut HWT.out HE2.out (owns_later HO2.out hb3))
        obtain ⟨a3, k3, c3, e3⟩ := cut_slice cc a2 zs.length c2
        rw [e3] at HO3 ⊢
        have HBC := hid (bt HB.out (bt HB1.out hb3))
        have HGE : Hid (∀ g, (Value.slice a3 k3 c3).ownBlock = some g → g ≠ w.heap.size) := fun g hg => by
          have h1 := (World.ownsRow.lt HO3.out g hg).1
          have h2 := HXB.out.lt
          omega
        clear hb3 e3
        go_wp2_with fail
        refine bodyPost_ret (v := .tuple #[.agg #[.bool m3, .slice a3 k3 c3], .int .i64 cc]) (by simp [results, Tryd.results21, go_sem, r0, r1]) rfl ?_
        exact ⟨m3, _, us, cc, rfl, owns_base (own_put2 HO3.out _ HGE.out _ _) (by have := HXB.out.lt; omega), HWT.out, below_put2 HBC.out _ (Nat.le_refl _) _ _⟩
    | true =>
      by_cases hz : 0 < wnum s
      · have HE : Hid (wpErr s = 0) := by show _ = _; unfold wpErr; rw [if_neg (by omega), if_pos ⟨by rw [hw]; exact hN, .inr hz⟩]
        rw [HE.out, hw, hnum]
        rw [hnum] at hz
        have HZ := hid hz
        clear hN hn0 hw hnum HE hz
        go_enter Tryd.func21, Tryd.ntmps21
        go_wp2_with fail
        refine Calls.mono HCP.out ?_
        rintro e w' ⟨T, b, rfl, hbb, hTl, rfl⟩
        rw [hbw] at hbb
        subst hbb
        have hTs : T.size ≤ 65536 := by
          rw [← size_list, hTl]
          have := size_list s
          split
          · rw [List.length_drop]; omega
          · omega
        have HP := parse_any T (w.alloc (.cells #[.bool false, .slice none 0 0] 37)) (by unfold maxLen; omega)
        rw [pErr_ok T hTs (by rw [hTl]; exact HN.out)] at HP
        rw [show numTo T.data.toList T.size = numTo (wdig true s.data.toList) (wdig true s.data.toList).length by rw [← size_list, hTl]; rfl] at HP
        have HH := hid HP
        clear HP hTl hTs
        go_wp2_with fail
        refine Calls.mono HH.out ?_
        rintro e w2 ⟨v2, zs, code, rfl, o2, t2, hb2⟩
        obtain ⟨a2, c2, hv2⟩ := own_slice' o2
        subst hv2
        obtain ⟨m3, us, cc, e1, e2, wt⟩ := wtells_of (n := true) t2 HN0.out
        have HTD := hid (wtold_any true a2 zs.length c2 code w2 (tells_code t2))
        rw [e1 a2 c2] at HTD
        have HO2 := hid o2
        have HB1 := hid hb2
        have HWT := hid wt
        have HE2 := hid e2
        have HT2 := hid t2
        clear o2 hb2 e1 e2 wt t2 HH
        by_cases hcw : numTo (wdig true s.data.toList) (wdig true s.data.toList).length < wide
        · obtain ⟨rfl, hval⟩ := HT2.out.good rfl hcw
          have hzl : ((zs.length : Int) == 0) = false := by
            simp
            intro e
            rw [e, val_nil] at hval
            have := HZ.out
            omega
          clear hcw hval
          go_wp2_with fail
          refine Calls.mono HTD.out ?_
          rintro e w3 ⟨rfl, hb3⟩
          obtain ⟨r0, r1, f0, f1⟩ := res_box HXB.out (bt HB1.out hb3)
          have HO3 := hid (wtold_cut HWT.out HE2.out (owns_later HO2.out hb3))
          obtain ⟨a3, k3, c3, e3⟩ := cut_slice cc a2 zs.length c2
          rw [e3] at HO3 ⊢
          have HBC := hid (bt HB.out (bt HB1.out hb3))
          have HGE : Hid (∀ g, (Value.slice a3 k3 c3).ownBlock = some g → g ≠ w.heap.size) := fun g hg => by
            have h1 := (World.ownsRow.lt HO3.out g hg).1
            have h2 := HXB.out.lt
            omega
          clear hb3 e3
          go_wp2_with fail
          refine bodyPost_ret (v := .tuple #[.agg #[.bool m3, .slice a3 k3 c3], .int .i64 cc]) (by simp [results, Tryd.results21, go_sem, r0, r1]) rfl ?_
          exact ⟨m3, _, us, cc, rfl, owns_base (own_put2 HO3.out _ HGE.out _ _) (by have := HXB.out.lt; omega), HWT.out, below_put2 HBC.out _ (Nat.le_refl _) _ _⟩
        · obtain rfl := (HT2.out.long rfl (by omega)).1
          clear hcw
          go_wp2_with fail
          refine Calls.mono HTD.out ?_
          rintro e w3 ⟨rfl, hb3⟩
          obtain ⟨r0, r1, f0, f1⟩ := res_box HXB.out (bt HB1.out hb3)
          have HO3 := hid (wtold_cut HWT.out HE2.out (owns_later HO2.out hb3))
          obtain ⟨a3, k3, c3, e3⟩ := cut_slice cc a2 zs.length c2
          rw [e3] at HO3 ⊢
          have HBC := hid (bt HB.out (bt HB1.out hb3))
          have HGE : Hid (∀ g, (Value.slice a3 k3 c3).ownBlock = some g → g ≠ w.heap.size) := fun g hg => by
            have h1 := (World.ownsRow.lt HO3.out g hg).1
            have h2 := HXB.out.lt
            omega
          clear hb3 e3
          go_wp2_with fail
          refine bodyPost_ret (v := .tuple #[.agg #[.bool m3, .slice a3 k3 c3], .int .i64 cc]) (by simp [results, Tryd.results21, go_sem, r0, r1]) rfl ?_
          exact ⟨m3, _, us, cc, rfl, owns_base (own_put2 HO3.out _ HGE.out _ _) (by have := HXB.out.lt; omega), HWT.out, below_put2 HBC.out _ (Nat.le_refl _) _ _⟩
      · have HE : Hid (wpErr s = 120) := by
          show _ = _
          unfold wpErr
          rw [if_neg (by omega), if_neg (fun h => h.2.elim (fun e => by rw [hw] at e; cases e) hz)]
        have HWE : Hid (WTells 120 (sg (wneg s) (wnum s)) false [] 120) := WTells.err (by decide)
        rw [HE.out]
        rw [hnum] at hz
        have HZ : Hid (numTo (wdig true s.data.toList) (wdig true s.data.toList).length = 0) := by show _ = _; omega
        clear hN hn0 hw hnum HE hz
        go_enter Tryd.func21, Tryd.ntmps21
        go_wp2_with fail
        refine Calls.mono HCP.out ?_
        rintro e w' ⟨T, b, rfl, hbb, hTl, rfl⟩
        rw [hbw] at hbb
        subst hbb
        have hTs : T.size ≤ 65536 := by
          rw [← size_list, hTl]
          have := size_list s
          split
          · rw [List.length_drop]; omega
          · omega
        have HP := parse_any T (w.alloc (.cells #[.bool false, .slice none 0 0] 37)) (by unfold maxLen; omega)
        rw [pErr_ok T hTs (by rw [hTl]; exact HN.out)] at HP
        rw [show numTo T.data.toList T.size = 0 by rw [← size_list, hTl]; exact HZ.out] at HP
        have HH := hid HP
        clear HP hTl hTs
        go_wp2_with fail
        refine Calls.mono HH.out ?_
        rintro e w2 ⟨v2, zs, code, rfl, o2, t2, hb2⟩
        obtain ⟨rfl, hval⟩ := t2.good rfl (by have := pw_pos 8192; unfold wide; omega)
        have hzn : zs = [] := trimmed_eq t2.wd Wd.nil t2.trim Trimmed.nil (by rw [hval]; rfl)
        subst hzn
        obtain ⟨a2, c2, hv2⟩ := own_slice' o2
        subst hv2
        have HTD := hid (wtold_any true a2 0 c2 120 w2 (by omega))
        rw [show toldV true a2 0 c2 120 = .tuple #[.agg #[.bool false, .slice none 0 0], .int .i64 120] from rfl] at HTD
        have HB1 := hid hb2
        clear o2 hb2 t2 hval HH
        go_wp2_with fail
        refine Calls.mono HTD.out ?_
        rintro e w3 ⟨rfl, hb3⟩
        obtain ⟨r0, r1, f0, f1⟩ := res_box HXB.out (bt HB1.out hb3)
        have HBC := hid (bt HB.out (bt HB1.out hb3))
        clear hb3
        go_wp2_with fail
        refine bodyPost_ret (v := .tuple #[.agg #[.bool false, .slice none 0 0], .int .i64 120]) (by simp [results, Tryd.results21, go_sem, r0, r1]) rfl ?_
        exact ⟨false, _, [], 120, rfl, World.ownsRow_nil _ _ _ _, HWE.out, below_put2 HBC.out _ (Nat.le_refl _) _ _⟩
  · have HE : Hid (wpErr s = 120) := by show _ = _; unfold wpErr; rw [if_neg (by omega), if_neg (fun h => hN (by rw [← hw]; exact h.1))]
    have HWE : Hid (WTells 120 (sg (wneg s) (wnum s)) false [] 120) := WTells.err (by decide)
    rw [HE.out]
    have HN := hid hN
    clear hN hw HE
    go_enter Tryd.func21, Tryd.ntmps21
    go_wp2_with fail
    refine Calls.mono HCP.out ?_
    rintro e w' ⟨T, b, rfl, hbb, hTl, rfl⟩
    rw [hbw] at hbb
    subst hbb
    have hTs : T.size ≤ 65536 := by
      rw [← size_list, hTl]
      have := size_list s
      split
      · rw [List.length_drop]; omega
      · omega
    have HP := parse_any T (w.alloc (.cells #[.bool false, .slice none 0 0] 37)) (by unfold maxLen; omega)
    rw [pErr_not T hTs (by rw [hTl]; exact HN.out)] at HP
    have HH := hid HP
    clear HP hTl hTs
    go_wp2_with fail
    refine Calls.mono HH.out ?_
    rintro e w2 ⟨v2, zs, code, rfl, o2, t2, hb2⟩
    obtain ⟨rfl, rfl⟩ := t2.bad (by decide)
    obtain ⟨a2, c2, hv2⟩ := own_slice' o2
    subst hv2
    have HTD := hid (wtold_any b a2 0 c2 120 w2 (by omega))
    rw [show toldV b a2 0 c2 120 = .tuple #[.agg #[.bool false, .slice none 0 0], .int .i64 120] from rfl] at HTD
    have HB1 := hid hb2
    clear o2 hb2 t2 HH
    go_wp2_with fail
    refine Calls.mono HTD.out ?_
    rintro e w3 ⟨rfl, hb3⟩
    obtain ⟨r0, r1, f0, f1⟩ := res_box HXB.out (bt HB1.out hb3)
    have HBC := hid (bt HB.out (bt HB1.out hb3))
    clear hb3
    go_wp2_with fail
    refine bodyPost_ret (v := .tuple #[.agg #[.bool false, .slice none 0 0], .int .i64 120]) (by simp [results, Tryd.results21, go_sem, r0, r1]) rfl ?_
    exact ⟨false, _, [], 120, rfl, World.ownsRow_nil _ _ _ _, HWE.out, below_put2 HBC.out _ (Nat.le_refl _) _ _⟩

set_option maxHeartbeats 800000 in
set_option maxRecDepth 100000 in
theorem wprint_err (n : Bool) (v : Value) (xs : List Int) (w : World) (h : Sl w v xs) (hl : xs.length ≤ 281474976710656) (hx : wchk n xs ≠ 0) :
    Calls Tryd.prog 19 #[.agg #[.bool n, v]] w fun e w' => e = .returned (.tuple #[.string ⟨#[]⟩, .int .i64 (wchk n xs)]) ∧ Below w.heap.size w w' := by
  have HB := hid (alloc_later w (.cells #[.bool n, v] 37))
  have HC := hid (wcheck_any n v xs _ (h.later HB.out) (by omega))
  have hne : (wchk n xs != 0) = true := by simp [hx]
  obtain ⟨c, hc⟩ : ∃ c, wchk n xs = c := ⟨_, rfl⟩
  rw [hc] at HC hne ⊢
  obtain ⟨a, cap, rfl, hr⟩ := h
  clear hr hc hx
  go_enter Tryd.func19, Tryd.ntmps19
  go_wp2_with fail
  refine Calls.mono HC.out ?_
  rintro e w1 ⟨rfl, hb1⟩
  have hbF := bt HB.out hb1
  clear hb1
  go_wp2_with fail
  go_ret2
  exact ⟨rfl, hbF⟩

theorem digit_first {l : List UInt8} (h : IsNum l) : ¬ l[0]? = some 45 := fun e => by
  have h1 := h.2.2 45 (List.mem_of_getElem? e)
  have h2 : ((45 : UInt8).toNat : Int) = 45 := rfl
  omega
/-- A whole number's text is read as it. -/
theorem text_parse {n : Bool} {xs : List Int} (wx : Wd xs) (hx : wchk n xs = 0) (T : ByteArray) (hT : T.data.toList = wtext n xs) : T.size ≤ 65536 ∧ wpErr T = 0 ∧ sg (wneg T) (wnum T) = wval n xs := by
  obtain ⟨lx, tx, sx⟩ := wchk_ok hx
  obtain ⟨d1, d2, _⟩ := isNum_dec (val xs).toNat
  have d3 := dec_short wx lx
  have v0 := val_nonneg wx
  have hneg : wneg T = n := by
    unfold wneg
    rw [hT]
    unfold wtext
    cases n with
    | false => exact decide_eq_false (digit_first d1)
    | true => rfl
  have hdig : wdig n T.data.toList = decDigits (val xs).toNat := by
    rw [hT]; unfold wdig wtext
    cases n <;> rfl
  have hnum : wnum T = val xs := by
    unfold wnum
    rw [hneg, hdig, d2]
    omega
  have hsz : T.size ≤ 65536 := by
    rw [← size_list, hT]
    unfold wtext
    rw [List.length_append]
    have : (if n = true then [(45 : UInt8)] else []).length ≤ 1 := by cases n <;> simp
    omega
  refine ⟨hsz, ?_, ?_⟩
  · unfold wpErr
    have hcond : IsNum (wdig (wneg T) T.data.toList) ∧ (wneg T = false ∨ 0 < wnum T) := ⟨by rw [hneg, hdig]; exact d1, by
      rcases sx with e | e
      · left; rw [hneg]; exact e
      · right; rw [hnum]; have := val_pos' wx tx e; omega⟩
    rw [if_neg (by omega), if_pos hcond]
  · rw [hneg, hnum]; rfl
/-- Unlike numbers have unlike texts. -/
theorem text_inj {n m : Bool} {xs ys : List Int} (wx : Wd xs) (wy : Wd ys) (hx : wchk n xs = 0) (hy : wchk m ys = 0) (T U : ByteArray) (hT : T.data.toList = wtext n xs) (hU : U.data.toList = wtext m ys) : T = U ↔ (n = m ∧ xs = ys) := by
  constructor
  · intro e
    have a1 := (text_parse wx hx T hT).2.2
    have a2 := (text_parse wy hy U hU).2.2
    rw [e, a2] at a1
    obtain ⟨_, tx, sx⟩ := wchk_ok hx
    obtain ⟨_, ty, sy⟩ := wchk_ok hy
    exact wsame' wx wy tx ty sx sy a1.symm
  · rintro ⟨rfl, rfl⟩
    have e : T.data.toList = U.data.toList := hT.trans hU.symm
    exact ByteArray.ext (Array.toList_inj.1 e)
/-- What a text is read as has that text. -/
theorem parse_text (s : ByteArray) (he : wpErr s = 0) {n : Bool} {zs : List Int} (wz : Wd zs) (hz : wchk n zs = 0) (hv : wval n zs = sg (wneg s) (wnum s)) : wtext n zs = s.data.toList := by
  unfold wpErr at he
  by_cases h1 : 65536 < s.size
  · rw [if_pos h1] at he; omega
  · rw [if_neg h1] at he
    by_cases h2 : IsNum (wdig (wneg s) s.data.toList) ∧ (wneg s = false ∨ 0 < wnum s)
    · obtain ⟨hN, hs⟩ := h2
      have h0 : 0 ≤ wnum s := (numTo_bounds hN.2.2 _).1
      obtain ⟨_, tz, sz'⟩ := wchk_ok hz
      have v0 := val_nonneg wz
      have hp := val_pos' wz tz
      obtain ⟨hn, hval⟩ : n = wneg s ∧ val zs = wnum s := by
        generalize wneg s = b at *
        cases n <;> cases b <;> simp [wval, sg] at hv hs sz' ⊢
        · exact hv
        · omega
        · have := hp (by omega); omega
        · exact hv
      have hd : decDigits (wnum s).toNat = wdig (wneg s) s.data.toList := by
        obtain ⟨k, hk⟩ : ∃ k, (wdig (wneg s) s.data.toList).length = k + 1 := ⟨_, (Nat.succ_pred_eq_of_pos hN.1).symm⟩
        exact dec_num k _ hk hN
      unfold wtext
      rw [hval, hd, hn]
      unfold wdig
      cases hw : wneg s with
      | false => rfl
      | true =>
        have hc : s.data.toList[0]? = some 45 := of_decide_eq_true hw
        cases hl : s.data.toList with
        | nil => rw [hl] at hc; cases hc
        | cons c l => rw [hl] at hc; simp at hc; simp [hc]
    · rw [if_neg h2] at he; omega
theorem num_small (s : ByteArray) (hs : s.size ≤ 400) (he : wpErr s = 0) : -wlim < sg (wneg s) (wnum s) ∧ sg (wneg s) (wnum s) < wlim := by
  unfold wpErr at he
  rw [if_neg (by omega)] at he
  by_cases h2 : IsNum (wdig (wneg s) s.data.toList) ∧ (wneg s = false ∨ 0 < wnum s)
  · have hb := numTo_bounds h2.1.2.2 (wdig (wneg s) s.data.toList).length
    have hl : (wdig (wneg s) s.data.toList).length ≤ 400 := by
      have := size_list s
      unfold wdig
      split
      · rw [List.length_drop]; omega
      · omega
    have e1 : (10 : Int) ^ (wdig (wneg s) s.data.toList).length ≤ 4294967296 ^ (wdig (wneg s) s.data.toList).length := ten_le _
    have e2 : (4294967296 : Int) ^ (wdig (wneg s) s.data.toList).length ≤ wlim := by unfold wlim; exact pw_le (by omega)
    have e3 : wnum s < wlim := Int.lt_of_lt_of_le hb.2 (Int.le_trans e1 e2)
    have e4 : 0 ≤ wnum s := hb.1
    have e5 := wlim_pos
    cases wneg s <;> simp [sg] <;> omega
  · rw [if_neg h2] at he; omega
end Go.Proofs.YtgimgagnfkinmaaDoor

/- A struct variable that is written: what lies elsewhere stays. -/
namespace Go.Proofs.YtgimgagnfkinmaaDoor
open Go.RowKit
set_option linter.unusedVariables false

theorem Sl.put2 {U : World} {v : Value} {xs : List Int} {b t : Nat} {n : Bool} {a : Option Addr} {k c : Nat} (h : Sl U v xs) (hb : Box U b t #[.bool n, .slice a k c]) (v0 v1 : Value) : Sl ((U.setCell ⟨b, 0, none⟩ v0).setCell ⟨b, 1, none⟩ v1) v xs := by
  obtain ⟨a', cap, rfl, h1, h2, h3, h4⟩ := h
  refine ⟨a', cap, rfl, h1, h2, ?_, h4⟩
  rcases h3 with h0 | ⟨bb, o, rfl, hlt, hc⟩
  · exact .inl h0
  · by_cases hl : xs.length = 0
    · exact .inl hl
    · right
      have hne : bb ≠ b := fun e => by
        subst e
        have e1 := hc 0 (by omega)
        rw [Nat.add_zero, hb.cell o] at e1
        match o with
        | 0 => simp at e1
        | 1 => simp at e1
        | o + 2 => simp at e1
      refine ⟨bb, o, rfl, by simpa [World.setCell] using hlt, fun j hj => ?_⟩
      have e1 := World.cell?_of_block (w := U) (w' := U.setCell ⟨b, 0, none⟩ v0) (a := ⟨bb, o + j, none⟩) (Below.heap_setCell U ⟨b, 0, none⟩ v0 bb hne)
      have e2 := World.cell?_of_block (w := U.setCell ⟨b, 0, none⟩ v0) (w' := (U.setCell ⟨b, 0, none⟩ v0).setCell ⟨b, 1, none⟩ v1) (a := ⟨bb, o + j, none⟩) (Below.heap_setCell _ ⟨b, 1, none⟩ v1 bb hne)
      rw [e2, e1]
      exact hc j hj
theorem Box.put2 {U : World} {b t : Nat} {u0 u1 : Value} (h : Box U b t #[u0, u1]) (v0 v1 : Value) : Box ((U.setCell ⟨b, 0, none⟩ v0).setCell ⟨b, 1, none⟩ v1) b t #[v0, v1] := (h.set 0 v0).set 1 v1
theorem Box.far2 {U : World} {b t b' : Nat} {vs : Array Value} (h : Box U b t vs) (hne : b ≠ b') (v0 v1 : Value) : Box ((U.setCell ⟨b', 0, none⟩ v0).setCell ⟨b', 1, none⟩ v1) b t vs := (h.other ⟨b', 0, none⟩ v0 hne).other ⟨b', 1, none⟩ v1 hne
theorem own_ne_box {U : World} {base e n b t : Nat} {v : Value} {xs : List Value} {vs : Array Value} (h : U.ownsRow base e 1 v n xs) (hb : Box U b t vs) (hne : e ≠ t) : ∀ g, v.ownBlock = some g → g ≠ b := fun g hg => by
  rcases h.2 with ⟨rfl, _⟩ | ⟨g1, c1, u1, rfl, _, hg1, _⟩
  · simp [Value.ownBlock] at hg
  · simp [Value.ownBlock] at hg
    subst hg
    intro e1
    subst e1
    unfold Box at hb
    rw [hg1] at hb
    simp at hb
    exact hne hb.2
/-- A whole number in memory that may be, in new memory. -/
structure Pb (U : World) (base b : Nat) (n : Bool) (a : Option Addr) (c : Nat) (zs : List Int) : Prop where
  box : Box U b 37 #[.bool n, .slice a zs.length c]
  own : U.ownsRow base 47 1 (.slice a zs.length c) zs.length (zs.map (Value.int .u32))
  wd : Wd zs
  ok : wchk n zs = 0
/-- A whole number in memory that may be. -/
structure Ab (U : World) (b : Nat) (n : Bool) (a : Option Addr) (c : Nat) (xs : List Int) : Prop where
  box : Box U b 37 #[.bool n, .slice a xs.length c]
  sl : Sl U (.slice a xs.length c) xs
  ok : wchk n xs = 0
theorem Pb.later {U V : World} {base b : Nat} {n : Bool} {a : Option Addr} {c : Nat} {zs : List Int} (h : Pb U base b n a c zs) (hb : Below U.heap.size U V) : Pb V base b n a c zs := ⟨h.box.later hb h.box.lt, owns_later h.own hb, h.wd, h.ok⟩
theorem Ab.later {U V : World} {b : Nat} {n : Bool} {a : Option Addr} {c : Nat} {zs : List Int} (h : Ab U b n a c zs) (hb : Below U.heap.size U V) : Ab V b n a c zs := ⟨h.box.later hb h.box.lt, h.sl.later hb, h.ok⟩
theorem Pb.far {U : World} {base b : Nat} {n : Bool} {a : Option Addr} {c : Nat} {zs : List Int} (h : Pb U base b n a c zs) {b' : Nat} {n' : Bool} {a' : Option Addr} {k' c' : Nat} (hb : Box U b' 37 #[.bool n', .slice a' k' c']) (hne : b ≠ b') (v0 v1 : Value) : Pb ((U.setCell ⟨b', 0, none⟩ v0).setCell ⟨b', 1, none⟩ v1) base b n a c zs :=
  ⟨h.box.far2 hne v0 v1, own_put2 h.own b' (own_ne_box h.own hb (by decide)) v0 v1, h.wd, h.ok⟩
theorem Ab.far {U : World} {b : Nat} {n : Bool} {a : Option Addr} {c : Nat} {zs : List Int} (h : Ab U b n a c zs) {b' : Nat} {n' : Bool} {a' : Option Addr} {k' c' : Nat} (hb : Box U b' 37 #[.bool n', .slice a' k' c']) (hne : b ≠ b') (v0 v1 : Value) : Ab ((U.setCell ⟨b', 0, none⟩ v0).setCell ⟨b', 1, none⟩ v1) b n a c zs :=
  ⟨h.box.far2 hne v0 v1, h.sl.put2 hb v0 v1, h.ok⟩
theorem Pb.put {U : World} {base b : Nat} {n' : Bool} {a' : Option Addr} {k' c' : Nat} (hb : Box U b 37 #[.bool n', .slice a' k' c']) {n : Bool} {a : Option Addr} {c : Nat} {zs : List Int} (ho : U.ownsRow base 47 1 (.slice a zs.length c) zs.length (zs.map (Value.int .u32))) (hw : Wd zs) (hk : wchk n zs = 0) :
    Pb ((U.setCell ⟨b, 0, none⟩ (.bool n)).setCell ⟨b, 1, none⟩ (.slice a zs.length c)) base b n a c zs := ⟨hb.put2 _ _, own_put2 ho b (own_ne_box ho hb (by decide)) _ _, hw, hk⟩
theorem Ab.put {U : World} {b : Nat} {n' : Bool} {a' : Option Addr} {k' c' : Nat} (hb : Box U b 37 #[.bool n', .slice a' k' c']) {n : Bool} {a : Option Addr} {c : Nat} {zs : List Int} (hs : Sl U (.slice a zs.length c) zs) (hk : wchk n zs = 0) :
    Ab ((U.setCell ⟨b, 0, none⟩ (.bool n)).setCell ⟨b, 1, none⟩ (.slice a zs.length c)) b n a c zs := ⟨hb.put2 _ _, hs.put2 hb _ _, hk⟩
theorem Pb.c {U : World} {base b : Nat} {n : Bool} {a : Option Addr} {c : Nat} {zs : List Int} (h : Pb U base b n a c zs) : U.cell? ⟨b, 0, none⟩ = some (.bool n) ∧ U.cell? ⟨b, 1, none⟩ = some (.slice a zs.length c) ∧ U.frozen? ⟨b, 0, none⟩ = false ∧ U.frozen? ⟨b, 1, none⟩ = false := ⟨h.box.cell 0, h.box.cell 1, h.box.free 0, h.box.free 1⟩
theorem Ab.c {U : World} {b : Nat} {n : Bool} {a : Option Addr} {c : Nat} {zs : List Int} (h : Ab U b n a c zs) : U.cell? ⟨b, 0, none⟩ = some (.bool n) ∧ U.cell? ⟨b, 1, none⟩ = some (.slice a zs.length c) ∧ U.frozen? ⟨b, 0, none⟩ = false ∧ U.frozen? ⟨b, 1, none⟩ = false := ⟨h.box.cell 0, h.box.cell 1, h.box.free 0, h.box.free 1⟩
theorem Box.c2 {U : World} {b t : Nat} {u0 u1 : Value} (h : Box U b t #[u0, u1]) : U.cell? ⟨b, 0, none⟩ = some u0 ∧ U.cell? ⟨b, 1, none⟩ = some u1 ∧ U.frozen? ⟨b, 0, none⟩ = false ∧ U.frozen? ⟨b, 1, none⟩ = false := ⟨h.cell 0, h.cell 1, h.free 0, h.free 1⟩
theorem wchk_one {n : Bool} {zs : List Int} (l : zs.length ≤ 2048) (t : Trimmed zs) (s : n = false ∨ 0 < zs.length) : wchk n zs = 0 := wchk_good l t s
end Go.Proofs.YtgimgagnfkinmaaDoor

/- The document's own made and Of of layer 2. -/
namespace Go.Proofs.YtgimgagnfkinmaaDoor
open Go.RowKit
set_option linter.unusedVariables false

set_option maxHeartbeats 3200000 in
set_option maxRecDepth 100000 in
theorem made_any (n : Bool) (v : Value) (xs : List Int) (w : World) (h : Sl w v xs) (hn : xs.length ≤ 549755813888) :
    Calls Tryd.prog 57 #[.bool n, v] w fun e w' => ∃ v', e = .returned (.agg #[.bool (n && decide (0 < sz xs)), v']) ∧ w'.ownsRow w.heap.size 47 1 v' (sz xs) ((trimmed xs).map (Value.int .u32)) ∧ Below w.heap.size w w' := by
  obtain ⟨i0, hi, hz0, hz1, hz2⟩ := info_parts Tryd.infoW
  have HB := hid (alloc_later w (.cells #[.bool false, .slice none 0 0] 37))
  have HT := hid (refTrim_sl v xs _ (h.later HB.out) (by omega))
  have HWD := hid h.wd.trimmed
  have sx := sz_le xs
  obtain ⟨a, cap, rfl, hr⟩ := h
  clear hr
  generalize trimmed xs = zs at *
  generalize sz xs = k at *
  cases n with
  | false =>
    have HNB : Hid ((false && decide (0 < k)) = false) := rfl
    go_enter Tryd.func57, Tryd.ntmps57
    go_wp2_with fail
    refine Calls.mono HT.out ?_
    rintro e w1 ⟨v1, rfl, o1, hb1⟩
    have hs1 := hb1.size
    have HB1 := hid hb1
    clear hb1
    have hrd := Reads.own o1 HWD.out
    have hlo : (zs.map (Value.int .u32)).length = k := by have := o1.1; omega
    rcases o1.2 with ⟨h1, h2⟩ | ⟨g, cp, cur, h1, _⟩
    · subst h1
      subst h2
      have hz : zs = [] := List.eq_nil_of_length_eq_zero (by simpa using hlo)
      subst hz
      clear hrd o1
      have ho2 : w1.ownsRow w1.heap.size 47 1 (.slice none 0 0) 0 [] := World.ownsRow_nil _ _ _ _
      have hb2 := Below.refl w1.heap.size w1
      obtain ⟨r0, r1, f0, f1⟩ := res_box (Box.made w _ _) (bt HB1.out hb2)
      have HO2 := hid (owns_base ho2 HB1.out.size)
      have HBW := hid (bt HB.out (bt HB1.out hb2))
      clear ho2 hb2
      go_wp2_with (at_builtin; refine wpList_append_own_none rfl _ _ 22 rfl w1.heap.size 47 i0 1 Tryd.underlying22 hi _ 0 [] rfl (World.ownsRow_nil _ _ _ _) rfl ?_)
      refine bodyPost_ret (v := .agg #[.bool false, .slice none 0 0]) (by simp [results, Tryd.results57, go_sem, r0, r1]) rfl ?_
      refine ⟨_, by rw [HNB.out], ?_, below_put2 HBW.out _ (Nat.le_refl _) _ _⟩
      exact owns_base (own_put2 (by simpa using HO2.out) w.heap.size (fun g hg => by have := (World.ownsRow.lt HO2.out g hg).1; simp at this; omega) _ _) (by simp)
    · subst h1
      obtain ⟨aa, cc, hv, hrr⟩ := hrd
      simp only [Value.slice.injEq] at hv
      obtain ⟨rfl, _, rfl⟩ := hv
      have HN := hid (copy_news hrr)
      have HLn : Hid ((zs.map (Value.int .u32)).length = k * 1) := by show _ = _; omega
      clear o1 hrr
      go_wp2_with (at_builtin; refine wpList_append_own _ rfl _ _ 22 rfl w1.heap.size 47 i0 (.int .u32 0) 1 4 Tryd.underlying22 hi hz0 hz1 hz2 rfl (by decide) _ 0 [] rfl (World.ownsRow_nil _ _ _ _) ⟨g, 0, none⟩ k cp (zs.map (Value.int .u32)) rfl HLn.out HN.out (ints_oneCell _ _) (by unfold maxLen; omega) (by omega) (Nat.le_refl _) ?_)
      intro v2 w2 ho2x hg2 _
      have ho2 : w2.ownsRow w1.heap.size 47 1 v2 k (zs.map (Value.int .u32)) := by simpa using ho2x
      clear ho2x
      have hb2 : Below w1.heap.size w1 w2 := (Below.refl _ _).grown hg2 (Nat.le_refl _) (fun k hk => by simp [Value.ownBlock] at hk)
      obtain ⟨r0, r1, f0, f1⟩ := res_box (Box.made w _ _) (bt HB1.out hb2)
      have HO2 := hid (owns_base ho2 HB1.out.size)
      have HBW := hid (bt HB.out (bt HB1.out hb2))
      obtain ⟨a2, c2, hs2⟩ := own_slice' ho2
      subst hs2
      clear ho2 hb2 hg2
      go_wp2_with fail
      refine bodyPost_ret (v := .agg #[.bool false, .slice a2 k c2]) (by simp [results, Tryd.results57, go_sem, r0, r1]) rfl ?_
      refine ⟨_, by rw [HNB.out], ?_, below_put2 HBW.out _ (Nat.le_refl _) _ _⟩
      exact owns_base (own_put2 (by simpa using HO2.out) w.heap.size (fun g hg => by have := (World.ownsRow.lt HO2.out g hg).1; simp at this; omega) _ _) (by simp)
  | true =>
    by_cases hk : 0 < k
    · have hk' : (0 : Int) < (k : Int) := by omega
      have HNB : Hid ((true && decide (0 < k)) = true) := by show _ = _; simp [hk]
      go_enter Tryd.func57, Tryd.ntmps57
      go_wp2_with fail
      refine Calls.mono HT.out ?_
      rintro e w1 ⟨v1, rfl, o1, hb1⟩
      have hs1 := hb1.size
      have HB1 := hid hb1
      clear hb1
      have hrd := Reads.own o1 HWD.out
      have hlo : (zs.map (Value.int .u32)).length = k := by have := o1.1; omega
      rcases o1.2 with ⟨h1, h2⟩ | ⟨g, cp, cur, h1, _⟩
      · subst h1
        subst h2
        have hz : zs = [] := List.eq_nil_of_length_eq_zero (by simpa using hlo)
        subst hz
        clear hrd o1
        have ho2 : w1.ownsRow w1.heap.size 47 1 (.slice none 0 0) 0 [] := World.ownsRow_nil _ _ _ _
        have hb2 := Below.refl w1.heap.size w1
        obtain ⟨r0, r1, f0, f1⟩ := res_box (Box.made w _ _) (bt HB1.out hb2)
        have HO2 := hid (owns_base ho2 HB1.out.size)
        have HBW := hid (bt HB.out (bt HB1.out hb2))
        clear ho2 hb2
        go_wp2_with (at_builtin; refine wpList_append_own_none rfl _ _ 22 rfl w1.heap.size 47 i0 1 Tryd.underlying22 hi _ 0 [] rfl (World.ownsRow_nil _ _ _ _) rfl ?_)
        exact absurd hk (by omega)
      · subst h1
        obtain ⟨aa, cc, hv, hrr⟩ := hrd
        simp only [Value.slice.injEq] at hv
        obtain ⟨rfl, _, rfl⟩ := hv
        have HN := hid (copy_news hrr)
        have HLn : Hid ((zs.map (Value.int .u32)).length = k * 1) := by show _ = _; omega
        clear o1 hrr
        go_wp2_with (at_builtin; refine wpList_append_own _ rfl _ _ 22 rfl w1.heap.size 47 i0 (.int .u32 0) 1 4 Tryd.underlying22 hi hz0 hz1 hz2 rfl (by decide) _ 0 [] rfl (World.ownsRow_nil _ _ _ _) ⟨g, 0, none⟩ k cp (zs.map (Value.int .u32)) rfl HLn.out HN.out (ints_oneCell _ _) (by unfold maxLen; omega) (by omega) (Nat.le_refl _) ?_)
        intro v2 w2 ho2x hg2 _
        have ho2 : w2.ownsRow w1.heap.size 47 1 v2 k (zs.map (Value.int .u32)) := by simpa using ho2x
        clear ho2x
        have hb2 : Below w1.heap.size w1 w2 := (Below.refl _ _).grown hg2 (Nat.le_refl _) (fun k hk => by simp [Value.ownBlock] at hk)
        obtain ⟨r0, r1, f0, f1⟩ := res_box (Box.made w _ _) (bt HB1.out hb2)
        have HO2 := hid (owns_base ho2 HB1.out.size)
        have HBW := hid (bt HB.out (bt HB1.out hb2))
        obtain ⟨a2, c2, hs2⟩ := own_slice' ho2
        subst hs2
        clear ho2 hb2 hg2
        go_wp2_with fail
        refine bodyPost_ret (v := .agg #[.bool true, .slice a2 k c2]) (by simp [results, Tryd.results57, go_sem, r0, r1]) rfl ?_
        refine ⟨_, by rw [HNB.out], ?_, below_put2 HBW.out _ (Nat.le_refl _) _ _⟩
        exact owns_base (own_put2 (by simpa using HO2.out) w.heap.size (fun g hg => by have := (World.ownsRow.lt HO2.out g hg).1; simp at this; omega) _ _) (by simp)
    · have hk' : ¬ (0 : Int) < (k : Int) := by omega
      have HNB : Hid ((true && decide (0 < k)) = false) := by show _ = _; simp [hk]
      go_enter Tryd.func57, Tryd.ntmps57
      go_wp2_with fail
      refine Calls.mono HT.out ?_
      rintro e w1 ⟨v1, rfl, o1, hb1⟩
      have hs1 := hb1.size
      have HB1 := hid hb1
      clear hb1
      have hrd := Reads.own o1 HWD.out
      have hlo : (zs.map (Value.int .u32)).length = k := by have := o1.1; omega
      rcases o1.2 with ⟨h1, h2⟩ | ⟨g, cp, cur, h1, _⟩
      · subst h1
        subst h2
        have hz : zs = [] := List.eq_nil_of_length_eq_zero (by simpa using hlo)
        subst hz
        clear hrd o1
        have ho2 : w1.ownsRow w1.heap.size 47 1 (.slice none 0 0) 0 [] := World.ownsRow_nil _ _ _ _
        have hb2 := Below.refl w1.heap.size w1
        obtain ⟨r0, r1, f0, f1⟩ := res_box (Box.made w _ _) (bt HB1.out hb2)
        have HO2 := hid (owns_base ho2 HB1.out.size)
        have HBW := hid (bt HB.out (bt HB1.out hb2))
        clear ho2 hb2
        go_wp2_with (at_builtin; refine wpList_append_own_none rfl _ _ 22 rfl w1.heap.size 47 i0 1 Tryd.underlying22 hi _ 0 [] rfl (World.ownsRow_nil _ _ _ _) rfl ?_)
        refine bodyPost_ret (v := .agg #[.bool false, .slice none 0 0]) (by simp [results, Tryd.results57, go_sem, r0, r1]) rfl ?_
        refine ⟨_, by rw [HNB.out], ?_, below_put2 HBW.out _ (Nat.le_refl _) _ _⟩
        exact owns_base (own_put2 (by simpa using HO2.out) w.heap.size (fun g hg => by have := (World.ownsRow.lt HO2.out g hg).1; simp at this; omega) _ _) (by simp)
      · subst h1
        obtain ⟨aa, cc, hv, hrr⟩ := hrd
        simp only [Value.slice.injEq] at hv
        obtain ⟨rfl, _, rfl⟩ := hv
        have HN := hid (copy_news hrr)
        have HLn : Hid ((zs.map (Value.int .u32)).length = k * 1) := by show _ = _; omega
        clear o1 hrr
        go_wp2_with (at_builtin; refine wpList_append_own _ rfl _ _ 22 rfl w1.heap.size 47 i0 (.int .u32 0) 1 4 Tryd.underlying22 hi hz0 hz1 hz2 rfl (by decide) _ 0 [] rfl (World.ownsRow_nil _ _ _ _) ⟨g, 0, none⟩ k cp (zs.map (Value.int .u32)) rfl HLn.out HN.out (ints_oneCell _ _) (by unfold maxLen; omega) (by omega) (Nat.le_refl _) ?_)
        intro v2 w2 ho2x hg2 _
        have ho2 : w2.ownsRow w1.heap.size 47 1 v2 k (zs.map (Value.int .u32)) := by simpa using ho2x
        clear ho2x
        have hb2 : Below w1.heap.size w1 w2 := (Below.refl _ _).grown hg2 (Nat.le_refl _) (fun k hk => by simp [Value.ownBlock] at hk)
        obtain ⟨r0, r1, f0, f1⟩ := res_box (Box.made w _ _) (bt HB1.out hb2)
        have HO2 := hid (owns_base ho2 HB1.out.size)
        have HBW := hid (bt HB.out (bt HB1.out hb2))
        obtain ⟨a2, c2, hs2⟩ := own_slice' ho2
        subst hs2
        clear ho2 hb2 hg2
        go_wp2_with fail
        refine bodyPost_ret (v := .agg #[.bool false, .slice a2 k c2]) (by simp [results, Tryd.results57, go_sem, r0, r1]) rfl ?_
        refine ⟨_, by rw [HNB.out], ?_, below_put2 HBW.out _ (Nat.le_refl _) _ _⟩
        exact owns_base (own_put2 (by simpa using HO2.out) w.heap.size (fun g hg => by have := (World.ownsRow.lt HO2.out g hg).1; simp at this; omega) _ _) (by simp)

end Go.Proofs.YtgimgagnfkinmaaDoor

/- The document's own sum of natural numbers: slackwaterref01.Plus: of every two lists that can be read. -/
namespace Go.Proofs.YtgimgagnfkinmaaDoor
open Go.RowKit
set_option linter.unusedVariables false

/-- One number, trimmed, in new memory. -/
def Ref1 (w : World) (t : Int) (x : Ending) (w' : World) : Prop := ∃ v zs, x = .returned v ∧ w'.ownsRow w.heap.size 47 1 v zs.length (zs.map (Value.int .u32)) ∧ Wd zs ∧ Trimmed zs ∧ val zs = t ∧ Below w.heap.size w w'
theorem plus_end {us : List Int} (hw : Wd us) (n : Nat) (c V : Int) (hl : us.length = n) (h0 : 0 ≤ c) (h1 : V < 4294967296 ^ n) (h : valTo us n + c * 4294967296 ^ n = V) : val us = V := by
  have b := valTo_bounds hw n
  have hp := pw_pos n
  have hc : c = 0 := by
    by_cases z : c = 0
    · exact z
    · have e1 : 1 * 4294967296 ^ n ≤ c * 4294967296 ^ n := Int.mul_le_mul_of_nonneg_right (by omega) (by omega)
      omega
  rw [hc] at h
  rw [← valTo_stable us n (by omega)]
  omega

end Go.Proofs.YtgimgagnfkinmaaDoor

/- The document's own difference and product of natural numbers: slackwaterref01.Less, Times: of every two lists that can be read. -/
namespace Go.Proofs.YtgimgagnfkinmaaDoor
open Go.RowKit
set_option linter.unusedVariables false

theorem bdw {B : Nat} {a w : World} (h : Below B a w) (n : Nat) : Below B a (w.drewN n) := h.trans ⟨rfl, rfl, rfl, Nat.le_refl _, fun _ _ => rfl⟩
theorem less_step (xs ys us : List Int) (k : Nat) (cc z c' : Int) (hk : k < us.length) (ht : z - c' * 4294967296 = xs[k]?.getD 0 - (ys[k]?.getD 0 + cc)) (h : valTo us k - cc * 4294967296 ^ k = valTo xs k - valTo ys k) :
    valTo (us.set k z) (k + 1) - c' * 4294967296 ^ (k + 1) = valTo xs (k + 1) - valTo ys (k + 1) := by
  rw [valTo_set us k z hk, valTo_succ, valTo_succ, pw_succ]
  generalize (4294967296 : Int) ^ k = P at *
  generalize xs[k]?.getD 0 = x at *
  generalize ys[k]?.getD 0 = y at *
  grind
theorem less_end {us : List Int} (hw : Wd us) (n : Nat) (c V : Int) (hl : us.length = n) (h0 : 0 ≤ c) (hV : 0 ≤ V) (h : valTo us n - c * 4294967296 ^ n = V) : val us = V := by
  have b := valTo_bounds hw n
  have hp := pw_pos n
  have hc : c = 0 := by
    by_cases z : c = 0
    · exact z
    · have e1 : 1 * 4294967296 ^ n ≤ c * 4294967296 ^ n := Int.mul_le_mul_of_nonneg_right (by omega) (by omega)
      omega
  rw [hc] at h
  rw [← valTo_stable us n (by omega)]
  omega
theorem word_q {a : Option Addr} {n cap : Nat} {zs : List Int} {B : Nat} {wr : World} (k : Nat) (h : Reads wr B a n cap zs) (hn : n ≤ 281474976710656) (j : Nat) :
    Calls Tryd.prog 60 #[.slice a n cap, .int .i64 (k : Int)] (wr.drewN j) fun e w' => e = .returned (.int .u32 (zs[k]?.getD 0)) ∧ w' = wr.drewN j := by
  have e := word_any a n cap zs B (k : Int) (wr.drewN j) (h.later (bdw (Below.refl _ _) j) (Nat.le_refl _)) hn (by omega)
  rw [Int.toNat_natCast] at e
  exact Calls.mono e (fun _ _ h => ⟨h.1, h.2.symm⟩)

end Go.Proofs.YtgimgagnfkinmaaDoor

/- The document's own product of natural numbers: slackwaterref01.Times: of every two lists that can be read. -/
namespace Go.Proofs.YtgimgagnfkinmaaDoor
open Go.RowKit
set_option linter.unusedVariables false

theorem Reads.cells {w : World} {B : Nat} {a : Option Addr} {n cap : Nat} {zs : List Int} (h : Reads w B a n cap zs) : ∀ k, k < n → ∃ b1 o1, a = some ⟨b1, o1, none⟩ ∧ b1 < B ∧ w.cell? ⟨b1, o1 + k, none⟩ = some (.int .u32 (zs[k]?.getD 0)) := fun k hk => by
  rcases h.2.2.1 with h0 | ⟨b1, o1, e1, l1, c1⟩
  · omega
  · exact ⟨b1, o1, e1, l1, c1 k hk⟩
theorem replicate_zero (n j : Nat) : (List.replicate n (0 : Int))[j]?.getD 0 = 0 := by rw [List.getElem?_replicate]; split <;> rfl
/-- Behind a row of a product. -/
theorem row_end (xs zs us ys : List Int) (k m : Nat) (c : Int) (hl : k + m < us.length) (hku : ∀ j, j < k ∨ k + m ≤ j → us[j]?.getD 0 = ys[j]?.getD 0) (hvu : segTo us k m + c * 4294967296 ^ m = segTo ys k m + xs[k]?.getD 0 * val zs) (hv : valTo ys (k + m) = valTo xs k * val zs) :
    valTo (us.set (k + m) c) (k + 1 + m) = valTo xs (k + 1) * val zs := by
  rw [show k + 1 + m = k + m + 1 by omega, valTo_set us (k + m) c (by omega), valTo_seg us k m, valTo_congr us ys k (fun j hj => hku j (by omega)), valTo_succ, Int.add_mul, ← hv, valTo_seg ys k m]
  have e1 : (4294967296 : Int) ^ (k + m) = 4294967296 ^ m * 4294967296 ^ k := by rw [Nat.add_comm, Int.pow_add]
  rw [e1, ← Int.mul_assoc, Int.add_assoc, ← Int.add_mul, hvu, Int.add_mul, ← Int.add_assoc]
  congr 1
  rw [Int.mul_assoc, Int.mul_comm (val zs), ← Int.mul_assoc]

end Go.Proofs.YtgimgagnfkinmaaDoor

/- The document's own division by one word and its shifts: slackwaterref01.small, Up, Down: of every list that can be read. -/
namespace Go.Proofs.YtgimgagnfkinmaaDoor
open Go.RowKit
set_option linter.unusedVariables false

set_option maxHeartbeats 3200000 in
set_option maxRecDepth 100000 in
theorem refSmall_any (a : Option Addr) (n cap : Nat) (xs : List Int) (x : Int) (w : World) (h : Reads w w.heap.size a n cap xs) (hn : n ≤ 549755813888) (hx : 1 ≤ x ∧ x ≤ 4294967295) :
    Calls Tryd.prog 70 #[.slice a n cap, .int .u32 x] w fun e w' => ∃ v zs r, e = .returned (.tuple #[v, .int .u32 r]) ∧ w'.ownsRow w.heap.size 47 1 v zs.length (zs.map (Value.int .u32)) ∧ Wd zs ∧ Trimmed zs ∧ val xs = val zs * x + r ∧ 0 ≤ r ∧ r < x ∧ Below w.heap.size w w' := by
  obtain ⟨i0, hi, hz0, hz1, hz2⟩ := info_parts Tryd.infoW
  have hx1 := hx.1
  have hx2 := hx.2
  have WX := hid h.2.1
  have HL := hid h.1
  have HCX := hid h.cells
  have hcap := h.2.2.2.1
  clear h hx
  go_enter Tryd.func70, Tryd.ntmps70
  go_wp2_with (at_make; refine wpList_make_full _ rfl _ _ 22 rfl w.heap.size 47 i0 (.int .u32 0) 1 Tryd.underlying22 hi hz0 hz1 _ _ _ _ n rfl rfl (by omega) (by omega) (by rw [hz2]; omega) (by unfold maxLen; omega) (Nat.le_refl _) ?_)
  intro w1 hown hgrow
  have hbel : Below w.heap.size w w1 := (Below.refl _ _).grown hgrow (Nat.le_refl _) (fun k hk => by simp at hk)
  have HO := hid (OwnW.made hown)
  clear hown hgrow
  go_wp2_with fail
  go_loopw [7, 8] (fun c t wr => ∃ (k : Nat) (r : Int) (us : List Int), k ≤ n ∧ t = .int .i64 ((k : Int) - 1) ∧ c = .int .u64 r ∧ 0 ≤ r ∧ r < x ∧ Wd us ∧ Hid (segTo xs k (n - k) = segTo us k (n - k) * x + r) ∧ OwnW wr w.heap.size w.heap.size n us ∧ Below w.heap.size w wr) (fun _ t _ => (intOf t + 1).toNat)
  case atStart => exact ⟨n, 0, _, by omega, rfl, rfl, by omega, by omega, Wd.replicate _, show _ = _ by rw [Nat.sub_self]; simp [segTo], HO.out, hbel⟩
  case round =>
    obtain ⟨k, r, us, hk, rfl, rfl, r0, r1, hwu, HV, ho, hb⟩ := hrel
    rcases k with _ | k
    · have hlu := ho.len
      have HF : Hid (val xs = val us * x + r) := by
        show _ = _
        have e := HV.out
        rw [segTo_zero, segTo_zero, valTo_stable xs _ (by have := HL.out; omega), valTo_stable us _ (by omega)] at e
        exact e
      have HR := hid (refTrim_sl (.slice (some ⟨w.heap.size, 0, none⟩) us.length us.length) us wr (Sl.own (owns_len (show wr.ownsRow w.heap.size 47 1 (.slice (some ⟨w.heap.size, 0, none⟩) us.length us.length) us.length (us.map (Value.int .u32)) by rw [hlu]; exact ho)) hwu) (by omega))
      rw [hlu] at HR
      clear ho HV
      go_wp2_with fail
      refine Calls.mono HR.out ?_
      rintro e w3 ⟨v3, rfl, o3, hb3⟩
      have HO3 := hid (owns_base (owns_len o3) hb.size)
      have hbF := bt hb hb3
      clear o3 hb3
      go_wp2_with fail
      go_ret2
      exact ⟨v3, _, r, rfl, HO3.out, hwu.trimmed, Trimmed.trimmed _, by rw [val_trimmed]; exact HF.out, r0, r1, hbF⟩
    · have ek : (((k + 1 : Nat) : Int) - 1) = (k : Int) := by omega
      rw [ek]
      clear ek
      obtain ⟨b1, o1, rfl, l1, cx⟩ := HCX.out k (by omega)
      have x1 : wr.cell? ⟨b1, o1 + k, none⟩ = some (.int .u32 (xs[k]?.getD 0)) := (hb.cell (p := ⟨b1, o1 + k, none⟩) l1).trans cx
      have y1 := ho.cell k (by omega)
      have f1 := ho.free k
      have bu := WX.out.at k
      have hlu := ho.len
      obtain ⟨t, ht⟩ : ∃ t, t = xs[k]?.getD 0 + r * 4294967296 := ⟨_, rfl⟩
      obtain ⟨t0, q0, q1, m0, m1⟩ := div_word x r (xs[k]?.getD 0) t hx1 r0 r1 bu ht
      have t2 : t ≤ 18446744073709551615 := by omega
      have HV' := hid (div_step xs us n k x r t (by omega) hlu.symm ht HV.out)
      have HO' := hid (ho.set k (t / x))
      have HB' := hid (hb.setCell (p := ⟨w.heap.size, k, none⟩) (Nat.le_refl _) (.int .u32 (t / x)))
      have hT : r * 4294967296 + xs[k]?.getD 0 = t := by omega
      have hxz : ¬ x = 0 := by omega
      clear hlu ho hb HV ht cx
      go_wp2_with fail
      go_roundw
      case rel => exact ⟨k, t % x, us.set k (t / x), by omega, rfl, rfl, m0, m1, hwu.set k ⟨q0, q1⟩, HV', HO'.out, HB'.out⟩
      case measure => simp [intOf]

/-- A word moved up lays a multiple of the power into its place, and less than the power into the next one. -/
theorem up_word (x : Int) (t : Nat) (ht : t ≤ 31) (x0 : 0 ≤ x) (x1 : x ≤ 4294967295) : x * 2 ^ t % 4294967296 ≤ 4294967296 - 2 ^ t ∧ 0 ≤ x * 2 ^ t / 4294967296 ∧ x * 2 ^ t / 4294967296 < 2 ^ t := by
  have hp := two_pos t
  have hs := two_split t (by omega)
  have hr := two_pos (32 - t)
  refine ⟨?_, Int.ediv_nonneg (Int.mul_nonneg x0 (by omega)) (by omega), Int.ediv_lt_of_lt_mul (by omega) ?_⟩
  · have e : x * 2 ^ t % 4294967296 = x % 2 ^ (32 - t) * 2 ^ t := by
      rw [hs, Int.mul_comm x, Int.mul_emod_mul_of_pos _ _ hp, Int.mul_comm]
    rw [e]
    have h1 := Int.emod_lt_of_pos x hr
    have h2 : (x % 2 ^ (32 - t) + 1) * 2 ^ t ≤ 2 ^ (32 - t) * 2 ^ t := Int.mul_le_mul_of_nonneg_right (by omega) (by omega)
    rw [Int.mul_comm (2 ^ (32 - t)), ← hs] at h2
    rw [Int.add_mul] at h2
    omega
  · have h2 : x * 2 ^ t < 4294967296 * 2 ^ t := Int.mul_lt_mul_of_pos_right (by omega) hp
    rw [Int.mul_comm (2 ^ t)]
    exact h2
theorem up_step (xs us : List Int) (W k : Nat) (Q c lo hi p : Int) (hk : W + k + 1 < us.length) (hc : us[W + k]?.getD 0 = c) (hp : xs[k]?.getD 0 * Q = p) (hl : p = lo + hi * 4294967296) (h : segTo us W (k + 1) = valTo xs k * Q) :
    segTo ((us.set (W + k) (c + lo)).set (W + k + 1) hi) W (k + 1 + 1) = valTo xs (k + 1) * Q := by
  rw [show W + k + 1 = W + (k + 1) by omega, segTo_set _ W (k + 1) hi (by rw [List.length_set]; omega), segTo_set us W k _ (by omega), valTo_succ, pw_succ]
  rw [segTo_succ, hc] at h
  generalize (4294967296 : Int) ^ k = P at *
  generalize segTo us W k = S at *
  generalize valTo xs k = V at *
  generalize xs[k]?.getD 0 = X at *
  grind

set_option maxHeartbeats 3200000 in
set_option maxRecDepth 100000 in
theorem refUp_any (a : Option Addr) (n cap : Nat) (xs : List Int) (W t : Nat) (M : Int) (w : World) (h : Reads w w.heap.size a n cap xs) (hn : n ≤ 274877906944) (hn0 : 0 < n) (hW : W ≤ 274877906944) (ht : t ≤ 31) (hM : M = 32 * W + t) :
    Calls Tryd.prog 35 #[.slice a n cap, .int .i64 M] w (Ref1 w (val xs * 2 ^ t * 4294967296 ^ W)) := by
  obtain ⟨i0, hi, hz0, hz1, hz2⟩ := info_parts Tryd.infoW
  have WX := hid h.2.1
  have HL := hid h.1
  have HCX := hid h.cells
  have hcap := h.2.2.2.1
  have hq : M / 32 = (W : Int) := by omega
  have hr : M % 32 = (t : Int) := by omega
  have hM0 : 0 ≤ M := by omega
  have hM1 : M ≤ 9000000000000 := by omega
  have hnz : ((n : Int) == 0) = false := by simp; omega
  clear h hM
  go_enter Tryd.func35, Tryd.ntmps35
  go_wp2_with (at_make; refine wpList_make_full _ rfl _ _ 22 rfl w.heap.size 47 i0 (.int .u32 0) 1 Tryd.underlying22 hi hz0 hz1 _ _ _ _ (n + W + 1) rfl rfl (by omega) (by omega) (by rw [hz2]; omega) (by unfold maxLen; omega) (Nat.le_refl _) ?_)
  intro w1 hown hgrow
  have hbel : Below w.heap.size w w1 := (Below.refl _ _).grown hgrow (Nat.le_refl _) (fun k hk => by simp at hk)
  have HO := hid (OwnW.made hown)
  clear hown hgrow
  go_wp2_with fail
  go_loopw [6] (fun z wr => ∃ (k : Nat) (us : List Int), k ≤ n ∧ z = .int .i64 k ∧ Wd us ∧ Hid (us[W + k]?.getD 0 < 2 ^ t) ∧ Hid (segTo us W (k + 1) = valTo xs k * 2 ^ t) ∧ Hid (∀ j, j < W ∨ W + k + 1 ≤ j → us[j]?.getD 0 = 0) ∧ OwnW wr w.heap.size w.heap.size (n + W + 1) us ∧ Below w.heap.size w wr) (fun z _ => n - (intOf z).toNat)
  case atStart =>
    refine ⟨0, _, by omega, rfl, Wd.replicate _, ?_, ?_, fun j _ => replicate_zero _ j, HO.out, hbel⟩
    · show _ < _
      rw [replicate_zero]; exact two_pos t
    · show _ = _
      rw [segTo_succ, Nat.add_zero, replicate_zero]; simp [segTo, valTo]
  case round =>
    obtain ⟨k, us, hk, rfl, hwu, HC, HV, HK, ho, hb⟩ := hrel
    by_cases hlt : k < n
    · obtain ⟨b1, o1, rfl, l1, cx⟩ := HCX.out k (by omega)
      have x1 : wr.cell? ⟨b1, o1 + k, none⟩ = some (.int .u32 (xs[k]?.getD 0)) := (hb.cell (p := ⟨b1, o1 + k, none⟩) l1).trans cx
      have y1 := ho.cell (W + k) (by omega)
      have f1 := ho.free (W + k)
      have bx := WX.out.at k
      have hlu := ho.len
      have bc := hwu.at (W + k)
      obtain ⟨u1, u2, u3⟩ := up_word _ t ht bx.1 bx.2
      obtain ⟨q0, q1, q2, q3⟩ := shl_word _ t ht bx.1 bx.2
      have c1 := HC.out
      have HST := hid (fun c lo hi p => up_step xs us W k (2 ^ t) c lo hi p (by omega))
      have HOB : Hid (∀ A B, OwnW ((wr.setCell ⟨w.heap.size, W + k, none⟩ (.int .u32 A)).setCell ⟨w.heap.size, W + k + 1, none⟩ (.int .u32 B)) w.heap.size w.heap.size (n + W + 1) ((us.set (W + k) A).set (W + k + 1) B) ∧ Below w.heap.size w ((wr.setCell ⟨w.heap.size, W + k, none⟩ (.int .u32 A)).setCell ⟨w.heap.size, W + k + 1, none⟩ (.int .u32 B))) := fun A B =>
        ⟨(ho.set (W + k) A).set (W + k + 1) B, (hb.setCell (p := ⟨w.heap.size, W + k, none⟩) (Nat.le_refl _) _).setCell (p := ⟨w.heap.size, W + k + 1, none⟩) (Nat.le_refl _) _⟩
      have HF2 : Hid (∀ A, (wr.setCell ⟨w.heap.size, W + k, none⟩ (.int .u32 A)).cell? ⟨w.heap.size, W + k + 1, none⟩ = some (.int .u32 ((us.set (W + k) A)[W + k + 1]?.getD 0)) ∧ (wr.setCell ⟨w.heap.size, W + k, none⟩ (.int .u32 A)).frozen? ⟨w.heap.size, W + k + 1, none⟩ = false) := fun A => ⟨(ho.set (W + k) A).cell (W + k + 1) (by omega), (ho.set (W + k) A).free _⟩
      obtain ⟨X, hX⟩ : ∃ X, xs[k]?.getD 0 = X := ⟨_, rfl⟩
      obtain ⟨c, hc⟩ : ∃ c, us[W + k]?.getD 0 = c := ⟨_, rfl⟩
      rw [hX] at x1 bx HST u1 u2 u3 q0 q1
      rw [hc] at y1 c1 bc HST
      obtain ⟨p, hp⟩ : ∃ p, X * 2 ^ t = p := ⟨_, rfl⟩
      rw [hp] at u1 u2 u3 q0 q1
      obtain ⟨lo, hlo⟩ : ∃ lo, p % 4294967296 = lo := ⟨_, rfl⟩
      obtain ⟨hi', hhi⟩ : ∃ hi', p / 4294967296 = hi' := ⟨_, rfl⟩
      have hpl : p = lo + hi' * 4294967296 := by omega
      have HSV := hid (HST.out c lo hi' p rfl hp hpl HV.out)
      have HOB2 := hid (HOB.out (c + lo) hi')
      obtain ⟨g1, g2⟩ := HF2.out (c + lo)
      have lo0 : 0 ≤ lo := by omega
      rw [hlo] at u1
      rw [hhi] at u2 u3
      have hcl : c + lo ≤ 4294967295 := by omega
      have hi1 : hi' ≤ 4294967295 := by omega
      have HU3 := hid u3
      have p1 : p ≤ 18446744073709551615 := by omega
      have hkW : ((k : Int) + (W : Int)) = ((W + k : Nat) : Int) := by omega
      have hkW1 : (((W + k : Nat) : Int) + 1) = ((W + k + 1 : Nat) : Int) := by omega
      have HKN : Hid (∀ j, j < W ∨ W + (k + 1) + 1 ≤ j → ((us.set (W + k) (c + lo)).set (W + k + 1) hi')[j]?.getD 0 = 0) := fun j hj => by
        rw [List.getElem?_set, if_neg (by omega), List.getElem?_set, if_neg (by omega)]
        exact HK.out j (by omega)
      have HCN : Hid (((us.set (W + k) (c + lo)).set (W + k + 1) hi')[W + (k + 1)]?.getD 0 < 2 ^ t) := by
        show _ < _
        rw [show W + (k + 1) = W + k + 1 by omega, List.getElem?_set, if_pos rfl, if_pos (by rw [List.length_set]; omega)]
        exact HU3.out
      have HWN := hid ((hwu.set (W + k) (show 0 ≤ c + lo ∧ c + lo ≤ 4294967295 by omega)).set (W + k + 1) (show 0 ≤ hi' ∧ hi' ≤ 4294967295 by omega))
      clear hlu ho hb HV HK HC cx hX hc hpl u1 u3 q1 q2 q3 c1 HST HOB HF2
      go_wp2_with fail
      go_roundw
      case rel => exact ⟨k + 1, _, by omega, by go_num, HWN.out, HCN, HSV, HKN, HOB2.out.1, HOB2.out.2⟩
      case measure => simp [intOf]; omega
    · obtain rfl : k = n := by omega
      have hlu := ho.len
      have HF : Hid (val us = val xs * 2 ^ t * 4294967296 ^ W) := by
        show _ = _
        rw [← valTo_stable us (W + (k + 1)) (by omega), valTo_seg us W (k + 1), HV.out, valTo_stable xs k (by have := HL.out; omega), valTo_congr us [] W (fun j hj => by rw [HK.out j (.inl hj)]; rfl), valTo_stable [] _ (by simp), val_nil]
        omega
      have HR := hid (refTrim_sl (.slice (some ⟨w.heap.size, 0, none⟩) us.length us.length) us wr (Sl.own (owns_len (show wr.ownsRow w.heap.size 47 1 (.slice (some ⟨w.heap.size, 0, none⟩) us.length us.length) us.length (us.map (Value.int .u32)) by rw [hlu]; exact ho)) hwu) (by omega))
      rw [hlu] at HR
      clear ho HV HK HC
      go_wp2_with fail
      refine Calls.mono HR.out ?_
      rintro e w3 ⟨v3, rfl, o3, hb3⟩
      have HO3 := hid (owns_base (owns_len o3) hb.size)
      have hbF := bt hb hb3
      clear o3 hb3
      go_wp2_with fail
      go_ret
      exact ⟨v3, _, rfl, HO3.out, hwu.trimmed, Trimmed.trimmed _, by rw [val_trimmed]; exact HF.out, hbF⟩
end Go.Proofs.YtgimgagnfkinmaaDoor

/- The document's own shift down: slackwaterref01.Down: of every list that can be read. -/
namespace Go.Proofs.YtgimgagnfkinmaaDoor
open Go.RowKit
set_option linter.unusedVariables false

theorem Reads.behind {w : World} {B : Nat} {b o n cap : Nat} {zs : List Int} (h : Reads w B (some ⟨b, o, none⟩) n cap zs) (W : Nat) (hW : W < n) : Reads w B (some ⟨b, o + W, none⟩) (n - W) (cap - W) (zs.drop W) := by
  obtain ⟨h1, h2, h3, h4, h5, h6⟩ := h
  refine ⟨by rw [List.length_drop]; omega, h2.drop W, ?_, by omega, by omega, fun e => by simp at e⟩
  rcases h3 with h3 | ⟨b', o', ha, hlt, hc⟩
  · omega
  · right
    simp only [Option.some.injEq, Addr.mk.injEq] at ha
    obtain ⟨rfl, rfl, _⟩ := ha
    refine ⟨b, o + W, rfl, hlt, fun j hj => ?_⟩
    rw [Nat.add_assoc, hc (W + j) (by omega), List.getElem?_drop]
theorem down_val (xs us : List Int) (W m t : Nat) (wx : Wd xs) (ht : t ≤ 31) (hlen : xs.length = W + m) (hpt : ∀ j, j < m → us[j]?.getD 0 = (xs[W + j]?.getD 0 + xs[W + (j + 1)]?.getD 0 * 4294967296) / 2 ^ t % 4294967296) :
    ∀ d k, k + d = m → segTo us k d = segTo xs (W + k) d / 2 ^ t
  | 0, k, h => by show (0 : Int) = 0 / 2 ^ t; simp
  | d + 1, k, h => by
    have ih := down_val xs us W m t wx ht hlen hpt d (k + 1) (by omega)
    have bx := wx.at (W + k)
    have hw := lower_word (segTo xs (W + (k + 1)) d) (xs[W + k]?.getD 0) (xs[W + (k + 1)]?.getD 0) (2 ^ t) (2 ^ (32 - t)) (segTo_nonneg wx _ _) (by rw [segTo_low wx (W + (k + 1)) d (fun h => by rw [List.getElem?_eq_none (by omega)]; rfl)]) bx.1 bx.2 (two_pos t) (two_split t (by omega))
    rw [segTo_cons, segTo_cons, hpt k (by omega), ih, hw]
    rfl
theorem down_all (xs us : List Int) (W m t : Nat) (wx : Wd xs) (ht : t ≤ 31) (hlen : xs.length = W + m) (hlu : us.length = m) (hpt : ∀ j, j < m → us[j]?.getD 0 = (xs[W + j]?.getD 0 + xs[W + (j + 1)]?.getD 0 * 4294967296) / 2 ^ t % 4294967296) :
    val us = val xs / 4294967296 ^ W / 2 ^ t := by
  have e := down_val xs us W m t wx ht hlen hpt m 0 (by omega)
  rw [segTo_zero, Nat.add_zero, valTo_stable us _ (by omega)] at e
  rw [e, ← valTo_stable xs (W + m) (by omega), valTo_seg xs W m]
  have b := valTo_bounds wx W
  rw [Int.add_mul_ediv_right _ _ (by have := pw_pos W; omega), Int.ediv_eq_zero_of_lt b.1 b.2]
  simp

set_option maxHeartbeats 3200000 in
set_option maxRecDepth 100000 in
theorem refDown_none (a : Option Addr) (n cap : Nat) (W t : Nat) (M : Int) (w : World) (hn : n ≤ 274877906944) (hW : n ≤ W) (hW' : W ≤ 274877906944) (ht : t ≤ 31) (hM : M = 32 * W + t) :
    Calls Tryd.prog 32 #[.slice a n cap, .int .i64 M] w fun e w' => e = .returned (.slice none 0 0) ∧ w = w' := by
  have hq : M / 32 = (W : Int) := by omega
  have hM0 : 0 ≤ M := by omega
  have hM1 : M ≤ 9000000000000 := by omega
  have hle : (n : Int) ≤ (W : Int) := by omega
  clear hM
  go_enter Tryd.func32, Tryd.ntmps32
  go_wp2_with fail
  go_ret
  exact ⟨rfl, rfl⟩

set_option maxHeartbeats 3200000 in
set_option maxRecDepth 100000 in
theorem refDown_any (a : Option Addr) (n cap : Nat) (xs : List Int) (W t : Nat) (M : Int) (w : World) (h : Reads w w.heap.size a n cap xs) (hn : n ≤ 274877906944) (hW : W < n) (ht : t ≤ 31) (hM : M = 32 * W + t) :
    Calls Tryd.prog 32 #[.slice a n cap, .int .i64 M] w (Ref1 w (val xs / 4294967296 ^ W / 2 ^ t)) := by
  obtain ⟨i0, hi, hz0, hz1, hz2⟩ := info_parts Tryd.infoW
  rcases h.2.2.1 with h0 | ⟨b1, o1, rfl, hb1, hc1⟩
  · omega
  obtain ⟨m, hm⟩ : ∃ m, n = W + m := ⟨n - W, by omega⟩
  subst hm
  have WX := hid h.2.1
  have HL := hid h.1
  have HR := h.behind W hW
  have hnm : W + m - W = m := by omega
  rw [hnm] at HR
  have HRB := hid HR
  have HCX := hid hc1
  have hcap := h.2.2.2.1
  have hq : M / 32 = (W : Int) := by omega
  have hr : M % 32 = (t : Int) := by omega
  have hM0 : 0 ≤ M := by omega
  have hM1 : M ≤ 9000000000000 := by omega
  have hlt : ¬ ((W + m : Nat) : Int) ≤ (W : Int) := by omega
  have him : (((W + m : Nat) : Int) - (W : Int)) = (m : Int) := by omega
  have hcz : ¬ cap = W := by omega
  have hm0 : 0 < m := by omega
  clear h hM HR hc1
  go_enter Tryd.func32, Tryd.ntmps32
  go_wp2_with (at_make; refine wpList_make_full _ rfl _ _ 22 rfl w.heap.size 47 i0 (.int .u32 0) 1 Tryd.underlying22 hi hz0 hz1 _ _ _ _ m rfl rfl (by omega) (by omega) (by rw [hz2]; omega) (by unfold maxLen; omega) (Nat.le_refl _) ?_)
  intro w1 hown hgrow
  have hbel : Below w.heap.size w w1 := (Below.refl _ _).grown hgrow (Nat.le_refl _) (fun k hk => by simp at hk)
  have HO := hid (OwnW.made hown)
  clear hown hgrow
  go_wp2_with fail
  go_loopw [7] (fun z wr => ∃ (k : Nat) (us : List Int), k ≤ m ∧ z = .int .i64 k ∧ Wd us ∧ Hid (∀ j, j < k → us[j]?.getD 0 = (xs[W + j]?.getD 0 + xs[W + (j + 1)]?.getD 0 * 4294967296) / 2 ^ t % 4294967296) ∧ OwnW wr w.heap.size w.heap.size m us ∧ Below w.heap.size w wr) (fun z _ => m - (intOf z).toNat)
  case atStart => exact ⟨0, _, by omega, rfl, Wd.replicate _, fun j hj => by omega, HO.out, hbel⟩
  case round =>
    obtain ⟨k, us, hk, rfl, hwu, HV, ho, hb⟩ := hrel
    by_cases hlt2 : k < m
    · have x1 : wr.cell? ⟨b1, o1 + W + k, none⟩ = some (.int .u32 (xs[W + k]?.getD 0)) := by
        have e := (hb.cell (p := ⟨b1, o1 + (W + k), none⟩) hb1).trans (HCX.out (W + k) (by omega))
        rw [Nat.add_assoc]; exact e
      have y1 := ho.cell k (by omega)
      have f1 := ho.free k
      have bx := WX.out.at (W + k)
      have bz := WX.out.at (W + (k + 1))
      have hlu := ho.len
      have HW2 := hid (word_q (k + 1) (HRB.out.later hb (Nat.le_refl _)) (by omega))
      rw [List.getElem?_drop, show ((k + 1 : Nat) : Int) = (k : Int) + 1 by omega] at HW2
      have HOB : Hid (∀ j Z, OwnW ((wr.drewN j).setCell ⟨w.heap.size, k, none⟩ (.int .u32 Z)) w.heap.size w.heap.size m (us.set k Z) ∧ Below w.heap.size w ((wr.drewN j).setCell ⟨w.heap.size, k, none⟩ (.int .u32 Z))) := fun j Z =>
        ⟨OwnW.set (show OwnW (wr.drewN j) _ _ _ _ from ho) k Z, (bdw hb j).setCell (p := ⟨w.heap.size, k, none⟩) (Nat.le_refl _) _⟩
      have HPT : Hid (∀ Z, Z = (xs[W + k]?.getD 0 + xs[W + (k + 1)]?.getD 0 * 4294967296) / 2 ^ t % 4294967296 → ∀ j, j < k + 1 → (us.set k Z)[j]?.getD 0 = (xs[W + j]?.getD 0 + xs[W + (j + 1)]?.getD 0 * 4294967296) / 2 ^ t % 4294967296) := fun Z hZ j hj => by
        rw [List.getElem?_set]
        by_cases e : k = j
        · subst e
          rw [if_pos rfl, if_pos (by omega)]; exact hZ
        · rw [if_neg e]; exact HV.out j (by omega)
      obtain ⟨x, hx⟩ : ∃ x, xs[W + k]?.getD 0 = x := ⟨_, rfl⟩
      obtain ⟨z, hz⟩ : ∃ z, xs[W + (k + 1)]?.getD 0 = z := ⟨_, rfl⟩
      rw [hx] at x1 bx HPT
      rw [hz] at bz HW2 HPT
      obtain ⟨u, hu⟩ : ∃ u, z * 4294967296 + x = u := ⟨_, rfl⟩
      have u0 : 0 ≤ u ∧ u ≤ 18446744073709551615 := by omega
      have hQ := two_pos t
      have q0 : 0 ≤ u / 2 ^ t := Int.ediv_nonneg (by omega) (by omega)
      have q1 : u / 2 ^ t ≤ 18446744073709551615 := by
        have : u / 2 ^ t ≤ u := Int.ediv_le_self _ (by omega)
        omega
      obtain ⟨q, hq'⟩ : ∃ q, u / 2 ^ t = q := ⟨_, rfl⟩
      rw [hq'] at q0 q1
      have HPQ := hid (HPT.out (q % 4294967296) (by rw [← hq', ← hu, Int.add_comm x]))
      clear hlu ho hb HV HPT hx hz hQ
      go_wp2_with fail
      go_quiet ((go_at_call 60; exact Calls.quiet_of_same (HW2.out _)))
      go_wp2_with fail
      go_roundw
      case rel => exact ⟨k + 1, us.set k (q % 4294967296), by omega, by go_num, hwu.set _ (by omega), HPQ, (HOB.out _ _).1, (HOB.out _ _).2⟩
      case measure => simp [intOf]; omega
    · obtain rfl : k = m := by omega
      have hlu := ho.len
      have HF := hid (down_all xs us W k t WX.out ht HL.out hlu HV.out)
      have HR := hid (refTrim_sl (.slice (some ⟨w.heap.size, 0, none⟩) us.length us.length) us wr (Sl.own (owns_len (show wr.ownsRow w.heap.size 47 1 (.slice (some ⟨w.heap.size, 0, none⟩) us.length us.length) us.length (us.map (Value.int .u32)) by rw [hlu]; exact ho)) hwu) (by omega))
      rw [hlu] at HR
      clear ho HV
      go_wp2_with fail
      refine Calls.mono HR.out ?_
      rintro e w3 ⟨v3, rfl, o3, hb3⟩
      have HO3 := hid (owns_base (owns_len o3) hb.size)
      have hbF := bt hb hb3
      clear o3 hb3
      go_wp2_with fail
      go_ret
      exact ⟨v3, _, rfl, HO3.out, hwu.trimmed, Trimmed.trimmed _, by rw [val_trimmed]; exact HF.out, hbF⟩
end Go.Proofs.YtgimgagnfkinmaaDoor

/- The document's own long division, its parts: slackwaterref01.below, off, digit; its calls at any slice that can be read. -/
namespace Go.Proofs.YtgimgagnfkinmaaDoor
open Go.RowKit
set_option linter.unusedVariables false

theorem Ref1.slice {w w' : World} {t : Int} {x : Ending} (h : Ref1 w t x w') : ∃ a c zs, x = .returned (.slice a zs.length c) ∧ w'.ownsRow w.heap.size 47 1 (.slice a zs.length c) zs.length (zs.map (Value.int .u32)) ∧ Wd zs ∧ Trimmed zs ∧ val zs = t ∧ Below w.heap.size w w' := by
  obtain ⟨v, zs, rfl, o, h1, h2, h3, h4⟩ := h
  obtain ⟨a, c, hs⟩ := own_slice' o
  subst hs
  exact ⟨a, c, zs, rfl, o, h1, h2, h3, h4⟩

theorem valTo_mid (ys : List Int) (i l : Nat) : ∀ k, k ≤ l → valTo ((ys.drop i).take l) k = segTo ys i k
  | 0, _ => rfl
  | k + 1, h => by rw [valTo_succ, segTo_succ, valTo_mid ys i l k (by omega), List.getElem?_take, if_pos (by omega), List.getElem?_drop]
theorem val_mid (ys : List Int) (i l : Nat) (h : i + l ≤ ys.length) : val ((ys.drop i).take l) = segTo ys i l := by
  rw [← valTo_mid ys i l l (Nat.le_refl _), valTo_stable _ _ (by rw [List.length_take, List.length_drop]; omega)]
theorem OwnC.mid {w : World} {base g n cap : Nat} {ys : List Int} (h : OwnC w base g n cap ys) (hw : Wd ys) (i l c : Nat) (hil : i + l ≤ n) (hc : l ≤ c) (hcm : c ≤ maxLen) : Sl w (.slice (some ⟨g, i, none⟩) l c) ((ys.drop i).take l) := by
  have hl := h.len
  have hll : ((ys.drop i).take l).length = l := by rw [List.length_take, List.length_drop]; omega
  refine ⟨some ⟨g, i, none⟩, c, by rw [hll], ?_⟩
  rw [hll]
  refine ⟨hll, (hw.drop i).take l, .inr ⟨g, i, rfl, (World.ownsRow.lt h g rfl).2, fun j hj => ?_⟩, hc, hcm, fun e => by simp at e⟩
  rw [h.cell (i + j) (by omega), List.getElem?_take, if_pos hj, List.getElem?_drop]

end Go.Proofs.YtgimgagnfkinmaaDoor

/- The document's own whole numbers: slackwaterref02.Check, Product. -/
namespace Go.Proofs.YtgimgagnfkinmaaDoor
open Go.RowKit
set_option linter.unusedVariables false

theorem chk_last {xs : List Int} (hl : xs.length ≤ 2048) : chk xs = 0 ↔ xs.length = 0 ∨ ¬ xs[xs.length - 1]?.getD 0 = 0 := by
  rw [← sz_eq_iff]
  constructor
  · intro h; exact (chk_ok h).2
  · intro h; exact chk_good (by omega) h

set_option maxHeartbeats 1600000 in
set_option maxRecDepth 100000 in
theorem refWCheck_any (n : Bool) (v : Value) (xs : List Int) (w : World) (h : Sl w v xs) (hn : xs.length ≤ 281474976710656) :
    Calls Tryd.prog 53 #[.agg #[.bool n, v]] w fun e w' => e = .returned (.int .i64 (wchk n xs)) ∧ Below w.heap.size w w' := by
  have HB := hid (alloc_later w (.cells #[.bool n, v] 37))
  have hs := h.later HB.out
  have wx := h.wd
  obtain ⟨a, cap, rfl, hr⟩ := h
  have hrl := hr.later HB.out (Nat.le_refl _)
  have HCL := hid hrl.cells
  have hcap := hr.2.2.2.1
  clear hr hrl hs
  obtain ⟨k, hk⟩ : ∃ k, xs.length = k := ⟨_, rfl⟩
  by_cases h1 : 2048 < k
  · have HW : Hid (wchk n xs = 3) := by show _ = _; unfold wchk; rw [if_pos (by omega)]
    rw [hk] at HB HCL ⊢
    have h1' : (2048 : Int) < (k : Int) := by omega
    clear hk HCL
    go_enter Tryd.func53, Tryd.ntmps53
    go_wp2_with fail
    go_ret
    exact ⟨ret_int HW.out.symm, HB.out⟩
  · have h1' : ¬ (2048 : Int) < (k : Int) := by omega
    have hcl := chk_last (xs := xs) (by omega)
    rw [hk] at hcl
    by_cases h0 : k = 0
    · subst h0
      have h2 : chk xs = 0 := hcl.2 (.inl rfl)
      cases n with
      | false =>
        have HW : Hid (wchk false xs = 0) := by show _ = _; unfold wchk; rw [if_neg (by omega), if_pos ⟨h2, .inl rfl⟩]
        rw [hk] at HB HCL ⊢
        clear hk hcl h2 HCL
        go_enter Tryd.func53, Tryd.ntmps53
        go_wp2_with fail
        go_ret
        exact ⟨ret_int HW.out.symm, HB.out⟩
      | true =>
        have HW : Hid (wchk true xs = 11) := by show _ = _; unfold wchk; rw [if_neg (by omega), if_neg (fun h => h.2.elim (fun e => by cases e) (fun e => by omega))]
        rw [hk] at HB HCL ⊢
        clear hk hcl h2 HCL
        go_enter Tryd.func53, Tryd.ntmps53
        go_wp2_with fail
        go_ret
        exact ⟨ret_int HW.out.symm, HB.out⟩
    · obtain ⟨m, hm⟩ : ∃ m, k = m + 1 := ⟨k - 1, by omega⟩
      subst hm
      have bx := wx.at m
      rw [show m + 1 - 1 = m by omega] at hcl
      have hk0 : (0 : Int) < ((m + 1 : Nat) : Int) := by omega
      rw [hk] at HB HCL hcap ⊢
      obtain ⟨b1, o1, rfl, l1, cx⟩ := HCL.out m (by omega)
      have him : ((m + 1 : Nat) : Int) - 1 = (m : Int) := by omega
      by_cases hz : xs[m]?.getD 0 = 0
      · have HW : Hid (wchk n xs = 11) := by
          show _ = _
          unfold wchk
          rw [if_neg (by omega), if_neg (fun h => (hcl.1 h.1).elim (fun e => by omega) (fun e => e hz))]
        rw [hz] at cx
        clear hk hcl HCL hz bx wx
        go_enter Tryd.func53, Tryd.ntmps53
        go_wp2_with fail
        go_ret
        exact ⟨ret_int HW.out.symm, HB.out⟩
      · have HW : Hid (wchk n xs = 0) := by
          show _ = _
          unfold wchk
          rw [if_neg (by omega), if_pos ⟨hcl.2 (.inr hz), .inr (by omega)⟩]
        obtain ⟨X, hX⟩ : ∃ X, xs[m]?.getD 0 = X := ⟨_, rfl⟩
        rw [hX] at cx hz bx
        have hzb : (X == 0) = false := by simp [hz]
        have hkz : (((m + 1 : Nat) : Int) == 0) = false := beq_eq_false_iff_ne.2 (by omega)
        clear hk hcl HCL hX wx
        go_enter Tryd.func53, Tryd.ntmps53
        go_wp2_with fail
        go_ret
        exact ⟨ret_int HW.out.symm, HB.out⟩

/-- A whole number in its one form, of any length, in new memory. -/
def WNum (w : World) (t : Int) (x : Ending) (w' : World) : Prop := ∃ n v zs, x = .returned (.agg #[.bool n, v]) ∧ w'.ownsRow w.heap.size 47 1 v zs.length (zs.map (Value.int .u32)) ∧ Wd zs ∧ Trimmed zs ∧ (n = false ∨ 0 < zs.length) ∧ wval n zs = t ∧ Below w.heap.size w w'
theorem made_num (n : Bool) (v : Value) (xs : List Int) (w : World) (h : Sl w v xs) (hn : xs.length ≤ 549755813888) : Calls Tryd.prog 57 #[.bool n, v] w (WNum w (wval n xs)) := by
  refine Calls.mono (made_any n v xs w h hn) ?_
  rintro e w' ⟨v', rfl, o, hb⟩
  refine ⟨_, v', trimmed xs, rfl, owns_len o, h.wd.trimmed, Trimmed.trimmed _, ?_, ?_, hb⟩
  · rw [length_trimmed]
    by_cases c : 0 < sz xs
    · exact .inr c
    · left; simp [c]
  · by_cases c : 0 < sz xs
    · simp only [wval, val_trimmed, c, decide_true, Bool.and_true]
    · have e0 : val (trimmed xs) = 0 := trimmed_zero' (by rw [length_trimmed]; omega)
      have e1 : val xs = 0 := by rw [← val_trimmed]; exact e0
      simp only [wval, e0, e1]
      cases n <;> simp

end Go.Proofs.YtgimgagnfkinmaaDoor

