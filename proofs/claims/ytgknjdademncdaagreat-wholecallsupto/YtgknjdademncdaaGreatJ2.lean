/- My texts on the way to WholeCalls, one behind the other: contracts of the program and of the document's answers. -/
import Derived.Test.YtgknjdademncdaaGreatJ1
import Derived.BigQuiet
import Derived.Lib.ItoaNum
import Derived.Deep.QuietTactic
import Derived.Deep.RegionHeld3
/- nat.raise, nat.lower: words moved up and down by whole words and bits, in new memory. -/
namespace Go.Proofs.YtgknjdademncdaaGreat
open Go.RowKit
set_option linter.unusedVariables false

theorem two_pos (t : Nat) : (0 : Int) < 2 ^ t := Int.pow_pos (by decide)
theorem two_le {t u : Nat} (h : t ≤ u) : (2 : Int) ^ t ≤ 2 ^ u := by
  obtain ⟨d, rfl⟩ : ∃ d, u = t + d := ⟨u - t, by omega⟩
  rw [Int.pow_add]
  have h1 := two_pos t
  have h2 := two_pos d
  have h3 : (2 : Int) ^ t * 1 ≤ 2 ^ t * 2 ^ d := Int.mul_le_mul_of_nonneg_left (by omega) (by omega)
  omega
theorem or_low (c x : Int) (t : Nat) (ht : t ≤ 32) (c0 : 0 ≤ c) (c1 : c < 2 ^ t) (x0 : 0 ≤ x) (x1 : x ≤ 4294967295) (hp : x * 2 ^ t ≤ 18446744073709551615) : bits BinOp.or IntKind.u64 c (x * 2 ^ t) = c + x * 2 ^ t := by
  have h1 := two_pos t
  have h2 : (2 : Int) ^ t ≤ 2 ^ 32 := two_le ht
  have h3 : 0 ≤ x * 2 ^ t := Int.mul_nonneg x0 (Int.le_of_lt h1)
  obtain ⟨C, rfl⟩ := Int.eq_ofNat_of_zero_le c0
  obtain ⟨X, rfl⟩ := Int.eq_ofNat_of_zero_le x0
  have e1 : (X : Int) * 2 ^ t = ((X * 2 ^ t : Nat) : Int) := by rw [Int.natCast_mul, Int.natCast_pow]; rfl
  have e2 : ((2 ^ t : Nat) : Int) = 2 ^ t := by rw [Int.natCast_pow]; rfl
  rw [e1] at hp ⊢
  rw [← e2] at c1
  rw [u64_or _ _ (by omega) (by omega) (by omega) (by omega), Int.toNat_natCast, Int.toNat_natCast, Nat.or_comm, nat_join t _ _ (Nat.mul_mod_left _ _) (Int.ofNat_lt.1 c1)]
  omega
theorem shl_word (x : Int) (t : Nat) (ht : t ≤ 31) (x0 : 0 ≤ x) (x1 : x ≤ 4294967295) : 0 ≤ x * 2 ^ t ∧ x * 2 ^ t ≤ 4294967295 * 2 ^ t ∧ (2 : Int) ^ t ≤ 2147483648 ∧ 0 < (2 : Int) ^ t := by
  have h1 := two_pos t
  have h2 : (2 : Int) ^ t ≤ 2 ^ 31 := two_le ht
  exact ⟨Int.mul_nonneg x0 (Int.le_of_lt h1), Int.mul_le_mul_of_nonneg_right x1 (Int.le_of_lt h1), h2, h1⟩

theorem raise_step (xs us : List Int) (W k : Nat) (P c t : Int) (hk : W + k < us.length) (ht : t = c + xs[k]?.getD 0 * P)
    (h : segTo us W k + c * 4294967296 ^ k = valTo xs k * P) :
    segTo (us.set (W + k) (t % 4294967296)) W (k + 1) + t / 4294967296 * 4294967296 ^ (k + 1) = valTo xs (k + 1) * P := by
  rw [segTo_set us W k _ hk, valTo_succ, pw_succ, Int.add_mul, ← h]
  have e := carry_step (4294967296 ^ k) (t % 4294967296) (t / 4294967296) t (by omega)
  have e2 : t * 4294967296 ^ k = c * 4294967296 ^ k + xs[k]?.getD 0 * 4294967296 ^ k * P := by
    rw [ht, Int.add_mul, Int.mul_assoc, Int.mul_comm P, ← Int.mul_assoc]
  omega

set_option maxHeartbeats 3200000 in
set_option maxRecDepth 100000 in
theorem raise_any (a : Option Addr) (n cap : Nat) (xs : List Int) (W t : Nat) (w : World) (h : Reads w w.heap.size a n cap xs) (hn : n ≤ 274877906944) (hn0 : 0 < n) (hW : W ≤ 274877906944) (ht : t ≤ 31) :
    Calls Tryz.prog 102 #[.slice a n cap, .int .i64 W, .int .i64 t] w fun e w' => ∃ (ys : List Int), e = .returned (.slice (some ⟨w.heap.size, 0, none⟩) (n + W + 1) (n + W + 1)) ∧ OwnW w' w.heap.size w.heap.size (n + W + 1) ys ∧ Wd ys ∧ val ys = val xs * 2 ^ t * 4294967296 ^ W ∧ Below w.heap.size w w' := by
  obtain ⟨i0, hi, hz0, hz1, hz2⟩ := info_parts Tryz.infoW
  rcases h.2.2.1 with h0 | ⟨b1, o1, rfl, hb1, hc1⟩
  · omega
  · have hwA := h.2.1
    have HL := hid h.1
    have HA := hid hc1
    clear hc1 h
    go_enter Tryz.func102, Tryz.ntmps102
    go_wp2_with (at_make; refine wpList_make_full _ rfl _ _ 22 rfl w.heap.size 44 i0 (.int .u32 0) 1 Tryz.underlying22 hi hz0 hz1 _ _ _ _ (n + W + 1) rfl rfl (by omega) (by omega) (by rw [hz2]; omega) (by unfold maxLen; omega) (Nat.le_refl _) ?_)
    intro w1 hown hgrow
    have hbel : Below w.heap.size w w1 := (Below.refl _ _).grown hgrow (Nat.le_refl _) (fun k hk => by simp at hk)
    have HO := hid (OwnW.made hown)
    clear hown hgrow
    go_wp2_with fail
    go_loopw [8, 19] (fun c z wr => ∃ (k : Nat) (cc : Int) (us : List Int), k ≤ n ∧ z = .int .i64 k ∧ c = .int .u64 cc ∧ 0 ≤ cc ∧ Hid (cc < 2 ^ t) ∧ Wd us ∧ Hid (segTo us W k + cc * 4294967296 ^ k = valTo xs k * 2 ^ t) ∧
      Hid (∀ j, j < W ∨ W + k ≤ j → us[j]?.getD 0 = 0) ∧ OwnW wr w.heap.size w.heap.size (n + W + 1) us ∧ Below w.heap.size w wr) (fun _ z _ => n - (intOf z).toNat)
    case atStart =>
      have hz : ∀ j : Nat, (List.replicate (n + W + 1) (0 : Int))[j]?.getD 0 = 0 := fun j => by rw [List.getElem?_replicate]; split <;> rfl
      exact ⟨0, 0, _, by omega, rfl, rfl, by omega, two_pos t, Wd.replicate _, show _ = _ by simp [segTo, valTo], fun j _ => hz j, HO.out, hbel⟩
    case round =>
      obtain ⟨k, cc, us, hk, rfl, rfl, c0, C1, hwu, HV, HK, ho, hb⟩ := hrel
      by_cases hlt : k < n
      · have x1 : wr.cell? ⟨b1, o1 + k, none⟩ = some (.int .u32 (xs[k]?.getD 0)) := (hb.cell (p := ⟨b1, o1 + k, none⟩) hb1).trans (HA.out k hlt)
        have bx := hwA.at k
        have y1 := ho.cell (W + k) (by omega)
        have f1 := ho.free (W + k)
        have hlu := ho.len
        obtain ⟨q0, q1, q2, q3⟩ := shl_word _ t ht bx.1 bx.2
        have hor := or_low cc (xs[k]?.getD 0) t (by omega) c0 C1.out bx.1 bx.2 (by omega)
        obtain ⟨p, hp⟩ : ∃ p, xs[k]?.getD 0 * 2 ^ t = p := ⟨_, rfl⟩
        have c1 := C1.out
        obtain ⟨u, hu⟩ : ∃ u, u = cc + p := ⟨_, rfl⟩
        rw [hp] at q0 q1 hor
        rw [← hu] at hor
        have u0 : 0 ≤ u := by omega
        have u1 : u ≤ 18446744073709551615 := by omega
        have p1 : p ≤ 18446744073709551615 := by omega
        have HC' : Hid (u / 4294967296 < 2 ^ t) := by
          show _ < _
          refine Int.ediv_lt_of_lt_mul (by omega) ?_
          omega
        have HV' := hid (raise_step xs us W k (2 ^ t) cc u (by omega) (by rw [hu, ← hp]) HV.out)
        have HK' : Hid (∀ j, j < W ∨ W + (k + 1) ≤ j → (us.set (W + k) (u % 4294967296))[j]?.getD 0 = 0) := fun j hj => by
          rw [List.getElem?_set, if_neg (by omega)]
          exact HK.out j (by omega)
        have HO' := hid (ho.set (W + k) (u % 4294967296))
        have HB' := hid (hb.setCell (p := ⟨w.heap.size, W + k, none⟩) (Nat.le_refl _) (.int .u32 (u % 4294967296)))
        have hkW : ((k : Int) + (W : Int)) = ((W + k : Nat) : Int) := by omega
        clear hlu ho hb HV HK hu q1 q2 q3 c1 C1
        go_wp2_with fail
        go_roundw
        case rel => exact ⟨k + 1, u / 4294967296, us.set (W + k) (u % 4294967296), by omega, by go_num, by go_num, by omega, HC', hwu.set _ (by omega), HV', HK', HO'.out, HB'.out⟩
        case measure => simp [intOf]; omega
      · have hkn : k = n := by omega
        subst hkn
        have y1 := ho.cell (k + W) (by omega)
        have f1 := ho.free (k + W)
        have hlu := ho.len
        have c1 : cc ≤ 4294967295 := by have := C1.out; have := (shl_word 0 t ht (by omega) (by omega)).2.2.1; omega
        have HO' := hid (ho.set (k + W) cc)
        have HB' := hid (hb.setCell (p := ⟨w.heap.size, k + W, none⟩) (Nat.le_refl _) (.int .u32 cc))
        have HV' : Hid (val (us.set (k + W) cc) = val xs * 2 ^ t * 4294967296 ^ W) := by
          show _ = _
          rw [← valTo_stable _ (k + W + 1) (by rw [List.length_set]; omega), valTo_set us (k + W) cc (by omega), Nat.add_comm k W, valTo_seg us W k,
            valTo_congr us [] W (fun j hj => by rw [HK.out j (.inl hj)]; rfl), valTo_stable [] _ (by simp), val_nil, ← valTo_stable xs k (by have := HL.out; omega), ← HV.out, Int.add_mul, Int.mul_assoc cc, ← Int.pow_add, Nat.add_comm k W]
          omega
        clear hlu ho hb HV HK C1
        go_wp2_with fail
        go_ret
        exact ⟨us.set (k + W) cc, rfl, HO'.out, hwu.set _ ⟨c0, c1⟩, HV'.out, HB'.out⟩

/-- One word moved down, its bits taken from the word above. -/
theorem lower_word (s x z Q R : Int) (hs : 0 ≤ s) (hz : z = s % 4294967296) (x0 : 0 ≤ x) (x1 : x ≤ 4294967295) (hQ : 0 < Q) (hR : 4294967296 = Q * R) :
    (x + z * 4294967296) / Q % 4294967296 + s / Q * 4294967296 = (x + s * 4294967296) / Q := by
  have h1 : z % Q = s % Q := by rw [hz]; exact Int.emod_emod_of_dvd s ⟨R, hR⟩
  obtain ⟨r, hr⟩ : ∃ r, r = s % Q := ⟨_, rfl⟩
  rw [← hr] at h1
  have r0 : 0 ≤ r := by rw [hr]; exact Int.emod_nonneg _ (by omega)
  have r1 : r < Q := by rw [hr]; exact Int.emod_lt_of_pos _ hQ
  have e1 : s = Q * (s / Q) + r := by rw [hr]; exact (Int.mul_ediv_add_emod s Q).symm
  have e2 : z = Q * (z / Q) + r := by rw [← h1]; exact (Int.mul_ediv_add_emod z Q).symm
  have e3 : x + z * 4294967296 = (x + r * 4294967296) + Q * (z / Q * 4294967296) := by
    have : z * 4294967296 = (Q * (z / Q) + r) * 4294967296 := by rw [← e2]
    rw [this, Int.add_mul, Int.mul_assoc]; omega
  have e4 : x + s * 4294967296 = (x + r * 4294967296) + Q * (s / Q * 4294967296) := by
    have : s * 4294967296 = (Q * (s / Q) + r) * 4294967296 := by rw [← e1]
    rw [this, Int.add_mul, Int.mul_assoc]; omega
  rw [e3, e4, Int.add_mul_ediv_left _ _ (by omega), Int.add_mul_ediv_left _ _ (by omega)]
  have h3 : 0 ≤ (x + r * 4294967296) / Q := Int.ediv_nonneg (by omega) (by omega)
  have h4 : (x + r * 4294967296) / Q < 4294967296 := Int.ediv_lt_of_lt_mul hQ (by
    have : (r + 1) * 4294967296 ≤ Q * 4294967296 := Int.mul_le_mul_of_nonneg_right (by omega) (by omega)
    rw [Int.mul_comm 4294967296 Q]
    omega)
  omega
theorem two_split (t : Nat) (ht : t ≤ 32) : (4294967296 : Int) = 2 ^ t * 2 ^ (32 - t) := by
  rw [← Int.pow_add, show t + (32 - t) = 32 by omega]; rfl
theorem segTo_nonneg {xs : List Int} (hw : Wd xs) (i : Nat) : ∀ k, 0 ≤ segTo xs i k
  | 0 => Int.le_refl _
  | k + 1 => by
    have ih := segTo_nonneg hw i k
    have h1 := hw.at (i + k)
    have h2 : 0 ≤ xs[i + k]?.getD 0 * 4294967296 ^ k := Int.mul_nonneg h1.1 (Int.le_of_lt (pw_pos k))
    rw [segTo_succ]
    omega
theorem segTo_low {xs : List Int} (hw : Wd xs) (i m : Nat) (hm : m = 0 → xs[i]?.getD 0 = 0) : segTo xs i m % 4294967296 = xs[i]?.getD 0 := by
  have h1 := hw.at i
  cases m with
  | zero => rw [hm rfl]; rfl
  | succ m => rw [segTo_cons]; omega

set_option maxHeartbeats 3200000 in
set_option maxRecDepth 100000 in
theorem lower_any (a : Option Addr) (n cap : Nat) (xs : List Int) (W t : Nat) (w : World) (h : Reads w w.heap.size a n cap xs) (hn : n ≤ 274877906944) (hW : W < n) (ht : t ≤ 31) :
    Calls Tryz.prog 104 #[.slice a n cap, .int .i64 W, .int .i64 t] w fun e w' => ∃ (ys : List Int), e = .returned (.slice (some ⟨w.heap.size, 0, none⟩) (n - W) (n - W)) ∧ OwnW w' w.heap.size w.heap.size (n - W) ys ∧ Wd ys ∧ val ys = val xs / 4294967296 ^ W / 2 ^ t ∧ Below w.heap.size w w' := by
  obtain ⟨i0, hi, hz0, hz1, hz2⟩ := info_parts Tryz.infoW
  rcases h.2.2.1 with h0 | ⟨b1, o1, rfl, hb1, hc1⟩
  · omega
  · have hwA := h.2.1
    have HL := hid h.1
    have HA := hid hc1
    obtain ⟨m, hm⟩ : ∃ m, n = W + m := ⟨n - W, by omega⟩
    subst hm
    have hnm : W + m - W = m := by omega
    have him : (((W + m : Nat) : Int) - (W : Int)) = (m : Int) := by omega
    clear hc1 h
    rw [hnm]
    clear hnm
    go_enter Tryz.func104, Tryz.ntmps104
    go_wp2_with (at_make; refine wpList_make_full _ rfl _ _ 22 rfl w.heap.size 44 i0 (.int .u32 0) 1 Tryz.underlying22 hi hz0 hz1 _ _ _ _ m rfl rfl (by omega) (by omega) (by rw [hz2]; omega) (by unfold maxLen; omega) (Nat.le_refl _) ?_)
    intro w1 hown hgrow
    have hbel : Below w.heap.size w w1 := (Below.refl _ _).grown hgrow (Nat.le_refl _) (fun k hk => by simp at hk)
    have HO := hid (OwnW.made hown)
    clear hown hgrow
    go_wp2_with fail
    go_loopw [8, 9] (fun c z wr => ∃ (k : Nat) (ab : Int) (us : List Int), k ≤ m ∧ z = .int .i64 ((k : Int) - 1) ∧ c = .int .u64 ab ∧ 0 ≤ ab ∧ ab ≤ 18446744073709551615 ∧ Hid (ab % 4294967296 = xs[W + k]?.getD 0) ∧ Wd us ∧ Hid (segTo us k (m - k) = segTo xs (W + k) (m - k) / 2 ^ t) ∧
      OwnW wr w.heap.size w.heap.size m us ∧ Below w.heap.size w wr) (fun _ z _ => (intOf z + 1).toNat)
    case atStart =>
      refine ⟨m, 0, _, by omega, rfl, rfl, by omega, by omega, ?_, Wd.replicate _, ?_, HO.out, hbel⟩
      · show _ = _; rw [List.getElem?_eq_none (by have := HL.out; omega)]; rfl
      · show _ = _; rw [Nat.sub_self]; show (0 : Int) = 0 / 2 ^ t; simp
    case round =>
      obtain ⟨k, ab, us, hk, rfl, rfl, a0, a1, HZ, hwu, HV, ho, hb⟩ := hrel
      rcases k with _ | k
      · have HV' : Hid (val us = val xs / 4294967296 ^ W / 2 ^ t) := by
          show _ = _
          have e := HV.out
          rw [segTo_zero, Nat.sub_zero, Nat.add_zero, valTo_stable us _ (by have := ho.len; omega)] at e
          rw [e, ← valTo_stable xs (W + m) (by have := HL.out; omega), valTo_seg xs W m]
          have b := valTo_bounds hwA W
          rw [Int.add_mul_ediv_right _ _ (by have := pw_pos W; omega), Int.ediv_eq_zero_of_lt b.1 b.2]
          simp
        clear HV HZ
        go_wp2_with fail
        go_ret
        exact ⟨us, rfl, ho, hwu, HV'.out, hb⟩
      · have ek : (((k + 1 : Nat) : Int) - 1) = (k : Int) := by omega
        rw [ek]
        clear ek
        have x1 : wr.cell? ⟨b1, o1 + (W + k), none⟩ = some (.int .u32 (xs[W + k]?.getD 0)) := (hb.cell (p := ⟨b1, o1 + (W + k), none⟩) hb1).trans (HA.out (W + k) (by omega))
        have bx := hwA.at (W + k)
        have bz := hwA.at (W + (k + 1))
        have y1 := ho.cell k (by omega)
        have f1 := ho.free k
        have hlu := ho.len
        have hkW : ((k : Int) + (W : Int)) = ((W + k : Nat) : Int) := by omega
        obtain ⟨z, hz⟩ : ∃ z, z = xs[W + (k + 1)]?.getD 0 := ⟨_, rfl⟩
        have hzz := HZ.out
        rw [← hz] at bz hzz
        have hwr : IntKind.u64.wrap (ab * 4294967296) = z * 4294967296 := by rw [IntKind.wrap_u64]; omega
        have hwr2 : ab * 4294967296 % 18446744073709551616 = z * 4294967296 := by omega
        obtain ⟨u, hu⟩ : ∃ u, u = xs[W + k]?.getD 0 + z * 4294967296 := ⟨_, rfl⟩
        have hor : bits BinOp.or IntKind.u64 (z * 4294967296) (xs[W + k]?.getD 0) = u := by rw [or_join z _ bz.1 bz.2 bx.1 bx.2, hu]
        have hQ := two_pos t
        have q0 : 0 ≤ u / 2 ^ t := Int.ediv_nonneg (by omega) (by omega)
        have q1 : u / 2 ^ t ≤ 18446744073709551615 := by
          have : u / 2 ^ t ≤ u := Int.ediv_le_self _ (by omega)
          omega
        obtain ⟨q, hq⟩ : ∃ q, u / 2 ^ t = q := ⟨_, rfl⟩
        rw [hq] at q0 q1
        have HZ' : Hid (u % 4294967296 = xs[W + k]?.getD 0) := by show _ = _; omega
        have HV' : Hid (segTo (us.set k (q % 4294967296)) k (m - k) = segTo xs (W + k) (m - k) / 2 ^ t) := by
          show _ = _
          obtain ⟨d, hd⟩ : ∃ d, m - k = d + 1 := ⟨m - k - 1, by omega⟩
          have e := HV.out
          rw [show m - (k + 1) = d by omega, show W + (k + 1) = W + k + 1 by omega] at e
          rw [hd, segTo_cons, segTo_cons, List.getElem?_set, if_pos rfl, if_pos (by omega), segTo_congr (us.set k (q % 4294967296)) us (k + 1) d (fun j hj => by rw [List.getElem?_set, if_neg (by omega)]), e, ← hq, hu]
          refine lower_word _ _ z (2 ^ t) (2 ^ (32 - t)) (segTo_nonneg hwA _ _) ?_ bx.1 bx.2 hQ (two_split t (by omega))
          rw [segTo_low hwA (W + k + 1) d (fun h => by rw [List.getElem?_eq_none (by have := HL.out; omega)]; rfl), hz]
          rfl
        have HO' := hid (ho.set k (q % 4294967296))
        have HB' := hid (hb.setCell (p := ⟨w.heap.size, k, none⟩) (Nat.le_refl _) (.int .u32 (q % 4294967296)))
        have u0 : 0 ≤ u := by omega
        have u1 : u ≤ 18446744073709551615 := by omega
        clear hlu ho hb HV HZ hu hz hzz hQ
        go_wp2_with fail
        go_roundw
        case rel => exact ⟨k, u, us.set k (q % 4294967296), by omega, by go_num, by go_num, u0, u1, HZ', hwu.set _ (by omega), HV', HO'.out, HB'.out⟩
        case measure => simp [intOf]
end Go.Proofs.YtgknjdademncdaaGreat

/- nat.takeTimes, nat.giveBack: a divisor taken off a window of words so many times, and given back once. -/
namespace Go.Proofs.YtgknjdademncdaaGreat
open Go.RowKit
set_option linter.unusedVariables false

theorem take_step (ds us ys : List Int) (i k : Nat) (x o T z o2 : Int) (hk : i + k < us.length) (hT : T = o + x * ds[k]?.getD 0) (hz : z - o2 * 4294967296 = us[i + k]?.getD 0 - T) (hu : us[i + k]?.getD 0 = ys[i + k]?.getD 0)
    (h : segTo us i k - o * 4294967296 ^ k = segTo ys i k - x * valTo ds k) :
    segTo (us.set (i + k) z) i (k + 1) - o2 * 4294967296 ^ (k + 1) = segTo ys i (k + 1) - x * valTo ds (k + 1) := by
  rw [segTo_set us i k _ hk, segTo_succ ys, valTo_succ, pw_succ, Int.mul_add, ← hu]
  have e1 : (z - o2 * 4294967296) * 4294967296 ^ k = (us[i + k]?.getD 0 - T) * 4294967296 ^ k := by rw [hz]
  rw [Int.sub_mul, Int.sub_mul, hT, Int.add_mul, Int.mul_assoc x, Int.mul_assoc o2, Int.mul_comm 4294967296 (4294967296 ^ k)] at e1
  omega

set_option maxHeartbeats 3200000 in
set_option maxRecDepth 100000 in
theorem takeTimes_any (base g N i m cap : Nat) (ys : List Int) (b : Option Addr) (cap' : Nat) (ds : List Int) (x : Int) (w : World) (ho : OwnW w base g N ys) (hwy : Wd ys) (him : i + m + 1 ≤ N) (hcap : cap = N - i) (hN : N ≤ 1099511627776)
    (h : Reads w base b m cap' ds) (hm : 0 < m) (hx : 0 ≤ x ∧ x ≤ 4294967295) :
    Calls Tryz.prog 108 #[.slice (some ⟨g, i, none⟩) (m + 1) cap, .slice b m cap', .int .u32 x] w fun e w' => ∃ (sh : Bool) (us : List Int), e = .returned (.bool sh) ∧ OwnW w' base g N us ∧ Wd us ∧
      (∀ j, j < i ∨ i + m + 1 ≤ j → us[j]?.getD 0 = ys[j]?.getD 0) ∧ segTo us i (m + 1) = segTo ys i (m + 1) - x * val ds + (if sh then 4294967296 ^ (m + 1) else 0) ∧ w.grownBy w' (some g) := by
  have hbase := ho.base
  rcases h.2.2.1 with h0 | ⟨b2, o2, rfl, hb2, hc2⟩
  · omega
  · have hwz := h.2.1
    have HL := hid h.1
    have HC := hid hc2
    have hcm : m + 1 ≤ cap := by omega
    have hcz : ¬ cap = 0 := by omega
    clear h hc2
    go_enter Tryz.func108, Tryz.ntmps108
    go_wp2_with fail
    go_loopw [8, 17] (fun c t wr => ∃ (k : Nat) (o : Int) (us : List Int), k ≤ m ∧ t = .int .i64 k ∧ c = .int .u64 o ∧ 0 ≤ o ∧ o ≤ 4294967296 ∧ Wd us ∧ Hid (segTo us i k - o * 4294967296 ^ k = segTo ys i k - x * valTo ds k) ∧
      Hid (∀ j, j < i ∨ i + k ≤ j → us[j]?.getD 0 = ys[j]?.getD 0) ∧ OwnW wr base g N us ∧ w.grownBy wr (some g)) (fun _ t _ => m - (intOf t).toNat)
    case atStart => exact ⟨0, 0, ys, by omega, rfl, rfl, by omega, by omega, hwy, show _ = _ by simp [segTo, valTo], fun _ _ => rfl, ho, World.grownBy.refl _ _⟩
    case round =>
      obtain ⟨k, o, us, hk, rfl, rfl, c0, c1, hwu, HV, HK, hou, hg⟩ := hrel
      have hb : Below base w wr := (Below.refl _ _).grown hg (by omega) (fun k hk => by simp at hk; omega)
      by_cases hlt : k < m
      · have x1 : wr.cell? ⟨b2, o2 + k, none⟩ = some (.int .u32 (ds[k]?.getD 0)) := (hb.cell (p := ⟨b2, o2 + k, none⟩) hb2).trans (HC.out k hlt)
        have y1 := hou.cell (i + k) (by omega)
        have f1 := hou.free (i + k)
        have bz := hwz.at k
        have bu := hwu.at (i + k)
        obtain ⟨p, hp⟩ : ∃ p, x * ds[k]?.getD 0 = p := ⟨_, rfl⟩
        have bp := prod_word x (ds[k]?.getD 0) hx bz
        rw [hp] at bp
        have hlu := hou.len
        obtain ⟨T, hT⟩ : ∃ T, o + p = T := ⟨_, rfl⟩
        obtain ⟨d, hd⟩ : ∃ d, (us[i + k]?.getD 0 - T % 4294967296) % 18446744073709551616 = d := ⟨_, rfl⟩
        have hwr : IntKind.u64.wrap (us[i + k]?.getD 0 - T % 4294967296) = d := by rw [IntKind.wrap_u64, hd]
        have T0 : 0 ≤ T ∧ T ≤ 18446744073709551615 := by omega
        have d0 : 0 ≤ d ∧ d ≤ 18446744073709551615 := by omega
        have hz : d % 4294967296 - (T / 4294967296 + d / 9223372036854775808) * 4294967296 = us[i + k]?.getD 0 - T := by omega
        have o0 : 0 ≤ T / 4294967296 + d / 9223372036854775808 ∧ T / 4294967296 + d / 9223372036854775808 ≤ 4294967296 := by omega
        have HO0 := hid o0
        have HV' := hid (take_step ds us ys i k x o T (d % 4294967296) (T / 4294967296 + d / 9223372036854775808) (by omega) (by rw [hp, hT]) hz (HK.out _ (by omega)) HV.out)
        have HK' : Hid (∀ j, j < i ∨ i + (k + 1) ≤ j → (us.set (i + k) (d % 4294967296))[j]?.getD 0 = ys[j]?.getD 0) := fun j hj => by
          rw [List.getElem?_set, if_neg (by omega)]
          exact HK.out j (by omega)
        have HO' := hid (hou.set (i + k) (d % 4294967296))
        have HB' := hid (grown_trans hg (OwnC.set (cap := N) hou (i + k) (d % 4294967296)).2)
        have hs63 : 0 ≤ d / 9223372036854775808 := by omega
        clear hlu hou hb hg HV HK hz o0
        go_wp2_with fail
        go_roundw
        case rel => exact ⟨k + 1, T / 4294967296 + d / 9223372036854775808, us.set (i + k) (d % 4294967296), by omega, by go_num, by go_num, HO0.out.1, HO0.out.2, hwu.set _ (by omega), HV', HK', HO'.out, HB'.out⟩
        case measure => simp [intOf]; omega
      · have hkm : k = m := by omega
        subst hkm
        have y1 := hou.cell (i + k) (by omega)
        have f1 := hou.free (i + k)
        have bu := hwu.at (i + k)
        have hlu := hou.len
        obtain ⟨z, hz⟩ : ∃ z, (us[i + k]?.getD 0 - o % 4294967296) % 4294967296 = z := ⟨_, rfl⟩
        have hwr : IntKind.u32.wrap (us[i + k]?.getD 0 - o % 4294967296) = z := by rw [IntKind.wrap_u32, hz]
        have z0 : 0 ≤ z ∧ z ≤ 4294967295 := by omega
        have HO' := hid (hou.set (i + k) z)
        have HB' := hid (grown_trans hg (OwnC.set (cap := N) hou (i + k) z).2)
        have HK' : Hid (∀ j, j < i ∨ i + k + 1 ≤ j → (us.set (i + k) z)[j]?.getD 0 = ys[j]?.getD 0) := fun j hj => by
          rw [List.getElem?_set, if_neg (by omega)]
          exact HK.out j (by omega)
        have HV' : Hid (segTo (us.set (i + k) z) i (k + 1) = segTo ys i (k + 1) - x * val ds + (if decide (us[i + k]?.getD 0 < o) then 4294967296 ^ (k + 1) else 0)) := by
          show _ = _
          have e := HV.out
          rw [segTo_set us i k _ (by omega), segTo_succ ys, ← HK.out (i + k) (by omega), ← valTo_stable ds k (by have := HL.out; omega), pw_succ]
          have e2 : z * 4294967296 ^ k = (us[i + k]?.getD 0 - o + (if decide (us[i + k]?.getD 0 < o) then 4294967296 else 0)) * 4294967296 ^ k := by
            congr 1
            by_cases c : us[i + k]?.getD 0 < o
            · simp only [c, decide_true, if_true]; omega
            · simp only [c, decide_false]; simp; omega
          rw [e2, Int.add_mul, Int.sub_mul]
          by_cases c : us[i + k]?.getD 0 < o
          · simp only [c, decide_true, if_true]; omega
          · simp only [c, decide_false]; simp; omega
        clear hlu hou hb hg HV HK hz
        go_wp2_with fail
        go_ret
        exact ⟨_, us.set (i + k) z, rfl, HO'.out, hwu.set _ z0, HK'.out, HV'.out, HB'.out⟩
end Go.Proofs.YtgknjdademncdaaGreat

/- nat.giveBack, nat.guess, nat.nextWord: one word of a quotient. -/
namespace Go.Proofs.YtgknjdademncdaaGreat
open Go.RowKit
set_option linter.unusedVariables false

theorem give_step (ds us ys : List Int) (i k : Nat) (c T : Int) (hk : i + k < us.length) (hT : T = c + (us[i + k]?.getD 0 + ds[k]?.getD 0)) (hu : us[i + k]?.getD 0 = ys[i + k]?.getD 0)
    (h : segTo us i k + c * 4294967296 ^ k = segTo ys i k + valTo ds k) :
    segTo (us.set (i + k) (T % 4294967296)) i (k + 1) + T / 4294967296 * 4294967296 ^ (k + 1) = segTo ys i (k + 1) + valTo ds (k + 1) := by
  rw [segTo_set us i k _ hk, segTo_succ ys, valTo_succ, pw_succ, ← hu]
  have e := carry_step (4294967296 ^ k) (T % 4294967296) (T / 4294967296) T (by omega)
  have e2 : T * 4294967296 ^ k = c * 4294967296 ^ k + (us[i + k]?.getD 0 * 4294967296 ^ k + ds[k]?.getD 0 * 4294967296 ^ k) := by
    rw [hT, Int.add_mul, Int.add_mul]
  omega

set_option maxHeartbeats 3200000 in
set_option maxRecDepth 100000 in
theorem giveBack_any (base g N i m cap : Nat) (ys : List Int) (b : Option Addr) (cap' : Nat) (ds : List Int) (w : World) (ho : OwnW w base g N ys) (hwy : Wd ys) (him : i + m + 1 ≤ N) (hcap : cap = N - i) (hN : N ≤ 1099511627776)
    (h : Reads w base b m cap' ds) (hm : 0 < m) :
    Calls Tryz.prog 109 #[.slice (some ⟨g, i, none⟩) (m + 1) cap, .slice b m cap'] w fun e w' => ∃ (c : Int) (us : List Int), e = .returned (.tuple #[]) ∧ OwnW w' base g N us ∧ Wd us ∧ (c = 0 ∨ c = 1) ∧
      (∀ j, j < i ∨ i + m + 1 ≤ j → us[j]?.getD 0 = ys[j]?.getD 0) ∧ segTo us i (m + 1) = segTo ys i (m + 1) + val ds - c * 4294967296 ^ (m + 1) ∧ w.grownBy w' (some g) := by
  have hbase := ho.base
  rcases h.2.2.1 with h0 | ⟨b2, o2, rfl, hb2, hc2⟩
  · omega
  · have hwz := h.2.1
    have HL := hid h.1
    have HC := hid hc2
    have hcm : m + 1 ≤ cap := by omega
    have hcz : ¬ cap = 0 := by omega
    clear h hc2
    go_enter Tryz.func109, Tryz.ntmps109
    go_wp2_with fail
    go_loopw [5, 12] (fun c t wr => ∃ (k : Nat) (o : Int) (us : List Int), k ≤ m ∧ t = .int .i64 k ∧ c = .int .u64 o ∧ 0 ≤ o ∧ o ≤ 1 ∧ Wd us ∧ Hid (segTo us i k + o * 4294967296 ^ k = segTo ys i k + valTo ds k) ∧
      Hid (∀ j, j < i ∨ i + k ≤ j → us[j]?.getD 0 = ys[j]?.getD 0) ∧ OwnW wr base g N us ∧ w.grownBy wr (some g)) (fun _ t _ => m - (intOf t).toNat)
    case atStart => exact ⟨0, 0, ys, by omega, rfl, rfl, by omega, by omega, hwy, show _ = _ by simp [segTo, valTo], fun _ _ => rfl, ho, World.grownBy.refl _ _⟩
    case round =>
      obtain ⟨k, o, us, hk, rfl, rfl, c0, c1, hwu, HV, HK, hou, hg⟩ := hrel
      have hb : Below base w wr := (Below.refl _ _).grown hg (by omega) (fun k hk => by simp at hk; omega)
      by_cases hlt : k < m
      · have x1 : wr.cell? ⟨b2, o2 + k, none⟩ = some (.int .u32 (ds[k]?.getD 0)) := (hb.cell (p := ⟨b2, o2 + k, none⟩) hb2).trans (HC.out k hlt)
        have y1 := hou.cell (i + k) (by omega)
        have f1 := hou.free (i + k)
        have bz := hwz.at k
        have bu := hwu.at (i + k)
        have hlu := hou.len
        obtain ⟨T, hT⟩ : ∃ T, T = o + (us[i + k]?.getD 0 + ds[k]?.getD 0) := ⟨_, rfl⟩
        have HT := hid hT
        have T0 : 0 ≤ T ∧ T ≤ 8589934591 := by omega
        have HV' := hid (give_step ds us ys i k o T (by omega) hT (HK.out _ (by omega)) HV.out)
        have HK' : Hid (∀ j, j < i ∨ i + (k + 1) ≤ j → (us.set (i + k) (T % 4294967296))[j]?.getD 0 = ys[j]?.getD 0) := fun j hj => by
          rw [List.getElem?_set, if_neg (by omega)]
          exact HK.out j (by omega)
        have HO' := hid (hou.set (i + k) (T % 4294967296))
        have HB' := hid (grown_trans hg (OwnC.set (cap := N) hou (i + k) (T % 4294967296)).2)
        clear hlu hou hb hg HV HK hT
        go_wp2_with fail
        go_roundw
        case rel => rw [← HT.out]; exact ⟨k + 1, T / 4294967296, us.set (i + k) (T % 4294967296), by omega, by go_num, by go_num, by omega, by omega, hwu.set _ (by omega), HV', HK', HO'.out, HB'.out⟩
        case measure => simp [intOf]; omega
      · have hkm : k = m := by omega
        subst hkm
        have y1 := hou.cell (i + k) (by omega)
        have f1 := hou.free (i + k)
        have bu := hwu.at (i + k)
        have hlu := hou.len
        obtain ⟨z, hz⟩ : ∃ z, (us[i + k]?.getD 0 + o) % 4294967296 = z := ⟨_, rfl⟩
        have hwr : IntKind.u32.wrap (us[i + k]?.getD 0 + o) = z := by rw [IntKind.wrap_u32, hz]
        have z0 : 0 ≤ z ∧ z ≤ 4294967295 := by omega
        obtain ⟨c, hc⟩ : ∃ c, c = (us[i + k]?.getD 0 + o) / 4294967296 := ⟨_, rfl⟩
        have HCC : Hid (c = 0 ∨ c = 1) := by show _ ∨ _; omega
        have HO' := hid (hou.set (i + k) z)
        have HB' := hid (grown_trans hg (OwnC.set (cap := N) hou (i + k) z).2)
        have HK' : Hid (∀ j, j < i ∨ i + k + 1 ≤ j → (us.set (i + k) z)[j]?.getD 0 = ys[j]?.getD 0) := fun j hj => by
          rw [List.getElem?_set, if_neg (by omega)]
          exact HK.out j (by omega)
        have HV' : Hid (segTo (us.set (i + k) z) i (k + 1) = segTo ys i (k + 1) + val ds - c * 4294967296 ^ (k + 1)) := by
          show _ = _
          have e := HV.out
          rw [segTo_set us i k _ (by omega), segTo_succ ys, ← HK.out (i + k) (by omega), ← valTo_stable ds k (by have := HL.out; omega), pw_succ]
          have e2 := carry_step (4294967296 ^ k) z c (us[i + k]?.getD 0 + o) (by omega)
          rw [Int.add_mul] at e2
          omega
        clear hlu hou hb hg HV HK hz hc
        go_wp2_with fail
        go_end0
        exact ⟨c, us.set (i + k) z, rfl, HO'.out, hwu.set _ z0, HCC.out, HK'.out, HV'.out, HB'.out⟩

/-- What a guess of a quotient's word must meet: it is not too small. -/
theorem guess_first (P h l dl u2 u1 u0 ll t : Int) (hP : 0 < P) (hh : 0 < h) (l0 : 0 ≤ l) (dl0 : 0 ≤ dl) (ll1 : ll < P) (hu0 : 0 ≤ u0 ∧ u0 ≤ 4294967295) (ht : t = u1 + u2 * 4294967296) (t0 : 0 ≤ t) :
    ll + (u0 + t * 4294967296) * P < (t / h + 1) * (dl + (l + h * 4294967296) * P) := by
  have e := Int.mul_ediv_add_emod t h
  have e1 := Int.emod_lt_of_pos t hh
  have q0 : 0 ≤ t / h := Int.ediv_nonneg t0 (by omega)
  have e2 : t + 1 ≤ (t / h + 1) * h := by rw [Int.add_mul, Int.mul_comm (t / h) h]; omega
  have e3 : (t + 1) * 4294967296 * P ≤ (t / h + 1) * h * 4294967296 * P := Int.mul_le_mul_of_nonneg_right (Int.mul_le_mul_of_nonneg_right e2 (by omega)) (by omega)
  have e4 : (t / h + 1) * (dl + (l + h * 4294967296) * P) = (t / h + 1) * dl + (t / h + 1) * (l * P) + (t / h + 1) * h * 4294967296 * P := by
    rw [Int.mul_add, Int.add_mul l, Int.mul_add, Int.mul_assoc ((t / h + 1) * h), Int.mul_assoc (t / h + 1) h, Int.mul_assoc h]; omega
  have e5 : 0 ≤ (t / h + 1) * dl := Int.mul_nonneg (by omega) dl0
  have e6 : 0 ≤ (t / h + 1) * (l * P) := Int.mul_nonneg (by omega) (Int.mul_nonneg l0 (by omega))
  have e7 : (u0 + t * 4294967296 + 1) * P ≤ (t + 1) * 4294967296 * P := Int.mul_le_mul_of_nonneg_right (by omega) (by omega)
  rw [Int.add_mul _ 1 P] at e7
  rw [e4]
  omega
/-- A guess that the next two words call too great is. -/
theorem guess_less (P h l dl t u0 ll q r : Int) (hP : 0 < P) (dl0 : 0 ≤ dl) (ll1 : ll < P) (q0 : 0 ≤ q) (hr : q * h + r = t) (hgt : u0 + r * 4294967296 < q * l) :
    ll + (u0 + t * 4294967296) * P < q * (dl + (l + h * 4294967296) * P) := by
  have e1 : u0 + t * 4294967296 + 1 ≤ q * (l + h * 4294967296) := by
    rw [Int.mul_add, ← Int.mul_assoc, ← hr, Int.add_mul]; omega
  have e2 : (u0 + t * 4294967296 + 1) * P ≤ q * (l + h * 4294967296) * P := Int.mul_le_mul_of_nonneg_right e1 (by omega)
  rw [Int.add_mul _ 1 P] at e2
  have e3 : 0 ≤ q * dl := Int.mul_nonneg q0 dl0
  rw [Int.mul_add q dl, ← Int.mul_assoc q]
  omega
/-- A guess that the next two words don't call too great is at most one too great. -/
theorem guess_most (P h l dl t u0 ll q r : Int) (hP : 0 < P) (dl0 : 0 ≤ dl) (dl1 : dl < P) (ll0 : 0 ≤ ll) (hh : 1 ≤ h) (l0 : 0 ≤ l) (q0 : 0 ≤ q) (q1 : q ≤ 4294967295) (hr : q * h + r = t) (hle : q * l ≤ u0 + r * 4294967296) :
    q * (dl + (l + h * 4294967296) * P) ≤ (ll + (u0 + t * 4294967296) * P) + (dl + (l + h * 4294967296) * P) := by
  have e1 : q * (l + h * 4294967296) ≤ u0 + t * 4294967296 := by
    rw [Int.mul_add, ← Int.mul_assoc, ← hr, Int.add_mul]; omega
  have e2 : q * (l + h * 4294967296) * P ≤ (u0 + t * 4294967296) * P := Int.mul_le_mul_of_nonneg_right e1 (by omega)
  have e3 : q * dl ≤ 4294967296 * P := by
    have a1 : q * dl ≤ q * P := Int.mul_le_mul_of_nonneg_left (by omega) q0
    have a2 : q * P ≤ 4294967296 * P := Int.mul_le_mul_of_nonneg_right (by omega) (by omega)
    omega
  have e4 : 4294967296 * P ≤ (l + h * 4294967296) * P := Int.mul_le_mul_of_nonneg_right (by omega) (by omega)
  rw [Int.mul_add q dl, ← Int.mul_assoc q]
  omega
end Go.Proofs.YtgknjdademncdaaGreat

/- nat.guess, nat.nextWord: one word of a quotient. -/
namespace Go.Proofs.YtgknjdademncdaaGreat
open Go.RowKit
set_option linter.unusedVariables false

theorem bdn {B : Nat} {a w : World} (h : Below B a w) (n : Nat) : Below B a (w.drewN n) := h.trans ⟨rfl, rfl, rfl, Nat.le_refl _, fun _ _ => rfl⟩
theorem seg_three (ys : List Int) (i e : Nat) : segTo ys i (e + 3) = segTo ys i e + (ys[i + e]?.getD 0 + (ys[i + (e + 1)]?.getD 0 + ys[i + (e + 2)]?.getD 0 * 4294967296) * 4294967296) * 4294967296 ^ e := by
  rw [segTo_succ, segTo_succ, segTo_succ, pw_succ (e + 1), pw_succ e]
  generalize ys[i + (e + 2)]?.getD 0 = u2
  generalize ys[i + (e + 1)]?.getD 0 = u1
  generalize ys[i + e]?.getD 0 = u0
  generalize (4294967296 : Int) ^ e = P
  have e1 : u2 * (P * 4294967296 * 4294967296) = u2 * 4294967296 * 4294967296 * P := by rw [Int.mul_assoc P, Int.mul_comm P, ← Int.mul_assoc, ← Int.mul_assoc]
  have e2 : u1 * (P * 4294967296) = u1 * 4294967296 * P := by rw [Int.mul_comm P, ← Int.mul_assoc]
  rw [e1, e2, Int.add_mul u0, Int.add_mul u1, Int.add_mul (u1 * 4294967296)]
  omega
theorem val_two_top (ds : List Int) (e : Nat) (h : ds.length = e + 2) : val ds = valTo ds e + (ds[e]?.getD 0 + ds[e + 1]?.getD 0 * 4294967296) * 4294967296 ^ e := by
  unfold val
  rw [h, valTo_succ, valTo_succ, pw_succ, Int.add_mul, Int.mul_assoc (ds[e + 1]?.getD 0), Int.mul_comm 4294967296 (4294967296 ^ e)]
  omega
theorem segTo_bounds {xs : List Int} (hw : Wd xs) (i : Nat) : ∀ k, 0 ≤ segTo xs i k ∧ segTo xs i k < 4294967296 ^ k
  | 0 => ⟨Int.le_refl _, by simp [segTo]⟩
  | k + 1 => by
    obtain ⟨h0, h1⟩ := segTo_bounds hw i k
    obtain ⟨z0, z1⟩ := hw.at (i + k)
    have hp := pw_pos k
    rw [segTo_succ, pw_succ]
    have e1 : 0 ≤ xs[i + k]?.getD 0 * 4294967296 ^ k := Int.mul_nonneg z0 (Int.le_of_lt hp)
    have e2 : xs[i + k]?.getD 0 * 4294967296 ^ k ≤ 4294967295 * 4294967296 ^ k := Int.mul_le_mul_of_nonneg_right z1 (Int.le_of_lt hp)
    omega

/-- The two highest words bound the rest of a guess. -/
theorem guess_top (P H Lo dl ll t u0 : Int) (hP : 0 < P) (dl1 : dl < P) (ll0 : 0 ≤ ll) (hu : 0 ≤ u0) (h : ll + (u0 + t * 4294967296) * P < 4294967296 * (dl + (Lo + H * 4294967296) * P)) : t ≤ Lo + H * 4294967296 := by
  by_cases c : t ≤ Lo + H * 4294967296
  · exact c
  · have e1 : (Lo + H * 4294967296 + 1) * 4294967296 * P ≤ (u0 + t * 4294967296) * P := Int.mul_le_mul_of_nonneg_right (by omega) (by omega)
    have e2 : (Lo + H * 4294967296 + 1) * 4294967296 * P = 4294967296 * ((Lo + H * 4294967296) * P) + 4294967296 * P := by
      rw [Int.mul_comm (Lo + H * 4294967296 + 1), Int.mul_assoc, Int.add_mul, Int.one_mul, Int.mul_add]
    rw [Int.mul_add] at h
    omega
theorem guess_break (H Lo t q r : Int) (h0 : 0 < H) (hr : q * H + r = t) (ht : t ≤ Lo + H * 4294967296) (hb : 4294967296 ≤ r) (hl : Lo ≤ 4294967295) : q ≤ 4294967295 := by
  have e : q * H < 4294967296 * H := by omega
  have := Int.lt_of_mul_lt_mul_right e (by omega)
  omega
theorem guess_down (D q L : Int) (hD : 0 ≤ D) (hq : 4294967296 ≤ q) (h : L < 4294967296 * D) : L < (q - 1 + 1) * D := by
  have : 4294967296 * D ≤ q * D := Int.mul_le_mul_of_nonneg_right hq hD
  rw [show q - 1 + 1 = q by omega]; omega

set_option maxHeartbeats 3200000 in
set_option maxRecDepth 100000 in
theorem guess_any (base g N i e cap : Nat) (ys : List Int) (b : Option Addr) (cap' : Nat) (ds : List Int) (w : World) (ho : OwnW w base g N ys) (hwy : Wd ys) (him : i + (e + 2) + 1 ≤ N) (hcap : cap = N - i) (hN : N ≤ 1099511627776)
    (h : Reads w base b (e + 2) cap' ds) (hh : 1 ≤ ds[e + 1]?.getD 0) (hLD : segTo ys i (e + 3) < 4294967296 * val ds) :
    Calls Tryz.prog 107 #[.slice (some ⟨g, i, none⟩) (e + 2 + 1) cap, .slice b (e + 2) cap'] w fun x w' => ∃ q : Int, x = .returned (.int .u32 q) ∧ 0 ≤ q ∧ q ≤ 4294967295 ∧ segTo ys i (e + 3) < (q + 1) * val ds ∧ q * val ds ≤ segTo ys i (e + 3) + val ds ∧ Below w.heap.size w w' := by
  rcases h.2.2.1 with h0 | ⟨b2, o2, rfl, hb2, hc2⟩
  · omega
  · have hwz := h.2.1
    have hl := h.1
    have c1 := hc2 (e + 1) (by omega)
    have c0 := hc2 e (by omega)
    have l2 := ho.cell (i + (e + 2)) (by omega)
    have l1 := ho.cell (i + (e + 1)) (by omega)
    have l0 := ho.cell (i + e) (by omega)
    have bh := hwz.at (e + 1)
    have bl := hwz.at e
    have b2' := hwy.at (i + (e + 2))
    have b1' := hwy.at (i + (e + 1))
    have b0' := hwy.at (i + e)
    have hS := seg_three ys i e
    have hD := val_two_top ds e hl
    have sb := segTo_bounds hwy i e
    have vb := valTo_bounds hwz e
    generalize ds[e + 1]?.getD 0 = H at *
    generalize ds[e]?.getD 0 = Lo at *
    generalize ys[i + (e + 2)]?.getD 0 = u2 at *
    generalize ys[i + (e + 1)]?.getD 0 = u1 at *
    generalize ys[i + e]?.getD 0 = u0 at *
    obtain ⟨t, ht⟩ : ∃ t, t = u1 + u2 * 4294967296 := ⟨_, rfl⟩
    have hor : bits BinOp.or IntKind.u64 (u2 * 4294967296) u1 = t := by rw [or_join u2 _ b2'.1 b2'.2 b1'.1 b1'.2, ht]
    have t0 : 0 ≤ t ∧ t ≤ 18446744073709551615 := by omega
    have P0 := pw_pos e
    have HTB : Hid (t ≤ Lo + H * 4294967296) := guess_top (4294967296 ^ e) H Lo (valTo ds e) (segTo ys i e) t u0 P0 vb.2 sb.1 b0'.1 (by rw [hS, hD, ← ht] at hLD; exact hLD)
    have HQ0 : Hid (segTo ys i (e + 3) < (t / H + 1) * val ds) := by
      show _ < _
      rw [hS, hD, ← ht]
      exact guess_first (4294967296 ^ e) H Lo (valTo ds e) u2 u1 u0 (segTo ys i e) t P0 (by omega) bl.1 vb.1 sb.2 b0' ht t0.1
    have HLESS : Hid (∀ q r : Int, 0 ≤ q → q * H + r = t → u0 + r * 4294967296 < q * Lo → segTo ys i (e + 3) < (q - 1 + 1) * val ds) := fun q r hq hr hgt => by
      rw [hS, hD, ← ht, show q - 1 + 1 = q by omega]
      exact guess_less (4294967296 ^ e) H Lo (valTo ds e) t u0 (segTo ys i e) q r P0 vb.1 sb.2 hq hr hgt
    have HMOST : Hid (∀ q r : Int, 0 ≤ q → q ≤ 4294967295 → q * H + r = t → q * Lo ≤ u0 + r * 4294967296 → q * val ds ≤ segTo ys i (e + 3) + val ds) := fun q r hq hq1 hr hle => by
      rw [hS, hD, ← ht]
      exact guess_most (4294967296 ^ e) H Lo (valTo ds e) t u0 (segTo ys i e) q r P0 vb.1 vb.2 sb.1 hh bl.1 hq hq1 hr hle
    have hcm : e + 2 + 1 ≤ cap := by omega
    have q0 : 0 ≤ t / H := Int.ediv_nonneg t0.1 (by omega)
    have q1 : t / H ≤ t := Int.ediv_le_self _ (by omega)
    have r0 : 0 ≤ t % H := Int.emod_nonneg _ (by omega)
    have r1 : t % H < H := Int.emod_lt_of_pos _ (by omega)
    have HE0 : Hid (t / H * H + t % H = t) := by show _ = _; rw [Int.mul_comm]; exact Int.mul_ediv_add_emod t H
    have hHz : ¬ H = 0 := by omega
    have HLD := hid hLD
    have HDN := hid (val_nonneg hwz)
    clear hc2 h hl hS hD sb vb hLD ho ht P0
    go_enter Tryz.func107, Tryz.ntmps107
    go_wp2_with fail
    go_quiet (fail)
    go_wp2_with fail
    go_quiet (fail)
    go_wp2_with fail
    go_quiet (fail)
    go_wp2_with fail
    go_loopw [9, 10] (fun c d wr => ∃ (q r : Int), c = .int .u64 q ∧ d = .int .u64 r ∧ 0 ≤ q ∧ q ≤ 18446744073709551615 ∧ 0 ≤ r ∧ r ≤ 4294967295 ∧ Hid (q * H + r = t) ∧ Hid (segTo ys i (e + 3) < (q + 1) * val ds) ∧ wr.cell? ⟨g, i + e, none⟩ = some (.int .u32 u0) ∧ Below w.heap.size w wr) (fun c _ _ => (intOf c).toNat)
    case atStart => exact ⟨t / H, t % H, rfl, rfl, q0, by omega, r0, by omega, HE0, HQ0, l0, bdn (bdn (bdn (Below.refl _ _) _) _) _⟩
    case round =>
      obtain ⟨q, r, rfl, rfl, qa, qb, ra, rb, HE, HQ, lw, hb⟩ := hrel
      clear q0 q1 r0 r1 HE0 HQ0 c1 c0 l0 l1 l2 hor
      have hE' : (q - 1) * H + (r + H) = t := by rw [Int.sub_mul, Int.one_mul]; have := HE.out; omega
      have HE' := hid hE'
      by_cases big : 4294967295 < q
      · have HQ' : Hid (segTo ys i (e + 3) < (q - 1 + 1) * val ds) := guess_down (val ds) q _ HDN.out (by omega) HLD.out
        by_cases rr : 4294967295 < r + H
        · have qc := guess_break H Lo t (q - 1) (r + H) (by omega) hE' HTB.out (by omega) bl.2
          have HM : Hid ((q - 1) * val ds ≤ segTo ys i (e + 3) + val ds) := HMOST.out (q - 1) (r + H) (by omega) qc hE' (by
            have a := prod_word (q - 1) Lo ⟨by omega, qc⟩ bl
            omega)
          clear hE'
          go_wp2_with fail
          go_ret
          exact ⟨q - 1, ret_int (by omega), by omega, qc, HQ'.out, HM.out, hb⟩
        · clear hE'
          go_wp2_with fail
          go_roundw
          case rel => exact ⟨q - 1, r + H, by go_num, by go_num, by omega, by omega, by omega, by omega, HE', HQ', lw, hb⟩
          case measure => simp [intOf]; omega
      · have bp := prod_word q Lo ⟨qa, by omega⟩ bl
        obtain ⟨p, hp⟩ : ∃ p, q * Lo = p := ⟨_, rfl⟩
        rw [hp] at bp
        obtain ⟨s, hs⟩ : ∃ s, s = u0 + r * 4294967296 := ⟨_, rfl⟩
        have hor : bits BinOp.or IntKind.u64 (r * 4294967296) u0 = s := by rw [or_join r _ ra rb b0'.1 b0'.2, hs]
        by_cases gt : s < p
        · have HQ' : Hid (segTo ys i (e + 3) < (q - 1 + 1) * val ds) := HLESS.out q r qa HE.out (by rw [hp, ← hs]; exact gt)
          have q1 : 1 ≤ q := by
            by_cases c : q = 0
            · rw [c] at hp; simp at hp; omega
            · omega
          by_cases rr : 4294967295 < r + H
          · have qc := guess_break H Lo t (q - 1) (r + H) (by omega) hE' HTB.out (by omega) bl.2
            have HM : Hid ((q - 1) * val ds ≤ segTo ys i (e + 3) + val ds) := HMOST.out (q - 1) (r + H) (by omega) qc hE' (by
              have a := prod_word (q - 1) Lo ⟨by omega, qc⟩ bl
              omega)
            clear hE' hs
            go_wp2_with fail
            go_ret
            exact ⟨q - 1, ret_int (by omega), by omega, qc, HQ'.out, HM.out, hb⟩
          · clear hE' hs
            go_wp2_with fail
            go_roundw
            case rel => exact ⟨q - 1, r + H, by go_num, by go_num, by omega, by omega, by omega, by omega, HE', HQ', lw, hb⟩
            case measure => simp [intOf]; omega
        · have HM : Hid (q * val ds ≤ segTo ys i (e + 3) + val ds) := HMOST.out q r qa (by omega) HE.out (by rw [hp, ← hs]; omega)
          clear hE' hs
          go_wp2_with fail
          go_ret
          exact ⟨q, ret_int (by omega), qa, by omega, HQ.out, HM.out, hb⟩
end Go.Proofs.YtgknjdademncdaaGreat

/- nat.nextWord: one word of a quotient. -/
namespace Go.Proofs.YtgknjdademncdaaGreat
open Go.RowKit
set_option linter.unusedVariables false

theorem grown_of_below {w w' : World} (hb : Below w.heap.size w w') (r : Option Nat) : w.grownBy w' r := ⟨hb.os, hb.tape, hb.output, hb.size, fun k hk _ => hb.block k hk⟩

set_option maxHeartbeats 800000 in
set_option maxRecDepth 100000 in
theorem nextWord_any (base g N i e cap : Nat) (ys : List Int) (b : Option Addr) (cap' : Nat) (ds : List Int) (w : World) (ho : OwnW w base g N ys) (hwy : Wd ys) (him : i + (e + 2) + 1 ≤ N) (hcap : cap = N - i) (hN : N ≤ 1099511627776)
    (h : Reads w base b (e + 2) cap' ds) (hh : 1 ≤ ds[e + 1]?.getD 0) (hLD : segTo ys i (e + 3) < 4294967296 * val ds) :
    Calls Tryz.prog 103 #[.slice (some ⟨g, i, none⟩) (e + 2 + 1) cap, .slice b (e + 2) cap'] w fun x w' => ∃ (q : Int) (us : List Int), x = .returned (.int .u32 q) ∧ 0 ≤ q ∧ q ≤ 4294967295 ∧ OwnW w' base g N us ∧ Wd us ∧
      (∀ j, j < i ∨ i + (e + 2) + 1 ≤ j → us[j]?.getD 0 = ys[j]?.getD 0) ∧ segTo us i (e + 3) = segTo ys i (e + 3) - q * val ds ∧ segTo us i (e + 3) < val ds ∧ w.grownBy w' (some g) := by
  subst hcap
  have hbase := ho.base
  have hbw : base ≤ w.heap.size := by omega
  have HG := hid (guess_any base g N i e _ ys b cap' ds w ho hwy him rfl hN h hh hLD)
  have vd := val_lt h.2.1
  have vd0 := val_nonneg h.2.1
  rw [h.1] at vd
  have sb := segTo_bounds hwy i (e + 3)
  have hpw : (4294967296 : Int) ^ (e + 2) ≤ 4294967296 ^ (e + 3) := pw_le (by omega)
  have HF := hid (And.intro vd (And.intro vd0 (And.intro sb hpw)))
  have HR := hid h
  have HO := hid ho
  clear h ho vd vd0 sb hpw hLD
  go_enter Tryz.func103, Tryz.ntmps103
  go_wp2_with fail
  refine Calls.mono HG.out ?_
  rintro x w1 ⟨q, rfl, q0, q1, ha, hb, hbel⟩
  rw [Int.add_mul, Int.one_mul] at ha
  have HA := hid ha
  have HBB := hid hb
  clear ha hb
  have o1 : OwnW w1 base g N ys := owns_later HO.out hbel
  have r1 := HR.out.later (hbel.mono hbw) (Nat.le_refl _)
  have hs1 := hbel.size
  have HT := hid (takeTimes_any base g N i (e + 2) _ ys b cap' ds q w1 o1 hwy him rfl hN r1 (by omega) ⟨q0, q1⟩)
  have hbel' : Below base w w1 := hbel.mono hbw
  have hg1 := grown_of_below hbel (some g)
  clear o1 HG HO hbel
  go_wp2_with fail
  refine Calls.mono HT.out ?_
  rintro x w2 ⟨sh, us, rfl, o2, wu, ku, hv, hg2⟩
  have hg3 := grown_trans hg1 hg2
  have hb2 : Below base w1 w2 := (Below.refl _ _).grown hg2 (by omega) (fun k hk => by simp at hk; omega)
  have sb2 := segTo_bounds wu i (e + 3)
  rw [show e + 2 + 1 = e + 3 from rfl] at hv
  obtain ⟨vd, vd0, sb, hpw⟩ := HF.out
  have ha := HA.out
  have hb := HBB.out
  cases sh with
  | false =>
    rw [if_neg (by decide)] at hv
    have hlt : segTo us i (e + 3) < val ds := by omega
    have HV : Hid (segTo us i (e + 3) = segTo ys i (e + 3) - q * val ds) := by show _ = _; omega
    have HLT := hid hlt
    clear hv sb sb2 hpw vd vd0 ha hb hlt HT
    go_wp2_with fail
    go_ret
    exact ⟨q, us, rfl, q0, q1, o2, wu, ku, HV.out, HLT.out, hg3⟩
  | true =>
    rw [if_pos rfl] at hv
    have hq1 : 1 ≤ q := by
      by_cases c : q = 0
      · rw [c] at hv; simp at hv; omega
      · omega
    have hbs := hbel'.size
    have HB := hid (giveBack_any base g N i (e + 2) _ us b cap' ds w2 o2 wu him rfl hN (r1.later hb2 (Nat.le_refl _)) (by omega))
    have HV := hid hv
    clear hv o2 ha hb HT vd vd0 sb hpw sb2
    go_wp2_with fail
    refine Calls.mono HB.out ?_
    rintro x w3 ⟨c, zs, rfl, o3, wz, hc, kz, hvz, hg4⟩
    have sb2 := segTo_bounds wu i (e + 3)
    have sb3 := segTo_bounds wz i (e + 3)
    obtain ⟨vd, vd0, sb, hpw⟩ := HF.out
    rw [show e + 2 + 1 = e + 3 from rfl] at hvz
    have e1 : (q - 1) * val ds = q * val ds - val ds := by rw [Int.sub_mul, Int.one_mul]
    have hc1 : c = 1 := by
      rcases hc with hc | hc
      · rw [hc] at hvz
        have := HV.out
        have := HBB.out
        simp at hvz
        omega
      · exact hc
    rw [hc1, Int.one_mul] at hvz
    have HV2 : Hid (segTo zs i (e + 3) = segTo ys i (e + 3) - (q - 1) * val ds) := by show _ = _; rw [e1]; have := HV.out; omega
    have HLT : Hid (segTo zs i (e + 3) < val ds) := by show _ < _; have := HV.out; have := HA.out; have := HBB.out; omega
    have HO3 := hid o3
    have HKZ : Hid (∀ j, j < i ∨ i + (e + 2) + 1 ≤ j → zs[j]?.getD 0 = ys[j]?.getD 0) := fun j hj => by rw [kz j hj]; exact ku j hj
    have hg5 := grown_trans hg3 hg4
    have hqq : IntKind.u32.wrap (q - 1) = q - 1 := by rw [IntKind.wrap_u32]; omega
    clear hvz o3 kz ku e1 hg4 hg3 HB sb sb2 sb3 hpw vd vd0
    go_wp2_with fail
    go_ret
    exact ⟨q - 1, zs, rfl, by omega, by omega, HO3.out, wz, HKZ.out, HV2.out, HLT.out, hg5⟩
end Go.Proofs.YtgknjdademncdaaGreat

/- nat.Shift: of every list that can be read and every number the list moved up or down, or the error, in new memory. -/
namespace Go.Proofs.YtgknjdademncdaaGreat
open Go.RowKit
set_option linter.unusedVariables false

theorem pw_two (k : Nat) : (4294967296 : Int) ^ k = 2 ^ (32 * k) := by
  rw [Int.pow_mul]; rfl
theorem pw_two_le {K e : Nat} (h : 32 * K ≤ e) : (4294967296 : Int) ^ K ≤ 2 ^ e := by rw [pw_two]; exact two_le h
theorem bitLen_bounds (x : Int) (h0 : 1 ≤ x) (h1 : x ≤ 4294967295) : 1 ≤ Lib.bitLen x.toNat ∧ (2 : Int) ^ (Lib.bitLen x.toNat - 1) ≤ x ∧ x < 2 ^ Lib.bitLen x.toNat := by
  obtain ⟨a, b, c⟩ := Lib.bitLenAux_bounds 64 x.toNat (by omega) (by omega)
  refine ⟨a, ?_, ?_⟩
  · have := Int.ofNat_le.2 b
    rw [Int.natCast_pow, Int.toNat_of_nonneg (by omega)] at this
    exact this
  · have := Int.ofNat_lt.2 c
    rw [Int.natCast_pow, Int.toNat_of_nonneg (by omega)] at this
    exact this
theorem bits_bounds {xs : List Int} (hw : Wd xs) (hp : 0 < sz xs) : 1 ≤ bitsOf xs ∧ (2 : Int) ^ (bitsOf xs - 1) ≤ val xs ∧ val xs < 2 ^ bitsOf xs ∧ bitsOf xs ≤ 32 * sz xs ∧ 32 * (sz xs - 1) < bitsOf xs := by
  obtain ⟨m, hm⟩ : ∃ m, sz xs = m + 1 := ⟨sz xs - 1, by omega⟩
  have ht := sz_top xs hp
  have hb := hw.at m
  have h32 := bitLen_le32 (xs[m]?.getD 0) hb.2
  rw [hm, Nat.add_sub_cancel] at ht
  obtain ⟨b1, b2, b3⟩ := bitLen_bounds (xs[m]?.getD 0) (by omega) hb.2
  have e : bitsOf xs = m * 32 + Lib.bitLen (xs[m]?.getD 0).toNat := by unfold bitsOf; rw [hm, if_neg (by omega), Nat.add_sub_cancel]
  have hv : val xs = valTo xs m + xs[m]?.getD 0 * 4294967296 ^ m := by rw [val_sz, hm, valTo_succ]
  have vb := valTo_bounds hw m
  rw [e, hv]
  generalize Lib.bitLen (xs[m]?.getD 0).toNat = L at *
  have hpw := pw_pos m
  refine ⟨by omega, ?_, ?_, by omega, by omega⟩
  · have e1 : (2 : Int) ^ (m * 32 + L - 1) = 2 ^ (L - 1) * 4294967296 ^ m := by rw [pw_two, ← Int.pow_add]; congr 1; omega
    have e2 : (2 : Int) ^ (L - 1) * 4294967296 ^ m ≤ xs[m]?.getD 0 * 4294967296 ^ m := Int.mul_le_mul_of_nonneg_right b2 (Int.le_of_lt hpw)
    rw [e1]; omega
  · have e1 : (2 : Int) ^ (m * 32 + L) = 2 ^ L * 4294967296 ^ m := by rw [pw_two, ← Int.pow_add]; congr 1; omega
    have e2 : (xs[m]?.getD 0 + 1) * 4294967296 ^ m ≤ (2 : Int) ^ L * 4294967296 ^ m := Int.mul_le_mul_of_nonneg_right (by omega) (Int.le_of_lt hpw)
    rw [Int.add_mul] at e2
    rw [e1]; omega

end Go.Proofs.YtgknjdademncdaaGreat

/- nat.divideLong: quotient and rest by two words or more, in new memory. -/
namespace Go.Proofs.YtgknjdademncdaaGreat
open Go.RowKit
set_option linter.unusedVariables false

theorem lead_any (x : Int) (w : World) (h0 : 1 ≤ x) (h1 : x ≤ 4294967295) :
    Calls Tryz.prog 98 #[.int .u32 x] w fun e w' => e = .returned (.int .i64 ((32 - Lib.bitLen x.toNat : Nat) : Int)) ∧ w = w' := by
  have h2 := bitLen_le32 x h1
  have HL := hid (len32_any x w (by omega) h1)
  obtain ⟨L, hL⟩ : ∃ L, Lib.bitLen x.toNat = L := ⟨_, rfl⟩
  rw [hL] at HL h2 ⊢
  clear hL
  go_enter Tryz.func98, Tryz.ntmps98
  go_wp2_with fail
  refine Calls.mono HL.out ?_
  rintro e w' ⟨rfl, rfl⟩
  go_wp2_with fail
  go_ret
  exact ⟨ret_int (by omega), rfl⟩

theorem raise_zero (a : Option Addr) (n cap : Nat) (xs : List Int) (t : Nat) (w : World) (h : Reads w w.heap.size a n cap xs) (hn : n ≤ 274877906944) (hn0 : 0 < n) (ht : t ≤ 31) :
    Calls Tryz.prog 102 #[.slice a n cap, .int .i64 0, .int .i64 t] w fun e w' => ∃ (ys : List Int), e = .returned (.slice (some ⟨w.heap.size, 0, none⟩) (n + 1) (n + 1)) ∧ OwnW w' w.heap.size w.heap.size (n + 1) ys ∧ Wd ys ∧ val ys = val xs * 2 ^ t ∧ Below w.heap.size w w' := by
  refine Calls.mono (raise_any a n cap xs 0 t w h hn hn0 (by omega) ht) ?_
  rintro e w' ⟨ys, rfl, oy, wy, hv, hb⟩
  exact ⟨ys, rfl, oy, wy, by rw [hv, Int.pow_zero, Int.mul_one], hb⟩
theorem lower_zero (a : Option Addr) (n cap : Nat) (xs : List Int) (t : Nat) (w : World) (h : Reads w w.heap.size a n cap xs) (hn : n ≤ 274877906944) (hn0 : 0 < n) (ht : t ≤ 31) :
    Calls Tryz.prog 104 #[.slice a n cap, .int .i64 0, .int .i64 t] w fun e w' => ∃ (ys : List Int), e = .returned (.slice (some ⟨w.heap.size, 0, none⟩) n n) ∧ OwnW w' w.heap.size w.heap.size n ys ∧ Wd ys ∧ val ys = val xs / 2 ^ t ∧ Below w.heap.size w w' := by
  refine Calls.mono (lower_any a n cap xs 0 t w h hn hn0 ht) ?_
  rintro e w' ⟨ys, rfl, oy, wy, hv, hb⟩
  exact ⟨ys, rfl, oy, wy, by rw [hv, Int.pow_zero, Int.ediv_one], hb⟩

/-- The divisor, moved up until its highest bit is set. -/
theorem normal {ys : List Int} (hw : Wd ys) (ht : Trimmed ys) (e : Nat) (hl : ys.length = e + 2) : 1 ≤ ys[e + 1]?.getD 0 ∧ ys[e + 1]?.getD 0 ≤ 4294967295 ∧ 32 - Lib.bitLen (ys[e + 1]?.getD 0).toNat ≤ 31 ∧
    val ys * 2 ^ (32 - Lib.bitLen (ys[e + 1]?.getD 0).toNat) < 4294967296 ^ (e + 2) ∧ (4294967296 : Int) ^ (e + 2) ≤ 2 * (val ys * 2 ^ (32 - Lib.bitLen (ys[e + 1]?.getD 0).toNat)) := by
  have hs : sz ys = e + 2 := by rw [ht]; exact hl
  have tp := sz_top ys (by omega)
  rw [hs, show e + 2 - 1 = e + 1 by omega] at tp
  have b := hw.at (e + 1)
  obtain ⟨l1, l2, l3⟩ := bitLen_bounds (ys[e + 1]?.getD 0) (by omega) b.2
  have l4 := bitLen_le32 (ys[e + 1]?.getD 0) b.2
  obtain ⟨b1, b2, b3, b4, b5⟩ := bits_bounds hw (by omega)
  have hb : bitsOf ys = (e + 1) * 32 + Lib.bitLen (ys[e + 1]?.getD 0).toNat := by unfold bitsOf; rw [hs, if_neg (by omega), show e + 2 - 1 = e + 1 by omega]
  rw [hb] at b1 b2 b3
  generalize Lib.bitLen (ys[e + 1]?.getD 0).toNat = L at *
  have p := two_pos (32 - L)
  refine ⟨by omega, b.2, by omega, ?_, ?_⟩
  · have e1 : val ys * 2 ^ (32 - L) < 2 ^ ((e + 1) * 32 + L) * 2 ^ (32 - L) := Int.mul_lt_mul_of_pos_right b3 p
    rw [← Int.pow_add] at e1
    rw [pw_two, show 32 * (e + 2) = (e + 1) * 32 + L + (32 - L) by omega]
    exact e1
  · have e1 : (2 : Int) ^ ((e + 1) * 32 + L - 1) * 2 ^ (32 - L) ≤ val ys * 2 ^ (32 - L) := Int.mul_le_mul_of_nonneg_right b2 (Int.le_of_lt p)
    rw [← Int.pow_add] at e1
    have e2 : (2 : Int) ^ (32 * (e + 2)) = 2 * 2 ^ ((e + 1) * 32 + L - 1 + (32 - L)) := by
      rw [show 32 * (e + 2) = ((e + 1) * 32 + L - 1 + (32 - L)) + 1 by omega, Int.pow_succ, Int.mul_comm]
    rw [pw_two, e2]
    omega
theorem top_nought {ds : List Int} (hw : Wd ds) (m : Nat) (hl : ds.length = m + 1) (h : val ds < 4294967296 ^ m) : val (ds.take m) = val ds := by
  have e : val ds = valTo ds m + ds[m]?.getD 0 * 4294967296 ^ m := by unfold val; rw [hl, valTo_succ]
  have b := (valTo_bounds hw m).1
  have hz : ds[m]?.getD 0 = 0 := by
    have hb := hw.at m
    by_cases c : ds[m]?.getD 0 = 0
    · exact c
    · have : 1 * (4294967296 : Int) ^ m ≤ ds[m]?.getD 0 * 4294967296 ^ m := Int.mul_le_mul_of_nonneg_right (by omega) (Int.le_of_lt (pw_pos m))
      omega
  rw [e, hz]
  unfold val
  rw [List.length_take, hl, Nat.min_eq_left (by omega), valTo_congr (ds.take m) ds m (fun j hj => by rw [List.getElem?_take, if_pos hj])]
  omega
theorem top_one {ds : List Int} (hw : Wd ds) (e : Nat) (hl : ds.length = e + 2) (h : (4294967296 : Int) ^ (e + 2) ≤ 2 * val ds) : 1 ≤ ds[e + 1]?.getD 0 := by
  have hb := hw.at (e + 1)
  by_cases c : ds[e + 1]?.getD 0 = 0
  · have e1 : val ds = valTo ds (e + 1) + ds[e + 1]?.getD 0 * 4294967296 ^ (e + 1) := by unfold val; rw [hl, valTo_succ]
    rw [c] at e1
    have b := (valTo_bounds hw (e + 1)).2
    have := pw_succ (e + 1)
    have hp := pw_pos (e + 1)
    rw [show e + 2 = e + 1 + 1 from rfl] at h
    omega
  · omega
/-- The number, moved up by as many bits, is below the divisor moved up by all words that the quotient may have. -/
theorem long_start (A D : Int) (n m K : Nat) (X : Int) (t : Nat) (ht : t ≤ 31) (hn : m + K = n + 1) (hX : X < 4294967296 ^ n) (hX0 : 0 ≤ X) (hA : A = X * 2 ^ t) (hD : (4294967296 : Int) ^ m ≤ 2 * D) : A < D * 4294967296 ^ K := by
  have p := two_pos t
  have e1 : X * 2 ^ t < 4294967296 ^ n * 2 ^ t := Int.mul_lt_mul_of_pos_right hX p
  have e2 : (4294967296 : Int) ^ n * 2 ^ t ≤ 4294967296 ^ n * 2 ^ 31 := Int.mul_le_mul_of_nonneg_left (two_le ht) (Int.le_of_lt (pw_pos n))
  have e3 : (4294967296 : Int) ^ m * 4294967296 ^ K ≤ 2 * D * 4294967296 ^ K := Int.mul_le_mul_of_nonneg_right hD (Int.le_of_lt (pw_pos K))
  rw [← Int.pow_add, hn, pw_succ, Int.mul_assoc] at e3
  rw [hA]
  omega
/-- One word of the quotient: what is left, and what was taken. -/
theorem long_step (us vs qs : List Int) (m K k : Nat) (A D q : Int) (hk : k < K) (hlq : qs.length = K) (wv : Wd vs) (hDm : D < 4294967296 ^ m)
    (hA : A = valTo us (k + 1 + m) + segTo qs (k + 1) (K - (k + 1)) * D * 4294967296 ^ (k + 1))
    (hlow : ∀ j, j < k → vs[j]?.getD 0 = us[j]?.getD 0) (hseg : segTo vs k (m + 1) = segTo us k (m + 1) - q * D) (hlt : segTo vs k (m + 1) < D) :
    A = valTo vs (k + m) + segTo (qs.set k q) k (K - k) * D * 4294967296 ^ k ∧ segTo vs k m < D := by
  have hz : vs[k + m]?.getD 0 = 0 := by
    have hb := wv.at (k + m)
    have sb := segTo_nonneg wv k m
    by_cases c : vs[k + m]?.getD 0 = 0
    · exact c
    · have : 1 * (4294967296 : Int) ^ m ≤ vs[k + m]?.getD 0 * 4294967296 ^ m := Int.mul_le_mul_of_nonneg_right (by omega) (Int.le_of_lt (pw_pos m))
      rw [segTo_succ] at hlt
      omega
  have hs : segTo vs k (m + 1) = segTo vs k m := by rw [segTo_succ, hz]; omega
  refine ⟨?_, by rw [← hs]; exact hlt⟩
  obtain ⟨d, hd⟩ : ∃ d, K - k = d + 1 := ⟨K - k - 1, by omega⟩
  rw [show k + 1 + m = k + (m + 1) by omega, valTo_seg us k (m + 1), show K - (k + 1) = d by omega, pw_succ k] at hA
  rw [valTo_seg vs k m, ← hs, hseg, hd, segTo_cons (qs.set k q) d k, List.getElem?_set, if_pos rfl, if_pos (by omega), segTo_congr (qs.set k q) qs (k + 1) d (fun j hj => by rw [List.getElem?_set, if_neg (by omega)]),
    valTo_congr vs us k hlow, hA]
  show _ = valTo us k + (segTo us k (m + 1) - q * D) * 4294967296 ^ k + (q + _) * D * 4294967296 ^ k
  rw [Int.sub_mul, Int.add_mul, Int.add_mul, Int.mul_comm (4294967296 ^ k) 4294967296, ← Int.mul_assoc, Int.mul_assoc (segTo qs (k + 1) d) D 4294967296, Int.mul_comm D 4294967296, ← Int.mul_assoc]
  omega
end Go.Proofs.YtgknjdademncdaaGreat

/- nat.divideLong: quotient and rest by two words or more, in new memory. -/
namespace Go.Proofs.YtgknjdademncdaaGreat
open Go.RowKit
set_option linter.unusedVariables false

set_option maxHeartbeats 800000 in
set_option maxRecDepth 100000 in
theorem divideLong_any (v u : Value) (xs ys : List Int) (e : Nat) (w : World) (h : Sl w v xs) (g : Sl w u ys) (hn : xs.length ≤ 8192) (hx : Trimmed xs) (hy : Trimmed ys) (hl : ys.length = e + 2) (hge : ys.length ≤ xs.length) :
    Calls Tryz.prog 97 #[v, u] w (Divided w xs ys) := by
  obtain ⟨i0, hi, hz0, hz1, hz2⟩ := info_parts Tryz.infoW
  have wx := h.wd
  have wy := g.wd
  obtain ⟨a, cap, rfl, hr⟩ := h
  obtain ⟨b, cap', rfl, gr⟩ := g
  obtain ⟨n, hnn⟩ : ∃ n, xs.length = n := ⟨_, rfl⟩
  rw [hl] at gr hge ⊢
  rw [hnn] at hr hn hge ⊢
  obtain ⟨K, hK⟩ : ∃ K, e + 2 + K = n + 1 := ⟨n + 1 - (e + 2), by omega⟩
  obtain ⟨s1, s2, s3, s4, s5⟩ := normal wy hy e hl
  obtain ⟨t, ht⟩ : ∃ t, 32 - Lib.bitLen (ys[e + 1]?.getD 0).toNat = t := ⟨_, rfl⟩
  have HLD := hid (lead_any (ys[e + 1]?.getD 0) w s1 s2)
  rw [ht] at s3 s4 s5 HLD
  have HR1 := hid (raise_zero b (e + 2) cap' ys t w gr (by omega) (by omega) s3)
  rcases gr.2.2.1 with h0 | ⟨b2, o2, rfl, hb2, hc2⟩
  · omega
  have hc0 := hc2 (e + 1) (by omega)
  have HX := hid hr
  have HN := hid (And.intro hnn hl)
  have HS4 := hid s4
  have HS5 := hid s5
  generalize ys[e + 1]?.getD 0 = top at *
  clear hc2 gr hr hnn hl s4 s5 ht
  go_enter Tryz.func97, Tryz.ntmps97
  go_wp2_with fail
  refine Calls.mono HLD.out ?_
  rintro x w' ⟨rfl, rfl⟩
  go_wp2_with fail
  refine Calls.mono HR1.out ?_
  rintro x w1 ⟨dF, rfl, oF, wF, hvF, hb1⟩
  have hlF := oF.len
  have hvd : val (dF.take (e + 2)) = val ys * 2 ^ t := by rw [top_nought wF (e + 2) (by omega) (by rw [hvF]; exact HS4.out), hvF]
  have oD : OwnC w1 w.heap.size w.heap.size (e + 2) (e + 2 + 1) (dF.take (e + 2)) := OwnC.take (cap := e + 2 + 1) oF (e + 2) (by omega)
  have wD : Wd (dF.take (e + 2)) := wF.take _
  have lD : (dF.take (e + 2)).length = e + 2 := by rw [List.length_take]; omega
  generalize dF.take (e + 2) = ds at *
  have hg1 := oF.base
  have hs1 := hb1.size
  have hrD : Reads w1 w1.heap.size (some ⟨w.heap.size, 0, none⟩) (e + 2) (e + 2 + 1) ds := by
    obtain ⟨a, cap, hv, hr⟩ := Reads.own oD wD
    simp only [Value.slice.injEq] at hv
    obtain ⟨rfl, _, rfl⟩ := hv
    exact hr
  have HR2 := hid (raise_zero a n cap xs t w1 (HX.out.later hb1 hs1) (by omega) (by omega) s3)
  have HVD := hid hvd
  have HRD := hid hrD
  have HLDS := hid lD
  have HB1 := hid hb1
  clear oF wF hvF hlF hvd oD hrD lD hb1 HLD HR1 HX
  go_wp2_with fail
  refine Calls.mono HR2.out ?_
  rintro x w2 ⟨lf, rfl, oL, wL, hvL, hb2'⟩
  have hs2 := hb2'.size
  have hgL := oL.base
  have HVL := hid hvL
  have HOL := hid oL
  have HB2 := hid hb2'
  have hKi : ((n : Int) - ((e : Int) + 2) + 1) = (K : Int) := by omega
  clear hvL oL hb2' HR2
  go_wp2_with (at_make; refine wpList_make_full _ rfl _ _ 22 rfl w2.heap.size 44 i0 (.int .u32 0) 1 Tryz.underlying22 hi hz0 hz1 _ _ _ _ K rfl rfl (by omega) (by omega) (by rw [hz2]; omega) (by unfold maxLen; omega) (Nat.le_refl _) ?_)
  intro w3 hown hgrow
  have hbel3 : Below w2.heap.size w2 w3 := (Below.refl _ _).grown hgrow (Nat.le_refl _) (fun k hk => by simp at hk)
  have hs3 := hbel3.size
  have HOQ := hid (OwnW.made hown)
  have HB3 := hid hbel3
  have hgQ := (OwnW.made hown).base
  clear hown hgrow hbel3
  go_wp2_with fail
  go_loopw [9] (fun z wr => ∃ (k : Nat) (us qs : List Int), k ≤ K ∧ z = .int .i64 ((k : Int) - 1) ∧ Wd us ∧ Wd qs ∧ Hid (val lf = valTo us (k + (e + 2)) + segTo qs k (K - k) * val ds * 4294967296 ^ k) ∧ Hid (segTo us k (e + 2) < val ds) ∧
    OwnW wr w1.heap.size w1.heap.size (n + 1) us ∧ OwnW wr w2.heap.size w2.heap.size K qs ∧ Below w1.heap.size w1 wr) (fun z _ => (intOf z + 1).toNat)
  case atStart =>
    have hll := HOL.out.len
    have hKm : K + (e + 2) = n + 1 := by omega
    have hst := long_start (val lf) (val ds) n (e + 2) K (val xs) t s3 hK (by have := val_lt wx; rw [HN.out.1] at this; exact this) (val_nonneg wx) HVL.out (by rw [HVD.out]; exact HS5.out)
    refine ⟨K, lf, List.replicate K 0, Nat.le_refl _, rfl, wL, Wd.replicate _, ?_, ?_, owns_later HOL.out HB3.out, HOQ.out, HB2.out.trans (HB3.out.mono hs2)⟩
    · show _ = _
      rw [hKm, valTo_stable lf _ (by omega), Nat.sub_self]
      simp [segTo]
    · show _ < _
      have e1 : val lf = valTo lf K + segTo lf K (e + 2) * 4294967296 ^ K := by rw [← valTo_seg, hKm, valTo_stable lf _ (by omega)]
      have b := (valTo_bounds wL K).1
      exact Int.lt_of_mul_lt_mul_right (show segTo lf K (e + 2) * 4294967296 ^ K < val ds * 4294967296 ^ K by omega) (Int.le_of_lt (pw_pos K))
  case round =>
    obtain ⟨k, us, qs, hk, rfl, wu, wq, HV, HS, oU, oQ, hb⟩ := hrel
    have hbs := hb.size
    have hqb := oQ.base
    rcases k with _ | k
    · have oT : OwnC wr w1.heap.size w1.heap.size (e + 2) (n + 1) (us.take (e + 2)) := OwnC.take (cap := n + 1) oU (e + 2) (by omega)
      have hrT : Reads wr wr.heap.size (some ⟨w1.heap.size, 0, none⟩) (e + 2) (n + 1) (us.take (e + 2)) := by
        obtain ⟨a, cap, hv, hr⟩ := Reads.own oT (wu.take _)
        simp only [Value.slice.injEq] at hv
        obtain ⟨rfl, _, rfl⟩ := hv
        exact hr
      have hlu := oU.len
      have hlq := oQ.len
      have hvR : val (us.take (e + 2)) = valTo us (e + 2) := by
        unfold val
        rw [List.length_take, Nat.min_eq_left (by omega), valTo_congr (us.take (e + 2)) us _ (fun j hj => by rw [List.getElem?_take, if_pos hj])]
      have HF : Hid (val xs = val qs * val ys + val (us.take (e + 2)) / 2 ^ t ∧ val (us.take (e + 2)) / 2 ^ t < val ys) := by
        have e1 := HV.out
        have e2 := HS.out
        rw [segTo_zero] at e2
        rw [segTo_zero, Nat.zero_add, Nat.sub_zero, valTo_stable qs K (by omega), Int.pow_zero, Int.mul_one, HVL.out, HVD.out, ← hvR, ← Int.mul_assoc] at e1
        rw [← hvR, HVD.out] at e2
        have hp := two_pos t
        have e3 : val (us.take (e + 2)) = (val xs - val qs * val ys) * 2 ^ t := by rw [Int.sub_mul]; omega
        have e4 : val (us.take (e + 2)) / 2 ^ t = val xs - val qs * val ys := by rw [e3]; exact Int.mul_ediv_cancel _ (by omega)
        refine ⟨by rw [e4]; omega, Int.ediv_lt_of_lt_mul hp e2⟩
      have HLW := hid (lower_zero (some ⟨w1.heap.size, 0, none⟩) (e + 2) (n + 1) (us.take (e + 2)) t wr hrT (by omega) (by omega) s3)
      have HOQ' := hid oQ
      have HBW : Hid (Below w.heap.size w wr) := HB1.out.trans (hb.mono hs1)
      clear oT hrT hvR hlu HV HS oU oQ hb
      go_wp2_with fail
      refine Calls.mono HLW.out ?_
      rintro x w5 ⟨rs, rfl, oR, wR, hvR, hb5⟩
      have hs5 := hb5.size
      have oQ5 : OwnC w5 w2.heap.size w2.heap.size K K qs := owns_later HOQ'.out hb5
      have sq := sz_le qs
      rw [hlq] at sq
      have hlr := oR.len
      have sr := sz_le rs
      rw [hlr] at sr
      have hrQ : Reads w5.drew w5.heap.size (some ⟨w2.heap.size, 0, none⟩) K K qs := by
        obtain ⟨a, cap, hv, hr⟩ := Reads.own oQ5 wq
        simp only [Value.slice.injEq] at hv
        obtain ⟨rfl, _, rfl⟩ := hv
        exact hr
      have hrR : Reads w5.drew w5.heap.size (some ⟨wr.heap.size, 0, none⟩) (e + 2) (e + 2) rs := by
        obtain ⟨a, cap, hv, hr⟩ := Reads.own oR wR
        simp only [Value.slice.injEq] at hv
        obtain ⟨rfl, _, rfl⟩ := hv
        exact hr
      have HZ1 := hid (size_any _ _ _ qs _ w5.drew hrQ (by omega))
      have HZ2 := hid (size_any _ _ _ rs _ w5.drew hrR (by omega))
      have hbR := oR.base
      have HFIN : Hid (Divided w xs ys (.returned (.tuple #[.slice (some ⟨w2.heap.size, 0, none⟩) (sz qs) K, .slice (some ⟨wr.heap.size, 0, none⟩) (sz rs) (e + 2)])) w5.drew) := by
        have hbd : Below w5.heap.size w5 w5.drew := (Below.refl _ w5).drew
        refine ⟨_, _, trimmed qs, trimmed rs, wr.heap.size, rfl, ?_, ?_, ?_, ?_, by omega, by show wr.heap.size ≤ w5.heap.size; omega, wq.trimmed, wR.trimmed, Trimmed.trimmed _, Trimmed.trimmed _, ?_, ?_, HBW.out.trans ((hb5.mono (by omega)).trans (hbd.mono (by omega)))⟩
        · rw [length_trimmed]
          have o1 : w5.ownsRow w2.heap.size 44 1 (.slice (some ⟨w2.heap.size, 0, none⟩) (sz qs) K) (sz qs) ((trimmed qs).map (Value.int .u32)) := OwnC.take oQ5 (sz qs) sq
          exact owns_base (owns_later o1 hbd) (by omega)
        · rw [length_trimmed]
          have o1 : w5.ownsRow wr.heap.size 44 1 (.slice (some ⟨wr.heap.size, 0, none⟩) (sz rs) (e + 2)) (sz rs) ((trimmed rs).map (Value.int .u32)) := OwnC.take (cap := e + 2) oR (sz rs) sr
          exact owns_base (owns_later o1 hbd) (by omega)
        · intro g hg; simp [Value.ownBlock] at hg; omega
        · intro g hg; simp [Value.ownBlock] at hg; show _ ∧ g < w5.heap.size; omega
        · rw [val_trimmed, val_trimmed, hvR]; exact HF.out.1
        · rw [val_trimmed, hvR]; exact HF.out.2
      clear oR oQ5 hrQ hrR hvR hb5 hlr hlq HF HLW
      go_wp2_with fail
      go_region_with (first | (go_at_call 63; with_reducible refine Calls.mono HZ1.out ?_; rintro e w' ⟨rfl, rfl⟩) | (go_at_call 63; with_reducible refine Calls.mono HZ2.out ?_; rintro e w' ⟨rfl, rfl⟩))
      all_goals
        go_wp2
        go_ret2
        exact HFIN.out
    · have ek : (((k + 1 : Nat) : Int) - 1) = (k : Int) := by omega
      rw [ek]
      clear ek
      have bu := wu.at k
      have hseg : segTo us k (e + 3) = us[k]?.getD 0 + segTo us (k + 1) (e + 2) * 4294967296 := segTo_cons us (e + 2) k
      have hLD : segTo us k (e + 3) < 4294967296 * val ds := by rw [hseg]; have := HS.out; omega
      have HNW := hid (nextWord_any w1.heap.size w1.heap.size (n + 1) k e _ us (some ⟨w.heap.size, 0, none⟩) (e + 2 + 1) ds wr oU wu (by omega) rfl (by omega) (HRD.out.later hb (Nat.le_refl _)) (top_one wD e HLDS.out (by rw [HVD.out]; exact HS5.out)) hLD)
      have HOQ' := hid oQ
      have HB' := hid hb
      have hne : ¬ n + 1 = k := by omega
      clear hLD hseg bu oU oQ hb
      go_wp2_with fail
      rw [show k + (e + 2) + 1 - k = e + 2 + 1 by omega]
      refine Calls.mono HNW.out ?_
      rintro x w6 ⟨q, vs, rfl, q0, q1, oV, wv, kv, hsv, hlv, hg6⟩
      have oQ6 : OwnW w6 w2.heap.size w2.heap.size K qs := World.ownsRow.kept HOQ'.out hg6 (by right; intro e; simp [Value.ownBlock] at e; omega)
      have y1 := oQ6.cell k (by omega)
      have f1 := oQ6.free k
      have hlq := oQ6.len
      have hsv' : segTo vs k (e + 2 + 1) = segTo us k (e + 2 + 1) - q * val ds := hsv
      have hlv' : segTo vs k (e + 2 + 1) < val ds := hlv
      have hst := long_step us vs qs (e + 2) K k (val lf) (val ds) q (by omega) hlq wv (by rw [HVD.out]; exact HS4.out) HV.out (fun j hj => kv j (.inl hj)) hsv' hlv'
      have HST1 := hid hst.1
      have HST2 := hid hst.2
      have hos := OwnC.set (cap := K) oQ6 k q
      have HOQ2 : Hid (OwnW (w6.setCell ⟨w2.heap.size, k, none⟩ (.int .u32 q)) w2.heap.size w2.heap.size K (qs.set k q)) := hos.1
      have HOU : Hid (OwnW (w6.setCell ⟨w2.heap.size, k, none⟩ (.int .u32 q)) w1.heap.size w1.heap.size (n + 1) vs) := World.ownsRow.kept oV hos.2 (by right; intro e; simp [Value.ownBlock] at e; omega)
      have hb6 : Below w1.heap.size wr w6 := (Below.refl _ _).grown hg6 hbs (fun k hk => by simp at hk; omega)
      have HB6 : Hid (Below w1.heap.size w1 (w6.setCell ⟨w2.heap.size, k, none⟩ (.int .u32 q))) := (HB'.out.trans hb6).setCell (p := ⟨w2.heap.size, k, none⟩) hs2 (.int .u32 q)
      clear oQ6 hlq hsv hlv hsv' hlv' hst hos hb6 hg6 oV kv HNW HOQ' HB' HV HS
      go_wp2_with fail
      go_roundw
      case rel => exact ⟨k, vs, qs.set k q, by omega, by go_num, wv, wq.set _ ⟨q0, q1⟩, HST1, HST2, HOU.out, HOQ2.out, HB6.out⟩
      case measure => simp [intOf]
end Go.Proofs.YtgknjdademncdaaGreat

/- nat.divide, nat.DivMod: of every two numbers quotient and rest, in new memory; nat.Shift by any number. -/
namespace Go.Proofs.YtgknjdademncdaaGreat
open Go.RowKit
set_option linter.unusedVariables false

theorem len_le_of_val {xs ys : List Int} (wx : Wd xs) (wy : Wd ys) (ty : Trimmed ys) (h : val ys ≤ val xs) : ys.length ≤ xs.length := len_of_lt wy ty (by have := val_lt wx; omega)

set_option maxHeartbeats 800000 in
set_option maxRecDepth 100000 in
theorem divide_long (v u : Value) (xs ys : List Int) (e : Nat) (w : World) (h : Sl w v xs) (g : Sl w u ys) (hn : xs.length ≤ 8192) (hx : Trimmed xs) (hy : Trimmed ys) (hl : ys.length = e + 2) (hge : val ys ≤ val xs) :
    Calls Tryz.prog 86 #[v, u] w (Divided w xs ys) := by
  have hle := len_le_of_val h.wd g.wd hy hge
  have hci : 0 ≤ cmpI (val xs) (val ys) := by unfold cmpI; rw [if_neg (by omega)]; split <;> omega
  have CC := hid (compare_sl v u xs ys w h g (by omega) (by omega))
  obtain ⟨c, hc⟩ : ∃ c, cmpI (val xs) (val ys) = c := ⟨_, rfl⟩
  rw [hc] at CC hci
  have HD : Hid (∀ w1, Below w.heap.size w w1 → Calls Tryz.prog 97 #[v, u] w1 (Divided w1 xs ys)) := fun w1 hb => divideLong_any v u xs ys e w1 (h.later hb) (g.later hb) hn hx hy hl hle
  obtain ⟨b, cap', rfl, gr⟩ := g
  have h1 : ((ys.length : Int) == 1) = false := by simp; omega
  clear hc gr h hl hge
  go_enter Tryz.func86, Tryz.ntmps86
  go_wp2_with fail
  refine Calls.mono CC.out ?_
  rintro x w1 ⟨rfl, hb1⟩
  have HDD := hid (HD.out w1 hb1)
  have hs1 := hb1.size
  go_wp2_with fail
  refine Calls.mono HDD.out ?_
  rintro x w2 ⟨v1, u1, q, r, c, rfl, oq, orr, lq, lr, c1, c2, wq, wr, tq, tr, hv, hlt, hb2⟩
  have HF : Hid (Divided w xs ys (.returned (.tuple #[v1, u1])) w2) := ⟨v1, u1, q, r, c, rfl, owns_base oq hs1, owns_base orr hs1, fun g hg => by have := lq g hg; omega, lr, by omega, c2, wq, wr, tq, tr, hv, hlt, hb1.trans (hb2.mono hs1)⟩
  clear oq orr hv hlt hb2 HDD
  go_wp2_with fail
  go_ret2
  exact HF.out

theorem divide_any (v u : Value) (xs ys : List Int) (w : World) (h : Sl w v xs) (g : Sl w u ys) (hn : xs.length ≤ 8192) (hm : ys.length ≤ 8192) (hx : Trimmed xs) (hy : Trimmed ys) (h0 : 0 < ys.length) :
    Calls Tryz.prog 86 #[v, u] w (Divided w xs ys) := by
  by_cases hlt : val xs < val ys
  · exact divide_less v u xs ys w h g hn hm hlt
  · by_cases h1 : ys.length = 1
    · obtain ⟨y, rfl⟩ := List.length_eq_one_iff.1 h1
      have hy1 : 1 ≤ y := by
        have b := g.wd.head
        by_cases c : y = 0
        · rw [c] at hy; simp [Trimmed, sz, szTo] at hy
        · omega
      exact divide_word v u xs y w h g hn hx hy1 (by rw [val_one] at hlt; omega)
    · exact divide_long v u xs ys (ys.length - 2) w h g hn hx hy (by omega) (by omega)

set_option maxHeartbeats 800000 in
set_option maxRecDepth 100000 in
theorem divMod_any (v u : Value) (xs ys : List Int) (w : World) (h : Sl w v xs) (g : Sl w u ys) (lx : xs.length ≤ 8192) (ly : ys.length ≤ 8192) (tx : Trimmed xs) (ty : Trimmed ys) (h0 : 0 < ys.length) :
    Calls Tryz.prog 67 #[v, u] w fun e w' => ∃ v1 u1 q r, e = .returned (.tuple #[v1, u1, .int .i64 0]) ∧ Sl w' v1 q ∧ Sl w' u1 r ∧ Trimmed q ∧ Trimmed r ∧ val xs = val q * val ys + val r ∧ val r < val ys ∧ Below w.heap.size w w' := by
  have HB := hid (checkBoth_sl v u xs ys w h g (by omega) (by omega))
  rw [both_good (chk_good lx tx) (chk_good ly ty)] at HB
  have HD : Hid (Calls Tryz.prog 86 #[v, u] w (Divided w xs ys)) := divide_any v u xs ys w h g lx ly tx ty h0
  obtain ⟨b, cap', rfl, gr⟩ := g
  have hz : ((ys.length : Int) == 0) = false := by simp; exact fun e => by rw [e] at h0; simp at h0
  clear gr h ty
  go_enter Tryz.func67, Tryz.ntmps67
  go_wp2_with fail
  refine Calls.mono HB.out ?_
  rintro e w' ⟨rfl, rfl⟩
  go_wp2_with fail
  refine Calls.mono HD.out ?_
  rintro e w1 ⟨v1, u1, q, r, c, rfl, oq, orr, _, _, _, _, wq, wr, tq, tr, hv, hlt, hbel⟩
  have HQ := hid (Sl.own oq wq)
  have HR := hid (Sl.own orr wr)
  have HV := hid hv
  have HLT := hid hlt
  clear oq orr hv hlt
  go_wp2
  go_ret3
  exact ⟨v1, u1, q, r, rfl, HQ.out, HR.out, tq, tr, HV.out, HLT.out, hbel⟩

theorem bits_is {xs : List Int} (hw : Wd xs) (b : Nat) (h1 : 1 ≤ b) (h2 : (2 : Int) ^ (b - 1) ≤ val xs) (h3 : val xs < 2 ^ b) : bitsOf xs = b := by
  have hp : 0 < sz xs := by
    by_cases c : sz xs = 0
    · have := two_pos (b - 1)
      rw [val_sz, c] at h2
      have : valTo xs 0 = 0 := rfl
      omega
    · omega
  obtain ⟨b1, b2, b3, _, _⟩ := bits_bounds hw hp
  rcases Nat.lt_trichotomy (bitsOf xs) b with h | h | h
  · have := two_le (t := bitsOf xs) (u := b - 1) (by omega); omega
  · exact h
  · have := two_le (t := b) (u := bitsOf xs - 1) (by omega); omega
end Go.Proofs.YtgknjdademncdaaGreat

/- Whole numbers: whole.divide, DivMod: quotient and rest, the rest never below 0. -/
namespace Go.Proofs.YtgknjdademncdaaGreat
open Go.RowKit
set_option linter.unusedVariables false

set_option maxHeartbeats 800000 in
set_option maxRecDepth 100000 in
theorem divMod_own (v u : Value) (xs ys : List Int) (w : World) (h : Sl w v xs) (g : Sl w u ys) (lx : xs.length ≤ 8192) (ly : ys.length ≤ 8192) (tx : Trimmed xs) (ty : Trimmed ys) (h0 : 0 < ys.length) :
    Calls Tryz.prog 67 #[v, u] w fun e w' => ∃ v1 u1 q r, e = .returned (.tuple #[v1, u1, .int .i64 0]) ∧ w'.ownsRow w.heap.size 44 1 v1 q.length (q.map (Value.int .u32)) ∧ w'.ownsRow w.heap.size 44 1 u1 r.length (r.map (Value.int .u32)) ∧ Wd q ∧ Wd r ∧ Trimmed q ∧ Trimmed r ∧ val xs = val q * val ys + val r ∧ val r < val ys ∧ Below w.heap.size w w' := by
  have HB := hid (checkBoth_sl v u xs ys w h g (by omega) (by omega))
  rw [both_good (chk_good lx tx) (chk_good ly ty)] at HB
  have HD : Hid (Calls Tryz.prog 86 #[v, u] w (Divided w xs ys)) := divide_any v u xs ys w h g lx ly tx ty h0
  obtain ⟨b, cap', rfl, gr⟩ := g
  have hz : ((ys.length : Int) == 0) = false := by simp; exact fun e => by rw [e] at h0; simp at h0
  clear gr h ty
  go_enter Tryz.func67, Tryz.ntmps67
  go_wp2_with fail
  refine Calls.mono HB.out ?_
  rintro e w' ⟨rfl, rfl⟩
  go_wp2_with fail
  refine Calls.mono HD.out ?_
  rintro e w1 ⟨v1, u1, q, r, c, rfl, oq, orr, _, _, _, _, wq, wr, tq, tr, hv, hlt, hbel⟩
  have HQ := hid oq
  have HR := hid orr
  have HV := hid hv
  have HLT := hid hlt
  clear oq orr hv hlt
  go_wp2
  go_ret3
  exact ⟨v1, u1, q, r, rfl, HQ.out, HR.out, wq, wr, tq, tr, HV.out, HLT.out, hbel⟩

/-- A size and a rest, in new memory. -/
def WParts (w : World) (n : Bool) (xs ys : List Int) (x : Ending) (w' : World) : Prop := ∃ v1 u1 q r, x = .returned (.tuple #[v1, u1]) ∧ w'.ownsRow w.heap.size 44 1 v1 q.length (q.map (Value.int .u32)) ∧ w'.ownsRow w.heap.size 44 1 u1 r.length (r.map (Value.int .u32)) ∧ Wd q ∧ Wd r ∧ Trimmed q ∧ Trimmed r ∧ q.length ≤ 2048 ∧ r.length ≤ 2048 ∧
  val xs = val q * val ys + sg n (val r) ∧ val r < val ys ∧ Below w.heap.size w w'
theorem q_le {x q y r : Int} (h : x = q * y + r) (hy : 1 ≤ y) (hq : 0 ≤ q) (hr : 0 ≤ r) : q ≤ x - r := by
  have : q * 1 ≤ q * y := Int.mul_le_mul_of_nonneg_left hy hq
  omega
theorem val_pos' {zs : List Int} (hw : Wd zs) (ht : Trimmed zs) (h : 0 < zs.length) : 1 ≤ val zs := by
  have h1 := val_ge hw ht h
  have h2 := pw_pos (zs.length - 1)
  omega
theorem below2048 {zs : List Int} (hw : Wd zs) (hl : zs.length ≤ 2048) : val zs < wlim := by
  have h1 := val_lt hw
  have h2 : (4294967296 : Int) ^ zs.length ≤ 4294967296 ^ 2048 := pw_le hl
  unfold wlim
  exact Int.lt_of_lt_of_le h1 h2
theorem short2048 {zs : List Int} (hw : Wd zs) (ht : Trimmed zs) (h : val zs < wlim) : zs.length ≤ 2048 := by
  by_cases c : 2048 < zs.length
  · have := (len2048 hw ht).1 c; omega
  · omega

set_option maxHeartbeats 3200000 in
set_option maxRecDepth 100000 in
theorem wdivide_any (n : Bool) (v : Value) (xs : List Int) (m0 : Bool) (u : Value) (ys : List Int) (w : World) (h : Sl w v xs) (g : Sl w u ys) (lx : xs.length ≤ 2048) (ly : ys.length ≤ 2048) (tx : Trimmed xs) (ty : Trimmed ys) (h0 : 0 < ys.length) :
    Calls Tryz.prog 41 #[.agg #[.bool n, v], .agg #[.bool m0, u]] w (WParts w n xs ys) := by
  have wx := h.wd
  have wy := g.wd
  have HY1 := hid (val_pos' wy ty h0)
  have HXL := hid (below2048 wx lx)
  have HYL := hid (below2048 wy ly)
  obtain ⟨a, cap, rfl, hr⟩ := h
  obtain ⟨b, cap', rfl, gr⟩ := g
  have h : Sl w (.slice a xs.length cap) xs := ⟨a, cap, rfl, hr⟩
  have g : Sl w (.slice b ys.length cap') ys := ⟨b, cap', rfl, gr⟩
  clear hr gr
  have HB : Hid (Below w.heap.size w ((w.alloc (.cells #[.bool n, .slice a xs.length cap] 24)).alloc (.cells #[.bool m0, .slice b ys.length cap'] 24))) := bt (alloc_later _ _) (alloc_later _ _)
  have HN : Hid (Box ((w.alloc (.cells #[.bool n, .slice a xs.length cap] 24)).alloc (.cells #[.bool m0, .slice b ys.length cap'] 24)) w.heap.size 24 #[.bool n, .slice a xs.length cap]) := Box.later (Box.made w _ _) (alloc_later _ _) (by simp)
  have HM : Hid (Box ((w.alloc (.cells #[.bool n, .slice a xs.length cap] 24)).alloc (.cells #[.bool m0, .slice b ys.length cap'] 24)) (w.heap.size + 1) 24 #[.bool m0, .slice b ys.length cap']) := by
    have e := Box.made (w.alloc (.cells #[.bool n, .slice a xs.length cap] 24)) 24 #[.bool m0, .slice b ys.length cap']
    simp at e
    exact e
  have HXS : Hid (w.heap.size ≤ ((w.alloc (.cells #[.bool n, .slice a xs.length cap] 24)).alloc (.cells #[.bool m0, .slice b ys.length cap'] 24)).heap.size) := HB.out.size
  have HD := hid (divMod_own _ _ xs ys _ (h.later HB.out) (g.later HB.out) (by omega) (by omega) tx ty h0)
  have HG := hid (g.later HB.out)
  clear h g
  cases n with
  | false =>
    go_enter Tryz.func41, Tryz.ntmps41
    go_wp2_with fail
    refine Calls.mono HD.out ?_
    rintro e w1 ⟨v1, u1, q, r, rfl, oq, orr, wq, wr, tq, tr, hv, hlt, hb1⟩
    obtain ⟨p0, p1, _, _⟩ := res_box HN.out hb1
    obtain ⟨q0, q1, _, _⟩ := res_box HM.out hb1
    have hq := q_le hv HY1.out (val_nonneg wq) (val_nonneg wr)
    have hr0 := val_nonneg wr
    have HF : Hid (WParts w false xs ys (.returned (.tuple #[v1, u1])) w1) := ⟨v1, u1, q, r, rfl, owns_base oq HXS.out, owns_base orr HXS.out, wq, wr, tq, tr, short2048 wq tq (by have := HXL.out; omega), short2048 wr tr (by have := HYL.out; omega), hv, hlt, bt HB.out hb1⟩
    obtain ⟨a1, k1, hv1⟩ := own_slice' oq
    obtain ⟨a2, k2, hv2⟩ := own_slice' orr
    subst hv1
    subst hv2
    clear oq orr hv hlt hb1 hq hr0
    go_wp2_with fail
    go_ret2
    exact HF.out
  | true =>
    go_enter Tryz.func41, Tryz.ntmps41
    go_wp2_with fail
    refine Calls.mono HD.out ?_
    rintro e w1 ⟨v1, u1, q, r, rfl, oq, orr, wq, wr, tq, tr, hv, hlt, hb1⟩
    obtain ⟨p0, p1, _, _⟩ := res_box HN.out hb1
    obtain ⟨q0, q1, _, _⟩ := res_box HM.out hb1
    have hq := q_le hv HY1.out (val_nonneg wq) (val_nonneg wr)
    have hr0 := val_nonneg wr
    have hq0 := val_nonneg wq
    by_cases hr : r.length = 0
    · have hrn : r = [] := List.eq_nil_of_length_eq_zero hr
      subst hrn
      have HF : Hid (WParts w true xs ys (.returned (.tuple #[v1, u1])) w1) := ⟨v1, u1, q, [], rfl, owns_base oq HXS.out, owns_base orr HXS.out, wq, wr, tq, tr, short2048 wq tq (by have := HXL.out; omega), by simp, by rw [hv]; rfl, hlt, bt HB.out hb1⟩
      obtain ⟨a1, k1, hv1⟩ := own_slice' oq
      obtain ⟨a2, k2, hv2⟩ := own_slice' orr
      subst hv1
      subst hv2
      clear oq orr hv hlt hb1 hq hr0 hr
      go_wp2_with fail
      go_ret2
      exact HF.out
    · have hr1 := val_pos' wr tr (by omega)
      have hrb : ((r.length : Int) == 0) = false := by simp; exact fun e => hr (by rw [e]; rfl)
      have lq : q.length ≤ 2048 := short2048 wq tq (by have := HXL.out; omega)
      have lr : r.length ≤ 2048 := short2048 wr tr (by have := HYL.out; omega)
      have HQ := hid (Sl.own oq wq)
      have HR := hid (Sl.own orr wr)
      obtain ⟨a1, k1, hv1⟩ := own_slice' oq
      obtain ⟨a2, k2, hv2⟩ := own_slice' orr
      subst hv1
      subst hv2
      have HOF := hid (of_any 1 w1 (by omega) (by omega))
      have HB1 := hid hb1
      have HVL := hid (And.intro hv (And.intro hlt (And.intro hq (And.intro hr0 (And.intro hq0 hr1)))))
      clear oq orr hv hlt hb1 hq hr0 hq0 hr1 hr HD
      go_wp2_with fail
      refine Calls.mono HOF.out ?_
      rintro e w2 ⟨v2, rfl, o2, hb2⟩
      have s2 := Sl.own (owns_len o2) (of_wd 1 (by omega) (by omega)).trimmed
      have e2 : trimmed [1 % 4294967296, 1 / 4294967296] = [1] := by decide
      rw [e2] at s2
      have HAD := hid (add_sl _ _ q [1] w2 (HQ.out.later hb2) s2 (by omega) (by simp))
      rw [both_good (chk_good (by omega) tq) (chk_good (by simp) (show Trimmed [1] from rfl)), val_one] at HAD
      have HB2 := hid (bt HB1.out hb2)
      have HR2 := hid (HR.out.later hb2)
      clear o2 hb2 s2 e2 HOF HR HQ p0 p1 q0 q1
      go_wp2_with fail
      refine Calls.mono HAD.out ?_
      rintro e w3 ⟨v3, z3, c3, rfl, o3, t3, hb3⟩
      have hw3 : val q + 1 < wide := by have := HVL.out; have := HXL.out; have := wide2048; omega
      obtain ⟨rfl, hv3⟩ := t3.good rfl hw3
      have w3' := t3.wd
      have tt3 := t3.trim
      obtain ⟨a3, k3, hs3⟩ := own_slice' o3
      subst hs3
      obtain ⟨q0, q1, _, _⟩ := res_box HM.out (bt HB2.out hb3)
      have HSB := hid (sub_sl _ _ ys r w3 ((HG.out.later HB2.out).later hb3) (HR2.out.later hb3) (by omega) (by omega))
      rw [if_pos (both_good (chk_good (by omega) ty) (chk_good (by omega) tr)), if_neg (by have := HVL.out.2.1; omega)] at HSB
      have HB3 := hid (bt HB2.out hb3)
      have HO3 := hid o3
      have HV3 := hid hv3
      clear o3 t3 hb3 hv3 hw3 HAD HR2
      go_wp2_with fail
      refine Calls.mono HSB.out ?_
      rintro e w4 ⟨v4, z4, c4, rfl, o4, t4, hb4⟩
      have hw4 : val ys - val r < wide := by have := HVL.out; have := HYL.out; have := wide2048; omega
      obtain ⟨rfl, hv4⟩ := t4.good rfl hw4
      have w4' := t4.wd
      have tt4 := t4.trim
      obtain ⟨a4, k4, hs4⟩ := own_slice' o4
      subst hs4
      have HF : Hid (WParts w true xs ys (.returned (.tuple #[.slice a3 z3.length k3, .slice a4 z4.length k4])) w4) := by
        obtain ⟨g1, g2, g3, g4, g5, g6⟩ := HVL.out
        refine ⟨_, _, z3, z4, rfl, owns_base (owns_later HO3.out hb4) (by have := HXS.out; have := HB2.out.size; omega), owns_base o4 (by have := HXS.out; have := HB3.out.size; omega), w3', w4', tt3, tt4, short2048 w3' tt3 (by rw [HV3.out]; have := HXL.out; omega), short2048 w4' tt4 (by rw [hv4]; have := HYL.out; omega), ?_, by rw [hv4]; omega, bt HB.out (bt HB3.out hb4)⟩
        rw [HV3.out, hv4, Int.add_mul, Int.one_mul]
        show _ = _ + -(val ys - val r)
        omega
      clear o4 t4 hb4 hv4 hw4 HSB q0 q1
      go_wp2_with fail
      go_ret2
      exact HF.out

/-- Quotient and rest of whole numbers, in new memory. -/
def WDiv (w : World) (X Y : Int) (x : Ending) (w' : World) : Prop := ∃ nq vq zq vr zr, x = .returned (.tuple #[.agg #[.bool nq, vq], .agg #[.bool false, vr], .int .i64 0]) ∧ w'.ownsRow w.heap.size 44 1 vq zq.length (zq.map (Value.int .u32)) ∧ w'.ownsRow w.heap.size 44 1 vr zr.length (zr.map (Value.int .u32)) ∧ Wd zq ∧ Wd zr ∧ Trimmed zq ∧ Trimmed zr ∧ zq.length ≤ 2048 ∧ zr.length ≤ 2048 ∧ (nq = false ∨ 0 < zq.length) ∧
  X = wval nq zq * Y + val zr ∧ val zr < (Y.natAbs : Int) ∧ Below w.heap.size w w'
theorem div_sign {n m : Bool} {x y q r : Int} (h : x = q * y + sg n r) : sg n x = sg (n != m) q * sg m y + r := by
  cases n <;> cases m <;> simp [sg, Int.neg_mul, Int.mul_neg] at * <;> omega

set_option maxHeartbeats 3200000 in
set_option maxRecDepth 100000 in
theorem wdivMod_any (n : Bool) (v : Value) (xs : List Int) (m0 : Bool) (u : Value) (ys : List Int) (w : World) (h : Sl w v xs) (g : Sl w u ys) (hx : wchk n xs = 0) (hy : wchk m0 ys = 0) (h0 : 0 < ys.length) :
    Calls Tryz.prog 12 #[.agg #[.bool n, v], .agg #[.bool m0, u]] w (WDiv w (wval n xs) (wval m0 ys)) := by
  obtain ⟨lx, tx, _⟩ := wchk_ok hx
  obtain ⟨ly, ty, _⟩ := wchk_ok hy
  have wx := h.wd
  have wy := g.wd
  obtain ⟨a, cap, rfl, hr⟩ := h
  obtain ⟨b, cap', rfl, gr⟩ := g
  have h : Sl w (.slice a xs.length cap) xs := ⟨a, cap, rfl, hr⟩
  have g : Sl w (.slice b ys.length cap') ys := ⟨b, cap', rfl, gr⟩
  clear hr gr
  have HB : Hid (Below w.heap.size w ((((w.alloc (.cells #[.bool n, .slice a xs.length cap] 24)).alloc (.cells #[.bool m0, .slice b ys.length cap'] 24)).alloc (.cells #[.bool false, .slice none 0 0] 24)).alloc (.cells #[.bool false, .slice none 0 0] 24))) := bt (bt (bt (alloc_later _ _) (alloc_later _ _)) (alloc_later _ _)) (alloc_later _ _)
  have HN : Hid (Box ((((w.alloc (.cells #[.bool n, .slice a xs.length cap] 24)).alloc (.cells #[.bool m0, .slice b ys.length cap'] 24)).alloc (.cells #[.bool false, .slice none 0 0] 24)).alloc (.cells #[.bool false, .slice none 0 0] 24)) w.heap.size 24 #[.bool n, .slice a xs.length cap]) := Box.later (Box.made w _ _) (bt (bt (alloc_later _ _) (alloc_later _ _)) (alloc_later _ _)) (by simp)
  have HM : Hid (Box ((((w.alloc (.cells #[.bool n, .slice a xs.length cap] 24)).alloc (.cells #[.bool m0, .slice b ys.length cap'] 24)).alloc (.cells #[.bool false, .slice none 0 0] 24)).alloc (.cells #[.bool false, .slice none 0 0] 24)) (w.heap.size + 1) 24 #[.bool m0, .slice b ys.length cap']) := by
    have e := Box.later (Box.made (w.alloc (.cells #[.bool n, .slice a xs.length cap] 24)) 24 #[.bool m0, .slice b ys.length cap']) (bt (alloc_later ((w.alloc (.cells #[.bool n, .slice a xs.length cap] 24)).alloc (.cells #[.bool m0, .slice b ys.length cap'] 24)) (.cells #[.bool false, .slice none 0 0] 24)) (alloc_later _ (.cells #[.bool false, .slice none 0 0] 24))) (by simp)
    simp at e
    exact e
  have HZ1 : Hid (Box ((((w.alloc (.cells #[.bool n, .slice a xs.length cap] 24)).alloc (.cells #[.bool m0, .slice b ys.length cap'] 24)).alloc (.cells #[.bool false, .slice none 0 0] 24)).alloc (.cells #[.bool false, .slice none 0 0] 24)) (w.heap.size + 1 + 1) 24 #[.bool false, .slice none 0 0]) := by
    have e := Box.later (Box.made ((w.alloc (.cells #[.bool n, .slice a xs.length cap] 24)).alloc (.cells #[.bool m0, .slice b ys.length cap'] 24)) 24 #[.bool false, .slice none 0 0]) (alloc_later (((w.alloc (.cells #[.bool n, .slice a xs.length cap] 24)).alloc (.cells #[.bool m0, .slice b ys.length cap'] 24)).alloc (.cells #[.bool false, .slice none 0 0] 24)) (.cells #[.bool false, .slice none 0 0] 24)) (by simp)
    simp at e
    exact e
  have HZ2 : Hid (Box ((((w.alloc (.cells #[.bool n, .slice a xs.length cap] 24)).alloc (.cells #[.bool m0, .slice b ys.length cap'] 24)).alloc (.cells #[.bool false, .slice none 0 0] 24)).alloc (.cells #[.bool false, .slice none 0 0] 24)) (w.heap.size + 1 + 1 + 1) 24 #[.bool false, .slice none 0 0]) := by
    have e := Box.made (((w.alloc (.cells #[.bool n, .slice a xs.length cap] 24)).alloc (.cells #[.bool m0, .slice b ys.length cap'] 24)).alloc (.cells #[.bool false, .slice none 0 0] 24)) 24 #[.bool false, .slice none 0 0]
    simp at e
    exact e
  have HXS : Hid (w.heap.size + 1 + 1 + 1 < ((((w.alloc (.cells #[.bool n, .slice a xs.length cap] 24)).alloc (.cells #[.bool m0, .slice b ys.length cap'] 24)).alloc (.cells #[.bool false, .slice none 0 0] 24)).alloc (.cells #[.bool false, .slice none 0 0] 24)).heap.size) := HZ2.out.lt
  have HCB := hid (wcheckBoth_any n _ xs m0 _ ys _ (h.later HB.out) (g.later HB.out) (by omega) (by omega))
  rw [wboth_good hx hy] at HCB
  have HIN := hid (fun w1 (hb : Below _ ((((w.alloc (.cells #[.bool n, .slice a xs.length cap] 24)).alloc (.cells #[.bool m0, .slice b ys.length cap'] 24)).alloc (.cells #[.bool false, .slice none 0 0] 24)).alloc (.cells #[.bool false, .slice none 0 0] 24)) w1) => wdivide_any n _ xs m0 _ ys w1 ((h.later HB.out).later hb) ((g.later HB.out).later hb) lx ly tx ty h0)
  have hyb : ((ys.length : Int) == 0) = false := by simp; exact fun e => by rw [e] at h0; simp at h0
  clear h g hx hy
  go_enter Tryz.func12, Tryz.ntmps12
  go_wp2_with fail
  refine Calls.mono HCB.out ?_
  rintro e w1 ⟨rfl, hb1⟩
  obtain ⟨p0, p1, _, _⟩ := res_box HN.out hb1
  obtain ⟨q0, q1, _, _⟩ := res_box HM.out hb1
  have HIN1 := hid (HIN.out w1 hb1)
  have HB1 := hid hb1
  clear hb1 HIN
  go_wp2_with fail
  refine Calls.mono HIN1.out ?_
  rintro e w2 ⟨v1, u1, q, r, rfl, oq, orr, wq, wr, tq, tr, lq, lr, hv, hlt, hb2⟩
  obtain ⟨a1, k1, hs1⟩ := own_slice' oq
  obtain ⟨a2, k2, hs2⟩ := own_slice' orr
  subst hs1
  subst hs2
  have HB2 := hid (bt HB1.out hb2)
  obtain ⟨p0, p1, _, _⟩ := res_box HN.out HB2.out
  obtain ⟨q0, q1, _, _⟩ := res_box HM.out HB2.out
  have HU := hid (wunlike_any n a xs.length cap m0 b ys.length cap' w2)
  have HOQ := hid (owns_base oq HB1.out.size)
  have HOR := hid (owns_base orr HB1.out.size)
  have HVV := hid (And.intro hv hlt)
  obtain ⟨sn, hsn⟩ : ∃ sn, (n != m0) = sn := ⟨_, rfl⟩
  rw [hsn] at HU
  have HSN := hid hsn
  clear oq orr hv hlt hb2 hsn HIN1
  go_wp2_with fail
  refine Calls.mono HU.out ?_
  rintro e w3 ⟨rfl, hb3⟩
  have HF1 := hid (formed_any sn a1 q.length k1 w3)
  have HB3 := hid (bt HB2.out hb3)
  have HOQ3 := hid (owns_later HOQ.out hb3)
  have HOR3 := hid (owns_later HOR.out hb3)
  obtain ⟨nb, hnb⟩ : ∃ nb, (sn && decide (0 < q.length)) = nb := ⟨_, rfl⟩
  rw [hnb] at HF1
  have HNB := hid hnb
  clear hb3 hnb p0 p1 q0 q1 HU HOQ HOR
  go_wp2_with fail
  refine Calls.mono HF1.out ?_
  rintro e w4 ⟨rfl, hb4⟩
  have HF2 := hid (formed_any false a2 r.length k2 w4)
  have HB4 := hid (bt HB3.out hb4)
  have HOQ4 := hid (owns_later HOQ3.out hb4)
  have HOR4 := hid (owns_later HOR3.out hb4)
  rw [Bool.false_and] at HF2
  clear hb4 HF1 HOQ3 HOR3
  go_wp2_with fail
  refine Calls.mono HF2.out ?_
  rintro e w5 ⟨rfl, hb5⟩
  obtain ⟨r0, r1, f0, f1⟩ := res_box HZ1.out (bt HB4.out hb5)
  obtain ⟨s0, s1, g0, g1⟩ := res_box HZ2.out (bt HB4.out hb5)
  have HOQ5 := hid (owns_later HOQ4.out hb5)
  have HOR5 := hid (owns_later HOR4.out hb5)
  have HB5 := hid (bt HB.out (bt HB4.out hb5))
  clear hb5 HF2 HOQ4 HOR4
  go_wp2_with fail
  refine bodyPost_ret (v := .tuple #[.agg #[.bool nb, .slice a1 q.length k1], .agg #[.bool false, .slice a2 r.length k2], .int .i64 0]) (by simp [results, Tryz.results12, go_sem, r0, r1, s0, s1]) rfl ?_
  have hge : ∀ (z : Value) (zs : List Int), w5.ownsRow ((((w.alloc (.cells #[.bool n, .slice a xs.length cap] 24)).alloc (.cells #[.bool m0, .slice b ys.length cap'] 24)).alloc (.cells #[.bool false, .slice none 0 0] 24)).alloc (.cells #[.bool false, .slice none 0 0] 24)).heap.size 44 1 z zs.length (zs.map (Value.int .u32)) → ∀ g, z.ownBlock = some g → g ≠ w.heap.size + 1 + 1 ∧ g ≠ w.heap.size + 1 + 1 + 1 := fun z zs ho g hg => by
    have h1 := (World.ownsRow.lt ho g hg).1
    have h2 := HXS.out
    omega
  have hwn : wval nb q = sg sn (val q) := by
    rw [← HNB.out]
    unfold wval sg
    cases sn with
    | false => rfl
    | true =>
      by_cases c : 0 < q.length
      · simp [c]
      · have e0 : val q = 0 := trimmed_zero' (by omega)
        simp [c, e0]
  refine ⟨nb, _, q, _, r, rfl, owns_base (own_put2 (own_put2 HOQ5.out _ (fun g hg => (hge _ q HOQ5.out g hg).1) _ _) _ (fun g hg => (hge _ q HOQ5.out g hg).2) _ _) (by have := HXS.out; omega), owns_base (own_put2 (own_put2 HOR5.out _ (fun g hg => (hge _ r HOR5.out g hg).1) _ _) _ (fun g hg => (hge _ r HOR5.out g hg).2) _ _) (by have := HXS.out; omega), wq, wr, tq, tr, lq, lr, ?_, ?_, ?_, below_put2 (below_put2 HB5.out _ (by omega) _ _) _ (by omega) _ _⟩
  · rw [← HNB.out]
    by_cases c : 0 < q.length
    · exact .inr c
    · left; simp [c]
  · rw [hwn, ← HSN.out]
    exact div_sign HVV.out.1
  · have e1 := HVV.out.2
    have e2 := val_nonneg wy
    unfold wval
    cases m0 <;> simp <;> omega
end Go.Proofs.YtgknjdademncdaaGreat

/- Whole numbers: whole.Compare, Abs: of every two numbers whose words can be read. -/
namespace Go.Proofs.YtgknjdademncdaaGreat
open Go.RowKit
set_option linter.unusedVariables false

theorem cmp_neg (x y : Int) : cmpI (-x) (-y) = cmpI y x := by
  unfold cmpI
  by_cases h1 : y < x
  · rw [if_pos (by omega), if_pos h1]
  · rw [if_neg (by omega), if_neg h1]
    by_cases h2 : x < y
    · rw [if_pos (by omega), if_pos h2]
    · rw [if_neg (by omega), if_neg (by omega)]
theorem ret_cmp {a b c d : Int} (h : a = b) (g : c = d) : Ending.returned (.tuple #[.int .i64 a, .int .i64 c]) = .returned (.tuple #[.int .i64 b, .int .i64 d]) := by rw [h, g]

set_option maxHeartbeats 3200000 in
set_option maxRecDepth 100000 in
theorem wcompare_any (n : Bool) (v : Value) (xs : List Int) (m0 : Bool) (u : Value) (ys : List Int) (w : World) (h : Sl w v xs) (g : Sl w u ys) (hx : wchk n xs = 0) (hy : wchk m0 ys = 0) :
    Calls Tryz.prog 15 #[.agg #[.bool n, v], .agg #[.bool m0, u]] w fun e w' => e = .returned (.tuple #[.int .i64 (cmpI (wval n xs) (wval m0 ys)), .int .i64 0]) ∧ Below w.heap.size w w' := by
  obtain ⟨lx, tx, sx⟩ := wchk_ok hx
  obtain ⟨ly, ty, sy⟩ := wchk_ok hy
  have wx := h.wd
  have wy := g.wd
  have nx := val_nonneg wx
  have ny := val_nonneg wy
  obtain ⟨a, cap, rfl, hr⟩ := h
  obtain ⟨b, cap', rfl, gr⟩ := g
  have h : Sl w (.slice a xs.length cap) xs := ⟨a, cap, rfl, hr⟩
  have g : Sl w (.slice b ys.length cap') ys := ⟨b, cap', rfl, gr⟩
  clear hr gr
  have HB : Hid (Below w.heap.size w ((w.alloc (.cells #[.bool n, .slice a xs.length cap] 24)).alloc (.cells #[.bool m0, .slice b ys.length cap'] 24))) := bt (alloc_later _ _) (alloc_later _ _)
  have HN : Hid (Box ((w.alloc (.cells #[.bool n, .slice a xs.length cap] 24)).alloc (.cells #[.bool m0, .slice b ys.length cap'] 24)) w.heap.size 24 #[.bool n, .slice a xs.length cap]) := Box.later (Box.made w _ _) (alloc_later _ _) (by simp)
  have HM : Hid (Box ((w.alloc (.cells #[.bool n, .slice a xs.length cap] 24)).alloc (.cells #[.bool m0, .slice b ys.length cap'] 24)) (w.heap.size + 1) 24 #[.bool m0, .slice b ys.length cap']) := by
    have e := Box.made (w.alloc (.cells #[.bool n, .slice a xs.length cap] 24)) 24 #[.bool m0, .slice b ys.length cap']
    simp at e
    exact e
  have HCB := hid (wcheckBoth_any n _ xs m0 _ ys _ (h.later HB.out) (g.later HB.out) (by omega) (by omega))
  rw [wboth_good hx hy] at HCB
  have HSL := hid (And.intro (h.later HB.out) (g.later HB.out))
  clear h g hx hy
  cases n with
  | false =>
    cases m0 with
    | false =>
      have HR : Hid (cmpI (wval false xs) (wval false ys) = cmpI (val xs) (val ys)) := rfl
      go_enter Tryz.func15, Tryz.ntmps15
      go_wp2_with fail
      refine Calls.mono HCB.out ?_
      rintro e w1 ⟨rfl, hb1⟩
      obtain ⟨p0, p1, _, _⟩ := res_box HN.out hb1
      obtain ⟨q0, q1, _, _⟩ := res_box HM.out hb1
      have HCM := hid (compare_sl _ _ xs ys w1 (HSL.out.1.later hb1) (HSL.out.2.later hb1) (by omega) (by omega))
      have hbA := bt HB.out hb1
      clear hb1
      go_wp2_with fail
      refine Calls.mono HCM.out ?_
      rintro e w2 ⟨rfl, hb2⟩
      have hbB := bt hbA hb2
      clear hb2
      go_wp2_with fail
      go_ret2
      exact ⟨ret_cmp HR.out.symm rfl, hbB⟩
    | true =>
      have HR : Hid (cmpI (wval false xs) (wval true ys) = 1) := by show _ = _; have := val_pos' wy ty (sy.elim (fun e => by cases e) id); rw [cmpI_gt]; show -(val ys) < val xs; omega
      go_enter Tryz.func15, Tryz.ntmps15
      go_wp2_with fail
      refine Calls.mono HCB.out ?_
      rintro e w1 ⟨rfl, hb1⟩
      obtain ⟨p0, p1, _, _⟩ := res_box HN.out hb1
      obtain ⟨q0, q1, _, _⟩ := res_box HM.out hb1
      have hbA := bt HB.out hb1
      clear hb1
      go_wp2_with fail
      go_ret2
      exact ⟨ret_cmp HR.out.symm rfl, hbA⟩
  | true =>
    cases m0 with
    | false =>
      have HR : Hid (cmpI (wval true xs) (wval false ys) = (-1)) := by show _ = _; have := val_pos' wx tx (sx.elim (fun e => by cases e) id); rw [cmpI_lt]; show -(val xs) < val ys; omega
      go_enter Tryz.func15, Tryz.ntmps15
      go_wp2_with fail
      refine Calls.mono HCB.out ?_
      rintro e w1 ⟨rfl, hb1⟩
      obtain ⟨p0, p1, _, _⟩ := res_box HN.out hb1
      obtain ⟨q0, q1, _, _⟩ := res_box HM.out hb1
      have hbA := bt HB.out hb1
      clear hb1
      go_wp2_with fail
      go_ret2
      exact ⟨ret_cmp HR.out.symm rfl, hbA⟩
    | true =>
      have HR : Hid (cmpI (wval true xs) (wval true ys) = cmpI (val ys) (val xs)) := cmp_neg (val xs) (val ys)
      go_enter Tryz.func15, Tryz.ntmps15
      go_wp2_with fail
      refine Calls.mono HCB.out ?_
      rintro e w1 ⟨rfl, hb1⟩
      obtain ⟨p0, p1, _, _⟩ := res_box HN.out hb1
      obtain ⟨q0, q1, _, _⟩ := res_box HM.out hb1
      have HCM := hid (compare_sl _ _ ys xs w1 (HSL.out.2.later hb1) (HSL.out.1.later hb1) (by omega) (by omega))
      have hbA := bt HB.out hb1
      clear hb1
      go_wp2_with fail
      refine Calls.mono HCM.out ?_
      rintro e w2 ⟨rfl, hb2⟩
      have hbB := bt hbA hb2
      clear hb2
      go_wp2_with fail
      go_ret2
      exact ⟨ret_cmp HR.out.symm rfl, hbB⟩

set_option maxHeartbeats 3200000 in
set_option maxRecDepth 100000 in
theorem wabs_any (n : Bool) (v : Value) (xs : List Int) (w : World) (h : Sl w v xs) (hx : wchk n xs = 0) :
    Calls Tryz.prog 8 #[.agg #[.bool n, v]] w (WTold w 0 (val xs)) := by
  obtain ⟨lx, tx, _⟩ := wchk_ok hx
  have wx := h.wd
  obtain ⟨a, cap, rfl, hr⟩ := h
  have h : Sl w (.slice a xs.length cap) xs := ⟨a, cap, rfl, hr⟩
  clear hr
  have HB : Hid (Below w.heap.size w ((w.alloc (.cells #[.bool n, .slice a xs.length cap] 24)).alloc (.cells #[.bool false, .slice none 0 0] 24))) := bt (alloc_later _ _) (alloc_later _ _)
  have HN : Hid (Box ((w.alloc (.cells #[.bool n, .slice a xs.length cap] 24)).alloc (.cells #[.bool false, .slice none 0 0] 24)) w.heap.size 24 #[.bool n, .slice a xs.length cap]) := Box.later (Box.made w _ _) (alloc_later _ _) (by simp)
  have HXB : Hid (Box ((w.alloc (.cells #[.bool n, .slice a xs.length cap] 24)).alloc (.cells #[.bool false, .slice none 0 0] 24)) (w.heap.size + 1) 24 #[.bool false, .slice none 0 0]) := by
    have e := Box.made (w.alloc (.cells #[.bool n, .slice a xs.length cap] 24)) 24 #[.bool false, .slice none 0 0]
    simp at e
    exact e
  have HXR : Hid (w.heap.size ≤ w.heap.size + 1 ∧ w.heap.size + 1 < ((w.alloc (.cells #[.bool n, .slice a xs.length cap] 24)).alloc (.cells #[.bool false, .slice none 0 0] 24)).heap.size) := ⟨by omega, HXB.out.lt⟩
  have HC := hid (wcheck_any n _ xs _ (h.later HB.out) (by omega))
  rw [hx] at HC
  have HSL := hid (h.later HB.out)
  have HWT : Hid (WTells 0 (val xs) false xs 0) := ⟨wx, tx, .inl rfl, lx, fun h => absurd rfl h, fun _ h => by have h1 := below2048 wx lx; have h2 := val_nonneg wx; have h3 := wlim_pos; omega, fun _ _ _ => ⟨rfl, rfl⟩⟩
  clear h hx
  go_enter Tryz.func8, Tryz.ntmps8
  go_wp2_with fail
  refine Calls.mono HC.out ?_
  rintro e w1 ⟨rfl, hb1⟩
  obtain ⟨p0, p1, _, _⟩ := res_box HN.out hb1
  have HT := hid (trim_sl _ xs w1 (HSL.out.later hb1) (by omega))
  rw [show sz xs = xs.length from tx, trimmed_of tx] at HT
  have HB1 := hid hb1
  clear hb1 HC
  go_wp2_with fail
  refine Calls.mono HT.out ?_
  rintro e w2 ⟨v2, rfl, o2, hb2⟩
  obtain ⟨a2, c2, hv2⟩ := own_slice' o2
  subst hv2
  have HF := hid (formed_any false a2 xs.length c2 w2)
  rw [Bool.false_and] at HF
  have HO2 := hid (owns_base o2 HB1.out.size)
  have HB2 := hid (bt HB1.out hb2)
  clear o2 hb2 p0 p1 HT
  go_wp2_with fail
  refine Calls.mono HF.out ?_
  rintro e w3 ⟨rfl, hb3⟩
  obtain ⟨r0, r1, f0, f1⟩ := res_box HXB.out (bt HB2.out hb3)
  have HO3 := hid (owns_later HO2.out hb3)
  have HBC := hid (bt HB.out (bt HB2.out hb3))
  have HGE : Hid (∀ g, (Value.slice a2 xs.length c2).ownBlock = some g → g ≠ w.heap.size + 1) := fun g hg => by
    have h1 := (World.ownsRow.lt HO3.out g hg).1
    have h2 := HXR.out
    omega
  clear hb3 HF
  go_wp2_with fail
  refine bodyPost_ret (v := .tuple #[.agg #[.bool false, .slice a2 xs.length c2], .int .i64 0]) (by simp [results, Tryz.results8, go_sem, r0, r1]) rfl ?_
  exact ⟨false, _, xs, 0, rfl, owns_base (own_put2 HO3.out _ HGE.out _ _) (by have := HXR.out; omega), HWT.out, below_put2 HBC.out _ (by have := HXR.out; omega) _ _⟩
end Go.Proofs.YtgknjdademncdaaGreat

/- A struct variable that is written: what lies elsewhere stays. -/
namespace Go.Proofs.YtgknjdademncdaaGreat
open Go.RowKit
set_option linter.unusedVariables false

theorem Sl.put2 {U : World} {v : Value} {xs : List Int} {b t : Nat} {n : Bool} {a : Option Addr} {k c : Nat} (h : Sl U v xs) (hb : Box U b t #[.bool n, .slice a k c]) (v0 v1 : Value) : Sl ((U.setCell ⟨b, 0, none⟩ v0).setCell ⟨b, 1, none⟩ v1) v xs := by
  obtain ⟨a', cap, rfl, h1, h2, h3, h4⟩ := h
  refine ⟨a', cap, rfl, h1, h2, ?_, h4⟩
  rcases h3 with h0 | ⟨bb, o, rfl, hlt, hc⟩
  · exact .inl h0
  · by_cases hl : xs.length = 0
    · exact .inl hl
    · right
      have hne : bb ≠ b := fun e => by
        subst e
        have e1 := hc 0 (by omega)
        rw [Nat.add_zero, hb.cell o] at e1
        match o with
        | 0 => simp at e1
        | 1 => simp at e1
        | o + 2 => simp at e1
      refine ⟨bb, o, rfl, by simpa [World.setCell] using hlt, fun j hj => ?_⟩
      have e1 := World.cell?_of_block (w := U) (w' := U.setCell ⟨b, 0, none⟩ v0) (a := ⟨bb, o + j, none⟩) (Below.heap_setCell U ⟨b, 0, none⟩ v0 bb hne)
      have e2 := World.cell?_of_block (w := U.setCell ⟨b, 0, none⟩ v0) (w' := (U.setCell ⟨b, 0, none⟩ v0).setCell ⟨b, 1, none⟩ v1) (a := ⟨bb, o + j, none⟩) (Below.heap_setCell _ ⟨b, 1, none⟩ v1 bb hne)
      rw [e2, e1]
      exact hc j hj
theorem Box.put2 {U : World} {b t : Nat} {u0 u1 : Value} (h : Box U b t #[u0, u1]) (v0 v1 : Value) : Box ((U.setCell ⟨b, 0, none⟩ v0).setCell ⟨b, 1, none⟩ v1) b t #[v0, v1] := (h.set 0 v0).set 1 v1
theorem Box.far2 {U : World} {b t b' : Nat} {vs : Array Value} (h : Box U b t vs) (hne : b ≠ b') (v0 v1 : Value) : Box ((U.setCell ⟨b', 0, none⟩ v0).setCell ⟨b', 1, none⟩ v1) b t vs := (h.other ⟨b', 0, none⟩ v0 hne).other ⟨b', 1, none⟩ v1 hne
theorem own_ne_box {U : World} {base e n b t : Nat} {v : Value} {xs : List Value} {vs : Array Value} (h : U.ownsRow base e 1 v n xs) (hb : Box U b t vs) (hne : e ≠ t) : ∀ g, v.ownBlock = some g → g ≠ b := fun g hg => by
  rcases h.2 with ⟨rfl, _⟩ | ⟨g1, c1, u1, rfl, _, hg1, _⟩
  · simp [Value.ownBlock] at hg
  · simp [Value.ownBlock] at hg
    subst hg
    intro e1
    subst e1
    unfold Box at hb
    rw [hg1] at hb
    simp at hb
    exact hne hb.2
/-- A whole number in memory that may be, in new memory. -/
structure Pb (U : World) (base b : Nat) (n : Bool) (a : Option Addr) (c : Nat) (zs : List Int) : Prop where
  box : Box U b 24 #[.bool n, .slice a zs.length c]
  own : U.ownsRow base 44 1 (.slice a zs.length c) zs.length (zs.map (Value.int .u32))
  wd : Wd zs
  ok : wchk n zs = 0
/-- A whole number in memory that may be. -/
structure Ab (U : World) (b : Nat) (n : Bool) (a : Option Addr) (c : Nat) (xs : List Int) : Prop where
  box : Box U b 24 #[.bool n, .slice a xs.length c]
  sl : Sl U (.slice a xs.length c) xs
  ok : wchk n xs = 0
theorem Pb.later {U V : World} {base b : Nat} {n : Bool} {a : Option Addr} {c : Nat} {zs : List Int} (h : Pb U base b n a c zs) (hb : Below U.heap.size U V) : Pb V base b n a c zs := ⟨h.box.later hb h.box.lt, owns_later h.own hb, h.wd, h.ok⟩
theorem Ab.later {U V : World} {b : Nat} {n : Bool} {a : Option Addr} {c : Nat} {zs : List Int} (h : Ab U b n a c zs) (hb : Below U.heap.size U V) : Ab V b n a c zs := ⟨h.box.later hb h.box.lt, h.sl.later hb, h.ok⟩
theorem Pb.far {U : World} {base b : Nat} {n : Bool} {a : Option Addr} {c : Nat} {zs : List Int} (h : Pb U base b n a c zs) {b' : Nat} {n' : Bool} {a' : Option Addr} {k' c' : Nat} (hb : Box U b' 24 #[.bool n', .slice a' k' c']) (hne : b ≠ b') (v0 v1 : Value) : Pb ((U.setCell ⟨b', 0, none⟩ v0).setCell ⟨b', 1, none⟩ v1) base b n a c zs :=
  ⟨h.box.far2 hne v0 v1, own_put2 h.own b' (own_ne_box h.own hb (by decide)) v0 v1, h.wd, h.ok⟩
theorem Ab.far {U : World} {b : Nat} {n : Bool} {a : Option Addr} {c : Nat} {zs : List Int} (h : Ab U b n a c zs) {b' : Nat} {n' : Bool} {a' : Option Addr} {k' c' : Nat} (hb : Box U b' 24 #[.bool n', .slice a' k' c']) (hne : b ≠ b') (v0 v1 : Value) : Ab ((U.setCell ⟨b', 0, none⟩ v0).setCell ⟨b', 1, none⟩ v1) b n a c zs :=
  ⟨h.box.far2 hne v0 v1, h.sl.put2 hb v0 v1, h.ok⟩
theorem Pb.put {U : World} {base b : Nat} {n' : Bool} {a' : Option Addr} {k' c' : Nat} (hb : Box U b 24 #[.bool n', .slice a' k' c']) {n : Bool} {a : Option Addr} {c : Nat} {zs : List Int} (ho : U.ownsRow base 44 1 (.slice a zs.length c) zs.length (zs.map (Value.int .u32))) (hw : Wd zs) (hk : wchk n zs = 0) :
    Pb ((U.setCell ⟨b, 0, none⟩ (.bool n)).setCell ⟨b, 1, none⟩ (.slice a zs.length c)) base b n a c zs := ⟨hb.put2 _ _, own_put2 ho b (own_ne_box ho hb (by decide)) _ _, hw, hk⟩
theorem Ab.put {U : World} {b : Nat} {n' : Bool} {a' : Option Addr} {k' c' : Nat} (hb : Box U b 24 #[.bool n', .slice a' k' c']) {n : Bool} {a : Option Addr} {c : Nat} {zs : List Int} (hs : Sl U (.slice a zs.length c) zs) (hk : wchk n zs = 0) :
    Ab ((U.setCell ⟨b, 0, none⟩ (.bool n)).setCell ⟨b, 1, none⟩ (.slice a zs.length c)) b n a c zs := ⟨hb.put2 _ _, hs.put2 hb _ _, hk⟩
theorem Pb.c {U : World} {base b : Nat} {n : Bool} {a : Option Addr} {c : Nat} {zs : List Int} (h : Pb U base b n a c zs) : U.cell? ⟨b, 0, none⟩ = some (.bool n) ∧ U.cell? ⟨b, 1, none⟩ = some (.slice a zs.length c) ∧ U.frozen? ⟨b, 0, none⟩ = false ∧ U.frozen? ⟨b, 1, none⟩ = false := ⟨h.box.cell 0, h.box.cell 1, h.box.free 0, h.box.free 1⟩
theorem Ab.c {U : World} {b : Nat} {n : Bool} {a : Option Addr} {c : Nat} {zs : List Int} (h : Ab U b n a c zs) : U.cell? ⟨b, 0, none⟩ = some (.bool n) ∧ U.cell? ⟨b, 1, none⟩ = some (.slice a zs.length c) ∧ U.frozen? ⟨b, 0, none⟩ = false ∧ U.frozen? ⟨b, 1, none⟩ = false := ⟨h.box.cell 0, h.box.cell 1, h.box.free 0, h.box.free 1⟩
theorem Box.c2 {U : World} {b t : Nat} {u0 u1 : Value} (h : Box U b t #[u0, u1]) : U.cell? ⟨b, 0, none⟩ = some u0 ∧ U.cell? ⟨b, 1, none⟩ = some u1 ∧ U.frozen? ⟨b, 0, none⟩ = false ∧ U.frozen? ⟨b, 1, none⟩ = false := ⟨h.cell 0, h.cell 1, h.free 0, h.free 1⟩
theorem wchk_one {n : Bool} {zs : List Int} (l : zs.length ≤ 2048) (t : Trimmed zs) (s : n = false ∨ 0 < zs.length) : wchk n zs = 0 := wchk_good l t s
end Go.Proofs.YtgknjdademncdaaGreat

/- The laws of layer 2: lives (two of the chapter's examples hold); the document's own made, Of. -/
namespace Go.Proofs.YtgknjdademncdaaGreat
open Go.RowKit
set_option linter.unusedVariables false

theorem wlim_big : (18446744073709551616 : Int) ≤ wlim := by
  have : (4294967296 : Int) ^ 2 ≤ 4294967296 ^ 2048 := pw_le (by omega)
  unfold wlim
  have e : (4294967296 : Int) ^ 2 = 18446744073709551616 := by decide
  rw [e] at this
  exact this
theorem WTells.num {t : Int} {n : Bool} {zs : List Int} {code : Int} (h : WTells 0 t n zs code) (h0 : -18446744073709551616 < t) (h1 : t < 18446744073709551616) : code = 0 ∧ wval n zs = t := by
  have := wlim_big
  exact h.good rfl (by omega) (by omega)
theorem wval_pos {n : Bool} {zs : List Int} (hw : Wd zs) (h : 0 < wval n zs) : n = false ∧ val zs = wval n zs := by
  have := val_nonneg hw
  cases n with
  | false => exact ⟨rfl, rfl⟩
  | true => have e : wval true zs = -(val zs) := rfl; omega

set_option maxHeartbeats 3200000 in
set_option maxRecDepth 100000 in
theorem lives_any (w : World) : Calls Tryz.prog 4 #[] w fun e w' => e = .returned (.bool true) ∧ Below w.heap.size w w' := by
  have t1 : Trimmed [4294967295] := rfl
  have t4 : Trimmed [0, 1] := rfl
  have w1' : Wd [4294967295] := Wd.one (by omega)
  have w4' : Wd [0, 1] := Wd.cons (by omega) (Wd.one (by omega))
  have k1 := wchk_good (n := false) (xs := [4294967295]) (by simp) t1 (.inl rfl)
  have S0 := hid (Sl.lit' w _ [4294967295] #[.int .u32 4294967295] 1 rfl w1' (by unfold maxLen; simp) rfl rfl)
  have hb0 := alloc_later w (.cells #[.int .u32 4294967295] 44)
  have HO := hid (lawOf_any 1 (w.alloc (.cells #[.int .u32 4294967295] 44)) (by omega) (by omega))
  have HB0 := hid hb0
  clear hb0
  go_enter Tryz.func4, Tryz.ntmps4
  go_wp2_with fail
  refine Calls.mono HO.out ?_
  rintro e w1 ⟨n1, v1, z1, rfl, o1, wd1, tr1, l1, ng1, hv1, hb1⟩
  have k2 := wchk_good (n := n1) (xs := z1) (by omega) tr1 ng1
  have HA := hid (wadd_any false _ [4294967295] n1 _ z1 w1 (S0.out.later hb1) (Sl.own o1 wd1) (by simp) (by omega))
  rw [wboth_good k1 k2, hv1, show wval false [4294967295] + 1 = 4294967296 by simp [wval, val, valTo]] at HA
  have HB1 := hid (bt HB0.out hb1)
  obtain ⟨a1, c1, hs1⟩ := own_slice' o1
  subst hs1
  clear o1 hb1 hv1 HO S0
  go_wp2_with fail
  refine Calls.mono HA.out ?_
  rintro e w2 ⟨n2, v2, z2, cc, rfl, o2, wt, hb2⟩
  obtain ⟨rfl, hv2⟩ := wt.num (by omega) (by omega)
  obtain ⟨rfl, hv2'⟩ := wval_pos wt.wd (by rw [hv2]; omega)
  have hz2 : z2 = [0, 1] := trimmed_eq wt.wd w4' wt.trim t4 (by rw [hv2', hv2, val_two]; omega)
  subst hz2
  obtain ⟨a2, c2, hs2⟩ := own_slice' o2
  subst hs2
  have HS2 := hid (Sl.own o2 w4')
  have HB2 := hid (bt HB1.out hb2)
  clear o2 wt hb2 hv2 hv2' HA
  -- the second example
  have hbA := alloc_later w2 (.cells #[.bool false, .slice a2 [0, 1].length c2] 24)
  have HX2 := hid (Box.made w2 24 #[.bool false, .slice a2 [0, 1].length c2])
  have HO3 := hid (lawOf_any (-7) (w2.alloc (.cells #[.bool false, .slice a2 [0, 1].length c2] 24)) (by omega) (by omega))
  have HBA := hid hbA
  clear hbA
  go_wp2_with fail
  refine Calls.mono HO3.out ?_
  rintro e w3 ⟨n3, v3, z3, rfl, o3, wd3, tr3, l3, ng3, hv3, hb3⟩
  have k3 := wchk_good (n := n3) (xs := z3) (by omega) tr3 ng3
  have HO4 := hid (lawOf_any 2 w3 (by omega) (by omega))
  obtain ⟨a3, c3, hs3⟩ := own_slice' o3
  subst hs3
  have HS3 := hid (Sl.own o3 wd3)
  have HB3 := hid (bt HBA.out hb3)
  have HV3 := hid hv3
  have HW3 := hid hb3
  clear o3 hb3 hv3 HO3
  go_wp2_with fail
  refine Calls.mono HO4.out ?_
  rintro e w4 ⟨n4, v4, z4, rfl, o4, wd4, tr4, l4, ng4, hv4, hb4⟩
  have k4 := wchk_good (n := n4) (xs := z4) (by omega) tr4 ng4
  have hz4 : 0 < z4.length := by
    by_cases c : 0 < z4.length
    · exact c
    · have e0 := trimmed_zero' (us := z4) (by omega)
      exfalso
      revert hv4
      unfold wval
      rw [e0]
      cases n4 <;> simp
  have HD := hid (wdivMod_any n3 _ z3 n4 _ z4 w4 (HS3.out.later hb4) (Sl.own o4 wd4) k3 k4 hz4)
  rw [HV3.out, hv4] at HD
  obtain ⟨a4, c4, hs4⟩ := own_slice' o4
  subst hs4
  have HB4 := hid (bt HB3.out hb4)
  have HW4 := hid (bt HW3.out hb4)
  clear o4 hb4 hv4 HO4 HS3 HV3
  go_wp2_with fail
  refine Calls.mono HD.out ?_
  rintro e w5 ⟨nq, vq, zq, vr, zr, rfl, oq, orr, wq, wr, tq, tr, lq, lr, ngq, hX, hY, hb5⟩
  have r0 := val_nonneg wr
  have hr1 : val zr = 1 := by simp at hY; omega
  have hq4 : wval nq zq = -4 := by omega
  obtain ⟨aq, cq, hsq⟩ := own_slice' oq
  obtain ⟨ar, cr, hsr⟩ := own_slice' orr
  subst hsq
  subst hsr
  have hbC : Below w5.heap.size w5 (((w5.alloc (.cells #[.bool nq, .slice aq zq.length cq] 24)).alloc (.cells #[.bool false, .slice ar zr.length cr] 24)).alloc (.cells #[.int .u32 0, .int .u32 1] 44)) := bt (bt (alloc_later _ _) (alloc_later _ _)) (alloc_later _ _)
  have HSQ := hid ((Sl.own oq wq).later hbC)
  have HSR := hid ((Sl.own orr wr).later hbC)
  have HIQ : Hid (i64of nq zq = (-4, true)) := by
    have := i64of_yes (n := nq) (xs := zq) ⟨wchk_good (by omega) tq ngq, by omega, by omega⟩
    rw [hq4] at this
    exact this
  have HIR : Hid (i64of false zr = (1, true)) := by
    have e1 : wval false zr = 1 := hr1
    have := i64of_yes (n := false) (xs := zr) ⟨wchk_good (by omega) tr (.inl rfl), by omega, by omega⟩
    rw [e1] at this
    exact this
  obtain ⟨m0, m1, _, _⟩ := res_box HX2.out (bt (bt HW4.out hb5) hbC)
  have L6 := Sl.lit' ((w5.alloc (.cells #[.bool nq, .slice aq zq.length cq] 24)).alloc (.cells #[.bool false, .slice ar zr.length cr] 24)) (w5.heap.size + 1 + 1) [0, 1] #[.int .u32 0, .int .u32 1] 2 (by simp) w4' (by unfold maxLen; simp) rfl rfl
  have HSM := hid (sameWhole_any false _ [0, 1] false _ [0, 1] _ (HS2.out.later (bt (bt (bt HBA.out HW4.out) hb5) hbC)) L6 (by simp) (by simp))
  rw [show decide (false = false ∧ [0, 1] = ([0, 1] : List Int)) = true from decide_eq_true ⟨rfl, rfl⟩] at HSM
  have HXQ := hid (Box.later (Box.made w5 24 #[.bool nq, .slice aq zq.length cq]) (bt (alloc_later _ (.cells #[.bool false, .slice ar zr.length cr] 24)) (alloc_later _ (.cells #[.int .u32 0, .int .u32 1] 44))) (by simp))
  have HXR : Hid (Box (((w5.alloc (.cells #[.bool nq, .slice aq zq.length cq] 24)).alloc (.cells #[.bool false, .slice ar zr.length cr] 24)).alloc (.cells #[.int .u32 0, .int .u32 1] 44)) (w5.heap.size + 1) 24 #[.bool false, .slice ar zr.length cr]) := by
    have e := Box.later (Box.made (w5.alloc (.cells #[.bool nq, .slice aq zq.length cq] 24)) 24 #[.bool false, .slice ar zr.length cr]) (alloc_later _ (.cells #[.int .u32 0, .int .u32 1] 44)) (by simp)
    simp at e
    exact e
  have m0' : w5.cell? ⟨w2.heap.size, 0, none⟩ = some (.bool false) := (res_box HX2.out (bt HW4.out hb5)).1
  have m1' : w5.cell? ⟨w2.heap.size, 1, none⟩ = some (.slice a2 [0, 1].length c2) := (res_box HX2.out (bt HW4.out hb5)).2.1
  have hne5 : w2.heap.size < w5.heap.size := by have := HX2.out.lt; have := HW4.out.size; have := hb5.size; omega
  have HBE := hid (bt (bt (bt HB2.out HB4.out) hb5) hbC)
  clear oq orr wq wr tq tr hX hY hb5 r0 hr1 hq4 hbC L6 HD HB4 HW4
  go_wp2_with fail
  refine Calls.mono HSM.out ?_
  rintro e w6 ⟨rfl, hb6⟩
  obtain ⟨x0, x1, _, _⟩ := res_box HXQ.out hb6
  have HI1 := hid (lawIs_any nq _ zq (-4) w6 (HSQ.out.later hb6) (by omega))
  rw [decide_eq_true HIQ.out] at HI1
  have HB6 := hid hb6
  clear hb6 HSM
  go_wp2_with fail
  refine Calls.mono HI1.out ?_
  rintro e w7 ⟨rfl, hb7⟩
  obtain ⟨y0, y1, _, _⟩ := res_box HXR.out (bt HB6.out hb7)
  have HI2 := hid (lawIs_any false _ zr 1 w7 ((HSR.out.later HB6.out).later hb7) (by omega))
  rw [decide_eq_true HIR.out] at HI2
  have HB7 := hid (bt HB6.out hb7)
  clear hb7 HI1 x0 x1
  go_wp2_with fail
  refine Calls.mono HI2.out ?_
  rintro e w8 ⟨rfl, hb8⟩
  have hbF := bt HBE.out (bt HB7.out hb8)
  clear hb8 HI2
  go_wp2_with fail
  go_ret
  exact ⟨rfl, hbF⟩
end Go.Proofs.YtgknjdademncdaaGreat

/- Whole numbers: whole.power, Power: powers of every number, or the error. -/
namespace Go.Proofs.YtgknjdademncdaaGreat
open Go.RowKit
set_option linter.unusedVariables false

theorem natAbs_ge {x y : Int} (h : wlim ≤ x ∨ x ≤ -wlim) (hy : y ≠ 0) : wlim ≤ x * y ∨ x * y ≤ -wlim := by
  have hp := wlim_pos
  have h1 : wlim ≤ (x.natAbs : Int) := by omega
  have h2 : 1 ≤ (y.natAbs : Int) := by omega
  have h3 : (x.natAbs : Int) * 1 ≤ (x.natAbs : Int) * (y.natAbs : Int) := Int.mul_le_mul_of_nonneg_left h2 (by omega)
  have h4 : ((x * y).natAbs : Int) = (x.natAbs : Int) * (y.natAbs : Int) := by rw [Int.natAbs_mul, Int.natCast_mul]
  omega
theorem pow_ne {x : Int} (h : x ≠ 0) (k : Nat) : x ^ k ≠ 0 := by
  induction k with
  | zero => simp
  | succ k ih => rw [Int.pow_succ]; exact Int.mul_ne_zero ih h
theorem pow_half (a : Int) (m : Nat) : a ^ m = (if m % 2 = 1 then a else 1) * (a * a) ^ (m / 2) := by
  have e : (a * a) ^ (m / 2) = a ^ (2 * (m / 2)) := by rw [Int.pow_mul, Int.pow_succ, Int.pow_succ, Int.pow_zero, Int.one_mul]
  rw [e]
  by_cases h : m % 2 = 1
  · rw [if_pos h, Int.mul_comm, ← Int.pow_succ]
    congr 1
    omega
  · rw [if_neg h, Int.one_mul]
    congr 1
    omega
theorem WTells.ok0 {t : Int} {n : Bool} {zs : List Int} {c : Int} (h : WTells 0 t n zs c) (hc : c = 0) : wval n zs = t ∧ wchk n zs = 0 := by
  have hk := wchk_good h.len h.trim h.sign
  by_cases h1 : wlim ≤ t ∨ t ≤ -wlim
  · have := (h.long rfl h1).2.2; omega
  · exact ⟨(h.good rfl (by omega) (by omega)).2, hk⟩
theorem WTells.bad0 {t : Int} {n : Bool} {zs : List Int} {c : Int} (h : WTells 0 t n zs c) (hc : c ≠ 0) : c = 3 ∧ (wlim ≤ t ∨ t ≤ -wlim) := by
  by_cases h1 : wlim ≤ t ∨ t ≤ -wlim
  · exact ⟨(h.long rfl h1).2.2, h1⟩
  · have := (h.good rfl (by omega) (by omega)).1; omega
theorem WTells.tooLong {t : Int} (h : wlim ≤ t ∨ t ≤ -wlim) : WTells 0 t false [] 3 := ⟨Wd.nil, Trimmed.nil, .inl rfl, by simp, fun h' => absurd rfl h', fun _ _ => ⟨rfl, rfl, rfl⟩, fun _ h1 h2 => by rcases h with h | h <;> omega⟩
theorem WTells.is {t : Int} {n : Bool} {zs : List Int} (hw : Wd zs) (hk : wchk n zs = 0) (hv : wval n zs = t) : WTells 0 t n zs 0 := by
  obtain ⟨l, tt, s⟩ := wchk_ok hk
  have hb := below2048 hw l
  have h0 := val_nonneg hw
  refine ⟨hw, tt, s, l, fun h' => absurd rfl h', fun _ h1 => ?_, fun _ _ _ => ⟨rfl, hv⟩⟩
  exfalso
  rw [← hv] at h1
  cases n <;> simp [wval] at h1 <;> omega

/-- The error of a power. -/
def pwErr (n : Bool) (xs : List Int) (N : Int) : Int := if wchk n xs = 0 then (if N < 0 ∨ 4096 < N then 2 else 0) else wchk n xs

end Go.Proofs.YtgknjdademncdaaGreat

/- Whole numbers: whole.Sub; slackwaterlaw02.add, mul, same: of numbers that may be. -/
namespace Go.Proofs.YtgknjdademncdaaGreat
open Go.RowKit
set_option linter.unusedVariables false

theorem wval_neg (m : Bool) (ys : List Int) (h : m = false ∨ 0 < ys.length) : wval (!m && decide (0 < ys.length)) ys = -(wval m ys) := by
  by_cases c : 0 < ys.length
  · cases m <;> simp [wval, c]
  · have e0 : val ys = 0 := trimmed_zero' (by omega)
    cases m <;> simp [wval, c, e0]

set_option maxHeartbeats 3200000 in
set_option maxRecDepth 100000 in
theorem wsub_any (n : Bool) (v : Value) (xs : List Int) (m0 : Bool) (u : Value) (ys : List Int) (w : World) (h : Sl w v xs) (g : Sl w u ys) (hx : wchk n xs = 0) (hy : wchk m0 ys = 0) :
    Calls Tryz.prog 10 #[.agg #[.bool n, v], .agg #[.bool m0, u]] w (WTold w 0 (wval n xs - wval m0 ys)) := by
  obtain ⟨lx, tx, _⟩ := wchk_ok hx
  obtain ⟨ly, ty, sy⟩ := wchk_ok hy
  obtain ⟨a, cap, rfl, hr⟩ := h
  obtain ⟨b, cap', rfl, gr⟩ := g
  have h : Sl w (.slice a xs.length cap) xs := ⟨a, cap, rfl, hr⟩
  have g : Sl w (.slice b ys.length cap') ys := ⟨b, cap', rfl, gr⟩
  clear hr gr
  have HB : Hid (Below w.heap.size w (((w.alloc (.cells #[.bool n, .slice a xs.length cap] 24)).alloc (.cells #[.bool m0, .slice b ys.length cap'] 24)).alloc (.cells #[.bool false, .slice none 0 0] 24))) := bt (bt (alloc_later _ _) (alloc_later _ _)) (alloc_later _ _)
  have HXB : Hid (Box (((w.alloc (.cells #[.bool n, .slice a xs.length cap] 24)).alloc (.cells #[.bool m0, .slice b ys.length cap'] 24)).alloc (.cells #[.bool false, .slice none 0 0] 24)) (w.heap.size + 1 + 1) 24 #[.bool false, .slice none 0 0]) := by
    have e := Box.made ((w.alloc (.cells #[.bool n, .slice a xs.length cap] 24)).alloc (.cells #[.bool m0, .slice b ys.length cap'] 24)) 24 #[.bool false, .slice none 0 0]
    simp at e
    exact e
  have HXR : Hid (w.heap.size ≤ w.heap.size + 1 + 1 ∧ w.heap.size + 1 + 1 < (((w.alloc (.cells #[.bool n, .slice a xs.length cap] 24)).alloc (.cells #[.bool m0, .slice b ys.length cap'] 24)).alloc (.cells #[.bool false, .slice none 0 0] 24)).heap.size) := ⟨by omega, HXB.out.lt⟩
  have HN : Hid (Box (((w.alloc (.cells #[.bool n, .slice a xs.length cap] 24)).alloc (.cells #[.bool m0, .slice b ys.length cap'] 24)).alloc (.cells #[.bool false, .slice none 0 0] 24)) w.heap.size 24 #[.bool n, .slice a xs.length cap]) := Box.later (Box.made w _ _) (bt (alloc_later _ _) (alloc_later _ _)) (by simp)
  have HM : Hid (Box (((w.alloc (.cells #[.bool n, .slice a xs.length cap] 24)).alloc (.cells #[.bool m0, .slice b ys.length cap'] 24)).alloc (.cells #[.bool false, .slice none 0 0] 24)) (w.heap.size + 1) 24 #[.bool m0, .slice b ys.length cap']) := by
    have e := Box.later (Box.made (w.alloc (.cells #[.bool n, .slice a xs.length cap] 24)) 24 #[.bool m0, .slice b ys.length cap']) (alloc_later ((w.alloc (.cells #[.bool n, .slice a xs.length cap] 24)).alloc (.cells #[.bool m0, .slice b ys.length cap'] 24)) (.cells #[.bool false, .slice none 0 0] 24)) (by simp)
    simp at e
    exact e
  have HCB := hid (wcheckBoth_any n _ xs m0 _ ys _ (h.later HB.out) (g.later HB.out) (by omega) (by omega))
  rw [wboth_good hx hy] at HCB
  have HSL := hid (And.intro (h.later HB.out) (g.later HB.out))
  obtain ⟨nb, hnb⟩ : ∃ nb, (!m0 && decide (0 < ys.length)) = nb := ⟨_, rfl⟩
  have HT : Hid (wval n xs + wval nb ys = wval n xs - wval m0 ys) := by show _ = _; rw [← hnb, wval_neg m0 ys sy]; omega
  clear h g hx hy
  go_enter Tryz.func10, Tryz.ntmps10
  go_wp2_with fail
  refine Calls.mono HCB.out ?_
  rintro e w1 ⟨rfl, hb1⟩
  obtain ⟨p0, p1, _, _⟩ := res_box HN.out hb1
  obtain ⟨q0, q1, _, _⟩ := res_box HM.out hb1
  have HB1 := hid hb1
  have HF := hid (fun ww (hb : Below w1.heap.size w1 ww) => Calls.mono (formed_any (!m0) b ys.length cap' ww) (R' := fun e w' => e = .returned (.agg #[.bool nb, .slice b ys.length cap']) ∧ w'.cell? ⟨w.heap.size, 0, none⟩ = some (.bool n) ∧ w'.cell? ⟨w.heap.size, 1, none⟩ = some (.slice a xs.length cap) ∧ Below w1.heap.size w1 w') (fun e w' h => by
    have hbb := bt hb h.2
    obtain ⟨z0, z1, _, _⟩ := res_box HN.out (bt HB1.out hbb)
    exact ⟨by rw [h.1, hnb], z0, z1, hbb⟩))
  have HS := hid (fun ww (hb : Below w1.heap.size w1 ww) => Calls.mono (wsum_any n _ xs nb _ ys ww ((HSL.out.1.later HB1.out).later hb) ((HSL.out.2.later HB1.out).later hb) lx ly tx ty) (R' := fun e w' => ∃ m3 a3 us k3 cc, e = .returned (.tuple #[.agg #[.bool m3, .slice a3 us.length k3], .int .i64 cc]) ∧ Hid (w'.ownsRow w1.heap.size 44 1 (.slice a3 us.length k3) us.length (us.map (Value.int .u32))) ∧ Hid (WTells 0 (wval n xs - wval m0 ys) m3 us cc) ∧ w'.cell? ⟨w.heap.size + 1 + 1, 0, none⟩ = some (.bool false) ∧ w'.cell? ⟨w.heap.size + 1 + 1, 1, none⟩ = some (.slice none 0 0) ∧ w'.frozen? ⟨w.heap.size + 1 + 1, 0, none⟩ = false ∧ w'.frozen? ⟨w.heap.size + 1 + 1, 1, none⟩ = false ∧ Below w1.heap.size w1 w') (fun e w' h => by
    obtain ⟨m3, v3, us, cc, rfl, o3, wt, hb3⟩ := h
    obtain ⟨a3, k3, hv3⟩ := own_slice' o3
    subst hv3
    rw [HT.out] at wt
    have hbb := bt hb hb3
    obtain ⟨z0, z1, z2, z3⟩ := res_box HXB.out (bt HB1.out hbb)
    exact ⟨m3, a3, us, k3, cc, rfl, owns_base o3 hb.size, wt, z0, z1, z2, z3, hbb⟩))
  have HBA := hid (bt HB.out hb1)
  clear hb1 hnb
  go_wp2_with fail
  go_region_with (first
    | (go_at_call 36; refine Calls.mono (HF.out _ (Below.drew (Below.refl _ _))) ?_; rintro e w2 ⟨rfl, x0, x1, hb2⟩)
    | (go_at_call 39; refine Calls.mono (HS.out _ hb2) ?_; rintro e w3 ⟨m3, a3, us, k3, cc, rfl, HO3, HWT, r0, r1, f0, f1, hb3⟩))
  all_goals
    go_wp2_with fail
    refine bodyPost_ret (v := .tuple #[.agg #[.bool m3, .slice a3 us.length k3], .int .i64 cc]) (by simp [results, Tryz.results10, go_sem, r0, r1]) rfl ?_
    exact ⟨m3, _, us, cc, rfl, owns_base (own_put2 HO3.out _ (fun g hg => by have h1 := (World.ownsRow.lt HO3.out g hg).1; have h2 := HXR.out; have h3 := HB1.out.size; omega) _ _) (by have := HBA.out.size; omega), HWT.out, below_put2 (bt HBA.out hb3) _ (by have := HXR.out; omega) _ _⟩

/-- A whole number that may be, and true. -/
def WOk (w : World) (t : Int) (x : Ending) (w' : World) : Prop := ∃ n v zs, x = .returned (.tuple #[.agg #[.bool n, v], .bool true]) ∧ w'.ownsRow w.heap.size 44 1 v zs.length (zs.map (Value.int .u32)) ∧ Wd zs ∧ wchk n zs = 0 ∧ wval n zs = t ∧ Below w.heap.size w w'

theorem wsame' {n m : Bool} {xs ys : List Int} (wx : Wd xs) (wy : Wd ys) (tx : Trimmed xs) (ty : Trimmed ys) (nx : n = false ∨ 0 < xs.length) (ny : m = false ∨ 0 < ys.length) (h : wval n xs = wval m ys) : n = m ∧ xs = ys := by
  have x0 := val_nonneg wx
  have y0 := val_nonneg wy
  cases n <;> cases m
  · exact ⟨rfl, trimmed_eq wx wy tx ty h⟩
  · have e : val xs = -(val ys) := h
    have := val_pos' wy ty (ny.elim (fun e => by cases e) id)
    omega
  · have e : -(val xs) = val ys := h
    have := val_pos' wx tx (nx.elim (fun e => by cases e) id)
    omega
  · have e : -(val xs) = -(val ys) := h
    exact ⟨rfl, trimmed_eq wx wy tx ty (by omega)⟩

end Go.Proofs.YtgknjdademncdaaGreat

/- The document's own made and Of of layer 2. -/
namespace Go.Proofs.YtgknjdademncdaaGreat
open Go.RowKit
set_option linter.unusedVariables false

set_option maxHeartbeats 3200000 in
set_option maxRecDepth 100000 in
theorem made_any (n : Bool) (v : Value) (xs : List Int) (w : World) (h : Sl w v xs) (hn : xs.length ≤ 549755813888) :
    Calls Tryz.prog 50 #[.bool n, v] w fun e w' => ∃ v', e = .returned (.agg #[.bool (n && decide (0 < sz xs)), v']) ∧ w'.ownsRow w.heap.size 44 1 v' (sz xs) ((trimmed xs).map (Value.int .u32)) ∧ Below w.heap.size w w' := by
  obtain ⟨i0, hi, hz0, hz1, hz2⟩ := info_parts Tryz.infoW
  have HB := hid (alloc_later w (.cells #[.bool false, .slice none 0 0] 24))
  have HT := hid (refTrim_sl v xs _ (h.later HB.out) (by omega))
  have HWD := hid h.wd.trimmed
  have sx := sz_le xs
  obtain ⟨a, cap, rfl, hr⟩ := h
  clear hr
  generalize trimmed xs = zs at *
  generalize sz xs = k at *
  cases n with
  | false =>
    have HNB : Hid ((false && decide (0 < k)) = false) := rfl
    go_enter Tryz.func50, Tryz.ntmps50
    go_wp2_with fail
    refine Calls.mono HT.out ?_
    rintro e w1 ⟨v1, rfl, o1, hb1⟩
    have hs1 := hb1.size
    have HB1 := hid hb1
    clear hb1
    have hrd := Reads.own o1 HWD.out
    have hlo : (zs.map (Value.int .u32)).length = k := by have := o1.1; omega
    rcases o1.2 with ⟨h1, h2⟩ | ⟨g, cp, cur, h1, _⟩
    · subst h1
      subst h2
      have hz : zs = [] := List.eq_nil_of_length_eq_zero (by simpa using hlo)
      subst hz
      clear hrd o1
      have ho2 : w1.ownsRow w1.heap.size 44 1 (.slice none 0 0) 0 [] := World.ownsRow_nil _ _ _ _
      have hb2 := Below.refl w1.heap.size w1
      obtain ⟨r0, r1, f0, f1⟩ := res_box (Box.made w _ _) (bt HB1.out hb2)
      have HO2 := hid (owns_base ho2 HB1.out.size)
      have HBW := hid (bt HB.out (bt HB1.out hb2))
      clear ho2 hb2
      go_wp2_with (at_builtin; refine wpList_append_own_none rfl _ _ 22 rfl w1.heap.size 44 i0 1 Tryz.underlying22 hi _ 0 [] rfl (World.ownsRow_nil _ _ _ _) rfl ?_)
      refine bodyPost_ret (v := .agg #[.bool false, .slice none 0 0]) (by simp [results, Tryz.results50, go_sem, r0, r1]) rfl ?_
      refine ⟨_, by rw [HNB.out], ?_, below_put2 HBW.out _ (Nat.le_refl _) _ _⟩
      exact owns_base (own_put2 (by simpa using HO2.out) w.heap.size (fun g hg => by have := (World.ownsRow.lt HO2.out g hg).1; simp at this; omega) _ _) (by simp)
    · subst h1
      obtain ⟨aa, cc, hv, hrr⟩ := hrd
      simp only [Value.slice.injEq] at hv
      obtain ⟨rfl, _, rfl⟩ := hv
      have HN := hid (copy_news hrr)
      have HLn : Hid ((zs.map (Value.int .u32)).length = k * 1) := by show _ = _; omega
      clear o1 hrr
      go_wp2_with (at_builtin; refine wpList_append_own _ rfl _ _ 22 rfl w1.heap.size 44 i0 (.int .u32 0) 1 4 Tryz.underlying22 hi hz0 hz1 hz2 rfl (by decide) _ 0 [] rfl (World.ownsRow_nil _ _ _ _) ⟨g, 0, none⟩ k cp (zs.map (Value.int .u32)) rfl HLn.out HN.out (ints_oneCell _ _) (by unfold maxLen; omega) (by omega) (Nat.le_refl _) ?_)
      intro v2 w2 ho2x hg2 _
      have ho2 : w2.ownsRow w1.heap.size 44 1 v2 k (zs.map (Value.int .u32)) := by simpa using ho2x
      clear ho2x
      have hb2 : Below w1.heap.size w1 w2 := (Below.refl _ _).grown hg2 (Nat.le_refl _) (fun k hk => by simp [Value.ownBlock] at hk)
      obtain ⟨r0, r1, f0, f1⟩ := res_box (Box.made w _ _) (bt HB1.out hb2)
      have HO2 := hid (owns_base ho2 HB1.out.size)
      have HBW := hid (bt HB.out (bt HB1.out hb2))
      obtain ⟨a2, c2, hs2⟩ := own_slice' ho2
      subst hs2
      clear ho2 hb2 hg2
      go_wp2_with fail
      refine bodyPost_ret (v := .agg #[.bool false, .slice a2 k c2]) (by simp [results, Tryz.results50, go_sem, r0, r1]) rfl ?_
      refine ⟨_, by rw [HNB.out], ?_, below_put2 HBW.out _ (Nat.le_refl _) _ _⟩
      exact owns_base (own_put2 (by simpa using HO2.out) w.heap.size (fun g hg => by have := (World.ownsRow.lt HO2.out g hg).1; simp at this; omega) _ _) (by simp)
  | true =>
    by_cases hk : 0 < k
    · have hk' : (0 : Int) < (k : Int) := by omega
      have HNB : Hid ((true && decide (0 < k)) = true) := by show _ = _; simp [hk]
      go_enter Tryz.func50, Tryz.ntmps50
      go_wp2_with fail
      refine Calls.mono HT.out ?_
      rintro e w1 ⟨v1, rfl, o1, hb1⟩
      have hs1 := hb1.size
      have HB1 := hid hb1
      clear hb1
      have hrd := Reads.own o1 HWD.out
      have hlo : (zs.map (Value.int .u32)).length = k := by have := o1.1; omega
      rcases o1.2 with ⟨h1, h2⟩ | ⟨g, cp, cur, h1, _⟩
      · subst h1
        subst h2
        have hz : zs = [] := List.eq_nil_of_length_eq_zero (by simpa using hlo)
        subst hz
        clear hrd o1
        have ho2 : w1.ownsRow w1.heap.size 44 1 (.slice none 0 0) 0 [] := World.ownsRow_nil _ _ _ _
        have hb2 := Below.refl w1.heap.size w1
        obtain ⟨r0, r1, f0, f1⟩ := res_box (Box.made w _ _) (bt HB1.out hb2)
        have HO2 := hid (owns_base ho2 HB1.out.size)
        have HBW := hid (bt HB.out (bt HB1.out hb2))
        clear ho2 hb2
        go_wp2_with (at_builtin; refine wpList_append_own_none rfl _ _ 22 rfl w1.heap.size 44 i0 1 Tryz.underlying22 hi _ 0 [] rfl (World.ownsRow_nil _ _ _ _) rfl ?_)
        exact absurd hk (by omega)
      · subst h1
        obtain ⟨aa, cc, hv, hrr⟩ := hrd
        simp only [Value.slice.injEq] at hv
        obtain ⟨rfl, _, rfl⟩ := hv
        have HN := hid (copy_news hrr)
        have HLn : Hid ((zs.map (Value.int .u32)).length = k * 1) := by show _ = _; omega
        clear o1 hrr
        go_wp2_with (at_builtin; refine wpList_append_own _ rfl _ _ 22 rfl w1.heap.size 44 i0 (.int .u32 0) 1 4 Tryz.underlying22 hi hz0 hz1 hz2 rfl (by decide) _ 0 [] rfl (World.ownsRow_nil _ _ _ _) ⟨g, 0, none⟩ k cp (zs.map (Value.int .u32)) rfl HLn.out HN.out (ints_oneCell _ _) (by unfold maxLen; omega) (by omega) (Nat.le_refl _) ?_)
        intro v2 w2 ho2x hg2 _
        have ho2 : w2.ownsRow w1.heap.size 44 1 v2 k (zs.map (Value.int .u32)) := by simpa using ho2x
        clear ho2x
        have hb2 : Below w1.heap.size w1 w2 := (Below.refl _ _).grown hg2 (Nat.le_refl _) (fun k hk => by simp [Value.ownBlock] at hk)
        obtain ⟨r0, r1, f0, f1⟩ := res_box (Box.made w _ _) (bt HB1.out hb2)
        have HO2 := hid (owns_base ho2 HB1.out.size)
        have HBW := hid (bt HB.out (bt HB1.out hb2))
        obtain ⟨a2, c2, hs2⟩ := own_slice' ho2
        subst hs2
        clear ho2 hb2 hg2
        go_wp2_with fail
        refine bodyPost_ret (v := .agg #[.bool true, .slice a2 k c2]) (by simp [results, Tryz.results50, go_sem, r0, r1]) rfl ?_
        refine ⟨_, by rw [HNB.out], ?_, below_put2 HBW.out _ (Nat.le_refl _) _ _⟩
        exact owns_base (own_put2 (by simpa using HO2.out) w.heap.size (fun g hg => by have := (World.ownsRow.lt HO2.out g hg).1; simp at this; omega) _ _) (by simp)
    · have hk' : ¬ (0 : Int) < (k : Int) := by omega
      have HNB : Hid ((true && decide (0 < k)) = false) := by show _ = _; simp [hk]
      go_enter Tryz.func50, Tryz.ntmps50
      go_wp2_with fail
      refine Calls.mono HT.out ?_
      rintro e w1 ⟨v1, rfl, o1, hb1⟩
      have hs1 := hb1.size
      have HB1 := hid hb1
      clear hb1
      have hrd := Reads.own o1 HWD.out
      have hlo : (zs.map (Value.int .u32)).length = k := by have := o1.1; omega
      rcases o1.2 with ⟨h1, h2⟩ | ⟨g, cp, cur, h1, _⟩
      · subst h1
        subst h2
        have hz : zs = [] := List.eq_nil_of_length_eq_zero (by simpa using hlo)
        subst hz
        clear hrd o1
        have ho2 : w1.ownsRow w1.heap.size 44 1 (.slice none 0 0) 0 [] := World.ownsRow_nil _ _ _ _
        have hb2 := Below.refl w1.heap.size w1
        obtain ⟨r0, r1, f0, f1⟩ := res_box (Box.made w _ _) (bt HB1.out hb2)
        have HO2 := hid (owns_base ho2 HB1.out.size)
        have HBW := hid (bt HB.out (bt HB1.out hb2))
        clear ho2 hb2
        go_wp2_with (at_builtin; refine wpList_append_own_none rfl _ _ 22 rfl w1.heap.size 44 i0 1 Tryz.underlying22 hi _ 0 [] rfl (World.ownsRow_nil _ _ _ _) rfl ?_)
        refine bodyPost_ret (v := .agg #[.bool false, .slice none 0 0]) (by simp [results, Tryz.results50, go_sem, r0, r1]) rfl ?_
        refine ⟨_, by rw [HNB.out], ?_, below_put2 HBW.out _ (Nat.le_refl _) _ _⟩
        exact owns_base (own_put2 (by simpa using HO2.out) w.heap.size (fun g hg => by have := (World.ownsRow.lt HO2.out g hg).1; simp at this; omega) _ _) (by simp)
      · subst h1
        obtain ⟨aa, cc, hv, hrr⟩ := hrd
        simp only [Value.slice.injEq] at hv
        obtain ⟨rfl, _, rfl⟩ := hv
        have HN := hid (copy_news hrr)
        have HLn : Hid ((zs.map (Value.int .u32)).length = k * 1) := by show _ = _; omega
        clear o1 hrr
        go_wp2_with (at_builtin; refine wpList_append_own _ rfl _ _ 22 rfl w1.heap.size 44 i0 (.int .u32 0) 1 4 Tryz.underlying22 hi hz0 hz1 hz2 rfl (by decide) _ 0 [] rfl (World.ownsRow_nil _ _ _ _) ⟨g, 0, none⟩ k cp (zs.map (Value.int .u32)) rfl HLn.out HN.out (ints_oneCell _ _) (by unfold maxLen; omega) (by omega) (Nat.le_refl _) ?_)
        intro v2 w2 ho2x hg2 _
        have ho2 : w2.ownsRow w1.heap.size 44 1 v2 k (zs.map (Value.int .u32)) := by simpa using ho2x
        clear ho2x
        have hb2 : Below w1.heap.size w1 w2 := (Below.refl _ _).grown hg2 (Nat.le_refl _) (fun k hk => by simp [Value.ownBlock] at hk)
        obtain ⟨r0, r1, f0, f1⟩ := res_box (Box.made w _ _) (bt HB1.out hb2)
        have HO2 := hid (owns_base ho2 HB1.out.size)
        have HBW := hid (bt HB.out (bt HB1.out hb2))
        obtain ⟨a2, c2, hs2⟩ := own_slice' ho2
        subst hs2
        clear ho2 hb2 hg2
        go_wp2_with fail
        refine bodyPost_ret (v := .agg #[.bool false, .slice a2 k c2]) (by simp [results, Tryz.results50, go_sem, r0, r1]) rfl ?_
        refine ⟨_, by rw [HNB.out], ?_, below_put2 HBW.out _ (Nat.le_refl _) _ _⟩
        exact owns_base (own_put2 (by simpa using HO2.out) w.heap.size (fun g hg => by have := (World.ownsRow.lt HO2.out g hg).1; simp at this; omega) _ _) (by simp)

set_option maxHeartbeats 1600000 in
set_option maxRecDepth 100000 in
theorem refOf2_any (x : Int) (w : World) (h0 : -9223372036854775808 ≤ x) (h1 : x ≤ 9223372036854775807) :
    Calls Tryz.prog 57 #[.int .i64 x] w (WIs w x) := by
  obtain ⟨y, hy⟩ : ∃ y : Int, y = (x.natAbs : Int) := ⟨_, rfl⟩
  have y0 : 0 ≤ y ∧ y ≤ 18446744073709551615 := by omega
  have hw := of_wd y y0.1 y0.2
  have hb0 : Below w.heap.size w ((w.alloc (.cells #[.bool false, .slice none 0 0] 24)).alloc (.cells #[.int .u32 (y % 4294967296), .int .u32 (y / 4294967296)] 44)) := bt (alloc_later _ _) (alloc_later _ _)
  have HB := hid hb0
  have HXB := hid (Box.later (Box.made w 24 #[.bool false, .slice none 0 0]) (alloc_later _ (.cells #[.int .u32 (y % 4294967296), .int .u32 (y / 4294967296)] 44)) (by simp))
  have sl := Sl.lit' (w.alloc (.cells #[.bool false, .slice none 0 0] 24)) (w.heap.size + 1) [y % 4294967296, y / 4294967296] #[.int .u32 (y % 4294967296), .int .u32 (y / 4294967296)] 2 (by simp) hw (by unfold maxLen; simp) rfl rfl
  have HV := hid (of_val y y0.1 y0.2)
  have HT := hid (Trimmed.trimmed [y % 4294967296, y / 4294967296])
  have HWD := hid hw.trimmed
  have HLE : Hid (sz [y % 4294967296, y / 4294967296] ≤ 2) := sz_le _
  have HLN := hid (length_trimmed [y % 4294967296, y / 4294967296])
  have HMD := hid (fun n => made_any n _ _ _ sl (by simp))
  clear sl hb0
  have yd : 0 ≤ y / 4294967296 ∧ y / 4294967296 ≤ 4294967295 := by omega
  have HSZ : Hid (w.heap.size < ((w.alloc (.cells #[.bool false, .slice none 0 0] 24)).alloc (.cells #[.int .u32 (y % 4294967296), .int .u32 (y / 4294967296)] 44)).heap.size) := HXB.out.lt
  by_cases hx : x < 0
  · skip
    have hyx : y = -x := by omega
    have hc : IntKind.u64.wrap x = 18446744073709551616 + x := by rw [IntKind.wrap_u64]; omega
    have hc2 : IntKind.u64.wrap (-(18446744073709551616 + x)) = y := by rw [IntKind.wrap_u64]; omega
    have HYX := hid hyx
    have HM := hid (HMD.out true)
    have hm1 : IntKind.u32.wrap y = y % 4294967296 := IntKind.wrap_u32 y
    have hm2 : IntKind.u32.wrap (y / 4294967296) = y / 4294967296 := by rw [IntKind.wrap_u32]; omega
    clear hy hyx hw HMD
    go_enter Tryz.func57, Tryz.ntmps57
    go_wp2_with fail
    refine Calls.mono HM.out ?_
    rintro e w2 ⟨v2, rfl, o2, hb2⟩
    generalize trimmed [y % 4294967296, y / 4294967296] = zs at *
    generalize sz [y % 4294967296, y / 4294967296] = k at *
    obtain ⟨a1, c1, hv1⟩ := own_slice' o2
    subst hv1
    obtain ⟨r0, r1, f0, f1⟩ := res_box HXB.out hb2
    have HBW := hid (bt HB.out hb2)
    have HO2 := hid o2
    obtain ⟨nb, hnb⟩ : ∃ nb, (true && decide (0 < k)) = nb := ⟨_, rfl⟩
    rw [hnb]
    have HNB := hid hnb
    clear hb2 o2 hnb HM
    go_wp2_with fail
    refine bodyPost_ret (v := .agg #[.bool nb, .slice a1 k c1]) (by simp [results, Tryz.results57, go_sem, r0, r1]) rfl ?_
    refine ⟨nb, _, zs, rfl, ?_, HWD.out, HT.out, by rw [HLN.out]; exact HLE.out, ?_, ?_, below_put2 HBW.out _ (Nat.le_refl _) _ _⟩
    · rw [HLN.out]
      exact owns_base (own_put2 HO2.out w.heap.size (fun g hg => by have := (World.ownsRow.lt HO2.out g hg).1; have := HSZ.out; omega) _ _) (by have := HSZ.out; omega)
    · rw [← HNB.out, HLN.out]; by_cases c : 0 < k <;> simp [c]
    · have hkp : 0 < k := by
        by_cases c : 0 < k
        · exact c
        · have e0 : zs = [] := List.eq_nil_of_length_eq_zero (by rw [HLN.out]; omega)
          have := HV.out
          rw [e0, val_nil] at this
          have := HYX.out
          omega
      rw [← HNB.out, show (true && decide (0 < k)) = true by simp [hkp]]
      show -(val zs) = x
      rw [HV.out, HYX.out]; omega
  · skip
    have hyx : y = x := by omega
    have hc : IntKind.u64.wrap x = y := by rw [IntKind.wrap_u64]; omega
    have HYX := hid hyx
    have HM := hid (HMD.out false)
    have hm1 : IntKind.u32.wrap y = y % 4294967296 := IntKind.wrap_u32 y
    have hm2 : IntKind.u32.wrap (y / 4294967296) = y / 4294967296 := by rw [IntKind.wrap_u32]; omega
    clear hy hyx hw HMD
    go_enter Tryz.func57, Tryz.ntmps57
    go_wp2_with fail
    refine Calls.mono HM.out ?_
    rintro e w2 ⟨v2, rfl, o2, hb2⟩
    generalize trimmed [y % 4294967296, y / 4294967296] = zs at *
    generalize sz [y % 4294967296, y / 4294967296] = k at *
    obtain ⟨a1, c1, hv1⟩ := own_slice' o2
    subst hv1
    obtain ⟨r0, r1, f0, f1⟩ := res_box HXB.out hb2
    have HBW := hid (bt HB.out hb2)
    have HO2 := hid o2
    obtain ⟨nb, hnb⟩ : ∃ nb, (false && decide (0 < k)) = nb := ⟨_, rfl⟩
    rw [hnb]
    have HNB := hid hnb
    clear hb2 o2 hnb HM
    go_wp2_with fail
    refine bodyPost_ret (v := .agg #[.bool nb, .slice a1 k c1]) (by simp [results, Tryz.results57, go_sem, r0, r1]) rfl ?_
    refine ⟨nb, _, zs, rfl, ?_, HWD.out, HT.out, by rw [HLN.out]; exact HLE.out, ?_, ?_, below_put2 HBW.out _ (Nat.le_refl _) _ _⟩
    · rw [HLN.out]
      exact owns_base (own_put2 HO2.out w.heap.size (fun g hg => by have := (World.ownsRow.lt HO2.out g hg).1; have := HSZ.out; omega) _ _) (by have := HSZ.out; omega)
    · left; rw [← HNB.out]; rfl
    · rw [← HNB.out]
      show val zs = x
      rw [HV.out, HYX.out]
end Go.Proofs.YtgknjdademncdaaGreat

/- The document's own sum of natural numbers: slackwaterref01.Plus: of every two lists that can be read. -/
namespace Go.Proofs.YtgknjdademncdaaGreat
open Go.RowKit
set_option linter.unusedVariables false

/-- One number, trimmed, in new memory. -/
def Ref1 (w : World) (t : Int) (x : Ending) (w' : World) : Prop := ∃ v zs, x = .returned v ∧ w'.ownsRow w.heap.size 44 1 v zs.length (zs.map (Value.int .u32)) ∧ Wd zs ∧ Trimmed zs ∧ val zs = t ∧ Below w.heap.size w w'
theorem plus_end {us : List Int} (hw : Wd us) (n : Nat) (c V : Int) (hl : us.length = n) (h0 : 0 ≤ c) (h1 : V < 4294967296 ^ n) (h : valTo us n + c * 4294967296 ^ n = V) : val us = V := by
  have b := valTo_bounds hw n
  have hp := pw_pos n
  have hc : c = 0 := by
    by_cases z : c = 0
    · exact z
    · have e1 : 1 * 4294967296 ^ n ≤ c * 4294967296 ^ n := Int.mul_le_mul_of_nonneg_right (by omega) (by omega)
      omega
  rw [hc] at h
  rw [← valTo_stable us n (by omega)]
  omega

set_option maxHeartbeats 3200000 in
set_option maxRecDepth 100000 in
theorem refPlus_any (a : Option Addr) (n cap : Nat) (xs : List Int) (b : Option Addr) (m cap' : Nat) (ys : List Int) (w : World) (h : Reads w w.heap.size a n cap xs) (g : Reads w w.heap.size b m cap' ys) (hn : n ≤ 549755813888) (hm : m ≤ 549755813888) :
    Calls Tryz.prog 73 #[.slice a n cap, .slice b m cap'] w (Ref1 w (val xs + val ys)) := by
  obtain ⟨i0, hi, hz0, hz1, hz2⟩ := info_parts Tryz.infoW
  have HX := hid h
  have HY := hid g
  have WX := hid (And.intro h.2.1 g.2.1)
  have HLL := hid (And.intro h.1 g.1)
  have hn := (by omega : n ≤ 281474976710656)
  have hm := (by omega : m ≤ 281474976710656)
  have v1 := val_lt h.2.1
  have v2 := val_lt g.2.1
  rw [h.1] at v1
  rw [g.1] at v2
  by_cases hnm : n < m
  · have HLT : Hid (val xs + val ys < 4294967296 ^ (m + 1)) := by
      have p := pw_le (show n ≤ m by omega)
      have q := pw_succ m
      have r := pw_pos m
      show _ < _
      omega
    clear h g v1 v2
    go_enter Tryz.func73, Tryz.ntmps73
    go_wp2_with (at_make; refine wpList_make_full _ rfl _ _ 22 rfl w.heap.size 44 i0 (.int .u32 0) 1 Tryz.underlying22 hi hz0 hz1 _ _ _ _ (m + 1) rfl rfl (by omega) (by omega) (by rw [hz2]; omega) (by unfold maxLen; omega) (Nat.le_refl _) ?_)
    intro w1 hown hgrow
    have hbel : Below w.heap.size w w1 := (Below.refl _ _).grown hgrow (Nat.le_refl _) (fun k hk => by simp at hk)
    have HO := hid (OwnW.made hown)
    clear hown hgrow
    go_wp2_with fail
    go_loopw [7, 8] (fun c t wr => ∃ (k : Nat) (cc : Int) (us : List Int), k ≤ m + 1 ∧ t = .int .i64 k ∧ c = .int .u64 cc ∧ 0 ≤ cc ∧ cc ≤ 1 ∧ Wd us ∧ Hid (valTo us k + cc * 4294967296 ^ k = valTo xs k + valTo ys k) ∧ OwnW wr w.heap.size w.heap.size (m + 1) us ∧ Below w.heap.size w wr) (fun _ t _ => m + 1 - (intOf t).toNat)
    case atStart => exact ⟨0, 0, _, by omega, rfl, rfl, by omega, by omega, Wd.replicate _, show _ = _ by simp [valTo], HO.out, hbel⟩
    case round =>
      obtain ⟨k, cc, us, hk, rfl, rfl, c0, c1, hwu, HV, ho, hb⟩ := hrel
      by_cases hlt : k ≤ m
      · have hlt' : (k : Int) ≤ (m : Int) := by omega
        have y1 := ho.cell k (by omega)
        have f1 := ho.free k
        have bx := WX.out.1.at k
        have by' := WX.out.2.at k
        have hlu := ho.len
        have HW1 := hid (word_any _ _ _ xs _ (k : Int) wr (HX.out.later hb (Nat.le_refl _)) hn (by omega))
        have HW2 := hid (word_any _ _ _ ys _ (k : Int) wr (HY.out.later hb (Nat.le_refl _)) hm (by omega))
        rw [Int.toNat_natCast] at HW1 HW2
        obtain ⟨T, hT⟩ : ∃ T, xs[k]?.getD 0 + ys[k]?.getD 0 + cc = T := ⟨_, rfl⟩
        have HV' := hid (sum_step xs ys us k cc T (by omega) (by omega) HV.out)
        have HO' := hid (ho.set k (T % 4294967296))
        have HB' := hid (hb.setCell (p := ⟨w.heap.size, k, none⟩) (Nat.le_refl _) (.int .u32 (T % 4294967296)))
        have T0 : 0 ≤ T ∧ T ≤ 8589934591 := by omega
        clear hlu ho hb HV
        go_wp2_with fail
        refine Calls.mono HW1.out ?_
        rintro e w' ⟨rfl, rfl⟩
        go_wp2_with fail
        refine Calls.mono HW2.out ?_
        rintro e w' ⟨rfl, rfl⟩
        go_wp2_with fail
        go_roundw
        case rel => exact ⟨k + 1, T / 4294967296, us.set k (T % 4294967296), by omega, by go_num, by go_num, by omega, by omega, hwu.set _ (by omega), HV', HO'.out, HB'.out⟩
        case measure => simp [intOf]; omega
      · obtain rfl : k = m + 1 := by omega
        have hlu := ho.len
        have hsum : valTo xs (m + 1) + valTo ys (m + 1) = val xs + val ys := by rw [valTo_stable xs _ (by have := HLL.out; omega), valTo_stable ys _ (by have := HLL.out; omega)]
        have HF : Hid (val us = val xs + val ys) := plus_end hwu (m + 1) cc _ hlu c0 HLT.out (by rw [← hsum]; exact HV.out)
        have HR := hid (refTrim_sl (.slice (some ⟨w.heap.size, 0, none⟩) us.length us.length) us wr (Sl.own (owns_len (show wr.ownsRow w.heap.size 44 1 (.slice (some ⟨w.heap.size, 0, none⟩) us.length us.length) us.length (us.map (Value.int .u32)) by rw [hlu]; exact ho)) hwu) (by omega))
        rw [hlu] at HR
        have hle : ¬ (((m + 1 : Nat) : Int) ≤ (m : Int)) := by omega
        clear hsum ho HV
        go_wp2_with fail
        refine Calls.mono HR.out ?_
        rintro e w3 ⟨v3, rfl, o3, hb3⟩
        have HO3 := hid (owns_base (owns_len o3) hb.size)
        have hbF := bt hb hb3
        clear o3 hb3
        go_wp2_with fail
        go_ret
        exact ⟨v3, _, rfl, HO3.out, hwu.trimmed, Trimmed.trimmed _, by rw [val_trimmed]; exact HF.out, hbF⟩
  · have HLT : Hid (val xs + val ys < 4294967296 ^ (n + 1)) := by
      have p := pw_le (show m ≤ n by omega)
      have q := pw_succ n
      have r := pw_pos n
      show _ < _
      omega
    clear h g v1 v2
    go_enter Tryz.func73, Tryz.ntmps73
    go_wp2_with (at_make; refine wpList_make_full _ rfl _ _ 22 rfl w.heap.size 44 i0 (.int .u32 0) 1 Tryz.underlying22 hi hz0 hz1 _ _ _ _ (n + 1) rfl rfl (by omega) (by omega) (by rw [hz2]; omega) (by unfold maxLen; omega) (Nat.le_refl _) ?_)
    intro w1 hown hgrow
    have hbel : Below w.heap.size w w1 := (Below.refl _ _).grown hgrow (Nat.le_refl _) (fun k hk => by simp at hk)
    have HO := hid (OwnW.made hown)
    clear hown hgrow
    go_wp2_with fail
    go_loopw [7, 8] (fun c t wr => ∃ (k : Nat) (cc : Int) (us : List Int), k ≤ n + 1 ∧ t = .int .i64 k ∧ c = .int .u64 cc ∧ 0 ≤ cc ∧ cc ≤ 1 ∧ Wd us ∧ Hid (valTo us k + cc * 4294967296 ^ k = valTo xs k + valTo ys k) ∧ OwnW wr w.heap.size w.heap.size (n + 1) us ∧ Below w.heap.size w wr) (fun _ t _ => n + 1 - (intOf t).toNat)
    case atStart => exact ⟨0, 0, _, by omega, rfl, rfl, by omega, by omega, Wd.replicate _, show _ = _ by simp [valTo], HO.out, hbel⟩
    case round =>
      obtain ⟨k, cc, us, hk, rfl, rfl, c0, c1, hwu, HV, ho, hb⟩ := hrel
      by_cases hlt : k ≤ n
      · have hlt' : (k : Int) ≤ (n : Int) := by omega
        have y1 := ho.cell k (by omega)
        have f1 := ho.free k
        have bx := WX.out.1.at k
        have by' := WX.out.2.at k
        have hlu := ho.len
        have HW1 := hid (word_any _ _ _ xs _ (k : Int) wr (HX.out.later hb (Nat.le_refl _)) hn (by omega))
        have HW2 := hid (word_any _ _ _ ys _ (k : Int) wr (HY.out.later hb (Nat.le_refl _)) hm (by omega))
        rw [Int.toNat_natCast] at HW1 HW2
        obtain ⟨T, hT⟩ : ∃ T, xs[k]?.getD 0 + ys[k]?.getD 0 + cc = T := ⟨_, rfl⟩
        have HV' := hid (sum_step xs ys us k cc T (by omega) (by omega) HV.out)
        have HO' := hid (ho.set k (T % 4294967296))
        have HB' := hid (hb.setCell (p := ⟨w.heap.size, k, none⟩) (Nat.le_refl _) (.int .u32 (T % 4294967296)))
        have T0 : 0 ≤ T ∧ T ≤ 8589934591 := by omega
        clear hlu ho hb HV
        go_wp2_with fail
        refine Calls.mono HW1.out ?_
        rintro e w' ⟨rfl, rfl⟩
        go_wp2_with fail
        refine Calls.mono HW2.out ?_
        rintro e w' ⟨rfl, rfl⟩
        go_wp2_with fail
        go_roundw
        case rel => exact ⟨k + 1, T / 4294967296, us.set k (T % 4294967296), by omega, by go_num, by go_num, by omega, by omega, hwu.set _ (by omega), HV', HO'.out, HB'.out⟩
        case measure => simp [intOf]; omega
      · obtain rfl : k = n + 1 := by omega
        have hlu := ho.len
        have hsum : valTo xs (n + 1) + valTo ys (n + 1) = val xs + val ys := by rw [valTo_stable xs _ (by have := HLL.out; omega), valTo_stable ys _ (by have := HLL.out; omega)]
        have HF : Hid (val us = val xs + val ys) := plus_end hwu (n + 1) cc _ hlu c0 HLT.out (by rw [← hsum]; exact HV.out)
        have HR := hid (refTrim_sl (.slice (some ⟨w.heap.size, 0, none⟩) us.length us.length) us wr (Sl.own (owns_len (show wr.ownsRow w.heap.size 44 1 (.slice (some ⟨w.heap.size, 0, none⟩) us.length us.length) us.length (us.map (Value.int .u32)) by rw [hlu]; exact ho)) hwu) (by omega))
        rw [hlu] at HR
        have hle : ¬ (((n + 1 : Nat) : Int) ≤ (n : Int)) := by omega
        clear hsum ho HV
        go_wp2_with fail
        refine Calls.mono HR.out ?_
        rintro e w3 ⟨v3, rfl, o3, hb3⟩
        have HO3 := hid (owns_base (owns_len o3) hb.size)
        have hbF := bt hb hb3
        clear o3 hb3
        go_wp2_with fail
        go_ret
        exact ⟨v3, _, rfl, HO3.out, hwu.trimmed, Trimmed.trimmed _, by rw [val_trimmed]; exact HF.out, hbF⟩
end Go.Proofs.YtgknjdademncdaaGreat

/- The document's own difference and product of natural numbers: slackwaterref01.Less, Times: of every two lists that can be read. -/
namespace Go.Proofs.YtgknjdademncdaaGreat
open Go.RowKit
set_option linter.unusedVariables false

theorem bdw {B : Nat} {a w : World} (h : Below B a w) (n : Nat) : Below B a (w.drewN n) := h.trans ⟨rfl, rfl, rfl, Nat.le_refl _, fun _ _ => rfl⟩
theorem less_step (xs ys us : List Int) (k : Nat) (cc z c' : Int) (hk : k < us.length) (ht : z - c' * 4294967296 = xs[k]?.getD 0 - (ys[k]?.getD 0 + cc)) (h : valTo us k - cc * 4294967296 ^ k = valTo xs k - valTo ys k) :
    valTo (us.set k z) (k + 1) - c' * 4294967296 ^ (k + 1) = valTo xs (k + 1) - valTo ys (k + 1) := by
  rw [valTo_set us k z hk, valTo_succ, valTo_succ, pw_succ]
  generalize (4294967296 : Int) ^ k = P at *
  generalize xs[k]?.getD 0 = x at *
  generalize ys[k]?.getD 0 = y at *
  grind
theorem less_end {us : List Int} (hw : Wd us) (n : Nat) (c V : Int) (hl : us.length = n) (h0 : 0 ≤ c) (hV : 0 ≤ V) (h : valTo us n - c * 4294967296 ^ n = V) : val us = V := by
  have b := valTo_bounds hw n
  have hp := pw_pos n
  have hc : c = 0 := by
    by_cases z : c = 0
    · exact z
    · have e1 : 1 * 4294967296 ^ n ≤ c * 4294967296 ^ n := Int.mul_le_mul_of_nonneg_right (by omega) (by omega)
      omega
  rw [hc] at h
  rw [← valTo_stable us n (by omega)]
  omega
theorem word_q {a : Option Addr} {n cap : Nat} {zs : List Int} {B : Nat} {wr : World} (k : Nat) (h : Reads wr B a n cap zs) (hn : n ≤ 281474976710656) (j : Nat) :
    Calls Tryz.prog 92 #[.slice a n cap, .int .i64 (k : Int)] (wr.drewN j) fun e w' => e = .returned (.int .u32 (zs[k]?.getD 0)) ∧ w' = wr.drewN j := by
  have e := word_any a n cap zs B (k : Int) (wr.drewN j) (h.later (bdw (Below.refl _ _) j) (Nat.le_refl _)) hn (by omega)
  rw [Int.toNat_natCast] at e
  exact Calls.mono e (fun _ _ h => ⟨h.1, h.2.symm⟩)

set_option maxHeartbeats 3200000 in
set_option maxRecDepth 100000 in
theorem refLess_any (a : Option Addr) (n cap : Nat) (xs : List Int) (b : Option Addr) (m cap' : Nat) (ys : List Int) (w : World) (h : Reads w w.heap.size a n cap xs) (g : Reads w w.heap.size b m cap' ys) (hn : n ≤ 549755813888) (hm : m ≤ 549755813888) (hle : val ys ≤ val xs) :
    Calls Tryz.prog 75 #[.slice a n cap, .slice b m cap'] w (Ref1 w (val xs - val ys)) := by
  obtain ⟨i0, hi, hz0, hz1, hz2⟩ := info_parts Tryz.infoW
  have HY := hid g
  have WX := hid (And.intro h.2.1 g.2.1)
  have hm' := (by omega : m ≤ 281474976710656)
  have HLE := hid hle
  have hlx := h.1
  have HYV : Hid (valTo ys n = val ys) := by
    show _ = _
    have v1 := val_lt h.2.1
    rw [hlx] at v1
    have hs : sz ys ≤ n := by
      have := len_of_lt g.2.1.trimmed (Trimmed.trimmed ys) (L := n) (by rw [val_trimmed]; omega)
      rwa [length_trimmed] at this
    exact valTo_sz ys n hs
  have HXV : Hid (valTo xs n = val xs) := valTo_stable xs n (by omega)
  have cells : ∀ k, k < n → ∃ b1 o1, a = some ⟨b1, o1, none⟩ ∧ b1 < w.heap.size ∧ w.cell? ⟨b1, o1 + k, none⟩ = some (.int .u32 (xs[k]?.getD 0)) := fun k hk => by
    rcases h.2.2.1 with h0 | ⟨b1, o1, e1, l1, c1⟩
    · omega
    · exact ⟨b1, o1, e1, l1, c1 k hk⟩
  have HCS := hid cells
  have hcap := h.2.2.2.1
  clear h g hle hlx cells
  go_enter Tryz.func75, Tryz.ntmps75
  go_wp2_with (at_make; refine wpList_make_full _ rfl _ _ 22 rfl w.heap.size 44 i0 (.int .u32 0) 1 Tryz.underlying22 hi hz0 hz1 _ _ _ _ n rfl rfl (by omega) (by omega) (by rw [hz2]; omega) (by unfold maxLen; omega) (Nat.le_refl _) ?_)
  intro w1 hown hgrow
  have hbel : Below w.heap.size w w1 := (Below.refl _ _).grown hgrow (Nat.le_refl _) (fun k hk => by simp at hk)
  have HO := hid (OwnW.made hown)
  clear hown hgrow
  go_wp2_with fail
  go_loopw [6, 7] (fun c t wr => ∃ (k : Nat) (cc : Int) (us : List Int), k ≤ n ∧ t = .int .i64 k ∧ c = .int .u64 cc ∧ 0 ≤ cc ∧ cc ≤ 1 ∧ Wd us ∧ Hid (valTo us k - cc * 4294967296 ^ k = valTo xs k - valTo ys k) ∧ OwnW wr w.heap.size w.heap.size n us ∧ Below w.heap.size w wr) (fun _ t _ => n - (intOf t).toNat)
  case atStart => exact ⟨0, 0, _, by omega, rfl, rfl, by omega, by omega, Wd.replicate _, show _ = _ by simp [valTo], HO.out, hbel⟩
  case round =>
    obtain ⟨k, cc, us, hk, rfl, rfl, c0, c1, hwu, HV, ho, hb⟩ := hrel
    by_cases hlt : k < n
    · obtain ⟨b1, o1, rfl, l1, cx⟩ := HCS.out k hlt
      have x1 : wr.cell? ⟨b1, o1 + k, none⟩ = some (.int .u32 (xs[k]?.getD 0)) := (hb.cell (p := ⟨b1, o1 + k, none⟩) l1).trans cx
      have y1 := ho.cell k (by omega)
      have f1 := ho.free k
      have bx := WX.out.1.at k
      have by' := WX.out.2.at k
      have hlu := ho.len
      have HW2 := hid (word_q k (HY.out.later hb (Nat.le_refl _)) hm')
      have HST := hid (fun z c' => less_step xs ys us k cc z c' (by omega))
      have HOB : Hid (∀ j Z, OwnW ((wr.drewN j).setCell ⟨w.heap.size, k, none⟩ (.int .u32 Z)) w.heap.size w.heap.size n (us.set k Z) ∧ Below w.heap.size w ((wr.drewN j).setCell ⟨w.heap.size, k, none⟩ (.int .u32 Z))) := fun j Z =>
        ⟨OwnW.set (show OwnW (wr.drewN j) _ _ _ _ from ho) k Z, (bdw hb j).setCell (p := ⟨w.heap.size, k, none⟩) (Nat.le_refl _) _⟩
      obtain ⟨x, hx⟩ : ∃ x, xs[k]?.getD 0 = x := ⟨_, rfl⟩
      obtain ⟨y, hy⟩ : ∃ y, ys[k]?.getD 0 = y := ⟨_, rfl⟩
      rw [hx] at x1 bx HST
      rw [hy] at by' HW2 HST
      clear hlu ho hb hx hy cx
      by_cases hxy : x < y + cc
      · go_wp2_with fail
        go_quiet ((go_at_call 92; exact Calls.quiet_of_same (HW2.out _)))
        go_wp2_with fail
        go_roundw
        case rel => exact ⟨k + 1, 1, us.set k (x + 4294967296 - (y + cc)), by omega, by go_num, by go_num, by omega, by omega, hwu.set _ (by omega), HST.out _ _ (by omega) HV.out, (HOB.out _ _).1, (HOB.out _ _).2⟩
        case measure => simp [intOf]; omega
      · go_wp2_with fail
        go_quiet ((go_at_call 92; exact Calls.quiet_of_same (HW2.out _)))
        go_wp2_with fail
        go_roundw
        case rel => exact ⟨k + 1, 0, us.set k (x - (y + cc)), by omega, by go_num, by go_num, by omega, by omega, hwu.set _ (by omega), HST.out _ _ (by omega) HV.out, (HOB.out _ _).1, (HOB.out _ _).2⟩
        case measure => simp [intOf]; omega
    · obtain rfl : k = n := by omega
      have hlu := ho.len
      have HF : Hid (val us = val xs - val ys) := less_end hwu k cc _ hlu c0 (by have := HLE.out; omega) (by rw [← HXV.out, ← HYV.out]; exact HV.out)
      have HR := hid (refTrim_sl (.slice (some ⟨w.heap.size, 0, none⟩) us.length us.length) us wr (Sl.own (owns_len (show wr.ownsRow w.heap.size 44 1 (.slice (some ⟨w.heap.size, 0, none⟩) us.length us.length) us.length (us.map (Value.int .u32)) by rw [hlu]; exact ho)) hwu) (by omega))
      rw [hlu] at HR
      clear ho HV
      go_wp2_with fail
      refine Calls.mono HR.out ?_
      rintro e w3 ⟨v3, rfl, o3, hb3⟩
      have HO3 := hid (owns_base (owns_len o3) hb.size)
      have hbF := bt hb hb3
      clear o3 hb3
      go_wp2_with fail
      go_ret
      exact ⟨v3, _, rfl, HO3.out, hwu.trimmed, Trimmed.trimmed _, by rw [val_trimmed]; exact HF.out, hbF⟩
end Go.Proofs.YtgknjdademncdaaGreat

/- The document's own product of natural numbers: slackwaterref01.Times: of every two lists that can be read. -/
namespace Go.Proofs.YtgknjdademncdaaGreat
open Go.RowKit
set_option linter.unusedVariables false

theorem Reads.cells {w : World} {B : Nat} {a : Option Addr} {n cap : Nat} {zs : List Int} (h : Reads w B a n cap zs) : ∀ k, k < n → ∃ b1 o1, a = some ⟨b1, o1, none⟩ ∧ b1 < B ∧ w.cell? ⟨b1, o1 + k, none⟩ = some (.int .u32 (zs[k]?.getD 0)) := fun k hk => by
  rcases h.2.2.1 with h0 | ⟨b1, o1, e1, l1, c1⟩
  · omega
  · exact ⟨b1, o1, e1, l1, c1 k hk⟩
theorem replicate_zero (n j : Nat) : (List.replicate n (0 : Int))[j]?.getD 0 = 0 := by rw [List.getElem?_replicate]; split <;> rfl
/-- Behind a row of a product. -/
theorem row_end (xs zs us ys : List Int) (k m : Nat) (c : Int) (hl : k + m < us.length) (hku : ∀ j, j < k ∨ k + m ≤ j → us[j]?.getD 0 = ys[j]?.getD 0) (hvu : segTo us k m + c * 4294967296 ^ m = segTo ys k m + xs[k]?.getD 0 * val zs) (hv : valTo ys (k + m) = valTo xs k * val zs) :
    valTo (us.set (k + m) c) (k + 1 + m) = valTo xs (k + 1) * val zs := by
  rw [show k + 1 + m = k + m + 1 by omega, valTo_set us (k + m) c (by omega), valTo_seg us k m, valTo_congr us ys k (fun j hj => hku j (by omega)), valTo_succ, Int.add_mul, ← hv, valTo_seg ys k m]
  have e1 : (4294967296 : Int) ^ (k + m) = 4294967296 ^ m * 4294967296 ^ k := by rw [Nat.add_comm, Int.pow_add]
  rw [e1, ← Int.mul_assoc, Int.add_assoc, ← Int.add_mul, hvu, Int.add_mul, ← Int.add_assoc]
  congr 1
  rw [Int.mul_assoc, Int.mul_comm (val zs), ← Int.mul_assoc]

set_option maxHeartbeats 6400000 in
set_option maxRecDepth 100000 in
theorem refTimes_any (a : Option Addr) (n cap : Nat) (xs : List Int) (b : Option Addr) (m cap' : Nat) (ys : List Int) (w : World) (h : Reads w w.heap.size a n cap xs) (g : Reads w w.heap.size b m cap' ys) (hn : n ≤ 274877906944) (hm : m ≤ 274877906944) :
    Calls Tryz.prog 76 #[.slice a n cap, .slice b m cap'] w (Ref1 w (val xs * val ys)) := by
  obtain ⟨i0, hi, hz0, hz1, hz2⟩ := info_parts Tryz.infoW
  have WX := hid (And.intro h.2.1 g.2.1)
  have HL := hid (And.intro h.1 g.1)
  have HCX := hid h.cells
  have HCY := hid g.cells
  have hcap := h.2.2.2.1
  have hcap' := g.2.2.2.1
  clear h g
  go_enter Tryz.func76, Tryz.ntmps76
  go_wp2_with (at_make; refine wpList_make_full _ rfl _ _ 22 rfl w.heap.size 44 i0 (.int .u32 0) 1 Tryz.underlying22 hi hz0 hz1 _ _ _ _ (n + m) rfl rfl (by omega) (by omega) (by rw [hz2]; omega) (by unfold maxLen; omega) (Nat.le_refl _) ?_)
  intro w1 hown hgrow
  have hbel : Below w.heap.size w w1 := (Below.refl _ _).grown hgrow (Nat.le_refl _) (fun k hk => by simp at hk)
  have HO := hid (OwnW.made hown)
  clear hown hgrow
  go_wp2_with fail
  go_loopw [6] (fun t wr => ∃ (k : Nat) (us : List Int), k ≤ n ∧ t = .int .i64 k ∧ Wd us ∧ Hid (valTo us (k + m) = valTo xs k * val ys) ∧ Hid (∀ j, k + m ≤ j → us[j]?.getD 0 = 0) ∧ OwnW wr w.heap.size w.heap.size (n + m) us ∧ Below w.heap.size w wr) (fun t _ => n - (intOf t).toNat)
  case atStart =>
    refine ⟨0, _, by omega, rfl, Wd.replicate _, ?_, fun j _ => replicate_zero _ j, HO.out, hbel⟩
    show _ = _
    rw [valTo_congr _ [] _ (fun j _ => by rw [replicate_zero]; rfl), valTo_stable [] _ (by simp), val_nil]
    simp [valTo]
  case round =>
    obtain ⟨k, us, hk, rfl, hwu, HV, HK, ho, hb⟩ := hrel
    by_cases hlt : k < n
    · obtain ⟨b1, o1, rfl, l1, cx⟩ := HCX.out k hlt
      have bx := WX.out.1.at k
      have HRE := hid (fun c vs => row_end xs ys vs us k m c)
      obtain ⟨x, hx⟩ : ∃ x, xs[k]?.getD 0 = x := ⟨_, rfl⟩
      rw [hx] at cx bx HRE
      have HCELL := hid cx
      have HO1 := hid ho
      have HB1 := hid hb
      clear hx cx ho hb
      go_wp2_with fail
      go_loopw [7, 8] (fun c t wr2 => ∃ (q : Nat) (cc : Int) (vs : List Int), q ≤ m ∧ t = .int .i64 q ∧ c = .int .u64 cc ∧ 0 ≤ cc ∧ cc ≤ 4294967295 ∧ Wd vs ∧ Hid (segTo vs k q + cc * 4294967296 ^ q = segTo us k q + x * valTo ys q) ∧ Hid (∀ j, j < k ∨ k + q ≤ j → vs[j]?.getD 0 = us[j]?.getD 0) ∧ OwnW wr2 w.heap.size w.heap.size (n + m) vs ∧ Below w.heap.size w wr2) (fun _ t _ => m - (intOf t).toNat)
      case atStart => exact ⟨0, 0, us, by omega, rfl, rfl, by omega, by omega, hwu, show _ = _ by simp [segTo, valTo], fun _ _ => rfl, HO1.out, HB1.out⟩
      case round =>
        obtain ⟨q, cc, vs, hq, rfl, rfl, c0, c1, hwv, HV2, HK2, ho, hb⟩ := hrel
        by_cases hlt2 : q < m
        · obtain ⟨b2, o2, rfl, l2, cy⟩ := HCY.out q hlt2
          have x1 : wr.cell? ⟨b1, o1 + k, none⟩ = some (.int .u32 x) := (hb.cell (p := ⟨b1, o1 + k, none⟩) l1).trans HCELL.out
          have x2 : wr.cell? ⟨b2, o2 + q, none⟩ = some (.int .u32 (ys[q]?.getD 0)) := (hb.cell (p := ⟨b2, o2 + q, none⟩) l2).trans cy
          have y1 := ho.cell (k + q) (by omega)
          have f1 := ho.free (k + q)
          have b2' := WX.out.2.at q
          have b3 := hwv.at (k + q)
          have hlu := ho.len
          have bp := prod_word x (ys[q]?.getD 0) bx b2'
          obtain ⟨t, ht⟩ : ∃ t, cc + (x * ys[q]?.getD 0 + vs[k + q]?.getD 0) = t := ⟨_, rfl⟩
          have HVN : Hid (segTo (vs.set (k + q) (t % 4294967296)) k (q + 1) + t / 4294967296 * 4294967296 ^ (q + 1) = segTo us k (q + 1) + x * valTo ys (q + 1)) := by
            have e := mul_step ys vs k q 0 x cc t (by omega) ht _ HV2.out
            rw [HK2.out (k + q) (by omega)] at e
            exact e
          have HKN : Hid (∀ j, j < k ∨ k + (q + 1) ≤ j → (vs.set (k + q) (t % 4294967296))[j]?.getD 0 = us[j]?.getD 0) := fun j hj => by
            rw [List.getElem?_set, if_neg (by omega)]
            exact HK2.out j (by omega)
          have HOB : Hid (∀ j Z, OwnW ((wr.drewN j).setCell ⟨w.heap.size, k + q, none⟩ (.int .u32 Z)) w.heap.size w.heap.size (n + m) (vs.set (k + q) Z) ∧ Below w.heap.size w ((wr.drewN j).setCell ⟨w.heap.size, k + q, none⟩ (.int .u32 Z))) := fun j Z =>
            ⟨OwnW.set (show OwnW (wr.drewN j) _ _ _ _ from ho) (k + q) Z, (bdw hb j).setCell (p := ⟨w.heap.size, k + q, none⟩) (Nat.le_refl _) _⟩
          obtain ⟨y, hy⟩ : ∃ y, ys[q]?.getD 0 = y := ⟨_, rfl⟩
          obtain ⟨u, hu⟩ : ∃ u, vs[k + q]?.getD 0 = u := ⟨_, rfl⟩
          rw [hy] at x2 b2' bp ht
          rw [hu] at y1 b3 ht
          obtain ⟨p, hp⟩ : ∃ p, x * y = p := ⟨_, rfl⟩
          rw [hp] at bp ht
          have hT : p + u + cc = t := by omega
          have T0 : 0 ≤ t ∧ t ≤ 18446744073709551615 := by omega
          clear hlu ho hb HV2 HK2 ht hy hu cy
          go_wp2_with fail
          go_quiet (fail)
          go_wp2_with fail
          go_roundw
          case rel => exact ⟨q + 1, t / 4294967296, vs.set (k + q) (t % 4294967296), by omega, by go_num, by go_num, by omega, by omega, hwv.set _ (by omega), HVN, HKN, (HOB.out _ _).1, (HOB.out _ _).2⟩
          case measure => simp [intOf]; omega
        · obtain rfl : q = m := by omega
          have hlu := ho.len
          have y1 := ho.cell (k + q) (by omega)
          have f1 := ho.free (k + q)
          have HVN := hid (HRE.out cc vs (by omega) HK2.out (by have e := HV2.out; rw [valTo_stable ys q (by have := HL.out.2; omega)] at e; exact e) HV.out)
          have HKN : Hid (∀ j, k + 1 + q ≤ j → (vs.set (k + q) cc)[j]?.getD 0 = 0) := fun j hj => by
            rw [List.getElem?_set, if_neg (by omega), HK2.out j (by omega)]
            exact HK.out j (by omega)
          have HOB := hid (And.intro (ho.set (k + q) cc) (hb.setCell (p := ⟨w.heap.size, k + q, none⟩) (Nat.le_refl _) (.int .u32 cc)))
          clear hlu ho hb HV2 HK2 HV HK HRE
          go_wp2_with fail
          go_roundw
          case rel => exact ⟨k + 1, vs.set (k + q) cc, by omega, by go_num, hwv.set _ ⟨c0, c1⟩, HVN, HKN, HOB.out.1, HOB.out.2⟩
          case measure => simp [intOf]; omega
    · obtain rfl : k = n := by omega
      have hlu := ho.len
      have HF : Hid (val us = val xs * val ys) := by
        show _ = _
        have e := HV.out
        rw [valTo_stable us _ (by omega), valTo_stable xs k (by have := HL.out.1; omega)] at e
        exact e
      have HR := hid (refTrim_sl (.slice (some ⟨w.heap.size, 0, none⟩) us.length us.length) us wr (Sl.own (owns_len (show wr.ownsRow w.heap.size 44 1 (.slice (some ⟨w.heap.size, 0, none⟩) us.length us.length) us.length (us.map (Value.int .u32)) by rw [hlu]; exact ho)) hwu) (by omega))
      rw [hlu] at HR
      clear ho HV HK
      go_wp2_with fail
      refine Calls.mono HR.out ?_
      rintro e w3 ⟨v3, rfl, o3, hb3⟩
      have HO3 := hid (owns_base (owns_len o3) hb.size)
      have hbF := bt hb hb3
      clear o3 hb3
      go_wp2_with fail
      go_ret
      exact ⟨v3, _, rfl, HO3.out, hwu.trimmed, Trimmed.trimmed _, by rw [val_trimmed]; exact HF.out, hbF⟩
end Go.Proofs.YtgknjdademncdaaGreat

/- The document's own division by one word and its shifts: slackwaterref01.small, Up, Down: of every list that can be read. -/
namespace Go.Proofs.YtgknjdademncdaaGreat
open Go.RowKit
set_option linter.unusedVariables false

set_option maxHeartbeats 3200000 in
set_option maxRecDepth 100000 in
theorem refSmall_any (a : Option Addr) (n cap : Nat) (xs : List Int) (x : Int) (w : World) (h : Reads w w.heap.size a n cap xs) (hn : n ≤ 549755813888) (hx : 1 ≤ x ∧ x ≤ 4294967295) :
    Calls Tryz.prog 77 #[.slice a n cap, .int .u32 x] w fun e w' => ∃ v zs r, e = .returned (.tuple #[v, .int .u32 r]) ∧ w'.ownsRow w.heap.size 44 1 v zs.length (zs.map (Value.int .u32)) ∧ Wd zs ∧ Trimmed zs ∧ val xs = val zs * x + r ∧ 0 ≤ r ∧ r < x ∧ Below w.heap.size w w' := by
  obtain ⟨i0, hi, hz0, hz1, hz2⟩ := info_parts Tryz.infoW
  have hx1 := hx.1
  have hx2 := hx.2
  have WX := hid h.2.1
  have HL := hid h.1
  have HCX := hid h.cells
  have hcap := h.2.2.2.1
  clear h hx
  go_enter Tryz.func77, Tryz.ntmps77
  go_wp2_with (at_make; refine wpList_make_full _ rfl _ _ 22 rfl w.heap.size 44 i0 (.int .u32 0) 1 Tryz.underlying22 hi hz0 hz1 _ _ _ _ n rfl rfl (by omega) (by omega) (by rw [hz2]; omega) (by unfold maxLen; omega) (Nat.le_refl _) ?_)
  intro w1 hown hgrow
  have hbel : Below w.heap.size w w1 := (Below.refl _ _).grown hgrow (Nat.le_refl _) (fun k hk => by simp at hk)
  have HO := hid (OwnW.made hown)
  clear hown hgrow
  go_wp2_with fail
  go_loopw [7, 8] (fun c t wr => ∃ (k : Nat) (r : Int) (us : List Int), k ≤ n ∧ t = .int .i64 ((k : Int) - 1) ∧ c = .int .u64 r ∧ 0 ≤ r ∧ r < x ∧ Wd us ∧ Hid (segTo xs k (n - k) = segTo us k (n - k) * x + r) ∧ OwnW wr w.heap.size w.heap.size n us ∧ Below w.heap.size w wr) (fun _ t _ => (intOf t + 1).toNat)
  case atStart => exact ⟨n, 0, _, by omega, rfl, rfl, by omega, by omega, Wd.replicate _, show _ = _ by rw [Nat.sub_self]; simp [segTo], HO.out, hbel⟩
  case round =>
    obtain ⟨k, r, us, hk, rfl, rfl, r0, r1, hwu, HV, ho, hb⟩ := hrel
    rcases k with _ | k
    · have hlu := ho.len
      have HF : Hid (val xs = val us * x + r) := by
        show _ = _
        have e := HV.out
        rw [segTo_zero, segTo_zero, valTo_stable xs _ (by have := HL.out; omega), valTo_stable us _ (by omega)] at e
        exact e
      have HR := hid (refTrim_sl (.slice (some ⟨w.heap.size, 0, none⟩) us.length us.length) us wr (Sl.own (owns_len (show wr.ownsRow w.heap.size 44 1 (.slice (some ⟨w.heap.size, 0, none⟩) us.length us.length) us.length (us.map (Value.int .u32)) by rw [hlu]; exact ho)) hwu) (by omega))
      rw [hlu] at HR
      clear ho HV
      go_wp2_with fail
      refine Calls.mono HR.out ?_
      rintro e w3 ⟨v3, rfl, o3, hb3⟩
      have HO3 := hid (owns_base (owns_len o3) hb.size)
      have hbF := bt hb hb3
      clear o3 hb3
      go_wp2_with fail
      go_ret2
      exact ⟨v3, _, r, rfl, HO3.out, hwu.trimmed, Trimmed.trimmed _, by rw [val_trimmed]; exact HF.out, r0, r1, hbF⟩
    · have ek : (((k + 1 : Nat) : Int) - 1) = (k : Int) := by omega
      rw [ek]
      clear ek
      obtain ⟨b1, o1, rfl, l1, cx⟩ := HCX.out k (by omega)
      have x1 : wr.cell? ⟨b1, o1 + k, none⟩ = some (.int .u32 (xs[k]?.getD 0)) := (hb.cell (p := ⟨b1, o1 + k, none⟩) l1).trans cx
      have y1 := ho.cell k (by omega)
      have f1 := ho.free k
      have bu := WX.out.at k
      have hlu := ho.len
      obtain ⟨t, ht⟩ : ∃ t, t = xs[k]?.getD 0 + r * 4294967296 := ⟨_, rfl⟩
      obtain ⟨t0, q0, q1, m0, m1⟩ := div_word x r (xs[k]?.getD 0) t hx1 r0 r1 bu ht
      have t2 : t ≤ 18446744073709551615 := by omega
      have HV' := hid (div_step xs us n k x r t (by omega) hlu.symm ht HV.out)
      have HO' := hid (ho.set k (t / x))
      have HB' := hid (hb.setCell (p := ⟨w.heap.size, k, none⟩) (Nat.le_refl _) (.int .u32 (t / x)))
      have hT : r * 4294967296 + xs[k]?.getD 0 = t := by omega
      have hxz : ¬ x = 0 := by omega
      clear hlu ho hb HV ht cx
      go_wp2_with fail
      go_roundw
      case rel => exact ⟨k, t % x, us.set k (t / x), by omega, rfl, rfl, m0, m1, hwu.set k ⟨q0, q1⟩, HV', HO'.out, HB'.out⟩
      case measure => simp [intOf]

/-- A word moved up lays a multiple of the power into its place, and less than the power into the next one. -/
theorem up_word (x : Int) (t : Nat) (ht : t ≤ 31) (x0 : 0 ≤ x) (x1 : x ≤ 4294967295) : x * 2 ^ t % 4294967296 ≤ 4294967296 - 2 ^ t ∧ 0 ≤ x * 2 ^ t / 4294967296 ∧ x * 2 ^ t / 4294967296 < 2 ^ t := by
  have hp := two_pos t
  have hs := two_split t (by omega)
  have hr := two_pos (32 - t)
  refine ⟨?_, Int.ediv_nonneg (Int.mul_nonneg x0 (by omega)) (by omega), Int.ediv_lt_of_lt_mul (by omega) ?_⟩
  · have e : x * 2 ^ t % 4294967296 = x % 2 ^ (32 - t) * 2 ^ t := by
      rw [hs, Int.mul_comm x, Int.mul_emod_mul_of_pos _ _ hp, Int.mul_comm]
    rw [e]
    have h1 := Int.emod_lt_of_pos x hr
    have h2 : (x % 2 ^ (32 - t) + 1) * 2 ^ t ≤ 2 ^ (32 - t) * 2 ^ t := Int.mul_le_mul_of_nonneg_right (by omega) (by omega)
    rw [Int.mul_comm (2 ^ (32 - t)), ← hs] at h2
    rw [Int.add_mul] at h2
    omega
  · have h2 : x * 2 ^ t < 4294967296 * 2 ^ t := Int.mul_lt_mul_of_pos_right (by omega) hp
    rw [Int.mul_comm (2 ^ t)]
    exact h2
theorem up_step (xs us : List Int) (W k : Nat) (Q c lo hi p : Int) (hk : W + k + 1 < us.length) (hc : us[W + k]?.getD 0 = c) (hp : xs[k]?.getD 0 * Q = p) (hl : p = lo + hi * 4294967296) (h : segTo us W (k + 1) = valTo xs k * Q) :
    segTo ((us.set (W + k) (c + lo)).set (W + k + 1) hi) W (k + 1 + 1) = valTo xs (k + 1) * Q := by
  rw [show W + k + 1 = W + (k + 1) by omega, segTo_set _ W (k + 1) hi (by rw [List.length_set]; omega), segTo_set us W k _ (by omega), valTo_succ, pw_succ]
  rw [segTo_succ, hc] at h
  generalize (4294967296 : Int) ^ k = P at *
  generalize segTo us W k = S at *
  generalize valTo xs k = V at *
  generalize xs[k]?.getD 0 = X at *
  grind

set_option maxHeartbeats 3200000 in
set_option maxRecDepth 100000 in
theorem refUp_any (a : Option Addr) (n cap : Nat) (xs : List Int) (W t : Nat) (M : Int) (w : World) (h : Reads w w.heap.size a n cap xs) (hn : n ≤ 274877906944) (hn0 : 0 < n) (hW : W ≤ 274877906944) (ht : t ≤ 31) (hM : M = 32 * W + t) :
    Calls Tryz.prog 80 #[.slice a n cap, .int .i64 M] w (Ref1 w (val xs * 2 ^ t * 4294967296 ^ W)) := by
  obtain ⟨i0, hi, hz0, hz1, hz2⟩ := info_parts Tryz.infoW
  have WX := hid h.2.1
  have HL := hid h.1
  have HCX := hid h.cells
  have hcap := h.2.2.2.1
  have hq : M / 32 = (W : Int) := by omega
  have hr : M % 32 = (t : Int) := by omega
  have hM0 : 0 ≤ M := by omega
  have hM1 : M ≤ 9000000000000 := by omega
  have hnz : ((n : Int) == 0) = false := by simp; omega
  clear h hM
  go_enter Tryz.func80, Tryz.ntmps80
  go_wp2_with (at_make; refine wpList_make_full _ rfl _ _ 22 rfl w.heap.size 44 i0 (.int .u32 0) 1 Tryz.underlying22 hi hz0 hz1 _ _ _ _ (n + W + 1) rfl rfl (by omega) (by omega) (by rw [hz2]; omega) (by unfold maxLen; omega) (Nat.le_refl _) ?_)
  intro w1 hown hgrow
  have hbel : Below w.heap.size w w1 := (Below.refl _ _).grown hgrow (Nat.le_refl _) (fun k hk => by simp at hk)
  have HO := hid (OwnW.made hown)
  clear hown hgrow
  go_wp2_with fail
  go_loopw [6] (fun z wr => ∃ (k : Nat) (us : List Int), k ≤ n ∧ z = .int .i64 k ∧ Wd us ∧ Hid (us[W + k]?.getD 0 < 2 ^ t) ∧ Hid (segTo us W (k + 1) = valTo xs k * 2 ^ t) ∧ Hid (∀ j, j < W ∨ W + k + 1 ≤ j → us[j]?.getD 0 = 0) ∧ OwnW wr w.heap.size w.heap.size (n + W + 1) us ∧ Below w.heap.size w wr) (fun z _ => n - (intOf z).toNat)
  case atStart =>
    refine ⟨0, _, by omega, rfl, Wd.replicate _, ?_, ?_, fun j _ => replicate_zero _ j, HO.out, hbel⟩
    · show _ < _
      rw [replicate_zero]; exact two_pos t
    · show _ = _
      rw [segTo_succ, Nat.add_zero, replicate_zero]; simp [segTo, valTo]
  case round =>
    obtain ⟨k, us, hk, rfl, hwu, HC, HV, HK, ho, hb⟩ := hrel
    by_cases hlt : k < n
    · obtain ⟨b1, o1, rfl, l1, cx⟩ := HCX.out k (by omega)
      have x1 : wr.cell? ⟨b1, o1 + k, none⟩ = some (.int .u32 (xs[k]?.getD 0)) := (hb.cell (p := ⟨b1, o1 + k, none⟩) l1).trans cx
      have y1 := ho.cell (W + k) (by omega)
      have f1 := ho.free (W + k)
      have bx := WX.out.at k
      have hlu := ho.len
      have bc := hwu.at (W + k)
      obtain ⟨u1, u2, u3⟩ := up_word _ t ht bx.1 bx.2
      obtain ⟨q0, q1, q2, q3⟩ := shl_word _ t ht bx.1 bx.2
      have c1 := HC.out
      have HST := hid (fun c lo hi p => up_step xs us W k (2 ^ t) c lo hi p (by omega))
      have HOB : Hid (∀ A B, OwnW ((wr.setCell ⟨w.heap.size, W + k, none⟩ (.int .u32 A)).setCell ⟨w.heap.size, W + k + 1, none⟩ (.int .u32 B)) w.heap.size w.heap.size (n + W + 1) ((us.set (W + k) A).set (W + k + 1) B) ∧ Below w.heap.size w ((wr.setCell ⟨w.heap.size, W + k, none⟩ (.int .u32 A)).setCell ⟨w.heap.size, W + k + 1, none⟩ (.int .u32 B))) := fun A B =>
        ⟨(ho.set (W + k) A).set (W + k + 1) B, (hb.setCell (p := ⟨w.heap.size, W + k, none⟩) (Nat.le_refl _) _).setCell (p := ⟨w.heap.size, W + k + 1, none⟩) (Nat.le_refl _) _⟩
      have HF2 : Hid (∀ A, (wr.setCell ⟨w.heap.size, W + k, none⟩ (.int .u32 A)).cell? ⟨w.heap.size, W + k + 1, none⟩ = some (.int .u32 ((us.set (W + k) A)[W + k + 1]?.getD 0)) ∧ (wr.setCell ⟨w.heap.size, W + k, none⟩ (.int .u32 A)).frozen? ⟨w.heap.size, W + k + 1, none⟩ = false) := fun A => ⟨(ho.set (W + k) A).cell (W + k + 1) (by omega), (ho.set (W + k) A).free _⟩
      obtain ⟨X, hX⟩ : ∃ X, xs[k]?.getD 0 = X := ⟨_, rfl⟩
      obtain ⟨c, hc⟩ : ∃ c, us[W + k]?.getD 0 = c := ⟨_, rfl⟩
      rw [hX] at x1 bx HST u1 u2 u3 q0 q1
      rw [hc] at y1 c1 bc HST
      obtain ⟨p, hp⟩ : ∃ p, X * 2 ^ t = p := ⟨_, rfl⟩
      rw [hp] at u1 u2 u3 q0 q1
      obtain ⟨lo, hlo⟩ : ∃ lo, p % 4294967296 = lo := ⟨_, rfl⟩
      obtain ⟨hi', hhi⟩ : ∃ hi', p / 4294967296 = hi' := ⟨_, rfl⟩
      have hpl : p = lo + hi' * 4294967296 := by omega
      have HSV := hid (HST.out c lo hi' p rfl hp hpl HV.out)
      have HOB2 := hid (HOB.out (c + lo) hi')
      obtain ⟨g1, g2⟩ := HF2.out (c + lo)
      have lo0 : 0 ≤ lo := by omega
      rw [hlo] at u1
      rw [hhi] at u2 u3
      have hcl : c + lo ≤ 4294967295 := by omega
      have hi1 : hi' ≤ 4294967295 := by omega
      have HU3 := hid u3
      have p1 : p ≤ 18446744073709551615 := by omega
      have hkW : ((k : Int) + (W : Int)) = ((W + k : Nat) : Int) := by omega
      have hkW1 : (((W + k : Nat) : Int) + 1) = ((W + k + 1 : Nat) : Int) := by omega
      have HKN : Hid (∀ j, j < W ∨ W + (k + 1) + 1 ≤ j → ((us.set (W + k) (c + lo)).set (W + k + 1) hi')[j]?.getD 0 = 0) := fun j hj => by
        rw [List.getElem?_set, if_neg (by omega), List.getElem?_set, if_neg (by omega)]
        exact HK.out j (by omega)
      have HCN : Hid (((us.set (W + k) (c + lo)).set (W + k + 1) hi')[W + (k + 1)]?.getD 0 < 2 ^ t) := by
        show _ < _
        rw [show W + (k + 1) = W + k + 1 by omega, List.getElem?_set, if_pos rfl, if_pos (by rw [List.length_set]; omega)]
        exact HU3.out
      have HWN := hid ((hwu.set (W + k) (show 0 ≤ c + lo ∧ c + lo ≤ 4294967295 by omega)).set (W + k + 1) (show 0 ≤ hi' ∧ hi' ≤ 4294967295 by omega))
      clear hlu ho hb HV HK HC cx hX hc hpl u1 u3 q1 q2 q3 c1 HST HOB HF2
      go_wp2_with fail
      go_roundw
      case rel => exact ⟨k + 1, _, by omega, by go_num, HWN.out, HCN, HSV, HKN, HOB2.out.1, HOB2.out.2⟩
      case measure => simp [intOf]; omega
    · obtain rfl : k = n := by omega
      have hlu := ho.len
      have HF : Hid (val us = val xs * 2 ^ t * 4294967296 ^ W) := by
        show _ = _
        rw [← valTo_stable us (W + (k + 1)) (by omega), valTo_seg us W (k + 1), HV.out, valTo_stable xs k (by have := HL.out; omega), valTo_congr us [] W (fun j hj => by rw [HK.out j (.inl hj)]; rfl), valTo_stable [] _ (by simp), val_nil]
        omega
      have HR := hid (refTrim_sl (.slice (some ⟨w.heap.size, 0, none⟩) us.length us.length) us wr (Sl.own (owns_len (show wr.ownsRow w.heap.size 44 1 (.slice (some ⟨w.heap.size, 0, none⟩) us.length us.length) us.length (us.map (Value.int .u32)) by rw [hlu]; exact ho)) hwu) (by omega))
      rw [hlu] at HR
      clear ho HV HK HC
      go_wp2_with fail
      refine Calls.mono HR.out ?_
      rintro e w3 ⟨v3, rfl, o3, hb3⟩
      have HO3 := hid (owns_base (owns_len o3) hb.size)
      have hbF := bt hb hb3
      clear o3 hb3
      go_wp2_with fail
      go_ret
      exact ⟨v3, _, rfl, HO3.out, hwu.trimmed, Trimmed.trimmed _, by rw [val_trimmed]; exact HF.out, hbF⟩
end Go.Proofs.YtgknjdademncdaaGreat

/- The document's own shift down: slackwaterref01.Down: of every list that can be read. -/
namespace Go.Proofs.YtgknjdademncdaaGreat
open Go.RowKit
set_option linter.unusedVariables false

theorem Reads.behind {w : World} {B : Nat} {b o n cap : Nat} {zs : List Int} (h : Reads w B (some ⟨b, o, none⟩) n cap zs) (W : Nat) (hW : W < n) : Reads w B (some ⟨b, o + W, none⟩) (n - W) (cap - W) (zs.drop W) := by
  obtain ⟨h1, h2, h3, h4, h5, h6⟩ := h
  refine ⟨by rw [List.length_drop]; omega, h2.drop W, ?_, by omega, by omega, fun e => by simp at e⟩
  rcases h3 with h3 | ⟨b', o', ha, hlt, hc⟩
  · omega
  · right
    simp only [Option.some.injEq, Addr.mk.injEq] at ha
    obtain ⟨rfl, rfl, _⟩ := ha
    refine ⟨b, o + W, rfl, hlt, fun j hj => ?_⟩
    rw [Nat.add_assoc, hc (W + j) (by omega), List.getElem?_drop]
theorem down_val (xs us : List Int) (W m t : Nat) (wx : Wd xs) (ht : t ≤ 31) (hlen : xs.length = W + m) (hpt : ∀ j, j < m → us[j]?.getD 0 = (xs[W + j]?.getD 0 + xs[W + (j + 1)]?.getD 0 * 4294967296) / 2 ^ t % 4294967296) :
    ∀ d k, k + d = m → segTo us k d = segTo xs (W + k) d / 2 ^ t
  | 0, k, h => by show (0 : Int) = 0 / 2 ^ t; simp
  | d + 1, k, h => by
    have ih := down_val xs us W m t wx ht hlen hpt d (k + 1) (by omega)
    have bx := wx.at (W + k)
    have hw := lower_word (segTo xs (W + (k + 1)) d) (xs[W + k]?.getD 0) (xs[W + (k + 1)]?.getD 0) (2 ^ t) (2 ^ (32 - t)) (segTo_nonneg wx _ _) (by rw [segTo_low wx (W + (k + 1)) d (fun h => by rw [List.getElem?_eq_none (by omega)]; rfl)]) bx.1 bx.2 (two_pos t) (two_split t (by omega))
    rw [segTo_cons, segTo_cons, hpt k (by omega), ih, hw]
    rfl
theorem down_all (xs us : List Int) (W m t : Nat) (wx : Wd xs) (ht : t ≤ 31) (hlen : xs.length = W + m) (hlu : us.length = m) (hpt : ∀ j, j < m → us[j]?.getD 0 = (xs[W + j]?.getD 0 + xs[W + (j + 1)]?.getD 0 * 4294967296) / 2 ^ t % 4294967296) :
    val us = val xs / 4294967296 ^ W / 2 ^ t := by
  have e := down_val xs us W m t wx ht hlen hpt m 0 (by omega)
  rw [segTo_zero, Nat.add_zero, valTo_stable us _ (by omega)] at e
  rw [e, ← valTo_stable xs (W + m) (by omega), valTo_seg xs W m]
  have b := valTo_bounds wx W
  rw [Int.add_mul_ediv_right _ _ (by have := pw_pos W; omega), Int.ediv_eq_zero_of_lt b.1 b.2]
  simp

set_option maxHeartbeats 3200000 in
set_option maxRecDepth 100000 in
theorem refDown_none (a : Option Addr) (n cap : Nat) (W t : Nat) (M : Int) (w : World) (hn : n ≤ 274877906944) (hW : n ≤ W) (hW' : W ≤ 274877906944) (ht : t ≤ 31) (hM : M = 32 * W + t) :
    Calls Tryz.prog 82 #[.slice a n cap, .int .i64 M] w fun e w' => e = .returned (.slice none 0 0) ∧ w = w' := by
  have hq : M / 32 = (W : Int) := by omega
  have hM0 : 0 ≤ M := by omega
  have hM1 : M ≤ 9000000000000 := by omega
  have hle : (n : Int) ≤ (W : Int) := by omega
  clear hM
  go_enter Tryz.func82, Tryz.ntmps82
  go_wp2_with fail
  go_ret
  exact ⟨rfl, rfl⟩

set_option maxHeartbeats 3200000 in
set_option maxRecDepth 100000 in
theorem refDown_any (a : Option Addr) (n cap : Nat) (xs : List Int) (W t : Nat) (M : Int) (w : World) (h : Reads w w.heap.size a n cap xs) (hn : n ≤ 274877906944) (hW : W < n) (ht : t ≤ 31) (hM : M = 32 * W + t) :
    Calls Tryz.prog 82 #[.slice a n cap, .int .i64 M] w (Ref1 w (val xs / 4294967296 ^ W / 2 ^ t)) := by
  obtain ⟨i0, hi, hz0, hz1, hz2⟩ := info_parts Tryz.infoW
  rcases h.2.2.1 with h0 | ⟨b1, o1, rfl, hb1, hc1⟩
  · omega
  obtain ⟨m, hm⟩ : ∃ m, n = W + m := ⟨n - W, by omega⟩
  subst hm
  have WX := hid h.2.1
  have HL := hid h.1
  have HR := h.behind W hW
  have hnm : W + m - W = m := by omega
  rw [hnm] at HR
  have HRB := hid HR
  have HCX := hid hc1
  have hcap := h.2.2.2.1
  have hq : M / 32 = (W : Int) := by omega
  have hr : M % 32 = (t : Int) := by omega
  have hM0 : 0 ≤ M := by omega
  have hM1 : M ≤ 9000000000000 := by omega
  have hlt : ¬ ((W + m : Nat) : Int) ≤ (W : Int) := by omega
  have him : (((W + m : Nat) : Int) - (W : Int)) = (m : Int) := by omega
  have hcz : ¬ cap = W := by omega
  have hm0 : 0 < m := by omega
  clear h hM HR hc1
  go_enter Tryz.func82, Tryz.ntmps82
  go_wp2_with (at_make; refine wpList_make_full _ rfl _ _ 22 rfl w.heap.size 44 i0 (.int .u32 0) 1 Tryz.underlying22 hi hz0 hz1 _ _ _ _ m rfl rfl (by omega) (by omega) (by rw [hz2]; omega) (by unfold maxLen; omega) (Nat.le_refl _) ?_)
  intro w1 hown hgrow
  have hbel : Below w.heap.size w w1 := (Below.refl _ _).grown hgrow (Nat.le_refl _) (fun k hk => by simp at hk)
  have HO := hid (OwnW.made hown)
  clear hown hgrow
  go_wp2_with fail
  go_loopw [7] (fun z wr => ∃ (k : Nat) (us : List Int), k ≤ m ∧ z = .int .i64 k ∧ Wd us ∧ Hid (∀ j, j < k → us[j]?.getD 0 = (xs[W + j]?.getD 0 + xs[W + (j + 1)]?.getD 0 * 4294967296) / 2 ^ t % 4294967296) ∧ OwnW wr w.heap.size w.heap.size m us ∧ Below w.heap.size w wr) (fun z _ => m - (intOf z).toNat)
  case atStart => exact ⟨0, _, by omega, rfl, Wd.replicate _, fun j hj => by omega, HO.out, hbel⟩
  case round =>
    obtain ⟨k, us, hk, rfl, hwu, HV, ho, hb⟩ := hrel
    by_cases hlt2 : k < m
    · have x1 : wr.cell? ⟨b1, o1 + W + k, none⟩ = some (.int .u32 (xs[W + k]?.getD 0)) := by
        have e := (hb.cell (p := ⟨b1, o1 + (W + k), none⟩) hb1).trans (HCX.out (W + k) (by omega))
        rw [Nat.add_assoc]; exact e
      have y1 := ho.cell k (by omega)
      have f1 := ho.free k
      have bx := WX.out.at (W + k)
      have bz := WX.out.at (W + (k + 1))
      have hlu := ho.len
      have HW2 := hid (word_q (k + 1) (HRB.out.later hb (Nat.le_refl _)) (by omega))
      rw [List.getElem?_drop, show ((k + 1 : Nat) : Int) = (k : Int) + 1 by omega] at HW2
      have HOB : Hid (∀ j Z, OwnW ((wr.drewN j).setCell ⟨w.heap.size, k, none⟩ (.int .u32 Z)) w.heap.size w.heap.size m (us.set k Z) ∧ Below w.heap.size w ((wr.drewN j).setCell ⟨w.heap.size, k, none⟩ (.int .u32 Z))) := fun j Z =>
        ⟨OwnW.set (show OwnW (wr.drewN j) _ _ _ _ from ho) k Z, (bdw hb j).setCell (p := ⟨w.heap.size, k, none⟩) (Nat.le_refl _) _⟩
      have HPT : Hid (∀ Z, Z = (xs[W + k]?.getD 0 + xs[W + (k + 1)]?.getD 0 * 4294967296) / 2 ^ t % 4294967296 → ∀ j, j < k + 1 → (us.set k Z)[j]?.getD 0 = (xs[W + j]?.getD 0 + xs[W + (j + 1)]?.getD 0 * 4294967296) / 2 ^ t % 4294967296) := fun Z hZ j hj => by
        rw [List.getElem?_set]
        by_cases e : k = j
        · subst e
          rw [if_pos rfl, if_pos (by omega)]; exact hZ
        · rw [if_neg e]; exact HV.out j (by omega)
      obtain ⟨x, hx⟩ : ∃ x, xs[W + k]?.getD 0 = x := ⟨_, rfl⟩
      obtain ⟨z, hz⟩ : ∃ z, xs[W + (k + 1)]?.getD 0 = z := ⟨_, rfl⟩
      rw [hx] at x1 bx HPT
      rw [hz] at bz HW2 HPT
      obtain ⟨u, hu⟩ : ∃ u, z * 4294967296 + x = u := ⟨_, rfl⟩
      have u0 : 0 ≤ u ∧ u ≤ 18446744073709551615 := by omega
      have hQ := two_pos t
      have q0 : 0 ≤ u / 2 ^ t := Int.ediv_nonneg (by omega) (by omega)
      have q1 : u / 2 ^ t ≤ 18446744073709551615 := by
        have : u / 2 ^ t ≤ u := Int.ediv_le_self _ (by omega)
        omega
      obtain ⟨q, hq'⟩ : ∃ q, u / 2 ^ t = q := ⟨_, rfl⟩
      rw [hq'] at q0 q1
      have HPQ := hid (HPT.out (q % 4294967296) (by rw [← hq', ← hu, Int.add_comm x]))
      clear hlu ho hb HV HPT hx hz hQ
      go_wp2_with fail
      go_quiet ((go_at_call 92; exact Calls.quiet_of_same (HW2.out _)))
      go_wp2_with fail
      go_roundw
      case rel => exact ⟨k + 1, us.set k (q % 4294967296), by omega, by go_num, hwu.set _ (by omega), HPQ, (HOB.out _ _).1, (HOB.out _ _).2⟩
      case measure => simp [intOf]; omega
    · obtain rfl : k = m := by omega
      have hlu := ho.len
      have HF := hid (down_all xs us W k t WX.out ht HL.out hlu HV.out)
      have HR := hid (refTrim_sl (.slice (some ⟨w.heap.size, 0, none⟩) us.length us.length) us wr (Sl.own (owns_len (show wr.ownsRow w.heap.size 44 1 (.slice (some ⟨w.heap.size, 0, none⟩) us.length us.length) us.length (us.map (Value.int .u32)) by rw [hlu]; exact ho)) hwu) (by omega))
      rw [hlu] at HR
      clear ho HV
      go_wp2_with fail
      refine Calls.mono HR.out ?_
      rintro e w3 ⟨v3, rfl, o3, hb3⟩
      have HO3 := hid (owns_base (owns_len o3) hb.size)
      have hbF := bt hb hb3
      clear o3 hb3
      go_wp2_with fail
      go_ret
      exact ⟨v3, _, rfl, HO3.out, hwu.trimmed, Trimmed.trimmed _, by rw [val_trimmed]; exact HF.out, hbF⟩
end Go.Proofs.YtgknjdademncdaaGreat

/- The document's own long division, its parts: slackwaterref01.below, off, digit; its calls at any slice that can be read. -/
namespace Go.Proofs.YtgknjdademncdaaGreat
open Go.RowKit
set_option linter.unusedVariables false

theorem refPlus_sl (v u : Value) (xs ys : List Int) (w : World) (h : Sl w v xs) (g : Sl w u ys) (hn : xs.length ≤ 549755813888) (hm : ys.length ≤ 549755813888) : Calls Tryz.prog 73 #[v, u] w (Ref1 w (val xs + val ys)) := by
  obtain ⟨a, cap, rfl, hr⟩ := h
  obtain ⟨b, cap', rfl, gr⟩ := g
  exact refPlus_any a _ cap xs b _ cap' ys w hr gr hn hm
theorem refLess_sl (v u : Value) (xs ys : List Int) (w : World) (h : Sl w v xs) (g : Sl w u ys) (hn : xs.length ≤ 549755813888) (hm : ys.length ≤ 549755813888) (hle : val ys ≤ val xs) : Calls Tryz.prog 75 #[v, u] w (Ref1 w (val xs - val ys)) := by
  obtain ⟨a, cap, rfl, hr⟩ := h
  obtain ⟨b, cap', rfl, gr⟩ := g
  exact refLess_any a _ cap xs b _ cap' ys w hr gr hn hm hle
theorem refTimes_sl (v u : Value) (xs ys : List Int) (w : World) (h : Sl w v xs) (g : Sl w u ys) (hn : xs.length ≤ 274877906944) (hm : ys.length ≤ 274877906944) : Calls Tryz.prog 76 #[v, u] w (Ref1 w (val xs * val ys)) := by
  obtain ⟨a, cap, rfl, hr⟩ := h
  obtain ⟨b, cap', rfl, gr⟩ := g
  exact refTimes_any a _ cap xs b _ cap' ys w hr gr hn hm
theorem refOf_val (x : Int) (w : World) (h0 : 0 ≤ x) (h1 : x ≤ 18446744073709551615) : Calls Tryz.prog 78 #[.int .u64 x] w (Ref1 w x) := by
  refine Calls.mono (refOf_any x w h0 h1) ?_
  rintro e w' ⟨v, rfl, o, hb⟩
  refine ⟨v, _, rfl, owns_len o, (of_wd x h0 h1).trimmed, Trimmed.trimmed _, ?_, hb⟩
  rw [val_trimmed, val_two]
  omega
theorem Ref1.slice {w w' : World} {t : Int} {x : Ending} (h : Ref1 w t x w') : ∃ a c zs, x = .returned (.slice a zs.length c) ∧ w'.ownsRow w.heap.size 44 1 (.slice a zs.length c) zs.length (zs.map (Value.int .u32)) ∧ Wd zs ∧ Trimmed zs ∧ val zs = t ∧ Below w.heap.size w w' := by
  obtain ⟨v, zs, rfl, o, h1, h2, h3, h4⟩ := h
  obtain ⟨a, c, hs⟩ := own_slice' o
  subst hs
  exact ⟨a, c, zs, rfl, o, h1, h2, h3, h4⟩

set_option maxHeartbeats 1600000 in
set_option maxRecDepth 100000 in
theorem refBelow_any (v u : Value) (rs ds : List Int) (x : Int) (w : World) (h : Sl w v rs) (g : Sl w u ds) (hn : rs.length ≤ 274877906944) (hm : ds.length ≤ 274877906944) (x0 : 0 ≤ x) (x1 : x ≤ 4294967295) :
    Calls Tryz.prog 93 #[v, u, .int .u64 x] w fun e w' => e = .returned (.bool (decide (val rs < val ds * x))) ∧ Below w.heap.size w w' := by
  have HO := hid (refOf_val x w x0 (by omega))
  have HX := hid h
  have HD := hid g
  have HN := hid (And.intro hn hm)
  have HX1 := hid x1
  clear h g hn hm x1
  go_enter Tryz.func93, Tryz.ntmps93
  go_wp2_with fail
  refine Calls.mono HO.out ?_
  intro e w1 h1
  obtain ⟨a1, c1, zs, rfl, o1, wz, tz, vz, hb1⟩ := h1.slice
  have lz : zs.length ≤ 1 := len_of_lt wz tz (by rw [vz]; have := HX1.out; omega)
  have HT := hid (refTimes_sl _ _ ds zs w1 (HD.out.later hb1) (Sl.own o1 wz) HN.out.2 (by omega))
  rw [vz] at HT
  have HB1 := hid hb1
  have lzd : zs.length + ds.length ≤ 274877906945 := by have := HN.out.2; omega
  clear h1 o1 wz tz vz hb1 HO
  go_wp2_with fail
  refine Calls.mono HT.out ?_
  intro e w2 h2
  obtain ⟨a2, c2, ps, rfl, o2, wp, tp, vp, hb2⟩ := h2.slice
  have HB2 := hid (bt HB1.out hb2)
  have lp : ps.length ≤ 281474976710656 := by
    have hl := val_lt HD.out.wd
    have e1 : val ps < 4294967296 ^ (ds.length + 1) := by
      rw [vp, pw_succ]
      have p := pw_pos ds.length
      have d0 := val_nonneg HD.out.wd
      have := HX1.out
      have a1 : val ds * x ≤ val ds * 4294967296 := Int.mul_le_mul_of_nonneg_left (by omega) d0
      have a2 : val ds * 4294967296 < 4294967296 ^ ds.length * 4294967296 := Int.mul_lt_mul_of_pos_right hl (by omega)
      omega
    have := len_of_lt wp tp e1
    have := HN.out
    omega
  have HC := hid (refCompare_sl _ _ rs ps w2 (HX.out.later HB2.out) (Sl.own o2 wp) (by have := HN.out; omega) lp)
  rw [vp] at HC
  clear h2 o2 wp tp vp hb2 HT lp HB1
  by_cases hlt : val rs < val ds * x
  · rw [cmpI_lt hlt] at HC
    have HE : Hid (decide (val rs < val ds * x) = true) := decide_eq_true hlt
    clear hlt
    go_wp2_with fail
    refine Calls.mono HC.out ?_
    rintro e w3 ⟨rfl, rfl⟩
    go_wp2_with fail
    go_ret
    exact ⟨ret_bool HE.out.symm, HB2.out⟩
  · have HE : Hid (decide (val rs < val ds * x) = false) := decide_eq_false hlt
    obtain ⟨c, hc, hc'⟩ : ∃ c, cmpI (val rs) (val ds * x) = c ∧ (c = 0 ∨ c = 1) := by
      by_cases e : val rs = val ds * x
      · exact ⟨0, cmpI_eq e, .inl rfl⟩
      · exact ⟨1, cmpI_gt (by omega), .inr rfl⟩
    rw [hc] at HC
    clear hlt hc
    rcases hc' with rfl | rfl
    · go_wp2_with fail
      refine Calls.mono HC.out ?_
      rintro e w3 ⟨rfl, rfl⟩
      go_wp2_with fail
      go_ret
      exact ⟨ret_bool HE.out.symm, HB2.out⟩
    · go_wp2_with fail
      refine Calls.mono HC.out ?_
      rintro e w3 ⟨rfl, rfl⟩
      go_wp2_with fail
      go_ret
      exact ⟨ret_bool HE.out.symm, HB2.out⟩

theorem valTo_mid (ys : List Int) (i l : Nat) : ∀ k, k ≤ l → valTo ((ys.drop i).take l) k = segTo ys i k
  | 0, _ => rfl
  | k + 1, h => by rw [valTo_succ, segTo_succ, valTo_mid ys i l k (by omega), List.getElem?_take, if_pos (by omega), List.getElem?_drop]
theorem val_mid (ys : List Int) (i l : Nat) (h : i + l ≤ ys.length) : val ((ys.drop i).take l) = segTo ys i l := by
  rw [← valTo_mid ys i l l (Nat.le_refl _), valTo_stable _ _ (by rw [List.length_take, List.length_drop]; omega)]
theorem OwnC.mid {w : World} {base g n cap : Nat} {ys : List Int} (h : OwnC w base g n cap ys) (hw : Wd ys) (i l c : Nat) (hil : i + l ≤ n) (hc : l ≤ c) (hcm : c ≤ maxLen) : Sl w (.slice (some ⟨g, i, none⟩) l c) ((ys.drop i).take l) := by
  have hl := h.len
  have hll : ((ys.drop i).take l).length = l := by rw [List.length_take, List.length_drop]; omega
  refine ⟨some ⟨g, i, none⟩, c, by rw [hll], ?_⟩
  rw [hll]
  refine ⟨hll, (hw.drop i).take l, .inr ⟨g, i, rfl, (World.ownsRow.lt h g rfl).2, fun j hj => ?_⟩, hc, hcm, fun e => by simp at e⟩
  rw [h.cell (i + j) (by omega), List.getElem?_take, if_pos hj, List.getElem?_drop]

set_option maxHeartbeats 3200000 in
set_option maxRecDepth 100000 in
theorem refOff_any (base g n cap i l c : Nat) (ys : List Int) (u : Value) (ds : List Int) (x : Int) (w : World) (ho : OwnC w base g n cap ys) (hwy : Wd ys) (hil : i + l ≤ n) (hc : l ≤ c) (hcm : c ≤ maxLen) (hn : n ≤ 137438953472) (hd : Sl w u ds) (hm : ds.length ≤ 137438953472) (x0 : 0 ≤ x) (x1 : x ≤ 4294967295) (hle : val ds * x ≤ segTo ys i l) :
    Calls Tryz.prog 94 #[.slice (some ⟨g, i, none⟩) l c, u, .int .u64 x] w fun e w' => ∃ us, e = .returned (.tuple #[]) ∧ OwnC w' base g n cap us ∧ Wd us ∧ (∀ j, j < i ∨ i + l ≤ j → us[j]?.getD 0 = ys[j]?.getD 0) ∧ segTo us i l = segTo ys i l - val ds * x ∧ w.grownBy w' (some g) := by
  have hgw := (World.ownsRow.lt ho g rfl).2
  have hly := ho.len
  have hll : ((ys.drop i).take l).length = l := by rw [List.length_take, List.length_drop]; omega
  have hvm := val_mid ys i l (by omega)
  have HSR := hid (ho.mid hwy i l c hil hc hcm)
  have HO := hid (refOf_val x w x0 (by omega))
  have HD := hid hd
  have HOY := hid ho
  have HX1 := hid x1
  have HLE := hid hle
  have HVM := hid hvm
  have HLL := hid hll
  clear hd x1 hle ho hvm hll
  go_enter Tryz.func94, Tryz.ntmps94
  go_wp2_with fail
  refine Calls.mono HO.out ?_
  intro e w1 h1
  obtain ⟨a1, c1, zs, rfl, o1, wz, tz, vz, hb1⟩ := h1.slice
  have lz : zs.length ≤ 1 := len_of_lt wz tz (by rw [vz]; have := HX1.out; omega)
  have HT := hid (refTimes_sl _ _ ds zs w1 (HD.out.later hb1) (Sl.own o1 wz) (by omega) (by omega))
  rw [vz] at HT
  have HB1 := hid hb1
  clear h1 o1 wz tz vz hb1 HO lz
  go_wp2_with fail
  refine Calls.mono HT.out ?_
  intro e w2 h2
  obtain ⟨a2, c2, ps, rfl, o2, wp, tp, vp, hb2⟩ := h2.slice
  have HB2 := hid (bt HB1.out hb2)
  have lp : ps.length ≤ 549755813888 := by
    have e1 : val ps < 4294967296 ^ l := by rw [vp]; have := HLE.out; have := (segTo_bounds hwy i l).2; omega
    have := len_of_lt wp tp e1
    omega
  have HF := hid (refLess_sl _ _ ((ys.drop i).take l) ps w2 (HSR.out.later HB2.out) (Sl.own o2 wp) (by rw [HLL.out]; omega) lp (by rw [vp, HVM.out]; exact HLE.out))
  rw [vp, HVM.out] at HF
  clear h2 o2 wp tp vp hb2 HT lp HB1
  go_wp2_with fail
  refine Calls.mono HF.out ?_
  intro e w3 h3
  obtain ⟨a3, c3, qs, rfl, o3, wq, tq, vq, hb3⟩ := h3.slice
  have HB3 := hid (bt HB2.out hb3)
  have lq : qs.length ≤ l := len_of_lt wq tq (by
    rw [vq]
    have h5 := (segTo_bounds hwy i l).2
    have h6 : 0 ≤ val ds * x := Int.mul_nonneg (val_nonneg HD.out.wd) x0
    omega)
  have HQ := hid o3
  have HVQ := hid vq
  have HNE : Hid ((Value.slice a3 qs.length c3).ownBlock = none ∨ (Value.slice a3 qs.length c3).ownBlock ≠ some g) := by
    cases hv : (Value.slice a3 qs.length c3).ownBlock with
    | none => exact .inl rfl
    | some k =>
      right
      intro e
      have e1 := (World.ownsRow.lt o3 k hv).1
      have e2 := HB2.out.size
      have e3 := Option.some.inj e
      omega
  have HOW : Hid (OwnC w3 base g n cap ys) := owns_later HOY.out HB3.out
  have HG3 := hid (grown_of_below HB3.out (some g))
  clear h3 o3 vq hb3 HF HB2 HB3 HOY HSR
  go_wp2_with fail
  go_loopw [7] (fun t wr => ∃ (k : Nat) (us : List Int), k ≤ l ∧ t = .int .i64 k ∧ Wd us ∧ Hid (∀ j, j < i ∨ i + k ≤ j → us[j]?.getD 0 = ys[j]?.getD 0) ∧ Hid (∀ j, j < k → us[i + j]?.getD 0 = qs[j]?.getD 0) ∧ OwnC wr base g n cap us ∧ w3.grownBy wr (some g)) (fun t _ => l - (intOf t).toNat)
  case atStart => exact ⟨0, ys, by omega, rfl, hwy, fun _ _ => rfl, fun j hj => by omega, HOW.out, World.grownBy.refl _ _⟩
  case round =>
    obtain ⟨k, us, hk, rfl, hwu, HK, HQK, hou, hg⟩ := hrel
    by_cases hlt : k < l
    · have y1 := hou.cell (i + k) (by omega)
      have f1 := hou.free (i + k)
      have hlu := hou.len
      have hsq := Sl.own (World.ownsRow.kept HQ.out hg HNE.out) wq
      obtain ⟨aq, cq, hv, hrq⟩ := hsq
      simp only [Value.slice.injEq, true_and] at hv
      obtain ⟨rfl, rfl⟩ := hv
      have HW := hid (word_any _ _ _ qs _ (k : Int) wr hrq (by omega) (by omega))
      rw [Int.toNat_natCast] at HW
      have bq := wq.at k
      have HKN : Hid (∀ j, j < i ∨ i + (k + 1) ≤ j → (us.set (i + k) (qs[k]?.getD 0))[j]?.getD 0 = ys[j]?.getD 0) := fun j hj => by
        rw [List.getElem?_set, if_neg (by omega)]
        exact HK.out j (by omega)
      have HQN : Hid (∀ j, j < k + 1 → (us.set (i + k) (qs[k]?.getD 0))[i + j]?.getD 0 = qs[j]?.getD 0) := fun j hj => by
        rw [List.getElem?_set]
        by_cases e : k = j
        · subst e; rw [if_pos rfl, if_pos (by omega)]; rfl
        · rw [if_neg (by omega)]; exact HQK.out j (by omega)
      have HO' := hid (hou.set (i + k) (qs[k]?.getD 0)).1
      have HG' := hid (grown_trans hg (hou.set (i + k) (qs[k]?.getD 0)).2)
      have hw' := hwu.set (i + k) bq
      have HW' := hid hw'
      obtain ⟨q, hq⟩ : ∃ q, qs[k]?.getD 0 = q := ⟨_, rfl⟩
      rw [hq] at HW HKN HQN HO' HG' HW' bq
      clear hlu hou hg HK HQK hq hrq hw'
      go_wp2_with fail
      refine Calls.mono HW.out ?_
      rintro e w' ⟨rfl, rfl⟩
      go_wp2_with fail
      go_roundw
      case rel => exact ⟨k + 1, us.set (i + k) q, by omega, by go_num, HW'.out, HKN, HQN, HO'.out, HG'.out⟩
      case measure => simp [intOf]; omega
    · obtain rfl : k = l := by omega
      have HS : Hid (segTo us i k = segTo ys i k - val ds * x) := by
        show _ = _
        rw [← HVQ.out, ← valTo_stable qs k lq, ← segTo_zero]
        have e : ∀ j, j ≤ k → segTo us i j = segTo qs 0 j := fun j hj => by
          induction j with
          | zero => rfl
          | succ j ih => rw [segTo_succ, segTo_succ, ih (by omega), HQK.out j (by omega), Nat.zero_add]
        exact e k (Nat.le_refl _)
      clear HQK
      go_wp2_with fail
      go_end0
      exact ⟨us, rfl, hou, hwu, HK.out, HS.out, grown_trans HG3.out hg⟩
end Go.Proofs.YtgknjdademncdaaGreat

/- The document's own whole numbers: slackwaterref02.Check, Product. -/
namespace Go.Proofs.YtgknjdademncdaaGreat
open Go.RowKit
set_option linter.unusedVariables false

theorem chk_last {xs : List Int} (hl : xs.length ≤ 2048) : chk xs = 0 ↔ xs.length = 0 ∨ ¬ xs[xs.length - 1]?.getD 0 = 0 := by
  rw [← sz_eq_iff]
  constructor
  · intro h; exact (chk_ok h).2
  · intro h; exact chk_good (by omega) h

set_option maxHeartbeats 1600000 in
set_option maxRecDepth 100000 in
theorem refWCheck_any (n : Bool) (v : Value) (xs : List Int) (w : World) (h : Sl w v xs) (hn : xs.length ≤ 281474976710656) :
    Calls Tryz.prog 31 #[.agg #[.bool n, v]] w fun e w' => e = .returned (.int .i64 (wchk n xs)) ∧ Below w.heap.size w w' := by
  have HB := hid (alloc_later w (.cells #[.bool n, v] 24))
  have hs := h.later HB.out
  have wx := h.wd
  obtain ⟨a, cap, rfl, hr⟩ := h
  have hrl := hr.later HB.out (Nat.le_refl _)
  have HCL := hid hrl.cells
  have hcap := hr.2.2.2.1
  clear hr hrl hs
  obtain ⟨k, hk⟩ : ∃ k, xs.length = k := ⟨_, rfl⟩
  by_cases h1 : 2048 < k
  · have HW : Hid (wchk n xs = 3) := by show _ = _; unfold wchk; rw [if_pos (by omega)]
    rw [hk] at HB HCL ⊢
    have h1' : (2048 : Int) < (k : Int) := by omega
    clear hk HCL
    go_enter Tryz.func31, Tryz.ntmps31
    go_wp2_with fail
    go_ret
    exact ⟨ret_int HW.out.symm, HB.out⟩
  · have h1' : ¬ (2048 : Int) < (k : Int) := by omega
    have hcl := chk_last (xs := xs) (by omega)
    rw [hk] at hcl
    by_cases h0 : k = 0
    · subst h0
      have h2 : chk xs = 0 := hcl.2 (.inl rfl)
      cases n with
      | false =>
        have HW : Hid (wchk false xs = 0) := by show _ = _; unfold wchk; rw [if_neg (by omega), if_pos ⟨h2, .inl rfl⟩]
        rw [hk] at HB HCL ⊢
        clear hk hcl h2 HCL
        go_enter Tryz.func31, Tryz.ntmps31
        go_wp2_with fail
        go_ret
        exact ⟨ret_int HW.out.symm, HB.out⟩
      | true =>
        have HW : Hid (wchk true xs = 11) := by show _ = _; unfold wchk; rw [if_neg (by omega), if_neg (fun h => h.2.elim (fun e => by cases e) (fun e => by omega))]
        rw [hk] at HB HCL ⊢
        clear hk hcl h2 HCL
        go_enter Tryz.func31, Tryz.ntmps31
        go_wp2_with fail
        go_ret
        exact ⟨ret_int HW.out.symm, HB.out⟩
    · obtain ⟨m, hm⟩ : ∃ m, k = m + 1 := ⟨k - 1, by omega⟩
      subst hm
      have bx := wx.at m
      rw [show m + 1 - 1 = m by omega] at hcl
      have hk0 : (0 : Int) < ((m + 1 : Nat) : Int) := by omega
      rw [hk] at HB HCL hcap ⊢
      obtain ⟨b1, o1, rfl, l1, cx⟩ := HCL.out m (by omega)
      have him : ((m + 1 : Nat) : Int) - 1 = (m : Int) := by omega
      by_cases hz : xs[m]?.getD 0 = 0
      · have HW : Hid (wchk n xs = 11) := by
          show _ = _
          unfold wchk
          rw [if_neg (by omega), if_neg (fun h => (hcl.1 h.1).elim (fun e => by omega) (fun e => e hz))]
        rw [hz] at cx
        clear hk hcl HCL hz bx wx
        go_enter Tryz.func31, Tryz.ntmps31
        go_wp2_with fail
        go_ret
        exact ⟨ret_int HW.out.symm, HB.out⟩
      · have HW : Hid (wchk n xs = 0) := by
          show _ = _
          unfold wchk
          rw [if_neg (by omega), if_pos ⟨hcl.2 (.inr hz), .inr (by omega)⟩]
        obtain ⟨X, hX⟩ : ∃ X, xs[m]?.getD 0 = X := ⟨_, rfl⟩
        rw [hX] at cx hz bx
        have hzb : (X == 0) = false := by simp [hz]
        have hkz : (((m + 1 : Nat) : Int) == 0) = false := beq_eq_false_iff_ne.2 (by omega)
        clear hk hcl HCL hX wx
        go_enter Tryz.func31, Tryz.ntmps31
        go_wp2_with fail
        go_ret
        exact ⟨ret_int HW.out.symm, HB.out⟩

/-- A whole number in its one form, of any length, in new memory. -/
def WNum (w : World) (t : Int) (x : Ending) (w' : World) : Prop := ∃ n v zs, x = .returned (.agg #[.bool n, v]) ∧ w'.ownsRow w.heap.size 44 1 v zs.length (zs.map (Value.int .u32)) ∧ Wd zs ∧ Trimmed zs ∧ (n = false ∨ 0 < zs.length) ∧ wval n zs = t ∧ Below w.heap.size w w'
theorem made_num (n : Bool) (v : Value) (xs : List Int) (w : World) (h : Sl w v xs) (hn : xs.length ≤ 549755813888) : Calls Tryz.prog 50 #[.bool n, v] w (WNum w (wval n xs)) := by
  refine Calls.mono (made_any n v xs w h hn) ?_
  rintro e w' ⟨v', rfl, o, hb⟩
  refine ⟨_, v', trimmed xs, rfl, owns_len o, h.wd.trimmed, Trimmed.trimmed _, ?_, ?_, hb⟩
  · rw [length_trimmed]
    by_cases c : 0 < sz xs
    · exact .inr c
    · left; simp [c]
  · by_cases c : 0 < sz xs
    · simp only [wval, val_trimmed, c, decide_true, Bool.and_true]
    · have e0 : val (trimmed xs) = 0 := trimmed_zero' (by rw [length_trimmed]; omega)
      have e1 : val xs = 0 := by rw [← val_trimmed]; exact e0
      simp only [wval, e0, e1]
      cases n <;> simp

set_option maxHeartbeats 6400000 in
set_option maxRecDepth 100000 in
theorem refProduct_any (n : Bool) (a : Option Addr) (ca : Nat) (xs : List Int) (m : Bool) (b : Option Addr) (cb : Nat) (ys : List Int) (w : World) (h : Sl w (.slice a xs.length ca) xs) (g : Sl w (.slice b ys.length cb) ys) (lx : xs.length ≤ 100000) (ly : ys.length ≤ 100000) :
    Calls Tryz.prog 55 #[.agg #[.bool n, .slice a xs.length ca], .agg #[.bool m, .slice b ys.length cb]] w (WNum w (wval n xs * wval m ys)) := by
  have wx := h.wd
  have wy := g.wd
  have HB : Hid (Below w.heap.size w (((w.alloc (.cells #[.bool n, .slice a xs.length ca] 24)).alloc (.cells #[.bool m, .slice b ys.length cb] 24)).alloc (.cells #[.bool false, .slice none 0 0] 24))) := bt (bt (alloc_later _ _) (alloc_later _ _)) (alloc_later _ _)
  have HZ : Hid (Box (((w.alloc (.cells #[.bool n, .slice a xs.length ca] 24)).alloc (.cells #[.bool m, .slice b ys.length cb] 24)).alloc (.cells #[.bool false, .slice none 0 0] 24)) (w.heap.size + 1 + 1) 24 #[.bool false, .slice none 0 0]) := by
    have e := Box.made ((w.alloc (.cells #[.bool n, .slice a xs.length ca] 24)).alloc (.cells #[.bool m, .slice b ys.length cb] 24)) 24 #[.bool false, .slice none 0 0]
    simp at e
    exact e
  have HN : Hid (Box (((w.alloc (.cells #[.bool n, .slice a xs.length ca] 24)).alloc (.cells #[.bool m, .slice b ys.length cb] 24)).alloc (.cells #[.bool false, .slice none 0 0] 24)) w.heap.size 24 #[.bool n, .slice a xs.length ca]) := Box.later (Box.made w _ _) (bt (alloc_later _ _) (alloc_later _ _)) (by simp)
  have HM : Hid (Box (((w.alloc (.cells #[.bool n, .slice a xs.length ca] 24)).alloc (.cells #[.bool m, .slice b ys.length cb] 24)).alloc (.cells #[.bool false, .slice none 0 0] 24)) (w.heap.size + 1) 24 #[.bool m, .slice b ys.length cb]) := by
    have e := Box.later (Box.made (w.alloc (.cells #[.bool n, .slice a xs.length ca] 24)) 24 #[.bool m, .slice b ys.length cb]) (alloc_later ((w.alloc (.cells #[.bool n, .slice a xs.length ca] 24)).alloc (.cells #[.bool m, .slice b ys.length cb] 24)) (.cells #[.bool false, .slice none 0 0] 24)) (by simp)
    simp at e
    exact e
  have HS := hid (And.intro (h.later HB.out) (g.later HB.out))
  have HL := hid (And.intro lx ly)
  have HWW := hid (And.intro wx wy)
  have HE : Hid (sg (n != m) (val xs * val ys) = wval n xs * wval m ys) := mul_sign n m _ _
  clear h g wx wy lx ly
  go_enter Tryz.func55, Tryz.ntmps55
  go_wp2_with fail
  generalize (((w.alloc (.cells #[.bool n, .slice a xs.length ca] 24)).alloc (.cells #[.bool m, .slice b ys.length cb] 24)).alloc (.cells #[.bool false, .slice none 0 0] 24)) = X at *
  have HK : Hid (∀ V, Below X.heap.size X V → V.cell? ⟨w.heap.size, 0, none⟩ = some (.bool n) ∧ V.cell? ⟨w.heap.size, 1, none⟩ = some (.slice a xs.length ca) ∧ V.cell? ⟨w.heap.size + 1, 0, none⟩ = some (.bool m) ∧ V.cell? ⟨w.heap.size + 1, 1, none⟩ = some (.slice b ys.length cb)) := fun V hb => by
    obtain ⟨p0, p1, _, _⟩ := (HN.out.later hb HN.out.lt).c2
    obtain ⟨q0, q1, _, _⟩ := (HM.out.later hb HM.out.lt).c2
    exact ⟨p0, p1, q0, q1⟩
  have hs0 := HK.out _ (Below.drew (Below.refl _ X))
  have HT : Hid (Calls Tryz.prog 76 #[.slice a xs.length ca, .slice b ys.length cb] X.drew fun e w1 => ∃ a1 c1 z1, e = .returned (.slice a1 z1.length c1) ∧ Hid (Sl w1 (.slice a1 z1.length c1) z1 ∧ val z1 = val xs * val ys ∧ z1.length ≤ 549755813888 ∧ Below X.heap.size X w1) ∧ w1.cell? ⟨w.heap.size, 0, none⟩ = some (.bool n) ∧ w1.cell? ⟨w.heap.size, 1, none⟩ = some (.slice a xs.length ca) ∧ w1.cell? ⟨w.heap.size + 1, 0, none⟩ = some (.bool m) ∧ w1.cell? ⟨w.heap.size + 1, 1, none⟩ = some (.slice b ys.length cb)) := by
    refine Calls.mono (refTimes_sl _ _ xs ys _ (HS.out.1.later (Below.drew (Below.refl _ X))) (HS.out.2.later (Below.drew (Below.refl _ X))) (by have := HL.out; omega) (by have := HL.out; omega)) ?_
    intro e w1 h1
    obtain ⟨a1, c1, z1, rfl, o1, wz, tz, vz, hb1⟩ := h1.slice
    have hbX : Below X.heap.size X w1 := bt (Below.drew (Below.refl _ X)) hb1
    refine ⟨a1, c1, z1, rfl, ⟨Sl.own o1 wz, vz, ?_, hbX⟩, HK.out w1 hbX⟩
    have h5 : val z1 < 4294967296 ^ (xs.length + ys.length) := by
      rw [vz, Int.pow_add]
      have p1 := val_lt HWW.out.1
      have p2 := val_lt HWW.out.2
      have p3 := val_nonneg HWW.out.1
      have p4 := val_nonneg HWW.out.2
      have p5 := pw_pos xs.length
      have e1 : val xs * val ys ≤ val xs * 4294967296 ^ ys.length := Int.mul_le_mul_of_nonneg_left (by omega) p3
      have e2 : val xs * 4294967296 ^ ys.length < 4294967296 ^ xs.length * 4294967296 ^ ys.length := Int.mul_lt_mul_of_pos_right p1 (pw_pos _)
      omega
    have := len_of_lt wz tz h5
    have := HL.out
    omega
  have HMD : Hid (∀ w1 a1 c1 z1, Sl w1 (.slice a1 (List.length z1) c1) z1 → val z1 = val xs * val ys → z1.length ≤ 549755813888 → Below X.heap.size X w1 → Calls Tryz.prog 50 #[.bool (!(n == m)), .slice a1 (List.length z1) c1] w1 fun e w2 => ∃ k a2 c2 z2, e = .returned (.agg #[.bool k, .slice a2 (List.length z2) c2]) ∧ Hid (w2.ownsRow X.heap.size 44 1 (.slice a2 z2.length c2) z2.length (z2.map (Value.int .u32)) ∧ Wd z2 ∧ Trimmed z2 ∧ (k = false ∨ 0 < z2.length) ∧ wval k z2 = wval n xs * wval m ys ∧ Below X.heap.size X w2) ∧ (w2.cell? ⟨w.heap.size, 0, none⟩ = some (.bool n) ∧ w2.cell? ⟨w.heap.size, 1, none⟩ = some (.slice a xs.length ca) ∧ w2.cell? ⟨w.heap.size + 1, 0, none⟩ = some (.bool m) ∧ w2.cell? ⟨w.heap.size + 1, 1, none⟩ = some (.slice b ys.length cb)) ∧ w2.cell? ⟨w.heap.size + 1 + 1, 0, none⟩ = some (.bool false) ∧ w2.cell? ⟨w.heap.size + 1 + 1, 1, none⟩ = some (.slice none 0 0) ∧ w2.frozen? ⟨w.heap.size + 1 + 1, 0, none⟩ = false ∧ w2.frozen? ⟨w.heap.size + 1 + 1, 1, none⟩ = false) := fun w1 a1 c1 z1 s1 v1 l1 hb1 => by
    refine Calls.mono (made_num (!(n == m)) _ z1 w1 s1 l1) ?_
    rintro e w2 ⟨k, v2, z2, rfl, o2, wz, tz, sz2, vz, hb2⟩
    obtain ⟨a2, c2, hs⟩ := own_slice' o2
    subst hs
    refine ⟨k, a2, c2, z2, rfl, ⟨owns_base o2 hb1.size, wz, tz, sz2, ?_, bt hb1 hb2⟩, HK.out w2 (bt hb1 hb2), (HZ.out.later (bt hb1 hb2) HZ.out.lt).c2⟩
    rw [vz, ← HE.out, ← v1]
    rfl
  have hq0 : w.heap.size + 1 + 1 ≠ w.heap.size := by omega
  clear HS HL HWW HE
  go_region_held3 (fun V : World => V.cell? ⟨w.heap.size, 0, none⟩ = some (.bool n) ∧ V.cell? ⟨w.heap.size, 1, none⟩ = some (.slice a xs.length ca) ∧ V.cell? ⟨w.heap.size + 1, 0, none⟩ = some (.bool m) ∧ V.cell? ⟨w.heap.size + 1, 1, none⟩ = some (.slice b ys.length cb)) (first | exact hs2 | exact hs1 | exact hs0 | (simp [hs2, World.cell?_setCell_far, hq0]))
    (first
      | (go_at_call 50; with_reducible refine Calls.mono (HMD.out _ _ _ _ HE1.out.1 HE1.out.2.1 HE1.out.2.2.1 HE1.out.2.2.2) ?_; rintro e w2 ⟨k2, a2, c2, z2, rfl, HE2, hs2, r0, r1, f0, f1⟩)
      | (go_at_call 76; with_reducible refine Calls.mono HT.out ?_; rintro e w1 ⟨a1, c1, z1, rfl, HE1, hs1⟩))
  all_goals
    have HZ2 := hid (HZ.out.later HE2.out.2.2.2.2.2 HZ.out.lt)
    have HO := hid (own_put2 (owns_base HE2.out.1 HB.out.size) (w.heap.size + 1 + 1) (own_ne_box HE2.out.1 HZ2.out (by decide)) (.bool k2) (.slice a2 z2.length c2))
    have HBN := hid (below_put2 (bt HB.out HE2.out.2.2.2.2.2) (w.heap.size + 1 + 1) (by omega) (.bool k2) (.slice a2 z2.length c2))
    have HR := hid (And.intro HE2.out.2.1 (And.intro HE2.out.2.2.1 (And.intro HE2.out.2.2.2.1 HE2.out.2.2.2.2.1)))
    clear HK HT HMD HE1 HE2 HZ HN HM HB hs0 hs1 hs2
    go_wp2_with fail
    refine bodyPost_ret (v := .agg #[.bool k2, .slice a2 z2.length c2]) (by simp [results, Tryz.results55, go_sem, r0, r1]) rfl ?_
    exact ⟨k2, _, z2, rfl, HO.out, HR.out.1, HR.out.2.1, HR.out.2.2.1, HR.out.2.2.2, HBN.out⟩
end Go.Proofs.YtgknjdademncdaaGreat

