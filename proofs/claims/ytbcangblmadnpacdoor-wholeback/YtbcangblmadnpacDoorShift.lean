/- nat.raise, nat.lower: words moved up and down by whole words and bits, in new memory. -/
import Derived.Test.YtbcangblmadnpacDoorSum
import Derived.Test.YtbcangblmadnpacDoorProd
import Derived.Test.YtbcangblmadnpacDoorWord
namespace Go.Proofs.YtbcangblmadnpacDoor
open Go.RowKit
set_option linter.unusedVariables false

theorem two_pos (t : Nat) : (0 : Int) < 2 ^ t := Int.pow_pos (by decide)
theorem two_le {t u : Nat} (h : t ≤ u) : (2 : Int) ^ t ≤ 2 ^ u := by
  obtain ⟨d, rfl⟩ : ∃ d, u = t + d := ⟨u - t, by omega⟩
  rw [Int.pow_add]
  have h1 := two_pos t
  have h2 := two_pos d
  have h3 : (2 : Int) ^ t * 1 ≤ 2 ^ t * 2 ^ d := Int.mul_le_mul_of_nonneg_left (by omega) (by omega)
  omega
theorem or_low (c x : Int) (t : Nat) (ht : t ≤ 32) (c0 : 0 ≤ c) (c1 : c < 2 ^ t) (x0 : 0 ≤ x) (x1 : x ≤ 4294967295) (hp : x * 2 ^ t ≤ 18446744073709551615) : bits BinOp.or IntKind.u64 c (x * 2 ^ t) = c + x * 2 ^ t := by
  have h1 := two_pos t
  have h2 : (2 : Int) ^ t ≤ 2 ^ 32 := two_le ht
  have h3 : 0 ≤ x * 2 ^ t := Int.mul_nonneg x0 (Int.le_of_lt h1)
  obtain ⟨C, rfl⟩ := Int.eq_ofNat_of_zero_le c0
  obtain ⟨X, rfl⟩ := Int.eq_ofNat_of_zero_le x0
  have e1 : (X : Int) * 2 ^ t = ((X * 2 ^ t : Nat) : Int) := by rw [Int.natCast_mul, Int.natCast_pow]; rfl
  have e2 : ((2 ^ t : Nat) : Int) = 2 ^ t := by rw [Int.natCast_pow]; rfl
  rw [e1] at hp ⊢
  rw [← e2] at c1
  rw [u64_or _ _ (by omega) (by omega) (by omega) (by omega), Int.toNat_natCast, Int.toNat_natCast, Nat.or_comm, nat_join t _ _ (Nat.mul_mod_left _ _) (Int.ofNat_lt.1 c1)]
  omega
theorem shl_word (x : Int) (t : Nat) (ht : t ≤ 31) (x0 : 0 ≤ x) (x1 : x ≤ 4294967295) : 0 ≤ x * 2 ^ t ∧ x * 2 ^ t ≤ 4294967295 * 2 ^ t ∧ (2 : Int) ^ t ≤ 2147483648 ∧ 0 < (2 : Int) ^ t := by
  have h1 := two_pos t
  have h2 : (2 : Int) ^ t ≤ 2 ^ 31 := two_le ht
  exact ⟨Int.mul_nonneg x0 (Int.le_of_lt h1), Int.mul_le_mul_of_nonneg_right x1 (Int.le_of_lt h1), h2, h1⟩

theorem raise_step (xs us : List Int) (W k : Nat) (P c t : Int) (hk : W + k < us.length) (ht : t = c + xs[k]?.getD 0 * P)
    (h : segTo us W k + c * 4294967296 ^ k = valTo xs k * P) :
    segTo (us.set (W + k) (t % 4294967296)) W (k + 1) + t / 4294967296 * 4294967296 ^ (k + 1) = valTo xs (k + 1) * P := by
  rw [segTo_set us W k _ hk, valTo_succ, pw_succ, Int.add_mul, ← h]
  have e := carry_step (4294967296 ^ k) (t % 4294967296) (t / 4294967296) t (by omega)
  have e2 : t * 4294967296 ^ k = c * 4294967296 ^ k + xs[k]?.getD 0 * 4294967296 ^ k * P := by
    rw [ht, Int.add_mul, Int.mul_assoc, Int.mul_comm P, ← Int.mul_assoc]
  omega

set_option maxHeartbeats 3200000 in
set_option maxRecDepth 100000 in
theorem raise_any (a : Option Addr) (n cap : Nat) (xs : List Int) (W t : Nat) (w : World) (h : Reads w w.heap.size a n cap xs) (hn : n ≤ 274877906944) (hn0 : 0 < n) (hW : W ≤ 274877906944) (ht : t ≤ 31) :
    Calls Tryd.prog 95 #[.slice a n cap, .int .i64 W, .int .i64 t] w fun e w' => ∃ (ys : List Int), e = .returned (.slice (some ⟨w.heap.size, 0, none⟩) (n + W + 1) (n + W + 1)) ∧ OwnW w' w.heap.size w.heap.size (n + W + 1) ys ∧ Wd ys ∧ val ys = val xs * 2 ^ t * 4294967296 ^ W ∧ Below w.heap.size w w' := by
  obtain ⟨i0, hi, hz0, hz1, hz2⟩ := info_parts Tryd.infoW
  rcases h.2.2.1 with h0 | ⟨b1, o1, rfl, hb1, hc1⟩
  · omega
  · have hwA := h.2.1
    have HL := hid h.1
    have HA := hid hc1
    clear hc1 h
    go_enter Tryd.func95, Tryd.ntmps95
    go_wp2_with (at_make; refine wpList_make_full _ rfl _ _ 22 rfl w.heap.size 40 i0 (.int .u32 0) 1 Tryd.underlying22 hi hz0 hz1 _ _ _ _ (n + W + 1) rfl rfl (by omega) (by omega) (by rw [hz2]; omega) (by unfold maxLen; omega) (Nat.le_refl _) ?_)
    intro w1 hown hgrow
    have hbel : Below w.heap.size w w1 := (Below.refl _ _).grown hgrow (Nat.le_refl _) (fun k hk => by simp at hk)
    have HO := hid (OwnW.made hown)
    clear hown hgrow
    go_wp2_with fail
    go_loopw [8, 19] (fun c z wr => ∃ (k : Nat) (cc : Int) (us : List Int), k ≤ n ∧ z = .int .i64 k ∧ c = .int .u64 cc ∧ 0 ≤ cc ∧ Hid (cc < 2 ^ t) ∧ Wd us ∧ Hid (segTo us W k + cc * 4294967296 ^ k = valTo xs k * 2 ^ t) ∧
      Hid (∀ j, j < W ∨ W + k ≤ j → us[j]?.getD 0 = 0) ∧ OwnW wr w.heap.size w.heap.size (n + W + 1) us ∧ Below w.heap.size w wr) (fun _ z _ => n - (intOf z).toNat)
    case atStart =>
      have hz : ∀ j : Nat, (List.replicate (n + W + 1) (0 : Int))[j]?.getD 0 = 0 := fun j => by rw [List.getElem?_replicate]; split <;> rfl
      exact ⟨0, 0, _, by omega, rfl, rfl, by omega, two_pos t, Wd.replicate _, show _ = _ by simp [segTo, valTo], fun j _ => hz j, HO.out, hbel⟩
    case round =>
      obtain ⟨k, cc, us, hk, rfl, rfl, c0, C1, hwu, HV, HK, ho, hb⟩ := hrel
      by_cases hlt : k < n
      · have x1 : wr.cell? ⟨b1, o1 + k, none⟩ = some (.int .u32 (xs[k]?.getD 0)) := (hb.cell (p := ⟨b1, o1 + k, none⟩) hb1).trans (HA.out k hlt)
        have bx := hwA.at k
        have y1 := ho.cell (W + k) (by omega)
        have f1 := ho.free (W + k)
        have hlu := ho.len
        obtain ⟨q0, q1, q2, q3⟩ := shl_word _ t ht bx.1 bx.2
        have hor := or_low cc (xs[k]?.getD 0) t (by omega) c0 C1.out bx.1 bx.2 (by omega)
        obtain ⟨p, hp⟩ : ∃ p, xs[k]?.getD 0 * 2 ^ t = p := ⟨_, rfl⟩
        have c1 := C1.out
        obtain ⟨u, hu⟩ : ∃ u, u = cc + p := ⟨_, rfl⟩
        rw [hp] at q0 q1 hor
        rw [← hu] at hor
        have u0 : 0 ≤ u := by omega
        have u1 : u ≤ 18446744073709551615 := by omega
        have p1 : p ≤ 18446744073709551615 := by omega
        have HC' : Hid (u / 4294967296 < 2 ^ t) := by
          show _ < _
          refine Int.ediv_lt_of_lt_mul (by omega) ?_
          omega
        have HV' := hid (raise_step xs us W k (2 ^ t) cc u (by omega) (by rw [hu, ← hp]) HV.out)
        have HK' : Hid (∀ j, j < W ∨ W + (k + 1) ≤ j → (us.set (W + k) (u % 4294967296))[j]?.getD 0 = 0) := fun j hj => by
          rw [List.getElem?_set, if_neg (by omega)]
          exact HK.out j (by omega)
        have HO' := hid (ho.set (W + k) (u % 4294967296))
        have HB' := hid (hb.setCell (p := ⟨w.heap.size, W + k, none⟩) (Nat.le_refl _) (.int .u32 (u % 4294967296)))
        have hkW : ((k : Int) + (W : Int)) = ((W + k : Nat) : Int) := by omega
        clear hlu ho hb HV HK hu q1 q2 q3 c1 C1
        go_wp2_with fail
        go_roundw
        case rel => exact ⟨k + 1, u / 4294967296, us.set (W + k) (u % 4294967296), by omega, by go_num, by go_num, by omega, HC', hwu.set _ (by omega), HV', HK', HO'.out, HB'.out⟩
        case measure => simp [intOf]; omega
      · have hkn : k = n := by omega
        subst hkn
        have y1 := ho.cell (k + W) (by omega)
        have f1 := ho.free (k + W)
        have hlu := ho.len
        have c1 : cc ≤ 4294967295 := by have := C1.out; have := (shl_word 0 t ht (by omega) (by omega)).2.2.1; omega
        have HO' := hid (ho.set (k + W) cc)
        have HB' := hid (hb.setCell (p := ⟨w.heap.size, k + W, none⟩) (Nat.le_refl _) (.int .u32 cc))
        have HV' : Hid (val (us.set (k + W) cc) = val xs * 2 ^ t * 4294967296 ^ W) := by
          show _ = _
          rw [← valTo_stable _ (k + W + 1) (by rw [List.length_set]; omega), valTo_set us (k + W) cc (by omega), Nat.add_comm k W, valTo_seg us W k,
            valTo_congr us [] W (fun j hj => by rw [HK.out j (.inl hj)]; rfl), valTo_stable [] _ (by simp), val_nil, ← valTo_stable xs k (by have := HL.out; omega), ← HV.out, Int.add_mul, Int.mul_assoc cc, ← Int.pow_add, Nat.add_comm k W]
          omega
        clear hlu ho hb HV HK C1
        go_wp2_with fail
        go_ret
        exact ⟨us.set (k + W) cc, rfl, HO'.out, hwu.set _ ⟨c0, c1⟩, HV'.out, HB'.out⟩

/-- One word moved down, its bits taken from the word above. -/
theorem lower_word (s x z Q R : Int) (hs : 0 ≤ s) (hz : z = s % 4294967296) (x0 : 0 ≤ x) (x1 : x ≤ 4294967295) (hQ : 0 < Q) (hR : 4294967296 = Q * R) :
    (x + z * 4294967296) / Q % 4294967296 + s / Q * 4294967296 = (x + s * 4294967296) / Q := by
  have h1 : z % Q = s % Q := by rw [hz]; exact Int.emod_emod_of_dvd s ⟨R, hR⟩
  obtain ⟨r, hr⟩ : ∃ r, r = s % Q := ⟨_, rfl⟩
  rw [← hr] at h1
  have r0 : 0 ≤ r := by rw [hr]; exact Int.emod_nonneg _ (by omega)
  have r1 : r < Q := by rw [hr]; exact Int.emod_lt_of_pos _ hQ
  have e1 : s = Q * (s / Q) + r := by rw [hr]; exact (Int.mul_ediv_add_emod s Q).symm
  have e2 : z = Q * (z / Q) + r := by rw [← h1]; exact (Int.mul_ediv_add_emod z Q).symm
  have e3 : x + z * 4294967296 = (x + r * 4294967296) + Q * (z / Q * 4294967296) := by
    have : z * 4294967296 = (Q * (z / Q) + r) * 4294967296 := by rw [← e2]
    rw [this, Int.add_mul, Int.mul_assoc]; omega
  have e4 : x + s * 4294967296 = (x + r * 4294967296) + Q * (s / Q * 4294967296) := by
    have : s * 4294967296 = (Q * (s / Q) + r) * 4294967296 := by rw [← e1]
    rw [this, Int.add_mul, Int.mul_assoc]; omega
  rw [e3, e4, Int.add_mul_ediv_left _ _ (by omega), Int.add_mul_ediv_left _ _ (by omega)]
  have h3 : 0 ≤ (x + r * 4294967296) / Q := Int.ediv_nonneg (by omega) (by omega)
  have h4 : (x + r * 4294967296) / Q < 4294967296 := Int.ediv_lt_of_lt_mul hQ (by
    have : (r + 1) * 4294967296 ≤ Q * 4294967296 := Int.mul_le_mul_of_nonneg_right (by omega) (by omega)
    rw [Int.mul_comm 4294967296 Q]
    omega)
  omega
theorem two_split (t : Nat) (ht : t ≤ 32) : (4294967296 : Int) = 2 ^ t * 2 ^ (32 - t) := by
  rw [← Int.pow_add, show t + (32 - t) = 32 by omega]; rfl
theorem segTo_nonneg {xs : List Int} (hw : Wd xs) (i : Nat) : ∀ k, 0 ≤ segTo xs i k
  | 0 => Int.le_refl _
  | k + 1 => by
    have ih := segTo_nonneg hw i k
    have h1 := hw.at (i + k)
    have h2 : 0 ≤ xs[i + k]?.getD 0 * 4294967296 ^ k := Int.mul_nonneg h1.1 (Int.le_of_lt (pw_pos k))
    rw [segTo_succ]
    omega
theorem segTo_low {xs : List Int} (hw : Wd xs) (i m : Nat) (hm : m = 0 → xs[i]?.getD 0 = 0) : segTo xs i m % 4294967296 = xs[i]?.getD 0 := by
  have h1 := hw.at i
  cases m with
  | zero => rw [hm rfl]; rfl
  | succ m => rw [segTo_cons]; omega

set_option maxHeartbeats 3200000 in
set_option maxRecDepth 100000 in
theorem lower_any (a : Option Addr) (n cap : Nat) (xs : List Int) (W t : Nat) (w : World) (h : Reads w w.heap.size a n cap xs) (hn : n ≤ 274877906944) (hW : W < n) (ht : t ≤ 31) :
    Calls Tryd.prog 97 #[.slice a n cap, .int .i64 W, .int .i64 t] w fun e w' => ∃ (ys : List Int), e = .returned (.slice (some ⟨w.heap.size, 0, none⟩) (n - W) (n - W)) ∧ OwnW w' w.heap.size w.heap.size (n - W) ys ∧ Wd ys ∧ val ys = val xs / 4294967296 ^ W / 2 ^ t ∧ Below w.heap.size w w' := by
  obtain ⟨i0, hi, hz0, hz1, hz2⟩ := info_parts Tryd.infoW
  rcases h.2.2.1 with h0 | ⟨b1, o1, rfl, hb1, hc1⟩
  · omega
  · have hwA := h.2.1
    have HL := hid h.1
    have HA := hid hc1
    obtain ⟨m, hm⟩ : ∃ m, n = W + m := ⟨n - W, by omega⟩
    subst hm
    have hnm : W + m - W = m := by omega
    have him : (((W + m : Nat) : Int) - (W : Int)) = (m : Int) := by omega
    clear hc1 h
    rw [hnm]
    clear hnm
    go_enter Tryd.func97, Tryd.ntmps97
    go_wp2_with (at_make; refine wpList_make_full _ rfl _ _ 22 rfl w.heap.size 40 i0 (.int .u32 0) 1 Tryd.underlying22 hi hz0 hz1 _ _ _ _ m rfl rfl (by omega) (by omega) (by rw [hz2]; omega) (by unfold maxLen; omega) (Nat.le_refl _) ?_)
    intro w1 hown hgrow
    have hbel : Below w.heap.size w w1 := (Below.refl _ _).grown hgrow (Nat.le_refl _) (fun k hk => by simp at hk)
    have HO := hid (OwnW.made hown)
    clear hown hgrow
    go_wp2_with fail
    go_loopw [8, 9] (fun c z wr => ∃ (k : Nat) (ab : Int) (us : List Int), k ≤ m ∧ z = .int .i64 ((k : Int) - 1) ∧ c = .int .u64 ab ∧ 0 ≤ ab ∧ ab ≤ 18446744073709551615 ∧ Hid (ab % 4294967296 = xs[W + k]?.getD 0) ∧ Wd us ∧ Hid (segTo us k (m - k) = segTo xs (W + k) (m - k) / 2 ^ t) ∧
      OwnW wr w.heap.size w.heap.size m us ∧ Below w.heap.size w wr) (fun _ z _ => (intOf z + 1).toNat)
    case atStart =>
      refine ⟨m, 0, _, by omega, rfl, rfl, by omega, by omega, ?_, Wd.replicate _, ?_, HO.out, hbel⟩
      · show _ = _; rw [List.getElem?_eq_none (by have := HL.out; omega)]; rfl
      · show _ = _; rw [Nat.sub_self]; show (0 : Int) = 0 / 2 ^ t; simp
    case round =>
      obtain ⟨k, ab, us, hk, rfl, rfl, a0, a1, HZ, hwu, HV, ho, hb⟩ := hrel
      rcases k with _ | k
      · have HV' : Hid (val us = val xs / 4294967296 ^ W / 2 ^ t) := by
          show _ = _
          have e := HV.out
          rw [segTo_zero, Nat.sub_zero, Nat.add_zero, valTo_stable us _ (by have := ho.len; omega)] at e
          rw [e, ← valTo_stable xs (W + m) (by have := HL.out; omega), valTo_seg xs W m]
          have b := valTo_bounds hwA W
          rw [Int.add_mul_ediv_right _ _ (by have := pw_pos W; omega), Int.ediv_eq_zero_of_lt b.1 b.2]
          simp
        clear HV HZ
        go_wp2_with fail
        go_ret
        exact ⟨us, rfl, ho, hwu, HV'.out, hb⟩
      · have ek : (((k + 1 : Nat) : Int) - 1) = (k : Int) := by omega
        rw [ek]
        clear ek
        have x1 : wr.cell? ⟨b1, o1 + (W + k), none⟩ = some (.int .u32 (xs[W + k]?.getD 0)) := (hb.cell (p := ⟨b1, o1 + (W + k), none⟩) hb1).trans (HA.out (W + k) (by omega))
        have bx := hwA.at (W + k)
        have bz := hwA.at (W + (k + 1))
        have y1 := ho.cell k (by omega)
        have f1 := ho.free k
        have hlu := ho.len
        have hkW : ((k : Int) + (W : Int)) = ((W + k : Nat) : Int) := by omega
        obtain ⟨z, hz⟩ : ∃ z, z = xs[W + (k + 1)]?.getD 0 := ⟨_, rfl⟩
        have hzz := HZ.out
        rw [← hz] at bz hzz
        have hwr : IntKind.u64.wrap (ab * 4294967296) = z * 4294967296 := by rw [IntKind.wrap_u64]; omega
        have hwr2 : ab * 4294967296 % 18446744073709551616 = z * 4294967296 := by omega
        obtain ⟨u, hu⟩ : ∃ u, u = xs[W + k]?.getD 0 + z * 4294967296 := ⟨_, rfl⟩
        have hor : bits BinOp.or IntKind.u64 (z * 4294967296) (xs[W + k]?.getD 0) = u := by rw [or_join z _ bz.1 bz.2 bx.1 bx.2, hu]
        have hQ := two_pos t
        have q0 : 0 ≤ u / 2 ^ t := Int.ediv_nonneg (by omega) (by omega)
        have q1 : u / 2 ^ t ≤ 18446744073709551615 := by
          have : u / 2 ^ t ≤ u := Int.ediv_le_self _ (by omega)
          omega
        obtain ⟨q, hq⟩ : ∃ q, u / 2 ^ t = q := ⟨_, rfl⟩
        rw [hq] at q0 q1
        have HZ' : Hid (u % 4294967296 = xs[W + k]?.getD 0) := by show _ = _; omega
        have HV' : Hid (segTo (us.set k (q % 4294967296)) k (m - k) = segTo xs (W + k) (m - k) / 2 ^ t) := by
          show _ = _
          obtain ⟨d, hd⟩ : ∃ d, m - k = d + 1 := ⟨m - k - 1, by omega⟩
          have e := HV.out
          rw [show m - (k + 1) = d by omega, show W + (k + 1) = W + k + 1 by omega] at e
          rw [hd, segTo_cons, segTo_cons, List.getElem?_set, if_pos rfl, if_pos (by omega), segTo_congr (us.set k (q % 4294967296)) us (k + 1) d (fun j hj => by rw [List.getElem?_set, if_neg (by omega)]), e, ← hq, hu]
          refine lower_word _ _ z (2 ^ t) (2 ^ (32 - t)) (segTo_nonneg hwA _ _) ?_ bx.1 bx.2 hQ (two_split t (by omega))
          rw [segTo_low hwA (W + k + 1) d (fun h => by rw [List.getElem?_eq_none (by have := HL.out; omega)]; rfl), hz]
          rfl
        have HO' := hid (ho.set k (q % 4294967296))
        have HB' := hid (hb.setCell (p := ⟨w.heap.size, k, none⟩) (Nat.le_refl _) (.int .u32 (q % 4294967296)))
        have u0 : 0 ≤ u := by omega
        have u1 : u ≤ 18446744073709551615 := by omega
        clear hlu ho hb HV HZ hu hz hzz hQ
        go_wp2_with fail
        go_roundw
        case rel => exact ⟨k, u, us.set k (q % 4294967296), by omega, by go_num, by go_num, u0, u1, HZ', hwu.set _ (by omega), HV', HO'.out, HB'.out⟩
        case measure => simp [intOf]
end Go.Proofs.YtbcangblmadnpacDoor
