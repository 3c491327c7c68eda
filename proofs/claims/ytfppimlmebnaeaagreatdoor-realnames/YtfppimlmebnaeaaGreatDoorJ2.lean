/- My texts on the way to RealNames, one behind the other: contracts of the program and of the document's answers. -/
import Derived.Test.YtfppimlmebnaeaaGreatDoorJ1
import Derived.Handy
import Derived.BigQuiet
import Derived.Deep.CutRange
import Derived.Deep.LoopGhost
import Derived.Deep.Cut
import Derived.Deep.RegionHeld3
import Derived.Deep.RegionLawGrows
/- real.shifted: a number above 0 times a power of two, in new memory. -/
namespace Go.Proofs.YtfppimlmebnaeaaGreatDoor
open Go.RowKit
set_option linter.unusedVariables false

theorem or_lo32 (c X : Int) (t : Nat) (ht : t ≤ 31) (c0 : 0 ≤ c) (c1 : c < 2 ^ t) (x0 : 0 ≤ X) (x1 : X ≤ 4294967295) : bits BinOp.or IntKind.u32 c (X * 2 ^ t % 4294967296) = c + X * 2 ^ t % 4294967296 := by
  obtain ⟨C, rfl⟩ := Int.eq_ofNat_of_zero_le c0
  obtain ⟨Y, rfl⟩ := Int.eq_ofNat_of_zero_le x0
  have e2 : ((2 ^ t : Nat) : Int) = 2 ^ t := by rw [Int.natCast_pow]; rfl
  have e1 : (Y : Int) * 2 ^ t % 4294967296 = ((Y * 2 ^ t % 4294967296 : Nat) : Int) := by rw [← e2]; omega
  have h32 : (2 : Int) ^ t ≤ 2 ^ 31 := two_le ht
  rw [e1]
  rw [← e2] at c1
  have c2 : C < 2 ^ t := Int.ofNat_lt.1 c1
  have hd : Y * 2 ^ t % 4294967296 % 2 ^ t = 0 := by
    have hv : 2 ^ t ∣ 4294967296 := ⟨2 ^ (32 - t), by rw [← Nat.pow_add, show t + (32 - t) = 32 by omega]⟩
    rw [Nat.mod_mod_of_dvd _ hv]
    exact Nat.mul_mod_left _ _
  have hm := Nat.mod_lt (Y * 2 ^ t) (show 0 < 4294967296 by decide)
  have b31 : (2 : Int) ^ 31 = 2147483648 := by decide
  rw [u32_or_nat C _ (by omega) (by omega), Nat.or_comm, nat_join t _ C hd c2]
  omega

theorem up_stay (xs us : List Int) (W k : Nat) (Q c lo hi p : Int) (hk : W + k < us.length) (hb : us[W + k + 1]?.getD 0 = 0) (hc : us[W + k]?.getD 0 = c) (hp : xs[k]?.getD 0 * Q = p) (hl : p = lo + hi * 4294967296) (h0 : hi = 0) (h : segTo us W (k + 1) = valTo xs k * Q) :
    segTo (us.set (W + k) (c + lo)) W (k + 1 + 1) = valTo xs (k + 1) * Q := by
  rw [segTo_succ, segTo_set us W k _ (by omega), valTo_succ, show W + (k + 1) = W + k + 1 by omega, List.getElem?_set, if_neg (by omega), hb]
  rw [segTo_succ, hc] at h
  subst h0
  generalize (4294967296 : Int) ^ k = P at *
  generalize segTo us W k = S at *
  generalize valTo xs k = V at *
  generalize xs[k]?.getD 0 = X at *
  grind

set_option maxHeartbeats 3200000 in
set_option maxRecDepth 100000 in
theorem rshifted_any (a : Option Addr) (n cap : Nat) (xs : List Int) (W t : Nat) (M : Int) (w : World) (h : Reads w w.heap.size a (n + 1) cap xs) (hn : n ≤ 1048576) (tx : Trimmed xs) (hW : W ≤ 1048576) (ht : t ≤ 31) (hM : M = 32 * W + t) :
    Calls Tryz.prog 40 #[.slice a (n + 1) cap, .int .i64 M] w fun e w' => ∃ ys : List Int, e = .returned (.slice (some ⟨w.heap.size, 0, none⟩) ys.length ys.length) ∧ OwnW w' w.heap.size w.heap.size ys.length ys ∧ Wd ys ∧ Trimmed ys ∧ val ys = val xs * 2 ^ t * 4294967296 ^ W ∧ Below w.heap.size w w' := by
  obtain ⟨i0, hi, hz0, hz1, hz2⟩ := info_parts Tryz.infoW
  have HLEN := hid (rlength_any a n cap xs w h hn tx)
  have WX := hid h.2.1
  have HL := hid h.1
  have HCX := hid h.cells
  have hcap := h.2.2.2.1
  have hsz : sz xs = n + 1 := by rw [tx]; exact h.1
  obtain ⟨b1, b2, b3, b4, b5⟩ := bits_bounds h.2.1 (by omega)
  rw [hsz] at b4 b5
  have HBB := hid (And.intro b2 b3)
  have HUB : Hid (bitsOf xs = n * 32 + Lib.bitLen (xs[n]?.getD 0).toNat) := by
    show _ = _
    unfold bitsOf
    rw [hsz, if_neg (by omega), Nat.add_sub_cancel]
  have hq : M / 32 = (W : Int) := by omega
  have hr : M % 32 = (t : Int) := by omega
  have hM0 : 0 ≤ M := by omega
  have hM1 : M ≤ 33554463 := by omega
  obtain ⟨N, hN⟩ : ∃ N : Nat, ((bitsOf xs : Int) + M + 31) / 32 = (N : Int) := ⟨(((bitsOf xs : Int) + M + 31) / 32).toNat, by omega⟩
  have hN1 : W + n + 1 ≤ N := by omega
  have hN2 : N ≤ W + n + 2 := by omega
  have HNB : Hid (32 * ((N : Int) - 1) < (bitsOf xs : Int) + M ∧ (bitsOf xs : Int) + M ≤ 32 * (N : Int)) := by constructor <;> omega
  have hL2 : bitsOf xs ≤ 33554464 := by omega
  have HM := hid hM
  clear h hM b1 b2 b3 b4 b5 hsz tx
  go_enter Tryz.func40, Tryz.ntmps40
  go_wp2_with fail
  refine Calls.mono HLEN.out ?_
  rintro e w1 ⟨rfl, rfl⟩
  clear HLEN
  go_wp2_with (at_make; refine wpList_make_full _ rfl _ _ 22 rfl w1.heap.size 62 i0 (.int .u32 0) 1 Tryz.underlying22 hi hz0 hz1 _ _ _ _ N rfl rfl (by omega) (by omega) (by rw [hz2]; omega) (by unfold maxLen; omega) (Nat.le_refl _) ?_)
  intro w2 hown hgrow
  have hbel : Below w1.heap.size w1 w2 := (Below.refl _ _).grown hgrow (Nat.le_refl _) (fun k hk => by simp at hk)
  have HO := hid (OwnW.made hown)
  clear hown hgrow
  have HTOP : Hid (∀ X, xs[n]?.getD 0 = X → 4294967296 ≤ X * 2 ^ t → W + n + 1 < N) := fun X hX hp => by
    have hb := WX.out.at n
    rw [hX] at hb
    have ub : bitsOf xs = n * 32 + Lib.bitLen X.toNat := by
      have e := HUB.out
      rw [hX] at e
      exact e
    by_cases hx1 : 1 ≤ X
    · obtain ⟨_, _, l3⟩ := bitLen_bounds X hx1 hb.2
      have l4 : 33 ≤ Lib.bitLen X.toNat + t := by
        by_cases hc : 33 ≤ Lib.bitLen X.toNat + t
        · exact hc
        · exfalso
          have p := two_pos t
          have e1 : X * 2 ^ t < 2 ^ Lib.bitLen X.toNat * 2 ^ t := Int.mul_lt_mul_of_pos_right l3 p
          rw [← Int.pow_add] at e1
          have e2 : (2 : Int) ^ (Lib.bitLen X.toNat + t) ≤ 2 ^ 32 := two_le (by omega)
          have e3 : (2 : Int) ^ 32 = 4294967296 := by decide
          omega
      have := HNB.out
      have := HM.out
      omega
    · have : X = 0 := by omega
      subst this
      omega
  go_wp2_with fail
  go_loopw [19] (fun z wr => ∃ (k : Nat) (us : List Int), k ≤ n + 1 ∧ z = .int .i64 k ∧ Wd us ∧ Hid (us[W + k]?.getD 0 < 2 ^ t) ∧ Hid (segTo us W (k + 1) = valTo xs k * 2 ^ t) ∧ Hid (∀ j, j < W ∨ W + k + 1 ≤ j → us[j]?.getD 0 = 0) ∧ OwnW wr w1.heap.size w1.heap.size N us ∧ Below w1.heap.size w1 wr) (fun z _ => n + 1 - (intOf z).toNat)
  case atStart =>
    refine ⟨0, _, by omega, rfl, Wd.replicate _, ?_, ?_, fun j _ => replicate_zero _ j, HO.out, hbel⟩
    · show _ < _
      rw [replicate_zero]; exact two_pos t
    · show _ = _
      rw [segTo_succ, Nat.add_zero, replicate_zero]; simp [segTo, valTo]
  case round =>
    obtain ⟨k, us, hk, rfl, hwu, HC, HV, HK, ho, hb⟩ := hrel
    by_cases hlt : k < n + 1
    · obtain ⟨b1, o1, rfl, l1, cx⟩ := HCX.out k (by omega)
      have x1 : wr.cell? ⟨b1, o1 + k, none⟩ = some (.int .u32 (xs[k]?.getD 0)) := (hb.cell (p := ⟨b1, o1 + k, none⟩) l1).trans cx
      have y1 := ho.cell (W + k) (by omega)
      have f1 := ho.free (W + k)
      have bx := WX.out.at k
      have hlu := ho.len
      have bc := hwu.at (W + k)
      obtain ⟨u1, u2, u3⟩ := up_word _ t ht bx.1 bx.2
      obtain ⟨q0, q1, q2, q3⟩ := shl_word _ t ht bx.1 bx.2
      have hor := or_lo32 (us[W + k]?.getD 0) (xs[k]?.getD 0) t ht bc.1 HC.out bx.1 bx.2
      have c1 := HC.out
      have HTK : Hid (4294967296 ≤ xs[k]?.getD 0 * 2 ^ t → W + k + 1 < N) := fun hp => by
        by_cases hkn : k = n
        · subst hkn; exact HTOP.out _ rfl hp
        · omega
      have HST := hid (fun c lo hi p (hk : W + k + 1 < us.length) => up_step xs us W k (2 ^ t) c lo hi p hk)
      have HST0 := hid (fun c lo hi p => up_stay xs us W k (2 ^ t) c lo hi p (by omega) (HK.out _ (.inr (by omega))))
      obtain ⟨X, hX⟩ : ∃ X, xs[k]?.getD 0 = X := ⟨_, rfl⟩
      obtain ⟨c, hc⟩ : ∃ c, us[W + k]?.getD 0 = c := ⟨_, rfl⟩
      rw [hX] at x1 bx HST HST0 u1 u2 u3 q0 q1 hor HTK
      rw [hc] at y1 c1 bc HST HST0 hor
      obtain ⟨p, hp⟩ : ∃ p, X * 2 ^ t = p := ⟨_, rfl⟩
      rw [hp] at u1 u2 u3 q0 q1 hor HTK
      obtain ⟨lo, hlo⟩ : ∃ lo, p % 4294967296 = lo := ⟨_, rfl⟩
      obtain ⟨hi', hhi⟩ : ∃ hi', p / 4294967296 = hi' := ⟨_, rfl⟩
      have hpl : p = lo + hi' * 4294967296 := by omega
      rw [hlo] at u1 hor
      rw [hhi] at u2 u3
      have lo0 : 0 ≤ lo := by omega
      have lo1 : lo ≤ 4294967295 := by omega
      have hcl : c + lo ≤ 4294967295 := by omega
      have hi1 : hi' ≤ 4294967295 := by omega
      have HU3 := hid u3
      have p1 : p ≤ 18446744073709551615 := by omega
      have hkW : (M / 32 + (k : Int)) = ((W + k : Nat) : Int) := by omega
      have hkW1 : (((W + k : Nat) : Int) + 1) = ((W + k + 1 : Nat) : Int) := by omega
      have HWU := hid hwu
      have HOO := hid ho
      have HBO := hid hb
      by_cases hz : hi' = 0
      · have hzd : decide (0 < hi') = false := by simp; omega
        have elo : lo = p := by rw [hz] at hpl; omega
        subst elo
        have HSV := hid (HST0.out c lo hi' lo rfl hp hpl hz HV.out)
        have HKN : Hid (∀ j, j < W ∨ W + (k + 1) + 1 ≤ j → (us.set (W + k) (c + lo))[j]?.getD 0 = 0) := fun j hj => by
          rw [List.getElem?_set, if_neg (by omega)]
          exact HK.out j (by omega)
        have HCN : Hid ((us.set (W + k) (c + lo))[W + (k + 1)]?.getD 0 < 2 ^ t) := by
          show _ < _
          rw [show W + (k + 1) = W + k + 1 by omega, List.getElem?_set, if_neg (by omega), HK.out _ (.inr (by omega))]
          exact two_pos t
        have HWN := hid (HWU.out.set (W + k) (show 0 ≤ c + lo ∧ c + lo ≤ 4294967295 by omega))
        have HO1 := hid (HOO.out.set (W + k) (c + lo))
        have HB1 := hid (HBO.out.setCell (p := ⟨w1.heap.size, W + k, none⟩) (Nat.le_refl _) (.int .u32 (c + lo)))
        subst hz
        clear hlu ho hb HV HK HC cx hX hc hpl u1 u2 u3 q1 q2 q3 c1 HST HST0 HTK HOO HBO HWU
        go_wp2_with fail
        go_roundw
        case rel => exact ⟨k + 1, _, by omega, by go_num, HWN.out, HCN, HSV, HKN, HO1.out, HB1.out⟩
        case measure => simp [intOf]; omega
      · have hNk := HTK.out (by omega)
        have hzd : decide (0 < hi') = true := by simp; omega
        have HSV := hid (HST.out c lo hi' p (by omega) rfl hp hpl HV.out)
        have HOB2 : Hid (OwnW ((wr.setCell ⟨w1.heap.size, W + k, none⟩ (.int .u32 (c + lo))).setCell ⟨w1.heap.size, W + k + 1, none⟩ (.int .u32 hi')) w1.heap.size w1.heap.size N ((us.set (W + k) (c + lo)).set (W + k + 1) hi') ∧ Below w1.heap.size w1 ((wr.setCell ⟨w1.heap.size, W + k, none⟩ (.int .u32 (c + lo))).setCell ⟨w1.heap.size, W + k + 1, none⟩ (.int .u32 hi'))) :=
          ⟨(ho.set (W + k) _).set (W + k + 1) _, (hb.setCell (p := ⟨w1.heap.size, W + k, none⟩) (Nat.le_refl _) _).setCell (p := ⟨w1.heap.size, W + k + 1, none⟩) (Nat.le_refl _) _⟩
        have g1 := (ho.set (W + k) (c + lo)).cell (W + k + 1) (by omega)
        have g2 := (ho.set (W + k) (c + lo)).free (W + k + 1)
        have HKN : Hid (∀ j, j < W ∨ W + (k + 1) + 1 ≤ j → ((us.set (W + k) (c + lo)).set (W + k + 1) hi')[j]?.getD 0 = 0) := fun j hj => by
          rw [List.getElem?_set, if_neg (by omega), List.getElem?_set, if_neg (by omega)]
          exact HK.out j (by omega)
        have HCN : Hid (((us.set (W + k) (c + lo)).set (W + k + 1) hi')[W + (k + 1)]?.getD 0 < 2 ^ t) := by
          show _ < _
          rw [show W + (k + 1) = W + k + 1 by omega, List.getElem?_set, if_pos rfl, if_pos (by rw [List.length_set]; omega)]
          exact HU3.out
        have HWN := hid ((HWU.out.set (W + k) (show 0 ≤ c + lo ∧ c + lo ≤ 4294967295 by omega)).set (W + k + 1) (show 0 ≤ hi' ∧ hi' ≤ 4294967295 by omega))
        clear hlu ho hb HV HK HC cx hX hc hpl u1 u3 q1 q2 q3 c1 HST HST0 HTK HOO HBO HWU
        go_wp2_with fail
        go_roundw
        case rel => exact ⟨k + 1, _, by omega, by go_num, HWN.out, HCN, HSV, HKN, HOB2.out.1, HOB2.out.2⟩
        case measure => simp [intOf]; omega
    · obtain rfl : k = n + 1 := by omega
      have hlu := ho.len
      have HF : val us = val xs * 2 ^ t * 4294967296 ^ W := by
        rw [← valTo_stable us (W + (n + 1 + 1)) (by omega), valTo_seg us W (n + 1 + 1), HV.out, valTo_stable xs (n + 1) (by have := HL.out; omega), valTo_congr us [] W (fun j hj => by rw [HK.out j (.inl hj)]; rfl), valTo_stable [] _ (by simp), val_nil]
        omega
      have HT : Hid (Trimmed us) := by
        show sz us = us.length
        rw [sz_eq_iff]
        right
        intro h0
        obtain ⟨m, hm⟩ : ∃ m, us.length = m + 1 := ⟨N - 1, by omega⟩
        rw [hm, Nat.add_sub_cancel] at h0
        have v1 : val us = valTo us m := by
          rw [← valTo_stable us (m + 1) (by omega), valTo_succ, h0]; omega
        have v2 := (valTo_bounds hwu m).2
        have v3 := HBB.out.1
        have hn3 := HNB.out
        have hm3 := HM.out
        have p1 := two_pos t
        have p2 := pw_pos W
        have v4 : (2 : Int) ^ (bitsOf xs - 1) * 2 ^ t ≤ val xs * 2 ^ t := Int.mul_le_mul_of_nonneg_right v3 (Int.le_of_lt p1)
        have v5 : (2 : Int) ^ (bitsOf xs - 1) * 2 ^ t * 4294967296 ^ W ≤ val xs * 2 ^ t * 4294967296 ^ W := Int.mul_le_mul_of_nonneg_right v4 (Int.le_of_lt p2)
        rw [pw_two W, ← Int.pow_add, ← Int.pow_add, ← pw_two W, ← HF, v1] at v5
        rw [pw_two m] at v2
        have v6 : (2 : Int) ^ (32 * m) ≤ 2 ^ (bitsOf xs - 1 + t + 32 * W) := two_le (by omega)
        omega
      have HF' := hid HF
      have hNl : N = us.length := hlu.symm
      subst hNl
      clear HV HK HC HF hlu
      go_wp2_with fail
      go_ret
      exact ⟨us, rfl, ho, hwu, HT.out, HF'.out, hb⟩

end Go.Proofs.YtfppimlmebnaeaaGreatDoor

/- real.double, real.compare: a number doubled in place, two of as many words held against each other. -/
namespace Go.Proofs.YtfppimlmebnaeaaGreatDoor
open Go.RowKit
set_option linter.unusedVariables false

theorem or_dbl (x c : Int) (x0 : 0 ≤ x) (x1 : x ≤ 4294967295) (c0 : 0 ≤ c) (c1 : c ≤ 1) : bits BinOp.or IntKind.u32 (x * 2 % 4294967296) c = x * 2 % 4294967296 + c := by
  obtain ⟨X, rfl⟩ := Int.eq_ofNat_of_zero_le x0
  obtain ⟨C, rfl⟩ := Int.eq_ofNat_of_zero_le c0
  have e : (X : Int) * 2 % 4294967296 = ((X * 2 % 4294967296 : Nat) : Int) := by omega
  rw [e, u32_or_nat _ C (by omega) (by omega), nat_join 1 _ C (by omega) (by omega)]
  omega

theorem dbl_step (ys us : List Int) (k : Nat) (c x : Int) (hk : k < us.length) (hx : ys[k]?.getD 0 = x) (h : valTo us k + c * 4294967296 ^ k = 2 * valTo ys k) (x0 : 0 ≤ x) (x1 : x ≤ 4294967295) :
    valTo (us.set k (x * 2 % 4294967296 + c)) (k + 1) + x / 2147483648 * 4294967296 ^ (k + 1) = 2 * valTo ys (k + 1) := by
  rw [valTo_set us k _ hk, valTo_succ, hx, pw_succ]
  have e : x * 2 = x * 2 % 4294967296 + x / 2147483648 * 4294967296 := by omega
  generalize x * 2 % 4294967296 = lo at *
  generalize x / 2147483648 = hi at *
  generalize (4294967296 : Int) ^ k = P at *
  have e2 : x * 2 * P = (lo + hi * 4294967296) * P := by rw [e]
  have e3 : x * 2 * P = 2 * (x * P) := by rw [Int.mul_comm x 2, Int.mul_assoc]
  have e4 : (lo + hi * 4294967296) * P = lo * P + hi * (P * 4294967296) := by rw [Int.add_mul, Int.mul_assoc, Int.mul_comm 4294967296 P]
  rw [Int.add_mul, Int.mul_add]
  omega

set_option maxHeartbeats 1600000 in
set_option maxRecDepth 100000 in
theorem rdouble_any (base g n cap : Nat) (ys : List Int) (w : World) (ho : OwnC w base g n cap ys) (hwy : Wd ys) (hn : n ≤ 1048576) :
    Calls Tryz.prog 66 #[.slice (some ⟨g, 0, none⟩) n cap] w fun e w' => ∃ (zs : List Int) (c : Int), e = .returned (.tuple #[]) ∧ OwnC w' base g n cap zs ∧ Wd zs ∧ val zs + c * 4294967296 ^ n = 2 * val ys ∧ 0 ≤ c ∧ c ≤ 1 ∧ w.grownBy w' (some g) := by
  have hcap := ho.cap
  have hlen := ho.len
  have HLN := hid hlen
  clear hlen
  go_enter Tryz.func66, Tryz.ntmps66
  go_wp2_with fail
  go_loopw [2, 7] (fun cv z wr => ∃ (k : Nat) (c : Int) (us : List Int), k ≤ n ∧ z = .int .i64 k ∧ cv = .int .u32 c ∧ 0 ≤ c ∧ c ≤ 1 ∧ Wd us ∧ Hid (valTo us k + c * 4294967296 ^ k = 2 * valTo ys k) ∧ Hid (∀ j, k ≤ j → us[j]?.getD 0 = ys[j]?.getD 0) ∧ OwnC wr base g n cap us ∧ w.grownBy wr (some g)) (fun _ z _ => n - (intOf z).toNat)
  case atStart => exact ⟨0, 0, ys, by omega, rfl, rfl, by omega, by omega, hwy, show _ = _ by simp [valTo], fun _ _ => rfl, ho, World.grownBy.refl _ _⟩
  case round =>
    obtain ⟨k, c, us, hk, rfl, rfl, c0, c1, hwu, HV, HK, hou, hg⟩ := hrel
    by_cases hlt : k < n
    · have y1 := hou.cell k hlt
      have f1 := hou.free k
      have bu := hwu.at k
      have hlu := hou.len
      have hxy : ys[k]?.getD 0 = us[k]?.getD 0 := (HK.out k (Nat.le_refl _)).symm
      have HV' := hid (dbl_step ys us k c _ (by omega) hxy HV.out bu.1 bu.2)
      have hor := or_dbl (us[k]?.getD 0) c bu.1 bu.2 c0 c1
      have HK' : Hid (∀ j, k + 1 ≤ j → (us.set k (us[k]?.getD 0 * 2 % 4294967296 + c))[j]?.getD 0 = ys[j]?.getD 0) := fun j hj => by
        rw [List.getElem?_set, if_neg (by omega)]; exact HK.out j (by omega)
      have HO' := hid (hou.set k (us[k]?.getD 0 * 2 % 4294967296 + c)).1
      have HG' := hid (grown_trans hg (hou.set k (us[k]?.getD 0 * 2 % 4294967296 + c)).2)
      have HW' := hid (hwu.set k (show 0 ≤ us[k]?.getD 0 * 2 % 4294967296 + c ∧ us[k]?.getD 0 * 2 % 4294967296 + c ≤ 4294967295 by omega))
      generalize us[k]?.getD 0 = x at *
      have hx31 : x / 2147483648 ≤ 1 := by omega
      have hx30 : 0 ≤ x / 2147483648 := by omega
      clear hlu hou hg HV HK hxy hwu
      go_wp2_with fail
      go_roundw
      case rel => exact ⟨k + 1, x / 2147483648, us.set k (x * 2 % 4294967296 + c), by omega, by go_num, by go_num, hx30, hx31, HW'.out, HV', HK', HO'.out, HG'.out⟩
      case measure => simp [intOf]; omega
    · have hkn : k = n := by omega
      subst hkn
      have HF : Hid (val us + c * 4294967296 ^ k = 2 * val ys) := by
        show _ = _
        have e := HV.out
        rw [valTo_stable us k (by have := hou.len; omega), valTo_stable ys k (by have := HLN.out; omega)] at e
        exact e
      clear HV
      go_wp2_with fail
      go_end0
      exact ⟨us, c, rfl, hou, hwu, HF.out, c0, c1, hg⟩

theorem cmp_no {xs ys : List Int} {k : Nat} (hx : Wd xs) (hy : Wd ys) (h : ∀ j, k + 1 ≤ j → xs[j]?.getD 0 = ys[j]?.getD 0) (hlt : xs[k]?.getD 0 < ys[k]?.getD 0) : cmpI (val xs) (val ys) = -1 := cmpI_lt (val_lt_of hx hy k hlt (fun j hj => h j hj))
theorem cmp_yes {xs ys : List Int} {k : Nat} (hx : Wd xs) (hy : Wd ys) (h : ∀ j, k + 1 ≤ j → xs[j]?.getD 0 = ys[j]?.getD 0) (hlt : ys[k]?.getD 0 < xs[k]?.getD 0) : cmpI (val xs) (val ys) = 1 := cmpI_gt (val_lt_of hy hx k hlt (fun j hj => (h j hj).symm))

set_option maxHeartbeats 1600000 in
set_option maxRecDepth 100000 in
theorem rcompare_any (a : Option Addr) (n cap : Nat) (xs : List Int) (b : Option Addr) (cap' : Nat) (ys : List Int) (w : World) (h : Reads w w.heap.size a n cap xs) (g : Reads w w.heap.size b n cap' ys) (hn : n ≤ 1048576) :
    Calls Tryz.prog 51 #[.slice a n cap, .slice b n cap'] w fun e w' => e = .returned (.int .i64 (cmpI (val xs) (val ys))) ∧ Below w.heap.size w w' := by
  have HCX := hid h.cells
  have HCY := hid g.cells
  have HW := hid (And.intro h.2.1 g.2.1)
  have HZ : Hid (∀ j, n ≤ j → xs[j]?.getD 0 = ys[j]?.getD 0) := fun j hj => by
    have e1 := h.1
    have e2 := g.1
    rw [List.getElem?_eq_none (by omega), List.getElem?_eq_none (by omega)]
  have hp := h.2.2.2.1
  have hp' := g.2.2.2.1
  obtain ⟨cc, hcc⟩ : ∃ cc, cmpI (val xs) (val ys) = cc := ⟨_, rfl⟩
  have HCC := hid hcc
  rw [hcc]
  clear h g hcc
  go_enter Tryz.func51, Tryz.ntmps51
  go_wp2_with fail
  go_loopw [5] (fun z wr => ∃ k : Nat, k ≤ n ∧ z = .int .i64 ((k : Int) - 1) ∧ Hid (∀ j, k ≤ j → xs[j]?.getD 0 = ys[j]?.getD 0) ∧ Below w.heap.size w wr) (fun z _ => (intOf z + 1).toNat)
  case atStart => exact ⟨n, Nat.le_refl _, rfl, fun j hj => HZ.out j hj, Below.refl _ _⟩
  case round =>
    obtain ⟨k, hk, rfl, HE, hb⟩ := hrel
    rcases k with _ | k
    · have HV : Hid (cc = 0) := by
        show _ = _
        rw [← HCC.out]
        exact cmpI_eq (val_eq_of (fun j => HE.out j (Nat.zero_le _)))
      clear HE
      go_wp2_with fail
      go_ret
      exact ⟨ret_int HV.out.symm, hb⟩
    · have ek : (((k + 1 : Nat) : Int) - 1) = (k : Int) := by omega
      rw [ek]
      clear ek
      obtain ⟨g1, o1, rfl, l1, c1⟩ := HCX.out k (by omega)
      obtain ⟨g2, o2, rfl, l2, c2⟩ := HCY.out k (by omega)
      have x1 : wr.cell? ⟨g1, o1 + k, none⟩ = some (.int .u32 (xs[k]?.getD 0)) := (hb.cell (p := ⟨g1, o1 + k, none⟩) l1).trans c1
      have y1 : wr.cell? ⟨g2, o2 + k, none⟩ = some (.int .u32 (ys[k]?.getD 0)) := (hb.cell (p := ⟨g2, o2 + k, none⟩) l2).trans c2
      have HNO := hid (fun h => cmp_no HW.out.1 HW.out.2 HE.out h)
      have HYES := hid (fun h => cmp_yes HW.out.1 HW.out.2 HE.out h)
      have HEQ : Hid (xs[k]?.getD 0 = ys[k]?.getD 0 → ∀ j, k ≤ j → xs[j]?.getD 0 = ys[j]?.getD 0) := fun h j hj => by
        rcases Nat.lt_or_eq_of_le hj with g | g
        · exact HE.out j g
        · subst g; exact h
      have HB := hid hb
      generalize xs[k]?.getD 0 = x at *
      generalize ys[k]?.getD 0 = y at *
      clear c1 c2 HE hb HZ
      by_cases hlt : x < y
      · have HV := hid (HNO.out hlt)
        rw [HCC.out] at HV
        go_wp2_with fail
        go_quiet (fail)
        go_wp2_with fail
        go_ret
        exact ⟨ret_int HV.out.symm, bdn HB.out _⟩
      · by_cases hgt : y < x
        · have HV := hid (HYES.out hgt)
          rw [HCC.out] at HV
          go_wp2_with fail
          go_quiet (fail)
          go_wp2_with fail
          go_quiet (fail)
          go_wp2_with fail
          go_ret
          exact ⟨ret_int HV.out.symm, bdn (bdn HB.out _) _⟩
        · have HE' := hid (HEQ.out (by omega))
          go_wp2_with fail
          go_quiet (fail)
          go_wp2_with fail
          go_quiet (fail)
          go_wp2_with fail
          go_roundw
          case rel => exact ⟨k, by omega, rfl, HE', bdn HB.out _⟩
          case measure => simp [intOf]

end Go.Proofs.YtfppimlmebnaeaaGreatDoor

/- bits.Sub32, real.takeOff. -/
namespace Go.Proofs.YtfppimlmebnaeaaGreatDoor
open Go.RowKit
set_option linter.unusedVariables false

theorem top_bit {a : Nat} (h : a < 4294967296) : a / 2147483648 = (a.testBit 31).toNat := by
  rw [Nat.testBit_eq_decide_div_mod_eq]
  show a / 2147483648 = (decide (a / 2147483648 % 2 = 1)).toNat
  by_cases c : a / 2147483648 % 2 = 1
  · rw [decide_eq_true c]; show _ = 1; omega
  · rw [decide_eq_false c]; show _ = 0; omega
theorem bit_top {a : Nat} (h : a < 4294967296) : a.testBit 31 = decide (2147483648 ≤ a) := by
  rw [Nat.testBit_eq_decide_div_mod_eq]
  show decide (a / 2147483648 % 2 = 1) = _
  by_cases c : 2147483648 ≤ a
  · rw [decide_eq_true c, decide_eq_true (by omega)]
  · rw [decide_eq_false c, decide_eq_false (by omega)]

/-- What Sub32's last line tells. -/
theorem borrow_bit (x y d b : Nat) (hx : x < 4294967296) (hy : y < 4294967296) (hb : b ≤ 1) (hd : d = (x + 4294967296 + 4294967296 - y - b) % 4294967296) :
    (((4294967295 ^^^ x) &&& y) ||| ((4294967295 ^^^ (x ^^^ y)) &&& d)) / 2147483648 = (if x < y + b then 1 else 0) := by
  have d1 : d < 4294967296 := by omega
  have n1 : ∀ a : Nat, a < 4294967296 → 4294967295 ^^^ a < 4294967296 := fun a ha => Nat.xor_lt_two_pow (n := 32) (by omega) ha
  have x1 : x ^^^ y < 4294967296 := Nat.xor_lt_two_pow (n := 32) hx hy
  have a1 : ((4294967295 ^^^ x) &&& y) < 4294967296 := Nat.and_lt_two_pow (n := 32) _ hy
  have a2 : ((4294967295 ^^^ (x ^^^ y)) &&& d) < 4294967296 := Nat.and_lt_two_pow (n := 32) _ d1
  rw [top_bit (Nat.or_lt_two_pow (n := 32) a1 a2), Nat.testBit_or, Nat.testBit_and, Nat.testBit_and, Nat.testBit_xor, Nat.testBit_xor, Nat.testBit_xor, bit_top hx, bit_top hy, bit_top d1, show Nat.testBit 4294967295 31 = true from by decide]
  by_cases cx : 2147483648 ≤ x
  · rw [decide_eq_true cx]
    by_cases cy : 2147483648 ≤ y
    · rw [decide_eq_true cy]
      by_cases cd : 2147483648 ≤ d
      · rw [decide_eq_true cd, if_pos (by omega)]; rfl
      · rw [decide_eq_false cd, if_neg (by omega)]; rfl
    · rw [decide_eq_false cy, if_neg (by omega)]
      cases decide (2147483648 ≤ d) <;> rfl
  · rw [decide_eq_false cx]
    by_cases cy : 2147483648 ≤ y
    · rw [decide_eq_true cy, if_pos (by omega)]
      cases decide (2147483648 ≤ d) <;> rfl
    · rw [decide_eq_false cy]
      by_cases cd : 2147483648 ≤ d
      · rw [decide_eq_true cd, if_pos (by omega)]; rfl
      · rw [decide_eq_false cd, if_neg (by omega)]; rfl

theorem sub32_out (x y b : Int) (x0 : 0 ≤ x) (x1 : x ≤ 4294967295) (y0 : 0 ≤ y) (y1 : y ≤ 4294967295) (b0 : 0 ≤ b) (b1 : b ≤ 1) :
    bits BinOp.or IntKind.u32 (bits BinOp.and IntKind.u32 (bits BinOp.xor IntKind.u32 IntKind.u32.max x) y) (bits BinOp.and IntKind.u32 (bits BinOp.xor IntKind.u32 IntKind.u32.max (bits BinOp.xor IntKind.u32 x y)) ((x - y - b) % 4294967296)) / 2147483648 = (if x < y + b then 1 else 0) := by
  obtain ⟨X, rfl⟩ := Int.eq_ofNat_of_zero_le x0
  obtain ⟨Y, rfl⟩ := Int.eq_ofNat_of_zero_le y0
  obtain ⟨B, rfl⟩ := Int.eq_ofNat_of_zero_le b0
  have em : IntKind.u32.max = ((4294967295 : Nat) : Int) := by decide
  have ed : ((X : Int) - (Y : Int) - (B : Int)) % 4294967296 = (((X + 4294967296 + 4294967296 - Y - B) % 4294967296 : Nat) : Int) := by omega
  have hx : X < 4294967296 := by omega
  have hy : Y < 4294967296 := by omega
  have k := borrow_bit X Y _ B hx hy (by omega) rfl
  have hd : (X + 4294967296 + 4294967296 - Y - B) % 4294967296 < 4294967296 := Nat.mod_lt _ (by decide)
  rw [em, ed]
  generalize (X + 4294967296 + 4294967296 - Y - B) % 4294967296 = D at *
  have q1 : 4294967295 ^^^ X < 4294967296 := Nat.xor_lt_two_pow (n := 32) (by omega) hx
  have q2 : X ^^^ Y < 4294967296 := Nat.xor_lt_two_pow (n := 32) hx hy
  have q3 : 4294967295 ^^^ (X ^^^ Y) < 4294967296 := Nat.xor_lt_two_pow (n := 32) (by omega) q2
  have q4 : (4294967295 ^^^ X) &&& Y < 4294967296 := Nat.and_lt_two_pow (n := 32) _ hy
  have q5 : (4294967295 ^^^ (X ^^^ Y)) &&& D < 4294967296 := Nat.and_lt_two_pow (n := 32) _ hd
  rw [u32_xor_nat 4294967295 X (by omega) hx, u32_and_nat _ Y q1 hy, u32_xor_nat X Y hx hy, u32_xor_nat 4294967295 _ (by omega) q2, u32_and_nat _ D q3 hd, u32_or_nat _ _ q4 q5]
  generalize ((4294967295 ^^^ X) &&& Y) ||| ((4294967295 ^^^ (X ^^^ Y)) &&& D) = R at *
  by_cases c : X < Y + B
  · rw [if_pos c] at k
    rw [if_pos (by omega)]
    omega
  · rw [if_neg c] at k
    rw [if_neg (by omega)]
    omega

set_option maxHeartbeats 800000 in
set_option maxRecDepth 100000 in
theorem sub32_any (x y b : Int) (w : World) (x0 : 0 ≤ x) (x1 : x ≤ 4294967295) (y0 : 0 ≤ y) (y1 : y ≤ 4294967295) (b0 : 0 ≤ b) (b1 : b ≤ 1) :
    Calls Tryz.prog 82 #[.int .u32 x, .int .u32 y, .int .u32 b] w fun e w' => e = .returned (.tuple #[.int .u32 ((x - y - b) % 4294967296), .int .u32 (if x < y + b then 1 else 0)]) ∧ w' = w := by
  have HO := hid (sub32_out x y b x0 x1 y0 y1 b0 b1)
  obtain ⟨o, ho⟩ : ∃ o : Int, (if x < y + b then 1 else 0) = o := ⟨_, rfl⟩
  rw [ho] at HO ⊢
  clear ho
  go_enter Tryz.func82, Tryz.ntmps82
  go_wp2_with fail
  all_goals
    go_returns
    exact ⟨congrArg (fun z => Ending.returned (.tuple #[.int .u32 ((x - y - b) % 4294967296), .int .u32 z])) HO.out, rfl⟩

theorem grown_drew {w W V : World} {r : Option Nat} (h : w.grownBy W r) (ho : V.os = W.os := by rfl) (ht : V.tape = W.tape := by rfl) (hp : V.output = W.output := by rfl) (hh : V.heap = W.heap := by rfl) : w.grownBy V r :=
  ⟨ho.trans h.os, ht.trans h.tape, hp.trans h.output, by rw [hh]; exact h.size, fun k hk hn => by rw [hh]; exact h.block k hk hn⟩
theorem grown_cell {w W : World} {g b j : Nat} (h : w.grownBy W (some g)) (hb : b < w.heap.size) (hne : b ≠ g) : W.cell? ⟨b, j, none⟩ = w.cell? ⟨b, j, none⟩ := by
  unfold World.cell?
  rw [h.block b hb (fun e => hne (Option.some.inj e))]
/-- One word taken off. -/
theorem off_step (xs ys us : List Int) (k : Nat) (c x y d o : Int) (hk : k < us.length) (hx : xs[k]?.getD 0 = x) (hy : ys[k]?.getD 0 = y) (hd : x - y - c = d - o * 4294967296) (h : valTo us k + valTo ys k = valTo xs k + c * 4294967296 ^ k) :
    valTo (us.set k d) (k + 1) + valTo ys (k + 1) = valTo xs (k + 1) + o * 4294967296 ^ (k + 1) := by
  rw [valTo_set us k _ hk, valTo_succ, valTo_succ, hx, hy, pw_succ]
  generalize (4294967296 : Int) ^ k = P at *
  have e : (x - y - c) * P = (d - o * 4294967296) * P := by rw [hd]
  rw [Int.sub_mul, Int.sub_mul, Int.sub_mul, Int.mul_assoc o, Int.mul_comm 4294967296 P] at e
  omega

set_option maxHeartbeats 1600000 in
set_option maxRecDepth 100000 in
theorem takeOff_any (base g n cap : Nat) (xs : List Int) (b : Option Addr) (cap' : Nat) (ys : List Int) (w : World) (ho : OwnC w base g n cap xs) (hwx : Wd xs) (hy : Reads w w.heap.size b n cap' ys) (hne : ∀ a, b = some a → a.block ≠ g) (hn : n ≤ 1048576) :
    Calls Tryz.prog 67 #[.slice (some ⟨g, 0, none⟩) n cap, .slice b n cap'] w fun e w' => ∃ (zs : List Int) (c : Int), e = .returned (.tuple #[]) ∧ OwnC w' base g n cap zs ∧ Wd zs ∧ val zs + val ys = val xs + c * 4294967296 ^ n ∧ 0 ≤ c ∧ c ≤ 1 ∧ w.grownBy w' (some g) := by
  have hcap := ho.cap
  have HLN := hid ho.len
  have HCY := hid hy.cells
  have HWY := hid hy.2.1
  have HLY := hid hy.1
  have hp := hy.2.2.2.1
  clear hy
  go_enter Tryz.func67, Tryz.ntmps67
  go_wp2_with fail
  go_loopw [4, 8] (fun cv z wr => ∃ (k : Nat) (c : Int) (us : List Int), k ≤ n ∧ z = .int .i64 k ∧ cv = .int .u32 c ∧ 0 ≤ c ∧ c ≤ 1 ∧ Wd us ∧ Hid (valTo us k + valTo ys k = valTo xs k + c * 4294967296 ^ k) ∧ Hid (∀ j, k ≤ j → us[j]?.getD 0 = xs[j]?.getD 0) ∧ OwnC wr base g n cap us ∧ w.grownBy wr (some g)) (fun _ z _ => n - (intOf z).toNat)
  case atStart => exact ⟨0, 0, xs, by omega, rfl, rfl, by omega, by omega, hwx, show _ = _ by simp [valTo], fun _ _ => rfl, ho, World.grownBy.refl _ _⟩
  case round =>
    obtain ⟨k, c, us, hk, rfl, rfl, c0, c1, hwu, HV, HK, hou, hg⟩ := hrel
    by_cases hlt : k < n
    · obtain ⟨b1, o1, rfl, l1, cy⟩ := HCY.out k hlt
      have hb1 : b1 ≠ g := hne _ rfl
      have y2 : wr.cell? ⟨b1, o1 + k, none⟩ = some (.int .u32 (ys[k]?.getD 0)) := (grown_cell hg l1 hb1).trans cy
      have y1 := hou.cell k hlt
      have f1 := hou.free k
      have bu := hwu.at k
      have by' := HWY.out.at k
      have hlu := hou.len
      have hxu : xs[k]?.getD 0 = us[k]?.getD 0 := (HK.out k (Nat.le_refl _)).symm
      have HST := hid (fun d o hd => off_step xs ys us k c _ _ d o (by omega) hxu rfl hd HV.out)
      have HKN : Hid (∀ d j, k + 1 ≤ j → (us.set k d)[j]?.getD 0 = xs[j]?.getD 0) := fun d j hj => by
        rw [List.getElem?_set, if_neg (by omega)]; exact HK.out j (by omega)
      have HOU := hid (fun d => hou.set k d)
      have HGR := hid hg
      have HWU := hid hwu
      generalize us[k]?.getD 0 = x at *
      generalize ys[k]?.getD 0 = y at *
      obtain ⟨o, hoo⟩ : ∃ o : Int, (if x < y + c then 1 else 0) = o := ⟨_, rfl⟩
      obtain ⟨d, hdd⟩ : ∃ d : Int, (x - y - c) % 4294967296 = d := ⟨_, rfl⟩
      have HS := hid (fun V => sub32_any x y c V bu.1 bu.2 by'.1 by'.2 c0 c1)
      rw [hoo, hdd] at HS
      have HDO : Hid (x - y - c = d - o * 4294967296 ∧ 0 ≤ o ∧ o ≤ 1 ∧ 0 ≤ d ∧ d ≤ 4294967295) := by
        by_cases cc : x < y + c
        · rw [if_pos cc] at hoo; refine ⟨?_, ?_, ?_, ?_, ?_⟩ <;> omega
        · rw [if_neg cc] at hoo; refine ⟨?_, ?_, ?_, ?_, ?_⟩ <;> omega
      clear hlu hou hg HV HK hxu hwu cy hoo hdd
      go_wp2_with fail
      go_region_with (go_at_call 82; with_reducible refine Calls.mono (HS.out _) ?_; rintro e w5 ⟨rfl, rfl⟩)
      all_goals
        go_wp2_with fail
        go_roundw
        case rel => exact ⟨k + 1, o, us.set k d, by omega, by go_num, rfl, HDO.out.2.1, HDO.out.2.2.1, HWU.out.set k ⟨HDO.out.2.2.2.1, HDO.out.2.2.2.2⟩, HST.out d o HDO.out.1, HKN.out d, (HOU.out d).1, grown_drew (grown_trans HGR.out (HOU.out d).2)⟩
        case measure => simp [intOf]; omega
    · have hkn : k = n := by omega
      subst hkn
      have HF : Hid (val us + val ys = val xs + c * 4294967296 ^ k) := by
        show _ = _
        have e := HV.out
        rw [valTo_stable us k (by have := hou.len; omega), valTo_stable ys k (by have := HLY.out; omega), valTo_stable xs k (by have := HLN.out; omega)] at e
        exact e
      clear HV
      go_wp2_with fail
      go_end0
      exact ⟨us, c, rfl, hou, hwu, HF.out, c0, c1, hg⟩

end Go.Proofs.YtfppimlmebnaeaaGreatDoor

/- Whole numbers, a sign and words: whole.Check, checkBoth, formed, told, Of, Int64; slackwaterkit.SameWhole: of every number whose words can be read. -/
namespace Go.Proofs.YtfppimlmebnaeaaGreatDoor
open Go.RowKit
set_option linter.unusedVariables false

/-- What whole.Check tells. -/
def wchk (n : Bool) (xs : List Int) : Int := if 2048 < xs.length then 3 else if chk xs = 0 ∧ (n = false ∨ 0 < xs.length) then 0 else 11
/-- The number that a sign and words are. -/
def wval (n : Bool) (xs : List Int) : Int := if n then -(val xs) else val xs
theorem wchk_ok {n : Bool} {xs : List Int} (h : wchk n xs = 0) : xs.length ≤ 2048 ∧ Trimmed xs ∧ (n = false ∨ 0 < xs.length) := by
  unfold wchk at h
  by_cases h1 : 2048 < xs.length
  · rw [if_pos h1] at h; omega
  · rw [if_neg h1] at h
    by_cases h2 : chk xs = 0 ∧ (n = false ∨ 0 < xs.length)
    · exact ⟨by omega, (chk_ok h2.1).2, h2.2⟩
    · rw [if_neg h2] at h; omega
theorem wchk_good {n : Bool} {xs : List Int} (hl : xs.length ≤ 2048) (ht : Trimmed xs) (hn : n = false ∨ 0 < xs.length) : wchk n xs = 0 := by
  unfold wchk
  rw [if_neg (by omega), if_pos ⟨chk_good (by omega) ht, hn⟩]

set_option maxHeartbeats 800000 in
set_option maxRecDepth 100000 in
theorem wcheck_any (n : Bool) (v : Value) (xs : List Int) (w : World) (h : Sl w v xs) (hn : xs.length ≤ 281474976710656) :
    Calls Tryz.prog 62 #[.agg #[.bool n, v]] w fun e w' => e = .returned (.int .i64 (wchk n xs)) ∧ Below w.heap.size w w' := by
  have HB := hid (alloc_later w (.cells #[.bool n, v] 79))
  have HC := hid (check_sl v xs _ (h.later HB.out) hn)
  obtain ⟨a, cap, rfl, hr⟩ := h
  clear hr
  obtain ⟨k, hk⟩ : ∃ k, xs.length = k := ⟨_, rfl⟩
  by_cases h1 : 2048 < k
  · have HW : Hid (wchk n xs = 3) := by show _ = _; unfold wchk; rw [if_pos (by omega)]
    rw [hk] at HB HC ⊢
    have h1' : (2048 : Int) < (k : Int) := by omega
    clear hk
    go_enter Tryz.func62, Tryz.ntmps62
    go_wp2_with fail
    go_ret
    exact ⟨ret_int HW.out.symm, HB.out⟩
  · have h1' : ¬ (2048 : Int) < (k : Int) := by omega
    by_cases h2 : chk xs = 0
    · rw [h2] at HC
      cases n with
      | false =>
        have HW : Hid (wchk false xs = 0) := by show _ = _; unfold wchk; rw [if_neg (by omega), if_pos ⟨h2, .inl rfl⟩]
        rw [hk] at HB HC ⊢
        clear hk h2
        go_enter Tryz.func62, Tryz.ntmps62
        go_wp2_with fail
        refine Calls.mono HC.out ?_
        rintro e w' ⟨rfl, rfl⟩
        go_wp2_with fail
        go_ret
        exact ⟨ret_int HW.out.symm, HB.out⟩
      | true =>
        rcases Nat.eq_zero_or_pos k with h3 | h3
        · have HW : Hid (wchk true xs = 11) := by
            show _ = _
            unfold wchk
            rw [if_neg (by omega), if_neg (fun h => h.2.elim (fun e => by cases e) (fun e => by omega))]
          rw [hk] at HB HC ⊢
          clear hk h2
          subst h3
          go_enter Tryz.func62, Tryz.ntmps62
          go_wp2_with fail
          refine Calls.mono HC.out ?_
          rintro e w' ⟨rfl, rfl⟩
          go_wp2_with fail
          go_ret
          exact ⟨ret_int HW.out.symm, HB.out⟩
        · have HW : Hid (wchk true xs = 0) := by show _ = _; unfold wchk; rw [if_neg (by omega), if_pos ⟨h2, .inr (by omega)⟩]
          rw [hk] at HB HC ⊢
          have h3' : ((k : Int) == 0) = false := by simp; omega
          clear hk h2
          go_enter Tryz.func62, Tryz.ntmps62
          go_wp2_with fail
          refine Calls.mono HC.out ?_
          rintro e w' ⟨rfl, rfl⟩
          go_wp2_with fail
          go_ret
          exact ⟨ret_int HW.out.symm, HB.out⟩
    · have HW : Hid (wchk n xs = 11) := by show _ = _; unfold wchk; rw [if_neg (by omega), if_neg (fun h => h2 h.1)]
      have hne : (chk xs != 0) = true := by simp [h2]
      obtain ⟨c, hc⟩ : ∃ c, chk xs = c := ⟨_, rfl⟩
      rw [hc] at HC hne
      rw [hk] at HB HC ⊢
      clear hk h2 hc
      go_enter Tryz.func62, Tryz.ntmps62
      go_wp2_with fail
      refine Calls.mono HC.out ?_
      rintro e w' ⟨rfl, rfl⟩
      go_wp2_with fail
      go_ret
      exact ⟨ret_int HW.out.symm, HB.out⟩

/-- What checkBoth tells. -/
def wboth (n : Bool) (xs : List Int) (m : Bool) (ys : List Int) : Int := if wchk n xs = 0 then wchk m ys else wchk n xs
theorem wboth_good {n m : Bool} {xs ys : List Int} (h : wchk n xs = 0) (g : wchk m ys = 0) : wboth n xs m ys = 0 := by unfold wboth; rw [if_pos h, g]
theorem wboth_ok {n m : Bool} {xs ys : List Int} (h : wboth n xs m ys = 0) : wchk n xs = 0 ∧ wchk m ys = 0 := by
  unfold wboth at h
  by_cases c : wchk n xs = 0
  · rw [if_pos c] at h; exact ⟨c, h⟩
  · rw [if_neg c] at h; exact absurd h c

set_option maxHeartbeats 800000 in
set_option maxRecDepth 100000 in
theorem formed_any (n : Bool) (a : Option Addr) (k cap : Nat) (w : World) :
    Calls Tryz.prog 63 #[.bool n, .slice a k cap] w fun e w' => e = .returned (.agg #[.bool (n && decide (0 < k)), .slice a k cap]) ∧ Below w.heap.size w w' := by
  have HB := hid (alloc_later w (.cells #[.bool (n && decide (0 < k)), .slice a k cap] 79))
  cases n with
  | false =>
    go_enter Tryz.func63, Tryz.ntmps63
    go_wp2_with fail
    go_returns
    exact ⟨rfl, HB.out⟩
  | true =>
    by_cases hk : 0 < k
    · have hk' : (0 : Int) < (k : Int) := by omega
      have hd : decide (0 < k) = true := decide_eq_true hk
      rw [hd] at HB ⊢
      clear hd
      go_enter Tryz.func63, Tryz.ntmps63
      go_wp2_with fail
      go_returns
      exact ⟨rfl, HB.out⟩
    · obtain rfl : k = 0 := by omega
      go_enter Tryz.func63, Tryz.ntmps63
      go_wp2_with fail
      go_returns
      exact ⟨rfl, HB.out⟩
end Go.Proofs.YtfppimlmebnaeaaGreatDoor

/- Whole numbers: whole.told, Of, Int64; slackwaterkit.SameWhole; slackwaterlaw02.is, of: of every number whose words can be read. -/
namespace Go.Proofs.YtfppimlmebnaeaaGreatDoor
open Go.RowKit
set_option linter.unusedVariables false

/-- The cells of a struct of two that stood when a callee began. -/
theorem res_box {X w1 : World} {b t : Nat} {v0 v1 : Value} (hX : Box X b t #[v0, v1]) (hb : Below X.heap.size X w1) : w1.cell? ⟨b, 0, none⟩ = some v0 ∧ w1.cell? ⟨b, 1, none⟩ = some v1 ∧ w1.frozen? ⟨b, 0, none⟩ = false ∧ w1.frozen? ⟨b, 1, none⟩ = false := by
  have h := hX.later hb hX.lt
  exact ⟨h.cell 0, h.cell 1, h.free 0, h.free 1⟩
theorem below_put2 {B : Nat} {a w : World} (h : Below B a w) (b : Nat) (hb : B ≤ b) (v0 v1 : Value) : Below B a ((w.setCell ⟨b, 0, none⟩ v0).setCell ⟨b, 1, none⟩ v1) :=
  (h.setCell (p := ⟨b, 0, none⟩) hb _).setCell (p := ⟨b, 1, none⟩) hb _

theorem grown_set (w : World) (p : Addr) (v : Value) : w.grownBy (w.setCell p v) (some p.block) := ⟨rfl, rfl, rfl, by simp [World.setCell], fun k hk hne => Below.heap_setCell w p v k (fun e => hne (by rw [e]))⟩
theorem own_put2 {w : World} {base e n : Nat} {v : Value} {xs : List Value} (h : w.ownsRow base e 1 v n xs) (b : Nat) (hb : ∀ g, v.ownBlock = some g → g ≠ b) (v0 v1 : Value) : ((w.setCell ⟨b, 0, none⟩ v0).setCell ⟨b, 1, none⟩ v1).ownsRow base e 1 v n xs := by
  have hne : v.ownBlock = none ∨ v.ownBlock ≠ some b := by
    cases hv : v.ownBlock with
    | none => exact .inl rfl
    | some g => right; intro e; exact hb g hv (Option.some.inj e)
  exact World.ownsRow.kept (World.ownsRow.kept h (grown_set w ⟨b, 0, none⟩ v0) hne) (grown_set _ ⟨b, 1, none⟩ v1) hne

/-- What told tells. -/
def toldV (n : Bool) (a : Option Addr) (k cap : Nat) (e : Int) : Value := if 2048 < k then .tuple #[.agg #[.bool false, .slice none 0 0], .int .i64 3] else if e = 0 then .tuple #[.agg #[.bool (n && decide (0 < k)), .slice a k cap], .int .i64 0] else .tuple #[.agg #[.bool false, .slice none 0 0], .int .i64 e]

/-- A whole number in new memory. -/
def WIs (w : World) (t : Int) (x : Ending) (w' : World) : Prop := ∃ n v zs, x = .returned (.agg #[.bool n, v]) ∧ w'.ownsRow w.heap.size 62 1 v zs.length (zs.map (Value.int .u32)) ∧ Wd zs ∧ Trimmed zs ∧ zs.length ≤ 2 ∧ (n = false ∨ 0 < zs.length) ∧ wval n zs = t ∧ Below w.heap.size w w'

theorem of_val (x : Int) (h0 : 0 ≤ x) (h1 : x ≤ 18446744073709551615) : val (trimmed [x % 4294967296, x / 4294967296]) = x := by
  rw [val_trimmed, val_two]; omega

set_option maxHeartbeats 1600000 in
set_option maxRecDepth 100000 in
theorem wof_any (x : Int) (w : World) (h0 : -9223372036854775808 ≤ x) (h1 : x ≤ 9223372036854775807) :
    Calls Tryz.prog 46 #[.int .i64 x] w (WIs w x) := by
  have HB := hid (alloc_later w (.cells #[.bool false, .slice none 0 0] 79))
  obtain ⟨y, hy⟩ : ∃ y : Int, y = (x.natAbs : Int) := ⟨_, rfl⟩
  have y0 : 0 ≤ y ∧ y ≤ 18446744073709551615 := by omega
  have HO := hid (of_any y (w.alloc (.cells #[.bool false, .slice none 0 0] 79)) y0.1 y0.2)
  have HV := hid (of_val y y0.1 y0.2)
  have hw := of_wd y y0.1 y0.2
  have HT := hid (Trimmed.trimmed [y % 4294967296, y / 4294967296])
  have HWD := hid hw.trimmed
  have HLE : Hid (sz [y % 4294967296, y / 4294967296] ≤ 2) := sz_le _
  have HLN := hid (length_trimmed [y % 4294967296, y / 4294967296])
  by_cases hx : x < 0
  · have hyx : y = -x := by omega
    have hc : IntKind.u64.wrap x = 18446744073709551616 + x := by rw [IntKind.wrap_u64]; omega
    have hc2 : IntKind.u64.wrap (-(18446744073709551616 + x)) = y := by rw [IntKind.wrap_u64]; omega
    have HYX := hid hyx
    generalize trimmed [y % 4294967296, y / 4294967296] = zs at *
    generalize sz [y % 4294967296, y / 4294967296] = k at *
    clear hy hyx hw
    go_enter Tryz.func46, Tryz.ntmps46
    go_wp2_with fail
    refine Calls.mono HO.out ?_
    rintro e w1 ⟨v1, rfl, o1, hb1⟩
    obtain ⟨a1, c1, hv1⟩ := own_slice' o1
    subst hv1
    have HF := hid (formed_any true a1 k c1 w1)
    have hs1 := hb1.size
    have HO1 := hid o1
    obtain ⟨nb, hnb⟩ : ∃ nb, (true && decide (0 < k)) = nb := ⟨_, rfl⟩
    rw [hnb] at HF
    have HNB := hid hnb
    clear o1 hnb HO
    go_wp2_with fail
    refine Calls.mono HF.out ?_
    rintro e w2 ⟨rfl, hb2⟩
    obtain ⟨r0, r1, f0, f1⟩ := res_box (Box.made w _ _) (bt hb1 hb2)
    have HBW := hid (bt HB.out (bt hb1 hb2))
    have HO2 := hid (owns_later HO1.out hb2)
    clear hb1 hb2
    go_wp2_with fail
    refine bodyPost_ret (v := .agg #[.bool nb, .slice a1 k c1]) (by simp [results, Tryz.results46, go_sem, r0, r1]) rfl ?_
    refine ⟨nb, _, zs, rfl, ?_, HWD.out, HT.out, by rw [HLN.out]; exact HLE.out, ?_, ?_, below_put2 HBW.out _ (Nat.le_refl _) _ _⟩
    · rw [HLN.out]
      exact owns_base (own_put2 HO2.out w.heap.size (fun g hg => by have := (World.ownsRow.lt HO2.out g hg).1; simp at this; omega) _ _) (by simp)
    · rw [← HNB.out, HLN.out]; by_cases c : 0 < k <;> simp [c]
    · have hkp : 0 < k := by
        by_cases c : 0 < k
        · exact c
        · have e0 : zs = [] := List.eq_nil_of_length_eq_zero (by rw [HLN.out]; omega)
          have := HV.out
          rw [e0, val_nil] at this
          have := HYX.out
          omega
      rw [← HNB.out, show (true && decide (0 < k)) = true by simp [hkp]]
      show -(val zs) = x
      rw [HV.out, HYX.out]; omega
  · have hyx : y = x := by omega
    have hc : IntKind.u64.wrap x = y := by rw [IntKind.wrap_u64]; omega
    have HYX := hid hyx
    generalize trimmed [y % 4294967296, y / 4294967296] = zs at *
    generalize sz [y % 4294967296, y / 4294967296] = k at *
    clear hy hyx hw
    go_enter Tryz.func46, Tryz.ntmps46
    go_wp2_with fail
    refine Calls.mono HO.out ?_
    rintro e w1 ⟨v1, rfl, o1, hb1⟩
    obtain ⟨a1, c1, hv1⟩ := own_slice' o1
    subst hv1
    have HF := hid (formed_any false a1 k c1 w1)
    have hs1 := hb1.size
    have HO1 := hid o1
    obtain ⟨nb, hnb⟩ : ∃ nb, (false && decide (0 < k)) = nb := ⟨_, rfl⟩
    rw [hnb] at HF
    have HNB := hid hnb
    clear o1 hnb HO
    go_wp2_with fail
    refine Calls.mono HF.out ?_
    rintro e w2 ⟨rfl, hb2⟩
    obtain ⟨r0, r1, f0, f1⟩ := res_box (Box.made w _ _) (bt hb1 hb2)
    have HBW := hid (bt HB.out (bt hb1 hb2))
    have HO2 := hid (owns_later HO1.out hb2)
    clear hb1 hb2
    go_wp2_with fail
    refine bodyPost_ret (v := .agg #[.bool nb, .slice a1 k c1]) (by simp [results, Tryz.results46, go_sem, r0, r1]) rfl ?_
    refine ⟨nb, _, zs, rfl, ?_, HWD.out, HT.out, by rw [HLN.out]; exact HLE.out, ?_, ?_, below_put2 HBW.out _ (Nat.le_refl _) _ _⟩
    · rw [HLN.out]
      exact owns_base (own_put2 HO2.out w.heap.size (fun g hg => by have := (World.ownsRow.lt HO2.out g hg).1; simp at this; omega) _ _) (by simp)
    · left; rw [← HNB.out]; rfl
    · rw [← HNB.out]
      show val zs = x
      rw [HV.out, HYX.out]

/-- What Int64 tells. -/
def i64of (n : Bool) (xs : List Int) : Int × Bool := if wchk n xs = 0 ∧ -9223372036854775808 ≤ wval n xs ∧ wval n xs ≤ 9223372036854775807 then (wval n xs, true) else (0, false)
end Go.Proofs.YtfppimlmebnaeaaGreatDoor

/- Whole numbers: whole.Int64, slackwaterkit.SameWhole, slackwaterlaw02.of, slackwaterlaw02.is: of every number whose words can be read. -/
namespace Go.Proofs.YtfppimlmebnaeaaGreatDoor
open Go.RowKit
set_option linter.unusedVariables false

theorem u64of_bounds {xs : List Int} (hw : Wd xs) : 0 ≤ u64of xs ∧ u64of xs ≤ 18446744073709551615 := by
  unfold u64of
  by_cases h : sz xs ≤ 2
  · rw [if_pos h]
    have h1 := val_lt hw.trimmed
    rw [length_trimmed, val_trimmed] at h1
    have h2 : (4294967296 : Int) ^ sz xs ≤ 4294967296 ^ 2 := pw_le h
    have h3 := val_nonneg hw
    omega
  · rw [if_neg h]; omega
theorem big_val {xs : List Int} (hw : Wd xs) (h : 2 < sz xs) : 18446744073709551616 ≤ val xs := by
  have h1 := val_ge hw.trimmed (Trimmed.trimmed xs) (by rw [length_trimmed]; omega)
  rw [length_trimmed, val_trimmed] at h1
  have h2 : (4294967296 : Int) ^ 2 ≤ 4294967296 ^ (sz xs - 1) := pw_le (by omega)
  omega
theorem i64of_no {n : Bool} {xs : List Int} (h : ¬ (wchk n xs = 0 ∧ -9223372036854775808 ≤ wval n xs ∧ wval n xs ≤ 9223372036854775807)) : i64of n xs = (0, false) := by unfold i64of; rw [if_neg h]
theorem i64of_yes {n : Bool} {xs : List Int} (h : wchk n xs = 0 ∧ -9223372036854775808 ≤ wval n xs ∧ wval n xs ≤ 9223372036854775807) : i64of n xs = (wval n xs, true) := by unfold i64of; rw [if_pos h]
theorem ret_i64 {a : Int} {p : Bool} {r : Int × Bool} (h : r = (a, p)) : Ending.returned (.tuple #[.int .i64 a, .bool p]) = .returned (.tuple #[.int .i64 r.1, .bool r.2]) := by rw [h]

end Go.Proofs.YtfppimlmebnaeaaGreatDoor

/- Whole numbers: whole.unlike, difference, sum, Add: of every number whose words can be read. -/
namespace Go.Proofs.YtfppimlmebnaeaaGreatDoor
open Go.RowKit
set_option linter.unusedVariables false

/-- What a number of at most 2,048 words is below. -/
def wlim : Int := 4294967296 ^ 2048
theorem wlim_pos : 0 < wlim := pw_pos 2048
/-- What a call tells that may refuse: e is the error of what is handed in, t the number. -/
structure WTells (e t : Int) (n : Bool) (zs : List Int) (code : Int) : Prop where
  wd : Wd zs
  trim : Trimmed zs
  sign : n = false ∨ 0 < zs.length
  len : zs.length ≤ 2048
  bad : e ≠ 0 → n = false ∧ zs = [] ∧ code = e
  long : e = 0 → (wlim ≤ t ∨ t ≤ -wlim) → n = false ∧ zs = [] ∧ code = 3
  good : e = 0 → -wlim < t → t < wlim → code = 0 ∧ wval n zs = t
def WTold (w : World) (e t : Int) (x : Ending) (w' : World) : Prop :=
  ∃ n v zs code, x = .returned (.tuple #[.agg #[.bool n, v], .int .i64 code]) ∧ w'.ownsRow w.heap.size 62 1 v zs.length (zs.map (Value.int .u32)) ∧ WTells e t n zs code ∧ Below w.heap.size w w'
theorem WTells.err {e t : Int} (h : e ≠ 0) : WTells e t false [] e := ⟨Wd.nil, Trimmed.nil, .inl rfl, by simp, fun _ => ⟨rfl, rfl, rfl⟩, fun h' => absurd h' h, fun h' => absurd h' h⟩

theorem wide2048 : wlim ≤ wide := by unfold wlim wide; exact pw_le (by omega)
theorem len2048 {zs : List Int} (hw : Wd zs) (ht : Trimmed zs) : 2048 < zs.length ↔ wlim ≤ val zs := by
  unfold wlim
  constructor
  · intro h
    have h1 := val_ge hw ht (by omega)
    have h2 : (4294967296 : Int) ^ 2048 ≤ 4294967296 ^ (zs.length - 1) := pw_le (by omega)
    exact Int.le_trans h2 h1
  · intro h
    by_cases c : 2048 < zs.length
    · exact c
    · have h1 := val_lt hw
      have h2 : (4294967296 : Int) ^ zs.length ≤ 4294967296 ^ 2048 := pw_le (by omega)
      exact absurd (Int.lt_of_lt_of_le h1 h2) (Int.not_lt.2 h)
theorem trimmed_zero' {us : List Int} (h : us.length = 0) : val us = 0 := by rw [List.eq_nil_of_length_eq_zero h]; rfl

/-- A size with a sign. -/
def sg (n : Bool) (t : Int) : Int := if n then -t else t
/-- What told makes of a size that nat told: the number with that sign. -/
theorem wtells_of {t : Int} {n : Bool} {zs : List Int} {code : Int} (h : Tells 0 t zs code) (h0 : 0 ≤ t) :
    ∃ m us c, (∀ a cap, toldV n a zs.length cap code = .tuple #[.agg #[.bool m, if c = 0 then .slice a zs.length cap else .slice none 0 0], .int .i64 c]) ∧ (if c = 0 then us = zs else us = []) ∧ WTells 0 (sg n t) m us c := by
  unfold sg
  have P := wlim_pos
  by_cases hw : t < wide
  · obtain ⟨rfl, hv⟩ := h.good rfl hw
    by_cases hl : 2048 < zs.length
    · refine ⟨false, [], 3, fun a cap => by unfold toldV; rw [if_pos hl]; rfl, by simp, ⟨Wd.nil, Trimmed.nil, .inl rfl, by simp, fun h => absurd rfl h, fun _ _ => ⟨rfl, rfl, rfl⟩, fun _ h1 h2 => ?_⟩⟩
      have hb := (len2048 h.wd h.trim).1 hl
      rw [hv] at hb
      exfalso
      generalize wlim = B at *
      cases n <;> simp at h1 h2 <;> omega
    · have hb : val zs < wlim := by
        by_cases c : val zs < wlim
        · exact c
        · exact absurd ((len2048 h.wd h.trim).2 (by omega)) hl
      refine ⟨n && decide (0 < zs.length), zs, 0, fun a cap => by unfold toldV; rw [if_neg hl, if_pos rfl]; rfl, by simp, ⟨h.wd, h.trim, ?_, by omega, fun h => absurd rfl h, fun _ h1 => ?_, fun _ _ _ => ⟨rfl, ?_⟩⟩⟩
      · by_cases c : 0 < zs.length
        · exact .inr c
        · left; simp [c]
      · exfalso
        rw [hv] at hb
        generalize wlim = B at *
        cases n <;> simp at h1 <;> omega
      · cases n with
        | false => simp [wval, hv]
        | true =>
          by_cases c : 0 < zs.length
          · simp [wval, hv, c]
          · have e0 : val zs = 0 := trimmed_zero' (by omega)
            simp [wval, c]
            omega
  · obtain ⟨rfl, rfl⟩ := h.long rfl (by omega)
    have hbig := wide2048
    refine ⟨false, [], 3, fun a cap => by unfold toldV; simp, by simp, ⟨Wd.nil, Trimmed.nil, .inl rfl, by simp, fun h => absurd rfl h, fun _ _ => ⟨rfl, rfl, rfl⟩, fun _ h1 h2 => ?_⟩⟩
    exfalso
    generalize wlim = B at *
    generalize wide = V at *
    cases n <;> simp at h1 h2 <;> omega

theorem wtold_cut {w2 : World} {B : Nat} {t : Int} {m : Bool} {v : Value} {zs us : List Int} {c : Int} (h : WTells 0 t m us c) (hc : if c = 0 then us = zs else us = []) (ho : w2.ownsRow B 62 1 v zs.length (zs.map (Value.int .u32))) :
    w2.ownsRow B 62 1 (if c = 0 then v else .slice none 0 0) us.length (us.map (Value.int .u32)) := by
  by_cases e : c = 0
  · rw [if_pos e] at hc ⊢; subst hc; exact ho
  · rw [if_neg e] at hc ⊢; subst hc; exact World.ownsRow_nil _ _ _ _
theorem tells_code {t : Int} {zs : List Int} {code : Int} (h : Tells 0 t zs code) : -1000 ≤ code ∧ code ≤ 1000 := by
  by_cases cw : t < wide
  · have := (h.good rfl cw).1; omega
  · have := (h.long rfl (by omega)).1; omega
theorem cut_slice (cc : Int) (a : Option Addr) (k c : Nat) : ∃ a3 k3 c3, (if cc = 0 then Value.slice a k c else .slice none 0 0) = .slice a3 k3 c3 := by
  by_cases z : cc = 0
  · exact ⟨_, _, _, by rw [if_pos z]⟩
  · exact ⟨_, _, _, by rw [if_neg z]⟩

end Go.Proofs.YtfppimlmebnaeaaGreatDoor

/- Whole numbers: whole.Add, product, Mul, Gcd, Sub: of every two numbers whose words can be read. -/
namespace Go.Proofs.YtfppimlmebnaeaaGreatDoor
open Go.RowKit
set_option linter.unusedVariables false

theorem mul_sign (n m : Bool) (x y : Int) : sg (n != m) (x * y) = (if n then -x else x) * (if m then -y else y) := by
  cases n <;> cases m <;> simp [sg, Int.neg_mul, Int.mul_neg]

end Go.Proofs.YtfppimlmebnaeaaGreatDoor

/- nat.divideLong: quotient and rest by two words or more, in new memory. -/
namespace Go.Proofs.YtfppimlmebnaeaaGreatDoor
open Go.RowKit
set_option linter.unusedVariables false

set_option maxHeartbeats 800000 in
set_option maxRecDepth 100000 in
theorem divideLong_any (v u : Value) (xs ys : List Int) (e : Nat) (w : World) (h : Sl w v xs) (g : Sl w u ys) (hn : xs.length ≤ 8192) (hx : Trimmed xs) (hy : Trimmed ys) (hl : ys.length = e + 2) (hge : ys.length ≤ xs.length) :
    Calls Tryz.prog 93 #[v, u] w (Divided w xs ys) := by
  obtain ⟨i0, hi, hz0, hz1, hz2⟩ := info_parts Tryz.infoW
  have wx := h.wd
  have wy := g.wd
  obtain ⟨a, cap, rfl, hr⟩ := h
  obtain ⟨b, cap', rfl, gr⟩ := g
  obtain ⟨n, hnn⟩ : ∃ n, xs.length = n := ⟨_, rfl⟩
  rw [hl] at gr hge ⊢
  rw [hnn] at hr hn hge ⊢
  obtain ⟨K, hK⟩ : ∃ K, e + 2 + K = n + 1 := ⟨n + 1 - (e + 2), by omega⟩
  obtain ⟨s1, s2, s3, s4, s5⟩ := normal wy hy e hl
  obtain ⟨t, ht⟩ : ∃ t, 32 - Lib.bitLen (ys[e + 1]?.getD 0).toNat = t := ⟨_, rfl⟩
  have HLD := hid (lead_any (ys[e + 1]?.getD 0) w s1 s2)
  rw [ht] at s3 s4 s5 HLD
  have HR1 := hid (raise_zero b (e + 2) cap' ys t w gr (by omega) (by omega) s3)
  rcases gr.2.2.1 with h0 | ⟨b2, o2, rfl, hb2, hc2⟩
  · omega
  have hc0 := hc2 (e + 1) (by omega)
  have HX := hid hr
  have HN := hid (And.intro hnn hl)
  have HS4 := hid s4
  have HS5 := hid s5
  generalize ys[e + 1]?.getD 0 = top at *
  clear hc2 gr hr hnn hl s4 s5 ht
  go_enter Tryz.func93, Tryz.ntmps93
  go_wp2_with fail
  refine Calls.mono HLD.out ?_
  rintro x w' ⟨rfl, rfl⟩
  go_wp2_with fail
  refine Calls.mono HR1.out ?_
  rintro x w1 ⟨dF, rfl, oF, wF, hvF, hb1⟩
  have hlF := oF.len
  have hvd : val (dF.take (e + 2)) = val ys * 2 ^ t := by rw [top_nought wF (e + 2) (by omega) (by rw [hvF]; exact HS4.out), hvF]
  have oD : OwnC w1 w.heap.size w.heap.size (e + 2) (e + 2 + 1) (dF.take (e + 2)) := OwnC.take (cap := e + 2 + 1) oF (e + 2) (by omega)
  have wD : Wd (dF.take (e + 2)) := wF.take _
  have lD : (dF.take (e + 2)).length = e + 2 := by rw [List.length_take]; omega
  generalize dF.take (e + 2) = ds at *
  have hg1 := oF.base
  have hs1 := hb1.size
  have hrD : Reads w1 w1.heap.size (some ⟨w.heap.size, 0, none⟩) (e + 2) (e + 2 + 1) ds := by
    obtain ⟨a, cap, hv, hr⟩ := Reads.own oD wD
    simp only [Value.slice.injEq] at hv
    obtain ⟨rfl, _, rfl⟩ := hv
    exact hr
  have HR2 := hid (raise_zero a n cap xs t w1 (HX.out.later hb1 hs1) (by omega) (by omega) s3)
  have HVD := hid hvd
  have HRD := hid hrD
  have HLDS := hid lD
  have HB1 := hid hb1
  clear oF wF hvF hlF hvd oD hrD lD hb1 HLD HR1 HX
  go_wp2_with fail
  refine Calls.mono HR2.out ?_
  rintro x w2 ⟨lf, rfl, oL, wL, hvL, hb2'⟩
  have hs2 := hb2'.size
  have hgL := oL.base
  have HVL := hid hvL
  have HOL := hid oL
  have HB2 := hid hb2'
  have hKi : ((n : Int) - ((e : Int) + 2) + 1) = (K : Int) := by omega
  clear hvL oL hb2' HR2
  go_wp2_with (at_make; refine wpList_make_full _ rfl _ _ 22 rfl w2.heap.size 62 i0 (.int .u32 0) 1 Tryz.underlying22 hi hz0 hz1 _ _ _ _ K rfl rfl (by omega) (by omega) (by rw [hz2]; omega) (by unfold maxLen; omega) (Nat.le_refl _) ?_)
  intro w3 hown hgrow
  have hbel3 : Below w2.heap.size w2 w3 := (Below.refl _ _).grown hgrow (Nat.le_refl _) (fun k hk => by simp at hk)
  have hs3 := hbel3.size
  have HOQ := hid (OwnW.made hown)
  have HB3 := hid hbel3
  have hgQ := (OwnW.made hown).base
  clear hown hgrow hbel3
  go_wp2_with fail
  go_loopw [9] (fun z wr => ∃ (k : Nat) (us qs : List Int), k ≤ K ∧ z = .int .i64 ((k : Int) - 1) ∧ Wd us ∧ Wd qs ∧ Hid (val lf = valTo us (k + (e + 2)) + segTo qs k (K - k) * val ds * 4294967296 ^ k) ∧ Hid (segTo us k (e + 2) < val ds) ∧
    OwnW wr w1.heap.size w1.heap.size (n + 1) us ∧ OwnW wr w2.heap.size w2.heap.size K qs ∧ Below w1.heap.size w1 wr) (fun z _ => (intOf z + 1).toNat)
  case atStart =>
    have hll := HOL.out.len
    have hKm : K + (e + 2) = n + 1 := by omega
    have hst := long_start (val lf) (val ds) n (e + 2) K (val xs) t s3 hK (by have := val_lt wx; rw [HN.out.1] at this; exact this) (val_nonneg wx) HVL.out (by rw [HVD.out]; exact HS5.out)
    refine ⟨K, lf, List.replicate K 0, Nat.le_refl _, rfl, wL, Wd.replicate _, ?_, ?_, owns_later HOL.out HB3.out, HOQ.out, HB2.out.trans (HB3.out.mono hs2)⟩
    · show _ = _
      rw [hKm, valTo_stable lf _ (by omega), Nat.sub_self]
      simp [segTo]
    · show _ < _
      have e1 : val lf = valTo lf K + segTo lf K (e + 2) * 4294967296 ^ K := by rw [← valTo_seg, hKm, valTo_stable lf _ (by omega)]
      have b := (valTo_bounds wL K).1
      exact Int.lt_of_mul_lt_mul_right (show segTo lf K (e + 2) * 4294967296 ^ K < val ds * 4294967296 ^ K by omega) (Int.le_of_lt (pw_pos K))
  case round =>
    obtain ⟨k, us, qs, hk, rfl, wu, wq, HV, HS, oU, oQ, hb⟩ := hrel
    have hbs := hb.size
    have hqb := oQ.base
    rcases k with _ | k
    · have oT : OwnC wr w1.heap.size w1.heap.size (e + 2) (n + 1) (us.take (e + 2)) := OwnC.take (cap := n + 1) oU (e + 2) (by omega)
      have hrT : Reads wr wr.heap.size (some ⟨w1.heap.size, 0, none⟩) (e + 2) (n + 1) (us.take (e + 2)) := by
        obtain ⟨a, cap, hv, hr⟩ := Reads.own oT (wu.take _)
        simp only [Value.slice.injEq] at hv
        obtain ⟨rfl, _, rfl⟩ := hv
        exact hr
      have hlu := oU.len
      have hlq := oQ.len
      have hvR : val (us.take (e + 2)) = valTo us (e + 2) := by
        unfold val
        rw [List.length_take, Nat.min_eq_left (by omega), valTo_congr (us.take (e + 2)) us _ (fun j hj => by rw [List.getElem?_take, if_pos hj])]
      have HF : Hid (val xs = val qs * val ys + val (us.take (e + 2)) / 2 ^ t ∧ val (us.take (e + 2)) / 2 ^ t < val ys) := by
        have e1 := HV.out
        have e2 := HS.out
        rw [segTo_zero] at e2
        rw [segTo_zero, Nat.zero_add, Nat.sub_zero, valTo_stable qs K (by omega), Int.pow_zero, Int.mul_one, HVL.out, HVD.out, ← hvR, ← Int.mul_assoc] at e1
        rw [← hvR, HVD.out] at e2
        have hp := two_pos t
        have e3 : val (us.take (e + 2)) = (val xs - val qs * val ys) * 2 ^ t := by rw [Int.sub_mul]; omega
        have e4 : val (us.take (e + 2)) / 2 ^ t = val xs - val qs * val ys := by rw [e3]; exact Int.mul_ediv_cancel _ (by omega)
        refine ⟨by rw [e4]; omega, Int.ediv_lt_of_lt_mul hp e2⟩
      have HLW := hid (lower_zero (some ⟨w1.heap.size, 0, none⟩) (e + 2) (n + 1) (us.take (e + 2)) t wr hrT (by omega) (by omega) s3)
      have HOQ' := hid oQ
      have HBW : Hid (Below w.heap.size w wr) := HB1.out.trans (hb.mono hs1)
      clear oT hrT hvR hlu HV HS oU oQ hb
      go_wp2_with fail
      refine Calls.mono HLW.out ?_
      rintro x w5 ⟨rs, rfl, oR, wR, hvR, hb5⟩
      have hs5 := hb5.size
      have oQ5 : OwnC w5 w2.heap.size w2.heap.size K K qs := owns_later HOQ'.out hb5
      have sq := sz_le qs
      rw [hlq] at sq
      have hlr := oR.len
      have sr := sz_le rs
      rw [hlr] at sr
      have hrQ : Reads w5.drew w5.heap.size (some ⟨w2.heap.size, 0, none⟩) K K qs := by
        obtain ⟨a, cap, hv, hr⟩ := Reads.own oQ5 wq
        simp only [Value.slice.injEq] at hv
        obtain ⟨rfl, _, rfl⟩ := hv
        exact hr
      have hrR : Reads w5.drew w5.heap.size (some ⟨wr.heap.size, 0, none⟩) (e + 2) (e + 2) rs := by
        obtain ⟨a, cap, hv, hr⟩ := Reads.own oR wR
        simp only [Value.slice.injEq] at hv
        obtain ⟨rfl, _, rfl⟩ := hv
        exact hr
      have HZ1 := hid (size_any _ _ _ qs _ w5.drew hrQ (by omega))
      have HZ2 := hid (size_any _ _ _ rs _ w5.drew hrR (by omega))
      have hbR := oR.base
      have HFIN : Hid (Divided w xs ys (.returned (.tuple #[.slice (some ⟨w2.heap.size, 0, none⟩) (sz qs) K, .slice (some ⟨wr.heap.size, 0, none⟩) (sz rs) (e + 2)])) w5.drew) := by
        have hbd : Below w5.heap.size w5 w5.drew := (Below.refl _ w5).drew
        refine ⟨_, _, trimmed qs, trimmed rs, wr.heap.size, rfl, ?_, ?_, ?_, ?_, by omega, by show wr.heap.size ≤ w5.heap.size; omega, wq.trimmed, wR.trimmed, Trimmed.trimmed _, Trimmed.trimmed _, ?_, ?_, HBW.out.trans ((hb5.mono (by omega)).trans (hbd.mono (by omega)))⟩
        · rw [length_trimmed]
          have o1 : w5.ownsRow w2.heap.size 62 1 (.slice (some ⟨w2.heap.size, 0, none⟩) (sz qs) K) (sz qs) ((trimmed qs).map (Value.int .u32)) := OwnC.take oQ5 (sz qs) sq
          exact owns_base (owns_later o1 hbd) (by omega)
        · rw [length_trimmed]
          have o1 : w5.ownsRow wr.heap.size 62 1 (.slice (some ⟨wr.heap.size, 0, none⟩) (sz rs) (e + 2)) (sz rs) ((trimmed rs).map (Value.int .u32)) := OwnC.take (cap := e + 2) oR (sz rs) sr
          exact owns_base (owns_later o1 hbd) (by omega)
        · intro g hg; simp [Value.ownBlock] at hg; omega
        · intro g hg; simp [Value.ownBlock] at hg; show _ ∧ g < w5.heap.size; omega
        · rw [val_trimmed, val_trimmed, hvR]; exact HF.out.1
        · rw [val_trimmed, hvR]; exact HF.out.2
      clear oR oQ5 hrQ hrR hvR hb5 hlr hlq HF HLW
      go_wp2_with fail
      go_region_with (first | (go_at_call 84; with_reducible refine Calls.mono HZ1.out ?_; rintro e w' ⟨rfl, rfl⟩) | (go_at_call 84; with_reducible refine Calls.mono HZ2.out ?_; rintro e w' ⟨rfl, rfl⟩))
      all_goals
        go_wp2
        go_ret2
        exact HFIN.out
    · have ek : (((k + 1 : Nat) : Int) - 1) = (k : Int) := by omega
      rw [ek]
      clear ek
      have bu := wu.at k
      have hseg : segTo us k (e + 3) = us[k]?.getD 0 + segTo us (k + 1) (e + 2) * 4294967296 := segTo_cons us (e + 2) k
      have hLD : segTo us k (e + 3) < 4294967296 * val ds := by rw [hseg]; have := HS.out; omega
      have HNW := hid (nextWord_any w1.heap.size w1.heap.size (n + 1) k e _ us (some ⟨w.heap.size, 0, none⟩) (e + 2 + 1) ds wr oU wu (by omega) rfl (by omega) (HRD.out.later hb (Nat.le_refl _)) (top_one wD e HLDS.out (by rw [HVD.out]; exact HS5.out)) hLD)
      have HOQ' := hid oQ
      have HB' := hid hb
      have hne : ¬ n + 1 = k := by omega
      clear hLD hseg bu oU oQ hb
      go_wp2_with fail
      rw [show k + (e + 2) + 1 - k = e + 2 + 1 by omega]
      refine Calls.mono HNW.out ?_
      rintro x w6 ⟨q, vs, rfl, q0, q1, oV, wv, kv, hsv, hlv, hg6⟩
      have oQ6 : OwnW w6 w2.heap.size w2.heap.size K qs := World.ownsRow.kept HOQ'.out hg6 (by right; intro e; simp [Value.ownBlock] at e; omega)
      have y1 := oQ6.cell k (by omega)
      have f1 := oQ6.free k
      have hlq := oQ6.len
      have hsv' : segTo vs k (e + 2 + 1) = segTo us k (e + 2 + 1) - q * val ds := hsv
      have hlv' : segTo vs k (e + 2 + 1) < val ds := hlv
      have hst := long_step us vs qs (e + 2) K k (val lf) (val ds) q (by omega) hlq wv (by rw [HVD.out]; exact HS4.out) HV.out (fun j hj => kv j (.inl hj)) hsv' hlv'
      have HST1 := hid hst.1
      have HST2 := hid hst.2
      have hos := OwnC.set (cap := K) oQ6 k q
      have HOQ2 : Hid (OwnW (w6.setCell ⟨w2.heap.size, k, none⟩ (.int .u32 q)) w2.heap.size w2.heap.size K (qs.set k q)) := hos.1
      have HOU : Hid (OwnW (w6.setCell ⟨w2.heap.size, k, none⟩ (.int .u32 q)) w1.heap.size w1.heap.size (n + 1) vs) := World.ownsRow.kept oV hos.2 (by right; intro e; simp [Value.ownBlock] at e; omega)
      have hb6 : Below w1.heap.size wr w6 := (Below.refl _ _).grown hg6 hbs (fun k hk => by simp at hk; omega)
      have HB6 : Hid (Below w1.heap.size w1 (w6.setCell ⟨w2.heap.size, k, none⟩ (.int .u32 q))) := (HB'.out.trans hb6).setCell (p := ⟨w2.heap.size, k, none⟩) hs2 (.int .u32 q)
      clear oQ6 hlq hsv hlv hsv' hlv' hst hos hb6 hg6 oV kv HNW HOQ' HB' HV HS
      go_wp2_with fail
      go_roundw
      case rel => exact ⟨k, vs, qs.set k q, by omega, by go_num, wv, wq.set _ ⟨q0, q1⟩, HST1, HST2, HOU.out, HOQ2.out, HB6.out⟩
      case measure => simp [intOf]
end Go.Proofs.YtfppimlmebnaeaaGreatDoor

/- nat.divide, nat.DivMod: of every two numbers quotient and rest, in new memory; nat.Shift by any number. -/
namespace Go.Proofs.YtfppimlmebnaeaaGreatDoor
open Go.RowKit
set_option linter.unusedVariables false

theorem len_le_of_val {xs ys : List Int} (wx : Wd xs) (wy : Wd ys) (ty : Trimmed ys) (h : val ys ≤ val xs) : ys.length ≤ xs.length := len_of_lt wy ty (by have := val_lt wx; omega)

set_option maxHeartbeats 800000 in
set_option maxRecDepth 100000 in
theorem divide_long (v u : Value) (xs ys : List Int) (e : Nat) (w : World) (h : Sl w v xs) (g : Sl w u ys) (hn : xs.length ≤ 8192) (hx : Trimmed xs) (hy : Trimmed ys) (hl : ys.length = e + 2) (hge : val ys ≤ val xs) :
    Calls Tryz.prog 79 #[v, u] w (Divided w xs ys) := by
  have hle := len_le_of_val h.wd g.wd hy hge
  have hci : 0 ≤ cmpI (val xs) (val ys) := by unfold cmpI; rw [if_neg (by omega)]; split <;> omega
  have CC := hid (compare_sl v u xs ys w h g (by omega) (by omega))
  obtain ⟨c, hc⟩ : ∃ c, cmpI (val xs) (val ys) = c := ⟨_, rfl⟩
  rw [hc] at CC hci
  have HD : Hid (∀ w1, Below w.heap.size w w1 → Calls Tryz.prog 93 #[v, u] w1 (Divided w1 xs ys)) := fun w1 hb => divideLong_any v u xs ys e w1 (h.later hb) (g.later hb) hn hx hy hl hle
  obtain ⟨b, cap', rfl, gr⟩ := g
  have h1 : ((ys.length : Int) == 1) = false := by simp; omega
  clear hc gr h hl hge
  go_enter Tryz.func79, Tryz.ntmps79
  go_wp2_with fail
  refine Calls.mono CC.out ?_
  rintro x w1 ⟨rfl, hb1⟩
  have HDD := hid (HD.out w1 hb1)
  have hs1 := hb1.size
  go_wp2_with fail
  refine Calls.mono HDD.out ?_
  rintro x w2 ⟨v1, u1, q, r, c, rfl, oq, orr, lq, lr, c1, c2, wq, wr, tq, tr, hv, hlt, hb2⟩
  have HF : Hid (Divided w xs ys (.returned (.tuple #[v1, u1])) w2) := ⟨v1, u1, q, r, c, rfl, owns_base oq hs1, owns_base orr hs1, fun g hg => by have := lq g hg; omega, lr, by omega, c2, wq, wr, tq, tr, hv, hlt, hb1.trans (hb2.mono hs1)⟩
  clear oq orr hv hlt hb2 HDD
  go_wp2_with fail
  go_ret2
  exact HF.out

theorem divide_any (v u : Value) (xs ys : List Int) (w : World) (h : Sl w v xs) (g : Sl w u ys) (hn : xs.length ≤ 8192) (hm : ys.length ≤ 8192) (hx : Trimmed xs) (hy : Trimmed ys) (h0 : 0 < ys.length) :
    Calls Tryz.prog 79 #[v, u] w (Divided w xs ys) := by
  by_cases hlt : val xs < val ys
  · exact divide_less v u xs ys w h g hn hm hlt
  · by_cases h1 : ys.length = 1
    · obtain ⟨y, rfl⟩ := List.length_eq_one_iff.1 h1
      have hy1 : 1 ≤ y := by
        have b := g.wd.head
        by_cases c : y = 0
        · rw [c] at hy; simp [Trimmed, sz, szTo] at hy
        · omega
      exact divide_word v u xs y w h g hn hx hy1 (by rw [val_one] at hlt; omega)
    · exact divide_long v u xs ys (ys.length - 2) w h g hn hx hy (by omega) (by omega)

set_option maxHeartbeats 800000 in
set_option maxRecDepth 100000 in
theorem divMod_any (v u : Value) (xs ys : List Int) (w : World) (h : Sl w v xs) (g : Sl w u ys) (lx : xs.length ≤ 8192) (ly : ys.length ≤ 8192) (tx : Trimmed xs) (ty : Trimmed ys) (h0 : 0 < ys.length) :
    Calls Tryz.prog 61 #[v, u] w fun e w' => ∃ v1 u1 q r, e = .returned (.tuple #[v1, u1, .int .i64 0]) ∧ Sl w' v1 q ∧ Sl w' u1 r ∧ Trimmed q ∧ Trimmed r ∧ val xs = val q * val ys + val r ∧ val r < val ys ∧ Below w.heap.size w w' := by
  have HB := hid (checkBoth_sl v u xs ys w h g (by omega) (by omega))
  rw [both_good (chk_good lx tx) (chk_good ly ty)] at HB
  have HD : Hid (Calls Tryz.prog 79 #[v, u] w (Divided w xs ys)) := divide_any v u xs ys w h g lx ly tx ty h0
  obtain ⟨b, cap', rfl, gr⟩ := g
  have hz : ((ys.length : Int) == 0) = false := by simp; exact fun e => by rw [e] at h0; simp at h0
  clear gr h ty
  go_enter Tryz.func61, Tryz.ntmps61
  go_wp2_with fail
  refine Calls.mono HB.out ?_
  rintro e w' ⟨rfl, rfl⟩
  go_wp2_with fail
  refine Calls.mono HD.out ?_
  rintro e w1 ⟨v1, u1, q, r, c, rfl, oq, orr, _, _, _, _, wq, wr, tq, tr, hv, hlt, hbel⟩
  have HQ := hid (Sl.own oq wq)
  have HR := hid (Sl.own orr wr)
  have HV := hid hv
  have HLT := hid hlt
  clear oq orr hv hlt
  go_wp2
  go_ret3
  exact ⟨v1, u1, q, r, rfl, HQ.out, HR.out, tq, tr, HV.out, HLT.out, hbel⟩

theorem bits_is {xs : List Int} (hw : Wd xs) (b : Nat) (h1 : 1 ≤ b) (h2 : (2 : Int) ^ (b - 1) ≤ val xs) (h3 : val xs < 2 ^ b) : bitsOf xs = b := by
  have hp : 0 < sz xs := by
    by_cases c : sz xs = 0
    · have := two_pos (b - 1)
      rw [val_sz, c] at h2
      have : valTo xs 0 = 0 := rfl
      omega
    · omega
  obtain ⟨b1, b2, b3, _, _⟩ := bits_bounds hw hp
  rcases Nat.lt_trichotomy (bitsOf xs) b with h | h | h
  · have := two_le (t := bitsOf xs) (u := b - 1) (by omega); omega
  · exact h
  · have := two_le (t := b) (u := bitsOf xs - 1) (by omega); omega
end Go.Proofs.YtfppimlmebnaeaaGreatDoor

/- Whole numbers: whole.divide, DivMod: quotient and rest, the rest never below 0. -/
namespace Go.Proofs.YtfppimlmebnaeaaGreatDoor
open Go.RowKit
set_option linter.unusedVariables false

set_option maxHeartbeats 800000 in
set_option maxRecDepth 100000 in
theorem divMod_own (v u : Value) (xs ys : List Int) (w : World) (h : Sl w v xs) (g : Sl w u ys) (lx : xs.length ≤ 8192) (ly : ys.length ≤ 8192) (tx : Trimmed xs) (ty : Trimmed ys) (h0 : 0 < ys.length) :
    Calls Tryz.prog 61 #[v, u] w fun e w' => ∃ v1 u1 q r, e = .returned (.tuple #[v1, u1, .int .i64 0]) ∧ w'.ownsRow w.heap.size 62 1 v1 q.length (q.map (Value.int .u32)) ∧ w'.ownsRow w.heap.size 62 1 u1 r.length (r.map (Value.int .u32)) ∧ Wd q ∧ Wd r ∧ Trimmed q ∧ Trimmed r ∧ val xs = val q * val ys + val r ∧ val r < val ys ∧ Below w.heap.size w w' := by
  have HB := hid (checkBoth_sl v u xs ys w h g (by omega) (by omega))
  rw [both_good (chk_good lx tx) (chk_good ly ty)] at HB
  have HD : Hid (Calls Tryz.prog 79 #[v, u] w (Divided w xs ys)) := divide_any v u xs ys w h g lx ly tx ty h0
  obtain ⟨b, cap', rfl, gr⟩ := g
  have hz : ((ys.length : Int) == 0) = false := by simp; exact fun e => by rw [e] at h0; simp at h0
  clear gr h ty
  go_enter Tryz.func61, Tryz.ntmps61
  go_wp2_with fail
  refine Calls.mono HB.out ?_
  rintro e w' ⟨rfl, rfl⟩
  go_wp2_with fail
  refine Calls.mono HD.out ?_
  rintro e w1 ⟨v1, u1, q, r, c, rfl, oq, orr, _, _, _, _, wq, wr, tq, tr, hv, hlt, hbel⟩
  have HQ := hid oq
  have HR := hid orr
  have HV := hid hv
  have HLT := hid hlt
  clear oq orr hv hlt
  go_wp2
  go_ret3
  exact ⟨v1, u1, q, r, rfl, HQ.out, HR.out, wq, wr, tq, tr, HV.out, HLT.out, hbel⟩

/-- A size and a rest, in new memory. -/
def WParts (w : World) (n : Bool) (xs ys : List Int) (x : Ending) (w' : World) : Prop := ∃ v1 u1 q r, x = .returned (.tuple #[v1, u1]) ∧ w'.ownsRow w.heap.size 62 1 v1 q.length (q.map (Value.int .u32)) ∧ w'.ownsRow w.heap.size 62 1 u1 r.length (r.map (Value.int .u32)) ∧ Wd q ∧ Wd r ∧ Trimmed q ∧ Trimmed r ∧ q.length ≤ 2048 ∧ r.length ≤ 2048 ∧
  val xs = val q * val ys + sg n (val r) ∧ val r < val ys ∧ Below w.heap.size w w'
theorem q_le {x q y r : Int} (h : x = q * y + r) (hy : 1 ≤ y) (hq : 0 ≤ q) (hr : 0 ≤ r) : q ≤ x - r := by
  have : q * 1 ≤ q * y := Int.mul_le_mul_of_nonneg_left hy hq
  omega
theorem val_pos' {zs : List Int} (hw : Wd zs) (ht : Trimmed zs) (h : 0 < zs.length) : 1 ≤ val zs := by
  have h1 := val_ge hw ht h
  have h2 := pw_pos (zs.length - 1)
  omega
theorem below2048 {zs : List Int} (hw : Wd zs) (hl : zs.length ≤ 2048) : val zs < wlim := by
  have h1 := val_lt hw
  have h2 : (4294967296 : Int) ^ zs.length ≤ 4294967296 ^ 2048 := pw_le hl
  unfold wlim
  exact Int.lt_of_lt_of_le h1 h2
theorem short2048 {zs : List Int} (hw : Wd zs) (ht : Trimmed zs) (h : val zs < wlim) : zs.length ≤ 2048 := by
  by_cases c : 2048 < zs.length
  · have := (len2048 hw ht).1 c; omega
  · omega

/-- Quotient and rest of whole numbers, in new memory. -/
def WDiv (w : World) (X Y : Int) (x : Ending) (w' : World) : Prop := ∃ nq vq zq vr zr, x = .returned (.tuple #[.agg #[.bool nq, vq], .agg #[.bool false, vr], .int .i64 0]) ∧ w'.ownsRow w.heap.size 62 1 vq zq.length (zq.map (Value.int .u32)) ∧ w'.ownsRow w.heap.size 62 1 vr zr.length (zr.map (Value.int .u32)) ∧ Wd zq ∧ Wd zr ∧ Trimmed zq ∧ Trimmed zr ∧ zq.length ≤ 2048 ∧ zr.length ≤ 2048 ∧ (nq = false ∨ 0 < zq.length) ∧
  X = wval nq zq * Y + val zr ∧ val zr < (Y.natAbs : Int) ∧ Below w.heap.size w w'
theorem div_sign {n m : Bool} {x y q r : Int} (h : x = q * y + sg n r) : sg n x = sg (n != m) q * sg m y + r := by
  cases n <;> cases m <;> simp [sg, Int.neg_mul, Int.mul_neg] at * <;> omega

end Go.Proofs.YtfppimlmebnaeaaGreatDoor

/- A struct variable that is written: what lies elsewhere stays. -/
namespace Go.Proofs.YtfppimlmebnaeaaGreatDoor
open Go.RowKit
set_option linter.unusedVariables false

theorem Sl.put2 {U : World} {v : Value} {xs : List Int} {b t : Nat} {n : Bool} {a : Option Addr} {k c : Nat} (h : Sl U v xs) (hb : Box U b t #[.bool n, .slice a k c]) (v0 v1 : Value) : Sl ((U.setCell ⟨b, 0, none⟩ v0).setCell ⟨b, 1, none⟩ v1) v xs := by
  obtain ⟨a', cap, rfl, h1, h2, h3, h4⟩ := h
  refine ⟨a', cap, rfl, h1, h2, ?_, h4⟩
  rcases h3 with h0 | ⟨bb, o, rfl, hlt, hc⟩
  · exact .inl h0
  · by_cases hl : xs.length = 0
    · exact .inl hl
    · right
      have hne : bb ≠ b := fun e => by
        subst e
        have e1 := hc 0 (by omega)
        rw [Nat.add_zero, hb.cell o] at e1
        match o with
        | 0 => simp at e1
        | 1 => simp at e1
        | o + 2 => simp at e1
      refine ⟨bb, o, rfl, by simpa [World.setCell] using hlt, fun j hj => ?_⟩
      have e1 := World.cell?_of_block (w := U) (w' := U.setCell ⟨b, 0, none⟩ v0) (a := ⟨bb, o + j, none⟩) (Below.heap_setCell U ⟨b, 0, none⟩ v0 bb hne)
      have e2 := World.cell?_of_block (w := U.setCell ⟨b, 0, none⟩ v0) (w' := (U.setCell ⟨b, 0, none⟩ v0).setCell ⟨b, 1, none⟩ v1) (a := ⟨bb, o + j, none⟩) (Below.heap_setCell _ ⟨b, 1, none⟩ v1 bb hne)
      rw [e2, e1]
      exact hc j hj
theorem Box.put2 {U : World} {b t : Nat} {u0 u1 : Value} (h : Box U b t #[u0, u1]) (v0 v1 : Value) : Box ((U.setCell ⟨b, 0, none⟩ v0).setCell ⟨b, 1, none⟩ v1) b t #[v0, v1] := (h.set 0 v0).set 1 v1
theorem Box.far2 {U : World} {b t b' : Nat} {vs : Array Value} (h : Box U b t vs) (hne : b ≠ b') (v0 v1 : Value) : Box ((U.setCell ⟨b', 0, none⟩ v0).setCell ⟨b', 1, none⟩ v1) b t vs := (h.other ⟨b', 0, none⟩ v0 hne).other ⟨b', 1, none⟩ v1 hne
theorem own_ne_box {U : World} {base e n b t : Nat} {v : Value} {xs : List Value} {vs : Array Value} (h : U.ownsRow base e 1 v n xs) (hb : Box U b t vs) (hne : e ≠ t) : ∀ g, v.ownBlock = some g → g ≠ b := fun g hg => by
  rcases h.2 with ⟨rfl, _⟩ | ⟨g1, c1, u1, rfl, _, hg1, _⟩
  · simp [Value.ownBlock] at hg
  · simp [Value.ownBlock] at hg
    subst hg
    intro e1
    subst e1
    unfold Box at hb
    rw [hg1] at hb
    simp at hb
    exact hne hb.2
/-- A whole number in memory that may be, in new memory. -/
structure Pb (U : World) (base b : Nat) (n : Bool) (a : Option Addr) (c : Nat) (zs : List Int) : Prop where
  box : Box U b 79 #[.bool n, .slice a zs.length c]
  own : U.ownsRow base 62 1 (.slice a zs.length c) zs.length (zs.map (Value.int .u32))
  wd : Wd zs
  ok : wchk n zs = 0
/-- A whole number in memory that may be. -/
structure Ab (U : World) (b : Nat) (n : Bool) (a : Option Addr) (c : Nat) (xs : List Int) : Prop where
  box : Box U b 79 #[.bool n, .slice a xs.length c]
  sl : Sl U (.slice a xs.length c) xs
  ok : wchk n xs = 0
theorem Pb.later {U V : World} {base b : Nat} {n : Bool} {a : Option Addr} {c : Nat} {zs : List Int} (h : Pb U base b n a c zs) (hb : Below U.heap.size U V) : Pb V base b n a c zs := ⟨h.box.later hb h.box.lt, owns_later h.own hb, h.wd, h.ok⟩
theorem Ab.later {U V : World} {b : Nat} {n : Bool} {a : Option Addr} {c : Nat} {zs : List Int} (h : Ab U b n a c zs) (hb : Below U.heap.size U V) : Ab V b n a c zs := ⟨h.box.later hb h.box.lt, h.sl.later hb, h.ok⟩
theorem Pb.far {U : World} {base b : Nat} {n : Bool} {a : Option Addr} {c : Nat} {zs : List Int} (h : Pb U base b n a c zs) {b' : Nat} {n' : Bool} {a' : Option Addr} {k' c' : Nat} (hb : Box U b' 79 #[.bool n', .slice a' k' c']) (hne : b ≠ b') (v0 v1 : Value) : Pb ((U.setCell ⟨b', 0, none⟩ v0).setCell ⟨b', 1, none⟩ v1) base b n a c zs :=
  ⟨h.box.far2 hne v0 v1, own_put2 h.own b' (own_ne_box h.own hb (by decide)) v0 v1, h.wd, h.ok⟩
theorem Ab.far {U : World} {b : Nat} {n : Bool} {a : Option Addr} {c : Nat} {zs : List Int} (h : Ab U b n a c zs) {b' : Nat} {n' : Bool} {a' : Option Addr} {k' c' : Nat} (hb : Box U b' 79 #[.bool n', .slice a' k' c']) (hne : b ≠ b') (v0 v1 : Value) : Ab ((U.setCell ⟨b', 0, none⟩ v0).setCell ⟨b', 1, none⟩ v1) b n a c zs :=
  ⟨h.box.far2 hne v0 v1, h.sl.put2 hb v0 v1, h.ok⟩
theorem Pb.put {U : World} {base b : Nat} {n' : Bool} {a' : Option Addr} {k' c' : Nat} (hb : Box U b 79 #[.bool n', .slice a' k' c']) {n : Bool} {a : Option Addr} {c : Nat} {zs : List Int} (ho : U.ownsRow base 62 1 (.slice a zs.length c) zs.length (zs.map (Value.int .u32))) (hw : Wd zs) (hk : wchk n zs = 0) :
    Pb ((U.setCell ⟨b, 0, none⟩ (.bool n)).setCell ⟨b, 1, none⟩ (.slice a zs.length c)) base b n a c zs := ⟨hb.put2 _ _, own_put2 ho b (own_ne_box ho hb (by decide)) _ _, hw, hk⟩
theorem Ab.put {U : World} {b : Nat} {n' : Bool} {a' : Option Addr} {k' c' : Nat} (hb : Box U b 79 #[.bool n', .slice a' k' c']) {n : Bool} {a : Option Addr} {c : Nat} {zs : List Int} (hs : Sl U (.slice a zs.length c) zs) (hk : wchk n zs = 0) :
    Ab ((U.setCell ⟨b, 0, none⟩ (.bool n)).setCell ⟨b, 1, none⟩ (.slice a zs.length c)) b n a c zs := ⟨hb.put2 _ _, hs.put2 hb _ _, hk⟩
theorem Pb.c {U : World} {base b : Nat} {n : Bool} {a : Option Addr} {c : Nat} {zs : List Int} (h : Pb U base b n a c zs) : U.cell? ⟨b, 0, none⟩ = some (.bool n) ∧ U.cell? ⟨b, 1, none⟩ = some (.slice a zs.length c) ∧ U.frozen? ⟨b, 0, none⟩ = false ∧ U.frozen? ⟨b, 1, none⟩ = false := ⟨h.box.cell 0, h.box.cell 1, h.box.free 0, h.box.free 1⟩
theorem Ab.c {U : World} {b : Nat} {n : Bool} {a : Option Addr} {c : Nat} {zs : List Int} (h : Ab U b n a c zs) : U.cell? ⟨b, 0, none⟩ = some (.bool n) ∧ U.cell? ⟨b, 1, none⟩ = some (.slice a zs.length c) ∧ U.frozen? ⟨b, 0, none⟩ = false ∧ U.frozen? ⟨b, 1, none⟩ = false := ⟨h.box.cell 0, h.box.cell 1, h.box.free 0, h.box.free 1⟩
theorem Box.c2 {U : World} {b t : Nat} {u0 u1 : Value} (h : Box U b t #[u0, u1]) : U.cell? ⟨b, 0, none⟩ = some u0 ∧ U.cell? ⟨b, 1, none⟩ = some u1 ∧ U.frozen? ⟨b, 0, none⟩ = false ∧ U.frozen? ⟨b, 1, none⟩ = false := ⟨h.cell 0, h.cell 1, h.free 0, h.free 1⟩
theorem wchk_one {n : Bool} {zs : List Int} (l : zs.length ≤ 2048) (t : Trimmed zs) (s : n = false ∨ 0 < zs.length) : wchk n zs = 0 := wchk_good l t s
end Go.Proofs.YtfppimlmebnaeaaGreatDoor

/- nat.smallDivisor: the greatest common divisor where the second number has at most two words, in new memory. -/
namespace Go.Proofs.YtfppimlmebnaeaaGreatDoor
open Go.RowKit
set_option linter.unusedVariables false

/-- The greatest common divisor, as a whole number. -/
def gcdI (x y : Int) : Int := (Int.gcd x y : Int)
theorem gcdI_zero (x : Int) (h : 0 ≤ x) : gcdI x 0 = x := by unfold gcdI; rw [Int.gcd_zero_right]; omega
theorem gcdI_comm (x y : Int) : gcdI x y = gcdI y x := by unfold gcdI; rw [Int.gcd_comm]
theorem gcdI_mod (x y : Int) : gcdI x y = gcdI y (x % y) := by
  unfold gcdI
  congr 1
  have e := Int.mul_ediv_add_emod x y
  have h : Int.gcd y x = Int.gcd y (x % y) := by
    have h2 : Int.gcd y (x / y * y + x % y) = Int.gcd y (x % y) := Int.gcd_mul_right_add_right y (x % y) (x / y)
    rw [Int.mul_comm, e] at h2
    exact h2
  rw [Int.gcd_comm, h]
theorem gcdI_rest {x y q r : Int} (h : x = q * y + r) : gcdI x y = gcdI y r := by
  unfold gcdI
  congr 1
  rw [Int.gcd_comm, h]
  exact Int.gcd_mul_right_add_right y r q

/-- One number, in new memory. -/
def Told1 (w : World) (t : Int) (x : Ending) (w' : World) : Prop := ∃ v zs, x = .returned v ∧ w'.ownsRow w.heap.size 62 1 v zs.length (zs.map (Value.int .u32)) ∧ Wd zs ∧ Trimmed zs ∧ val zs = t ∧ Below w.heap.size w w'

theorem val_le2 {ys : List Int} (hw : Wd ys) (h : ys.length ≤ 2) : val ys ≤ 18446744073709551615 := by
  have h1 := val_lt hw
  have h2 : (4294967296 : Int) ^ ys.length ≤ 4294967296 ^ 2 := pw_le h
  omega
theorem u64of_eq {ys : List Int} (h : ys.length ≤ 2) : u64of ys = val ys := by
  unfold u64of
  rw [if_pos (by have := sz_le ys; omega)]

set_option maxHeartbeats 1600000 in
set_option maxRecDepth 100000 in
theorem smallDivisor_any (v u : Value) (xs ys : List Int) (w : World) (h : Sl w v xs) (g : Sl w u ys) (hn : xs.length ≤ 8192) (hx : Trimmed xs) (hy : Trimmed ys) (hl : ys.length ≤ 2) :
    Calls Tryz.prog 90 #[v, u] w (Told1 w (gcdI (val xs) (val ys))) := by
  have wx := h.wd
  have wy := g.wd
  by_cases h0 : ys.length = 0
  · have hz : ys = [] := List.eq_nil_of_length_eq_zero h0
    subst hz
    have HT := hid (trim_sl v xs w h (by omega))
    rw [show sz xs = xs.length from hx, trimmed_of hx] at HT
    have HG : Hid (val xs = gcdI (val xs) (val [])) := by show _ = _; rw [val_nil, gcdI_zero _ (val_nonneg wx)]
    obtain ⟨b, cap', rfl, gr⟩ := g
    clear h gr h0
    go_enter Tryz.func90, Tryz.ntmps90
    go_wp2_with fail
    refine Calls.mono HT.out ?_
    rintro e w1 ⟨v1, rfl, o1, hb⟩
    have HO := hid o1
    clear o1
    go_wp2_with fail
    go_ret
    exact ⟨v1, xs, rfl, HO.out, wx, hx, HG.out, hb⟩
  · have HD := hid (divide_any v u xs ys w h g hn (by omega) hx hy (by omega))
    have HGS := hid g
    obtain ⟨b, cap', rfl, gr⟩ := g
    have hz : ((ys.length : Int) == 0) = false := by simp; exact fun e => h0 (by rw [e]; rfl)
    clear h gr h0
    go_enter Tryz.func90, Tryz.ntmps90
    go_wp2_with fail
    refine Calls.mono HD.out ?_
    rintro e w1 ⟨v1, u1, q, r, c, rfl, oq, orr, _, _, _, _, wq, wR, tq, tr, hv, hlt, hb⟩
    have sR := Sl.own orr wR
    have lr : r.length ≤ 2 := len_of_lt wR tr (by have h1 := val_lt wy; have h2 : (4294967296 : Int) ^ ys.length ≤ 4294967296 ^ 2 := pw_le hl; omega)
    have HU1 := hid (uint64_sl _ ys w1 (HGS.out.later hb) (by omega))
    rw [u64of_eq hl] at HU1
    have HGG := hid (gcdI_rest hv)
    have HSR := hid sR
    have py := val_le2 wy hl
    have pr := val_le2 wR lr
    have py0 := val_nonneg wy
    have pr0 := val_nonneg wR
    obtain ⟨Y, hY⟩ : ∃ Y, val ys = Y := ⟨_, rfl⟩
    obtain ⟨R, hR⟩ : ∃ R, val r = R := ⟨_, rfl⟩
    rw [hY] at HU1 HGG py py0 ⊢
    rw [hR] at HGG pr pr0
    have HR := hid hR
    have HY := hid hY
    clear oq orr hv hlt sR HD HGS hY hR
    go_wp2_with fail
    refine Calls.mono HU1.out ?_
    rintro e w2 ⟨rfl, hb2⟩
    have HU2 := hid (uint64_sl _ r w2 (HSR.out.later hb2) (by omega))
    rw [u64of_eq lr, HR.out] at HU2
    have hb3 := bt hb hb2
    clear hb hb2 HU1 HSR
    go_wp2_with fail
    refine Calls.mono HU2.out ?_
    rintro e w3 ⟨rfl, hb2⟩
    have hb := bt hb3 hb2
    clear hb3 hb2 HU2
    go_wp2_with fail
    go_loopw [7, 9] (fun c d ww => ∃ (p q : Int), c = .int .u64 p ∧ d = .int .u64 q ∧ 0 ≤ p ∧ p ≤ 18446744073709551615 ∧ 0 ≤ q ∧ q ≤ 18446744073709551615 ∧ Hid (gcdI p q = gcdI (val xs) Y) ∧ Below w.heap.size w ww) (fun _ d _ => (intOf d).toNat)
    case atStart => exact ⟨Y, R, rfl, rfl, py0, py, pr0, pr, HGG.out.symm, hb⟩
    case round =>
      obtain ⟨p, q, rfl, rfl, p0, p1, q0, q1, HG, hbw⟩ := hrel
      by_cases hq : q = 0
      · subst hq
        have HF : Hid (p = gcdI (val xs) Y) := by show _ = _; rw [← HG.out, gcdI_zero p p0]
        have HOF := hid (of_any p wr p0 p1)
        go_wp2_with fail
        refine Calls.mono HOF.out ?_
        rintro e w4 ⟨v4, rfl, o4, hb4⟩
        have HO := hid (owns_base (owns_len o4) hbw.size)
        have hb5 := bt hbw hb4
        clear o4 hb4 HOF
        go_wp2_with fail
        go_ret
        exact ⟨v4, _, rfl, HO.out, (of_wd p p0 p1).trimmed, Trimmed.trimmed _, by rw [val_trimmed, val_two, HY.out, ← HF.out]; omega, hb5⟩
      · have hne : (q != 0) = true := by simp [hq]
        have m0 : 0 ≤ p % q := Int.emod_nonneg _ hq
        have m1 : p % q < q := Int.emod_lt_of_pos _ (by omega)
        have HG' : Hid (gcdI q (p % q) = gcdI (val xs) Y) := by show _ = _; rw [← gcdI_mod]; exact HG.out
        go_wp2_with fail
        go_quiet (fail)
        go_wp2_with fail
        go_roundw
        case rel => exact ⟨q, p % q, rfl, by go_num, q0, q1, m0, by omega, HG', bdn hbw _⟩
        case measure => simp [intOf]; omega
end Go.Proofs.YtfppimlmebnaeaaGreatDoor

/- Fractions as plain arithmetic: numerator over denominator with nothing in common; sums and products as they are worked with what is in common taken out first. Nothing here speaks of the program. -/
namespace Go.Proofs.YtfppimlmebnaeaaGreatDoor
open Go.RowKit

theorem gcd1 {x y : Int} : gcdI x y = 1 ↔ Int.gcd x y = 1 := by unfold gcdI; omega
/-- Nothing in common, as a rule for divisors. -/
theorem cop_iff {x y : Int} : gcdI x y = 1 ↔ ∀ k : Nat, (k : Int) ∣ x → (k : Int) ∣ y → k = 1 := by
  rw [gcd1]
  constructor
  · intro h k h1 h2
    have := Int.dvd_gcd h1 h2
    rw [h] at this
    exact Nat.dvd_one.1 this
  · intro h
    exact h _ (Int.gcd_dvd_left ..) (Int.gcd_dvd_right ..)
theorem cop_dvd {x y z : Int} (h : gcdI x y = 1) (hz : z ∣ y) : gcdI x z = 1 :=
  cop_iff.2 fun k h1 h2 => cop_iff.1 h k h1 (Int.dvd_trans h2 hz)
theorem cop_dvd' {x y z : Int} (h : gcdI x y = 1) (hz : z ∣ x) : gcdI z y = 1 :=
  cop_iff.2 fun k h1 h2 => cop_iff.1 h k (Int.dvd_trans h1 hz) h2
theorem nat_cop {x y : Int} (h : gcdI x y = 1) : Nat.Coprime x.natAbs y.natAbs := gcd1.1 h
theorem cop_mul {x y z : Int} (h : gcdI x y = 1) (g : gcdI x z = 1) : gcdI x (y * z) = 1 := by
  rw [gcd1]
  show Nat.gcd x.natAbs (y * z).natAbs = 1
  rw [Int.natAbs_mul]
  exact Nat.Coprime.mul_right (nat_cop h) (nat_cop g)
theorem cop_mul' {x y z : Int} (h : gcdI x z = 1) (g : gcdI y z = 1) : gcdI (x * y) z = 1 := by
  rw [gcdI_comm]; exact cop_mul (by rw [gcdI_comm]; exact h) (by rw [gcdI_comm]; exact g)
/-- A sum has nothing in common with a number that divides one part and has nothing in common with the other. -/
theorem cop_add {x y z : Int} (h : gcdI x z = 1) (g : z ∣ y) : gcdI (x + y) z = 1 :=
  cop_iff.2 fun k h1 h2 => cop_iff.1 h k ((Int.dvd_add_left (Int.dvd_trans h2 g)).1 h1) h2
theorem q_parts {a b x y g : Int} (hg : g = gcdI a b) (h0 : 0 < g) (hx : a = x * g) (hy : b = y * g) : gcdI x y = 1 := by
  have e : gcdI (x * g) (y * g) = gcdI x y * g := by
    show ((Int.gcd (x * g) (y * g) : Nat) : Int) = (Int.gcd x y : Int) * g
    rw [Int.gcd_mul_right, Int.natCast_mul]
    congr 1
    omega
  rw [← hx, ← hy, ← hg] at e
  have e2 : g * 1 = g * gcdI x y := by rw [Int.mul_one, Int.mul_comm]; exact e
  exact (Int.eq_of_mul_eq_mul_left (by omega) e2).symm

theorem fr_num {x d : Int} (hd : 0 < d) (h : gcdI x d = 1) : (Rat.divInt x d).num = x ∧ ((Rat.divInt x d).den : Int) = d := by
  have h1 : Int.gcd d x = 1 := by rw [Int.gcd_comm]; exact gcd1.1 h
  constructor
  · rw [Rat.num_divInt, h1, Int.sign_eq_one_of_pos hd]; simp
  · rw [Rat.den_divInt, h1, if_neg (by omega)]; simp; omega
theorem fr_inj {x d y e : Int} (hd : 0 < d) (h : gcdI x d = 1) (he : 0 < e) (g : gcdI y e = 1) (hq : Rat.divInt x d = Rat.divInt y e) : x = y ∧ d = e := by
  obtain ⟨a1, a2⟩ := fr_num hd h
  obtain ⟨b1, b2⟩ := fr_num he g
  exact ⟨by rw [← a1, ← b1, hq], by rw [← a2, ← b2, hq]⟩
theorem pos_left {x y : Int} (h : 0 < x * y) (hy : 0 < y) : 0 < x := by
  rcases Int.lt_trichotomy x 0 with h1 | h1 | h1
  · have := Int.mul_neg_of_neg_of_pos h1 hy; omega
  · subst h1; simp at h
  · exact h1
theorem fr_add {a b c d g rA rB N s p e : Int} (hb : 0 < b) (hd : 0 < d) (hab : gcdI a b = 1) (hcd : gcdI c d = 1) (hg : g = gcdI b d) (h1 : b = rA * g) (h2 : d = rB * g) (hN : N = a * rB + c * rA) (hs : s = gcdI N g) (hp : N = p * s) (he : d = e * s) :
    0 < rA * e ∧ gcdI p (rA * e) = 1 ∧ Rat.divInt p (rA * e) = Rat.divInt a b + Rat.divInt c d := by
  have hg0 : 0 < g := by
    have : 0 < Int.gcd b d := Int.gcd_pos_iff.2 (Or.inl (by omega))
    rw [hg]; unfold gcdI; omega
  have hs0 : 0 < s := by
    have : 0 < Int.gcd N g := Int.gcd_pos_iff.2 (Or.inr (by omega))
    rw [hs]; unfold gcdI; omega
  have rA0 : 0 < rA := pos_left (by omega) hg0
  have rB0 : 0 < rB := pos_left (by omega) hg0
  have e0 : 0 < e := pos_left (by omega) hs0
  have hr : gcdI rA rB = 1 := q_parts hg hg0 h1 h2
  have c1 : gcdI N rA = 1 := by
    rw [hN]
    exact cop_add (cop_mul' (cop_dvd hab ⟨g, h1⟩) (by rw [gcdI_comm]; exact hr)) ⟨c, by rw [Int.mul_comm]⟩
  have c2 : gcdI N rB = 1 := by
    rw [hN, Int.add_comm]
    exact cop_add (cop_mul' (cop_dvd hcd ⟨g, h2⟩) hr) ⟨a, by rw [Int.mul_comm]⟩
  have hsg : s ∣ g := by rw [hs]; exact Int.gcd_dvd_right ..
  obtain ⟨t, ht⟩ := hsg
  have hpt : gcdI p t = 1 := q_parts hs hs0 hp (by rw [ht, Int.mul_comm])
  have het : e = rB * t := by
    have : e * s = rB * t * s := by rw [← he, h2, ht, Int.mul_comm s t, Int.mul_assoc]
    exact Int.eq_of_mul_eq_mul_right (by omega) this
  have hpN : p ∣ N := ⟨s, hp⟩
  refine ⟨Int.mul_pos rA0 e0, ?_, ?_⟩
  · rw [het]
    exact cop_mul (cop_dvd' c1 hpN) (cop_mul (cop_dvd' c2 hpN) hpt)
  · rw [Rat.divInt_add_divInt _ _ (by omega) (by omega), Rat.divInt_eq_divInt_iff (by have := Int.mul_pos rA0 e0; omega) (by have := Int.mul_pos hb hd; omega)]
    have e1 : a * d + c * b = N * g := by rw [hN, h1, h2]; grind
    rw [e1, hp]
    have e2 : b * d = rA * g * (e * s) := by rw [← he, ← h1]
    rw [e2]
    grind
theorem fr_mul {a b c d f s a1 d1 c1 b1 : Int} (hb : 0 < b) (hd : 0 < d) (hab : gcdI a b = 1) (hcd : gcdI c d = 1) (hf : f = gcdI a d) (hs : s = gcdI c b) (h1 : a = a1 * f) (h2 : d = d1 * f) (h3 : c = c1 * s) (h4 : b = b1 * s) :
    0 < b1 * d1 ∧ gcdI (a1 * c1) (b1 * d1) = 1 ∧ Rat.divInt (a1 * c1) (b1 * d1) = Rat.divInt a b * Rat.divInt c d := by
  have hf0 : 0 < f := by
    have : 0 < Int.gcd a d := Int.gcd_pos_iff.2 (Or.inr (by omega))
    rw [hf]; unfold gcdI; omega
  have hs0 : 0 < s := by
    have : 0 < Int.gcd c b := Int.gcd_pos_iff.2 (Or.inr (by omega))
    rw [hs]; unfold gcdI; omega
  have b0 : 0 < b1 := pos_left (by omega) hs0
  have d0 : 0 < d1 := pos_left (by omega) hf0
  have k1 : gcdI a1 b1 = 1 := cop_dvd' (cop_dvd hab ⟨s, h4⟩) ⟨f, h1⟩
  have k2 : gcdI a1 d1 = 1 := q_parts hf hf0 h1 h2
  have k3 : gcdI c1 b1 = 1 := q_parts hs hs0 h3 h4
  have k4 : gcdI c1 d1 = 1 := cop_dvd' (cop_dvd hcd ⟨f, h2⟩) ⟨s, h3⟩
  refine ⟨Int.mul_pos b0 d0, cop_mul' (cop_mul k1 k2) (cop_mul k3 k4), ?_⟩
  rw [Rat.divInt_mul_divInt, Rat.divInt_eq_divInt_iff (by have := Int.mul_pos b0 d0; omega) (by have := Int.mul_pos hb hd; omega), h1, h2, h3, h4]
  grind
theorem fr_make {x d g p e : Int} (hd : 0 < d) (hg : g = gcdI x d) (hp : x = p * g) (he : d = e * g) : 0 < e ∧ gcdI p e = 1 ∧ Rat.divInt p e = Rat.divInt x d := by
  have hg0 : 0 < g := by
    have : 0 < Int.gcd x d := Int.gcd_pos_iff.2 (Or.inr (by omega))
    rw [hg]; unfold gcdI; omega
  have e0 : 0 < e := pos_left (by omega) hg0
  refine ⟨e0, q_parts hg hg0 hp he, ?_⟩
  rw [Rat.divInt_eq_divInt_iff (by omega) (by omega), hp, he]
  grind
end Go.Proofs.YtfppimlmebnaeaaGreatDoor

/- nat.leap: one more of Euclid's steps, and whether it holds. -/
namespace Go.Proofs.YtfppimlmebnaeaaGreatDoor
open Go.RowKit
set_option linter.unusedVariables false

set_option maxHeartbeats 400000 in
set_option maxRecDepth 100000 in
theorem sizeOf_any (x : Int) (w : World) (h0 : -4611686018427387904 ≤ x) (h1 : x ≤ 4611686018427387904) :
    Calls Tryz.prog 103 #[.int .i64 x] w fun e w' => e = .returned (.int .i64 (x.natAbs : Int)) ∧ w = w' := by
  by_cases h : x < 0
  · go_enter Tryz.func103, Tryz.ntmps103
    go_wp2_with fail
    go_ret
    exact ⟨ret_int (by omega), rfl⟩
  · go_enter Tryz.func103, Tryz.ntmps103
    go_wp2_with fail
    go_ret
    exact ⟨ret_int (by omega), rfl⟩

/-- A leap's value. -/
def leapV (s a b c d : Int) : Value := .agg #[.int .i64 s, .int .i64 a, .int .i64 b, .int .i64 c, .int .i64 d]

set_option maxHeartbeats 800000 in
set_option maxRecDepth 100000 in
theorem step_any (s a b c d q : Int) (w : World) (hs : 0 ≤ s ∧ s ≤ 4611686018427387904) (h1 : IntKind.i64.wrap (q * c) = q * c) (h2 : IntKind.i64.wrap (q * d) = q * d) (h3 : IntKind.i64.wrap (a - q * c) = a - q * c) (h4 : IntKind.i64.wrap (b - q * d) = b - q * d) :
    Calls Tryz.prog 97 #[.agg #[.int .i64 s, .int .i64 a, .int .i64 b, .int .i64 c, .int .i64 d], .int .i64 q] w fun e w' => e = .returned (.agg #[.int .i64 (s + 1), .int .i64 c, .int .i64 d, .int .i64 (a - q * c), .int .i64 (b - q * d)]) ∧ Below w.heap.size w w' := by
  go_enter Tryz.func97, Tryz.ntmps97
  go_wp2_with fail
  go_returns
  exact ⟨rfl, bt (alloc_later _ _) (alloc_later _ _)⟩

set_option maxHeartbeats 800000 in
set_option maxRecDepth 100000 in
theorem holds_any (s a b c d p q : Int) (w : World) (hb : -4611686018427387904 ≤ b ∧ b ≤ 4611686018427387904) (hd : -4611686018427387904 ≤ d ∧ d ≤ 4611686018427387904) (hp : 0 ≤ p ∧ p ≤ 4611686018427387904) (hq : 0 ≤ q ∧ q ≤ 4611686018427387904)
    (hsum : (b.natAbs : Int) + (d.natAbs : Int) ≤ 9223372036854775807) :
    Calls Tryz.prog 98 #[.agg #[.int .i64 s, .int .i64 a, .int .i64 b, .int .i64 c, .int .i64 d], .int .i64 p, .int .i64 q] w fun e w' => e = .returned (.bool (decide ((d.natAbs : Int) ≤ q ∧ (b.natAbs : Int) + (d.natAbs : Int) ≤ p - q))) ∧ Below w.heap.size w w' := by
  have HB := hid (fun ww => Calls.mono (sizeOf_any b ww hb.1 hb.2) (R' := fun e w' => e = .returned (.int .i64 (b.natAbs : Int)) ∧ w' = ww) (fun _ _ h => ⟨h.1, h.2.symm⟩))
  have HD := hid (fun ww => Calls.mono (sizeOf_any d ww hd.1 hd.2) (R' := fun e w' => e = .returned (.int .i64 (d.natAbs : Int)) ∧ w' = ww) (fun _ _ h => ⟨h.1, h.2.symm⟩))
  have f0 : 0 ≤ (b.natAbs : Int) := by omega
  have s0 : 0 ≤ (d.natAbs : Int) := by omega
  obtain ⟨F, hF⟩ : ∃ F : Int, (b.natAbs : Int) = F := ⟨_, rfl⟩
  obtain ⟨S, hS⟩ : ∃ S : Int, (d.natAbs : Int) = S := ⟨_, rfl⟩
  rw [hF] at HB f0 hsum ⊢
  rw [hS] at HD s0 hsum ⊢
  clear hF hS hb hd
  by_cases c1 : S ≤ q
  · by_cases c2 : F + S ≤ p - q
    · have HR : Hid (decide (S ≤ q ∧ F + S ≤ p - q) = true) := decide_eq_true ⟨c1, c2⟩
      go_enter Tryz.func98, Tryz.ntmps98
      go_wp2_with fail
      go_quiet ((go_at_call 103; first | exact Calls.quiet_of_same (HB.out _) | exact Calls.quiet_of_same (HD.out _)))
      go_wp2_with fail
      go_returns
      exact ⟨ret_bool (by first | exact HR.out.symm | (simp; omega)), bdn (alloc_later _ _) _⟩
    · have HR : Hid (decide (S ≤ q ∧ F + S ≤ p - q) = false) := decide_eq_false (fun h => c2 h.2)
      go_enter Tryz.func98, Tryz.ntmps98
      go_wp2_with fail
      go_quiet ((go_at_call 103; first | exact Calls.quiet_of_same (HB.out _) | exact Calls.quiet_of_same (HD.out _)))
      go_wp2_with fail
      go_returns
      exact ⟨ret_bool (by first | exact HR.out.symm | (simp; omega)), bdn (alloc_later _ _) _⟩
  · have HR : Hid (decide (S ≤ q ∧ F + S ≤ p - q) = false) := decide_eq_false (fun h => c1 h.1)
    go_enter Tryz.func98, Tryz.ntmps98
    go_wp2_with fail
    go_quiet ((go_at_call 103; first | exact Calls.quiet_of_same (HB.out _) | exact Calls.quiet_of_same (HD.out _)))
    go_wp2_with fail
    go_returns
    exact ⟨ret_bool (by first | exact HR.out.symm | (simp; omega)), bdn (alloc_later _ _) _⟩
end Go.Proofs.YtfppimlmebnaeaaGreatDoor

/- nat.highest: the highest 62 bits of three words or more, moved up by the first one's noughts. -/
namespace Go.Proofs.YtfppimlmebnaeaaGreatDoor
open Go.RowKit
set_option linter.unusedVariables false

theorem val_three (xs : List Int) (e : Nat) (h : xs.length = e + 3) : val xs = valTo xs e + (xs[e]?.getD 0 + (xs[e + 1]?.getD 0 + xs[e + 2]?.getD 0 * 4294967296) * 4294967296) * 4294967296 ^ e := by
  have := seg_three xs 0 e
  rw [segTo_zero, segTo_zero] at this
  simp only [Nat.zero_add] at this
  unfold val
  rw [h]
  exact this
/-- The top three words, moved down. -/
theorem high_value (h2 h1 h0 : Int) (s : Nat) (hs : s ≤ 31) (b0 : 0 ≤ h0) : ((h1 + h2 * 4294967296) * 2 ^ s + h0 / 2 ^ (32 - s)) / 4 = (h0 + (h1 + h2 * 4294967296) * 4294967296) / 2 ^ (34 - s) := by
  have p := two_pos (32 - s)
  have e1 : (2 : Int) ^ (34 - s) = 2 ^ (32 - s) * 4 := by rw [show 34 - s = (32 - s) + 2 by omega, Int.pow_add]; rfl
  have e2 : (4294967296 : Int) = 2 ^ s * 2 ^ (32 - s) := two_split s (by omega)
  have e3 : (h0 + (h1 + h2 * 4294967296) * 4294967296) / 2 ^ (32 - s) = (h1 + h2 * 4294967296) * 2 ^ s + h0 / 2 ^ (32 - s) := by
    have : (h1 + h2 * 4294967296) * 4294967296 = (h1 + h2 * 4294967296) * 2 ^ s * 2 ^ (32 - s) := by rw [Int.mul_assoc, ← e2]
    rw [this, Int.add_mul_ediv_right _ _ (by omega)]
    omega
  rw [e1, ← Int.ediv_ediv_of_nonneg (by omega), e3]

theorem or_shl (c x : Int) (t : Nat) (c0 : 0 ≤ c) (c1 : c < 2 ^ t) (x0 : 0 ≤ x) (hp : x * 2 ^ t + c ≤ 18446744073709551615) : bits BinOp.or IntKind.u64 (x * 2 ^ t) c = x * 2 ^ t + c := by
  have h1 := two_pos t
  have h3 : 0 ≤ x * 2 ^ t := Int.mul_nonneg x0 (Int.le_of_lt h1)
  obtain ⟨C, rfl⟩ := Int.eq_ofNat_of_zero_le c0
  obtain ⟨X, rfl⟩ := Int.eq_ofNat_of_zero_le x0
  have e1 : (X : Int) * 2 ^ t = ((X * 2 ^ t : Nat) : Int) := by rw [Int.natCast_mul, Int.natCast_pow]; rfl
  have e2 : ((2 ^ t : Nat) : Int) = 2 ^ t := by rw [Int.natCast_pow]; rfl
  rw [e1] at hp ⊢
  rw [← e2] at c1
  rw [u64_or _ _ (by omega) (by omega) (by omega) (by omega), Int.toNat_natCast, Int.toNat_natCast, nat_join t _ _ (Nat.mul_mod_left _ _) (Int.ofNat_lt.1 c1)]
  omega

set_option maxHeartbeats 800000 in
set_option maxRecDepth 100000 in
theorem highest_any (a : Option Addr) (e cap : Nat) (xs : List Int) (s : Nat) (w : World) (h : Reads w w.heap.size a (e + 3) cap xs) (hn : e ≤ 8192) (hs : s ≤ 31) (hfit : xs[e + 2]?.getD 0 * 2 ^ s < 4294967296) :
    Calls Tryz.prog 96 #[.slice a (e + 3) cap, .int .i64 s] w fun x w' => x = .returned (.int .i64 (val xs / 4294967296 ^ e / 2 ^ (34 - s))) ∧ 0 ≤ val xs / 4294967296 ^ e / 2 ^ (34 - s) ∧ val xs / 4294967296 ^ e / 2 ^ (34 - s) < 4611686018427387904 ∧ Below w.heap.size w w' := by
  rcases h.2.2.1 with h0 | ⟨b2, o2, rfl, hb2, hc2⟩
  · omega
  · have hwz := h.2.1
    have c2 := hc2 (e + 2) (by omega)
    have c1 := hc2 (e + 1) (by omega)
    have c0 := hc2 e (by omega)
    have b2' := hwz.at (e + 2)
    have b1' := hwz.at (e + 1)
    have b0' := hwz.at e
    have hv := val_three xs e h.1
    have vb := valTo_bounds hwz e
    have hT : val xs / 4294967296 ^ e = xs[e]?.getD 0 + (xs[e + 1]?.getD 0 + xs[e + 2]?.getD 0 * 4294967296) * 4294967296 := by
      rw [hv, Int.add_mul_ediv_right _ _ (by have := pw_pos e; omega), Int.ediv_eq_zero_of_lt vb.1 vb.2]
      omega
    rw [hT]
    generalize xs[e + 2]?.getD 0 = H2 at *
    generalize xs[e + 1]?.getD 0 = H1 at *
    generalize xs[e]?.getD 0 = H0 at *
    rw [← high_value H2 H1 H0 s hs b0'.1]
    obtain ⟨t, ht⟩ : ∃ t, t = H1 + H2 * 4294967296 := ⟨_, rfl⟩
    have hor : bits BinOp.or IntKind.u64 (H2 * 4294967296) H1 = t := by rw [or_join H2 _ b2'.1 b2'.2 b1'.1 b1'.2, ht]
    rw [← ht]
    have ps := two_pos s
    have pr := two_pos (32 - s)
    have t0 : 0 ≤ t := by omega
    obtain ⟨r, hr⟩ : ∃ r : Nat, r = 32 - s := ⟨_, rfl⟩
    have hri : (32 : Int) - (s : Int) = (r : Int) := by omega
    have e2 : (4294967296 : Int) = 2 ^ s * 2 ^ r := by rw [hr]; exact two_split s (by omega)
    rw [← hr] at pr ⊢
    have hH : H2 + 1 ≤ 2 ^ r := Int.lt_of_mul_lt_mul_left (show 2 ^ s * H2 < 2 ^ s * 2 ^ r by rw [← e2, Int.mul_comm]; exact hfit) (by omega)
    have hts : (t + 1) * 2 ^ s ≤ 18446744073709551616 := by
      have a1 : (t + 1) * 2 ^ s ≤ (H2 + 1) * 4294967296 * 2 ^ s := Int.mul_le_mul_of_nonneg_right (by omega) (by omega)
      have a2 : (H2 + 1) * 2 ^ s ≤ 2 ^ r * 2 ^ s := Int.mul_le_mul_of_nonneg_right hH (by omega)
      rw [Int.mul_comm (2 ^ r), ← e2] at a2
      rw [Int.mul_assoc, Int.mul_comm 4294967296, ← Int.mul_assoc] at a1
      omega
    rw [Int.add_mul, Int.one_mul] at hts
    have k0 : 0 ≤ H0 / 2 ^ r := Int.ediv_nonneg b0'.1 (by omega)
    have k1 : H0 / 2 ^ r < 2 ^ s := Int.ediv_lt_of_lt_mul pr (by rw [← e2]; omega)
    have m0 : 0 ≤ t * 2 ^ s := Int.mul_nonneg t0 (by omega)
    have hor2 := or_shl (H0 / 2 ^ r) t s k0 k1 t0 (by omega)
    obtain ⟨k, hk⟩ : ∃ k, H0 / 2 ^ r = k := ⟨_, rfl⟩
    obtain ⟨m, hm⟩ : ∃ m, t * 2 ^ s = m := ⟨_, rfl⟩
    rw [hk] at k0 k1 hor2 ⊢
    rw [hm] at m0 hts hor2 ⊢
    obtain ⟨u, hu⟩ : ∃ u, m + k = u := ⟨_, rfl⟩
    rw [hu] at hor2 ⊢
    have u0 : 0 ≤ u := by omega
    have u1 : u ≤ 18446744073709551615 := by omega
    have m1 : m ≤ 18446744073709551615 := by omega
    have t1 : t ≤ 18446744073709551615 := by omega
    have HPS := hid ps
    clear hc2 h hv vb hT hfit e2 hH hr hu hts k1 ps pr ht
    go_enter Tryz.func96, Tryz.ntmps96
    go_wp2_with fail
    go_quiet (fail)
    go_wp2_with fail
    go_quiet (fail)
    go_wp2_with fail
    go_ret
    exact ⟨ret_int (by omega), by omega, by omega, by first | exact bdn (Below.refl _ _) _ | exact bdn (bdn (Below.refl _ _) _) _⟩
end Go.Proofs.YtfppimlmebnaeaaGreatDoor

/- (nat.leap).apply: two numbers in own memory become two sums of multiples of them. -/
namespace Go.Proofs.YtfppimlmebnaeaaGreatDoor
open Go.RowKit
set_option linter.unusedVariables false

theorem OwnC.drewN {w : World} {base g n cap : Nat} {ys : List Int} (h : OwnC w base g n cap ys) (m : Nat) : OwnC (w.drewN m) base g n cap ys := h

theorem OwnC.base {w : World} {base g n cap : Nat} {ys : List Int} (h : OwnC w base g n cap ys) : base ≤ g ∧ g < w.heap.size := World.ownsRow.lt h g rfl

theorem apply_step (xs ys us : List Int) (k : Nat) (a b c p1 p2 T : Int) (hk : k < us.length) (h1 : a * xs[k]?.getD 0 = p1) (h2 : b * ys[k]?.getD 0 = p2) (hT : c + (p1 + p2) = T)
    (h : valTo us k + c * 4294967296 ^ k = a * valTo xs k + b * valTo ys k) :
    valTo (us.set k (T % 4294967296)) (k + 1) + T / 4294967296 * 4294967296 ^ (k + 1) = a * valTo xs (k + 1) + b * valTo ys (k + 1) := by
  rw [valTo_set us k _ hk, valTo_succ xs, valTo_succ ys, pw_succ, Int.mul_add, Int.mul_add, ← Int.mul_assoc a, ← Int.mul_assoc b, h1, h2]
  have e := carry_step (4294967296 ^ k) (T % 4294967296) (T / 4294967296) T (by omega)
  have e2 : T * 4294967296 ^ k = c * 4294967296 ^ k + (p1 * 4294967296 ^ k + p2 * 4294967296 ^ k) := by
    rw [← hT, Int.add_mul, Int.add_mul]
  omega

/-- Two factors of unlike signs, below 2^31 in size. -/
def Coef (a b : Int) : Prop := (0 ≤ a ∧ a ≤ 2147483647 ∧ -2147483647 ≤ b ∧ b ≤ 0) ∨ (-2147483647 ≤ a ∧ a ≤ 0 ∧ 0 ≤ b ∧ b ≤ 2147483647)
theorem coef_pos (a v : Int) (h0 : 0 ≤ a) (h1 : a ≤ 2147483647) (v0 : 0 ≤ v) (v1 : v ≤ 4294967295) : 0 ≤ a * v ∧ a * v ≤ 9223372030412324865 := by
  have e1 := Int.mul_nonneg h0 v0
  have e2 : a * v ≤ 2147483647 * v := Int.mul_le_mul_of_nonneg_right h1 v0
  omega
theorem coef_neg (a v : Int) (h0 : -2147483647 ≤ a) (h1 : a ≤ 0) (v0 : 0 ≤ v) (v1 : v ≤ 4294967295) : -9223372030412324865 ≤ a * v ∧ a * v ≤ 0 := by
  have := coef_pos (-a) v (by omega) (by omega) v0 v1
  rw [Int.neg_mul] at this
  omega
theorem Coef.bounds {a b : Int} (h : Coef a b) {v w p1 p2 : Int} (v0 : 0 ≤ v ∧ v ≤ 4294967295) (w0 : 0 ≤ w ∧ w ≤ 4294967295) (h1 : a * v = p1) (h2 : b * w = p2) :
    (-9223372030412324865 ≤ p1 ∧ p1 ≤ 9223372030412324865) ∧ (-9223372030412324865 ≤ p2 ∧ p2 ≤ 9223372030412324865) ∧ (-9223372030412324865 ≤ p1 + p2 ∧ p1 + p2 ≤ 9223372030412324865) := by
  rcases h with ⟨a0, a1, b0, b1⟩ | ⟨a0, a1, b0, b1⟩
  · have e1 := coef_pos a v a0 a1 v0.1 v0.2
    have e2 := coef_neg b w b0 b1 w0.1 w0.2
    omega
  · have e1 := coef_neg a v a0 a1 v0.1 v0.2
    have e2 := coef_pos b w b0 b1 w0.1 w0.2
    omega
theorem Coef.wide {a b : Int} (h : Coef a b) : (-2147483647 ≤ a ∧ a ≤ 2147483647) ∧ (-2147483647 ≤ b ∧ b ≤ 2147483647) := by
  rcases h with h | h <;> omega

/-- What is left of a number when nothing is carried out. -/
theorem apply_end {us : List Int} (hw : Wd us) (n : Nat) (c V : Int) (hl : us.length = n) (h0 : 0 ≤ V) (h1 : V < 4294967296 ^ n) (h : valTo us n + c * 4294967296 ^ n = V) : val us = V := by
  have b := valTo_bounds hw n
  have hp := pw_pos n
  have hc : c = 0 := by
    have e1 : c * 4294967296 ^ n < 1 * 4294967296 ^ n := by omega
    have e2 : (-1) * 4294967296 ^ n < c * 4294967296 ^ n := by omega
    have e3 := Int.lt_of_mul_lt_mul_right e1 (by omega)
    have e4 := Int.lt_of_mul_lt_mul_right e2 (by omega)
    omega
  rw [hc] at h
  rw [← valTo_stable us n (by omega)]
  omega

set_option maxHeartbeats 3200000 in
set_option maxRecDepth 100000 in
theorem apply_any (base gx gy n capx capy : Nat) (xs ys : List Int) (s a b c d : Int) (w : World) (hx : OwnC w base gx n capx xs) (hy : OwnC w base gy n capy ys) (hne : gx ≠ gy) (wx : Wd xs) (wy : Wd ys) (hn : n ≤ 8192)
    (h1 : Coef a b) (h2 : Coef c d) (x0 : 0 ≤ a * val xs + b * val ys) (x1 : a * val xs + b * val ys < 4294967296 ^ n) (y0 : 0 ≤ c * val xs + d * val ys) (y1 : c * val xs + d * val ys < 4294967296 ^ n) :
    Calls Tryz.prog 88 #[.agg #[.int .i64 s, .int .i64 a, .int .i64 b, .int .i64 c, .int .i64 d], .slice (some ⟨gx, 0, none⟩) n capx, .slice (some ⟨gy, 0, none⟩) n capy] w fun e w' => ∃ us vs, e = .returned (.tuple #[]) ∧ OwnC w' base gx n capx us ∧ OwnC w' base gy n capy vs ∧ Wd us ∧ Wd vs ∧
      val us = a * val xs + b * val ys ∧ val vs = c * val xs + d * val ys ∧ Below base w w' := by
  have bx := hx.base
  have by' := hy.base
  have cx := hx.cap
  have cy := hy.cap
  have lx := hx.len
  have ly := hy.len
  unfold maxLen at cx cy
  have HX0 := hid (And.intro x0 (And.intro x1 (And.intro y0 y1)))
  have HL := hid (And.intro lx ly)
  have hne2 : ¬ gx = gy := hne
  have hne3 : ¬ gy = gx := fun e => hne e.symm
  have HOX := hid (owns_later hx (alloc_later w (.cells #[.int .i64 s, .int .i64 a, .int .i64 b, .int .i64 c, .int .i64 d] 116)))
  have HOY := hid (owns_later hy (alloc_later w (.cells #[.int .i64 s, .int .i64 a, .int .i64 b, .int .i64 c, .int .i64 d] 116)))
  have HBX := hid (Box.made w 116 #[.int .i64 s, .int .i64 a, .int .i64 b, .int .i64 c, .int .i64 d])
  have HW := hid (And.intro h1.wide h2.wide)
  have H1 := hid h1
  have H2 := hid h2
  clear x0 x1 y0 y1 hx hy lx ly h1 h2 hne
  have hncy : n ≤ capy := cy.1
  go_enter Tryz.func88, Tryz.ntmps88
  go_wp2_with fail
  go_loopw [6, 7, 17] (fun cu cv t wr => ∃ (k : Nat) (c1 c2 : Int) (us vs : List Int), k ≤ n ∧ t = .int .i64 k ∧ cu = .int .i64 c1 ∧ cv = .int .i64 c2 ∧ -2147483647 ≤ c1 ∧ c1 ≤ 2147483647 ∧ -2147483647 ≤ c2 ∧ c2 ≤ 2147483647 ∧ Wd us ∧ Wd vs ∧
    Hid (valTo us k + c1 * 4294967296 ^ k = a * valTo xs k + b * valTo ys k) ∧ Hid (valTo vs k + c2 * 4294967296 ^ k = c * valTo xs k + d * valTo ys k) ∧ Hid (∀ j, k ≤ j → us[j]?.getD 0 = xs[j]?.getD 0 ∧ vs[j]?.getD 0 = ys[j]?.getD 0) ∧
    OwnC wr base gx n capx us ∧ OwnC wr base gy n capy vs ∧ Box wr w.heap.size 116 #[.int .i64 s, .int .i64 a, .int .i64 b, .int .i64 c, .int .i64 d] ∧ Below base w wr) (fun _ _ t _ => n - (intOf t).toNat)
  case atStart => exact ⟨0, 0, 0, xs, ys, by omega, rfl, rfl, rfl, by omega, by omega, by omega, by omega, wx, wy, show _ = _ by simp [valTo], show _ = _ by simp [valTo], fun _ _ => ⟨rfl, rfl⟩, HOX.out, HOY.out, HBX.out, (alloc_later _ _).mono (by omega)⟩
  case round =>
    obtain ⟨k, c1, c2, us, vs, hk, rfl, rfl, rfl, c10, c11, c20, c21, wu, wv, HV1, HV2, HK, ou, ov, hbox, hbel⟩ := hrel
    by_cases hlt : k < n
    · have u1 := ou.cell k hlt
      have v1 := ov.cell k hlt
      have fu := ou.free k
      have fv := ov.free k
      have q1 : wr.cell? ⟨w.heap.size, 1, none⟩ = some (.int .i64 a) := hbox.cell 1
      have q2 : wr.cell? ⟨w.heap.size, 2, none⟩ = some (.int .i64 b) := hbox.cell 2
      have q3 : wr.cell? ⟨w.heap.size, 3, none⟩ = some (.int .i64 c) := hbox.cell 3
      have q4 : wr.cell? ⟨w.heap.size, 4, none⟩ = some (.int .i64 d) := hbox.cell 4
      have bv := wu.at k
      have bw := wv.at k
      have hk2 := HK.out k (Nat.le_refl _)
      rw [hk2.1] at u1 bv
      rw [hk2.2] at v1 bw
      obtain ⟨p1, hp1⟩ : ∃ p, a * xs[k]?.getD 0 = p := ⟨_, rfl⟩
      obtain ⟨p2, hp2⟩ : ∃ p, b * ys[k]?.getD 0 = p := ⟨_, rfl⟩
      obtain ⟨p3, hp3⟩ : ∃ p, c * xs[k]?.getD 0 = p := ⟨_, rfl⟩
      obtain ⟨p4, hp4⟩ : ∃ p, d * ys[k]?.getD 0 = p := ⟨_, rfl⟩
      have B1 := H1.out.bounds bv bw hp1 hp2
      have B2 := H2.out.bounds bv bw hp3 hp4
      obtain ⟨T, hT⟩ : ∃ T, c1 + (p1 + p2) = T := ⟨_, rfl⟩
      obtain ⟨U, hU⟩ : ∃ U, c2 + (p3 + p4) = U := ⟨_, rfl⟩
      have hlu := ou.len
      have hlv := ov.len
      have HV1' := hid (apply_step xs ys us k a b c1 p1 p2 T (by omega) hp1 hp2 hT HV1.out)
      have HV2' := hid (apply_step xs ys vs k c d c2 p3 p4 U (by omega) hp3 hp4 hU HV2.out)
      have T0 : -9223372032559808512 ≤ T ∧ T ≤ 9223372032559808512 := by omega
      have U0 : -9223372032559808512 ≤ U ∧ U ≤ 9223372032559808512 := by omega
      obtain ⟨z, hz⟩ : ∃ z, T % 4294967296 = z := ⟨_, rfl⟩
      obtain ⟨y, hy⟩ : ∃ y, U % 4294967296 = y := ⟨_, rfl⟩
      have z0 : 0 ≤ z ∧ z ≤ 4294967295 := by omega
      have y0 : 0 ≤ y ∧ y ≤ 4294967295 := by omega
      have hwz : IntKind.u32.wrap T = z := by rw [IntKind.wrap_u32, hz]
      have hwy : IntKind.u32.wrap U = y := by rw [IntKind.wrap_u32, hy]
      rw [hz] at HV1'
      rw [hy] at HV2'
      have HK' : Hid (∀ j, k + 1 ≤ j → (us.set k z)[j]?.getD 0 = xs[j]?.getD 0 ∧ (vs.set k y)[j]?.getD 0 = ys[j]?.getD 0) := fun j hj => by
        rw [List.getElem?_set, if_neg (by omega), List.getElem?_set, if_neg (by omega)]
        exact HK.out j (by omega)
      have HC : Hid ((-2147483647 ≤ T / 4294967296 ∧ T / 4294967296 ≤ 2147483647) ∧ (-2147483647 ≤ U / 4294967296 ∧ U / 4294967296 ≤ 2147483647)) := by show _ ∧ _; omega
      have hout : ∀ m, OwnC (((wr.drewN m).setCell ⟨gx, k, none⟩ (.int .u32 z)).setCell ⟨gy, k, none⟩ (.int .u32 y)) base gx n capx (us.set k z) ∧ OwnC (((wr.drewN m).setCell ⟨gx, k, none⟩ (.int .u32 z)).setCell ⟨gy, k, none⟩ (.int .u32 y)) base gy n capy (vs.set k y) ∧
          Box (((wr.drewN m).setCell ⟨gx, k, none⟩ (.int .u32 z)).setCell ⟨gy, k, none⟩ (.int .u32 y)) w.heap.size 116 #[.int .i64 s, .int .i64 a, .int .i64 b, .int .i64 c, .int .i64 d] ∧ Below base w (((wr.drewN m).setCell ⟨gx, k, none⟩ (.int .u32 z)).setCell ⟨gy, k, none⟩ (.int .u32 y)) := fun m => by
        have s1 := OwnC.set (ou.drewN m) k z
        have o2 : OwnC ((wr.drewN m).setCell ⟨gx, k, none⟩ (.int .u32 z)) base gy n capy vs := World.ownsRow.kept (ov.drewN m) s1.2 (by right; intro e; simp [Value.ownBlock] at e; omega)
        have s2 := OwnC.set o2 k y
        have o1 := World.ownsRow.kept s1.1 s2.2 (by right; intro e; simp [Value.ownBlock] at e; omega)
        refine ⟨o1, s2.1, (Box.other (Box.other (hbox.drewN m) _ _ (by show _ ≠ gx; omega)) _ _ (by show _ ≠ gy; omega)), ?_⟩
        exact ((bdn hbel m).setCell (p := ⟨gx, k, none⟩) bx.1 _).setCell (p := ⟨gy, k, none⟩) by'.1 _
      have HOUT := hid hout
      have hwn : w.heap.size < wr.heap.size := hbox.lt
      clear hout hlu hlv ou ov hbox hbel HV1 HV2 HK hk2 hz hy HOX HOY HBX
      go_wp2_with fail
      go_quiet (fail)
      go_wp2_with fail
      go_roundw
      case rel => exact ⟨k + 1, T / 4294967296, U / 4294967296, us.set k z, vs.set k y, by omega, by go_num, by go_num, by go_num, HC.out.1.1, HC.out.1.2, HC.out.2.1, HC.out.2.2, wu.set _ z0, wv.set _ y0, HV1', HV2', HK', (HOUT.out _).1, (HOUT.out _).2.1, (HOUT.out _).2.2.1, (HOUT.out _).2.2.2⟩
      case measure => simp [intOf]; omega
    · have hkn : k = n := by omega
      subst hkn
      have hlu := ou.len
      have hlv := ov.len
      have HF1 : Hid (val us = a * val xs + b * val ys) := apply_end wu k c1 _ hlu HX0.out.1 HX0.out.2.1 (by have e := HV1.out; rw [valTo_stable xs k (by have := HL.out.1; omega), valTo_stable ys k (by have := HL.out.2; omega)] at e; exact e)
      have HF2 : Hid (val vs = c * val xs + d * val ys) := apply_end wv k c2 _ hlv HX0.out.2.2.1 HX0.out.2.2.2 (by have e := HV2.out; rw [valTo_stable xs k (by have := HL.out.1; omega), valTo_stable ys k (by have := HL.out.2; omega)] at e; exact e)
      have HO1 := hid ou
      have HO2 := hid ov
      clear ou ov hlu hlv
      go_wp2_with fail
      go_end0
      exact ⟨us, vs, rfl, HO1.out, HO2.out, wu, wv, HF1.out, HF2.out, hbel⟩
end Go.Proofs.YtfppimlmebnaeaaGreatDoor

/- Euclid's steps, many at once: plain arithmetic, nothing of the program. -/
namespace Go.Proofs.YtfppimlmebnaeaaGreatDoor
open Go.RowKit
set_option linter.unusedVariables false

/-- The sizes of a leap's four factors and its sign, after s steps. -/
structure Lp (s g A B C D : Int) : Prop where
  a0 : 0 ≤ A
  b0 : 0 ≤ B
  c0 : 0 ≤ C
  cd : C ≤ D
  d1 : 1 ≤ D
  det : A * D - B * C = g
  sgn : g = 1 ∨ g = -1
  way : (s = 0 ∧ A = 1 ∧ B = 0 ∧ C = 0 ∧ D = 1) ∨ (1 ≤ s ∧ A ≤ B ∧ 1 ≤ B ∧ B ≤ D ∧ 1 ≤ C)

theorem Lp.first : Lp 0 1 1 0 0 1 := ⟨by omega, by omega, by omega, by omega, by omega, by omega, .inl rfl, .inl ⟨rfl, rfl, rfl, rfl, rfl⟩⟩

theorem Lp.step {s g A B C D Q : Int} (h : Lp s g A B C D) (hQ : 1 ≤ Q) : Lp (s + 1) (-g) C D (A + Q * C) (B + Q * D) := by
  obtain ⟨a0, b0, c0, cd, d1, det, sgn, way⟩ := h
  have q1 : 0 ≤ Q * C := Int.mul_nonneg (by omega) c0
  have q2 : Q * C ≤ Q * D := Int.mul_le_mul_of_nonneg_left cd (by omega)
  have q3 : 1 * D ≤ Q * D := Int.mul_le_mul_of_nonneg_right hQ (by omega)
  have q4 : 1 * C ≤ Q * C := Int.mul_le_mul_of_nonneg_right hQ c0
  rw [Int.one_mul] at q3 q4
  have hdet : C * (B + Q * D) - D * (A + Q * C) = -g := by
    rw [Int.mul_add, Int.mul_add, Int.mul_comm C B, Int.mul_comm D A, ← Int.mul_assoc C, ← Int.mul_assoc D, Int.mul_comm C Q, Int.mul_comm D Q, Int.mul_assoc Q C, Int.mul_assoc Q D, Int.mul_comm D C]
    omega
  rcases way with ⟨e0, e1, e2, e3, e4⟩ | ⟨w1, w2, w3, w4, w5⟩
  · subst e1 e2 e3 e4
    refine ⟨by omega, by omega, by omega, by omega, by omega, hdet, by omega, .inr ⟨by omega, by omega, by omega, by omega, by omega⟩⟩
  · refine ⟨by omega, by omega, by omega, by omega, by omega, hdet, by omega, .inr ⟨by omega, by omega, by omega, by omega, by omega⟩⟩

/-- One step of the division: the first pair out of the later one. -/
theorem pair_step {A B C D Q p q r p0 q0 : Int} (hp : p = Q * q + r) (h1 : p0 = D * p + B * q) (h2 : q0 = C * p + A * q) :
    p0 = (B + Q * D) * q + D * r ∧ q0 = (A + Q * C) * q + C * r := by
  subst hp
  constructor
  · rw [h1, Int.mul_add, Int.add_mul, ← Int.mul_assoc, Int.mul_comm D Q]; omega
  · rw [h2, Int.mul_add, Int.add_mul, ← Int.mul_assoc, Int.mul_comm C Q]; omega

/-- The later pair out of the first one. -/
theorem pair_back {g A B C D p q p0 q0 : Int} (det : A * D - B * C = g) (sgn : g = 1 ∨ g = -1) (h1 : p0 = D * p + B * q) (h2 : q0 = C * p + A * q) :
    p = g * A * p0 + -(g * B) * q0 ∧ q = -(g * C) * p0 + g * D * q0 := by
  have e1 : A * p0 - B * q0 = g * p := by
    rw [h1, h2, Int.mul_add, Int.mul_add, ← Int.mul_assoc A D, ← Int.mul_assoc B C, ← Int.mul_assoc A B, ← Int.mul_assoc B A, Int.mul_comm B A, ← det, Int.sub_mul]; omega
  have e2 : D * q0 - C * p0 = g * q := by
    rw [h1, h2, Int.mul_add, Int.mul_add, ← Int.mul_assoc D C, ← Int.mul_assoc C D, ← Int.mul_assoc D A, ← Int.mul_assoc C B, Int.mul_comm D A, Int.mul_comm C B, Int.mul_comm D C, ← det, Int.sub_mul]; omega
  rcases sgn with rfl | rfl
  · simp only [Int.one_mul, Int.neg_mul] at *
    omega
  · simp only [Int.neg_mul, Int.one_mul, Int.neg_neg] at *
    omega

/-- What is below the highest bits changes a sum of two multiples with unlike signs by less than the greater one. -/
theorem low_part {C D K xl yl : Int} (c0 : 0 ≤ C) (cd : C ≤ D) (x0 : 0 ≤ xl) (x1 : xl < K) (y0 : 0 ≤ yl) (y1 : yl < K) : -(D * (K - 1)) ≤ D * yl - C * xl ∧ D * yl - C * xl ≤ D * (K - 1) ∧ -(D * (K - 1)) ≤ C * xl - D * yl := by
  have e1 : D * yl ≤ D * (K - 1) := Int.mul_le_mul_of_nonneg_left (by omega) (by omega)
  have e2 : C * xl ≤ C * (K - 1) := Int.mul_le_mul_of_nonneg_left (by omega) c0
  have e3 : C * (K - 1) ≤ D * (K - 1) := Int.mul_le_mul_of_nonneg_right cd (by omega)
  have e4 : 0 ≤ D * yl := Int.mul_nonneg (by omega) y0
  have e5 : 0 ≤ C * xl := Int.mul_nonneg c0 x0
  omega

/-- What a leap does to two numbers whose highest bits it was found by. -/
structure Leaps (X Y a b c d : Int) : Prop where
  ab : Coef a b
  cd : Coef c d
  pos : 0 ≤ c * X + d * Y
  lt : c * X + d * Y < a * X + b * Y
  le : a * X + b * Y ≤ X
  less : (a * X + b * Y) + (c * X + d * Y) < X + Y
  same : gcdI (a * X + b * Y) (c * X + d * Y) = gcdI X Y

theorem gcd_dvd_of {x y u v a b c d : Int} (h1 : u = a * x + b * y) (h2 : v = c * x + d * y) : Int.gcd x y ∣ Int.gcd u v := by
  rw [← Int.ofNat_dvd]
  exact Int.dvd_coe_gcd (by rw [h1]; exact Int.dvd_add (Int.dvd_mul_of_dvd_right (Int.gcd_dvd_left ..)) (Int.dvd_mul_of_dvd_right (Int.gcd_dvd_right ..))) (by rw [h2]; exact Int.dvd_add (Int.dvd_mul_of_dvd_right (Int.gcd_dvd_left ..)) (Int.dvd_mul_of_dvd_right (Int.gcd_dvd_right ..)))

theorem leaps_of {s g A B C D p q K xl yl X Y : Int} (h : Lp s g A B C D) (hs : 1 ≤ s) (hK : 1 ≤ K) (x0 : 0 ≤ xl) (x1 : xl < K) (y0 : 0 ≤ yl) (y1 : yl < K)
    (hX : X = (D * p + B * q) * K + xl) (hY : Y = (C * p + A * q) * K + yl) (hD : D ≤ 2147483647) (hq : D ≤ q) (hpq : B + D ≤ p - q) : Leaps X Y (g * A) (-(g * B)) (-(g * C)) (g * D) := by
  obtain ⟨a0, b0, c0, cd, d1, det, sgn, way⟩ := h
  obtain ⟨_, w2, w3, w4, w5⟩ : 1 ≤ s ∧ A ≤ B ∧ 1 ≤ B ∧ B ≤ D ∧ 1 ≤ C := by
    rcases way with ⟨e, _⟩ | h
    · omega
    · exact h
  have hcoef : Coef (g * A) (-(g * B)) ∧ Coef (-(g * C)) (g * D) := by
    rcases sgn with rfl | rfl
    · simp only [Int.one_mul]; exact ⟨.inl ⟨by omega, by omega, by omega, by omega⟩, .inr ⟨by omega, by omega, by omega, by omega⟩⟩
    · simp only [Int.neg_mul, Int.one_mul, Int.neg_neg]; exact ⟨.inr ⟨by omega, by omega, by omega, by omega⟩, .inl ⟨by omega, by omega, by omega, by omega⟩⟩
  -- the two sums, by the highest bits and by what is below
  obtain ⟨u, hu⟩ : ∃ u, g * A * X + -(g * B) * Y = u := ⟨_, rfl⟩
  obtain ⟨v, hv⟩ : ∃ v, -(g * C) * X + g * D * Y = v := ⟨_, rfl⟩
  have pb := pair_back (p := p) (q := q) det sgn rfl rfl
  have hue : u = p * K + g * (A * xl - B * yl) := by
    rw [← hu, hX, hY]
    have e := pb.1
    generalize D * p + B * q = P at *
    generalize C * p + A * q = R at *
    rw [e, Int.mul_add, Int.mul_add, Int.add_mul, ← Int.mul_assoc, ← Int.mul_assoc, Int.mul_sub, ← Int.mul_assoc g A, ← Int.mul_assoc g B, Int.neg_mul (g * B) yl]
    omega
  have hve : v = q * K + g * (D * yl - C * xl) := by
    rw [← hv, hX, hY]
    have e := pb.2
    generalize D * p + B * q = P at *
    generalize C * p + A * q = R at *
    rw [e, Int.mul_add, Int.mul_add, Int.add_mul, ← Int.mul_assoc, ← Int.mul_assoc, Int.mul_sub, ← Int.mul_assoc g D, ← Int.mul_assoc g C, Int.neg_mul (g * C) xl]
    omega
  have hXe : X = D * u + B * v := by
    have e : g * g = 1 := by rcases sgn with rfl | rfl <;> rfl
    have e1 : D * u + B * v = g * (A * D - B * C) * X := by
      rw [← hu, ← hv, Int.mul_add, Int.mul_add, Int.mul_sub, Int.sub_mul]
      have f1 : D * (g * A * X) = g * (A * D) * X := by rw [← Int.mul_assoc, Int.mul_comm D, Int.mul_assoc g A D]
      have f2 : D * (-(g * B) * Y) = -(g * B * D * Y) := by rw [Int.neg_mul, Int.mul_neg, ← Int.mul_assoc, Int.mul_comm D (g * B)]
      have f3 : B * (-(g * C) * X) = -(g * (B * C) * X) := by rw [Int.neg_mul, Int.mul_neg, ← Int.mul_assoc, Int.mul_comm B (g * C), Int.mul_assoc g C B, Int.mul_comm C B]
      have f4 : B * (g * D * Y) = g * B * D * Y := by rw [← Int.mul_assoc, ← Int.mul_assoc, Int.mul_comm B g]
      rw [f1, f2, f3, f4]
      omega
    rw [e1, det, e, Int.one_mul]
  have hYe : Y = C * u + A * v := by
    have e : g * g = 1 := by rcases sgn with rfl | rfl <;> rfl
    have e1 : C * u + A * v = g * (A * D - B * C) * Y := by
      rw [← hu, ← hv, Int.mul_add, Int.mul_add, Int.mul_sub, Int.sub_mul]
      have f1 : C * (g * A * X) = g * A * C * X := by rw [← Int.mul_assoc, Int.mul_comm C (g * A)]
      have f2 : C * (-(g * B) * Y) = -(g * (B * C) * Y) := by rw [Int.neg_mul, Int.mul_neg, ← Int.mul_assoc, Int.mul_comm C (g * B), Int.mul_assoc g B C]
      have f3 : A * (-(g * C) * X) = -(g * A * C * X) := by rw [Int.neg_mul, Int.mul_neg, ← Int.mul_assoc, ← Int.mul_assoc, Int.mul_comm A g]
      have f4 : A * (g * D * Y) = g * (A * D) * Y := by rw [← Int.mul_assoc, ← Int.mul_assoc, Int.mul_comm A g, Int.mul_assoc g A D]
      rw [f1, f2, f3, f4]
      omega
    rw [e1, det, e, Int.one_mul]
  have l1 := low_part (C := C) (D := D) (K := K) c0 cd x0 x1 y0 y1
  have l2 := low_part (C := A + C) (D := B + D) (K := K) (xl := xl) (yl := yl) (by omega) (by omega) x0 x1 y0 y1
  have k1 : D * K ≤ q * K := Int.mul_le_mul_of_nonneg_right hq (by omega)
  have k2 : (B + D) * K ≤ (p - q) * K := Int.mul_le_mul_of_nonneg_right hpq (by omega)
  rw [Int.mul_sub, Int.mul_one] at l1 l2
  rw [Int.sub_mul] at k2
  rw [Int.add_mul (A) C xl, Int.add_mul B D yl] at l2
  have v0 : 0 ≤ v := by
    rw [hve]
    rcases sgn with rfl | rfl
    · rw [Int.one_mul]; omega
    · rw [Int.neg_mul, Int.one_mul]; omega
  have uv : v < u := by
    rw [hve, hue]
    rcases sgn with rfl | rfl
    · rw [Int.one_mul, Int.one_mul]; omega
    · rw [Int.neg_mul, Int.one_mul, Int.neg_mul, Int.one_mul]; omega
  have m1 : 1 * u ≤ D * u := Int.mul_le_mul_of_nonneg_right d1 (by omega)
  have m2 : 0 ≤ B * v := Int.mul_nonneg b0 v0
  have m2' : 1 * v ≤ B * v := Int.mul_le_mul_of_nonneg_right w3 v0
  have m3 : 1 * u ≤ C * u := Int.mul_le_mul_of_nonneg_right w5 (by omega)
  have m4 : 0 ≤ A * v := Int.mul_nonneg a0 v0
  refine ⟨hcoef.1, hcoef.2, ?_, ?_, ?_, ?_, ?_⟩
  · rw [hv]; exact v0
  · rw [hu, hv]; exact uv
  · rw [hu]; omega
  · rw [hu, hv]; omega
  · rw [hu, hv]
    unfold gcdI
    congr 1
    exact Nat.dvd_antisymm (gcd_dvd_of (x := u) (y := v) hXe hYe) (gcd_dvd_of (x := X) (y := Y) hu.symm hv.symm)

/-- How great the factors of a step are, whether it holds or not. -/
theorem Lp.small {s g A B C D p q P0 : Int} (h : Lp s g A B C D) (hp : 1 ≤ p) (hq : 0 ≤ q) (h1 : P0 = D * p + B * q) (hP : P0 ≤ 4611686018427387903) : D ≤ 4611686018427387903 := by
  have e1 : D * 1 ≤ D * p := Int.mul_le_mul_of_nonneg_left hp (by have := h.d1; omega)
  have e2 : 0 ≤ B * q := Int.mul_nonneg h.b0 hq
  omega
theorem Lp.held {s g A B C D p q P0 : Int} (h : Lp s g A B C D) (hq : D ≤ q) (hpq : B + D ≤ p - q) (h1 : P0 = D * p + B * q) (hP : P0 ≤ 4611686018427387903) : D ≤ 2147483647 := by
  by_cases c : D ≤ 2147483647
  · exact c
  · have hb := h.b0
    have e1 : D * 2147483648 ≤ D * p := Int.mul_le_mul_of_nonneg_left (by omega) (by omega)
    have e2 : 0 ≤ B * q := Int.mul_nonneg h.b0 (by omega)
    omega
end Go.Proofs.YtfppimlmebnaeaaGreatDoor

/- nat.look: the leap that the highest bits of two numbers tell. -/
namespace Go.Proofs.YtfppimlmebnaeaaGreatDoor
open Go.RowKit
set_option linter.unusedVariables false

theorem lead_fit (x : Int) (h0 : 1 ≤ x) (h1 : x ≤ 4294967295) (t : Nat) (ht : 32 - Lib.bitLen x.toNat = t) : t ≤ 31 ∧ ∀ y : Int, 0 ≤ y → y ≤ x → y * 2 ^ t < 4294967296 := by
  obtain ⟨a, b, c⟩ := bitLen_bounds x h0 h1
  have h2 := bitLen_le32 x h1
  refine ⟨by omega, fun y hy hyx => ?_⟩
  have e := two_split (Lib.bitLen x.toNat) h2
  rw [ht] at e
  have hp := two_pos t
  have e1 : (y + 1) * 2 ^ t ≤ 2 ^ Lib.bitLen x.toNat * 2 ^ t := Int.mul_le_mul_of_nonneg_right (by omega) (by omega)
  rw [Int.add_mul] at e1
  omega

/-- What look tells. -/
def Looked (w : World) (X Y : Int) (x : Ending) (w' : World) : Prop := ∃ s a b c d : Int, x = .returned (.agg #[.int .i64 s, .int .i64 a, .int .i64 b, .int .i64 c, .int .i64 d]) ∧ 0 ≤ s ∧ s ≤ 4611686018427387904 ∧ (s = 0 ∨ (1 ≤ s ∧ Leaps X Y a b c d)) ∧ Below w.heap.size w w'

theorem Box.put5 {w : World} {b t : Nat} {z0 z1 z2 z3 z4 : Value} (h : Box w b t #[z0, z1, z2, z3, z4]) (v0 v1 v2 v3 v4 : Value) :
    Box (((((w.setCell ⟨b, 0, none⟩ v0).setCell ⟨b, 1, none⟩ v1).setCell ⟨b, 2, none⟩ v2).setCell ⟨b, 3, none⟩ v3).setCell ⟨b, 4, none⟩ v4) b t #[v0, v1, v2, v3, v4] :=
  ((((h.set 0 v0).set 1 v1).set 2 v2).set 3 v3).set 4 v4
theorem below_put5 {B : Nat} {a w : World} (h : Below B a w) (b : Nat) (hb : B ≤ b) (v0 v1 v2 v3 v4 : Value) :
    Below B a (((((w.setCell ⟨b, 0, none⟩ v0).setCell ⟨b, 1, none⟩ v1).setCell ⟨b, 2, none⟩ v2).setCell ⟨b, 3, none⟩ v3).setCell ⟨b, 4, none⟩ v4) :=
  ((((h.setCell (p := ⟨b, 0, none⟩) hb _).setCell (p := ⟨b, 1, none⟩) hb _).setCell (p := ⟨b, 2, none⟩) hb _).setCell (p := ⟨b, 3, none⟩) hb _).setCell (p := ⟨b, 4, none⟩) hb _

theorem new_box {wr w5 : World} {vs : Array Value} {t : Nat} (hb : Below (wr.alloc (.cells vs t)).drew.heap.size (wr.alloc (.cells vs t)).drew w5) : Box w5 wr.heap.size t vs ∧ Below wr.heap.size wr w5 := by
  have h1 : Below (wr.alloc (.cells vs t)).heap.size (wr.alloc (.cells vs t)) w5 := (Below.refl _ (wr.alloc (.cells vs t))).drew.trans hb
  exact ⟨(Box.made wr t vs).later h1 (by simp), bt (alloc_later _ _) h1⟩
theorem Box.put5_other {w : World} {b t b' : Nat} {vs : Array Value} (h : Box w b t vs) (hne : b ≠ b') (v0 v1 v2 v3 v4 : Value) :
    Box (((((w.setCell ⟨b', 0, none⟩ v0).setCell ⟨b', 1, none⟩ v1).setCell ⟨b', 2, none⟩ v2).setCell ⟨b', 3, none⟩ v3).setCell ⟨b', 4, none⟩ v4) b t vs :=
  ((((h.other ⟨b', 0, none⟩ _ hne).other ⟨b', 1, none⟩ _ hne).other ⟨b', 2, none⟩ _ hne).other ⟨b', 3, none⟩ _ hne).other ⟨b', 4, none⟩ _ hne

theorem top_le {xs ys : List Int} (wx : Wd xs) (wy : Wd ys) (n : Nat) (lx : xs.length = n + 1) (ly : ys.length = n + 1) (h : val ys ≤ val xs) : ys[n]?.getD 0 ≤ xs[n]?.getD 0 := by
  by_cases c : ys[n]?.getD 0 ≤ xs[n]?.getD 0
  · exact c
  · have := val_lt_of wx wy n (by omega) (fun j hj => by rw [List.getElem?_eq_none (by omega), List.getElem?_eq_none (by omega)])
    omega

/-- The sizes that a step's factors have. -/
theorem step_sizes {s g A B C D p q a b c d Q : Int} (h : Lp s g A B C D) (hQ : 1 ≤ Q) (hD : B + Q * D ≤ 4611686018427387903) (ha : a = g * A) (hb : b = -(g * B)) (hc : c = -(g * C)) (hd : d = g * D) :
    IntKind.i64.wrap (Q * c) = Q * c ∧ IntKind.i64.wrap (Q * d) = Q * d ∧ IntKind.i64.wrap (a - Q * c) = a - Q * c ∧ IntKind.i64.wrap (b - Q * d) = b - Q * d ∧ d = -(-g * D) ∧ c = -g * C ∧ a - Q * c = -(-g * (A + Q * C)) ∧ b - Q * d = -g * (B + Q * D) := by
  obtain ⟨a0, b0, c0, cd, d1, det, sgn, way⟩ := h
  have q1 : 0 ≤ Q * C := Int.mul_nonneg (by omega) c0
  have q2 : Q * C ≤ Q * D := Int.mul_le_mul_of_nonneg_left cd (by omega)
  have q3 : 0 ≤ Q * D := Int.mul_nonneg (by omega) (by omega)
  have q4 : 1 * D ≤ Q * D := Int.mul_le_mul_of_nonneg_right hQ (by omega)
  have hA : A ≤ B + Q * D := by rcases way with ⟨_, e1, _, _, e4⟩ | ⟨_, w2, _, _, _⟩ <;> omega
  have f1 : d = -(-g * D) := by rw [hd, Int.neg_mul, Int.neg_neg]
  have f2 : c = -g * C := by rw [hc, Int.neg_mul]
  have f3 : a - Q * c = -(-g * (A + Q * C)) := by
    rw [ha, hc, Int.neg_mul, Int.neg_neg, Int.mul_neg, Int.mul_add, ← Int.mul_assoc Q, ← Int.mul_assoc g Q, Int.mul_comm Q g]; omega
  have f4 : b - Q * d = -g * (B + Q * D) := by
    rw [hb, hd, Int.neg_mul, Int.mul_add, ← Int.mul_assoc Q, ← Int.mul_assoc g Q, Int.mul_comm Q g]; omega
  have bb : (-4611686018427387903 ≤ Q * c ∧ Q * c ≤ 4611686018427387903) ∧ (-4611686018427387903 ≤ Q * d ∧ Q * d ≤ 4611686018427387903) ∧ (-4611686018427387903 ≤ a ∧ a ≤ 4611686018427387903) ∧ (-4611686018427387903 ≤ b ∧ b ≤ 4611686018427387903) := by
    rcases sgn with rfl | rfl
    · rw [Int.one_mul] at ha hb hc hd
      rw [hc, hd, ha, hb, Int.mul_neg]
      omega
    · rw [Int.neg_mul, Int.one_mul] at ha hb hc hd
      rw [Int.neg_neg] at hb hc
      rw [hc, hd, ha, hb, Int.mul_neg]
      omega
  exact ⟨IntWalk.i64_in _ (by omega), IntWalk.i64_in _ (by omega), IntWalk.i64_in _ (by omega), IntWalk.i64_in _ (by omega), f1, f2, f3, f4⟩

theorem abs_of {g A a : Int} (h : 0 ≤ A) (sgn : g = 1 ∨ g = -1) (ha : a = g * A ∨ a = -(g * A)) : (a.natAbs : Int) = A := by
  rcases sgn with rfl | rfl
  · simp only [Int.one_mul] at ha; omega
  · simp only [Int.neg_mul, Int.one_mul] at ha; omega

set_option maxHeartbeats 3200000 in
set_option maxRecDepth 100000 in
theorem look_any (a : Option Addr) (e cap : Nat) (xs : List Int) (b : Option Addr) (cap' : Nat) (ys : List Int) (w : World) (h : Reads w w.heap.size a (e + 3) cap xs) (g : Reads w w.heap.size b (e + 3) cap' ys) (hn : e ≤ 8192) (htop : 1 ≤ xs[e + 2]?.getD 0) (hle : val ys ≤ val xs) :
    Calls Tryz.prog 87 #[.slice a (e + 3) cap, .slice b (e + 3) cap'] w (Looked w (val xs) (val ys)) := by
  have bt0 := h.2.1.at (e + 2)
  have bt1 := g.2.1.at (e + 2)
  have hty := top_le h.2.1 g.2.1 (e + 2) h.1 g.1 hle
  obtain ⟨t, ht⟩ : ∃ t, 32 - Lib.bitLen (xs[e + 2]?.getD 0).toNat = t := ⟨_, rfl⟩
  obtain ⟨t31, hfit⟩ := lead_fit _ htop bt0.2 t ht
  have HLD := hid (fun ww => lead_any (xs[e + 2]?.getD 0) ww htop bt0.2)
  rw [ht] at HLD
  have HX := hid (fun ww (hb : Below w.heap.size w ww) => highest_any a e cap xs t ww (h.later hb hb.size) hn t31 (hfit _ (by omega) (Int.le_refl _)))
  have HY := hid (fun ww (hb : Below w.heap.size w ww) => highest_any b e cap' ys t ww (g.later hb hb.size) hn t31 (hfit _ bt1.1 hty))
  -- the highest bits, and what is below them
  have nx := val_nonneg h.2.1
  have ny := val_nonneg g.2.1
  have kp : (0 : Int) < 4294967296 ^ e * 2 ^ (34 - t) := Int.mul_pos (pw_pos e) (two_pos _)
  have dx : val xs / 4294967296 ^ e / 2 ^ (34 - t) = val xs / (4294967296 ^ e * 2 ^ (34 - t)) := Int.ediv_ediv_of_nonneg (Int.le_of_lt (pw_pos e))
  have dy : val ys / 4294967296 ^ e / 2 ^ (34 - t) = val ys / (4294967296 ^ e * 2 ^ (34 - t)) := Int.ediv_ediv_of_nonneg (Int.le_of_lt (pw_pos e))
  rw [dx] at HX
  rw [dy] at HY
  obtain ⟨K, hK⟩ : ∃ K : Int, 4294967296 ^ e * 2 ^ (34 - t) = K := ⟨_, rfl⟩
  rw [hK] at HX HY kp
  have mx := Int.mul_ediv_add_emod (val xs) K
  have my := Int.mul_ediv_add_emod (val ys) K
  have lx := Int.emod_lt_of_pos (val xs) kp
  have ly := Int.emod_lt_of_pos (val ys) kp
  have lx0 := Int.emod_nonneg (val xs) (show K ≠ 0 by omega)
  have ly0 := Int.emod_nonneg (val ys) (show K ≠ 0 by omega)
  have pq : val ys / K ≤ val xs / K := Int.ediv_le_ediv kp hle
  have q00 : 0 ≤ val ys / K := Int.ediv_nonneg ny (by omega)
  obtain ⟨p0, hp0⟩ : ∃ p, val xs / K = p := ⟨_, rfl⟩
  obtain ⟨q0, hq0⟩ : ∃ p, val ys / K = p := ⟨_, rfl⟩
  rw [hp0] at HX mx pq
  rw [hq0] at HY my pq q00
  have HK := hid (And.intro kp (And.intro mx (And.intro my (And.intro lx (And.intro ly (And.intro lx0 ly0))))))
  rcases h.2.2.1 with h0 | ⟨b2, o2, rfl, hb2, hc2⟩
  · omega
  have hc0 := hc2 (e + 2) (by omega)
  clear dx dy hK mx my lx ly lx0 ly0 hp0 hq0 kp hc2 h g hfit ht hty bt1 nx ny hle
  generalize xs[e + 2]?.getD 0 = top at *
  go_enter Tryz.func87, Tryz.ntmps87
  go_wp2_with fail
  refine Calls.mono (HLD.out _) ?_
  rintro x w' ⟨rfl, rfl⟩
  go_wp2_with fail
  refine Calls.mono (HX.out _ (alloc_later _ _)) ?_
  rintro x w2 ⟨rfl, p00, p01, hb2'⟩
  have hbA := bt (alloc_later _ _) hb2'
  have HR2 := hid (Box.later (Box.made w 116 #[.int .i64 0, .int .i64 0, .int .i64 0, .int .i64 0, .int .i64 0]) hb2' (by simp))
  go_wp2_with fail
  refine Calls.mono (HY.out _ hbA) ?_
  rintro x w3 ⟨rfl, _, q01, hb3⟩
  have hbB := bt hbA hb3
  have HR3 := hid (Box.later HR2.out hb3 HR2.out.lt)
  have hs3 := HR3.out.lt
  have HBB := hid hbB
  clear hb3 hb2' hbA hbB HR2 HX HY HLD hc0
  go_wp2_with fail
  go_loopw [6, 7] (fun c1 c2 wr => ∃ (s f A B C D p q a b c d : Int), c1 = .int .i64 p ∧ c2 = .int .i64 q ∧ 0 ≤ q ∧ q ≤ p ∧ p ≤ 4611686018427387903 ∧ 0 ≤ s ∧ s + q ≤ 4611686018427387903 ∧ Hid (Lp s f A B C D) ∧ Hid (p0 = D * p + B * q ∧ q0 = C * p + A * q) ∧ Hid (a = f * A ∧ b = -(f * B) ∧ c = -(f * C) ∧ d = f * D) ∧ Hid (s = 0 ∨ (D ≤ q ∧ B + D ≤ p - q)) ∧
    Box wr w3.heap.size 116 #[.int .i64 s, .int .i64 a, .int .i64 b, .int .i64 c, .int .i64 d] ∧ Box wr w.heap.size 116 #[.int .i64 0, .int .i64 0, .int .i64 0, .int .i64 0, .int .i64 0] ∧ Below w.heap.size w wr) (fun _ c2 _ => (intOf c2).toNat)
  case atStart => exact ⟨0, 1, 1, 0, 0, 1, p0, q0, 1, 0, 0, 1, rfl, rfl, q00, pq, by omega, by omega, by omega, Lp.first, show _ ∧ _ by omega, show _ ∧ _ by omega, .inl rfl, Box.made _ _ _, HR3.out.later (alloc_later _ _) hs3, bt HBB.out (alloc_later _ _)⟩
  case round =>
    obtain ⟨s, f, A, B, C, D, p, q, a', b', c', d', rfl, rfl, qa, qb, pa, sa, sq, HLP, HPQ, HAB, HH, box, res, hbel⟩ := hrel
    have k0 : wr.cell? ⟨w3.heap.size, 0, none⟩ = some (.int .i64 s) := box.cell 0
    have k1 : wr.cell? ⟨w3.heap.size, 1, none⟩ = some (.int .i64 a') := box.cell 1
    have k2 : wr.cell? ⟨w3.heap.size, 2, none⟩ = some (.int .i64 b') := box.cell 2
    have k3 : wr.cell? ⟨w3.heap.size, 3, none⟩ = some (.int .i64 c') := box.cell 3
    have k4 : wr.cell? ⟨w3.heap.size, 4, none⟩ = some (.int .i64 d') := box.cell 4
    have HFIN : Hid (s = 0 ∨ (1 ≤ s ∧ Leaps (val xs) (val ys) a' b' c' d')) := by
      rcases HH.out with h0 | ⟨h1, h2⟩
      · exact .inl h0
      · by_cases hs0 : s = 0
        · exact .inl hs0
        · right
          obtain ⟨e1, e2, e3, e4⟩ := HAB.out
          obtain ⟨kp, mx, my, lx, ly, lx0, ly0⟩ := HK.out
          refine ⟨by omega, ?_⟩
          rw [e1, e2, e3, e4]
          exact leaps_of HLP.out (by omega) (by omega) lx0 lx ly0 ly (by rw [← HPQ.out.1, Int.mul_comm]; exact mx.symm) (by rw [← HPQ.out.2, Int.mul_comm]; exact my.symm) (HLP.out.held h1 h2 HPQ.out.1 (by omega)) h1 h2
    by_cases hq : q = 0
    · subst hq
      have r0 : wr.cell? ⟨w.heap.size, 0, none⟩ = some (.int .i64 0) := res.cell 0
      have r1 : wr.cell? ⟨w.heap.size, 1, none⟩ = some (.int .i64 0) := res.cell 1
      have r2 : wr.cell? ⟨w.heap.size, 2, none⟩ = some (.int .i64 0) := res.cell 2
      have r3 : wr.cell? ⟨w.heap.size, 3, none⟩ = some (.int .i64 0) := res.cell 3
      have r4 : wr.cell? ⟨w.heap.size, 4, none⟩ = some (.int .i64 0) := res.cell 4
      have g0 := res.free 0
      have g1 := res.free 1
      have g2 := res.free 2
      have g3 := res.free 3
      have g4 := res.free 4
      go_wp2_with fail
      refine bodyPost_ret (v := .agg #[.int .i64 s, .int .i64 a', .int .i64 b', .int .i64 c', .int .i64 d']) (by simp [results, Tryz.results87, go_sem, r0, r1, r2, r3, r4]) rfl ?_
      exact ⟨s, a', b', c', d', rfl, sa, by omega, HFIN.out, ((((hbel.setCell (p := ⟨w.heap.size, 0, none⟩) (Nat.le_refl _) _).setCell (p := ⟨w.heap.size, 1, none⟩) (Nat.le_refl _) _).setCell (p := ⟨w.heap.size, 2, none⟩) (Nat.le_refl _) _).setCell (p := ⟨w.heap.size, 3, none⟩) (Nat.le_refl _) _).setCell (p := ⟨w.heap.size, 4, none⟩) (Nat.le_refl _) _⟩
    · have q1 : 1 ≤ q := by omega
      have hne : (q != 0) = true := by simp [hq]
      have Q1 : 1 ≤ p / q := (Int.le_ediv_iff_mul_le (by omega)).2 (by omega)
      have hpe := Int.mul_ediv_add_emod p q
      have m0' : 0 ≤ p % q := Int.emod_nonneg _ hq
      have m1 : p % q < q := Int.emod_lt_of_pos _ (by omega)
      have td : p.tdiv q = p / q := Int.tdiv_eq_ediv_of_nonneg (by omega)
      have tm : p.tmod q = p % q := Int.tmod_eq_emod_of_nonneg (by omega)
      have Qp : p / q ≤ p := Int.ediv_le_self _ (by omega)
      obtain ⟨Q, hQ⟩ : ∃ Q, p / q = Q := ⟨_, rfl⟩
      obtain ⟨r, hr⟩ : ∃ r, p % q = r := ⟨_, rfl⟩
      rw [hQ] at Q1 hpe td Qp
      rw [hr] at m0' m1 hpe tm
      have wQ : IntKind.i64.wrap Q = Q := IntWalk.i64_in _ (by omega)
      have ps := pair_step (Q := Q) (q := q) (r := r) (by rw [Int.mul_comm]; exact hpe.symm) HPQ.out.1 HPQ.out.2
      have lp' := HLP.out.step Q1
      have hD := lp'.small q1 m0' ps.1 (by omega)
      obtain ⟨e1, e2, e3, e4⟩ := HAB.out
      obtain ⟨w1', w2', w3', w4', f1, f2, f3, f4⟩ := step_sizes (p := p) (q := q) HLP.out Q1 hD e1 e2 e3 e4
      have HST := hid (fun ww => Calls.mono (step_any s a' b' c' d' Q ww ⟨sa, by omega⟩ w1' w2' w3' w4') (R' := fun e w' => e = .returned (.agg #[.int .i64 (s + 1), .int .i64 c', .int .i64 d', .int .i64 (a' - Q * c'), .int .i64 (b' - Q * d')]) ∧ Below ww.heap.size ww w' ∧
        (wr.heap.size < ww.heap.size → ∀ j, w'.cell? ⟨wr.heap.size, j, none⟩ = ww.cell? ⟨wr.heap.size, j, none⟩) ∧ (wr.heap.size < ww.heap.size → ∀ j, w'.frozen? ⟨wr.heap.size, j, none⟩ = ww.frozen? ⟨wr.heap.size, j, none⟩)) (fun _ _ h => ⟨h.1, h.2, fun hlt j => h.2.cell hlt, fun hlt j => h.2.frozen hlt⟩))
      obtain ⟨c2, hc2⟩ : ∃ c2, a' - Q * c' = c2 := ⟨_, rfl⟩
      obtain ⟨d2, hd2⟩ : ∃ d2, b' - Q * d' = d2 := ⟨_, rfl⟩
      rw [hc2] at f3 HST
      rw [hd2] at f4 HST
      obtain ⟨C2, hC2⟩ : ∃ C2, A + Q * C = C2 := ⟨_, rfl⟩
      obtain ⟨D2, hD2⟩ : ∃ D2, B + Q * D = D2 := ⟨_, rfl⟩
      rw [hC2] at lp' ps f3
      rw [hD2] at lp' ps f4 hD
      have ad := abs_of (a := d') lp'.b0 lp'.sgn (.inr f1)
      have ad2 := abs_of (a := d2) (by have := lp'.d1; omega) lp'.sgn (.inl f4)
      have lD : D ≤ D2 := by
        rcases lp'.way with ⟨x0, _⟩ | ⟨_, _, _, x3, _⟩
        · omega
        · exact x3
      have lD0 := lp'.b0
      have HHO := hid (fun ww => holds_any (s + 1) c' d' c2 d2 q r ww (by omega) (by omega) (by omega) (by omega) (by omega))
      rw [ad, ad2] at HHO
      have HLP' := hid lp'
      have HPS := hid ps
      have HAB' : Hid (c' = -f * C ∧ d' = -(-f * D) ∧ c2 = -(-f * C2) ∧ d2 = -f * D2) := ⟨f2, f1, f3, f4⟩
      have hbs := box.lt
      have hrs := res.lt
      have HBX := hid box
      have HRS := hid res
      have HBL := hid hbel
      clear lp' ps f1 f2 f3 f4 e1 e2 e3 e4 ad ad2 hC2 hD2 hc2 hd2 w1' w2' w3' w4' hpe box res hbel HLP HPQ HAB HH lD lD0 hD
      go_upto_region 5 with fail
      go_cut [9, 10] from 25 to 42 (fun n9 n10 wx => ∃ b9 : Nat, n9 = .pointer (some ⟨b9, 0, none⟩) ∧ n10 = .int .i64 r ∧ Box wx b9 116 #[.int .i64 (s + 1), .int .i64 c', .int .i64 d', .int .i64 c2, .int .i64 d2] ∧ wr.heap.size ≤ b9 ∧ Below wr.heap.size wr wx)
      case first =>
        go_region_with (go_at_call 97; with_reducible refine Calls.mono (HST.out _) ?_; rintro e w5 ⟨rfl, hb5, hx5, hy5⟩)
        all_goals
          go_wp2_with fail
          go_meet
        · exact ⟨_, rfl, rfl, Box.made _ _ _, hb5.size, bt ((Below.refl _ wr).drew.trans hb5) (alloc_later _ _)⟩
        · exact ⟨_, rfl, rfl, (new_box hb5).1.put5 _ _ _ _ _, Nat.le_refl _, below_put5 (new_box hb5).2 _ (Nat.le_refl _) _ _ _ _ _⟩
        · exact ⟨_, rfl, rfl, (new_box hb5).1.put5 _ _ _ _ _, Nat.le_refl _, below_put5 (new_box hb5).2 _ (Nat.le_refl _) _ _ _ _ _⟩
      case rest =>
        obtain ⟨b9, rfl, rfl, box9, hb9, hbw⟩ := hcut
        have n0 : wc.cell? ⟨b9, 0, none⟩ = some (.int .i64 (s + 1)) := box9.cell 0
        have n1 : wc.cell? ⟨b9, 1, none⟩ = some (.int .i64 c') := box9.cell 1
        have n2 : wc.cell? ⟨b9, 2, none⟩ = some (.int .i64 d') := box9.cell 2
        have n3 : wc.cell? ⟨b9, 3, none⟩ = some (.int .i64 c2) := box9.cell 3
        have n4 : wc.cell? ⟨b9, 4, none⟩ = some (.int .i64 d2) := box9.cell 4
        go_wp2_with fail
        refine Calls.mono (HHO.out _) ?_
        rintro e w6 ⟨rfl, hb6⟩
        have box8 := (HBX.out.later hbw hbs).later hb6 (HBX.out.later hbw hbs).lt
        have res8 := (HRS.out.later hbw hrs).later hb6 (HRS.out.later hbw hrs).lt
        have box6 := box9.later hb6 box9.lt
        have hbel : Below w.heap.size w w6 := bt HBL.out (bt hbw hb6)
        have hne6 : ¬ b9 = w3.heap.size := by omega
        have hne7 : ¬ w3.heap.size = b9 := by omega
        clear n0 n1 n2 n3 n4 k0 k1 k2 k3 k4 HST
        by_cases hh : D2 ≤ r ∧ D + D2 ≤ q - r
        · have hdec : decide (D2 ≤ r ∧ D + D2 ≤ q - r) = true := decide_eq_true hh
          rw [hdec]
          clear hdec
          have n0 : w6.cell? ⟨b9, 0, none⟩ = some (.int .i64 (s + 1)) := box6.cell 0
          have n1 : w6.cell? ⟨b9, 1, none⟩ = some (.int .i64 c') := box6.cell 1
          have n2 : w6.cell? ⟨b9, 2, none⟩ = some (.int .i64 d') := box6.cell 2
          have n3 : w6.cell? ⟨b9, 3, none⟩ = some (.int .i64 c2) := box6.cell 3
          have n4 : w6.cell? ⟨b9, 4, none⟩ = some (.int .i64 d2) := box6.cell 4
          have f0 := box8.free 0
          have f1 := box8.free 1
          have f2 := box8.free 2
          have f3 := box8.free 3
          have f4 := box8.free 4
          have m0 : w6.cell? ⟨w3.heap.size, 0, none⟩ = some (.int .i64 s) := box8.cell 0
          have m1 : w6.cell? ⟨w3.heap.size, 1, none⟩ = some (.int .i64 a') := box8.cell 1
          have m2 : w6.cell? ⟨w3.heap.size, 2, none⟩ = some (.int .i64 b') := box8.cell 2
          have m3 : w6.cell? ⟨w3.heap.size, 3, none⟩ = some (.int .i64 c') := box8.cell 3
          have m4 : w6.cell? ⟨w3.heap.size, 4, none⟩ = some (.int .i64 d') := box8.cell 4
          have HNX := hid (box8.put5 (.int .i64 (s + 1)) (.int .i64 c') (.int .i64 d') (.int .i64 c2) (.int .i64 d2))
          have HRX := hid (res8.put5_other (show w.heap.size ≠ w3.heap.size by omega) (.int .i64 (s + 1)) (.int .i64 c') (.int .i64 d') (.int .i64 c2) (.int .i64 d2))
          have HBX' := hid (below_put5 hbel w3.heap.size (by omega) (.int .i64 (s + 1)) (.int .i64 c') (.int .i64 d') (.int .i64 c2) (.int .i64 d2))
          have HHD := hid hh
          clear box6 box8 res8 box9 hbel hh hbw hb6
          go_wp2_with fail
          go_roundw
          case rel => exact ⟨s + 1, -f, C, D, C2, D2, q, r, c', d', c2, d2, rfl, rfl, m0', by omega, by omega, by omega, by omega, HLP', HPS, HAB', .inr HHD.out, HNX.out, HRX.out, HBX'.out⟩
          case measure => simp [intOf]; omega
        · have hdec : decide (D2 ≤ r ∧ D + D2 ≤ q - r) = false := decide_eq_false hh
          rw [hdec]
          clear hdec
          have m0 : w6.cell? ⟨w3.heap.size, 0, none⟩ = some (.int .i64 s) := box8.cell 0
          have m1 : w6.cell? ⟨w3.heap.size, 1, none⟩ = some (.int .i64 a') := box8.cell 1
          have m2 : w6.cell? ⟨w3.heap.size, 2, none⟩ = some (.int .i64 b') := box8.cell 2
          have m3 : w6.cell? ⟨w3.heap.size, 3, none⟩ = some (.int .i64 c') := box8.cell 3
          have m4 : w6.cell? ⟨w3.heap.size, 4, none⟩ = some (.int .i64 d') := box8.cell 4
          have r0 : w6.cell? ⟨w.heap.size, 0, none⟩ = some (.int .i64 0) := res8.cell 0
          have r1 : w6.cell? ⟨w.heap.size, 1, none⟩ = some (.int .i64 0) := res8.cell 1
          have r2 : w6.cell? ⟨w.heap.size, 2, none⟩ = some (.int .i64 0) := res8.cell 2
          have r3 : w6.cell? ⟨w.heap.size, 3, none⟩ = some (.int .i64 0) := res8.cell 3
          have r4 : w6.cell? ⟨w.heap.size, 4, none⟩ = some (.int .i64 0) := res8.cell 4
          have g0 := res8.free 0
          have g1 := res8.free 1
          have g2 := res8.free 2
          have g3 := res8.free 3
          have g4 := res8.free 4
          clear box6 box8 res8 box9 hh hbw hb6
          go_wp2_with fail
          refine bodyPost_ret (v := .agg #[.int .i64 s, .int .i64 a', .int .i64 b', .int .i64 c', .int .i64 d']) (by simp [results, Tryz.results87, go_sem, r0, r1, r2, r3, r4]) rfl ?_
          exact ⟨s, a', b', c', d', rfl, sa, by omega, HFIN.out, below_put5 hbel w.heap.size (Nat.le_refl _) _ _ _ _ _⟩
end Go.Proofs.YtfppimlmebnaeaaGreatDoor

/- nat.replace: a number in own memory becomes its rest by another one. -/
namespace Go.Proofs.YtfppimlmebnaeaaGreatDoor
open Go.RowKit
set_option linter.unusedVariables false

/-- Words set to nought, one behind the other. -/
theorem clear_cells {base g n cap : Nat} : ∀ (k o : Nat) (w : World) (zs : List Int), OwnC w base g n cap zs →
    ∃ us, OwnC (w.setCells g o (List.replicate k (.int .u32 0))) base g n cap us ∧ (∀ j, o ≤ j → j < o + k → us[j]?.getD 0 = 0) ∧ (∀ j, j < o → us[j]?.getD 0 = zs[j]?.getD 0) ∧ w.grownBy (w.setCells g o (List.replicate k (.int .u32 0))) (some g)
  | 0, o, w, zs, h => ⟨zs, h, fun j h1 h2 => by omega, fun _ _ => rfl, World.grownBy.refl _ _⟩
  | k + 1, o, w, zs, h => by
    obtain ⟨h1, hg⟩ := OwnC.set h o 0
    obtain ⟨us, h2, h3, h4, h5⟩ := clear_cells k (o + 1) _ _ h1
    refine ⟨us, h2, fun j a b => ?_, fun j a => ?_, grown_trans hg h5⟩
    · by_cases e : j = o
      · rw [h4 j (by omega), e, List.getElem?_set, if_pos rfl]
        split <;> rfl
      · exact h3 j (by omega) (by omega)
    · rw [h4 j (by omega), List.getElem?_set, if_neg (by omega)]

/-- A copy into an own row. -/
theorem copy_into {w : World} {ops : Array Oper} {rest : List Oper} {o : Oper} {a : Act} {Q : Exit → Act → World → Prop} (hgd : o.guard = none) (d s : Operand) (ho : o.op = .call { callee := .builtin .copy, args := #[d, s], argTypes := #[22, 22] })
    (base g n cap : Nat) (zs : List Int) (sp : Option Addr) (m scap B : Nat) (rs : List Int) (hd : a.eval d = .slice (some ⟨g, 0, none⟩) n cap) (hs : a.eval s = .slice sp m scap) (hO : OwnC w base g n cap zs) (wz : Wd zs) (hR : Reads w B sp m scap rs) (hm : m ≤ n)
    (h : ∀ w' us, Hid (OwnC w' base g n cap us) → Hid (∀ j, us[j]?.getD 0 = if j < m then rs[j]?.getD 0 else zs[j]?.getD 0) → Wd us → w.grownBy w' (some g) → wpList Tryz.prog ops Q rest (a.put o.dst (goInt m)) w') :
    wpList Tryz.prog ops Q (o :: rest) a w := by
  obtain ⟨i0, hi, hz0, hz1, hz2⟩ := info_parts Tryz.infoW
  have hlr := hR.1
  have hlz := hO.len
  by_cases h0 : m = 0
  · subst h0
    refine wpList_copy_nothing hgd d s _ _ ho 62 Tryz.underlying22 (by rw [hi]; simp [hz1]) _ sp n cap 0 scap hd hs (Nat.zero_min _) ?_
    exact h w zs hO (fun j => by rw [if_neg (by omega)]) wz (World.grownBy.refl _ _)
  · obtain ⟨ad, rfl, hcs⟩ := copy_cells hR m (Nat.le_refl _) (by omega)
    rw [List.take_of_length_le (by omega)] at hcs
    rcases hO.2 with ⟨h', _⟩ | ⟨g', cap', cur, h', hb, hg, hnc, hcm, hsz, ht⟩
    · simp at h'
    · simp only [Value.slice.injEq, Option.some.injEq, Addr.mk.injEq, and_true, true_and] at h'
      obtain ⟨rfl, rfl⟩ := h'
      have hlen : (rs.map (Value.int .u32)).length = m := by simp [hlr]
      have hzl : (zs.map (Value.int .u32)).length = n := by simp [hlz]
      rw [Nat.mul_one] at ht hsz
      refine wpList_copy_own hgd d s _ _ ho 62 Tryz.underlying22 (by rw [hi]; simp [hz1]) g 0 n cap ad m scap hd hs cur 62 hg (rs.map (Value.int .u32)) (by rw [hlen]; exact (Nat.min_eq_left hm).symm) hcs (by rw [hlen, hsz]; omega) (ints_oneCell _ _) ?_
      rw [hlen]
      refine h _ (rs ++ zs.drop m) ?_ (fun j => ?_) (hR.2.1.append (wz.drop m)) ?_
      · refine ⟨by simp; omega, .inr ⟨g, cap, _, rfl, hb, setRow_heap w g cur _ _ _ hg, hnc, hcm, by simp [hsz, hlr]; omega, ?_⟩⟩
        rw [Nat.mul_one]
        simp only [List.take_zero, List.nil_append, Nat.zero_add]
        rw [List.map_append, List.map_drop, ← ht]
        have e1 : n = (rs.map (Value.int .u32)).length + (n - m) := by rw [hlen]; omega
        conv => lhs; rw [e1]
        rw [List.take_length_add_append, ← List.drop_take]
      · rw [List.getElem?_append, hlr]
        by_cases c : j < m
        · rw [if_pos c, if_pos c]
        · rw [if_neg c, if_neg c, List.getElem?_drop, show m + (j - m) = j by omega]
      · exact ⟨rfl, rfl, rfl, by simp [World.setRow], fun k hk hne => setRow_other w g k _ (fun e => hne (by rw [e]))⟩

theorem OwnC.reads {w : World} {base g n cap : Nat} {ys : List Int} (h : OwnC w base g n cap ys) (hw : Wd ys) : Reads w w.heap.size (some ⟨g, 0, none⟩) n cap ys := by
  obtain ⟨a, c, hv, hr⟩ := Reads.own h hw
  simp only [Value.slice.injEq] at hv
  obtain ⟨rfl, _, rfl⟩ := hv
  exact hr
theorem OwnC.sl {w : World} {base g n cap : Nat} {ys : List Int} (h : OwnC w base g n cap ys) (hw : Wd ys) : Sl w (.slice (some ⟨g, 0, none⟩) n cap) ys := by
  have e := h.len
  subst e
  exact ⟨_, _, rfl, h.reads hw⟩

set_option maxHeartbeats 1600000 in
set_option maxRecDepth 100000 in
theorem replace_any (base gx gy n capx capy : Nat) (xs ys : List Int) (w : World) (hx : OwnC w base gx n capx xs) (hy : OwnC w base gy n capy ys) (hne : gx ≠ gy) (wx : Wd xs) (wy : Wd ys) (hn : n ≤ 8192) (tx : Trimmed xs) (h0 : 0 < sz ys) :
    Calls Tryz.prog 89 #[.slice (some ⟨gx, 0, none⟩) n capx, .slice (some ⟨gy, 0, none⟩) n capy] w fun e w' => ∃ (us : List Int) (q : Int), e = .returned (.tuple #[]) ∧ OwnC w' base gx n capx us ∧ OwnC w' base gy n capy ys ∧ Wd us ∧
      val xs = q * val ys + val us ∧ val us < val ys ∧ Below base w w' := by
  have bx := hx.base
  have by' := hy.base
  have cx := hx.cap
  have cy := hy.cap
  have lx := hx.len
  have ly := hy.len
  have sy := sz_le ys
  unfold maxLen at cx cy
  have HSZ := hid (size_any _ _ _ ys _ w (hy.reads wy) (by omega))
  have hyt : OwnC w base gy (sz ys) capy (trimmed ys) := hy.take (sz ys) (by omega)
  have HDV := hid (divide_any _ _ xs (trimmed ys) w (hx.sl wx) (hyt.sl wy.trimmed) (by omega) (by rw [length_trimmed]; omega) tx (Trimmed.trimmed _) (by rw [length_trimmed]; exact h0))
  have HOX := hid hx
  have HOY := hid hy
  have hszn : sz ys ≤ n := by omega
  have hsc : sz ys ≤ capy := by omega
  have n0 : 0 < n := by omega
  have hvl : val ys < 4294967296 ^ n := by have := val_lt wy; rw [ly] at this; exact this
  have HVL := hid hvl
  have HVT := hid (val_trimmed ys)
  clear hx hy hyt lx ly sy hvl
  obtain ⟨S, hS⟩ : ∃ S, sz ys = S := ⟨_, rfl⟩
  rw [hS] at HSZ HDV hszn hsc h0
  clear hS
  go_enter Tryz.func89, Tryz.ntmps89
  go_wp2_with fail
  refine Calls.mono HSZ.out ?_
  rintro e w' ⟨rfl, rfl⟩
  go_wp2_with fail
  refine Calls.mono HDV.out ?_
  rintro e w1 ⟨v1, u1, q, r, c, rfl, oq, orr, _, _, _, _, wq, wR, tq, tr, hv, hlt, hb1⟩
  rw [HVT.out] at hv hlt
  obtain ⟨a1, c1, rfl, hrr⟩ := Reads.own orr wR
  have lr : r.length ≤ n := len_of_lt wR tr (by have := HVL.out; omega)
  have ox1 : OwnC w1 base gx n capx xs := owns_later HOX.out hb1
  have oy1 : OwnC w1 base gy n capy ys := owns_later HOY.out hb1
  have hs1 := hb1.size
  obtain ⟨us, ou, hu0, _, hgu⟩ := clear_cells n 0 w1 xs ox1
  have hcl : ∀ ty, (Builtin.clear_ #[22] ty #[.slice (some ⟨gx, 0, none⟩) n capx]).run Tryz.prog w1 = .ok (.tuple #[]) (w1.setCells gx 0 (List.replicate n (.int .u32 0))) := fun ty =>
    Go.Lib.run_clear_slice w1 22 62 ty (.int .u32 0) Tryz.underlying22 (fun w => Tryz.zeroValue62 w) rfl rfl gx 0 n capx n0 (fun j hj => by rw [Nat.zero_add, ox1.cell j hj]; rfl) (fun j hj => by rw [Nat.zero_add]; exact ox1.free j)
  have oy2 := World.ownsRow.kept oy1 hgu (by right; intro e; simp [Value.ownBlock] at e; omega)
  have hb2 : Below base w1 (w1.setCells gx 0 (List.replicate n (.int .u32 0))) := (Below.refl _ _).grown hgu (by omega) (fun k hk => by simp at hk; omega)
  have hrr2 : Reads (w1.setCells gx 0 (List.replicate n (.int .u32 0))) w1.heap.size a1 r.length c1 r := by
    obtain ⟨r1, r2, r3, r4⟩ := hrr
    refine ⟨r1, r2, r3.imp id ?_, r4⟩
    rintro ⟨b, o, rfl, hb, hc⟩
    refine ⟨b, o, rfl, hb, fun j hj => ?_⟩
    have hbb := orr.lt b rfl
    exact hgu.cell (hc j hj) (by intro e; simp at e; omega)
  have hul := ou.len
  have hus : ∀ j : Nat, us[j]?.getD 0 = 0 := fun j => by
    by_cases cj : j < n
    · exact hu0 j (Nat.zero_le _) (by omega)
    · rw [List.getElem?_eq_none (by omega)]; rfl
  have wu : Wd us := fun z hz => by
    obtain ⟨j, hj, rfl⟩ := List.mem_iff_getElem.1 hz
    have := hus j
    rw [List.getElem?_eq_getElem hj] at this
    simp at this
    omega
  have hbB : Below base w (w1.setCells gx 0 (List.replicate n (.int .u32 0))) := (hb1.mono (by omega)).trans hb2
  have HUS := hid hus
  have HOU := hid ou
  have HOY2 := hid oy2
  have HRR := hid hrr2
  have HBB := hid hbB
  have HV := hid (And.intro hv hlt)
  have hs2 := hgu.size
  generalize w1.setCells gx 0 (List.replicate n (.int .u32 0)) = w2 at *
  clear oq orr hv hlt hb1 hrr ox1 oy1 ou hu0 hgu oy2 hb2 hrr2 hul hus hbB HOX HOY HSZ HDV
  go_wp2_with (refine copy_into rfl (.tmp 16) (.tmp 17) rfl base gx n capx us a1 r.length c1 _ r rfl rfl HOU.out wu HRR.out lr ?_)
  intro w3 ts HO3 HE3 wt hg3
  have HF : Hid (OwnC w3 base gy n capy ys) := World.ownsRow.kept HOY2.out hg3 (by right; intro e; simp [Value.ownBlock] at e; omega)
  have hb3 : Below base w w3 := HBB.out.trans ((Below.refl _ _).grown hg3 (by omega) (fun k hk => by simp at hk; omega))
  have HVV : Hid (val ts = val r) := val_eq_of (fun j => by
    rw [HE3.out j]
    split
    · rfl
    · rw [HUS.out j, List.getElem?_eq_none (by omega)]; rfl)
  clear hg3
  go_wp2_with fail
  go_end0
  exact ⟨ts, val q, rfl, HO3.out, HF.out, wt, by rw [HVV.out]; exact HV.out.1, by rw [HVV.out]; exact HV.out.2, hb3⟩
end Go.Proofs.YtfppimlmebnaeaaGreatDoor

/- nat.commonDivisor, nat.Gcd: the greatest common divisor of every two numbers, in new memory. -/
namespace Go.Proofs.YtfppimlmebnaeaaGreatDoor
open Go.RowKit
set_option linter.unusedVariables false

theorem val_take {zs : List Int} (k : Nat) (h : sz zs ≤ k) : val (zs.take k) = val zs := val_eq_of fun j => by
  rw [List.getElem?_take]
  split
  · rfl
  · rw [sz_behind zs j (by omega)]; rfl
theorem sz_mono {us vs : List Int} (wu : Wd us) (wv : Wd vs) (h : val vs ≤ val us) : sz vs ≤ sz us := by
  have := len_le_of_val wu.trimmed wv.trimmed (Trimmed.trimmed vs) (by rw [val_trimmed, val_trimmed]; exact h)
  rwa [length_trimmed, length_trimmed] at this
theorem list_same {us xs : List Int} (hl : us.length = xs.length) (h : ∀ j : Nat, us[j]?.getD 0 = xs[j]?.getD 0) : us = xs := by
  refine List.ext_getElem hl (fun j h1 h2 => ?_)
  have := h j
  rwa [List.getElem?_eq_getElem h1, List.getElem?_eq_getElem h2] at this

/-- Two new rows of noughts. -/
theorem two_made (wc : World) (base n : Nat) (M : Array Value) (hb : base ≤ wc.heap.size) (hn : n ≤ 8192) (hM : M = ((List.replicate n (0 : Int)).map (Value.int .u32)).toArray) :
    OwnC ((wc.alloc (.cells M 62)).alloc (.cells M 62)).drew base wc.heap.size n n (List.replicate n 0) ∧ OwnC ((wc.alloc (.cells M 62)).alloc (.cells M 62)).drew base (wc.heap.size + 1) n n (List.replicate n 0) ∧ Below wc.heap.size wc ((wc.alloc (.cells M 62)).alloc (.cells M 62)).drew := by
  subst hM
  have m : n ≤ maxLen := by unfold maxLen; omega
  have h1 : OwnC (wc.alloc (.cells ((List.replicate n (0 : Int)).map (Value.int .u32)).toArray 62)) base wc.heap.size n n (List.replicate n 0) := whole_row (Box.made wc _ _) (by simp) hb m
  have h2 : OwnC ((wc.alloc (.cells ((List.replicate n (0 : Int)).map (Value.int .u32)).toArray 62)).alloc (.cells ((List.replicate n (0 : Int)).map (Value.int .u32)).toArray 62)) base (wc.heap.size + 1) n n (List.replicate n 0) := by
    have := Box.made (wc.alloc (.cells ((List.replicate n (0 : Int)).map (Value.int .u32)).toArray 62)) 62 ((List.replicate n (0 : Int)).map (Value.int .u32)).toArray
    rw [show (wc.alloc (.cells ((List.replicate n (0 : Int)).map (Value.int .u32)).toArray 62)).heap.size = wc.heap.size + 1 by simp] at this
    exact whole_row this (by simp) (by omega) m
  exact ⟨owns_later h1 (alloc_later _ _).drew, h2, (bt (alloc_later _ _) (alloc_later _ _)).drew⟩

set_option maxHeartbeats 3200000 in
set_option maxRecDepth 100000 in
theorem commonDivisor_any (v u : Value) (xs ys : List Int) (w : World) (h : Sl w v xs) (g : Sl w u ys) (hn : xs.length ≤ 8192) (hm : ys.length ≤ 8192) (hx : Trimmed xs) (hy : Trimmed ys) :
    Calls Tryz.prog 76 #[v, u] w (Told1 w (gcdI (val xs) (val ys))) := by
  obtain ⟨i0, hi, hz0, hz1, hz2⟩ := info_parts Tryz.infoW
  have CC := hid (compare_sl v u xs ys w h g (by omega) (by omega))
  have wx := h.wd
  have wy := g.wd
  obtain ⟨a, cap, rfl, hr⟩ := h
  obtain ⟨b, cap', rfl, gr⟩ := g
  obtain ⟨c, hc⟩ : ∃ c, cmpI (val xs) (val ys) = c := ⟨_, rfl⟩
  rw [hc] at CC
  have HC := hid hc
  have HX := hid hr
  have HY := hid gr
  clear hc hr gr
  go_enter Tryz.func76, Tryz.ntmps76
  go_upto_if 12 with (go_at_call 72; refine Calls.mono CC.out ?_; rintro x w1 ⟨rfl, hb1⟩)
  go_cut [0, 1] from 13 to 14 (fun s0 s1 wx => ∃ (a0 : Option Addr) (n cp : Nat) (b0 : Option Addr) (m cp' : Nat) (x1 y1 : List Int), s0 = .slice a0 n cp ∧ s1 = .slice b0 m cp' ∧ Hid (Reads wx w.heap.size a0 n cp x1) ∧ Hid (Reads wx w.heap.size b0 m cp' y1) ∧ Hid (Trimmed x1) ∧ n ≤ 8192 ∧ m ≤ n ∧ Hid (val y1 ≤ val x1) ∧ Hid (gcdI (val x1) (val y1) = gcdI (val xs) (val ys)) ∧ Below w.heap.size w wx)
  case first =>
    have HB1 := hid hb1
    by_cases hlt : val xs < val ys
    · have hc1 : c = -1 := by rw [← HC.out, cmpI_lt hlt]
      have HL := hid hlt
      clear hlt
      subst hc1
      go_wp2_with fail
      go_meet
      case rel => exact ⟨_, _, _, _, _, _, ys, xs, rfl, rfl, HY.out.later HB1.out (Nat.le_refl _), HX.out.later HB1.out (Nat.le_refl _), hy, hm, len_le_of_val wy wx hx (Int.le_of_lt HL.out), Int.le_of_lt HL.out, gcdI_comm _ _, HB1.out⟩
    · have hci : 0 ≤ c := by rw [← HC.out]; unfold cmpI; rw [if_neg hlt]; split <;> omega
      have HL : Hid (val ys ≤ val xs) := by show _ ≤ _; omega
      clear hlt
      go_wp2_with fail
      go_meet
      case rel => exact ⟨_, _, _, _, _, _, xs, ys, rfl, rfl, HX.out.later HB1.out (Nat.le_refl _), HY.out.later HB1.out (Nat.le_refl _), hx, hn, len_le_of_val wx wy hy HL.out, HL.out, rfl, HB1.out⟩
  case rest =>
    obtain ⟨a0, n, cp, b0, m, cp', x1, y1, rfl, rfl, HR1, HR2, HT1, n8, hmn, HLE, HG, hbel⟩ := hcut
    clear HX HY CC HC wx wy hn hm hx hy
    go_upto_region 3 with fail
    go_cut [5, 6] from 15 to 20 (fun s5 s6 wx => ∃ g1 g2 : Nat, s5 = .slice (some ⟨g1, 0, none⟩) n n ∧ s6 = .slice (some ⟨g2, 0, none⟩) n n ∧ g1 ≠ g2 ∧ OwnC wx w.heap.size g1 n n (List.replicate n 0) ∧ OwnC wx w.heap.size g2 n n (List.replicate n 0) ∧ Below wc.heap.size wc wx)
    case first =>
      obtain ⟨M, hM⟩ : ∃ M, madeCells #[Value.int .u32 0] n = M := ⟨_, rfl⟩
      have hmk : ∀ ww, (Instr.makeSlice 22 (.int .i64 (n : Int)) (.int .i64 (n : Int))).run Tryz.prog ww = .ok (.slice (some ⟨ww.heap.size, 0, none⟩) n n) (ww.alloc (.cells M 62)) := fun ww => by
        have := run_make (P := Tryz.prog) ww 22 62 i0 (.int .u32 0) Tryz.underlying22 hi hz0 .i64 .i64 (n : Int) (n : Int) (by omega) (by omega) (by rw [hz2]; omega) (by omega)
        rw [hz1, Int.toNat_natCast, Nat.mul_one, show (Value.int .u32 0).cells = #[Value.int .u32 0] from rfl, hM] at this
        exact this
      have HM : Hid (M = ((List.replicate n (0 : Int)).map (Value.int .u32)).toArray) := by
        show _ = _
        rw [← made_words, hM]
      clear hM
      have HTM := hid (two_made wc w.heap.size n M hbel.size n8 HM.out)
      clear HM
      go_region
      all_goals go_wp2_with fail
      all_goals go_meet
      · exact ⟨_, _, rfl, rfl, by omega, HTM.out.1, HTM.out.2.1, HTM.out.2.2⟩
      · exact ⟨_, _, rfl, rfl, by omega, HTM.out.2.1, HTM.out.1, HTM.out.2.2⟩
    case rest =>
      rename World => w5
      obtain ⟨g1, g2, rfl, rfl, hne, o1, o2, hb2⟩ := hcut
      have hbA := hbel.trans (hb2.mono hbel.size)
      have HR1' := hid (HR1.out.later (hb2.mono hbel.size) (Nat.le_refl _))
      have HR2' := hid (HR2.out.later (hb2.mono hbel.size) (Nat.le_refl _))
      have l1 := HR1.out.1
      have l2 := HR2.out.1
      have wx1 := HR1.out.2.1
      have wy1 := HR2.out.2.1
      have b1 := o1.base
      have b2 := o2.base
      have HO1 := hid o1
      have HO2 := hid o2
      clear o1 o2 hbel hb2 HR1 HR2 hb1
      go_wp2_with (refine copy_into rfl (.tmp 21) (.tmp 22) rfl w.heap.size g1 n n (List.replicate n 0) a0 n cp _ x1 rfl rfl HO1.out (Wd.replicate n) HR1'.out (Nat.le_refl _) ?_)
      intro w6 us HU HUE wu hg6
      have hus : us = x1 := list_same (by rw [HU.out.len, l1]) (fun j => by
        rw [HUE.out j]
        split
        · rfl
        · rw [List.getElem?_eq_none (by simp; omega), List.getElem?_eq_none (by omega)])
      subst hus
      have hb6 : Below w.heap.size w5 w6 := (Below.refl _ _).grown hg6 (by omega) (fun k hk => by simp at hk; omega)
      have o2' : OwnC w6 w.heap.size g2 n n (List.replicate n 0) := World.ownsRow.kept HO2.out hg6 (by right; intro e; simp [Value.ownBlock] at e; omega)
      have HO2' := hid o2'
      have hbB := hbA.trans hb6
      have HR2b := hid (HR2'.out.later hb6 (Nat.le_refl _))
      have hs6 := hb6.size
      clear o2' hb6 hg6 HUE hbA HO1 HO2 HR1' HR2'
      go_wp2_with (refine copy_into rfl (.tmp 24) (.tmp 25) rfl w.heap.size g2 n n (List.replicate n 0) b0 m cp' _ y1 rfl rfl HO2'.out (Wd.replicate n) HR2b.out hmn ?_)
      intro w7 vs HVO HVE wv hg7
      have hvv : val vs = val y1 := val_eq_of (fun j => by
        rw [HVE.out j]
        split
        · rfl
        · rw [List.getElem?_eq_none (by omega : y1.length ≤ j), List.getElem?_replicate]
          split <;> rfl)
      have o1' : OwnC w7 w.heap.size g1 n n us := World.ownsRow.kept HU.out hg7 (by right; intro e; simp [Value.ownBlock] at e; omega)
      have hbC := hbB.trans ((Below.refl _ w6).grown hg7 (by omega) (fun k hk => by simp at hk; omega))
      have HO1 := hid o1'
      rw [← hvv] at HLE HG
      clear o1' hg7 HVE hbB HO2' HR2b HU hvv b1 b2 hs6
      generalize hGG : gcdI (val xs) (val ys) = G at *
      clear hGG
      go_wp2_with fail
      go_loopg [5, 6] (val us + val vs).toNat (fun k s5 s6 wr => ∃ (g1 g2 q : Nat) (us vs : List Int), s5 = .slice (some ⟨g1, 0, none⟩) q n ∧ s6 = .slice (some ⟨g2, 0, none⟩) q n ∧ q ≤ n ∧ g1 ≠ g2 ∧ OwnC wr w.heap.size g1 q n us ∧ OwnC wr w.heap.size g2 q n vs ∧ Wd us ∧ Wd vs ∧ Hid (Trimmed us) ∧ Hid (val vs ≤ val us) ∧ Hid ((k : Int) = val us + val vs) ∧ Hid (gcdI (val us) (val vs) = G) ∧ Below w.heap.size w wr)
      case atStart =>
        have n1 := val_nonneg wu
        have n2 := val_nonneg wv
        exact ⟨g1, g2, n, us, vs, rfl, rfl, Nat.le_refl _, hne, HO1.out, HVO.out, wu, wv, HT1, HLE, (show _ = _ by omega), HG, hbC⟩
      case round =>
        clear HO1 HVO HT1 HLE HG hbC wu wv hne wx1 wy1 l1 l2
        obtain ⟨h1, h2, q, xx, yy, rfl, rfl, hq, hne, o1, o2, wxx, wyy, HT, HLE, HK, HG, hbel⟩ := hrel
        have b1 := o1.base
        have b2 := o2.base
        have l1 := o1.len
        have l2 := o2.len
        have sy := sz_le yy
        rw [l2] at sy
        have HSZ := hid (fun ww (hb : Below wr.heap.size wr ww) => size_any _ _ _ yy _ ww ((o2.reads wyy).later hb hb.size) (by omega))
        by_cases hs : 2 < sz yy
        · obtain ⟨e, rfl⟩ : ∃ e, q = e + 3 := ⟨q - 3, by omega⟩
          have ht3 : sz xx = e + 3 := by have := HT.out; unfold Trimmed at this; omega
          have tb := wxx.at (e + 2)
          have tt := sz_top xx (by omega)
          rw [ht3, show e + 3 - 1 = e + 2 by omega] at tt
          have HLK := hid (look_any _ e n xx _ n yy wr (o1.reads wxx) (o2.reads wyy) (by omega) (by omega) HLE.out)
          have hs' : (2 : Int) < (sz yy : Int) := by omega
          have HSY := hid hs
          have nx := val_nonneg wxx
          have ny := val_nonneg wyy
          have HO1 := hid o1
          have HO2 := hid o2
          have HL1 := hid l1
          have HL2 := hid l2
          have hvx : val xx < 4294967296 ^ (e + 3) := by have := val_lt wxx; rw [l1] at this; exact this
          have HVX := hid hvx
          have HT3 := hid ht3
          clear tb tt o1 o2 hs hvx ht3 l1 l2
          obtain ⟨S, hS⟩ : ∃ S, sz yy = S := ⟨_, rfl⟩
          rw [hS] at HSZ hs' HSY sy
          have HS := hid hS
          clear hS
          go_wp2_with fail
          refine Calls.mono (HSZ.out _ (Below.refl _ _)) ?_
          rintro x w' ⟨rfl, rfl⟩
          go_wp2_with fail
          refine Calls.mono HLK.out ?_
          rintro x w8 ⟨s, a, b, c, d, rfl, s0, s1, hss, hb8⟩
          have hb9 : Below wr.heap.size wr (w8.alloc (.cells #[.int .i64 s, .int .i64 a, .int .i64 b, .int .i64 c, .int .i64 d] 116)) := bt hb8 (alloc_later _ _)
          have hs9 := hb9.size
          have o1' : OwnC _ w.heap.size h1 (e + 3) n xx := owns_later HO1.out hb9
          have o2' : OwnC _ w.heap.size h2 (e + 3) n yy := owns_later HO2.out hb9
          rcases hss with h0 | ⟨hs1, lp⟩
          · subst h0
            have HRP := hid (replace_any w.heap.size h1 h2 (e + 3) n n xx yy _ o1' o2' hne wxx wyy (by omega) HT.out (by have := HS.out; have := HSY.out; omega))
            have HB9 := hid (bt hbel hb9)
            clear o1' o2' hb9 HLK HSZ
            go_wp2_with fail
            refine Calls.mono HRP.out ?_
            rintro x w10 ⟨rs, qt, rfl, p1, p2, wrs, hv, hlt, hb10⟩
            have HSZ2 := hid (size_any _ _ _ yy _ w10 (p2.reads wyy) (by omega))
            rw [HS.out] at HSZ2
            have hbD : Below w.heap.size w w10 := HB9.out.trans hb10
            have hrs : sz rs ≤ S := by have := sz_mono wyy wrs (Int.le_of_lt hlt); rw [HS.out] at this; exact this
            have q1 : ∀ k, OwnC (w10.drewN k) w.heap.size h2 S n (yy.take S) := fun k => (p2.take S sy).drewN k
            have q2 : ∀ k, OwnC (w10.drewN k) w.heap.size h1 S n (rs.take S) := fun k => (p1.take S sy).drewN k
            have HQ1 := hid q1
            have HQ2 := hid q2
            have HV1 : Hid (val (yy.take S) = val yy) := val_take S (by rw [HS.out]; exact Nat.le_refl _)
            have HV2 : Hid (val (rs.take S) = val rs) := val_take S hrs
            have HTS : Hid (Trimmed (yy.take S)) := by
              have := Trimmed.trimmed yy
              unfold trimmed at this
              rw [HS.out] at this
              exact this
            have HGG : Hid (gcdI (val yy) (val rs) = G) := by show _ = _; rw [← HG.out]; exact (gcdI_rest hv).symm
            have HLT := hid hlt
            have hSn : S ≤ n := by omega
            have nr := val_nonneg wrs
            have hne2 : h2 ≠ h1 := fun e => hne e.symm
            clear p1 p2 hv hlt hb10 q1 q2 hrs HRP
            go_wp2_with fail
            refine Calls.mono HSZ2.out ?_
            rintro x w' ⟨rfl, rfl⟩
            go_wp2_with fail
            go_quiet (fail)
            go_wp2_with fail
            go_roundg (val yy + val rs).toNat
            case rel => exact ⟨h2, h1, S, yy.take S, rs.take S, rfl, rfl, hSn, hne2, HQ1.out _, HQ2.out _, wyy.take S, wrs.take S, HTS, (show _ ≤ _ by rw [HV1.out, HV2.out]; exact Int.le_of_lt HLT.out), (show _ = _ by rw [HV1.out, HV2.out]; omega), (show _ = _ by rw [HV1.out, HV2.out]; exact HGG.out), bdn hbD _⟩
            case measure => have := HK.out; have := HLE.out; have := HLT.out; omega
          · have HAP := hid (apply_any w.heap.size h1 h2 (e + 3) n n xx yy s a b c d _ o1' o2' hne wxx wyy (by omega) lp.ab lp.cd (by have := lp.pos; have := lp.lt; omega) (by have := lp.le; have := HVX.out; omega) lp.pos (by have := lp.lt; have := lp.le; have := HVX.out; omega))
            have HB9 := hid (bt hbel hb9)
            have HLP := hid lp
            clear o1' o2' hb9 HLK HSZ lp
            go_wp2_with fail
            refine Calls.mono HAP.out ?_
            rintro x w10 ⟨us, vs, rfl, p1, p2, wus, wvs, hv1, hv2, hb10⟩
            have hbD : Below w.heap.size w w10 := HB9.out.trans hb10
            have HSZ2 := hid (size_any _ _ _ us _ w10 (p1.reads wus) (by omega))
            have su := sz_le us
            rw [p1.len] at su
            obtain ⟨T, hT⟩ : ∃ T, sz us = T := ⟨_, rfl⟩
            rw [hT] at HSZ2 su
            have hvs : sz vs ≤ T := by rw [← hT]; exact sz_mono wus wvs (by rw [hv1, hv2]; exact Int.le_of_lt HLP.out.lt)
            have q1 : ∀ k, OwnC (w10.drewN k) w.heap.size h1 T n (us.take T) := fun k => (p1.take T su).drewN k
            have q2 : ∀ k, OwnC (w10.drewN k) w.heap.size h2 T n (vs.take T) := fun k => (p2.take T su).drewN k
            have HQ1 := hid q1
            have HQ2 := hid q2
            have HV1 : Hid (val (us.take T) = a * val xx + b * val yy) := by show _ = _; rw [val_take T (by omega), hv1]
            have HV2 : Hid (val (vs.take T) = c * val xx + d * val yy) := by show _ = _; rw [val_take T hvs, hv2]
            have HTS : Hid (Trimmed (us.take T)) := by
              have := Trimmed.trimmed us
              unfold trimmed at this
              rw [hT] at this
              exact this
            have hSn : T ≤ n := by omega
            have n1 := val_nonneg wus
            have n2 := val_nonneg wvs
            rw [hv1] at n1
            rw [hv2] at n2
            have HN := hid (And.intro n1 n2)
            clear p1 p2 hv1 hv2 hb10 q1 q2 hvs HAP hT n1 n2
            go_wp2_with fail
            refine Calls.mono HSZ2.out ?_
            rintro x w' ⟨rfl, rfl⟩
            go_wp2_with fail
            go_quiet (fail)
            go_wp2_with fail
            go_roundg ((a * val xx + b * val yy) + (c * val xx + d * val yy)).toNat
            case rel => exact ⟨h1, h2, T, us.take T, vs.take T, rfl, rfl, hSn, hne, HQ1.out _, HQ2.out _, wus.take T, wvs.take T, HTS, (show _ ≤ _ by rw [HV1.out, HV2.out]; exact Int.le_of_lt HLP.out.lt), (show _ = _ by rw [HV1.out, HV2.out]; have := HN.out; omega), (show _ = _ by rw [HV1.out, HV2.out, HLP.out.same]; exact HG.out), bdn hbD _⟩
            case measure => have := HK.out; have := HLP.out.less; have := HN.out; omega
        · have hs' : ¬ (2 : Int) < (sz yy : Int) := by omega
          have ot : OwnC wr w.heap.size h2 (sz yy) n (trimmed yy) := o2.take (sz yy) (by omega)
          have HSD := hid (smallDivisor_any _ _ xx (trimmed yy) wr (o1.sl wxx) (ot.sl wyy.trimmed) (by omega) HT.out (Trimmed.trimmed _) (by rw [length_trimmed]; omega))
          rw [val_trimmed, HG.out] at HSD
          have hsq : sz yy ≤ n := by omega
          clear ot o1 o2
          obtain ⟨S, hS⟩ : ∃ S, sz yy = S := ⟨_, rfl⟩
          rw [hS] at HSZ hs' HSD sy hsq
          clear hS
          go_wp2_with fail
          refine Calls.mono (HSZ.out _ (Below.refl _ _)) ?_
          rintro x w' ⟨rfl, rfl⟩
          go_wp2_with fail
          refine Calls.mono (HSZ.out _ (Below.refl _ _)) ?_
          rintro x w' ⟨rfl, rfl⟩
          go_wp2_with fail
          refine Calls.mono HSD.out ?_
          rintro x w9 ⟨v9, zs, rfl, o9, w9', t9, hv9, hb9⟩
          have HO9 := hid (owns_base o9 hbel.size)
          have hb := bt hbel hb9
          clear o9 HSD HSZ
          go_wp2_with fail
          go_ret
          exact ⟨v9, zs, rfl, HO9.out, w9', t9, hv9, hb⟩

theorem gcdI_le {x y : Int} (hx : 0 ≤ x) (hy : 0 ≤ y) : gcdI x y ≤ x ∨ gcdI x y ≤ y := by
  by_cases h : x = 0
  · subst h; right; rw [gcdI_comm, gcdI_zero y hy]; exact Int.le_refl _
  · left; exact Int.le_of_dvd (by omega) (Int.gcd_dvd_left ..)
theorem gcdI_nonneg (x y : Int) : 0 ≤ gcdI x y := by unfold gcdI; omega

set_option maxHeartbeats 800000 in
set_option maxRecDepth 100000 in
theorem gcd_sl (v u : Value) (xs ys : List Int) (w : World) (h : Sl w v xs) (g : Sl w u ys) (hn : xs.length ≤ 281474976710656) (hm : ys.length ≤ 281474976710656) :
    Calls Tryz.prog 59 #[v, u] w (Told w (both xs ys) (gcdI (val xs) (val ys))) := by
  by_cases hb : both xs ys = 0
  · have HB := hid (checkBoth_sl v u xs ys w h g hn hm)
    rw [hb] at HB ⊢
    obtain ⟨c1, c2⟩ := both_ok hb
    obtain ⟨lx, tx⟩ := chk_ok c1
    obtain ⟨ly, ty⟩ := chk_ok c2
    have HD := hid (commonDivisor_any v u xs ys w h g lx ly tx ty)
    have HW : Hid (gcdI (val xs) (val ys) < wide) := by
      show _ < _
      have a1 := lt_wide (val_lt h.wd) lx
      have a2 := lt_wide (val_lt g.wd) ly
      rcases gcdI_le (val_nonneg h.wd) (val_nonneg g.wd) with e | e <;> omega
    clear h g hb c1 c2 tx ty
    go_enter Tryz.func59, Tryz.ntmps59
    go_wp2_with fail
    refine Calls.mono HB.out ?_
    rintro e w' ⟨rfl, rfl⟩
    go_wp2_with fail
    refine Calls.mono HD.out ?_
    rintro e w1 ⟨v1, zs, rfl, o1, wz, tz, hv, hbel⟩
    have HO := hid o1
    have HV := hid hv
    clear o1 hv HD HB
    go_wp2_with fail
    go_ret2
    exact ⟨v1, zs, 0, rfl, HO.out, Tells.ok wz tz HV.out HW.out, hbel⟩
  · have HB := hid (checkBoth_sl v u xs ys w h g hn hm)
    have HT := hid (Tells.err (t := gcdI (val xs) (val ys)) hb)
    have hbb : (both xs ys != 0) = true := by simp [hb]
    obtain ⟨e, he⟩ : ∃ e, both xs ys = e := ⟨_, rfl⟩
    rw [he] at HB HT hbb hb ⊢
    clear h g he
    go_enter Tryz.func59, Tryz.ntmps59
    go_wp2_with fail
    refine Calls.mono HB.out ?_
    rintro e w' ⟨rfl, rfl⟩
    go_wp2_with fail
    go_ret2
    exact ⟨_, [], e, rfl, World.ownsRow_nil _ _ _ _, HT.out, Below.refl _ _⟩
end Go.Proofs.YtfppimlmebnaeaaGreatDoor

/- Fractions: ratio.words, isOne, inOneForm, Check, checkBoth, told: of every fraction whose words can be read. -/
namespace Go.Proofs.YtfppimlmebnaeaaGreatDoor
open Go.RowKit
set_option linter.unusedVariables false

/-- A fraction is in its one form. -/
def rform (n : Bool) (xs ys : List Int) : Prop := both xs ys = 0 ∧ 0 < ys.length ∧ (n = false ∨ 0 < xs.length) ∧ gcdI (val xs) (val ys) = 1
instance (n : Bool) (xs ys : List Int) : Decidable (rform n xs ys) := by unfold rform; infer_instance
/-- What ratio.Check tells. -/
def rchk (n : Bool) (xs ys : List Int) : Int := if 2048 < max xs.length ys.length then 3 else if rform n xs ys then 0 else 11
/-- The fraction itself. -/
def rq (n : Bool) (xs ys : List Int) : Rat := Rat.divInt (wval n xs) (val ys)
theorem res_box3 {X w1 : World} {b t : Nat} {v0 v1 v2 : Value} (hX : Box X b t #[v0, v1, v2]) (hb : Below X.heap.size X w1) : w1.cell? ⟨b, 0, none⟩ = some v0 ∧ w1.cell? ⟨b, 1, none⟩ = some v1 ∧ w1.cell? ⟨b, 2, none⟩ = some v2 ∧ w1.frozen? ⟨b, 0, none⟩ = false ∧ w1.frozen? ⟨b, 1, none⟩ = false ∧ w1.frozen? ⟨b, 2, none⟩ = false := by
  have h := hX.later hb hX.lt
  exact ⟨h.cell 0, h.cell 1, h.cell 2, h.free 0, h.free 1, h.free 2⟩
theorem below_put3 {B : Nat} {a w : World} (h : Below B a w) (b : Nat) (hb : B ≤ b) (v0 v1 v2 : Value) : Below B a (((w.setCell ⟨b, 0, none⟩ v0).setCell ⟨b, 1, none⟩ v1).setCell ⟨b, 2, none⟩ v2) :=
  ((h.setCell (p := ⟨b, 0, none⟩) hb _).setCell (p := ⟨b, 1, none⟩) hb _).setCell (p := ⟨b, 2, none⟩) hb _
theorem own_put3 {w : World} {base e n : Nat} {v : Value} {xs : List Value} (h : w.ownsRow base e 1 v n xs) (b : Nat) (hb : ∀ g, v.ownBlock = some g → g ≠ b) (v0 v1 v2 : Value) : (((w.setCell ⟨b, 0, none⟩ v0).setCell ⟨b, 1, none⟩ v1).setCell ⟨b, 2, none⟩ v2).ownsRow base e 1 v n xs := by
  have hne : v.ownBlock = none ∨ v.ownBlock ≠ some b := by
    cases hv : v.ownBlock with
    | none => exact .inl rfl
    | some g => right; intro e; exact hb g hv (Option.some.inj e)
  exact World.ownsRow.kept (World.ownsRow.kept (World.ownsRow.kept h (grown_set w ⟨b, 0, none⟩ v0) hne) (grown_set _ ⟨b, 1, none⟩ v1) hne) (grown_set _ ⟨b, 2, none⟩ v2) hne
theorem rform_no_den {n : Bool} {xs ys : List Int} (h : ys.length = 0) : decide (rform n xs ys) = false := decide_eq_false fun e => by have := e.2.1; omega
theorem rform_no_sign {xs ys : List Int} (h : xs.length = 0) : decide (rform true xs ys) = false := decide_eq_false fun e => e.2.2.1.elim (fun e => by cases e) (fun e => by omega)
theorem rform_no_both {n : Bool} {xs ys : List Int} (h : both xs ys ≠ 0) : decide (rform n xs ys) = false := decide_eq_false fun e => h e.1
theorem one_iff {zs : List Int} (hw : Wd zs) (ht : Trimmed zs) : zs = [1] ↔ val zs = 1 := by
  constructor
  · rintro rfl; simp [val, valTo]
  · intro h
    exact trimmed_eq hw (Wd.one (by omega)) ht rfl (by rw [h]; simp [val, valTo])
theorem gcd_wide {xs ys : List Int} (wx : Wd xs) (wy : Wd ys) (h : both xs ys = 0) : gcdI (val xs) (val ys) < wide := by
  obtain ⟨h1, h2⟩ := both_ok h
  have l1 := (chk_ok h1).1
  have l2 := (chk_ok h2).1
  have a1 : val xs < wide := Int.lt_of_lt_of_le (val_lt wx) (pw_le l1)
  have a2 : val ys < wide := Int.lt_of_lt_of_le (val_lt wy) (pw_le l2)
  rcases gcdI_le (val_nonneg wx) (val_nonneg wy) with e | e <;> omega

set_option maxHeartbeats 800000 in
set_option maxRecDepth 100000 in
theorem rwords_any (n : Bool) (a : Option Addr) (k c : Nat) (b : Option Addr) (l d : Nat) (w : World) :
    Calls Tryz.prog 47 #[.agg #[.bool n, .slice a k c, .slice b l d]] w fun e w' => e = .returned (.int .i64 ((max k l : Nat) : Int)) ∧ Below w.heap.size w w' := by
  have HB := hid (alloc_later w (.cells #[.bool n, .slice a k c, .slice b l d] 24))
  by_cases h : k < l
  · have HM : Hid (max k l = l) := Nat.max_eq_right (by omega)
    go_enter Tryz.func47, Tryz.ntmps47
    go_wp2_with fail
    go_ret
    exact ⟨ret_int (by rw [HM.out]), HB.out⟩
  · have HM : Hid (max k l = k) := Nat.max_eq_left (by omega)
    go_enter Tryz.func47, Tryz.ntmps47
    go_wp2_with fail
    go_ret
    exact ⟨ret_int (by rw [HM.out]), HB.out⟩

set_option maxHeartbeats 800000 in
set_option maxRecDepth 100000 in
theorem isOne_any (v : Value) (xs : List Int) (w : World) (h : Sl w v xs) :
    Calls Tryz.prog 65 #[v] w fun e w' => e = .returned (.bool (decide (xs = [1]))) ∧ w = w' := by
  obtain ⟨a, cap, rfl, hl, hw, hc, hcap⟩ := h
  by_cases h1 : xs.length = 1
  · obtain ⟨x, rfl⟩ := List.length_eq_one_iff.1 h1
    rcases hc with h0 | ⟨b, o, rfl, hb, hc⟩
    · simp at h0
    · have c0 := hc 0 (by simp)
      simp at c0
      have hx := hw.head
      clear hc hw h1 hl hcap
      by_cases e : x = 1
      · subst e
        go_enter Tryz.func65, Tryz.ntmps65
        go_wp2_with fail
        go_ret
        exact ⟨ret_bool rfl, rfl⟩
      · have HD : Hid (decide (([x] : List Int) = [1]) = false) := decide_eq_false (by simp [e])
        have e' : (x == 1) = false := by simp [e]
        clear e
        go_enter Tryz.func65, Tryz.ntmps65
        go_wp2_with fail
        go_ret
        exact ⟨ret_bool HD.out.symm, rfl⟩
  · have HD : Hid (decide (xs = [1]) = false) := decide_eq_false (fun e => h1 (by rw [e]; rfl))
    have h1' : ((xs.length : Int) == 1) = false := by simp; omega
    clear hc hw hl hcap h1
    go_enter Tryz.func65, Tryz.ntmps65
    go_wp2_with fail
    go_ret
    exact ⟨ret_bool HD.out.symm, rfl⟩

set_option maxHeartbeats 1600000 in
set_option maxRecDepth 100000 in
theorem inOneForm_any (n : Bool) (v : Value) (xs : List Int) (u : Value) (ys : List Int) (w : World) (h : Sl w v xs) (g : Sl w u ys) (hn : xs.length ≤ 281474976710656) (hm : ys.length ≤ 281474976710656) :
    Calls Tryz.prog 48 #[.agg #[.bool n, v, u]] w fun e w' => e = .returned (.bool (decide (rform n xs ys))) ∧ Below w.heap.size w w' := by
  have HB := hid (alloc_later w (.cells #[.bool n, v, u] 24))
  have HG := hid (gcd_sl v u xs ys _ (h.later HB.out) (g.later HB.out) hn hm)
  have wx := h.wd
  have wy := g.wd
  obtain ⟨a, cap, rfl, hr⟩ := h
  obtain ⟨b, cap', rfl, gr⟩ := g
  clear hr gr
  by_cases hy : ys.length = 0
  · have HD := hid (rform_no_den (n := n) (xs := xs) hy)
    rw [hy] at HB ⊢
    clear HG hy hm
    go_enter Tryz.func48, Tryz.ntmps48
    go_wp2_with fail
    go_ret
    exact ⟨ret_bool HD.out.symm, HB.out⟩
  · have hy' : ((ys.length : Int) == 0) = false := by simp; exact fun e => hy (by rw [e]; rfl)
    have hy0 : 0 < ys.length := by omega
    have key : (n = false ∨ 0 < xs.length) → Calls Tryz.prog 48 #[.agg #[.bool n, .slice a xs.length cap, .slice b ys.length cap']] w fun e w' => e = .returned (.bool (decide (rform n xs ys))) ∧ Below w.heap.size w w' := by
      intro hs
      by_cases hz : both xs ys = 0
      · have HWD := hid (gcd_wide wx wy hz)
        have HF : Hid (∀ zs, Wd zs → Trimmed zs → val zs = gcdI (val xs) (val ys) → decide (zs = [1]) = decide (rform n xs ys)) := fun zs h1 h2 h3 => by
          have e1 := one_iff h1 h2
          have e2 : (zs = [1]) ↔ rform n xs ys := ⟨fun e => ⟨hz, hy0, hs, by rw [← h3]; exact e1.1 e⟩, fun e => e1.2 (by rw [h3]; exact e.2.2.2)⟩
          exact decide_eq_decide.2 e2
        rw [hz] at HG
        clear hz hy wx wy hy0
        cases n with
        | false =>
          go_enter Tryz.func48, Tryz.ntmps48
          go_wp2_with fail
          refine Calls.mono HG.out ?_
          rintro e w1 ⟨v1, zs, code, rfl, o1, t1, hb1⟩
          obtain ⟨rfl, hv1⟩ := t1.good rfl HWD.out
          have HO := hid (isOne_any v1 zs w1 (Sl.own o1 t1.wd))
          rw [HF.out zs t1.wd t1.trim hv1] at HO
          have hbA := bt HB.out hb1
          obtain ⟨a1, c1, hs1⟩ := own_slice' o1
          subst hs1
          clear hb1 o1 t1 hv1 HG HF
          go_wp2_with fail
          refine Calls.mono HO.out ?_
          rintro e w2 ⟨rfl, rfl⟩
          go_wp2_with fail
          go_ret
          exact ⟨rfl, hbA⟩
        | true =>
          have hx' : ((xs.length : Int) == 0) = false := by
            have : 0 < xs.length := hs.elim (fun e => by cases e) id
            simp; exact fun e => by rw [e] at this; simp at this
          clear hs
          go_enter Tryz.func48, Tryz.ntmps48
          go_wp2_with fail
          refine Calls.mono HG.out ?_
          rintro e w1 ⟨v1, zs, code, rfl, o1, t1, hb1⟩
          obtain ⟨rfl, hv1⟩ := t1.good rfl HWD.out
          have HO := hid (isOne_any v1 zs w1 (Sl.own o1 t1.wd))
          rw [HF.out zs t1.wd t1.trim hv1] at HO
          have hbA := bt HB.out hb1
          obtain ⟨a1, c1, hs1⟩ := own_slice' o1
          subst hs1
          clear hb1 o1 t1 hv1 HG HF
          go_wp2_with fail
          refine Calls.mono HO.out ?_
          rintro e w2 ⟨rfl, rfl⟩
          go_wp2_with fail
          go_ret
          exact ⟨rfl, hbA⟩
      · have HD := hid (rform_no_both (n := n) hz)
        obtain ⟨ec, hec⟩ : ∃ ec, both xs ys = ec := ⟨_, rfl⟩
        rw [hec] at hz HG
        have hz' : (ec == 0) = false := by simp [hz]
        clear hec hy wx wy hy0
        cases n with
        | false =>
          go_enter Tryz.func48, Tryz.ntmps48
          go_wp2_with fail
          refine Calls.mono HG.out ?_
          rintro e w1 ⟨v1, zs, code, rfl, o1, t1, hb1⟩
          obtain ⟨rfl, _⟩ := t1.bad hz
          have hbA := bt HB.out hb1
          obtain ⟨a1, c1, hs1⟩ := own_slice' o1
          subst hs1
          clear hb1 o1 t1 HG hz
          go_wp2_with fail
          go_ret
          exact ⟨ret_bool HD.out.symm, hbA⟩
        | true =>
          have hx' : ((xs.length : Int) == 0) = false := by
            have : 0 < xs.length := hs.elim (fun e => by cases e) id
            simp; exact fun e => by rw [e] at this; simp at this
          clear hs
          go_enter Tryz.func48, Tryz.ntmps48
          go_wp2_with fail
          refine Calls.mono HG.out ?_
          rintro e w1 ⟨v1, zs, code, rfl, o1, t1, hb1⟩
          obtain ⟨rfl, _⟩ := t1.bad hz
          have hbA := bt HB.out hb1
          obtain ⟨a1, c1, hs1⟩ := own_slice' o1
          subst hs1
          clear hb1 o1 t1 HG hz
          go_wp2_with fail
          go_ret
          exact ⟨ret_bool HD.out.symm, hbA⟩
    by_cases hx : n = false ∨ 0 < xs.length
    · exact key hx
    · have hn1 : n = true := by
        cases n with
        | false => exact absurd (.inl rfl) hx
        | true => rfl
      have hx0 : xs.length = 0 := by
        by_cases c : 0 < xs.length
        · exact absurd (.inr c) hx
        · omega
      subst hn1
      have HD := hid (rform_no_sign (ys := ys) hx0)
      rw [hx0] at HB ⊢
      clear key hx0 HG hx wx wy hy hy0
      go_enter Tryz.func48, Tryz.ntmps48
      go_wp2_with fail
      go_ret
      exact ⟨ret_bool HD.out.symm, HB.out⟩
end Go.Proofs.YtfppimlmebnaeaaGreatDoor

/- Boxes of fractions, rows of the call's own and one box of a flag, in a bundle that is moved along. -/
namespace Go.Proofs.YtfppimlmebnaeaaGreatDoor
open Go.RowKit
set_option linter.unusedVariables false

theorem Box.same {w : World} {b t : Nat} {vs : Array Value} (h : Box w b t vs) {j : Nat} {v : Value} (hv : vs[j]? = some v) : w.setCell ⟨b, j, none⟩ v = w := by
  have e : (w.setCell ⟨b, j, none⟩ v).heap = w.heap := by
    have h' : w.heap[b]? = some (.cells vs t (0, 0)) := h
    have hs : vs.setIfInBounds j v = vs := by
      apply Array.ext_getElem?
      intro k
      rw [Array.getElem?_setIfInBounds]
      by_cases c : j = k
      · subst c
        obtain ⟨hk, _⟩ := Array.getElem?_eq_some_iff.1 hv
        rw [if_pos rfl, if_pos hk, hv]
      · rw [if_neg c]
    unfold World.setCell
    apply Array.ext_getElem?
    intro k
    simp only [Array.getElem?_modify]
    by_cases c : b = k
    · subst c
      rw [if_pos rfl, h']
      simp [hs]
    · rw [if_neg c]
  cases w
  simp only [World.setCell] at e ⊢
  rw [e]
theorem own_put1 {w : World} {base e n : Nat} {v : Value} {xs : List Value} (h : w.ownsRow base e 1 v n xs) (b : Nat) (hb : ∀ g, v.ownBlock = some g → g ≠ b) (j : Nat) (v0 : Value) : (w.setCell ⟨b, j, none⟩ v0).ownsRow base e 1 v n xs := by
  have hne : v.ownBlock = none ∨ v.ownBlock ≠ some b := by
    cases hv : v.ownBlock with
    | none => exact .inl rfl
    | some g => right; intro e; exact hb g hv (Option.some.inj e)
  exact World.ownsRow.kept h (grown_set w ⟨b, j, none⟩ v0) hne
/-- Boxes that hold fractions. -/
def Bxs3 (W : World) (l : List (Nat × Array Value)) : Prop := ∀ p ∈ l, Box W p.1 24 p.2
def Rws (W : World) (l : List (Nat × Value × List Int)) : Prop := ∀ p ∈ l, W.ownsRow p.1 62 1 p.2.1 p.2.2.length (p.2.2.map (Value.int .u32))
/-- What is known of a world: boxes of fractions, rows of the call's own, what was there. -/
structure St (w W : World) (l : List (Nat × Array Value)) (r : List (Nat × Value × List Int)) : Prop where
  box : Bxs3 W l
  row : Rws W r
  bel : Below w.heap.size w W
theorem St.later {w W W' : World} {l : List (Nat × Array Value)} {r : List (Nat × Value × List Int)} (h : St w W l r) (hb : Below W.heap.size W W') : St w W' l r :=
  ⟨fun p hp => (h.box p hp).later hb (h.box p hp).lt, fun p hp => owns_later (h.row p hp) hb, bt h.bel hb⟩
theorem St.more {w W : World} {l : List (Nat × Array Value)} {r : List (Nat × Value × List Int)} (h : St w W l r) {base : Nat} {v : Value} {zs : List Int} (o : W.ownsRow base 62 1 v zs.length (zs.map (Value.int .u32))) : St w W l ((base, v, zs) :: r) :=
  ⟨h.box, fun p hp => by
    cases hp with
    | head => exact o
    | tail _ hp => exact h.row p hp, h.bel⟩
theorem St.put {w W : World} {l : List (Nat × Array Value)} {r : List (Nat × Value × List Int)} (h : St w W l r) (n : Bool) (v u : Value) : St w (W.alloc (.cells #[.bool n, v, u] 24)) ((W.heap.size, #[.bool n, v, u]) :: l) r :=
  ⟨fun p hp => by
    cases hp with
    | head => exact Box.made W _ _
    | tail _ hp => exact (h.box p hp).later (alloc_later _ _) (h.box p hp).lt, (h.later (alloc_later _ _)).row, (h.later (alloc_later _ _)).bel⟩
theorem St.get {w W : World} {l : List (Nat × Array Value)} {r : List (Nat × Value × List Int)} (h : St w W l r) {g : Nat} {n : Bool} {v u : Value} (hm : (g, #[.bool n, v, u]) ∈ l) : W.cell? ⟨g, 0, none⟩ = some (.bool n) ∧ W.cell? ⟨g, 1, none⟩ = some v ∧ W.cell? ⟨g, 2, none⟩ = some u := ⟨(h.box _ hm).cell 0, (h.box _ hm).cell 1, (h.box _ hm).cell 2⟩
theorem St.free {w W : World} {l : List (Nat × Array Value)} {r : List (Nat × Value × List Int)} (h : St w W l r) {g : Nat} {n : Bool} {v u : Value} (hm : (g, #[.bool n, v, u]) ∈ l) : W.frozen? ⟨g, 0, none⟩ = false ∧ W.frozen? ⟨g, 1, none⟩ = false ∧ W.frozen? ⟨g, 2, none⟩ = false := ⟨(h.box _ hm).free 0, (h.box _ hm).free 1, (h.box _ hm).free 2⟩
theorem St.same {w W : World} {l : List (Nat × Array Value)} {r : List (Nat × Value × List Int)} (h : St w W l r) {g : Nat} {n : Bool} {v u : Value} (hm : (g, #[.bool n, v, u]) ∈ l) : W.setCell ⟨g, 0, none⟩ (.bool n) = W ∧ W.setCell ⟨g, 1, none⟩ v = W ∧ W.setCell ⟨g, 2, none⟩ u = W := ⟨(h.box _ hm).same rfl, (h.box _ hm).same rfl, (h.box _ hm).same rfl⟩
theorem St.sl {w W : World} {l : List (Nat × Array Value)} {r : List (Nat × Value × List Int)} (h : St w W l r) {base : Nat} {v : Value} {zs : List Int} (wd : Wd zs) (hm : (base, v, zs) ∈ r) : Sl W v zs := Sl.own (h.row _ hm) wd
/-- A store into a box of another type. -/
theorem St.flag {w W : World} {l : List (Nat × Array Value)} {r : List (Nat × Value × List Int)} (h : St w W l r) {g t : Nat} {vs : Array Value} (b : Box W g t vs) (hg : w.heap.size ≤ g) (h1 : t ≠ 24) (h2 : t ≠ 62) (j : Nat) (v : Value) : St w (W.setCell ⟨g, j, none⟩ v) l r := by
  refine ⟨fun p hp => (h.box p hp).other _ _ (fun e => ?_), fun p hp => own_put1 (h.row p hp) g (own_ne_box (h.row p hp) b (Ne.symm h2)) _ _, h.bel.setCell (p := ⟨g, j, none⟩) hg _⟩
  · have e1 := h.box p hp
    rw [e] at e1
    have e2 : some (Obj.cells p.2 24 (0, 0)) = some (.cells vs t (0, 0)) := e1.symm.trans b
    injection e2 with e3
    injection e3 with _ e4 _
    exact h1 e4.symm
end Go.Proofs.YtfppimlmebnaeaaGreatDoor

/- (*real.division).take: the quotient's bits, one by one. -/
namespace Go.Proofs.YtfppimlmebnaeaaGreatDoor
open Go.RowKit
set_option linter.unusedVariables false

theorem Box.keptBy {W W' : World} {g b t : Nat} {vs : Array Value} (h : Box W b t vs) (hg : W.grownBy W' (some g)) (hne : b ≠ g) : Box W' b t vs := (hg.block b h.lt (fun e => hne (Option.some.inj e))).trans h
theorem OwnC.keptBy {W W' : World} {base g g' n cap : Nat} {ys : List Int} (h : OwnC W base g n cap ys) (hg : W.grownBy W' (some g')) (hne : g ≠ g') : OwnC W' base g n cap ys := World.ownsRow.kept h hg (.inr (fun e => hne (Option.some.inj e)))
theorem OwnC.laterB {W W' : World} {base g n cap : Nat} {ys : List Int} (h : OwnC W base g n cap ys) (hb : Below W.heap.size W W') : OwnC W' base g n cap ys := owns_later h hb
theorem readsC {W : World} {b g n cap : Nat} {ys : List Int} (h : OwnC W b g n cap ys) (hw : Wd ys) : Reads W W.heap.size (some ⟨g, 0, none⟩) n cap ys := by
  obtain ⟨a, cap, hv, hr⟩ := Reads.own h hw
  cases hv
  exact hr
theorem box_two {W : World} {b t : Nat} {v0 v1 v2 : Value} (h : Box W b t #[v0, v1, v2]) : W.cell? ⟨b, 0, none⟩ = some v0 ∧ W.cell? ⟨b, 1, none⟩ = some v1 := ⟨h.cell 0, h.cell 1⟩
/-- What is doubled has the room. -/
theorem dbl_room {zs ys : List Int} {c : Int} {n : Nat} (hz : Wd zs) (hl : zs.length = n) (c0 : 0 ≤ c) (h : val zs + c * 4294967296 ^ n = 2 * val ys) (hr : 2 * val ys < 4294967296 ^ n) : val zs = 2 * val ys := by
  have z0 := val_nonneg hz
  have p := pw_pos n
  by_cases hc : c = 0
  · rw [hc, Int.zero_mul] at h; omega
  · exfalso
    have : 1 * (4294967296 : Int) ^ n ≤ c * 4294967296 ^ n := Int.mul_le_mul_of_nonneg_right (by omega) (Int.le_of_lt p)
    omega
theorem off_room {zs ys xs : List Int} {c : Int} {n : Nat} (hz : Wd zs) (hl : zs.length = n) (c0 : 0 ≤ c) (h : val zs + val ys = val xs + c * 4294967296 ^ n) (hr : val ys ≤ val xs) : val zs = val xs - val ys := by
  have z1 := val_lt hz
  rw [hl] at z1
  have p := pw_pos n
  by_cases hc : c = 0
  · rw [hc, Int.zero_mul] at h; omega
  · exfalso
    have : 1 * (4294967296 : Int) ^ n ≤ c * 4294967296 ^ n := Int.mul_le_mul_of_nonneg_right (by omega) (Int.le_of_lt p)
    omega
/-- One bit more. -/
theorem bit_step {r0 q r b B : Int} {k : Nat} (h : r0 * 2 ^ k = q * (2 * B) + r) (b' r' : Int) (hr : r = b * B + b') (hr' : r' = 2 * b') : r0 * 2 ^ (k + 1) = (q * 2 + b) * (2 * B) + r' := by
  rw [Int.pow_succ, ← Int.mul_assoc, h, hr, hr']
  grind

/-- What is known of a world on the way: both rows, the division's memory, what was there. -/
def TK (w : World) (base base' g1 g2 n cap1 cap2 pd : Nat) (pw : Int) (Rk B : List Int) (V : World) : Prop :=
  OwnC V base g1 n cap1 Rk ∧ OwnC V base' g2 n cap2 B ∧ Box V pd 84 #[.slice (some ⟨g1, 0, none⟩) n cap1, .slice (some ⟨g2, 0, none⟩) n cap2, .int .i64 pw] ∧ w.grownBy V (some g1)
theorem TK.later {w : World} {base base' g1 g2 n cap1 cap2 pd : Nat} {pw : Int} {Rk B : List Int} {V V' : World} (h : TK w base base' g1 g2 n cap1 cap2 pd pw Rk B V) (hb : Below V.heap.size V V') : TK w base base' g1 g2 n cap1 cap2 pd pw Rk B V' :=
  ⟨h.1.laterB hb, h.2.1.laterB hb, h.2.2.1.later hb h.2.2.1.lt, grown_trans h.2.2.2 (grown_of_below hb _)⟩
theorem TK.turn {w : World} {base base' g1 g2 n cap1 cap2 pd : Nat} {pw : Int} {Rk B zs : List Int} {V V' : World} (h : TK w base base' g1 g2 n cap1 cap2 pd pw Rk B V) (hz : OwnC V' base g1 n cap1 zs) (hg : V.grownBy V' (some g1)) (h1 : g2 ≠ g1) (h2 : pd ≠ g1) : TK w base base' g1 g2 n cap1 cap2 pd pw zs B V' :=
  ⟨hz, h.2.1.keptBy hg h1, h.2.2.1.keptBy hg h2, grown_trans h.2.2.2 hg⟩

set_option maxHeartbeats 1600000 in
set_option maxRecDepth 100000 in
theorem take_any (base base' pd g1 g2 n cap1 cap2 c : Nat) (pw : Int) (R B : List Int) (w : World) (hbx : Box w pd 84 #[.slice (some ⟨g1, 0, none⟩) n cap1, .slice (some ⟨g2, 0, none⟩) n cap2, .int .i64 pw])
    (h1 : OwnC w base g1 n cap1 R) (h2 : OwnC w base' g2 n cap2 B) (w1 : Wd R) (w2 : Wd B) (hne : g1 ≠ g2) (hn : n ≤ 1048576) (hc : c ≤ 60) (hR : val R < 2 * val B) (hB : 2 * val B < 4294967296 ^ n) :
    Calls Tryz.prog 50 #[.pointer (some ⟨pd, 0, none⟩), .int .i64 c] w fun e w' => ∃ (q : Int) (R' : List Int), e = .returned (.int .u64 q) ∧ 0 ≤ q ∧ OwnC w' base g1 n cap1 R' ∧ Wd R' ∧ val R * 2 ^ c = q * (2 * val B) + val R' ∧ val R' < 2 * val B ∧ w.grownBy w' (some g1) := by
  have hpd : g1 ≠ pd := own_ne_box h1 hbx (by decide) g1 rfl
  have hpd2 : g2 ≠ pd := own_ne_box h2 hbx (by decide) g2 rfl
  have HW2 := hid w2
  have HRB := hid (And.intro hR hB)
  have HL := hid h1.len
  have b0 := val_nonneg w2
  have hcm : (2 : Int) ^ c ≤ 2 ^ 60 := two_le hc
  have HCM := hid hcm
  clear hcm
  go_enter Tryz.func50, Tryz.ntmps50
  go_wp2_with fail
  go_loopw [4, 6] (fun qv z wr => ∃ (k : Nat) (q : Int) (Rk : List Int), k ≤ c ∧ z = .int .i64 k ∧ qv = .int .u64 q ∧ 0 ≤ q ∧ Wd Rk ∧ Hid (val R * 2 ^ k = q * (2 * val B) + val Rk) ∧ Hid (val Rk < 2 * val B) ∧ Hid (q < 2 ^ k) ∧ Hid (TK w base base' g1 g2 n cap1 cap2 pd pw Rk B wr)) (fun _ z _ => c - (intOf z).toNat)
  case atStart => exact ⟨0, 0, R, by omega, rfl, rfl, by omega, w1, show _ = _ by simp, hR, show _ < _ by simp, h1, h2, hbx, World.grownBy.refl _ _⟩
  case round =>
    obtain ⟨k, q, Rk, hk, rfl, rfl, q0, hwr, HV, HL2, HQ, HS⟩ := hrel
    by_cases hlt : k < c
    · have HWR := hid hwr
      have hq60 : q < 1152921504606846976 := by
        have e1 := HQ.out
        have e2 : (2 : Int) ^ k ≤ 2 ^ 60 := two_le (by omega)
        have e3 : (2 : Int) ^ 60 = 1152921504606846976 := by decide
        omega
      have HQ2 : Hid (q * 2 < 2 ^ (k + 1) ∧ q * 2 + 1 < 2 ^ (k + 1)) := by
        have e1 := HQ.out
        rw [Int.pow_succ]
        constructor <;> omega
      have HBX : Hid (∀ Rj V, TK w base base' g1 g2 n cap1 cap2 pd pw Rj B V → V.cell? ⟨pd, 0, none⟩ = some (.slice (some ⟨g1, 0, none⟩) n cap1) ∧ V.cell? ⟨pd, 1, none⟩ = some (.slice (some ⟨g2, 0, none⟩) n cap2)) := fun Rj V hv => box_two hv.2.2.1
      have hs0 := HBX.out _ _ (HS.out.later (Below.drew (Below.refl _ wr)))
      have HBR := hid (Below.drew (Below.refl wr.heap.size wr))
      obtain ⟨cc, hcc⟩ : ∃ cc, cmpI (val Rk) (val B) = cc := ⟨_, rfl⟩
      have H1 : Hid (∀ ww, Below wr.heap.size wr ww → Calls Tryz.prog 51 #[.slice (some ⟨g1, 0, none⟩) n cap1, .slice (some ⟨g2, 0, none⟩) n cap2] ww fun e w' => e = .returned (.int .i64 cc) ∧ (w'.cell? ⟨pd, 0, none⟩ = some (.slice (some ⟨g1, 0, none⟩) n cap1) ∧ w'.cell? ⟨pd, 1, none⟩ = some (.slice (some ⟨g2, 0, none⟩) n cap2)) ∧ Hid (TK w base base' g1 g2 n cap1 cap2 pd pw Rk B w')) := fun ww hv => by
        refine Calls.mono (rcompare_any _ n _ Rk _ _ B ww (readsC (HS.out.1.laterB hv) HWR.out) (readsC (HS.out.2.1.laterB hv) HW2.out) (by omega)) ?_
        rintro e w' ⟨rfl, h⟩
        exact ⟨by rw [hcc], HBX.out _ _ (HS.out.later (bt hv h)), HS.out.later (bt hv h)⟩
      have HD : Hid (∀ Rj V, TK w base base' g1 g2 n cap1 cap2 pd pw Rj B V → Wd Rj → val Rj < val B → Calls Tryz.prog 66 #[.slice (some ⟨g1, 0, none⟩) n cap1] V fun e w' => ∃ zs : List Int, e = .returned (.tuple #[]) ∧ Hid (TK w base base' g1 g2 n cap1 cap2 pd pw zs B w' ∧ val zs = 2 * val Rj) ∧ Wd zs) := fun Rj V hv hw hj => by
        refine Calls.mono (rdouble_any base g1 n cap1 Rj V hv.1 hw (by omega)) ?_
        rintro e w' ⟨zs, c, rfl, z1, z2, z3, z4, z5, z6⟩
        have e1 := HRB.out.2
        exact ⟨zs, rfl, ⟨hv.turn z1 z6 (Ne.symm hne) (Ne.symm hpd), dbl_room z2 z1.len z4 z3 (by omega)⟩, z2⟩
      have HCC := hid hcc
      have HST := hid (fun b b' r' => bit_step (b := b) HV.out b' r')
      clear hcc hwr HV HQ
      by_cases hge : val B ≤ val Rk
      · have hc1 : 0 ≤ cc := by have e := HCC.out; unfold cmpI at e; rw [if_neg (by omega)] at e; split at e <;> omega
        have HGE := hid hge
        have HT : Hid (∀ V, TK w base base' g1 g2 n cap1 cap2 pd pw Rk B V → Calls Tryz.prog 67 #[.slice (some ⟨g1, 0, none⟩) n cap1, .slice (some ⟨g2, 0, none⟩) n cap2] V fun e w' => ∃ zs : List Int, e = .returned (.tuple #[]) ∧ Hid (TK w base base' g1 g2 n cap1 cap2 pd pw zs B w' ∧ val zs = val Rk - val B ∧ Wd zs) ∧ (w'.cell? ⟨pd, 0, none⟩ = some (.slice (some ⟨g1, 0, none⟩) n cap1) ∧ w'.cell? ⟨pd, 1, none⟩ = some (.slice (some ⟨g2, 0, none⟩) n cap2))) := fun V hv => by
          refine Calls.mono (takeOff_any base g1 n cap1 Rk _ cap2 B V hv.1 HWR.out (readsC hv.2.1 HW2.out) (fun a ha => by cases ha; exact Ne.symm hne) (by omega)) ?_
          rintro e w' ⟨zs, c, rfl, z1, z2, z3, z4, z5, z6⟩
          have t := hv.turn z1 z6 (Ne.symm hne) (Ne.symm hpd)
          exact ⟨zs, rfl, ⟨t, off_room z2 z1.len z4 z3 HGE.out, z2⟩, HBX.out _ _ t⟩
        clear hge
        go_wp2_with fail
        go_region_held3 (fun V : World => V.cell? ⟨pd, 0, none⟩ = some (.slice (some ⟨g1, 0, none⟩) n cap1) ∧ V.cell? ⟨pd, 1, none⟩ = some (.slice (some ⟨g2, 0, none⟩) n cap2)) (first | exact hs1 | exact hs0) (first | (go_at_call 51; with_reducible refine Calls.mono (H1.out _ HBR.out) ?_; rintro e w4 ⟨rfl, hs1, HS4⟩))
        all_goals
          have hs2 := HBX.out _ _ (HS4.out.later (Below.drew (Below.refl _ w4)))
          have HS5 := hid (HS4.out.later (Below.drew (Below.refl _ w4)))
          clear H1 hs0 hs1
          go_wp2_with fail
          go_region_held3 (fun V : World => V.cell? ⟨pd, 0, none⟩ = some (.slice (some ⟨g1, 0, none⟩) n cap1) ∧ V.cell? ⟨pd, 1, none⟩ = some (.slice (some ⟨g2, 0, none⟩) n cap2)) (first | exact hs3 | exact hs2) (first | (go_at_call 67; with_reducible refine Calls.mono (HT.out _ HS5.out) ?_; rintro e w5 ⟨zs, rfl, HS6, hs3⟩))
          all_goals
            have HD5 := hid (HD.out zs w5 HS6.out.1 HS6.out.2.2 (by have e1 := HS6.out.2.1; have e2 := HL2.out; omega))
            have r0 := hs3.1
            clear HT hs2 HD
            go_wp2_with fail
            refine Calls.mono HD5.out ?_
            rintro e w6 ⟨us, rfl, HS7, wus⟩
            clear HD5 r0 hs3
            go_wp2_with fail
            go_roundw
            case rel => exact ⟨k + 1, q * 2 + 1, us, by omega, by go_num, by go_num, by omega, wus, HST.out 1 _ _ (by rw [HS6.out.2.1]; omega) HS7.out.2, show _ < _ by have e1 := HS7.out.2; have e2 := HS6.out.2.1; have e3 := HL2.out; omega, HQ2.out.2, HS7.out.1⟩
            case measure => simp [intOf]; omega
      · have hc1 : ¬ 0 ≤ cc := by have e := HCC.out; unfold cmpI at e; rw [if_pos (by omega)] at e; omega
        have HGE := hid hge
        clear hge
        go_wp2_with fail
        go_region_held3 (fun V : World => V.cell? ⟨pd, 0, none⟩ = some (.slice (some ⟨g1, 0, none⟩) n cap1) ∧ V.cell? ⟨pd, 1, none⟩ = some (.slice (some ⟨g2, 0, none⟩) n cap2)) (first | exact hs1 | exact hs0) (first | (go_at_call 51; with_reducible refine Calls.mono (H1.out _ HBR.out) ?_; rintro e w4 ⟨rfl, hs1, HS4⟩))
        all_goals
          have HD5 := hid (HD.out Rk w4 HS4.out HWR.out (by have e1 := HGE.out; omega))
          have r0 := hs1.1
          clear H1 hs0 HD
          go_wp2_with fail
          refine Calls.mono HD5.out ?_
          rintro e w6 ⟨us, rfl, HS7, wus⟩
          clear HD5 r0 hs1
          go_wp2_with fail
          go_roundw
          case rel => exact ⟨k + 1, q * 2, us, by omega, by go_num, by go_num, by omega, wus, show _ = _ by have e := HST.out 0 _ _ (by rw [Int.zero_mul, Int.zero_add]) HS7.out.2; rw [Int.add_zero] at e; exact e, show _ < _ by have e1 := HS7.out.2; have e2 := HGE.out; omega, HQ2.out.1, HS7.out.1⟩
          case measure => simp [intOf]; omega
    · have hkn : k = c := by omega
      subst hkn
      go_wp2_with fail
      go_ret
      exact ⟨q, Rk, rfl, q0, HS.out.1, hwr, HV.out, HL2.out, HS.out.2.2.2⟩

end Go.Proofs.YtfppimlmebnaeaaGreatDoor

/- real.begin: two numbers shifted till they have as many bits as each other. -/
namespace Go.Proofs.YtfppimlmebnaeaaGreatDoor
open Go.RowKit
set_option linter.unusedVariables false

/-- append(v, 0) to a full row, as one step of a region: the same words and a nought in new memory. -/
theorem step_grow0 {ops : Array Oper} {o : Oper} {act : Act} {w : World} {K : Act → World → Prop} {Q : Exit → Act → World → Prop} {E : Prop}
    (hg : o.guard = none) (s x : Operand) (hop : o.op = Op.call { callee := Callee.builtin Builtin.append, args := #[s, x], argTypes := #[22, 22] })
    (g n : Nat) (base : Nat) (xs : List Int) (hs : act.eval s = .slice (some ⟨g, 0, none⟩) n n) (hown : OwnC w base g n n xs)
    (b : Nat) (hx : act.eval x = .slice (some ⟨b, 0, none⟩) 1 1) (hb : w.cell? ⟨b, 0, none⟩ = some (.int .u32 0)) (hn : n ≤ 1048576)
    (hK : ∀ g' c' w', OwnC w' w.heap.size g' (n + 1) c' (xs ++ [0]) → Below w.heap.size w w' → K (act.put o.dst (.slice (some ⟨g', 0, none⟩) (n + 1) c')) w') :
    if Region.wanted o (yielded ops act.tmps) = true then Oper.wp Tryz.prog o act w K Q else E := by
  obtain ⟨i0, hi, hz0, hz1, hz2⟩ := info_parts Tryz.infoW
  refine step_append_grows hg s x 22 hop 62 i0 (.int .u32 0) 1 4 Tryz.underlying22 hi hz0 hz1 hz2 rfl (by decide) (some ⟨g, 0, none⟩) n n (xs.map (Value.int .u32)) hs (by intro h; cases h) (by have := hown.len; simp [this]) ?_ ⟨b, 0, none⟩ 1 1 [.int .u32 0] hx rfl ?_ (by simp [Value.oneCell']) (by omega) (by unfold maxLen; omega) (by omega) ?_
  · intro a ha j u hu
    cases ha
    have hl := hown.len
    by_cases hj : j < n
    · have c := hown.cell j hj
      rw [List.getElem?_map] at hu
      have e : xs[j]? = some (xs[j]?.getD 0) := by rw [List.getElem?_eq_getElem (by omega)]; rfl
      rw [e] at hu
      obtain rfl : Value.int .u32 (xs[j]?.getD 0) = u := by simpa using hu
      have e2 : (⟨g, 0, none⟩ : Addr).add j = ⟨g, j, none⟩ := by
        unfold Addr.add
        by_cases hz : j = 0
        · subst hz; rfl
        · simp [hz]
      rw [e2]
      exact c
    · rw [List.getElem?_eq_none (by simp; omega)] at hu; cases hu
  · intro j u hu
    match j, hu with
    | 0, hu => obtain rfl : Value.int .u32 0 = u := by simpa using hu
               exact hb
    | k + 1, hu => simp at hu
  · intro v' w' o1 g1
    obtain ⟨g', c', rfl, hc, _⟩ := own_shape' o1 (by omega)
    refine hK g' c' w' ?_ ((Below.refl w.heap.size w).grown g1 (Nat.le_refl _) (fun k hk => by simp at hk))
    have : (xs ++ [0]).map (Value.int .u32) = xs.map (Value.int .u32) ++ [.int .u32 0] := by simp
    unfold OwnC
    rw [this]
    exact o1

theorem bits_only {v : Int} {a b : Nat} (ha : 1 ≤ a) (hb : 1 ≤ b) (h1 : (2 : Int) ^ (a - 1) ≤ v) (h2 : v < 2 ^ a) (g1 : (2 : Int) ^ (b - 1) ≤ v) (g2 : v < 2 ^ b) : a = b := by
  rcases Nat.lt_trichotomy a b with h | h | h
  · have : (2 : Int) ^ a ≤ 2 ^ (b - 1) := two_le (by omega)
    omega
  · exact h
  · have : (2 : Int) ^ b ≤ 2 ^ (a - 1) := two_le (by omega)
    omega
theorem len_of_bits {xs : List Int} (hw : Wd xs) (ht : Trimmed xs) (L : Nat) (hL : 1 ≤ L) (h1 : (2 : Int) ^ (L - 1) ≤ val xs) (h2 : val xs < 2 ^ L) : xs.length = (L + 31) / 32 := by
  have hs : sz xs = xs.length := ht
  have hp : 0 < sz xs := by
    rcases Nat.eq_zero_or_pos (sz xs) with g | g
    · exfalso
      have : xs = [] := List.eq_nil_of_length_eq_zero (by omega)
      subst this
      have := two_pos (L - 1)
      rw [val_nil] at h1
      omega
    · exact g
  obtain ⟨b1, b2, b3, b4, b5⟩ := bits_bounds hw hp
  have := bits_only b1 hL b2 b3 h1 h2
  omega

set_option maxHeartbeats 800000 in
set_option maxRecDepth 100000 in
theorem rshifted_s (a : Option Addr) (n cap : Nat) (xs : List Int) (s : Nat) (w : World) (h : Reads w w.heap.size a (n + 1) cap xs) (hn : n ≤ 1048576) (tx : Trimmed xs) (hs : s ≤ 1048576) :
    Calls Tryz.prog 40 #[.slice a (n + 1) cap, .int .i64 (s : Int)] w fun e w' => ∃ ys : List Int, e = .returned (.slice (some ⟨w.heap.size, 0, none⟩) ys.length ys.length) ∧ OwnW w' w.heap.size w.heap.size ys.length ys ∧ Wd ys ∧ Trimmed ys ∧ val ys = val xs * 2 ^ s ∧ Below w.heap.size w w' := by
  refine Calls.mono (rshifted_any a n cap xs (s / 32) (s % 32) (s : Int) w h hn tx (by omega) (by omega) (by omega)) ?_
  rintro e w' ⟨ys, rfl, h1, h2, h3, h4, h5⟩
  refine ⟨ys, rfl, h1, h2, h3, ?_, h5⟩
  rw [h4, pw_two, Int.mul_assoc, ← Int.pow_add]
  congr 2
  omega

/-- Both numbers shifted to as many bits. -/
theorem begin_vals {xs ys zs us : List Int} (wx : Wd xs) (px : 0 < sz xs) (wy : Wd ys) (py : 0 < sz ys) (wz : Wd zs) (tz : Trimmed zs) (wu : Wd us) (tu : Trimmed us)
    (hz : val zs = val xs * 2 ^ (bitsOf ys - bitsOf xs)) (hu : val us = val ys * 2 ^ (bitsOf xs - bitsOf ys)) :
    us.length = zs.length ∧ 0 < zs.length ∧ zs.length ≤ max (sz xs) (sz ys) ∧ val zs < 2 * val us ∧ val us < 2 * val zs ∧ 2 * val zs < 4294967296 ^ (zs.length + 1) ∧ 2 * val us < 4294967296 ^ (zs.length + 1) := by
  obtain ⟨a1, a2, a3, a4, a5⟩ := bits_bounds wx px
  obtain ⟨b1, b2, b3, b4, b5⟩ := bits_bounds wy py
  generalize bitsOf xs = Lx at *
  generalize bitsOf ys = Ly at *
  have z1 : (2 : Int) ^ (max Lx Ly - 1) ≤ val zs ∧ val zs < 2 ^ max Lx Ly := by
    have p := two_pos (Ly - Lx)
    rw [hz]
    constructor
    · have := Int.mul_le_mul_of_nonneg_right a2 (Int.le_of_lt p)
      rw [← Int.pow_add, show Lx - 1 + (Ly - Lx) = max Lx Ly - 1 by omega] at this
      exact this
    · have := Int.mul_lt_mul_of_pos_right a3 p
      rw [← Int.pow_add, show Lx + (Ly - Lx) = max Lx Ly by omega] at this
      exact this
  have u1 : (2 : Int) ^ (max Lx Ly - 1) ≤ val us ∧ val us < 2 ^ max Lx Ly := by
    have p := two_pos (Lx - Ly)
    rw [hu]
    constructor
    · have := Int.mul_le_mul_of_nonneg_right b2 (Int.le_of_lt p)
      rw [← Int.pow_add, show Ly - 1 + (Lx - Ly) = max Lx Ly - 1 by omega] at this
      exact this
    · have := Int.mul_lt_mul_of_pos_right b3 p
      rw [← Int.pow_add, show Ly + (Lx - Ly) = max Lx Ly by omega] at this
      exact this
  have l1 := len_of_bits wz tz _ (by omega) z1.1 z1.2
  have l2 := len_of_bits wu tu _ (by omega) u1.1 u1.2
  have e : (2 : Int) ^ max Lx Ly = 2 * 2 ^ (max Lx Ly - 1) := by
    have e2 : max Lx Ly = (max Lx Ly - 1) + 1 := by omega
    rw [e2, Int.pow_succ, Int.mul_comm, Nat.add_sub_cancel]
  have v1 := val_lt wz
  have v2 := val_lt wu
  rw [l2, ← l1] at v2
  have pz := pw_succ zs.length
  have pp := pw_pos zs.length
  rw [pz]
  refine ⟨by omega, by omega, by omega, by omega, by omega, by omega, by omega⟩

end Go.Proofs.YtfppimlmebnaeaaGreatDoor

/- Fractions: ratio.Check, checkBoth, told: of every fraction whose words can be read; what a call tells that may refuse. -/
namespace Go.Proofs.YtfppimlmebnaeaaGreatDoor
open Go.RowKit
set_option linter.unusedVariables false

theorem rchk_ok {n : Bool} {xs ys : List Int} (h : rchk n xs ys = 0) : xs.length ≤ 2048 ∧ ys.length ≤ 2048 ∧ Trimmed xs ∧ Trimmed ys ∧ 0 < ys.length ∧ (n = false ∨ 0 < xs.length) ∧ gcdI (val xs) (val ys) = 1 := by
  unfold rchk at h
  by_cases h1 : 2048 < max xs.length ys.length
  · rw [if_pos h1] at h; omega
  · rw [if_neg h1] at h
    by_cases h2 : rform n xs ys
    · obtain ⟨a, b⟩ := both_ok h2.1
      exact ⟨by omega, by omega, (chk_ok a).2, (chk_ok b).2, h2.2.1, h2.2.2.1, h2.2.2.2⟩
    · rw [if_neg h2] at h; omega
theorem rchk_good {n : Bool} {xs ys : List Int} (lx : xs.length ≤ 2048) (ly : ys.length ≤ 2048) (tx : Trimmed xs) (ty : Trimmed ys) (h0 : 0 < ys.length) (hs : n = false ∨ 0 < xs.length) (hg : gcdI (val xs) (val ys) = 1) : rchk n xs ys = 0 := by
  unfold rchk
  rw [if_neg (by omega), if_pos ⟨both_good (chk_good (by omega) tx) (chk_good (by omega) ty), h0, hs, hg⟩]

set_option maxHeartbeats 1600000 in
set_option maxRecDepth 100000 in
theorem rcheck_any (n : Bool) (v : Value) (xs : List Int) (u : Value) (ys : List Int) (w : World) (h : Sl w v xs) (g : Sl w u ys) :
    Calls Tryz.prog 29 #[.agg #[.bool n, v, u]] w fun e w' => e = .returned (.int .i64 (rchk n xs ys)) ∧ Below w.heap.size w w' := by
  have HX := hid (Box.made w 24 #[.bool n, v, u])
  have HB := hid (alloc_later w (.cells #[.bool n, v, u] 24))
  have HI : Hid (∀ w1, Below (w.alloc (.cells #[.bool n, v, u] 24)).heap.size (w.alloc (.cells #[.bool n, v, u] 24)) w1 → ¬ 2048 < max xs.length ys.length → Calls Tryz.prog 48 #[.agg #[.bool n, v, u]] w1 fun e w' => e = .returned (.bool (decide (rform n xs ys))) ∧ Below w1.heap.size w1 w') := fun w1 hb hle => inOneForm_any n v xs u ys w1 ((h.later HB.out).later hb) ((g.later HB.out).later hb) (by omega) (by omega)
  obtain ⟨a, cap, rfl, hr⟩ := h
  obtain ⟨b, cap', rfl, gr⟩ := g
  clear hr gr
  have HW := hid (rwords_any n a xs.length cap b ys.length cap' (w.alloc (.cells #[.bool n, .slice a xs.length cap, .slice b ys.length cap'] 24)))
  obtain ⟨M, hM⟩ : ∃ M, max xs.length ys.length = M := ⟨_, rfl⟩
  have HR : Hid (rchk n xs ys = if 2048 < M then 3 else if rform n xs ys then 0 else 11) := by show _ = _; unfold rchk; rw [hM]
  rw [hM] at HW HI
  clear hM
  by_cases hm : 2048 < M
  · have hm' : (2048 : Int) < (M : Int) := by omega
    rw [if_pos hm] at HR
    clear hm HI
    go_enter Tryz.func29, Tryz.ntmps29
    go_wp2_with fail
    refine Calls.mono HW.out ?_
    rintro e w1 ⟨rfl, hb1⟩
    have hbA := bt HB.out hb1
    clear hb1
    go_wp2_with fail
    go_ret
    exact ⟨ret_int HR.out.symm, hbA⟩
  · have hm' : ¬ (2048 : Int) < (M : Int) := by omega
    rw [if_neg hm] at HR
    have HNM := hid hm
    clear hm
    by_cases hf : rform n xs ys
    · rw [if_pos hf] at HR
      rw [decide_eq_true hf] at HI
      clear hf
      go_enter Tryz.func29, Tryz.ntmps29
      go_wp2_with fail
      refine Calls.mono HW.out ?_
      rintro e w1 ⟨rfl, hb1⟩
      obtain ⟨c0, c1, c2, _, _, _⟩ := res_box3 HX.out hb1
      have HI1 := hid (HI.out w1 hb1 HNM.out)
      have hbA := bt HB.out hb1
      clear hb1 HI
      go_wp2_with fail
      refine Calls.mono HI1.out ?_
      rintro e w2 ⟨rfl, hb2⟩
      have hbB := bt hbA hb2
      clear hb2
      go_wp2_with fail
      go_ret
      exact ⟨ret_int HR.out.symm, hbB⟩
    · rw [if_neg hf] at HR
      rw [decide_eq_false hf] at HI
      clear hf
      go_enter Tryz.func29, Tryz.ntmps29
      go_wp2_with fail
      refine Calls.mono HW.out ?_
      rintro e w1 ⟨rfl, hb1⟩
      obtain ⟨c0, c1, c2, _, _, _⟩ := res_box3 HX.out hb1
      have HI1 := hid (HI.out w1 hb1 HNM.out)
      have hbA := bt HB.out hb1
      clear hb1 HI
      go_wp2_with fail
      refine Calls.mono HI1.out ?_
      rintro e w2 ⟨rfl, hb2⟩
      have hbB := bt hbA hb2
      clear hb2
      go_wp2_with fail
      go_ret
      exact ⟨ret_int HR.out.symm, hbB⟩

/-- What checkBoth tells. -/
def rboth (n : Bool) (xs ys : List Int) (m : Bool) (us vs : List Int) : Int := if rchk n xs ys = 0 then rchk m us vs else rchk n xs ys
theorem rboth_good {n m : Bool} {xs ys us vs : List Int} (h : rchk n xs ys = 0) (g : rchk m us vs = 0) : rboth n xs ys m us vs = 0 := by unfold rboth; rw [if_pos h, g]
theorem rboth_ok {n m : Bool} {xs ys us vs : List Int} (h : rboth n xs ys m us vs = 0) : rchk n xs ys = 0 ∧ rchk m us vs = 0 := by
  unfold rboth at h
  by_cases c : rchk n xs ys = 0
  · rw [if_pos c] at h; exact ⟨c, h⟩
  · rw [if_neg c] at h; exact absurd h c

set_option maxHeartbeats 1600000 in
set_option maxRecDepth 100000 in
theorem rcheckBoth_any (n : Bool) (v : Value) (xs : List Int) (u : Value) (ys : List Int) (m : Bool) (v' : Value) (us : List Int) (u' : Value) (vs : List Int) (w : World) (h : Sl w v xs) (g : Sl w u ys) (h' : Sl w v' us) (g' : Sl w u' vs) :
    Calls Tryz.prog 26 #[.agg #[.bool n, v, u], .agg #[.bool m, v', u']] w fun e w' => e = .returned (.int .i64 (rboth n xs ys m us vs)) ∧ Below w.heap.size w w' := by
  have hb : Below w.heap.size w ((w.alloc (.cells #[.bool n, v, u] 24)).alloc (.cells #[.bool m, v', u'] 24)) := bt (alloc_later _ _) (alloc_later _ _)
  have HB := hid hb
  have H1 := hid (rcheck_any n v xs u ys _ (h.later hb) (g.later hb))
  have H2 := hid (fun w1 (hb1 : Below _ ((w.alloc (.cells #[.bool n, v, u] 24)).alloc (.cells #[.bool m, v', u'] 24)) w1) => rcheck_any m v' us u' vs w1 ((h'.later hb).later hb1) ((g'.later hb).later hb1))
  have HS : Hid (Box ((w.alloc (.cells #[.bool n, v, u] 24)).alloc (.cells #[.bool m, v', u'] 24)) (w.heap.size + 1) 24 #[.bool m, v', u']) := by
    have e := Box.made (w.alloc (.cells #[.bool n, v, u] 24)) 24 #[.bool m, v', u']
    simp at e
    exact e
  obtain ⟨a, cap, rfl, hr⟩ := h
  obtain ⟨b, cap', rfl, gr⟩ := g
  obtain ⟨a2, cap2, rfl, hr2⟩ := h'
  obtain ⟨b2, cap2', rfl, gr2⟩ := g'
  clear hb hr gr hr2 gr2
  by_cases h1 : rchk n xs ys = 0
  · have HW : Hid (rboth n xs ys m us vs = rchk m us vs) := by show _ = _; unfold rboth; rw [if_pos h1]
    rw [h1] at H1
    clear h1
    go_enter Tryz.func26, Tryz.ntmps26
    go_wp2_with fail
    refine Calls.mono H1.out ?_
    rintro e w1 ⟨rfl, hb1⟩
    obtain ⟨c0, c1, c2, _, _, _⟩ := res_box3 HS.out hb1
    have HC := hid (H2.out w1 hb1)
    have hbA := bt HB.out hb1
    clear hb1
    go_wp2_with fail
    refine Calls.mono HC.out ?_
    rintro e w2 ⟨rfl, hb2⟩
    have hbB := bt hbA hb2
    clear hb2
    go_wp2_with fail
    go_ret
    exact ⟨ret_int HW.out.symm, hbB⟩
  · have HW : Hid (rboth n xs ys m us vs = rchk n xs ys) := by show _ = _; unfold rboth; rw [if_neg h1]
    have hne : (rchk n xs ys != 0) = true := by simp [h1]
    obtain ⟨c, hc⟩ : ∃ c, rchk n xs ys = c := ⟨_, rfl⟩
    rw [hc] at H1 HW hne
    clear hc h1
    go_enter Tryz.func26, Tryz.ntmps26
    go_wp2_with fail
    refine Calls.mono H1.out ?_
    rintro e w1 ⟨rfl, hb1⟩
    have hbA := bt HB.out hb1
    clear hb1
    go_wp2_with fail
    go_ret
    exact ⟨ret_int HW.out.symm, hbA⟩

/-- A fraction has too many words. -/
def rlong (q : Rat) : Prop := wlim ≤ (q.num.natAbs : Int) ∨ wlim ≤ (q.den : Int)
/-- What a call tells that may refuse: e is the error of what is handed in, q the fraction. -/
structure RTells (e : Int) (q : Rat) (n : Bool) (xs ys : List Int) (code : Int) : Prop where
  wx : Wd xs
  wy : Wd ys
  bad : e ≠ 0 → n = false ∧ xs = [] ∧ ys = [] ∧ code = e
  long : e = 0 → rlong q → n = false ∧ xs = [] ∧ ys = [] ∧ code = 3
  good : e = 0 → ¬ rlong q → code = 0 ∧ rchk n xs ys = 0 ∧ rq n xs ys = q
def RTold (w : World) (e : Int) (q : Rat) (x : Ending) (w' : World) : Prop :=
  ∃ n v xs u ys code, x = .returned (.tuple #[.agg #[.bool n, v, u], .int .i64 code]) ∧ w'.ownsRow w.heap.size 62 1 v xs.length (xs.map (Value.int .u32)) ∧ w'.ownsRow w.heap.size 62 1 u ys.length (ys.map (Value.int .u32)) ∧ RTells e q n xs ys code ∧ Below w.heap.size w w'
theorem RTells.err {e : Int} {q : Rat} (h : e ≠ 0) : RTells e q false [] [] e := ⟨Wd.nil, Wd.nil, fun _ => ⟨rfl, rfl, rfl, rfl⟩, fun h' => absurd h' h, fun h' => absurd h' h⟩

/-- What told tells. -/
def rtoldV (n : Bool) (a : Option Addr) (k c : Nat) (b : Option Addr) (l d : Nat) : Value := if 2048 < max k l then .tuple #[.agg #[.bool false, .slice none 0 0, .slice none 0 0], .int .i64 3] else .tuple #[.agg #[.bool (n && decide (0 < k)), .slice a k c, .slice b l d], .int .i64 0]
theorem gcd_sg (n : Bool) (x d : Int) : gcdI (sg n x) d = gcdI x d := by
  cases n
  · rfl
  · show ((Int.gcd (-x) d : Nat) : Int) = _
    rw [Int.neg_gcd]; rfl
theorem abs_sg (n : Bool) {x : Int} (h : 0 ≤ x) : ((sg n x).natAbs : Int) = x := by
  cases n <;> simp [sg] <;> omega
/-- What told makes of a numerator and a denominator with nothing in common. -/
theorem rtells_of {n : Bool} {zs ds : List Int} (wz : Wd zs) (tz : Trimmed zs) (wd : Wd ds) (td : Trimmed ds) (hd : 0 < val ds) (hg : gcdI (val zs) (val ds) = 1) :
    ∃ m us vs c, (∀ a ca b cb, rtoldV n a zs.length ca b ds.length cb = .tuple #[.agg #[.bool m, if c = 0 then .slice a zs.length ca else .slice none 0 0, if c = 0 then .slice b ds.length cb else .slice none 0 0], .int .i64 c]) ∧ (if c = 0 then us = zs else us = []) ∧ (if c = 0 then vs = ds else vs = []) ∧ RTells 0 (Rat.divInt (sg n (val zs)) (val ds)) m us vs c := by
  have hz0 := val_nonneg wz
  obtain ⟨e1, e2⟩ := fr_num (x := sg n (val zs)) hd (by rw [gcd_sg]; exact hg)
  have hl : rlong (Rat.divInt (sg n (val zs)) (val ds)) ↔ 2048 < max zs.length ds.length := by
    unfold rlong
    rw [e1, e2, abs_sg n hz0, ← len2048 wz tz, ← len2048 wd td]
    omega
  by_cases h : 2048 < max zs.length ds.length
  · refine ⟨false, [], [], 3, fun a ca b cb => by unfold rtoldV; rw [if_pos h]; rfl, by simp, by simp, ⟨Wd.nil, Wd.nil, fun h => absurd rfl h, fun _ _ => ⟨rfl, rfl, rfl, rfl⟩, fun _ h' => absurd (hl.2 h) h'⟩⟩
  · have hd0 : 0 < ds.length := by
      by_cases c : 0 < ds.length
      · exact c
      · have := trimmed_zero' (us := ds) (by omega); omega
    refine ⟨n && decide (0 < zs.length), zs, ds, 0, fun a ca b cb => by unfold rtoldV; rw [if_neg h]; rfl, by simp, by simp, ⟨wz, wd, fun h => absurd rfl h, fun _ h' => absurd (hl.1 h') h, fun _ _ => ⟨rfl, rchk_good (by omega) (by omega) tz td hd0 ?_ hg, ?_⟩⟩⟩
    · by_cases c : 0 < zs.length
      · exact .inr c
      · left; simp [c]
    · unfold rq
      congr 1
      by_cases c : 0 < zs.length
      · simp [c, wval, sg]
      · rw [List.eq_nil_of_length_eq_zero (show zs.length = 0 by omega)]
        cases n <;> simp [wval, sg, val, valTo]

theorem ret_val {a b : Value} (h : a = b) : Ending.returned a = .returned b := by rw [h]

set_option maxHeartbeats 1600000 in
set_option maxRecDepth 100000 in
theorem rtold_any (n : Bool) (a : Option Addr) (k c : Nat) (b : Option Addr) (l d : Nat) (w : World) :
    Calls Tryz.prog 44 #[.bool n, .slice a k c, .slice b l d] w fun x w' => x = .returned (rtoldV n a k c b l d) ∧ Below w.heap.size w w' := by
  obtain ⟨M, hM⟩ : ∃ M, max k l = M := ⟨_, rfl⟩
  obtain ⟨s, hs⟩ : ∃ s, (n && decide (0 < k)) = s := ⟨_, rfl⟩
  have HT : Hid (rtoldV n a k c b l d = if 2048 < M then .tuple #[.agg #[.bool false, .slice none 0 0, .slice none 0 0], .int .i64 3] else .tuple #[.agg #[.bool s, .slice a k c, .slice b l d], .int .i64 0]) := by show _ = _; unfold rtoldV; rw [hM, hs]
  have HB : Hid (Below w.heap.size w ((w.alloc (.cells #[.bool false, .slice none 0 0, .slice none 0 0] 24)).alloc (.cells #[.bool s, .slice a k c, .slice b l d] 24))) := bt (alloc_later _ _) (alloc_later _ _)
  have HW := hid (rwords_any s a k c b l d ((w.alloc (.cells #[.bool false, .slice none 0 0, .slice none 0 0] 24)).alloc (.cells #[.bool s, .slice a k c, .slice b l d] 24)))
  rw [hM] at HW
  clear hM
  have HZ : Hid (Box ((w.alloc (.cells #[.bool false, .slice none 0 0, .slice none 0 0] 24)).alloc (.cells #[.bool s, .slice a k c, .slice b l d] 24)) w.heap.size 24 #[.bool false, .slice none 0 0, .slice none 0 0]) := Box.later (Box.made w _ _) (alloc_later _ _) (by simp)
  have HS : Hid (Box ((w.alloc (.cells #[.bool false, .slice none 0 0, .slice none 0 0] 24)).alloc (.cells #[.bool s, .slice a k c, .slice b l d] 24)) (w.heap.size + 1) 24 #[.bool s, .slice a k c, .slice b l d]) := by
    have e := Box.made (w.alloc (.cells #[.bool false, .slice none 0 0, .slice none 0 0] 24)) 24 #[.bool s, .slice a k c, .slice b l d]
    simp at e
    exact e
  by_cases hm : 2048 < M
  · have hm' : (2048 : Int) < (M : Int) := by omega
    rw [if_pos hm] at HT
    clear hm
    cases n with
    | false =>
      obtain rfl : s = false := by rw [← hs]; rfl
      clear hs
      go_enter Tryz.func44, Tryz.ntmps44
      go_wp2_with fail
      refine Calls.mono HW.out ?_
      rintro e w1 ⟨rfl, hb1⟩
      obtain ⟨r0, r1, r2, f0, f1, f2⟩ := res_box3 HZ.out hb1
      obtain ⟨c0, c1, c2, _, _, _⟩ := res_box3 HS.out hb1
      have hbA := bt HB.out hb1
      clear hb1
      go_wp2_with fail
      refine bodyPost_ret (v := .tuple #[.agg #[.bool false, .slice none 0 0, .slice none 0 0], .int .i64 3]) (by simp [results, Tryz.results44, go_sem, r0, r1, r2]) rfl ?_
      exact ⟨ret_val HT.out.symm, below_put3 hbA _ (Nat.le_refl _) _ _ _⟩
    | true =>
      obtain rfl : s = decide (0 < k) := by rw [← hs]; rfl
      clear hs
      go_enter Tryz.func44, Tryz.ntmps44
      go_wp2_with fail
      refine Calls.mono HW.out ?_
      rintro e w1 ⟨rfl, hb1⟩
      obtain ⟨r0, r1, r2, f0, f1, f2⟩ := res_box3 HZ.out hb1
      obtain ⟨c0, c1, c2, _, _, _⟩ := res_box3 HS.out hb1
      have hbA := bt HB.out hb1
      clear hb1
      go_wp2_with fail
      refine bodyPost_ret (v := .tuple #[.agg #[.bool false, .slice none 0 0, .slice none 0 0], .int .i64 3]) (by simp [results, Tryz.results44, go_sem, r0, r1, r2]) rfl ?_
      exact ⟨ret_val HT.out.symm, below_put3 hbA _ (Nat.le_refl _) _ _ _⟩
  · have hm' : ¬ (2048 : Int) < (M : Int) := by omega
    rw [if_neg hm] at HT
    clear hm
    cases n with
    | false =>
      obtain rfl : s = false := by rw [← hs]; rfl
      clear hs
      go_enter Tryz.func44, Tryz.ntmps44
      go_wp2_with fail
      refine Calls.mono HW.out ?_
      rintro e w1 ⟨rfl, hb1⟩
      obtain ⟨r0, r1, r2, f0, f1, f2⟩ := res_box3 HZ.out hb1
      obtain ⟨c0, c1, c2, _, _, _⟩ := res_box3 HS.out hb1
      have hbA := bt HB.out hb1
      clear hb1
      go_wp2_with fail
      refine bodyPost_ret (v := .tuple #[.agg #[.bool false, .slice a k c, .slice b l d], .int .i64 0]) (by simp [results, Tryz.results44, go_sem, r0, r1, r2]) rfl ?_
      exact ⟨ret_val HT.out.symm, below_put3 hbA _ (Nat.le_refl _) _ _ _⟩
    | true =>
      obtain rfl : s = decide (0 < k) := by rw [← hs]; rfl
      clear hs
      go_enter Tryz.func44, Tryz.ntmps44
      go_wp2_with fail
      refine Calls.mono HW.out ?_
      rintro e w1 ⟨rfl, hb1⟩
      obtain ⟨r0, r1, r2, f0, f1, f2⟩ := res_box3 HZ.out hb1
      obtain ⟨c0, c1, c2, _, _, _⟩ := res_box3 HS.out hb1
      have hbA := bt HB.out hb1
      clear hb1
      go_wp2_with fail
      refine bodyPost_ret (v := .tuple #[.agg #[.bool (decide (0 < k)), .slice a k c, .slice b l d], .int .i64 0]) (by simp [results, Tryz.results44, go_sem, r0, r1, r2]) rfl ?_
      exact ⟨ret_val HT.out.symm, below_put3 hbA _ (Nat.le_refl _) _ _ _⟩
end Go.Proofs.YtfppimlmebnaeaaGreatDoor

/- Fractions: ratio.sum, difference, product, quotient, commonDivisor, signedSum: of numbers that are short enough. -/
namespace Go.Proofs.YtfppimlmebnaeaaGreatDoor
open Go.RowKit
set_option linter.unusedVariables false

theorem sum_wide {xs ys : List Int} (wx : Wd xs) (wy : Wd ys) (lx : xs.length ≤ 8191) (ly : ys.length ≤ 8191) : val xs + val ys < wide := by
  have a1 : val xs < 4294967296 ^ 8191 := Int.lt_of_lt_of_le (val_lt wx) (pw_le lx)
  have a2 : val ys < 4294967296 ^ 8191 := Int.lt_of_lt_of_le (val_lt wy) (pw_le ly)
  have e : wide = 4294967296 ^ 8191 * 4294967296 := pw_succ 8191
  rw [e]
  generalize (4294967296 : Int) ^ 8191 = P at *
  have := val_nonneg wx
  have := val_nonneg wy
  omega
theorem prod_lt {xs ys : List Int} (wx : Wd xs) (wy : Wd ys) : val xs * val ys < 4294967296 ^ (xs.length + ys.length) := by
  have a1 := val_lt wx
  have a2 := val_lt wy
  rw [Int.pow_add]
  have n1 := val_nonneg wx
  have n2 := val_nonneg wy
  have p2 := pw_pos ys.length
  have p1 := pw_pos xs.length
  generalize (4294967296 : Int) ^ xs.length = P at *
  generalize (4294967296 : Int) ^ ys.length = Q at *
  have e1 : val xs * val ys ≤ val xs * Q := Int.mul_le_mul_of_nonneg_left (by omega) n1
  have e2 : val xs * Q < P * Q := Int.mul_lt_mul_of_pos_right a1 p2
  omega
theorem prod_wide {xs ys : List Int} (wx : Wd xs) (wy : Wd ys) (hl : xs.length + ys.length ≤ 8192) : val xs * val ys < wide := Int.lt_of_lt_of_le (prod_lt wx wy) (pw_le hl)

set_option maxHeartbeats 800000 in
set_option maxRecDepth 100000 in
theorem rsum_any (v u : Value) (xs ys : List Int) (w : World) (h : Sl w v xs) (g : Sl w u ys) (lx : xs.length ≤ 8191) (ly : ys.length ≤ 8191) (tx : Trimmed xs) (ty : Trimmed ys) :
    Calls Tryz.prog 71 #[v, u] w (Told1 w (val xs + val ys)) := by
  have HT := hid (sum_wide h.wd g.wd lx ly)
  have HH := hid (add_sl v u xs ys w h g (by omega) (by omega))
  rw [both_good (chk_good (by omega) tx) (chk_good (by omega) ty)] at HH
  obtain ⟨a, cap, rfl, hr⟩ := h
  obtain ⟨b, cap', rfl, gr⟩ := g
  clear hr gr
  go_enter Tryz.func71, Tryz.ntmps71
  go_wp2_with fail
  refine Calls.mono HH.out ?_
  rintro e w1 ⟨v1, zs, code, rfl, o1, t1, hb1⟩
  obtain ⟨rfl, hv1⟩ := t1.good rfl HT.out
  obtain ⟨a1, c1, hs1⟩ := own_slice' o1
  subst hs1
  have HE := hid (And.intro o1 (And.intro t1.wd (And.intro t1.trim (And.intro hv1 hb1))))
  clear o1 t1 hv1 hb1 HH
  go_wp2_with fail
  go_ret
  exact ⟨_, zs, rfl, HE.out.1, HE.out.2.1, HE.out.2.2.1, HE.out.2.2.2.1, HE.out.2.2.2.2⟩

set_option maxHeartbeats 800000 in
set_option maxRecDepth 100000 in
theorem rdiff_any (v u : Value) (xs ys : List Int) (w : World) (h : Sl w v xs) (g : Sl w u ys) (lx : xs.length ≤ 8192) (ly : ys.length ≤ 8192) (tx : Trimmed xs) (ty : Trimmed ys) (hle : val ys ≤ val xs) :
    Calls Tryz.prog 73 #[v, u] w (Told1 w (val xs - val ys)) := by
  have HT : Hid (val xs - val ys < wide) := by
    have a1 : val xs < wide := Int.lt_of_lt_of_le (val_lt h.wd) (pw_le lx)
    have a2 := val_nonneg g.wd
    show _ < _
    omega
  have HH := hid (sub_sl v u xs ys w h g (by omega) (by omega))
  rw [both_good (chk_good (by omega) tx) (chk_good (by omega) ty), if_pos rfl, if_neg (by omega)] at HH
  obtain ⟨a, cap, rfl, hr⟩ := h
  obtain ⟨b, cap', rfl, gr⟩ := g
  clear hr gr
  go_enter Tryz.func73, Tryz.ntmps73
  go_wp2_with fail
  refine Calls.mono HH.out ?_
  rintro e w1 ⟨v1, zs, code, rfl, o1, t1, hb1⟩
  obtain ⟨rfl, hv1⟩ := t1.good rfl HT.out
  obtain ⟨a1, c1, hs1⟩ := own_slice' o1
  subst hs1
  have HE := hid (And.intro o1 (And.intro t1.wd (And.intro t1.trim (And.intro hv1 hb1))))
  clear o1 t1 hv1 hb1 HH
  go_wp2_with fail
  go_ret
  exact ⟨_, zs, rfl, HE.out.1, HE.out.2.1, HE.out.2.2.1, HE.out.2.2.2.1, HE.out.2.2.2.2⟩

set_option maxHeartbeats 800000 in
set_option maxRecDepth 100000 in
theorem rprod_any (v u : Value) (xs ys : List Int) (w : World) (h : Sl w v xs) (g : Sl w u ys) (hl : xs.length + ys.length ≤ 8192) (tx : Trimmed xs) (ty : Trimmed ys) :
    Calls Tryz.prog 42 #[v, u] w (Told1 w (val xs * val ys)) := by
  have HT := hid (prod_wide h.wd g.wd hl)
  have HH := hid (mul_sl v u xs ys w h g (by omega) (by omega))
  rw [both_good (chk_good (by omega) tx) (chk_good (by omega) ty)] at HH
  obtain ⟨a, cap, rfl, hr⟩ := h
  obtain ⟨b, cap', rfl, gr⟩ := g
  clear hr gr
  go_enter Tryz.func42, Tryz.ntmps42
  go_wp2_with fail
  refine Calls.mono HH.out ?_
  rintro e w1 ⟨v1, zs, code, rfl, o1, t1, hb1⟩
  obtain ⟨rfl, hv1⟩ := t1.good rfl HT.out
  obtain ⟨a1, c1, hs1⟩ := own_slice' o1
  subst hs1
  have HE := hid (And.intro o1 (And.intro t1.wd (And.intro t1.trim (And.intro hv1 hb1))))
  clear o1 t1 hv1 hb1 HH
  go_wp2_with fail
  go_ret
  exact ⟨_, zs, rfl, HE.out.1, HE.out.2.1, HE.out.2.2.1, HE.out.2.2.2.1, HE.out.2.2.2.2⟩

set_option maxHeartbeats 800000 in
set_option maxRecDepth 100000 in
theorem rcommon_any (v u : Value) (xs ys : List Int) (w : World) (h : Sl w v xs) (g : Sl w u ys) (lx : xs.length ≤ 8192) (ly : ys.length ≤ 8192) (tx : Trimmed xs) (ty : Trimmed ys) :
    Calls Tryz.prog 41 #[v, u] w (Told1 w (gcdI (val xs) (val ys))) := by
  have hz := both_good (chk_good lx tx) (chk_good ly ty)
  have HT := hid (gcd_wide h.wd g.wd hz)
  have HH := hid (gcd_sl v u xs ys w h g (by omega) (by omega))
  rw [hz] at HH
  clear hz
  obtain ⟨a, cap, rfl, hr⟩ := h
  obtain ⟨b, cap', rfl, gr⟩ := g
  clear hr gr
  go_enter Tryz.func41, Tryz.ntmps41
  go_wp2_with fail
  refine Calls.mono HH.out ?_
  rintro e w1 ⟨v1, zs, code, rfl, o1, t1, hb1⟩
  obtain ⟨rfl, hv1⟩ := t1.good rfl HT.out
  obtain ⟨a1, c1, hs1⟩ := own_slice' o1
  subst hs1
  have HE := hid (And.intro o1 (And.intro t1.wd (And.intro t1.trim (And.intro hv1 hb1))))
  clear o1 t1 hv1 hb1 HH
  go_wp2_with fail
  go_ret
  exact ⟨_, zs, rfl, HE.out.1, HE.out.2.1, HE.out.2.2.1, HE.out.2.2.2.1, HE.out.2.2.2.2⟩

set_option maxHeartbeats 800000 in
set_option maxRecDepth 100000 in
theorem rquot_any (v u : Value) (xs ys : List Int) (w : World) (h : Sl w v xs) (g : Sl w u ys) (lx : xs.length ≤ 8192) (ly : ys.length ≤ 8192) (tx : Trimmed xs) (ty : Trimmed ys) (h0 : 0 < ys.length) :
    Calls Tryz.prog 43 #[v, u] w (Told1 w (val xs / val ys)) := by
  have HH := hid (divMod_own v u xs ys w h g lx ly tx ty h0)
  obtain ⟨a, cap, rfl, hr⟩ := h
  obtain ⟨b, cap', rfl, gr⟩ := g
  clear hr gr
  go_enter Tryz.func43, Tryz.ntmps43
  go_wp2_with fail
  refine Calls.mono HH.out ?_
  rintro e w1 ⟨v1, v2, q, r, rfl, o1, o2, wq, wr, tq, tr, hq, hr, hb1⟩
  have hv : val q = val xs / val ys := by
    have r0 := val_nonneg wr
    rw [hq, Int.add_comm, Int.add_mul_ediv_right _ _ (by omega), Int.ediv_eq_zero_of_lt r0 hr]
    omega
  obtain ⟨a1, c1, hs1⟩ := own_slice' o1
  subst hs1
  obtain ⟨a2, c2, hs2⟩ := own_slice' o2
  subst hs2
  have HE := hid (And.intro o1 (And.intro wq (And.intro tq (And.intro hv hb1))))
  clear o1 o2 wq wr tq tr hq hr hb1 hv HH
  go_wp2_with fail
  go_ret
  exact ⟨_, q, rfl, HE.out.1, HE.out.2.1, HE.out.2.2.1, HE.out.2.2.2.1, HE.out.2.2.2.2⟩
end Go.Proofs.YtfppimlmebnaeaaGreatDoor

