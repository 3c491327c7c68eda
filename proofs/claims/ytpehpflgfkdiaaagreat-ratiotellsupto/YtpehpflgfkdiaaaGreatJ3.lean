/- My texts on the way to RatioTells, one behind the other: contracts of the program and of the document's answers. -/
import Derived.Test.YtpehpflgfkdiaaaGreatJ2
import Derived.Deep.LoopGhost
import Derived.Deep.RegionHeld3
/- The document's own division by one word and its shifts: slackwaterref01.small, Up, Down: of every list that can be read. -/
namespace Go.Proofs.YtpehpflgfkdiaaaGreat
open Go.RowKit
set_option linter.unusedVariables false

set_option maxHeartbeats 3200000 in
set_option maxRecDepth 100000 in
theorem refSmall_any (a : Option Addr) (n cap : Nat) (xs : List Int) (x : Int) (w : World) (h : Reads w w.heap.size a n cap xs) (hn : n ≤ 549755813888) (hx : 1 ≤ x ∧ x ≤ 4294967295) :
    Calls Tryz.prog 92 #[.slice a n cap, .int .u32 x] w fun e w' => ∃ v zs r, e = .returned (.tuple #[v, .int .u32 r]) ∧ w'.ownsRow w.heap.size 60 1 v zs.length (zs.map (Value.int .u32)) ∧ Wd zs ∧ Trimmed zs ∧ val xs = val zs * x + r ∧ 0 ≤ r ∧ r < x ∧ Below w.heap.size w w' := by
  obtain ⟨i0, hi, hz0, hz1, hz2⟩ := info_parts Tryz.infoW
  have hx1 := hx.1
  have hx2 := hx.2
  have WX := hid h.2.1
  have HL := hid h.1
  have HCX := hid h.cells
  have hcap := h.2.2.2.1
  clear h hx
  go_enter Tryz.func92, Tryz.ntmps92
  go_wp2_with (at_make; refine wpList_make_full _ rfl _ _ 22 rfl w.heap.size 60 i0 (.int .u32 0) 1 Tryz.underlying22 hi hz0 hz1 _ _ _ _ n rfl rfl (by omega) (by omega) (by rw [hz2]; omega) (by unfold maxLen; omega) (Nat.le_refl _) ?_)
  intro w1 hown hgrow
  have hbel : Below w.heap.size w w1 := (Below.refl _ _).grown hgrow (Nat.le_refl _) (fun k hk => by simp at hk)
  have HO := hid (OwnW.made hown)
  clear hown hgrow
  go_wp2_with fail
  go_loopw [7, 8] (fun c t wr => ∃ (k : Nat) (r : Int) (us : List Int), k ≤ n ∧ t = .int .i64 ((k : Int) - 1) ∧ c = .int .u64 r ∧ 0 ≤ r ∧ r < x ∧ Wd us ∧ Hid (segTo xs k (n - k) = segTo us k (n - k) * x + r) ∧ OwnW wr w.heap.size w.heap.size n us ∧ Below w.heap.size w wr) (fun _ t _ => (intOf t + 1).toNat)
  case atStart => exact ⟨n, 0, _, by omega, rfl, rfl, by omega, by omega, Wd.replicate _, show _ = _ by rw [Nat.sub_self]; simp [segTo], HO.out, hbel⟩
  case round =>
    obtain ⟨k, r, us, hk, rfl, rfl, r0, r1, hwu, HV, ho, hb⟩ := hrel
    rcases k with _ | k
    · have hlu := ho.len
      have HF : Hid (val xs = val us * x + r) := by
        show _ = _
        have e := HV.out
        rw [segTo_zero, segTo_zero, valTo_stable xs _ (by have := HL.out; omega), valTo_stable us _ (by omega)] at e
        exact e
      have HR := hid (refTrim_sl (.slice (some ⟨w.heap.size, 0, none⟩) us.length us.length) us wr (Sl.own (owns_len (show wr.ownsRow w.heap.size 60 1 (.slice (some ⟨w.heap.size, 0, none⟩) us.length us.length) us.length (us.map (Value.int .u32)) by rw [hlu]; exact ho)) hwu) (by omega))
      rw [hlu] at HR
      clear ho HV
      go_wp2_with fail
      refine Calls.mono HR.out ?_
      rintro e w3 ⟨v3, rfl, o3, hb3⟩
      have HO3 := hid (owns_base (owns_len o3) hb.size)
      have hbF := bt hb hb3
      clear o3 hb3
      go_wp2_with fail
      go_ret2
      exact ⟨v3, _, r, rfl, HO3.out, hwu.trimmed, Trimmed.trimmed _, by rw [val_trimmed]; exact HF.out, r0, r1, hbF⟩
    · have ek : (((k + 1 : Nat) : Int) - 1) = (k : Int) := by omega
      rw [ek]
      clear ek
      obtain ⟨b1, o1, rfl, l1, cx⟩ := HCX.out k (by omega)
      have x1 : wr.cell? ⟨b1, o1 + k, none⟩ = some (.int .u32 (xs[k]?.getD 0)) := (hb.cell (p := ⟨b1, o1 + k, none⟩) l1).trans cx
      have y1 := ho.cell k (by omega)
      have f1 := ho.free k
      have bu := WX.out.at k
      have hlu := ho.len
      obtain ⟨t, ht⟩ : ∃ t, t = xs[k]?.getD 0 + r * 4294967296 := ⟨_, rfl⟩
      obtain ⟨t0, q0, q1, m0, m1⟩ := div_word x r (xs[k]?.getD 0) t hx1 r0 r1 bu ht
      have t2 : t ≤ 18446744073709551615 := by omega
      have HV' := hid (div_step xs us n k x r t (by omega) hlu.symm ht HV.out)
      have HO' := hid (ho.set k (t / x))
      have HB' := hid (hb.setCell (p := ⟨w.heap.size, k, none⟩) (Nat.le_refl _) (.int .u32 (t / x)))
      have hT : r * 4294967296 + xs[k]?.getD 0 = t := by omega
      have hxz : ¬ x = 0 := by omega
      clear hlu ho hb HV ht cx
      go_wp2_with fail
      go_roundw
      case rel => exact ⟨k, t % x, us.set k (t / x), by omega, rfl, rfl, m0, m1, hwu.set k ⟨q0, q1⟩, HV', HO'.out, HB'.out⟩
      case measure => simp [intOf]

/-- A word moved up lays a multiple of the power into its place, and less than the power into the next one. -/
theorem up_word (x : Int) (t : Nat) (ht : t ≤ 31) (x0 : 0 ≤ x) (x1 : x ≤ 4294967295) : x * 2 ^ t % 4294967296 ≤ 4294967296 - 2 ^ t ∧ 0 ≤ x * 2 ^ t / 4294967296 ∧ x * 2 ^ t / 4294967296 < 2 ^ t := by
  have hp := two_pos t
  have hs := two_split t (by omega)
  have hr := two_pos (32 - t)
  refine ⟨?_, Int.ediv_nonneg (Int.mul_nonneg x0 (by omega)) (by omega), Int.ediv_lt_of_lt_mul (by omega) ?_⟩
  · have e : x * 2 ^ t % 4294967296 = x % 2 ^ (32 - t) * 2 ^ t := by
      rw [hs, Int.mul_comm x, Int.mul_emod_mul_of_pos _ _ hp, Int.mul_comm]
    rw [e]
    have h1 := Int.emod_lt_of_pos x hr
    have h2 : (x % 2 ^ (32 - t) + 1) * 2 ^ t ≤ 2 ^ (32 - t) * 2 ^ t := Int.mul_le_mul_of_nonneg_right (by omega) (by omega)
    rw [Int.mul_comm (2 ^ (32 - t)), ← hs] at h2
    rw [Int.add_mul] at h2
    omega
  · have h2 : x * 2 ^ t < 4294967296 * 2 ^ t := Int.mul_lt_mul_of_pos_right (by omega) hp
    rw [Int.mul_comm (2 ^ t)]
    exact h2
theorem up_step (xs us : List Int) (W k : Nat) (Q c lo hi p : Int) (hk : W + k + 1 < us.length) (hc : us[W + k]?.getD 0 = c) (hp : xs[k]?.getD 0 * Q = p) (hl : p = lo + hi * 4294967296) (h : segTo us W (k + 1) = valTo xs k * Q) :
    segTo ((us.set (W + k) (c + lo)).set (W + k + 1) hi) W (k + 1 + 1) = valTo xs (k + 1) * Q := by
  rw [show W + k + 1 = W + (k + 1) by omega, segTo_set _ W (k + 1) hi (by rw [List.length_set]; omega), segTo_set us W k _ (by omega), valTo_succ, pw_succ]
  rw [segTo_succ, hc] at h
  generalize (4294967296 : Int) ^ k = P at *
  generalize segTo us W k = S at *
  generalize valTo xs k = V at *
  generalize xs[k]?.getD 0 = X at *
  grind

set_option maxHeartbeats 3200000 in
set_option maxRecDepth 100000 in
theorem refUp_any (a : Option Addr) (n cap : Nat) (xs : List Int) (W t : Nat) (M : Int) (w : World) (h : Reads w w.heap.size a n cap xs) (hn : n ≤ 274877906944) (hn0 : 0 < n) (hW : W ≤ 274877906944) (ht : t ≤ 31) (hM : M = 32 * W + t) :
    Calls Tryz.prog 95 #[.slice a n cap, .int .i64 M] w (Ref1 w (val xs * 2 ^ t * 4294967296 ^ W)) := by
  obtain ⟨i0, hi, hz0, hz1, hz2⟩ := info_parts Tryz.infoW
  have WX := hid h.2.1
  have HL := hid h.1
  have HCX := hid h.cells
  have hcap := h.2.2.2.1
  have hq : M / 32 = (W : Int) := by omega
  have hr : M % 32 = (t : Int) := by omega
  have hM0 : 0 ≤ M := by omega
  have hM1 : M ≤ 9000000000000 := by omega
  have hnz : ((n : Int) == 0) = false := by simp; omega
  clear h hM
  go_enter Tryz.func95, Tryz.ntmps95
  go_wp2_with (at_make; refine wpList_make_full _ rfl _ _ 22 rfl w.heap.size 60 i0 (.int .u32 0) 1 Tryz.underlying22 hi hz0 hz1 _ _ _ _ (n + W + 1) rfl rfl (by omega) (by omega) (by rw [hz2]; omega) (by unfold maxLen; omega) (Nat.le_refl _) ?_)
  intro w1 hown hgrow
  have hbel : Below w.heap.size w w1 := (Below.refl _ _).grown hgrow (Nat.le_refl _) (fun k hk => by simp at hk)
  have HO := hid (OwnW.made hown)
  clear hown hgrow
  go_wp2_with fail
  go_loopw [6] (fun z wr => ∃ (k : Nat) (us : List Int), k ≤ n ∧ z = .int .i64 k ∧ Wd us ∧ Hid (us[W + k]?.getD 0 < 2 ^ t) ∧ Hid (segTo us W (k + 1) = valTo xs k * 2 ^ t) ∧ Hid (∀ j, j < W ∨ W + k + 1 ≤ j → us[j]?.getD 0 = 0) ∧ OwnW wr w.heap.size w.heap.size (n + W + 1) us ∧ Below w.heap.size w wr) (fun z _ => n - (intOf z).toNat)
  case atStart =>
    refine ⟨0, _, by omega, rfl, Wd.replicate _, ?_, ?_, fun j _ => replicate_zero _ j, HO.out, hbel⟩
    · show _ < _
      rw [replicate_zero]; exact two_pos t
    · show _ = _
      rw [segTo_succ, Nat.add_zero, replicate_zero]; simp [segTo, valTo]
  case round =>
    obtain ⟨k, us, hk, rfl, hwu, HC, HV, HK, ho, hb⟩ := hrel
    by_cases hlt : k < n
    · obtain ⟨b1, o1, rfl, l1, cx⟩ := HCX.out k (by omega)
      have x1 : wr.cell? ⟨b1, o1 + k, none⟩ = some (.int .u32 (xs[k]?.getD 0)) := (hb.cell (p := ⟨b1, o1 + k, none⟩) l1).trans cx
      have y1 := ho.cell (W + k) (by omega)
      have f1 := ho.free (W + k)
      have bx := WX.out.at k
      have hlu := ho.len
      have bc := hwu.at (W + k)
      obtain ⟨u1, u2, u3⟩ := up_word _ t ht bx.1 bx.2
      obtain ⟨q0, q1, q2, q3⟩ := shl_word _ t ht bx.1 bx.2
      have c1 := HC.out
      have HST := hid (fun c lo hi p => up_step xs us W k (2 ^ t) c lo hi p (by omega))
      have HOB : Hid (∀ A B, OwnW ((wr.setCell ⟨w.heap.size, W + k, none⟩ (.int .u32 A)).setCell ⟨w.heap.size, W + k + 1, none⟩ (.int .u32 B)) w.heap.size w.heap.size (n + W + 1) ((us.set (W + k) A).set (W + k + 1) B) ∧ Below w.heap.size w ((wr.setCell ⟨w.heap.size, W + k, none⟩ (.int .u32 A)).setCell ⟨w.heap.size, W + k + 1, none⟩ (.int .u32 B))) := fun A B =>
        ⟨(ho.set (W + k) A).set (W + k + 1) B, (hb.setCell (p := ⟨w.heap.size, W + k, none⟩) (Nat.le_refl _) _).setCell (p := ⟨w.heap.size, W + k + 1, none⟩) (Nat.le_refl _) _⟩
      have HF2 : Hid (∀ A, (wr.setCell ⟨w.heap.size, W + k, none⟩ (.int .u32 A)).cell? ⟨w.heap.size, W + k + 1, none⟩ = some (.int .u32 ((us.set (W + k) A)[W + k + 1]?.getD 0)) ∧ (wr.setCell ⟨w.heap.size, W + k, none⟩ (.int .u32 A)).frozen? ⟨w.heap.size, W + k + 1, none⟩ = false) := fun A => ⟨(ho.set (W + k) A).cell (W + k + 1) (by omega), (ho.set (W + k) A).free _⟩
      obtain ⟨X, hX⟩ : ∃ X, xs[k]?.getD 0 = X := ⟨_, rfl⟩
      obtain ⟨c, hc⟩ : ∃ c, us[W + k]?.getD 0 = c := ⟨_, rfl⟩
      rw [hX] at x1 bx HST u1 u2 u3 q0 q1
      rw [hc] at y1 c1 bc HST
      obtain ⟨p, hp⟩ : ∃ p, X * 2 ^ t = p := ⟨_, rfl⟩
      rw [hp] at u1 u2 u3 q0 q1
      obtain ⟨lo, hlo⟩ : ∃ lo, p % 4294967296 = lo := ⟨_, rfl⟩
      obtain ⟨hi', hhi⟩ : ∃ hi', p / 4294967296 = hi' := ⟨_, rfl⟩
      have hpl : p = lo + hi' * 4294967296 := by omega
      have HSV := hid (HST.out c lo hi' p rfl hp hpl HV.out)
      have HOB2 := hid (HOB.out (c + lo) hi')
      obtain ⟨g1, g2⟩ := HF2.out (c + lo)
      have lo0 : 0 ≤ lo := by omega
      rw [hlo] at u1
      rw [hhi] at u2 u3
      have hcl : c + lo ≤ 4294967295 := by omega
      have hi1 : hi' ≤ 4294967295 := by omega
      have HU3 := hid u3
      have p1 : p ≤ 18446744073709551615 := by omega
      have hkW : ((k : Int) + (W : Int)) = ((W + k : Nat) : Int) := by omega
      have hkW1 : (((W + k : Nat) : Int) + 1) = ((W + k + 1 : Nat) : Int) := by omega
      have HKN : Hid (∀ j, j < W ∨ W + (k + 1) + 1 ≤ j → ((us.set (W + k) (c + lo)).set (W + k + 1) hi')[j]?.getD 0 = 0) := fun j hj => by
        rw [List.getElem?_set, if_neg (by omega), List.getElem?_set, if_neg (by omega)]
        exact HK.out j (by omega)
      have HCN : Hid (((us.set (W + k) (c + lo)).set (W + k + 1) hi')[W + (k + 1)]?.getD 0 < 2 ^ t) := by
        show _ < _
        rw [show W + (k + 1) = W + k + 1 by omega, List.getElem?_set, if_pos rfl, if_pos (by rw [List.length_set]; omega)]
        exact HU3.out
      have HWN := hid ((hwu.set (W + k) (show 0 ≤ c + lo ∧ c + lo ≤ 4294967295 by omega)).set (W + k + 1) (show 0 ≤ hi' ∧ hi' ≤ 4294967295 by omega))
      clear hlu ho hb HV HK HC cx hX hc hpl u1 u3 q1 q2 q3 c1 HST HOB HF2
      go_wp2_with fail
      go_roundw
      case rel => exact ⟨k + 1, _, by omega, by go_num, HWN.out, HCN, HSV, HKN, HOB2.out.1, HOB2.out.2⟩
      case measure => simp [intOf]; omega
    · obtain rfl : k = n := by omega
      have hlu := ho.len
      have HF : Hid (val us = val xs * 2 ^ t * 4294967296 ^ W) := by
        show _ = _
        rw [← valTo_stable us (W + (k + 1)) (by omega), valTo_seg us W (k + 1), HV.out, valTo_stable xs k (by have := HL.out; omega), valTo_congr us [] W (fun j hj => by rw [HK.out j (.inl hj)]; rfl), valTo_stable [] _ (by simp), val_nil]
        omega
      have HR := hid (refTrim_sl (.slice (some ⟨w.heap.size, 0, none⟩) us.length us.length) us wr (Sl.own (owns_len (show wr.ownsRow w.heap.size 60 1 (.slice (some ⟨w.heap.size, 0, none⟩) us.length us.length) us.length (us.map (Value.int .u32)) by rw [hlu]; exact ho)) hwu) (by omega))
      rw [hlu] at HR
      clear ho HV HK HC
      go_wp2_with fail
      refine Calls.mono HR.out ?_
      rintro e w3 ⟨v3, rfl, o3, hb3⟩
      have HO3 := hid (owns_base (owns_len o3) hb.size)
      have hbF := bt hb hb3
      clear o3 hb3
      go_wp2_with fail
      go_ret
      exact ⟨v3, _, rfl, HO3.out, hwu.trimmed, Trimmed.trimmed _, by rw [val_trimmed]; exact HF.out, hbF⟩
end Go.Proofs.YtpehpflgfkdiaaaGreat

/- The document's own shift down: slackwaterref01.Down: of every list that can be read. -/
namespace Go.Proofs.YtpehpflgfkdiaaaGreat
open Go.RowKit
set_option linter.unusedVariables false

theorem Reads.behind {w : World} {B : Nat} {b o n cap : Nat} {zs : List Int} (h : Reads w B (some ⟨b, o, none⟩) n cap zs) (W : Nat) (hW : W < n) : Reads w B (some ⟨b, o + W, none⟩) (n - W) (cap - W) (zs.drop W) := by
  obtain ⟨h1, h2, h3, h4, h5, h6⟩ := h
  refine ⟨by rw [List.length_drop]; omega, h2.drop W, ?_, by omega, by omega, fun e => by simp at e⟩
  rcases h3 with h3 | ⟨b', o', ha, hlt, hc⟩
  · omega
  · right
    simp only [Option.some.injEq, Addr.mk.injEq] at ha
    obtain ⟨rfl, rfl, _⟩ := ha
    refine ⟨b, o + W, rfl, hlt, fun j hj => ?_⟩
    rw [Nat.add_assoc, hc (W + j) (by omega), List.getElem?_drop]
theorem down_val (xs us : List Int) (W m t : Nat) (wx : Wd xs) (ht : t ≤ 31) (hlen : xs.length = W + m) (hpt : ∀ j, j < m → us[j]?.getD 0 = (xs[W + j]?.getD 0 + xs[W + (j + 1)]?.getD 0 * 4294967296) / 2 ^ t % 4294967296) :
    ∀ d k, k + d = m → segTo us k d = segTo xs (W + k) d / 2 ^ t
  | 0, k, h => by show (0 : Int) = 0 / 2 ^ t; simp
  | d + 1, k, h => by
    have ih := down_val xs us W m t wx ht hlen hpt d (k + 1) (by omega)
    have bx := wx.at (W + k)
    have hw := lower_word (segTo xs (W + (k + 1)) d) (xs[W + k]?.getD 0) (xs[W + (k + 1)]?.getD 0) (2 ^ t) (2 ^ (32 - t)) (segTo_nonneg wx _ _) (by rw [segTo_low wx (W + (k + 1)) d (fun h => by rw [List.getElem?_eq_none (by omega)]; rfl)]) bx.1 bx.2 (two_pos t) (two_split t (by omega))
    rw [segTo_cons, segTo_cons, hpt k (by omega), ih, hw]
    rfl
theorem down_all (xs us : List Int) (W m t : Nat) (wx : Wd xs) (ht : t ≤ 31) (hlen : xs.length = W + m) (hlu : us.length = m) (hpt : ∀ j, j < m → us[j]?.getD 0 = (xs[W + j]?.getD 0 + xs[W + (j + 1)]?.getD 0 * 4294967296) / 2 ^ t % 4294967296) :
    val us = val xs / 4294967296 ^ W / 2 ^ t := by
  have e := down_val xs us W m t wx ht hlen hpt m 0 (by omega)
  rw [segTo_zero, Nat.add_zero, valTo_stable us _ (by omega)] at e
  rw [e, ← valTo_stable xs (W + m) (by omega), valTo_seg xs W m]
  have b := valTo_bounds wx W
  rw [Int.add_mul_ediv_right _ _ (by have := pw_pos W; omega), Int.ediv_eq_zero_of_lt b.1 b.2]
  simp

set_option maxHeartbeats 3200000 in
set_option maxRecDepth 100000 in
theorem refDown_none (a : Option Addr) (n cap : Nat) (W t : Nat) (M : Int) (w : World) (hn : n ≤ 274877906944) (hW : n ≤ W) (hW' : W ≤ 274877906944) (ht : t ≤ 31) (hM : M = 32 * W + t) :
    Calls Tryz.prog 97 #[.slice a n cap, .int .i64 M] w fun e w' => e = .returned (.slice none 0 0) ∧ w = w' := by
  have hq : M / 32 = (W : Int) := by omega
  have hM0 : 0 ≤ M := by omega
  have hM1 : M ≤ 9000000000000 := by omega
  have hle : (n : Int) ≤ (W : Int) := by omega
  clear hM
  go_enter Tryz.func97, Tryz.ntmps97
  go_wp2_with fail
  go_ret
  exact ⟨rfl, rfl⟩

set_option maxHeartbeats 3200000 in
set_option maxRecDepth 100000 in
theorem refDown_any (a : Option Addr) (n cap : Nat) (xs : List Int) (W t : Nat) (M : Int) (w : World) (h : Reads w w.heap.size a n cap xs) (hn : n ≤ 274877906944) (hW : W < n) (ht : t ≤ 31) (hM : M = 32 * W + t) :
    Calls Tryz.prog 97 #[.slice a n cap, .int .i64 M] w (Ref1 w (val xs / 4294967296 ^ W / 2 ^ t)) := by
  obtain ⟨i0, hi, hz0, hz1, hz2⟩ := info_parts Tryz.infoW
  rcases h.2.2.1 with h0 | ⟨b1, o1, rfl, hb1, hc1⟩
  · omega
  obtain ⟨m, hm⟩ : ∃ m, n = W + m := ⟨n - W, by omega⟩
  subst hm
  have WX := hid h.2.1
  have HL := hid h.1
  have HR := h.behind W hW
  have hnm : W + m - W = m := by omega
  rw [hnm] at HR
  have HRB := hid HR
  have HCX := hid hc1
  have hcap := h.2.2.2.1
  have hq : M / 32 = (W : Int) := by omega
  have hr : M % 32 = (t : Int) := by omega
  have hM0 : 0 ≤ M := by omega
  have hM1 : M ≤ 9000000000000 := by omega
  have hlt : ¬ ((W + m : Nat) : Int) ≤ (W : Int) := by omega
  have him : (((W + m : Nat) : Int) - (W : Int)) = (m : Int) := by omega
  have hcz : ¬ cap = W := by omega
  have hm0 : 0 < m := by omega
  clear h hM HR hc1
  go_enter Tryz.func97, Tryz.ntmps97
  go_wp2_with (at_make; refine wpList_make_full _ rfl _ _ 22 rfl w.heap.size 60 i0 (.int .u32 0) 1 Tryz.underlying22 hi hz0 hz1 _ _ _ _ m rfl rfl (by omega) (by omega) (by rw [hz2]; omega) (by unfold maxLen; omega) (Nat.le_refl _) ?_)
  intro w1 hown hgrow
  have hbel : Below w.heap.size w w1 := (Below.refl _ _).grown hgrow (Nat.le_refl _) (fun k hk => by simp at hk)
  have HO := hid (OwnW.made hown)
  clear hown hgrow
  go_wp2_with fail
  go_loopw [7] (fun z wr => ∃ (k : Nat) (us : List Int), k ≤ m ∧ z = .int .i64 k ∧ Wd us ∧ Hid (∀ j, j < k → us[j]?.getD 0 = (xs[W + j]?.getD 0 + xs[W + (j + 1)]?.getD 0 * 4294967296) / 2 ^ t % 4294967296) ∧ OwnW wr w.heap.size w.heap.size m us ∧ Below w.heap.size w wr) (fun z _ => m - (intOf z).toNat)
  case atStart => exact ⟨0, _, by omega, rfl, Wd.replicate _, fun j hj => by omega, HO.out, hbel⟩
  case round =>
    obtain ⟨k, us, hk, rfl, hwu, HV, ho, hb⟩ := hrel
    by_cases hlt2 : k < m
    · have x1 : wr.cell? ⟨b1, o1 + W + k, none⟩ = some (.int .u32 (xs[W + k]?.getD 0)) := by
        have e := (hb.cell (p := ⟨b1, o1 + (W + k), none⟩) hb1).trans (HCX.out (W + k) (by omega))
        rw [Nat.add_assoc]; exact e
      have y1 := ho.cell k (by omega)
      have f1 := ho.free k
      have bx := WX.out.at (W + k)
      have bz := WX.out.at (W + (k + 1))
      have hlu := ho.len
      have HW2 := hid (word_q (k + 1) (HRB.out.later hb (Nat.le_refl _)) (by omega))
      rw [List.getElem?_drop, show ((k + 1 : Nat) : Int) = (k : Int) + 1 by omega] at HW2
      have HOB : Hid (∀ j Z, OwnW ((wr.drewN j).setCell ⟨w.heap.size, k, none⟩ (.int .u32 Z)) w.heap.size w.heap.size m (us.set k Z) ∧ Below w.heap.size w ((wr.drewN j).setCell ⟨w.heap.size, k, none⟩ (.int .u32 Z))) := fun j Z =>
        ⟨OwnW.set (show OwnW (wr.drewN j) _ _ _ _ from ho) k Z, (bdw hb j).setCell (p := ⟨w.heap.size, k, none⟩) (Nat.le_refl _) _⟩
      have HPT : Hid (∀ Z, Z = (xs[W + k]?.getD 0 + xs[W + (k + 1)]?.getD 0 * 4294967296) / 2 ^ t % 4294967296 → ∀ j, j < k + 1 → (us.set k Z)[j]?.getD 0 = (xs[W + j]?.getD 0 + xs[W + (j + 1)]?.getD 0 * 4294967296) / 2 ^ t % 4294967296) := fun Z hZ j hj => by
        rw [List.getElem?_set]
        by_cases e : k = j
        · subst e
          rw [if_pos rfl, if_pos (by omega)]; exact hZ
        · rw [if_neg e]; exact HV.out j (by omega)
      obtain ⟨x, hx⟩ : ∃ x, xs[W + k]?.getD 0 = x := ⟨_, rfl⟩
      obtain ⟨z, hz⟩ : ∃ z, xs[W + (k + 1)]?.getD 0 = z := ⟨_, rfl⟩
      rw [hx] at x1 bx HPT
      rw [hz] at bz HW2 HPT
      obtain ⟨u, hu⟩ : ∃ u, z * 4294967296 + x = u := ⟨_, rfl⟩
      have u0 : 0 ≤ u ∧ u ≤ 18446744073709551615 := by omega
      have hQ := two_pos t
      have q0 : 0 ≤ u / 2 ^ t := Int.ediv_nonneg (by omega) (by omega)
      have q1 : u / 2 ^ t ≤ 18446744073709551615 := by
        have : u / 2 ^ t ≤ u := Int.ediv_le_self _ (by omega)
        omega
      obtain ⟨q, hq'⟩ : ∃ q, u / 2 ^ t = q := ⟨_, rfl⟩
      rw [hq'] at q0 q1
      have HPQ := hid (HPT.out (q % 4294967296) (by rw [← hq', ← hu, Int.add_comm x]))
      clear hlu ho hb HV HPT hx hz hQ
      go_wp2_with fail
      go_quiet ((go_at_call 98; exact Calls.quiet_of_same (HW2.out _)))
      go_wp2_with fail
      go_roundw
      case rel => exact ⟨k + 1, us.set k (q % 4294967296), by omega, by go_num, hwu.set _ (by omega), HPQ, (HOB.out _ _).1, (HOB.out _ _).2⟩
      case measure => simp [intOf]; omega
    · obtain rfl : k = m := by omega
      have hlu := ho.len
      have HF := hid (down_all xs us W k t WX.out ht HL.out hlu HV.out)
      have HR := hid (refTrim_sl (.slice (some ⟨w.heap.size, 0, none⟩) us.length us.length) us wr (Sl.own (owns_len (show wr.ownsRow w.heap.size 60 1 (.slice (some ⟨w.heap.size, 0, none⟩) us.length us.length) us.length (us.map (Value.int .u32)) by rw [hlu]; exact ho)) hwu) (by omega))
      rw [hlu] at HR
      clear ho HV
      go_wp2_with fail
      refine Calls.mono HR.out ?_
      rintro e w3 ⟨v3, rfl, o3, hb3⟩
      have HO3 := hid (owns_base (owns_len o3) hb.size)
      have hbF := bt hb hb3
      clear o3 hb3
      go_wp2_with fail
      go_ret
      exact ⟨v3, _, rfl, HO3.out, hwu.trimmed, Trimmed.trimmed _, by rw [val_trimmed]; exact HF.out, hbF⟩
end Go.Proofs.YtpehpflgfkdiaaaGreat

/- The document's own long division, its parts: slackwaterref01.below, off, digit; its calls at any slice that can be read. -/
namespace Go.Proofs.YtpehpflgfkdiaaaGreat
open Go.RowKit
set_option linter.unusedVariables false

theorem refPlus_sl (v u : Value) (xs ys : List Int) (w : World) (h : Sl w v xs) (g : Sl w u ys) (hn : xs.length ≤ 549755813888) (hm : ys.length ≤ 549755813888) : Calls Tryz.prog 74 #[v, u] w (Ref1 w (val xs + val ys)) := by
  obtain ⟨a, cap, rfl, hr⟩ := h
  obtain ⟨b, cap', rfl, gr⟩ := g
  exact refPlus_any a _ cap xs b _ cap' ys w hr gr hn hm
theorem refLess_sl (v u : Value) (xs ys : List Int) (w : World) (h : Sl w v xs) (g : Sl w u ys) (hn : xs.length ≤ 549755813888) (hm : ys.length ≤ 549755813888) (hle : val ys ≤ val xs) : Calls Tryz.prog 104 #[v, u] w (Ref1 w (val xs - val ys)) := by
  obtain ⟨a, cap, rfl, hr⟩ := h
  obtain ⟨b, cap', rfl, gr⟩ := g
  exact refLess_any a _ cap xs b _ cap' ys w hr gr hn hm hle
theorem refTimes_sl (v u : Value) (xs ys : List Int) (w : World) (h : Sl w v xs) (g : Sl w u ys) (hn : xs.length ≤ 274877906944) (hm : ys.length ≤ 274877906944) : Calls Tryz.prog 85 #[v, u] w (Ref1 w (val xs * val ys)) := by
  obtain ⟨a, cap, rfl, hr⟩ := h
  obtain ⟨b, cap', rfl, gr⟩ := g
  exact refTimes_any a _ cap xs b _ cap' ys w hr gr hn hm
theorem refOf_val (x : Int) (w : World) (h0 : 0 ≤ x) (h1 : x ≤ 18446744073709551615) : Calls Tryz.prog 93 #[.int .u64 x] w (Ref1 w x) := by
  refine Calls.mono (refOf_any x w h0 h1) ?_
  rintro e w' ⟨v, rfl, o, hb⟩
  refine ⟨v, _, rfl, owns_len o, (of_wd x h0 h1).trimmed, Trimmed.trimmed _, ?_, hb⟩
  rw [val_trimmed, val_two]
  omega
theorem Ref1.slice {w w' : World} {t : Int} {x : Ending} (h : Ref1 w t x w') : ∃ a c zs, x = .returned (.slice a zs.length c) ∧ w'.ownsRow w.heap.size 60 1 (.slice a zs.length c) zs.length (zs.map (Value.int .u32)) ∧ Wd zs ∧ Trimmed zs ∧ val zs = t ∧ Below w.heap.size w w' := by
  obtain ⟨v, zs, rfl, o, h1, h2, h3, h4⟩ := h
  obtain ⟨a, c, hs⟩ := own_slice' o
  subst hs
  exact ⟨a, c, zs, rfl, o, h1, h2, h3, h4⟩

set_option maxHeartbeats 1600000 in
set_option maxRecDepth 100000 in
theorem refBelow_any (v u : Value) (rs ds : List Int) (x : Int) (w : World) (h : Sl w v rs) (g : Sl w u ds) (hn : rs.length ≤ 274877906944) (hm : ds.length ≤ 274877906944) (x0 : 0 ≤ x) (x1 : x ≤ 4294967295) :
    Calls Tryz.prog 108 #[v, u, .int .u64 x] w fun e w' => e = .returned (.bool (decide (val rs < val ds * x))) ∧ Below w.heap.size w w' := by
  have HO := hid (refOf_val x w x0 (by omega))
  have HX := hid h
  have HD := hid g
  have HN := hid (And.intro hn hm)
  have HX1 := hid x1
  clear h g hn hm x1
  go_enter Tryz.func108, Tryz.ntmps108
  go_wp2_with fail
  refine Calls.mono HO.out ?_
  intro e w1 h1
  obtain ⟨a1, c1, zs, rfl, o1, wz, tz, vz, hb1⟩ := h1.slice
  have lz : zs.length ≤ 1 := len_of_lt wz tz (by rw [vz]; have := HX1.out; omega)
  have HT := hid (refTimes_sl _ _ ds zs w1 (HD.out.later hb1) (Sl.own o1 wz) HN.out.2 (by omega))
  rw [vz] at HT
  have HB1 := hid hb1
  have lzd : zs.length + ds.length ≤ 274877906945 := by have := HN.out.2; omega
  clear h1 o1 wz tz vz hb1 HO
  go_wp2_with fail
  refine Calls.mono HT.out ?_
  intro e w2 h2
  obtain ⟨a2, c2, ps, rfl, o2, wp, tp, vp, hb2⟩ := h2.slice
  have HB2 := hid (bt HB1.out hb2)
  have lp : ps.length ≤ 281474976710656 := by
    have hl := val_lt HD.out.wd
    have e1 : val ps < 4294967296 ^ (ds.length + 1) := by
      rw [vp, pw_succ]
      have p := pw_pos ds.length
      have d0 := val_nonneg HD.out.wd
      have := HX1.out
      have a1 : val ds * x ≤ val ds * 4294967296 := Int.mul_le_mul_of_nonneg_left (by omega) d0
      have a2 : val ds * 4294967296 < 4294967296 ^ ds.length * 4294967296 := Int.mul_lt_mul_of_pos_right hl (by omega)
      omega
    have := len_of_lt wp tp e1
    have := HN.out
    omega
  have HC := hid (refCompare_sl _ _ rs ps w2 (HX.out.later HB2.out) (Sl.own o2 wp) (by have := HN.out; omega) lp)
  rw [vp] at HC
  clear h2 o2 wp tp vp hb2 HT lp HB1
  by_cases hlt : val rs < val ds * x
  · rw [cmpI_lt hlt] at HC
    have HE : Hid (decide (val rs < val ds * x) = true) := decide_eq_true hlt
    clear hlt
    go_wp2_with fail
    refine Calls.mono HC.out ?_
    rintro e w3 ⟨rfl, rfl⟩
    go_wp2_with fail
    go_ret
    exact ⟨ret_bool HE.out.symm, HB2.out⟩
  · have HE : Hid (decide (val rs < val ds * x) = false) := decide_eq_false hlt
    obtain ⟨c, hc, hc'⟩ : ∃ c, cmpI (val rs) (val ds * x) = c ∧ (c = 0 ∨ c = 1) := by
      by_cases e : val rs = val ds * x
      · exact ⟨0, cmpI_eq e, .inl rfl⟩
      · exact ⟨1, cmpI_gt (by omega), .inr rfl⟩
    rw [hc] at HC
    clear hlt hc
    rcases hc' with rfl | rfl
    · go_wp2_with fail
      refine Calls.mono HC.out ?_
      rintro e w3 ⟨rfl, rfl⟩
      go_wp2_with fail
      go_ret
      exact ⟨ret_bool HE.out.symm, HB2.out⟩
    · go_wp2_with fail
      refine Calls.mono HC.out ?_
      rintro e w3 ⟨rfl, rfl⟩
      go_wp2_with fail
      go_ret
      exact ⟨ret_bool HE.out.symm, HB2.out⟩

theorem valTo_mid (ys : List Int) (i l : Nat) : ∀ k, k ≤ l → valTo ((ys.drop i).take l) k = segTo ys i k
  | 0, _ => rfl
  | k + 1, h => by rw [valTo_succ, segTo_succ, valTo_mid ys i l k (by omega), List.getElem?_take, if_pos (by omega), List.getElem?_drop]
theorem val_mid (ys : List Int) (i l : Nat) (h : i + l ≤ ys.length) : val ((ys.drop i).take l) = segTo ys i l := by
  rw [← valTo_mid ys i l l (Nat.le_refl _), valTo_stable _ _ (by rw [List.length_take, List.length_drop]; omega)]
theorem OwnC.mid {w : World} {base g n cap : Nat} {ys : List Int} (h : OwnC w base g n cap ys) (hw : Wd ys) (i l c : Nat) (hil : i + l ≤ n) (hc : l ≤ c) (hcm : c ≤ maxLen) : Sl w (.slice (some ⟨g, i, none⟩) l c) ((ys.drop i).take l) := by
  have hl := h.len
  have hll : ((ys.drop i).take l).length = l := by rw [List.length_take, List.length_drop]; omega
  refine ⟨some ⟨g, i, none⟩, c, by rw [hll], ?_⟩
  rw [hll]
  refine ⟨hll, (hw.drop i).take l, .inr ⟨g, i, rfl, (World.ownsRow.lt h g rfl).2, fun j hj => ?_⟩, hc, hcm, fun e => by simp at e⟩
  rw [h.cell (i + j) (by omega), List.getElem?_take, if_pos hj, List.getElem?_drop]

set_option maxHeartbeats 3200000 in
set_option maxRecDepth 100000 in
theorem refOff_any (base g n cap i l c : Nat) (ys : List Int) (u : Value) (ds : List Int) (x : Int) (w : World) (ho : OwnC w base g n cap ys) (hwy : Wd ys) (hil : i + l ≤ n) (hc : l ≤ c) (hcm : c ≤ maxLen) (hn : n ≤ 137438953472) (hd : Sl w u ds) (hm : ds.length ≤ 137438953472) (x0 : 0 ≤ x) (x1 : x ≤ 4294967295) (hle : val ds * x ≤ segTo ys i l) :
    Calls Tryz.prog 109 #[.slice (some ⟨g, i, none⟩) l c, u, .int .u64 x] w fun e w' => ∃ us, e = .returned (.tuple #[]) ∧ OwnC w' base g n cap us ∧ Wd us ∧ (∀ j, j < i ∨ i + l ≤ j → us[j]?.getD 0 = ys[j]?.getD 0) ∧ segTo us i l = segTo ys i l - val ds * x ∧ w.grownBy w' (some g) := by
  have hgw := (World.ownsRow.lt ho g rfl).2
  have hly := ho.len
  have hll : ((ys.drop i).take l).length = l := by rw [List.length_take, List.length_drop]; omega
  have hvm := val_mid ys i l (by omega)
  have HSR := hid (ho.mid hwy i l c hil hc hcm)
  have HO := hid (refOf_val x w x0 (by omega))
  have HD := hid hd
  have HOY := hid ho
  have HX1 := hid x1
  have HLE := hid hle
  have HVM := hid hvm
  have HLL := hid hll
  clear hd x1 hle ho hvm hll
  go_enter Tryz.func109, Tryz.ntmps109
  go_wp2_with fail
  refine Calls.mono HO.out ?_
  intro e w1 h1
  obtain ⟨a1, c1, zs, rfl, o1, wz, tz, vz, hb1⟩ := h1.slice
  have lz : zs.length ≤ 1 := len_of_lt wz tz (by rw [vz]; have := HX1.out; omega)
  have HT := hid (refTimes_sl _ _ ds zs w1 (HD.out.later hb1) (Sl.own o1 wz) (by omega) (by omega))
  rw [vz] at HT
  have HB1 := hid hb1
  clear h1 o1 wz tz vz hb1 HO lz
  go_wp2_with fail
  refine Calls.mono HT.out ?_
  intro e w2 h2
  obtain ⟨a2, c2, ps, rfl, o2, wp, tp, vp, hb2⟩ := h2.slice
  have HB2 := hid (bt HB1.out hb2)
  have lp : ps.length ≤ 549755813888 := by
    have e1 : val ps < 4294967296 ^ l := by rw [vp]; have := HLE.out; have := (segTo_bounds hwy i l).2; omega
    have := len_of_lt wp tp e1
    omega
  have HF := hid (refLess_sl _ _ ((ys.drop i).take l) ps w2 (HSR.out.later HB2.out) (Sl.own o2 wp) (by rw [HLL.out]; omega) lp (by rw [vp, HVM.out]; exact HLE.out))
  rw [vp, HVM.out] at HF
  clear h2 o2 wp tp vp hb2 HT lp HB1
  go_wp2_with fail
  refine Calls.mono HF.out ?_
  intro e w3 h3
  obtain ⟨a3, c3, qs, rfl, o3, wq, tq, vq, hb3⟩ := h3.slice
  have HB3 := hid (bt HB2.out hb3)
  have lq : qs.length ≤ l := len_of_lt wq tq (by
    rw [vq]
    have h5 := (segTo_bounds hwy i l).2
    have h6 : 0 ≤ val ds * x := Int.mul_nonneg (val_nonneg HD.out.wd) x0
    omega)
  have HQ := hid o3
  have HVQ := hid vq
  have HNE : Hid ((Value.slice a3 qs.length c3).ownBlock = none ∨ (Value.slice a3 qs.length c3).ownBlock ≠ some g) := by
    cases hv : (Value.slice a3 qs.length c3).ownBlock with
    | none => exact .inl rfl
    | some k =>
      right
      intro e
      have e1 := (World.ownsRow.lt o3 k hv).1
      have e2 := HB2.out.size
      have e3 := Option.some.inj e
      omega
  have HOW : Hid (OwnC w3 base g n cap ys) := owns_later HOY.out HB3.out
  have HG3 := hid (grown_of_below HB3.out (some g))
  clear h3 o3 vq hb3 HF HB2 HB3 HOY HSR
  go_wp2_with fail
  go_loopw [7] (fun t wr => ∃ (k : Nat) (us : List Int), k ≤ l ∧ t = .int .i64 k ∧ Wd us ∧ Hid (∀ j, j < i ∨ i + k ≤ j → us[j]?.getD 0 = ys[j]?.getD 0) ∧ Hid (∀ j, j < k → us[i + j]?.getD 0 = qs[j]?.getD 0) ∧ OwnC wr base g n cap us ∧ w3.grownBy wr (some g)) (fun t _ => l - (intOf t).toNat)
  case atStart => exact ⟨0, ys, by omega, rfl, hwy, fun _ _ => rfl, fun j hj => by omega, HOW.out, World.grownBy.refl _ _⟩
  case round =>
    obtain ⟨k, us, hk, rfl, hwu, HK, HQK, hou, hg⟩ := hrel
    by_cases hlt : k < l
    · have y1 := hou.cell (i + k) (by omega)
      have f1 := hou.free (i + k)
      have hlu := hou.len
      have hsq := Sl.own (World.ownsRow.kept HQ.out hg HNE.out) wq
      obtain ⟨aq, cq, hv, hrq⟩ := hsq
      simp only [Value.slice.injEq, true_and] at hv
      obtain ⟨rfl, rfl⟩ := hv
      have HW := hid (word_any _ _ _ qs _ (k : Int) wr hrq (by omega) (by omega))
      rw [Int.toNat_natCast] at HW
      have bq := wq.at k
      have HKN : Hid (∀ j, j < i ∨ i + (k + 1) ≤ j → (us.set (i + k) (qs[k]?.getD 0))[j]?.getD 0 = ys[j]?.getD 0) := fun j hj => by
        rw [List.getElem?_set, if_neg (by omega)]
        exact HK.out j (by omega)
      have HQN : Hid (∀ j, j < k + 1 → (us.set (i + k) (qs[k]?.getD 0))[i + j]?.getD 0 = qs[j]?.getD 0) := fun j hj => by
        rw [List.getElem?_set]
        by_cases e : k = j
        · subst e; rw [if_pos rfl, if_pos (by omega)]; rfl
        · rw [if_neg (by omega)]; exact HQK.out j (by omega)
      have HO' := hid (hou.set (i + k) (qs[k]?.getD 0)).1
      have HG' := hid (grown_trans hg (hou.set (i + k) (qs[k]?.getD 0)).2)
      have hw' := hwu.set (i + k) bq
      have HW' := hid hw'
      obtain ⟨q, hq⟩ : ∃ q, qs[k]?.getD 0 = q := ⟨_, rfl⟩
      rw [hq] at HW HKN HQN HO' HG' HW' bq
      clear hlu hou hg HK HQK hq hrq hw'
      go_wp2_with fail
      refine Calls.mono HW.out ?_
      rintro e w' ⟨rfl, rfl⟩
      go_wp2_with fail
      go_roundw
      case rel => exact ⟨k + 1, us.set (i + k) q, by omega, by go_num, HW'.out, HKN, HQN, HO'.out, HG'.out⟩
      case measure => simp [intOf]; omega
    · obtain rfl : k = l := by omega
      have HS : Hid (segTo us i k = segTo ys i k - val ds * x) := by
        show _ = _
        rw [← HVQ.out, ← valTo_stable qs k lq, ← segTo_zero]
        have e : ∀ j, j ≤ k → segTo us i j = segTo qs 0 j := fun j hj => by
          induction j with
          | zero => rfl
          | succ j ih => rw [segTo_succ, segTo_succ, ih (by omega), HQK.out j (by omega), Nat.zero_add]
        exact e k (Nat.le_refl _)
      clear HQK
      go_wp2_with fail
      go_end0
      exact ⟨us, rfl, hou, hwu, HK.out, HS.out, grown_trans HG3.out hg⟩
end Go.Proofs.YtpehpflgfkdiaaaGreat

/- The document's own long division, one word of it: slackwaterref01.digit. -/
namespace Go.Proofs.YtpehpflgfkdiaaaGreat
open Go.RowKit
set_option linter.unusedVariables false

/-- The first words tell the quotient's word, or more. -/
theorem digit_guess (P lo top dl dt q S D : Int) (hP : 0 < P) (lo1 : lo < P) (dl0 : 0 ≤ dl) (hd : 1 ≤ dt) (hS : S = lo + top * P) (hD : D = dl + dt * P) (q0 : 0 ≤ q) (hq : q * D ≤ S) : q ≤ top / dt := by
  have e1 : q * (dt * P) ≤ q * D := Int.mul_le_mul_of_nonneg_left (by omega) q0
  have e2 : q * dt * P < (top + 1) * P := by rw [Int.mul_assoc, Int.add_mul]; omega
  have e3 := Int.lt_of_mul_lt_mul_right e2 (by omega)
  exact Int.le_ediv_of_mul_le (by omega) (by omega)
theorem seg_two (ys : List Int) (i e : Nat) : segTo ys i (e + 2) = segTo ys i e + (ys[i + e]?.getD 0 + ys[i + (e + 1)]?.getD 0 * 4294967296) * 4294967296 ^ e := by
  rw [segTo_succ, segTo_succ, pw_succ]
  generalize (4294967296 : Int) ^ e = P
  grind
theorem val_top (ds : List Int) (e : Nat) (h : ds.length = e + 1) : val ds = valTo ds e + ds[e]?.getD 0 * 4294967296 ^ e := by
  unfold val; rw [h, valTo_succ]

set_option maxHeartbeats 3200000 in
set_option maxRecDepth 100000 in
theorem refDigit_any (base g n cap i e c : Nat) (ys : List Int) (b : Option Addr) (cap' : Nat) (ds : List Int) (w : World) (ho : OwnC w base g n cap ys) (hwy : Wd ys) (hil : i + (e + 2) ≤ n) (hc : e + 2 ≤ c) (hcm : c ≤ maxLen) (hn : n ≤ 137438953472) (hd : Sl w (.slice b (e + 1) cap') ds) (hlen : ds.length = e + 1) (hh : 1 ≤ ds[e]?.getD 0) (hLD : segTo ys i (e + 2) < 4294967296 * val ds) :
    Calls Tryz.prog 96 #[.slice (some ⟨g, i, none⟩) (e + 2) c, .slice b (e + 1) cap'] w fun x w' => ∃ (q : Int) (us : List Int), x = .returned (.int .u32 q) ∧ 0 ≤ q ∧ q ≤ 4294967295 ∧ OwnC w' base g n cap us ∧ Wd us ∧ (∀ j, j < i ∨ i + (e + 2) ≤ j → us[j]?.getD 0 = ys[j]?.getD 0) ∧ segTo us i (e + 2) = segTo ys i (e + 2) - q * val ds ∧ segTo us i (e + 2) < val ds ∧ w.grownBy w' (some g) := by
  have hwd := hd.wd
  have hD1 := val_top ds e hlen
  have hS1 := seg_two ys i e
  have P0 := pw_pos e
  have lob := segTo_bounds hwy i e
  have dlb := valTo_bounds hwd e
  have hD0 : 0 < val ds := by
    rw [hD1]
    have : 1 * (4294967296 : Int) ^ e ≤ ds[e]?.getD 0 * 4294967296 ^ e := Int.mul_le_mul_of_nonneg_right hh (by omega)
    omega
  have hS0 := (segTo_bounds hwy i (e + 2)).1
  obtain ⟨q, hq⟩ : ∃ q, segTo ys i (e + 2) / val ds = q := ⟨_, rfl⟩
  have q0 : 0 ≤ q := by rw [← hq]; exact Int.ediv_nonneg hS0 (by omega)
  have hq1 : q * val ds ≤ segTo ys i (e + 2) := by rw [← hq]; exact Int.ediv_mul_le _ (by omega)
  have hq2 : segTo ys i (e + 2) < (q + 1) * val ds := by rw [← hq]; exact Int.lt_ediv_add_one_mul_self _ hD0
  have q1 : q ≤ 4294967295 := by
    have : q * val ds < 4294967296 * val ds := by omega
    have := Int.lt_of_mul_lt_mul_right this (by omega)
    omega
  have bu0 := hwy.at (i + e)
  have bu1 := hwy.at (i + (e + 1))
  have bd := hwd.at e
  have y0 := ho.cell (i + e) (by omega)
  have y1 := ho.cell (i + (e + 1)) (by omega)
  have hG := digit_guess (4294967296 ^ e) (segTo ys i e) (ys[i + e]?.getD 0 + ys[i + (e + 1)]?.getD 0 * 4294967296) (valTo ds e) (ds[e]?.getD 0) q _ _ P0 lob.2 dlb.1 hh hS1 hD1 q0 hq1
  obtain ⟨bd1, od1, rfl, ldd, d1⟩ : ∃ b1 o1, b = some ⟨b1, o1, none⟩ ∧ b1 < w.heap.size ∧ w.cell? ⟨b1, o1 + e, none⟩ = some (.int .u32 (ds[e]?.getD 0)) := by
    obtain ⟨a', cap'', hv, hr⟩ := hd
    rw [hlen] at hv hr
    simp only [Value.slice.injEq, true_and] at hv
    obtain ⟨rfl, rfl⟩ := hv
    exact hr.cells e (by omega)
  have hly := ho.len
  have HBE := hid (fun ww (hb : Below w.heap.size w ww) X (h0 : 0 ≤ X) (h1 : X ≤ 4294967295) => refBelow_any _ _ ((ys.drop i).take (e + 2)) ds X ww ((ho.mid hwy i (e + 2) c hil hc hcm).later hb) (hd.later hb) (by rw [List.length_take, List.length_drop]; omega) (by omega) h0 h1)
  rw [val_mid ys i (e + 2) (by omega)] at HBE
  have HOF := hid (fun ww (hb : Below w.heap.size w ww) => refOff_any base g n cap i (e + 2) c ys _ ds q ww (owns_later ho hb) hwy hil hc hcm hn (hd.later hb) (by omega) q0 q1 (by rw [Int.mul_comm]; exact hq1))
  have HQ := hid (And.intro hq1 hq2)
  have HWY := hid hwy
  have HD0 := hid hD0
  obtain ⟨u0, hu0⟩ : ∃ u0, ys[i + e]?.getD 0 = u0 := ⟨_, rfl⟩
  obtain ⟨u1, hu1⟩ : ∃ u1, ys[i + (e + 1)]?.getD 0 = u1 := ⟨_, rfl⟩
  obtain ⟨dt, hdt⟩ : ∃ dt, ds[e]?.getD 0 = dt := ⟨_, rfl⟩
  rw [hu0] at y0 bu0 hG
  rw [hu1] at y1 bu1 hG
  rw [hdt] at d1 bd hG hh
  obtain ⟨top, htop⟩ : ∃ top, u1 * 4294967296 + u0 = top := ⟨_, rfl⟩
  have t0 : 0 ≤ top ∧ top ≤ 18446744073709551615 := by omega
  rw [show u0 + u1 * 4294967296 = top by omega] at hG
  have g0 : 0 ≤ top / dt := Int.ediv_nonneg (by omega) (by omega)
  have g1 : top / dt ≤ top := Int.ediv_le_self _ (by omega)
  have hdz : ¬ dt = 0 := by omega
  obtain ⟨G, hGG⟩ : ∃ G, top / dt = G := ⟨_, rfl⟩
  rw [hGG] at hG g0 g1
  have hei : (e : Int) + 1 - 1 = (e : Int) := by omega
  clear hwd hD1 hS1 P0 lob dlb hD0 hS0 hq hq1 hq2 ho hd hlen hLD hu0 hu1 hdt hwy hly
  by_cases hmin : G ≤ 4294967295
  · go_enter Tryz.func96, Tryz.ntmps96
    go_wp2_with fail
    go_quiet (fail)
    go_wp2_with fail
    clear hGG htop
    go_loopw [7] (fun t wr => ∃ X : Int, t = .int .u64 X ∧ q ≤ X ∧ X ≤ 4294967295 ∧ Below w.heap.size w wr) (fun t _ => (intOf t).toNat)
    case atStart => exact ⟨G, rfl, by omega, by omega, bdw (Below.refl _ _) _⟩
    case round =>
      obtain ⟨X, rfl, hX0, hX1, hb⟩ := hrel
      have HB := hid hb
      have HC := hid (HBE.out wr hb X (by omega) hX1)
      by_cases hlt : q < X
      · have hdec : decide (segTo ys i (e + 2) < val ds * X) = true := decide_eq_true (by
          have a1 := HQ.out.2
          have a2 : (q + 1) * val ds ≤ X * val ds := Int.mul_le_mul_of_nonneg_right (by omega) (Int.le_of_lt HD0.out)
          rw [Int.mul_comm (val ds)]
          omega)
        rw [hdec] at HC
        clear hb hdec
        go_wp2_with fail
        refine Calls.mono HC.out ?_
        rintro x w2 ⟨rfl, hb2⟩
        have HB2 := hid (bt HB.out hb2)
        clear hb2
        go_wp2_with fail
        go_roundw
        case rel => exact ⟨X - 1, rfl, by omega, by omega, HB2.out⟩
        case measure => simp [intOf]; omega
      · obtain rfl : X = q := by omega
        have hdec : decide (segTo ys i (e + 2) < val ds * X) = false := decide_eq_false (by
          have a1 := HQ.out.1
          rw [Int.mul_comm (val ds)]
          omega)
        rw [hdec] at HC
        clear hb hdec
        go_wp2_with fail
        refine Calls.mono HC.out ?_
        rintro x w2 ⟨rfl, hb2⟩
        have HB2 := hid (bt HB.out hb2)
        have HF := hid (HOF.out w2 HB2.out)
        clear hb2 HC HBE HOF
        go_wp2_with fail
        refine Calls.mono HF.out ?_
        rintro x w3 ⟨us, rfl, o3, w3', k3, s3, g3⟩
        have HR := hid (And.intro o3 (And.intro w3' (And.intro k3 (And.intro s3 (grown_trans (grown_of_below HB2.out (some g)) g3)))))
        clear o3 w3' k3 s3 g3 HF
        go_wp2_with fail
        go_ret
        refine ⟨X, us, rfl, q0, q1, HR.out.1, HR.out.2.1, HR.out.2.2.1, by rw [Int.mul_comm]; exact HR.out.2.2.2.1, ?_, HR.out.2.2.2.2⟩
        have a1 := HR.out.2.2.2.1
        have a2 := HQ.out.2
        rw [Int.mul_comm] at a1
        rw [Int.add_mul] at a2
        omega
  · go_enter Tryz.func96, Tryz.ntmps96
    go_wp2_with fail
    go_quiet (fail)
    go_wp2_with fail
    clear hGG htop
    go_loopw [7] (fun t wr => ∃ X : Int, t = .int .u64 X ∧ q ≤ X ∧ X ≤ 4294967295 ∧ Below w.heap.size w wr) (fun t _ => (intOf t).toNat)
    case atStart => exact ⟨4294967295, rfl, by omega, by omega, bdw (Below.refl _ _) _⟩
    case round =>
      obtain ⟨X, rfl, hX0, hX1, hb⟩ := hrel
      have HB := hid hb
      have HC := hid (HBE.out wr hb X (by omega) hX1)
      by_cases hlt : q < X
      · have hdec : decide (segTo ys i (e + 2) < val ds * X) = true := decide_eq_true (by
          have a1 := HQ.out.2
          have a2 : (q + 1) * val ds ≤ X * val ds := Int.mul_le_mul_of_nonneg_right (by omega) (Int.le_of_lt HD0.out)
          rw [Int.mul_comm (val ds)]
          omega)
        rw [hdec] at HC
        clear hb hdec
        go_wp2_with fail
        refine Calls.mono HC.out ?_
        rintro x w2 ⟨rfl, hb2⟩
        have HB2 := hid (bt HB.out hb2)
        clear hb2
        go_wp2_with fail
        go_roundw
        case rel => exact ⟨X - 1, rfl, by omega, by omega, HB2.out⟩
        case measure => simp [intOf]; omega
      · obtain rfl : X = q := by omega
        have hdec : decide (segTo ys i (e + 2) < val ds * X) = false := decide_eq_false (by
          have a1 := HQ.out.1
          rw [Int.mul_comm (val ds)]
          omega)
        rw [hdec] at HC
        clear hb hdec
        go_wp2_with fail
        refine Calls.mono HC.out ?_
        rintro x w2 ⟨rfl, hb2⟩
        have HB2 := hid (bt HB.out hb2)
        have HF := hid (HOF.out w2 HB2.out)
        clear hb2 HC HBE HOF
        go_wp2_with fail
        refine Calls.mono HF.out ?_
        rintro x w3 ⟨us, rfl, o3, w3', k3, s3, g3⟩
        have HR := hid (And.intro o3 (And.intro w3' (And.intro k3 (And.intro s3 (grown_trans (grown_of_below HB2.out (some g)) g3)))))
        clear o3 w3' k3 s3 g3 HF
        go_wp2_with fail
        go_ret
        refine ⟨X, us, rfl, q0, q1, HR.out.1, HR.out.2.1, HR.out.2.2.1, by rw [Int.mul_comm]; exact HR.out.2.2.2.1, ?_, HR.out.2.2.2.2⟩
        have a1 := HR.out.2.2.2.1
        have a2 := HQ.out.2
        rw [Int.mul_comm] at a1
        rw [Int.add_mul] at a2
        omega
end Go.Proofs.YtpehpflgfkdiaaaGreat

/- The document's own quotient and rest: slackwaterref01.Over. -/
namespace Go.Proofs.YtpehpflgfkdiaaaGreat
open Go.RowKit
set_option linter.unusedVariables false

/-- A quotient and a rest, in new memory. -/
def Ref2 (w : World) (xs ys : List Int) (x : Ending) (w' : World) : Prop := ∃ v zs u rs, x = .returned (.tuple #[v, u]) ∧ w'.ownsRow w.heap.size 60 1 v zs.length (zs.map (Value.int .u32)) ∧ w'.ownsRow w.heap.size 60 1 u rs.length (rs.map (Value.int .u32)) ∧ Wd zs ∧ Wd rs ∧ Trimmed zs ∧ Trimmed rs ∧ val xs = val zs * val ys + val rs ∧ val rs < val ys ∧ Below w.heap.size w w'
theorem refDown_zero (v : Value) (xs : List Int) (t : Nat) (w : World) (h : Sl w v xs) (hn : xs.length ≤ 274877906944) (ht : t ≤ 31) :
    Calls Tryz.prog 97 #[v, .int .i64 (t : Int)] w (Ref1 w (val xs / 2 ^ t)) := by
  obtain ⟨a, cap, rfl, hr⟩ := h
  by_cases h0 : xs.length = 0
  · refine Calls.mono (refDown_none a xs.length cap 0 t (t : Int) w hn (by omega) (by omega) ht (by omega)) ?_
    rintro e w' ⟨rfl, rfl⟩
    have hx : xs = [] := List.eq_nil_of_length_eq_zero h0
    refine ⟨_, [], rfl, World.ownsRow_nil _ _ _ _, Wd.nil, Trimmed.nil, ?_, Below.refl _ _⟩
    rw [hx, val_nil]; simp
  · have e := refDown_any a xs.length cap xs 0 t (t : Int) w hr hn (by omega) ht (by omega)
    rw [Int.pow_zero, Int.ediv_one] at e
    exact e
theorem refUp_zero (v : Value) (xs : List Int) (t : Nat) (w : World) (h : Sl w v xs) (hn : xs.length ≤ 274877906944) (h0 : 0 < xs.length) (ht : t ≤ 31) :
    Calls Tryz.prog 95 #[v, .int .i64 (t : Int)] w (Ref1 w (val xs * 2 ^ t)) := by
  obtain ⟨a, cap, rfl, hr⟩ := h
  have e := refUp_any a xs.length cap xs 0 t (t : Int) w hr hn h0 (by omega) ht (by omega)
  rw [Int.pow_zero, Int.mul_one] at e
  exact e
/-- A stretch of one word more that is below the divisor has a nought at its end. -/
theorem seg_end {vs : List Int} (wv : Wd vs) (k m : Nat) {D : Int} (hD : D < 4294967296 ^ m) (h : segTo vs k (m + 1) < D) : vs[k + m]?.getD 0 = 0 := by
  have hb := wv.at (k + m)
  have sb := segTo_nonneg wv k m
  by_cases c : vs[k + m]?.getD 0 = 0
  · exact c
  · have : 1 * (4294967296 : Int) ^ m ≤ vs[k + m]?.getD 0 * 4294967296 ^ m := Int.mul_le_mul_of_nonneg_right (by omega) (Int.le_of_lt (pw_pos m))
    rw [segTo_succ] at h
    omega
theorem bits_gap {ys : List Int} (hy : Trimmed ys) (e : Nat) (hl : ys.length = e + 2) (h1 : ys[e + 1]?.getD 0 ≤ 4294967295) : 32 * ((e : Int) + 2) - (bitsOf ys : Int) = ((32 - Lib.bitLen (ys[e + 1]?.getD 0).toNat : Nat) : Int) := by
  have hs : sz ys = e + 2 := by rw [← hl]; exact hy
  have hb := bitLen_le32 _ h1
  unfold bitsOf
  rw [hs, if_neg (by omega), show e + 2 - 1 = e + 1 by omega]
  omega
theorem len_of_ge {zs : List Int} (hw : Wd zs) {L : Nat} (h : (4294967296 : Int) ^ L ≤ val zs) : L < zs.length := by
  by_cases c : L < zs.length
  · exact c
  · have h1 := val_lt hw
    have h2 := pw_le (show zs.length ≤ L by omega)
    omega
theorem val_snoc_zero (ls : List Int) : val (ls ++ [0]) = val ls := by
  refine val_eq_of fun j => ?_
  rw [List.getElem?_append]
  split
  · rfl
  · rw [List.getElem?_eq_none (l := ls) (by omega)]
    by_cases e : j - ls.length = 0
    · rw [e]; rfl
    · rw [List.getElem?_eq_none (by simp; omega)]
theorem own_shape0 {w : World} {base e n : Nat} {v : Value} {xs : List Value} (h : w.ownsRow base e 1 v n xs) (hn : 0 < n) : ∃ g cap, v = .slice (some ⟨g, 0, none⟩) n cap ∧ base ≤ g ∧ g < w.heap.size ∧ n ≤ cap ∧ cap ≤ maxLen := by
  obtain ⟨g, cap, rfl, h1, h2⟩ := own_shape' h hn
  have := World.ownsRow.lt h g rfl
  exact ⟨g, cap, rfl, this.1, this.2, h1, h2⟩

set_option maxHeartbeats 1600000 in
set_option maxRecDepth 100000 in
theorem refOver_less (v u : Value) (xs ys : List Int) (w : World) (h : Sl w v xs) (g : Sl w u ys) (hn : xs.length ≤ 8200) (hm : ys.length ≤ 8200) (hlt : val xs < val ys) :
    Calls Tryz.prog 72 #[v, u] w (Ref2 w xs ys) := by
  have HC := hid (refCompare_sl _ _ xs ys w h g (by omega) (by omega))
  rw [cmpI_lt hlt] at HC
  have HT := hid (refTrim_sl _ xs w h (by omega))
  have HLT := hid hlt
  have HW := hid h.wd
  clear h g hlt
  go_enter Tryz.func72, Tryz.ntmps72
  go_wp2_with fail
  refine Calls.mono HC.out ?_
  rintro e w1 ⟨rfl, rfl⟩
  go_wp2_with fail
  refine Calls.mono HT.out ?_
  rintro e w2 ⟨v2, rfl, o2, hb2⟩
  have HO := hid (And.intro (owns_len o2) hb2)
  clear o2 hb2
  go_wp2_with fail
  go_ret2
  exact ⟨_, [], v2, _, rfl, World.ownsRow_nil _ _ _ _, HO.out.1, Wd.nil, HW.out.trimmed, Trimmed.nil, Trimmed.trimmed _, by rw [val_trimmed, val_nil]; omega, by rw [val_trimmed]; exact HLT.out, HO.out.2⟩

set_option maxHeartbeats 1600000 in
set_option maxRecDepth 100000 in
theorem refOver_word (v u : Value) (xs : List Int) (y : Int) (w : World) (h : Sl w v xs) (g : Sl w u [y]) (hn : xs.length ≤ 8200) (hy : 1 ≤ y) (hge : y ≤ val xs) :
    Calls Tryz.prog 72 #[v, u] w (Ref2 w xs [y]) := by
  have HC := hid (refCompare_sl _ _ xs [y] w h g (by omega) (by simp))
  have by' := g.wd.at 0
  simp at by'
  obtain ⟨a, cap, rfl, hr⟩ := h
  obtain ⟨b, cap', rfl, gr⟩ := g
  obtain ⟨b1, o1, rfl, l1, c1⟩ := gr.cells 0 (by simp)
  simp at c1
  have hcap := gr.2.2.2.1
  simp at hcap
  have HS := hid (refSmall_any a _ cap xs y w hr (by omega) ⟨hy, by omega⟩)
  rw [val_one] at HC
  obtain ⟨cc, hcc, hcv⟩ : ∃ c, cmpI (val xs) y = c ∧ (c = 0 ∨ c = 1) := by
    by_cases e : val xs = y
    · exact ⟨0, cmpI_eq e, .inl rfl⟩
    · exact ⟨1, cmpI_gt (by omega), .inr rfl⟩
  rw [hcc] at HC
  have hl1 : List.length [y] = 1 := rfl
  rw [hl1] at HC ⊢
  clear hr gr hge hcc hl1
  rcases hcv with rfl | rfl
  all_goals
    go_enter Tryz.func72, Tryz.ntmps72
    go_wp2_with fail
    refine Calls.mono HC.out ?_
    rintro e w1 ⟨rfl, rfl⟩
    go_wp2_with fail
    refine Calls.mono HS.out ?_
    rintro e w2 ⟨v2, zs, r, rfl, o2, wz, tz, hv, r0, r1, hb2⟩
    have r2 : r ≤ 4294967295 := by omega
    have HO := hid (refOf_val r w2 r0 (by omega))
    have HR := hid (And.intro o2 (And.intro hb2 (And.intro hv r1)))
    clear o2 hb2 hv HC HS r1
    go_wp2_with fail
    refine Calls.mono HO.out ?_
    rintro e w3 ⟨v3, rs, rfl, o3, wr, tr, hvr, hb3⟩
    have HQ := hid (And.intro (owns_base o3 HR.out.2.1.size) (And.intro (owns_later HR.out.1 hb3) (And.intro (bt HR.out.2.1 hb3) hvr)))
    clear o3 hb3 hvr HO
    go_wp2_with fail
    go_ret2
    exact ⟨v2, zs, v3, rs, rfl, HQ.out.2.1, HQ.out.1, wz, wr, tz, tr, by rw [HQ.out.2.2.2, val_one]; exact HR.out.2.2.1, by rw [HQ.out.2.2.2, val_one]; exact HR.out.2.2.2, HQ.out.2.2.1⟩
end Go.Proofs.YtpehpflgfkdiaaaGreat

/- The document's own long division, whole: slackwaterref01.Over of any two numbers. -/
namespace Go.Proofs.YtpehpflgfkdiaaaGreat
open Go.RowKit
set_option linter.unusedVariables false

theorem grown_set' (w : World) (p : Addr) (v : Value) : w.grownBy (w.setCell p v) (some p.block) :=
  ⟨rfl, rfl, rfl, by simp [World.setCell], fun k _ hne => Below.heap_setCell w p v k (fun e => hne (by rw [e]))⟩

set_option maxHeartbeats 12800000 in
set_option maxRecDepth 100000 in
theorem refOver_long (v u : Value) (xs ys : List Int) (e : Nat) (w : World) (h : Sl w v xs) (g : Sl w u ys) (hn : xs.length ≤ 8200) (hm : ys.length ≤ 8200) (hx : Trimmed xs) (hy : Trimmed ys) (hl : ys.length = e + 2) (hge : val ys ≤ val xs) :
    Calls Tryz.prog 72 #[v, u] w (Ref2 w xs ys) := by
  obtain ⟨i0, hi, hz0, hz1, hz2⟩ := info_parts Tryz.infoW
  have wx := h.wd
  have wy := g.wd
  have hyx := len_of_lt wy hy (L := xs.length) (by have := val_lt wx; omega)
  obtain ⟨s1, s2, s3, s4, s5⟩ := normal wy hy e hl
  have hgap := bits_gap hy e hl s2
  obtain ⟨t, ht⟩ : ∃ t, 32 - Lib.bitLen (ys[e + 1]?.getD 0).toNat = t := ⟨_, rfl⟩
  rw [ht] at s3 s4 s5 hgap
  have HC := hid (refCompare_sl _ _ xs ys w h g (by omega) (by omega))
  obtain ⟨cc, hcc, hcv⟩ : ∃ c, cmpI (val xs) (val ys) = c ∧ (c = 0 ∨ c = 1) := by
    by_cases e : val xs = val ys
    · exact ⟨0, cmpI_eq e, .inl rfl⟩
    · exact ⟨1, cmpI_gt (by omega), .inr rfl⟩
  rw [hcc] at HC
  have HB := hid (refBits_sl _ ys w g (by omega))
  have HSX := hid h
  have HSY := hid g
  have HN := hid (And.intro s4 (And.intro s5 (And.intro hge hl)))
  have hyn : e + 2 ≤ xs.length := by omega
  obtain ⟨a, cap, rfl, hr⟩ := h
  obtain ⟨b, cap', rfl, gr⟩ := g
  rw [hl] at HC HB ⊢
  obtain ⟨B, hB⟩ : ∃ B, bitsOf ys = B := ⟨_, rfl⟩
  rw [hB] at HB hgap
  have hB0 : (B : Int) ≤ 1000000 := by omega
  have HY' : Hid (Sl w (.slice b (e + 2) cap') ys) := by have e1 := HSY.out; rw [hl] at e1; exact e1
  clear hr gr hcc s1 s2 s4 s5 ht hge hl hB HSY hm hyx
  have hnl : ¬ cc < 0 := by omega
  have hc1 : cc ≤ 1 := by omega
  clear hcv
  skip
  · skip
    go_enter Tryz.func72, Tryz.ntmps72
    go_wp2_with fail
    refine Calls.mono HC.out ?_
    rintro x w' ⟨rfl, rfl⟩
    clear HC
    go_wp2_with fail
    refine Calls.mono HB.out ?_
    rintro x wB ⟨rfl, hbB⟩
    have HU1 := hid (refUp_zero _ ys t wB (HY'.out.later hbB) (by have := HN.out.2.2.2; omega) (by have := HN.out.2.2.2; omega) s3)
    have HBB := hid hbB
    clear hbB HB
    go_wp2_with fail
    refine Calls.mono HU1.out ?_
    intro x w1 h1
    obtain ⟨a1, c1, ds, rfl, oD, wD, tD, vD, hb1⟩ := h1.slice
    have hDl : ds.length = e + 2 := by
      have l1 := len_of_lt wD tD (L := e + 2) (by rw [vD]; exact HN.out.1)
      have l2 := len_of_ge wD (L := e + 1) (by
        rw [vD]
        have q1 := HN.out.2.1
        have q2 : (4294967296 : Int) ^ (e + 2) = 4294967296 ^ (e + 1) * 4294967296 := pw_succ (e + 1)
        have q3 := pw_pos (e + 1)
        omega)
      omega
    have hDt := top_one wD e hDl (by rw [vD]; exact HN.out.2.1)
    have HDG : Hid ((4294967296 : Int) ^ (e + 1) ≤ val ds) := by
      show _ ≤ _
      rw [vD]
      have q1 := HN.out.2.1
      have q2 : (4294967296 : Int) ^ (e + 2) = 4294967296 ^ (e + 1) * 4294967296 := pw_succ (e + 1)
      have q3 := pw_pos (e + 1)
      omega
    have HDM : Hid (val ds < 4294967296 ^ (e + 2)) := by show _ < _; rw [vD]; exact HN.out.1
    have HB1 := hid (bt HBB.out hb1)
    have HD := hid (Sl.own oD wD)
    rw [hDl] at HD
    have HU2 := hid (refUp_zero _ xs t w1 (HSX.out.later HB1.out) (by omega) (by omega) s3)
    have HVD := hid vD
    have HDl := hid hDl
    have HDt := hid hDt
    have HWD := hid wD
    rw [hDl]
    clear h1 oD wD tD vD hb1 hDl hDt HU1 HBB
    go_wp2_with fail
    refine Calls.mono HU2.out ?_
    intro x w2 h2
    obtain ⟨a2, c2, ls, rfl, oL, wL, tL, vL, hb2⟩ := h2.slice
    have hLl : e + 2 ≤ ls.length := by
      have := len_of_ge wL (L := e + 1) (by
        rw [vL]
        have q1 := HN.out.2.1
        have q2 : (4294967296 : Int) ^ (e + 2) = 4294967296 ^ (e + 1) * 4294967296 := pw_succ (e + 1)
        have q3 := pw_pos (e + 1)
        have q4 : val ys * 2 ^ t ≤ val xs * 2 ^ t := Int.mul_le_mul_of_nonneg_right HN.out.2.2.1 (Int.le_of_lt (two_pos t))
        omega)
      omega
    have hLm : ls.length ≤ 8201 := len_of_lt wL tL (by
      rw [vL]
      have q1 := val_lt wx
      have q2 : (4294967296 : Int) ^ (xs.length + 1) ≤ 4294967296 ^ 8201 := pw_le (by omega)
      have q3 : (2 : Int) ^ t ≤ 2 ^ 32 := two_le (by omega)
      have q4 : val xs * 2 ^ t ≤ val xs * 2 ^ 32 := Int.mul_le_mul_of_nonneg_left q3 (val_nonneg wx)
      rw [pw_succ] at q2
      generalize (4294967296 : Int) ^ 8201 = Z at *
      generalize (4294967296 : Int) ^ xs.length = Y at *
      have q5 : (2 : Int) ^ 32 = 4294967296 := by decide
      rw [q5] at q4
      omega)
    have hs2 := hb2.size
    have HVL := hid vL
    have HB2 := hid hb2
    have HWL := hid wL
    have oL' := oL
    obtain ⟨R, hR⟩ : ∃ R, R = ls.map (Value.int .u32) := ⟨_, rfl⟩
    obtain ⟨L, hL⟩ : ∃ L, ls.length = L := ⟨_, rfl⟩
    rw [← hR, hL] at oL
    rw [hL] at hLl hLm ⊢
    have HRL : Hid (R ++ [.int .u32 0] = (ls ++ [0]).map (Value.int .u32)) := by show _ = _; rw [hR]; simp
    have HLL := hid hL
    clear h2 oL' vL hb2 HU2 hR hL tL wL
    go_wp2_with (at_builtin; refine wpList_append_own _ rfl _ _ 22 rfl w1.heap.size 60 i0 (.int .u32 0) 1 4 Tryz.underlying22 hi hz0 hz1 hz2 rfl (by decide) _ _ _ rfl (oL.alloc _) ⟨w2.heap.size, 0, none⟩ 1 1 [.int .u32 0] rfl rfl (cell_one_new _ _ _) (by simp [Value.oneCell']) (by unfold maxLen; omega) (by omega) (by simp; omega) ?_)
    intro v3 w3 o3 hg3 _
    have hb3 : Below w1.heap.size w1 w3 := (HB2.out.alloc (by omega) _).grown hg3 (by simp; omega) (fun g hg => (oL.lt g hg).1)
    clear hg3 oL
    rw [HRL.out] at o3
    obtain ⟨gR, cR, hv3, gb, gl, cl, cm⟩ := own_shape0 o3 (by omega)
    subst hv3
    obtain ⟨K, hK1, hK2⟩ : ∃ K, L + 1 ≤ K + (e + 2) ∧ K + (e + 2) ≤ L + 1 := ⟨L + 1 - (e + 2), by omega, by omega⟩
    have HO3 : Hid (OwnC w3 w1.heap.size gR (L + 1) cR (ls ++ [0])) := o3
    have HB3 := hid hb3
    have hs3 := hb3.size
    have hKi : ((L : Int) + 1 - ((e : Int) + 2)) = (K : Int) := by omega
    clear o3 hb3 HRL
    go_wp2_with (at_make; refine wpList_make_full _ rfl _ _ 22 rfl w3.heap.size 60 i0 (.int .u32 0) 1 Tryz.underlying22 hi hz0 hz1 _ _ _ _ K rfl rfl (by omega) (by omega) (by rw [hz2]; omega) (by unfold maxLen; omega) (Nat.le_refl _) ?_)
    intro w4 hown hgrow
    have hbel4 : Below w3.heap.size w3 w4 := (Below.refl _ _).grown hgrow (Nat.le_refl _) (fun k hk => by simp at hk)
    have HOQ := hid (OwnW.made hown)
    have HB4 := hid hbel4
    clear hown hgrow hbel4
    go_wp2_with fail
    go_loopw [12] (fun z wr => ∃ (k : Nat) (us qs : List Int), k ≤ K ∧ z = .int .i64 ((k : Int) - 1) ∧ Wd us ∧ Wd qs ∧ Hid (val ls = valTo us (k + (e + 2)) + segTo qs k (K - k) * val ds * 4294967296 ^ k) ∧ Hid (segTo us k (e + 2) < val ds) ∧ Hid (∀ j, k + (e + 2) ≤ j → us[j]?.getD 0 = 0) ∧
      OwnC wr w1.heap.size gR (L + 1) cR us ∧ OwnW wr w3.heap.size w3.heap.size K qs ∧ Below w1.heap.size w1 wr) (fun z _ => (intOf z + 1).toNat)
    case atStart =>
      have hl0 : (ls ++ [0]).length = L + 1 := by rw [List.length_append, HLL.out]; rfl
      have hw0 : Wd (ls ++ [0]) := HWL.out.append (Wd.one (by omega))
      have hz0' : (ls ++ [0])[K + (e + 1)]?.getD 0 = 0 := by
        rw [List.getElem?_append, if_neg (by have := HLL.out; omega), show K + (e + 1) - ls.length = 0 by have := HLL.out; omega]; rfl
      refine ⟨K, ls ++ [0], List.replicate K 0, Nat.le_refl _, rfl, hw0, Wd.replicate _, ?_, ?_, ?_, owns_later HO3.out HB4.out, HOQ.out, HB3.out.trans (HB4.out.mono hs3)⟩
      · show _ = _
        rw [valTo_stable _ _ (by rw [hl0]; omega), val_snoc_zero, Nat.sub_self]
        simp [segTo]
      · show _ < _
        have q1 := (segTo_bounds hw0 K (e + 1)).2
        have q2 := HDG.out
        rw [show e + 2 = e + 1 + 1 by omega, segTo_succ, hz0', Int.zero_mul]
        omega
      · intro j hj
        rw [List.getElem?_eq_none (by rw [hl0]; omega)]; rfl
    case round =>
      obtain ⟨k, us, qs, hk, rfl, wu, wq, HV, HS, HZ, oU, oQ, hb⟩ := hrel
      have hbs := hb.size
      have hqb := oQ.base
      have hub := (World.ownsRow.lt oU gR rfl)
      have hlu := oU.len
      have hlq := oQ.len
      rcases k with _ | k
      · have hval : val us = valTo us (e + 2) := by
          have e1 : ∀ m, e + 2 ≤ m → valTo us m = valTo us (e + 2) := fun m hm => by
            induction m with
            | zero => omega
            | succ m ih =>
              by_cases c : e + 2 = m + 1
              · rw [c]
              · rw [valTo_succ, HZ.out m (by omega), ih (by omega)]; omega
          rw [← valTo_stable us (L + 1) (by omega)]
          exact e1 (L + 1) (by omega)
        have HF : Hid (val xs = val qs * val ys + val us / 2 ^ t ∧ val us / 2 ^ t < val ys) := by
          have e1 := HV.out
          have e2 := HS.out
          rw [segTo_zero, ← hval] at e2
          rw [segTo_zero, Nat.zero_add, Nat.sub_zero, valTo_stable qs K (by omega), Int.pow_zero, Int.mul_one, HVL.out, HVD.out, ← hval, ← Int.mul_assoc] at e1
          rw [HVD.out] at e2
          have hp := two_pos t
          have e3 : val us = (val xs - val qs * val ys) * 2 ^ t := by rw [Int.sub_mul]; omega
          have e4 : val us / 2 ^ t = val xs - val qs * val ys := by rw [e3]; exact Int.mul_ediv_cancel _ (by omega)
          refine ⟨by rw [e4]; omega, Int.ediv_lt_of_lt_mul hp e2⟩
        have hsQ : Sl wr (.slice (some ⟨w3.heap.size, 0, none⟩) K K) qs := by
          have e1 := Sl.own oQ wq
          exact e1
        have HTQ := hid (refTrim_sl _ qs wr hsQ (by omega))
        have HUO := hid oU
        have HBW : Hid (Below w.heap.size w wr) := HB1.out.trans (hb.mono HB1.out.size)
        clear HV HS HZ oU oQ hsQ hval hb
        go_wp2_with fail
        refine Calls.mono HTQ.out ?_
        rintro x w5 ⟨v5, rfl, o5, hb5⟩
        have HT5 := hid (And.intro o5 hb5)
        have HTR := hid (refTrim_sl _ us w5 (Sl.own (owns_later HUO.out hb5) wu) (by omega))
        clear o5 hb5 HTQ
        go_wp2_with fail
        refine Calls.mono HTR.out ?_
        rintro x w6 ⟨v6, rfl, o6, hb6⟩
        have HDN := hid (refDown_zero v6 (trimmed us) t w6 (Sl.own o6 wu.trimmed) (by rw [length_trimmed]; have := sz_le us; omega) s3)
        rw [val_trimmed] at HDN
        have HB6 := hid hb6
        clear o6 hb6 HTR
        go_wp2_with fail
        refine Calls.mono HDN.out ?_
        rintro x w7 ⟨v7, rs, rfl, o7, w7', t7, hv7, hb7⟩
        have HE := hid (And.intro o7 (And.intro hv7 hb7))
        clear o7 hv7 hb7 HDN
        go_wp2_with fail
        go_ret2
        have hb57 := bt HB6.out HE.out.2.2
        have hb07 := bt HBW.out (bt HT5.out.2 hb57)
        refine ⟨v5, _, v7, rs, rfl, owns_base (owns_len (owns_later HT5.out.1 hb57)) HBW.out.size, owns_base HE.out.1 (by have := HBW.out.size; have := HT5.out.2.size; have := HB6.out.size; omega), wq.trimmed, w7', Trimmed.trimmed _, t7, ?_, ?_, hb07⟩
        · rw [val_trimmed, HE.out.2.1]; exact HF.out.1
        · rw [HE.out.2.1]; exact HF.out.2
      · have ek : (((k + 1 : Nat) : Int) - 1) = (k : Int) := by omega
        rw [ek]
        clear ek
        have hs1 : segTo us k (e + 2 + 1) < 4294967296 * val ds := by
          have b0 := wu.at k
          have q := HS.out
          rw [segTo_cons]
          omega
        have HDG2 := hid (refDigit_any w1.heap.size gR (L + 1) cR k (e + 1) (cR - k) us a1 c1 ds wr oU wu (by omega) (by omega) (by omega) (by omega) (HD.out.later hb) HDl.out HDt.out hs1)
        have HOQ2 := hid oQ
        have HB5 := hid hb
        have hck : ¬ cR = k := by omega
        have HLS := hid (fun vs q wv => long_step us vs qs (e + 2) K k (val ls) (val ds) q (by omega) hlq wv HDM.out HV.out)
        have HZ2 := hid HZ.out
        clear oU oQ hb hs1 HV HS HZ
        go_wp2_with fail
        rw [show k + (e + 2) + 1 - k = e + 1 + 2 by omega]
        refine Calls.mono HDG2.out ?_
        rintro x w5 ⟨q, vs, rfl, q0, q1, oV, wv, kV, sV, ltV, gV⟩
        have hnq : (w3.heap.size : Nat) ≠ gR := by omega
        have oQ5 : OwnW w5 w3.heap.size w3.heap.size K qs := World.ownsRow.kept HOQ2.out gV (.inr (fun e => hnq (Option.some.inj e)))
        have y1 := oQ5.cell k (by omega)
        have f1 := oQ5.free k
        have HQ6 := hid (oQ5.set k q)
        have HR6 : Hid (OwnC (w5.setCell ⟨w3.heap.size, k, none⟩ (.int .u32 q)) w1.heap.size gR (L + 1) cR vs) := World.ownsRow.kept oV (grown_set' w5 ⟨w3.heap.size, k, none⟩ (.int .u32 q)) (.inr (fun e => hnq (Option.some.inj e).symm))
        have HB6 : Hid (Below w1.heap.size w1 (w5.setCell ⟨w3.heap.size, k, none⟩ (.int .u32 q))) := (HB5.out.grown gV hbs (fun g hg => by have := Option.some.inj hg; omega)).setCell (p := ⟨w3.heap.size, k, none⟩) hs3 _
        obtain ⟨r1, r2⟩ := HLS.out vs q wv (fun j hj => kV j (.inl hj)) sV ltV
        have HR := hid (And.intro r1 r2)
        have HZN : Hid (∀ j, k + (e + 2) ≤ j → vs[j]?.getD 0 = 0) := fun j hj => by
          by_cases c : j = k + (e + 2)
          · rw [c]; exact seg_end wv k (e + 2) HDM.out ltV
          · rw [kV j (.inr (by omega))]; exact HZ2.out j (by omega)
        clear oV kV sV ltV gV oQ5 r1 r2 HLS HZ2 HDG2
        go_wp2_with fail
        go_roundw
        case rel => exact ⟨k, vs, qs.set k q, by omega, rfl, wv, wq.set k ⟨q0, q1⟩, HR.out.1, HR.out.2, HZN, HR6.out, HQ6.out, HB6.out⟩
        case measure => simp [intOf]

theorem refOver_any (v u : Value) (xs ys : List Int) (w : World) (h : Sl w v xs) (g : Sl w u ys) (hn : xs.length ≤ 8200) (hm : ys.length ≤ 8200) (hx : Trimmed xs) (hy : Trimmed ys) (h0 : 0 < ys.length) :
    Calls Tryz.prog 72 #[v, u] w (Ref2 w xs ys) := by
  by_cases hlt : val xs < val ys
  · exact refOver_less v u xs ys w h g hn hm hlt
  · by_cases h1 : ys.length = 1
    · obtain ⟨y, rfl⟩ := List.length_eq_one_iff.1 h1
      have hy1 : 1 ≤ y := by
        have b := g.wd.head
        by_cases c : y = 0
        · subst c; exact absurd hy (by unfold Trimmed; decide)
        · omega
      rw [val_one] at hlt
      exact refOver_word v u xs y w h g hn hy1 (by omega)
    · exact refOver_long v u xs ys (ys.length - 2) w h g hn hm hx hy (by omega) (by omega)
end Go.Proofs.YtpehpflgfkdiaaaGreat

/- The document's own greatest common divisor: slackwaterref01.Common. -/
namespace Go.Proofs.YtpehpflgfkdiaaaGreat
open Go.RowKit
set_option linter.unusedVariables false

set_option maxHeartbeats 3200000 in
set_option maxRecDepth 100000 in
theorem refCommon_any (v u : Value) (xs ys : List Int) (w : World) (h : Sl w v xs) (g : Sl w u ys) (hn : xs.length ≤ 8200) (hm : ys.length ≤ 8200) (hx : Trimmed xs) (hy : Trimmed ys) :
    Calls Tryz.prog 77 #[v, u] w (Ref1 w (gcdI (val xs) (val ys))) := by
  have HS := hid (And.intro h g)
  obtain ⟨a, cap, rfl, hr⟩ := h
  obtain ⟨b, cap', rfl, gr⟩ := g
  clear hr gr
  go_enter Tryz.func77, Tryz.ntmps77
  go_wp2_with fail
  go_loopg [0, 1] (val ys).toNat (fun k s0 s1 wr => ∃ (a : Option Addr) (c : Nat) (us : List Int) (b : Option Addr) (d : Nat) (vs : List Int), s0 = .slice a us.length c ∧ s1 = .slice b vs.length d ∧ us.length ≤ 8200 ∧ vs.length ≤ 8200 ∧ Hid (Sl wr (.slice a us.length c) us ∧ Sl wr (.slice b vs.length d) vs ∧ Trimmed us ∧ Trimmed vs ∧ (k : Int) = val vs ∧ gcdI (val us) (val vs) = gcdI (val xs) (val ys)) ∧ Below w.heap.size w wr)
  case atStart => exact ⟨a, cap, xs, b, cap', ys, rfl, rfl, hn, hm, ⟨HS.out.1, HS.out.2, hx, hy, by have := val_nonneg HS.out.2.wd; omega, rfl⟩, Below.refl _ _⟩
  case round =>
    obtain ⟨a1, c1, us, b1, d1, vs, rfl, rfl, lu, lv, HR, hb⟩ := hrel
    by_cases h0 : vs.length = 0
    · have HF : Hid (val us = gcdI (val xs) (val ys)) := by
        have e1 : vs = [] := List.eq_nil_of_length_eq_zero h0
        have e2 := HR.out.2.2.2.2.2
        rw [e1, val_nil, gcdI_zero _ (val_nonneg HR.out.1.wd)] at e2
        exact e2
      have HT := hid (refTrim_sl _ us wr HR.out.1 (by omega))
      have HW := hid HR.out.1.wd
      rw [h0]
      clear HR HS h0 lv
      go_wp2_with fail
      refine Calls.mono HT.out ?_
      rintro e w3 ⟨v3, rfl, o3, hb3⟩
      have HO3 := hid (owns_base (owns_len o3) hb.size)
      have hbF := bt hb hb3
      clear o3 hb3
      go_wp2_with fail
      go_ret
      exact ⟨v3, _, rfl, HO3.out, HW.out.trimmed, Trimmed.trimmed _, by rw [val_trimmed]; exact HF.out, hbF⟩
    · have hpos : (0 : Int) < (vs.length : Int) := by omega
      have HO := hid (refOver_any _ _ us vs wr HR.out.1 HR.out.2.1 lu lv HR.out.2.2.1 HR.out.2.2.2.1 (by omega))
      have HB := hid hb
      clear hb HS
      go_wp2_with fail
      refine Calls.mono HO.out ?_
      rintro e w2 ⟨v2, zs, v3, rs, rfl, o2, o3, wz, wr', tz, tr, hv, hlt, hb2⟩
      obtain ⟨a3, c3, hs⟩ := own_slice' o3
      subst hs
      have lr : rs.length ≤ 8200 := by
        have := len_of_lt wr' tr (L := vs.length) (by have := val_lt HR.out.2.1.wd; omega)
        omega
      have HN : Hid (Sl w2 (.slice b1 vs.length d1) vs ∧ Sl w2 (.slice a3 rs.length c3) rs ∧ Trimmed vs ∧ Trimmed rs ∧ ((val rs).toNat : Int) = val rs ∧ gcdI (val vs) (val rs) = gcdI (val xs) (val ys)) :=
        ⟨HR.out.2.1.later hb2, Sl.own o3 wr', HR.out.2.2.2.1, tr, by have := val_nonneg wr'; omega, by rw [← HR.out.2.2.2.2.2]; exact (gcdI_rest hv).symm⟩
      have HM : Hid ((val rs).toNat < (val vs).toNat) := by have := val_nonneg wr'; show _ < _; omega
      have HBN := hid (bt HB.out hb2)
      have HKK := hid HR.out.2.2.2.2.1
      clear o2 o3 hv hlt hb2 HR HO HB
      go_wp2_with fail
      go_roundg (val rs).toNat
      case rel => exact ⟨b1, d1, vs, a3, c3, rs, rfl, rfl, lv, lr, HN, HBN.out⟩
      case measure => have := HM.out; have := HKK.out; omega
end Go.Proofs.YtpehpflgfkdiaaaGreat

/- The document's told: a number, if it is not too long. -/
namespace Go.Proofs.YtpehpflgfkdiaaaGreat
open Go.RowKit
set_option linter.unusedVariables false

set_option maxHeartbeats 800000 in
set_option maxRecDepth 100000 in
theorem refTold_ok (a : Option Addr) (n c : Nat) (w : World) (h : n ≤ 8192) :
    Calls Tryz.prog 73 #[.slice a n c] w fun e w' => e = .returned (.tuple #[.slice a n c, .int .i64 0]) ∧ w = w' := by
  have h' : ¬ (8192 : Int) < (n : Int) := by omega
  go_enter Tryz.func73, Tryz.ntmps73
  go_wp2_with fail
  go_ret2
  exact ⟨rfl, rfl⟩
set_option maxHeartbeats 800000 in
set_option maxRecDepth 100000 in
theorem refTold_long (a : Option Addr) (n c : Nat) (w : World) (h : 8192 < n) :
    Calls Tryz.prog 73 #[.slice a n c] w fun e w' => e = .returned (.tuple #[.slice none 0 0, .int .i64 3]) ∧ w = w' := by
  have h' : (8192 : Int) < (n : Int) := by omega
  go_enter Tryz.func73, Tryz.ntmps73
  go_wp2_with fail
  go_ret2
  exact ⟨rfl, rfl⟩
theorem trimmed_wide {zs : List Int} {t : Int} (hw : Wd zs) (ht : Trimmed zs) (hv : val zs = t) : 8192 < zs.length ↔ wide ≤ t := by
  rw [← hv, ← wide_iff hw]
  have e : sz zs = zs.length := ht
  rw [e]
end Go.Proofs.YtpehpflgfkdiaaaGreat

/- The document's own calls that may refuse: slackwaterref01.both, told, Add, Sub, Mul, DivMod, Gcd: of every two lists that can be read. -/
namespace Go.Proofs.YtpehpflgfkdiaaaGreat
open Go.RowKit
set_option linter.unusedVariables false

set_option maxHeartbeats 800000 in
set_option maxRecDepth 100000 in
theorem refBoth_sl (v u : Value) (xs ys : List Int) (w : World) (h : Sl w v xs) (g : Sl w u ys) (hn : xs.length ≤ 281474976710656) (hm : ys.length ≤ 281474976710656) :
    Calls Tryz.prog 71 #[v, u] w fun e w' => e = .returned (.int .i64 (both xs ys)) ∧ w = w' := by
  have H1 := hid (refCheck_sl v xs w h hn)
  have H2 := hid (refCheck_sl u ys w g hm)
  by_cases hc : chk xs = 0
  · have HE : Hid (both xs ys = chk ys) := by show _ = _; unfold both; rw [if_pos hc]
    rw [hc] at H1
    clear h g hc
    go_enter Tryz.func71, Tryz.ntmps71
    go_wp2_with fail
    refine Calls.mono H1.out ?_
    rintro e w1 ⟨rfl, rfl⟩
    go_wp2_with fail
    refine Calls.mono H2.out ?_
    rintro e w1 ⟨rfl, rfl⟩
    go_wp2_with fail
    go_ret
    exact ⟨ret_int HE.out.symm, rfl⟩
  · have HE : Hid (both xs ys = chk xs) := by show _ = _; unfold both; rw [if_neg hc]
    have hc' : (chk xs == 0) = false := by simpa using hc
    clear h g hc
    go_enter Tryz.func71, Tryz.ntmps71
    go_wp2_with fail
    refine Calls.mono H1.out ?_
    rintro e w1 ⟨rfl, rfl⟩
    go_wp2_with fail
    go_ret
    exact ⟨ret_int HE.out.symm, rfl⟩
set_option maxHeartbeats 1600000 in
set_option maxRecDepth 100000 in
theorem refAdd_sl (v u : Value) (xs ys : List Int) (w : World) (h : Sl w v xs) (g : Sl w u ys) (hn : xs.length ≤ 281474976710656) (hm : ys.length ≤ 281474976710656) :
    Calls Tryz.prog 45 #[v, u] w (Told w (both xs ys) (val xs + val ys)) := by
  by_cases hb : both xs ys = 0
  · have HB := hid (refBoth_sl v u xs ys w h g hn hm)
    rw [hb] at HB
    obtain ⟨k1, k2⟩ := both_ok hb
    obtain ⟨lx, tx⟩ := chk_ok k1
    obtain ⟨ly, ty⟩ := chk_ok k2
    have HP := hid (refPlus_sl v u xs ys w h g (by omega) (by omega))
    rw [hb]
    clear h g hb k1 k2
    go_enter Tryz.func45, Tryz.ntmps45
    go_wp2_with fail
    refine Calls.mono HB.out ?_
    rintro e w1 ⟨rfl, rfl⟩
    go_wp2_with fail
    refine Calls.mono HP.out ?_
    intro e w2 h2
    obtain ⟨a2, c2, zs, rfl, o2, wz, tz, vz, hb2⟩ := h2.slice
    have hwd := trimmed_wide wz tz vz
    have HR := hid (And.intro o2 (And.intro wz (And.intro tz (And.intro vz (And.intro hwd hb2)))))
    by_cases hlen : 8192 < zs.length
    · have HT := hid (refTold_long a2 zs.length c2 w2 hlen)
      have HL := hid (hwd.1 hlen)
      clear h2 o2 wz tz vz hwd hb2 hlen
      go_wp2_with fail
      refine Calls.mono HT.out ?_
      rintro e w3 ⟨rfl, rfl⟩
      go_wp2_with fail
      go_ret2
      exact ⟨_, [], 3, rfl, World.ownsRow_nil _ _ _ _, Tells.tooLong HL.out, HR.out.2.2.2.2.2⟩
    · have HT := hid (refTold_ok a2 zs.length c2 w2 (by omega))
      have HL := hid (Int.not_le.1 fun h => hlen (hwd.2 h))
      clear h2 o2 wz tz vz hwd hb2 hlen
      go_wp2_with fail
      refine Calls.mono HT.out ?_
      rintro e w3 ⟨rfl, rfl⟩
      go_wp2_with fail
      go_ret2
      exact ⟨_, zs, 0, rfl, HR.out.1, Tells.ok HR.out.2.1 HR.out.2.2.1 HR.out.2.2.2.1 HL.out, HR.out.2.2.2.2.2⟩
  · have HB := hid (refBoth_sl v u xs ys w h g hn hm)
    have hb' : (both xs ys == 0) = false := by simpa using hb
    have HE := hid hb
    clear h g hb
    go_enter Tryz.func45, Tryz.ntmps45
    go_wp2_with fail
    refine Calls.mono HB.out ?_
    rintro e w1 ⟨rfl, rfl⟩
    go_wp2_with fail
    go_ret2
    exact ⟨_, [], _, rfl, World.ownsRow_nil _ _ _ _, Tells.err HE.out, Below.refl _ _⟩

set_option maxHeartbeats 1600000 in
set_option maxRecDepth 100000 in
theorem refGcd_sl (v u : Value) (xs ys : List Int) (w : World) (h : Sl w v xs) (g : Sl w u ys) (hn : xs.length ≤ 281474976710656) (hm : ys.length ≤ 281474976710656) :
    Calls Tryz.prog 50 #[v, u] w (Told w (both xs ys) (gcdI (val xs) (val ys))) := by
  by_cases hb : both xs ys = 0
  · have HB := hid (refBoth_sl v u xs ys w h g hn hm)
    rw [hb] at HB
    obtain ⟨k1, k2⟩ := both_ok hb
    obtain ⟨lx, tx⟩ := chk_ok k1
    obtain ⟨ly, ty⟩ := chk_ok k2
    have HP := hid (refCommon_any v u xs ys w h g (by omega) (by omega) tx ty)
    rw [hb]
    clear h g hb k1 k2
    go_enter Tryz.func50, Tryz.ntmps50
    go_wp2_with fail
    refine Calls.mono HB.out ?_
    rintro e w1 ⟨rfl, rfl⟩
    go_wp2_with fail
    refine Calls.mono HP.out ?_
    intro e w2 h2
    obtain ⟨a2, c2, zs, rfl, o2, wz, tz, vz, hb2⟩ := h2.slice
    have hwd := trimmed_wide wz tz vz
    have HR := hid (And.intro o2 (And.intro wz (And.intro tz (And.intro vz (And.intro hwd hb2)))))
    by_cases hlen : 8192 < zs.length
    · have HT := hid (refTold_long a2 zs.length c2 w2 hlen)
      have HL := hid (hwd.1 hlen)
      clear h2 o2 wz tz vz hwd hb2 hlen
      go_wp2_with fail
      refine Calls.mono HT.out ?_
      rintro e w3 ⟨rfl, rfl⟩
      go_wp2_with fail
      go_ret2
      exact ⟨_, [], 3, rfl, World.ownsRow_nil _ _ _ _, Tells.tooLong HL.out, HR.out.2.2.2.2.2⟩
    · have HT := hid (refTold_ok a2 zs.length c2 w2 (by omega))
      have HL := hid (Int.not_le.1 fun h => hlen (hwd.2 h))
      clear h2 o2 wz tz vz hwd hb2 hlen
      go_wp2_with fail
      refine Calls.mono HT.out ?_
      rintro e w3 ⟨rfl, rfl⟩
      go_wp2_with fail
      go_ret2
      exact ⟨_, zs, 0, rfl, HR.out.1, Tells.ok HR.out.2.1 HR.out.2.2.1 HR.out.2.2.2.1 HL.out, HR.out.2.2.2.2.2⟩
  · have HB := hid (refBoth_sl v u xs ys w h g hn hm)
    have hb' : (both xs ys == 0) = false := by simpa using hb
    have HE := hid hb
    clear h g hb
    go_enter Tryz.func50, Tryz.ntmps50
    go_wp2_with fail
    refine Calls.mono HB.out ?_
    rintro e w1 ⟨rfl, rfl⟩
    go_wp2_with fail
    go_ret2
    exact ⟨_, [], _, rfl, World.ownsRow_nil _ _ _ _, Tells.err HE.out, Below.refl _ _⟩

set_option maxHeartbeats 1600000 in
set_option maxRecDepth 100000 in
theorem refSub_sl (v u : Value) (xs ys : List Int) (w : World) (h : Sl w v xs) (g : Sl w u ys) (hn : xs.length ≤ 281474976710656) (hm : ys.length ≤ 281474976710656) :
    Calls Tryz.prog 84 #[v, u] w (Told w (if both xs ys = 0 then (if val xs < val ys then 2 else 0) else both xs ys) (val xs - val ys)) := by
  by_cases hb : both xs ys = 0
  · have HB := hid (refBoth_sl v u xs ys w h g hn hm)
    rw [hb] at HB
    obtain ⟨k1, k2⟩ := both_ok hb
    obtain ⟨lx, tx⟩ := chk_ok k1
    obtain ⟨ly, ty⟩ := chk_ok k2
    rw [if_pos hb]
    have HC := hid (refCompare_sl v u xs ys w h g (by omega) (by omega))
    by_cases hlt : val xs < val ys
    · rw [if_pos hlt]
      rw [cmpI_lt hlt] at HC
      clear h g hb k1 k2 hlt
      go_enter Tryz.func84, Tryz.ntmps84
      go_wp2_with fail
      refine Calls.mono HB.out ?_
      rintro e w1 ⟨rfl, rfl⟩
      go_wp2_with fail
      refine Calls.mono HC.out ?_
      rintro e w1 ⟨rfl, rfl⟩
      go_wp2_with fail
      go_ret2
      exact ⟨_, [], 2, rfl, World.ownsRow_nil _ _ _ _, Tells.err (by decide), Below.refl _ _⟩
    · rw [if_neg hlt]
      have HP := hid (refLess_sl v u xs ys w h g (by omega) (by omega) (by omega))
      obtain ⟨c, hcc, hcv⟩ : ∃ c, cmpI (val xs) (val ys) = c ∧ ¬ c < 0 ∧ c ≤ 1 := by
        by_cases e : val xs = val ys
        · exact ⟨0, cmpI_eq e, by omega, by omega⟩
        · exact ⟨1, cmpI_gt (by omega), by omega, by omega⟩
      obtain ⟨c0, c1⟩ := hcv
      rw [hcc] at HC
      clear h g hb k1 k2 hlt hcc
      go_enter Tryz.func84, Tryz.ntmps84
      go_wp2_with fail
      refine Calls.mono HB.out ?_
      rintro e w1 ⟨rfl, rfl⟩
      go_wp2_with fail
      refine Calls.mono HC.out ?_
      rintro e w1 ⟨rfl, rfl⟩
      go_wp2_with fail
      refine Calls.mono HP.out ?_
      intro e w2 h2
      obtain ⟨a2, c2, zs, rfl, o2, wz, tz, vz, hb2⟩ := h2.slice
      have hwd := trimmed_wide wz tz vz
      have HR := hid (And.intro o2 (And.intro wz (And.intro tz (And.intro vz (And.intro hwd hb2)))))
      by_cases hlen : 8192 < zs.length
      · have HT := hid (refTold_long a2 zs.length c2 w2 hlen)
        have HL := hid (hwd.1 hlen)
        clear h2 o2 wz tz vz hwd hb2 hlen
        go_wp2_with fail
        refine Calls.mono HT.out ?_
        rintro e w3 ⟨rfl, rfl⟩
        go_wp2_with fail
        go_ret2
        exact ⟨_, [], 3, rfl, World.ownsRow_nil _ _ _ _, Tells.tooLong HL.out, HR.out.2.2.2.2.2⟩
      · have HT := hid (refTold_ok a2 zs.length c2 w2 (by omega))
        have HL := hid (Int.not_le.1 fun h => hlen (hwd.2 h))
        clear h2 o2 wz tz vz hwd hb2 hlen
        go_wp2_with fail
        refine Calls.mono HT.out ?_
        rintro e w3 ⟨rfl, rfl⟩
        go_wp2_with fail
        go_ret2
        exact ⟨_, zs, 0, rfl, HR.out.1, Tells.ok HR.out.2.1 HR.out.2.2.1 HR.out.2.2.2.1 HL.out, HR.out.2.2.2.2.2⟩
  · rw [if_neg hb]
    have HB := hid (refBoth_sl v u xs ys w h g hn hm)
    have hb' : (both xs ys == 0) = false := by simpa using hb
    have HE := hid hb
    clear h g hb
    go_enter Tryz.func84, Tryz.ntmps84
    go_wp2_with fail
    refine Calls.mono HB.out ?_
    rintro e w1 ⟨rfl, rfl⟩
    go_wp2_with fail
    go_ret2
    exact ⟨_, [], _, rfl, World.ownsRow_nil _ _ _ _, Tells.err HE.out, Below.refl _ _⟩

set_option maxHeartbeats 1600000 in
set_option maxRecDepth 100000 in
theorem refMul_sl (v u : Value) (xs ys : List Int) (w : World) (h : Sl w v xs) (g : Sl w u ys) (hn : xs.length ≤ 281474976710656) (hm : ys.length ≤ 281474976710656) :
    Calls Tryz.prog 64 #[v, u] w (Told w (both xs ys) (val xs * val ys)) := by
  by_cases hb : both xs ys = 0
  · have HB := hid (refBoth_sl v u xs ys w h g hn hm)
    rw [hb] at HB
    obtain ⟨k1, k2⟩ := both_ok hb
    obtain ⟨lx, tx⟩ := chk_ok k1
    obtain ⟨ly, ty⟩ := chk_ok k2
    have HP := hid (refTimes_sl v u xs ys w h g (by omega) (by omega))
    rw [hb]
    have wx := h.wd
    have wy := g.wd
    have HV := hid (And.intro h g)
    obtain ⟨a, cap, rfl, hr⟩ := h
    obtain ⟨b, cap', rfl, gr⟩ := g
    clear hr gr
    by_cases hx0 : 0 < xs.length
    · have hx1 : (0 : Int) < (xs.length : Int) := by omega
      by_cases hy0 : 0 < ys.length
      · have hy1 : (0 : Int) < (ys.length : Int) := by omega
        by_cases hlong : 8192 < xs.length + ys.length - 1
        · have HL : Hid (wide ≤ val xs * val ys) := by
            show _ ≤ _
            have e1 := val_ge wx tx hx0
            have e2 := val_ge wy ty hy0
            have e3 : (4294967296 : Int) ^ (xs.length - 1) * 4294967296 ^ (ys.length - 1) ≤ val xs * val ys := Int.mul_le_mul e1 e2 (Int.le_of_lt (pw_pos _)) (val_nonneg wx)
            rw [← Int.pow_add] at e3
            have e4 : wide ≤ (4294967296 : Int) ^ (xs.length - 1 + (ys.length - 1)) := pw_le (by omega)
            omega
          have hl1 : (8192 : Int) < (xs.length : Int) + (ys.length : Int) - 1 := by omega
          clear hb k1 k2 hlong HV HP
          go_enter Tryz.func64, Tryz.ntmps64
          go_wp2_with fail
          refine Calls.mono HB.out ?_
          rintro e w1 ⟨rfl, rfl⟩
          go_wp2_with fail
          go_ret2
          exact ⟨_, [], 3, rfl, World.ownsRow_nil _ _ _ _, Tells.tooLong HL.out, Below.refl _ _⟩
        · have hl1 : ¬ (8192 : Int) < (xs.length : Int) + (ys.length : Int) - 1 := by omega
          clear hb k1 k2 hlong HV
          go_enter Tryz.func64, Tryz.ntmps64
          go_wp2_with fail
          refine Calls.mono HB.out ?_
          rintro e w1 ⟨rfl, rfl⟩
          go_wp2_with fail
          refine Calls.mono HP.out ?_
          intro e w2 h2
          obtain ⟨a2, c2, zs, rfl, o2, wz, tz, vz, hb2⟩ := h2.slice
          have hwd := trimmed_wide wz tz vz
          have HR := hid (And.intro o2 (And.intro wz (And.intro tz (And.intro vz (And.intro hwd hb2)))))
          by_cases hlen : 8192 < zs.length
          · have HT := hid (refTold_long a2 zs.length c2 w2 hlen)
            have HL := hid (hwd.1 hlen)
            clear h2 o2 wz tz vz hwd hb2 hlen
            go_wp2_with fail
            refine Calls.mono HT.out ?_
            rintro e w3 ⟨rfl, rfl⟩
            go_wp2_with fail
            go_ret2
            exact ⟨_, [], 3, rfl, World.ownsRow_nil _ _ _ _, Tells.tooLong HL.out, HR.out.2.2.2.2.2⟩
          · have HT := hid (refTold_ok a2 zs.length c2 w2 (by omega))
            have HL := hid (Int.not_le.1 fun h => hlen (hwd.2 h))
            clear h2 o2 wz tz vz hwd hb2 hlen
            go_wp2_with fail
            refine Calls.mono HT.out ?_
            rintro e w3 ⟨rfl, rfl⟩
            go_wp2_with fail
            go_ret2
            exact ⟨_, zs, 0, rfl, HR.out.1, Tells.ok HR.out.2.1 HR.out.2.2.1 HR.out.2.2.2.1 HL.out, HR.out.2.2.2.2.2⟩
      · have hy2 : ys.length = 0 := by omega
        rw [hy2] at HP HB ⊢
        clear hb k1 k2 HV hy0
        go_enter Tryz.func64, Tryz.ntmps64
        go_wp2_with fail
        refine Calls.mono HB.out ?_
        rintro e w1 ⟨rfl, rfl⟩
        go_wp2_with fail
        refine Calls.mono HP.out ?_
        intro e w2 h2
        obtain ⟨a2, c2, zs, rfl, o2, wz, tz, vz, hb2⟩ := h2.slice
        have hwd := trimmed_wide wz tz vz
        have HR := hid (And.intro o2 (And.intro wz (And.intro tz (And.intro vz (And.intro hwd hb2)))))
        by_cases hlen : 8192 < zs.length
        · have HT := hid (refTold_long a2 zs.length c2 w2 hlen)
          have HL := hid (hwd.1 hlen)
          clear h2 o2 wz tz vz hwd hb2 hlen
          go_wp2_with fail
          refine Calls.mono HT.out ?_
          rintro e w3 ⟨rfl, rfl⟩
          go_wp2_with fail
          go_ret2
          exact ⟨_, [], 3, rfl, World.ownsRow_nil _ _ _ _, Tells.tooLong HL.out, HR.out.2.2.2.2.2⟩
        · have HT := hid (refTold_ok a2 zs.length c2 w2 (by omega))
          have HL := hid (Int.not_le.1 fun h => hlen (hwd.2 h))
          clear h2 o2 wz tz vz hwd hb2 hlen
          go_wp2_with fail
          refine Calls.mono HT.out ?_
          rintro e w3 ⟨rfl, rfl⟩
          go_wp2_with fail
          go_ret2
          exact ⟨_, zs, 0, rfl, HR.out.1, Tells.ok HR.out.2.1 HR.out.2.2.1 HR.out.2.2.2.1 HL.out, HR.out.2.2.2.2.2⟩
    · have hx2 : xs.length = 0 := by omega
      rw [hx2] at HP HB ⊢
      clear hb k1 k2 HV hx0
      go_enter Tryz.func64, Tryz.ntmps64
      go_wp2_with fail
      refine Calls.mono HB.out ?_
      rintro e w1 ⟨rfl, rfl⟩
      go_wp2_with fail
      refine Calls.mono HP.out ?_
      intro e w2 h2
      obtain ⟨a2, c2, zs, rfl, o2, wz, tz, vz, hb2⟩ := h2.slice
      have hwd := trimmed_wide wz tz vz
      have HR := hid (And.intro o2 (And.intro wz (And.intro tz (And.intro vz (And.intro hwd hb2)))))
      by_cases hlen : 8192 < zs.length
      · have HT := hid (refTold_long a2 zs.length c2 w2 hlen)
        have HL := hid (hwd.1 hlen)
        clear h2 o2 wz tz vz hwd hb2 hlen
        go_wp2_with fail
        refine Calls.mono HT.out ?_
        rintro e w3 ⟨rfl, rfl⟩
        go_wp2_with fail
        go_ret2
        exact ⟨_, [], 3, rfl, World.ownsRow_nil _ _ _ _, Tells.tooLong HL.out, HR.out.2.2.2.2.2⟩
      · have HT := hid (refTold_ok a2 zs.length c2 w2 (by omega))
        have HL := hid (Int.not_le.1 fun h => hlen (hwd.2 h))
        clear h2 o2 wz tz vz hwd hb2 hlen
        go_wp2_with fail
        refine Calls.mono HT.out ?_
        rintro e w3 ⟨rfl, rfl⟩
        go_wp2_with fail
        go_ret2
        exact ⟨_, zs, 0, rfl, HR.out.1, Tells.ok HR.out.2.1 HR.out.2.2.1 HR.out.2.2.2.1 HL.out, HR.out.2.2.2.2.2⟩
  · have HB := hid (refBoth_sl v u xs ys w h g hn hm)
    have hb' : (both xs ys == 0) = false := by simpa using hb
    have HE := hid hb
    clear h g hb
    go_enter Tryz.func64, Tryz.ntmps64
    go_wp2_with fail
    refine Calls.mono HB.out ?_
    rintro e w1 ⟨rfl, rfl⟩
    go_wp2_with fail
    go_ret2
    exact ⟨_, [], _, rfl, World.ownsRow_nil _ _ _ _, Tells.err HE.out, Below.refl _ _⟩

set_option maxHeartbeats 1600000 in
set_option maxRecDepth 100000 in
theorem refDivMod_any (v u : Value) (xs ys : List Int) (w : World) (h : Sl w v xs) (g : Sl w u ys) (lx : xs.length ≤ 8192) (ly : ys.length ≤ 8192) (tx : Trimmed xs) (ty : Trimmed ys) (h0 : 0 < ys.length) :
    Calls Tryz.prog 44 #[v, u] w fun e w' => ∃ v1 u1 q r, e = .returned (.tuple #[v1, u1, .int .i64 0]) ∧ w'.ownsRow w.heap.size 60 1 v1 q.length (q.map (Value.int .u32)) ∧ w'.ownsRow w.heap.size 60 1 u1 r.length (r.map (Value.int .u32)) ∧ Wd q ∧ Wd r ∧ Trimmed q ∧ Trimmed r ∧ val xs = val q * val ys + val r ∧ val r < val ys ∧ Below w.heap.size w w' := by
  have HB := hid (refBoth_sl v u xs ys w h g (by omega) (by omega))
  have HP := hid (refOver_any v u xs ys w h g (by omega) (by omega) tx ty h0)
  rw [both_good (chk_good lx tx) (chk_good ly ty)] at HB
  obtain ⟨a, cap, rfl, hr⟩ := h
  obtain ⟨b, cap', rfl, gr⟩ := g
  have h1 : ((ys.length : Int) == 0) = false := by simp; exact fun e => by rw [e] at h0; simp at h0
  clear hr gr
  go_enter Tryz.func44, Tryz.ntmps44
  go_wp2_with fail
  refine Calls.mono HB.out ?_
  rintro e w1 ⟨rfl, rfl⟩
  go_wp2_with fail
  refine Calls.mono HP.out ?_
  rintro e w2 ⟨v2, zs, v3, rs, rfl, o2, o3, wz, wr', tz, tr, hv, hlt, hb2⟩
  have HR := hid (And.intro o2 (And.intro o3 (And.intro hv (And.intro hlt hb2))))
  clear o2 o3 hv hlt hb2 HP HB
  go_wp2_with fail
  go_ret3
  exact ⟨v2, v3, zs, rs, rfl, HR.out.1, HR.out.2.1, wz, wr', tz, tr, HR.out.2.2.1, HR.out.2.2.2.1, HR.out.2.2.2.2⟩
set_option maxHeartbeats 1600000 in
set_option maxRecDepth 100000 in
theorem refDivMod_err (v u : Value) (xs ys : List Int) (w : World) (h : Sl w v xs) (g : Sl w u ys) (hn : xs.length ≤ 281474976710656) (hm : ys.length ≤ 281474976710656) (hb : both xs ys ≠ 0) :
    Calls Tryz.prog 44 #[v, u] w fun e w' => e = .returned (.tuple #[.slice none 0 0, .slice none 0 0, .int .i64 (both xs ys)]) ∧ w = w' := by
  have HB := hid (refBoth_sl v u xs ys w h g hn hm)
  have hb' : (both xs ys == 0) = false := by simpa using hb
  have HE := hid hb
  clear h g hb
  go_enter Tryz.func44, Tryz.ntmps44
  go_wp2_with fail
  refine Calls.mono HB.out ?_
  rintro e w1 ⟨rfl, rfl⟩
  go_wp2_with fail
  go_ret3
  exact ⟨rfl, rfl⟩
set_option maxHeartbeats 1600000 in
set_option maxRecDepth 100000 in
theorem refDivMod_zero (v u : Value) (xs : List Int) (w : World) (h : Sl w v xs) (g : Sl w u []) (hn : xs.length ≤ 281474976710656) (hb : both xs [] = 0) :
    Calls Tryz.prog 44 #[v, u] w fun e w' => e = .returned (.tuple #[.slice none 0 0, .slice none 0 0, .int .i64 7]) ∧ w = w' := by
  have HB := hid (refBoth_sl v u xs [] w h g hn (by simp))
  rw [hb] at HB
  obtain ⟨a, cap, rfl, hr⟩ := h
  obtain ⟨b, cap', rfl, gr⟩ := g
  have hl0 : List.length ([] : List Int) = 0 := rfl
  rw [hl0] at HB ⊢
  clear hr gr hl0
  go_enter Tryz.func44, Tryz.ntmps44
  go_wp2_with fail
  refine Calls.mono HB.out ?_
  rintro e w1 ⟨rfl, rfl⟩
  go_wp2_with fail
  go_ret3
  exact ⟨rfl, rfl⟩
end Go.Proofs.YtpehpflgfkdiaaaGreat

/- A struct variable that is written: what lies elsewhere stays. -/
namespace Go.Proofs.YtpehpflgfkdiaaaGreat
open Go.RowKit
set_option linter.unusedVariables false

theorem Sl.put2 {U : World} {v : Value} {xs : List Int} {b t : Nat} {n : Bool} {a : Option Addr} {k c : Nat} (h : Sl U v xs) (hb : Box U b t #[.bool n, .slice a k c]) (v0 v1 : Value) : Sl ((U.setCell ⟨b, 0, none⟩ v0).setCell ⟨b, 1, none⟩ v1) v xs := by
  obtain ⟨a', cap, rfl, h1, h2, h3, h4⟩ := h
  refine ⟨a', cap, rfl, h1, h2, ?_, h4⟩
  rcases h3 with h0 | ⟨bb, o, rfl, hlt, hc⟩
  · exact .inl h0
  · by_cases hl : xs.length = 0
    · exact .inl hl
    · right
      have hne : bb ≠ b := fun e => by
        subst e
        have e1 := hc 0 (by omega)
        rw [Nat.add_zero, hb.cell o] at e1
        match o with
        | 0 => simp at e1
        | 1 => simp at e1
        | o + 2 => simp at e1
      refine ⟨bb, o, rfl, by simpa [World.setCell] using hlt, fun j hj => ?_⟩
      have e1 := World.cell?_of_block (w := U) (w' := U.setCell ⟨b, 0, none⟩ v0) (a := ⟨bb, o + j, none⟩) (Below.heap_setCell U ⟨b, 0, none⟩ v0 bb hne)
      have e2 := World.cell?_of_block (w := U.setCell ⟨b, 0, none⟩ v0) (w' := (U.setCell ⟨b, 0, none⟩ v0).setCell ⟨b, 1, none⟩ v1) (a := ⟨bb, o + j, none⟩) (Below.heap_setCell _ ⟨b, 1, none⟩ v1 bb hne)
      rw [e2, e1]
      exact hc j hj
theorem Box.put2 {U : World} {b t : Nat} {u0 u1 : Value} (h : Box U b t #[u0, u1]) (v0 v1 : Value) : Box ((U.setCell ⟨b, 0, none⟩ v0).setCell ⟨b, 1, none⟩ v1) b t #[v0, v1] := (h.set 0 v0).set 1 v1
theorem Box.far2 {U : World} {b t b' : Nat} {vs : Array Value} (h : Box U b t vs) (hne : b ≠ b') (v0 v1 : Value) : Box ((U.setCell ⟨b', 0, none⟩ v0).setCell ⟨b', 1, none⟩ v1) b t vs := (h.other ⟨b', 0, none⟩ v0 hne).other ⟨b', 1, none⟩ v1 hne
theorem own_ne_box {U : World} {base e n b t : Nat} {v : Value} {xs : List Value} {vs : Array Value} (h : U.ownsRow base e 1 v n xs) (hb : Box U b t vs) (hne : e ≠ t) : ∀ g, v.ownBlock = some g → g ≠ b := fun g hg => by
  rcases h.2 with ⟨rfl, _⟩ | ⟨g1, c1, u1, rfl, _, hg1, _⟩
  · simp [Value.ownBlock] at hg
  · simp [Value.ownBlock] at hg
    subst hg
    intro e1
    subst e1
    unfold Box at hb
    rw [hg1] at hb
    simp at hb
    exact hne hb.2
/-- A whole number in memory that may be, in new memory. -/
structure Pb (U : World) (base b : Nat) (n : Bool) (a : Option Addr) (c : Nat) (zs : List Int) : Prop where
  box : Box U b 37 #[.bool n, .slice a zs.length c]
  own : U.ownsRow base 60 1 (.slice a zs.length c) zs.length (zs.map (Value.int .u32))
  wd : Wd zs
  ok : wchk n zs = 0
/-- A whole number in memory that may be. -/
structure Ab (U : World) (b : Nat) (n : Bool) (a : Option Addr) (c : Nat) (xs : List Int) : Prop where
  box : Box U b 37 #[.bool n, .slice a xs.length c]
  sl : Sl U (.slice a xs.length c) xs
  ok : wchk n xs = 0
theorem Pb.later {U V : World} {base b : Nat} {n : Bool} {a : Option Addr} {c : Nat} {zs : List Int} (h : Pb U base b n a c zs) (hb : Below U.heap.size U V) : Pb V base b n a c zs := ⟨h.box.later hb h.box.lt, owns_later h.own hb, h.wd, h.ok⟩
theorem Ab.later {U V : World} {b : Nat} {n : Bool} {a : Option Addr} {c : Nat} {zs : List Int} (h : Ab U b n a c zs) (hb : Below U.heap.size U V) : Ab V b n a c zs := ⟨h.box.later hb h.box.lt, h.sl.later hb, h.ok⟩
theorem Pb.far {U : World} {base b : Nat} {n : Bool} {a : Option Addr} {c : Nat} {zs : List Int} (h : Pb U base b n a c zs) {b' : Nat} {n' : Bool} {a' : Option Addr} {k' c' : Nat} (hb : Box U b' 37 #[.bool n', .slice a' k' c']) (hne : b ≠ b') (v0 v1 : Value) : Pb ((U.setCell ⟨b', 0, none⟩ v0).setCell ⟨b', 1, none⟩ v1) base b n a c zs :=
  ⟨h.box.far2 hne v0 v1, own_put2 h.own b' (own_ne_box h.own hb (by decide)) v0 v1, h.wd, h.ok⟩
theorem Ab.far {U : World} {b : Nat} {n : Bool} {a : Option Addr} {c : Nat} {zs : List Int} (h : Ab U b n a c zs) {b' : Nat} {n' : Bool} {a' : Option Addr} {k' c' : Nat} (hb : Box U b' 37 #[.bool n', .slice a' k' c']) (hne : b ≠ b') (v0 v1 : Value) : Ab ((U.setCell ⟨b', 0, none⟩ v0).setCell ⟨b', 1, none⟩ v1) b n a c zs :=
  ⟨h.box.far2 hne v0 v1, h.sl.put2 hb v0 v1, h.ok⟩
theorem Pb.put {U : World} {base b : Nat} {n' : Bool} {a' : Option Addr} {k' c' : Nat} (hb : Box U b 37 #[.bool n', .slice a' k' c']) {n : Bool} {a : Option Addr} {c : Nat} {zs : List Int} (ho : U.ownsRow base 60 1 (.slice a zs.length c) zs.length (zs.map (Value.int .u32))) (hw : Wd zs) (hk : wchk n zs = 0) :
    Pb ((U.setCell ⟨b, 0, none⟩ (.bool n)).setCell ⟨b, 1, none⟩ (.slice a zs.length c)) base b n a c zs := ⟨hb.put2 _ _, own_put2 ho b (own_ne_box ho hb (by decide)) _ _, hw, hk⟩
theorem Ab.put {U : World} {b : Nat} {n' : Bool} {a' : Option Addr} {k' c' : Nat} (hb : Box U b 37 #[.bool n', .slice a' k' c']) {n : Bool} {a : Option Addr} {c : Nat} {zs : List Int} (hs : Sl U (.slice a zs.length c) zs) (hk : wchk n zs = 0) :
    Ab ((U.setCell ⟨b, 0, none⟩ (.bool n)).setCell ⟨b, 1, none⟩ (.slice a zs.length c)) b n a c zs := ⟨hb.put2 _ _, hs.put2 hb _ _, hk⟩
theorem Pb.c {U : World} {base b : Nat} {n : Bool} {a : Option Addr} {c : Nat} {zs : List Int} (h : Pb U base b n a c zs) : U.cell? ⟨b, 0, none⟩ = some (.bool n) ∧ U.cell? ⟨b, 1, none⟩ = some (.slice a zs.length c) ∧ U.frozen? ⟨b, 0, none⟩ = false ∧ U.frozen? ⟨b, 1, none⟩ = false := ⟨h.box.cell 0, h.box.cell 1, h.box.free 0, h.box.free 1⟩
theorem Ab.c {U : World} {b : Nat} {n : Bool} {a : Option Addr} {c : Nat} {zs : List Int} (h : Ab U b n a c zs) : U.cell? ⟨b, 0, none⟩ = some (.bool n) ∧ U.cell? ⟨b, 1, none⟩ = some (.slice a zs.length c) ∧ U.frozen? ⟨b, 0, none⟩ = false ∧ U.frozen? ⟨b, 1, none⟩ = false := ⟨h.box.cell 0, h.box.cell 1, h.box.free 0, h.box.free 1⟩
theorem Box.c2 {U : World} {b t : Nat} {u0 u1 : Value} (h : Box U b t #[u0, u1]) : U.cell? ⟨b, 0, none⟩ = some u0 ∧ U.cell? ⟨b, 1, none⟩ = some u1 ∧ U.frozen? ⟨b, 0, none⟩ = false ∧ U.frozen? ⟨b, 1, none⟩ = false := ⟨h.cell 0, h.cell 1, h.free 0, h.free 1⟩
theorem wchk_one {n : Bool} {zs : List Int} (l : zs.length ≤ 2048) (t : Trimmed zs) (s : n = false ∨ 0 < zs.length) : wchk n zs = 0 := wchk_good l t s
end Go.Proofs.YtpehpflgfkdiaaaGreat

/- The document's own whole numbers: slackwaterref02.Check, Product. -/
namespace Go.Proofs.YtpehpflgfkdiaaaGreat
open Go.RowKit
set_option linter.unusedVariables false

theorem chk_last {xs : List Int} (hl : xs.length ≤ 2048) : chk xs = 0 ↔ xs.length = 0 ∨ ¬ xs[xs.length - 1]?.getD 0 = 0 := by
  rw [← sz_eq_iff]
  constructor
  · intro h; exact (chk_ok h).2
  · intro h; exact chk_good (by omega) h

/-- A whole number in its one form, of any length, in new memory. -/
def WNum (w : World) (t : Int) (x : Ending) (w' : World) : Prop := ∃ n v zs, x = .returned (.agg #[.bool n, v]) ∧ w'.ownsRow w.heap.size 60 1 v zs.length (zs.map (Value.int .u32)) ∧ Wd zs ∧ Trimmed zs ∧ (n = false ∨ 0 < zs.length) ∧ wval n zs = t ∧ Below w.heap.size w w'
end Go.Proofs.YtpehpflgfkdiaaaGreat

/- The document's own fractions: over, trimmed, whole, one, size. -/
namespace Go.Proofs.YtpehpflgfkdiaaaGreat
open Go.RowKit
set_option linter.unusedVariables false

set_option maxHeartbeats 800000 in
set_option maxRecDepth 100000 in
theorem over3_any (v u : Value) (xs ys : List Int) (w : World) (h : Sl w v xs) (g : Sl w u ys) (lx : xs.length ≤ 8192) (ly : ys.length ≤ 8192) (tx : Trimmed xs) (ty : Trimmed ys) (h0 : 0 < ys.length) :
    Calls Tryz.prog 63 #[v, u] w (Told1 w (val xs / val ys)) := by
  have HH := hid (refDivMod_any v u xs ys w h g lx ly tx ty h0)
  obtain ⟨a, cap, rfl, hr⟩ := h
  obtain ⟨b, cap', rfl, gr⟩ := g
  clear hr gr
  go_enter Tryz.func63, Tryz.ntmps63
  go_wp2_with fail
  refine Calls.mono HH.out ?_
  rintro e w1 ⟨v1, v2, q, r, rfl, o1, o2, wq, wr, tq, tr, hq, hr, hb1⟩
  have hv : val q = val xs / val ys := by
    have r0 := val_nonneg wr
    rw [hq, Int.add_comm, Int.add_mul_ediv_right _ _ (by omega), Int.ediv_eq_zero_of_lt r0 hr]
    omega
  obtain ⟨a1, c1, hs1⟩ := own_slice' o1
  subst hs1
  obtain ⟨a2, c2, hs2⟩ := own_slice' o2
  subst hs2
  have HE := hid (And.intro o1 (And.intro wq (And.intro tq (And.intro hv hb1))))
  clear o1 o2 wq wr tq tr hq hr hb1 hv HH
  go_wp2_with fail
  go_ret
  exact ⟨_, q, rfl, HE.out.1, HE.out.2.1, HE.out.2.2.1, HE.out.2.2.2.1, HE.out.2.2.2.2⟩

set_option maxHeartbeats 1600000 in
set_option maxRecDepth 100000 in
theorem trimmed3_any (v : Value) (xs : List Int) (w : World) (h : Sl w v xs) (hn : xs.length ≤ 281474976710656) :
    Calls Tryz.prog 49 #[v] w fun e w' => e = .returned (.bool (decide (sz xs = xs.length))) ∧ Below w.heap.size w w' := by
  have wx := h.wd
  obtain ⟨a, cap, rfl, hr⟩ := h
  have HCL := hid hr.cells
  have hcap := hr.2.2.2.1
  have hcap2 := hr.2.2.2.2.1
  have HB := hid (Below.refl w.heap.size w)
  clear hr
  have hcl : Trimmed xs ↔ xs.length = 0 ∨ ¬ xs[xs.length - 1]?.getD 0 = 0 := by rw [← sz_eq_iff]; exact Iff.rfl
  obtain ⟨k, hk⟩ : ∃ k, xs.length = k := ⟨_, rfl⟩
  rw [hk] at hcl
  by_cases h0 : k = 0
  · subst h0
    have HW : Hid (decide (sz xs = xs.length) = true) := by show _ = _; exact decide_eq_true (hcl.2 (.inl rfl))
    rw [HW.out, hk]
    clear hk hcl HCL wx
    go_enter Tryz.func49, Tryz.ntmps49
    go_wp2_with fail
    go_ret
    exact ⟨rfl, HB.out⟩
  · obtain ⟨m, hm⟩ : ∃ m, k = m + 1 := ⟨k - 1, by omega⟩
    subst hm
    have bx := wx.at m
    rw [show m + 1 - 1 = m by omega] at hcl
    have hkz : ((m : Int) + 1 == 0) = false := beq_eq_false_iff_ne.2 (by omega)
    have hm1 : (m : Int) ≤ 281474976710656 := by omega
    rw [hk] at HCL hcap ⊢
    obtain ⟨b1, o1, rfl, l1, cx⟩ := HCL.out m (by omega)
    have him : ((m + 1 : Nat) : Int) - 1 = (m : Int) := by omega
    by_cases hz : xs[m]?.getD 0 = 0
    · have HW : Hid (decide (sz xs = xs.length) = false) := by show _ = _; exact decide_eq_false (fun h => (hcl.1 h).elim (fun e => by omega) (fun e => e hz))
      rw [hk] at HW
      rw [HW.out]
      rw [hz] at cx
      clear hk hcl HCL hz bx wx
      go_enter Tryz.func49, Tryz.ntmps49
      go_wp2_with fail
      go_ret
      exact ⟨rfl, HB.out⟩
    · have HW : Hid (decide (sz xs = xs.length) = true) := by show _ = _; exact decide_eq_true (hcl.2 (.inr hz))
      rw [hk] at HW
      rw [HW.out]
      obtain ⟨X, hX⟩ : ∃ X, xs[m]?.getD 0 = X := ⟨_, rfl⟩
      rw [hX] at cx hz bx
      have hzb : (X != 0) = true := by simp [hz]
      clear hk hcl HCL hX wx
      go_enter Tryz.func49, Tryz.ntmps49
      go_wp2_with fail
      go_ret
      exact ⟨rfl, HB.out⟩

theorem one3_any (w : World) : Calls Tryz.prog 46 #[] w fun e w' => ∃ g, e = .returned (.slice (some ⟨g, 0, none⟩) 1 1) ∧ w'.ownsRow w.heap.size 60 1 (.slice (some ⟨g, 0, none⟩) 1 1) 1 ([(1 : Int)].map (Value.int .u32)) ∧ Below w.heap.size w w' := by
  have HO : Hid ((w.alloc (.cells #[.int .u32 1] 60)).ownsRow w.heap.size 60 1 (.slice (some ⟨w.heap.size, 0, none⟩) 1 1) 1 ([(1 : Int)].map (Value.int .u32))) := ⟨rfl, .inr ⟨w.heap.size, 1, #[.int .u32 1], rfl, Nat.le_refl _, Box.made w _ _, Nat.le_refl _, by unfold maxLen; simp, rfl, rfl⟩⟩
  have HB := hid (alloc_later w (.cells #[.int .u32 1] 60))
  go_enter Tryz.func46, Tryz.ntmps46
  go_wp2_with fail
  go_ret
  exact ⟨w.heap.size, rfl, HO.out, HB.out⟩
end Go.Proofs.YtpehpflgfkdiaaaGreat

/- Fractions: ratio.signedSum: numbers with signs added. -/
namespace Go.Proofs.YtpehpflgfkdiaaaGreat
open Go.RowKit
set_option linter.unusedVariables false

/-- A number with a sign (0 may have one), in new memory. -/
def WVal (w : World) (t : Int) (x : Ending) (w' : World) : Prop := ∃ n v zs, x = .returned (.agg #[.bool n, v]) ∧ w'.ownsRow w.heap.size 60 1 v zs.length (zs.map (Value.int .u32)) ∧ Wd zs ∧ Trimmed zs ∧ wval n zs = t ∧ Below w.heap.size w w'
/-- A number told in new memory. -/
def One (U w' : World) (v : Value) (zs : List Int) (t : Int) : Prop := w'.ownsRow U.heap.size 60 1 v zs.length (zs.map (Value.int .u32)) ∧ Wd zs ∧ Trimmed zs ∧ val zs = t
theorem One.later {U V W : World} {v : Value} {zs : List Int} {t : Int} (h : One U V v zs t) (hb : Below V.heap.size V W) : One U W v zs t := ⟨owns_later h.1 hb, h.2⟩
theorem One.base {U U' V : World} {v : Value} {zs : List Int} {t : Int} (h : One U V v zs t) (hb : U'.heap.size ≤ U.heap.size) : One U' V v zs t := ⟨owns_base h.1 hb, h.2⟩
theorem One.sl {U V : World} {v : Value} {zs : List Int} {t : Int} (h : One U V v zs t) : Sl V v zs := Sl.own h.1 h.2.1
/-- A callee's contract, at each world that may come up in a region: with what stays beside it. -/
theorem told1_at {U : World} {f : Nat} {args : Array Value} {t : Int} (S : World → Prop) (hS : ∀ w', Below U.heap.size U w' → S w') (ww : World) (hb : Below U.heap.size U ww) (C : Calls Tryz.prog f args ww (Told1 ww t)) :
    Calls Tryz.prog f args ww fun e w' => ∃ a2 zs c2, e = .returned (.slice a2 zs.length c2) ∧ Hid (One U w' (.slice a2 zs.length c2) zs t) ∧ S w' ∧ Below U.heap.size U w' ∧ Hid (Below ww.heap.size ww w') :=
  Calls.mono C fun e w' h => by
    obtain ⟨v, zs, rfl, o, h1, h2, h3, hb2⟩ := h
    obtain ⟨a2, c2, hs2⟩ := own_slice' o
    subst hs2
    exact ⟨a2, zs, c2, rfl, ⟨owns_base o hb.size, h1, h2, h3⟩, hS w' (bt hb hb2), bt hb hb2, hb2⟩

set_option maxHeartbeats 6400000 in
set_option maxRecDepth 100000 in
theorem rsigned_any (n : Bool) (v : Value) (xs : List Int) (m0 : Bool) (u : Value) (ys : List Int) (w : World) (h : Sl w v xs) (g : Sl w u ys) (lx : xs.length ≤ 8191) (ly : ys.length ≤ 8191) (tx : Trimmed xs) (ty : Trimmed ys) :
    Calls Tryz.prog 59 #[.agg #[.bool n, v], .agg #[.bool m0, u]] w (WVal w (wval n xs + wval m0 ys)) := by
  obtain ⟨a, cap, rfl, hr⟩ := h
  obtain ⟨b, cap', rfl, gr⟩ := g
  have h : Sl w (.slice a xs.length cap) xs := ⟨a, cap, rfl, hr⟩
  have g : Sl w (.slice b ys.length cap') ys := ⟨b, cap', rfl, gr⟩
  clear hr gr
  have HB : Hid (Below w.heap.size w (((w.alloc (.cells #[.bool n, .slice a xs.length cap] 37)).alloc (.cells #[.bool m0, .slice b ys.length cap'] 37)).alloc (.cells #[.bool false, .slice none 0 0] 37))) := bt (bt (alloc_later _ _) (alloc_later _ _)) (alloc_later _ _)
  have HXB : Hid (Box (((w.alloc (.cells #[.bool n, .slice a xs.length cap] 37)).alloc (.cells #[.bool m0, .slice b ys.length cap'] 37)).alloc (.cells #[.bool false, .slice none 0 0] 37)) (w.heap.size + 1 + 1) 37 #[.bool false, .slice none 0 0]) := by
    have e := Box.made ((w.alloc (.cells #[.bool n, .slice a xs.length cap] 37)).alloc (.cells #[.bool m0, .slice b ys.length cap'] 37)) 37 #[.bool false, .slice none 0 0]
    simp at e
    exact e
  have HXR : Hid (w.heap.size ≤ w.heap.size + 1 + 1 ∧ w.heap.size + 1 + 1 < (((w.alloc (.cells #[.bool n, .slice a xs.length cap] 37)).alloc (.cells #[.bool m0, .slice b ys.length cap'] 37)).alloc (.cells #[.bool false, .slice none 0 0] 37)).heap.size) := ⟨by omega, HXB.out.lt⟩
  have HN : Hid (Box (((w.alloc (.cells #[.bool n, .slice a xs.length cap] 37)).alloc (.cells #[.bool m0, .slice b ys.length cap'] 37)).alloc (.cells #[.bool false, .slice none 0 0] 37)) w.heap.size 37 #[.bool n, .slice a xs.length cap]) := Box.later (Box.made w _ _) (bt (alloc_later _ _) (alloc_later _ _)) (by simp)
  have HM : Hid (Box (((w.alloc (.cells #[.bool n, .slice a xs.length cap] 37)).alloc (.cells #[.bool m0, .slice b ys.length cap'] 37)).alloc (.cells #[.bool false, .slice none 0 0] 37)) (w.heap.size + 1) 37 #[.bool m0, .slice b ys.length cap']) := by
    have e := Box.later (Box.made (w.alloc (.cells #[.bool n, .slice a xs.length cap] 37)) 37 #[.bool m0, .slice b ys.length cap']) (alloc_later ((w.alloc (.cells #[.bool n, .slice a xs.length cap] 37)).alloc (.cells #[.bool m0, .slice b ys.length cap'] 37)) (.cells #[.bool false, .slice none 0 0] 37)) (by simp)
    simp at e
    exact e
  have HSL := hid (And.intro (h.later HB.out) (g.later HB.out))
  have HCM := hid (compare_sl _ _ xs ys _ HSL.out.1 HSL.out.2 (by omega) (by omega))
  clear h g
  cases n with
  | false =>
    cases m0 with
    | false =>
      clear HCM
      have HBU := hid HB.out
      have HUS : Hid (w.heap.size + 1 + 1 < (((w.alloc (.cells #[.bool false, .slice a xs.length cap] 37)).alloc (.cells #[.bool false, .slice b ys.length cap'] 37)).alloc (.cells #[.bool false, .slice none 0 0] 37)).heap.size) := HXR.out.2
      go_enter Tryz.func59, Tryz.ntmps59
      have HK : Hid (∀ w', Below (((w.alloc (.cells #[.bool false, .slice a xs.length cap] 37)).alloc (.cells #[.bool false, .slice b ys.length cap'] 37)).alloc (.cells #[.bool false, .slice none 0 0] 37)).heap.size (((w.alloc (.cells #[.bool false, .slice a xs.length cap] 37)).alloc (.cells #[.bool false, .slice b ys.length cap'] 37)).alloc (.cells #[.bool false, .slice none 0 0] 37)) w' → (fun w' : World => ((fun w' : World => w'.cell? ⟨w.heap.size, 0, none⟩ = some (.bool false) ∧ w'.cell? ⟨w.heap.size, 1, none⟩ = some (.slice a xs.length cap) ∧ w'.cell? ⟨w.heap.size + 1, 0, none⟩ = some (.bool false) ∧ w'.cell? ⟨w.heap.size + 1, 1, none⟩ = some (.slice b ys.length cap'))) w' ∧ w'.cell? ⟨w.heap.size + 1 + 1, 0, none⟩ = some (.bool false) ∧ w'.cell? ⟨w.heap.size + 1 + 1, 1, none⟩ = some (.slice none 0 0) ∧ w'.frozen? ⟨w.heap.size + 1 + 1, 0, none⟩ = false ∧ w'.frozen? ⟨w.heap.size + 1 + 1, 1, none⟩ = false) w') := fun w' hb => by
        have hx : Below (((w.alloc (.cells #[.bool false, .slice a xs.length cap] 37)).alloc (.cells #[.bool false, .slice b ys.length cap'] 37)).alloc (.cells #[.bool false, .slice none 0 0] 37)).heap.size _ w' := hb
        obtain ⟨r0, r1, f0, f1⟩ := res_box HXB.out hx
        obtain ⟨p0, p1, _, _⟩ := res_box HN.out hx
        obtain ⟨q0, q1, _, _⟩ := res_box HM.out hx
        exact ⟨⟨p0, p1, q0, q1⟩, r0, r1, f0, f1⟩
      have HF := hid (fun ww (hb : Below (((w.alloc (.cells #[.bool false, .slice a xs.length cap] 37)).alloc (.cells #[.bool false, .slice b ys.length cap'] 37)).alloc (.cells #[.bool false, .slice none 0 0] 37)).heap.size (((w.alloc (.cells #[.bool false, .slice a xs.length cap] 37)).alloc (.cells #[.bool false, .slice b ys.length cap'] 37)).alloc (.cells #[.bool false, .slice none 0 0] 37)) ww) => told1_at _ HK.out ww hb (rsum_any _ _ xs ys ww (HSL.out.1.later hb) (HSL.out.2.later hb) lx ly tx ty))
      have hs0 := (HK.out _ (Below.drew (Below.refl _ (((w.alloc (.cells #[.bool false, .slice a xs.length cap] 37)).alloc (.cells #[.bool false, .slice b ys.length cap'] 37)).alloc (.cells #[.bool false, .slice none 0 0] 37))))).1
      have hq0 : w.heap.size + 1 + 1 ≠ w.heap.size := by omega
      go_wp2_with fail
      go_region_held3 (fun w' : World => w'.cell? ⟨w.heap.size, 0, none⟩ = some (.bool false) ∧ w'.cell? ⟨w.heap.size, 1, none⟩ = some (.slice a xs.length cap) ∧ w'.cell? ⟨w.heap.size + 1, 0, none⟩ = some (.bool false) ∧ w'.cell? ⟨w.heap.size + 1, 1, none⟩ = some (.slice b ys.length cap')) (first | exact hs1 | exact hs0 | (simp [hs1, World.cell?_setCell_far, hq0]))
        (first | (go_at_call 80; refine Calls.mono (HF.out _ (Below.drew (Below.refl _ _))) ?_; rintro e w2 ⟨a2, zs, c2, rfl, HE, ⟨hs1, r0, r1, f0, f1⟩, hb2, _⟩))
      all_goals
        go_wp2_with fail
        refine bodyPost_ret (v := .agg #[.bool false, .slice a2 zs.length c2]) (by simp [results, Tryz.results59, go_sem, r0, r1]) rfl ?_
        refine ⟨false, _, zs, rfl, owns_base (own_put2 HE.out.1 _ (fun g hg => ?_) _ _) (by have := HXR.out; have := HBU.out.size; omega), HE.out.2.1, HE.out.2.2.1, ?_, below_put2 (bt HBU.out hb2) _ (by have := HXR.out; omega) _ _⟩
        · have h1 := (World.ownsRow.lt HE.out.1 g hg).1
          have h2 := HXR.out
          have h3 := HUS.out
          omega
        · have e := HE.out.2.2.2
          show _ = _
          simp [wval] at e ⊢
          omega
    | true =>
      by_cases hlt : val xs < val ys
      · rw [cmpI_lt hlt] at HCM
        go_enter Tryz.func59, Tryz.ntmps59
        go_wp2_with fail
        refine Calls.mono HCM.out ?_
        rintro e w1 ⟨rfl, hb1⟩
        obtain ⟨p0, p1, _, _⟩ := res_box HN.out hb1
        obtain ⟨q0, q1, _, _⟩ := res_box HM.out hb1
        have HB1 := hid hb1
        have HBU := hid (bt HB.out hb1)
        have HUS : Hid (w.heap.size + 1 + 1 < w1.heap.size) := by
          show _ < _
          have h1 := HXR.out.2
          have h2 := HB1.out.size
          omega
        clear hb1 HCM
        have HK : Hid (∀ w', Below w1.heap.size w1 w' → (fun w' : World => ((fun w' : World => w'.cell? ⟨w.heap.size, 0, none⟩ = some (.bool false) ∧ w'.cell? ⟨w.heap.size, 1, none⟩ = some (.slice a xs.length cap) ∧ w'.cell? ⟨w.heap.size + 1, 0, none⟩ = some (.bool true) ∧ w'.cell? ⟨w.heap.size + 1, 1, none⟩ = some (.slice b ys.length cap'))) w' ∧ w'.cell? ⟨w.heap.size + 1 + 1, 0, none⟩ = some (.bool false) ∧ w'.cell? ⟨w.heap.size + 1 + 1, 1, none⟩ = some (.slice none 0 0) ∧ w'.frozen? ⟨w.heap.size + 1 + 1, 0, none⟩ = false ∧ w'.frozen? ⟨w.heap.size + 1 + 1, 1, none⟩ = false) w') := fun w' hb => by
          have hx : Below (((w.alloc (.cells #[.bool false, .slice a xs.length cap] 37)).alloc (.cells #[.bool true, .slice b ys.length cap'] 37)).alloc (.cells #[.bool false, .slice none 0 0] 37)).heap.size _ w' := bt HB1.out hb
          obtain ⟨r0, r1, f0, f1⟩ := res_box HXB.out hx
          obtain ⟨p0, p1, _, _⟩ := res_box HN.out hx
          obtain ⟨q0, q1, _, _⟩ := res_box HM.out hx
          exact ⟨⟨p0, p1, q0, q1⟩, r0, r1, f0, f1⟩
        have HF := hid (fun ww (hb : Below w1.heap.size w1 ww) => told1_at _ HK.out ww hb (rdiff_any _ _ ys xs ww ((HSL.out.2.later HB1.out).later hb) ((HSL.out.1.later HB1.out).later hb) (by omega) (by omega) ty tx (by omega)))
        have hs0 := (HK.out _ (Below.drew (Below.refl _ w1))).1
        have hq0 : w.heap.size + 1 + 1 ≠ w.heap.size := by omega
        go_wp2_with fail
        go_region_held3 (fun w' : World => w'.cell? ⟨w.heap.size, 0, none⟩ = some (.bool false) ∧ w'.cell? ⟨w.heap.size, 1, none⟩ = some (.slice a xs.length cap) ∧ w'.cell? ⟨w.heap.size + 1, 0, none⟩ = some (.bool true) ∧ w'.cell? ⟨w.heap.size + 1, 1, none⟩ = some (.slice b ys.length cap')) (first | exact hs1 | exact hs0 | (simp [hs1, World.cell?_setCell_far, hq0]))
          (first | (go_at_call 81; refine Calls.mono (HF.out _ (Below.drew (Below.refl _ _))) ?_; rintro e w2 ⟨a2, zs, c2, rfl, HE, ⟨hs1, r0, r1, f0, f1⟩, hb2, _⟩))
        all_goals
          go_wp2_with fail
          refine bodyPost_ret (v := .agg #[.bool true, .slice a2 zs.length c2]) (by simp [results, Tryz.results59, go_sem, r0, r1]) rfl ?_
          refine ⟨true, _, zs, rfl, owns_base (own_put2 HE.out.1 _ (fun g hg => ?_) _ _) (by have := HXR.out; have := HBU.out.size; omega), HE.out.2.1, HE.out.2.2.1, ?_, below_put2 (bt HBU.out hb2) _ (by have := HXR.out; omega) _ _⟩
          · have h1 := (World.ownsRow.lt HE.out.1 g hg).1
            have h2 := HXR.out
            have h3 := HUS.out
            omega
          · have e := HE.out.2.2.2
            show _ = _
            simp [wval] at e ⊢
            omega
      · have hc0 : (0 : Int) ≤ cmpI (val xs) (val ys) := by
          by_cases c : val ys < val xs
          · rw [cmpI_gt c]; omega
          · rw [cmpI_eq (by omega)]; omega
        obtain ⟨cv, hcv⟩ : ∃ cv, cmpI (val xs) (val ys) = cv := ⟨_, rfl⟩
        rw [hcv] at HCM hc0
        have hc1 : ¬ cv < 0 := by omega
        clear hcv hc0
        go_enter Tryz.func59, Tryz.ntmps59
        go_wp2_with fail
        refine Calls.mono HCM.out ?_
        rintro e w1 ⟨rfl, hb1⟩
        obtain ⟨p0, p1, _, _⟩ := res_box HN.out hb1
        obtain ⟨q0, q1, _, _⟩ := res_box HM.out hb1
        have HB1 := hid hb1
        have HBU := hid (bt HB.out hb1)
        have HUS : Hid (w.heap.size + 1 + 1 < w1.heap.size) := by
          show _ < _
          have h1 := HXR.out.2
          have h2 := HB1.out.size
          omega
        clear hb1 HCM
        have HK : Hid (∀ w', Below w1.heap.size w1 w' → (fun w' : World => ((fun w' : World => w'.cell? ⟨w.heap.size, 0, none⟩ = some (.bool false) ∧ w'.cell? ⟨w.heap.size, 1, none⟩ = some (.slice a xs.length cap) ∧ w'.cell? ⟨w.heap.size + 1, 0, none⟩ = some (.bool true) ∧ w'.cell? ⟨w.heap.size + 1, 1, none⟩ = some (.slice b ys.length cap'))) w' ∧ w'.cell? ⟨w.heap.size + 1 + 1, 0, none⟩ = some (.bool false) ∧ w'.cell? ⟨w.heap.size + 1 + 1, 1, none⟩ = some (.slice none 0 0) ∧ w'.frozen? ⟨w.heap.size + 1 + 1, 0, none⟩ = false ∧ w'.frozen? ⟨w.heap.size + 1 + 1, 1, none⟩ = false) w') := fun w' hb => by
          have hx : Below (((w.alloc (.cells #[.bool false, .slice a xs.length cap] 37)).alloc (.cells #[.bool true, .slice b ys.length cap'] 37)).alloc (.cells #[.bool false, .slice none 0 0] 37)).heap.size _ w' := bt HB1.out hb
          obtain ⟨r0, r1, f0, f1⟩ := res_box HXB.out hx
          obtain ⟨p0, p1, _, _⟩ := res_box HN.out hx
          obtain ⟨q0, q1, _, _⟩ := res_box HM.out hx
          exact ⟨⟨p0, p1, q0, q1⟩, r0, r1, f0, f1⟩
        have HF := hid (fun ww (hb : Below w1.heap.size w1 ww) => told1_at _ HK.out ww hb (rdiff_any _ _ xs ys ww ((HSL.out.1.later HB1.out).later hb) ((HSL.out.2.later HB1.out).later hb) (by omega) (by omega) tx ty (by omega)))
        have hs0 := (HK.out _ (Below.drew (Below.refl _ w1))).1
        have hq0 : w.heap.size + 1 + 1 ≠ w.heap.size := by omega
        go_wp2_with fail
        go_region_held3 (fun w' : World => w'.cell? ⟨w.heap.size, 0, none⟩ = some (.bool false) ∧ w'.cell? ⟨w.heap.size, 1, none⟩ = some (.slice a xs.length cap) ∧ w'.cell? ⟨w.heap.size + 1, 0, none⟩ = some (.bool true) ∧ w'.cell? ⟨w.heap.size + 1, 1, none⟩ = some (.slice b ys.length cap')) (first | exact hs1 | exact hs0 | (simp [hs1, World.cell?_setCell_far, hq0]))
          (first | (go_at_call 81; refine Calls.mono (HF.out _ (Below.drew (Below.refl _ _))) ?_; rintro e w2 ⟨a2, zs, c2, rfl, HE, ⟨hs1, r0, r1, f0, f1⟩, hb2, _⟩))
        all_goals
          go_wp2_with fail
          refine bodyPost_ret (v := .agg #[.bool false, .slice a2 zs.length c2]) (by simp [results, Tryz.results59, go_sem, r0, r1]) rfl ?_
          refine ⟨false, _, zs, rfl, owns_base (own_put2 HE.out.1 _ (fun g hg => ?_) _ _) (by have := HXR.out; have := HBU.out.size; omega), HE.out.2.1, HE.out.2.2.1, ?_, below_put2 (bt HBU.out hb2) _ (by have := HXR.out; omega) _ _⟩
          · have h1 := (World.ownsRow.lt HE.out.1 g hg).1
            have h2 := HXR.out
            have h3 := HUS.out
            omega
          · have e := HE.out.2.2.2
            show _ = _
            simp [wval] at e ⊢
            omega
  | true =>
    cases m0 with
    | false =>
      by_cases hlt : val xs < val ys
      · rw [cmpI_lt hlt] at HCM
        go_enter Tryz.func59, Tryz.ntmps59
        go_wp2_with fail
        refine Calls.mono HCM.out ?_
        rintro e w1 ⟨rfl, hb1⟩
        obtain ⟨p0, p1, _, _⟩ := res_box HN.out hb1
        obtain ⟨q0, q1, _, _⟩ := res_box HM.out hb1
        have HB1 := hid hb1
        have HBU := hid (bt HB.out hb1)
        have HUS : Hid (w.heap.size + 1 + 1 < w1.heap.size) := by
          show _ < _
          have h1 := HXR.out.2
          have h2 := HB1.out.size
          omega
        clear hb1 HCM
        have HK : Hid (∀ w', Below w1.heap.size w1 w' → (fun w' : World => ((fun w' : World => w'.cell? ⟨w.heap.size, 0, none⟩ = some (.bool true) ∧ w'.cell? ⟨w.heap.size, 1, none⟩ = some (.slice a xs.length cap) ∧ w'.cell? ⟨w.heap.size + 1, 0, none⟩ = some (.bool false) ∧ w'.cell? ⟨w.heap.size + 1, 1, none⟩ = some (.slice b ys.length cap'))) w' ∧ w'.cell? ⟨w.heap.size + 1 + 1, 0, none⟩ = some (.bool false) ∧ w'.cell? ⟨w.heap.size + 1 + 1, 1, none⟩ = some (.slice none 0 0) ∧ w'.frozen? ⟨w.heap.size + 1 + 1, 0, none⟩ = false ∧ w'.frozen? ⟨w.heap.size + 1 + 1, 1, none⟩ = false) w') := fun w' hb => by
          have hx : Below (((w.alloc (.cells #[.bool true, .slice a xs.length cap] 37)).alloc (.cells #[.bool false, .slice b ys.length cap'] 37)).alloc (.cells #[.bool false, .slice none 0 0] 37)).heap.size _ w' := bt HB1.out hb
          obtain ⟨r0, r1, f0, f1⟩ := res_box HXB.out hx
          obtain ⟨p0, p1, _, _⟩ := res_box HN.out hx
          obtain ⟨q0, q1, _, _⟩ := res_box HM.out hx
          exact ⟨⟨p0, p1, q0, q1⟩, r0, r1, f0, f1⟩
        have HF := hid (fun ww (hb : Below w1.heap.size w1 ww) => told1_at _ HK.out ww hb (rdiff_any _ _ ys xs ww ((HSL.out.2.later HB1.out).later hb) ((HSL.out.1.later HB1.out).later hb) (by omega) (by omega) ty tx (by omega)))
        have hs0 := (HK.out _ (Below.drew (Below.refl _ w1))).1
        have hq0 : w.heap.size + 1 + 1 ≠ w.heap.size := by omega
        go_wp2_with fail
        go_region_held3 (fun w' : World => w'.cell? ⟨w.heap.size, 0, none⟩ = some (.bool true) ∧ w'.cell? ⟨w.heap.size, 1, none⟩ = some (.slice a xs.length cap) ∧ w'.cell? ⟨w.heap.size + 1, 0, none⟩ = some (.bool false) ∧ w'.cell? ⟨w.heap.size + 1, 1, none⟩ = some (.slice b ys.length cap')) (first | exact hs1 | exact hs0 | (simp [hs1, World.cell?_setCell_far, hq0]))
          (first | (go_at_call 81; refine Calls.mono (HF.out _ (Below.drew (Below.refl _ _))) ?_; rintro e w2 ⟨a2, zs, c2, rfl, HE, ⟨hs1, r0, r1, f0, f1⟩, hb2, _⟩))
        all_goals
          go_wp2_with fail
          refine bodyPost_ret (v := .agg #[.bool false, .slice a2 zs.length c2]) (by simp [results, Tryz.results59, go_sem, r0, r1]) rfl ?_
          refine ⟨false, _, zs, rfl, owns_base (own_put2 HE.out.1 _ (fun g hg => ?_) _ _) (by have := HXR.out; have := HBU.out.size; omega), HE.out.2.1, HE.out.2.2.1, ?_, below_put2 (bt HBU.out hb2) _ (by have := HXR.out; omega) _ _⟩
          · have h1 := (World.ownsRow.lt HE.out.1 g hg).1
            have h2 := HXR.out
            have h3 := HUS.out
            omega
          · have e := HE.out.2.2.2
            show _ = _
            simp [wval] at e ⊢
            omega
      · have hc0 : (0 : Int) ≤ cmpI (val xs) (val ys) := by
          by_cases c : val ys < val xs
          · rw [cmpI_gt c]; omega
          · rw [cmpI_eq (by omega)]; omega
        obtain ⟨cv, hcv⟩ : ∃ cv, cmpI (val xs) (val ys) = cv := ⟨_, rfl⟩
        rw [hcv] at HCM hc0
        have hc1 : ¬ cv < 0 := by omega
        clear hcv hc0
        go_enter Tryz.func59, Tryz.ntmps59
        go_wp2_with fail
        refine Calls.mono HCM.out ?_
        rintro e w1 ⟨rfl, hb1⟩
        obtain ⟨p0, p1, _, _⟩ := res_box HN.out hb1
        obtain ⟨q0, q1, _, _⟩ := res_box HM.out hb1
        have HB1 := hid hb1
        have HBU := hid (bt HB.out hb1)
        have HUS : Hid (w.heap.size + 1 + 1 < w1.heap.size) := by
          show _ < _
          have h1 := HXR.out.2
          have h2 := HB1.out.size
          omega
        clear hb1 HCM
        have HK : Hid (∀ w', Below w1.heap.size w1 w' → (fun w' : World => ((fun w' : World => w'.cell? ⟨w.heap.size, 0, none⟩ = some (.bool true) ∧ w'.cell? ⟨w.heap.size, 1, none⟩ = some (.slice a xs.length cap) ∧ w'.cell? ⟨w.heap.size + 1, 0, none⟩ = some (.bool false) ∧ w'.cell? ⟨w.heap.size + 1, 1, none⟩ = some (.slice b ys.length cap'))) w' ∧ w'.cell? ⟨w.heap.size + 1 + 1, 0, none⟩ = some (.bool false) ∧ w'.cell? ⟨w.heap.size + 1 + 1, 1, none⟩ = some (.slice none 0 0) ∧ w'.frozen? ⟨w.heap.size + 1 + 1, 0, none⟩ = false ∧ w'.frozen? ⟨w.heap.size + 1 + 1, 1, none⟩ = false) w') := fun w' hb => by
          have hx : Below (((w.alloc (.cells #[.bool true, .slice a xs.length cap] 37)).alloc (.cells #[.bool false, .slice b ys.length cap'] 37)).alloc (.cells #[.bool false, .slice none 0 0] 37)).heap.size _ w' := bt HB1.out hb
          obtain ⟨r0, r1, f0, f1⟩ := res_box HXB.out hx
          obtain ⟨p0, p1, _, _⟩ := res_box HN.out hx
          obtain ⟨q0, q1, _, _⟩ := res_box HM.out hx
          exact ⟨⟨p0, p1, q0, q1⟩, r0, r1, f0, f1⟩
        have HF := hid (fun ww (hb : Below w1.heap.size w1 ww) => told1_at _ HK.out ww hb (rdiff_any _ _ xs ys ww ((HSL.out.1.later HB1.out).later hb) ((HSL.out.2.later HB1.out).later hb) (by omega) (by omega) tx ty (by omega)))
        have hs0 := (HK.out _ (Below.drew (Below.refl _ w1))).1
        have hq0 : w.heap.size + 1 + 1 ≠ w.heap.size := by omega
        go_wp2_with fail
        go_region_held3 (fun w' : World => w'.cell? ⟨w.heap.size, 0, none⟩ = some (.bool true) ∧ w'.cell? ⟨w.heap.size, 1, none⟩ = some (.slice a xs.length cap) ∧ w'.cell? ⟨w.heap.size + 1, 0, none⟩ = some (.bool false) ∧ w'.cell? ⟨w.heap.size + 1, 1, none⟩ = some (.slice b ys.length cap')) (first | exact hs1 | exact hs0 | (simp [hs1, World.cell?_setCell_far, hq0]))
          (first | (go_at_call 81; refine Calls.mono (HF.out _ (Below.drew (Below.refl _ _))) ?_; rintro e w2 ⟨a2, zs, c2, rfl, HE, ⟨hs1, r0, r1, f0, f1⟩, hb2, _⟩))
        all_goals
          go_wp2_with fail
          refine bodyPost_ret (v := .agg #[.bool true, .slice a2 zs.length c2]) (by simp [results, Tryz.results59, go_sem, r0, r1]) rfl ?_
          refine ⟨true, _, zs, rfl, owns_base (own_put2 HE.out.1 _ (fun g hg => ?_) _ _) (by have := HXR.out; have := HBU.out.size; omega), HE.out.2.1, HE.out.2.2.1, ?_, below_put2 (bt HBU.out hb2) _ (by have := HXR.out; omega) _ _⟩
          · have h1 := (World.ownsRow.lt HE.out.1 g hg).1
            have h2 := HXR.out
            have h3 := HUS.out
            omega
          · have e := HE.out.2.2.2
            show _ = _
            simp [wval] at e ⊢
            omega
    | true =>
      clear HCM
      have HBU := hid HB.out
      have HUS : Hid (w.heap.size + 1 + 1 < (((w.alloc (.cells #[.bool true, .slice a xs.length cap] 37)).alloc (.cells #[.bool true, .slice b ys.length cap'] 37)).alloc (.cells #[.bool false, .slice none 0 0] 37)).heap.size) := HXR.out.2
      go_enter Tryz.func59, Tryz.ntmps59
      have HK : Hid (∀ w', Below (((w.alloc (.cells #[.bool true, .slice a xs.length cap] 37)).alloc (.cells #[.bool true, .slice b ys.length cap'] 37)).alloc (.cells #[.bool false, .slice none 0 0] 37)).heap.size (((w.alloc (.cells #[.bool true, .slice a xs.length cap] 37)).alloc (.cells #[.bool true, .slice b ys.length cap'] 37)).alloc (.cells #[.bool false, .slice none 0 0] 37)) w' → (fun w' : World => ((fun w' : World => w'.cell? ⟨w.heap.size, 0, none⟩ = some (.bool true) ∧ w'.cell? ⟨w.heap.size, 1, none⟩ = some (.slice a xs.length cap) ∧ w'.cell? ⟨w.heap.size + 1, 0, none⟩ = some (.bool true) ∧ w'.cell? ⟨w.heap.size + 1, 1, none⟩ = some (.slice b ys.length cap'))) w' ∧ w'.cell? ⟨w.heap.size + 1 + 1, 0, none⟩ = some (.bool false) ∧ w'.cell? ⟨w.heap.size + 1 + 1, 1, none⟩ = some (.slice none 0 0) ∧ w'.frozen? ⟨w.heap.size + 1 + 1, 0, none⟩ = false ∧ w'.frozen? ⟨w.heap.size + 1 + 1, 1, none⟩ = false) w') := fun w' hb => by
        have hx : Below (((w.alloc (.cells #[.bool true, .slice a xs.length cap] 37)).alloc (.cells #[.bool true, .slice b ys.length cap'] 37)).alloc (.cells #[.bool false, .slice none 0 0] 37)).heap.size _ w' := hb
        obtain ⟨r0, r1, f0, f1⟩ := res_box HXB.out hx
        obtain ⟨p0, p1, _, _⟩ := res_box HN.out hx
        obtain ⟨q0, q1, _, _⟩ := res_box HM.out hx
        exact ⟨⟨p0, p1, q0, q1⟩, r0, r1, f0, f1⟩
      have HF := hid (fun ww (hb : Below (((w.alloc (.cells #[.bool true, .slice a xs.length cap] 37)).alloc (.cells #[.bool true, .slice b ys.length cap'] 37)).alloc (.cells #[.bool false, .slice none 0 0] 37)).heap.size (((w.alloc (.cells #[.bool true, .slice a xs.length cap] 37)).alloc (.cells #[.bool true, .slice b ys.length cap'] 37)).alloc (.cells #[.bool false, .slice none 0 0] 37)) ww) => told1_at _ HK.out ww hb (rsum_any _ _ xs ys ww (HSL.out.1.later hb) (HSL.out.2.later hb) lx ly tx ty))
      have hs0 := (HK.out _ (Below.drew (Below.refl _ (((w.alloc (.cells #[.bool true, .slice a xs.length cap] 37)).alloc (.cells #[.bool true, .slice b ys.length cap'] 37)).alloc (.cells #[.bool false, .slice none 0 0] 37))))).1
      have hq0 : w.heap.size + 1 + 1 ≠ w.heap.size := by omega
      go_wp2_with fail
      go_region_held3 (fun w' : World => w'.cell? ⟨w.heap.size, 0, none⟩ = some (.bool true) ∧ w'.cell? ⟨w.heap.size, 1, none⟩ = some (.slice a xs.length cap) ∧ w'.cell? ⟨w.heap.size + 1, 0, none⟩ = some (.bool true) ∧ w'.cell? ⟨w.heap.size + 1, 1, none⟩ = some (.slice b ys.length cap')) (first | exact hs1 | exact hs0 | (simp [hs1, World.cell?_setCell_far, hq0]))
        (first | (go_at_call 80; refine Calls.mono (HF.out _ (Below.drew (Below.refl _ _))) ?_; rintro e w2 ⟨a2, zs, c2, rfl, HE, ⟨hs1, r0, r1, f0, f1⟩, hb2, _⟩))
      all_goals
        go_wp2_with fail
        refine bodyPost_ret (v := .agg #[.bool true, .slice a2 zs.length c2]) (by simp [results, Tryz.results59, go_sem, r0, r1]) rfl ?_
        refine ⟨true, _, zs, rfl, owns_base (own_put2 HE.out.1 _ (fun g hg => ?_) _ _) (by have := HXR.out; have := HBU.out.size; omega), HE.out.2.1, HE.out.2.2.1, ?_, below_put2 (bt HBU.out hb2) _ (by have := HXR.out; omega) _ _⟩
        · have h1 := (World.ownsRow.lt HE.out.1 g hg).1
          have h2 := HXR.out
          have h3 := HUS.out
          omega
        · have e := HE.out.2.2.2
          show _ = _
          simp [wval] at e ⊢
          omega
end Go.Proofs.YtpehpflgfkdiaaaGreat

/- Fractions: ratio.add, multiply: sums and products of fractions, what is in common taken out first. -/
namespace Go.Proofs.YtpehpflgfkdiaaaGreat
open Go.RowKit
set_option linter.unusedVariables false

theorem div_gcd_left {x y g : Int} (hg : g = gcdI x y) : x = x / g * g := (Int.ediv_mul_cancel (by rw [hg]; exact Int.gcd_dvd_left ..)).symm
theorem div_gcd_right {x y g : Int} (hg : g = gcdI x y) : y = y / g * g := (Int.ediv_mul_cancel (by rw [hg]; exact Int.gcd_dvd_right ..)).symm
theorem gcd_pos_right {x y : Int} (h : 0 < y) : 0 < gcdI x y := by
  have : 0 < Int.gcd x y := Int.gcd_pos_iff.2 (Or.inr (by omega))
  unfold gcdI; omega
theorem gcd_le_right {x y : Int} (h : 0 < y) : gcdI x y ≤ y := Int.le_of_dvd h (Int.gcd_dvd_right ..)
theorem sg_mul (n : Bool) (x y : Int) : sg n (x * y) = sg n x * y := by cases n <;> simp [sg, Int.neg_mul]
/-- What add works out. -/
theorem add_parts {n m nn : Bool} {xs ys us vs : List Int} {g rA rB p1 p2 N s q1 e den : Int} (hy : 0 < val ys) (hv : 0 < val vs) (h1 : gcdI (val xs) (val ys) = 1) (h2 : gcdI (val us) (val vs) = 1)
    (hg : g = gcdI (val ys) (val vs)) (hA : rA = val ys / g) (hB : rB = val vs / g) (hp1 : p1 = val xs * rB) (hp2 : p2 = val us * rA) (hN : sg nn N = sg n p1 + sg m p2) (hs : s = gcdI N g) (hq : q1 = N / s) (he : e = val vs / s) (hd : den = rA * e) :
    0 < den ∧ gcdI q1 den = 1 ∧ Rat.divInt (sg nn q1) den = rq n xs ys + rq m us vs := by
  have g0 : 0 < g := by rw [hg]; exact gcd_pos_right hv
  have k1 : val ys = rA * g := by rw [hA]; exact div_gcd_left hg
  have k2 : val vs = rB * g := by rw [hB]; exact div_gcd_right hg
  have k3 : N = q1 * s := by rw [hq]; exact div_gcd_left hs
  have sg' : s ∣ g := by rw [hs]; exact Int.gcd_dvd_right ..
  have k4 : val vs = e * s := by rw [he]; exact (Int.ediv_mul_cancel (Int.dvd_trans sg' ⟨rB, by rw [k2, Int.mul_comm]⟩)).symm
  have hN' : sg nn N = sg n (val xs) * rB + sg m (val us) * rA := by rw [hN, hp1, hp2, sg_mul, sg_mul]
  have hs' : s = gcdI (sg nn N) g := by rw [gcd_sg]; exact hs
  have r := fr_add (a := sg n (val xs)) (c := sg m (val us)) (p := sg nn q1) hy hv (by rw [gcd_sg]; exact h1) (by rw [gcd_sg]; exact h2) hg k1 k2 hN' hs' (by rw [← sg_mul, ← k3]) k4
  rw [← hd, gcd_sg] at r
  exact r
/-- What multiply works out. -/
theorem mul_parts {n m : Bool} {xs ys us vs : List Int} {f s num den : Int} (hy : 0 < val ys) (hv : 0 < val vs) (h1 : gcdI (val xs) (val ys) = 1) (h2 : gcdI (val us) (val vs) = 1)
    (hf : f = gcdI (val xs) (val vs)) (hs : s = gcdI (val us) (val ys)) (hn : num = val xs / f * (val us / s)) (hd : den = val ys / s * (val vs / f)) :
    0 < den ∧ gcdI num den = 1 ∧ Rat.divInt (sg (n != m) num) den = rq n xs ys * rq m us vs := by
  have r := fr_mul (a := sg n (val xs)) (c := sg m (val us)) (a1 := sg n (val xs / f)) (c1 := sg m (val us / s)) hy hv (by rw [gcd_sg]; exact h1) (by rw [gcd_sg]; exact h2) (by rw [gcd_sg]; exact hf) (by rw [gcd_sg]; exact hs) (by rw [← sg_mul, ← div_gcd_left hf]) (div_gcd_right hf) (by rw [← sg_mul, ← div_gcd_left hs]) (div_gcd_right hs)
  have e : sg n (val xs / f) * sg m (val us / s) = sg (n != m) num := by rw [hn]; exact (mul_sign n m _ _).symm
  rw [e, ← hd, gcd_sg] at r
  exact r
theorem WVal.at {U ww : World} {f : Nat} {args : Array Value} {t : Int} (S : World → Prop) (hS : ∀ w', Below U.heap.size U w' → S w') (hb : Below U.heap.size U ww) (C : Calls Tryz.prog f args ww (WVal ww t)) :
    Calls Tryz.prog f args ww fun e w' => ∃ k a2 zs c2, e = .returned (.agg #[.bool k, .slice a2 zs.length c2]) ∧ Hid (∃ T, One U w' (.slice a2 zs.length c2) zs T ∧ sg k T = t) ∧ S w' ∧ Below U.heap.size U w' ∧ Hid (Below ww.heap.size ww w') :=
  Calls.mono C fun e w' h => by
    obtain ⟨k, v, zs, rfl, o, h1, h2, h3, hb2⟩ := h
    obtain ⟨a2, c2, hs2⟩ := own_slice' o
    subst hs2
    exact ⟨k, a2, zs, c2, rfl, ⟨val zs, ⟨owns_base o hb.size, h1, h2, rfl⟩, h3⟩, hS w' (bt hb hb2), bt hb hb2, hb2⟩
theorem mul_4096 {x y : Int} (h0 : 0 ≤ x) (hx : x < 4294967296 ^ 2048) (g0 : 0 ≤ y) (hy : y < 4294967296 ^ 2048) : x * y < 4294967296 ^ 4096 := by
  have e : (4294967296 : Int) ^ 4096 = 4294967296 ^ 2048 * 4294967296 ^ 2048 := by rw [← Int.pow_add]
  have p := pw_pos 2048
  rw [e]
  generalize (4294967296 : Int) ^ 2048 = P at *
  have e1 : x * y ≤ x * P := Int.mul_le_mul_of_nonneg_left (by omega) h0
  have e2 : x * P < P * P := Int.mul_lt_mul_of_pos_right hx p
  omega
theorem own_len {v : Value} {zs : List Int} {U V : World} {t : Int} (h : One U V v zs t) {L : Nat} (hl : t < 4294967296 ^ L) : zs.length ≤ L := len_of_lt h.2.1 h.2.2.1 (by rw [h.2.2.2]; exact hl)
theorem own_pos {v : Value} {zs : List Int} {U V : World} {t : Int} (h : One U V v zs t) (h0 : 0 < t) : 0 < zs.length := by
  by_cases c : 0 < zs.length
  · exact c
  · have := trimmed_zero' (us := zs) (by omega)
    have := h.2.2.2
    omega
/-- What told tells of a numerator and a denominator with nothing in common. -/
theorem rtold_at {U ww : World} {n : Bool} {a : Option Addr} {ca : Nat} {zs : List Int} {b : Option Addr} {cb : Nat} {ds : List Int} {s t : Int} {q : Rat} (S : World → Prop) (hS : ∀ w', Below U.heap.size U w' → S w') (hb : Below U.heap.size U ww) (h1 : One U ww (.slice a zs.length ca) zs s) (h2 : One U ww (.slice b ds.length cb) ds t) (hd : 0 < t) (hg : gcdI s t = 1) (hq : Rat.divInt (sg n s) t = q) :
    Calls Tryz.prog 39 #[.bool n, .slice a zs.length ca, .slice b ds.length cb] ww fun e w' => ∃ k a8 z8 c8 a9 z9 c9 code, e = .returned (.tuple #[.agg #[.bool k, .slice a8 (List.length z8) c8, .slice a9 (List.length z9) c9], .int .i64 code]) ∧ Hid (w'.ownsRow U.heap.size 60 1 (.slice a8 (List.length z8) c8) z8.length (z8.map (Value.int .u32)) ∧ w'.ownsRow U.heap.size 60 1 (.slice a9 (List.length z9) c9) z9.length (z9.map (Value.int .u32)) ∧ RTells 0 q k z8 z9 code) ∧ S w' ∧ Below U.heap.size U w' := by
  obtain ⟨o1, w1, t1, v1⟩ := h1
  obtain ⟨o2, w2, t2, v2⟩ := h2
  obtain ⟨k, us, vs, c, e1, e2, e3, r⟩ := rtells_of (n := n) w1 t1 w2 t2 (by rw [v2]; exact hd) (by rw [v1, v2]; exact hg)
  rw [v1, v2, hq] at r
  refine Calls.mono (rtold_any n a zs.length ca b ds.length cb ww) fun e w' h => ?_
  obtain ⟨rfl, hb2⟩ := h
  rw [e1]
  by_cases z : c = 0
  · rw [if_pos z] at e2 e3
    subst e2; subst e3
    refine ⟨k, a, us, ca, b, vs, cb, c, by rw [if_pos z, if_pos z], ⟨owns_later o1 hb2, owns_later o2 hb2, r⟩, hS w' (bt hb hb2), bt hb hb2⟩
  · rw [if_neg z] at e2 e3
    subst e2; subst e3
    exact ⟨k, none, [], 0, none, [], 0, c, by rw [if_neg z, if_neg z]; rfl, ⟨World.ownsRow_nil _ _ _ _, World.ownsRow_nil _ _ _ _, r⟩, hS w' (bt hb hb2), bt hb hb2⟩
/-- What lies in blocks that were there stays, said so that the walk can use it. -/
def Far (ww w' : World) : Prop := (∀ H, H < ww.heap.size → H < w'.heap.size) ∧ (∀ H j, H < ww.heap.size → w'.cell? ⟨H, j, none⟩ = ww.cell? ⟨H, j, none⟩) ∧ (∀ H j, H < ww.heap.size → w'.frozen? ⟨H, j, none⟩ = ww.frozen? ⟨H, j, none⟩)
theorem Far.of {ww w' : World} (h : Below ww.heap.size ww w') : Far ww w' := ⟨fun H hl => Nat.lt_of_lt_of_le hl h.size, fun H j hl => h.cell (p := ⟨H, j, none⟩) hl, fun H j hl => h.frozen (p := ⟨H, j, none⟩) hl⟩
theorem quot_by {U ww : World} {a : Option Addr} {ca : Nat} {xs : List Int} {a1 : Option Addr} {z1 : List Int} {c1 : Nat} {g : Int} (S : World → Prop) (hS : ∀ w', Below U.heap.size U w' → S w') (hb : Below U.heap.size U ww) (hx : Sl ww (.slice a xs.length ca) xs) (lx : xs.length ≤ 8192) (tx : Trimmed xs) (h : One U ww (.slice a1 z1.length c1) z1 g) (h0 : 0 < g) (hl : g < 4294967296 ^ 2048) :
    Calls Tryz.prog 58 #[.slice a xs.length ca, .slice a1 z1.length c1] ww fun e w' => ∃ a2 zs c2, e = .returned (.slice a2 zs.length c2) ∧ Hid (One U w' (.slice a2 zs.length c2) zs (val xs / g)) ∧ S w' ∧ Below U.heap.size U w' ∧ Hid (Below ww.heap.size ww w') := by
  have e := rquot_any _ _ xs z1 ww hx h.sl lx (by have := own_len h hl; omega) tx h.2.2.1 (own_pos h h0)
  rw [h.2.2.2] at e
  exact told1_at S hS ww hb e
theorem RTold.put {w U w3 : World} {e : Int} {q : Rat} {k : Bool} {v u : Value} {zs ds : List Int} {code : Int} (h : w3.ownsRow U.heap.size 60 1 v zs.length (zs.map (Value.int .u32)) ∧ w3.ownsRow U.heap.size 60 1 u ds.length (ds.map (Value.int .u32)) ∧ RTells e q k zs ds code) (b : Nat) (hb : b < U.heap.size) (hw : w.heap.size ≤ b) (hbw : Below w.heap.size w w3) (x y z : Value) :
    RTold w e q (.returned (.tuple #[.agg #[.bool k, v, u], .int .i64 code])) (((w3.setCell ⟨b, 0, none⟩ x).setCell ⟨b, 1, none⟩ y).setCell ⟨b, 2, none⟩ z) :=
  ⟨k, v, zs, u, ds, code, rfl, owns_base (own_put3 h.1 b (fun g hg => by have := (World.ownsRow.lt h.1 g hg).1; omega) _ _ _) (by omega), owns_base (own_put3 h.2.1 b (fun g hg => by have := (World.ownsRow.lt h.2.1 g hg).1; omega) _ _ _) (by omega), h.2.2, below_put3 hbw b hw _ _ _⟩

set_option maxHeartbeats 6400000 in
set_option maxRecDepth 100000 in
theorem rmultiply_any (n : Bool) (a : Option Addr) (ca : Nat) (xs : List Int) (b : Option Addr) (cb : Nat) (ys : List Int) (m : Bool) (c : Option Addr) (cc : Nat) (us : List Int) (d : Option Addr) (cd : Nat) (vs : List Int) (w : World)
    (sx : Sl w (.slice a xs.length ca) xs) (sy : Sl w (.slice b ys.length cb) ys) (su : Sl w (.slice c us.length cc) us) (sv : Sl w (.slice d vs.length cd) vs) (lx : xs.length ≤ 2048) (ly : ys.length ≤ 2048) (lu : us.length ≤ 2048) (lv : vs.length ≤ 2048) (tx : Trimmed xs) (ty : Trimmed ys) (tu : Trimmed us) (tv : Trimmed vs) (hy : 0 < val ys) (hv : 0 < val vs) (h1 : gcdI (val xs) (val ys) = 1) (h2 : gcdI (val us) (val vs) = 1) :
    Calls Tryz.prog 36 #[.agg #[.bool n, .slice a xs.length ca, .slice b ys.length cb], .agg #[.bool m, .slice c us.length cc, .slice d vs.length cd]] w (RTold w 0 (rq n xs ys * rq m us vs)) := by
  have wx := sx.wd
  have wy := sy.wd
  have wu := su.wd
  have wv := sv.wd
  have HB : Hid (Below w.heap.size w (((w.alloc (.cells #[.bool n, .slice a xs.length ca, .slice b ys.length cb] 24)).alloc (.cells #[.bool m, .slice c us.length cc, .slice d vs.length cd] 24)).alloc (.cells #[.bool false, .slice none 0 0, .slice none 0 0] 24))) := bt (bt (alloc_later _ _) (alloc_later _ _)) (alloc_later _ _)
  have HZ : Hid (Box (((w.alloc (.cells #[.bool n, .slice a xs.length ca, .slice b ys.length cb] 24)).alloc (.cells #[.bool m, .slice c us.length cc, .slice d vs.length cd] 24)).alloc (.cells #[.bool false, .slice none 0 0, .slice none 0 0] 24)) (w.heap.size + 1 + 1) 24 #[.bool false, .slice none 0 0, .slice none 0 0]) := by
    have e := Box.made ((w.alloc (.cells #[.bool n, .slice a xs.length ca, .slice b ys.length cb] 24)).alloc (.cells #[.bool m, .slice c us.length cc, .slice d vs.length cd] 24)) 24 #[.bool false, .slice none 0 0, .slice none 0 0]
    simp at e
    exact e
  have HK : Hid (∀ w', Below (((w.alloc (.cells #[.bool n, .slice a xs.length ca, .slice b ys.length cb] 24)).alloc (.cells #[.bool m, .slice c us.length cc, .slice d vs.length cd] 24)).alloc (.cells #[.bool false, .slice none 0 0, .slice none 0 0] 24)).heap.size (((w.alloc (.cells #[.bool n, .slice a xs.length ca, .slice b ys.length cb] 24)).alloc (.cells #[.bool m, .slice c us.length cc, .slice d vs.length cd] 24)).alloc (.cells #[.bool false, .slice none 0 0, .slice none 0 0] 24)) w' → w'.cell? ⟨w.heap.size, 0, none⟩ = some (.bool n) ∧ w'.cell? ⟨w.heap.size, 1, none⟩ = some (.slice a xs.length ca) ∧ w'.cell? ⟨w.heap.size, 2, none⟩ = some (.slice b ys.length cb) ∧ w'.cell? ⟨w.heap.size + 1, 0, none⟩ = some (.bool m) ∧ w'.cell? ⟨w.heap.size + 1, 1, none⟩ = some (.slice c us.length cc) ∧ w'.cell? ⟨w.heap.size + 1, 2, none⟩ = some (.slice d vs.length cd)) := fun w' hx => by
    have hA : Box (((w.alloc (.cells #[.bool n, .slice a xs.length ca, .slice b ys.length cb] 24)).alloc (.cells #[.bool m, .slice c us.length cc, .slice d vs.length cd] 24)).alloc (.cells #[.bool false, .slice none 0 0, .slice none 0 0] 24)) w.heap.size 24 #[.bool n, .slice a xs.length ca, .slice b ys.length cb] := Box.later (Box.made w _ _) (bt (alloc_later _ _) (alloc_later _ _)) (by simp)
    have hB : Box (((w.alloc (.cells #[.bool n, .slice a xs.length ca, .slice b ys.length cb] 24)).alloc (.cells #[.bool m, .slice c us.length cc, .slice d vs.length cd] 24)).alloc (.cells #[.bool false, .slice none 0 0, .slice none 0 0] 24)) (w.heap.size + 1) 24 #[.bool m, .slice c us.length cc, .slice d vs.length cd] := by
      have e := Box.later (Box.made (w.alloc (.cells #[.bool n, .slice a xs.length ca, .slice b ys.length cb] 24)) 24 #[.bool m, .slice c us.length cc, .slice d vs.length cd]) (alloc_later ((w.alloc (.cells #[.bool n, .slice a xs.length ca, .slice b ys.length cb] 24)).alloc (.cells #[.bool m, .slice c us.length cc, .slice d vs.length cd] 24)) (.cells #[.bool false, .slice none 0 0, .slice none 0 0] 24)) (by simp)
      simp at e
      exact e
    obtain ⟨p0, p1, p2, _⟩ := res_box3 hA hx
    obtain ⟨q0, q1, q2, _⟩ := res_box3 hB hx
    exact ⟨p0, p1, p2, q0, q1, q2⟩
  have HXS : Hid (w.heap.size + 1 + 1 < (((w.alloc (.cells #[.bool n, .slice a xs.length ca, .slice b ys.length cb] 24)).alloc (.cells #[.bool m, .slice c us.length cc, .slice d vs.length cd] 24)).alloc (.cells #[.bool false, .slice none 0 0, .slice none 0 0] 24)).heap.size) := HZ.out.lt
  have HSL := hid (And.intro (sx.later HB.out) (And.intro (sy.later HB.out) (And.intro (su.later HB.out) (sv.later HB.out))))
  have HP := hid (And.intro hy (And.intro hv (And.intro h1 h2)))
  clear sx sy su sv
  have HF0 : Hid (0 < gcdI (val xs) (val vs) ∧ gcdI (val xs) (val vs) ≤ val vs ∧ 0 < gcdI (val us) (val ys) ∧ gcdI (val us) (val ys) ≤ val ys) := ⟨gcd_pos_right hv, gcd_le_right hv, gcd_pos_right hy, gcd_le_right hy⟩
  have HL : Hid (val xs < 4294967296 ^ 2048 ∧ val ys < 4294967296 ^ 2048 ∧ val us < 4294967296 ^ 2048 ∧ val vs < 4294967296 ^ 2048) := ⟨below2048 wx lx, below2048 wy ly, below2048 wu lu, below2048 wv lv⟩
  have HNN : Hid (0 ≤ val xs ∧ 0 ≤ val us) := ⟨val_nonneg wx, val_nonneg wu⟩
  have HC1 := hid (fun ww (hb : Below (((w.alloc (.cells #[.bool n, .slice a xs.length ca, .slice b ys.length cb] 24)).alloc (.cells #[.bool m, .slice c us.length cc, .slice d vs.length cd] 24)).alloc (.cells #[.bool false, .slice none 0 0, .slice none 0 0] 24)).heap.size (((w.alloc (.cells #[.bool n, .slice a xs.length ca, .slice b ys.length cb] 24)).alloc (.cells #[.bool m, .slice c us.length cc, .slice d vs.length cd] 24)).alloc (.cells #[.bool false, .slice none 0 0, .slice none 0 0] 24)) ww) => told1_at _ HK.out ww hb (rcommon_any _ _ xs vs ww (HSL.out.1.later hb) (HSL.out.2.2.2.later hb) (by omega) (by omega) tx tv))
  have HC2 := hid (fun ww (hb : Below (((w.alloc (.cells #[.bool n, .slice a xs.length ca, .slice b ys.length cb] 24)).alloc (.cells #[.bool m, .slice c us.length cc, .slice d vs.length cd] 24)).alloc (.cells #[.bool false, .slice none 0 0, .slice none 0 0] 24)).heap.size (((w.alloc (.cells #[.bool n, .slice a xs.length ca, .slice b ys.length cb] 24)).alloc (.cells #[.bool m, .slice c us.length cc, .slice d vs.length cd] 24)).alloc (.cells #[.bool false, .slice none 0 0, .slice none 0 0] 24)) ww) => told1_at _ HK.out ww hb (rcommon_any _ _ us ys ww (HSL.out.2.2.1.later hb) (HSL.out.2.1.later hb) (by omega) (by omega) tu ty))
  -- quotients by what was found, at each world behind it
  have HQX := hid (fun ww (hv' : Below (((w.alloc (.cells #[.bool n, .slice a xs.length ca, .slice b ys.length cb] 24)).alloc (.cells #[.bool m, .slice c us.length cc, .slice d vs.length cd] 24)).alloc (.cells #[.bool false, .slice none 0 0, .slice none 0 0] 24)).heap.size (((w.alloc (.cells #[.bool n, .slice a xs.length ca, .slice b ys.length cb] 24)).alloc (.cells #[.bool m, .slice c us.length cc, .slice d vs.length cd] 24)).alloc (.cells #[.bool false, .slice none 0 0, .slice none 0 0] 24)) ww) (a1 : Option Addr) (z1 : List Int) (c1 : Nat) (h : One (((w.alloc (.cells #[.bool n, .slice a xs.length ca, .slice b ys.length cb] 24)).alloc (.cells #[.bool m, .slice c us.length cc, .slice d vs.length cd] 24)).alloc (.cells #[.bool false, .slice none 0 0, .slice none 0 0] 24)) ww (.slice a1 z1.length c1) z1 (gcdI (val xs) (val vs))) => quot_by _ HK.out hv' (HSL.out.1.later hv') (by omega) tx h HF0.out.1 (by have := HF0.out; have := HL.out; omega))
  have HQV := hid (fun ww (hv' : Below (((w.alloc (.cells #[.bool n, .slice a xs.length ca, .slice b ys.length cb] 24)).alloc (.cells #[.bool m, .slice c us.length cc, .slice d vs.length cd] 24)).alloc (.cells #[.bool false, .slice none 0 0, .slice none 0 0] 24)).heap.size (((w.alloc (.cells #[.bool n, .slice a xs.length ca, .slice b ys.length cb] 24)).alloc (.cells #[.bool m, .slice c us.length cc, .slice d vs.length cd] 24)).alloc (.cells #[.bool false, .slice none 0 0, .slice none 0 0] 24)) ww) (a1 : Option Addr) (z1 : List Int) (c1 : Nat) (h : One (((w.alloc (.cells #[.bool n, .slice a xs.length ca, .slice b ys.length cb] 24)).alloc (.cells #[.bool m, .slice c us.length cc, .slice d vs.length cd] 24)).alloc (.cells #[.bool false, .slice none 0 0, .slice none 0 0] 24)) ww (.slice a1 z1.length c1) z1 (gcdI (val xs) (val vs))) => quot_by _ HK.out hv' (HSL.out.2.2.2.later hv') (by omega) tv h HF0.out.1 (by have := HF0.out; have := HL.out; omega))
  have HQU := hid (fun ww (hv' : Below (((w.alloc (.cells #[.bool n, .slice a xs.length ca, .slice b ys.length cb] 24)).alloc (.cells #[.bool m, .slice c us.length cc, .slice d vs.length cd] 24)).alloc (.cells #[.bool false, .slice none 0 0, .slice none 0 0] 24)).heap.size (((w.alloc (.cells #[.bool n, .slice a xs.length ca, .slice b ys.length cb] 24)).alloc (.cells #[.bool m, .slice c us.length cc, .slice d vs.length cd] 24)).alloc (.cells #[.bool false, .slice none 0 0, .slice none 0 0] 24)) ww) (a1 : Option Addr) (z1 : List Int) (c1 : Nat) (h : One (((w.alloc (.cells #[.bool n, .slice a xs.length ca, .slice b ys.length cb] 24)).alloc (.cells #[.bool m, .slice c us.length cc, .slice d vs.length cd] 24)).alloc (.cells #[.bool false, .slice none 0 0, .slice none 0 0] 24)) ww (.slice a1 z1.length c1) z1 (gcdI (val us) (val ys))) => quot_by _ HK.out hv' (HSL.out.2.2.1.later hv') (by omega) tu h HF0.out.2.2.1 (by have := HF0.out; have := HL.out; omega))
  have HQY := hid (fun ww (hv' : Below (((w.alloc (.cells #[.bool n, .slice a xs.length ca, .slice b ys.length cb] 24)).alloc (.cells #[.bool m, .slice c us.length cc, .slice d vs.length cd] 24)).alloc (.cells #[.bool false, .slice none 0 0, .slice none 0 0] 24)).heap.size (((w.alloc (.cells #[.bool n, .slice a xs.length ca, .slice b ys.length cb] 24)).alloc (.cells #[.bool m, .slice c us.length cc, .slice d vs.length cd] 24)).alloc (.cells #[.bool false, .slice none 0 0, .slice none 0 0] 24)) ww) (a1 : Option Addr) (z1 : List Int) (c1 : Nat) (h : One (((w.alloc (.cells #[.bool n, .slice a xs.length ca, .slice b ys.length cb] 24)).alloc (.cells #[.bool m, .slice c us.length cc, .slice d vs.length cd] 24)).alloc (.cells #[.bool false, .slice none 0 0, .slice none 0 0] 24)) ww (.slice a1 z1.length c1) z1 (gcdI (val us) (val ys))) => quot_by _ HK.out hv' (HSL.out.2.1.later hv') (by omega) ty h HF0.out.2.2.1 (by have := HF0.out; have := HL.out; omega))
  have HPR := hid (fun ww (hv' : Below (((w.alloc (.cells #[.bool n, .slice a xs.length ca, .slice b ys.length cb] 24)).alloc (.cells #[.bool m, .slice c us.length cc, .slice d vs.length cd] 24)).alloc (.cells #[.bool false, .slice none 0 0, .slice none 0 0] 24)).heap.size (((w.alloc (.cells #[.bool n, .slice a xs.length ca, .slice b ys.length cb] 24)).alloc (.cells #[.bool m, .slice c us.length cc, .slice d vs.length cd] 24)).alloc (.cells #[.bool false, .slice none 0 0, .slice none 0 0] 24)) ww) (a1 : Option Addr) (z1 : List Int) (c1 : Nat) (s1 : Int) (h : One (((w.alloc (.cells #[.bool n, .slice a xs.length ca, .slice b ys.length cb] 24)).alloc (.cells #[.bool m, .slice c us.length cc, .slice d vs.length cd] 24)).alloc (.cells #[.bool false, .slice none 0 0, .slice none 0 0] 24)) ww (.slice a1 z1.length c1) z1 s1) (a2 : Option Addr) (z2 : List Int) (c2 : Nat) (s2 : Int) (g : One (((w.alloc (.cells #[.bool n, .slice a xs.length ca, .slice b ys.length cb] 24)).alloc (.cells #[.bool m, .slice c us.length cc, .slice d vs.length cd] 24)).alloc (.cells #[.bool false, .slice none 0 0, .slice none 0 0] 24)) ww (.slice a2 z2.length c2) z2 s2) (k1 : s1 < 4294967296 ^ 2048) (k2 : s2 < 4294967296 ^ 2048) => told1_at _ HK.out ww hv' (show Calls Tryz.prog 60 #[.slice a1 z1.length c1, .slice a2 z2.length c2] ww (Told1 ww (s1 * s2)) by
    have e := rprod_any _ _ z1 z2 ww h.sl g.sl (by have := own_len h k1; have := own_len g k2; omega) h.2.2.1 g.2.2.1
    rw [h.2.2.2, g.2.2.2] at e
    exact e))
  have HD : Hid (val xs / gcdI (val xs) (val vs) < 4294967296 ^ 2048 ∧ val us / gcdI (val us) (val ys) < 4294967296 ^ 2048 ∧ val ys / gcdI (val us) (val ys) < 4294967296 ^ 2048 ∧ val vs / gcdI (val xs) (val vs) < 4294967296 ^ 2048) := by
    have q1 := Int.ediv_le_self (gcdI (val xs) (val vs)) HNN.out.1
    have q2 := Int.ediv_le_self (gcdI (val us) (val ys)) HNN.out.2
    have q3 := Int.ediv_le_self (a := val ys) (gcdI (val us) (val ys)) (by omega)
    have q4 := Int.ediv_le_self (a := val vs) (gcdI (val xs) (val vs)) (by omega)
    have := HL.out
    refine ⟨?_, ?_, ?_, ?_⟩ <;> omega
  have hs0 := HK.out _ (Below.drew (Below.refl _ (((w.alloc (.cells #[.bool n, .slice a xs.length ca, .slice b ys.length cb] 24)).alloc (.cells #[.bool m, .slice c us.length cc, .slice d vs.length cd] 24)).alloc (.cells #[.bool false, .slice none 0 0, .slice none 0 0] 24))))
  go_enter Tryz.func36, Tryz.ntmps36
  go_wp2_with fail
  go_region_held3 (fun w' : World => w'.cell? ⟨w.heap.size, 0, none⟩ = some (.bool n) ∧ w'.cell? ⟨w.heap.size, 1, none⟩ = some (.slice a xs.length ca) ∧ w'.cell? ⟨w.heap.size, 2, none⟩ = some (.slice b ys.length cb) ∧ w'.cell? ⟨w.heap.size + 1, 0, none⟩ = some (.bool m) ∧ w'.cell? ⟨w.heap.size + 1, 1, none⟩ = some (.slice c us.length cc) ∧ w'.cell? ⟨w.heap.size + 1, 2, none⟩ = some (.slice d vs.length cd)) (first | exact hs2 | exact hs1 | exact hs0)
    (first
      | (go_at_call 57; with_reducible refine Calls.mono (HC2.out _ hb1) ?_; rintro e w2 ⟨a2, z2, c2, rfl, HE2, hs2, hb2, HS2⟩)
      | (go_at_call 57; with_reducible refine Calls.mono (HC1.out _ (Below.drew (Below.refl _ _))) ?_; rintro e w1 ⟨a1, z1, c1, rfl, HE1, hs1, hb1, HS1⟩))
  have hb2d := hb2.drew
  have HO1 := hid ((HE1.out.later HS2.out).later (Below.drew (Below.refl _ w2)))
  have HO2 := hid (HE2.out.later (Below.drew (Below.refl _ w2)))
  have hs0 := HK.out _ hb2d
  clear hs1 hs2 hb1 HC1 HC2 HE1 HE2 HS1 HS2
  go_wp2_with fail
  go_region_held3 (fun w' : World => w'.cell? ⟨w.heap.size, 0, none⟩ = some (.bool n) ∧ w'.cell? ⟨w.heap.size, 1, none⟩ = some (.slice a xs.length ca) ∧ w'.cell? ⟨w.heap.size, 2, none⟩ = some (.slice b ys.length cb) ∧ w'.cell? ⟨w.heap.size + 1, 0, none⟩ = some (.bool m) ∧ w'.cell? ⟨w.heap.size + 1, 1, none⟩ = some (.slice c us.length cc) ∧ w'.cell? ⟨w.heap.size + 1, 2, none⟩ = some (.slice d vs.length cd)) (first | exact hs5 | exact hs4 | exact hs3 | exact hs0)
    (first
      | (go_at_call 60; with_reducible refine Calls.mono (HPR.out _ hb4 _ _ _ _ (HE3.out.later HS4.out) _ _ _ _ HE4.out HD.out.1 HD.out.2.1) ?_; rintro e w5 ⟨a5, z5, c5, rfl, HE5, hs5, hb5, HS5⟩)
      | (go_at_call 58; with_reducible refine Calls.mono (HQU.out _ hb3 _ _ _ (HO2.out.later HS3.out)) ?_; rintro e w4 ⟨a4, z4, c4, rfl, HE4, hs4, hb4, HS4⟩)
      | (go_at_call 58; with_reducible refine Calls.mono (HQX.out _ hb2d _ _ _ HO1.out) ?_; rintro e w3 ⟨a3, z3, c3, rfl, HE3, hs3, hb3, HS3⟩))
  have hb5d := hb5.drew
  have HO1' := hid ((((HO1.out.later HS3.out).later HS4.out).later HS5.out).later (Below.drew (Below.refl _ w5)))
  have HO2' := hid ((((HO2.out.later HS3.out).later HS4.out).later HS5.out).later (Below.drew (Below.refl _ w5)))
  have HO5 := hid (HE5.out.later (Below.drew (Below.refl _ w5)))
  clear hs0 hs3 hs4 hs5 HO1 HO2 hb3 hb4 hb2 hb2d HE3 HE4 HE5 HS3 HS4 HS5
  have hs0 := HK.out _ hb5d
  go_wp2_with fail
  go_region_held3 (fun w' : World => w'.cell? ⟨w.heap.size, 0, none⟩ = some (.bool n) ∧ w'.cell? ⟨w.heap.size, 1, none⟩ = some (.slice a xs.length ca) ∧ w'.cell? ⟨w.heap.size, 2, none⟩ = some (.slice b ys.length cb) ∧ w'.cell? ⟨w.heap.size + 1, 0, none⟩ = some (.bool m) ∧ w'.cell? ⟨w.heap.size + 1, 1, none⟩ = some (.slice c us.length cc) ∧ w'.cell? ⟨w.heap.size + 1, 2, none⟩ = some (.slice d vs.length cd)) (first | exact hs8 | exact hs7 | exact hs6 | exact hs0)
    (first
      | (go_at_call 60; with_reducible refine Calls.mono (HPR.out _ hb7 _ _ _ _ (HE6.out.later HS7.out) _ _ _ _ HE7.out HD.out.2.2.1 HD.out.2.2.2) ?_; rintro e w8 ⟨a8, z8, c8, rfl, HE8, hs8, hb8, HS8⟩)
      | (go_at_call 58; with_reducible refine Calls.mono (HQV.out _ hb6 _ _ _ (HO1'.out.later HS6.out)) ?_; rintro e w7 ⟨a7, z7, c7, rfl, HE7, hs7, hb7, HS7⟩)
      | (go_at_call 58; with_reducible refine Calls.mono (HQY.out _ hb5d _ _ _ HO2'.out) ?_; rintro e w6 ⟨a6, z6, c6, rfl, HE6, hs6, hb6, HS6⟩))
  have HN := hid (((HO5.out.later HS6.out).later HS7.out).later HS8.out)
  have hmp := mul_parts (n := n) (m := m) HP.out.1 HP.out.2.1 HP.out.2.2.1 HP.out.2.2.2 rfl rfl rfl rfl
  have HT := hid (fun ww (hb : Below (((w.alloc (.cells #[.bool n, .slice a xs.length ca, .slice b ys.length cb] 24)).alloc (.cells #[.bool m, .slice c us.length cc, .slice d vs.length cd] 24)).alloc (.cells #[.bool false, .slice none 0 0, .slice none 0 0] 24)).heap.size (((w.alloc (.cells #[.bool n, .slice a xs.length ca, .slice b ys.length cb] 24)).alloc (.cells #[.bool m, .slice c us.length cc, .slice d vs.length cd] 24)).alloc (.cells #[.bool false, .slice none 0 0, .slice none 0 0] 24)) ww) (g1 : One (((w.alloc (.cells #[.bool n, .slice a xs.length ca, .slice b ys.length cb] 24)).alloc (.cells #[.bool m, .slice c us.length cc, .slice d vs.length cd] 24)).alloc (.cells #[.bool false, .slice none 0 0, .slice none 0 0] 24)) ww (.slice a5 z5.length c5) z5 _) (g2 : One (((w.alloc (.cells #[.bool n, .slice a xs.length ca, .slice b ys.length cb] 24)).alloc (.cells #[.bool m, .slice c us.length cc, .slice d vs.length cd] 24)).alloc (.cells #[.bool false, .slice none 0 0, .slice none 0 0] 24)) ww (.slice a8 z8.length c8) z8 _) => rtold_at _ HK.out hb g1 g2 hmp.1 hmp.2.1 hmp.2.2)
  obtain ⟨g0, g1, g2, g3, g4, g5⟩ := hs8
  have HBX := hid hb8
  have HE8' := hid HE8.out
  clear hs0 hs6 hs7 hb5 hb5d hb6 hb7 hb8 HO1' HO2' HO5 HE6 HE7 HE8 HS6 HS7 HS8 hmp HQX HQV HQU HQY HPR
  go_wp2_with fail
  refine Calls.mono (HT.out _ HBX.out HN.out HE8'.out) ?_
  rintro e w9 ⟨k9, a9, z9, c9, aA, zA, cA, code, rfl, HR, _, hb9⟩
  obtain ⟨y0, y1, y2, f0, f1, f2⟩ := res_box3 HZ.out hb9
  have HBW := hid (bt HB.out hb9)
  clear hb9 g0 g1 g2 g3 g4 g5 HT HN HE8'
  go_wp2_with fail
  refine bodyPost_ret (v := .tuple #[.agg #[.bool k9, .slice a9 z9.length c9, .slice aA zA.length cA], .int .i64 code]) (by simp [results, Tryz.results36, go_sem, y0, y1, y2]) rfl ?_
  exact RTold.put HR.out (w.heap.size + 1 + 1) HXS.out (by omega) HBW.out _ _ _
end Go.Proofs.YtpehpflgfkdiaaaGreat

/- Whole numbers: whole.divide, DivMod as in Wh6, and besides: quotient and rest lie apart. -/
namespace Go.Proofs.YtpehpflgfkdiaaaGreat
open Go.RowKit
set_option linter.unusedVariables false

/-- The first lies below a cut, the second from it on: both new. -/
def Cut (w : World) (v u : Value) (w' : World) : Prop := ∃ c, w.heap.size ≤ c ∧ c ≤ w'.heap.size ∧ Lies v w.heap.size c ∧ Lies u c w'.heap.size
theorem Cut.up {w w' W W' : World} {v u : Value} (h : Cut w v u w') (h0 : W.heap.size ≤ w.heap.size) (h1 : w'.heap.size ≤ W'.heap.size) : Cut W v u W' := by
  obtain ⟨c, c0, c1, l0, l1⟩ := h
  exact ⟨c, Nat.le_trans h0 c0, Nat.le_trans c1 h1, fun g hg => ⟨Nat.le_trans h0 (l0 g hg).1, (l0 g hg).2⟩, fun g hg => ⟨(l1 g hg).1, Nat.lt_of_lt_of_le (l1 g hg).2 h1⟩⟩

set_option maxHeartbeats 800000 in
set_option maxRecDepth 100000 in
theorem divMod_cut (v u : Value) (xs ys : List Int) (w : World) (h : Sl w v xs) (g : Sl w u ys) (lx : xs.length ≤ 8192) (ly : ys.length ≤ 8192) (tx : Trimmed xs) (ty : Trimmed ys) (h0 : 0 < ys.length) :
    Calls Tryz.prog 79 #[v, u] w fun e w' => ∃ v1 u1 q r, e = .returned (.tuple #[v1, u1, .int .i64 0]) ∧ w'.ownsRow w.heap.size 60 1 v1 q.length (q.map (Value.int .u32)) ∧ w'.ownsRow w.heap.size 60 1 u1 r.length (r.map (Value.int .u32)) ∧ Wd q ∧ Wd r ∧ Trimmed q ∧ Trimmed r ∧ val xs = val q * val ys + val r ∧ val r < val ys ∧ Below w.heap.size w w' ∧ Cut w v1 u1 w' := by
  have HB := hid (checkBoth_sl v u xs ys w h g (by omega) (by omega))
  rw [both_good (chk_good lx tx) (chk_good ly ty)] at HB
  have HD : Hid (Calls Tryz.prog 101 #[v, u] w (Divided w xs ys)) := divide_any v u xs ys w h g lx ly tx ty h0
  obtain ⟨b, cap', rfl, gr⟩ := g
  have hz : ((ys.length : Int) == 0) = false := by simp; exact fun e => by rw [e] at h0; simp at h0
  clear gr h ty
  go_enter Tryz.func79, Tryz.ntmps79
  go_wp2_with fail
  refine Calls.mono HB.out ?_
  rintro e w' ⟨rfl, rfl⟩
  go_wp2_with fail
  refine Calls.mono HD.out ?_
  rintro e w1 ⟨v1, u1, q, r, c, rfl, oq, orr, i1, i2, i3, i4, wq, wr, tq, tr, hv, hlt, hbel⟩
  have HCU : Hid (Cut w v1 u1 w1) := ⟨c, i3, i4, i1, i2⟩
  have HQ := hid oq
  have HR := hid orr
  have HV := hid hv
  have HLT := hid hlt
  clear oq orr hv hlt i1 i2 i3 i4
  go_wp2
  go_ret3
  exact ⟨v1, u1, q, r, rfl, HQ.out, HR.out, wq, wr, tq, tr, HV.out, HLT.out, hbel, HCU.out⟩

/-- A size and a rest, in new memory, apart. -/
def WPartsA (w : World) (n : Bool) (xs ys : List Int) (x : Ending) (w' : World) : Prop := ∃ v1 u1 q r, x = .returned (.tuple #[v1, u1]) ∧ w'.ownsRow w.heap.size 60 1 v1 q.length (q.map (Value.int .u32)) ∧ w'.ownsRow w.heap.size 60 1 u1 r.length (r.map (Value.int .u32)) ∧ Wd q ∧ Wd r ∧ Trimmed q ∧ Trimmed r ∧ q.length ≤ 2048 ∧ r.length ≤ 2048 ∧
  val xs = val q * val ys + sg n (val r) ∧ val r < val ys ∧ Below w.heap.size w w' ∧ Cut w v1 u1 w'
set_option maxHeartbeats 3200000 in
set_option maxRecDepth 100000 in
theorem wdivide_cut (n : Bool) (v : Value) (xs : List Int) (m0 : Bool) (u : Value) (ys : List Int) (w : World) (h : Sl w v xs) (g : Sl w u ys) (lx : xs.length ≤ 2048) (ly : ys.length ≤ 2048) (tx : Trimmed xs) (ty : Trimmed ys) (h0 : 0 < ys.length) :
    Calls Tryz.prog 68 #[.agg #[.bool n, v], .agg #[.bool m0, u]] w (WPartsA w n xs ys) := by
  have wx := h.wd
  have wy := g.wd
  have HY1 := hid (val_pos' wy ty h0)
  have HXL := hid (below2048 wx lx)
  have HYL := hid (below2048 wy ly)
  obtain ⟨a, cap, rfl, hr⟩ := h
  obtain ⟨b, cap', rfl, gr⟩ := g
  have h : Sl w (.slice a xs.length cap) xs := ⟨a, cap, rfl, hr⟩
  have g : Sl w (.slice b ys.length cap') ys := ⟨b, cap', rfl, gr⟩
  clear hr gr
  have HB : Hid (Below w.heap.size w ((w.alloc (.cells #[.bool n, .slice a xs.length cap] 37)).alloc (.cells #[.bool m0, .slice b ys.length cap'] 37))) := bt (alloc_later _ _) (alloc_later _ _)
  have HN : Hid (Box ((w.alloc (.cells #[.bool n, .slice a xs.length cap] 37)).alloc (.cells #[.bool m0, .slice b ys.length cap'] 37)) w.heap.size 37 #[.bool n, .slice a xs.length cap]) := Box.later (Box.made w _ _) (alloc_later _ _) (by simp)
  have HM : Hid (Box ((w.alloc (.cells #[.bool n, .slice a xs.length cap] 37)).alloc (.cells #[.bool m0, .slice b ys.length cap'] 37)) (w.heap.size + 1) 37 #[.bool m0, .slice b ys.length cap']) := by
    have e := Box.made (w.alloc (.cells #[.bool n, .slice a xs.length cap] 37)) 37 #[.bool m0, .slice b ys.length cap']
    simp at e
    exact e
  have HXS : Hid (w.heap.size ≤ ((w.alloc (.cells #[.bool n, .slice a xs.length cap] 37)).alloc (.cells #[.bool m0, .slice b ys.length cap'] 37)).heap.size) := HB.out.size
  have HD := hid (divMod_cut _ _ xs ys _ (h.later HB.out) (g.later HB.out) (by omega) (by omega) tx ty h0)
  have HG := hid (g.later HB.out)
  clear h g
  cases n with
  | false =>
    go_enter Tryz.func68, Tryz.ntmps68
    go_wp2_with fail
    refine Calls.mono HD.out ?_
    rintro e w1 ⟨v1, u1, q, r, rfl, oq, orr, wq, wr, tq, tr, hv, hlt, hb1, hcu⟩
    obtain ⟨p0, p1, _, _⟩ := res_box HN.out hb1
    obtain ⟨q0, q1, _, _⟩ := res_box HM.out hb1
    have hq := q_le hv HY1.out (val_nonneg wq) (val_nonneg wr)
    have hr0 := val_nonneg wr
    have HF : Hid (WPartsA w false xs ys (.returned (.tuple #[v1, u1])) w1) := ⟨v1, u1, q, r, rfl, owns_base oq HXS.out, owns_base orr HXS.out, wq, wr, tq, tr, short2048 wq tq (by have := HXL.out; omega), short2048 wr tr (by have := HYL.out; omega), hv, hlt, bt HB.out hb1, hcu.up HXS.out (Nat.le_refl _)⟩
    obtain ⟨a1, k1, hv1⟩ := own_slice' oq
    obtain ⟨a2, k2, hv2⟩ := own_slice' orr
    subst hv1
    subst hv2
    clear oq orr hv hlt hb1 hcu hq hr0
    go_wp2_with fail
    go_ret2
    exact HF.out
  | true =>
    go_enter Tryz.func68, Tryz.ntmps68
    go_wp2_with fail
    refine Calls.mono HD.out ?_
    rintro e w1 ⟨v1, u1, q, r, rfl, oq, orr, wq, wr, tq, tr, hv, hlt, hb1, hcu⟩
    obtain ⟨p0, p1, _, _⟩ := res_box HN.out hb1
    obtain ⟨q0, q1, _, _⟩ := res_box HM.out hb1
    have hq := q_le hv HY1.out (val_nonneg wq) (val_nonneg wr)
    have hr0 := val_nonneg wr
    have hq0 := val_nonneg wq
    by_cases hr : r.length = 0
    · have hrn : r = [] := List.eq_nil_of_length_eq_zero hr
      subst hrn
      have HF : Hid (WPartsA w true xs ys (.returned (.tuple #[v1, u1])) w1) := ⟨v1, u1, q, [], rfl, owns_base oq HXS.out, owns_base orr HXS.out, wq, wr, tq, tr, short2048 wq tq (by have := HXL.out; omega), by simp, by rw [hv]; rfl, hlt, bt HB.out hb1, hcu.up HXS.out (Nat.le_refl _)⟩
      obtain ⟨a1, k1, hv1⟩ := own_slice' oq
      obtain ⟨a2, k2, hv2⟩ := own_slice' orr
      subst hv1
      subst hv2
      clear oq orr hv hlt hb1 hcu hq hr0 hr
      go_wp2_with fail
      go_ret2
      exact HF.out
    · have hr1 := val_pos' wr tr (by omega)
      have hrb : ((r.length : Int) == 0) = false := by simp; exact fun e => hr (by rw [e]; rfl)
      have lq : q.length ≤ 2048 := short2048 wq tq (by have := HXL.out; omega)
      have lr : r.length ≤ 2048 := short2048 wr tr (by have := HYL.out; omega)
      have HQ := hid (Sl.own oq wq)
      have HR := hid (Sl.own orr wr)
      obtain ⟨a1, k1, hv1⟩ := own_slice' oq
      obtain ⟨a2, k2, hv2⟩ := own_slice' orr
      subst hv1
      subst hv2
      have HOF := hid (of_any 1 w1 (by omega) (by omega))
      have HB1 := hid hb1
      have HVL := hid (And.intro hv (And.intro hlt (And.intro hq (And.intro hr0 (And.intro hq0 hr1)))))
      clear oq orr hv hlt hb1 hcu hq hr0 hq0 hr1 hr HD
      go_wp2_with fail
      refine Calls.mono HOF.out ?_
      rintro e w2 ⟨v2, rfl, o2, hb2⟩
      have s2 := Sl.own (owns_len o2) (of_wd 1 (by omega) (by omega)).trimmed
      have e2 : trimmed [1 % 4294967296, 1 / 4294967296] = [1] := by decide
      rw [e2] at s2
      have HAD := hid (add_sl _ _ q [1] w2 (HQ.out.later hb2) s2 (by omega) (by simp))
      rw [both_good (chk_good (by omega) tq) (chk_good (by simp) (show Trimmed [1] from rfl)), val_one] at HAD
      have HB2 := hid (bt HB1.out hb2)
      have HR2 := hid (HR.out.later hb2)
      clear o2 hb2 s2 e2 HOF HR HQ p0 p1 q0 q1
      go_wp2_with fail
      refine Calls.mono HAD.out ?_
      rintro e w3 ⟨v3, z3, c3, rfl, o3, t3, hb3⟩
      have hw3 : val q + 1 < wide := by have := HVL.out; have := HXL.out; have := wide2048; omega
      obtain ⟨rfl, hv3⟩ := t3.good rfl hw3
      have w3' := t3.wd
      have tt3 := t3.trim
      obtain ⟨a3, k3, hs3⟩ := own_slice' o3
      subst hs3
      obtain ⟨q0, q1, _, _⟩ := res_box HM.out (bt HB2.out hb3)
      have HSB := hid (sub_sl _ _ ys r w3 ((HG.out.later HB2.out).later hb3) (HR2.out.later hb3) (by omega) (by omega))
      rw [if_pos (both_good (chk_good (by omega) ty) (chk_good (by omega) tr)), if_neg (by have := HVL.out.2.1; omega)] at HSB
      have HB3 := hid (bt HB2.out hb3)
      have HO3 := hid o3
      have HV3 := hid hv3
      clear o3 t3 hb3 hv3 hw3 HAD HR2
      go_wp2_with fail
      refine Calls.mono HSB.out ?_
      rintro e w4 ⟨v4, z4, c4, rfl, o4, t4, hb4⟩
      have hw4 : val ys - val r < wide := by have := HVL.out; have := HYL.out; have := wide2048; omega
      obtain ⟨rfl, hv4⟩ := t4.good rfl hw4
      have w4' := t4.wd
      have tt4 := t4.trim
      obtain ⟨a4, k4, hs4⟩ := own_slice' o4
      subst hs4
      have HF : Hid (WPartsA w true xs ys (.returned (.tuple #[.slice a3 z3.length k3, .slice a4 z4.length k4])) w4) := by
        obtain ⟨g1, g2, g3, g4, g5, g6⟩ := HVL.out
        refine ⟨_, _, z3, z4, rfl, owns_base (owns_later HO3.out hb4) (by have := HXS.out; have := HB2.out.size; omega), owns_base o4 (by have := HXS.out; have := HB3.out.size; omega), w3', w4', tt3, tt4, short2048 w3' tt3 (by rw [HV3.out]; have := HXL.out; omega), short2048 w4' tt4 (by rw [hv4]; have := HYL.out; omega), ?_, by rw [hv4]; omega, bt HB.out (bt HB3.out hb4), ⟨w3.heap.size, Nat.le_trans HXS.out HB3.out.size, hb4.size, fun g hg => ⟨Nat.le_trans (Nat.le_trans HXS.out HB2.out.size) (HO3.out.lt g hg).1, (HO3.out.lt g hg).2⟩, fun g hg => o4.lt g hg⟩⟩
        rw [HV3.out, hv4, Int.add_mul, Int.one_mul]
        show _ = _ + -(val ys - val r)
        omega
      clear o4 t4 hb4 hv4 hw4 HSB q0 q1
      go_wp2_with fail
      go_ret2
      exact HF.out

/-- Quotient and rest of whole numbers, in new memory, apart. -/
def WDivA (w : World) (X Y : Int) (x : Ending) (w' : World) : Prop := ∃ nq vq zq vr zr, x = .returned (.tuple #[.agg #[.bool nq, vq], .agg #[.bool false, vr], .int .i64 0]) ∧ w'.ownsRow w.heap.size 60 1 vq zq.length (zq.map (Value.int .u32)) ∧ w'.ownsRow w.heap.size 60 1 vr zr.length (zr.map (Value.int .u32)) ∧ Wd zq ∧ Wd zr ∧ Trimmed zq ∧ Trimmed zr ∧ zq.length ≤ 2048 ∧ zr.length ≤ 2048 ∧ (nq = false ∨ 0 < zq.length) ∧
  X = wval nq zq * Y + val zr ∧ val zr < (Y.natAbs : Int) ∧ Below w.heap.size w w' ∧ Cut w vq vr w'
set_option maxHeartbeats 3200000 in
set_option maxRecDepth 100000 in
theorem wdivMod_cut (n : Bool) (v : Value) (xs : List Int) (m0 : Bool) (u : Value) (ys : List Int) (w : World) (h : Sl w v xs) (g : Sl w u ys) (hx : wchk n xs = 0) (hy : wchk m0 ys = 0) (h0 : 0 < ys.length) :
    Calls Tryz.prog 43 #[.agg #[.bool n, v], .agg #[.bool m0, u]] w (WDivA w (wval n xs) (wval m0 ys)) := by
  obtain ⟨lx, tx, _⟩ := wchk_ok hx
  obtain ⟨ly, ty, _⟩ := wchk_ok hy
  have wx := h.wd
  have wy := g.wd
  obtain ⟨a, cap, rfl, hr⟩ := h
  obtain ⟨b, cap', rfl, gr⟩ := g
  have h : Sl w (.slice a xs.length cap) xs := ⟨a, cap, rfl, hr⟩
  have g : Sl w (.slice b ys.length cap') ys := ⟨b, cap', rfl, gr⟩
  clear hr gr
  have HB : Hid (Below w.heap.size w ((((w.alloc (.cells #[.bool n, .slice a xs.length cap] 37)).alloc (.cells #[.bool m0, .slice b ys.length cap'] 37)).alloc (.cells #[.bool false, .slice none 0 0] 37)).alloc (.cells #[.bool false, .slice none 0 0] 37))) := bt (bt (bt (alloc_later _ _) (alloc_later _ _)) (alloc_later _ _)) (alloc_later _ _)
  have HN : Hid (Box ((((w.alloc (.cells #[.bool n, .slice a xs.length cap] 37)).alloc (.cells #[.bool m0, .slice b ys.length cap'] 37)).alloc (.cells #[.bool false, .slice none 0 0] 37)).alloc (.cells #[.bool false, .slice none 0 0] 37)) w.heap.size 37 #[.bool n, .slice a xs.length cap]) := Box.later (Box.made w _ _) (bt (bt (alloc_later _ _) (alloc_later _ _)) (alloc_later _ _)) (by simp)
  have HM : Hid (Box ((((w.alloc (.cells #[.bool n, .slice a xs.length cap] 37)).alloc (.cells #[.bool m0, .slice b ys.length cap'] 37)).alloc (.cells #[.bool false, .slice none 0 0] 37)).alloc (.cells #[.bool false, .slice none 0 0] 37)) (w.heap.size + 1) 37 #[.bool m0, .slice b ys.length cap']) := by
    have e := Box.later (Box.made (w.alloc (.cells #[.bool n, .slice a xs.length cap] 37)) 37 #[.bool m0, .slice b ys.length cap']) (bt (alloc_later ((w.alloc (.cells #[.bool n, .slice a xs.length cap] 37)).alloc (.cells #[.bool m0, .slice b ys.length cap'] 37)) (.cells #[.bool false, .slice none 0 0] 37)) (alloc_later _ (.cells #[.bool false, .slice none 0 0] 37))) (by simp)
    simp at e
    exact e
  have HZ1 : Hid (Box ((((w.alloc (.cells #[.bool n, .slice a xs.length cap] 37)).alloc (.cells #[.bool m0, .slice b ys.length cap'] 37)).alloc (.cells #[.bool false, .slice none 0 0] 37)).alloc (.cells #[.bool false, .slice none 0 0] 37)) (w.heap.size + 1 + 1) 37 #[.bool false, .slice none 0 0]) := by
    have e := Box.later (Box.made ((w.alloc (.cells #[.bool n, .slice a xs.length cap] 37)).alloc (.cells #[.bool m0, .slice b ys.length cap'] 37)) 37 #[.bool false, .slice none 0 0]) (alloc_later (((w.alloc (.cells #[.bool n, .slice a xs.length cap] 37)).alloc (.cells #[.bool m0, .slice b ys.length cap'] 37)).alloc (.cells #[.bool false, .slice none 0 0] 37)) (.cells #[.bool false, .slice none 0 0] 37)) (by simp)
    simp at e
    exact e
  have HZ2 : Hid (Box ((((w.alloc (.cells #[.bool n, .slice a xs.length cap] 37)).alloc (.cells #[.bool m0, .slice b ys.length cap'] 37)).alloc (.cells #[.bool false, .slice none 0 0] 37)).alloc (.cells #[.bool false, .slice none 0 0] 37)) (w.heap.size + 1 + 1 + 1) 37 #[.bool false, .slice none 0 0]) := by
    have e := Box.made (((w.alloc (.cells #[.bool n, .slice a xs.length cap] 37)).alloc (.cells #[.bool m0, .slice b ys.length cap'] 37)).alloc (.cells #[.bool false, .slice none 0 0] 37)) 37 #[.bool false, .slice none 0 0]
    simp at e
    exact e
  have HXS : Hid (w.heap.size + 1 + 1 + 1 < ((((w.alloc (.cells #[.bool n, .slice a xs.length cap] 37)).alloc (.cells #[.bool m0, .slice b ys.length cap'] 37)).alloc (.cells #[.bool false, .slice none 0 0] 37)).alloc (.cells #[.bool false, .slice none 0 0] 37)).heap.size) := HZ2.out.lt
  have HCB := hid (wcheckBoth_any n _ xs m0 _ ys _ (h.later HB.out) (g.later HB.out) (by omega) (by omega))
  rw [wboth_good hx hy] at HCB
  have HIN := hid (fun w1 (hb : Below _ ((((w.alloc (.cells #[.bool n, .slice a xs.length cap] 37)).alloc (.cells #[.bool m0, .slice b ys.length cap'] 37)).alloc (.cells #[.bool false, .slice none 0 0] 37)).alloc (.cells #[.bool false, .slice none 0 0] 37)) w1) => wdivide_cut n _ xs m0 _ ys w1 ((h.later HB.out).later hb) ((g.later HB.out).later hb) lx ly tx ty h0)
  have hyb : ((ys.length : Int) == 0) = false := by simp; exact fun e => by rw [e] at h0; simp at h0
  clear h g hx hy
  go_enter Tryz.func43, Tryz.ntmps43
  go_wp2_with fail
  refine Calls.mono HCB.out ?_
  rintro e w1 ⟨rfl, hb1⟩
  obtain ⟨p0, p1, _, _⟩ := res_box HN.out hb1
  obtain ⟨q0, q1, _, _⟩ := res_box HM.out hb1
  have HIN1 := hid (HIN.out w1 hb1)
  have HB1 := hid hb1
  clear hb1 HIN
  go_wp2_with fail
  refine Calls.mono HIN1.out ?_
  rintro e w2 ⟨v1, u1, q, r, rfl, oq, orr, wq, wr, tq, tr, lq, lr, hv, hlt, hb2, hcu⟩
  obtain ⟨a1, k1, hs1⟩ := own_slice' oq
  obtain ⟨a2, k2, hs2⟩ := own_slice' orr
  subst hs1
  subst hs2
  have HB2 := hid (bt HB1.out hb2)
  obtain ⟨p0, p1, _, _⟩ := res_box HN.out HB2.out
  obtain ⟨q0, q1, _, _⟩ := res_box HM.out HB2.out
  have HU := hid (wunlike_any n a xs.length cap m0 b ys.length cap' w2)
  have HOQ := hid (owns_base oq HB1.out.size)
  have HOR := hid (owns_base orr HB1.out.size)
  have HVV := hid (And.intro hv hlt)
  have HCU := hid (hcu.up (Nat.le_trans HB.out.size HB1.out.size) (Nat.le_refl w2.heap.size))
  clear hcu
  obtain ⟨sn, hsn⟩ : ∃ sn, (n != m0) = sn := ⟨_, rfl⟩
  rw [hsn] at HU
  have HSN := hid hsn
  clear oq orr hv hlt hb2 hsn HIN1
  go_wp2_with fail
  refine Calls.mono HU.out ?_
  rintro e w3 ⟨rfl, hb3⟩
  have HF1 := hid (formed_any sn a1 q.length k1 w3)
  have HB3 := hid (bt HB2.out hb3)
  have HS3 := hid hb3.size
  have HOQ3 := hid (owns_later HOQ.out hb3)
  have HOR3 := hid (owns_later HOR.out hb3)
  obtain ⟨nb, hnb⟩ : ∃ nb, (sn && decide (0 < q.length)) = nb := ⟨_, rfl⟩
  rw [hnb] at HF1
  have HNB := hid hnb
  clear hb3 hnb p0 p1 q0 q1 HU HOQ HOR
  go_wp2_with fail
  refine Calls.mono HF1.out ?_
  rintro e w4 ⟨rfl, hb4⟩
  have HF2 := hid (formed_any false a2 r.length k2 w4)
  have HB4 := hid (bt HB3.out hb4)
  have HS4 := hid (Nat.le_trans HS3.out hb4.size)
  have HOQ4 := hid (owns_later HOQ3.out hb4)
  have HOR4 := hid (owns_later HOR3.out hb4)
  rw [Bool.false_and] at HF2
  clear hb4 HF1 HOQ3 HOR3
  go_wp2_with fail
  refine Calls.mono HF2.out ?_
  rintro e w5 ⟨rfl, hb5⟩
  obtain ⟨r0, r1, f0, f1⟩ := res_box HZ1.out (bt HB4.out hb5)
  obtain ⟨s0, s1, g0, g1⟩ := res_box HZ2.out (bt HB4.out hb5)
  have HOQ5 := hid (owns_later HOQ4.out hb5)
  have HOR5 := hid (owns_later HOR4.out hb5)
  have HB5 := hid (bt HB.out (bt HB4.out hb5))
  have HS5 := hid (Nat.le_trans HS4.out hb5.size)
  clear hb5 HF2 HOQ4 HOR4
  go_wp2_with fail
  refine bodyPost_ret (v := .tuple #[.agg #[.bool nb, .slice a1 q.length k1], .agg #[.bool false, .slice a2 r.length k2], .int .i64 0]) (by simp [results, Tryz.results43, go_sem, r0, r1, s0, s1]) rfl ?_
  have hge : ∀ (z : Value) (zs : List Int), w5.ownsRow ((((w.alloc (.cells #[.bool n, .slice a xs.length cap] 37)).alloc (.cells #[.bool m0, .slice b ys.length cap'] 37)).alloc (.cells #[.bool false, .slice none 0 0] 37)).alloc (.cells #[.bool false, .slice none 0 0] 37)).heap.size 60 1 z zs.length (zs.map (Value.int .u32)) → ∀ g, z.ownBlock = some g → g ≠ w.heap.size + 1 + 1 ∧ g ≠ w.heap.size + 1 + 1 + 1 := fun z zs ho g hg => by
    have h1 := (World.ownsRow.lt ho g hg).1
    have h2 := HXS.out
    omega
  have hwn : wval nb q = sg sn (val q) := by
    rw [← HNB.out]
    unfold wval sg
    cases sn with
    | false => rfl
    | true =>
      by_cases c : 0 < q.length
      · simp [c]
      · have e0 : val q = 0 := trimmed_zero' (by omega)
        simp [c, e0]
  refine ⟨nb, _, q, _, r, rfl, owns_base (own_put2 (own_put2 HOQ5.out _ (fun g hg => (hge _ q HOQ5.out g hg).1) _ _) _ (fun g hg => (hge _ q HOQ5.out g hg).2) _ _) (by have := HXS.out; omega), owns_base (own_put2 (own_put2 HOR5.out _ (fun g hg => (hge _ r HOR5.out g hg).1) _ _) _ (fun g hg => (hge _ r HOR5.out g hg).2) _ _) (by have := HXS.out; omega), wq, wr, tq, tr, lq, lr, ?_, ?_, ?_, below_put2 (below_put2 HB5.out _ (by omega) _ _) _ (by omega) _ _, HCU.out.up (Nat.le_refl _) (by simpa using HS5.out)⟩
  · rw [← HNB.out]
    by_cases c : 0 < q.length
    · exact .inr c
    · left; simp [c]
  · rw [hwn, ← HSN.out]
    exact div_sign HVV.out.1
  · have e1 := HVV.out.2
    have e2 := val_nonneg wy
    unfold wval
    cases m0 <;> simp <;> omega
end Go.Proofs.YtpehpflgfkdiaaaGreat

/- Fractions: ratio.Make: of two whole numbers, in whatever form; Num and Den lie apart. -/
namespace Go.Proofs.YtpehpflgfkdiaaaGreat
open Go.RowKit
set_option linter.unusedVariables false

/-- A fraction told in new memory, Num and Den apart. -/
def RToldA (w : World) (e : Int) (q : Rat) (x : Ending) (w' : World) : Prop :=
  ∃ n v xs u ys code, x = .returned (.tuple #[.agg #[.bool n, v, u], .int .i64 code]) ∧ w'.ownsRow w.heap.size 60 1 v xs.length (xs.map (Value.int .u32)) ∧ w'.ownsRow w.heap.size 60 1 u ys.length (ys.map (Value.int .u32)) ∧ RTells e q n xs ys code ∧ Below w.heap.size w w' ∧ Cut w v u w'
theorem RTells.same {e : Int} {q : Rat} {n m : Bool} {xs ys us vs : List Int} {c d : Int} (h : RTells e q n xs ys c) (g : RTells e q m us vs d) : n = m ∧ xs = us ∧ ys = vs ∧ c = d := by
  by_cases he : e = 0
  · by_cases hl : rlong q
    · obtain ⟨a1, a2, a3, a4⟩ := h.long he hl
      obtain ⟨b1, b2, b3, b4⟩ := g.long he hl
      exact ⟨by rw [a1, b1], by rw [a2, b2], by rw [a3, b3], by rw [a4, b4]⟩
    · obtain ⟨a1, a2, a3⟩ := h.good he hl
      obtain ⟨b1, b2, b3⟩ := g.good he hl
      obtain ⟨_, _, tx, ty, y0, sx, gx⟩ := rchk_ok a2
      obtain ⟨_, _, tu, tv, v0, su, gu⟩ := rchk_ok b2
      have py := val_pos' h.wy ty y0
      have pv := val_pos' g.wy tv v0
      have e1 := fr_inj (x := wval n xs) (d := val ys) (y := wval m us) (e := val vs) (by omega) (by rw [show wval n xs = sg n (val xs) from rfl, gcd_sg]; exact gx) (by omega) (by rw [show wval m us = sg m (val us) from rfl, gcd_sg]; exact gu) (a3.trans b3.symm)
      have e2 : n = m ∧ xs = us := by
        have x0 := val_nonneg h.wx
        have u0 := val_nonneg g.wx
        have e3 := e1.1
        cases n <;> cases m
        · exact ⟨rfl, trimmed_eq h.wx g.wx tx tu e3⟩
        · have e4 : val xs = -(val us) := e3
          have := val_pos' g.wx tu (su.elim (fun e => by cases e) id)
          omega
        · have e4 : -(val xs) = val us := e3
          have := val_pos' h.wx tx (sx.elim (fun e => by cases e) id)
          omega
        · have e4 : -(val xs) = -(val us) := e3
          exact ⟨rfl, trimmed_eq h.wx g.wx tx tu (by omega)⟩
      exact ⟨e2.1, e2.2, trimmed_eq h.wy g.wy ty tv e1.2, by rw [a1, b1]⟩
  · obtain ⟨a1, a2, a3, a4⟩ := h.bad he
    obtain ⟨b1, b2, b3, b4⟩ := g.bad he
    exact ⟨by rw [a1, b1], by rw [a2, b2], by rw [a3, b3], by rw [a4, b4]⟩
theorem RTells.len {e : Int} {q : Rat} {n : Bool} {xs ys : List Int} {c : Int} (h : RTells e q n xs ys c) : xs.length ≤ 2048 ∧ ys.length ≤ 2048 := by
  by_cases he : e = 0
  · by_cases hl : rlong q
    · obtain ⟨_, a2, a3, _⟩ := h.long he hl
      rw [a2, a3]; simp
    · obtain ⟨l1, l2, _⟩ := rchk_ok (h.good he hl).2.1
      exact ⟨l1, l2⟩
  · obtain ⟨_, a2, a3, _⟩ := h.bad he
    rw [a2, a3]; simp
theorem make_parts {n m : Bool} {xs ys : List Int} (hx : 0 ≤ val xs) (hy : 0 < val ys) :
    0 < val ys / gcdI (val xs) (val ys) ∧ gcdI (val xs / gcdI (val xs) (val ys)) (val ys / gcdI (val xs) (val ys)) = 1 ∧ Rat.divInt (sg (n != m) (val xs / gcdI (val xs) (val ys))) (val ys / gcdI (val xs) (val ys)) = Rat.divInt (wval n xs) (wval m ys) := by
  obtain ⟨e1, e2, e3⟩ := fr_make (x := val xs) (d := val ys) (p := val xs / gcdI (val xs) (val ys)) (e := val ys / gcdI (val xs) (val ys)) hy rfl (div_gcd_left rfl) (div_gcd_right rfl)
  refine ⟨e1, e2, ?_⟩
  generalize val xs / gcdI (val xs) (val ys) = p at *
  generalize val ys / gcdI (val xs) (val ys) = e at *
  cases n <;> cases m <;> simp [sg, wval, e3, Rat.divInt_neg', ← Rat.neg_divInt]
/-- A callee's contract, at each world that may come up in a region: with what stays beside it, and where what is told lies. -/
theorem told1_in {U : World} {f : Nat} {args : Array Value} {t : Int} (S : World → Prop) (hS : ∀ w', Below U.heap.size U w' → S w') (ww : World) (hb : Below U.heap.size U ww) (C : Calls Tryz.prog f args ww (Told1 ww t)) :
    Calls Tryz.prog f args ww fun e w' => ∃ a2 zs c2, e = .returned (.slice a2 zs.length c2) ∧ Hid (One U w' (.slice a2 zs.length c2) zs t ∧ Lies (.slice a2 zs.length c2) ww.heap.size w'.heap.size) ∧ S w' ∧ Below U.heap.size U w' ∧ Hid (Below ww.heap.size ww w') :=
  Calls.mono C fun e w' h => by
    obtain ⟨v, zs, rfl, o, h1, h2, h3, hb2⟩ := h
    obtain ⟨a2, c2, hs2⟩ := own_slice' o
    subst hs2
    exact ⟨a2, zs, c2, rfl, ⟨⟨owns_base o hb.size, h1, h2, h3⟩, fun g hg => o.lt g hg⟩, hS w' (bt hb hb2), bt hb hb2, hb2⟩
theorem quot_in {U ww : World} {a : Option Addr} {ca : Nat} {xs : List Int} {a1 : Option Addr} {z1 : List Int} {c1 : Nat} {g : Int} (S : World → Prop) (hS : ∀ w', Below U.heap.size U w' → S w') (hb : Below U.heap.size U ww) (hx : Sl ww (.slice a xs.length ca) xs) (lx : xs.length ≤ 8192) (tx : Trimmed xs) (h : One U ww (.slice a1 z1.length c1) z1 g) (h0 : 0 < g) (hl : g < 4294967296 ^ 2048) :
    Calls Tryz.prog 58 #[.slice a xs.length ca, .slice a1 z1.length c1] ww fun e w' => ∃ a2 zs c2, e = .returned (.slice a2 zs.length c2) ∧ Hid (One U w' (.slice a2 zs.length c2) zs (val xs / g) ∧ Lies (.slice a2 zs.length c2) ww.heap.size w'.heap.size) ∧ S w' ∧ Below U.heap.size U w' ∧ Hid (Below ww.heap.size ww w') := by
  have e := rquot_any _ _ xs z1 ww hx h.sl lx (by have := own_len h hl; omega) tx h.2.2.1 (own_pos h h0)
  rw [h.2.2.2] at e
  exact told1_in S hS ww hb e
theorem cut_two {U u V W : World} {v w : Value} (h0 : U.heap.size ≤ u.heap.size) (h1 : u.heap.size ≤ V.heap.size) (h2 : V.heap.size ≤ W.heap.size) (l1 : Lies v u.heap.size V.heap.size) (l2 : Lies w V.heap.size W.heap.size) : Cut U v w W :=
  ⟨V.heap.size, Nat.le_trans h0 h1, h2, fun g hg => ⟨Nat.le_trans h0 (l1 g hg).1, (l1 g hg).2⟩, l2⟩
/-- What told tells, where numerator and denominator lie apart. -/
theorem rtold_cut {U ww : World} {n : Bool} {a : Option Addr} {ca : Nat} {zs : List Int} {b : Option Addr} {cb : Nat} {ds : List Int} {s t : Int} {q : Rat} (S : World → Prop) (hS : ∀ w', Below U.heap.size U w' → S w') (hb : Below U.heap.size U ww) (h1 : One U ww (.slice a zs.length ca) zs s) (h2 : One U ww (.slice b ds.length cb) ds t) (hc : Cut U (.slice a zs.length ca) (.slice b ds.length cb) ww) (hd : 0 < t) (hg : gcdI s t = 1) (hq : Rat.divInt (sg n s) t = q) :
    Calls Tryz.prog 39 #[.bool n, .slice a zs.length ca, .slice b ds.length cb] ww fun e w' => ∃ k a8 z8 c8 a9 z9 c9 code, e = .returned (.tuple #[.agg #[.bool k, .slice a8 (List.length z8) c8, .slice a9 (List.length z9) c9], .int .i64 code]) ∧ Hid (w'.ownsRow U.heap.size 60 1 (.slice a8 (List.length z8) c8) z8.length (z8.map (Value.int .u32)) ∧ w'.ownsRow U.heap.size 60 1 (.slice a9 (List.length z9) c9) z9.length (z9.map (Value.int .u32)) ∧ RTells 0 q k z8 z9 code ∧ Cut U (.slice a8 (List.length z8) c8) (.slice a9 (List.length z9) c9) w') ∧ S w' ∧ Below U.heap.size U w' := by
  obtain ⟨o1, w1, t1, v1⟩ := h1
  obtain ⟨o2, w2, t2, v2⟩ := h2
  obtain ⟨k, us, vs, c, e1, e2, e3, r⟩ := rtells_of (n := n) w1 t1 w2 t2 (by rw [v2]; exact hd) (by rw [v1, v2]; exact hg)
  rw [v1, v2, hq] at r
  refine Calls.mono (rtold_any n a zs.length ca b ds.length cb ww) fun e w' h => ?_
  obtain ⟨rfl, hb2⟩ := h
  rw [e1]
  by_cases z : c = 0
  · rw [if_pos z] at e2 e3
    subst e2; subst e3
    refine ⟨k, a, us, ca, b, vs, cb, c, by rw [if_pos z, if_pos z], ⟨owns_later o1 hb2, owns_later o2 hb2, r, hc.up (Nat.le_refl _) hb2.size⟩, hS w' (bt hb hb2), bt hb hb2⟩
  · rw [if_neg z] at e2 e3
    subst e2; subst e3
    exact ⟨k, none, [], 0, none, [], 0, c, by rw [if_neg z, if_neg z]; rfl, ⟨World.ownsRow_nil _ _ _ _, World.ownsRow_nil _ _ _ _, r, ⟨U.heap.size, Nat.le_refl _, (bt hb hb2).size, fun g hg => by simp [Value.ownBlock] at hg, fun g hg => by simp [Value.ownBlock] at hg⟩⟩, hS w' (bt hb hb2), bt hb hb2⟩
theorem RToldA.put {w U w3 : World} {e : Int} {q : Rat} {k : Bool} {v u : Value} {zs ds : List Int} {code : Int} (h : w3.ownsRow U.heap.size 60 1 v zs.length (zs.map (Value.int .u32)) ∧ w3.ownsRow U.heap.size 60 1 u ds.length (ds.map (Value.int .u32)) ∧ RTells e q k zs ds code ∧ Cut U v u w3) (b : Nat) (hb : b < U.heap.size) (hw : w.heap.size ≤ b) (hbw : Below w.heap.size w w3) (x y z : Value) :
    RToldA w e q (.returned (.tuple #[.agg #[.bool k, v, u], .int .i64 code])) (((w3.setCell ⟨b, 0, none⟩ x).setCell ⟨b, 1, none⟩ y).setCell ⟨b, 2, none⟩ z) :=
  ⟨k, v, zs, u, ds, code, rfl, owns_base (own_put3 h.1 b (fun g hg => by have := (World.ownsRow.lt h.1 g hg).1; omega) _ _ _) (by omega), owns_base (own_put3 h.2.1 b (fun g hg => by have := (World.ownsRow.lt h.2.1 g hg).1; omega) _ _ _) (by omega), h.2.2.1, below_put3 hbw b hw _ _ _, h.2.2.2.up (by omega) (by simp)⟩
/-- The error of Make. -/
def mkErr (n : Bool) (xs : List Int) (m : Bool) (ys : List Int) : Int := if wboth n xs m ys = 0 then (if ys.length = 0 then 7 else 0) else wboth n xs m ys
end Go.Proofs.YtpehpflgfkdiaaaGreat

/- The laws of layer 2: lives (two of the chapter's examples hold); the document's own made, Of. -/
namespace Go.Proofs.YtpehpflgfkdiaaaGreat
open Go.RowKit
set_option linter.unusedVariables false

theorem wlim_big : (18446744073709551616 : Int) ≤ wlim := by
  have : (4294967296 : Int) ^ 2 ≤ 4294967296 ^ 2048 := pw_le (by omega)
  unfold wlim
  have e : (4294967296 : Int) ^ 2 = 18446744073709551616 := by decide
  rw [e] at this
  exact this
theorem WTells.num {t : Int} {n : Bool} {zs : List Int} {code : Int} (h : WTells 0 t n zs code) (h0 : -18446744073709551616 < t) (h1 : t < 18446744073709551616) : code = 0 ∧ wval n zs = t := by
  have := wlim_big
  exact h.good rfl (by omega) (by omega)
theorem wval_pos {n : Bool} {zs : List Int} (hw : Wd zs) (h : 0 < wval n zs) : n = false ∧ val zs = wval n zs := by
  have := val_nonneg hw
  cases n with
  | false => exact ⟨rfl, rfl⟩
  | true => have e : wval true zs = -(val zs) := rfl; omega

end Go.Proofs.YtpehpflgfkdiaaaGreat

/- The document's own fractions: Of: a fraction of a sign and two sizes, in its one form. -/
namespace Go.Proofs.YtpehpflgfkdiaaaGreat
open Go.RowKit
set_option linter.unusedVariables false

theorem rt_zero (n : Bool) (ys : List Int) : RTells 0 (Rat.divInt (sg n (val [])) (val ys)) false [] [1] 0 := by
  have e : Rat.divInt (sg n (val [])) (val ys) = Rat.divInt 0 1 := by cases n <;> simp [sg, val, valTo]
  rw [e]
  obtain ⟨e1, e2⟩ := fr_num (x := 0) (d := 1) (by omega) (by decide)
  have hk : rchk false [] [1] = 0 := rchk_good (by simp) (by simp) rfl rfl (by simp) (.inl rfl) (by decide)
  refine ⟨Wd.nil, Wd.one (by omega), fun h => absurd rfl h, fun _ hl => ?_, fun _ _ => ⟨rfl, hk, ?_⟩⟩
  · exfalso
    unfold rlong at hl
    rw [e1, e2] at hl
    have := wlim_big
    simp at hl
    omega
  · unfold rq
    rfl
theorem RTold.later {w W W' : World} {e : Int} {q : Rat} {x : Ending} (h : RTold w e q x W) (hb : Below W.heap.size W W') : RTold w e q x W' := by
  obtain ⟨n, v, xs, u, ys, code, rfl, o1, o2, t, hbw⟩ := h
  exact ⟨n, v, xs, u, ys, code, rfl, owns_later o1 hb, owns_later o2 hb, t, bt hbw hb⟩
theorem rt_rlong {n : Bool} {zs ds : List Int} (wz : Wd zs) (tz : Trimmed zs) (wd : Wd ds) (td : Trimmed ds) (hd : 0 < val ds) (hg : gcdI (val zs) (val ds) = 1) : rlong (Rat.divInt (sg n (val zs)) (val ds)) ↔ 2048 < max zs.length ds.length := by
  have hz0 := val_nonneg wz
  obtain ⟨e1, e2⟩ := fr_num (x := sg n (val zs)) hd (by rw [gcd_sg]; exact hg)
  unfold rlong
  rw [e1, e2, abs_sg n hz0, ← len2048 wz tz, ← len2048 wd td]
  omega
theorem rt_good {n : Bool} {zs ds : List Int} (wz : Wd zs) (tz : Trimmed zs) (wd : Wd ds) (td : Trimmed ds) (hz : 0 < zs.length) (hd : 0 < val ds) (hg : gcdI (val zs) (val ds) = 1) (l1 : zs.length ≤ 2048) (l2 : ds.length ≤ 2048) : RTells 0 (Rat.divInt (sg n (val zs)) (val ds)) n zs ds 0 := by
  have hl := rt_rlong (n := n) wz tz wd td hd hg
  have hd0 : 0 < ds.length := by
    by_cases c : 0 < ds.length
    · exact c
    · have := trimmed_zero' (us := ds) (by omega); omega
  exact ⟨wz, wd, fun h => absurd rfl h, fun _ h' => absurd (hl.1 h') (by omega), fun _ _ => ⟨rfl, rchk_good l1 l2 tz td hd0 (.inr hz) hg, rfl⟩⟩
theorem rt_long {n : Bool} {zs ds : List Int} (wz : Wd zs) (tz : Trimmed zs) (wd : Wd ds) (td : Trimmed ds) (hd : 0 < val ds) (hg : gcdI (val zs) (val ds) = 1) (h : 2048 < zs.length ∨ 2048 < ds.length) : RTells 0 (Rat.divInt (sg n (val zs)) (val ds)) false [] [] 3 := by
  have hl := rt_rlong (n := n) wz tz wd td hd hg
  exact ⟨Wd.nil, Wd.nil, fun h => absurd rfl h, fun _ _ => ⟨rfl, rfl, rfl, rfl⟩, fun _ h' => absurd (hl.2 (by omega)) h'⟩

set_option maxHeartbeats 3200000 in
set_option maxRecDepth 100000 in
theorem of3_any (n : Bool) (a : Option Addr) (ca : Nat) (xs : List Int) (b : Option Addr) (cb : Nat) (ys : List Int) (w : World) (h : Sl w (.slice a xs.length ca) xs) (g : Sl w (.slice b ys.length cb) ys) (lx : xs.length ≤ 8192) (ly : ys.length ≤ 8192) (tx : Trimmed xs) (ty : Trimmed ys) (h0 : 0 < ys.length) :
    Calls Tryz.prog 37 #[.bool n, .slice a xs.length ca, .slice b ys.length cb] w (RTold w 0 (Rat.divInt (sg n (val xs)) (val ys))) := by
  have wx := h.wd
  have wy := g.wd
  have HB : Hid (Below w.heap.size w (w.alloc (.cells #[.bool false, .slice none 0 0, .slice none 0 0] 24))) := alloc_later _ _
  have HZ : Hid (Box (w.alloc (.cells #[.bool false, .slice none 0 0, .slice none 0 0] 24)) w.heap.size 24 #[.bool false, .slice none 0 0, .slice none 0 0]) := Box.made w _ _
  have HLT : Hid (w.heap.size < (w.alloc (.cells #[.bool false, .slice none 0 0, .slice none 0 0] 24)).heap.size) := HZ.out.lt
  by_cases hx : xs.length = 0
  · obtain rfl : xs = [] := List.eq_nil_of_length_eq_zero hx
    obtain ⟨K, hK⟩ : ∃ K, K = ([] : List Int).length := ⟨_, rfl⟩
    have hK0 : ((K : Int) == 0) = true := by rw [hK]; rfl
    have HT := hid (rt_zero n ys)
    have HO := hid (one3_any (w.alloc (.cells #[.bool false, .slice none 0 0, .slice none 0 0] 24)))
    rw [← hK]
    obtain ⟨q, hq⟩ : ∃ q, q = Rat.divInt (sg n (val [])) (val ys) := ⟨_, rfl⟩
    rw [← hq] at HT ⊢
    clear hx hK h g hq
    go_enter Tryz.func37, Tryz.ntmps37
    go_wp2_with fail
    refine Calls.mono HO.out ?_
    generalize (w.alloc (.cells #[.bool false, .slice none 0 0, .slice none 0 0] 24)) = X at *
    rintro e w1 ⟨g1, rfl, o1, hb1⟩
    obtain ⟨y0, y1, y2, f0, f1, f2⟩ := res_box3 HZ.out hb1
    have HR : Hid (w1.ownsRow X.heap.size 60 1 (.slice none 0 0) ([] : List Int).length (([] : List Int).map (Value.int .u32)) ∧ w1.ownsRow X.heap.size 60 1 (.slice (some ⟨g1, 0, none⟩) 1 1) [(1 : Int)].length ([(1 : Int)].map (Value.int .u32)) ∧ RTells 0 q false [] [1] 0) := ⟨World.ownsRow_nil _ _ _ _, o1, HT.out⟩
    have HBW := hid (bt HB.out hb1)
    clear o1 hb1 HO
    go_wp2_with fail
    refine bodyPost_ret (v := .tuple #[.agg #[.bool false, .slice none 0 0, .slice (some ⟨g1, 0, none⟩) 1 1], .int .i64 0]) (by simp [results, Tryz.results37, go_sem, y0, y1, y2]) rfl ?_
    exact RTold.put HR.out w.heap.size HLT.out (Nat.le_refl _) HBW.out _ _ _
  · have hx' : ((xs.length : Int) == 0) = false := beq_eq_false_iff_ne.2 (by omega)
    have hz := both_good (chk_good lx tx) (chk_good ly ty)
    have HW := hid (gcd_wide wx wy hz)
    have HG := hid (refGcd_sl _ _ xs ys (w.alloc (.cells #[.bool false, .slice none 0 0, .slice none 0 0] 24)) (h.later HB.out) (g.later HB.out) (by omega) (by omega))
    rw [hz] at HG
    have HS := hid (And.intro (h.later HB.out) (g.later HB.out))
    have HPY : Hid (0 < val ys) := by have := val_pos' wy ty h0; show _ < _; omega
    have HPX : Hid (0 < val xs) := by have := val_pos' wx tx (by omega); show _ < _; omega
    have HMP := hid (make_parts (n := n) (m := false) (val_nonneg wx) HPY.out)
    have HGP : Hid (0 < gcdI (val xs) (val ys) ∧ gcdI (val xs) (val ys) ≤ val ys ∧ gcdI (val xs) (val ys) ≤ val xs) := ⟨gcd_pos_right HPY.out, gcd_le_right HPY.out, Int.le_of_dvd HPX.out (Int.gcd_dvd_left ..)⟩
    have hnf : (n != false) = n := by cases n <;> rfl
    rw [hnf] at HMP
    have HTT := hid (And.intro tx ty)
    have HWY := hid (And.intro wx wy)
    obtain ⟨q, hq⟩ : ∃ q, q = Rat.divInt (sg n (val xs)) (val ys) := ⟨_, rfl⟩
    rw [← hq]
    have HQ := hid hq
    clear hx hz h g hq hnf tx ty wx wy
    go_enter Tryz.func37, Tryz.ntmps37
    go_wp2_with fail
    refine Calls.mono HG.out ?_
    generalize (w.alloc (.cells #[.bool false, .slice none 0 0, .slice none 0 0] 24)) = X at *
    rintro e w1 ⟨v1, z1, c1, rfl, o1, t1, hb1⟩
    obtain ⟨rfl, hv1⟩ := t1.good rfl HW.out
    obtain ⟨a1, k1, hs1⟩ := own_slice' o1
    subst hs1
    have l1 : z1.length ≤ 8192 := by
      refine Nat.le_trans (len_of_lt t1.wd t1.trim (L := ys.length) ?_) ly
      rw [hv1]
      have := HGP.out
      have := val_lt HWY.out.2
      omega
    have p1 : 0 < z1.length := by
      by_cases c : 0 < z1.length
      · exact c
      · have := trimmed_zero' (us := z1) (by omega)
        have := HGP.out
        omega
    have HS1 := hid (Sl.own o1 t1.wd)
    have HO1 := hid (over3_any _ _ xs z1 w1 (HS.out.1.later hb1) HS1.out lx l1 HTT.out.1 t1.trim p1)
    have HO2 := hid (fun ww (hb : Below w1.heap.size w1 ww) => over3_any _ _ ys z1 ww ((HS.out.2.later hb1).later hb) (HS1.out.later hb) ly l1 HTT.out.2 t1.trim p1)
    rw [hv1] at HO1 HO2
    have HB1 := hid hb1
    clear o1 t1 hv1 hb1 HG
    go_wp2_with fail
    refine Calls.mono HO1.out ?_
    rintro e w2 ⟨v2, z2, rfl, o2, wd2, tr2, hv2, hb2⟩
    obtain ⟨a2, k2, hs2⟩ := own_slice' o2
    subst hs2
    have HC2 := hid (HO2.out w2 hb2)
    have HN2 := hid (And.intro (owns_base o2 HB1.out.size) (And.intro wd2 (And.intro tr2 hv2)))
    have HB2 := hid (bt HB1.out hb2)
    clear o2 wd2 tr2 hv2 hb2 HO1 HO2 HS1
    go_wp2_with fail
    refine Calls.mono HC2.out ?_
    rintro e w3 ⟨v3, z3, rfl, o3, wd3, tr3, hv3, hb3⟩
    obtain ⟨a3, k3, hs3⟩ := own_slice' o3
    subst hs3
    have HN3 := hid (And.intro (owns_later HN2.out.1 hb3) (And.intro (owns_base o3 HB2.out.size) (And.intro wd3 (And.intro tr3 hv3))))
    have HB3 := hid (bt HB2.out hb3)
    have HBR := hid (bt HB3.out (alloc_later w3 (.cells #[.bool n, .slice a2 z2.length k2, .slice a3 z3.length k3] 24)))
    obtain ⟨y0, y1, y2, f0, f1, f2⟩ := res_box3 HZ.out HB3.out
    have hlt : w.heap.size < w3.heap.size := Nat.lt_of_lt_of_le HLT.out HB3.out.size
    have HGZ : Hid (gcdI (val z2) (val z3) = 1 ∧ 0 < val z3 ∧ 0 < z2.length) := by
      refine ⟨by rw [HN2.out.2.2.2, hv3]; exact HMP.out.2.1, by rw [hv3]; exact HMP.out.1, ?_⟩
      by_cases c : 0 < z2.length
      · exact c
      · have e0 := trimmed_zero' (us := z2) (by omega)
        have e1 := HN2.out.2.2.2
        have e2 := HGP.out
        have e3 : 1 ≤ val xs / gcdI (val xs) (val ys) := Int.le_ediv_of_mul_le e2.1 (by omega)
        omega
    have HQQ : Hid (q = Rat.divInt (sg n (val z2)) (val z3)) := by
      show _ = _
      rw [HQ.out, HN2.out.2.2.2, hv3]
      exact HMP.out.2.2.symm
    clear o3 wd3 tr3 hv3 hb3 HC2
    by_cases hl2 : 2048 < z2.length
    · have hl2' : (2048 : Int) < (z2.length : Int) := by omega
      have HR : Hid (w3.ownsRow X.heap.size 60 1 (.slice none 0 0) ([] : List Int).length (([] : List Int).map (Value.int .u32)) ∧ w3.ownsRow X.heap.size 60 1 (.slice none 0 0) ([] : List Int).length (([] : List Int).map (Value.int .u32)) ∧ RTells 0 q false [] [] 3) := ⟨World.ownsRow_nil _ _ _ _, World.ownsRow_nil _ _ _ _, by rw [HQQ.out]; exact rt_long HN2.out.2.1 HN2.out.2.2.1 HN3.out.2.2.1 HN3.out.2.2.2.1 HGZ.out.2.1 HGZ.out.1 (.inl hl2)⟩
      clear hl2 HW HMP HGP HTT HWY HQ HS HPX HPY HN2 HN3 HGZ HQQ HBR l1 p1 lx ly h0
      go_wp2_with fail
      refine bodyPost_ret (v := .tuple #[.agg #[.bool false, .slice none 0 0, .slice none 0 0], .int .i64 3]) (by simp [results, Tryz.results37, go_sem, y0, y1, y2, hlt]) rfl ?_
      exact (RTold.put HR.out w.heap.size HLT.out (Nat.le_refl _) (bt HB.out HB3.out) _ _ _).later (alloc_later _ _)
    · have hl2' : ¬ (2048 : Int) < (z2.length : Int) := by omega
      by_cases hl3 : 2048 < z3.length
      · have hl3' : (2048 : Int) < (z3.length : Int) := by omega
        have HR : Hid (w3.ownsRow X.heap.size 60 1 (.slice none 0 0) ([] : List Int).length (([] : List Int).map (Value.int .u32)) ∧ w3.ownsRow X.heap.size 60 1 (.slice none 0 0) ([] : List Int).length (([] : List Int).map (Value.int .u32)) ∧ RTells 0 q false [] [] 3) := ⟨World.ownsRow_nil _ _ _ _, World.ownsRow_nil _ _ _ _, by rw [HQQ.out]; exact rt_long HN2.out.2.1 HN2.out.2.2.1 HN3.out.2.2.1 HN3.out.2.2.2.1 HGZ.out.2.1 HGZ.out.1 (.inr hl3)⟩
        clear hl2 hl3 HW HMP HGP HTT HWY HQ HS HPX HPY HN2 HN3 HGZ HQQ HBR l1 p1 lx ly h0
        go_wp2_with fail
        refine bodyPost_ret (v := .tuple #[.agg #[.bool false, .slice none 0 0, .slice none 0 0], .int .i64 3]) (by simp [results, Tryz.results37, go_sem, y0, y1, y2, hlt]) rfl ?_
        exact (RTold.put HR.out w.heap.size HLT.out (Nat.le_refl _) (bt HB.out HB3.out) _ _ _).later (alloc_later _ _)
      · have hl3' : ¬ (2048 : Int) < (z3.length : Int) := by omega
        have HR : Hid (w3.ownsRow X.heap.size 60 1 (.slice a2 z2.length k2) z2.length (z2.map (Value.int .u32)) ∧ w3.ownsRow X.heap.size 60 1 (.slice a3 z3.length k3) z3.length (z3.map (Value.int .u32)) ∧ RTells 0 q n z2 z3 0) := ⟨HN3.out.1, HN3.out.2.1, by rw [HQQ.out]; exact rt_good HN2.out.2.1 HN2.out.2.2.1 HN3.out.2.2.1 HN3.out.2.2.2.1 HGZ.out.2.2 HGZ.out.2.1 HGZ.out.1 (by omega) (by omega)⟩
        clear hl2 hl3 HW HMP HGP HTT HWY HQ HS HPX HPY HN2 HN3 HGZ HQQ HBR l1 p1 lx ly h0
        go_wp2_with fail
        refine bodyPost_ret (v := .tuple #[.agg #[.bool n, .slice a2 z2.length k2, .slice a3 z3.length k3], .int .i64 0]) (by simp [results, Tryz.results37, go_sem, y0, y1, y2, hlt]) rfl ?_
        exact (RTold.put HR.out w.heap.size HLT.out (Nat.le_refl _) (bt HB.out HB3.out) _ _ _).later (alloc_later _ _)
end Go.Proofs.YtpehpflgfkdiaaaGreat

/- Fractions: ratio.Small. -/
namespace Go.Proofs.YtpehpflgfkdiaaaGreat
open Go.RowKit
set_option linter.unusedVariables false

theorem small_err {n m : Bool} {zs us : List Int} {y : Int} (l1 : zs.length ≤ 2) (t1 : Trimmed zs) (s1 : n = false ∨ 0 < zs.length) (w2 : Wd us) (l2 : us.length ≤ 2) (t2 : Trimmed us) (s2 : m = false ∨ 0 < us.length) (v2 : wval m us = y) : mkErr n zs m us = if y = 0 then 7 else 0 := by
  unfold mkErr
  rw [wboth_good (wchk_good (by omega) t1 s1) (wchk_good (by omega) t2 s2), if_pos rfl]
  by_cases c : us.length = 0
  · have e0 : val us = 0 := trimmed_zero' c
    have : y = 0 := by rw [← v2]; cases m <;> simp [wval, e0]
    rw [if_pos c, if_pos this]
  · have e0 := val_pos' w2 t2 (by omega)
    have : ¬ y = 0 := by rw [← v2]; cases m <;> simp [wval] <;> omega
    rw [if_neg c, if_neg this]

end Go.Proofs.YtpehpflgfkdiaaaGreat

/- The document's own fractions: Make, size, Small. -/
namespace Go.Proofs.YtpehpflgfkdiaaaGreat
open Go.RowKit
set_option linter.unusedVariables false

theorem div_sg {n m : Bool} {xs ys : List Int} : Rat.divInt (sg (n != m) (val xs)) (val ys) = Rat.divInt (wval n xs) (wval m ys) := by
  cases n <;> cases m <;> simp [sg, wval, Rat.divInt_neg', ← Rat.neg_divInt]

end Go.Proofs.YtpehpflgfkdiaaaGreat

/- The document's own fractions: Small; two fractions with the same words. -/
namespace Go.Proofs.YtpehpflgfkdiaaaGreat
open Go.RowKit
set_option linter.unusedVariables false

theorem small_sg {x y : Int} {s : Bool} (h : (decide (x < 0) != decide (y < 0)) = s) : Rat.divInt (sg s (x.natAbs : Int)) (y.natAbs : Int) = Rat.divInt x y := by
  subst h
  by_cases hx : x < 0 <;> by_cases hy : y < 0
  · have e1 : (x.natAbs : Int) = -x := by omega
    have e2 : (y.natAbs : Int) = -y := by omega
    rw [e1, e2]; simp [hx, hy, sg, Rat.neg_divInt_neg]
  · have e1 : (x.natAbs : Int) = -x := by omega
    have e2 : (y.natAbs : Int) = y := by omega
    rw [e1, e2]; simp [hx, hy, sg]
  · have e1 : (x.natAbs : Int) = x := by omega
    have e2 : (y.natAbs : Int) = -y := by omega
    rw [e1, e2]; simp [hx, hy, sg, Rat.divInt_neg']
  · have e1 : (x.natAbs : Int) = x := by omega
    have e2 : (y.natAbs : Int) = y := by omega
    rw [e1, e2]; simp [hx, hy, sg]

set_option maxHeartbeats 1600000 in
set_option maxRecDepth 100000 in
theorem sameRatio_eq (n : Bool) (v u v' u' : Value) (xs ys : List Int) (w : World) (h : Sl w v xs) (g : Sl w u ys) (h' : Sl w v' xs) (g' : Sl w u' ys) (lx : xs.length ≤ 281474976710656) (ly : ys.length ≤ 281474976710656) :
    Calls Tryz.prog 34 #[.agg #[.bool n, v, u], .agg #[.bool n, v', u']] w fun e w' => e = .returned (.bool true) ∧ Below w.heap.size w w' := by
  have HB : Hid (Below w.heap.size w ((w.alloc (.cells #[.bool n, v, u] 24)).alloc (.cells #[.bool n, v', u'] 24))) := bt (alloc_later _ _) (alloc_later _ _)
  have HN : Hid (Box ((w.alloc (.cells #[.bool n, v, u] 24)).alloc (.cells #[.bool n, v', u'] 24)) w.heap.size 24 #[.bool n, v, u]) := Box.later (Box.made w _ _) (alloc_later _ _) (by simp)
  have HM : Hid (Box ((w.alloc (.cells #[.bool n, v, u] 24)).alloc (.cells #[.bool n, v', u'] 24)) (w.heap.size + 1) 24 #[.bool n, v', u']) := by
    have e := Box.made (w.alloc (.cells #[.bool n, v, u] 24)) 24 #[.bool n, v', u']
    simp at e
    exact e
  have H1 := hid (same_sl v v' xs xs _ (h.later HB.out) (h'.later HB.out) lx lx)
  rw [decide_eq_true rfl] at H1
  have H2 := hid (fun ww (hb : Below _ ((w.alloc (.cells #[.bool n, v, u] 24)).alloc (.cells #[.bool n, v', u'] 24)) ww) => same_sl u u' ys ys ww ((g.later HB.out).later hb) ((g'.later HB.out).later hb) ly ly)
  rw [decide_eq_true rfl] at H2
  have hbb : (n == n) = true := by simp
  obtain ⟨a, ca, rfl, hr⟩ := h
  obtain ⟨b, cb, rfl, gr⟩ := g
  obtain ⟨a', ca', rfl, hr'⟩ := h'
  obtain ⟨b', cb', rfl, gr'⟩ := g'
  clear hr gr hr' gr'
  go_enter Tryz.func34, Tryz.ntmps34
  go_wp2_with fail
  refine Calls.mono H1.out ?_
  generalize ((w.alloc (.cells #[.bool n, .slice a xs.length ca, .slice b ys.length cb] 24)).alloc (.cells #[.bool n, .slice a' xs.length ca', .slice b' ys.length cb'] 24)) = X at *
  rintro e w1 ⟨rfl, hb1⟩
  obtain ⟨p0, p1, p2, _, _, _⟩ := res_box3 HN.out hb1
  obtain ⟨q0, q1, q2, _, _, _⟩ := res_box3 HM.out hb1
  have HC := hid (H2.out w1 hb1)
  have HB1 := hid (bt HB.out hb1)
  clear hb1 H1 H2
  go_wp2_with fail
  refine Calls.mono HC.out ?_
  rintro e w2 ⟨rfl, hb2⟩
  have HBN := hid (bt HB1.out hb2)
  clear hb2 HC
  go_wp2_with fail
  go_ret
  exact ⟨rfl, HBN.out⟩
end Go.Proofs.YtpehpflgfkdiaaaGreat

/- Boxes of fractions, rows of the call's own and one box of a flag, in a bundle that is moved along. -/
namespace Go.Proofs.YtpehpflgfkdiaaaGreat
open Go.RowKit
set_option linter.unusedVariables false

theorem Box.same {w : World} {b t : Nat} {vs : Array Value} (h : Box w b t vs) {j : Nat} {v : Value} (hv : vs[j]? = some v) : w.setCell ⟨b, j, none⟩ v = w := by
  have e : (w.setCell ⟨b, j, none⟩ v).heap = w.heap := by
    have h' : w.heap[b]? = some (.cells vs t (0, 0)) := h
    have hs : vs.setIfInBounds j v = vs := by
      apply Array.ext_getElem?
      intro k
      rw [Array.getElem?_setIfInBounds]
      by_cases c : j = k
      · subst c
        obtain ⟨hk, _⟩ := Array.getElem?_eq_some_iff.1 hv
        rw [if_pos rfl, if_pos hk, hv]
      · rw [if_neg c]
    unfold World.setCell
    apply Array.ext_getElem?
    intro k
    simp only [Array.getElem?_modify]
    by_cases c : b = k
    · subst c
      rw [if_pos rfl, h']
      simp [hs]
    · rw [if_neg c]
  cases w
  simp only [World.setCell] at e ⊢
  rw [e]
theorem own_put1 {w : World} {base e n : Nat} {v : Value} {xs : List Value} (h : w.ownsRow base e 1 v n xs) (b : Nat) (hb : ∀ g, v.ownBlock = some g → g ≠ b) (j : Nat) (v0 : Value) : (w.setCell ⟨b, j, none⟩ v0).ownsRow base e 1 v n xs := by
  have hne : v.ownBlock = none ∨ v.ownBlock ≠ some b := by
    cases hv : v.ownBlock with
    | none => exact .inl rfl
    | some g => right; intro e; exact hb g hv (Option.some.inj e)
  exact World.ownsRow.kept h (grown_set w ⟨b, j, none⟩ v0) hne
/-- Boxes that hold fractions. -/
def Bxs3 (W : World) (l : List (Nat × Array Value)) : Prop := ∀ p ∈ l, Box W p.1 24 p.2
def Rws (W : World) (l : List (Nat × Value × List Int)) : Prop := ∀ p ∈ l, W.ownsRow p.1 60 1 p.2.1 p.2.2.length (p.2.2.map (Value.int .u32))
/-- What is known of a world: boxes of fractions, rows of the call's own, what was there. -/
structure St (w W : World) (l : List (Nat × Array Value)) (r : List (Nat × Value × List Int)) : Prop where
  box : Bxs3 W l
  row : Rws W r
  bel : Below w.heap.size w W
theorem St.later {w W W' : World} {l : List (Nat × Array Value)} {r : List (Nat × Value × List Int)} (h : St w W l r) (hb : Below W.heap.size W W') : St w W' l r :=
  ⟨fun p hp => (h.box p hp).later hb (h.box p hp).lt, fun p hp => owns_later (h.row p hp) hb, bt h.bel hb⟩
theorem St.more {w W : World} {l : List (Nat × Array Value)} {r : List (Nat × Value × List Int)} (h : St w W l r) {base : Nat} {v : Value} {zs : List Int} (o : W.ownsRow base 60 1 v zs.length (zs.map (Value.int .u32))) : St w W l ((base, v, zs) :: r) :=
  ⟨h.box, fun p hp => by
    cases hp with
    | head => exact o
    | tail _ hp => exact h.row p hp, h.bel⟩
theorem St.put {w W : World} {l : List (Nat × Array Value)} {r : List (Nat × Value × List Int)} (h : St w W l r) (n : Bool) (v u : Value) : St w (W.alloc (.cells #[.bool n, v, u] 24)) ((W.heap.size, #[.bool n, v, u]) :: l) r :=
  ⟨fun p hp => by
    cases hp with
    | head => exact Box.made W _ _
    | tail _ hp => exact (h.box p hp).later (alloc_later _ _) (h.box p hp).lt, (h.later (alloc_later _ _)).row, (h.later (alloc_later _ _)).bel⟩
theorem St.get {w W : World} {l : List (Nat × Array Value)} {r : List (Nat × Value × List Int)} (h : St w W l r) {g : Nat} {n : Bool} {v u : Value} (hm : (g, #[.bool n, v, u]) ∈ l) : W.cell? ⟨g, 0, none⟩ = some (.bool n) ∧ W.cell? ⟨g, 1, none⟩ = some v ∧ W.cell? ⟨g, 2, none⟩ = some u := ⟨(h.box _ hm).cell 0, (h.box _ hm).cell 1, (h.box _ hm).cell 2⟩
theorem St.free {w W : World} {l : List (Nat × Array Value)} {r : List (Nat × Value × List Int)} (h : St w W l r) {g : Nat} {n : Bool} {v u : Value} (hm : (g, #[.bool n, v, u]) ∈ l) : W.frozen? ⟨g, 0, none⟩ = false ∧ W.frozen? ⟨g, 1, none⟩ = false ∧ W.frozen? ⟨g, 2, none⟩ = false := ⟨(h.box _ hm).free 0, (h.box _ hm).free 1, (h.box _ hm).free 2⟩
theorem St.same {w W : World} {l : List (Nat × Array Value)} {r : List (Nat × Value × List Int)} (h : St w W l r) {g : Nat} {n : Bool} {v u : Value} (hm : (g, #[.bool n, v, u]) ∈ l) : W.setCell ⟨g, 0, none⟩ (.bool n) = W ∧ W.setCell ⟨g, 1, none⟩ v = W ∧ W.setCell ⟨g, 2, none⟩ u = W := ⟨(h.box _ hm).same rfl, (h.box _ hm).same rfl, (h.box _ hm).same rfl⟩
theorem St.sl {w W : World} {l : List (Nat × Array Value)} {r : List (Nat × Value × List Int)} (h : St w W l r) {base : Nat} {v : Value} {zs : List Int} (wd : Wd zs) (hm : (base, v, zs) ∈ r) : Sl W v zs := Sl.own (h.row _ hm) wd
/-- A store into a box of another type. -/
theorem St.flag {w W : World} {l : List (Nat × Array Value)} {r : List (Nat × Value × List Int)} (h : St w W l r) {g t : Nat} {vs : Array Value} (b : Box W g t vs) (hg : w.heap.size ≤ g) (h1 : t ≠ 24) (h2 : t ≠ 60) (j : Nat) (v : Value) : St w (W.setCell ⟨g, j, none⟩ v) l r := by
  refine ⟨fun p hp => (h.box p hp).other _ _ (fun e => ?_), fun p hp => own_put1 (h.row p hp) g (own_ne_box (h.row p hp) b (Ne.symm h2)) _ _, h.bel.setCell (p := ⟨g, j, none⟩) hg _⟩
  · have e1 := h.box p hp
    rw [e] at e1
    have e2 : some (Obj.cells p.2 24 (0, 0)) = some (.cells vs t (0, 0)) := e1.symm.trans b
    injection e2 with e3
    injection e3 with _ e4 _
    exact h1 e4.symm
end Go.Proofs.YtpehpflgfkdiaaaGreat

/- Whole numbers that are lent to a call: slackwaterkit.LentWhole, KeptWhole; the law's own comparison. -/
namespace Go.Proofs.YtpehpflgfkdiaaaGreat
open Go.RowKit
set_option linter.unusedVariables false

theorem own_room {w : World} {base e n : Nat} {v : Value} {xs : List Value} (h : w.ownsRow base e 1 v n xs) (hn : 0 < n) : ∃ g cap, v = .slice (some ⟨g, 0, none⟩) n cap ∧ n ≤ cap ∧ cap ≤ 9223372036854775807 := by
  obtain ⟨g, cap, rfl, h1, h2⟩ := own_shape' h hn
  exact ⟨g, cap, rfl, h1, by unfold maxLen at h2; omega⟩

end Go.Proofs.YtpehpflgfkdiaaaGreat

/- Fractions that are lent to a call: slackwaterkit.LentRatio, KeptRatio. -/
namespace Go.Proofs.YtpehpflgfkdiaaaGreat
open Go.RowKit
set_option linter.unusedVariables false

set_option maxHeartbeats 6400000 in
set_option maxRecDepth 100000 in
theorem lentRatio_any (n : Bool) (a : Option Addr) (ca : Nat) (xs : List Int) (b : Option Addr) (cb : Nat) (ys : List Int) (w : World) (sx : Sl w (.slice a xs.length ca) xs) (sy : Sl w (.slice b ys.length cb) ys) (lx : xs.length ≤ 549755813888) (ly : ys.length ≤ 549755813888) :
    Calls Tryz.prog 4 #[.agg #[.bool n, .slice a xs.length ca, .slice b ys.length cb]] w fun e w' => ∃ g1 c1 g2 c2, e = .returned (.agg #[.bool n, .slice (some ⟨g1, 0, none⟩) xs.length c1, .slice (some ⟨g2, 0, none⟩) ys.length c2]) ∧ w'.ownsRow w.heap.size 60 1 (.slice (some ⟨g1, 0, none⟩) (xs.length + 3) c1) (xs.length + 3) ((xs ++ marks 3).map (Value.int .u32)) ∧ w'.ownsRow w.heap.size 60 1 (.slice (some ⟨g2, 0, none⟩) (ys.length + 3) c2) (ys.length + 3) ((ys ++ marks 3).map (Value.int .u32)) ∧ g1 < g2 ∧ Below w.heap.size w w' := by
  have HB : Hid (Below w.heap.size w ((w.alloc (.cells #[.bool n, .slice a xs.length ca, .slice b ys.length cb] 24)).alloc (.cells #[.bool false, .slice none 0 0, .slice none 0 0] 24))) := bt (alloc_later _ _) (alloc_later _ _)
  have HA : Hid (Box ((w.alloc (.cells #[.bool n, .slice a xs.length ca, .slice b ys.length cb] 24)).alloc (.cells #[.bool false, .slice none 0 0, .slice none 0 0] 24)) w.heap.size 24 #[.bool n, .slice a xs.length ca, .slice b ys.length cb]) := Box.later (Box.made w _ _) (alloc_later _ _) (by simp)
  have HZ : Hid (Box ((w.alloc (.cells #[.bool n, .slice a xs.length ca, .slice b ys.length cb] 24)).alloc (.cells #[.bool false, .slice none 0 0, .slice none 0 0] 24)) (w.heap.size + 1) 24 #[.bool false, .slice none 0 0, .slice none 0 0]) := by
    have e := Box.made (w.alloc (.cells #[.bool n, .slice a xs.length ca, .slice b ys.length cb] 24)) 24 #[.bool false, .slice none 0 0, .slice none 0 0]
    simp at e
    exact e
  have HS := hid (And.intro (sx.later HB.out) (sy.later HB.out))
  clear sx sy
  go_enter Tryz.func4, Tryz.ntmps4
  go_wp2_with fail
  generalize ((w.alloc (.cells #[.bool n, .slice a xs.length ca, .slice b ys.length cb] 24)).alloc (.cells #[.bool false, .slice none 0 0, .slice none 0 0] 24)) = X at *
  have HK : Hid (∀ V, Below X.heap.size X V → (V.cell? ⟨w.heap.size, 0, none⟩ = some (.bool n) ∧ V.cell? ⟨w.heap.size, 1, none⟩ = some (.slice a xs.length ca) ∧ V.cell? ⟨w.heap.size, 2, none⟩ = some (.slice b ys.length cb))) := fun V hb => by
    obtain ⟨p0, p1, p2, _, _, _⟩ := res_box3 HA.out hb
    exact ⟨p0, p1, p2⟩
  have hs0 := HK.out _ (Below.drew (Below.refl _ X))
  have HL1 : Hid (∀ V, Below X.heap.size X V → Calls Tryz.prog 29 #[.slice a xs.length ca] V fun e V' => ∃ g cap, e = .returned (.slice (some ⟨g, 0, none⟩) (xs.length + 3) cap) ∧ xs.length + 3 ≤ cap ∧ cap ≤ 9223372036854775807 ∧ (xs.length : Int) ≤ (cap : Int) ∧ Hid (V'.ownsRow X.heap.size 60 1 (.slice (some ⟨g, 0, none⟩) (xs.length + 3) cap) (xs.length + 3) ((xs ++ marks 3).map (Value.int .u32)) ∧ Below V.heap.size V V' ∧ Below X.heap.size X V' ∧ V.heap.size ≤ g ∧ g < V'.heap.size) ∧ (V'.cell? ⟨w.heap.size, 0, none⟩ = some (.bool n) ∧ V'.cell? ⟨w.heap.size, 1, none⟩ = some (.slice a xs.length ca) ∧ V'.cell? ⟨w.heap.size, 2, none⟩ = some (.slice b ys.length cb)) ∧ V'.cell? ⟨w.heap.size + 1, 0, none⟩ = some (.bool false) ∧ V'.cell? ⟨w.heap.size + 1, 1, none⟩ = some (.slice none 0 0) ∧ V'.cell? ⟨w.heap.size + 1, 2, none⟩ = some (.slice none 0 0) ∧ V'.frozen? ⟨w.heap.size + 1, 0, none⟩ = false ∧ V'.frozen? ⟨w.heap.size + 1, 1, none⟩ = false ∧ V'.frozen? ⟨w.heap.size + 1, 2, none⟩ = false) := fun V hb => by
    refine Calls.mono (lentWords_sl _ xs _ (HS.out.1.later hb) lx) ?_
    rintro e V' ⟨v1, rfl, o1, hb1⟩
    obtain ⟨g, cap, hv, h1, h2⟩ := own_room o1 (by omega)
    subst hv
    have hbX : Below X.heap.size X V' := bt hb hb1
    exact ⟨g, cap, rfl, h1, h2, by omega, ⟨owns_base o1 hb.size, hb1, hbX, (o1.lt g rfl).1, (o1.lt g rfl).2⟩, HK.out V' hbX, res_box3 HZ.out hbX⟩
  have HL2 : Hid (∀ V, Below X.heap.size X V → Calls Tryz.prog 29 #[.slice b ys.length cb] V fun e V' => ∃ g cap, e = .returned (.slice (some ⟨g, 0, none⟩) (ys.length + 3) cap) ∧ ys.length + 3 ≤ cap ∧ cap ≤ 9223372036854775807 ∧ (ys.length : Int) ≤ (cap : Int) ∧ Hid (V'.ownsRow X.heap.size 60 1 (.slice (some ⟨g, 0, none⟩) (ys.length + 3) cap) (ys.length + 3) ((ys ++ marks 3).map (Value.int .u32)) ∧ Below V.heap.size V V' ∧ Below X.heap.size X V' ∧ V.heap.size ≤ g ∧ g < V'.heap.size) ∧ (V'.cell? ⟨w.heap.size, 0, none⟩ = some (.bool n) ∧ V'.cell? ⟨w.heap.size, 1, none⟩ = some (.slice a xs.length ca) ∧ V'.cell? ⟨w.heap.size, 2, none⟩ = some (.slice b ys.length cb)) ∧ V'.cell? ⟨w.heap.size + 1, 0, none⟩ = some (.bool false) ∧ V'.cell? ⟨w.heap.size + 1, 1, none⟩ = some (.slice none 0 0) ∧ V'.cell? ⟨w.heap.size + 1, 2, none⟩ = some (.slice none 0 0) ∧ V'.frozen? ⟨w.heap.size + 1, 0, none⟩ = false ∧ V'.frozen? ⟨w.heap.size + 1, 1, none⟩ = false ∧ V'.frozen? ⟨w.heap.size + 1, 2, none⟩ = false) := fun V hb => by
    refine Calls.mono (lentWords_sl _ ys _ (HS.out.2.later hb) ly) ?_
    rintro e V' ⟨v1, rfl, o1, hb1⟩
    obtain ⟨g, cap, hv, h1, h2⟩ := own_room o1 (by omega)
    subst hv
    have hbX : Below X.heap.size X V' := bt hb hb1
    exact ⟨g, cap, rfl, h1, h2, by omega, ⟨owns_base o1 hb.size, hb1, hbX, (o1.lt g rfl).1, (o1.lt g rfl).2⟩, HK.out V' hbX, res_box3 HZ.out hbX⟩
  have hx0 : (0 : Int) ≤ (xs.length : Int) := by omega
  have hlx : xs.length ≤ 9223372036854775807 := by omega
  have hy0 : (0 : Int) ≤ (ys.length : Int) := by omega
  have hly : ys.length ≤ 9223372036854775807 := by omega
  clear HS HA
  go_region_held3 (fun V : World => (V.cell? ⟨w.heap.size, 0, none⟩ = some (.bool n) ∧ V.cell? ⟨w.heap.size, 1, none⟩ = some (.slice a xs.length ca) ∧ V.cell? ⟨w.heap.size, 2, none⟩ = some (.slice b ys.length cb))) (first | exact hs2 | exact hs1 | exact hs0 | (simp [hs2, World.cell?_setCell_far]))
    (first
      | (go_at_call 29; with_reducible refine Calls.mono (HL2.out _ HE1.out.2.2.1) ?_; rintro e w2 ⟨g2, c2, rfl, hd1, hd2, hd3, HE2, hs2, r0, r1, r2, f0, f1, f2⟩)
      | (go_at_call 29; with_reducible refine Calls.mono (HL1.out _ (Below.drew (Below.refl _ X))) ?_; rintro e w1 ⟨g1, c1, rfl, hc1, hc2, hc3, HE1, hs1, y0, y1, y2, z0, z1, z2⟩))
  all_goals
    have HZ2 := hid (HZ.out.later HE2.out.2.2.1 HZ.out.lt)
    have HO1 := hid (own_put3 (owns_base (owns_later HE1.out.1 HE2.out.2.1) HB.out.size) (w.heap.size + 1) (own_ne_box (owns_later HE1.out.1 HE2.out.2.1) HZ2.out (by decide)) (.bool n) (.slice (some ⟨g1, 0, none⟩) xs.length c1) (.slice (some ⟨g2, 0, none⟩) ys.length c2))
    have HO2 := hid (own_put3 (owns_base HE2.out.1 HB.out.size) (w.heap.size + 1) (own_ne_box HE2.out.1 HZ2.out (by decide)) (.bool n) (.slice (some ⟨g1, 0, none⟩) xs.length c1) (.slice (some ⟨g2, 0, none⟩) ys.length c2))
    have HBN := hid (below_put3 (bt HB.out HE2.out.2.2.1) (w.heap.size + 1) (by omega) (.bool n) (.slice (some ⟨g1, 0, none⟩) xs.length c1) (.slice (some ⟨g2, 0, none⟩) ys.length c2))
    have HG : Hid (g1 < g2) := by have e1 := HE1.out.2.2.2.2; have e2 := HE2.out.2.2.2.1; show _ < _; omega
    clear HK HL1 HL2 HE1 HE2 HZ HB HZ2 hs0 hs1 hs2 y0 y1 y2 z0 z1 z2
    go_wp2_with fail
    refine bodyPost_ret (v := .agg #[.bool n, .slice (some ⟨g1, 0, none⟩) xs.length c1, .slice (some ⟨g2, 0, none⟩) ys.length c2]) (by simp [results, Tryz.results4, go_sem, r0, r1, r2]) rfl ?_
    exact ⟨g1, c1, g2, c2, rfl, HO1.out, HO2.out, HG.out, HBN.out⟩

set_option maxHeartbeats 6400000 in
set_option maxRecDepth 100000 in
theorem keptRatio_any (n : Bool) (a : Option Addr) (ca : Nat) (xs : List Int) (b : Option Addr) (cb : Nat) (ys : List Int) (g1 c1 g2 c2 base : Nat) (w : World) (sx : Sl w (.slice a xs.length ca) xs) (sy : Sl w (.slice b ys.length cb) ys) (lx : xs.length ≤ 274877906944) (ly : ys.length ≤ 274877906944) (o1 : w.ownsRow base 60 1 (.slice (some ⟨g1, 0, none⟩) (xs.length + 3) c1) (xs.length + 3) ((xs ++ marks 3).map (Value.int .u32))) (o2 : w.ownsRow base 60 1 (.slice (some ⟨g2, 0, none⟩) (ys.length + 3) c2) (ys.length + 3) ((ys ++ marks 3).map (Value.int .u32))) :
    Calls Tryz.prog 27 #[.agg #[.bool n, .slice (some ⟨g1, 0, none⟩) xs.length c1, .slice (some ⟨g2, 0, none⟩) ys.length c2], .agg #[.bool n, .slice a xs.length ca, .slice b ys.length cb]] w fun e w' => e = .returned (.bool true) ∧ Below w.heap.size w w' := by
  have hcap1 : xs.length + 3 ≤ c1 ∧ c1 ≤ 9223372036854775807 := by
    obtain ⟨g', cap', hv, h1, h2⟩ := own_room o1 (by omega)
    simp only [Value.slice.injEq, Option.some.injEq, Addr.mk.injEq, and_true, true_and] at hv
    obtain ⟨rfl, rfl⟩ := hv
    exact ⟨h1, h2⟩
  have wf1 : Wd (xs ++ marks 3) := sx.wd.append (Wd.marks 3)
  have lf1 : (xs ++ marks 3).length = xs.length + 3 := by rw [List.length_append, marks_len 3 (by omega)]
  have hcap2 : ys.length + 3 ≤ c2 ∧ c2 ≤ 9223372036854775807 := by
    obtain ⟨g', cap', hv, h1, h2⟩ := own_room o2 (by omega)
    simp only [Value.slice.injEq, Option.some.injEq, Addr.mk.injEq, and_true, true_and] at hv
    obtain ⟨rfl, rfl⟩ := hv
    exact ⟨h1, h2⟩
  have wf2 : Wd (ys ++ marks 3) := sy.wd.append (Wd.marks 3)
  have lf2 : (ys ++ marks 3).length = ys.length + 3 := by rw [List.length_append, marks_len 3 (by omega)]
  have HO := hid (And.intro (Sl.own o1 wf1) (Sl.own o2 wf2))
  have HS := hid (And.intro sx sy)
  have HB : Hid (Below w.heap.size w ((w.alloc (.cells #[.bool n, .slice (some ⟨g1, 0, none⟩) xs.length c1, .slice (some ⟨g2, 0, none⟩) ys.length c2] 24)).alloc (.cells #[.bool n, .slice a xs.length ca, .slice b ys.length cb] 24))) := bt (alloc_later _ _) (alloc_later _ _)
  have HA : Hid (Box ((w.alloc (.cells #[.bool n, .slice (some ⟨g1, 0, none⟩) xs.length c1, .slice (some ⟨g2, 0, none⟩) ys.length c2] 24)).alloc (.cells #[.bool n, .slice a xs.length ca, .slice b ys.length cb] 24)) w.heap.size 24 #[.bool n, .slice (some ⟨g1, 0, none⟩) xs.length c1, .slice (some ⟨g2, 0, none⟩) ys.length c2]) := Box.later (Box.made w _ _) (alloc_later _ _) (by simp)
  have HZ : Hid (Box ((w.alloc (.cells #[.bool n, .slice (some ⟨g1, 0, none⟩) xs.length c1, .slice (some ⟨g2, 0, none⟩) ys.length c2] 24)).alloc (.cells #[.bool n, .slice a xs.length ca, .slice b ys.length cb] 24)) (w.heap.size + 1) 24 #[.bool n, .slice a xs.length ca, .slice b ys.length cb]) := by
    have e := Box.made (w.alloc (.cells #[.bool n, .slice (some ⟨g1, 0, none⟩) xs.length c1, .slice (some ⟨g2, 0, none⟩) ys.length c2] 24)) 24 #[.bool n, .slice a xs.length ca, .slice b ys.length cb]
    simp at e
    exact e
  have hc1 := hcap1.1
  have hm1 := hcap1.2
  have hll1 : ((xs.length : Int) == (xs.length : Int)) = true := by simp
  have hx1 : (0 : Int) ≤ (xs.length : Int) + 3 := by omega
  have hxc1 : (xs.length : Int) + 3 ≤ (c1 : Int) := by omega
  have hwr1 : IntKind.i64.wrap ((xs.length : Int) + 3) = (xs.length : Int) + 3 := by rw [IntKind.wrap_i64]; omega
  have htn1 : ((xs.length : Int) + 3).toNat = xs.length + 3 := by omega
  have hc2 := hcap2.1
  have hm2 := hcap2.2
  have hll2 : ((ys.length : Int) == (ys.length : Int)) = true := by simp
  have hx2 : (0 : Int) ≤ (ys.length : Int) + 3 := by omega
  have hxc2 : (ys.length : Int) + 3 ≤ (c2 : Int) := by omega
  have hwr2 : IntKind.i64.wrap ((ys.length : Int) + 3) = (ys.length : Int) + 3 := by rw [IntKind.wrap_i64]; omega
  have htn2 : ((ys.length : Int) + 3).toNat = ys.length + 3 := by omega
  have hnn : (n == n) = true := by simp
  clear o1 o2 hcap1 hcap2 sx sy
  go_enter Tryz.func27, Tryz.ntmps27
  go_wp2_with fail
  generalize ((w.alloc (.cells #[.bool n, .slice (some ⟨g1, 0, none⟩) xs.length c1, .slice (some ⟨g2, 0, none⟩) ys.length c2] 24)).alloc (.cells #[.bool n, .slice a xs.length ca, .slice b ys.length cb] 24)) = X at *
  have HK : Hid (∀ V, Below X.heap.size X V → (V.cell? ⟨w.heap.size, 0, none⟩ = some (.bool n) ∧ V.cell? ⟨w.heap.size, 1, none⟩ = some (.slice (some ⟨g1, 0, none⟩) xs.length c1) ∧ V.cell? ⟨w.heap.size, 2, none⟩ = some (.slice (some ⟨g2, 0, none⟩) ys.length c2) ∧ V.cell? ⟨w.heap.size + 1, 0, none⟩ = some (.bool n) ∧ V.cell? ⟨w.heap.size + 1, 1, none⟩ = some (.slice a xs.length ca) ∧ V.cell? ⟨w.heap.size + 1, 2, none⟩ = some (.slice b ys.length cb))) := fun V hb => by
    obtain ⟨p0, p1, p2, _, _, _⟩ := res_box3 HA.out hb
    obtain ⟨q0, q1, q2, _, _, _⟩ := res_box3 HZ.out hb
    exact ⟨p0, p1, p2, q0, q1, q2⟩
  have hs0 := HK.out _ (Below.drew (Below.refl _ X))
  have HL1 : Hid (∀ V, Below X.heap.size X V → Calls Tryz.prog 54 #[.slice (some ⟨g1, 0, none⟩) (xs.length + 3) c1, .slice a xs.length ca] V fun e V' => e = .returned (.bool true) ∧ Hid (Below X.heap.size X V') ∧ (V'.cell? ⟨w.heap.size, 0, none⟩ = some (.bool n) ∧ V'.cell? ⟨w.heap.size, 1, none⟩ = some (.slice (some ⟨g1, 0, none⟩) xs.length c1) ∧ V'.cell? ⟨w.heap.size, 2, none⟩ = some (.slice (some ⟨g2, 0, none⟩) ys.length c2) ∧ V'.cell? ⟨w.heap.size + 1, 0, none⟩ = some (.bool n) ∧ V'.cell? ⟨w.heap.size + 1, 1, none⟩ = some (.slice a xs.length ca) ∧ V'.cell? ⟨w.heap.size + 1, 2, none⟩ = some (.slice b ys.length cb))) := fun V hb => by
    have e := keptWords_sl _ _ (xs ++ marks 3) xs V (HO.out.1.later (bt HB.out hb)) (HS.out.1.later (bt HB.out hb)) (by omega) lx
    rw [decide_eq_true rfl] at e
    refine Calls.mono e ?_
    rintro e V' ⟨rfl, hb1⟩
    have hbX : Below X.heap.size X V' := bt hb hb1
    exact ⟨rfl, hbX, HK.out V' hbX⟩
  have HL2 : Hid (∀ V, Below X.heap.size X V → Calls Tryz.prog 54 #[.slice (some ⟨g2, 0, none⟩) (ys.length + 3) c2, .slice b ys.length cb] V fun e V' => e = .returned (.bool true) ∧ Hid (Below X.heap.size X V') ∧ (V'.cell? ⟨w.heap.size, 0, none⟩ = some (.bool n) ∧ V'.cell? ⟨w.heap.size, 1, none⟩ = some (.slice (some ⟨g1, 0, none⟩) xs.length c1) ∧ V'.cell? ⟨w.heap.size, 2, none⟩ = some (.slice (some ⟨g2, 0, none⟩) ys.length c2) ∧ V'.cell? ⟨w.heap.size + 1, 0, none⟩ = some (.bool n) ∧ V'.cell? ⟨w.heap.size + 1, 1, none⟩ = some (.slice a xs.length ca) ∧ V'.cell? ⟨w.heap.size + 1, 2, none⟩ = some (.slice b ys.length cb))) := fun V hb => by
    have e := keptWords_sl _ _ (ys ++ marks 3) ys V (HO.out.2.later (bt HB.out hb)) (HS.out.2.later (bt HB.out hb)) (by omega) ly
    rw [decide_eq_true rfl] at e
    refine Calls.mono e ?_
    rintro e V' ⟨rfl, hb1⟩
    have hbX : Below X.heap.size X V' := bt hb hb1
    exact ⟨rfl, hbX, HK.out V' hbX⟩
  clear HA HZ wf1 wf2 lf1 lf2 HO HS
  go_region_held3 (fun V : World => (V.cell? ⟨w.heap.size, 0, none⟩ = some (.bool n) ∧ V.cell? ⟨w.heap.size, 1, none⟩ = some (.slice (some ⟨g1, 0, none⟩) xs.length c1) ∧ V.cell? ⟨w.heap.size, 2, none⟩ = some (.slice (some ⟨g2, 0, none⟩) ys.length c2) ∧ V.cell? ⟨w.heap.size + 1, 0, none⟩ = some (.bool n) ∧ V.cell? ⟨w.heap.size + 1, 1, none⟩ = some (.slice a xs.length ca) ∧ V.cell? ⟨w.heap.size + 1, 2, none⟩ = some (.slice b ys.length cb))) (first | exact hs2 | exact hs1 | exact hs0 | exact HK.out _ (Below.drew HE1.out))
    (first
      | (go_at_call 54; with_reducible refine Calls.mono (HL2.out _ (by first | exact HE1.out | exact Below.drew HE1.out)) ?_; rintro e w2 ⟨rfl, HE2, hs2⟩)
      | (go_at_call 54; with_reducible refine Calls.mono (HL1.out _ (Below.drew (Below.refl _ X))) ?_; rintro e w1 ⟨rfl, HE1, hs1⟩))
  all_goals
    have HBN := hid (bt HB.out HE2.out)
    clear HK HL1 HL2 HE1 HE2 HB hs0 hs1 hs2
    go_wp2_with fail
    go_ret
    exact ⟨rfl, HBN.out⟩
end Go.Proofs.YtpehpflgfkdiaaaGreat

/- The law's own told.hear: one more answer, as the document says, into the list. -/
namespace Go.Proofs.YtpehpflgfkdiaaaGreat
open Go.RowKit
set_option linter.unusedVariables false

theorem Tryz.infoR : (Tryz.prog.info? 24).map (fun i => (i.zero, i.size, i.bytes)) = some (some (.agg #[.bool false, .slice none 0 0, .slice none 0 0]), 3, 56) := by kernel_rfl

theorem Box.kept {W W' : World} {row : Option Nat} {b t : Nat} {vs : Array Value} (h : Box W b t vs) (hg : W.grownBy W' row) (hne : some b ≠ row) : Box W' b t vs := (hg.block b h.lt hne).trans h
theorem own_slice3 {w : World} {base e n s : Nat} {v : Value} {xs : List Value} (h : w.ownsRow base e s v n xs) : ∃ a cap, v = .slice a n cap := by
  rcases h.2 with ⟨h1, h0⟩ | ⟨g, cap, cur, hv, _⟩
  · subst h0; exact ⟨_, _, h1⟩
  · exact ⟨_, _, hv⟩
theorem owns_later3 {w w' : World} {base e n s : Nat} {v : Value} {xs : List Value} (h : w.ownsRow base e s v n xs) (hb : Below w.heap.size w w') : w'.ownsRow base e s v n xs :=
  World.ownsRow.kept (row := none) h (grown_of_below hb none) (by cases v.ownBlock with
    | none => exact .inl rfl
    | some g => right; simp)
theorem own_ne_box3 {U : World} {base e n b t s : Nat} {v : Value} {xs : List Value} {vs : Array Value} (h : U.ownsRow base e s v n xs) (hb : Box U b t vs) (hne : e ≠ t) : ∀ g, v.ownBlock = some g → g ≠ b := fun g hg => by
  rcases h.2 with ⟨rfl, _⟩ | ⟨g1, c1, u1, rfl, _, hg1, _⟩
  · simp [Value.ownBlock] at hg
  · simp [Value.ownBlock] at hg
    subst hg
    intro e2
    subst e2
    unfold Box at hb
    rw [hg1] at hb
    injection hb with e3
    injection e3 with _ e4 _
    exact hne e4
theorem own_put1' {w : World} {base e n s : Nat} {v : Value} {xs : List Value} (h : w.ownsRow base e s v n xs) (b : Nat) (hb : ∀ g, v.ownBlock = some g → g ≠ b) (j : Nat) (v0 : Value) : (w.setCell ⟨b, j, none⟩ v0).ownsRow base e s v n xs := by
  have hne : v.ownBlock = none ∨ v.ownBlock ≠ some b := by
    cases hv : v.ownBlock with
    | none => exact .inl rfl
    | some g => right; intro e; exact hb g hv (Option.some.inj e)
  exact World.ownsRow.kept h (grown_set w ⟨b, j, none⟩ v0) hne
theorem grown_new {w W : World} {row : Option Nat} (h : w.grownBy W row) {b : Nat} (hb : w.heap.size ≤ b) (j : Nat) (v : Value) : w.grownBy (W.setCell ⟨b, j, none⟩ v) row :=
  ⟨h.os, h.tape, h.output, by simp [World.setCell]; exact h.size, fun k hk hn => (Below.heap_setCell W ⟨b, j, none⟩ v k (fun e => by have : k = b := e; omega)).trans (h.block k hk hn)⟩
theorem three_cells (w : World) (u0 u1 u2 : Value) (t : Nat) : ∀ j u, [u0, u1, u2][j]? = some u → (w.alloc (.cells #[u0, u1, u2] t)).cell? ((⟨w.heap.size, 0, none⟩ : Addr).add j) = some u := by
  intro j u h
  have hb := Box.made w t #[u0, u1, u2]
  match j, h with
  | 0, h => obtain rfl : u0 = u := by simpa using h
            exact hb.cell 0
  | 1, h => obtain rfl : u1 = u := by simpa using h
            exact hb.cell 1
  | 2, h => obtain rfl : u2 = u := by simpa using h
            exact hb.cell 2
  | n + 3, h => simp at h

set_option maxHeartbeats 3200000 in
set_option maxRecDepth 100000 in
theorem hear_ok (lo : Nat) (v : Value) (k : Nat) (R : List Value) (n : Bool) (a : Option Addr) (ca : Nat) (b : Option Addr) (cb : Nat) (a' : Option Addr) (ca' : Nat) (b' : Option Addr) (cb' : Nat) (xs ys : List Int) (E : Int) (w : World) (hk : k ≤ 100) (hlo : lo ≤ w.heap.size)
    (hv : w.ownsRow lo 24 3 v k R) (sx : Sl w (.slice a xs.length ca) xs) (sy : Sl w (.slice b ys.length cb) ys) (sx' : Sl w (.slice a' xs.length ca') xs) (sy' : Sl w (.slice b' ys.length cb') ys) (lx : xs.length ≤ 281474976710656) (ly : ys.length ≤ 281474976710656) :
    Calls Tryz.prog 7 #[.agg #[v, .bool true], .agg #[.bool n, .slice a xs.length ca, .slice b ys.length cb], .int .i64 E, .agg #[.bool n, .slice a' xs.length ca', .slice b' ys.length cb'], .int .i64 E] w fun e w' =>
      ∃ v', e = .returned (.agg #[v', .bool true]) ∧ w'.ownsRow lo 24 3 v' (k + 1) (R ++ [.bool n, .slice a xs.length ca, .slice b ys.length cb]) ∧ w.grownBy w' v.ownBlock := by
  obtain ⟨i0, hi, hz0, hz1, hz2⟩ := info_parts Tryz.infoR
  obtain ⟨qv, dv, hsh⟩ := own_slice3 hv
  have HV := hid hv
  have HB : Hid (Below w.heap.size w ((((w.alloc (.cells #[v, .bool true] 28)).alloc (.cells #[.bool n, .slice a xs.length ca, .slice b ys.length cb] 24)).alloc (.cells #[.bool n, .slice a' xs.length ca', .slice b' ys.length cb'] 24)).alloc (.cells #[.slice none 0 0, .bool false] 28))) := bt (alloc_later _ _) (bt (alloc_later _ _) (bt (alloc_later _ _) (alloc_later _ _)))
  have HX0 : Hid (Box ((((w.alloc (.cells #[v, .bool true] 28)).alloc (.cells #[.bool n, .slice a xs.length ca, .slice b ys.length cb] 24)).alloc (.cells #[.bool n, .slice a' xs.length ca', .slice b' ys.length cb'] 24)).alloc (.cells #[.slice none 0 0, .bool false] 28)) w.heap.size 28 #[v, .bool true]) := (Box.made w _ _).later (bt (alloc_later _ _) (bt (alloc_later _ _) (alloc_later _ _))) (by simp)
  have HX1 : Hid (Box ((((w.alloc (.cells #[v, .bool true] 28)).alloc (.cells #[.bool n, .slice a xs.length ca, .slice b ys.length cb] 24)).alloc (.cells #[.bool n, .slice a' xs.length ca', .slice b' ys.length cb'] 24)).alloc (.cells #[.slice none 0 0, .bool false] 28)) (w.heap.size + 1) 24 #[.bool n, .slice a xs.length ca, .slice b ys.length cb]) := by
    have e := (Box.made (w.alloc (.cells #[v, .bool true] 28)) 24 #[.bool n, .slice a xs.length ca, .slice b ys.length cb]).later (bt (alloc_later _ (.cells #[.bool n, .slice a' xs.length ca', .slice b' ys.length cb'] 24)) (alloc_later _ (.cells #[.slice none 0 0, .bool false] 28))) (by simp)
    simp at e
    exact e
  have HX3 : Hid (Box ((((w.alloc (.cells #[v, .bool true] 28)).alloc (.cells #[.bool n, .slice a xs.length ca, .slice b ys.length cb] 24)).alloc (.cells #[.bool n, .slice a' xs.length ca', .slice b' ys.length cb'] 24)).alloc (.cells #[.slice none 0 0, .bool false] 28)) (w.heap.size + 1 + 1 + 1) 28 #[.slice none 0 0, .bool false]) := by
    have e := Box.made (((w.alloc (.cells #[v, .bool true] 28)).alloc (.cells #[.bool n, .slice a xs.length ca, .slice b ys.length cb] 24)).alloc (.cells #[.bool n, .slice a' xs.length ca', .slice b' ys.length cb'] 24)) 28 #[.slice none 0 0, .bool false]
    simp at e
    exact e
  have HC := hid (sameRatio_eq n _ _ _ _ xs ys ((((w.alloc (.cells #[v, .bool true] 28)).alloc (.cells #[.bool n, .slice a xs.length ca, .slice b ys.length cb] 24)).alloc (.cells #[.bool n, .slice a' xs.length ca', .slice b' ys.length cb'] 24)).alloc (.cells #[.slice none 0 0, .bool false] 28)) (sx.later HB.out) (sy.later HB.out) (sx'.later HB.out) (sy'.later HB.out) lx ly)
  clear sx sy sx' sy' hv
  subst hsh
  go_enter Tryz.func7, Tryz.ntmps7
  go_wp2_with fail
  refine Calls.mono HC.out ?_
  generalize ((((w.alloc (.cells #[.slice qv k dv, .bool true] 28)).alloc (.cells #[.bool n, .slice a xs.length ca, .slice b ys.length cb] 24)).alloc (.cells #[.bool n, .slice a' xs.length ca', .slice b' ys.length cb'] 24)).alloc (.cells #[.slice none 0 0, .bool false] 28)) = X at *
  rintro e w1 ⟨rfl, hb1⟩
  have HB1 := hid (bt HB.out hb1)
  have HY0 := hid (HX0.out.later hb1 HX0.out.lt)
  have HY1 := hid (HX1.out.later hb1 HX1.out.lt)
  have HY3 := hid (HX3.out.later hb1 HX3.out.lt)
  have c0 : w1.cell? ⟨w.heap.size, 0, none⟩ = some (.slice qv k dv) := HY0.out.cell 0
  have c1 : w1.cell? ⟨w.heap.size, 1, none⟩ = some (.bool true) := HY0.out.cell 1
  have z0 := HY0.out.free 0
  have z1 := HY0.out.free 1
  have same1 : w1.setCell ⟨w.heap.size, 1, none⟩ (.bool true) = w1 := HY0.out.same rfl
  have d0 : w1.cell? ⟨w.heap.size + 1, 0, none⟩ = some (.bool n) := HY1.out.cell 0
  have d1 : w1.cell? ⟨w.heap.size + 1, 1, none⟩ = some (.slice a xs.length ca) := HY1.out.cell 1
  have d2 : w1.cell? ⟨w.heap.size + 1, 2, none⟩ = some (.slice b ys.length cb) := HY1.out.cell 2
  have HV1 := hid (owns_later3 HV.out HB1.out)
  have hs1 := HB1.out.size
  have hne0 : some w.heap.size ≠ (Value.slice qv k dv).ownBlock := fun e => by have := (HV.out.lt _ e.symm).2; omega
  have hne3 : some (w.heap.size + 1 + 1 + 1) ≠ (Value.slice qv k dv).ownBlock := fun e => by have := (HV.out.lt _ e.symm).2; omega
  have HN := hid (And.intro hne0 hne3)
  clear hb1 HC HX0 HX1 HX3 hne0 hne3
  go_wp2_with (at_builtin; refine wpList_append_own _ rfl _ _ 26 rfl lo 24 i0 (.agg #[.bool false, .slice none 0 0, .slice none 0 0]) 3 56 Tryz.underlying26 hi hz0 hz1 hz2 rfl (by decide) _ _ _ rfl (HV1.out.alloc _) ⟨w1.heap.size, 0, none⟩ 1 1 [.bool n, .slice a xs.length ca, .slice b ys.length cb] rfl rfl (three_cells _ _ _ _ _) (by simp [Value.oneCell']) (by unfold maxLen; omega) (by omega) (by simp; omega) ?_)
  intro v' w2 ho2 hg2 _
  have HG : Hid (w.grownBy w2 (Value.slice qv k dv).ownBlock) := grown_trans (grown_of_below (bt HB1.out (alloc_later w1 (.cells #[.bool n, .slice a xs.length ca, .slice b ys.length cb] 24))) _) hg2
  have HW0 := hid ((HY0.out.later (alloc_later w1 (.cells #[.bool n, .slice a xs.length ca, .slice b ys.length cb] 24)) HY0.out.lt).kept hg2 HN.out.1)
  have HW3 := hid ((HY3.out.later (alloc_later w1 (.cells #[.bool n, .slice a xs.length ca, .slice b ys.length cb] 24)) HY3.out.lt).kept hg2 HN.out.2)
  have HO2 := hid ho2
  have e0 : w2.cell? ⟨w.heap.size, 0, none⟩ = some (.slice qv k dv) := HW0.out.cell 0
  have e1 : w2.cell? ⟨w.heap.size, 1, none⟩ = some (.bool true) := HW0.out.cell 1
  have y0 := HW0.out.free 0
  have y1 := HW0.out.free 1
  have r0 : w2.cell? ⟨w.heap.size + 1 + 1 + 1, 0, none⟩ = some (.slice none 0 0) := HW3.out.cell 0
  have r1 : w2.cell? ⟨w.heap.size + 1 + 1 + 1, 1, none⟩ = some (.bool false) := HW3.out.cell 1
  have f0 := HW3.out.free 0
  have f1 := HW3.out.free 1
  have hq0 : w.heap.size + 1 + 1 + 1 ≠ w.heap.size := by omega
  have hq1 : w.heap.size ≠ w.heap.size + 1 + 1 + 1 := by omega
  obtain ⟨q', d', hsh'⟩ := own_slice3 ho2
  subst hsh'
  clear ho2 hg2 c0 c1 z0 z1 same1 d0 d1 d2 HV1 HY0 HY1 HY3 HB1
  go_wp2_with fail
  refine bodyPost_ret (v := .agg #[.slice q' (k + 1) d', .bool true]) (by simp [results, Tryz.results7, go_sem, r0, r1]) rfl ?_
  have n0 := own_ne_box3 HO2.out HW0.out (by decide)
  have n3 := own_ne_box3 HO2.out HW3.out (by decide)
  exact ⟨_, rfl, own_put1' (own_put1' (own_put1' HO2.out _ n0 _ _) _ n3 _ _) _ n3 _ _, grown_new (grown_new (grown_new HG.out (Nat.le_refl _) _ _) (by omega) _ _) (by omega) _ _⟩

end Go.Proofs.YtpehpflgfkdiaaaGreat

