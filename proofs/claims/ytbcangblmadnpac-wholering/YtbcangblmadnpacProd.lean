/- nat.addTimes, nat.product: the words of a product, in new memory: of every two lists that can be read. -/
import Derived.Test.YtbcangblmadnpacSum
namespace Go.Proofs.Ytbcangblmadnpac
open Go.RowKit
set_option linter.unusedVariables false

/-- The value of k words from place i on. -/
def segTo (ys : List Int) (i : Nat) : Nat → Int
  | 0 => 0
  | k + 1 => segTo ys i k + ys[i + k]?.getD 0 * 4294967296 ^ k
theorem segTo_succ (ys : List Int) (i k : Nat) : segTo ys i (k + 1) = segTo ys i k + ys[i + k]?.getD 0 * 4294967296 ^ k := rfl
theorem segTo_congr (xs ys : List Int) (i : Nat) : ∀ k, (∀ j, j < k → xs[i + j]?.getD 0 = ys[i + j]?.getD 0) → segTo xs i k = segTo ys i k
  | 0, _ => rfl
  | k + 1, h => by rw [segTo_succ, segTo_succ, segTo_congr xs ys i k (fun j hj => h j (by omega)), h k (by omega)]
theorem segTo_set (ys : List Int) (i k : Nat) (z : Int) (h : i + k < ys.length) : segTo (ys.set (i + k) z) i (k + 1) = segTo ys i k + z * 4294967296 ^ k := by
  rw [segTo_succ, segTo_congr (ys.set (i + k) z) ys i k (fun j hj => by rw [List.getElem?_set, if_neg (by omega)]), List.getElem?_set, if_pos rfl, if_pos h]
  rfl
theorem valTo_seg (ys : List Int) (i : Nat) : ∀ k, valTo ys (i + k) = valTo ys i + segTo ys i k * 4294967296 ^ i
  | 0 => by simp [segTo]
  | k + 1 => by
    rw [← Nat.add_assoc, valTo_succ, valTo_seg ys i k, segTo_succ, Int.add_mul, Int.mul_assoc, ← Int.pow_add, Nat.add_comm k i, Int.add_assoc]

theorem mul_step (zs ys : List Int) (i k : Nat) (s x c t : Int) (hk : i + k < ys.length) (ht : c + (x * zs[k]?.getD 0 + ys[i + k]?.getD 0) = t) (s0 : Int)
    (h : segTo ys i k + c * 4294967296 ^ k = s0 + x * valTo zs k) :
    segTo (ys.set (i + k) (t % 4294967296)) i (k + 1) + t / 4294967296 * 4294967296 ^ (k + 1) = s0 + ys[i + k]?.getD 0 * 4294967296 ^ k + x * valTo zs (k + 1) := by
  rw [segTo_set ys i k _ hk, valTo_succ, pw_succ, Int.mul_add]
  have e := carry_step (4294967296 ^ k) (t % 4294967296) (t / 4294967296) t (by omega)
  have e2 : t * 4294967296 ^ k = c * 4294967296 ^ k + (x * (zs[k]?.getD 0 * 4294967296 ^ k) + ys[i + k]?.getD 0 * 4294967296 ^ k) := by
    rw [← ht, Int.add_mul, Int.add_mul, Int.mul_assoc]
  omega

theorem prod_word (x y : Int) (hx : 0 ≤ x ∧ x ≤ 4294967295) (hy : 0 ≤ y ∧ y ≤ 4294967295) : 0 ≤ x * y ∧ x * y ≤ 18446744065119617025 := by
  refine ⟨Int.mul_nonneg hx.1 hy.1, ?_⟩
  have h1 : x * y ≤ 4294967295 * y := Int.mul_le_mul_of_nonneg_right hx.2 hy.1
  omega

set_option maxHeartbeats 3200000 in
set_option maxRecDepth 100000 in
theorem addTimes_any (base g N i m cap : Nat) (ys : List Int) (b : Option Addr) (cap' : Nat) (zs : List Int) (x : Int) (w : World) (ho : OwnW w base g N ys) (hwy : Wd ys) (him : i + m ≤ N) (hcap : cap = N - i) (hN : N ≤ 1099511627776)
    (h : Reads w base b m cap' zs) (hm : 0 < m) (hx : 0 ≤ x ∧ x ≤ 4294967295) :
    Calls Try.prog 55 #[.slice (some ⟨g, i, none⟩) m cap, .slice b m cap', .int .u32 x] w fun e w' => ∃ (c : Int) (us : List Int), e = .returned (.int .u32 c) ∧ 0 ≤ c ∧ c ≤ 4294967295 ∧ OwnW w' base g N us ∧ Wd us ∧
      (∀ j, j < i ∨ i + m ≤ j → us[j]?.getD 0 = ys[j]?.getD 0) ∧ segTo us i m + c * 4294967296 ^ m = segTo ys i m + x * val zs ∧ Below base w w' := by
  have hbase := ho.base
  rcases h.2.2.1 with h0 | ⟨b2, o2, rfl, hb2, hc2⟩
  · omega
  · have hwz := h.2.1
    have HL := hid h.1
    have HC := hid hc2
    have hcm : m ≤ cap := by omega
    have hcz : ¬ cap = 0 := by omega
    clear h hc2
    go_enter Try.func55, Try.ntmps55
    go_wp2_with fail
    go_loopw [7, 16] (fun c t wr => ∃ (k : Nat) (cc : Int) (us : List Int), k ≤ m ∧ t = .int .i64 k ∧ c = .int .u64 cc ∧ 0 ≤ cc ∧ cc ≤ 4294967295 ∧ Wd us ∧ Hid (segTo us i k + cc * 4294967296 ^ k = segTo ys i k + x * valTo zs k) ∧
      Hid (∀ j, j < i ∨ i + k ≤ j → us[j]?.getD 0 = ys[j]?.getD 0) ∧ OwnW wr base g N us ∧ Below base w wr) (fun _ t _ => m - (intOf t).toNat)
    case atStart => exact ⟨0, 0, ys, by omega, rfl, rfl, by omega, by omega, hwy, show _ = _ by simp [segTo, valTo], fun _ _ => rfl, ho, Below.refl _ _⟩
    case round =>
      obtain ⟨k, cc, us, hk, rfl, rfl, c0, c1, hwu, HV, HK, hou, hb⟩ := hrel
      by_cases hlt : k < m
      · have x1 : wr.cell? ⟨b2, o2 + k, none⟩ = some (.int .u32 (zs[k]?.getD 0)) := (hb.cell (p := ⟨b2, o2 + k, none⟩) hb2).trans (HC.out k hlt)
        have y1 := hou.cell (i + k) (by omega)
        have f1 := hou.free (i + k)
        have bz := hwz.at k
        have bu := hwu.at (i + k)
        have bp := prod_word x (zs[k]?.getD 0) hx bz
        have hlu := hou.len
        obtain ⟨t, ht⟩ : ∃ t, t = cc + (x * zs[k]?.getD 0 + us[i + k]?.getD 0) := ⟨_, rfl⟩
        have HT := hid ht
        have HV' : Hid (segTo (us.set (i + k) (t % 4294967296)) i (k + 1) + t / 4294967296 * 4294967296 ^ (k + 1) = segTo ys i (k + 1) + x * valTo zs (k + 1)) := by
          have e := mul_step zs us i k 0 x cc t (by omega) ht.symm _ HV.out
          rw [HK.out (i + k) (by omega)] at e
          exact e
        have HK' : Hid (∀ j, j < i ∨ i + (k + 1) ≤ j → (us.set (i + k) (t % 4294967296))[j]?.getD 0 = ys[j]?.getD 0) := fun j hj => by
          rw [List.getElem?_set, if_neg (by omega)]
          exact HK.out j (by omega)
        have HO' := hid (hou.set (i + k) (t % 4294967296))
        have HB' := hid (hb.setCell (p := ⟨g, i + k, none⟩) hbase.1 (.int .u32 (t % 4294967296)))
        have ht0 : 0 ≤ t ∧ t ≤ 18446744073709551615 := by omega
        clear hlu hou hb HV HK ht
        go_wp2
        go_roundw
        case rel => rw [← HT.out]; exact ⟨k + 1, t / 4294967296, us.set (i + k) (t % 4294967296), by omega, by go_num, by go_num, by omega, by omega, hwu.set _ (by omega), HV', HK', HO'.out, HB'.out⟩
        case measure => simp [intOf]; omega
      · have hkm : k = m := by omega
        subst hkm
        have HV' : Hid (segTo us i k + cc * 4294967296 ^ k = segTo ys i k + x * val zs) := by
          show _ = _
          rw [HV.out, valTo_stable zs k (by have := HL.out; omega)]
        clear HV
        go_wp2
        go_ret
        exact ⟨cc, us, rfl, c0, c1, hou, hwu, HK.out, HV'.out, hb⟩

set_option maxHeartbeats 3200000 in
set_option maxRecDepth 100000 in
theorem product_any (a : Option Addr) (n cap : Nat) (xs : List Int) (b : Option Addr) (m cap' : Nat) (zs : List Int) (w : World) (h : Reads w w.heap.size a n cap xs) (g : Reads w w.heap.size b m cap' zs) (hn : n ≤ 274877906944) (hm : m ≤ 274877906944) (hn0 : 0 < n) (hm0 : 0 < m) :
    Calls Try.prog 48 #[.slice a n cap, .slice b m cap'] w fun e w' => ∃ (N : Nat) (ys : List Int), e = .returned (.slice (some ⟨w.heap.size, 0, none⟩) N N) ∧ N ≤ n + m + 1 ∧ OwnW w' w.heap.size w.heap.size N ys ∧ Wd ys ∧ val ys = val xs * val zs ∧ Below w.heap.size w w' := by
  obtain ⟨i0, hi, hz0, hz1, hz2⟩ := info_parts Try.infoW
  rcases h.2.2.1 with h0 | ⟨b1, o1, rfl, hb1, hc1⟩
  · omega
  · have hlA := h.1
    have hwA := h.2.1
    have HL := hid (And.intro hlA g.1)
    have HA := hid hc1
    have HB := hid g
    have hwB := g.2.1
    clear hlA hc1 h g
    go_enter Try.func48, Try.ntmps48
    go_wp2_with (at_make; refine wpList_make_full _ rfl _ _ 22 rfl w.heap.size 35 i0 (.int .u32 0) 1 Try.underlying22 hi hz0 hz1 _ _ _ _ (n + m) rfl rfl (by omega) (by omega) (by rw [hz2]; omega) (by unfold maxLen; omega) (Nat.le_refl _) ?_)
    intro w1 hown hgrow
    have hbel : Below w.heap.size w w1 := (Below.refl _ _).grown hgrow (Nat.le_refl _) (fun k hk => by simp at hk)
    have HO := hid (OwnW.made hown)
    clear hown hgrow
    go_wp2_with fail
    go_loopw [17] (fun t wr => ∃ (k : Nat) (ys : List Int), k ≤ n ∧ t = .int .i64 k ∧ Wd ys ∧ Hid (valTo ys (k + m) = valTo xs k * val zs) ∧ Hid (∀ j, k + m ≤ j → ys[j]?.getD 0 = 0) ∧ OwnW wr w.heap.size w.heap.size (n + m) ys ∧ Below w.heap.size w wr) (fun t _ => n - (intOf t).toNat)
    case atStart =>
      have hz : ∀ j : Nat, (List.replicate (n + m) (0 : Int))[j]?.getD 0 = 0 := fun j => by rw [List.getElem?_replicate]; split <;> rfl
      refine ⟨0, _, by omega, rfl, Wd.replicate _, ?_, fun j _ => hz j, HO.out, hbel⟩
      show _ = _
      rw [valTo_congr _ [] _ (fun j _ => by rw [hz j]; rfl), valTo_stable [] _ (by simp), val_nil]
      simp [valTo]
    case round =>
      obtain ⟨k, ys, hk, rfl, hwy, HV, HK, ho, hb⟩ := hrel
      by_cases hlt : k < n
      · have x1 : wr.cell? ⟨b1, o1 + k, none⟩ = some (.int .u32 (xs[k]?.getD 0)) := (hb.cell (p := ⟨b1, o1 + k, none⟩) hb1).trans (HA.out k hlt)
        have ba := hwA.at k
        have hbs := hb.size
        have HR := hid ((HB.out.later hb (Nat.le_refl _)))
        have hne : ¬ n + m = k := by omega
        go_wp2_with fail
        refine (addTimes_any w.heap.size w.heap.size (n + m) k m _ ys b cap' zs _ wr ho hwy (by omega) (by omega) (by omega) HR.out hm0 ba).mono ?_
        rintro e w2 ⟨c, us, rfl, c0, c1, hou, hwu, hku, hvu, hb2⟩
        have y1 := hou.cell (k + m) (by omega)
        have f1 := hou.free (k + m)
        have hlu := hou.len
        have HO' := hid (hou.set (k + m) c)
        have HB' := hid ((hb.trans hb2).setCell (p := ⟨w.heap.size, k + m, none⟩) (Nat.le_refl _) (.int .u32 c))
        have HK' : Hid (∀ j, k + 1 + m ≤ j → (us.set (k + m) c)[j]?.getD 0 = 0) := fun j hj => by
          rw [List.getElem?_set, if_neg (by omega), hku j (by omega)]
          exact HK.out j (by omega)
        have HV' : Hid (valTo (us.set (k + m) c) (k + 1 + m) = valTo xs (k + 1) * val zs) := by
          show _ = _
          rw [show k + 1 + m = k + m + 1 by omega, valTo_set us (k + m) c (by omega), valTo_seg us k m, valTo_congr us ys k (fun j hj => hku j (by omega)), valTo_succ, Int.add_mul, ← HV.out, valTo_seg ys k m]
          have e1 : (4294967296 : Int) ^ (k + m) = 4294967296 ^ m * 4294967296 ^ k := by rw [Nat.add_comm, Int.pow_add]
          rw [e1, ← Int.mul_assoc, Int.add_assoc, ← Int.add_mul, hvu, Int.add_mul, ← Int.add_assoc]
          congr 1
          rw [Int.mul_assoc, Int.mul_comm (val zs), ← Int.mul_assoc]
        clear hou hku hvu hb2 hlu
        go_wp2_with fail
        go_roundw
        case rel => exact ⟨k + 1, _, by omega, by go_num, hwu.set _ ⟨c0, c1⟩, HV', HK', HO'.out, HB'.out⟩
        case measure => simp [intOf]; omega
      · have hkn : k = n := by omega
        subst hkn
        have HV' : Hid (val ys = val xs * val zs) := by
          show _ = _
          have e := HV.out
          rw [valTo_stable ys _ (by have := ho.len; omega), valTo_stable xs k (by have := HL.out.1; omega)] at e
          exact e
        clear HV
        go_wp2
        go_ret
        exact ⟨_, ys, rfl, by omega, ho, hwy, HV'.out, hb⟩
end Go.Proofs.Ytbcangblmadnpac
