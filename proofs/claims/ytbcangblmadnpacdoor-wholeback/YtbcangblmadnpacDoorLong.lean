/- nat.takeTimes, nat.giveBack: a divisor taken off a window of words so many times, and given back once. -/
import Derived.Test.YtbcangblmadnpacDoorProd
import Derived.Test.YtbcangblmadnpacDoorWord
import Derived.Test.YtbcangblmadnpacDoorShift
namespace Go.Proofs.YtbcangblmadnpacDoor
open Go.RowKit
set_option linter.unusedVariables false

theorem take_step (ds us ys : List Int) (i k : Nat) (x o T z o2 : Int) (hk : i + k < us.length) (hT : T = o + x * ds[k]?.getD 0) (hz : z - o2 * 4294967296 = us[i + k]?.getD 0 - T) (hu : us[i + k]?.getD 0 = ys[i + k]?.getD 0)
    (h : segTo us i k - o * 4294967296 ^ k = segTo ys i k - x * valTo ds k) :
    segTo (us.set (i + k) z) i (k + 1) - o2 * 4294967296 ^ (k + 1) = segTo ys i (k + 1) - x * valTo ds (k + 1) := by
  rw [segTo_set us i k _ hk, segTo_succ ys, valTo_succ, pw_succ, Int.mul_add, ← hu]
  have e1 : (z - o2 * 4294967296) * 4294967296 ^ k = (us[i + k]?.getD 0 - T) * 4294967296 ^ k := by rw [hz]
  rw [Int.sub_mul, Int.sub_mul, hT, Int.add_mul, Int.mul_assoc x, Int.mul_assoc o2, Int.mul_comm 4294967296 (4294967296 ^ k)] at e1
  omega

set_option maxHeartbeats 3200000 in
set_option maxRecDepth 100000 in
theorem takeTimes_any (base g N i m cap : Nat) (ys : List Int) (b : Option Addr) (cap' : Nat) (ds : List Int) (x : Int) (w : World) (ho : OwnW w base g N ys) (hwy : Wd ys) (him : i + m + 1 ≤ N) (hcap : cap = N - i) (hN : N ≤ 1099511627776)
    (h : Reads w base b m cap' ds) (hm : 0 < m) (hx : 0 ≤ x ∧ x ≤ 4294967295) :
    Calls Tryd.prog 102 #[.slice (some ⟨g, i, none⟩) (m + 1) cap, .slice b m cap', .int .u32 x] w fun e w' => ∃ (sh : Bool) (us : List Int), e = .returned (.bool sh) ∧ OwnW w' base g N us ∧ Wd us ∧
      (∀ j, j < i ∨ i + m + 1 ≤ j → us[j]?.getD 0 = ys[j]?.getD 0) ∧ segTo us i (m + 1) = segTo ys i (m + 1) - x * val ds + (if sh then 4294967296 ^ (m + 1) else 0) ∧ w.grownBy w' (some g) := by
  have hbase := ho.base
  rcases h.2.2.1 with h0 | ⟨b2, o2, rfl, hb2, hc2⟩
  · omega
  · have hwz := h.2.1
    have HL := hid h.1
    have HC := hid hc2
    have hcm : m + 1 ≤ cap := by omega
    have hcz : ¬ cap = 0 := by omega
    clear h hc2
    go_enter Tryd.func102, Tryd.ntmps102
    go_wp2_with fail
    go_loopw [8, 17] (fun c t wr => ∃ (k : Nat) (o : Int) (us : List Int), k ≤ m ∧ t = .int .i64 k ∧ c = .int .u64 o ∧ 0 ≤ o ∧ o ≤ 4294967296 ∧ Wd us ∧ Hid (segTo us i k - o * 4294967296 ^ k = segTo ys i k - x * valTo ds k) ∧
      Hid (∀ j, j < i ∨ i + k ≤ j → us[j]?.getD 0 = ys[j]?.getD 0) ∧ OwnW wr base g N us ∧ w.grownBy wr (some g)) (fun _ t _ => m - (intOf t).toNat)
    case atStart => exact ⟨0, 0, ys, by omega, rfl, rfl, by omega, by omega, hwy, show _ = _ by simp [segTo, valTo], fun _ _ => rfl, ho, World.grownBy.refl _ _⟩
    case round =>
      obtain ⟨k, o, us, hk, rfl, rfl, c0, c1, hwu, HV, HK, hou, hg⟩ := hrel
      have hb : Below base w wr := (Below.refl _ _).grown hg (by omega) (fun k hk => by simp at hk; omega)
      by_cases hlt : k < m
      · have x1 : wr.cell? ⟨b2, o2 + k, none⟩ = some (.int .u32 (ds[k]?.getD 0)) := (hb.cell (p := ⟨b2, o2 + k, none⟩) hb2).trans (HC.out k hlt)
        have y1 := hou.cell (i + k) (by omega)
        have f1 := hou.free (i + k)
        have bz := hwz.at k
        have bu := hwu.at (i + k)
        obtain ⟨p, hp⟩ : ∃ p, x * ds[k]?.getD 0 = p := ⟨_, rfl⟩
        have bp := prod_word x (ds[k]?.getD 0) hx bz
        rw [hp] at bp
        have hlu := hou.len
        obtain ⟨T, hT⟩ : ∃ T, o + p = T := ⟨_, rfl⟩
        obtain ⟨d, hd⟩ : ∃ d, (us[i + k]?.getD 0 - T % 4294967296) % 18446744073709551616 = d := ⟨_, rfl⟩
        have hwr : IntKind.u64.wrap (us[i + k]?.getD 0 - T % 4294967296) = d := by rw [IntKind.wrap_u64, hd]
        have T0 : 0 ≤ T ∧ T ≤ 18446744073709551615 := by omega
        have d0 : 0 ≤ d ∧ d ≤ 18446744073709551615 := by omega
        have hz : d % 4294967296 - (T / 4294967296 + d / 9223372036854775808) * 4294967296 = us[i + k]?.getD 0 - T := by omega
        have o0 : 0 ≤ T / 4294967296 + d / 9223372036854775808 ∧ T / 4294967296 + d / 9223372036854775808 ≤ 4294967296 := by omega
        have HO0 := hid o0
        have HV' := hid (take_step ds us ys i k x o T (d % 4294967296) (T / 4294967296 + d / 9223372036854775808) (by omega) (by rw [hp, hT]) hz (HK.out _ (by omega)) HV.out)
        have HK' : Hid (∀ j, j < i ∨ i + (k + 1) ≤ j → (us.set (i + k) (d % 4294967296))[j]?.getD 0 = ys[j]?.getD 0) := fun j hj => by
          rw [List.getElem?_set, if_neg (by omega)]
          exact HK.out j (by omega)
        have HO' := hid (hou.set (i + k) (d % 4294967296))
        have HB' := hid (grown_trans hg (OwnC.set (cap := N) hou (i + k) (d % 4294967296)).2)
        have hs63 : 0 ≤ d / 9223372036854775808 := by omega
        clear hlu hou hb hg HV HK hz o0
        go_wp2_with fail
        go_roundw
        case rel => exact ⟨k + 1, T / 4294967296 + d / 9223372036854775808, us.set (i + k) (d % 4294967296), by omega, by go_num, by go_num, HO0.out.1, HO0.out.2, hwu.set _ (by omega), HV', HK', HO'.out, HB'.out⟩
        case measure => simp [intOf]; omega
      · have hkm : k = m := by omega
        subst hkm
        have y1 := hou.cell (i + k) (by omega)
        have f1 := hou.free (i + k)
        have bu := hwu.at (i + k)
        have hlu := hou.len
        obtain ⟨z, hz⟩ : ∃ z, (us[i + k]?.getD 0 - o % 4294967296) % 4294967296 = z := ⟨_, rfl⟩
        have hwr : IntKind.u32.wrap (us[i + k]?.getD 0 - o % 4294967296) = z := by rw [IntKind.wrap_u32, hz]
        have z0 : 0 ≤ z ∧ z ≤ 4294967295 := by omega
        have HO' := hid (hou.set (i + k) z)
        have HB' := hid (grown_trans hg (OwnC.set (cap := N) hou (i + k) z).2)
        have HK' : Hid (∀ j, j < i ∨ i + k + 1 ≤ j → (us.set (i + k) z)[j]?.getD 0 = ys[j]?.getD 0) := fun j hj => by
          rw [List.getElem?_set, if_neg (by omega)]
          exact HK.out j (by omega)
        have HV' : Hid (segTo (us.set (i + k) z) i (k + 1) = segTo ys i (k + 1) - x * val ds + (if decide (us[i + k]?.getD 0 < o) then 4294967296 ^ (k + 1) else 0)) := by
          show _ = _
          have e := HV.out
          rw [segTo_set us i k _ (by omega), segTo_succ ys, ← HK.out (i + k) (by omega), ← valTo_stable ds k (by have := HL.out; omega), pw_succ]
          have e2 : z * 4294967296 ^ k = (us[i + k]?.getD 0 - o + (if decide (us[i + k]?.getD 0 < o) then 4294967296 else 0)) * 4294967296 ^ k := by
            congr 1
            by_cases c : us[i + k]?.getD 0 < o
            · simp only [c, decide_true, if_true]; omega
            · simp only [c, decide_false]; simp; omega
          rw [e2, Int.add_mul, Int.sub_mul]
          by_cases c : us[i + k]?.getD 0 < o
          · simp only [c, decide_true, if_true]; omega
          · simp only [c, decide_false]; simp; omega
        clear hlu hou hb hg HV HK hz
        go_wp2_with fail
        go_ret
        exact ⟨_, us.set (i + k) z, rfl, HO'.out, hwu.set _ z0, HK'.out, HV'.out, HB'.out⟩
end Go.Proofs.YtbcangblmadnpacDoor
