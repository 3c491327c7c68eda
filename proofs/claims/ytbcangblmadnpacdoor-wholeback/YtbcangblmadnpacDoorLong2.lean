/- nat.giveBack, nat.guess, nat.nextWord: one word of a quotient. -/
import Derived.Test.YtbcangblmadnpacDoorLong
import Derived.BigQuiet
namespace Go.Proofs.YtbcangblmadnpacDoor
open Go.RowKit
set_option linter.unusedVariables false

theorem give_step (ds us ys : List Int) (i k : Nat) (c T : Int) (hk : i + k < us.length) (hT : T = c + (us[i + k]?.getD 0 + ds[k]?.getD 0)) (hu : us[i + k]?.getD 0 = ys[i + k]?.getD 0)
    (h : segTo us i k + c * 4294967296 ^ k = segTo ys i k + valTo ds k) :
    segTo (us.set (i + k) (T % 4294967296)) i (k + 1) + T / 4294967296 * 4294967296 ^ (k + 1) = segTo ys i (k + 1) + valTo ds (k + 1) := by
  rw [segTo_set us i k _ hk, segTo_succ ys, valTo_succ, pw_succ, ← hu]
  have e := carry_step (4294967296 ^ k) (T % 4294967296) (T / 4294967296) T (by omega)
  have e2 : T * 4294967296 ^ k = c * 4294967296 ^ k + (us[i + k]?.getD 0 * 4294967296 ^ k + ds[k]?.getD 0 * 4294967296 ^ k) := by
    rw [hT, Int.add_mul, Int.add_mul]
  omega

set_option maxHeartbeats 3200000 in
set_option maxRecDepth 100000 in
theorem giveBack_any (base g N i m cap : Nat) (ys : List Int) (b : Option Addr) (cap' : Nat) (ds : List Int) (w : World) (ho : OwnW w base g N ys) (hwy : Wd ys) (him : i + m + 1 ≤ N) (hcap : cap = N - i) (hN : N ≤ 1099511627776)
    (h : Reads w base b m cap' ds) (hm : 0 < m) :
    Calls Tryd.prog 103 #[.slice (some ⟨g, i, none⟩) (m + 1) cap, .slice b m cap'] w fun e w' => ∃ (c : Int) (us : List Int), e = .returned (.tuple #[]) ∧ OwnW w' base g N us ∧ Wd us ∧ (c = 0 ∨ c = 1) ∧
      (∀ j, j < i ∨ i + m + 1 ≤ j → us[j]?.getD 0 = ys[j]?.getD 0) ∧ segTo us i (m + 1) = segTo ys i (m + 1) + val ds - c * 4294967296 ^ (m + 1) ∧ w.grownBy w' (some g) := by
  have hbase := ho.base
  rcases h.2.2.1 with h0 | ⟨b2, o2, rfl, hb2, hc2⟩
  · omega
  · have hwz := h.2.1
    have HL := hid h.1
    have HC := hid hc2
    have hcm : m + 1 ≤ cap := by omega
    have hcz : ¬ cap = 0 := by omega
    clear h hc2
    go_enter Tryd.func103, Tryd.ntmps103
    go_wp2_with fail
    go_loopw [5, 12] (fun c t wr => ∃ (k : Nat) (o : Int) (us : List Int), k ≤ m ∧ t = .int .i64 k ∧ c = .int .u64 o ∧ 0 ≤ o ∧ o ≤ 1 ∧ Wd us ∧ Hid (segTo us i k + o * 4294967296 ^ k = segTo ys i k + valTo ds k) ∧
      Hid (∀ j, j < i ∨ i + k ≤ j → us[j]?.getD 0 = ys[j]?.getD 0) ∧ OwnW wr base g N us ∧ w.grownBy wr (some g)) (fun _ t _ => m - (intOf t).toNat)
    case atStart => exact ⟨0, 0, ys, by omega, rfl, rfl, by omega, by omega, hwy, show _ = _ by simp [segTo, valTo], fun _ _ => rfl, ho, World.grownBy.refl _ _⟩
    case round =>
      obtain ⟨k, o, us, hk, rfl, rfl, c0, c1, hwu, HV, HK, hou, hg⟩ := hrel
      have hb : Below base w wr := (Below.refl _ _).grown hg (by omega) (fun k hk => by simp at hk; omega)
      by_cases hlt : k < m
      · have x1 : wr.cell? ⟨b2, o2 + k, none⟩ = some (.int .u32 (ds[k]?.getD 0)) := (hb.cell (p := ⟨b2, o2 + k, none⟩) hb2).trans (HC.out k hlt)
        have y1 := hou.cell (i + k) (by omega)
        have f1 := hou.free (i + k)
        have bz := hwz.at k
        have bu := hwu.at (i + k)
        have hlu := hou.len
        obtain ⟨T, hT⟩ : ∃ T, T = o + (us[i + k]?.getD 0 + ds[k]?.getD 0) := ⟨_, rfl⟩
        have HT := hid hT
        have T0 : 0 ≤ T ∧ T ≤ 8589934591 := by omega
        have HV' := hid (give_step ds us ys i k o T (by omega) hT (HK.out _ (by omega)) HV.out)
        have HK' : Hid (∀ j, j < i ∨ i + (k + 1) ≤ j → (us.set (i + k) (T % 4294967296))[j]?.getD 0 = ys[j]?.getD 0) := fun j hj => by
          rw [List.getElem?_set, if_neg (by omega)]
          exact HK.out j (by omega)
        have HO' := hid (hou.set (i + k) (T % 4294967296))
        have HB' := hid (grown_trans hg (OwnC.set (cap := N) hou (i + k) (T % 4294967296)).2)
        clear hlu hou hb hg HV HK hT
        go_wp2_with fail
        go_roundw
        case rel => rw [← HT.out]; exact ⟨k + 1, T / 4294967296, us.set (i + k) (T % 4294967296), by omega, by go_num, by go_num, by omega, by omega, hwu.set _ (by omega), HV', HK', HO'.out, HB'.out⟩
        case measure => simp [intOf]; omega
      · have hkm : k = m := by omega
        subst hkm
        have y1 := hou.cell (i + k) (by omega)
        have f1 := hou.free (i + k)
        have bu := hwu.at (i + k)
        have hlu := hou.len
        obtain ⟨z, hz⟩ : ∃ z, (us[i + k]?.getD 0 + o) % 4294967296 = z := ⟨_, rfl⟩
        have hwr : IntKind.u32.wrap (us[i + k]?.getD 0 + o) = z := by rw [IntKind.wrap_u32, hz]
        have z0 : 0 ≤ z ∧ z ≤ 4294967295 := by omega
        obtain ⟨c, hc⟩ : ∃ c, c = (us[i + k]?.getD 0 + o) / 4294967296 := ⟨_, rfl⟩
        have HCC : Hid (c = 0 ∨ c = 1) := by show _ ∨ _; omega
        have HO' := hid (hou.set (i + k) z)
        have HB' := hid (grown_trans hg (OwnC.set (cap := N) hou (i + k) z).2)
        have HK' : Hid (∀ j, j < i ∨ i + k + 1 ≤ j → (us.set (i + k) z)[j]?.getD 0 = ys[j]?.getD 0) := fun j hj => by
          rw [List.getElem?_set, if_neg (by omega)]
          exact HK.out j (by omega)
        have HV' : Hid (segTo (us.set (i + k) z) i (k + 1) = segTo ys i (k + 1) + val ds - c * 4294967296 ^ (k + 1)) := by
          show _ = _
          have e := HV.out
          rw [segTo_set us i k _ (by omega), segTo_succ ys, ← HK.out (i + k) (by omega), ← valTo_stable ds k (by have := HL.out; omega), pw_succ]
          have e2 := carry_step (4294967296 ^ k) z c (us[i + k]?.getD 0 + o) (by omega)
          rw [Int.add_mul] at e2
          omega
        clear hlu hou hb hg HV HK hz hc
        go_wp2_with fail
        go_end0
        exact ⟨c, us.set (i + k) z, rfl, HO'.out, hwu.set _ z0, HCC.out, HK'.out, HV'.out, HB'.out⟩

/-- What a guess of a quotient's word must meet: it is not too small. -/
theorem guess_first (P h l dl u2 u1 u0 ll t : Int) (hP : 0 < P) (hh : 0 < h) (l0 : 0 ≤ l) (dl0 : 0 ≤ dl) (ll1 : ll < P) (hu0 : 0 ≤ u0 ∧ u0 ≤ 4294967295) (ht : t = u1 + u2 * 4294967296) (t0 : 0 ≤ t) :
    ll + (u0 + t * 4294967296) * P < (t / h + 1) * (dl + (l + h * 4294967296) * P) := by
  have e := Int.mul_ediv_add_emod t h
  have e1 := Int.emod_lt_of_pos t hh
  have q0 : 0 ≤ t / h := Int.ediv_nonneg t0 (by omega)
  have e2 : t + 1 ≤ (t / h + 1) * h := by rw [Int.add_mul, Int.mul_comm (t / h) h]; omega
  have e3 : (t + 1) * 4294967296 * P ≤ (t / h + 1) * h * 4294967296 * P := Int.mul_le_mul_of_nonneg_right (Int.mul_le_mul_of_nonneg_right e2 (by omega)) (by omega)
  have e4 : (t / h + 1) * (dl + (l + h * 4294967296) * P) = (t / h + 1) * dl + (t / h + 1) * (l * P) + (t / h + 1) * h * 4294967296 * P := by
    rw [Int.mul_add, Int.add_mul l, Int.mul_add, Int.mul_assoc ((t / h + 1) * h), Int.mul_assoc (t / h + 1) h, Int.mul_assoc h]; omega
  have e5 : 0 ≤ (t / h + 1) * dl := Int.mul_nonneg (by omega) dl0
  have e6 : 0 ≤ (t / h + 1) * (l * P) := Int.mul_nonneg (by omega) (Int.mul_nonneg l0 (by omega))
  have e7 : (u0 + t * 4294967296 + 1) * P ≤ (t + 1) * 4294967296 * P := Int.mul_le_mul_of_nonneg_right (by omega) (by omega)
  rw [Int.add_mul _ 1 P] at e7
  rw [e4]
  omega
/-- A guess that the next two words call too great is. -/
theorem guess_less (P h l dl t u0 ll q r : Int) (hP : 0 < P) (dl0 : 0 ≤ dl) (ll1 : ll < P) (q0 : 0 ≤ q) (hr : q * h + r = t) (hgt : u0 + r * 4294967296 < q * l) :
    ll + (u0 + t * 4294967296) * P < q * (dl + (l + h * 4294967296) * P) := by
  have e1 : u0 + t * 4294967296 + 1 ≤ q * (l + h * 4294967296) := by
    rw [Int.mul_add, ← Int.mul_assoc, ← hr, Int.add_mul]; omega
  have e2 : (u0 + t * 4294967296 + 1) * P ≤ q * (l + h * 4294967296) * P := Int.mul_le_mul_of_nonneg_right e1 (by omega)
  rw [Int.add_mul _ 1 P] at e2
  have e3 : 0 ≤ q * dl := Int.mul_nonneg q0 dl0
  rw [Int.mul_add q dl, ← Int.mul_assoc q]
  omega
/-- A guess that the next two words don't call too great is at most one too great. -/
theorem guess_most (P h l dl t u0 ll q r : Int) (hP : 0 < P) (dl0 : 0 ≤ dl) (dl1 : dl < P) (ll0 : 0 ≤ ll) (hh : 1 ≤ h) (l0 : 0 ≤ l) (q0 : 0 ≤ q) (q1 : q ≤ 4294967295) (hr : q * h + r = t) (hle : q * l ≤ u0 + r * 4294967296) :
    q * (dl + (l + h * 4294967296) * P) ≤ (ll + (u0 + t * 4294967296) * P) + (dl + (l + h * 4294967296) * P) := by
  have e1 : q * (l + h * 4294967296) ≤ u0 + t * 4294967296 := by
    rw [Int.mul_add, ← Int.mul_assoc, ← hr, Int.add_mul]; omega
  have e2 : q * (l + h * 4294967296) * P ≤ (u0 + t * 4294967296) * P := Int.mul_le_mul_of_nonneg_right e1 (by omega)
  have e3 : q * dl ≤ 4294967296 * P := by
    have a1 : q * dl ≤ q * P := Int.mul_le_mul_of_nonneg_left (by omega) q0
    have a2 : q * P ≤ 4294967296 * P := Int.mul_le_mul_of_nonneg_right (by omega) (by omega)
    omega
  have e4 : 4294967296 * P ≤ (l + h * 4294967296) * P := Int.mul_le_mul_of_nonneg_right (by omega) (by omega)
  rw [Int.mul_add q dl, ← Int.mul_assoc q]
  omega
end Go.Proofs.YtbcangblmadnpacDoor
