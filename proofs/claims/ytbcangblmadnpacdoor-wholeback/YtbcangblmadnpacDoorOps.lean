/- nat.Add, nat.Sub, nat.Mul: of every two lists that can be read the sum, the difference, the product, or the error, in new memory. -/
import Derived.Test.YtbcangblmadnpacDoorProd
import Derived.Test.YtbcangblmadnpacDoorComp
import Derived.Test.YtbcangblmadnpacDoorComp2
import Derived.Test.YtbcangblmadnpacDoorSl
namespace Go.Proofs.YtbcangblmadnpacDoor
open Go.RowKit
set_option linter.unusedVariables false

/-- The errors of two lists, the first one's ahead. -/
def both (xs ys : List Int) : Int := if chk xs = 0 then chk ys else chk xs
theorem chk_cases (xs : List Int) : chk xs = 0 ∨ chk xs = 3 ∨ chk xs = 11 := by
  unfold chk; split
  · exact .inr (.inl rfl)
  · split
    · exact .inl rfl
    · exact .inr (.inr rfl)
theorem chk_ok {xs : List Int} (h : chk xs = 0) : xs.length ≤ 8192 ∧ Trimmed xs := by
  unfold chk at h
  split at h
  · omega
  · split at h
    · rename_i h1 h2; exact ⟨by omega, h2⟩
    · omega
theorem both_ok {xs ys : List Int} (h : both xs ys = 0) : chk xs = 0 ∧ chk ys = 0 := by
  unfold both at h
  split at h
  · exact ⟨by assumption, h⟩
  · contradiction

set_option maxHeartbeats 800000 in
set_option maxRecDepth 100000 in
theorem checkBoth_sl (v u : Value) (xs ys : List Int) (w : World) (h : Sl w v xs) (g : Sl w u ys) (hn : xs.length ≤ 281474976710656) (hm : ys.length ≤ 281474976710656) :
    Calls Tryd.prog 75 #[v, u] w fun e w' => e = .returned (.int .i64 (both xs ys)) ∧ w = w' := by
  by_cases hc : chk xs = 0
  · have HC := hid (check_sl v xs w h hn)
    rw [hc] at HC
    have HU : Hid (both xs ys = chk ys) := by show _ = _; unfold both; rw [if_pos hc]
    clear hc
    go_enter Tryd.func75, Tryd.ntmps75
    go_wp2_with fail
    refine Calls.mono HC.out ?_
    rintro e w' ⟨rfl, rfl⟩
    go_wp2_with fail
    refine (check_sl u ys w g hm).mono ?_
    rintro e w' ⟨rfl, rfl⟩
    go_wp2
    go_ret
    exact ⟨ret_int HU.out.symm, rfl⟩
  · have hne : (chk xs != 0) = true := by simp [hc]
    have HU : Hid (both xs ys = chk xs) := by show _ = _; unfold both; rw [if_neg hc]
    clear hc
    go_enter Tryd.func75, Tryd.ntmps75
    go_wp2_with fail
    refine (check_sl v xs w h hn).mono ?_
    rintro e w' ⟨rfl, rfl⟩
    go_wp2
    go_ret
    exact ⟨ret_int HU.out.symm, rfl⟩

theorem owns_take {w : World} {base e g n k cap : Nat} {xs : List Value} (h : w.ownsRow base e 1 (.slice (some ⟨g, 0, none⟩) n cap) n xs) (hk : k ≤ n) : w.ownsRow base e 1 (.slice (some ⟨g, 0, none⟩) k cap) k (xs.take k) := by
  have hl := h.1
  have := owns_front (n := k) (k := n - k) (xs := xs.take k) (ys := xs.drop k) (by rw [List.take_append_drop, show k + (n - k) = n by omega]; exact h) (by rw [List.length_take]; omega)
  exact this

set_option maxHeartbeats 800000 in
set_option maxRecDepth 100000 in
theorem told_any (base g N : Nat) (ys : List Int) (w : World) (ho : OwnW w base g N ys) (hw : Wd ys) (hN : N ≤ 1099511627776) :
    Calls Tryd.prog 53 #[.slice (some ⟨g, 0, none⟩) N N] w fun e w' => ∃ v zs code, e = .returned (.tuple #[v, .int .i64 code]) ∧ w.ownsRow base 40 1 v zs.length (zs.map (Value.int .u32)) ∧ Tells 0 (val ys) zs code ∧ w = w' := by
  have hl := ho.len
  have sx := sz_le ys
  rw [hl] at sx
  have HT := hid (Tells.told hw)
  have hr : Reads w w.heap.size (some ⟨g, 0, none⟩) N N ys := by
    obtain ⟨a, cap, hv, hr⟩ := Reads.own ho hw
    simp only [Value.slice.injEq] at hv
    obtain ⟨rfl, _, rfl⟩ := hv
    exact hr
  by_cases hs : 8192 < sz ys
  · rw [if_pos hs, if_pos hs] at HT
    have hsi : (8192 : Int) < (sz ys : Int) := by omega
    clear hl
    go_enter Tryd.func53, Tryd.ntmps53
    go_wp2_with fail
    refine (size_any _ _ _ ys _ _ hr (by omega)).mono ?_
    rintro e w' ⟨rfl, rfl⟩
    go_wp2
    go_ret2
    exact ⟨_, [], _, rfl, World.ownsRow_nil _ _ _ _, HT.out, rfl⟩
  · rw [if_neg hs, if_neg hs] at HT
    have hsi : (sz ys : Int) ≤ 8192 := by omega
    have HO : Hid (w.ownsRow base 40 1 (.slice (some ⟨g, 0, none⟩) (sz ys) N) (trimmed ys).length ((trimmed ys).map (Value.int .u32))) := by
      show World.ownsRow _ _ _ _ _ _ _
      rw [length_trimmed]
      unfold trimmed
      rw [List.map_take]
      exact owns_take ho sx
    clear hl
    go_enter Tryd.func53, Tryd.ntmps53
    go_wp2_with fail
    refine (size_any _ _ _ ys _ _ hr (by omega)).mono ?_
    rintro e w' ⟨rfl, rfl⟩
    go_wp2
    go_ret2
    exact ⟨_, _, _, rfl, HO.out, HT.out, rfl⟩

/-- What a call that tells a number and an error does: new memory alone. -/
def Told (w : World) (e t : Int) (x : Ending) (w' : World) : Prop :=
  ∃ v zs code, x = .returned (.tuple #[v, .int .i64 code]) ∧ w'.ownsRow w.heap.size 40 1 v zs.length (zs.map (Value.int .u32)) ∧ Tells e t zs code ∧ Below w.heap.size w w'

set_option maxHeartbeats 800000 in
set_option maxRecDepth 100000 in
theorem add_sl (v u : Value) (xs ys : List Int) (w : World) (h : Sl w v xs) (g : Sl w u ys) (hn : xs.length ≤ 281474976710656) (hm : ys.length ≤ 281474976710656) :
    Calls Tryd.prog 58 #[v, u] w (Told w (both xs ys) (val xs + val ys)) := by
  by_cases hb : both xs ys = 0
  · have HC := hid (checkBoth_sl v u xs ys w h g hn hm)
    rw [hb] at HC ⊢
    obtain ⟨c1, c2⟩ := both_ok hb
    have l1 := (chk_ok c1).1
    have l2 := (chk_ok c2).1
    clear hb c1 c2
    obtain ⟨a, cap, rfl, hr⟩ := h
    obtain ⟨b, cap', rfl, gr⟩ := g
    go_enter Tryd.func58, Tryd.ntmps58
    go_wp2_with fail
    refine Calls.mono HC.out ?_
    rintro e w' ⟨rfl, rfl⟩
    go_wp2_with fail
    refine (sum_any _ _ _ xs _ _ _ ys _ hr gr (by omega) (by omega)).mono ?_
    rintro e w1 ⟨N, us, rfl, hNl, ho, hwu, hv, hbel⟩
    have hN : N ≤ 1099511627776 := by omega
    go_wp2_with fail
    refine (told_any _ _ _ us _ ho hwu hN).mono ?_
    rintro e w2 ⟨v2, zs, code, rfl, ho2, ht2, rfl⟩
    rw [hv] at ht2
    go_wp2
    go_ret2
    exact ⟨_, zs, code, rfl, ho2, ht2, hbel⟩
  · have hne : (both xs ys != 0) = true := by simp [hb]
    have HT := hid (Tells.err (t := val xs + val ys) hb)
    clear hb
    go_enter Tryd.func58, Tryd.ntmps58
    go_wp2_with fail
    refine (checkBoth_sl v u xs ys w h g hn hm).mono ?_
    rintro e w' ⟨rfl, rfl⟩
    go_wp2
    go_ret2
    exact ⟨_, [], _, rfl, World.ownsRow_nil _ _ _ _, HT.out, Below.refl _ _⟩

set_option maxHeartbeats 800000 in
set_option maxRecDepth 100000 in
theorem sub_sl (v u : Value) (xs ys : List Int) (w : World) (h : Sl w v xs) (g : Sl w u ys) (hn : xs.length ≤ 281474976710656) (hm : ys.length ≤ 281474976710656) :
    Calls Tryd.prog 61 #[v, u] w (Told w (if both xs ys = 0 then (if val xs < val ys then 2 else 0) else both xs ys) (val xs - val ys)) := by
  by_cases hb : both xs ys = 0
  · have HC := hid (checkBoth_sl v u xs ys w h g hn hm)
    rw [hb] at HC
    rw [if_pos hb]
    obtain ⟨c1, c2⟩ := both_ok hb
    have l1 := (chk_ok c1).1
    have l2 := (chk_ok c2).1
    have t1 := (chk_ok c1).2
    have t2 := (chk_ok c2).2
    by_cases hlt : val xs < val ys
    · rw [if_pos hlt]
      have hci := cmpI_lt hlt
      have HCM := hid (compare_sl v u xs ys w h g (by omega) (by omega))
      rw [hci] at HCM
      have HT := hid (Tells.err (e := 2) (t := val xs - val ys) (by decide))
      clear hb c1 c2 hlt hci t1 t2
      go_enter Tryd.func61, Tryd.ntmps61
      go_wp2_with fail
      refine Calls.mono HC.out ?_
      rintro e w' ⟨rfl, rfl⟩
      go_wp2_with fail
      refine Calls.mono HCM.out ?_
      rintro e w1 ⟨rfl, hbel⟩
      go_wp2
      go_ret2
      exact ⟨_, [], _, rfl, World.ownsRow_nil _ _ _ _, HT.out, hbel⟩
    · rw [if_neg hlt]
      have hge : 0 ≤ cmpI (val xs) (val ys) := by unfold cmpI; rw [if_neg hlt]; split <;> omega
      have hmn : ys.length ≤ xs.length := by
        by_cases e : ys.length ≤ xs.length
        · exact e
        · exfalso
          have h3 : val xs < val ys := val_lt_of h.wd g.wd (ys.length - 1) (by
            have t := sz_top ys (by rw [t2]; omega)
            have b := g.wd.at (ys.length - 1)
            rw [t2] at t
            rw [List.getElem?_eq_none (by omega)]
            show (0 : Int) < _
            omega) (fun j hj => by rw [List.getElem?_eq_none (by omega), List.getElem?_eq_none (by omega)])
          omega
      have HLE := hid (show val ys ≤ val xs by omega)
      clear hb c1 c2 hlt t1 t2
      have HS := hid h
      have HG := hid g
      go_enter Tryd.func61, Tryd.ntmps61
      go_wp2_with fail
      refine Calls.mono HC.out ?_
      rintro e w' ⟨rfl, rfl⟩
      go_wp2_with fail
      refine (compare_sl v u xs ys w h g (by omega) (by omega)).mono ?_
      rintro e w1 ⟨rfl, hbel⟩
      obtain ⟨a, cap, hva, hr⟩ := HS.out.later hbel
      obtain ⟨b, cap', hvb, gr⟩ := HG.out.later hbel
      clear h g
      rw [hva, hvb]
      go_wp2_with fail
      refine (difference_any _ _ _ xs _ _ _ ys _ hr gr (by omega) hmn HLE.out).mono ?_
      rintro e w2 ⟨N, us, rfl, hNl, ho, hwu, hv, hb2⟩
      have hN : N ≤ 1099511627776 := by omega
      go_wp2_with fail
      refine (told_any _ _ _ us _ ho hwu hN).mono ?_
      rintro e w3 ⟨v2, zs, code, rfl, ho2, ht2, rfl⟩
      rw [hv] at ht2
      go_wp2
      go_ret2
      exact ⟨_, zs, code, rfl, owns_base ho2 hbel.size, ht2, hbel.trans (hb2.mono hbel.size)⟩
  · have hne : (both xs ys != 0) = true := by simp [hb]
    have HT := hid (Tells.err (t := val xs - val ys) hb)
    rw [if_neg hb]
    clear hb
    go_enter Tryd.func61, Tryd.ntmps61
    go_wp2_with fail
    refine (checkBoth_sl v u xs ys w h g hn hm).mono ?_
    rintro e w' ⟨rfl, rfl⟩
    go_wp2
    go_ret2
    exact ⟨_, [], _, rfl, World.ownsRow_nil _ _ _ _, HT.out, Below.refl _ _⟩

/-- A trimmed number that is not 0 is at least the power at its last word. -/
theorem val_ge {xs : List Int} (hw : Wd xs) (ht : Trimmed xs) (h0 : 0 < xs.length) : (4294967296 : Int) ^ (xs.length - 1) ≤ val xs := by
  have t := sz_top xs (by rw [ht]; exact h0)
  rw [ht] at t
  have b := hw.at (xs.length - 1)
  obtain ⟨m, hm⟩ : ∃ m, xs.length = m + 1 := ⟨xs.length - 1, by omega⟩
  rw [hm, Nat.add_sub_cancel] at t b ⊢
  have e : val xs = valTo xs (m + 1) := by rw [← hm]; rfl
  rw [e, valTo_succ]
  have b2 := (valTo_bounds hw m).1
  have h2 : 1 * (4294967296 : Int) ^ m ≤ xs[m]?.getD 0 * 4294967296 ^ m := Int.mul_le_mul_of_nonneg_right (by omega) (Int.le_of_lt (pw_pos m))
  omega

end Go.Proofs.YtbcangblmadnpacDoor
