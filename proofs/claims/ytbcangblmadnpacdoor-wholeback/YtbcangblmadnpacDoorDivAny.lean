/- nat.divide, nat.DivMod: of every two numbers quotient and rest, in new memory; nat.Shift by any number. -/
import Derived.Test.YtbcangblmadnpacDoorLong6
import Derived.Test.YtbcangblmadnpacDoorHelp0
namespace Go.Proofs.YtbcangblmadnpacDoor
open Go.RowKit
set_option linter.unusedVariables false

theorem len_le_of_val {xs ys : List Int} (wx : Wd xs) (wy : Wd ys) (ty : Trimmed ys) (h : val ys ≤ val xs) : ys.length ≤ xs.length := len_of_lt wy ty (by have := val_lt wx; omega)

set_option maxHeartbeats 800000 in
set_option maxRecDepth 100000 in
theorem divide_long (v u : Value) (xs ys : List Int) (e : Nat) (w : World) (h : Sl w v xs) (g : Sl w u ys) (hn : xs.length ≤ 8192) (hx : Trimmed xs) (hy : Trimmed ys) (hl : ys.length = e + 2) (hge : val ys ≤ val xs) :
    Calls Tryd.prog 77 #[v, u] w (Divided w xs ys) := by
  have hle := len_le_of_val h.wd g.wd hy hge
  have hci : 0 ≤ cmpI (val xs) (val ys) := by unfold cmpI; rw [if_neg (by omega)]; split <;> omega
  have CC := hid (compare_sl v u xs ys w h g (by omega) (by omega))
  obtain ⟨c, hc⟩ : ∃ c, cmpI (val xs) (val ys) = c := ⟨_, rfl⟩
  rw [hc] at CC hci
  have HD : Hid (∀ w1, Below w.heap.size w w1 → Calls Tryd.prog 87 #[v, u] w1 (Divided w1 xs ys)) := fun w1 hb => divideLong_any v u xs ys e w1 (h.later hb) (g.later hb) hn hx hy hl hle
  obtain ⟨b, cap', rfl, gr⟩ := g
  have h1 : ((ys.length : Int) == 1) = false := by simp; omega
  clear hc gr h hl hge
  go_enter Tryd.func77, Tryd.ntmps77
  go_wp2_with fail
  refine Calls.mono CC.out ?_
  rintro x w1 ⟨rfl, hb1⟩
  have HDD := hid (HD.out w1 hb1)
  have hs1 := hb1.size
  go_wp2_with fail
  refine Calls.mono HDD.out ?_
  rintro x w2 ⟨v1, u1, q, r, c, rfl, oq, orr, lq, lr, c1, c2, wq, wr, tq, tr, hv, hlt, hb2⟩
  have HF : Hid (Divided w xs ys (.returned (.tuple #[v1, u1])) w2) := ⟨v1, u1, q, r, c, rfl, owns_base oq hs1, owns_base orr hs1, fun g hg => by have := lq g hg; omega, lr, by omega, c2, wq, wr, tq, tr, hv, hlt, hb1.trans (hb2.mono hs1)⟩
  clear oq orr hv hlt hb2 HDD
  go_wp2_with fail
  go_ret2
  exact HF.out

theorem divide_any (v u : Value) (xs ys : List Int) (w : World) (h : Sl w v xs) (g : Sl w u ys) (hn : xs.length ≤ 8192) (hm : ys.length ≤ 8192) (hx : Trimmed xs) (hy : Trimmed ys) (h0 : 0 < ys.length) :
    Calls Tryd.prog 77 #[v, u] w (Divided w xs ys) := by
  by_cases hlt : val xs < val ys
  · exact divide_less v u xs ys w h g hn hm hlt
  · by_cases h1 : ys.length = 1
    · obtain ⟨y, rfl⟩ := List.length_eq_one_iff.1 h1
      have hy1 : 1 ≤ y := by
        have b := g.wd.head
        by_cases c : y = 0
        · rw [c] at hy; simp [Trimmed, sz, szTo] at hy
        · omega
      exact divide_word v u xs y w h g hn hx hy1 (by rw [val_one] at hlt; omega)
    · exact divide_long v u xs ys (ys.length - 2) w h g hn hx hy (by omega) (by omega)

set_option maxHeartbeats 800000 in
set_option maxRecDepth 100000 in
theorem divMod_any (v u : Value) (xs ys : List Int) (w : World) (h : Sl w v xs) (g : Sl w u ys) (lx : xs.length ≤ 8192) (ly : ys.length ≤ 8192) (tx : Trimmed xs) (ty : Trimmed ys) (h0 : 0 < ys.length) :
    Calls Tryd.prog 60 #[v, u] w fun e w' => ∃ v1 u1 q r, e = .returned (.tuple #[v1, u1, .int .i64 0]) ∧ Sl w' v1 q ∧ Sl w' u1 r ∧ Trimmed q ∧ Trimmed r ∧ val xs = val q * val ys + val r ∧ val r < val ys ∧ Below w.heap.size w w' := by
  have HB := hid (checkBoth_sl v u xs ys w h g (by omega) (by omega))
  rw [both_good (chk_good lx tx) (chk_good ly ty)] at HB
  have HD : Hid (Calls Tryd.prog 77 #[v, u] w (Divided w xs ys)) := divide_any v u xs ys w h g lx ly tx ty h0
  obtain ⟨b, cap', rfl, gr⟩ := g
  have hz : ((ys.length : Int) == 0) = false := by simp; exact fun e => by rw [e] at h0; simp at h0
  clear gr h ty
  go_enter Tryd.func60, Tryd.ntmps60
  go_wp2_with fail
  refine Calls.mono HB.out ?_
  rintro e w' ⟨rfl, rfl⟩
  go_wp2_with fail
  refine Calls.mono HD.out ?_
  rintro e w1 ⟨v1, u1, q, r, c, rfl, oq, orr, _, _, _, _, wq, wr, tq, tr, hv, hlt, hbel⟩
  have HQ := hid (Sl.own oq wq)
  have HR := hid (Sl.own orr wr)
  have HV := hid hv
  have HLT := hid hlt
  clear oq orr hv hlt
  go_wp2
  go_ret3
  exact ⟨v1, u1, q, r, rfl, HQ.out, HR.out, tq, tr, HV.out, HLT.out, hbel⟩

theorem bits_is {xs : List Int} (hw : Wd xs) (b : Nat) (h1 : 1 ≤ b) (h2 : (2 : Int) ^ (b - 1) ≤ val xs) (h3 : val xs < 2 ^ b) : bitsOf xs = b := by
  have hp : 0 < sz xs := by
    by_cases c : sz xs = 0
    · have := two_pos (b - 1)
      rw [val_sz, c] at h2
      have : valTo xs 0 = 0 := rfl
      omega
    · omega
  obtain ⟨b1, b2, b3, _, _⟩ := bits_bounds hw hp
  rcases Nat.lt_trichotomy (bitsOf xs) b with h | h | h
  · have := two_le (t := bitsOf xs) (u := b - 1) (by omega); omega
  · exact h
  · have := two_le (t := b) (u := bitsOf xs - 1) (by omega); omega
end Go.Proofs.YtbcangblmadnpacDoor
