/- What the law NatKnown wants besides: closed answers of the calls. -/
import Derived.Test.YtbcangblmadnpabDoorDividesA
import Derived.Test.YtbcangblmadnpabDoorParse3
import Derived.Test.YtbcangblmadnpabDoorHelp
namespace Go.Proofs.YtbcangblmadnpabDoor
open Go.RowKit
set_option linter.unusedVariables false

/-- These words and this error, the words read. -/
def Got (w : World) (zs : List Int) (code : Int) (x : Ending) (w' : World) : Prop := ∃ a c, x = .returned (.tuple #[.slice a zs.length c, .int .i64 code]) ∧ Sl w' (.slice a zs.length c) zs ∧ Below w.heap.size w w'
theorem Told.got {w w' : World} {t : Int} {x : Ending} (h : Told w 0 t x w') (zs : List Int) (wz : Wd zs) (tz : Trimmed zs) (hl : zs.length ≤ 8192) (hv : val zs = t) : Got w zs 0 x w' := by
  obtain ⟨v, us, code, rfl, ho, ht, hb⟩ := h
  have hlt : t < wide := by rw [← hv]; exact lt_wide (val_lt wz) hl
  obtain ⟨rfl, hu⟩ := ht.good rfl hlt
  have e : us = zs := trimmed_eq ht.wd wz ht.trim tz (hu.trans hv.symm)
  subst e
  obtain ⟨a, c, hs⟩ := own_slice' ho
  subst hs
  exact ⟨a, c, rfl, Sl.own ho wz, hb⟩
theorem Told.errs {w w' : World} {e t : Int} {x : Ending} (h : Told w e t x w') (he : e ≠ 0) : Got w [] e x w' := by
  obtain ⟨v, us, code, rfl, ho, ht, hb⟩ := h
  obtain ⟨rfl, rfl⟩ := ht.bad he
  obtain ⟨a, c, hs⟩ := own_slice' ho
  subst hs
  exact ⟨a, c, rfl, Sl.own ho Wd.nil, hb⟩
theorem Told.longs {w w' : World} {t : Int} {x : Ending} (h : Told w 0 t x w') (hl : wide ≤ t) : Got w [] 3 x w' := by
  obtain ⟨v, us, code, rfl, ho, ht, hb⟩ := h
  obtain ⟨rfl, rfl⟩ := ht.long rfl hl
  obtain ⟨a, c, hs⟩ := own_slice' ho
  subst hs
  exact ⟨a, c, rfl, Sl.own ho Wd.nil, hb⟩
theorem wide_two (n : Nat) (h : 262144 ≤ n) : wide ≤ 2 ^ n := by
  unfold wide
  rw [pw_two]
  exact two_le (by omega)
/-- The widest power of two. -/
def GotWide (w : World) (t : Int) (x : Ending) (w' : World) : Prop := ∃ a c zs, x = .returned (.tuple #[.slice a 8192 c, .int .i64 0]) ∧ Sl w' (.slice a 8192 c) zs ∧ Hid (zs.length = 8192 ∧ Trimmed zs ∧ val zs = t) ∧ Below w.heap.size w w'
theorem Told.wides {w w' : World} {n : Nat} {x : Ending} (h : Told w 0 (2 ^ n) x w') (h1 : 262112 ≤ n) (h2 : n < 262144) : GotWide w (2 ^ n) x w' := by
  obtain ⟨v, us, code, rfl, ho, ht, hb⟩ := h
  have hlt : (2 : Int) ^ n < wide := by
    unfold wide
    rw [pw_two]
    have e : (2 : Int) ^ (n + 1) ≤ 2 ^ (32 * 8192) := two_le (by omega)
    rw [Int.pow_succ] at e
    have := two_pos n
    exact Int.lt_of_lt_of_le (by omega) e
  obtain ⟨rfl, hu⟩ := ht.good rfl hlt
  obtain ⟨a, c, hs⟩ := own_slice' ho
  subst hs
  have l1 : us.length ≤ 8192 := len_of_lt ht.wd ht.trim (by rw [hu]; exact hlt)
  have l2 : ¬ us.length ≤ 8191 := fun hle => by
    have e1 := val_lt ht.wd
    have e2 : (4294967296 : Int) ^ us.length ≤ 4294967296 ^ 8191 := pw_le hle
    have e3 : (4294967296 : Int) ^ 8191 ≤ 2 ^ n := by rw [pw_two]; exact two_le (by omega)
    rw [hu] at e1
    exact absurd (Int.lt_of_lt_of_le e1 (Int.le_trans e2 e3)) (Int.lt_irrefl _)
  have l3 : us.length = 8192 := by omega
  have s := Sl.own ho ht.wd
  rw [l3] at s ⊢
  exact ⟨a, c, us, rfl, s, ⟨l3, ht.trim, hu⟩, hb⟩

set_option maxHeartbeats 800000 in
set_option maxRecDepth 100000 in
theorem shift_arg (v : Value) (xs : List Int) (n : Int) (w : World) (h : Sl w v xs) (hl : xs.length ≤ 8192) (hx : Trimmed xs) (hn : 262144 < n) (hn2 : n ≤ 1099511627776) :
    Calls Tryd.prog 17 #[v, .int .i64 n] w (Got w [] 2) := by
  have HC := hid (check_sl v xs w h (by omega))
  rw [chk_good hl hx] at HC
  obtain ⟨a, cap, rfl, hr⟩ := h
  clear hr
  go_enter Tryd.func17, Tryd.ntmps17
  go_wp2_with fail
  refine Calls.mono HC.out ?_
  rintro e w' ⟨rfl, rfl⟩
  go_wp2_with fail
  go_ret2
  exact ⟨none, 0, rfl, ⟨none, 0, rfl, rfl, Wd.nil, .inl rfl, Nat.le_refl _, Nat.zero_le _, fun _ => rfl⟩, Below.refl _ _⟩
theorem sl_nil (w : World) : Sl w (.slice none 0 0) [] := ⟨none, 0, rfl, rfl, Wd.nil, .inl rfl, Nat.le_refl _, Nat.zero_le _, fun _ => rfl⟩
theorem pErr_no (s : ByteArray) (hs : s.size ≤ 65536) (h : ¬ IsNum s.data.toList) : pErr s = 110 := by unfold pErr; rw [if_neg (by omega), if_neg h]
theorem pErr_yes (s : ByteArray) (hs : s.size ≤ 65536) (h : IsNum s.data.toList) : pErr s = 0 := by unfold pErr; rw [if_neg (by omega), if_pos h]
end Go.Proofs.YtbcangblmadnpabDoor
