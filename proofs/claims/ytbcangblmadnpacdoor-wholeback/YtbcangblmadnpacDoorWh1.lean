/- Whole numbers, a sign and words: whole.Check, checkBoth, formed, told, Of, Int64; slackwaterkit.SameWhole: of every number whose words can be read. -/
import Derived.Test.YtbcangblmadnpacDoorBox
import Derived.Test.YtbcangblmadnpacDoorOf
import Derived.Handy
namespace Go.Proofs.YtbcangblmadnpacDoor
open Go.RowKit
set_option linter.unusedVariables false

/-- What whole.Check tells. -/
def wchk (n : Bool) (xs : List Int) : Int := if 2048 < xs.length then 3 else if chk xs = 0 ∧ (n = false ∨ 0 < xs.length) then 0 else 11
/-- The number that a sign and words are. -/
def wval (n : Bool) (xs : List Int) : Int := if n then -(val xs) else val xs
theorem wchk_ok {n : Bool} {xs : List Int} (h : wchk n xs = 0) : xs.length ≤ 2048 ∧ Trimmed xs ∧ (n = false ∨ 0 < xs.length) := by
  unfold wchk at h
  by_cases h1 : 2048 < xs.length
  · rw [if_pos h1] at h; omega
  · rw [if_neg h1] at h
    by_cases h2 : chk xs = 0 ∧ (n = false ∨ 0 < xs.length)
    · exact ⟨by omega, (chk_ok h2.1).2, h2.2⟩
    · rw [if_neg h2] at h; omega
theorem wchk_good {n : Bool} {xs : List Int} (hl : xs.length ≤ 2048) (ht : Trimmed xs) (hn : n = false ∨ 0 < xs.length) : wchk n xs = 0 := by
  unfold wchk
  rw [if_neg (by omega), if_pos ⟨chk_good (by omega) ht, hn⟩]

set_option maxHeartbeats 800000 in
set_option maxRecDepth 100000 in
theorem wcheck_any (n : Bool) (v : Value) (xs : List Int) (w : World) (h : Sl w v xs) (hn : xs.length ≤ 281474976710656) :
    Calls Tryd.prog 22 #[.agg #[.bool n, v]] w fun e w' => e = .returned (.int .i64 (wchk n xs)) ∧ Below w.heap.size w w' := by
  have HB := hid (alloc_later w (.cells #[.bool n, v] 24))
  have HC := hid (check_sl v xs _ (h.later HB.out) hn)
  obtain ⟨a, cap, rfl, hr⟩ := h
  clear hr
  obtain ⟨k, hk⟩ : ∃ k, xs.length = k := ⟨_, rfl⟩
  by_cases h1 : 2048 < k
  · have HW : Hid (wchk n xs = 3) := by show _ = _; unfold wchk; rw [if_pos (by omega)]
    rw [hk] at HB HC ⊢
    have h1' : (2048 : Int) < (k : Int) := by omega
    clear hk
    go_enter Tryd.func22, Tryd.ntmps22
    go_wp2_with fail
    go_ret
    exact ⟨ret_int HW.out.symm, HB.out⟩
  · have h1' : ¬ (2048 : Int) < (k : Int) := by omega
    by_cases h2 : chk xs = 0
    · rw [h2] at HC
      cases n with
      | false =>
        have HW : Hid (wchk false xs = 0) := by show _ = _; unfold wchk; rw [if_neg (by omega), if_pos ⟨h2, .inl rfl⟩]
        rw [hk] at HB HC ⊢
        clear hk h2
        go_enter Tryd.func22, Tryd.ntmps22
        go_wp2_with fail
        refine Calls.mono HC.out ?_
        rintro e w' ⟨rfl, rfl⟩
        go_wp2_with fail
        go_ret
        exact ⟨ret_int HW.out.symm, HB.out⟩
      | true =>
        rcases Nat.eq_zero_or_pos k with h3 | h3
        · have HW : Hid (wchk true xs = 11) := by
            show _ = _
            unfold wchk
            rw [if_neg (by omega), if_neg (fun h => h.2.elim (fun e => by cases e) (fun e => by omega))]
          rw [hk] at HB HC ⊢
          clear hk h2
          subst h3
          go_enter Tryd.func22, Tryd.ntmps22
          go_wp2_with fail
          refine Calls.mono HC.out ?_
          rintro e w' ⟨rfl, rfl⟩
          go_wp2_with fail
          go_ret
          exact ⟨ret_int HW.out.symm, HB.out⟩
        · have HW : Hid (wchk true xs = 0) := by show _ = _; unfold wchk; rw [if_neg (by omega), if_pos ⟨h2, .inr (by omega)⟩]
          rw [hk] at HB HC ⊢
          have h3' : ((k : Int) == 0) = false := by simp; omega
          clear hk h2
          go_enter Tryd.func22, Tryd.ntmps22
          go_wp2_with fail
          refine Calls.mono HC.out ?_
          rintro e w' ⟨rfl, rfl⟩
          go_wp2_with fail
          go_ret
          exact ⟨ret_int HW.out.symm, HB.out⟩
    · have HW : Hid (wchk n xs = 11) := by show _ = _; unfold wchk; rw [if_neg (by omega), if_neg (fun h => h2 h.1)]
      have hne : (chk xs != 0) = true := by simp [h2]
      obtain ⟨c, hc⟩ : ∃ c, chk xs = c := ⟨_, rfl⟩
      rw [hc] at HC hne
      rw [hk] at HB HC ⊢
      clear hk h2 hc
      go_enter Tryd.func22, Tryd.ntmps22
      go_wp2_with fail
      refine Calls.mono HC.out ?_
      rintro e w' ⟨rfl, rfl⟩
      go_wp2_with fail
      go_ret
      exact ⟨ret_int HW.out.symm, HB.out⟩

/-- What checkBoth tells. -/
def wboth (n : Bool) (xs : List Int) (m : Bool) (ys : List Int) : Int := if wchk n xs = 0 then wchk m ys else wchk n xs
theorem wboth_good {n m : Bool} {xs ys : List Int} (h : wchk n xs = 0) (g : wchk m ys = 0) : wboth n xs m ys = 0 := by unfold wboth; rw [if_pos h, g]
theorem wboth_ok {n m : Bool} {xs ys : List Int} (h : wboth n xs m ys = 0) : wchk n xs = 0 ∧ wchk m ys = 0 := by
  unfold wboth at h
  by_cases c : wchk n xs = 0
  · rw [if_pos c] at h; exact ⟨c, h⟩
  · rw [if_neg c] at h; exact absurd h c

set_option maxHeartbeats 800000 in
set_option maxRecDepth 100000 in
theorem wcheckBoth_any (n : Bool) (v : Value) (xs : List Int) (m : Bool) (u : Value) (ys : List Int) (w : World) (h : Sl w v xs) (g : Sl w u ys) (hn : xs.length ≤ 281474976710656) (hm : ys.length ≤ 281474976710656) :
    Calls Tryd.prog 37 #[.agg #[.bool n, v], .agg #[.bool m, u]] w fun e w' => e = .returned (.int .i64 (wboth n xs m ys)) ∧ Below w.heap.size w w' := by
  have hb : Below w.heap.size w ((w.alloc (.cells #[.bool n, v] 24)).alloc (.cells #[.bool m, u] 24)) := bt (alloc_later _ _) (alloc_later _ _)
  have HB := hid hb
  have H1 := hid (wcheck_any n v xs _ (h.later hb) hn)
  have H2 := hid (fun w1 (hb1 : Below _ ((w.alloc (.cells #[.bool n, v] 24)).alloc (.cells #[.bool m, u] 24)) w1) => wcheck_any m u ys w1 ((g.later hb).later hb1) hm)
  have hs : ∀ w1, Below ((w.alloc (.cells #[.bool n, v] 24)).alloc (.cells #[.bool m, u] 24)).heap.size ((w.alloc (.cells #[.bool n, v] 24)).alloc (.cells #[.bool m, u] 24)) w1 → w1.cell? ⟨w.heap.size + 1, 0, none⟩ = some (.bool m) ∧ w1.cell? ⟨w.heap.size + 1, 1, none⟩ = some u := fun w1 hb1 => by
    have e1 := hb1.cell (p := ⟨w.heap.size + 1, 0, none⟩) (by simp)
    have e2 := hb1.cell (p := ⟨w.heap.size + 1, 1, none⟩) (by simp)
    rw [e1, e2]
    simp [go_sem]
  have HS := hid hs
  obtain ⟨a, cap, rfl, hr⟩ := h
  obtain ⟨b, cap', rfl, gr⟩ := g
  clear hs hb hr gr
  by_cases h1 : wchk n xs = 0
  · have HW : Hid (wboth n xs m ys = wchk m ys) := by show _ = _; unfold wboth; rw [if_pos h1]
    rw [h1] at H1
    clear h1
    go_enter Tryd.func37, Tryd.ntmps37
    go_wp2_with fail
    refine Calls.mono H1.out ?_
    rintro e w1 ⟨rfl, hb1⟩
    obtain ⟨c0, c1⟩ := HS.out w1 hb1
    have HC := hid (H2.out w1 hb1)
    have hbA := bt HB.out hb1
    clear hb1
    go_wp2_with fail
    refine Calls.mono HC.out ?_
    rintro e w2 ⟨rfl, hb2⟩
    have hbB := bt hbA hb2
    clear hb2
    go_wp2_with fail
    go_ret
    exact ⟨ret_int HW.out.symm, hbB⟩
  · have HW : Hid (wboth n xs m ys = wchk n xs) := by show _ = _; unfold wboth; rw [if_neg h1]
    have hne : (wchk n xs != 0) = true := by simp [h1]
    obtain ⟨c, hc⟩ : ∃ c, wchk n xs = c := ⟨_, rfl⟩
    rw [hc] at H1 HW hne
    clear hc h1
    go_enter Tryd.func37, Tryd.ntmps37
    go_wp2_with fail
    refine Calls.mono H1.out ?_
    rintro e w1 ⟨rfl, hb1⟩
    have hbA := bt HB.out hb1
    clear hb1
    go_wp2_with fail
    go_ret
    exact ⟨ret_int HW.out.symm, hbA⟩

set_option maxHeartbeats 800000 in
set_option maxRecDepth 100000 in
theorem formed_any (n : Bool) (a : Option Addr) (k cap : Nat) (w : World) :
    Calls Tryd.prog 41 #[.bool n, .slice a k cap] w fun e w' => e = .returned (.agg #[.bool (n && decide (0 < k)), .slice a k cap]) ∧ Below w.heap.size w w' := by
  have HB := hid (alloc_later w (.cells #[.bool (n && decide (0 < k)), .slice a k cap] 24))
  cases n with
  | false =>
    go_enter Tryd.func41, Tryd.ntmps41
    go_wp2_with fail
    go_returns
    exact ⟨rfl, HB.out⟩
  | true =>
    by_cases hk : 0 < k
    · have hk' : (0 : Int) < (k : Int) := by omega
      have hd : decide (0 < k) = true := decide_eq_true hk
      rw [hd] at HB ⊢
      clear hd
      go_enter Tryd.func41, Tryd.ntmps41
      go_wp2_with fail
      go_returns
      exact ⟨rfl, HB.out⟩
    · obtain rfl : k = 0 := by omega
      go_enter Tryd.func41, Tryd.ntmps41
      go_wp2_with fail
      go_returns
      exact ⟨rfl, HB.out⟩
end Go.Proofs.YtbcangblmadnpacDoor
