/- Whole numbers: whole.Int64, slackwaterkit.SameWhole, slackwaterlaw02.of, slackwaterlaw02.is: of every number whose words can be read. -/
import Derived.Test.YtbcangblmadnpacDoorWh2
namespace Go.Proofs.YtbcangblmadnpacDoor
open Go.RowKit
set_option linter.unusedVariables false

theorem u64of_bounds {xs : List Int} (hw : Wd xs) : 0 ≤ u64of xs ∧ u64of xs ≤ 18446744073709551615 := by
  unfold u64of
  by_cases h : sz xs ≤ 2
  · rw [if_pos h]
    have h1 := val_lt hw.trimmed
    rw [length_trimmed, val_trimmed] at h1
    have h2 : (4294967296 : Int) ^ sz xs ≤ 4294967296 ^ 2 := pw_le h
    have h3 := val_nonneg hw
    omega
  · rw [if_neg h]; omega
theorem big_val {xs : List Int} (hw : Wd xs) (h : 2 < sz xs) : 18446744073709551616 ≤ val xs := by
  have h1 := val_ge hw.trimmed (Trimmed.trimmed xs) (by rw [length_trimmed]; omega)
  rw [length_trimmed, val_trimmed] at h1
  have h2 : (4294967296 : Int) ^ 2 ≤ 4294967296 ^ (sz xs - 1) := pw_le (by omega)
  omega
theorem i64of_no {n : Bool} {xs : List Int} (h : ¬ (wchk n xs = 0 ∧ -9223372036854775808 ≤ wval n xs ∧ wval n xs ≤ 9223372036854775807)) : i64of n xs = (0, false) := by unfold i64of; rw [if_neg h]
theorem i64of_yes {n : Bool} {xs : List Int} (h : wchk n xs = 0 ∧ -9223372036854775808 ≤ wval n xs ∧ wval n xs ≤ 9223372036854775807) : i64of n xs = (wval n xs, true) := by unfold i64of; rw [if_pos h]
theorem ret_i64 {a : Int} {p : Bool} {r : Int × Bool} (h : r = (a, p)) : Ending.returned (.tuple #[.int .i64 a, .bool p]) = .returned (.tuple #[.int .i64 r.1, .bool r.2]) := by rw [h]

set_option maxHeartbeats 1600000 in
set_option maxRecDepth 100000 in
theorem wint64_any (n : Bool) (v : Value) (xs : List Int) (w : World) (h : Sl w v xs) (hn : xs.length ≤ 281474976710656) :
    Calls Tryd.prog 43 #[.agg #[.bool n, v]] w fun e w' => e = .returned (.tuple #[.int .i64 (i64of n xs).1, .bool (i64of n xs).2]) ∧ Below w.heap.size w w' := by
  have wx := h.wd
  have HB := hid (alloc_later w (.cells #[.bool n, v] 24))
  have HBX := hid (Box.made w 24 #[.bool n, v])
  have HU := hid (uint64_sl v xs _ (h.later HB.out) hn)
  have HC := hid (fun w1 hb => wcheck_any n v xs w1 ((h.later HB.out).later hb) hn)
  have bu := u64of_bounds wx
  obtain ⟨a, cap, rfl, hr⟩ := h
  clear hr
  by_cases h1 : wchk n xs = 0
  · rw [h1] at HC
    by_cases h2 : sz xs ≤ 2
    · have hu : u64of xs = val xs := by unfold u64of; rw [if_pos h2]
      rw [decide_eq_true h2] at HU
      rw [hu] at HU bu
      obtain ⟨u, hv⟩ : ∃ u, val xs = u := ⟨_, rfl⟩
      rw [hv] at HU bu
      cases n with
      | false =>
        by_cases h3 : u ≤ 9223372036854775807
        · have HR := hid (i64of_yes (n := false) (xs := xs) ⟨h1, by show _ ≤ val xs; omega, by show val xs ≤ _; omega⟩)
          have HV : Hid (wval false xs = u) := hv
          rw [HV.out] at HR
          clear hv hu h1 h2
          go_enter Tryd.func43, Tryd.ntmps43
          go_wp2_with fail
          refine Calls.mono HU.out ?_
          rintro e w1 ⟨rfl, hb1⟩
          obtain ⟨r0, r1, f0, f1⟩ := res_box HBX.out hb1
          have HC1 := hid (HC.out w1 hb1)
          go_wp2_with fail
          refine Calls.mono HC1.out ?_
          rintro e w2 ⟨rfl, hb2⟩
          obtain ⟨s0, s1, g0, g1⟩ := res_box HBX.out (bt hb1 hb2)
          have hbA := bt HB.out (bt hb1 hb2)
          clear hb1 hb2 r0 r1 f0 f1
          go_wp2_with fail
          go_ret2
          exact ⟨ret_i64 HR.out, hbA⟩
        · have HR := hid (i64of_no (n := false) (xs := xs) (fun h => by have e : val xs ≤ 9223372036854775807 := h.2.2; omega))
          clear hv hu h1 h2
          go_enter Tryd.func43, Tryd.ntmps43
          go_wp2_with fail
          refine Calls.mono HU.out ?_
          rintro e w1 ⟨rfl, hb1⟩
          obtain ⟨r0, r1, f0, f1⟩ := res_box HBX.out hb1
          have HC1 := hid (HC.out w1 hb1)
          go_wp2_with fail
          refine Calls.mono HC1.out ?_
          rintro e w2 ⟨rfl, hb2⟩
          obtain ⟨s0, s1, g0, g1⟩ := res_box HBX.out (bt hb1 hb2)
          have hbA := bt HB.out (bt hb1 hb2)
          clear hb1 hb2 r0 r1 f0 f1
          go_wp2_with fail
          go_ret2
          exact ⟨ret_i64 HR.out, hbA⟩
      | true =>
        by_cases h3 : u ≤ 9223372036854775808
        · have HR := hid (i64of_yes (n := true) (xs := xs) ⟨h1, by show _ ≤ -(val xs); omega, by show -(val xs) ≤ _; omega⟩)
          have HV : Hid (wval true xs = -u) := by show -(val xs) = -u; rw [hv]
          rw [HV.out] at HR
          obtain ⟨m, hm⟩ : ∃ m, IntKind.u64.wrap (-u) = m := ⟨_, rfl⟩
          have hm2 : IntKind.i64.wrap m = -u := by rw [← hm, IntKind.wrap_u64, IntKind.wrap_i64]; omega
          have hm3 : 0 ≤ m ∧ m ≤ 18446744073709551615 := by rw [← hm, IntKind.wrap_u64]; omega
          clear hv hu h1 h2
          go_enter Tryd.func43, Tryd.ntmps43
          go_wp2_with fail
          refine Calls.mono HU.out ?_
          rintro e w1 ⟨rfl, hb1⟩
          obtain ⟨r0, r1, f0, f1⟩ := res_box HBX.out hb1
          have HC1 := hid (HC.out w1 hb1)
          go_wp2_with fail
          refine Calls.mono HC1.out ?_
          rintro e w2 ⟨rfl, hb2⟩
          obtain ⟨s0, s1, g0, g1⟩ := res_box HBX.out (bt hb1 hb2)
          have hbA := bt HB.out (bt hb1 hb2)
          clear hb1 hb2 r0 r1 f0 f1
          go_wp2_with fail
          go_ret2
          exact ⟨ret_i64 HR.out, hbA⟩
        · have HR := hid (i64of_no (n := true) (xs := xs) (fun h => by have e : -9223372036854775808 ≤ -(val xs) := h.2.1; omega))
          clear hv hu h1 h2
          go_enter Tryd.func43, Tryd.ntmps43
          go_wp2_with fail
          refine Calls.mono HU.out ?_
          rintro e w1 ⟨rfl, hb1⟩
          obtain ⟨r0, r1, f0, f1⟩ := res_box HBX.out hb1
          have HC1 := hid (HC.out w1 hb1)
          go_wp2_with fail
          refine Calls.mono HC1.out ?_
          rintro e w2 ⟨rfl, hb2⟩
          obtain ⟨s0, s1, g0, g1⟩ := res_box HBX.out (bt hb1 hb2)
          have hbA := bt HB.out (bt hb1 hb2)
          clear hb1 hb2 r0 r1 f0 f1
          go_wp2_with fail
          go_ret2
          exact ⟨ret_i64 HR.out, hbA⟩
    · rw [decide_eq_false h2] at HU
      have hbv := big_val wx (by omega)
      have HR := hid (i64of_no (n := n) (xs := xs) (fun h => by
        cases n with
        | false => have e : val xs ≤ 9223372036854775807 := h.2.2; omega
        | true => have e : -9223372036854775808 ≤ -(val xs) := h.2.1; omega))
      obtain ⟨u, hv⟩ : ∃ u, u64of xs = u := ⟨_, rfl⟩
      rw [hv] at HU bu
      clear hv h1 h2 hbv
      go_enter Tryd.func43, Tryd.ntmps43
      go_wp2_with fail
      refine Calls.mono HU.out ?_
      rintro e w1 ⟨rfl, hb1⟩
      obtain ⟨r0, r1, f0, f1⟩ := res_box HBX.out hb1
      have HC1 := hid (HC.out w1 hb1)
      go_wp2_with fail
      refine Calls.mono HC1.out ?_
      rintro e w2 ⟨rfl, hb2⟩
      obtain ⟨s0, s1, g0, g1⟩ := res_box HBX.out (bt hb1 hb2)
      have hbA := bt HB.out (bt hb1 hb2)
      clear hb1 hb2 r0 r1 f0 f1
      go_wp2_with fail
      go_ret2
      exact ⟨ret_i64 HR.out, hbA⟩
  · have HR := hid (i64of_no (n := n) (xs := xs) (fun h => h1 h.1))
    have hne : (wchk n xs != 0) = true := by simp [h1]
    obtain ⟨c, hc⟩ : ∃ c, wchk n xs = c := ⟨_, rfl⟩
    rw [hc] at HC hne
    obtain ⟨u, hv⟩ : ∃ u, u64of xs = u := ⟨_, rfl⟩
    rw [hv] at HU bu
    obtain ⟨q, hq⟩ : ∃ q, decide (sz xs ≤ 2) = q := ⟨_, rfl⟩
    rw [hq] at HU
    clear hv hq hc h1
    go_enter Tryd.func43, Tryd.ntmps43
    go_wp2_with fail
    refine Calls.mono HU.out ?_
    rintro e w1 ⟨rfl, hb1⟩
    obtain ⟨r0, r1, f0, f1⟩ := res_box HBX.out hb1
    have HC1 := hid (HC.out w1 hb1)
    go_wp2_with fail
    refine Calls.mono HC1.out ?_
    rintro e w2 ⟨rfl, hb2⟩
    obtain ⟨s0, s1, g0, g1⟩ := res_box HBX.out (bt hb1 hb2)
    have hbA := bt HB.out (bt hb1 hb2)
    clear hb1 hb2 r0 r1 f0 f1
    go_wp2_with fail
    go_ret2
    exact ⟨ret_i64 HR.out, hbA⟩

set_option maxHeartbeats 800000 in
set_option maxRecDepth 100000 in
theorem sameWhole_any (n : Bool) (v : Value) (xs : List Int) (m : Bool) (u : Value) (ys : List Int) (w : World) (h : Sl w v xs) (g : Sl w u ys) (hn : xs.length ≤ 281474976710656) (hm : ys.length ≤ 281474976710656) :
    Calls Tryd.prog 16 #[.agg #[.bool n, v], .agg #[.bool m, u]] w fun e w' => e = .returned (.bool (decide (n = m ∧ xs = ys))) ∧ Below w.heap.size w w' := by
  have hb : Below w.heap.size w ((w.alloc (.cells #[.bool n, v] 24)).alloc (.cells #[.bool m, u] 24)) := bt (alloc_later _ _) (alloc_later _ _)
  have HB := hid hb
  have HS := hid (same_sl v u xs ys _ (h.later hb) (g.later hb) hn hm)
  obtain ⟨a, cap, rfl, hr⟩ := h
  obtain ⟨b, cap', rfl, gr⟩ := g
  clear hb hr gr
  by_cases hnm : n = m
  · subst hnm
    have HR : Hid (decide (n = n ∧ xs = ys) = decide (xs = ys)) := by show _ = _; simp
    have hbb : (n == n) = true := by simp
    go_enter Tryd.func16, Tryd.ntmps16
    go_wp2_with fail
    refine Calls.mono HS.out ?_
    rintro e w1 ⟨rfl, hb1⟩
    have hbA := bt HB.out hb1
    clear hb1
    go_wp2_with fail
    go_ret
    exact ⟨ret_bool HR.out.symm, hbA⟩
  · have HR : Hid (decide (n = m ∧ xs = ys) = false) := decide_eq_false (fun h => hnm h.1)
    have hbb : (n == m) = false := by simp [hnm]
    clear hnm
    go_enter Tryd.func16, Tryd.ntmps16
    go_wp2_with fail
    go_ret
    exact ⟨ret_bool HR.out.symm, HB.out⟩

set_option maxHeartbeats 800000 in
set_option maxRecDepth 100000 in
theorem lawOf_any (x : Int) (w : World) (h0 : -9223372036854775808 ≤ x) (h1 : x ≤ 9223372036854775807) :
    Calls Tryd.prog 18 #[.int .i64 x] w (WIs w x) := by
  have HB := hid (alloc_later w (.cells #[.bool false, .slice none 0 0] 24))
  have HO := hid (wof_any x (w.alloc (.cells #[.bool false, .slice none 0 0] 24)) h0 h1)
  go_enter Tryd.func18, Tryd.ntmps18
  go_wp2_with fail
  refine Calls.mono HO.out ?_
  rintro e w1 ⟨n, v, zs, rfl, o1, wz, tz, lz, nz, hv, hb1⟩
  obtain ⟨a1, c1, hv1⟩ := own_slice' o1
  subst hv1
  obtain ⟨r0, r1, f0, f1⟩ := res_box (Box.made w _ _) hb1
  have HBW := hid (bt HB.out hb1)
  have HO1 := hid o1
  have HV := hid hv
  clear hb1 o1 hv HO
  go_wp2_with fail
  refine bodyPost_ret (v := .agg #[.bool n, .slice a1 zs.length c1]) (by simp [results, Tryd.results18, go_sem, r0, r1]) rfl ?_
  exact ⟨n, _, zs, rfl, owns_base (own_put2 HO1.out w.heap.size (fun g hg => by have := (World.ownsRow.lt HO1.out g hg).1; simp at this; omega) _ _) (by simp), wz, tz, lz, nz, HV.out, below_put2 HBW.out _ (Nat.le_refl _) _ _⟩

set_option maxHeartbeats 800000 in
set_option maxRecDepth 100000 in
theorem lawIs_any (n : Bool) (v : Value) (xs : List Int) (x : Int) (w : World) (h : Sl w v xs) (hn : xs.length ≤ 281474976710656) :
    Calls Tryd.prog 20 #[.agg #[.bool n, v], .int .i64 x] w fun e w' => e = .returned (.bool (decide (i64of n xs = (x, true)))) ∧ Below w.heap.size w w' := by
  have HB := hid (alloc_later w (.cells #[.bool n, v] 24))
  have HI := hid (wint64_any n v xs _ (h.later HB.out) hn)
  obtain ⟨a, cap, rfl, hr⟩ := h
  clear hr
  obtain ⟨⟨y, b⟩, hy⟩ : ∃ p, i64of n xs = p := ⟨_, rfl⟩
  rw [hy] at HI ⊢
  clear hy
  cases b with
  | false =>
    have HR : Hid (decide ((y, false) = (x, true)) = false) := decide_eq_false (fun h => by cases h)
    go_enter Tryd.func20, Tryd.ntmps20
    go_wp2_with fail
    refine Calls.mono HI.out ?_
    rintro e w1 ⟨rfl, hb1⟩
    have hbA := bt HB.out hb1
    clear hb1
    go_wp2_with fail
    go_ret
    exact ⟨ret_bool HR.out.symm, hbA⟩
  | true =>
    have HR : Hid (decide ((y, true) = (x, true)) = (y == x)) := by
      show _ = _
      by_cases c : y = x
      · subst c; simp
      · simp [c]
    go_enter Tryd.func20, Tryd.ntmps20
    go_wp2_with fail
    refine Calls.mono HI.out ?_
    rintro e w1 ⟨rfl, hb1⟩
    have hbA := bt HB.out hb1
    clear hb1
    go_wp2_with fail
    go_ret
    exact ⟨ret_bool HR.out.symm, hbA⟩
end Go.Proofs.YtbcangblmadnpacDoor
