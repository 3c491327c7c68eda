/- My texts on the way to CleanBetween, one behind the other: contracts of the program and of the document's answers. -/
import Derived.Test.YtaklojkdlmajeabJ1
import Derived.Test.YtaklojkdlmajeabShelf
import Derived.Sort.OwnSortedInts
import Derived.Maps.AppendAt
import Derived.Deep.Cut
import Derived.Shelf.Abstract
import Derived.Laws.AppendOwn
import Derived.Deep.RegionHeld3
import Derived.RangeFuncNested
import Derived.RangeFuncBound
import Derived.RangeFuncCalls
import Derived.RangeFuncLeaves
import Derived.RangeFuncFrom
import Derived.Shelf.RegionOpen
import Derived.OwnWalkIn
import Derived.TacticsInMore
import Derived.LoopNIn
import Derived.LoopIn
import Derived.Stop.RegionWithIn
import Derived.ChangeKeysEq
import Derived.Laws.StructEq
/- package record: Len, Lost, Samples, of every record. -/
namespace Go.Proofs.Ytaklojkdlmajeab
open Go.RowKit
set_option linter.unusedVariables false
set_option linter.unusedSimpArgs false

theorem Try.yinfoS : (Try.prog.info? 37).map (fun i => (i.zero, i.size, i.bytes)) = some (some (.agg #[.int .i64 0, .float .f64 0]), 2, 16) := by kernel_rfl
/-- What the call owns stays, while nothing that stood is written. -/
theorem yowns_later {w w' : World} {base e s : Nat} {v : Value} {n : Nat} {xs : List Value} (h : w.ownsRow base e s v n xs) (hb : Below w.heap.size w w') : w'.ownsRow base e s v n xs := by
  refine ⟨h.1, h.2.imp id ?_⟩
  rintro ⟨g, cap, cur, rfl, h1, h2, r⟩
  exact ⟨g, cap, cur, rfl, h1, (hb.block g (Array.getElem?_eq_some_iff.1 h2).1).trans h2, r⟩
theorem yowns_base {w : World} {base base' e s : Nat} {v : Value} {n : Nat} {xs : List Value} (h : w.ownsRow base e s v n xs) (hb : base' ≤ base) : w.ownsRow base' e s v n xs := by
  refine ⟨h.1, h.2.imp id ?_⟩
  rintro ⟨g, cap, cur, rfl, h1, r⟩
  exact ⟨g, cap, cur, rfl, by omega, r⟩
/-- A slice that is read as these cells. -/
def RdV (w : World) (a : Option Addr) (xs : List Value) : Prop := xs = [] ∨ ∃ g, a = some ⟨g, 0, none⟩ ∧ g < w.heap.size ∧ ∀ j u, xs[j]? = some u → w.cell? ⟨g, j, none⟩ = some u
theorem RdV.later {w w' : World} {a : Option Addr} {xs : List Value} (h : RdV w a xs) (hb : Below w.heap.size w w') : RdV w' a xs := by
  rcases h with h | ⟨g, ha, hg, hc⟩
  · exact .inl h
  · exact .inr ⟨g, ha, Nat.lt_of_lt_of_le hg hb.size, fun j u hj => (hb.cell (p := ⟨g, j, none⟩) hg).trans (hc j u hj)⟩
theorem yshape {w : World} {base e s : Nat} {v : Value} {n : Nat} {xs : List Value} (h : w.ownsRow base e s v n xs) : ∃ a cap, v = .slice a n cap ∧ RdV w a xs := by
  rcases h.2 with ⟨h1, h0⟩ | ⟨g, cap, cur, hv, h1, h2, h3, h4, h5, h6⟩
  · subst h0
    exact ⟨_, _, h1, .inl (List.length_eq_zero_iff.1 (by rw [h.1]; simp))⟩
  · refine ⟨_, _, hv, .inr ⟨g, rfl, (Array.getElem?_eq_some_iff.1 h2).1, fun j u hj => ?_⟩⟩
    have q := h.cells (g := g) (by rw [hv]; rfl) j u hj
    unfold Addr.add at q
    split at q
    · rename_i hj0
      have hj0 : j = 0 := by simpa using hj0
      rw [hj0]
      exact q
    · simpa using q
theorem ysort_any (base : Nat) (v : Value) (ks : List Int) (w : World) (h : w.ownsRow base 3 1 v ks.length (ks.map (Value.int .i64))) (hl : ks.length ≤ 4096) (hbs : base ≤ w.heap.size) :
    Calls Try.prog 31 #[v] w fun e w' => e = .returned (.tuple #[]) ∧ Hid (w'.ownsRow base 3 1 v ks.length ((ks.mergeSort (fun x y => decide (x ≤ y))).map (Value.int .i64))) ∧ Below base w w' := by
  rcases h.2 with ⟨rfl, h0⟩ | ⟨g, cap, cur, rfl, h1, h2, h3, h4, h5, h6⟩
  · obtain rfl : ks = [] := List.length_eq_zero_iff.1 h0
    refine Calls.mono (Try.slices_Sort_int_none none 0 w) ?_
    rintro e w' ⟨rfl, rfl⟩
    refine ⟨rfl, ?_, Below.refl _ _⟩
    rw [List.mergeSort_nil]
    exact World.ownsRow_nil _ _ _ _
  · refine Calls.mono (Try.slices_Sort_int g 0 cap ks w (holds_of_blockI h2 (by rw [Nat.mul_one] at h6; exact h6)) (Array.getElem?_eq_some_iff.1 h2).1 (by omega)) ?_
    rintro e w' ⟨rfl, n, os, rfl⟩
    exact ⟨rfl, ownsRow_sortedI (List.length_mergeSort ks) h1 h2 h3 h4 h5, (Below.refl _ _).grown (grownBy_sortedI _) hbs (fun k e => by cases e; exact h1)⟩
/-- The cells of samples. -/
def smC (M : List (Int × Nat)) : List Value := M.flatMap fun p => [.int .i64 p.1, .float .f64 p.2]
theorem smC_append (M N : List (Int × Nat)) : smC (M ++ N) = smC M ++ smC N := by unfold smC; rw [List.flatMap_append]
theorem smC_len (M : List (Int × Nat)) : (smC M).length = M.length * 2 := by
  induction M with
  | nil => rfl
  | cons p M ih => unfold smC at *; rw [List.flatMap_cons, List.length_append, ih, List.length_cons]; simp; omega
theorem smC_take {M : List (Int × Nat)} {k : Nat} {p : Int × Nat} (h : M[k]? = some p) : smC (M.take (k + 1)) = smC (M.take k) ++ [.int .i64 p.1, .float .f64 p.2] := by
  rw [List.take_add_one, h, smC_append]
  rfl
theorem smC_at {M : List (Int × Nat)} : ∀ {k : Nat} {p : Int × Nat}, M[k]? = some p → (smC M)[k * 2]? = some (.int .i64 p.1) ∧ (smC M)[k * 2 + 1]? = some (.float .f64 p.2) := by
  induction M with
  | nil => intro k p h; simp at h
  | cons q M ih =>
    intro k p h
    have e : smC (q :: M) = .int .i64 q.1 :: .float .f64 q.2 :: smC M := rfl
    rw [e]
    cases k with
    | zero => simp at h; subst h; exact ⟨rfl, rfl⟩
    | succ k =>
      have := ih (k := k) (p := p) (by simpa using h)
      rw [show (k + 1) * 2 = k * 2 + 1 + 1 by omega, show k * 2 + 1 + 1 + 1 = (k * 2 + 1) + 1 + 1 by omega]
      exact this
theorem smC_one (p : Int × Nat) : ∀ u ∈ [Value.int .i64 p.1, .float .f64 p.2], u.oneCell' = true := by
  intro u hu
  simp only [List.mem_cons, List.not_mem_nil, or_false] at hu
  rcases hu with rfl | rfl <;> rfl
theorem ycell2 (w : World) (x y : Value) (t : TypeId) : ∀ j u, [x, y][j]? = some u → (w.alloc (.cells #[x, y] t)).cell? ((⟨w.heap.size, 0, none⟩ : Addr).add j) = some u := by
  intro j u hj
  match j, hj with
  | 0, hj => simp at hj; subst hj; simp [Addr.add]
  | 1, hj => simp at hj; subst hj; simp [Addr.add]
  | n + 2, hj => simp at hj
set_option maxHeartbeats 3200000 in
set_option maxRecDepth 100000 in
theorem ysamples_any (rb mb : Nat) (L : List (Int × Nat)) (w : World) (h : RecAt w rb mb L) :
    Calls Try.prog 21 #[.pointer (some ⟨rb, 0, none⟩)] w fun e w' => ∃ v : Value, e = .returned v ∧ Hid (w'.ownsRow w.heap.size 37 2 v (onesL L true).length (smC (onesL L true))) ∧ Below w.heap.size w w' := by
  have HT := hid (yticks_any rb mb L true w h)
  have HR := hid h
  obtain ⟨i0, hi, hz0, hz1, hz2⟩ := info_parts Try.yinfoS
  have HM : Hid (∀ p ∈ onesL L true, rget L p.1 = some p.2 ∧ I64 p.1) := fun p hp => by
    have q := (List.mem_filter.1 hp).1
    have := h.ok.tick p q
    exact ⟨h.ok.get q, by unfold I64; omega⟩
  have hn4 := (h.ok.ones true).few
  clear h
  generalize onesL L true = M at *
  go_enter Try.func21, Try.ntmps21
  go_wp2_with fail
  refine Calls.mono HT.out ?_
  rintro e w1 ⟨v, ks, rfl, HO, HK, HL, hb⟩
  have HE : Hid (ks.length = M.length) := by
    have := congrArg List.length HK.out
    rw [List.length_mergeSort, List.length_map] at this
    exact this
  have HB := hid hb
  have HS := hid (ysort_any w.heap.size v ks w1 HO.out HL.out HB.out.size)
  rw [HK.out] at HS
  clear HT HO HL hb
  go_wp2_with fail
  refine Calls.mono HS.out ?_
  rintro e w2 ⟨rfl, HO2, hb2⟩
  have HB2 := hid (HB.out.trans hb2)
  rw [HE.out] at HO2
  obtain ⟨a, cap, rfl, HV⟩ := yshape HO2.out
  have HVH := hid HV
  clear HS HB hb2 HK HE HO2 HV
  go_wp2_with fail
  go_loopw [4, 13] (fun v x wr => ∃ k : Nat, k ≤ M.length ∧ x = .int .i64 (k : Int) ∧ Hid (wr.ownsRow w2.heap.size 37 2 v k (smC (M.take k))) ∧ Hid (Below w2.heap.size w2 wr)) (fun _ x _ => M.length - (intOf x).toNat)
  case atStart => exact ⟨0, Nat.zero_le _, rfl, World.ownsRow_nil _ _ _ _, Below.refl _ _⟩
  case round =>
    obtain ⟨k, hk, rfl, HO, HBW⟩ := hrel
    by_cases hlt : k < M.length
    · obtain ⟨p, hp⟩ : ∃ p, M[k]? = some p := ⟨_, List.getElem?_eq_getElem hlt⟩
      obtain ⟨t, b⟩ := p
      have HP := hid hp
      have hmem : (t, b) ∈ M := List.mem_of_getElem? hp
      have HG := HM.out _ hmem
      have ho := HO.out
      have hb := HBW.out
      have hsz := hb.size
      have HRW := hid (HR.out.later (HB2.out.trans (hb.mono HB2.out.size)))
      have hl : (Instr.lookup 62 (.map (some mb)) (.int .i64 t) false).run Try.prog wr = .ok (.float .f64 b) wr := by
        have q := ylook HRW.out.own HG.2 false
        rw [HG.1] at q
        exact q
      have c0 : wr.cell? ⟨rb, 0, none⟩ = some (.map (some mb)) := HRW.out.box.cell 0
      obtain ⟨g, rfl, hg, hc⟩ : ∃ g, a = some ⟨g, 0, none⟩ ∧ g < w2.heap.size ∧ ∀ j u, ((M.map (·.1)).map (Value.int .i64))[j]? = some u → w2.cell? ⟨g, j, none⟩ = some u := by
        rcases HVH.out with q | q
        · have := congrArg List.length q
          simp at this
          rw [this] at hlt
          simp at hlt
        · exact q
      have c1 : wr.cell? ⟨g, k, none⟩ = some (.int .i64 t) := (hb.cell (p := ⟨g, k, none⟩) hg).trans (hc k _ (by simp [hp]))
      have HS := hid (smC_take hp)
      clear HO HBW hp hmem HG hc
      generalize smC (M.take k) = R at *
      go_wp2_with (first
        | (at_builtin; refine wpList_append_own _ rfl _ _ 30 rfl w2.heap.size 37 i0 (.agg #[.int .i64 0, .float .f64 0]) 2 16 Try.underlying30 hi hz0 hz1 hz2 rfl (by decide) _ _ _ rfl (ho.alloc _) ⟨wr.heap.size, 0, none⟩ 1 1 [.int .i64 t, .float .f64 b] rfl rfl (ycell2 _ _ _ _) (smC_one (t, b)) (by unfold maxLen; omega) (by omega) (by simp; omega) ?_; intro v' w4 ho2 hg2 _)
        | go_in)
      have hb3 : Below w2.heap.size w2 w4 := (hb.alloc (by omega) _).grown hg2 (by simp; omega) (fun g hg => (ho.lt g hg).1)
      have HB3 := hid hb3
      have HO2 := hid ho2
      clear hg2 hl hb3 ho2
      go_wp2_with fail
      go_roundw
      case rel => exact ⟨k + 1, by omega, by go_num, by rw [HS.out]; exact HO2.out, HB3.out⟩
      case measure => simp [intOf]; omega
    · obtain rfl : k = M.length := by omega
      have hg2 : decide (((M.length : Nat) : Int) < ((M.length : Nat) : Int)) = false := by simp
      have HE : Hid (smC (M.take M.length) = smC M) := by rw [List.take_length]; rfl
      go_wp2_with fail
      all_goals first | (exfalso; omega) | (go_ret; exact ⟨_, rfl, yowns_base (HE.out ▸ HO.out) HB2.out.size, HB2.out.trans (HBW.out.mono HB2.out.size)⟩)
end Go.Proofs.Ytaklojkdlmajeab

/- package clean: isOne, rising, inOrder. -/
namespace Go.Proofs.Ytaklojkdlmajeab
open Go.RowKit Go.Sort Go.Shelf Go.Lib
set_option linter.unusedVariables false
set_option linter.unusedSimpArgs false

theorem eisone_any (b : Nat) (w : World) (hb : b < 18446744073709551616) : Calls Try.prog 16 #[.float .f64 b] w fun e w' => e = .returned (.bool (isone b)) ∧ w' = w := by
  have H1 := hid (mIsNaN_any b w)
  have H2 := hid (mIsInf0_any b w hb)
  have e : isone b = (!isnan b && !isinf (b % 9223372036854775808)) := by
    unfold isone isnan isinf
    by_cases h1 : b % 9223372036854775808 < 9218868437227405312
    · have : ¬ 9218868437227405312 < b % 9223372036854775808 := by omega
      have : b % 9223372036854775808 ≠ 9218868437227405312 := by omega
      simp [*]
    · by_cases h2 : b % 9223372036854775808 = 9218868437227405312
      · simp [h2]
      · have : 9218868437227405312 < b % 9223372036854775808 := by omega
        simp [h1, h2, this]
  rw [e]
  generalize isnan b = N at *
  generalize isinf (b % 9223372036854775808) = I at *
  clear e hb
  cases N
  · go_enter Try.func16, Try.ntmps16
    go_wp2_with fail
    refine Calls.mono H1.out ?_
    rintro e w1 ⟨rfl, rfl⟩
    go_wp2_with fail
    refine Calls.mono H2.out ?_
    rintro e w1 ⟨rfl, rfl⟩
    go_wp2_with fail
    go_ret
    exact ⟨by simp, rfl⟩
  · go_enter Try.func16, Try.ntmps16
    go_wp2_with fail
    refine Calls.mono H1.out ?_
    rintro e w1 ⟨rfl, rfl⟩
    go_wp2_with fail
    go_ret
    exact ⟨by simp, rfl⟩
set_option maxHeartbeats 800000 in
set_option maxRecDepth 100000 in
theorem esign_any (x : Nat) (w : World) (hx : x < 18446744073709551616) : Calls Try.prog 19 #[.float .f64 x] w fun e w' => e = .returned (.bool (decide (9223372036854775808 ≤ x))) ∧ w' = w := by
  have H : ∀ V, (callFunc 27 #[.float .f64 x]).run Try.prog V = .ok (.value (.int .u64 (x : Int))) V := fun V => bits_run x V
  go_enter Try.func19, Try.ntmps19
  go_wp2
  go_ret
  refine ⟨?_, rfl⟩
  show Ending.returned (Value.bool (decide (wrap64 (x : Int) < 0))) = _
  have e : (wrap64 (x : Int) < 0) ↔ 9223372036854775808 ≤ x := by unfold wrap64; omega
  rw [decide_eq_decide.2 e]
set_option maxHeartbeats 1600000 in
set_option maxRecDepth 100000 in
theorem erising_any (x y : Nat) (w : World) (hx : Fi x) (hy : Fi y) : Calls Try.prog 13 #[.float .f64 x, .float .f64 y] w fun e w' => e = .returned (.int .i64 (risR x y)) ∧ w' = w := by
  have H1 := hid (esign_any x w hx.1)
  have H2 := hid (esign_any y w hy.1)
  have ho := yorder hx hy
  rcases Int.lt_trichotomy (sv x) (sv y) with h | h | h
  · have e : risR x y = -1 := if_pos (kz_of_lt hx hy h)
    have HE := hid e
    have hl : (FloatKind.f64.format.order x y == some .lt) = true := by rw [ho, Int.compare_eq_lt.2 h]; rfl
    clear ho e h
    go_enter Try.func13, Try.ntmps13
    go_wp2_with fail
    go_ret
    rw [HE.out]; exact ⟨rfl, rfl⟩
  · have hl : (FloatKind.f64.format.order x y == some .lt) = false := by rw [ho, h, Int.compare_eq_eq.2 rfl]; rfl
    have hg : (FloatKind.f64.format.order x y == some .gt) = false := by rw [ho, h, Int.compare_eq_eq.2 rfl]; rfl
    by_cases hs : decide (9223372036854775808 ≤ x) = decide (9223372036854775808 ≤ y)
    · have e : x = y := kz_same hx hy h (by
        have h1 := hx.1
        have h2 := hy.1
        have hs' := decide_eq_decide.1 hs
        by_cases ha : 9223372036854775808 ≤ x
        · have hb := hs'.1 ha
          rw [show x / 9223372036854775808 % 2 = 1 by omega, show y / 9223372036854775808 % 2 = 1 by omega]
        · have hb : ¬ 9223372036854775808 ≤ y := fun hb => ha (hs'.2 hb)
          rw [show x / 9223372036854775808 % 2 = 0 by omega, show y / 9223372036854775808 % 2 = 0 by omega])
      have e2 : risR x y = 0 := by rw [e]; unfold risR; rw [if_neg (by omega), if_neg (by omega)]
      have HE := hid e2
      rw [hs] at H1
      generalize decide (9223372036854775808 ≤ y) = B at *
      clear ho e e2 h hs hx hy
      go_enter Try.func13, Try.ntmps13
      go_wp2_with fail
      refine Calls.mono H1.out ?_
      rintro e w1 ⟨rfl, rfl⟩
      go_wp2_with fail
      refine Calls.mono H2.out ?_
      rintro e w1 ⟨rfl, rfl⟩
      go_wp2_with fail
      go_ret
      rw [HE.out]; exact ⟨rfl, rfl⟩
    · by_cases ha : 9223372036854775808 ≤ x
      · have hb : ¬ 9223372036854775808 ≤ y := fun hb => hs (by rw [decide_eq_true ha, decide_eq_true hb])
        have e2 : risR x y = -1 := by
          unfold risR
          rw [if_pos]
          unfold kz
          rw [if_neg (by omega), if_pos (by omega)]
          omega
        have HE := hid e2
        rw [decide_eq_true ha] at H1
        rw [decide_eq_false hb] at H2
        clear ho e2 h hs hx hy ha hb
        go_enter Try.func13, Try.ntmps13
        go_wp2_with fail
        refine Calls.mono H1.out ?_
        rintro e w1 ⟨rfl, rfl⟩
        go_wp2_with fail
        refine Calls.mono H2.out ?_
        rintro e w1 ⟨rfl, rfl⟩
        go_wp2_with fail
        refine Calls.mono H1.out ?_
        rintro e w1 ⟨rfl, rfl⟩
        go_wp2_with fail
        go_ret
        rw [HE.out]; exact ⟨rfl, rfl⟩
      · have hb : 9223372036854775808 ≤ y := by
          apply Classical.byContradiction
          intro hb
          exact hs (by rw [decide_eq_false ha, decide_eq_false hb])
        have e2 : risR x y = 1 := by
          have e3 : kz y < kz x := by
            unfold kz
            rw [if_neg (by omega), if_pos (by omega)]
            omega
          unfold risR
          rw [if_neg (by omega), if_pos e3]
        have HE := hid e2
        rw [decide_eq_false ha] at H1
        rw [decide_eq_true hb] at H2
        clear ho e2 h hs hx hy ha hb
        go_enter Try.func13, Try.ntmps13
        go_wp2_with fail
        refine Calls.mono H1.out ?_
        rintro e w1 ⟨rfl, rfl⟩
        go_wp2_with fail
        refine Calls.mono H2.out ?_
        rintro e w1 ⟨rfl, rfl⟩
        go_wp2_with fail
        refine Calls.mono H1.out ?_
        rintro e w1 ⟨rfl, rfl⟩
        go_wp2_with fail
        go_ret
        rw [HE.out]; exact ⟨rfl, rfl⟩
  · have e3 := kz_of_lt hy hx h
    have e : risR x y = 1 := by
      unfold risR
      rw [if_neg (by omega), if_pos e3]
    have HE := hid e
    have hl : (FloatKind.f64.format.order x y == some .lt) = false := by rw [ho, Int.compare_eq_gt.2 h]; rfl
    have hg : (FloatKind.f64.format.order x y == some .gt) = true := by rw [ho, Int.compare_eq_gt.2 h]; rfl
    clear ho e e3 h
    go_enter Try.func13, Try.ntmps13
    go_wp2_with fail
    go_ret
    rw [HE.out]; exact ⟨rfl, rfl⟩
/-- A finite height. -/
def Fl := { x : Nat // Fi x }
def flE (x : Fl) : Value := .float .f64 x.1
theorem erow (xs : List Nat) (h : ∀ x ∈ xs, Fi x) : ∃ ss : List Fl, ss.map flE = xs.map (Value.float .f64) ∧ ss.map (fun a : Fl => a.1) = xs := by
  induction xs with
  | nil => exact ⟨[], rfl, rfl⟩
  | cons x xs ih =>
    obtain ⟨ss, e1, e2⟩ := ih (fun y hy => h y (List.mem_cons_of_mem _ hy))
    refine ⟨⟨x, h x List.mem_cons_self⟩ :: ss, ?_, ?_⟩
    · show flE _ :: ss.map flE = _
      rw [e1]
      rfl
    · show x :: ss.map (fun a : Fl => a.1) = _
      rw [e2]
theorem elt (x y : Fl) : ltOf (fun a b : Fl => risR a.1 b.1) x y = decide (kz x.1 < kz y.1) := by
  unfold ltOf risR
  by_cases h1 : kz x.1 < kz y.1
  · simp [h1]
  · by_cases h2 : kz y.1 < kz x.1 <;> simp [h1, h2]
set_option maxHeartbeats 1600000 in
set_option maxRecDepth 100000 in
theorem esort_any (base : Nat) (v : Value) (xs : List Nat) (w : World) (h : w.ownsRow base 24 1 v xs.length (xs.map (Value.float .f64))) (hf : ∀ x ∈ xs, Fi x) (hl : xs.length ≤ 1000000) (hbs : base ≤ w.heap.size) :
    Calls Try.prog 18 #[v, .func (.func 13) #[] #[]] w fun e w' => e = .returned (.tuple #[]) ∧ Hid (w'.ownsRow base 24 1 v xs.length ((xs.mergeSort (fun x y => decide (kz x ≤ kz y))).map (Value.float .f64))) ∧ Below base w w' := by
  haveI : Inhabited Fl := ⟨⟨0, by unfold Fi; decide⟩⟩
  obtain ⟨ss, e1, e2⟩ := erow xs hf
  have hls : ss.length = xs.length := by rw [← e2, List.length_map]
  rcases h.2 with ⟨rfl, h0⟩ | ⟨g, cap, cur, rfl, h1, h2, h3, h4, h5, h6⟩
  · rw [h0]
    have hx : xs = [] := by
      cases xs with
      | nil => rfl
      | cons a b => simp at h0
    subst hx
    refine Calls.mono (Try.slices_SortFunc_none (α := Fl) none 0 _ w) ?_
    rintro e w' ⟨rfl, rfl⟩
    refine ⟨rfl, ?_, Below.refl _ _⟩
    rw [List.mergeSort_nil]
    exact World.ownsRow_nil _ _ _ _
  · have eg : ∀ args w, (callFunc 13 args).run Try.prog w = .ok (.enter 13 args) w := enters_of Try.func13 (by kernel_rfl) rfl
    have hcmp : CmpReads Try.prog 13 #[] flE (fun a b : Fl => risR a.1 b.1) g 0 ss.toArray.size w := fun m os dk hs x y => by
      refine Calls.mono (erising_any x.1 y.1 _ x.2 y.2) ?_
      rintro e w' ⟨rfl, rfl⟩
      exact ⟨rfl, 0, rfl⟩
    have hO : SWO (ltOf (fun a b : Fl => risR a.1 b.1)) := by
      refine ⟨fun x => ?_, fun x y z a b => ?_, fun x y z a b => ?_⟩
      · rw [elt]; simp
      · rw [elt] at *; simp at *; omega
      · rw [elt] at *; simp at *; omega
    have hT : ∀ x y : Fl, ltOf (fun a b : Fl => risR a.1 b.1) x y = false → ltOf (fun a b : Fl => risR a.1 b.1) y x = false → x = y := fun x y a b => by
      rw [elt] at *
      simp at *
      exact Subtype.ext (kz_inj (by omega))
    have hH : Holds flE w g 0 ss.toArray := holdsG flE h2 (by rw [hls, e1]; rw [Nat.mul_one] at h6; exact h6)
    have hcon := Try.slices_SortFunc_total flE (fun _ => rfl) (fun a b : Fl => risR a.1 b.1) hO 13 #[] g 0 cap ss.toArray w eg hcmp.lays hH (Array.getElem?_eq_some_iff.1 h2).1 (by simp; omega) hT
    rw [List.size_toArray, hls] at hcon
    refine Calls.mono hcon ?_
    rintro e w' ⟨rfl, n, os, rfl⟩
    have q := ownsG flE (w := w) (base := base) (g := g) (cap := cap) (n := n) (e := 24) (os := os) (cur := cur) (ss := ss) (ts := ss.mergeSort fun x y => !(ltOf (fun a b : Fl => risR a.1 b.1)) y x) (List.length_mergeSort ss) h1 h2 (by omega) h4 h5
    have hm : (ss.mergeSort fun x y => !(ltOf (fun a b : Fl => risR a.1 b.1)) y x).map flE = (xs.mergeSort (fun x y => decide (kz x ≤ kz y))).map (Value.float .f64) := by
      have h9 : (ss.mergeSort fun x y => !(ltOf (fun a b : Fl => risR a.1 b.1)) y x).map (fun a : Fl => a.1) = xs.mergeSort (fun x y => decide (kz x ≤ kz y)) := by
        rw [← e2]
        refine List.map_mergeSort (fun a _ b _ => ?_)
        rw [elt]
        by_cases hk : kz a.1 ≤ kz b.1
        · rw [decide_eq_true hk, decide_eq_false (by omega)]; rfl
        · rw [decide_eq_false hk, decide_eq_true (by omega)]; rfl
      rw [← h9, List.map_map]
      rfl
    rw [hm, hls] at q
    exact ⟨rfl, q, (Below.refl _ _).grown (grownG flE _) hbs (fun k e => by cases e; exact h1)⟩
end Go.Proofs.Ytaklojkdlmajeab

/- package clean: inOrder, Median. -/
namespace Go.Proofs.Ytaklojkdlmajeab
open Go.RowKit
set_option linter.unusedVariables false
set_option linter.unusedSimpArgs false

/-- A list of heights in memory. -/
def RdH (w : World) (a : Option Addr) (xs : List Nat) : Prop := xs = [] ∨ ∃ g o, a = some ⟨g, o, none⟩ ∧ g < w.heap.size ∧ ∀ j x, xs[j]? = some x → w.cell? ⟨g, o + j, none⟩ = some (.float .f64 x)
theorem RdH.later {w w' : World} {a : Option Addr} {xs : List Nat} (h : RdH w a xs) (hb : Below w.heap.size w w') : RdH w' a xs := by
  rcases h with h | ⟨g, o, ha, hg, hc⟩
  · exact .inl h
  · have := hb.size
    exact .inr ⟨g, o, ha, by omega, fun j x hj => (hb.cell (p := ⟨g, o + j, none⟩) hg).trans (hc j x hj)⟩
theorem RdH.get {w : World} {a : Option Addr} {xs : List Nat} (h : RdH w a xs) {j x : Nat} (hj : xs[j]? = some x) : ∃ g o, a = some ⟨g, o, none⟩ ∧ g < w.heap.size ∧ ∀ j x, xs[j]? = some x → w.cell? ⟨g, o + j, none⟩ = some (.float .f64 x) := by
  rcases h with rfl | h
  · simp at hj
  · exact h
theorem RdH.of {w : World} {a : Option Addr} {xs : List Nat} (h : RdV w a (xs.map (Value.float .f64))) : RdH w a xs := by
  rcases h with h | ⟨g, ha, hg, hc⟩
  · left
    simpa using h
  · exact .inr ⟨g, 0, ha, hg, fun j x hj => by rw [Nat.zero_add]; exact hc j _ (by simp [hj])⟩
theorem ones_takeF {xs : List Nat} {k x : Nat} (h : xs[k]? = some x) : (xs.take (k + 1)).filter isone = (xs.take k).filter isone ++ (if isone x then [x] else []) := by
  rw [List.take_add_one, h, List.filter_append]
  congr 1
  cases hx : isone x <;> simp [hx]
set_option maxHeartbeats 3200000 in
set_option maxRecDepth 100000 in
theorem einorder_any (a : Option Addr) (n cap : Nat) (xs : List Nat) (w : World) (hn : n ≤ 1000000) (hl : xs.length = n) (hx : ∀ x ∈ xs, x < 18446744073709551616) (h : RdH w a xs) :
    Calls Try.prog 12 #[.slice a n cap, .func (.func 13) #[] #[]] w fun e w' => ∃ v : Value, e = .returned v ∧ Hid (w'.ownsRow w.heap.size 24 1 v (srtF xs).length ((srtF xs).map (Value.float .f64))) ∧ Below w.heap.size w w' := by
  obtain ⟨i0, hi, hz0, hz1, hz2⟩ := info_parts Try.infoF
  have HD := hid h
  have HX := hid hx
  clear h hx
  go_enter Try.func12, Try.ntmps12
  go_wp2_with fail
  go_loopw [5, 10] (fun v x wr => ∃ k : Nat, k ≤ n ∧ x = .int .i64 (k : Int) ∧ Hid (wr.ownsRow w.heap.size 24 1 v ((xs.take k).filter isone).length (((xs.take k).filter isone).map (Value.float .f64))) ∧ Hid (Below w.heap.size w wr)) (fun _ x _ => n - (intOf x).toNat)
  case atStart => exact ⟨0, Nat.zero_le _, rfl, World.ownsRow_nil _ _ _ _, Below.refl _ _⟩
  case round =>
    obtain ⟨k, hk, rfl, HO, HW⟩ := hrel
    by_cases hlt : k < n
    · obtain ⟨x, hp⟩ : ∃ p, xs[k]? = some p := ⟨_, List.getElem?_eq_getElem (by omega)⟩
      have HT := hid (ones_takeF hp)
      have HOne := hid (fun V => eisone_any x V (HX.out _ (List.mem_of_getElem? hp)))
      obtain ⟨g, o, rfl, hg, hc⟩ := HD.out.get hp
      have c1 : wr.cell? ⟨g, o + k, none⟩ = some (.float .f64 x) := (HW.out.cell (p := ⟨g, o + k, none⟩) hg).trans (hc _ _ hp)
      have hle : ((xs.take k).filter isone).length ≤ k := Nat.le_trans (List.length_filter_le _ _) (by rw [List.length_take]; omega)
      have hsz := HW.out.size
      clear hp hc
      generalize (xs.take k).filter isone = R at *
      cases hone : isone x
      · rw [hone] at HOne HT
        clear hone
        rw [if_neg (by decide), List.append_nil] at HT
        go_wp2_with fail
        refine Calls.mono (HOne.out _) ?_
        rintro e w2 ⟨rfl, rfl⟩
        go_wp2_with fail
        go_roundw
        case rel => exact ⟨k + 1, by omega, by go_num, by rw [HT.out]; exact HO.out, HW.out⟩
        case measure => simp [intOf]; omega
      · rw [hone] at HOne HT
        clear hone
        rw [if_pos rfl] at HT
        go_wp2_with fail
        refine Calls.mono (HOne.out _) ?_
        rintro e w2 ⟨rfl, rfl⟩
        have ho := HO.out
        go_wp2_with (first
          | (at_builtin; refine wpList_append_own _ rfl _ _ 22 rfl w.heap.size 24 i0 (.float .f64 0) 1 8 Try.underlying22 hi hz0 hz1 hz2 rfl (by decide) _ _ _ rfl (ho.alloc _) ⟨w2.heap.size, 0, none⟩ 1 1 [.float .f64 x] rfl rfl (cell_one_new _ _ _) (by simp [Value.oneCell']) (by unfold maxLen; omega) (by omega) (by simp; omega) ?_; intro v' w4 ho4 hg4 _)
          | go_in)
        have HB4 := hid ((HW.out.alloc (by omega) _).grown hg4 (by simp; omega) (fun g hg => (ho.lt g hg).1))
        have HO4 := hid ho4
        clear hg4 ho4
        go_wp2_with fail
        go_roundw
        case rel =>
          refine ⟨k + 1, by omega, by go_num, ?_, HB4.out⟩
          rw [HT.out, List.length_append, List.map_append]
          exact HO4.out
        case measure => simp [intOf]; omega
    · obtain rfl : k = n := by omega
      have hkk : ¬ (k : Int) < (k : Int) := by omega
      have hE : xs.take k = xs := by rw [← hl]; exact List.take_length
      rw [hE] at HO
      have HS := hid (esort_any w.heap.size _ (xs.filter isone) wr HO.out (fun x hx => by
        have := List.mem_filter.1 hx
        exact Fi.of (HX.out x this.1) this.2) (Nat.le_trans (List.length_filter_le _ _) (by omega)) HW.out.size)
      have HLn := hid (srtF_len xs)
      clear hE
      go_wp2_with fail
      refine Calls.mono HS.out ?_
      rintro e w2 ⟨rfl, HO2, hb2⟩
      have HB2 := hid (HW.out.trans hb2)
      clear hb2 HS HW HO
      go_wp2_with fail
      go_ret
      exact ⟨_, rfl, by rw [HLn.out]; exact HO2.out, HB2.out⟩
theorem fn_some {op : BinOp} {x y r : Nat} (V : World) (h : floatBits op .f64 x y = some r) : FN op x y r := by
  have q := fval_fn op V x y
  unfold fval at q
  rw [h] at q
  exact q
theorem ydrewMM {B n : Nat} {a w : World} (h : Below B a w) : Below B a (w.drewN n) := by
  induction n with
  | zero => exact h
  | succ n ih => exact ih.drew
/-- A half of a finite height is a float. -/
theorem half_some {x : Nat} (hx : Fi x) : ∃ p, floatBits .quo .f64 x 4611686018427387904 = some p := by
  obtain ⟨m, a, e1, v1⟩ := read_num hx.2
  have e2 : Ieee.double.read 4611686018427387904 = .number false 4503599627370496 (-51) := by decide
  exact ⟨_, show (((Ieee.double.read x).quotient _ (Ieee.double.read 4611686018427387904)).map Ieee.double.write) = some _ by
    rw [e1, e2]
    simp only [Ieee.Datum.quotient]
    rfl⟩
/-- What Median tells of heights in their order. -/
def MedT (S : List Nat) (r : Nat) (o : Bool) : Prop := (S = [] ∧ r = 0 ∧ o = false) ∨ (S.length % 2 = 1 ∧ o = true ∧ S[S.length / 2]? = some r) ∨ (S ≠ [] ∧ S.length % 2 = 0 ∧ o = true ∧ ∃ a b p q, S[S.length / 2 - 1]? = some a ∧ S[S.length / 2]? = some b ∧ FN .quo a 4611686018427387904 p ∧ FN .quo b 4611686018427387904 q ∧ FN .add p q r)
set_option maxHeartbeats 3200000 in
set_option maxRecDepth 100000 in
theorem emedian_any (a : Option Addr) (n cap : Nat) (xs : List Nat) (w : World) (hn : n ≤ 1000000) (hl : xs.length = n) (hx : ∀ x ∈ xs, x < 18446744073709551616) (h : RdH w a xs) :
    Calls Try.prog 7 #[.slice a n cap] w fun e w' => ∃ (r : Nat) (o : Bool), e = .returned (.tuple #[.float .f64 r, .bool o]) ∧ Hid (MedT (srtF xs) r o) ∧ Below w.heap.size w w' := by
  have HI := hid (einorder_any a n cap xs w hn hl hx h)
  have hls : (srtF xs).length ≤ 1000000 := by rw [srtF_len]; exact Nat.le_trans (List.length_filter_le _ _) (by omega)
  have rD := fquo_run Try.prog 24
  have rA := fadd_run Try.prog 24
  have HF : Hid (∀ x ∈ srtF xs, Fi x) := fun x h => by
    have := srtF_mem.1 h
    exact Fi.of (hx x this.1) this.2
  clear h hx hl hn
  generalize srtF xs = S at *
  go_enter Try.func7, Try.ntmps7
  go_wp2_with fail
  refine Calls.mono HI.out ?_
  rintro e w1 ⟨v, rfl, HO, hb1⟩
  obtain ⟨a1, c1, rfl, hV⟩ := yshape HO.out
  have HV := hid (RdH.of hV)
  have HB := hid hb1
  clear hb1 hV HO HI
  by_cases h0 : S.length = 0
  · obtain rfl : S = [] := List.eq_nil_of_length_eq_zero h0
    go_wp2_with fail
    go_returns
    exact ⟨0, false, rfl, .inl ⟨rfl, rfl, rfl⟩, HB.out⟩
  · obtain ⟨g, o, rfl, hg, hc⟩ := HV.out.get (List.getElem?_eq_getElem (show S.length / 2 < S.length by omega))
    by_cases h1 : S.length % 2 = 1
    · have hd : ((S.length : Nat) : Int).tmod 2 = 1 := by
        rw [show ((S.length : Nat) : Int).tmod 2 = ((S.length % 2 : Nat) : Int) from rfl, h1]
        rfl
      have hq : ((S.length : Nat) : Int).tdiv 2 = ((S.length / 2 : Nat) : Int) := rfl
      obtain ⟨x, hx⟩ : ∃ x, S[S.length / 2]? = some x := ⟨_, List.getElem?_eq_getElem (show S.length / 2 < S.length by omega)⟩
      have HX := hid hx
      have cx := hc _ _ hx
      have hz : ¬ ((S.length : Nat) : Int) = 0 := by omega
      have HH : Hid (S.length % 2 = 1) := h1
      have hlt : ((S.length / 2 : Nat) : Int) < ((S.length : Nat) : Int) := by omega
      clear hx hc h1
      go_wp2_with fail
      go_returns
      refine ⟨x, true, rfl, .inr (.inl ⟨HH.out, rfl, HX.out⟩), HB.out⟩
    · have hd : ((S.length : Nat) : Int).tmod 2 = 0 := by
        rw [show ((S.length : Nat) : Int).tmod 2 = ((S.length % 2 : Nat) : Int) from rfl, show S.length % 2 = 0 by omega]
        rfl
      have hq : ((S.length : Nat) : Int).tdiv 2 = ((S.length / 2 : Nat) : Int) := rfl
      obtain ⟨x, hx⟩ : ∃ x, S[S.length / 2 - 1]? = some x := ⟨_, List.getElem?_eq_getElem (show S.length / 2 - 1 < S.length by omega)⟩
      obtain ⟨y, hy⟩ : ∃ x, S[S.length / 2]? = some x := ⟨_, List.getElem?_eq_getElem (show S.length / 2 < S.length by omega)⟩
      obtain ⟨p, hp⟩ := half_some (HF.out x (List.mem_of_getElem? hx))
      obtain ⟨q, hqq⟩ := half_some (HF.out y (List.mem_of_getElem? hy))
      have r1 : ∀ V, (binOp .quo 24 (.float .f64 x) (.float .f64 4611686018427387904)).run Try.prog V = .ok (.float .f64 p) V := fun V => run_float_arith V _ _ _ _ _ _ hp
      have r2 : ∀ V, (binOp .quo 24 (.float .f64 y) (.float .f64 4611686018427387904)).run Try.prog V = .ok (.float .f64 q) V := fun V => run_float_arith V _ _ _ _ _ _ hqq
      have HX := hid hx
      have HY := hid hy
      have HP := hid hp
      have HQ := hid hqq
      have cx := hc _ _ hx
      have cy := hc _ _ hy
      have hz : ¬ ((S.length : Nat) : Int) = 0 := by omega
      have HH : Hid (S.length % 2 = 0) := by show _ = _; omega
      have hlt : ((S.length / 2 : Nat) : Int) < ((S.length : Nat) : Int) := by omega
      have hlt2 : ((S.length / 2 : Nat) : Int) - 1 = ((S.length / 2 - 1 : Nat) : Int) := by omega
      clear hx hy hc h1 hp hqq rD
      go_wp2_with fail
      go_quiet (fail)
      go_wp2_with fail
      go_returns
      refine ⟨_, true, rfl, .inr (.inr ⟨?_, HH.out, rfl, x, y, p, q, HX.out, HY.out, fn_some w1 HP.out, fn_some w1 HQ.out, fval_fn .add _ p q⟩), fwld_below _ _ _ (ydrewMM HB.out)⟩
      rintro rfl
      simp at h0
end Go.Proofs.Ytaklojkdlmajeab

/- Halves and medians, no program: a half is the float nearest to it; medians of the negatives, of the same heights in another order, between the least and the greatest. -/
namespace Go.Proofs.Ytaklojkdlmajeab
open Go.RowKit
set_option linter.unusedVariables false

theorem read_num53 {x : Nat} (h : x % 9223372036854775808 < 9218868437227405312) :
    ∃ m a, Ieee.double.read x = .number (x / 9223372036854775808 % 2 == 1) m (-1074 + (a : Nat)) ∧ m * 2 ^ a = rungVal (x % 9223372036854775808) ∧ m < 9007199254740992 := by
  unfold Ieee.Format.read
  simp only [dbl_sign, dbl_inf, dbl_binade, dbl_least]
  by_cases hb : x % 9223372036854775808 < 4503599627370496
  · rw [if_pos hb]
    exact ⟨_, 0, rfl, by rw [rungVal, if_pos hb]; simp, by omega⟩
  · rw [if_neg hb, if_pos h]
    exact ⟨_, _, rfl, by rw [rungVal, if_neg hb], by omega⟩
/-- A half is the float nearest to the half. -/
theorem half_rn {x p : Nat} (hx : Fi x) (h : FN .quo x 4611686018427387904 p) : RN (sv x) 2 p := by
  obtain ⟨m, a, e1, v1, hm⟩ := read_num53 hx.2
  have e2 : Ieee.double.read 4611686018427387904 = .number false 4503599627370496 (-51) := by decide
  generalize hs : (x / 9223372036854775808 % 2 == 1) = s at e1
  have hsv : (sv x).natAbs = m * 2 ^ a := by rw [sv_abs, v1]
  have hlog : m.log2 ≤ 52 := by
    by_cases h0 : m = 0
    · subst h0; decide
    · have := (Nat.log2_lt h0 (k := 53)).2 (by omega)
      omega
  have key : ∃ (dg : Nat), 53 ≤ dg ∧ floatBits .quo .f64 x 4611686018427387904 = ((((Ieee.double.read x).quotient dg (Ieee.double.read 4611686018427387904)).map Ieee.double.write)) := ⟨_, by decide, rfl⟩
  obtain ⟨dg, hdg, hq⟩ := key
  rw [e1, e2] at hq
  simp only [Ieee.Datum.quotient] at hq
  rw [if_neg (by decide), show (4503599627370496 : Nat).log2 = 52 by decide] at hq
  obtain ⟨mo, hmo⟩ : ∃ mo, dg + 52 - m.log2 = 52 + mo := ⟨dg + 52 - m.log2 - 52, by omega⟩
  rw [hmo] at hq
  have hsh : m <<< (52 + mo) = m * 2 ^ mo * 4503599627370496 := by
    rw [Nat.shiftLeft_eq, Nat.pow_add, show (2 : Nat) ^ 52 = 4503599627370496 by decide, Nat.mul_comm 4503599627370496, ← Nat.mul_assoc]
  rw [hsh, Nat.mul_div_cancel _ (by decide), Nat.mul_mod_left] at hq
  have hq2 := h.bits (hq.trans rfl)
  have e3 : p = Ieee.double.nearest s (2 * (m * 2 ^ mo)) (-1074 + (a : Int) - -51 - ((52 + mo : Nat) : Int) - 1) := by
    rw [hq2]
    cases s <;> rfl
  rw [e3]
  refine near_rn (by decide) ?_ ?_ ?_
  · rw [hsv]
    by_cases hc : mo + 2 ≤ a
    · rw [show (-1074 + (a : Int) - -51 - ((52 + mo : Nat) : Int) - 1 + 1074).toNat = a - (mo + 2) by omega, show (-(-1074 + (a : Int) - -51 - ((52 + mo : Nat) : Int) - 1 + 1074)).toNat = 0 by omega]
      have e : (2 : Nat) ^ a = 2 ^ mo * 4 * 2 ^ (a - (mo + 2)) := by
        rw [show (4 : Nat) = 2 ^ 2 by decide, ← Nat.pow_add, ← Nat.pow_add, show mo + 2 + (a - (mo + 2)) = a by omega]
      rw [e, Nat.pow_zero, Nat.mul_one]
      generalize (2 : Nat) ^ mo = A
      generalize (2 : Nat) ^ (a - (mo + 2)) = B
      rw [show 2 * (m * A) * B * 2 = m * A * B * 4 by
        rw [Nat.mul_assoc 2, Nat.mul_comm 2, Nat.mul_assoc (m * A * B)]]
      rw [Nat.mul_assoc m, Nat.mul_assoc m, Nat.mul_right_comm A B 4]
    · rw [show (-1074 + (a : Int) - -51 - ((52 + mo : Nat) : Int) - 1 + 1074).toNat = 0 by omega, show (-(-1074 + (a : Int) - -51 - ((52 + mo : Nat) : Int) - 1 + 1074)).toNat = mo + 2 - a by omega]
      rw [Nat.mul_assoc m, ← Nat.pow_add, show a + (mo + 2 - a) = mo + 2 by omega, Nat.pow_add, Nat.pow_zero, Nat.mul_one]
      generalize (2 : Nat) ^ mo = A
      show 2 * (m * A) * 2 = m * (A * 4)
      rw [← Nat.mul_assoc m A 4]
      generalize m * A = C
      omega
  · intro hneg
    have := sv_sign hs
    cases s
    · rw [if_neg (by simp)] at this
      omega
    · rfl
  · intro hpos
    have := sv_sign hs
    cases s
    · rfl
    · rw [if_pos rfl] at this
      omega
theorem RN.fi {A : Int} {D p r : Nat} (h : RN A D p) (hD : 0 < D) (hr : r < 9218868437227405312) (hA : A.natAbs ≤ rungVal r * D) : Fi p := by
  obtain ⟨neg, s, rfl, _, _, hm⟩ := h
  have := hm.le hD hA
  exact word_fi neg (by omega)
theorem half_fi {x p : Nat} (hx : Fi x) (h : FN .quo x 4611686018427387904 p) : Fi p := (half_rn hx h).fi (by decide) hx.2 (by rw [sv_abs]; omega)
/-- Two numbers nearest to a fraction have one value. -/
theorem RN.val {A : Int} {D p q : Nat} (hD : 0 < D) (h : RN A D p) (g : RN A D q) (fp : Fi p) : sv p = sv q := by
  obtain ⟨n1, s, rfl, h1, h2, h3⟩ := h
  obtain ⟨n2, t, rfl, g1, g2, g3⟩ := g
  obtain rfl := h3.unique hD g3
  have hs : s ≤ 9218868437227405312 := h3.top
  rw [sv_word _ _ hs, sv_word _ _ hs]
  rcases Int.lt_trichotomy A 0 with hA | hA | hA
  · rw [h1 hA, g1 hA]
  · have : s = 0 := by
      subst hA
      exact h3.unique hD (mid_zero D)
    subst this
    have e : rungVal 0 = 0 := by decide
    rw [e]
    cases n1 <;> cases n2 <;> rfl
  · rw [h2 hA, g2 hA]
theorem RN.neg {A : Int} {D p q : Nat} (hD : 0 < D) (h : RN A D p) (g : RN (-A) D q) : sv q = - sv p := by
  obtain ⟨n1, s, rfl, h1, h2, h3⟩ := h
  obtain ⟨n2, t, rfl, g1, g2, g3⟩ := g
  rw [Int.natAbs_neg] at g3
  obtain rfl := h3.unique hD g3
  have hs : s ≤ 9218868437227405312 := h3.top
  rw [sv_word _ _ hs, sv_word _ _ hs]
  rcases Int.lt_trichotomy A 0 with hA | hA | hA
  · rw [h1 hA, g2 (by omega)]
    simp
  · have : s = 0 := by
      subst hA
      exact h3.unique hD (mid_zero D)
    subst this
    have e : rungVal 0 = 0 := by decide
    rw [e]
    cases n1 <;> cases n2 <;> rfl
  · rw [h2 hA, g1 (by omega)]
    simp
end Go.Proofs.Ytaklojkdlmajeab

/- Medians, no program: of the same heights, of the negatives; between the least and the greatest. -/
namespace Go.Proofs.Ytaklojkdlmajeab
open Go.RowKit
set_option linter.unusedVariables false

/-- What is nearest is not below a float that is not above. -/
theorem RN.ge_fl {A : Int} {r v : Nat} (h : RN A 1 r) (hv : Fi v) (hA : sv v ≤ A) : sv v ≤ sv r := by
  obtain ⟨neg, s, rfl, h1, h2, h3⟩ := h
  rw [sv_word _ _ h3.top]
  have hav := sv_abs v
  rcases Int.lt_or_le A 0 with hn | hp
  · rw [h1 hn, if_pos rfl]
    have := h3.le (r := v % 9223372036854775808) (by decide) (by rw [← hav]; omega)
    have := rungVal_le this
    omega
  · have hz : A = 0 ∨ 0 < A := by omega
    rcases hz with hz | hz
    · subst hz
      have : s = 0 := h3.unique (by decide) (mid_zero 1)
      subst this
      rw [show rungVal 0 = 0 by decide]
      cases neg <;> simp <;> omega
    · rw [h2 hz, if_neg (by decide)]
      by_cases hv0 : sv v ≤ 0
      · omega
      · have := h3.ge (r := v % 9223372036854775808) (by decide) (by have := hv.2; omega) (by rw [← hav]; omega)
        have := rungVal_le this
        omega
theorem RN.le_fl {A : Int} {r v : Nat} (h : RN A 1 r) (hv : Fi v) (hA : A ≤ sv v) : sv r ≤ sv v := by
  obtain ⟨neg, s, rfl, h1, h2, h3⟩ := h
  rw [sv_word _ _ h3.top]
  have hav := sv_abs v
  rcases Int.lt_or_le 0 A with hp | hn
  · rw [h2 hp, if_neg (by decide)]
    have := h3.le (r := v % 9223372036854775808) (by decide) (by rw [← hav]; omega)
    have := rungVal_le this
    omega
  · have hz : A = 0 ∨ A < 0 := by omega
    rcases hz with hz | hz
    · subst hz
      have : s = 0 := h3.unique (by decide) (mid_zero 1)
      subst this
      rw [show rungVal 0 = 0 by decide]
      cases neg <;> simp <;> omega
    · rw [h1 hz, if_pos rfl]
      by_cases hv0 : 0 ≤ sv v
      · omega
      · have := h3.ge (r := v % 9223372036854775808) (by decide) (by have := hv.2; omega) (by rw [← hav]; omega)
        have := rungVal_le this
        omega
/-- The greatest float, and its half. -/
theorem top_half : rungVal 9218868437227405311 = rungVal 9214364837600034815 * 2 := by decide +kernel
theorem half_size {x p : Nat} (hx : Fi x) (h : FN .quo x 4611686018427387904 p) : (sv p).natAbs ≤ rungVal 9214364837600034815 := by
  have hr := half_rn hx h
  obtain ⟨neg, s, rfl, _, _, hm⟩ := hr
  have h1 : (sv x).natAbs ≤ rungVal 9218868437227405311 := by
    rw [sv_abs]
    exact rungVal_le (by have := hx.2; omega)
  rw [top_half] at h1
  have := rungVal_le (hm.le (by decide) h1)
  rw [sv_word _ _ hm.top]
  split <;> omega
theorem sum_fi {p q r : Nat} (hp : Fi p) (hq : Fi q) (h1 : (sv p).natAbs ≤ rungVal 9214364837600034815) (h2 : (sv q).natAbs ≤ rungVal 9214364837600034815) (h : FN .add p q r) : Fi r := by
  refine (add_rn hp hq h).fi (r := 9218868437227405311) (by decide) (by decide) ?_
  rw [top_half]
  omega
/-- A half that is exact. -/
theorem half_exact {x p : Nat} (hx : Fi x) (h : FN .quo x 4611686018427387904 p) (ht : sv x = 0 ∨ 9007199254740992 ≤ (sv x).natAbs) : 2 * sv p = sv x := by
  have hr := half_rn hx h
  obtain ⟨neg, s, rfl, g1, g2, hm⟩ := hr
  rcases ht with ht | ht
  · rw [ht] at hm
    have : s = 0 := hm.unique (by decide) (mid_zero 2)
    subst this
    rw [sv_word _ _ (by decide), ht, show rungVal 0 = 0 by decide]
    cases neg <;> rfl
  · rw [sv_abs] at hm ht
    have hx2 := hx.2
    obtain ⟨e, he⟩ : ∃ e, x % 9223372036854775808 = e := ⟨_, rfl⟩
    rw [he] at hm ht hx2
    have hbig : 9007199254740992 ≤ e := by
      apply Nat.le_of_not_lt
      intro hlt
      have h3 : rungVal e < rungVal 9007199254740992 := rungVal_lt hlt
      rw [show rungVal 9007199254740992 = 9007199254740992 by decide +kernel] at h3
      omega
    have hhalf : rungVal e = rungVal (e - 4503599627370496) * 2 := by
      unfold rungVal
      rw [if_neg (by omega), if_neg (by omega)]
      have e1 : (e - 4503599627370496) % 4503599627370496 = e % 4503599627370496 := by omega
      have e2 : e / 4503599627370496 - 1 = ((e - 4503599627370496) / 4503599627370496 - 1) + 1 := by omega
      rw [e1, e2, Nat.pow_succ, ← Nat.mul_assoc]
    have hs : s = e - 4503599627370496 := by
      apply Nat.le_antisymm
      · exact hm.le (by decide) (Nat.le_of_eq hhalf)
      · exact hm.ge (by decide) (by omega) (Nat.le_of_eq hhalf.symm)
    rw [sv_word _ _ hm.top, hs]
    have hsg : sv x = if neg = true then -(rungVal e : Int) else (rungVal e : Int) := by
      have hab := sv_abs x
      rw [he] at hab
      have hpos : 0 < rungVal e := by omega
      rcases Int.lt_or_le (sv x) 0 with hn | hp
      · rw [g1 hn, if_pos rfl]
        omega
      · rw [g2 (by omega), if_neg (by decide)]
        omega
    rw [hsg, hhalf]
    split
    · rw [Int.natCast_mul]; omega
    · rw [Int.natCast_mul]; omega
end Go.Proofs.Ytaklojkdlmajeab

/- Medians, no program: of one list, of the negatives; between the least and the greatest. -/
namespace Go.Proofs.Ytaklojkdlmajeab
open Go.RowKit
set_option linter.unusedVariables false

theorem kz_opp {x : Nat} (h : x < 18446744073709551616) : kz (fopp x) = -1 - kz x := by
  by_cases h1 : x < 9223372036854775808
  · rw [fopp_low h1]; unfold kz; rw [if_neg (by omega), if_pos h1]; omega
  · rw [fopp_high h (by omega)]; unfold kz; rw [if_pos (by omega), if_neg h1]; omega
theorem isone_opp {x : Nat} (h : x < 18446744073709551616) : isone (fopp x) = isone x := by unfold isone; rw [(fopp_mod h).1]
/-- The negatives, in their order, are the heights in theirs, from behind. -/
theorem srtF_opp {xs : List Nat} (hx : ∀ x ∈ xs, x < 18446744073709551616) : srtF (xs.map fopp) = ((srtF xs).map fopp).reverse := by
  refine srtF_eq ?_ ?_
  · refine (List.reverse_perm _).trans (((srtF_perm xs).map fopp).trans ?_)
    rw [List.filter_map]
    have : xs.filter (isone ∘ fopp) = xs.filter isone := List.filter_congr (fun x h => isone_opp (hx x h))
    rw [this]
  · rw [List.pairwise_reverse, List.pairwise_map]
    refine (srtF_rise xs).imp_of_mem ?_
    intro a b ha hb h
    rw [kz_opp (hx _ (srtF_mem.1 ha).1), kz_opp (hx _ (srtF_mem.1 hb).1)]
    omega
theorem MedT.there {S : List Nat} {r : Nat} {o : Bool} (h : MedT S r o) : (o = true ↔ S ≠ []) ∧ (o = false → r = 0) := by
  rcases h with ⟨h1, h2, h3⟩ | ⟨h1, h2, h3⟩ | ⟨h1, h2, h3, h4⟩
  · subst h3; exact ⟨by simp [h1], fun _ => h2⟩
  · subst h2; refine ⟨⟨fun _ e => ?_, fun _ => rfl⟩, fun e => by cases e⟩
    subst e; simp at h1
  · subst h3; exact ⟨⟨fun _ => h1, fun _ => rfl⟩, fun e => by cases e⟩
theorem MedT.fi {S : List Nat} {r : Nat} (hS : ∀ x ∈ S, Fi x) (h : MedT S r true) : Fi r := by
  rcases h with ⟨_, _, h3⟩ | ⟨_, _, h3⟩ | ⟨_, _, _, a, b, p, q, ha, hb, hp, hq, hr⟩
  · cases h3
  · exact hS _ (List.mem_of_getElem? h3)
  · have fa := hS _ (List.mem_of_getElem? ha)
    have fb := hS _ (List.mem_of_getElem? hb)
    exact sum_fi (half_fi fa hp) (half_fi fb hq) (half_size fa hp) (half_size fb hq) hr
/-- The median of the negatives is the negative. -/
theorem MedT.opp {S : List Nat} {r s : Nat} (hS : ∀ x ∈ S, Fi x) (h : MedT S r true) (g : MedT (S.map fopp).reverse s true) : sv s = - sv r := by
  have hlen : (S.map fopp).reverse.length = S.length := by simp
  have hget : ∀ j, j < S.length → (S.map fopp).reverse[j]? = (S[S.length - 1 - j]?).map fopp := by
    intro j hj
    rw [List.getElem?_reverse (by simpa using hj), List.getElem?_map]
    simp
  unfold MedT at g
  rw [hlen] at g
  rcases h with ⟨_, _, h3⟩ | ⟨h1, _, h3⟩ | ⟨h0, h1, _, a, b, p, q, ha, hb, hp, hq, hr⟩
  · cases h3
  · have hlt := (List.getElem?_eq_some_iff.1 h3).1
    rcases g with ⟨_, _, g3⟩ | ⟨_, _, g3⟩ | ⟨_, g1, _⟩
    · cases g3
    · rw [hget _ hlt, show S.length - 1 - S.length / 2 = S.length / 2 by omega, h3] at g3
      simp only [Option.map_some, Option.some.injEq] at g3
      rw [← g3, sv_opp (hS _ (List.mem_of_getElem? h3)).1]
    · omega
  · have hlt := (List.getElem?_eq_some_iff.1 hb).1
    rcases g with ⟨_, _, g3⟩ | ⟨g1, _⟩ | ⟨_, _, _, a', b', p', q', ga, gb, gp, gq, gr⟩
    · cases g3
    · omega
    · have fa := hS _ (List.mem_of_getElem? ha)
      have fb := hS _ (List.mem_of_getElem? hb)
      rw [hget _ (by omega), show S.length - 1 - (S.length / 2 - 1) = S.length / 2 by omega, hb] at ga
      rw [hget _ hlt, show S.length - 1 - S.length / 2 = S.length / 2 - 1 by omega, ha] at gb
      simp only [Option.map_some, Option.some.injEq] at ga gb
      subst ga gb
      have e1 : sv p' = - sv q := by
        have := half_rn fb.opp gp
        rw [sv_opp fb.1] at this
        exact (half_rn fb hq).neg (by decide) this
      have e2 : sv q' = - sv p := by
        have := half_rn fa.opp gq
        rw [sv_opp fa.1] at this
        exact (half_rn fa hp).neg (by decide) this
      have := add_rn (half_fi fb.opp gp) (half_fi fa.opp gq) gr
      rw [e1, e2, show - sv q + - sv p = - (sv p + sv q) by omega] at this
      exact (add_rn (half_fi fa hp) (half_fi fb hq) hr).neg (by decide) this
/-- Two medians of one list have one value. -/
theorem MedT.same {S : List Nat} {r s : Nat} (hS : ∀ x ∈ S, Fi x) (h : MedT S r true) (g : MedT S s true) : sv s = sv r := by
  rcases h with ⟨_, _, h3⟩ | ⟨h1, _, h3⟩ | ⟨h0, h1, _, a, b, p, q, ha, hb, hp, hq, hr⟩
  · cases h3
  · rcases g with ⟨_, _, g3⟩ | ⟨_, _, g3⟩ | ⟨_, g1, _⟩
    · cases g3
    · rw [h3] at g3; cases g3; rfl
    · omega
  · rcases g with ⟨_, _, g3⟩ | ⟨g1, _⟩ | ⟨_, _, _, a', b', p', q', ga, gb, gp, gq, gr⟩
    · cases g3
    · omega
    · rw [ha] at ga
      rw [hb] at gb
      cases ga
      cases gb
      have fa := hS _ (List.mem_of_getElem? ha)
      have fb := hS _ (List.mem_of_getElem? hb)
      have e1 := RN.val (by decide) (half_rn fa gp) (half_rn fa hp) (half_fi fa gp)
      have e2 := RN.val (by decide) (half_rn fb gq) (half_rn fb hq) (half_fi fb gq)
      have h5 := add_rn (half_fi fa gp) (half_fi fb gq) gr
      rw [e1, e2] at h5
      exact RN.val (by decide) h5 (add_rn (half_fi fa hp) (half_fi fb hq) hr) (sum_fi (half_fi fa gp) (half_fi fb gq) (half_size fa gp) (half_size fb gq) gr)
/-- Where halving loses nothing, the median lies between any two floats that hold all heights between them. -/
theorem MedT.between {S : List Nat} {r lo hi : Nat} (hS : ∀ x ∈ S, Fi x) (h : MedT S r true) (hlo : Fi lo) (hhi : Fi hi) (hb : ∀ x ∈ S, sv lo ≤ sv x ∧ sv x ≤ sv hi) (ht : ∀ x ∈ S, sv x = 0 ∨ 9007199254740992 ≤ (sv x).natAbs) : sv lo ≤ sv r ∧ sv r ≤ sv hi := by
  rcases h with ⟨_, _, h3⟩ | ⟨h1, _, h3⟩ | ⟨h0, h1, _, a, b, p, q, ha, hb', hp, hq, hr⟩
  · cases h3
  · exact hb _ (List.mem_of_getElem? h3)
  · have ma := List.mem_of_getElem? ha
    have mb := List.mem_of_getElem? hb'
    have e1 := half_exact (hS _ ma) hp (ht _ ma)
    have e2 := half_exact (hS _ mb) hq (ht _ mb)
    have b1 := hb _ ma
    have b2 := hb _ mb
    have hn := add_rn (half_fi (hS _ ma) hp) (half_fi (hS _ mb) hq) hr
    exact ⟨hn.ge_fl hlo (by omega), hn.le_fl hhi (by omega)⟩
end Go.Proofs.Ytaklojkdlmajeab

/- package record: At, lookAt, appendGap, All. -/
namespace Go.Proofs.Ytaklojkdlmajeab
open Go.RowKit
set_option linter.unusedVariables false
set_option linter.unusedSimpArgs false

/-- What At tells. -/
def yatR (L : List (Int × Nat)) (t : Int) : Nat × Bool := match rget L t with
  | none => (0, false)
  | some b => if isone b then (b, true) else (0, false)
theorem rget_has {L : List (Int × Nat)} {t : Int} : (rget L t).isSome = rhas L t := by
  unfold rget rhas
  rw [Option.isSome_map]
  induction L with
  | nil => rfl
  | cons y r ih =>
    rw [List.find?_cons, List.any_cons]
    cases h : (y.1 == t)
    · exact ih
    · rfl
theorem rget_mem {L : List (Int × Nat)} {t : Int} {b : Nat} (h : rget L t = some b) : (t, b) ∈ L := by
  unfold rget at h
  cases hf : L.find? (fun p => p.1 == t) with
  | none => rw [hf] at h; cases h
  | some p =>
    rw [hf] at h
    have e2 : p.2 = b := by simpa using h
    have e3 : p.1 = t := by simpa using List.find?_some hf
    have := List.mem_of_find?_eq_some hf
    rw [← e2, ← e3]
    exact this
theorem yat_none {L : List (Int × Nat)} {t : Int} (h : rget L t = none) : yatR L t = (0, false) := by unfold yatR; rw [h]
theorem yat_not {L : List (Int × Nat)} {t : Int} {b : Nat} (h : rget L t = some b) (o : isone b = false) : yatR L t = (0, false) := by unfold yatR; rw [h]; simp [o]
theorem yat_yes {L : List (Int × Nat)} {t : Int} {b : Nat} (h : rget L t = some b) (o : isone b = true) : yatR L t = (b, true) := by unfold yatR; rw [h]; simp [o]
/-- What lookAt tells of a record that was made. -/
def spR (a b : Int) : Int := if a < 0 ∨ 1048577 < b ∨ b < a then 2 else 0
/-- The cells of gaps. -/
def gpC (G : List (Int × Int)) : List Value := G.flatMap fun p => [.int .i64 p.1, .int .i64 p.2]
theorem gpC_append (M N : List (Int × Int)) : gpC (M ++ N) = gpC M ++ gpC N := by unfold gpC; rw [List.flatMap_append]
/-- One gap more, where there is one. -/
def gapR (G : List (Int × Int)) (a b : Int) : List (Int × Int) := if b ≤ a then G else G ++ [(a, b - a)]
end Go.Proofs.Ytaklojkdlmajeab

/- package record: All, and the going over of its samples. -/
namespace Go.Proofs.Ytaklojkdlmajeab
open Go.RowKit Go.Shelf
set_option linter.unusedVariables false
set_option linter.unusedSimpArgs false
attribute [local go_sem] Oper.semAt_some

theorem ybt {a b c : World} (h : Below a.heap.size a b) (g : Below b.heap.size b c) : Below a.heap.size a c := h.trans (g.mono h.size)
theorem yown_put {w : World} {base e s b t : Nat} {v : Value} {n : Nat} {xs : List Value} {vs : Array Value} (h : w.ownsRow base e s v n xs) (hb : FBox w b t vs) (ht : e ≠ t) (j : Nat) (u : Value) : (w.setCell ⟨b, j, none⟩ u).ownsRow base e s v n xs := by
  refine ⟨h.1, h.2.imp id ?_⟩
  rintro ⟨g, cap, cur, rfl, h1, h2, r⟩
  refine ⟨g, cap, cur, rfl, h1, ?_, r⟩
  rw [Below.heap_setCell]
  · exact h2
  · rintro rfl
    unfold FBox at hb
    rw [h2] at hb
    injection hb with hb
    injection hb with _ hb
    exact ht hb
theorem ybox2 (w : World) (t : Nat) (x y u v : Value) : ∃ Y A0 A1, w.alloc (.cells #[x, y] t) = Y ∧ Y.setCell ⟨w.heap.size, 0, none⟩ u = A0 ∧ A0.setCell ⟨w.heap.size, 1, none⟩ v = A1 ∧ (Y.cell? ⟨w.heap.size, 0, none⟩ = some x ∧ A0.cell? ⟨w.heap.size, 1, none⟩ = some y) ∧ (Y.frozen? ⟨w.heap.size, 0, none⟩ = false ∧ A0.frozen? ⟨w.heap.size, 1, none⟩ = false) ∧ (A1.cell? ⟨w.heap.size, 0, none⟩ = some u ∧ A1.cell? ⟨w.heap.size, 1, none⟩ = some v) ∧ Hid (FBox A1 w.heap.size t #[u, v] ∧ Below w.heap.size w A1) := by
  have h0 := FBox.made w t #[x, y]
  have h1 := h0.set 0 u
  have h2 := h1.set 1 v
  exact ⟨_, _, _, rfl, rfl, rfl, ⟨h0.cell 0, h1.cell 1⟩, ⟨h0.free 0, h1.free 1⟩, ⟨h2.cell 0, h2.cell 1⟩, h2, ((((Below.refl _ w).alloc (Nat.le_refl _) _).setCell (p := ⟨w.heap.size, 0, none⟩) (Nat.le_refl _) _).setCell (p := ⟨w.heap.size, 1, none⟩) (Nat.le_refl _) _)⟩
theorem grownBy_of_below {w w' : World} (h : Below w.heap.size w w') : w.grownBy w' none := ⟨h.os, h.tape, h.output, h.size, fun k hk _ => h.block k hk⟩
theorem yfin_succ (m k : Nat) (hk : k < m) : (List.finRange m).take (k + 1) = (List.finRange m).take k ++ [(⟨k, hk⟩ : _root_.Fin m)] := by
  rw [List.take_add_one, List.getElem?_eq_getElem (by simpa using hk)]
  simp
/-- A range over a function of two numbers: the law of the kit, at any slots. -/
theorem yrange {β : Type} {e1 e2 : β → Value} {g : Operand} {assign body : Code} {Q : Exit → Act → World → Prop} {a : Act} {w : World} {gf s1 s2 s3 s4 : Nat} {lb : Array Value}
    (hg : a.eval g = .func (.func gf) #[] lb) (eg : ∀ args w, (callFunc gf args).run Try.prog w = .ok (.enter gf args) w)
    {S Sp : List β → Prop} {N : Nat} {Kp : World → World → Prop} (hseq : SeqStopsK Fence.wide 2 Try.prog gf lb (fun x : β => #[e1 x, e2 x]) Kp S Sp N w) (hKt : ∀ {A B C : World}, Kp A B → Kp B C → Kp A C) (hKb : ∀ (W : World) (l : Nat) (o o' : Obj), w.heap.size ≤ l → W.heap[l]? = some o → o.isCells = false → o.isWalk = false → Kp W (W.putObj l o'))
    (I : List β → World → Prop) (Ix : Code → List β → World → Prop) (hI : OwnFrom w.heap.size I) (hIx : ∀ c, OwnFrom w.heap.size (Ix c)) (h0 : I [] w)
    (hassign : ∀ (l : Nat) (x : β) (W : World) (K : Act → World → Prop), K { tmps := (((a.tmps.setIfInBounds s1 (e1 x)).setIfInBounds s2 (e2 x)).setIfInBounds s3 (e1 x)).setIfInBounds s4 (e2 x), defers := [] } W →
      assign.wpIn (Fence.wide.inRound l) 1 Try.prog (Exit.then K (fun _ _ _ => False)) { tmps := (a.tmps.setIfInBounds s1 (e1 x)).setIfInBounds s2 (e2 x), defers := [] } W)
    (hbody : ∀ (l : Nat) (pre : List β) (x : β) (W : World), I pre W → pre.length < N → body.wpIn (Fence.wide.inRound l) 1 Try.prog (ownPostK Kp I Ix (pre ++ [x]) W) { tmps := (((a.tmps.setIfInBounds s1 (e1 x)).setIfInBounds s2 (e2 x)).setIfInBounds s3 (e1 x)).setIfInBounds s4 (e2 x), defers := [] } W)
    (hdone : ∀ (D : Nat) (xs : List β) (W : World), w.heap.size ≤ D → S xs → I xs W → W.heap[D]? = some (.deferred (some [])) → Q .normal { a with defers := { target := .collected D, args := #[] } :: a.defers } W)
    (hstop : ∀ (D : Nat) (c : Code) (pre : List β) (W : World), w.heap.size ≤ D → Sp pre → Ix c pre W → W.heap[D]? = some (.deferred (some [])) → c.wpIn Fence.wide 3 Try.prog Q { a with defers := { target := .collected D, args := #[] } :: a.defers } W) :
    (Code.rangeFunc g #[s1, s2] assign body).wpIn Fence.wide 3 Try.prog Q a w :=
  wpIn_rangeFunc_ownF rfl (by decide) hg trivial eg hseq hKt hKb (Below.refl _ _) (fun _ => rfl) I Ix hI hIx h0
    (fun x => { tmps := (((a.tmps.setIfInBounds s1 (e1 x)).setIfInBounds s2 (e2 x)).setIfInBounds s3 (e1 x)).setIfInBounds s4 (e2 x), defers := [] })
    (fun l x W K hK => by
      have e := hassign l x W K hK
      simpa using e) hbody hdone hstop
end Go.Proofs.Ytaklojkdlmajeab

/- package record: Between, of every record and span. -/
namespace Go.Proofs.Ytaklojkdlmajeab
open Go.RowKit Go.Shelf
set_option linter.unusedVariables false
set_option linter.unusedSimpArgs false
attribute [local go_sem] Oper.semAt_some

/-- The samples of a span. -/
def spanL (M : List (Int × Nat)) (a b : Int) : List (Int × Nat) := M.filter fun p => decide (a ≤ p.1) && decide (p.1 < b)
theorem yfin_map (M : List (Int × Nat)) : (List.finRange M.length).map (fun j => M[j.val]) = M := by
  apply List.ext_getElem
  · simp
  · intro i h1 h2; simp
/-- All that lay there but one block lies there still. -/
structure YdR (V W : World) (k : Nat) : Prop where
  size : V.heap.size ≤ W.heap.size
  same : ∀ b, b < V.heap.size → b ≠ k → W.heap[b]? = V.heap[b]?
theorem YdR.refl (V : World) (k : Nat) : YdR V V k := ⟨Nat.le_refl _, fun _ _ _ => rfl⟩
theorem YdR.put {V W : World} {k : Nat} (h : YdR V W k) (j : Nat) (v : Value) : YdR V (W.setCell ⟨k, j, none⟩ v) k := ⟨by simpa [World.setCell] using h.size, fun b hl hn => (Below.heap_setCell _ _ _ _ hn).trans (h.same b hl hn)⟩
theorem YdR.box {V W : World} {k b t : Nat} {vs : Array Value} (h : YdR V W k) (hF : FBox V b t vs) (hn : b ≠ k) : FBox W b t vs := (h.same b hF.lt hn).trans hF
theorem YdR.own {V W W' : World} {k : Nat} {row : Option Nat} (h : YdR V W k) (hg : W.grownBy W' row) (hr : ∀ r, row = some r → V.heap.size ≤ r) : YdR V W' k := ⟨Nat.le_trans h.size hg.size, fun b hl hn => (hg.block b (Nat.lt_of_lt_of_le hl h.size) (fun e => by have := hr b e.symm; omega)).trans (h.same b hl hn)⟩
/-- What stands while Between goes over the samples. -/
structure BtS (w w3 : World) (K0 : Nat) (Q : List (Int × Nat)) (W : World) : Prop where
  own : ∃ v, FBox W K0 30 #[v] ∧ W.ownsRow w3.heap.size 37 2 v Q.length (smC Q)
  rest : YdR w3 W K0
  bel : Below w.heap.size w W
theorem BtS.grow {w w3 A B : World} {K0 : Nat} {Q : List (Int × Nat)} {row : Option Nat} (h : BtS w w3 K0 Q A) (hk : K0 < w3.heap.size) (hw : w.heap.size ≤ w3.heap.size) (hg : A.grownBy B row) (hr : ∀ r, row = some r → w3.heap.size ≤ r ∧ ∃ o : Obj, A.heap[r]? = some o ∧ o.isCells = false) : BtS w w3 K0 Q B := by
  obtain ⟨v, h1, h2⟩ := h.own
  refine ⟨⟨v, ?_, h2.kept hg ?_⟩, h.rest.own hg (fun r e => (hr r e).1), h.bel.grown hg h.bel.size (fun k e => Nat.le_trans hw (hr k e).1)⟩
  · exact (hg.block K0 h1.lt (fun e => by have := (hr K0 e.symm).1; omega)).trans h1
  · rcases h2.2 with ⟨rfl, _⟩ | ⟨g, cap, cur, rfl, _, hh, _⟩
    · exact .inl rfl
    · right
      intro e
      obtain ⟨o, ho, hc⟩ := (hr g e.symm).2
      rw [hh] at ho
      injection ho with ho
      rw [← ho] at hc
      cases hc
end Go.Proofs.Ytaklojkdlmajeab

/- package record: Between refused, Gaps, of every record and span. -/
namespace Go.Proofs.Ytaklojkdlmajeab
open Go.RowKit
set_option linter.unusedVariables false
set_option linter.unusedSimpArgs false

/-- The gaps ahead of the samples of a list, and where the next one begins. -/
def gapF (Q : List (Int × Nat)) (s : List (Int × Int) × Int) : List (Int × Int) × Int := Q.foldl (fun s p => (gapR s.1 s.2 p.1, p.1 + 1)) s
def gapsR (Q : List (Int × Nat)) (a b : Int) : List (Int × Int) := gapR (gapF Q ([], a)).1 (gapF Q ([], a)).2 b
theorem gapF_snoc (Q : List (Int × Nat)) (p : Int × Nat) (s : List (Int × Int) × Int) : gapF (Q ++ [p]) s = (gapR (gapF Q s).1 (gapF Q s).2 p.1, p.1 + 1) := by unfold gapF; rw [List.foldl_append]; rfl
theorem gapR_len (G : List (Int × Int)) (a b : Int) : (gapR G a b).length ≤ G.length + 1 := by
  unfold gapR
  split
  · omega
  · rw [List.length_append]; simp
theorem gapF_in {Q : List (Int × Nat)} {a : Int} (ha : 0 ≤ a ∧ a ≤ 1048577) (hQ : ∀ p ∈ Q, 0 ≤ p.1 ∧ p.1 ≤ 1048576) : ∀ k, k ≤ Q.length → (gapF (Q.take k) ([], a)).1.length ≤ k ∧ 0 ≤ (gapF (Q.take k) ([], a)).2 ∧ (gapF (Q.take k) ([], a)).2 ≤ 1048577 := by
  intro k
  induction k with
  | zero => intro _; exact ⟨Nat.le_refl _, ha⟩
  | succ k ih =>
    intro hk
    have := ih (by omega)
    have hg : Q[k]? = some Q[k] := List.getElem?_eq_getElem (by omega)
    rw [List.take_add_one, hg]
    simp only [Option.toList_some]
    rw [gapF_snoc]
    have q := hQ Q[k] (List.getElem_mem _)
    have l := gapR_len (gapF (Q.take k) ([], a)).1 (gapF (Q.take k) ([], a)).2 (Q[k]).1
    exact ⟨by dsimp only; omega, by dsimp only; omega, by dsimp only; omega⟩
end Go.Proofs.Ytaklojkdlmajeab

/- The laws' own for records: lists held against each other; awake. -/
namespace Go.Proofs.Ytaklojkdlmajeab
open Go.RowKit
set_option linter.unusedVariables false
set_option linter.unusedSimpArgs false

theorem ydrewM {B n : Nat} {a w : World} (h : Below B a w) : Below B a (w.drewN n) := by
  induction n with
  | zero => exact h
  | succ n ih => exact ih.drew
theorem ybt' {a b c : World} (h : Below a.heap.size a b) (g : Below b.heap.size b c) : Below a.heap.size a c := h.trans (g.mono h.size)
theorem ylit {w : World} {b t j : Nat} {vs : Array Value} {u : Value} (hj : vs.toList[j]? = some u) (h : FBox w b t vs) : w.cell? ⟨b, j, none⟩ = some u := by
  rw [h.cell j, ← hj]
  simp
theorem RdV.get {w : World} {a : Option Addr} {xs : List Value} (h : RdV w a xs) {j : Nat} {u : Value} (hj : xs[j]? = some u) : ∃ g, a = some ⟨g, 0, none⟩ ∧ g < w.heap.size ∧ ∀ j u, xs[j]? = some u → w.cell? ⟨g, j, none⟩ = some u := by
  rcases h with rfl | h
  · simp at hj
  · exact h
theorem gpC_at {M : List (Int × Int)} : ∀ {k : Nat} {p : Int × Int}, M[k]? = some p → (gpC M)[k * 2]? = some (.int .i64 p.1) ∧ (gpC M)[k * 2 + 1]? = some (.int .i64 p.2) := by
  induction M with
  | nil => intro k p h; simp at h
  | cons q M ih =>
    intro k p h
    have e : gpC (q :: M) = .int .i64 q.1 :: .int .i64 q.2 :: gpC M := rfl
    rw [e]
    cases k with
    | zero => simp at h; subst h; exact ⟨rfl, rfl⟩
    | succ k =>
      have := ih (k := k) (p := p) (by simpa using h)
      rw [show (k + 1) * 2 = k * 2 + 1 + 1 by omega, show k * 2 + 1 + 1 + 1 = (k * 2 + 1) + 1 + 1 by omega]
      exact this
theorem ypeq_item (w : World) (d : Nat) (xs ys : Array Value) (k : Nat) (is : List Nat) (a : Int) (ha : xs[k]? = some (.int .i64 a)) (hb : ys[k]? = some (.int .i64 a)) :
    (Op.eqItems (d + 1) 3 1 xs ys (k :: is)).run Try.prog w = (Op.eqItems (d + 1) 3 1 xs ys is).run Try.prog w := by
  have p1 := run_part_plain (P := Try.prog) w (e := 3) (by kernel_rfl) (xs := xs) (off := k * 1) (v := .int .i64 a) (by rw [Nat.mul_one]; exact ha)
  have p2 := run_part_plain (P := Try.prog) w (e := 3) (by kernel_rfl) (xs := ys) (off := k * 1) (v := .int .i64 a) (by rw [Nat.mul_one]; exact hb)
  have p3 := run_equalIn_int (P := Try.prog) w d 3 .i64 .i64 a a Try.underlying3
  simp only [Op.eqItems, Sem.run_bind, p1, p2, p3, Result.andThen_ok]
  simp
end Go.Proofs.Ytaklojkdlmajeab

/- package record: From of any list of samples. -/
namespace Go.Proofs.Ytaklojkdlmajeab
open Go.RowKit
set_option linter.unusedVariables false
set_option linter.unusedSimpArgs false

/-- A list of samples in memory. -/
def RdS (w : World) (a : Option Addr) (xs : List (Int × Nat)) : Prop := xs = [] ∨ ∃ g o, a = some ⟨g, o, none⟩ ∧ g < w.heap.size ∧ ∀ j p, xs[j]? = some p → w.cell? ⟨g, o + j * 2, none⟩ = some (.int .i64 p.1) ∧ w.cell? ⟨g, o + j * 2 + 1, none⟩ = some (.float .f64 p.2)
theorem RdS.later {w w' : World} {B : Nat} {a : Option Addr} {xs : List (Int × Nat)} (h : RdS w a xs) (hb : Below w.heap.size w w') : RdS w' a xs := by
  rcases h with h | ⟨g, o, ha, hg, hc⟩
  · exact .inl h
  · have := hb.size
    refine .inr ⟨g, o, ha, by omega, fun j p hj => ?_⟩
    obtain ⟨e1, e2⟩ := hc j p hj
    exact ⟨(hb.cell (p := ⟨g, o + j * 2, none⟩) hg).trans e1, (hb.cell (p := ⟨g, o + j * 2 + 1, none⟩) hg).trans e2⟩
theorem RdS.of {w : World} {a : Option Addr} {xs : List (Int × Nat)} (h : RdV w a (smC xs)) : RdS w a xs := by
  rcases h with h | ⟨g, ha, hg, hc⟩
  · left
    cases xs with
    | nil => rfl
    | cons p r => simp [smC] at h
  · refine .inr ⟨g, 0, ha, hg, fun j p hj => ?_⟩
    have := smC_at hj
    rw [Nat.zero_add]
    exact ⟨hc _ _ this.1, hc _ _ this.2⟩
theorem RdS.get {w : World} {a : Option Addr} {xs : List (Int × Nat)} (h : RdS w a xs) {j : Nat} {p : Int × Nat} (hj : xs[j]? = some p) : ∃ g o, a = some ⟨g, o, none⟩ ∧ g < w.heap.size ∧ ∀ j p, xs[j]? = some p → w.cell? ⟨g, o + j * 2, none⟩ = some (.int .i64 p.1) ∧ w.cell? ⟨g, o + j * 2 + 1, none⟩ = some (.float .f64 p.2) := by
  rcases h with rfl | h
  · simp at hj
  · exact h
/-- What From comes to: the record, or the first error and its place. -/
def fromR : List (Int × Nat) → List (Int × Nat) → Nat → List (Int × Nat) × Option (Int × Nat)
  | L, [], _ => (L, none)
  | L, p :: r, i => if (addR L p.1 p.2).1 = 0 then fromR (addR L p.1 p.2).2 r (i + 1) else (L, some ((addR L p.1 p.2).1, i))
/-- What From hands back. -/
def fromV (rb : Nat) : Option (Int × Nat) → Value
  | none => .tuple #[.pointer (some ⟨rb, 0, none⟩), .agg #[.int .i64 0, .int .i64 0]]
  | some q => .tuple #[.pointer none, .agg #[.int .i64 q.1, .int .i64 (q.2 : Int)]]
theorem fromR_step {L : List (Int × Nat)} {xs : List (Int × Nat)} {k : Nat} {p : Int × Nat} (hp : xs[k]? = some p) : fromR L (xs.drop k) k = if (addR L p.1 p.2).1 = 0 then fromR (addR L p.1 p.2).2 (xs.drop (k + 1)) (k + 1) else (L, some ((addR L p.1 p.2).1, k)) := by
  obtain ⟨hl, e⟩ := List.getElem?_eq_some_iff.1 hp
  rw [List.drop_eq_getElem_cons hl, e, fromR]
/-- What From tells. -/
def FromT (w : World) (xs : List (Int × Nat)) (e : Ending) (w' : World) : Prop := ∃ rb mb, e = .returned (fromV rb (fromR [] xs 0).2) ∧ Hid (RecAt w' rb mb (fromR [] xs 0).1) ∧ Hid (w.heap.size ≤ mb ∧ w.heap.size ≤ rb) ∧ Below w.heap.size w w'
theorem RecAt.put {W : World} {rb mb b : Nat} {L : List (Int × Nat)} (h : RecAt W rb mb L) (h1 : rb ≠ b) (h2 : mb ≠ b) (j : Nat) (v : Value) : RecAt (W.setCell ⟨b, j, none⟩ v) rb mb L := h.kept (Below.heap_setCell _ _ _ _ h1) (Below.heap_setCell _ _ _ _ h2)
structure FrS (w : World) (rb mb : Nat) (L : List (Int × Nat)) (W : World) : Prop where
  bel : Below w.heap.size w W
  own : RecAt W rb mb L
  box : FBox W w.heap.size 46 #[.int .i64 0, .int .i64 0]
theorem FrS.later {w W W' : World} {rb mb : Nat} {L : List (Int × Nat)} (h : FrS w rb mb L W) (hb : Below W.heap.size W W') : FrS w rb mb L W' := ⟨ybt' h.bel hb, h.own.later hb, h.box.later hb h.box.lt⟩
theorem FrS.but {w W W' : World} {rb mb : Nat} {L L' : List (Int × Nat)} (h : FrS w rb mb L W) (hb : But mb W W') (hm : w.heap.size < mb) (hr : RecAt W' rb mb L') : FrS w rb mb L' W' := ⟨h.bel.trans (hb.below (Nat.le_of_lt hm) h.bel.size), hr, h.box.but hb (by omega)⟩
set_option maxHeartbeats 3200000 in
set_option maxRecDepth 100000 in
theorem yfrom_any (a : Option Addr) (n cap : Nat) (xs : List (Int × Nat)) (w : World) (hn : n ≤ 100000) (hl : xs.length = n) (hx : ∀ p ∈ xs, I64 p.1 ∧ p.2 < 18446744073709551616) (h : RdS w a xs) :
    Calls Try.prog 20 #[.slice a n cap] w (FromT w xs) := by
  obtain ⟨X, hX⟩ : ∃ X, w.alloc (.cells #[.int .i64 0, .int .i64 0] 46) = X := ⟨_, rfl⟩
  have HX : Hid (FBox X w.heap.size 46 #[.int .i64 0, .int .i64 0] ∧ Below w.heap.size w X) := by rw [← hX]; exact ⟨FBox.made _ _ _, (Below.refl _ _).alloc (Nat.le_refl _) _⟩
  have HN := hid (ynew_any X)
  have HD := hid h
  have HXS := hid hx
  clear h hx
  go_enter Try.func20, Try.ntmps20
  go_wp2_with fail
  clear hX
  refine Calls.mono HN.out ?_
  rintro e w1 ⟨rfl, R1, hb1⟩
  obtain ⟨rb, hrb⟩ : ∃ rb, X.heap.size + 1 = rb := ⟨_, rfl⟩
  obtain ⟨mb, hmb⟩ : ∃ mb, X.heap.size = mb := ⟨_, rfl⟩
  have hXm : w.heap.size < mb := by rw [← hmb]; exact HX.out.1.lt
  have hrm : w.heap.size < rb := by omega
  rw [hrb, hmb] at R1
  rw [hrb]
  have HB := hid (ybt' HX.out.2 hb1)
  have HF1 := hid (HX.out.1.later hb1 HX.out.1.lt)
  have HR1 := hid R1
  clear R1 hb1 hrb hmb HN HX
  go_wp2_with fail
  have sF : ∀ (W : World) (p : Addr) (y : Nat) (md : Mode), (store p (.float .f64 y) md).run Try.prog W = stored Try.prog W p (.float .f64 y) md := fun W p y md => run_store Try.prog W p _ md rfl
  go_loopw [11] (fun x wr => ∃ (k : Nat) (L : List (Int × Nat)), k ≤ n ∧ x = .int .i64 (k : Int) ∧ Hid (fromR L (xs.drop k) k = fromR [] xs 0) ∧ Hid (FrS w rb mb L wr)) (fun x _ => n - (intOf x).toNat)
  case atStart => exact ⟨0, [], Nat.zero_le _, rfl, rfl, ⟨HB.out, HR1.out, HF1.out⟩⟩
  case round =>
    obtain ⟨k, L, hk, rfl, HE, HS⟩ := hrel
    clear HB HR1 HF1
    by_cases hlt : k < n
    · obtain ⟨p, hp⟩ : ∃ p, xs[k]? = some p := ⟨_, List.getElem?_eq_getElem (by omega)⟩
      obtain ⟨t, b⟩ := p
      have HE2 := hid (HE.out)
      rw [fromR_step hp] at HE2
      obtain ⟨ht, hb⟩ := HXS.out _ (List.mem_of_getElem? hp)
      obtain ⟨g, o, rfl, hg, hc⟩ := HD.out.get hp
      obtain ⟨q0, q1⟩ := hc k _ hp
      have c0 : wr.cell? ⟨g, o + k * 2, none⟩ = some (.int .i64 t) := (HS.out.bel.cell (p := ⟨g, o + k * 2, none⟩) hg).trans q0
      have c1 : wr.cell? ⟨g, o + k * 2 + 1, none⟩ = some (.float .f64 b) := (HS.out.bel.cell (p := ⟨g, o + k * 2 + 1, none⟩) hg).trans q1
      have HTB : Hid (I64 t ∧ b < 18446744073709551616) := ⟨ht, hb⟩
      clear hp ht hb hc q0 q1 HE
      obtain ⟨Y, A0, A1, hY, hA0, hA1, ⟨y0, y1⟩, ⟨f0, f1⟩, ⟨z0, z1⟩, HBX⟩ := ybox2 wr 37 (.int .i64 0) (.float .f64 0) (.int .i64 t) (.float .f64 b)
      have HS4 := hid (HS.out.later HBX.out.2)
      have HA := hid (yadd_any rb mb L t b A1 HS4.out.own HTB.out.1 HTB.out.2)
      go_wp2_with fail
      clear hY hA0 hA1 y0 y1 f0 f1 z0 z1 c0 c1
      by_cases h0 : (addR L t b).1 = 0
      · rw [if_pos h0] at HE2
        rw [h0] at HA
        clear h0
        refine Calls.mono HA.out ?_
        rintro e w5 ⟨rfl, R5, k5⟩
        have HS5 := hid (HS4.out.but k5 hXm R5)
        clear R5 k5 HA HS4
        go_wp2_with fail
        go_roundw
        case rel => exact ⟨k + 1, _, by omega, by go_num, HE2.out, HS5.out⟩
        case measure => simp [intOf]; omega
      · rw [if_neg h0] at HE2
        rw [addR_no h0] at HA
        generalize (addR L t b).1 = z at *
        refine Calls.mono HA.out ?_
        rintro e w5 ⟨rfl, R5, k5⟩
        have HS5 := hid (HS4.out.but k5 hXm R5)
        clear R5 k5 HA HS4
        have d0 : w5.cell? ⟨w.heap.size, 0, none⟩ = some (.int .i64 0) := HS5.out.box.cell 0
        have d1 : w5.cell? ⟨w.heap.size, 1, none⟩ = some (.int .i64 0) := HS5.out.box.cell 1
        have q0 : w5.frozen? ⟨w.heap.size, 0, none⟩ = false := HS5.out.box.free 0
        have q1 : w5.frozen? ⟨w.heap.size, 1, none⟩ = false := HS5.out.box.free 1
        go_wp2_with fail
        have F1 := (HS5.out.box.set 0 (.int .i64 z)).set 1 (.int .i64 (k : Int))
        have e0 := F1.cell 0
        have e1 := F1.cell 1
        refine bodyPost_ret (v := Value.tuple #[.pointer none, .agg #[.int .i64 z, .int .i64 (k : Int)]]) (by simp [results, Try.results20, go_sem, e0, e1]) rfl ?_
        refine ⟨rb, mb, ?_, ?_, ⟨Nat.le_of_lt hXm, Nat.le_of_lt hrm⟩, (HS5.out.bel.setCell (p := ⟨w.heap.size, 0, none⟩) (Nat.le_refl _) _).setCell (p := ⟨w.heap.size, 1, none⟩) (Nat.le_refl _) _⟩
        · rw [← HE2.out]; rfl
        · rw [← HE2.out]
          exact (HS5.out.own.put (by omega) (by omega) 0 _).put (by omega) (by omega) 1 _
    · obtain rfl : k = n := by omega
      have HE2 := hid (HE.out)
      rw [List.drop_eq_nil_of_le (by omega), fromR] at HE2
      have d0 : wr.cell? ⟨w.heap.size, 0, none⟩ = some (.int .i64 0) := HS.out.box.cell 0
      have d1 : wr.cell? ⟨w.heap.size, 1, none⟩ = some (.int .i64 0) := HS.out.box.cell 1
      have q0 : wr.frozen? ⟨w.heap.size, 0, none⟩ = false := HS.out.box.free 0
      have q1 : wr.frozen? ⟨w.heap.size, 1, none⟩ = false := HS.out.box.free 1
      have hkk : ¬ (k : Int) < (k : Int) := by omega
      clear HE
      go_wp2_with fail
      have F1 := (HS.out.box.set 0 (.int .i64 0)).set 1 (.int .i64 0)
      have e0 := F1.cell 0
      have e1 := F1.cell 1
      refine bodyPost_ret (v := Value.tuple #[.pointer (some ⟨rb, 0, none⟩), .agg #[.int .i64 0, .int .i64 0]]) (by simp [results, Try.results20, go_sem, e0, e1]) rfl ?_
      refine ⟨rb, mb, ?_, ?_, ⟨Nat.le_of_lt hXm, Nat.le_of_lt hrm⟩, (HS.out.bel.setCell (p := ⟨w.heap.size, 0, none⟩) (Nat.le_refl _) _).setCell (p := ⟨w.heap.size, 1, none⟩) (Nat.le_refl _) _⟩
      · rw [← HE2.out]; rfl
      · rw [← HE2.out]
        exact (HS.out.own.put (by omega) (by omega) 0 _).put (by omega) (by omega) 1 _
end Go.Proofs.Ytaklojkdlmajeab

/- package clean: Rising, onLine, appendLine. -/
namespace Go.Proofs.Ytaklojkdlmajeab
open Go.RowKit
set_option linter.unusedVariables false
set_option linter.unusedSimpArgs false

theorem rise_adj : ∀ {xs : List (Int × Nat)}, (∀ i p q, xs[i]? = some p → xs[i + 1]? = some q → p.1 < q.1) → xs.Pairwise (fun p q => p.1 < q.1)
  | [], _ => .nil
  | [x], _ => by simp
  | x :: y :: r, h => by
    have ih : (y :: r).Pairwise (fun p q => p.1 < q.1) := rise_adj (fun i p q hp hq => h (i + 1) p q (by simpa using hp) (by simpa using hq))
    have hxy := h 0 x y rfl rfl
    refine List.pairwise_cons.2 ⟨fun p hp => ?_, ih⟩
    rcases List.mem_cons.1 hp with rfl | hp
    · exact hxy
    · have := (List.pairwise_cons.1 ih).1 p hp
      omega
theorem adj_rise {xs : List (Int × Nat)} (h : xs.Pairwise (fun p q => p.1 < q.1)) {i : Nat} {p q : Int × Nat} (hp : xs[i]? = some p) (hq : xs[i + 1]? = some q) : p.1 < q.1 := by
  obtain ⟨l1, e1⟩ := List.getElem?_eq_some_iff.1 hp
  obtain ⟨l2, e2⟩ := List.getElem?_eq_some_iff.1 hq
  have := List.pairwise_iff_getElem.1 h i (i + 1) l1 l2 (by omega)
  rw [e1, e2] at this
  exact this
theorem fwld_cell (op : BinOp) (V : World) (x y : Nat) (p : Addr) : (fwld op V x y).cell? p = V.cell? p := by
  unfold fwld
  split <;> rfl
/-- What Rising tells. -/
def RisT (w : World) (xs : List (Int × Nat)) (e : Ending) (w' : World) : Prop := ∃ b : Bool, e = .returned (.bool b) ∧ Hid (b = true ↔ xs.Pairwise (fun p q => p.1 < q.1)) ∧ Below w.heap.size w w'
set_option maxHeartbeats 1600000 in
set_option maxRecDepth 100000 in
theorem eRising_any (a : Option Addr) (n cap : Nat) (xs : List (Int × Nat)) (w : World) (hn : n ≤ 1000000) (hl : xs.length = n) (h : RdS w a xs) :
    Calls Try.prog 11 #[.slice a n cap] w (RisT w xs) := by
  have HD := hid h
  clear h
  go_enter Try.func11, Try.ntmps11
  go_wp2_with fail
  go_loopw [3] (fun x wr => ∃ k : Nat, 1 ≤ k ∧ (k ≤ n ∨ k = 1) ∧ x = .int .i64 (k : Int) ∧ Hid (∀ i p q, i + 1 < k → xs[i]? = some p → xs[i + 1]? = some q → p.1 < q.1) ∧ Hid (Below w.heap.size w wr)) (fun x _ => n + 1 - (intOf x).toNat)
  case atStart => exact ⟨1, Nat.le_refl _, .inr rfl, rfl, fun i p q h => by omega, Below.refl _ _⟩
  case round =>
    obtain ⟨k, hk1, hk2, rfl, HL, HW⟩ := hrel
    by_cases hlt : k < n
    · obtain ⟨j, rfl⟩ : ∃ j, k = j + 1 := ⟨k - 1, by omega⟩
      obtain ⟨p, hp⟩ : ∃ p, xs[j]? = some p := ⟨_, List.getElem?_eq_getElem (by omega)⟩
      obtain ⟨q, hq⟩ : ∃ p, xs[j + 1]? = some p := ⟨_, List.getElem?_eq_getElem (by omega)⟩
      obtain ⟨g, o, rfl, hg, hc⟩ := HD.out.get hp
      have c0 : wr.cell? ⟨g, o + j * 2, none⟩ = some (.int .i64 p.1) := (HW.out.cell (p := ⟨g, o + j * 2, none⟩) hg).trans (hc _ _ hp).1
      have c1 : wr.cell? ⟨g, o + (j + 1) * 2, none⟩ = some (.int .i64 q.1) := (HW.out.cell (p := ⟨g, o + (j + 1) * 2, none⟩) hg).trans (hc _ _ hq).1
      have HP := hid hp
      have HQ := hid hq
      have hj0 : (((j + 1 : Nat) : Int)) - 1 = (j : Int) := by omega
      have hj1 : ((j + 1 : Nat) : Int) < (n : Int) := by omega
      have hj2 : (j : Int) < (n : Int) := by omega
      clear hp hq hc
      by_cases hpq : p.1 < q.1
      · have hpq2 : ¬ q.1 ≤ p.1 := by omega
        have HPQ := hid hpq
        go_wp2_with fail
        go_quiet (fail)
        go_wp2_with fail
        refine ⟨⟨j + 2, by omega, .inl (by omega), by go_num, fun i p' q' h h1 h2 => ?_, ydrewMM HW.out⟩, by simp [intOf]; omega⟩
        rcases Nat.lt_or_ge (i + 1) (j + 1) with h3 | h3
        · exact HL.out i p' q' h3 h1 h2
        · obtain rfl : i = j := by omega
          rw [HP.out] at h1
          rw [HQ.out] at h2
          injection h1 with h1
          injection h2 with h2
          rw [← h1, ← h2]
          exact HPQ.out
      · have hpq2 : q.1 ≤ p.1 := by omega
        have HPQ := hid hpq
        go_wp2_with fail
        go_quiet (fail)
        go_wp2_with fail
        go_ret
        refine ⟨false, rfl, ⟨fun h => (by cases h), fun h => ?_⟩, ydrewMM HW.out⟩
        have h1 := adj_rise h HP.out HQ.out
        have h2 := HPQ.out
        omega
    · have hkk : ¬ (k : Int) < (n : Int) := by omega
      have HPw : Hid (xs.Pairwise (fun p q => p.1 < q.1)) := rise_adj (fun i p q hp hq => HL.out i p q (by have := (List.getElem?_eq_some_iff.1 hq).1; omega) hp hq)
      go_wp2_with fail
      go_ret
      exact ⟨true, rfl, ⟨fun _ => HPw.out, fun _ => rfl⟩, HW.out⟩
/-- What stands on a line, each step rounded. -/
def LineT (s : Int) (b : Nat) (t : Int) (c : Nat) (x : Int) (r : Nat) : Prop := ∃ d p m, FN .sub c b d ∧ FN .quo (floatOfInt .f64 (x - s)) (floatOfInt .f64 (t - s)) p ∧ FN .mul d p m ∧ FN .add b m r
set_option maxHeartbeats 1600000 in
set_option maxRecDepth 100000 in
theorem eline_any (s : Int) (b : Nat) (t : Int) (c : Nat) (x : Int) (w : World) (h1 : 0 ≤ s ∧ s ≤ x) (h2 : x ≤ t ∧ t ≤ 1048576) :
    Calls Try.prog 22 #[.agg #[.int .i64 s, .float .f64 b], .agg #[.int .i64 t, .float .f64 c], .int .i64 x] w fun e w' => ∃ r, e = .returned (.float .f64 r) ∧ Hid (LineT s b t c x r) ∧ Below w.heap.size w w' := by
  have rS := fsub_run Try.prog 24
  have rD := fquo_run Try.prog 24
  have rM := fmul_run Try.prog 24
  have rA := fadd_run Try.prog 24
  obtain ⟨X, hX⟩ : ∃ X, (w.alloc (.cells #[.int .i64 s, .float .f64 b] 37)).alloc (.cells #[.int .i64 t, .float .f64 c] 37) = X := ⟨_, rfl⟩
  have HX : Hid (FBox X w.heap.size 37 #[.int .i64 s, .float .f64 b] ∧ FBox X (w.heap.size + 1) 37 #[.int .i64 t, .float .f64 c] ∧ Below w.heap.size w X) := by
    rw [← hX]
    have q1 := FBox.made w 37 #[.int .i64 s, .float .f64 b]
    have q2 := FBox.made (w.alloc (.cells #[.int .i64 s, .float .f64 b] 37)) 37 #[.int .i64 t, .float .f64 c]
    rw [show (w.alloc (.cells #[.int .i64 s, .float .f64 b] 37)).heap.size = w.heap.size + 1 by simp] at q2
    exact ⟨q1.later ((Below.refl _ _).alloc (Nat.le_refl _) _) q1.lt, q2, ((Below.refl _ _).alloc (Nat.le_refl _) _).alloc (by simp) _⟩
  have c0 : X.cell? ⟨w.heap.size, 0, none⟩ = some (.int .i64 s) := HX.out.1.cell 0
  have c1 : X.cell? ⟨w.heap.size, 1, none⟩ = some (.float .f64 b) := HX.out.1.cell 1
  have d0 : X.cell? ⟨w.heap.size + 1, 0, none⟩ = some (.int .i64 t) := HX.out.2.1.cell 0
  have d1 : X.cell? ⟨w.heap.size + 1, 1, none⟩ = some (.float .f64 c) := HX.out.2.1.cell 1
  have hFc := fwld_cell
  go_enter Try.func22, Try.ntmps22
  go_wp2_with fail
  go_ret
  exact ⟨_, rfl, ⟨_, _, _, fval_fn _ _ _ _, fval_fn _ _ _ _, fval_fn _ _ _ _, fval_fn _ _ _ _⟩, fwld_below _ _ _ (fwld_below _ _ _ (fwld_below _ _ _ (fwld_below _ _ _ HX.out.2.2)))⟩
end Go.Proofs.Ytaklojkdlmajeab

/- package clean: appendLine. -/
namespace Go.Proofs.Ytaklojkdlmajeab
open Go.RowKit
set_option linter.unusedVariables false
set_option linter.unusedSimpArgs false

/-- What is put in between two samples. -/
def LineL (p q : Int × Nat) (M : List (Int × Nat)) : Prop := (3 < q.1 - p.1 - 1 ∧ M = []) ∨ (q.1 - p.1 - 1 ≤ 3 ∧ (M.length : Int) = q.1 - p.1 - 1 ∧ ∀ (j : Nat) x, M[j]? = some x → x.1 = p.1 + 1 + (j : Int) ∧ LineT p.1 p.2 q.1 q.2 x.1 x.2 ∧ x.2 < 18446744073709551616)
/-- What appendLine tells. -/
def AppT (base : Nat) (w : World) (v : Value) (F : List (Int × Nat)) (p q : Int × Nat) (e : Ending) (w' : World) : Prop := ∃ v' M, e = .returned v' ∧ Hid (w'.ownsRow base 37 2 v' (F ++ M).length (smC (F ++ M))) ∧ Hid (LineL p q M) ∧ Hid (∀ k, k < w.heap.size → some k ≠ v.ownBlock → w'.heap[k]? = w.heap[k]?) ∧ Below base w w'
theorem LineT.lt {s : Int} {b : Nat} {t : Int} {c : Nat} {x : Int} {r : Nat} (h : LineT s b t c x r) : r < 18446744073709551616 := by
  obtain ⟨d, p, m, _, _, _, h4⟩ := h
  exact h4.1
/-- What stands while a line is put in. -/
structure ApS (base : Nat) (w : World) (v0 : Value) (n0 : Nat) (F M : List (Int × Nat)) (s : Int) (b : Nat) (t : Int) (c : Nat) (v : Value) (W : World) : Prop where
  bel : Below base w W
  own : W.ownsRow base 37 2 v (F ++ M).length (smC (F ++ M))
  b1 : FBox W w.heap.size 37 #[.int .i64 s, .float .f64 b]
  b2 : FBox W (w.heap.size + 1) 37 #[.int .i64 t, .float .f64 c]
  away : ∀ q, v.ownBlock = some q → v0.ownBlock = some q ∨ n0 ≤ q
  low : ∀ q, v0.ownBlock = some q → q < w.heap.size
  keep : ∀ k, k < w.heap.size → some k ≠ v0.ownBlock → W.heap[k]? = w.heap[k]?
  sz : n0 ≤ W.heap.size ∧ w.heap.size + 2 ≤ n0
theorem ApS.later {base n0 : Nat} {w W W' : World} {F M : List (Int × Nat)} {s : Int} {b : Nat} {t : Int} {c : Nat} {v v0 : Value} (h : ApS base w v0 n0 F M s b t c v W) (hbs : base ≤ w.heap.size) (hb : Below W.heap.size W W') : ApS base w v0 n0 F M s b t c v W' :=
  ⟨h.bel.trans (hb.mono (by have := h.sz; omega)), yowns_later h.own hb, h.b1.later hb h.b1.lt, h.b2.later hb h.b2.lt, h.away, h.low, fun k hk hn => (hb.block k (by have := h.sz; omega)).trans (h.keep k hk hn), ⟨Nat.le_trans h.sz.1 hb.size, h.sz.2⟩⟩
theorem ApS.app {base n0 : Nat} {w W W' : World} {F M M' : List (Int × Nat)} {s : Int} {b : Nat} {t : Int} {c : Nat} {v v' v0 : Value} (h : ApS base w v0 n0 F M s b t c v W) (o : W'.ownsRow base 37 2 v' (F ++ M').length (smC (F ++ M'))) (hg : W.grownBy W' v.ownBlock) (ha : v'.ownBlock = v.ownBlock ∨ v'.ownBlock = some W.heap.size) (hbs : base ≤ w.heap.size) : ApS base w v0 n0 F M' s b t c v' W' := by
  have hz := h.sz
  have k : ∀ q, w.heap.size ≤ q → q < n0 → W'.heap[q]? = W.heap[q]? := fun q h1 h2 => hg.block q (by omega) (fun e => by
    rcases h.away q e.symm with h3 | h3
    · have := h.low q h3; omega
    · omega)
  refine ⟨h.bel.grown hg (by omega) (fun q e => (h.own.lt q e).1), o, (k _ (by omega) (by omega)).trans h.b1, (k _ (by omega) (by omega)).trans h.b2, fun q e => ?_, h.low, fun j hj hn => (hg.block j (by omega) (fun e => by
    rcases h.away j e.symm with h3 | h3
    · exact hn h3.symm
    · omega)).trans (h.keep j hj hn), ⟨Nat.le_trans hz.1 hg.size, hz.2⟩⟩
  rcases ha with ha | ha
  · rw [ha] at e; exact h.away q e
  · rw [ha] at e
    injection e with e
    right
    omega
set_option maxHeartbeats 3200000 in
set_option maxRecDepth 100000 in
theorem eappend_any (base : Nat) (v : Value) (F : List (Int × Nat)) (s : Int) (b : Nat) (t : Int) (c : Nat) (w : World) (h : w.ownsRow base 37 2 v F.length (smC F)) (hF : F.length ≤ 100000) (hbs : base ≤ w.heap.size) (h1 : 0 ≤ s) (h2 : s < t) (h3 : t ≤ 1048576) :
    Calls Try.prog 15 #[v, .agg #[.int .i64 s, .float .f64 b], .agg #[.int .i64 t, .float .f64 c]] w (AppT base w v F (s, b) (t, c)) := by
  obtain ⟨i0, hi, hz0, hz1, hz2⟩ := info_parts Try.yinfoS
  obtain ⟨X, hX⟩ : ∃ X, (w.alloc (.cells #[.int .i64 s, .float .f64 b] 37)).alloc (.cells #[.int .i64 t, .float .f64 c] 37) = X := ⟨_, rfl⟩
  have HX : Hid (FBox X w.heap.size 37 #[.int .i64 s, .float .f64 b] ∧ FBox X (w.heap.size + 1) 37 #[.int .i64 t, .float .f64 c] ∧ Below w.heap.size w X) := by
    rw [← hX]
    have q1 := FBox.made w 37 #[.int .i64 s, .float .f64 b]
    have q2 := FBox.made (w.alloc (.cells #[.int .i64 s, .float .f64 b] 37)) 37 #[.int .i64 t, .float .f64 c]
    rw [show (w.alloc (.cells #[.int .i64 s, .float .f64 b] 37)).heap.size = w.heap.size + 1 by simp] at q2
    exact ⟨q1.later ((Below.refl _ _).alloc (Nat.le_refl _) _) q1.lt, q2, ((Below.refl _ _).alloc (Nat.le_refl _) _).alloc (by simp) _⟩
  have HO := hid (yowns_later h HX.out.2.2)
  have HV : Hid (∀ q, v.ownBlock = some q → q < w.heap.size) := fun q e => (h.lt q e).2
  have c0 : X.cell? ⟨w.heap.size, 0, none⟩ = some (.int .i64 s) := HX.out.1.cell 0
  have d0 : X.cell? ⟨w.heap.size + 1, 0, none⟩ = some (.int .i64 t) := HX.out.2.1.cell 0
  clear h
  go_enter Try.func15, Try.ntmps15
  by_cases hg : 3 < t - s - 1
  · go_wp2_with fail
    go_ret
    exact ⟨v, [], rfl, by rw [List.append_nil]; exact HO.out, .inl ⟨hg, rfl⟩, fun k hk _ => HX.out.2.2.block k hk, HX.out.2.2.mono hbs⟩
  · have hXs : X.heap.size = w.heap.size + 2 := by rw [← hX]; simp
    have HS0 : Hid (ApS base w v X.heap.size F [] s b t c v X) := ⟨HX.out.2.2.mono hbs, by rw [List.append_nil]; exact HO.out, HX.out.1, HX.out.2.1, fun q e => .inl e, HV.out, fun k hk _ => HX.out.2.2.block k hk, ⟨Nat.le_refl _, by omega⟩⟩
    go_wp2_with fail
    clear hX HX HO c0 d0
    generalize X.heap.size = n0 at *
    go_loopw [0, 7] (fun vv x wr => ∃ (k : Nat) (M : List (Int × Nat)), (k : Int) ≤ t - s - 1 ∧ x = .int .i64 (s + 1 + (k : Int)) ∧ M.length = k ∧ Hid (∀ (j : Nat) x, M[j]? = some x → x.1 = s + 1 + (j : Int) ∧ LineT s b t c x.1 x.2 ∧ x.2 < 18446744073709551616) ∧ Hid (ApS base w v n0 F M s b t c vv wr)) (fun _ x _ => (t - intOf x).toNat)
    case atStart => exact ⟨0, [], by omega, by go_num, rfl, fun j x hj => by simp at hj, HS0.out⟩
    case round =>
      obtain ⟨k, M, hk, rfl, hMl, HM, HS⟩ := hrel
      clear HS0
      have c0 : wr.cell? ⟨w.heap.size, 0, none⟩ = some (.int .i64 s) := HS.out.b1.cell 0
      have c1 : wr.cell? ⟨w.heap.size, 1, none⟩ = some (.float .f64 b) := HS.out.b1.cell 1
      have d0 : wr.cell? ⟨w.heap.size + 1, 0, none⟩ = some (.int .i64 t) := HS.out.b2.cell 0
      have d1 : wr.cell? ⟨w.heap.size + 1, 1, none⟩ = some (.float .f64 c) := HS.out.b2.cell 1
      by_cases hlt : s + 1 + (k : Int) < t
      · have HA := hid (eline_any s b t c (s + 1 + (k : Int)) wr (by omega) (by omega))
        go_wp2_with fail
        refine Calls.mono HA.out ?_
        rintro e w2 ⟨r, rfl, HL, hb2⟩
        have HS2 := hid (HS.out.later hbs hb2)
        have HS3 := hid (HS2.out.later hbs ((Below.refl _ _).alloc (Nat.le_refl _) (.cells #[.int .i64 (s + 1 + (k : Int)), .float .f64 r] 37)))
        have ho := HS3.out.own
        have hsz := HS2.out.sz
        have hfm : (F ++ M).length ≤ 100004 := by rw [List.length_append]; omega
        clear hb2 HA HS c0 c1 d0 d1
        go_wp2_with (first
          | (at_builtin; refine wpList_append_own_at _ rfl _ _ 30 rfl base 37 i0 (.agg #[.int .i64 0, .float .f64 0]) 2 16 Try.underlying30 hi hz0 hz1 hz2 rfl (by decide) _ _ _ rfl ho ⟨w2.heap.size, 0, none⟩ 1 1 [.int .i64 (s + 1 + (k : Int)), .float .f64 r] rfl rfl (ycell2 _ _ _ _) (smC_one (s + 1 + (k : Int), r)) (by unfold maxLen; omega) (by omega) (by simp; omega) ?_; intro v' w4 ho4 hg4 _ ha4)
          | go_in)
        have HS4 : Hid (ApS base w v n0 F (M ++ [(s + 1 + (k : Int), r)]) s b t c v' w4) := by
          refine HS3.out.app ?_ hg4 ha4 hbs
          rw [← List.append_assoc, List.length_append, smC_append]
          exact ho4
        clear hg4 ho4 ha4 ho HS3 HS2
        go_wp2_with fail
        go_roundw
        case rel =>
          refine ⟨k + 1, M ++ [(s + 1 + (k : Int), r)], by omega, by go_num, by simp [hMl], fun j x hj => ?_, HS4.out⟩
          rcases Nat.lt_or_ge j M.length with h | h
          · rw [List.getElem?_append_left h] at hj
            exact HM.out j x hj
          · rw [List.getElem?_append_right h] at hj
            have hj0 : j = M.length := by
              have := (List.getElem?_eq_some_iff.1 hj).1
              simp at this
              omega
            subst hj0
            simp at hj
            subst hj
            refine ⟨by rw [hMl], HL.out, HL.out.lt⟩
        case measure => simp [intOf]; omega
      · have hkt : (k : Int) = t - s - 1 := by omega
        go_wp2_with fail
        go_ret
        exact ⟨_, M, rfl, HS.out.own, .inr ⟨by omega, by rw [hMl]; exact hkt, HM.out⟩, HS.out.keep, HS.out.bel⟩
end Go.Proofs.Ytaklojkdlmajeab

/- package clean: onesRising; what Fill makes, no program. -/
namespace Go.Proofs.Ytaklojkdlmajeab
open Go.RowKit
set_option linter.unusedVariables false
set_option linter.unusedSimpArgs false

def tOk (t : Int) : Prop := 0 ≤ t ∧ t ≤ 1048576
theorem pw_app {L : List (Int × Nat)} {p : Int × Nat} {xs : List (Int × Nat)} (h : (L ++ p :: xs).Pairwise (fun p q => p.1 < q.1)) : ((L ++ [p]) ++ xs).Pairwise (fun p q => p.1 < q.1) := by rw [List.append_assoc]; exact h
theorem add_end {L : List (Int × Nat)} {p : Int × Nat} {xs : List (Int × Nat)} (h : (L ++ p :: xs).Pairwise (fun p q => p.1 < q.1)) (ht : tOk p.1) (hl : L.length < 4096) : addR L p.1 p.2 = (0, L ++ [p]) := by
  have hlt : ∀ q ∈ L, q.1 < p.1 := fun q hq => (List.pairwise_append.1 h).2.2 q hq p List.mem_cons_self
  have hno : rhas L p.1 = false := by
    cases hh : rhas L p.1
    · rfl
    · obtain ⟨b, hb⟩ := rhas_yes hh
      have := hlt _ hb
      dsimp only at this
      omega
  unfold addR
  have e : rins (p.1, p.2) L = L ++ [(p.1, p.2)] := by
    have key : ∀ (M : List (Int × Nat)), (∀ q ∈ M, q.1 < p.1) → rins (p.1, p.2) M = M ++ [(p.1, p.2)] := by
      intro M
      induction M with
      | nil => intro _; rfl
      | cons y r ih =>
        intro hM
        have hy := hM y List.mem_cons_self
        unfold rins
        rw [if_neg (by dsimp only; omega), ih (fun q hq => hM q (List.mem_cons_of_mem _ hq))]
        rfl
    exact key L hlt
  rw [if_neg (by have := ht.1; have := ht.2; omega), if_neg (by rw [hno]; simp), if_neg (by omega), e]
theorem fromR_ok : ∀ (xs L : List (Int × Nat)) (i : Nat), (L ++ xs).Pairwise (fun p q => p.1 < q.1) → (∀ p ∈ xs, tOk p.1) → (L ++ xs).length ≤ 4096 → fromR L xs i = (L ++ xs, none)
  | [], L, i, _, _, _ => by rw [fromR, List.append_nil]
  | p :: xs, L, i, h, ht, hl => by
    have hl2 : L.length < 4096 := by simp at hl; omega
    rw [fromR, add_end h (ht p List.mem_cons_self) hl2, if_pos rfl, fromR_ok xs (L ++ [p]) (i + 1) (pw_app h) (fun q hq => ht q (List.mem_cons_of_mem _ hq)) (by rw [List.append_assoc]; exact hl), List.append_assoc]
    rfl
theorem fromR_bad : ∀ (xs L : List (Int × Nat)) (i : Nat), (L ++ xs).Pairwise (fun p q => p.1 < q.1) → (∃ p ∈ xs, ¬ tOk p.1) → (L ++ xs).length ≤ 4096 → ∃ j, (fromR L xs i).2 = some (2, j)
  | [], L, i, _, hb, _ => by obtain ⟨p, hp, _⟩ := hb; simp at hp
  | p :: xs, L, i, h, hb, hl => by
    have hl2 : L.length < 4096 := by simp at hl; omega
    by_cases ht : tOk p.1
    · obtain ⟨q, hq, hn⟩ := hb
      rcases List.mem_cons.1 hq with rfl | hq
      · exact absurd ht hn
      · rw [fromR, add_end h ht hl2, if_pos rfl]
        exact fromR_bad xs (L ++ [p]) (i + 1) (pw_app h) ⟨q, hq, hn⟩ (by rw [List.append_assoc]; exact hl)
    · have e : addR L p.1 p.2 = (2, L) := if_pos ht
      rw [fromR, e, if_neg (show ¬ (2 : Int) = 0 by decide)]
      exact ⟨i, rfl⟩
/-- May samples be filled? -/
def goodS (xs : List (Int × Nat)) : Prop := xs.length ≤ 4096 ∧ xs.Pairwise (fun p q => p.1 < q.1) ∧ ∀ p ∈ xs, tOk p.1
def errS (xs : List (Int × Nat)) : Int := if 4096 < xs.length then 3 else 2
/-- What onesRising tells. -/
def OnT (w : World) (xs : List (Int × Nat)) (e : Ending) (w' : World) : Prop := ∃ v err, e = .returned (.tuple #[v, .int .i64 err]) ∧ Hid ((¬ goodS xs ∧ err = errS xs ∧ v = .slice none 0 0) ∨ (goodS xs ∧ err = 0 ∧ w'.ownsRow w.heap.size 37 2 v (onesL xs true).length (smC (onesL xs true)))) ∧ Below w.heap.size w w'
set_option maxHeartbeats 3200000 in
set_option maxRecDepth 100000 in
theorem eones_any (a : Option Addr) (n cap : Nat) (xs : List (Int × Nat)) (w : World) (hn : n ≤ 9223372036854775807) (hl : xs.length = n) (hx : ∀ p ∈ xs, I64 p.1 ∧ p.2 < 18446744073709551616) (h : RdS w a xs) :
    Calls Try.prog 14 #[.slice a n cap] w (OnT w xs) := by
  have HD := hid h
  have HX := hid hx
  clear h hx
  by_cases hlong : 4096 < n
  · have hlong2 : (4096 : Int) < (n : Int) := by omega
    have HE : Hid (¬ goodS xs ∧ errS xs = 3) := ⟨fun h => by have := h.1; omega, by unfold errS; rw [if_pos (by omega)]⟩
    go_enter Try.func14, Try.ntmps14
    go_wp2_with fail
    go_returns
    exact ⟨_, _, rfl, .inl ⟨HE.out.1, HE.out.2.symm, rfl⟩, Below.refl _ _⟩
  · have hlong2 : ¬ (4096 : Int) < (n : Int) := by omega
    have HEr : Hid (errS xs = 2) := by unfold errS; rw [if_neg (by omega)]; rfl
    have HR := hid (eRising_any a n cap xs w (by omega) hl HD.out)
    go_enter Try.func14, Try.ntmps14
    go_wp2_with fail
    refine Calls.mono HR.out ?_
    rintro e w1 ⟨b, rfl, HB, hb1⟩
    have HB1 := hid hb1
    have HA := hid (yfrom_any a n cap xs w1 (by omega) hl HX.out (HD.out.later (B := 0) hb1))
    clear hb1 HR
    cases b
    · have HN : Hid (¬ goodS xs) := fun h => by have := HB.out.2 h.2.1; cases this
      go_wp2_with fail
      go_returns
      exact ⟨_, _, rfl, .inl ⟨HN.out, HEr.out.symm, rfl⟩, HB1.out⟩
    · have HPw := hid (HB.out.1 rfl)
      go_wp2_with fail
      refine Calls.mono HA.out ?_
      rintro e w2 ⟨rb, mb, rfl, HRc, HLo, hb2⟩
      have HB2 := hid (ybt' HB1.out hb2)
      clear hb2 HA HB1
      by_cases hg : ∀ p ∈ xs, tOk p.1
      · have e := fromR_ok xs [] 0 HPw.out hg (by show xs.length ≤ 4096; omega)
        rw [List.nil_append] at e
        rw [e] at HRc
        rw [e]
        rw [show fromV rb (xs, (none : Option (Int × Nat))).2 = .tuple #[.pointer (some ⟨rb, 0, none⟩), .agg #[.int .i64 0, .int .i64 0]] from rfl]
        have HG : Hid (goodS xs) := ⟨by omega, HPw.out, hg⟩
        clear e hg
        obtain ⟨Y, A0, A1, hY, hA0, hA1, ⟨y0, y1⟩, ⟨f0, f1⟩, ⟨z0, z1⟩, HBX⟩ := ybox2 w2 46 (.int .i64 0) (.int .i64 0) (.int .i64 0) (.int .i64 0)
        go_wp2_with fail
        clear hY hA0 hA1 y0 y1 f0 f1 z0 z1
        refine Calls.mono (ysamples_any rb mb xs A1 (HRc.out.later HBX.out.2)) ?_
        rintro e w3 ⟨v3, rfl, O3, hb3⟩
        have HB3 := hid (ybt' HB2.out (ybt' HBX.out.2 hb3))
        have HO3 := hid (yowns_base O3.out (Nat.le_trans HB2.out.size HBX.out.2.size))
        clear O3 hb3 HBX HB2
        go_wp2_with fail
        go_returns
        exact ⟨_, _, rfl, .inr ⟨HG.out, rfl, HO3.out⟩, HB3.out⟩
      · obtain ⟨j, e⟩ := fromR_bad xs [] 0 HPw.out (Classical.byContradiction fun hc => hg fun p hp => Classical.byContradiction fun ht => hc ⟨p, hp, ht⟩) (by show xs.length ≤ 4096; omega)
        rw [e]
        rw [show fromV rb (some (2, j)) = .tuple #[.pointer none, .agg #[.int .i64 2, .int .i64 (j : Int)]] from rfl]
        have HN : Hid (¬ goodS xs) := fun h => hg h.2.2
        clear e hg
        obtain ⟨Y, A0, A1, hY, hA0, hA1, ⟨y0, y1⟩, ⟨f0, f1⟩, ⟨z0, z1⟩, HBX⟩ := ybox2 w2 46 (.int .i64 0) (.int .i64 0) (.int .i64 2) (.int .i64 (j : Int))
        go_wp2_with fail
        clear hY hA0 hA1 y0 y1 f0 f1
        go_quiet (fail)
        go_wp2_with fail
        go_returns
        exact ⟨_, _, rfl, .inl ⟨HN.out, HEr.out.symm, rfl⟩, ydrewMM (ybt' HB2.out HBX.out.2)⟩
/-! ### What Fill makes -/
inductive FilP : List (Int × Nat) → List (Int × Nat) → Prop
  | nil : FilP [] []
  | one (q : Int × Nat) : FilP [q] [q]
  | more (O : List (Int × Nat)) (p q : Int × Nat) (F M : List (Int × Nat)) : FilP (O ++ [p]) F → LineL p q M → FilP (O ++ [p] ++ [q]) (F ++ M ++ [q])
theorem LineL.len {p q : Int × Nat} {M : List (Int × Nat)} (h : LineL p q M) : M.length ≤ 3 := by
  rcases h with ⟨_, rfl⟩ | ⟨h1, h2, _⟩
  · simp
  · omega
theorem FilP.len {O F : List (Int × Nat)} (h : FilP O F) : F.length ≤ 4 * O.length := by
  induction h with
  | nil => simp
  | one q => simp
  | more O p q F M h hl ih =>
    have := hl.len
    simp at ih ⊢
    omega
/-- What Fill tells. -/
def FilT (w : World) (xs : List (Int × Nat)) (e : Ending) (w' : World) : Prop := ∃ v err, e = .returned (.tuple #[v, .int .i64 err]) ∧ Hid ((¬ goodS xs ∧ err = errS xs ∧ v = .slice none 0 0) ∨ (goodS xs ∧ ∃ F, FilP (onesL xs true) F ∧ (((∃ p ∈ F, isone p.2 = false) ∧ err = 9 ∧ v = .slice none 0 0) ∨ ((∀ p ∈ F, isone p.2 = true) ∧ 4096 < F.length ∧ err = 3 ∧ v = .slice none 0 0) ∨ ((∀ p ∈ F, isone p.2 = true) ∧ F.length ≤ 4096 ∧ err = 0 ∧ w'.ownsRow w.heap.size 37 2 v F.length (smC F))))) ∧ Below w.heap.size w w'
end Go.Proofs.Ytaklojkdlmajeab

/- package clean: Fill. -/
namespace Go.Proofs.Ytaklojkdlmajeab
open Go.RowKit
set_option linter.unusedVariables false
set_option linter.unusedSimpArgs false

theorem FilP.lt {O F : List (Int × Nat)} (h : FilP O F) (ho : ∀ p ∈ O, p.2 < 18446744073709551616) : ∀ p ∈ F, p.2 < 18446744073709551616 := by
  induction h with
  | nil => simp
  | one q => exact ho
  | more O p q F M h hl ih =>
    intro x hx
    rcases List.mem_append.1 hx with hx | hx
    · rcases List.mem_append.1 hx with hx | hx
      · exact ih (fun y hy => ho y (List.mem_append.2 (.inl hy))) x hx
      · rcases hl with ⟨_, rfl⟩ | ⟨_, _, h3⟩
        · simp at hx
        · obtain ⟨j, hj⟩ := List.getElem?_of_mem hx
          exact (h3 j x hj).2.2
    · exact ho x (List.mem_append.2 (.inr hx))
theorem FilP.next {O F M : List (Int × Nat)} {k : Nat} {p q : Int × Nat} (h : FilP (O.take (k + 1)) F) (hp : O[k]? = some p) (hq : O[k + 1]? = some q) (hl : LineL p q M) : FilP (O.take (k + 2)) (F ++ M ++ [q]) := by
  have e1 : O.take (k + 1) = O.take k ++ [p] := by rw [List.take_add_one, hp]; rfl
  have e2 : O.take (k + 2) = O.take k ++ [p] ++ [q] := by rw [List.take_add_one, hq, e1]; rfl
  rw [e1] at h
  rw [e2]
  exact FilP.more _ p q F M h hl
set_option maxHeartbeats 6400000 in
set_option maxRecDepth 100000 in
theorem efill_any (a : Option Addr) (n cap : Nat) (xs : List (Int × Nat)) (w : World) (hn : n ≤ 9223372036854775807) (hl : xs.length = n) (hx : ∀ p ∈ xs, I64 p.1 ∧ p.2 < 18446744073709551616) (h : RdS w a xs) :
    Calls Try.prog 9 #[.slice a n cap] w (FilT w xs) := by
  obtain ⟨i0, hi, hz0, hz1, hz2⟩ := info_parts Try.yinfoS
  have HO := hid (eones_any a n cap xs w hn hl hx h)
  have HX := hid hx
  clear h hx
  go_enter Try.func9, Try.ntmps9
  go_wp2_with fail
  refine Calls.mono HO.out ?_
  rintro e w1 ⟨v1, err, rfl, HC, hb1⟩
  have HB1 := hid hb1
  clear hb1 HO
  rcases HC.out with ⟨hg, he, hv⟩ | ⟨hg, he, hown⟩
  · have HG := hid hg
    have HE := hid he
    have hne : ¬ err = 0 := by rw [he]; unfold errS; split <;> decide
    subst hv
    clear hg he HC
    go_wp2_with fail
    go_returns
    exact ⟨_, _, rfl, .inl ⟨HG.out, HE.out, rfl⟩, HB1.out⟩
  · subst he
    have HG := hid hg
    obtain ⟨a1, c1, rfl, hV⟩ := yshape hown
    have HV := hid (RdS.of hV)
    have hol : (onesL xs true).length ≤ 4096 := Nat.le_trans (List.length_filter_le _ _) hg.1
    have HOk : Hid ((onesL xs true).Pairwise (fun p q => p.1 < q.1) ∧ ∀ p ∈ onesL xs true, tOk p.1 ∧ p.2 < 18446744073709551616) := ⟨hg.2.1.filter _, fun p hp => ⟨hg.2.2 p (List.mem_filter.1 hp).1, (HX.out p (List.mem_filter.1 hp).1).2⟩⟩
    clear hg hV hown HC
    obtain ⟨O, hO⟩ : ∃ O, onesL xs true = O := ⟨_, rfl⟩
    have HEO := hid hO
    rw [hO] at HV hol HOk
    rw [hO]
    clear hO
    go_wp2_with fail
    have sF : ∀ (W : World) (p : Addr) (y : Nat) (md : Mode), (store p (.float .f64 y) md).run Try.prog W = stored Try.prog W p (.float .f64 y) md := fun W p y md => run_store Try.prog W p _ md rfl
    go_loopw [6, 21] (fun v x wr => ∃ (k : Nat) (F : List (Int × Nat)), k ≤ O.length ∧ x = .int .i64 (k : Int) ∧ Hid (FilP (O.take k) F) ∧ Hid (wr.ownsRow w1.heap.size 37 2 v F.length (smC F)) ∧ Hid (Below w1.heap.size w1 wr)) (fun _ x _ => O.length - (intOf x).toNat)
    case atStart => exact ⟨0, [], Nat.zero_le _, rfl, FilP.nil, World.ownsRow_nil _ _ _ _, Below.refl _ _⟩
    case round =>
      obtain ⟨k, F, hk, rfl, HP, HOw, HW⟩ := hrel
      by_cases hlt : k < O.length
      · obtain ⟨q, hq⟩ : ∃ p, O[k]? = some p := ⟨_, List.getElem?_eq_getElem hlt⟩
        obtain ⟨t, c⟩ := q
        obtain ⟨g, o, rfl, hg, hc⟩ := HV.out.get hq
        have HCq : Hid (∀ V, Below w1.heap.size w1 V → V.cell? ⟨g, o + k * 2, none⟩ = some (.int .i64 t) ∧ V.cell? ⟨g, o + k * 2 + 1, none⟩ = some (.float .f64 c)) := fun V hV => ⟨(hV.cell (p := ⟨g, o + k * 2, none⟩) hg).trans (hc _ _ hq).1, (hV.cell (p := ⟨g, o + k * 2 + 1, none⟩) hg).trans (hc _ _ hq).2⟩
        obtain ⟨c0, c1⟩ := HCq.out _ HW.out
        have HQ := hid hq
        have hFl : F.length ≤ 16384 := by have := HP.out.len; rw [List.length_take] at this; omega
        obtain ⟨Y, A0, A1, hY, hA0, hA1, ⟨y0, y1⟩, ⟨f0, f1⟩, ⟨z0, z1⟩, HBX⟩ := ybox2 wr 37 (.int .i64 0) (.float .f64 0) (.int .i64 t) (.float .f64 c)
        have HWA := hid (ybt' HW.out HBX.out.2)
        have HOA := hid (yowns_later HOw.out HBX.out.2)
        have hszA := HWA.out.size
        by_cases hk0 : 0 < k
        · obtain ⟨j, rfl⟩ : ∃ j, k = j + 1 := ⟨k - 1, by omega⟩
          obtain ⟨p, hp⟩ : ∃ p, O[j]? = some p := ⟨_, List.getElem?_eq_getElem (by omega)⟩
          obtain ⟨s, b⟩ := p
          have HPj := hid hp
          have HCp : Hid (∀ V, Below w1.heap.size w1 V → V.cell? ⟨g, o + j * 2, none⟩ = some (.int .i64 s) ∧ V.cell? ⟨g, o + j * 2 + 1, none⟩ = some (.float .f64 b)) := fun V hV => ⟨(hV.cell (p := ⟨g, o + j * 2, none⟩) hg).trans (hc _ _ hp).1, (hV.cell (p := ⟨g, o + j * 2 + 1, none⟩) hg).trans (hc _ _ hp).2⟩
          obtain ⟨e0, e1⟩ := HCp.out A1 HWA.out
          have hki : ((j + 1 : Nat) : Int) - 1 = (j : Int) := by omega
          have hk2 : (0 : Int) < ((j + 1 : Nat) : Int) := by omega
          have hj1 : ((j + 1 : Nat) : Int) < (O.length : Int) := by omega
          have hj2 : (j : Int) < (O.length : Int) := by omega
          have hj3 : (0 : Int) ≤ (j : Int) := by omega
          have hw3 : IntKind.i64.wrap (j : Int) = (j : Int) := by rw [IntKind.wrap_i64]; omega
          have hw1 : IntKind.i64.wrap ((j : Int) + 1 - 1) = (j : Int) := by rw [IntKind.wrap_i64]; omega
          have hw2 : IntKind.i64.wrap (((j + 1 : Nat) : Int) - 1) = (j : Int) := by rw [IntKind.wrap_i64]; omega
          have HT : Hid (0 ≤ s ∧ s < t ∧ t ≤ 1048576) := by
            have q1 := (HOk.out.2 _ (List.mem_of_getElem? hp)).1
            have q2 := (HOk.out.2 _ (List.mem_of_getElem? hq)).1
            have q3 := adj_rise HOk.out.1 hp hq
            exact ⟨q1.1, q3, q2.2⟩
          have HAp := hid (eappend_any w1.heap.size _ F s b t c A1.drew (yowns_later HOA.out ((Below.refl _ _).drew)) (by omega) HWA.out.size HT.out.1 HT.out.2.1 HT.out.2.2)
          have hs0 : A1.drew.cell? ⟨g, o + j * 2, none⟩ = some (.int .i64 s) ∧ A1.drew.cell? ⟨g, o + j * 2 + 1, none⟩ = some (.float .f64 b) ∧ A1.drew.cell? ⟨wr.heap.size, 0, none⟩ = some (.int .i64 t) ∧ A1.drew.cell? ⟨wr.heap.size, 1, none⟩ = some (.float .f64 c) := ⟨e0, e1, z0, z1⟩
          clear hc hq hp
          go_wp2_with fail
          clear hY hA0 hA1 y0 y1 f0 f1
          go_region_held3 (fun V : World => V.cell? ⟨g, o + j * 2, none⟩ = some (.int .i64 s) ∧ V.cell? ⟨g, o + j * 2 + 1, none⟩ = some (.float .f64 b) ∧ V.cell? ⟨wr.heap.size, 0, none⟩ = some (.int .i64 t) ∧ V.cell? ⟨wr.heap.size, 1, none⟩ = some (.float .f64 c)) (first | exact hs0 | exact hs2 | go_keep)
            (first | (go_at_call 15; (with_reducible refine Calls.mono HAp.out ?_); rintro e w2 ⟨v2, M, rfl, HO2, HL2, HK2, hb2⟩; have HB2 := hid (HWA.out.drew.trans hb2); have HF2 : Hid (FBox w2 wr.heap.size 37 #[.int .i64 t, .float .f64 c]) := ((HK2.out wr.heap.size HBX.out.1.lt (fun e => by have := (HOw.out.lt _ e.symm).2; omega))).trans HBX.out.1; have hs2 : w2.cell? ⟨g, o + j * 2, none⟩ = some (.int .i64 s) ∧ w2.cell? ⟨g, o + j * 2 + 1, none⟩ = some (.float .f64 b) ∧ w2.cell? ⟨wr.heap.size, 0, none⟩ = some (.int .i64 t) ∧ w2.cell? ⟨wr.heap.size, 1, none⟩ = some (.float .f64 c) := ⟨(HCp.out w2 HB2.out).1, (HCp.out w2 HB2.out).2, HF2.out.cell 0, HF2.out.cell 1⟩))
          have g0 : w2.cell? ⟨wr.heap.size, 0, none⟩ = some (.int .i64 t) := HF2.out.cell 0
          have g1 : w2.cell? ⟨wr.heap.size, 1, none⟩ = some (.float .f64 c) := HF2.out.cell 1
          have ho := HO2.out
          have hs9 := HB2.out.size
          have hfm : (F ++ M).length ≤ 20000 := by have := HL2.out.len; rw [List.length_append]; omega
          clear hs0 hs2 z0 z1 e0 e1
          go_wp2_with (first
            | (at_builtin; refine wpList_append_own _ rfl _ _ 30 rfl w1.heap.size 37 i0 (.agg #[.int .i64 0, .float .f64 0]) 2 16 Try.underlying30 hi hz0 hz1 hz2 rfl (by decide) _ _ _ rfl (ho.alloc _) ⟨w2.heap.size, 0, none⟩ 1 1 [.int .i64 t, .float .f64 c] rfl rfl (ycell2 _ _ _ _) (smC_one (t, c)) (by unfold maxLen; omega) (by omega) (by simp; omega) ?_; intro v' w4 ho4 hg4 _)
            | go_in)
          refine ⟨⟨j + 1 + 1, F ++ M ++ [(t, c)], by omega, by go_num, ?_, ?_, (HB2.out.alloc (by omega) _).grown hg4 (by simp; omega) (fun q e => (ho.lt q e).1)⟩, by simp [intOf]; omega⟩
          · exact FilP.next HP.out HPj.out HQ.out HL2.out
          · rw [List.length_append, smC_append]
            exact ho4
        · have hk2 : ¬ (0 : Int) < (k : Int) := by omega
          have ho := HOA.out
          clear hc hq
          go_wp2_with (first
            | (at_builtin; refine wpList_append_own _ rfl _ _ 30 rfl w1.heap.size 37 i0 (.agg #[.int .i64 0, .float .f64 0]) 2 16 Try.underlying30 hi hz0 hz1 hz2 rfl (by decide) _ _ _ rfl (ho.alloc _) ⟨A1.heap.size, 0, none⟩ 1 1 [.int .i64 t, .float .f64 c] rfl rfl (ycell2 _ _ _ _) (smC_one (t, c)) (by unfold maxLen; omega) (by omega) (by simp; omega) ?_; intro v' w4 ho4 hg4 _)
            | go_in)
          have hk00 : k = 0 := by omega
          have hF0 : F = [] := by
            have := HP.out.len
            rw [hk00] at this
            exact List.eq_nil_of_length_eq_zero (by simpa using this)
          refine ⟨⟨k + 1, [(t, c)], by omega, by go_num, ?_, ?_, (HWA.out.alloc (by omega) _).grown hg4 (by simp; omega) (fun q e => (ho.lt q e).1)⟩, by simp [intOf]; omega⟩
          · have e : O.take (k + 1) = [(t, c)] := by rw [List.take_add_one, HQ.out, hk00]; rfl
            rw [e]
            exact FilP.one _
          · rw [hF0] at ho4
            exact ho4
      · obtain rfl : k = O.length := by omega
        rw [List.take_length] at HP
        have hkk : ¬ (O.length : Int) < (O.length : Int) := by omega
        obtain ⟨a6, c6, rfl, hV6⟩ := yshape HOw.out
        have HV6 := hid (RdS.of hV6)
        have hFl : F.length ≤ 16384 := by have := HP.out.len; omega
        have HFb : Hid (∀ p ∈ F, p.2 < 18446744073709551616) := HP.out.lt (fun p hp => (HOk.out.2 p hp).2)
        have HBW := hid (ybt' HB1.out HW.out)
        clear hV6
        obtain ⟨U, rfl⟩ : ∃ U, U = wr := ⟨_, rfl⟩
        go_wp2_with fail
        go_loopw [43] (fun x wr2 => ∃ m : Nat, m ≤ F.length ∧ x = .int .i64 (m : Int) ∧ Hid (∀ p ∈ F.take m, isone p.2 = true) ∧ Hid (Below U.heap.size U wr2)) (fun x _ => F.length - (intOf x).toNat)
        case atStart => exact ⟨0, Nat.zero_le _, rfl, fun p hp => by simp at hp, Below.refl _ _⟩
        case round =>
          obtain ⟨m, hm, rfl, HI, HU⟩ := hrel
          by_cases hmlt : m < F.length
          · obtain ⟨q, hq⟩ : ∃ p, F[m]? = some p := ⟨_, List.getElem?_eq_getElem hmlt⟩
            obtain ⟨t, c⟩ := q
            obtain ⟨g, o, rfl, hg, hc⟩ := HV6.out.get hq
            have c0 : wr.cell? ⟨g, o + m * 2, none⟩ = some (.int .i64 t) := (HU.out.cell (p := ⟨g, o + m * 2, none⟩) hg).trans (hc _ _ hq).1
            have c1 : wr.cell? ⟨g, o + m * 2 + 1, none⟩ = some (.float .f64 c) := (HU.out.cell (p := ⟨g, o + m * 2 + 1, none⟩) hg).trans (hc _ _ hq).2
            obtain ⟨Y, A0, A1, hY, hA0, hA1, ⟨y0, y1⟩, ⟨f0, f1⟩, ⟨z0, z1⟩, HBX⟩ := ybox2 wr 37 (.int .i64 0) (.float .f64 0) (.int .i64 t) (.float .f64 c)
            have HOne := hid (eisone_any c A1 (HFb.out _ (List.mem_of_getElem? hq)))
            have HQ := hid hq
            clear hc hq
            cases hone : isone c
            · rw [hone] at HOne
              have HN : Hid (∃ p ∈ F, isone p.2 = false) := ⟨(t, c), List.mem_of_getElem? HQ.out, hone⟩
              clear hone
              go_wp2_with fail
              refine Calls.mono HOne.out ?_
              rintro e w3 ⟨rfl, rfl⟩
              clear hY hA0 hA1 y0 y1 f0 f1 z0 z1
              go_wp2_with fail
              go_returns
              exact ⟨_, _, rfl, .inr ⟨HG.out, F, by rw [HEO.out]; exact HP.out, .inl ⟨HN.out, rfl, rfl⟩⟩, ybt' HBW.out (ybt' HU.out HBX.out.2)⟩
            · rw [hone] at HOne
              have HI2 : Hid (∀ p ∈ F.take (m + 1), isone p.2 = true) := fun p hp => by
                rw [List.take_add_one, HQ.out] at hp
                rcases List.mem_append.1 hp with h | h
                · exact HI.out p h
                · simp at h
                  subst h
                  exact hone
              clear hone
              go_wp2_with fail
              refine Calls.mono HOne.out ?_
              rintro e w3 ⟨rfl, rfl⟩
              clear hY hA0 hA1 y0 y1 f0 f1 z0 z1
              go_wp2_with fail
              go_roundw
              case rel => exact ⟨m + 1, by omega, by go_num, HI2.out, ybt' HU.out HBX.out.2⟩
              case measure => simp [intOf]; omega
          · obtain rfl : m = F.length := by omega
            have hmm : ¬ (F.length : Int) < (F.length : Int) := by omega
            have HAll : Hid (∀ p ∈ F, isone p.2 = true) := by have := HI.out; rw [List.take_length] at this; exact this
            have HBZ := hid (ybt' HBW.out HU.out)
            have HOz := hid (yowns_base (yowns_later HOw.out HU.out) HB1.out.size)
            by_cases hlong : 4096 < F.length
            · have hlong2 : (4096 : Int) < (F.length : Int) := by omega
              go_wp2_with fail
              go_returns
              exact ⟨_, _, rfl, .inr ⟨HG.out, F, by rw [HEO.out]; exact HP.out, .inr (.inl ⟨HAll.out, hlong, rfl, rfl⟩)⟩, HBZ.out⟩
            · have hlong2 : ¬ (4096 : Int) < (F.length : Int) := by omega
              go_wp2_with fail
              go_returns
              exact ⟨_, _, rfl, .inr ⟨HG.out, F, by rw [HEO.out]; exact HP.out, .inr (.inr ⟨HAll.out, by omega, rfl, HOz.out⟩)⟩, HBZ.out⟩
end Go.Proofs.Ytaklojkdlmajeab

/- Layer 20's lives: two of the chapter's examples. -/
namespace Go.Proofs.Ytaklojkdlmajeab
open Go.RowKit
set_option linter.unusedVariables false
set_option linter.unusedSimpArgs false

theorem FilP.none {F : List (Int × Nat)} (h : FilP [] F) : F = [] := by
  generalize hO : ([] : List (Int × Nat)) = O at h
  cases h with
  | nil => rfl
  | one q => cases hO
  | more O p q F M h hl => simp at hO
theorem FilP.single {p : Int × Nat} {F : List (Int × Nat)} (h : FilP [p] F) : F = [p] := by
  generalize hO : [p] = O at h
  cases h with
  | nil => cases hO
  | one q => rfl
  | more O p' q F M h hl =>
    have := congrArg List.length hO
    simp at this
theorem FilP.snoc {O : List (Int × Nat)} {p q : Int × Nat} {F : List (Int × Nat)} (h : FilP (O ++ [p] ++ [q]) F) : ∃ F' M, FilP (O ++ [p]) F' ∧ LineL p q M ∧ F = F' ++ M ++ [q] := by
  generalize hO : O ++ [p] ++ [q] = X at h
  cases h with
  | nil => simp at hO
  | one q' =>
    have := congrArg List.length hO
    simp at this
  | more O' p' q' F' M h hl =>
    have e1 := List.append_inj' hO rfl
    have e2 := List.append_inj' e1.1 rfl
    have e3 : q = q' := by simpa using e1.2
    have e4 : p = p' := by simpa using e2.2
    subst e3 e4
    rw [e2.1]
    exact ⟨F', M, h, hl, rfl⟩
theorem FilP.two {p q : Int × Nat} {F : List (Int × Nat)} (h : FilP [p, q] F) : ∃ M, LineL p q M ∧ F = [p] ++ M ++ [q] := by
  obtain ⟨F', M, h1, h2, h3⟩ := FilP.snoc (O := []) h
  rw [FilP.single h1] at h3
  exact ⟨M, h2, h3⟩
theorem line_is {s : Int} {b : Nat} {t : Int} {c : Nat} {x : Int} {r d p m k : Nat} (h : LineT s b t c x r) (h1 : floatBits .sub .f64 c b = some d) (h2 : floatBits .quo .f64 (floatOfInt .f64 (x - s)) (floatOfInt .f64 (t - s)) = some p) (h3 : floatBits .mul .f64 d p = some m) (h4 : floatBits .add .f64 b m = some k) : r = k := by
  obtain ⟨d', p', m', g1, g2, g3, g4⟩ := h
  obtain rfl := g1.bits h1
  obtain rfl := g2.bits h2
  obtain rfl := g3.bits h3
  exact g4.bits h4
/-- The first example's samples, filled. -/
theorem live_fill {F : List (Int × Nat)} (h : FilP (onesL [(1, 0), (4, 4613937818241073152)] true) F) : F = [(1, 0), (2, 4607182418800017408), (3, 4611686018427387904), (4, 4613937818241073152)] := by
  have e : onesL [(1, 0), (4, 4613937818241073152)] true = [(1, 0), (4, 4613937818241073152)] := by decide
  rw [e] at h
  obtain ⟨M, hl, rfl⟩ := h.two
  rcases hl with ⟨hb, _⟩ | ⟨_, h2, h3⟩
  · simp at hb
  · have hlen : M.length = 2 := by
      dsimp only at h2
      omega
    match M, hlen with
    | [x, y], _ =>
      obtain ⟨x1, x2, _⟩ := h3 0 x rfl
      obtain ⟨y1, y2, _⟩ := h3 1 y rfl
      dsimp only at x1 x2 y1 y2
      obtain ⟨tx, bx⟩ := x
      obtain ⟨ty, by_⟩ := y
      dsimp only at x1 x2 y1 y2
      have ex : tx = 2 := by simpa using x1
      have ey : ty = 3 := by simpa using y1
      subst ex ey
      have rx := line_is (k := 4607182418800017408) x2 (d := 4613937818241073152) (p := 4599676419421066581) (m := 4607182418800017408) (by decide +kernel) (by decide +kernel) (by decide +kernel) (by decide +kernel)
      have ry := line_is (k := 4611686018427387904) y2 (d := 4613937818241073152) (p := 4604180019048437077) (m := 4611686018427387904) (by decide +kernel) (by decide +kernel) (by decide +kernel) (by decide +kernel)
      rw [rx, ry]
      rfl
theorem live_med {r : Nat} {o : Bool} (h : MedT (srtF [4616189618054758400, 4607182418800017408]) r o) : r = 4612811918334230528 ∧ o = true := by
  have e : srtF [4616189618054758400, 4607182418800017408] = [4607182418800017408, 4616189618054758400] := by
    refine srtF_eq ?_ ?_
    · have : [4616189618054758400, 4607182418800017408].filter isone = [4616189618054758400, 4607182418800017408] := by decide
      rw [this]
      exact List.Perm.swap _ _ _
    · simp [kz]
  rw [e] at h
  rcases h with ⟨h0, _⟩ | ⟨h1, _⟩ | ⟨_, _, ho, a, b, p, q, ha, hb, hp, hq, hr⟩
  · cases h0
  · simp at h1
  · have ea : a = 4607182418800017408 := by simpa using ha.symm
    have eb : b = 4616189618054758400 := by simpa using hb.symm
    subst ea eb
    have ep := hp.bits (show _ = some 4602678819172646912 by decide +kernel)
    have eq := hq.bits (show _ = some 4611686018427387904 by decide +kernel)
    subst ep eq
    exact ⟨hr.bits (by decide +kernel), ho⟩
theorem efleq (d : Nat) (t : TypeId) (a b : Nat) (w : World) (h : Try.prog.underlying t = some (.float .f64)) : (Op.equalIn (d + 1) t (.float .f64 a) (.float .f64 b)).run Try.prog w = .ok (FloatKind.f64.format.order a b == some .eq) w := by
  simp [Op.equalIn, run_underlying h]
  rfl
theorem esmeq (t : Int) (b : Nat) (hb : fin b = true) (w : World) : (Op.equalIn 10000 37 (.agg #[.int .i64 t, .float .f64 b]) (.agg #[.int .i64 t, .float .f64 b])).run Try.prog w = .ok true w := by
  have u1 := Try.underlying3
  have u2 := efleq 9998 24 b b w Try.underlying24
  rw [order_self hb] at u2
  have hS : Try.prog.underlying 37 = some (.struct (Try.prog.fieldsOf 37)) := by kernel_rfl
  rw [show (10000 : Nat) = 9999 + 1 from rfl, run_equalIn_agg w 9999 37 _ _ hS (by kernel_rfl)]
  simp only [Program.fieldsOf, Try.underlying37]
  go_simp
set_option maxHeartbeats 3200000 in
set_option maxRecDepth 100000 in
theorem elives_any (w : World) : Calls Try.prog 5 #[] w fun e w' => e = .returned (.bool true) ∧ Below w.heap.size w w' := by
  obtain ⟨X, hX⟩ : ∃ X, w.alloc (.cells #[.int .i64 1, .float .f64 0, .int .i64 4, .float .f64 4613937818241073152] 37) = X := ⟨_, rfl⟩
  have HX : Hid (FBox X w.heap.size 37 #[.int .i64 1, .float .f64 0, .int .i64 4, .float .f64 4613937818241073152] ∧ Below w.heap.size w X) := by rw [← hX]; exact ⟨FBox.made _ _ _, (Below.refl _ _).alloc (Nat.le_refl _) _⟩
  have HR : Hid (RdS X (some ⟨w.heap.size, 0, none⟩) [(1, 0), (4, 4613937818241073152)]) := .inr ⟨_, 0, rfl, HX.out.1.lt, fun j p hj => by
    match j, hj with
    | 0, hj => obtain rfl : (1, 0) = p := by simpa using hj
               exact ⟨HX.out.1.cell 0, HX.out.1.cell 1⟩
    | 1, hj => obtain rfl : (4, 4613937818241073152) = p := by simpa using hj
               exact ⟨HX.out.1.cell 2, HX.out.1.cell 3⟩
    | j + 2, hj => simp at hj⟩
  have HF := hid (efill_any (some ⟨w.heap.size, 0, none⟩) 2 2 _ X (by decide) rfl (fun p hp => by
    simp at hp
    rcases hp with rfl | rfl <;> exact ⟨by unfold I64; omega, by decide⟩) HR.out)
  go_enter Try.func5, Try.ntmps5
  go_wp2_with fail
  clear hX
  refine Calls.mono HF.out ?_
  rintro e w1 ⟨v, err, rfl, HC, hb1⟩
  have HV : Hid (err = 0 ∧ w1.ownsRow X.heap.size 37 2 v 4 (smC [(1, 0), (2, 4607182418800017408), (3, 4611686018427387904), (4, 4613937818241073152)])) := by
    rcases HC.out with ⟨hg, _⟩ | ⟨hg, F, hF, hc⟩
    · refine absurd ?_ hg
      refine ⟨by decide, by simp, fun p hp => ?_⟩
      simp at hp
      rcases hp with rfl | rfl <;> exact ⟨by decide, by decide⟩
    · obtain rfl := live_fill hF
      rcases hc with ⟨hx, _⟩ | ⟨_, hx, _⟩ | ⟨_, _, h1, h2⟩
      · exfalso
        simp [isone] at hx
      · simp at hx
      · exact ⟨h1, h2⟩
  obtain ⟨hv1, hv2⟩ := HV.out
  subst hv1
  obtain ⟨a1, c1, rfl, hV1⟩ := yshape hv2
  have HV1 := hid hV1
  have HB1 := hid (ybt' HX.out.2 hb1)
  clear hV1 hv2 HV HC hb1 HF HR HX
  obtain ⟨Y, hY⟩ : ∃ Y, w1.alloc (.cells #[.float .f64 4616189618054758400, .float .f64 4607182418800017408] 24) = Y := ⟨_, rfl⟩
  have HY : Hid (FBox Y w1.heap.size 24 #[.float .f64 4616189618054758400, .float .f64 4607182418800017408] ∧ Below w1.heap.size w1 Y) := by rw [← hY]; exact ⟨FBox.made _ _ _, (Below.refl _ _).alloc (Nat.le_refl _) _⟩
  have HM := hid (emedian_any (some ⟨w1.heap.size, 0, none⟩) 2 2 [4616189618054758400, 4607182418800017408] Y (by decide) rfl (fun x hx => by simp at hx; rcases hx with rfl | rfl <;> decide) (.inr ⟨_, 0, rfl, HY.out.1.lt, fun j x hj => by
    match j, hj with
    | 0, hj => obtain rfl : 4616189618054758400 = x := by simpa using hj
               exact HY.out.1.cell 0
    | 1, hj => obtain rfl : 4607182418800017408 = x := by simpa using hj
               exact HY.out.1.cell 1
    | j + 2, hj => simp at hj⟩))
  go_wp2_with fail
  clear hY
  refine Calls.mono HM.out ?_
  rintro e w2 ⟨r, o, rfl, HR, hb2⟩
  obtain ⟨h1, h2⟩ := live_med HR.out
  subst h1 h2
  have HB2 := hid (ybt' HB1.out (ybt' HY.out.2 hb2))
  have HV2 := hid (HV1.out.later (ybt' HY.out.2 hb2))
  obtain ⟨g, rfl, hg, hc⟩ := HV2.out.get (j := 4) (u := .int .i64 3) rfl
  have c4 : w2.cell? ⟨g, 4, none⟩ = some (.int .i64 3) := hc 4 _ rfl
  have c5 : w2.cell? ⟨g, 5, none⟩ = some (.float .f64 4611686018427387904) := hc 5 _ rfl
  have hEQ := esmeq 3 4611686018427387904 (by decide)
  have ho : (FloatKind.f64.format.order 4612811918334230528 4612811918334230528 == some .eq) = true := by decide +kernel
  clear hb2 HM HY HR hc HV1 HB1
  go_wp2_with fail
  go_ret
  exact ⟨rfl, HB2.out⟩
end Go.Proofs.Ytaklojkdlmajeab

/- Samples and heights that came in; what Fill makes has no small gap, and is filled already; no program. -/
namespace Go.Proofs.Ytaklojkdlmajeab
open Go.RowKit Go.ChangeShapes Go.WideShapes Go.Deep Go.Joins
set_option linter.unusedVariables false

theorem etrod_float {H : Type} {enc : TypeId × Value → H} {P : Program} {w : World} {base : Nat} {spare : Nat → Bool} {held : Bool} {fuel : Nat} {t : TypeId} {cs : List Value} {x : DataW H × List MemPlace} (ht : P.underlying t = some (.float .f64)) (h : DataW.trod enc P w base spare held fuel t cs = some x) : ∃ n, cs = [.float .f64 n] ∧ n < 18446744073709551616 := by
  cases fuel with
  | zero => simp [DataW.trod] at h
  | succ n =>
    unfold DataW.trod at h
    rw [ht] at h
    split at h
    all_goals try (simp_all; done)
    rename_i k k' b he
    injection he with he
    injection he with he
    subst he
    split at h
    · rename_i hc
      obtain ⟨rfl, hw⟩ := hc
      exact ⟨b, rfl, by simpa [Lit.wf] using hw⟩
    · cases h
theorem sample_of_trod {H : Type} {enc : TypeId × Value → H} {P : Program} {w : World} {held : Bool} {t e : TypeId} {f0 f1 : Field} {n : Nat} {v : Value} {x : DataW H × List MemPlace} (ht : P.underlying t = some (.slice e)) (he : P.underlying e = some (.struct #[f0, f1])) (ce : P.cellsOf e = 2)
    (o0 : f0.offset = 0) (o1 : f1.offset = 1) (c0 : P.cellsOf f0.type = 1) (c1 : P.cellsOf f1.type = 1) (u0 : P.underlying f0.type = some (.int .i64)) (u1 : P.underlying f1.type = some (.float .f64))
    (h : DataW.trod enc P w 0 (fun _ => true) held n t [v] = some x) :
    ∃ a len cap xs, v = .slice a len cap ∧ len ≤ cap ∧ cap ≤ maxLen ∧ (a = none → len = 0 ∧ cap = 0) ∧ xs.length = len ∧ (∀ p ∈ xs, I64 p.1 ∧ p.2 < 18446744073709551616) ∧ RdS w a xs := by
  rcases open_slice ht h with ⟨h0, _⟩ | ⟨a, len, cap, m, k, Dt, Pl, hcs, _, hl, hm, hmm, hx, hel⟩
  · simp at h0
    exact ⟨none, 0, 0, [], h0, Nat.le_refl _, Nat.zero_le _, fun _ => ⟨rfl, rfl⟩, rfl, by simp, .inl rfl⟩
  · simp at hcs
    rw [ce] at hel
    have hlm : len ≤ m := by rw [hmm]; split <;> omega
    have each : ∀ i, i < len → ∃ q : Int × Nat, w.cells? 0 (a.add (i * 2)) 2 = some [.int .i64 q.1, .float .f64 q.2] ∧ I64 q.1 ∧ q.2 < 18446744073709551616 := by
      intro i hi
      obtain ⟨cs, h1, h2⟩ := hel i (by omega)
      obtain ⟨ys, k', hk, hxy, hcl, hxl, hf⟩ := DataW.trod_struct he h2
      rw [ce] at hcl
      match ys, hxl, cs, hcl with
      | [y0, y1], _, [v0, v1], _ =>
        have g0 := hf 0 f0 rfl
        have g1 := hf 1 f1 rfl
        simp [o0, o1, c0, c1] at g0 g1
        obtain ⟨p, hp, _, wp⟩ := DataW.trod_int u0 g0
        obtain ⟨q, hq, wq⟩ := etrod_float u1 g1
        simp at hp hq
        subst hp hq
        exact ⟨(p, q), h1, yl_i64 wp, wq⟩
    obtain ⟨q, hq⟩ := yl_choose each
    have hxo : ∀ j p, ((List.range len).map q)[j]? = some p → j < len ∧ p = q j := fun j p hj => by
      rw [List.getElem?_map] at hj
      by_cases hlt : j < len
      · rw [List.getElem?_range hlt] at hj
        simp at hj
        exact ⟨hlt, hj.symm⟩
      · rw [List.getElem?_eq_none (by simp; omega)] at hj
        simp at hj
    refine ⟨some a, len, cap, (List.range len).map q, hcs, hl, hm, (fun h => by cases h), by simp, fun p hp => ?_, ?_⟩
    · obtain ⟨j, hj⟩ := List.getElem?_of_mem hp
      obtain ⟨hlt, rfl⟩ := hxo j p hj
      exact (hq j hlt).2
    · by_cases hz : len = 0
      · subst hz
        exact .inl rfl
      right
      obtain ⟨b, o, spot⟩ := a
      have hs : spot = none := by
        obtain ⟨_, _, hc⟩ := World.cells?_some (hq 0 (by omega)).1
        have e0 := hc 0 (by omega)
        simpa [Addr.add] using World.cell?_spot e0
      subst hs
      have cells : ∀ j, j < len → w.cell? ⟨b, o + j * 2, none⟩ = some (.int .i64 (q j).1) ∧ w.cell? ⟨b, o + j * 2 + 1, none⟩ = some (.float .f64 (q j).2) := by
        intro j hj
        obtain ⟨_, _, hc⟩ := World.cells?_some (hq j hj).1
        have e0 := hc 0 (by omega)
        have e1 := hc 1 (by omega)
        rw [Addr.add_add, Addr.add_lit] at e0 e1
        rw [show o + (j * 2 + 1) = o + j * 2 + 1 by omega] at e1
        exact ⟨by simpa using e0, by simpa using e1⟩
      refine ⟨b, o, rfl, yl_cell_block (cells 0 (by omega)).1, fun j p hj => ?_⟩
      obtain ⟨hlt, rfl⟩ := hxo j p hj
      exact cells j hlt
theorem height_of_trod {H : Type} {enc : TypeId × Value → H} {P : Program} {w : World} {held : Bool} {t e : TypeId} {n : Nat} {v : Value} {x : DataW H × List MemPlace} (ht : P.underlying t = some (.slice e)) (he : P.underlying e = some (.float .f64)) (ce : P.cellsOf e = 1)
    (h : DataW.trod enc P w 0 (fun _ => true) held n t [v] = some x) :
    ∃ a len cap xs, v = .slice a len cap ∧ len ≤ cap ∧ cap ≤ maxLen ∧ (a = none → len = 0 ∧ cap = 0) ∧ xs.length = len ∧ (∀ p ∈ xs, p < 18446744073709551616) ∧ RdH w a xs := by
  rcases open_slice ht h with ⟨h0, _⟩ | ⟨a, len, cap, m, k, Dt, Pl, hcs, _, hl, hm, hmm, hx, hel⟩
  · simp at h0
    exact ⟨none, 0, 0, [], h0, Nat.le_refl _, Nat.zero_le _, fun _ => ⟨rfl, rfl⟩, rfl, by simp, .inl rfl⟩
  · simp at hcs
    rw [ce] at hel
    have hlm : len ≤ m := by rw [hmm]; split <;> omega
    have each : ∀ i, i < len → ∃ q : Nat, w.cells? 0 (a.add (i * 1)) 1 = some [.float .f64 q] ∧ q < 18446744073709551616 := by
      intro i hi
      obtain ⟨cs, h1, h2⟩ := hel i (by omega)
      obtain ⟨q, hq, wq⟩ := etrod_float he h2
      subst hq
      exact ⟨q, h1, wq⟩
    obtain ⟨q, hq⟩ := yl_choose each
    have hxo : ∀ j p, ((List.range len).map q)[j]? = some p → j < len ∧ p = q j := fun j p hj => by
      rw [List.getElem?_map] at hj
      by_cases hlt : j < len
      · rw [List.getElem?_range hlt] at hj
        simp at hj
        exact ⟨hlt, hj.symm⟩
      · rw [List.getElem?_eq_none (by simp; omega)] at hj
        simp at hj
    refine ⟨some a, len, cap, (List.range len).map q, hcs, hl, hm, (fun h => by cases h), by simp, fun p hp => ?_, ?_⟩
    · obtain ⟨j, hj⟩ := List.getElem?_of_mem hp
      obtain ⟨hlt, rfl⟩ := hxo j p hj
      exact (hq j hlt).2
    · by_cases hz : len = 0
      · subst hz
        exact .inl rfl
      right
      obtain ⟨b, o, spot⟩ := a
      have hs : spot = none := by
        obtain ⟨_, _, hc⟩ := World.cells?_some (hq 0 (by omega)).1
        have e0 := hc 0 (by omega)
        simpa [Addr.add] using World.cell?_spot e0
      subst hs
      have cells : ∀ j, j < len → w.cell? ⟨b, o + j, none⟩ = some (.float .f64 (q j)) := by
        intro j hj
        obtain ⟨_, _, hc⟩ := World.cells?_some (hq j hj).1
        have e0 := hc 0 (by omega)
        rw [Addr.add_add, Addr.add_lit, Nat.mul_one, Nat.add_zero] at e0
        simpa using e0
      refine ⟨b, o, rfl, yl_cell_block (cells 0 (by omega)), fun j p hj => ?_⟩
      obtain ⟨hlt, rfl⟩ := hxo j p hj
      exact cells j hlt
/-! ### What Fill makes -/
/-- Each behind the one ahead, no small gap between. -/
def Nxt (p q : Int × Nat) : Prop := p.1 < q.1 ∧ (q.1 - p.1 ≤ 1 ∨ 4 < q.1 - p.1)
def Adj (F : List (Int × Nat)) : Prop := ∀ i p q, F[i]? = some p → F[i + 1]? = some q → Nxt p q
theorem Adj.snoc {F : List (Int × Nat)} {p q : Int × Nat} (h : Adj (F ++ [p])) (hr : Nxt p q) : Adj (F ++ [p] ++ [q]) := by
  intro i a b ha hb
  have hi := (List.getElem?_eq_some_iff.1 hb).1
  simp at hi
  rcases Nat.lt_or_ge (i + 1) (F ++ [p]).length with h1 | h1
  · rw [List.getElem?_append_left (by omega)] at ha
    rw [List.getElem?_append_left h1] at hb
    exact h i a b ha hb
  · have hif : i = F.length := by simp at h1; omega
    subst hif
    rw [List.getElem?_append_left (by simp)] at ha
    rw [List.getElem?_append_right (by simp)] at hb
    simp at ha hb
    subst ha hb
    exact hr
theorem Adj.rise {F : List (Int × Nat)} (h : Adj F) : F.Pairwise (fun p q => p.1 < q.1) := rise_adj (fun i p q hp hq => (h i p q hp hq).1)
theorem Adj.line {F0 M : List (Int × Nat)} {p q : Int × Nat} (h : Adj (F0 ++ [p])) (hl : LineL p q M) (hpq : p.1 < q.1) : Adj (F0 ++ [p] ++ M ++ [q]) := by
  rcases hl with ⟨hb, rfl⟩ | ⟨h1, h2, h3⟩
  · rw [List.append_nil]
    exact h.snoc ⟨hpq, .inr (by omega)⟩
  · have key : ∀ m, m ≤ M.length → ∃ G l, F0 ++ [p] ++ M.take m = G ++ [l] ∧ l.1 = p.1 + (m : Int) ∧ Adj (G ++ [l]) := by
      intro m
      induction m with
      | zero => intro _; exact ⟨F0, p, by simp, by simp, h⟩
      | succ m ih =>
        intro hm
        obtain ⟨G, l, e1, e2, e3⟩ := ih (by omega)
        obtain ⟨x, hx⟩ : ∃ x, M[m]? = some x := ⟨_, List.getElem?_eq_getElem (by omega)⟩
        have hx1 := (h3 m x hx).1
        refine ⟨G ++ [l], x, ?_, by rw [hx1]; omega, e3.snoc ⟨by omega, .inl (by omega)⟩⟩
        rw [List.take_add_one, hx, ← List.append_assoc, e1]
        rfl
    obtain ⟨G, l, e1, e2, e3⟩ := key M.length (Nat.le_refl _)
    rw [List.take_length] at e1
    rw [e1]
    exact e3.snoc ⟨by omega, .inl (by omega)⟩
theorem FilP.adj {O F : List (Int × Nat)} (h : FilP O F) (hr : O.Pairwise (fun p q => p.1 < q.1)) : Adj F ∧ (∀ o ∈ O, o ∈ F) ∧ (∀ O' p, O = O' ++ [p] → ∃ F0, F = F0 ++ [p]) := by
  induction h with
  | nil => exact ⟨fun i p q hp => by simp at hp, by simp, fun O' p e => by simp at e⟩
  | one q => exact ⟨fun i p q' hp hq => by simp at hq, by simp, fun O' p e => ⟨O', e⟩⟩
  | more O p q F M h hl ih =>
    have hr2 := List.pairwise_append.1 hr
    obtain ⟨i1, i2, i3⟩ := ih hr2.1
    obtain ⟨F0, rfl⟩ := i3 O p rfl
    have hpq : p.1 < q.1 := hr2.2.2 p (by simp) q (by simp)
    refine ⟨i1.line hl hpq, fun o ho => ?_, fun O' p' e => ?_⟩
    · rcases List.mem_append.1 ho with ho | ho
      · exact List.mem_append.2 (.inl (List.mem_append.2 (.inl (i2 o ho))))
      · exact List.mem_append.2 (.inr ho)
    · have := (List.append_inj' e rfl).2
      have e2 : q = p' := by simpa using this
      subst e2
      exact ⟨_, rfl⟩
theorem FilP.tok {O F : List (Int × Nat)} (h : FilP O F) (hr : O.Pairwise (fun p q => p.1 < q.1)) (ho : ∀ p ∈ O, tOk p.1) : ∀ p ∈ F, tOk p.1 := by
  induction h with
  | nil => simp
  | one q => exact ho
  | more O p q F M h hl ih =>
    have hr2 := List.pairwise_append.1 hr
    have hp := ho p (by simp)
    have hq := ho q (by simp)
    intro x hx
    rcases List.mem_append.1 hx with hx | hx
    · rcases List.mem_append.1 hx with hx | hx
      · exact ih hr2.1 (fun y hy => ho y (List.mem_append.2 (.inl hy))) x hx
      · rcases hl with ⟨_, rfl⟩ | ⟨_, h2, h3⟩
        · simp at hx
        · obtain ⟨j, hj⟩ := List.getElem?_of_mem hx
          have hl := (List.getElem?_eq_some_iff.1 hj).1
          have hx1 := (h3 j x hj).1
          exact ⟨by have := hp.1; omega, by have := hq.2; omega⟩
    · exact ho x (List.mem_append.2 (.inr hx))
/-- What has no small gap is filled already. -/
theorem FilP.again {O F : List (Int × Nat)} (h : FilP O F) (ha : Adj O) : F = O := by
  induction h with
  | nil => rfl
  | one q => rfl
  | more O p q F M h hl ih =>
    have e1 : F = O ++ [p] := ih (fun i a b h1 h2 => by
      have l2 := (List.getElem?_eq_some_iff.1 h2).1
      exact ha i a b (by rw [List.getElem?_append_left (by omega)]; exact h1) (by rw [List.getElem?_append_left (by omega)]; exact h2))
    have hn : Nxt p q := ha O.length p q (by rw [List.getElem?_append_left (by simp)]; simp) (by rw [List.getElem?_append_right (by simp)]; simp)
    have hM : M = [] := by
      rcases hl with ⟨_, rfl⟩ | ⟨h1, h2, _⟩
      · rfl
      · unfold Nxt at hn
        exact List.eq_nil_of_length_eq_zero (by omega)
    rw [e1, hM, List.append_nil]
end Go.Proofs.Ytaklojkdlmajeab

/- The law CleanFills answers true, of every list of samples. -/
namespace Go.Proofs.Ytaklojkdlmajeab
open Go.RowKit
set_option linter.unusedVariables false
set_option linter.unusedSimpArgs false

set_option maxHeartbeats 1600000 in
set_option maxRecDepth 100000 in
theorem esame_any (a b : Option Addr) (ca cb : Nat) (M : List (Int × Nat)) (w : World) (hn : M.length ≤ 100000) (hf : ∀ p ∈ M, isone p.2 = true ∧ p.2 < 18446744073709551616) (ha : RdV w a (smC M)) (hb : RdV w b (smC M)) :
    Calls Try.prog 10 #[.slice a M.length ca, .slice b M.length cb] w fun e w' => e = .returned (.bool true) ∧ Below w.heap.size w w' := by
  have HA := hid ha
  have HB := hid hb
  have HF := hid hf
  clear ha hb hf
  go_enter Try.func10, Try.ntmps10
  go_wp2_with fail
  go_loopw [5] (fun x wr => ∃ k : Nat, k ≤ M.length ∧ x = .int .i64 (k : Int) ∧ Hid (Below w.heap.size w wr)) (fun x _ => M.length - (intOf x).toNat)
  case atStart => exact ⟨0, Nat.zero_le _, rfl, Below.refl _ _⟩
  case round =>
    obtain ⟨k, hk, rfl, HW⟩ := hrel
    by_cases hlt : k < M.length
    · have hj := smC_at (List.getElem?_eq_getElem hlt)
      have hfk := HF.out _ (List.getElem_mem hlt)
      obtain ⟨g, rfl, hg, hc⟩ := HA.out.get hj.1
      obtain ⟨g', rfl, hg', hc'⟩ := HB.out.get hj.1
      have c0 : wr.cell? ⟨g, k * 2, none⟩ = some (.int .i64 (M[k]).1) := (HW.out.cell (p := ⟨g, k * 2, none⟩) hg).trans (hc _ _ hj.1)
      have c1 : wr.cell? ⟨g, k * 2 + 1, none⟩ = some (.float .f64 (M[k]).2) := (HW.out.cell (p := ⟨g, k * 2 + 1, none⟩) hg).trans (hc _ _ hj.2)
      have d0 : wr.cell? ⟨g', k * 2, none⟩ = some (.int .i64 (M[k]).1) := (HW.out.cell (p := ⟨g', k * 2, none⟩) hg').trans (hc' _ _ hj.1)
      have d1 : wr.cell? ⟨g', k * 2 + 1, none⟩ = some (.float .f64 (M[k]).2) := (HW.out.cell (p := ⟨g', k * 2 + 1, none⟩) hg').trans (hc' _ _ hj.2)
      clear hc hc' HA HB hj
      generalize (M[k]).1 = z1 at *
      generalize (M[k]).2 = z2 at *
      have HSB : Hid (∀ V, Calls Try.prog 17 #[.float .f64 z2, .float .f64 z2] V fun e w' => e = .returned (.bool true) ∧ w' = V) := fun V => sameFloat_eq z2 V (by
        rw [fin_iff]
        have := hfk.1
        unfold isone at this
        simpa using this)
      have hs0 : wr.drew.cell? ⟨g, k * 2, none⟩ = some (.int .i64 z1) ∧ wr.drew.cell? ⟨g, k * 2 + 1, none⟩ = some (.float .f64 z2) ∧ wr.drew.cell? ⟨g', k * 2, none⟩ = some (.int .i64 z1) ∧ wr.drew.cell? ⟨g', k * 2 + 1, none⟩ = some (.float .f64 z2) := ⟨c0, c1, d0, d1⟩
      have hk0 : (0 : Int) ≤ ↑k := by omega
      have hk1 : (↑k : Int) < ↑M.length := by omega
      have HBL := hid (HW.out.drew)
      clear hfk
      go_wp2_with fail
      go_region_held3 (fun V : World => V.cell? ⟨g, k * 2, none⟩ = some (.int .i64 z1) ∧ V.cell? ⟨g, k * 2 + 1, none⟩ = some (.float .f64 z2) ∧ V.cell? ⟨g', k * 2, none⟩ = some (.int .i64 z1) ∧ V.cell? ⟨g', k * 2 + 1, none⟩ = some (.float .f64 z2)) (exact hs0) ((go_at_call 17; with_reducible refine Calls.mono (HSB.out _) ?_; rintro e w2 ⟨rfl, rfl⟩))
      all_goals
        go_wp2_with fail
        go_roundw
        case rel => exact ⟨k + 1, by omega, by go_num, HBL.out⟩
        case measure => simp [intOf]; omega
    · obtain rfl : k = M.length := by omega
      go_wp2_with fail
      go_ret
      exact ⟨rfl, HW.out⟩
theorem sub_self_none {x : Nat} (f : fin x = false) : floatBits .sub .f64 x x = none := by
  show (((Ieee.double.read x).sum (Ieee.double.read x).opposite).map _) = none
  rcases read_not f with ⟨s, e⟩ | ⟨s, t, e⟩ <;> rw [e]
  · cases s <;> rfl
  · rfl
theorem sub_self_some {x : Nat} (f : fin x = true) : floatBits .sub .f64 x x = some 0 := by
  obtain ⟨s, m, i, e⟩ := read_fin f
  show (((Ieee.double.read x).sum (Ieee.double.read x).opposite).map _) = some 0
  rw [e]
  have z : Ieee.signed s m (i - min i i).toNat + Ieee.signed (!s) m (i - min i i).toNat = 0 := by
    cases s <;> simp [Ieee.signed] <;> omega
  simp only [Ieee.Datum.opposite, Ieee.Datum.sum, z]
  cases s <;> simp [Ieee.Format.write, Ieee.Format.nearest, Ieee.Format.word]
set_option maxHeartbeats 1600000 in
set_option maxRecDepth 100000 in
theorem cleanFills_long (a : Option Addr) (n cap : Nat) (w : World) (hn : 60 < n) (hm : n ≤ 9223372036854775807) :
    Calls Try.prog 4 #[.slice a n cap] w fun e w' => e = .returned (.bool true) ∧ Below w.heap.size w w' := by
  have h1 : (60 : Int) < (n : Int) := by omega
  have HL := hid (elives_any w)
  go_enter Try.func4, Try.ntmps4
  go_wp2_with fail
  refine Calls.mono HL.out ?_
  rintro e w1 ⟨rfl, hb1⟩
  go_wp2_with fail
  go_ret
  exact ⟨rfl, hb1⟩
set_option maxHeartbeats 6400000 in
set_option maxRecDepth 100000 in
theorem cleanFills_go (a : Option Addr) (n cap : Nat) (xs : List (Int × Nat)) (w : World) (hn : n ≤ 60) (hl : xs.length = n) (hx : ∀ p ∈ xs, I64 p.1 ∧ p.2 < 18446744073709551616) (hd : RdS w a xs) :
    Calls Try.prog 4 #[.slice a n cap] w fun e w' => e = .returned (.bool true) ∧ Below w.heap.size w w' := by
  have h60 : ¬ (60 : Int) < (n : Int) := by omega
  have HL := hid (elives_any w)
  have HD := hid hd
  have HX := hid hx
  clear hd hx
  go_enter Try.func4, Try.ntmps4
  go_wp2_with fail
  refine Calls.mono HL.out ?_
  rintro e w1 ⟨rfl, hb1⟩
  have HB1 := hid hb1
  have HF := hid (efill_any a n cap xs w1 (by omega) hl HX.out (HD.out.later (B := 0) hb1))
  clear hb1 HL
  go_wp2_with fail
  refine Calls.mono HF.out ?_
  rintro e w2 ⟨v, err, rfl, HC, hb2⟩
  have HB2 := hid (ybt' HB1.out hb2)
  clear hb2 HF
  by_cases he : err = 0
  · subst he
    obtain ⟨F, hgood, hF, hall, hlen, hown⟩ : ∃ F, goodS xs ∧ FilP (onesL xs true) F ∧ (∀ p ∈ F, isone p.2 = true) ∧ F.length ≤ 4096 ∧ w2.ownsRow w1.heap.size 37 2 v F.length (smC F) := by
      rcases HC.out with ⟨_, h, _⟩ | ⟨hg, F, hF, ⟨_, h, _⟩ | ⟨_, _, h, _⟩ | ⟨h1, h2, _, h3⟩⟩
      · exfalso
        unfold errS at h
        split at h <;> simp at h
      · simp at h
      · simp at h
      · exact ⟨F, hg, hF, h1, h2, h3⟩
    have hor : (onesL xs true).Pairwise (fun p q => p.1 < q.1) := hgood.2.1.filter _
    have HFm : Hid (Adj F ∧ (∀ o ∈ onesL xs true, o ∈ F)) := ⟨(hF.adj hor).1, (hF.adj hor).2.1⟩
    have hlt : ∀ p ∈ F, p.2 < 18446744073709551616 := hF.lt (fun p hp => (HX.out p (List.mem_filter.1 hp).1).2)
    have htok : ∀ p ∈ F, tOk p.1 := hF.tok hor (fun p hp => hgood.2.2 p (List.mem_filter.1 hp).1)
    have HFo : Hid ((∀ p ∈ F, isone p.2 = true ∧ p.2 < 18446744073709551616) ∧ goodS F) := ⟨fun p hp => ⟨hall p hp, hlt p hp⟩, hlen, HFm.out.1.rise, htok⟩
    have HXr : Hid (xs.Pairwise (fun p q => p.1 < q.1)) := hgood.2.1
    have hFl : F.length ≤ 240 := by
      have h1 := hF.len
      have h2 : (onesL xs true).length ≤ xs.length := List.length_filter_le _ _
      omega
    obtain ⟨a1, c1, rfl, hV⟩ := yshape hown
    have HV := hid hV
    have HF2 := hid (efill_any a1 F.length c1 F w2 (by omega) rfl (fun p hp => ⟨by have := htok p hp; unfold tOk at this; unfold I64; omega, hlt p hp⟩) (RdS.of hV))
    clear hV hown hlen hall hF HC hgood hor hlt htok
    go_wp2_with fail
    refine Calls.mono HF2.out ?_
    rintro e w3 ⟨v3, err3, rfl, HC3, hb3⟩
    have HV3 : Hid (err3 = 0 ∧ w3.ownsRow w2.heap.size 37 2 v3 F.length (smC F)) := by
      have e1 : onesL F true = F := by
        unfold onesL
        rw [List.filter_eq_self]
        intro p hp
        simp [(HFo.out.1 p hp).1]
      rcases HC3.out with ⟨h, _⟩ | ⟨_, F', hF', hc⟩
      · exact absurd HFo.out.2 h
      · rw [e1] at hF'
        obtain rfl := hF'.again HFm.out.1
        rcases hc with ⟨⟨p, hp, h⟩, _⟩ | ⟨_, h, _⟩ | ⟨_, _, h1, h2⟩
        · rw [(HFo.out.1 p hp).1] at h; cases h
        · have := HFo.out.2.1; omega
        · exact ⟨h1, h2⟩
    obtain ⟨he3, hown3⟩ := HV3.out
    subst he3
    obtain ⟨a3, c3, rfl, hV3⟩ := yshape hown3
    have HB3 := hid (ybt' HB2.out hb3)
    have HSM := hid (esame_any a1 a3 c1 c3 F w3 (by omega) HFo.out.1 (HV.out.later hb3) hV3)
    replace HV := hid (HV.out.later hb3)
    clear hV3 hown3 HV3 HC3 hb3 HF2
    go_wp2_with fail
    refine Calls.mono HSM.out ?_
    rintro e w4 ⟨rfl, hb4⟩
    have HB4 := hid (ybt' HB3.out hb4)
    replace HV := hid (HV.out.later hb4)
    have HRi := hid (eRising_any a1 F.length c1 F w4 (by omega) rfl (RdS.of HV.out))
    clear hb4 HSM HB3
    go_wp2_with fail
    refine Calls.mono HRi.out ?_
    rintro e w5 ⟨rb, rfl, hrb, hb5⟩
    obtain rfl : rb = true := hrb.out.2 HFm.out.1.rise
    have HB5 := hid (ybt' HB4.out hb5)
    replace HV := hid (HV.out.later hb5)
    clear hb5 HRi HB4 hrb
    have HDw := hid (HD.out.later (B := 0) HB5.out)
    have rS := fsub_run Try.prog 24
    go_wp2_with fail
    go_loopw [6, 7] (fun y x wr => ∃ (i k : Nat), i ≤ n ∧ k ≤ F.length ∧ x = .int .i64 (i : Int) ∧ y = .int .i64 (k : Int) ∧ Hid (∀ j p, j < k → F[j]? = some p → ∀ i' x, i ≤ i' → xs[i']? = some x → p.1 < x.1) ∧ Hid (Below w5.heap.size w5 wr)) (fun _ x _ => n - (intOf x).toNat)
    case atStart => exact ⟨0, 0, Nat.zero_le _, Nat.zero_le _, rfl, rfl, fun j p hj => by omega, Below.refl _ _⟩
    case round =>
      obtain ⟨i, k, hi, hk, rfl, rfl, HI, HW⟩ := hrel
      by_cases hlt : i < n
      · obtain ⟨q, hq⟩ : ∃ p, xs[i]? = some p := ⟨_, List.getElem?_eq_getElem (by omega)⟩
        obtain ⟨t, b⟩ := q
        have hbb := (HX.out _ (List.mem_of_getElem? hq)).2
        obtain ⟨g, o, rfl, hg, hc⟩ := HDw.out.get hq
        have HC : Hid (∀ V, Below w5.heap.size w5 V → V.cell? ⟨g, o + i * 2, none⟩ = some (.int .i64 t) ∧ V.cell? ⟨g, o + i * 2 + 1, none⟩ = some (.float .f64 b)) := fun V hV => ⟨(hV.cell (p := ⟨g, o + i * 2, none⟩) hg).trans (hc _ _ hq).1, (hV.cell (p := ⟨g, o + i * 2 + 1, none⟩) hg).trans (hc _ _ hq).2⟩
        obtain ⟨c0, c1⟩ := HC.out wr HW.out
        have HQ := hid hq
        have hlf : ∀ V, (FloatKind.f64.format.order (fval .sub V b b) 0 == some .eq) = fin b := fun V => less_self (fval_fn .sub V b b)
        have hi1 : (i : Int) < (n : Int) := by omega
        have hi0 : (0 : Int) ≤ (i : Int) := by omega
        clear hc hq
        cases hone : fin b
        · have HNo := hid hone
          rw [hone] at hlf
          have hnb : floatBits .sub .f64 b b = none := sub_self_none hone
          have rN : ∀ V, (binOp .sub 24 (.float .f64 b) (.float .f64 b)).run Try.prog V = .ok (.float .f64 (fval .sub V b b)) V.drew := fun V => by
            rw [rS V b b]
            unfold fwld
            rw [hnb]
          have hlf2 : ∀ V, (FloatKind.f64.format.order (fval .sub V b b) 0 != some .eq) = true := fun V => by rw [bne, hlf V]; rfl
          have hs0 : wr.drew.cell? ⟨g, o + i * 2 + 1, none⟩ = some (.float .f64 b) := c1
          have hs1 : wr.drew.drew.cell? ⟨g, o + i * 2 + 1, none⟩ = some (.float .f64 b) := c1
          have HI2 : Hid (∀ j p, j < k → F[j]? = some p → ∀ i' x, i + 1 ≤ i' → xs[i']? = some x → p.1 < x.1) := fun j p hj hp i' x hi' hx => HI.out j p hj hp i' x (by omega) hx
          clear hone hnb rS
          go_wp2_with fail
          go_region
          go_wp2_with fail
          exact ⟨⟨i + 1, k, by omega, hk, by go_num, rfl, HI2.out, HW.out.drew.drew⟩, by simp [intOf]; omega⟩
        · have HOn : Hid (isone b = true) := by
            have := (fin_iff b).1 hone
            exact decide_eq_true this
          have HFb := hid hone
          have hnb : floatBits .sub .f64 b b = some 0 := sub_self_some hone
          have rN : ∀ V, (binOp .sub 24 (.float .f64 b) (.float .f64 b)).run Try.prog V = .ok (.float .f64 0) V := fun V => run_float_arith V _ _ _ _ _ _ hnb
          have hz0 : (FloatKind.f64.format.order 0 0 == some .eq) = true := by decide +kernel
          clear hone hnb rS hlf
          obtain ⟨m, hm⟩ : ∃ m, F[m]? = some (t, b) := List.getElem?_of_mem (HFm.out.2 _ (List.mem_filter.2 ⟨List.mem_of_getElem? HQ.out, by rw [HOn.out]; rfl⟩))
          have HM := hid hm
          have hmF := (List.getElem?_eq_some_iff.1 hm).1
          clear hm
          go_wp2_with fail
          go_quiet (fail)
          go_wp2_with fail
          obtain ⟨U, hU⟩ : ∃ U, wr.drewN nq = U := ⟨_, rfl⟩
          have HU : Hid (Below w5.heap.size w5 U) := by rw [← hU]; exact ydrewMM HW.out
          rw [hU]
          clear hU c0 c1
          go_loopw [6] (fun y wr2 => ∃ k : Nat, k ≤ F.length ∧ y = .int .i64 (k : Int) ∧ Hid (∀ j p, j < k → F[j]? = some p → p.1 < t) ∧ Hid (Below w5.heap.size w5 wr2)) (fun y _ => F.length - (intOf y).toNat)
          case atStart => exact ⟨k, hk, rfl, fun j p hj hp => HI.out j p hj hp i _ (Nat.le_refl _) HQ.out, HU.out⟩
          case round =>
            obtain ⟨kk, hkk, rfl, HK, HW2⟩ := hrel
            have hkm : kk ≤ m := by
              apply Nat.le_of_not_lt
              intro hlt
              have := HK.out m _ hlt HM.out
              dsimp only at this
              omega
            obtain ⟨c0, c1⟩ := HC.out wr HW2.out
            obtain ⟨p, hp⟩ : ∃ p, F[kk]? = some p := ⟨_, List.getElem?_eq_getElem (by omega)⟩
            have hsm := smC_at hp
            obtain ⟨ga, rfl, hga, hca⟩ := HV.out.get hsm.1
            have d0 : wr.cell? ⟨ga, kk * 2, none⟩ = some (.int .i64 p.1) := (HW2.out.cell (p := ⟨ga, kk * 2, none⟩) hga).trans (hca _ _ hsm.1)
            have d1 : wr.cell? ⟨ga, kk * 2 + 1, none⟩ = some (.float .f64 p.2) := (HW2.out.cell (p := ⟨ga, kk * 2 + 1, none⟩) hga).trans (hca _ _ hsm.2)
            have HP := hid hp
            have hk3 : (kk : Int) < (F.length : Int) := by omega
            have hk4 : (0 : Int) ≤ (kk : Int) := by omega
            clear hp hsm hca
            by_cases hpt : p.1 < t
            · have HPt := hid hpt
              go_wp2_with fail
              go_quiet (fail)
              go_wp2_with fail
              refine ⟨⟨kk + 1, by omega, by go_num, fun j q hj hq => ?_, ydrewMM HW2.out⟩, by simp [intOf]; omega⟩
              rcases Nat.lt_or_ge j kk with h | h
              · exact HK.out j q h hq
              · obtain rfl : j = kk := by omega
                rw [HP.out] at hq
                injection hq with hq
                rw [← hq]
                exact HPt.out
            · have hkm2 : kk = m := by
                apply Nat.le_antisymm hkm
                apply Nat.le_of_not_lt
                intro hlt
                have := List.pairwise_iff_getElem.1 HFm.out.1.rise kk m (by omega) hmF hlt
                have e1 := (List.getElem?_eq_some_iff.1 HP.out).2
                have e2 := (List.getElem?_eq_some_iff.1 HM.out).2
                rw [e1, e2] at this
                exact hpt this
              subst hkm2
              have hpe : p = (t, b) := by have := HP.out; rw [HM.out] at this; injection this with this; exact this.symm
              subst hpe
              have hEQ := esmeq t b HFb.out
              have hk5 : ¬ (kk : Int) = (F.length : Int) := by omega
              have HI2 : Hid (∀ j p, j < kk → F[j]? = some p → ∀ i' x, i + 1 ≤ i' → xs[i']? = some x → p.1 < x.1) := fun j p hj hp i' x hi' hx => by
                have h1 := HK.out j p hj hp
                obtain ⟨l1, e1⟩ := List.getElem?_eq_some_iff.1 HQ.out
                obtain ⟨l2, e2⟩ := List.getElem?_eq_some_iff.1 hx
                have h2 := List.pairwise_iff_getElem.1 HXr.out i i' l1 l2 (by omega)
                rw [e1, e2] at h2
                dsimp only at h2
                omega
              go_wp2_with fail
              go_quiet (fail)
              go_wp2_with fail
              clear hEQ
              have hUn : ∀ m, Below w5.heap.size w5 (wr.drewN m) := fun m => ydrewMM HW2.out
              obtain ⟨U2, hU2⟩ : ∃ U2, wr.drewN nq = U2 := ⟨_, rfl⟩
              have HU2 : Hid (Below w5.heap.size w5 U2) := by rw [← hU2]; exact hUn _
              have e0 : U2.cell? ⟨ga, kk * 2, none⟩ = some (.int .i64 t) := by rw [← hU2]; exact (ydrewMM (Below.refl wr.heap.size wr) (n := nq)).cell (p := ⟨ga, kk * 2, none⟩) (Nat.lt_of_lt_of_le hga HW2.out.size) |>.trans d0
              have e1 : U2.cell? ⟨ga, kk * 2 + 1, none⟩ = some (.float .f64 b) := by rw [← hU2]; exact (ydrewMM (Below.refl wr.heap.size wr) (n := nq)).cell (p := ⟨ga, kk * 2 + 1, none⟩) (Nat.lt_of_lt_of_le hga HW2.out.size) |>.trans d1
              obtain ⟨e2, e3⟩ := HC.out U2 HU2.out
              have hEQ := esmeq t b HFb.out
              have hk6 : ((kk : Int) == (F.length : Int)) = false := by simpa using hk5
              rw [hU2]
              clear hU2 d0 d1 c0 c1 hUn
              go_quiet (fail)
              go_wp2_with fail
              exact ⟨⟨i + 1, kk, by omega, by omega, by go_num, rfl, HI2.out, ydrewMM HU2.out⟩, by simp [intOf]; omega⟩
      · obtain rfl : i = n := by omega
        have hii : ¬ (i : Int) < (i : Int) := by omega
        clear HI
        go_wp2_with fail
        obtain ⟨U, hU⟩ : ∃ U, wr = U := ⟨_, rfl⟩
        have HU : Hid (Below w5.heap.size w5 U) := by rw [← hU]; exact HW.out
        rw [hU]
        go_loopw [8] (fun x wr2 => ∃ m : Nat, 1 ≤ m ∧ (m ≤ F.length ∨ m = 1) ∧ x = .int .i64 (m : Int) ∧ Hid (Below w5.heap.size w5 wr2)) (fun x _ => F.length + 1 - (intOf x).toNat)
        case atStart => exact ⟨1, Nat.le_refl _, .inr rfl, rfl, HU.out⟩
        case round =>
          clear hU HU HW
          obtain ⟨m, hm1, hm2, rfl, HW2⟩ := hrel
          by_cases hmlt : m < F.length
          · obtain ⟨j, rfl⟩ : ∃ j, m = j + 1 := ⟨m - 1, by omega⟩
            obtain ⟨p, hp⟩ : ∃ p, F[j]? = some p := ⟨_, List.getElem?_eq_getElem (by omega)⟩
            obtain ⟨q, hq⟩ : ∃ p, F[j + 1]? = some p := ⟨_, List.getElem?_eq_getElem (by omega)⟩
            have hN := HFm.out.1 j p q hp hq
            have tp := HFo.out.2.2.2 p (List.mem_of_getElem? hp)
            have tq := HFo.out.2.2.2 q (List.mem_of_getElem? hq)
            have s1 := smC_at hp
            have s2 := smC_at hq
            obtain ⟨ga, rfl, hga, hca⟩ := HV.out.get s1.1
            have d0 : wr.cell? ⟨ga, j * 2, none⟩ = some (.int .i64 p.1) := (HW2.out.cell (p := ⟨ga, j * 2, none⟩) hga).trans (hca _ _ s1.1)
            have d1 : wr.cell? ⟨ga, (j + 1) * 2, none⟩ = some (.int .i64 q.1) := (HW2.out.cell (p := ⟨ga, (j + 1) * 2, none⟩) hga).trans (hca _ _ s2.1)
            have hj0 : (((j + 1 : Nat) : Int)) - 1 = (j : Int) := by omega
            have hj1 : ((j + 1 : Nat) : Int) < (F.length : Int) := by omega
            have hj2 : (j : Int) < (F.length : Int) := by omega
            unfold Nxt at hN
            unfold tOk at tp tq
            clear hp hq s1 s2 hca
            generalize p.1 = P at *
            generalize q.1 = Q at *
            by_cases hd : 1 < Q - P
            · have hd2 : ¬ (Q - P ≤ 4) := by omega
              have hw1 : IntKind.i64.wrap (Q - P) = Q - P := by rw [IntKind.wrap_i64]; omega
              go_wp2_with fail
              go_quiet (fail)
              clear hw1
              go_wp2_with fail
              exact ⟨⟨j + 1 + 1, by omega, .inl (by omega), by go_num, ydrewMM HW2.out⟩, by simp [intOf]; omega⟩
            · have hw1 : IntKind.i64.wrap (Q - P) = Q - P := by rw [IntKind.wrap_i64]; omega
              go_wp2_with fail
              go_quiet (fail)
              clear hw1
              go_wp2_with fail
              exact ⟨⟨j + 1 + 1, by omega, .inl (by omega), by go_num, ydrewMM HW2.out⟩, by simp [intOf]; omega⟩
          · have hmm : ¬ (m : Int) < (F.length : Int) := by omega
            go_wp2_with fail
            go_ret
            exact ⟨rfl, ybt' HB5.out HW2.out⟩
  · have HV : Hid (v = .slice none 0 0) := by
      rcases HC.out with ⟨_, _, h⟩ | ⟨_, F, _, ⟨_, _, h⟩ | ⟨_, _, _, h⟩ | ⟨_, _, h, _⟩⟩
      · exact h
      · exact h
      · exact h
      · exact absurd h he
    rw [HV.out]
    clear HC
    go_wp2_with fail
    go_ret
    exact ⟨rfl, HB2.out⟩
theorem cleanFills_in (a : Option Addr) (n cap : Nat) (xs : List (Int × Nat)) (w : World) (h : (a = none → n = 0 ∧ cap = 0) ∧ n ≤ cap ∧ cap ≤ maxLen ∧ xs.length = n ∧ (∀ p ∈ xs, I64 p.1 ∧ p.2 < 18446744073709551616) ∧ RdS w a xs) :
    Calls Try.prog 4 #[.slice a n cap] w fun e w' => e = .returned (.bool true) ∧ Below w.heap.size w w' := by
  by_cases hn : n ≤ 60
  · exact cleanFills_go a n cap xs w hn h.2.2.2.1 h.2.2.2.2.1 h.2.2.2.2.2
  · exact cleanFills_long a n cap w (by omega) (by have := h.2.1; have := h.2.2.1; unfold maxLen at *; omega)
end Go.Proofs.Ytaklojkdlmajeab

/- The laws' finite: how many heights are finite, the least and the greatest. -/
namespace Go.Proofs.Ytaklojkdlmajeab
open Go.RowKit
set_option linter.unusedVariables false

theorem elt_iff {x y : Nat} (hx : Fi x) (hy : Fi y) : (FloatKind.f64.format.order x y == some .lt) = decide (sv x < sv y) := by
  rw [yorder hx hy]
  rcases Int.lt_trichotomy (sv x) (sv y) with h | h | h
  · rw [Int.compare_eq_lt.2 h, decide_eq_true h]; rfl
  · rw [h, Int.compare_eq_eq.2 rfl, decide_eq_false (by omega)]; rfl
  · rw [Int.compare_eq_gt.2 h, decide_eq_false (by omega)]; rfl
theorem egt_iff {x y : Nat} (hx : Fi x) (hy : Fi y) : (FloatKind.f64.format.order x y == some .gt) = decide (sv y < sv x) := by
  rw [yorder hx hy]
  rcases Int.lt_trichotomy (sv x) (sv y) with h | h | h
  · rw [Int.compare_eq_lt.2 h, decide_eq_false (by omega)]; rfl
  · rw [h, Int.compare_eq_eq.2 rfl, decide_eq_false (by omega)]; rfl
  · rw [Int.compare_eq_gt.2 h, decide_eq_true h]; rfl
/-- k heights are finite; lo and hi hold them between them. -/
structure FnT (xs : List Nat) (k lo hi : Nat) : Prop where
  num : k = (xs.filter isone).length
  non : k = 0 → lo = 0 ∧ hi = 0
  fl : Fi lo
  fh : Fi hi
  all : ∀ x ∈ xs, isone x = true → sv lo ≤ sv x ∧ sv x ≤ sv hi
theorem FnT.nil : FnT [] 0 0 0 := ⟨rfl, fun _ => ⟨rfl, rfl⟩, by unfold Fi; decide, by unfold Fi; decide, fun x h => by cases h⟩
theorem FnT.pass {xs : List Nat} {k lo hi b : Nat} (h : FnT xs k lo hi) (hb : isone b = false) : FnT (xs ++ [b]) k lo hi :=
  ⟨by rw [List.filter_append, h.num]; simp [hb], h.non, h.fl, h.fh, fun x hx ho => by
    rcases List.mem_append.1 hx with hx | hx
    · exact h.all x hx ho
    · rw [List.mem_singleton.1 hx, hb] at ho; cases ho⟩
theorem FnT.take {xs : List Nat} {k lo hi b lo' hi' : Nat} (h : FnT xs k lo hi) (fb : Fi b) (hl : Fi lo') (hh : Fi hi') (h1 : sv lo' ≤ sv b) (h2 : sv b ≤ sv hi') (h3 : k = 0 ∨ sv lo' ≤ sv lo) (h4 : k = 0 ∨ sv hi ≤ sv hi') : FnT (xs ++ [b]) (k + 1) lo' hi' :=
  ⟨by rw [List.filter_append, h.num]; simp [fb.isone], fun e => by omega, hl, hh, fun x hx ho => by
    rcases List.mem_append.1 hx with hx | hx
    · have hk : k ≠ 0 := by
        intro e
        have hm := h.num
        rw [e] at hm
        have : xs.filter isone = [] := List.eq_nil_of_length_eq_zero hm.symm
        have hx' : x ∈ xs.filter isone := List.mem_filter.2 ⟨hx, ho⟩
        rw [this] at hx'
        cases hx'
      have := h.all x hx ho
      omega
    · rw [List.mem_singleton.1 hx]; exact ⟨h1, h2⟩⟩
set_option maxHeartbeats 1600000 in
set_option maxRecDepth 100000 in
theorem efinite_any (a : Option Addr) (n cap : Nat) (xs : List Nat) (w : World) (hn : n ≤ 1000000) (hl : xs.length = n) (hx : ∀ x ∈ xs, x < 18446744073709551616) (h : RdH w a xs) :
    Calls Try.prog 6 #[.slice a n cap] w fun e w' => ∃ k lo hi : Nat, e = .returned (.tuple #[.int .i64 (k : Int), .float .f64 lo, .float .f64 hi]) ∧ Hid (FnT xs k lo hi) ∧ Below w.heap.size w w' := by
  have HD := hid h
  have HX := hid hx
  have HL := hid hl
  have rS := fsub_run Try.prog 24
  clear h hx hl
  go_enter Try.func6, Try.ntmps6
  go_wp2_with fail
  go_loopw [5, 6, 7, 8] (fun z1 z2 z3 z4 wr => ∃ i k lo hi : Nat, i ≤ n ∧ k ≤ i ∧ z1 = .int .i64 (k : Int) ∧ z2 = .float .f64 lo ∧ z3 = .float .f64 hi ∧ z4 = .int .i64 (i : Int) ∧ Hid (FnT (xs.take i) k lo hi) ∧ Hid (Below w.heap.size w wr)) (fun _ _ _ z4 _ => n - (intOf z4).toNat)
  case atStart => exact ⟨0, 0, 0, 0, Nat.zero_le _, Nat.le_refl _, rfl, rfl, rfl, rfl, FnT.nil, Below.refl _ _⟩
  case round =>
    obtain ⟨i, k, lo, hi, hin, hki, rfl, rfl, rfl, rfl, HF, HW⟩ := hrel
    by_cases hlt : i < n
    · obtain ⟨b, hq⟩ : ∃ p, xs[i]? = some p := ⟨_, List.getElem?_eq_getElem (by rw [HL.out]; exact hlt)⟩
      have hbb := HX.out _ (List.mem_of_getElem? hq)
      obtain ⟨g, o, rfl, hg, hc⟩ := HD.out.get hq
      have c0 : wr.cell? ⟨g, o + i, none⟩ = some (.float .f64 b) := (HW.out.cell (p := ⟨g, o + i, none⟩) hg).trans (hc _ _ hq)
      have HT : Hid (xs.take (i + 1) = xs.take i ++ [b]) := by
        show _ = _
        rw [List.take_add_one, hq]; rfl
      have hlf : ∀ V, (FloatKind.f64.format.order (fval .sub V b b) 0 == some .eq) = fin b := fun V => less_self (fval_fn .sub V b b)
      have hi1 : (i : Int) < (n : Int) := by omega
      have hi0 : (0 : Int) ≤ (i : Int) := by omega
      clear hc hq
      cases hone : fin b
      · have HNo : Hid (isone b = false) := by
          show _ = _
          cases h1 : isone b
          · rfl
          · have := (fin_iff b).2 (by unfold isone at h1; simpa using h1)
            rw [hone] at this; cases this
        rw [hone] at hlf
        have hnb : floatBits .sub .f64 b b = none := sub_self_none hone
        have rN : ∀ V, (binOp .sub 24 (.float .f64 b) (.float .f64 b)).run Try.prog V = .ok (.float .f64 (fval .sub V b b)) V.drew := fun V => by
          rw [rS V b b]
          unfold fwld
          rw [hnb]
        have hlf2 : ∀ V, (FloatKind.f64.format.order (fval .sub V b b) 0 != some .eq) = true := fun V => by rw [bne, hlf V]; rfl
        have hs0 : wr.drew.cell? ⟨g, o + i, none⟩ = some (.float .f64 b) := c0
        have hs1 : wr.drew.drew.cell? ⟨g, o + i, none⟩ = some (.float .f64 b) := c0
        clear hone hnb rS
        go_wp2_with fail
        go_region
        go_wp2_with fail
        exact ⟨⟨i + 1, k, lo, hi, by omega, by omega, rfl, rfl, rfl, by go_num, by rw [HT.out]; exact HF.out.pass HNo.out, HW.out.drew.drew⟩, by simp [intOf]; omega⟩
      · have HOn : Hid (Fi b) := ⟨hbb, (fin_iff b).1 hone⟩
        have hnb : floatBits .sub .f64 b b = some 0 := sub_self_some hone
        have rN : ∀ V, (binOp .sub 24 (.float .f64 b) (.float .f64 b)).run Try.prog V = .ok (.float .f64 0) V := fun V => run_float_arith V _ _ _ _ _ _ hnb
        have hz0 : (FloatKind.f64.format.order 0 0 == some .eq) = true := by decide +kernel
        have hz1 : (FloatKind.f64.format.order 0 0 != some .eq) = false := by decide +kernel
        clear hone hnb rS hlf
        go_wp2_with fail
        go_quiet (fail)
        go_wp2_with fail
        · rename_i h0
          subst h0
          exact ⟨⟨i + 1, 1, b, b, by omega, by omega, rfl, rfl, rfl, by go_num, by rw [HT.out]; exact HF.out.take HOn.out HOn.out HOn.out (Int.le_refl _) (Int.le_refl _) (.inl rfl) (.inl rfl), ydrewMM HW.out⟩, by simp [intOf]; omega⟩
        all_goals
          rename_i h0 h1 h2
          have hk0 : ((k : Int) == 0) = false := by simpa using h0
          have e1 := elt_iff HOn.out HF.out.fl
          have e2 := egt_iff HOn.out HF.out.fh
          try rw [hk0] at h1
          try rw [hk0] at h2
          rw [e1] at h1
          rw [e2] at h2
          simp at h1 h2
          have fb := HOn.out
          have f1 := HF.out.fl
          have f2 := HF.out.fh
          first
            | exact ⟨⟨i + 1, k + 1, b, b, by omega, by omega, by go_num, rfl, rfl, by go_num, by rw [HT.out]; exact HF.out.take fb fb fb (by omega) (by omega) (.inr (by omega)) (.inr (by omega)), ydrewMM HW.out⟩, by simp [intOf]; omega⟩
            | exact ⟨⟨i + 1, k + 1, b, hi, by omega, by omega, by go_num, rfl, rfl, by go_num, by rw [HT.out]; exact HF.out.take fb fb f2 (by omega) (by omega) (.inr (by omega)) (.inr (by omega)), ydrewMM HW.out⟩, by simp [intOf]; omega⟩
            | exact ⟨⟨i + 1, k + 1, lo, b, by omega, by omega, by go_num, rfl, rfl, by go_num, by rw [HT.out]; exact HF.out.take fb f1 fb (by omega) (by omega) (.inr (by omega)) (.inr (by omega)), ydrewMM HW.out⟩, by simp [intOf]; omega⟩
            | exact ⟨⟨i + 1, k + 1, lo, hi, by omega, by omega, by go_num, rfl, rfl, by go_num, by rw [HT.out]; exact HF.out.take fb f1 f2 (by omega) (by omega) (.inr (by omega)) (.inr (by omega)), ydrewMM HW.out⟩, by simp [intOf]; omega⟩
    · have hmm : ¬ (i : Int) < (n : Int) := by omega
      have HE : Hid (xs.take i = xs) := by
        show _ = _
        exact List.take_of_length_le (by rw [HL.out]; omega)
      rw [HE.out] at HF
      go_wp2_with fail
      go_ret3
      exact ⟨k, lo, hi, rfl, HF, HW.out⟩
end Go.Proofs.Ytaklojkdlmajeab

/- The laws' tiny: where it says no, halving loses nothing. -/
namespace Go.Proofs.Ytaklojkdlmajeab
open Go.RowKit
set_option linter.unusedVariables false

/-- Nought, or so great that halving loses nothing. -/
def TnO (x : Nat) : Prop := Fi x → sv x = 0 ∨ 9007199254740992 ≤ (sv x).natAbs
theorem sv_c0 : sv 0 = 0 := by decide +kernel
theorem sv_c1 : sv 9007199254740992 = 9007199254740992 := by decide +kernel
theorem sv_c2 : sv 9232379236109516800 = -9007199254740992 := by decide +kernel
theorem eeq_iff {x y : Nat} (hx : Fi x) (hy : Fi y) : (FloatKind.f64.format.order x y == some .eq) = decide (sv x = sv y) := by
  rw [yorder hx hy]
  rcases Int.lt_trichotomy (sv x) (sv y) with h | h | h
  · rw [Int.compare_eq_lt.2 h, decide_eq_false (by omega)]; rfl
  · rw [h, Int.compare_eq_eq.2 rfl, decide_eq_true rfl]; rfl
  · rw [Int.compare_eq_gt.2 h, decide_eq_false (by omega)]; rfl
theorem tno_of {b : Nat} (h : (FloatKind.f64.format.order b 0 == some .eq) = true ∨ (FloatKind.f64.format.order b 9232379236109516800 == some .gt) = false ∨ (FloatKind.f64.format.order b 9007199254740992 == some .lt) = false) : TnO b := by
  intro fb
  rw [eeq_iff fb (by unfold Fi; decide), egt_iff fb (by unfold Fi; decide), elt_iff fb (by unfold Fi; decide), sv_c0, sv_c1, sv_c2] at h
  simp at h
  omega
def TnyP (xs : List Nat) (w : World) (e : Ending) (w' : World) : Prop := ∃ t : Bool, e = .returned (.bool t) ∧ Hid (t = false → ∀ x ∈ xs, TnO x) ∧ Below w.heap.size w w'
set_option maxHeartbeats 1600000 in
set_option maxRecDepth 100000 in
theorem etiny_any (a : Option Addr) (n cap : Nat) (xs : List Nat) (w : World) (hn : n ≤ 1000000) (hl : xs.length = n) (h : RdH w a xs) :
    Calls Try.prog 8 #[.slice a n cap] w fun e w' => TnyP xs w e w' := by
  have HD := hid h
  have HL := hid hl
  clear h hl
  go_enter Try.func8, Try.ntmps8
  go_wp2_with fail
  go_loopw [3] (fun z1 wr => ∃ i : Nat, i ≤ n ∧ z1 = .int .i64 (i : Int) ∧ Hid (∀ j x, j < i → xs[j]? = some x → TnO x) ∧ Hid (Below w.heap.size w wr)) (fun z1 _ => n - (intOf z1).toNat)
  case atStart => exact ⟨0, Nat.zero_le _, rfl, fun j x hj => by omega, Below.refl _ _⟩
  case round =>
    obtain ⟨i, hin, rfl, HF, HW⟩ := hrel
    by_cases hlt : i < n
    · obtain ⟨b, hq⟩ : ∃ p, xs[i]? = some p := ⟨_, List.getElem?_eq_getElem (by rw [HL.out]; exact hlt)⟩
      obtain ⟨g, o, rfl, hg, hc⟩ := HD.out.get hq
      have c0 : wr.cell? ⟨g, o + i, none⟩ = some (.float .f64 b) := (HW.out.cell (p := ⟨g, o + i, none⟩) hg).trans (hc _ _ hq)
      have HG : Hid (TnO b → ∀ j x, j < i + 1 → xs[j]? = some x → TnO x) := fun hb j x hj hx => by
        rcases Nat.lt_or_ge j i with h1 | h1
        · exact HF.out j x h1 hx
        · obtain rfl : j = i := by omega
          rw [hq] at hx; cases hx; exact hb
      have hi1 : (i : Int) < (n : Int) := by omega
      have hi0 : (0 : Int) ≤ (i : Int) := by omega
      clear hc hq
      cases A : (FloatKind.f64.format.order b 0 == some .eq)
      · have A2 : (FloatKind.f64.format.order b 0 != some .eq) = true := by rw [bne, A]; rfl
        cases B : (FloatKind.f64.format.order b 9232379236109516800 == some .gt)
        · have HT := hid (tno_of (b := b) (.inr (.inl B)))
          go_wp2_with fail
          exact ⟨⟨i + 1, by omega, by go_num, HG.out HT.out, HW.out⟩, by simp [intOf]; omega⟩
        · cases C : (FloatKind.f64.format.order b 9007199254740992 == some .lt)
          · have HT := hid (tno_of (b := b) (.inr (.inr C)))
            go_wp2_with fail
            exact ⟨⟨i + 1, by omega, by go_num, HG.out HT.out, HW.out⟩, by simp [intOf]; omega⟩
          · go_wp2_with fail
            go_ret
            exact ⟨true, rfl, (fun e => by cases e), HW.out⟩
      · have A2 : (FloatKind.f64.format.order b 0 != some .eq) = false := by rw [bne, A]; rfl
        have HT := hid (tno_of (b := b) (.inl A))
        go_wp2_with fail
        exact ⟨⟨i + 1, by omega, by go_num, HG.out HT.out, HW.out⟩, by simp [intOf]; omega⟩
    · have hmm : ¬ (i : Int) < (n : Int) := by omega
      have HE : Hid (∀ x ∈ xs, TnO x) := fun x hx => by
        obtain ⟨j, hj⟩ := List.getElem?_of_mem hx
        have := (List.getElem?_eq_some_iff.1 hj).1
        exact HF.out j x (by rw [HL.out] at this; omega) hj
      go_wp2_with fail
      go_ret
      exact ⟨false, rfl, fun _ => HE.out, HW.out⟩
end Go.Proofs.Ytaklojkdlmajeab

/- The law CleanBetween answers true, of every list of heights. -/
namespace Go.Proofs.Ytaklojkdlmajeab
open Go.RowKit
set_option linter.unusedVariables false
set_option linter.unusedSimpArgs false

/-- Two rows of heights that the law makes, side by side. -/
structure FbS (w : World) (k1 : Nat) (R1 : List Value) (v : Value) (k2 : Nat) (R2 : List Value) (u : Value) (W : World) : Prop where
  bel : Below w.heap.size w W
  fst : W.ownsRow w.heap.size 24 1 v k1 R1
  snd : W.ownsRow w.heap.size 24 1 u k2 R2
  ne : v.ownBlock = none ∨ v.ownBlock ≠ u.ownBlock
theorem FbS.later {w W W' : World} {k1 k2 : Nat} {R1 R2 : List Value} {v u : Value} (h : FbS w k1 R1 v k2 R2 u W) (hb : Below W.heap.size W W') : FbS w k1 R1 v k2 R2 u W' := ⟨ybt' h.bel hb, yowns_later h.fst hb, yowns_later h.snd hb, h.ne⟩
theorem FbS.ne' {w W : World} {k1 k2 : Nat} {R1 R2 : List Value} {v u : Value} (h : FbS w k1 R1 v k2 R2 u W) : u.ownBlock = none ∨ u.ownBlock ≠ v.ownBlock := by
  rcases h.ne with h | h
  · rw [h]
    cases u.ownBlock with
    | none => exact .inl rfl
    | some x => exact .inr (by simp)
  · exact .inr (fun e => h e.symm)
theorem FbS.one {w W W' : World} {k1 k2 k1' : Nat} {R1 R2 R1' : List Value} {v u v' : Value} (h : FbS w k1 R1 v k2 R2 u W) (o : W'.ownsRow w.heap.size 24 1 v' k1' R1') (hg : W.grownBy W' v.ownBlock) (ha : v'.ownBlock = v.ownBlock ∨ v'.ownBlock = some W.heap.size) : FbS w k1' R1' v' k2 R2 u W' := by
  refine ⟨h.bel.grown hg h.bel.size (fun q e => (h.fst.lt q e).1), o, h.snd.kept hg h.ne', ?_⟩
  rcases ha with ha | ha
  · rw [ha]; exact h.ne
  · right
    rw [ha]
    intro e
    have := (h.snd.lt _ e.symm).2
    omega
theorem FbS.two {w W W' : World} {k1 k2 k2' : Nat} {R1 R2 R2' : List Value} {v u u' : Value} (h : FbS w k1 R1 v k2 R2 u W) (o : W'.ownsRow w.heap.size 24 1 u' k2' R2') (hg : W.grownBy W' u.ownBlock) (ha : u'.ownBlock = u.ownBlock ∨ u'.ownBlock = some W.heap.size) : FbS w k1 R1 v k2' R2' u' W' := by
  refine ⟨h.bel.grown hg h.bel.size (fun q e => (h.snd.lt q e).1), h.fst.kept hg h.ne, o, ?_⟩
  rcases ha with ha | ha
  · rw [ha]; exact h.ne
  · right
    rw [ha]
    intro e
    have := (h.fst.lt _ e).2
    omega
theorem ealloc_later (W : World) (o : Obj) : Below W.heap.size W (W.alloc o) := (Below.refl _ _).alloc (Nat.le_refl _) _
set_option maxHeartbeats 1600000 in
set_option maxRecDepth 100000 in
theorem cleanBetween_long (a : Option Addr) (n cap : Nat) (w : World) (hn : 200 < n) (hm : n ≤ 9223372036854775807) :
    Calls Try.prog 3 #[.slice a n cap] w fun e w' => e = .returned (.bool true) ∧ Below w.heap.size w w' := by
  have HLv := hid (elives_any w)
  have h1 : (200 : Int) < (n : Int) := by omega
  go_enter Try.func3, Try.ntmps3
  go_wp2_with fail
  refine Calls.mono HLv.out ?_
  rintro e w1 ⟨rfl, hb1⟩
  have HB1 := hid hb1
  clear hb1
  go_wp2_with fail
  go_ret
  exact ⟨rfl, HB1.out⟩
set_option maxHeartbeats 3200000 in
set_option maxRecDepth 100000 in
theorem cleanBetween_go (a : Option Addr) (n cap : Nat) (xs : List Nat) (w : World) (hn : n ≤ 200) (hl : xs.length = n) (hx : ∀ x ∈ xs, x < 18446744073709551616) (h : RdH w a xs) :
    Calls Try.prog 3 #[.slice a n cap] w fun e w' => e = .returned (.bool true) ∧ Below w.heap.size w w' := by
  obtain ⟨i0, hi, hz0, hz1, hz2⟩ := info_parts Try.infoF
  have HLv := hid (elives_any w)
  have HD := hid h
  have HX := hid hx
  have HL := hid hl
  have h1 : ¬ (200 : Int) < (n : Int) := by omega
  clear h hx hl
  go_enter Try.func3, Try.ntmps3
  go_wp2_with fail
  refine Calls.mono HLv.out ?_
  rintro e w1 ⟨rfl, hb1⟩
  have HB1 := hid hb1
  have HD1 := hid (HD.out.later hb1)
  clear hb1 HLv HD
  go_wp2_with fail
  refine Calls.mono (efinite_any a n cap xs w1 (by omega) HL.out HX.out HD1.out) ?_
  rintro e w2 ⟨kf, lo, hi', rfl, HF, hb2⟩
  have HB2 := hid (ybt' HB1.out hb2)
  have HD2 := hid (HD1.out.later hb2)
  clear hb2 HB1 HD1
  go_wp2_with fail
  refine Calls.mono (emedian_any a n cap xs w2 (by omega) HL.out HX.out HD2.out) ?_
  rintro e w3 ⟨m, ok, rfl, HM, hb3⟩
  have HB3 := hid (ybt' HB2.out hb3)
  have HD3 := hid (HD2.out.later hb3)
  clear hb3 HB2 HD2
  have HLN : Hid ((xs.map fopp).length = n ∧ xs.reverse.length = n) := ⟨by rw [List.length_map]; exact HL.out, by rw [List.length_reverse]; exact HL.out⟩
  have hneg : ∀ x, Op.unary .neg (.float .f64 x) = pure (.float .f64 (fopp x)) := fun x => rfl
  go_wp2_with fail
  go_loopw [8, 9, 10] (fun v u z wr => ∃ k : Nat, k ≤ n ∧ z = .int .i64 (k : Int) ∧ Hid (FbS w3 k (((xs.map fopp).take k).map (Value.float .f64)) v k ((xs.reverse.take k).map (Value.float .f64)) u wr)) (fun _ _ z _ => n - (intOf z).toNat)
  case atStart => exact ⟨0, Nat.zero_le _, rfl, ⟨Below.refl _ _, World.ownsRow_nil _ _ _ _, World.ownsRow_nil _ _ _ _, .inl rfl⟩⟩
  case round =>
    obtain ⟨k, hk, rfl, HS⟩ := hrel
    by_cases hlt : k < n
    · obtain ⟨j, hj⟩ : ∃ j : Nat, j + 1 + k = n := ⟨n - 1 - k, by omega⟩
      obtain ⟨x, hp⟩ : ∃ p, xs[k]? = some p := ⟨_, List.getElem?_eq_getElem (by rw [HL.out]; exact hlt)⟩
      obtain ⟨y, hq⟩ : ∃ p, xs[j]? = some p := ⟨_, List.getElem?_eq_getElem (by rw [HL.out]; omega)⟩
      have HT1 : Hid ((xs.map fopp).take (k + 1) = (xs.map fopp).take k ++ [fopp x]) := by
        show _ = _
        rw [List.take_add_one, List.getElem?_map, hp]; rfl
      have HT2 : Hid (xs.reverse.take (k + 1) = xs.reverse.take k ++ [y]) := by
        show _ = _
        rw [List.take_add_one, List.getElem?_reverse (by rw [HL.out]; exact hlt), HL.out, show n - 1 - k = j by omega, hq]; rfl
      obtain ⟨g, o, rfl, hg, hc⟩ := HD3.out.get hp
      have HC : Hid (∀ V, Below w3.heap.size w3 V → V.cell? ⟨g, o + k, none⟩ = some (.float .f64 x) ∧ V.cell? ⟨g, o + j, none⟩ = some (.float .f64 y)) := fun V hV => ⟨(hV.cell (p := ⟨g, o + k, none⟩) hg).trans (hc _ _ hp), (hV.cell (p := ⟨g, o + j, none⟩) hg).trans (hc _ _ hq)⟩
      have c0 := (HC.out wr HS.out.bel).1
      have hle := HS.out.bel.size
      have hj0 : (n : Int) - 1 - (k : Int) = (j : Int) := by omega
      have hj1 : (j : Int) < (n : Int) := by omega
      have hk1 : (k : Int) < (n : Int) := by omega
      clear hc hp hq
      generalize (xs.map fopp).take k = R1 at *
      generalize xs.reverse.take k = R2 at *
      have HSa := hid (HS.out.later (ealloc_later wr (.cells #[.float .f64 (fopp x)] 24)))
      go_wp2_with (first
          | (at_builtin; refine wpList_append_own_at _ rfl _ _ 22 rfl w3.heap.size 24 i0 (.float .f64 0) 1 8 Try.underlying22 hi hz0 hz1 hz2 rfl (by decide) _ _ _ rfl HSa.out.fst ⟨wr.heap.size, 0, none⟩ 1 1 [.float .f64 (fopp x)] rfl rfl (cell_one_new _ _ _) (by simp [Value.oneCell']) (by unfold maxLen; omega) (by omega) (by simp; omega) ?_; intro v4 w4 ho4 hg4 _ ha4; have HS4 := hid (HSa.out.one ho4 hg4 ha4); have c1 := (HC.out w4 HS4.out.bel).2; have hle4 := HS4.out.bel.size; have HS5 := hid (HS4.out.later (ealloc_later w4 (.cells #[.float .f64 y] 24))); clear ho4 hg4 ha4)
          | (at_builtin; refine wpList_append_own_at _ rfl _ _ 22 rfl w3.heap.size 24 i0 (.float .f64 0) 1 8 Try.underlying22 hi hz0 hz1 hz2 rfl (by decide) _ _ _ rfl HS5.out.snd ⟨w4.heap.size, 0, none⟩ 1 1 [.float .f64 y] rfl rfl (cell_one_new _ _ _) (by simp [Value.oneCell']) (by unfold maxLen; omega) (by omega) (by simp; omega) ?_; intro v6 w6 ho6 hg6 _ ha6; have HS6 := hid (HS5.out.two ho6 hg6 ha6); clear ho6 hg6 ha6)
          | go_in)
      have HSS : Hid (FbS w3 (k + 1) ((R1 ++ [fopp x]).map (Value.float .f64)) v4 (k + 1) ((R2 ++ [y]).map (Value.float .f64)) v6 w6) := by
        rw [List.map_append, List.map_append]; exact HS6.out
      go_wp2_with fail
      go_roundw
      case rel => exact ⟨k + 1, by omega, by go_num, by rw [HT1.out, HT2.out]; exact HSS.out⟩
      case measure => simp [intOf]; omega
    · obtain rfl : k = n := by omega
      have hkk : ¬ (k : Int) < (k : Int) := by omega
      rw [List.take_of_length_le (by rw [HLN.out.1]; exact Nat.le_refl _), List.take_of_length_le (by rw [HLN.out.2]; exact Nat.le_refl _)] at HS
      have HSb := HS.out
      obtain ⟨a4, c4, rfl, V4⟩ := yshape HSb.fst
      obtain ⟨a5, c5, rfl, V5⟩ := yshape HSb.snd
      have HV4 := hid (RdH.of V4)
      have HV5 := hid (RdH.of V5)
      have HB4 := hid (ybt' HB3.out HSb.bel)
      have HD4 := hid (HD3.out.later HSb.bel)
      clear V4 V5 HSb HS HB3 HD3
      go_wp2_with fail
      refine Calls.mono (emedian_any a4 k c4 (xs.map fopp) wr (by omega) HLN.out.1 (fun x hx => by obtain ⟨y, hy, rfl⟩ := List.mem_map.1 hx; exact (fopp_mod (HX.out y hy)).2) HV4.out) ?_
      rintro e w7 ⟨m1, ok1, rfl, HM1, hb7⟩
      have HB7 := hid (ybt' HB4.out hb7)
      have HD7 := hid (HD4.out.later hb7)
      have HV7 := hid (HV5.out.later hb7)
      clear hb7 HB4 HD4 HV4 HV5
      go_wp2_with fail
      refine Calls.mono (emedian_any a5 k c5 xs.reverse w7 (by omega) HLN.out.2 (fun x hx => HX.out x (List.mem_reverse.1 hx)) HV7.out) ?_
      rintro e w8 ⟨m2, ok2, rfl, HM2, hb8⟩
      have HB8 := hid (ybt' HB7.out hb8)
      have HD8 := hid (HD7.out.later hb8)
      clear hb8 HB7 HD7 HV7
      have HFi : Hid (∀ x ∈ srtF xs, Fi x) := fun x hx => Fi.of (HX.out x (srtF_mem.1 hx).1) (srtF_mem.1 hx).2
      rw [srtF_opp HX.out] at HM1
      rw [srtF_same (List.reverse_perm xs)] at HM2
      have hok1 : ok1 = ok := by
        have q1 := HM.out.there.1
        have q2 := HM1.out.there.1
        have q3 : ((srtF xs).map fopp).reverse ≠ [] ↔ srtF xs ≠ [] := by simp
        rw [q3, ← q1] at q2
        cases ok <;> cases ok1 <;> simp_all
      have hok2 : ok2 = ok := by
        have q1 := HM.out.there.1
        have q2 := HM2.out.there.1
        rw [← q1] at q2
        cases ok <;> cases ok2 <;> simp_all
      subst hok1 hok2
      have hkf : (0 < kf) ↔ ok2 = true := by
        rw [HM.out.there.1, HF.out.num, ← srtF_len]
        exact List.length_pos_iff
      cases ok2
      · have hk0 : kf = 0 := by
          rcases Nat.eq_zero_or_pos kf with h | h
          · exact h
          · have := hkf.1 h; cases this
        obtain rfl : m = 0 := HM.out.there.2 rfl
        obtain rfl : m1 = 0 := HM1.out.there.2 rfl
        subst hk0
        have hz : (FloatKind.f64.format.order 0 0 == some .eq) = true := by decide +kernel
        clear hkf
        go_wp2_with fail
        go_ret
        exact ⟨rfl, HB8.out⟩
      · have hkp : 0 < kf := hkf.2 rfl
        have hkp2 : (0 : Int) < (kf : Int) := by omega
        have fm := MedT.fi HFi.out HM.out
        have f1 : Fi m1 := MedT.fi (fun x hx => by
          obtain ⟨y, hy, rfl⟩ := List.mem_map.1 (List.mem_reverse.1 hx)
          exact (HFi.out y hy).opp) HM1.out
        have f2 : Fi m2 := MedT.fi HFi.out HM2.out
        have e1 := MedT.opp HFi.out HM.out HM1.out
        have e2 := MedT.same HFi.out HM.out HM2.out
        have hq1 : (FloatKind.f64.format.order m1 (fopp m) == some .eq) = true := by
          rw [eeq_iff f1 fm.opp, sv_opp fm.1, e1]; simp
        have hq2 : (FloatKind.f64.format.order m2 m == some .eq) = true := by
          rw [eeq_iff f2 fm, e2]; simp
        have HFm := hid fm
        have hneg2 : Op.unary .neg (.float .f64 m) = pure (.float .f64 (fopp m)) := rfl
        clear hkf fm f1 f2 e1 e2
        go_wp2_with fail
        refine Calls.mono (etiny_any a k cap xs w8 (by omega) HL.out HD8.out) ?_
        rintro e w9 ⟨t, rfl, HTn, hb9⟩
        have HB9 := hid (ybt' HB8.out hb9)
        clear hb9 HB8 HD8
        cases t
        · have HBt := hid (MedT.between HFi.out HM.out HF.out.fl HF.out.fh (fun x hx => HF.out.all x (srtF_mem.1 hx).1 (srtF_mem.1 hx).2) (fun x hx => HTn.out rfl x (srtF_mem.1 hx).1 (HFi.out x hx)))
          obtain ⟨o1, hO1, hc1⟩ : ∃ c, FloatKind.f64.format.order m lo = some c ∧ (c = .gt ∨ c = .eq) := by
            refine ⟨_, yorder HFm.out HF.out.fl, ?_⟩
            rcases Int.lt_or_eq_of_le HBt.out.1 with h | h
            · exact .inl (Int.compare_eq_gt.2 h)
            · exact .inr (Int.compare_eq_eq.2 h.symm)
          obtain ⟨o2, hO2, hc2⟩ : ∃ c, FloatKind.f64.format.order m hi' = some c ∧ (c = .lt ∨ c = .eq) := by
            refine ⟨_, yorder HFm.out HF.out.fh, ?_⟩
            rcases Int.lt_or_eq_of_le HBt.out.2 with h | h
            · exact .inl (Int.compare_eq_lt.2 h)
            · exact .inr (Int.compare_eq_eq.2 h)
          rcases hc1 with rfl | rfl <;> rcases hc2 with rfl | rfl
          all_goals
            go_wp2_with fail
            go_ret
            exact ⟨rfl, HB9.out⟩
        · go_wp2_with fail
          go_ret
          exact ⟨rfl, HB9.out⟩
theorem cleanBetween_in (a : Option Addr) (n cap : Nat) (xs : List Nat) (w : World) (h : (a = none → n = 0 ∧ cap = 0) ∧ n ≤ cap ∧ cap ≤ maxLen ∧ xs.length = n ∧ (∀ p ∈ xs, p < 18446744073709551616) ∧ RdH w a xs) :
    Calls Try.prog 3 #[.slice a n cap] w fun e w' => e = .returned (.bool true) ∧ Below w.heap.size w w' := by
  by_cases hn : n ≤ 200
  · exact cleanBetween_go a n cap xs w hn h.2.2.2.1 h.2.2.2.2.1 h.2.2.2.2.2
  · exact cleanBetween_long a n cap w (by omega) (by have := h.2.1; have := h.2.2.1; unfold maxLen at *; omega)
end Go.Proofs.Ytaklojkdlmajeab

