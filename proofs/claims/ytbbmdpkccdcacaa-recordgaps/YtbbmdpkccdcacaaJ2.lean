/- My texts on the way to RecordGaps, one behind the other: contracts of the program and of the document's answers. -/
import Derived.Test.YtbbmdpkccdcacaaJ1
import Derived.Test.YtbbmdpkccdcacaaShelf
import Derived.Sort.OwnSortedInts
import Derived.Maps.AppendAt
import Derived.Deep.Cut
import Derived.RangeFuncNested
import Derived.RangeFuncBound
import Derived.RangeFuncCalls
import Derived.RangeFuncLeaves
import Derived.RangeFuncFrom
import Derived.Shelf.Abstract
import Derived.Shelf.RegionOpen
import Derived.OwnWalkIn
import Derived.TacticsInMore
import Derived.LoopNIn
import Derived.LoopIn
import Derived.Deep.RegionHeld3
import Derived.Stop.RegionWithIn
import Derived.ChangeKeysEq
import Derived.Laws.StructEq
import Derived.BigQuiet
/- package record: Len, Lost, Samples, of every record. -/
namespace Go.Proofs.Ytbbmdpkccdcacaa
open Go.RowKit
set_option linter.unusedVariables false
set_option linter.unusedSimpArgs false

theorem Try.yinfoS : (Try.prog.info? 40).map (fun i => (i.zero, i.size, i.bytes)) = some (some (.agg #[.int .i64 0, .float .f64 0]), 2, 16) := by kernel_rfl
/-- What the call owns stays, while nothing that stood is written. -/
theorem yowns_later {w w' : World} {base e s : Nat} {v : Value} {n : Nat} {xs : List Value} (h : w.ownsRow base e s v n xs) (hb : Below w.heap.size w w') : w'.ownsRow base e s v n xs := by
  refine ⟨h.1, h.2.imp id ?_⟩
  rintro ⟨g, cap, cur, rfl, h1, h2, r⟩
  exact ⟨g, cap, cur, rfl, h1, (hb.block g (Array.getElem?_eq_some_iff.1 h2).1).trans h2, r⟩
theorem yowns_base {w : World} {base base' e s : Nat} {v : Value} {n : Nat} {xs : List Value} (h : w.ownsRow base e s v n xs) (hb : base' ≤ base) : w.ownsRow base' e s v n xs := by
  refine ⟨h.1, h.2.imp id ?_⟩
  rintro ⟨g, cap, cur, rfl, h1, r⟩
  exact ⟨g, cap, cur, rfl, by omega, r⟩
/-- A slice that is read as these cells. -/
def RdV (w : World) (a : Option Addr) (xs : List Value) : Prop := xs = [] ∨ ∃ g, a = some ⟨g, 0, none⟩ ∧ g < w.heap.size ∧ ∀ j u, xs[j]? = some u → w.cell? ⟨g, j, none⟩ = some u
theorem RdV.later {w w' : World} {a : Option Addr} {xs : List Value} (h : RdV w a xs) (hb : Below w.heap.size w w') : RdV w' a xs := by
  rcases h with h | ⟨g, ha, hg, hc⟩
  · exact .inl h
  · exact .inr ⟨g, ha, Nat.lt_of_lt_of_le hg hb.size, fun j u hj => (hb.cell (p := ⟨g, j, none⟩) hg).trans (hc j u hj)⟩
theorem yshape {w : World} {base e s : Nat} {v : Value} {n : Nat} {xs : List Value} (h : w.ownsRow base e s v n xs) : ∃ a cap, v = .slice a n cap ∧ RdV w a xs := by
  rcases h.2 with ⟨h1, h0⟩ | ⟨g, cap, cur, hv, h1, h2, h3, h4, h5, h6⟩
  · subst h0
    exact ⟨_, _, h1, .inl (List.length_eq_zero_iff.1 (by rw [h.1]; simp))⟩
  · refine ⟨_, _, hv, .inr ⟨g, rfl, (Array.getElem?_eq_some_iff.1 h2).1, fun j u hj => ?_⟩⟩
    have q := h.cells (g := g) (by rw [hv]; rfl) j u hj
    unfold Addr.add at q
    split at q
    · rename_i hj0
      have hj0 : j = 0 := by simpa using hj0
      rw [hj0]
      exact q
    · simpa using q
theorem ysort_any (base : Nat) (v : Value) (ks : List Int) (w : World) (h : w.ownsRow base 3 1 v ks.length (ks.map (Value.int .i64))) (hl : ks.length ≤ 4096) (hbs : base ≤ w.heap.size) :
    Calls Try.prog 42 #[v] w fun e w' => e = .returned (.tuple #[]) ∧ Hid (w'.ownsRow base 3 1 v ks.length ((ks.mergeSort (fun x y => decide (x ≤ y))).map (Value.int .i64))) ∧ Below base w w' := by
  rcases h.2 with ⟨rfl, h0⟩ | ⟨g, cap, cur, rfl, h1, h2, h3, h4, h5, h6⟩
  · obtain rfl : ks = [] := List.length_eq_zero_iff.1 h0
    refine Calls.mono (Try.slices_Sort_int_none none 0 w) ?_
    rintro e w' ⟨rfl, rfl⟩
    refine ⟨rfl, ?_, Below.refl _ _⟩
    rw [List.mergeSort_nil]
    exact World.ownsRow_nil _ _ _ _
  · refine Calls.mono (Try.slices_Sort_int g 0 cap ks w (holds_of_blockI h2 (by rw [Nat.mul_one] at h6; exact h6)) (Array.getElem?_eq_some_iff.1 h2).1 (by omega)) ?_
    rintro e w' ⟨rfl, n, os, rfl⟩
    exact ⟨rfl, ownsRow_sortedI (List.length_mergeSort ks) h1 h2 h3 h4 h5, (Below.refl _ _).grown (grownBy_sortedI _) hbs (fun k e => by cases e; exact h1)⟩
theorem ylen_any (rb mb : Nat) (L : List (Int × Nat)) (w : World) (h : RecAt w rb mb L) :
    Calls Try.prog 25 #[.pointer (some ⟨rb, 0, none⟩)] w fun e w' => e = .returned (.int .i64 ((onesL L true).length : Int)) ∧ Below w.heap.size w w' := by
  have HT := hid (yticks_any rb mb L true w h)
  clear h
  go_enter Try.func25, Try.ntmps25
  go_wp2_with fail
  refine Calls.mono HT.out ?_
  rintro e w1 ⟨v, ks, rfl, HO, HK, HL, hb⟩
  obtain ⟨a, cap, rfl, HV⟩ := yshape HO.out
  have HE : Hid (ks.length = (onesL L true).length) := by
    have := congrArg List.length HK.out
    rw [List.length_mergeSort, List.length_map] at this
    exact this
  have HB := hid hb
  clear HT HO HV HK HL hb
  go_wp2_with fail
  go_ret
  exact ⟨by rw [HE.out]; rfl, HB.out⟩
theorem ylost_any (rb mb : Nat) (L : List (Int × Nat)) (w : World) (h : RecAt w rb mb L) :
    Calls Try.prog 20 #[.pointer (some ⟨rb, 0, none⟩)] w fun e w' => ∃ v : Value, e = .returned v ∧ Hid (w'.ownsRow w.heap.size 3 1 v (onesL L false).length (((onesL L false).map (·.1)).map (Value.int .i64))) ∧ Below w.heap.size w w' := by
  have HT := hid (yticks_any rb mb L false w h)
  clear h
  go_enter Try.func20, Try.ntmps20
  go_wp2_with fail
  refine Calls.mono HT.out ?_
  rintro e w1 ⟨v, ks, rfl, HO, HK, HL, hb⟩
  have HE : Hid (ks.length = (onesL L false).length) := by
    have := congrArg List.length HK.out
    rw [List.length_mergeSort, List.length_map] at this
    exact this
  have HB := hid hb
  have HS := hid (ysort_any w.heap.size v ks w1 HO.out HL.out HB.out.size)
  rw [HK.out] at HS
  clear HT HO HL hb
  go_wp2_with fail
  refine Calls.mono HS.out ?_
  rintro e w2 ⟨rfl, HO2, hb2⟩
  have HB2 := hid (HB.out.trans hb2)
  rw [HE.out] at HO2
  clear HS HB hb2 HK HE
  go_wp2_with fail
  go_ret
  exact ⟨_, rfl, HO2, HB2.out⟩
/-- The cells of samples. -/
def smC (M : List (Int × Nat)) : List Value := M.flatMap fun p => [.int .i64 p.1, .float .f64 p.2]
theorem smC_append (M N : List (Int × Nat)) : smC (M ++ N) = smC M ++ smC N := by unfold smC; rw [List.flatMap_append]
theorem smC_len (M : List (Int × Nat)) : (smC M).length = M.length * 2 := by
  induction M with
  | nil => rfl
  | cons p M ih => unfold smC at *; rw [List.flatMap_cons, List.length_append, ih, List.length_cons]; simp; omega
theorem smC_take {M : List (Int × Nat)} {k : Nat} {p : Int × Nat} (h : M[k]? = some p) : smC (M.take (k + 1)) = smC (M.take k) ++ [.int .i64 p.1, .float .f64 p.2] := by
  rw [List.take_add_one, h, smC_append]
  rfl
theorem smC_at {M : List (Int × Nat)} : ∀ {k : Nat} {p : Int × Nat}, M[k]? = some p → (smC M)[k * 2]? = some (.int .i64 p.1) ∧ (smC M)[k * 2 + 1]? = some (.float .f64 p.2) := by
  induction M with
  | nil => intro k p h; simp at h
  | cons q M ih =>
    intro k p h
    have e : smC (q :: M) = .int .i64 q.1 :: .float .f64 q.2 :: smC M := rfl
    rw [e]
    cases k with
    | zero => simp at h; subst h; exact ⟨rfl, rfl⟩
    | succ k =>
      have := ih (k := k) (p := p) (by simpa using h)
      rw [show (k + 1) * 2 = k * 2 + 1 + 1 by omega, show k * 2 + 1 + 1 + 1 = (k * 2 + 1) + 1 + 1 by omega]
      exact this
theorem smC_one (p : Int × Nat) : ∀ u ∈ [Value.int .i64 p.1, .float .f64 p.2], u.oneCell' = true := by
  intro u hu
  simp only [List.mem_cons, List.not_mem_nil, or_false] at hu
  rcases hu with rfl | rfl <;> rfl
theorem ycell2 (w : World) (x y : Value) (t : TypeId) : ∀ j u, [x, y][j]? = some u → (w.alloc (.cells #[x, y] t)).cell? ((⟨w.heap.size, 0, none⟩ : Addr).add j) = some u := by
  intro j u hj
  match j, hj with
  | 0, hj => simp at hj; subst hj; simp [Addr.add]
  | 1, hj => simp at hj; subst hj; simp [Addr.add]
  | n + 2, hj => simp at hj
set_option maxHeartbeats 3200000 in
set_option maxRecDepth 100000 in
theorem ysamples_any (rb mb : Nat) (L : List (Int × Nat)) (w : World) (h : RecAt w rb mb L) :
    Calls Try.prog 17 #[.pointer (some ⟨rb, 0, none⟩)] w fun e w' => ∃ v : Value, e = .returned v ∧ Hid (w'.ownsRow w.heap.size 40 2 v (onesL L true).length (smC (onesL L true))) ∧ Below w.heap.size w w' := by
  have HT := hid (yticks_any rb mb L true w h)
  have HR := hid h
  obtain ⟨i0, hi, hz0, hz1, hz2⟩ := info_parts Try.yinfoS
  have HM : Hid (∀ p ∈ onesL L true, rget L p.1 = some p.2 ∧ I64 p.1) := fun p hp => by
    have q := (List.mem_filter.1 hp).1
    have := h.ok.tick p q
    exact ⟨h.ok.get q, by unfold I64; omega⟩
  have hn4 := (h.ok.ones true).few
  clear h
  generalize onesL L true = M at *
  go_enter Try.func17, Try.ntmps17
  go_wp2_with fail
  refine Calls.mono HT.out ?_
  rintro e w1 ⟨v, ks, rfl, HO, HK, HL, hb⟩
  have HE : Hid (ks.length = M.length) := by
    have := congrArg List.length HK.out
    rw [List.length_mergeSort, List.length_map] at this
    exact this
  have HB := hid hb
  have HS := hid (ysort_any w.heap.size v ks w1 HO.out HL.out HB.out.size)
  rw [HK.out] at HS
  clear HT HO HL hb
  go_wp2_with fail
  refine Calls.mono HS.out ?_
  rintro e w2 ⟨rfl, HO2, hb2⟩
  have HB2 := hid (HB.out.trans hb2)
  rw [HE.out] at HO2
  obtain ⟨a, cap, rfl, HV⟩ := yshape HO2.out
  have HVH := hid HV
  clear HS HB hb2 HK HE HO2 HV
  go_wp2_with fail
  go_loopw [4, 13] (fun v x wr => ∃ k : Nat, k ≤ M.length ∧ x = .int .i64 (k : Int) ∧ Hid (wr.ownsRow w2.heap.size 40 2 v k (smC (M.take k))) ∧ Hid (Below w2.heap.size w2 wr)) (fun _ x _ => M.length - (intOf x).toNat)
  case atStart => exact ⟨0, Nat.zero_le _, rfl, World.ownsRow_nil _ _ _ _, Below.refl _ _⟩
  case round =>
    obtain ⟨k, hk, rfl, HO, HBW⟩ := hrel
    by_cases hlt : k < M.length
    · obtain ⟨p, hp⟩ : ∃ p, M[k]? = some p := ⟨_, List.getElem?_eq_getElem hlt⟩
      obtain ⟨t, b⟩ := p
      have HP := hid hp
      have hmem : (t, b) ∈ M := List.mem_of_getElem? hp
      have HG := HM.out _ hmem
      have ho := HO.out
      have hb := HBW.out
      have hsz := hb.size
      have HRW := hid (HR.out.later (HB2.out.trans (hb.mono HB2.out.size)))
      have hl : (Instr.lookup 59 (.map (some mb)) (.int .i64 t) false).run Try.prog wr = .ok (.float .f64 b) wr := by
        have q := ylook HRW.out.own HG.2 false
        rw [HG.1] at q
        exact q
      have c0 : wr.cell? ⟨rb, 0, none⟩ = some (.map (some mb)) := HRW.out.box.cell 0
      obtain ⟨g, rfl, hg, hc⟩ : ∃ g, a = some ⟨g, 0, none⟩ ∧ g < w2.heap.size ∧ ∀ j u, ((M.map (·.1)).map (Value.int .i64))[j]? = some u → w2.cell? ⟨g, j, none⟩ = some u := by
        rcases HVH.out with q | q
        · have := congrArg List.length q
          simp at this
          rw [this] at hlt
          simp at hlt
        · exact q
      have c1 : wr.cell? ⟨g, k, none⟩ = some (.int .i64 t) := (hb.cell (p := ⟨g, k, none⟩) hg).trans (hc k _ (by simp [hp]))
      have HS := hid (smC_take hp)
      clear HO HBW hp hmem HG hc
      generalize smC (M.take k) = R at *
      go_wp2_with (first
        | (at_builtin; refine wpList_append_own _ rfl _ _ 37 rfl w2.heap.size 40 i0 (.agg #[.int .i64 0, .float .f64 0]) 2 16 Try.underlying37 hi hz0 hz1 hz2 rfl (by decide) _ _ _ rfl (ho.alloc _) ⟨wr.heap.size, 0, none⟩ 1 1 [.int .i64 t, .float .f64 b] rfl rfl (ycell2 _ _ _ _) (smC_one (t, b)) (by unfold maxLen; omega) (by omega) (by simp; omega) ?_; intro v' w4 ho2 hg2 _)
        | go_in)
      have hb3 : Below w2.heap.size w2 w4 := (hb.alloc (by omega) _).grown hg2 (by simp; omega) (fun g hg => (ho.lt g hg).1)
      have HB3 := hid hb3
      have HO2 := hid ho2
      clear hg2 hl hb3 ho2
      go_wp2_with fail
      go_roundw
      case rel => exact ⟨k + 1, by omega, by go_num, by rw [HS.out]; exact HO2.out, HB3.out⟩
      case measure => simp [intOf]; omega
    · obtain rfl : k = M.length := by omega
      have hg2 : decide (((M.length : Nat) : Int) < ((M.length : Nat) : Int)) = false := by simp
      have HE : Hid (smC (M.take M.length) = smC M) := by rw [List.take_length]; rfl
      go_wp2_with fail
      all_goals first | (exfalso; omega) | (go_ret; exact ⟨_, rfl, yowns_base (HE.out ▸ HO.out) HB2.out.size, HB2.out.trans (HBW.out.mono HB2.out.size)⟩)
end Go.Proofs.Ytbbmdpkccdcacaa

/- package record: At, lookAt, appendGap, All. -/
namespace Go.Proofs.Ytbbmdpkccdcacaa
open Go.RowKit
set_option linter.unusedVariables false
set_option linter.unusedSimpArgs false

/-- What At tells. -/
def yatR (L : List (Int × Nat)) (t : Int) : Nat × Bool := match rget L t with
  | none => (0, false)
  | some b => if isone b then (b, true) else (0, false)
theorem rget_has {L : List (Int × Nat)} {t : Int} : (rget L t).isSome = rhas L t := by
  unfold rget rhas
  rw [Option.isSome_map]
  induction L with
  | nil => rfl
  | cons y r ih =>
    rw [List.find?_cons, List.any_cons]
    cases h : (y.1 == t)
    · exact ih
    · rfl
theorem rget_mem {L : List (Int × Nat)} {t : Int} {b : Nat} (h : rget L t = some b) : (t, b) ∈ L := by
  unfold rget at h
  cases hf : L.find? (fun p => p.1 == t) with
  | none => rw [hf] at h; cases h
  | some p =>
    rw [hf] at h
    have e2 : p.2 = b := by simpa using h
    have e3 : p.1 = t := by simpa using List.find?_some hf
    have := List.mem_of_find?_eq_some hf
    rw [← e2, ← e3]
    exact this
theorem yat_none {L : List (Int × Nat)} {t : Int} (h : rget L t = none) : yatR L t = (0, false) := by unfold yatR; rw [h]
theorem yat_not {L : List (Int × Nat)} {t : Int} {b : Nat} (h : rget L t = some b) (o : isone b = false) : yatR L t = (0, false) := by unfold yatR; rw [h]; simp [o]
theorem yat_yes {L : List (Int × Nat)} {t : Int} {b : Nat} (h : rget L t = some b) (o : isone b = true) : yatR L t = (b, true) := by unfold yatR; rw [h]; simp [o]
set_option maxHeartbeats 1600000 in
set_option maxRecDepth 100000 in
theorem yat_any (rb mb : Nat) (L : List (Int × Nat)) (t : Int) (w : World) (h : RecAt w rb mb L) (ht : I64 t) :
    Calls Try.prog 29 #[.pointer (some ⟨rb, 0, none⟩), .int .i64 t] w fun e w' => e = .returned (.tuple #[.float .f64 (yatR L t).1, .bool (yatR L t).2]) ∧ w' = w := by
  have HM := hid (ymade_any rb mb w h.box)
  have hl : (Instr.lookup 59 (.map (some mb)) (.int .i64 t) true).run Try.prog w = .ok (.tuple #[.float .f64 ((rget L t).getD 0), .bool (rhas L t)]) w := ylook h.own ht true
  have c0 : w.cell? ⟨rb, 0, none⟩ = some (.map (some mb)) := h.box.cell 0
  rw [← rget_has] at hl
  have HT : Hid (∀ b, rget L t = some b → b < 18446744073709551616) := fun b hb => (h.ok.tick _ (rget_mem hb)).2.2
  clear h ht
  cases hg : rget L t with
  | none =>
    rw [hg] at hl
    have HE : Hid (yatR L t = (0, false)) := yat_none hg
    clear HT hg
    go_enter Try.func29, Try.ntmps29
    go_wp2_with fail
    refine Calls.mono HM.out ?_
    rintro e w1 ⟨rfl, rfl⟩
    go_wp2_with fail
    go_ret2
    rw [HE.out]
    exact ⟨rfl, rfl⟩
  | some b =>
    rw [hg] at hl
    have HI := hid (yisone_any b w (HT.out b hg))
    cases ho : isone b
    · have HE : Hid (yatR L t = (0, false)) := yat_not hg ho
      rw [ho] at HI
      clear HT hg ho
      go_enter Try.func29, Try.ntmps29
      go_wp2_with fail
      refine Calls.mono HM.out ?_
      rintro e w1 ⟨rfl, rfl⟩
      go_wp2_with fail
      refine Calls.mono HI.out ?_
      rintro e w1 ⟨rfl, rfl⟩
      go_wp2_with fail
      go_ret2
      rw [HE.out]
      exact ⟨rfl, rfl⟩
    · have HE : Hid (yatR L t = (b, true)) := yat_yes hg ho
      rw [ho] at HI
      clear HT hg ho
      go_enter Try.func29, Try.ntmps29
      go_wp2_with fail
      refine Calls.mono HM.out ?_
      rintro e w1 ⟨rfl, rfl⟩
      go_wp2_with fail
      refine Calls.mono HI.out ?_
      rintro e w1 ⟨rfl, rfl⟩
      go_wp2_with fail
      go_ret2
      rw [HE.out]
      exact ⟨rfl, rfl⟩
/-- What lookAt tells of a record that was made. -/
def spR (a b : Int) : Int := if a < 0 ∨ 1048577 < b ∨ b < a then 2 else 0
theorem ylook_at (rb mb : Nat) (a b : Int) (w : World) (h : FBox w rb 61 #[.map (some mb)]) (ha : I64 a) (hb : I64 b) :
    Calls Try.prog 50 #[.pointer (some ⟨rb, 0, none⟩), .int .i64 a, .int .i64 b] w fun e w' => e = .returned (.int .i64 (spR a b)) ∧ w' = w := by
  have HM := hid (ymade_any rb mb w h)
  have HC := hid (ckspn_any a b w ha hb)
  clear h ha hb
  by_cases h1 : a < 0 ∨ 1048577 < b ∨ b < a
  · have e1 : spnR a b = 2 := if_pos h1
    have HE : Hid (spR a b = 2) := if_pos h1
    rw [e1] at HC
    clear e1 h1
    go_enter Try.func50, Try.ntmps50
    go_wp2_with fail
    refine Calls.mono HM.out ?_
    rintro e w1 ⟨rfl, rfl⟩
    go_wp2_with fail
    refine Calls.mono HC.out ?_
    rintro e w1 ⟨rfl, rfl⟩
    go_wp2_with fail
    go_ret
    rw [HE.out]
    exact ⟨rfl, rfl⟩
  · have HE : Hid (spR a b = 0) := if_neg h1
    by_cases h2 : 4096 < b - a
    · have e1 : spnR a b = 3 := by unfold spnR; rw [if_neg h1, if_pos h2]
      rw [e1] at HC
      clear e1 h1 h2
      go_enter Try.func50, Try.ntmps50
      go_wp2_with fail
      refine Calls.mono HM.out ?_
      rintro e w1 ⟨rfl, rfl⟩
      go_wp2_with fail
      refine Calls.mono HC.out ?_
      rintro e w1 ⟨rfl, rfl⟩
      go_wp2_with fail
      go_ret
      rw [HE.out]
      exact ⟨rfl, rfl⟩
    · have e1 : spnR a b = 0 := by unfold spnR; rw [if_neg h1, if_neg h2]
      rw [e1] at HC
      clear e1 h1 h2
      go_enter Try.func50, Try.ntmps50
      go_wp2_with fail
      refine Calls.mono HM.out ?_
      rintro e w1 ⟨rfl, rfl⟩
      go_wp2_with fail
      refine Calls.mono HC.out ?_
      rintro e w1 ⟨rfl, rfl⟩
      go_wp2_with fail
      go_ret
      rw [HE.out]
      exact ⟨rfl, rfl⟩
theorem Try.yinfoG : (Try.prog.info? 76).map (fun i => (i.zero, i.size, i.bytes)) = some (some (.agg #[.int .i64 0, .int .i64 0]), 2, 16) := by kernel_rfl
/-- The cells of gaps. -/
def gpC (G : List (Int × Int)) : List Value := G.flatMap fun p => [.int .i64 p.1, .int .i64 p.2]
theorem gpC_append (M N : List (Int × Int)) : gpC (M ++ N) = gpC M ++ gpC N := by unfold gpC; rw [List.flatMap_append]
/-- One gap more, where there is one. -/
def gapR (G : List (Int × Int)) (a b : Int) : List (Int × Int) := if b ≤ a then G else G ++ [(a, b - a)]
theorem ygap_any (base : Nat) (v : Value) (G : List (Int × Int)) (a b : Int) (w : World) (h : w.ownsRow base 76 2 v G.length (gpC G)) (hl : G.length ≤ 100000) (hbs : base ≤ w.heap.size) (ha : 0 ≤ a ∧ a ≤ 2000000) (hb : 0 ≤ b ∧ b ≤ 2000000) :
    Calls Try.prog 49 #[v, .int .i64 a, .int .i64 b] w fun e w' => ∃ v' : Value, e = .returned v' ∧ Hid (w'.ownsRow base 76 2 v' (gapR G a b).length (gpC (gapR G a b))) ∧ Below base w w' ∧ w.grownBy w' v.ownBlock := by
  obtain ⟨i0, hi, hz0, hz1, hz2⟩ := info_parts Try.yinfoG
  by_cases hab : b ≤ a
  · have HE : Hid (gapR G a b = G) := if_pos hab
    have HO := hid h
    clear h
    go_enter Try.func49, Try.ntmps49
    go_wp2_with fail
    all_goals first | (exfalso; omega) | skip
    go_ret
    rw [HE.out]
    exact ⟨_, rfl, HO.out, Below.refl _ _, ⟨rfl, rfl, rfl, Nat.le_refl _, fun _ _ _ => rfl⟩⟩
  · have HE : Hid (gapR G a b = G ++ [(a, b - a)]) := if_neg hab
    have hw : IntKind.i64.wrap (b - a) = b - a := by rw [IntKind.wrap_i64]; omega
    go_enter Try.func49, Try.ntmps49
    go_wp2_with (first
      | (at_builtin; refine wpList_append_own _ rfl _ _ 66 rfl base 76 i0 (.agg #[.int .i64 0, .int .i64 0]) 2 16 Try.underlying66 hi hz0 hz1 hz2 rfl (by decide) _ _ _ rfl (h.alloc _) ⟨w.heap.size, 0, none⟩ 1 1 [.int .i64 a, .int .i64 (b - a)] rfl rfl (ycell2 _ _ _ _) (by intro u hu; simp only [List.mem_cons, List.not_mem_nil, or_false] at hu; rcases hu with rfl | rfl <;> rfl) (by unfold maxLen; omega) (by omega) (by simp; omega) ?_; intro v' w4 ho2 hg2 _)
      | go_in)
    all_goals first | (exfalso; omega) | skip
    go_wp2_with fail
    go_ret
    rw [HE.out]
    refine ⟨_, rfl, ?_, ((Below.refl _ w).alloc hbs _).grown hg2 (by simp; omega) (fun g hg => (h.lt g hg).1), (World.grownBy_alloc _ _ _).trans hg2⟩
    rw [gpC_append, List.length_append]
    exact ho2
end Go.Proofs.Ytbbmdpkccdcacaa

/- package record: All, and the going over of its samples. -/
namespace Go.Proofs.Ytbbmdpkccdcacaa
open Go.RowKit Go.Shelf
set_option linter.unusedVariables false
set_option linter.unusedSimpArgs false
attribute [local go_sem] Oper.semAt_some

theorem ybt {a b c : World} (h : Below a.heap.size a b) (g : Below b.heap.size b c) : Below a.heap.size a c := h.trans (g.mono h.size)
theorem yown_put {w : World} {base e s b t : Nat} {v : Value} {n : Nat} {xs : List Value} {vs : Array Value} (h : w.ownsRow base e s v n xs) (hb : FBox w b t vs) (ht : e ≠ t) (j : Nat) (u : Value) : (w.setCell ⟨b, j, none⟩ u).ownsRow base e s v n xs := by
  refine ⟨h.1, h.2.imp id ?_⟩
  rintro ⟨g, cap, cur, rfl, h1, h2, r⟩
  refine ⟨g, cap, cur, rfl, h1, ?_, r⟩
  rw [Below.heap_setCell]
  · exact h2
  · rintro rfl
    unfold FBox at hb
    rw [h2] at hb
    injection hb with hb
    injection hb with _ hb
    exact ht hb
set_option maxHeartbeats 1600000 in
set_option maxRecDepth 100000 in
theorem yall_any (rb mb : Nat) (L : List (Int × Nat)) (w : World) (h : RecAt w rb mb L) :
    Calls Try.prog 39 #[.pointer (some ⟨rb, 0, none⟩)] w fun e w' => ∃ (p : Nat) (v : Value), e = .returned (.func (.func 58) #[] #[.pointer (some ⟨p, 0, none⟩)]) ∧ Hid (FBox w' p 37 #[v]) ∧ Hid (w'.ownsRow w.heap.size 40 2 v (onesL L true).length (smC (onesL L true))) ∧ Hid (w.heap.size ≤ p) ∧ Below w.heap.size w w' := by
  have HS := hid (ysamples_any rb mb L w h)
  clear h
  generalize onesL L true = M at *
  go_enter Try.func39, Try.ntmps39
  go_wp2_with fail
  refine Calls.mono HS.out ?_
  rintro e w1 ⟨v, rfl, HO, hb⟩
  obtain ⟨a, cap, rfl, HV⟩ := yshape HO.out
  obtain ⟨Y, hY⟩ : ∃ Y, w1.alloc (.cells #[.slice none 0 0] 37) = Y := ⟨_, rfl⟩
  have HN : Hid (FBox Y w1.heap.size 37 #[.slice none 0 0]) := by rw [← hY]; exact FBox.made _ _ _
  have HBY : Hid (Below w1.heap.size w1 Y) := by rw [← hY]; exact (Below.refl _ _).alloc (Nat.le_refl _) _
  have c0 : Y.cell? ⟨w1.heap.size, 0, none⟩ = some (.slice none 0 0) := HN.out.cell 0
  have f0 : Y.frozen? ⟨w1.heap.size, 0, none⟩ = false := HN.out.free 0
  have HB := hid hb
  clear hb HV HS
  go_wp2_with fail
  go_ret
  have q1 := HN.out.set 0 (.slice a M.length cap)
  refine ⟨w1.heap.size, _, rfl, q1, ?_, HB.out.size, ?_⟩
  · have o1 := yowns_later HO.out HBY.out
    exact yown_put o1 HN.out (by decide) _ _
  · exact ybt HB.out (HBY.out.setCell (p := ⟨w1.heap.size, 0, none⟩) (Nat.le_refl _) _)
theorem ybox2 (w : World) (t : Nat) (x y u v : Value) : ∃ Y A0 A1, w.alloc (.cells #[x, y] t) = Y ∧ Y.setCell ⟨w.heap.size, 0, none⟩ u = A0 ∧ A0.setCell ⟨w.heap.size, 1, none⟩ v = A1 ∧ (Y.cell? ⟨w.heap.size, 0, none⟩ = some x ∧ A0.cell? ⟨w.heap.size, 1, none⟩ = some y) ∧ (Y.frozen? ⟨w.heap.size, 0, none⟩ = false ∧ A0.frozen? ⟨w.heap.size, 1, none⟩ = false) ∧ (A1.cell? ⟨w.heap.size, 0, none⟩ = some u ∧ A1.cell? ⟨w.heap.size, 1, none⟩ = some v) ∧ Hid (FBox A1 w.heap.size t #[u, v] ∧ Below w.heap.size w A1) := by
  have h0 := FBox.made w t #[x, y]
  have h1 := h0.set 0 u
  have h2 := h1.set 1 v
  exact ⟨_, _, _, rfl, rfl, rfl, ⟨h0.cell 0, h1.cell 1⟩, ⟨h0.free 0, h1.free 1⟩, ⟨h2.cell 0, h2.cell 1⟩, h2, ((((Below.refl _ w).alloc (Nat.le_refl _) _).setCell (p := ⟨w.heap.size, 0, none⟩) (Nat.le_refl _) _).setCell (p := ⟨w.heap.size, 1, none⟩) (Nat.le_refl _) _)⟩
theorem grownBy_of_below {w w' : World} (h : Below w.heap.size w w') : w.grownBy w' none := ⟨h.os, h.tape, h.output, h.size, fun k hk _ => h.block k hk⟩
theorem yfin_succ (m k : Nat) (hk : k < m) : (List.finRange m).take (k + 1) = (List.finRange m).take k ++ [(⟨k, hk⟩ : _root_.Fin m)] := by
  rw [List.take_add_one, List.getElem?_eq_getElem (by simpa using hk)]
  simp
/-- The going over of the samples, whatever is done with them. -/
theorem yall1_stops (F : Fence) (n : Nat) (h6 : F.fn 58) (hro : F.round = none) (hn : 1 ≤ n) (p : Nat) (a : Option Addr) (cap : Nat) (M : List (Int × Nat)) (w : World) (Kp : World → World → Prop) (hKc : ∀ A B : World, Kp A B → ∀ g, a = some ⟨g, 0, none⟩ → B.heap[g]? = A.heap[g]?) (hp : p < w.heap.size) (c1 : w.cell? ⟨p, 0, none⟩ = some (.slice a M.length cap)) (hv : RdV w a (smC M)) (hM : M.length ≤ 4096) :
    SeqStopsK F n Try.prog 58 #[.pointer (some ⟨p, 0, none⟩)] (fun x : _root_.Fin M.length => #[.int .i64 (M[x.val]).1, .float .f64 (M[x.val]).2]) Kp (fun xs => xs = List.finRange M.length) (fun pre => ∃ k, k ≤ M.length ∧ pre = (List.finRange M.length).take k) M.length w := fun l J Jx W hW hJ hJx hY h0 => by
  refine callsIn_of_wp Try.func58 rfl h6 ?_ hro
  simp only [Try.ntmps58, List.size_toArray, List.length_cons, List.length_nil, Nat.reduceAdd, Nat.reduceSub, Array.replicate_succ, Array.replicate_zero, List.push_toArray, List.append_toArray, List.nil_append, List.cons_append]
  have d1 : W.cell? ⟨p, 0, none⟩ = some (.slice a M.length cap) := (hW.cell (p := ⟨p, 0, none⟩) (show p < _ by omega)).trans c1
  have HV : Hid (∀ g, a = some ⟨g, 0, none⟩ → 0 < M.length → W.heap[g]? = w.heap[g]?) := fun g hg h0 => by
    rcases hv with q | ⟨g', e, hl, _⟩
    · have := congrArg List.length q
      rw [smC_len, List.length_nil] at this
      omega
    · rw [hg] at e
      injection e with e
      injection e with e
      subst e
      exact hW.block g hl
  have HC : Hid (∀ k, ∀ hk : k < M.length, ∃ g, a = some ⟨g, 0, none⟩ ∧ w.cell? ⟨g, k * 2, none⟩ = some (.int .i64 (M[k]).1) ∧ w.cell? ⟨g, k * 2 + 1, none⟩ = some (.float .f64 (M[k]).2)) := fun k hk => by
    rcases hv with q | ⟨g, e, hl, hc⟩
    · have := congrArg List.length q
      rw [smC_len, List.length_nil] at this
      omega
    · have q := smC_at (List.getElem?_eq_getElem hk)
      exact ⟨g, e, hc _ _ q.1, hc _ _ q.2⟩
  have HY := hid hY
  have HK := hid hKc
  clear hY c1 hv hKc
  have hJ0 : Hid (J ((List.finRange M.length).take 0) W) := h0
  have HAb := hid hJ
  have HSF : Hid (∀ k, ∀ hk : k < M.length, (List.finRange M.length).take (k + 1) = (List.finRange M.length).take k ++ [(⟨k, hk⟩ : _root_.Fin M.length)]) := fun k hk => yfin_succ M.length k hk
  have HAll : Hid ((List.finRange M.length).take M.length = List.finRange M.length) := List.take_of_length_le (by simp)
  clear h0 hJ
  gi_wp2
  gi_loopw [7] (fun x wr => ∃ k : Nat, k ≤ M.length ∧ x = .int .i64 (k : Int) ∧ Hid (∀ g, a = some ⟨g, 0, none⟩ → 0 < M.length → wr.heap[g]? = w.heap[g]?) ∧ Hid (J ((List.finRange M.length).take k) wr)) (fun x _ => M.length - (intOf x).toNat)
  case atStart => exact ⟨0, Nat.zero_le _, rfl, HV.out, hJ0⟩
  case round =>
    obtain ⟨k, hk, rfl, HS, HJ⟩ := hrel
    by_cases hlt : k < M.length
    · have HSk := hid (HSF.out k hlt)
      obtain ⟨g, rfl, q1, q2⟩ := HC.out k hlt
      have hblk := HS.out g rfl (by omega)
      have d2 : wr.cell? ⟨g, k * 2, none⟩ = some (.int .i64 (M[k]).1) := (World.cell?_of_block (a := ⟨g, k * 2, none⟩) hblk).trans q1
      have d3 : wr.cell? ⟨g, k * 2 + 1, none⟩ = some (.float .f64 (M[k]).2) := (World.cell?_of_block (a := ⟨g, k * 2 + 1, none⟩) hblk).trans q2
      have hlen : ((List.finRange M.length).take k).length < M.length := by rw [List.length_take, List.length_finRange]; omega
      obtain ⟨Y, A0, A1, hY, hA0, hA1, ⟨y0, y1⟩, ⟨f0, f1⟩, ⟨z0, z1⟩, HBX⟩ := ybox2 wr 40 (.int .i64 0) (.float .f64 0) (.int .i64 (M[k]).1) (.float .f64 (M[k]).2)
      have HJ1 : Hid (J ((List.finRange M.length).take k) A1) := HAb.out _ _ _ none HJ.out (grownBy_of_below HBX.out.2) (fun r e => by cases e)
      obtain ⟨fn, tmps, assign, body, hy, hR⟩ := HY.out _ (⟨k, hlt⟩ : _root_.Fin M.length) A1 HJ1.out hlen
      dsimp only at hy
      have HB1 : Hid (A1.heap[g]? = wr.heap[g]?) := HBX.out.2.block g (block_lt_of_cell d2)
      have HSg := hid hblk
      have sF : ∀ (W : World) (p : Addr) (y : Nat) (md : Mode), (store p (.float .f64 y) md).run Try.prog W = stored Try.prog W p (.float .f64 y) md := fun W p y md => run_store Try.prog W p _ md rfl
      clear q1 q2 hblk
      generalize (List.finRange M.length).take k = pre at *
      generalize (M[k]).1 = tk at *
      generalize (M[k]).2 = bk at *
      gi_wp2
      clear hY hA0 hA1 y0 y1 f0 f1 z0 z1 sF
      refine hR.mono ?_
      rintro e' W3 (⟨rfl, hJ3, hk3⟩ | ⟨rfl, hJx3⟩)
      · have HS3 : Hid (∀ g', some (⟨g, 0, none⟩ : Addr) = some ⟨g', 0, none⟩ → 0 < M.length → W3.heap[g']? = w.heap[g']?) := fun g' e _ => by
          injection e with e
          injection e with e
          subst e
          exact ((HK.out _ _ hk3 g rfl).trans HB1.out).trans HSg.out
        have hw1 : IntKind.i64.wrap ((k : Int) + 1) = (k : Int) + 1 := by rw [IntKind.wrap_i64]; omega
        clear hk3
        gi_wp2
        go_roundw
        case rel => exact ⟨k + 1, by omega, by first | rfl | go_num, HS3.out, by rw [HSk.out]; exact hJ3⟩
        case measure => simp [intOf]; omega
      · gi_wp2
        refine bodyPost_ret (results_none rfl _ _ _) rfl ?_
        exact ⟨⟨_, rfl⟩, .inr ⟨_, ⟨k + 1, by omega, HSk.out.symm⟩, hJx3⟩⟩
    · obtain rfl : k = M.length := by omega
      have hJ9 := HJ.out
      rw [HAll.out] at hJ9
      gi_wp2
      all_goals first
        | (exfalso; omega)
        | (go_end0
           refine ⟨⟨_, rfl⟩, .inl ?_⟩
           simpa using hJ9)
/-- A range over a function of two numbers: the law of the kit, at any slots. -/
theorem yrange {β : Type} {e1 e2 : β → Value} {g : Operand} {assign body : Code} {Q : Exit → Act → World → Prop} {a : Act} {w : World} {gf s1 s2 s3 s4 : Nat} {lb : Array Value}
    (hg : a.eval g = .func (.func gf) #[] lb) (eg : ∀ args w, (callFunc gf args).run Try.prog w = .ok (.enter gf args) w)
    {S Sp : List β → Prop} {N : Nat} {Kp : World → World → Prop} (hseq : SeqStopsK Fence.wide 2 Try.prog gf lb (fun x : β => #[e1 x, e2 x]) Kp S Sp N w) (hKt : ∀ {A B C : World}, Kp A B → Kp B C → Kp A C) (hKb : ∀ (W : World) (l : Nat) (o o' : Obj), w.heap.size ≤ l → W.heap[l]? = some o → o.isCells = false → o.isWalk = false → Kp W (W.putObj l o'))
    (I : List β → World → Prop) (Ix : Code → List β → World → Prop) (hI : OwnFrom w.heap.size I) (hIx : ∀ c, OwnFrom w.heap.size (Ix c)) (h0 : I [] w)
    (hassign : ∀ (l : Nat) (x : β) (W : World) (K : Act → World → Prop), K { tmps := (((a.tmps.setIfInBounds s1 (e1 x)).setIfInBounds s2 (e2 x)).setIfInBounds s3 (e1 x)).setIfInBounds s4 (e2 x), defers := [] } W →
      assign.wpIn (Fence.wide.inRound l) 1 Try.prog (Exit.then K (fun _ _ _ => False)) { tmps := (a.tmps.setIfInBounds s1 (e1 x)).setIfInBounds s2 (e2 x), defers := [] } W)
    (hbody : ∀ (l : Nat) (pre : List β) (x : β) (W : World), I pre W → pre.length < N → body.wpIn (Fence.wide.inRound l) 1 Try.prog (ownPostK Kp I Ix (pre ++ [x]) W) { tmps := (((a.tmps.setIfInBounds s1 (e1 x)).setIfInBounds s2 (e2 x)).setIfInBounds s3 (e1 x)).setIfInBounds s4 (e2 x), defers := [] } W)
    (hdone : ∀ (D : Nat) (xs : List β) (W : World), w.heap.size ≤ D → S xs → I xs W → W.heap[D]? = some (.deferred (some [])) → Q .normal { a with defers := { target := .collected D, args := #[] } :: a.defers } W)
    (hstop : ∀ (D : Nat) (c : Code) (pre : List β) (W : World), w.heap.size ≤ D → Sp pre → Ix c pre W → W.heap[D]? = some (.deferred (some [])) → c.wpIn Fence.wide 3 Try.prog Q { a with defers := { target := .collected D, args := #[] } :: a.defers } W) :
    (Code.rangeFunc g #[s1, s2] assign body).wpIn Fence.wide 3 Try.prog Q a w :=
  wpIn_rangeFunc_ownF rfl (by decide) hg trivial eg hseq hKt hKb (Below.refl _ _) (fun _ => rfl) I Ix hI hIx h0
    (fun x => { tmps := (((a.tmps.setIfInBounds s1 (e1 x)).setIfInBounds s2 (e2 x)).setIfInBounds s3 (e1 x)).setIfInBounds s4 (e2 x), defers := [] })
    (fun l x W K hK => by
      have e := hassign l x W K hK
      simpa using e) hbody hdone hstop
end Go.Proofs.Ytbbmdpkccdcacaa

/- package record: Between, of every record and span. -/
namespace Go.Proofs.Ytbbmdpkccdcacaa
open Go.RowKit Go.Shelf
set_option linter.unusedVariables false
set_option linter.unusedSimpArgs false
attribute [local go_sem] Oper.semAt_some

/-- The samples of a span. -/
def spanL (M : List (Int × Nat)) (a b : Int) : List (Int × Nat) := M.filter fun p => decide (a ≤ p.1) && decide (p.1 < b)
theorem yfin_map (M : List (Int × Nat)) : (List.finRange M.length).map (fun j => M[j.val]) = M := by
  apply List.ext_getElem
  · simp
  · intro i h1 h2; simp
/-- All that lay there but one block lies there still. -/
structure YdR (V W : World) (k : Nat) : Prop where
  size : V.heap.size ≤ W.heap.size
  same : ∀ b, b < V.heap.size → b ≠ k → W.heap[b]? = V.heap[b]?
theorem YdR.refl (V : World) (k : Nat) : YdR V V k := ⟨Nat.le_refl _, fun _ _ _ => rfl⟩
theorem YdR.put {V W : World} {k : Nat} (h : YdR V W k) (j : Nat) (v : Value) : YdR V (W.setCell ⟨k, j, none⟩ v) k := ⟨by simpa [World.setCell] using h.size, fun b hl hn => (Below.heap_setCell _ _ _ _ hn).trans (h.same b hl hn)⟩
theorem YdR.box {V W : World} {k b t : Nat} {vs : Array Value} (h : YdR V W k) (hF : FBox V b t vs) (hn : b ≠ k) : FBox W b t vs := (h.same b hF.lt hn).trans hF
theorem YdR.own {V W W' : World} {k : Nat} {row : Option Nat} (h : YdR V W k) (hg : W.grownBy W' row) (hr : ∀ r, row = some r → V.heap.size ≤ r) : YdR V W' k := ⟨Nat.le_trans h.size hg.size, fun b hl hn => (hg.block b (Nat.lt_of_lt_of_le hl h.size) (fun e => by have := hr b e.symm; omega)).trans (h.same b hl hn)⟩
/-- What stands while Between goes over the samples. -/
structure BtS (w w3 : World) (K0 : Nat) (Q : List (Int × Nat)) (W : World) : Prop where
  own : ∃ v, FBox W K0 37 #[v] ∧ W.ownsRow w3.heap.size 40 2 v Q.length (smC Q)
  rest : YdR w3 W K0
  bel : Below w.heap.size w W
theorem BtS.grow {w w3 A B : World} {K0 : Nat} {Q : List (Int × Nat)} {row : Option Nat} (h : BtS w w3 K0 Q A) (hk : K0 < w3.heap.size) (hw : w.heap.size ≤ w3.heap.size) (hg : A.grownBy B row) (hr : ∀ r, row = some r → w3.heap.size ≤ r ∧ ∃ o : Obj, A.heap[r]? = some o ∧ o.isCells = false) : BtS w w3 K0 Q B := by
  obtain ⟨v, h1, h2⟩ := h.own
  refine ⟨⟨v, ?_, h2.kept hg ?_⟩, h.rest.own hg (fun r e => (hr r e).1), h.bel.grown hg h.bel.size (fun k e => Nat.le_trans hw (hr k e).1)⟩
  · exact (hg.block K0 h1.lt (fun e => by have := (hr K0 e.symm).1; omega)).trans h1
  · rcases h2.2 with ⟨rfl, _⟩ | ⟨g, cap, cur, rfl, _, hh, _⟩
    · exact .inl rfl
    · right
      intro e
      obtain ⟨o, ho, hc⟩ := (hr g e.symm).2
      rw [hh] at ho
      injection ho with ho
      rw [← ho] at hc
      cases hc
set_option maxHeartbeats 6400000 in
set_option maxRecDepth 100000 in
theorem ybetween_ok (rb mb : Nat) (L : List (Int × Nat)) (a b : Int) (w : World) (h : RecAt w rb mb L) (ha : I64 a) (hb : I64 b) (hs : spR a b = 0) :
    Calls Try.prog 28 #[.pointer (some ⟨rb, 0, none⟩), .int .i64 a, .int .i64 b] w fun e w' => ∃ v : Value, e = .returned (.tuple #[v, .int .i64 0]) ∧ Hid (w'.ownsRow w.heap.size 40 2 v (spanL (onesL L true) a b).length (smC (spanL (onesL L true) a b))) ∧ Below w.heap.size w w' := by
  obtain ⟨i0, hi, hz0, hz1, hz2⟩ := info_parts Try.yinfoS
  have HR := hid h
  have HLk := hid (fun V (q : FBox V rb 61 #[.map (some mb)]) => ylook_at rb mb a b V q ha hb)
  rw [hs] at HLk
  have HAl := hid (fun V (q : RecAt V rb mb L) => yall_any rb mb L V q)
  have hM := (h.ok.ones true).few
  clear h hs ha hb
  generalize onesL L true = M at *
  refine (callsIn_wide (n := 3)).1 ?_
  refine callsIn_of_wp_marks Try.func28 rfl trivial ?_ rfl
  simp only [Try.ntmps28, List.size_toArray, List.length_cons, List.length_nil, Nat.reduceAdd, Nat.reduceSub, Array.replicate_succ, Array.replicate_zero, List.push_toArray, List.append_toArray, List.nil_append, List.cons_append]
  obtain ⟨V0, hV0⟩ : ∃ V0, (w.alloc (.cells #[.int .i64 a] 3)).alloc (.cells #[.int .i64 b] 3) = V0 := ⟨_, rfl⟩
  have HA0 : Hid (FBox V0 w.heap.size 3 #[.int .i64 a] ∧ FBox V0 (w.heap.size + 1) 3 #[.int .i64 b] ∧ Below w.heap.size w V0) := by
    rw [← hV0]
    have q1 := FBox.made w 3 #[.int .i64 a]
    have q2 := FBox.made (w.alloc (.cells #[.int .i64 a] 3)) 3 #[.int .i64 b]
    rw [show (w.alloc (.cells #[.int .i64 a] 3)).heap.size = w.heap.size + 1 by simp] at q2
    exact ⟨q1.later ((Below.refl _ _).alloc (Nat.le_refl _) _) q1.lt, q2, ((Below.refl _ _).alloc (Nat.le_refl _) _).alloc (by simp) _⟩
  have c0 : V0.cell? ⟨w.heap.size, 0, none⟩ = some (.int .i64 a) := HA0.out.1.cell 0
  have c1 : V0.cell? ⟨w.heap.size + 1, 0, none⟩ = some (.int .i64 b) := HA0.out.2.1.cell 0
  gi_wp2
  clear hV0
  refine ⟨trivial, ?_⟩
  refine (callsIn_wide.2 (HLk.out _ (HR.out.later HA0.out.2.2).box)).mono ?_
  rintro e w1 ⟨rfl, rfl⟩
  obtain ⟨V1, hV1⟩ : ∃ V1, w1.alloc (.cells #[.slice none 0 0] 37) = V1 := ⟨_, rfl⟩
  have HA1 : Hid (FBox V1 w1.heap.size 37 #[.slice none 0 0] ∧ Below w1.heap.size w1 V1) := by
    rw [← hV1]
    exact ⟨FBox.made _ _ _, (Below.refl _ _).alloc (Nat.le_refl _) _⟩
  clear c0 c1
  gi_wp2
  clear hV1
  refine ⟨trivial, ?_⟩
  refine (callsIn_wide.2 (HAl.out _ (HR.out.later (ybt HA0.out.2.2 HA1.out.2)))).mono ?_
  rintro e w3 ⟨p, v, rfl, HP, HV, HPl, hb3⟩
  obtain ⟨ad, cap, rfl, HRd⟩ := yshape HV.out
  have hnil : (binOp BinOp.eql 83 (.func (.func 58) #[] #[.pointer (some ⟨p, 0, none⟩)]) .nilFunc).run Try.prog w3 = .ok (.bool false) w3 := by first | rfl | kernel_rfl | simp [binOp, go_sem]
  have HB3 := hid (ybt HA0.out.2.2 (ybt HA1.out.2 hb3))
  have HK3 := hid (HA1.out.1.later hb3 HA1.out.1.lt)
  have Ha3 := hid (HA0.out.1.later (ybt HA1.out.2 hb3) HA0.out.1.lt)
  have Hb3 := hid (HA0.out.2.1.later (ybt HA1.out.2 hb3) HA0.out.2.1.lt)
  have hk0 : w.heap.size + 1 < w1.heap.size := HA0.out.2.1.lt
  have hk3 : w1.heap.size < w3.heap.size := HK3.out.lt
  have hgs : ∀ g, ad = some ⟨g, 0, none⟩ → V1.heap.size ≤ g ∧ g < w3.heap.size := fun g e => HV.out.lt g (by rw [e]; rfl)
  have hV1s : w1.heap.size < V1.heap.size := HA1.out.1.lt
  have HRdH := hid HRd
  clear hb3 HRd HLk HAl
  gi_wp2
  clear hnil
  refine yrange (s1 := 21) (s2 := 22) (s3 := 10) (s4 := 11) (Kp := fun A B => ∀ g, g < w3.heap.size → g ≠ w1.heap.size → B.heap[g]? = A.heap[g]?) rfl (enters_of Try.func58 (by kernel_rfl) rfl) (yall1_stops Fence.wide 2 trivial rfl (by decide) p ad cap M w3 _ (fun A B hq g e => hq g (hgs g e).2 (by have := (hgs g e).1; omega)) HP.out.lt (HP.out.cell 0) HRdH.out hM)
    (fun hq k g h1 h2 => (k g h1 h2).trans (hq g h1 h2)) (fun W l o o' hl ho hc _ g h1 h2 => World.putObj_heap_other (show g ≠ l by omega))
    (fun pre W => BtS w w3 w1.heap.size (spanL (pre.map fun j => M[j.val]) a b) W)
    (fun c pre W => False)
    (fun s A B row hs hg hr => hs.grow hk3 HB3.out.size hg hr)
    (fun c s A B row hs hg hr => hs) ⟨⟨_, HK3.out, World.ownsRow_nil _ _ _ _⟩, YdR.refl _ _, HB3.out⟩ ?assign ?body ?done ?stop
  case assign =>
    intro l x W K hK
    gi_wp2
    exact hK
  case stop =>
    rintro D c pre W hD hSp hIx hKD
    exact hIx.elim
  case body =>
    rintro l pre x W hS hlen
    obtain ⟨v, hF, hO⟩ := hS.own
    obtain ⟨a1, cap1, rfl, _⟩ := yshape hO
    have HS := hid hS
    have HF := hid hF
    have HO := hid hO
    have e0 : W.cell? ⟨w.heap.size, 0, none⟩ = some (.int .i64 a) := (hS.rest.box Ha3.out (by omega)).cell 0
    have e1 : W.cell? ⟨w.heap.size + 1, 0, none⟩ = some (.int .i64 b) := (hS.rest.box Hb3.out (by omega)).cell 0
    have e2 : W.cell? ⟨w1.heap.size, 0, none⟩ = some (.slice a1 (spanL (pre.map fun j => M[j.val]) a b).length cap1) := hF.cell 0
    have f2 : W.frozen? ⟨w1.heap.size, 0, none⟩ = false := hF.free 0
    have HX : Hid (spanL ((pre ++ [x]).map fun j => M[j.val]) a b = spanL (pre.map fun j => M[j.val]) a b ++ (if decide (a ≤ (M[x.val]).1) && decide ((M[x.val]).1 < b) then [M[x.val]] else [])) := by
      unfold spanL
      rw [List.map_append, List.filter_append]
      congr 1
      simp only [List.map_cons, List.map_nil, List.filter_cons, List.filter_nil]
    have hql : (spanL (pre.map fun j => M[j.val]) a b).length ≤ 4096 := by
      have := List.length_filter_le (fun p : Int × Nat => decide (a ≤ p.1) && decide (p.1 < b)) (pre.map fun j => M[j.val])
      unfold spanL
      rw [List.length_map] at this
      omega
    clear hS hF hO
    generalize spanL (pre.map fun j => M[j.val]) a b = Q at *
    obtain ⟨t, ht⟩ : ∃ t, (M[x.val]) = t := ⟨_, rfl⟩
    rw [ht] at HX ⊢
    obtain ⟨tk, bk⟩ := t
    dsimp only at HX ⊢
    clear ht
    by_cases h1 : a ≤ tk
    · by_cases h2 : tk < b
      · have HX2 : Hid (spanL ((pre ++ [x]).map fun j => M[j.val]) a b = Q ++ [(tk, bk)]) := by
          have q := HX.out
          rw [if_pos (by simp [h1, h2])] at q
          exact q
        have ho := HO.out
        have hws := HS.out.rest.size
        clear HX hlen
        have HAA : Hid (∀ w4, (W.alloc (.cells #[.int .i64 tk, .float .f64 bk] 40)).grownBy w4 (Value.slice a1 Q.length cap1).ownBlock → W.grownBy w4 (Value.slice a1 Q.length cap1).ownBlock ∧ w4.heap[w1.heap.size]? = W.heap[w1.heap.size]?) := fun w4 hg => by
          have q := (World.grownBy_alloc W (.cells #[.int .i64 tk, .float .f64 bk] 40) _).trans hg
          exact ⟨q, q.block _ HF.out.lt (fun e => by have := (HO.out.lt _ e.symm).1; omega)⟩
        gi_wp2_with (first
          | (gi_at_builtin; refine wpListIn_append_own _ rfl _ _ 37 rfl w3.heap.size 40 i0 (.agg #[.int .i64 0, .float .f64 0]) 2 16 Try.underlying37 hi hz0 hz1 hz2 rfl (by decide) _ _ _ rfl (ho.alloc _) ⟨W.heap.size, 0, none⟩ 1 1 [.int .i64 tk, .float .f64 bk] rfl rfl (ycell2 _ _ _ _) (smC_one (tk, bk)) (by unfold maxLen; omega) (by omega) (by simp; omega) ?_; intro v' w4 ho2 hg2 _; obtain ⟨a2, cap2, rfl, _⟩ := yshape ho2; have e4 : w4.cell? ⟨w1.heap.size, 0, none⟩ = some (.slice a1 Q.length cap1) := (World.cell?_of_block (a := ⟨w1.heap.size, 0, none⟩) (HAA.out w4 hg2).2).trans (HF.out.cell 0); have f4 : w4.frozen? ⟨w1.heap.size, 0, none⟩ = false := (World.frozen?_of_block (a := ⟨w1.heap.size, 0, none⟩) (HAA.out w4 hg2).2).trans (HF.out.free 0); have HG2 := hid hg2; have HO2 := hid ho2; clear hg2 ho2)
          | gi_in)
        all_goals first | (exfalso; omega) | skip
        have HA := hid (HAA.out w4 HG2.out).1
        have HF4 : Hid (FBox w4 w1.heap.size 37 #[.slice a1 Q.length cap1]) := (HAA.out w4 HG2.out).2.trans HF.out
        refine ⟨(KeepsOthers.of_grownBy HA.out (fun r o e ho => ?_)).trans (KeepsOthers.setCell _ _ _), fun g g1 g2 => ?_, ?_⟩
        · rcases HO.out.2 with ⟨q, _⟩ | ⟨g, cc, cur, q, _, hh, _⟩
          · rw [q] at e; cases e
          · rw [q] at e
            injection e with e
            rw [← e, hh] at ho
            injection ho with ho
            rw [← ho]
            rfl
        · exact (Below.heap_setCell _ _ _ _ g2).trans (HA.out.block g (Nat.lt_of_lt_of_le g1 hws) (fun e => by have := (HO.out.lt _ e.symm).1; omega))
        · have q : BtS w w3 w1.heap.size (Q ++ [(tk, bk)]) (w4.setCell ⟨w1.heap.size, 0, none⟩ (.slice a2 (Q.length + 1) cap2)) := by
            refine ⟨⟨_, HF4.out.set 0 _, ?_⟩, (HS.out.rest.own HA.out (fun r e => (HO.out.lt r e).1)).put 0 _, (HS.out.bel.grown HA.out HS.out.bel.size (fun r e => Nat.le_trans HB3.out.size (HO.out.lt r e).1)).setCell (p := ⟨w1.heap.size, 0, none⟩) (show w.heap.size ≤ w1.heap.size by omega) _⟩
            have o2 := yown_put HO2.out HF4.out (by decide) 0 (.slice a2 (Q.length + 1) cap2)
            rw [smC_append, List.length_append]
            exact o2
          rw [← HX2.out] at q
          exact q
      · have HX2 : Hid (spanL ((pre ++ [x]).map fun j => M[j.val]) a b = Q) := by
          have q := HX.out
          rw [if_neg (by simp [h2]), List.append_nil] at q
          exact q
        clear HX hlen
        gi_wp2
        all_goals first | (exfalso; omega) | skip
        all_goals exact ⟨KeepsOthers.refl _, fun _ _ _ => rfl, by have q := HS.out; rw [← HX2.out] at q; exact q⟩
    · have HX2 : Hid (spanL ((pre ++ [x]).map fun j => M[j.val]) a b = Q) := by
        have q := HX.out
        rw [if_neg (by simp [h1]), List.append_nil] at q
        exact q
      clear HX hlen
      gi_wp2
      all_goals first | (exfalso; omega) | skip
      all_goals exact ⟨KeepsOthers.refl _, fun _ _ _ => rfl, by have q := HS.out; rw [← HX2.out] at q; exact q⟩
  case done =>
    rintro D xs W hD rfl hS hKD
    rw [yfin_map] at hS
    obtain ⟨v, hF, hO⟩ := hS.own
    obtain ⟨a1, cap1, rfl, _⟩ := yshape hO
    have HO := hid (yowns_base hO HB3.out.size)
    have HB := hid hS.bel
    have HD := hid hKD
    have hDl : w.heap.size ≤ D := Nat.le_trans HB3.out.size hD
    have e2 : W.cell? ⟨w1.heap.size, 0, none⟩ = some (.slice a1 (spanL M a b).length cap1) := hF.cell 0
    clear hS hF hO hKD
    gi_wp2
    refine ⟨by simp, .inl ⟨_, _, rfl, run_takeDeferred HD.out, ?_⟩⟩
    refine ⟨.tuple #[.slice a1 (spanL M a b).length cap1, .int .i64 0], ?_, _, rfl, ?_, ?_⟩
    · simp [results, Try.results28, go_sem]
    · refine HO.out.kept (grownBy_putObj' W D (.deferred none)) ?_
      rcases HO.out.2 with ⟨q, _⟩ | ⟨g, cc, cur, q, _, hh, _⟩
      · rw [q]; exact .inl rfl
      · right
        rw [q]
        intro e
        injection e with e
        rw [← e, hh] at HD
        injection HD.out with e
        cases e
    · exact HB.out.trans (belowK_b (w := w) (Nat.le_refl _) _ D _ (.deferred none) hDl HD.out rfl rfl)
end Go.Proofs.Ytbbmdpkccdcacaa

/- package record: Between refused, Gaps, of every record and span. -/
namespace Go.Proofs.Ytbbmdpkccdcacaa
open Go.RowKit
set_option linter.unusedVariables false
set_option linter.unusedSimpArgs false

set_option maxHeartbeats 1600000 in
set_option maxRecDepth 100000 in
theorem ybetween_bad (rb mb : Nat) (a b : Int) (w : World) (h : FBox w rb 61 #[.map (some mb)]) (ha : I64 a) (hb : I64 b) (hs : ¬ spR a b = 0) :
    Calls Try.prog 28 #[.pointer (some ⟨rb, 0, none⟩), .int .i64 a, .int .i64 b] w fun e w' => e = .returned (.tuple #[.slice none 0 0, .int .i64 2]) ∧ Below w.heap.size w w' := by
  have hs2 : spR a b = 2 := by unfold spR at *; split at hs <;> simp_all
  obtain ⟨V0, hV0⟩ : ∃ V0, (w.alloc (.cells #[.int .i64 a] 3)).alloc (.cells #[.int .i64 b] 3) = V0 := ⟨_, rfl⟩
  have HA0 : Hid (FBox V0 w.heap.size 3 #[.int .i64 a] ∧ FBox V0 (w.heap.size + 1) 3 #[.int .i64 b] ∧ Below w.heap.size w V0) := by
    rw [← hV0]
    have q1 := FBox.made w 3 #[.int .i64 a]
    have q2 := FBox.made (w.alloc (.cells #[.int .i64 a] 3)) 3 #[.int .i64 b]
    rw [show (w.alloc (.cells #[.int .i64 a] 3)).heap.size = w.heap.size + 1 by simp] at q2
    exact ⟨q1.later ((Below.refl _ _).alloc (Nat.le_refl _) _) q1.lt, q2, ((Below.refl _ _).alloc (Nat.le_refl _) _).alloc (by simp) _⟩
  have HLk := hid (ylook_at rb mb a b V0 (h.later HA0.out.2.2 h.lt) ha hb)
  rw [hs2] at HLk
  have c0 : V0.cell? ⟨w.heap.size, 0, none⟩ = some (.int .i64 a) := HA0.out.1.cell 0
  have c1 : V0.cell? ⟨w.heap.size + 1, 0, none⟩ = some (.int .i64 b) := HA0.out.2.1.cell 0
  clear h ha hb hs hs2
  go_enter Try.func28, Try.ntmps28
  go_wp2_with fail
  clear hV0
  refine Calls.mono HLk.out ?_
  rintro e w1 ⟨rfl, rfl⟩
  go_wp2_with fail
  go_ret2
  exact ⟨rfl, HA0.out.2.2⟩
/-- The gaps ahead of the samples of a list, and where the next one begins. -/
def gapF (Q : List (Int × Nat)) (s : List (Int × Int) × Int) : List (Int × Int) × Int := Q.foldl (fun s p => (gapR s.1 s.2 p.1, p.1 + 1)) s
def gapsR (Q : List (Int × Nat)) (a b : Int) : List (Int × Int) := gapR (gapF Q ([], a)).1 (gapF Q ([], a)).2 b
theorem gapF_snoc (Q : List (Int × Nat)) (p : Int × Nat) (s : List (Int × Int) × Int) : gapF (Q ++ [p]) s = (gapR (gapF Q s).1 (gapF Q s).2 p.1, p.1 + 1) := by unfold gapF; rw [List.foldl_append]; rfl
theorem gapR_len (G : List (Int × Int)) (a b : Int) : (gapR G a b).length ≤ G.length + 1 := by
  unfold gapR
  split
  · omega
  · rw [List.length_append]; simp
theorem gapF_in {Q : List (Int × Nat)} {a : Int} (ha : 0 ≤ a ∧ a ≤ 1048577) (hQ : ∀ p ∈ Q, 0 ≤ p.1 ∧ p.1 ≤ 1048576) : ∀ k, k ≤ Q.length → (gapF (Q.take k) ([], a)).1.length ≤ k ∧ 0 ≤ (gapF (Q.take k) ([], a)).2 ∧ (gapF (Q.take k) ([], a)).2 ≤ 1048577 := by
  intro k
  induction k with
  | zero => intro _; exact ⟨Nat.le_refl _, ha⟩
  | succ k ih =>
    intro hk
    have := ih (by omega)
    have hg : Q[k]? = some Q[k] := List.getElem?_eq_getElem (by omega)
    rw [List.take_add_one, hg]
    simp only [Option.toList_some]
    rw [gapF_snoc]
    have q := hQ Q[k] (List.getElem_mem _)
    have l := gapR_len (gapF (Q.take k) ([], a)).1 (gapF (Q.take k) ([], a)).2 (Q[k]).1
    exact ⟨by dsimp only; omega, by dsimp only; omega, by dsimp only; omega⟩
set_option maxHeartbeats 3200000 in
set_option maxRecDepth 100000 in
theorem ygaps_ok (rb mb : Nat) (L : List (Int × Nat)) (a b : Int) (w : World) (h : RecAt w rb mb L) (ha : I64 a) (hb : I64 b) (hs : spR a b = 0) :
    Calls Try.prog 27 #[.pointer (some ⟨rb, 0, none⟩), .int .i64 a, .int .i64 b] w fun e w' => ∃ v : Value, e = .returned (.tuple #[v, .int .i64 0]) ∧ Hid (w'.ownsRow w.heap.size 76 2 v (gapsR (spanL (onesL L true) a b) a b).length (gpC (gapsR (spanL (onesL L true) a b) a b))) ∧ Below w.heap.size w w' := by
  have HBt := hid (ybetween_ok rb mb L a b w h ha hb hs)
  have hab : 0 ≤ a ∧ b ≤ 1048577 ∧ a ≤ b := by unfold spR at hs; split at hs <;> omega
  have hok := h.ok.ones true
  have hQ : ∀ p ∈ spanL (onesL L true) a b, 0 ≤ p.1 ∧ p.1 ≤ 1048576 := fun p hp => by
    have := hok.tick p (List.mem_filter.1 hp).1
    omega
  have hlen : (spanL (onesL L true) a b).length ≤ 4096 := Nat.le_trans (List.length_filter_le _ _) hok.few
  clear h ha hb hs hok
  have HGI := hid (gapF_in (Q := spanL (onesL L true) a b) (a := a) (by omega) hQ)
  have HQ := hid hQ
  have HGS : Hid (gapsR (spanL (onesL L true) a b) a b = gapR (gapF ((spanL (onesL L true) a b).take (spanL (onesL L true) a b).length) ([], a)).1 (gapF ((spanL (onesL L true) a b).take (spanL (onesL L true) a b).length) ([], a)).2 b) := by
    rw [List.take_length]; rfl
  clear hQ
  generalize gapsR (spanL (onesL L true) a b) a b = GS at *
  generalize spanL (onesL L true) a b = Q at *
  go_enter Try.func27, Try.ntmps27
  go_wp2_with fail
  refine Calls.mono HBt.out ?_
  rintro e w1 ⟨v, rfl, HO, hb1⟩
  obtain ⟨ad, cap, rfl, HV⟩ := yshape HO.out
  have HVH := hid HV
  have HB1 := hid hb1
  clear HBt HO HV hb1
  go_wp2_with fail
  go_loopw [10, 11, 27] (fun v nx x wr => ∃ k : Nat, k ≤ Q.length ∧ x = .int .i64 (k : Int) ∧ nx = .int .i64 (gapF (Q.take k) ([], a)).2 ∧ Hid (wr.ownsRow w1.heap.size 76 2 v (gapF (Q.take k) ([], a)).1.length (gpC (gapF (Q.take k) ([], a)).1)) ∧ Hid (Below w1.heap.size w1 wr)) (fun _ _ x _ => Q.length - (intOf x).toNat)
  case atStart => exact ⟨0, Nat.zero_le _, rfl, rfl, World.ownsRow_nil _ _ _ _, Below.refl _ _⟩
  case round =>
    obtain ⟨k, hk, rfl, rfl, HO, HBW⟩ := hrel
    obtain ⟨g1, g2, g3⟩ := HGI.out k hk
    by_cases hlt : k < Q.length
    · have hp : Q[k]? = some Q[k] := List.getElem?_eq_getElem hlt
      have HS : Hid (gapF (Q.take (k + 1)) ([], a) = (gapR (gapF (Q.take k) ([], a)).1 (gapF (Q.take k) ([], a)).2 (Q[k]).1, (Q[k]).1 + 1)) := by
        rw [List.take_add_one, hp]
        exact gapF_snoc _ _ _
      have ht := HQ.out Q[k] (List.getElem_mem hlt)
      obtain ⟨g, rfl, hg, hc⟩ : ∃ g, ad = some ⟨g, 0, none⟩ ∧ g < w1.heap.size ∧ ∀ j u, (smC Q)[j]? = some u → w1.cell? ⟨g, j, none⟩ = some u := by
        rcases HVH.out with q | q
        · have := congrArg List.length q
          rw [smC_len, List.length_nil] at this
          omega
        · exact q
      have q := smC_at hp
      have d0 : wr.cell? ⟨g, k * 2, none⟩ = some (.int .i64 (Q[k]).1) := (HBW.out.cell (p := ⟨g, k * 2, none⟩) hg).trans (hc _ _ q.1)
      have d1 : wr.cell? ⟨g, k * 2 + 1, none⟩ = some (.float .f64 (Q[k]).2) := (HBW.out.cell (p := ⟨g, k * 2 + 1, none⟩) hg).trans (hc _ _ q.2)
      obtain ⟨Y, A0, A1, hY, hA0, hA1, ⟨y0, y1⟩, ⟨f0, f1⟩, ⟨z0, z1⟩, HBX⟩ := ybox2 wr 40 (.int .i64 0) (.float .f64 0) (.int .i64 (Q[k]).1) (.float .f64 (Q[k]).2)
      have sF : ∀ (W : World) (p : Addr) (y : Nat) (md : Mode), (store p (.float .f64 y) md).run Try.prog W = stored Try.prog W p (.float .f64 y) md := fun W p y md => run_store Try.prog W p _ md rfl
      have HBA := hid (HBW.out.trans (HBX.out.2.mono HBW.out.size))
      have HBXb := hid HBX.out.1
      have HOA := hid (yowns_later HO.out HBX.out.2)
      have HNE : Hid (∀ r, u10.ownBlock = some r → r < wr.heap.size) := fun r e => (HO.out.lt r e).2
      have hsz := HBA.out.size
      clear q hc hp HBX HO HBW
      generalize gapF (Q.take k) ([], a) = st at *
      obtain ⟨G, nx⟩ := st
      dsimp only at HS HOA g1 g2 g3 ⊢
      generalize (Q[k]).1 = tk at *
      generalize (Q[k]).2 = bk at *
      have HGp := hid (ygap_any w1.heap.size _ G nx tk A1 HOA.out (by omega) hsz (by omega) (by omega))
      go_wp2_with fail
      clear hY hA0 hA1 y0 y1 f0 f1 z0 z1 sF d0 d1
      refine Calls.mono HGp.out ?_
      rintro e w4 ⟨v', rfl, HO4, hb4, hg4⟩
      have HB4 := hid (HBA.out.trans hb4)
      have HX4 : Hid (FBox w4 wr.heap.size 40 #[.int .i64 tk, .float .f64 bk]) := (hg4.block _ HBXb.out.lt (fun e => by have := HNE.out _ e.symm; omega)).trans HBXb.out
      have c4 : w4.cell? ⟨wr.heap.size, 0, none⟩ = some (.int .i64 tk) := HX4.out.cell 0
      have hw1 : IntKind.i64.wrap (tk + 1) = tk + 1 := by rw [IntKind.wrap_i64]; omega
      have hw2 : IntKind.i64.wrap ((k : Int) + 1) = (k : Int) + 1 := by rw [IntKind.wrap_i64]; omega
      clear hb4 hg4 HGp
      go_wp2_with fail
      go_roundw
      case rel => exact ⟨k + 1, by omega, by first | rfl | go_num, by rw [HS.out], by rw [HS.out]; exact HO4.out, HB4.out⟩
      case measure => simp [intOf]; omega
    · obtain rfl : k = Q.length := by omega
      have hsz := HBW.out.size
      generalize gapF (Q.take Q.length) ([], a) = st at *
      obtain ⟨G, nx⟩ := st
      dsimp only at HGS HO g1 g2 g3 ⊢
      have HGp := hid (ygap_any w1.heap.size _ G nx b wr HO.out (by omega) hsz (by omega) (by omega))
      have hf : decide (((Q.length : Nat) : Int) < ((Q.length : Nat) : Int)) = false := by simp
      go_wp2_with fail
      all_goals first | (exfalso; omega) | skip
      refine Calls.mono HGp.out ?_
      rintro e w4 ⟨v', rfl, HO4, hb4, hg4⟩
      have HB4 := hid (HBW.out.trans hb4)
      clear hb4 hg4 HGp
      go_wp2_with fail
      go_ret2
      refine ⟨_, rfl, ?_, HB1.out.trans (HB4.out.mono HB1.out.size)⟩
      rw [HGS.out]
      exact yowns_base HO4.out HB1.out.size
theorem ygaps_bad (rb mb : Nat) (a b : Int) (w : World) (h : FBox w rb 61 #[.map (some mb)]) (ha : I64 a) (hb : I64 b) (hs : ¬ spR a b = 0) :
    Calls Try.prog 27 #[.pointer (some ⟨rb, 0, none⟩), .int .i64 a, .int .i64 b] w fun e w' => e = .returned (.tuple #[.slice none 0 0, .int .i64 2]) ∧ Below w.heap.size w w' := by
  have HB := hid (ybetween_bad rb mb a b w h ha hb hs)
  clear h ha hb hs
  go_enter Try.func27, Try.ntmps27
  go_wp2_with fail
  refine Calls.mono HB.out ?_
  rintro e w1 ⟨rfl, hb⟩
  have HB1 := hid hb
  clear hb HB
  go_wp2_with fail
  go_ret2
  exact ⟨rfl, HB1.out⟩
end Go.Proofs.Ytbbmdpkccdcacaa

/- Gaps and samples are a span's ticks, each once; no program. -/
namespace Go.Proofs.Ytbbmdpkccdcacaa
open Go.RowKit
set_option linter.unusedVariables false

/-- The gaps from a tick on. -/
def gfrom (b : Int) : Int → List (Int × Nat) → List (Int × Int)
  | at_, [] => if b ≤ at_ then [] else [(at_, b - at_)]
  | at_, p :: r => if p.1 ≤ at_ then gfrom b (p.1 + 1) r else (at_, p.1 - at_) :: gfrom b (p.1 + 1) r
theorem gapF_from (b : Int) : ∀ (Q : List (Int × Nat)) (G : List (Int × Int)) (a : Int), gapR (gapF Q (G, a)).1 (gapF Q (G, a)).2 b = G ++ gfrom b a Q
  | [], G, a => by
    have e : gapF [] (G, a) = (G, a) := rfl
    rw [e, gfrom]
    unfold gapR
    split <;> simp
  | p :: r, G, a => by
    have e : gapF (p :: r) (G, a) = gapF r (gapR G a p.1, p.1 + 1) := rfl
    rw [e, gapF_from b r, gfrom]
    unfold gapR
    split <;> simp
theorem gaps_from (Q : List (Int × Nat)) (a b : Int) : gapsR Q a b = gfrom b a Q := by
  have := gapF_from b Q [] a
  unfold gapsR
  rw [this]
  rfl
theorem gfrom_len (b : Int) : ∀ (Q : List (Int × Nat)) (a : Int), (gfrom b a Q).length ≤ Q.length + 1
  | [], a => by rw [gfrom]; split <;> simp
  | p :: r, a => by
    have := gfrom_len b r (p.1 + 1)
    rw [gfrom]
    split
    · simp only [List.length_cons]; omega
    · simp only [List.length_cons]; omega
theorem gaps_len (Q : List (Int × Nat)) (a b : Int) : (gapsR Q a b).length ≤ Q.length + 1 := by rw [gaps_from]; exact gfrom_len b Q a
/-- Where the walk over a span stands. -/
structure GpW (Q : List (Int × Nat)) (G : List (Int × Int)) (b at_ : Int) (i k : Nat) : Prop where
  lo : 0 ≤ at_ ∧ at_ ≤ b
  il : i ≤ Q.length
  kl : k ≤ G.length
  mem : ∀ p ∈ Q.drop i, at_ ≤ p.1 ∧ p.1 < b
  rest : G.drop k = gfrom b at_ (Q.drop i)
theorem GpW.start {Q : List (Int × Nat)} {a b : Int} (ha : 0 ≤ a) (hab : a ≤ b) (hQ : ∀ p ∈ Q, a ≤ p.1 ∧ p.1 < b) : GpW Q (gapsR Q a b) b a 0 0 :=
  ⟨⟨ha, hab⟩, Nat.zero_le _, Nat.zero_le _, by simpa using hQ, by rw [gaps_from]; rfl⟩
theorem GpW.done {Q : List (Int × Nat)} {G : List (Int × Int)} {b at_ : Int} {i k : Nat} (h : GpW Q G b at_ i k) (hb : ¬ at_ < b) : at_ = b ∧ i = Q.length ∧ k = G.length := by
  have e := h.lo
  have hb2 : at_ = b := by omega
  subst hb2
  have hQ : Q.drop i = [] := by
    cases hq : Q.drop i with
    | nil => rfl
    | cons p r =>
      have := h.mem p (by rw [hq]; exact List.mem_cons_self)
      omega
  have hG := h.rest
  rw [hQ] at hG
  rw [gfrom, if_pos (Int.le_refl _)] at hG
  have h1 := List.drop_eq_nil_iff.1 hQ
  have h2 := List.drop_eq_nil_iff.1 hG
  have := h.il
  have := h.kl
  exact ⟨rfl, by omega, by omega⟩
theorem drop_cons_at {α : Type} {Q : List α} {i : Nat} {p : α} (hp : Q[i]? = some p) : Q.drop i = p :: Q.drop (i + 1) := by
  obtain ⟨hl, e⟩ := List.getElem?_eq_some_iff.1 hp
  rw [List.drop_eq_getElem_cons hl, e]
theorem GpW.hit {Q : List (Int × Nat)} {G : List (Int × Int)} {b at_ : Int} {i k : Nat} (h : GpW Q G b at_ i k) (hr : Q.Pairwise (fun p q => p.1 < q.1)) {p : Int × Nat} (hp : Q[i]? = some p) (he : p.1 = at_) : GpW Q G b (at_ + 1) (i + 1) k := by
  have hd := drop_cons_at hp
  have hm := h.mem p (by rw [hd]; exact List.mem_cons_self)
  have hl := (List.getElem?_eq_some_iff.1 hp).1
  have hrd : (p :: Q.drop (i + 1)).Pairwise (fun p q => p.1 < q.1) := by rw [← hd]; exact hr.sublist (List.drop_sublist _ _)
  rw [List.pairwise_cons] at hrd
  refine ⟨⟨by have := h.lo; omega, by omega⟩, by omega, h.kl, fun q hq => ?_, ?_⟩
  · have h1 := hrd.1 q hq
    have h2 := h.mem q (by rw [hd]; exact List.mem_cons_of_mem _ hq)
    omega
  · rw [h.rest, hd]
    rw [gfrom, if_pos (by omega), he]
theorem GpW.gap {Q : List (Int × Nat)} {G : List (Int × Int)} {b at_ : Int} {i k : Nat} (h : GpW Q G b at_ i k) (hr : Q.Pairwise (fun p q => p.1 < q.1)) (hb : at_ < b) (hn : ∀ p, Q[i]? = some p → p.1 ≠ at_) :
    ∃ d : Int, 1 ≤ d ∧ d ≤ b - at_ ∧ k < G.length ∧ G[k]? = some (at_, d) ∧ (∀ p, Q[i]? = some p → p.1 = at_ + d) ∧ (Q[i]? = none → at_ + d = b) ∧ GpW Q G b (at_ + d) i (k + 1) := by
  have hG := h.rest
  cases hq : Q[i]? with
  | none =>
    have hQ : Q.drop i = [] := List.drop_eq_nil_iff.2 (by simpa using hq)
    rw [hQ] at hG
    rw [gfrom, if_neg (by omega)] at hG
    have hk : G[k]? = some (at_, b - at_) := by
      have := congrArg (·[0]?) hG
      simpa [List.getElem?_drop] using this
    have hkl := (List.getElem?_eq_some_iff.1 hk).1
    refine ⟨b - at_, by omega, by omega, hkl, hk, fun p hp => by simp at hp, fun _ => by omega, ⟨by have := h.lo; omega, by omega⟩, h.il, by omega, ?_, ?_⟩
    · rw [hQ]; simp
    · rw [drop_cons_at hk] at hG
      have e : G.drop (k + 1) = [] := by injection hG
      rw [e, hQ, gfrom, if_pos (by omega)]
  | some p =>
    have hd := drop_cons_at hq
    have hm := h.mem p (by rw [hd]; exact List.mem_cons_self)
    have hne := hn p hq
    rw [hd] at hG
    rw [gfrom, if_neg (by omega)] at hG
    have hk : G[k]? = some (at_, p.1 - at_) := by
      have := congrArg (·[0]?) hG
      simpa [List.getElem?_drop] using this
    have hkl := (List.getElem?_eq_some_iff.1 hk).1
    refine ⟨p.1 - at_, by omega, by omega, hkl, hk, fun q hq2 => by injection hq2 with e; subst e; omega, fun h => by simp at h, ⟨by have := h.lo; omega, by omega⟩, h.il, by omega, ?_, ?_⟩
    · intro q hq2
      have h2 := h.mem q hq2
      rw [hd] at hq2
      have hrd : (p :: Q.drop (i + 1)).Pairwise (fun p q => p.1 < q.1) := by rw [← hd]; exact hr.sublist (List.drop_sublist _ _)
      rw [List.pairwise_cons] at hrd
      rcases List.mem_cons.1 hq2 with rfl | hq3
      · omega
      · have := hrd.1 q hq3; omega
    · rw [drop_cons_at hk] at hG
      have e : G.drop (k + 1) = gfrom b (p.1 + 1) (Q.drop (i + 1)) := by injection hG
      rw [e, hd]
      have : at_ + (p.1 - at_) = p.1 := by omega
      rw [this]
      show _ = gfrom b p.1 (p :: Q.drop (i + 1))
      rw [gfrom, if_pos (Int.le_refl _)]
end Go.Proofs.Ytbbmdpkccdcacaa

/- The laws' own for records: lists held against each other; awake. -/
namespace Go.Proofs.Ytbbmdpkccdcacaa
open Go.RowKit
set_option linter.unusedVariables false
set_option linter.unusedSimpArgs false

theorem ydrewM {B n : Nat} {a w : World} (h : Below B a w) : Below B a (w.drewN n) := by
  induction n with
  | zero => exact h
  | succ n ih => exact ih.drew
theorem ybt' {a b c : World} (h : Below a.heap.size a b) (g : Below b.heap.size b c) : Below a.heap.size a c := h.trans (g.mono h.size)
theorem ylit {w : World} {b t j : Nat} {vs : Array Value} {u : Value} (hj : vs.toList[j]? = some u) (h : FBox w b t vs) : w.cell? ⟨b, j, none⟩ = some u := by
  rw [h.cell j, ← hj]
  simp
theorem RdV.get {w : World} {a : Option Addr} {xs : List Value} (h : RdV w a xs) {j : Nat} {u : Value} (hj : xs[j]? = some u) : ∃ g, a = some ⟨g, 0, none⟩ ∧ g < w.heap.size ∧ ∀ j u, xs[j]? = some u → w.cell? ⟨g, j, none⟩ = some u := by
  rcases h with rfl | h
  · simp at hj
  · exact h
set_option maxHeartbeats 1600000 in
set_option maxRecDepth 100000 in
theorem ysameI (a b : Option Addr) (ca cb : Nat) (zs : List Int) (w : World) (hn : zs.length ≤ 100000) (ha : RdV w a (zs.map (Value.int .i64))) (hb : RdV w b (zs.map (Value.int .i64))) :
    Calls Try.prog 19 #[.slice a zs.length ca, .slice b zs.length cb] w fun e w' => e = .returned (.bool true) ∧ Below w.heap.size w w' := by
  have HA := hid ha
  have HB := hid hb
  clear ha hb
  go_enter Try.func19, Try.ntmps19
  go_wp2_with fail
  go_loopw [5] (fun x wr => ∃ k : Nat, k ≤ zs.length ∧ x = .int .i64 (k : Int) ∧ Hid (Below w.heap.size w wr)) (fun x _ => zs.length - (intOf x).toNat)
  case atStart => exact ⟨0, Nat.zero_le _, rfl, Below.refl _ _⟩
  case round =>
    obtain ⟨k, hk, rfl, HW⟩ := hrel
    by_cases hlt : k < zs.length
    · have hj : (zs.map (Value.int .i64))[k]? = some (.int .i64 zs[k]) := by simp [hlt]
      obtain ⟨g, rfl, hg, hc⟩ := HA.out.get hj
      obtain ⟨g', rfl, hg', hc'⟩ := HB.out.get hj
      have c0 : wr.cell? ⟨g, k, none⟩ = some (.int .i64 zs[k]) := (HW.out.cell (p := ⟨g, k, none⟩) hg).trans (hc k _ hj)
      have c1 : wr.cell? ⟨g', k, none⟩ = some (.int .i64 zs[k]) := (HW.out.cell (p := ⟨g', k, none⟩) hg').trans (hc' k _ hj)
      clear hc hc' HA HB hj
      generalize zs[k] = z at *
      go_wp2_with fail
      go_quiet (fail)
      go_wp2_with fail
      go_roundw
      case rel => exact ⟨k + 1, by omega, by go_num, ydrewM HW.out⟩
      case measure => simp [intOf]; omega
    · obtain rfl : k = zs.length := by omega
      go_wp2_with fail
      go_ret
      exact ⟨rfl, HW.out⟩
theorem gpC_at {M : List (Int × Int)} : ∀ {k : Nat} {p : Int × Int}, M[k]? = some p → (gpC M)[k * 2]? = some (.int .i64 p.1) ∧ (gpC M)[k * 2 + 1]? = some (.int .i64 p.2) := by
  induction M with
  | nil => intro k p h; simp at h
  | cons q M ih =>
    intro k p h
    have e : gpC (q :: M) = .int .i64 q.1 :: .int .i64 q.2 :: gpC M := rfl
    rw [e]
    cases k with
    | zero => simp at h; subst h; exact ⟨rfl, rfl⟩
    | succ k =>
      have := ih (k := k) (p := p) (by simpa using h)
      rw [show (k + 1) * 2 = k * 2 + 1 + 1 by omega, show k * 2 + 1 + 1 + 1 = (k * 2 + 1) + 1 + 1 by omega]
      exact this
theorem ypeq_item (w : World) (d : Nat) (xs ys : Array Value) (k : Nat) (is : List Nat) (a : Int) (ha : xs[k]? = some (.int .i64 a)) (hb : ys[k]? = some (.int .i64 a)) :
    (Op.eqItems (d + 1) 3 1 xs ys (k :: is)).run Try.prog w = (Op.eqItems (d + 1) 3 1 xs ys is).run Try.prog w := by
  have p1 := run_part_plain (P := Try.prog) w (e := 3) (by kernel_rfl) (xs := xs) (off := k * 1) (v := .int .i64 a) (by rw [Nat.mul_one]; exact ha)
  have p2 := run_part_plain (P := Try.prog) w (e := 3) (by kernel_rfl) (xs := ys) (off := k * 1) (v := .int .i64 a) (by rw [Nat.mul_one]; exact hb)
  have p3 := run_equalIn_int (P := Try.prog) w d 3 .i64 .i64 a a Try.underlying3
  simp only [Op.eqItems, Sem.run_bind, p1, p2, p3, Result.andThen_ok]
  simp
theorem ypeq (a b : Int) (w : World) : (Op.equalIn 10000 76 (.agg #[.int .i64 a, .int .i64 b]) (.agg #[.int .i64 a, .int .i64 b])).run Try.prog w = .ok true w := by
  obtain ⟨i0, hi0⟩ : ∃ i0, Try.prog.info? 3 = some i0 := by
    have h : (Try.prog.info? 3).isSome = true := by kernel_rfl
    exact Option.isSome_iff_exists.1 h
  rw [show (10000 : Nat) = 9999 + 1 from rfl, run_equalIn_array (P := Try.prog) w 9999 _ _ Try.underlying76 hi0, show Try.prog.cellsOf 3 = 1 by kernel_rfl]
  rw [show List.range 2 = [0, 1] from rfl, show (9999 : Nat) = 9998 + 1 from rfl]
  rw [ypeq_item w 9998 _ _ 0 _ a rfl rfl, ypeq_item w 9998 _ _ 1 _ b rfl rfl]
  simp [Op.eqItems]
set_option maxHeartbeats 1600000 in
set_option maxRecDepth 100000 in
theorem ypairs (a b : Option Addr) (ca cb : Nat) (G : List (Int × Int)) (w : World) (hn : G.length ≤ 100000) (ha : RdV w a (gpC G)) (hb : RdV w b (gpC G)) :
    Calls Try.prog 46 #[.slice a G.length ca, .slice b G.length cb] w fun e w' => e = .returned (.bool true) ∧ Below w.heap.size w w' := by
  have HA := hid ha
  have HB := hid hb
  clear ha hb
  go_enter Try.func46, Try.ntmps46
  go_wp2_with fail
  go_loopw [5] (fun x wr => ∃ k : Nat, k ≤ G.length ∧ x = .int .i64 (k : Int) ∧ Hid (Below w.heap.size w wr)) (fun x _ => G.length - (intOf x).toNat)
  case atStart => exact ⟨0, Nat.zero_le _, rfl, Below.refl _ _⟩
  case round =>
    obtain ⟨k, hk, rfl, HW⟩ := hrel
    by_cases hlt : k < G.length
    · have hj := gpC_at (List.getElem?_eq_getElem hlt)
      obtain ⟨g, rfl, hg, hc⟩ := HA.out.get hj.1
      obtain ⟨g', rfl, hg', hc'⟩ := HB.out.get hj.1
      have c0 : wr.cell? ⟨g, k * 2, none⟩ = some (.int .i64 (G[k]).1) := (HW.out.cell (p := ⟨g, k * 2, none⟩) hg).trans (hc _ _ hj.1)
      have c1 : wr.cell? ⟨g, k * 2 + 1, none⟩ = some (.int .i64 (G[k]).2) := (HW.out.cell (p := ⟨g, k * 2 + 1, none⟩) hg).trans (hc _ _ hj.2)
      have d0 : wr.cell? ⟨g', k * 2, none⟩ = some (.int .i64 (G[k]).1) := (HW.out.cell (p := ⟨g', k * 2, none⟩) hg').trans (hc' _ _ hj.1)
      have d1 : wr.cell? ⟨g', k * 2 + 1, none⟩ = some (.int .i64 (G[k]).2) := (HW.out.cell (p := ⟨g', k * 2 + 1, none⟩) hg').trans (hc' _ _ hj.2)
      clear hc hc' HA HB hj
      generalize (G[k]).1 = z1 at *
      generalize (G[k]).2 = z2 at *
      have hEQ := ypeq z1 z2
      go_wp2_with fail
      go_quiet (fail)
      go_wp2_with fail
      go_roundw
      case rel => exact ⟨k + 1, by omega, by go_num, ydrewM HW.out⟩
      case measure => simp [intOf]; omega
    · obtain rfl : k = G.length := by omega
      go_wp2_with fail
      go_ret
      exact ⟨rfl, HW.out⟩
set_option maxHeartbeats 3200000 in
set_option maxRecDepth 100000 in
theorem yawake (w : World) : Calls Try.prog 23 #[] w fun e w' => e = .returned (.bool true) ∧ Below w.heap.size w w' := by
  have H1 := hid (ynew_any w)
  have HN := hid (fun V => mNaN_any V)
  go_enter Try.func23, Try.ntmps23
  go_wp2_with fail
  refine Calls.mono H1.out ?_
  rintro e w1 ⟨rfl, R1, hb1⟩
  obtain ⟨rb, hrb⟩ : ∃ rb, w.heap.size + 1 = rb := ⟨_, rfl⟩
  obtain ⟨mb, hmb⟩ : ∃ mb, w.heap.size = mb := ⟨_, rfl⟩
  have HMB := hid (Nat.le_of_eq hmb)
  rw [hrb, hmb] at R1
  rw [hrb]
  have HA := hid (yadd_any rb mb [] 3 4609434218613702656 w1 R1 (by unfold I64; omega) (by omega))
  rw [show addR [] 3 4609434218613702656 = (0, [(3, 4609434218613702656)]) by decide] at HA
  have HB := hid hb1
  clear R1 hb1 H1 hrb hmb
  go_wp2_with fail
  refine Calls.mono HA.out ?_
  rintro e w2 ⟨rfl, R2, k2⟩
  replace HB := hid (HB.out.trans (k2.below HMB.out HB.out.size))
  replace HA := hid (fun V (R : RecAt V rb mb [(3, 4609434218613702656)]) => yadd_any rb mb _ 1 9221120237041090561 V R (by unfold I64; omega) (by omega))
  rw [show addR [(3, 4609434218613702656)] 1 9221120237041090561 = (0, [(1, 9221120237041090561), (3, 4609434218613702656)]) by decide] at HA
  have HR2 := hid R2
  clear R2 k2
  go_wp2_with fail
  refine Calls.mono (HN.out _) ?_
  rintro e w3 ⟨rfl, rfl⟩
  go_wp2_with fail
  refine Calls.mono (HA.out _ HR2.out) ?_
  rintro e w4 ⟨rfl, R4, k4⟩
  replace HB := hid (HB.out.trans (k4.below HMB.out HB.out.size))
  replace HA := hid (yadd_any rb mb _ 3 4611686018427387904 w4 R4 (by unfold I64; omega) (by omega))
  rw [show addR [(1, 9221120237041090561), (3, 4609434218613702656)] 3 4611686018427387904 = (5, [(1, 9221120237041090561), (3, 4609434218613702656)]) by decide] at HA
  clear R4 k4 HR2
  go_wp2_with fail
  refine Calls.mono HA.out ?_
  rintro e w5 ⟨rfl, R5, k5⟩
  replace HB := hid (HB.out.trans (k5.below HMB.out HB.out.size))
  replace HA := hid (yadd_any rb mb _ (-1) 0 w5 R5 (by unfold I64; omega) (by omega))
  rw [show addR [(1, 9221120237041090561), (3, 4609434218613702656)] (-1) 0 = (2, [(1, 9221120237041090561), (3, 4609434218613702656)]) by decide] at HA
  clear R5 k5
  go_wp2_with fail
  refine Calls.mono HA.out ?_
  rintro e w6 ⟨rfl, R6, k6⟩
  replace HB := hid (HB.out.trans (k6.below HMB.out HB.out.size))
  replace HA := hid (ygaps_ok rb mb _ 0 6 w6 R6 (by unfold I64; omega) (by unfold I64; omega) (by decide))
  rw [show gapsR (spanL (onesL [(1, 9221120237041090561), (3, 4609434218613702656)] true) 0 6) 0 6 = [(0, 3), (4, 2)] by decide] at HA
  have HR6 := hid R6
  clear R6 k6
  go_wp2_with fail
  refine Calls.mono HA.out ?_
  rintro e w7 ⟨v7, rfl, HO7, hb7⟩
  obtain ⟨a7, c7, rfl, HV7⟩ := yshape HO7.out
  replace HB := hid (ybt' HB.out hb7)
  have HR7 := hid (HR6.out.later hb7)
  replace HA := hid (ylen_any rb mb _ w7 HR7.out)
  rw [show (onesL [(1, 9221120237041090561), (3, 4609434218613702656)] true).length = 1 by decide] at HA
  have HV := hid HV7
  clear HO7 hb7 HR6 HV7
  go_wp2_with fail
  refine Calls.mono HA.out ?_
  rintro e w8 ⟨rfl, hb8⟩
  replace HB := hid (ybt' HB.out hb8)
  replace HV := hid (HV.out.later hb8)
  replace HA := hid (ylost_any rb mb _ w8 (HR7.out.later hb8))
  rw [show onesL [(1, 9221120237041090561), (3, 4609434218613702656)] false = [(1, 9221120237041090561)] by decide] at HA
  clear hb8 HR7
  go_wp2_with fail
  refine Calls.mono HA.out ?_
  rintro e w9 ⟨v9, rfl, HO9, hb9⟩
  obtain ⟨a9, c9, rfl, HV9⟩ := yshape HO9.out
  replace HB := hid (ybt' HB.out hb9)
  replace HV := hid (HV.out.later hb9)
  clear hb9 HO9
  obtain ⟨X, hX⟩ : ∃ X, w9.alloc (.cells #[.int .i64 1] 3) = X := ⟨_, rfl⟩
  have HX : Hid (FBox X w9.heap.size 3 #[.int .i64 1] ∧ Below w9.heap.size w9 X) := by rw [← hX]; exact ⟨FBox.made _ _ _, (Below.refl _ _).alloc (Nat.le_refl _) _⟩
  have HS := hid (ysameI a9 (some ⟨w9.heap.size, 0, none⟩) c9 1 [1] X (by decide) (HV9.later HX.out.2) (.inr ⟨_, rfl, HX.out.1.lt, fun j u hj => ylit hj HX.out.1⟩))
  replace HB := hid (ybt' HB.out HX.out.2)
  replace HV := hid (HV.out.later HX.out.2)
  clear HV9
  go_wp2_with fail
  clear hX
  refine Calls.mono HS.out ?_
  rintro e w10 ⟨rfl, hb10⟩
  replace HB := hid (ybt' HB.out hb10)
  replace HV := hid (HV.out.later hb10)
  clear hb10 HS HX HA
  obtain ⟨Y, hY⟩ : ∃ Y, w10.alloc (.cells #[.int .i64 0, .int .i64 3, .int .i64 4, .int .i64 2] 76) = Y := ⟨_, rfl⟩
  have HY : Hid (FBox Y w10.heap.size 76 #[.int .i64 0, .int .i64 3, .int .i64 4, .int .i64 2] ∧ Below w10.heap.size w10 Y) := by rw [← hY]; exact ⟨FBox.made _ _ _, (Below.refl _ _).alloc (Nat.le_refl _) _⟩
  have HS := hid (ypairs a7 (some ⟨w10.heap.size, 0, none⟩) c7 2 [(0, 3), (4, 2)] Y (by decide) (HV.out.later HY.out.2) (.inr ⟨_, rfl, HY.out.1.lt, fun j u hj => ylit hj HY.out.1⟩))
  replace HB := hid (ybt' HB.out HY.out.2)
  go_wp2_with fail
  clear hY
  refine Calls.mono HS.out ?_
  rintro e w11 ⟨rfl, hb11⟩
  replace HB := hid (ybt' HB.out hb11)
  clear hb11 HS HY
  go_wp2_with fail
  go_ret
  exact ⟨rfl, HB.out⟩
end Go.Proofs.Ytbbmdpkccdcacaa

/- package record: what is no record: each call, where made says no. -/
namespace Go.Proofs.Ytbbmdpkccdcacaa
open Go.RowKit
set_option linter.unusedVariables false
set_option linter.unusedSimpArgs false

/-- A pointer that leads to no record, in this world and in all that follow. -/
def NoRec (p : Value) (V : World) : Prop := ∀ W, Below V.heap.size V W → Calls Try.prog 47 #[p] W fun e w' => e = .returned (.bool false) ∧ w' = W
theorem NoRec.later {p : Value} {V W : World} (h : NoRec p V) (hb : Below V.heap.size V W) : NoRec p W := fun X hx => h X (hb.trans (hx.mono hb.size))
theorem norec_nil (V : World) : NoRec (.pointer none) V := fun W _ => ymade_nil W
theorem norec_un {rb : Nat} {V : World} (h : FBox V rb 61 #[.map none]) : NoRec (.pointer (some ⟨rb, 0, none⟩)) V := fun W hb => ymade_un rb W (h.later hb h.lt)
theorem zat (p : Value) (t : Int) (V : World) (h : NoRec p V) : Calls Try.prog 29 #[p, .int .i64 t] V fun e w' => e = .returned (.tuple #[.float .f64 0, .bool false]) ∧ w' = V := by
  have HM := hid (h V (Below.refl _ _))
  clear h
  go_enter Try.func29, Try.ntmps29
  go_wp2_with fail
  refine Calls.mono HM.out ?_
  rintro e w1 ⟨rfl, rfl⟩
  go_wp2_with fail
  go_ret2
  exact ⟨rfl, rfl⟩
theorem zlookAt (p : Value) (a b : Int) (V : World) (h : NoRec p V) : Calls Try.prog 50 #[p, .int .i64 a, .int .i64 b] V fun e w' => e = .returned (.int .i64 1) ∧ w' = V := by
  have HM := hid (h V (Below.refl _ _))
  clear h
  go_enter Try.func50, Try.ntmps50
  go_wp2_with fail
  refine Calls.mono HM.out ?_
  rintro e w1 ⟨rfl, rfl⟩
  go_wp2_with fail
  go_ret
  exact ⟨rfl, rfl⟩
theorem ztake (p : Value) (t : Int) (V : World) (h : NoRec p V) : Calls Try.prog 26 #[p, .int .i64 t] V fun e w' => e = .returned (.int .i64 1) ∧ w' = V := by
  have HM := hid (h V (Below.refl _ _))
  clear h
  go_enter Try.func26, Try.ntmps26
  go_wp2_with fail
  refine Calls.mono HM.out ?_
  rintro e w1 ⟨rfl, rfl⟩
  go_wp2_with fail
  go_ret
  exact ⟨rfl, rfl⟩
theorem zticks (p : Value) (o : Bool) (V : World) (h : NoRec p V) : Calls Try.prog 41 #[p, .bool o] V fun e w' => e = .returned (.slice none 0 0) ∧ w' = V := by
  have HM := hid (h V (Below.refl _ _))
  clear h
  go_enter Try.func41, Try.ntmps41
  go_wp2_with fail
  refine Calls.mono HM.out ?_
  rintro e w1 ⟨rfl, rfl⟩
  go_wp2_with fail
  go_ret
  exact ⟨rfl, rfl⟩
theorem zadd (p : Value) (t : Int) (b : Nat) (V : World) (h : NoRec p V) : Calls Try.prog 24 #[p, .agg #[.int .i64 t, .float .f64 b]] V fun e w' => e = .returned (.int .i64 1) ∧ Below V.heap.size V w' := by
  obtain ⟨X, hX⟩ : ∃ X, V.alloc (.cells #[.int .i64 t, .float .f64 b] 40) = X := ⟨_, rfl⟩
  have HB : Hid (Below V.heap.size V X) := by rw [← hX]; exact (Below.refl _ V).alloc (Nat.le_refl _) _
  have HM := hid (h X HB.out)
  clear h
  go_enter Try.func24, Try.ntmps24
  go_wp2_with fail
  clear hX
  refine Calls.mono HM.out ?_
  rintro e w1 ⟨rfl, rfl⟩
  go_wp2_with fail
  go_ret
  exact ⟨rfl, HB.out⟩
theorem zlen (p : Value) (V : World) (h : NoRec p V) : Calls Try.prog 25 #[p] V fun e w' => e = .returned (.int .i64 0) ∧ w' = V := by
  have HM := hid (zticks p true V h)
  clear h
  go_enter Try.func25, Try.ntmps25
  go_wp2_with fail
  refine Calls.mono HM.out ?_
  rintro e w1 ⟨rfl, rfl⟩
  go_wp2_with fail
  go_ret
  exact ⟨rfl, rfl⟩
theorem zlost (p : Value) (V : World) (h : NoRec p V) : Calls Try.prog 20 #[p] V fun e w' => e = .returned (.slice none 0 0) ∧ w' = V := by
  have HM := hid (zticks p false V h)
  have HS := hid (Try.slices_Sort_int_none none 0 V)
  clear h
  go_enter Try.func20, Try.ntmps20
  go_wp2_with fail
  refine Calls.mono HM.out ?_
  rintro e w1 ⟨rfl, rfl⟩
  go_wp2_with fail
  refine Calls.mono HS.out ?_
  rintro e w2 ⟨rfl, rfl⟩
  go_wp2_with fail
  go_ret
  exact ⟨rfl, rfl⟩
theorem zsamples (p : Value) (V : World) (h : NoRec p V) : Calls Try.prog 17 #[p] V fun e w' => e = .returned (.slice none 0 0) ∧ w' = V := by
  have HM := hid (zticks p true V h)
  have HS := hid (Try.slices_Sort_int_none none 0 V)
  clear h
  go_enter Try.func17, Try.ntmps17
  go_wp2_with fail
  refine Calls.mono HM.out ?_
  rintro e w1 ⟨rfl, rfl⟩
  go_wp2_with fail
  refine Calls.mono HS.out ?_
  rintro e w2 ⟨rfl, rfl⟩
  go_wp2_with fail
  refine wp_loop_rounds 1 ?_
  rw [rounds_succ]
  go_wp2_with fail
  go_ret
  exact ⟨rfl, rfl⟩
theorem zbetween (p : Value) (a b : Int) (w : World) (h : NoRec p w) : Calls Try.prog 28 #[p, .int .i64 a, .int .i64 b] w fun e w' => e = .returned (.tuple #[.slice none 0 0, .int .i64 1]) ∧ Below w.heap.size w w' := by
  obtain ⟨V0, hV0⟩ : ∃ V0, (w.alloc (.cells #[.int .i64 a] 3)).alloc (.cells #[.int .i64 b] 3) = V0 := ⟨_, rfl⟩
  have HA0 : Hid (FBox V0 w.heap.size 3 #[.int .i64 a] ∧ FBox V0 (w.heap.size + 1) 3 #[.int .i64 b] ∧ Below w.heap.size w V0) := by
    rw [← hV0]
    have q1 := FBox.made w 3 #[.int .i64 a]
    have q2 := FBox.made (w.alloc (.cells #[.int .i64 a] 3)) 3 #[.int .i64 b]
    rw [show (w.alloc (.cells #[.int .i64 a] 3)).heap.size = w.heap.size + 1 by simp] at q2
    exact ⟨q1.later ((Below.refl _ _).alloc (Nat.le_refl _) _) q1.lt, q2, ((Below.refl _ _).alloc (Nat.le_refl _) _).alloc (by simp) _⟩
  have HLk := hid (zlookAt p a b V0 (h.later HA0.out.2.2))
  have c0 : V0.cell? ⟨w.heap.size, 0, none⟩ = some (.int .i64 a) := HA0.out.1.cell 0
  have c1 : V0.cell? ⟨w.heap.size + 1, 0, none⟩ = some (.int .i64 b) := HA0.out.2.1.cell 0
  clear h
  go_enter Try.func28, Try.ntmps28
  go_wp2_with fail
  clear hV0
  refine Calls.mono HLk.out ?_
  rintro e w1 ⟨rfl, rfl⟩
  go_wp2_with fail
  go_ret2
  exact ⟨rfl, HA0.out.2.2⟩
theorem zgaps (p : Value) (a b : Int) (w : World) (h : NoRec p w) : Calls Try.prog 27 #[p, .int .i64 a, .int .i64 b] w fun e w' => e = .returned (.tuple #[.slice none 0 0, .int .i64 1]) ∧ Below w.heap.size w w' := by
  have HB := hid (zbetween p a b w h)
  clear h
  go_enter Try.func27, Try.ntmps27
  go_wp2_with fail
  refine Calls.mono HB.out ?_
  rintro e w1 ⟨rfl, hb⟩
  have HB1 := hid hb
  clear hb HB
  go_wp2_with fail
  go_ret2
  exact ⟨rfl, HB1.out⟩
end Go.Proofs.Ytbbmdpkccdcacaa

/- Layer 19's own: a sample by its bits; All of what is no record. -/
namespace Go.Proofs.Ytbbmdpkccdcacaa
open Go.RowKit
set_option linter.unusedVariables false
set_option linter.unusedSimpArgs false

theorem zall (p : Value) (w : World) (h : NoRec p w) : Calls Try.prog 39 #[p] w fun e w' => ∃ q : Nat, e = .returned (.func (.func 58) #[] #[.pointer (some ⟨q, 0, none⟩)]) ∧ Hid (FBox w' q 37 #[.slice none 0 0]) ∧ Hid (w.heap.size ≤ q) ∧ Below w.heap.size w w' := by
  have HS := hid (zsamples p w h)
  clear h
  go_enter Try.func39, Try.ntmps39
  go_wp2_with fail
  refine Calls.mono HS.out ?_
  rintro e w1 ⟨rfl, rfl⟩
  obtain ⟨Y, hY⟩ : ∃ Y, w1.alloc (.cells #[.slice none 0 0] 37) = Y := ⟨_, rfl⟩
  have HN : Hid (FBox Y w1.heap.size 37 #[.slice none 0 0]) := by rw [← hY]; exact FBox.made _ _ _
  have HBY : Hid (Below w1.heap.size w1 Y) := by rw [← hY]; exact (Below.refl _ _).alloc (Nat.le_refl _) _
  have c0 : Y.cell? ⟨w1.heap.size, 0, none⟩ = some (.slice none 0 0) := HN.out.cell 0
  have f0 : Y.frozen? ⟨w1.heap.size, 0, none⟩ = false := HN.out.free 0
  clear HS
  go_wp2_with fail
  go_ret
  exact ⟨w1.heap.size, rfl, HN.out.set 0 (.slice none 0 0), Nat.le_refl _, HBY.out.setCell (p := ⟨w1.heap.size, 0, none⟩) (Nat.le_refl _) _⟩
set_option maxHeartbeats 1600000 in
set_option maxRecDepth 100000 in
theorem ysample (t : Int) (b : Nat) (w : World) : Calls Try.prog 12 #[.agg #[.int .i64 t, .int .u64 (b : Int)]] w fun e w' => e = .returned (.agg #[.int .i64 t, .float .f64 b]) ∧ Below w.heap.size w w' := by
  obtain ⟨X, hX⟩ : ∃ X, (w.alloc (.cells #[.int .i64 t, .int .u64 (b : Int)] 42)).alloc (.cells #[.int .i64 0, .float .f64 0] 40) = X := ⟨_, rfl⟩
  have HX : Hid (FBox X w.heap.size 42 #[.int .i64 t, .int .u64 (b : Int)] ∧ FBox X (w.heap.size + 1) 40 #[.int .i64 0, .float .f64 0] ∧ Below w.heap.size w X) := by
    rw [← hX]
    have q1 := FBox.made w 42 #[.int .i64 t, .int .u64 (b : Int)]
    have q2 := FBox.made (w.alloc (.cells #[.int .i64 t, .int .u64 (b : Int)] 42)) 40 #[.int .i64 0, .float .f64 0]
    rw [show (w.alloc (.cells #[.int .i64 t, .int .u64 (b : Int)] 42)).heap.size = w.heap.size + 1 by simp] at q2
    exact ⟨q1.later ((Below.refl _ _).alloc (Nat.le_refl _) _) q1.lt, q2, ((Below.refl _ _).alloc (Nat.le_refl _) _).alloc (by simp) _⟩
  have HF : ∀ V, (callFunc 40 #[.int .u64 (b : Int)]).run Try.prog V = .ok (.value (.float .f64 b)) V := from_run b
  have sF : ∀ (W : World) (p : Addr) (y : Nat) (md : Mode), (store p (.float .f64 y) md).run Try.prog W = stored Try.prog W p (.float .f64 y) md := fun W p y md => run_store Try.prog W p _ md rfl
  have c0 : X.cell? ⟨w.heap.size, 0, none⟩ = some (.int .i64 t) := HX.out.1.cell 0
  have c1 : X.cell? ⟨w.heap.size, 1, none⟩ = some (.int .u64 (b : Int)) := HX.out.1.cell 1
  have H1 := hid (HX.out.2.1.set 0 (.int .i64 t))
  have H2 := hid (H1.out.set 1 (.float .f64 b))
  have d0 : X.cell? ⟨w.heap.size + 1, 0, none⟩ = some (.int .i64 0) := HX.out.2.1.cell 0
  have g0 : X.frozen? ⟨w.heap.size + 1, 0, none⟩ = false := HX.out.2.1.free 0
  have d1 : (X.setCell ⟨w.heap.size + 1, 0, none⟩ (.int .i64 t)).cell? ⟨w.heap.size + 1, 1, none⟩ = some (.float .f64 0) := H1.out.cell 1
  have g1 : (X.setCell ⟨w.heap.size + 1, 0, none⟩ (.int .i64 t)).frozen? ⟨w.heap.size + 1, 1, none⟩ = false := H1.out.free 1
  go_enter Try.func12, Try.ntmps12
  go_upto_region 1 with fail
  clear hX
  go_region
  have e0 := H2.out.cell 0
  have e1 := H2.out.cell 1
  have HB := hid ((HX.out.2.2.setCell (p := ⟨w.heap.size + 1, 0, none⟩) (show w.heap.size ≤ w.heap.size + 1 by omega) (.int .i64 t)).setCell (p := ⟨w.heap.size + 1, 1, none⟩) (show w.heap.size ≤ w.heap.size + 1 by omega) (.float .f64 b))
  clear HF sF c0 c1 d0 g0 d1 g1 HX H1
  generalize (X.setCell ⟨w.heap.size + 1, 0, none⟩ (.int .i64 t)).setCell ⟨w.heap.size + 1, 1, none⟩ (.float .f64 b) = Y at *
  have e0' : Y.drew.cell? ⟨w.heap.size + 1, 0, none⟩ = some (.int .i64 t) := e0
  have e1' : Y.drew.cell? ⟨w.heap.size + 1, 1, none⟩ = some (.float .f64 b) := e1
  go_wp2_with fail
  refine bodyPost_ret (v := .agg #[.int .i64 t, .float .f64 b]) (by simp [results, Try.results12, go_sem, e0', e1']) rfl ?_
  exact ⟨rfl, HB.out.drew⟩
end Go.Proofs.Ytbbmdpkccdcacaa

/- The law RecordGaps answers true, of every list of samples and every span. -/
namespace Go.Proofs.Ytbbmdpkccdcacaa
open Go.RowKit
set_option linter.unusedVariables false
set_option linter.unusedSimpArgs false

set_option maxHeartbeats 1600000 in
set_option maxRecDepth 100000 in
theorem recordGaps_long (a : Option Addr) (n cap : Nat) (x y : Int) (w : World) (hn : 500 < n) (hm : n ≤ 9223372036854775807) :
    Calls Try.prog 7 #[.slice a n cap, .int .i64 x, .int .i64 y] w fun e w' => e = .returned (.bool true) ∧ Below w.heap.size w w' := by
  have h1 : (500 : Int) < (n : Int) := by omega
  have HL := hid (yawake w)
  go_enter Try.func7, Try.ntmps7
  go_wp2_with fail
  refine Calls.mono HL.out ?_
  rintro e w1 ⟨rfl, hb1⟩
  go_wp2_with fail
  go_ret
  exact ⟨rfl, hb1⟩
/-- What stands while a record is filled. -/
structure GpS (w : World) (rb mb : Nat) (L : List (Int × Nat)) (W : World) : Prop where
  bel : Below w.heap.size w W
  own : RecAt W rb mb L
  lo : w.heap.size ≤ mb
theorem GpS.later {w W W' : World} {rb mb : Nat} {L : List (Int × Nat)} (h : GpS w rb mb L W) (hb : Below W.heap.size W W') : GpS w rb mb L W' := ⟨ybt' h.bel hb, h.own.later hb, h.lo⟩
theorem GpS.but {w W W' : World} {rb mb : Nat} {L L' : List (Int × Nat)} (h : GpS w rb mb L W) (hb : But mb W W') (hr : RecAt W' rb mb L') : GpS w rb mb L' W' := ⟨h.bel.trans (hb.below h.lo h.bel.size), hr, h.lo⟩

set_option maxHeartbeats 6400000 in
set_option maxRecDepth 100000 in
theorem recordGaps_go (a : Option Addr) (n cap : Nat) (xs : List (Int × Nat)) (x y : Int) (w : World) (hn : n ≤ 500) (hd : RdB w a n xs) (hx : I64 x) (hy : I64 y) :
    Calls Try.prog 7 #[.slice a n cap, .int .i64 x, .int .i64 y] w fun e w' => e = .returned (.bool true) ∧ Below w.heap.size w w' := by
  have h500 : ¬ (500 : Int) < (n : Int) := by omega
  have HL := hid (yawake w)
  have HN := hid (fun V => ynew_any V)
  have HD := hid hd
  have HX := hid hx
  have HY := hid hy
  clear hd hx hy
  go_enter Try.func7, Try.ntmps7
  go_wp2_with fail
  refine Calls.mono HL.out ?_
  rintro e w1 ⟨rfl, hb1⟩
  go_wp2_with fail
  refine Calls.mono (HN.out _) ?_
  rintro e w2 ⟨rfl, R2, hb2⟩
  have HS0 : Hid (GpS w (w1.heap.size + 1) w1.heap.size [] w2) := ⟨ybt' hb1 hb2, R2, hb1.size⟩
  clear R2 hb1 hb2 HL HN
  generalize w1.heap.size + 1 = rb at *
  generalize w1.heap.size = mb at *
  go_wp2_with fail
  go_loopw [9] (fun z wr => ∃ (k : Nat) (L : List (Int × Nat)), k ≤ n ∧ z = .int .i64 (k : Int) ∧ Hid (GpS w rb mb L wr)) (fun z _ => n - (intOf z).toNat)
  case atStart => exact ⟨0, [], Nat.zero_le _, rfl, HS0.out⟩
  case round =>
    obtain ⟨k, L, hk, rfl, HS⟩ := hrel
    clear HS0
    by_cases hlt : k < n
    · obtain ⟨p, hp⟩ : ∃ p, xs[k]? = some p := ⟨_, List.getElem?_eq_getElem (by rw [HD.out.1]; exact hlt)⟩
      obtain ⟨t, b⟩ := p
      obtain ⟨ht, hb⟩ := HD.out.2.1 _ (List.mem_of_getElem? hp)
      obtain ⟨g, o, rfl, hg, hc⟩ := HD.out.2.2.resolve_left (by omega)
      obtain ⟨q0, q1⟩ := hc k _ hp
      have c0 : wr.cell? ⟨g, o + k * 2, none⟩ = some (.int .i64 t) := (HS.out.bel.cell (p := ⟨g, o + k * 2, none⟩) hg).trans q0
      have c1 : wr.cell? ⟨g, o + k * 2 + 1, none⟩ = some (.int .u64 (b : Int)) := (HS.out.bel.cell (p := ⟨g, o + k * 2 + 1, none⟩) hg).trans q1
      have HTB : Hid (I64 t ∧ b < 18446744073709551616) := ⟨ht, hb⟩
      clear hp ht hb hc q0 q1
      go_wp2_with fail
      refine Calls.mono (ysample t b _) ?_
      rintro e w4 ⟨rfl, hb4⟩
      have HS4 := hid (HS.out.later hb4)
      have HA := hid (yadd_any rb mb L t b w4 HS4.out.own HTB.out.1 HTB.out.2)
      clear hb4 c0 c1
      generalize (addR L t b).1 = z at *
      generalize (addR L t b).2 = L' at *
      go_wp2_with fail
      refine Calls.mono HA.out ?_
      rintro e w5 ⟨rfl, R5, k5⟩
      have HS5 := hid (HS4.out.but k5 R5)
      clear R5 k5 HA HS4
      go_wp2_with fail
      go_roundw
      case rel => exact ⟨k + 1, _, by omega, by go_num, HS5.out⟩
      case measure => simp [intOf]; omega
    · obtain rfl : k = n := by omega
      have hkk : ¬ (k : Int) < (k : Int) := by omega
      clear HD
      go_wp2_with fail
      clear hkk
      by_cases hs : spR x y = 0
      · have hs1 : 0 ≤ x ∧ y ≤ 1048577 ∧ x ≤ y := by
          unfold spR at hs
          by_cases h : x < 0 ∨ 1048577 < y ∨ y < x
          · rw [if_pos h] at hs; cases hs
          · omega
        refine Calls.mono (ygaps_ok rb mb L x y _ HS.out.own HX.out HY.out hs) ?_
        rintro e w6 ⟨v6, rfl, O6, hb6⟩
        obtain ⟨a6, c6, rfl, V6⟩ := yshape O6.out
        have HS6 := hid (HS.out.later hb6)
        have HV6 := hid V6
        clear O6 hb6 V6
        go_wp2_with fail
        refine Calls.mono (ybetween_ok rb mb L x y _ HS6.out.own HX.out HY.out hs) ?_
        rintro e w7 ⟨v7, rfl, O7, hb7⟩
        obtain ⟨a7, c7, rfl, V7⟩ := yshape O7.out
        have HS7 := hid (HS6.out.later hb7)
        have HV7 := hid V7
        replace HV6 := hid (HV6.out.later hb7)
        clear O7 hb7 V7 HS6 HS hs
        obtain ⟨hx0, hy0, hxy⟩ := hs1
        have HQ : Hid ((spanL (onesL L true) x y).Pairwise (fun p q => p.1 < q.1) ∧ (∀ p ∈ spanL (onesL L true) x y, x ≤ p.1 ∧ p.1 < y) ∧ (∀ p ∈ spanL (onesL L true) x y, yatR L p.1 = (p.2, true) ∧ isone p.2 = true ∧ p.2 < 18446744073709551616)) := by
          refine ⟨(HS7.out.own.ok.ones true).rise.filter _, fun p hp => ?_, fun p hp => ?_⟩
          · have := (List.mem_filter.1 hp).2
            simpa using this
          · have h1 := (List.mem_filter.1 hp).1
            have h2 := List.mem_filter.1 h1
            have h3 : isone p.2 = true := by simpa using h2.2
            exact ⟨yat_yes (HS7.out.own.ok.get h2.1) h3, h3, (HS7.out.own.ok.tick p h2.1).2.2⟩
        have HG0 := hid (GpW.start hx0 hxy HQ.out.2.1)
        have hQl : (spanL (onesL L true) x y).length ≤ 4096 := Nat.le_trans (List.length_filter_le _ _) (HS7.out.own.ok.ones true).few
        have hGl := gaps_len (spanL (onesL L true) x y) x y
        generalize spanL (onesL L true) x y = Q at *
        generalize gapsR Q x y = G at *
        go_wp2_with fail
        go_loopw [14, 15, 16] (fun z1 z2 z3 wr => ∃ (at_ : Int) (i k : Nat), z1 = .int .i64 at_ ∧ z2 = .int .i64 (i : Int) ∧ z3 = .int .i64 (k : Int) ∧ Hid (GpW Q G y at_ i k) ∧ Hid (Below w7.heap.size w7 wr)) (fun z1 _ _ _ => (y - intOf z1).toNat)
        case atStart => exact ⟨x, 0, 0, rfl, rfl, rfl, HG0.out, Below.refl _ _⟩
        case round =>
          clear HG0
          obtain ⟨at_, i, kk, rfl, rfl, rfl, HG, HBW⟩ := hrel
          have hlo := HG.out.lo
          have hil := HG.out.il
          have hkl := HG.out.kl
          by_cases hab : at_ < y
          · by_cases hhit : ∃ p, Q[i]? = some p ∧ p.1 = at_
            · obtain ⟨p, hp, he⟩ := hhit
              obtain ⟨t, b⟩ := p
              dsimp only at he
              subst he
              have hiq := (List.getElem?_eq_some_iff.1 hp).1
              have HG2 := hid (HG.out.hit HQ.out.1 hp rfl)
              obtain ⟨h1, h2, h3⟩ := HQ.out.2.2 _ (List.mem_of_getElem? hp)
              have hsm := smC_at hp
              obtain ⟨g, rfl, hg, hc⟩ := HV7.out.get hsm.1
              have c0 : wr.cell? ⟨g, i * 2, none⟩ = some (.int .i64 t) := (HBW.out.cell (p := ⟨g, i * 2, none⟩) hg).trans (hc _ _ hsm.1)
              have c1 : wr.cell? ⟨g, i * 2 + 1, none⟩ = some (.float .f64 b) := (HBW.out.cell (p := ⟨g, i * 2 + 1, none⟩) hg).trans (hc _ _ hsm.2)
              have HAt := hid (yat_any rb mb L t wr (HS7.out.own.later HBW.out) (by unfold I64; omega))
              rw [h1] at HAt
              have HNN := hid (fun V => mIsNaN_any b V)
              have HII := hid (fun V => mIsInf0_any b V h3)
              rw [show isnan b = false by unfold isone at h2; unfold isnan; simp at h2 ⊢; omega] at HNN
              rw [show isinf (b % 9223372036854775808) = false by unfold isone at h2; unfold isinf; simp at h2 ⊢; omega] at HII
              have HSB := hid (fun V => sameBits_eq b V)
              clear hp hsm hc h1 h2 h3
              go_wp2_with fail
              refine Calls.mono HAt.out ?_
              rintro e x1 ⟨rfl, rfl⟩
              go_wp2_with fail
              refine Calls.mono (HSB.out _) ?_
              rintro e x2 ⟨rfl, rfl⟩
              go_wp2_with fail
              refine Calls.mono (HNN.out _) ?_
              rintro e x3 ⟨rfl, rfl⟩
              go_wp2_with fail
              refine Calls.mono (HII.out _) ?_
              rintro e x4 ⟨rfl, rfl⟩
              go_wp2_with fail
              go_roundw
              case rel => exact ⟨t + 1, i + 1, kk, by go_num, by go_num, rfl, HG2.out, HBW.out⟩
              case measure => simp [intOf]; omega
            · obtain ⟨d, hd1, hd2, hkG, hGk, hp1, hp2, hG2⟩ := HG.out.gap HQ.out.1 hab (fun p hp e => hhit ⟨p, hp, e⟩)
              have HG2 := hid hG2
              have hgm := gpC_at hGk
              obtain ⟨g6, rfl, hg6, hc6⟩ := HV6.out.get hgm.1
              have d0 : wr.cell? ⟨g6, kk * 2, none⟩ = some (.int .i64 at_) := (HBW.out.cell (p := ⟨g6, kk * 2, none⟩) hg6).trans (hc6 _ _ hgm.1)
              have d1 : wr.cell? ⟨g6, kk * 2 + 1, none⟩ = some (.int .i64 d) := (HBW.out.cell (p := ⟨g6, kk * 2 + 1, none⟩) hg6).trans (hc6 _ _ hgm.2)
              clear hGk hgm hc6 hG2
              by_cases hiq : i < Q.length
              · obtain ⟨p, hp⟩ : ∃ p, Q[i]? = some p := ⟨_, List.getElem?_eq_getElem hiq⟩
                obtain ⟨t, b⟩ := p
                have ht := hp1 _ hp
                dsimp only at ht
                have hsm := smC_at hp
                obtain ⟨g, rfl, hg, hc⟩ := HV7.out.get hsm.1
                have c0 : wr.cell? ⟨g, i * 2, none⟩ = some (.int .i64 t) := (HBW.out.cell (p := ⟨g, i * 2, none⟩) hg).trans (hc _ _ hsm.1)
                clear hp hsm hc hp1 hp2 hhit
                subst ht
                have hne : ¬ (at_ + d = at_) := by omega
                have hiq2 : (i : Int) < (Q.length : Int) := by omega
                have hkG2 : ¬ (G.length : Int) ≤ (kk : Int) := by omega
                have hd3 : ¬ d < 1 := by omega
                have hd4 : ¬ (at_ + d < at_ + d) := by omega
                have HWR : Hid (IntKind.i64.wrap (at_ + d) = at_ + d) := by show _ = _; rw [IntKind.wrap_i64]; omega
                go_wp2_with fail
                have q1 : ¬ (G.length ≤ kk) := by omega
                have q1i : ¬ ((G.length : Int) ≤ (kk : Int)) := by omega
                have q2 : i < Q.length := by omega
                have q2i : (i : Int) < (Q.length : Int) := by omega
                have q2j : ¬ (Q.length ≤ i) := by omega
                have q2k : ¬ ((Q.length : Int) ≤ (i : Int)) := by omega
                have q3 : ¬ (d < 1) := by omega
                have q4 := HWR.out
                go_quiet (fail)
                clear q4
                go_wp2_with fail
                all_goals first
                  | (exfalso; omega)
                  | (go_roundw
                     case rel => exact ⟨at_ + d, i, kk + 1, rfl, rfl, by go_num, HG2.out, ydrewM HBW.out⟩
                     case measure => simp [intOf]; omega)
              · have hat := hp2 (List.getElem?_eq_none (by omega))
                clear hp1 hp2 hhit
                have hiQ : i = Q.length := by omega
                have hiq2 : ¬ (i : Int) < (Q.length : Int) := by omega
                have hkG2 : ¬ (G.length : Int) ≤ (kk : Int) := by omega
                have hd3 : ¬ d < 1 := by omega
                subst hat
                have hya : ¬ (at_ + d < at_ + d) := by omega
                have hg3 : decide ((i : Int) < (Q.length : Int)) = false := by simp [hiQ]
                have HZ := hid hiQ
                have hg1 : decide ((G.length : Int) ≤ (kk : Int)) = false := by simpa using hkG2
                have hg2 : decide (d < 1) = false := by simpa using hd3
                have hk0 : (0 : Int) ≤ (kk : Int) := by omega
                have hk1 : (kk : Int) < (G.length : Int) := by omega
                clear hiQ hil hiq
                go_wp2_with fail
                have q1 : ¬ (G.length ≤ kk) := by omega
                have q1i : ¬ ((G.length : Int) ≤ (kk : Int)) := by omega
                have q2 : ¬ (i < Q.length) := by have := HZ.out; omega
                have q2i : ¬ ((i : Int) < (Q.length : Int)) := by have := HZ.out; omega
                have q3 : ¬ (d < 1) := by omega
                go_quiet (fail)
                go_wp2_with fail
                all_goals first
                  | (exfalso; omega)
                  | (go_roundw
                     case rel => exact ⟨at_ + d, i, kk + 1, rfl, rfl, by go_num, HG2.out, ydrewM HBW.out⟩
                     case measure => simp [intOf]; omega)
          · obtain ⟨e1, e2, e3⟩ := HG.out.done hab
            subst e1 e2 e3
            have hyy : ¬ at_ < at_ := by omega
            go_wp2_with fail
            go_ret
            exact ⟨rfl, ybt' HS7.out.bel HBW.out⟩
      · have hs2 : ¬ (0 ≤ x ∧ y ≤ 1048577 ∧ x ≤ y) := by
          intro h
          apply hs
          unfold spR
          rw [if_neg (by omega)]
        refine Calls.mono (ygaps_bad rb mb x y _ HS.out.own.box HX.out HY.out hs) ?_
        rintro e w6 ⟨rfl, hb6⟩
        have HS6 := hid (HS.out.later hb6)
        clear hb6
        go_wp2_with fail
        refine Calls.mono (ybetween_bad rb mb x y _ HS6.out.own.box HX.out HY.out hs) ?_
        rintro e w7 ⟨rfl, hb7⟩
        have HS7 := hid (HS6.out.later hb7)
        clear hb7 HS6 HS hs
        by_cases h1 : 0 ≤ x
        · by_cases h2 : y ≤ 1048577
          · have h3 : ¬ x ≤ y := by omega
            go_wp2_with fail
            all_goals (go_ret; exact ⟨rfl, HS7.out.bel⟩)
          · go_wp2_with fail
            all_goals (go_ret; exact ⟨rfl, HS7.out.bel⟩)
        · go_wp2_with fail
          all_goals (go_ret; exact ⟨rfl, HS7.out.bel⟩)
end Go.Proofs.Ytbbmdpkccdcacaa

/- The law RecordGaps of every list that came in. -/
namespace Go.Proofs.Ytbbmdpkccdcacaa
open Go.RowKit

theorem recordGaps_in (a : Option Addr) (n cap : Nat) (xs : List (Int × Nat)) (x y : Int) (w : World) (h : (a = none → n = 0 ∧ cap = 0) ∧ n ≤ cap ∧ cap ≤ maxLen ∧ RdB w a n xs) (hx : I64 x) (hy : I64 y) :
    Calls Try.prog 7 #[.slice a n cap, .int .i64 x, .int .i64 y] w fun e w' => e = .returned (.bool true) ∧ Below w.heap.size w w' := by
  by_cases hn : n ≤ 500
  · exact recordGaps_go a n cap xs x y w hn h.2.2.2 hx hy
  · exact recordGaps_long a n cap x y w (by omega) (by have := h.2.1; have := h.2.2.1; unfold maxLen at *; omega)
end Go.Proofs.Ytbbmdpkccdcacaa

