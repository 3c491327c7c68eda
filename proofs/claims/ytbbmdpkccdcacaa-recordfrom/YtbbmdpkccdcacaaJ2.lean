/- My texts on the way to RecordFrom, one behind the other: contracts of the program and of the document's answers. -/
import Derived.Test.YtbbmdpkccdcacaaJ1
import Derived.Test.YtbbmdpkccdcacaaShelf
import Derived.Sort.OwnSortedInts
import Derived.Maps.AppendAt
import Derived.Deep.Cut
import Derived.RangeFuncNested
import Derived.RangeFuncBound
import Derived.RangeFuncCalls
import Derived.RangeFuncLeaves
import Derived.RangeFuncFrom
import Derived.Shelf.Abstract
import Derived.Shelf.RegionOpen
import Derived.OwnWalkIn
import Derived.TacticsInMore
import Derived.LoopNIn
import Derived.LoopIn
import Derived.Deep.RegionHeld3
import Derived.Stop.RegionWithIn
import Derived.ChangeKeysEq
import Derived.Laws.StructEq
import Derived.Laws.AppendOwn
import Derived.Laws.AppendOwnNone
import Derived.Deep.RegionLaw
/- package record: Len, Lost, Samples, of every record. -/
namespace Go.Proofs.Ytbbmdpkccdcacaa
open Go.RowKit
set_option linter.unusedVariables false
set_option linter.unusedSimpArgs false

theorem Try.yinfoS : (Try.prog.info? 40).map (fun i => (i.zero, i.size, i.bytes)) = some (some (.agg #[.int .i64 0, .float .f64 0]), 2, 16) := by kernel_rfl
/-- What the call owns stays, while nothing that stood is written. -/
theorem yowns_later {w w' : World} {base e s : Nat} {v : Value} {n : Nat} {xs : List Value} (h : w.ownsRow base e s v n xs) (hb : Below w.heap.size w w') : w'.ownsRow base e s v n xs := by
  refine ⟨h.1, h.2.imp id ?_⟩
  rintro ⟨g, cap, cur, rfl, h1, h2, r⟩
  exact ⟨g, cap, cur, rfl, h1, (hb.block g (Array.getElem?_eq_some_iff.1 h2).1).trans h2, r⟩
theorem yowns_base {w : World} {base base' e s : Nat} {v : Value} {n : Nat} {xs : List Value} (h : w.ownsRow base e s v n xs) (hb : base' ≤ base) : w.ownsRow base' e s v n xs := by
  refine ⟨h.1, h.2.imp id ?_⟩
  rintro ⟨g, cap, cur, rfl, h1, r⟩
  exact ⟨g, cap, cur, rfl, by omega, r⟩
/-- A slice that is read as these cells. -/
def RdV (w : World) (a : Option Addr) (xs : List Value) : Prop := xs = [] ∨ ∃ g, a = some ⟨g, 0, none⟩ ∧ g < w.heap.size ∧ ∀ j u, xs[j]? = some u → w.cell? ⟨g, j, none⟩ = some u
theorem RdV.later {w w' : World} {a : Option Addr} {xs : List Value} (h : RdV w a xs) (hb : Below w.heap.size w w') : RdV w' a xs := by
  rcases h with h | ⟨g, ha, hg, hc⟩
  · exact .inl h
  · exact .inr ⟨g, ha, Nat.lt_of_lt_of_le hg hb.size, fun j u hj => (hb.cell (p := ⟨g, j, none⟩) hg).trans (hc j u hj)⟩
theorem yshape {w : World} {base e s : Nat} {v : Value} {n : Nat} {xs : List Value} (h : w.ownsRow base e s v n xs) : ∃ a cap, v = .slice a n cap ∧ RdV w a xs := by
  rcases h.2 with ⟨h1, h0⟩ | ⟨g, cap, cur, hv, h1, h2, h3, h4, h5, h6⟩
  · subst h0
    exact ⟨_, _, h1, .inl (List.length_eq_zero_iff.1 (by rw [h.1]; simp))⟩
  · refine ⟨_, _, hv, .inr ⟨g, rfl, (Array.getElem?_eq_some_iff.1 h2).1, fun j u hj => ?_⟩⟩
    have q := h.cells (g := g) (by rw [hv]; rfl) j u hj
    unfold Addr.add at q
    split at q
    · rename_i hj0
      have hj0 : j = 0 := by simpa using hj0
      rw [hj0]
      exact q
    · simpa using q
theorem ysort_any (base : Nat) (v : Value) (ks : List Int) (w : World) (h : w.ownsRow base 3 1 v ks.length (ks.map (Value.int .i64))) (hl : ks.length ≤ 4096) (hbs : base ≤ w.heap.size) :
    Calls Try.prog 42 #[v] w fun e w' => e = .returned (.tuple #[]) ∧ Hid (w'.ownsRow base 3 1 v ks.length ((ks.mergeSort (fun x y => decide (x ≤ y))).map (Value.int .i64))) ∧ Below base w w' := by
  rcases h.2 with ⟨rfl, h0⟩ | ⟨g, cap, cur, rfl, h1, h2, h3, h4, h5, h6⟩
  · obtain rfl : ks = [] := List.length_eq_zero_iff.1 h0
    refine Calls.mono (Try.slices_Sort_int_none none 0 w) ?_
    rintro e w' ⟨rfl, rfl⟩
    refine ⟨rfl, ?_, Below.refl _ _⟩
    rw [List.mergeSort_nil]
    exact World.ownsRow_nil _ _ _ _
  · refine Calls.mono (Try.slices_Sort_int g 0 cap ks w (holds_of_blockI h2 (by rw [Nat.mul_one] at h6; exact h6)) (Array.getElem?_eq_some_iff.1 h2).1 (by omega)) ?_
    rintro e w' ⟨rfl, n, os, rfl⟩
    exact ⟨rfl, ownsRow_sortedI (List.length_mergeSort ks) h1 h2 h3 h4 h5, (Below.refl _ _).grown (grownBy_sortedI _) hbs (fun k e => by cases e; exact h1)⟩
theorem ylen_any (rb mb : Nat) (L : List (Int × Nat)) (w : World) (h : RecAt w rb mb L) :
    Calls Try.prog 25 #[.pointer (some ⟨rb, 0, none⟩)] w fun e w' => e = .returned (.int .i64 ((onesL L true).length : Int)) ∧ Below w.heap.size w w' := by
  have HT := hid (yticks_any rb mb L true w h)
  clear h
  go_enter Try.func25, Try.ntmps25
  go_wp2_with fail
  refine Calls.mono HT.out ?_
  rintro e w1 ⟨v, ks, rfl, HO, HK, HL, hb⟩
  obtain ⟨a, cap, rfl, HV⟩ := yshape HO.out
  have HE : Hid (ks.length = (onesL L true).length) := by
    have := congrArg List.length HK.out
    rw [List.length_mergeSort, List.length_map] at this
    exact this
  have HB := hid hb
  clear HT HO HV HK HL hb
  go_wp2_with fail
  go_ret
  exact ⟨by rw [HE.out]; rfl, HB.out⟩
theorem ylost_any (rb mb : Nat) (L : List (Int × Nat)) (w : World) (h : RecAt w rb mb L) :
    Calls Try.prog 20 #[.pointer (some ⟨rb, 0, none⟩)] w fun e w' => ∃ v : Value, e = .returned v ∧ Hid (w'.ownsRow w.heap.size 3 1 v (onesL L false).length (((onesL L false).map (·.1)).map (Value.int .i64))) ∧ Below w.heap.size w w' := by
  have HT := hid (yticks_any rb mb L false w h)
  clear h
  go_enter Try.func20, Try.ntmps20
  go_wp2_with fail
  refine Calls.mono HT.out ?_
  rintro e w1 ⟨v, ks, rfl, HO, HK, HL, hb⟩
  have HE : Hid (ks.length = (onesL L false).length) := by
    have := congrArg List.length HK.out
    rw [List.length_mergeSort, List.length_map] at this
    exact this
  have HB := hid hb
  have HS := hid (ysort_any w.heap.size v ks w1 HO.out HL.out HB.out.size)
  rw [HK.out] at HS
  clear HT HO HL hb
  go_wp2_with fail
  refine Calls.mono HS.out ?_
  rintro e w2 ⟨rfl, HO2, hb2⟩
  have HB2 := hid (HB.out.trans hb2)
  rw [HE.out] at HO2
  clear HS HB hb2 HK HE
  go_wp2_with fail
  go_ret
  exact ⟨_, rfl, HO2, HB2.out⟩
/-- The cells of samples. -/
def smC (M : List (Int × Nat)) : List Value := M.flatMap fun p => [.int .i64 p.1, .float .f64 p.2]
theorem smC_append (M N : List (Int × Nat)) : smC (M ++ N) = smC M ++ smC N := by unfold smC; rw [List.flatMap_append]
theorem smC_len (M : List (Int × Nat)) : (smC M).length = M.length * 2 := by
  induction M with
  | nil => rfl
  | cons p M ih => unfold smC at *; rw [List.flatMap_cons, List.length_append, ih, List.length_cons]; simp; omega
theorem smC_take {M : List (Int × Nat)} {k : Nat} {p : Int × Nat} (h : M[k]? = some p) : smC (M.take (k + 1)) = smC (M.take k) ++ [.int .i64 p.1, .float .f64 p.2] := by
  rw [List.take_add_one, h, smC_append]
  rfl
theorem smC_at {M : List (Int × Nat)} : ∀ {k : Nat} {p : Int × Nat}, M[k]? = some p → (smC M)[k * 2]? = some (.int .i64 p.1) ∧ (smC M)[k * 2 + 1]? = some (.float .f64 p.2) := by
  induction M with
  | nil => intro k p h; simp at h
  | cons q M ih =>
    intro k p h
    have e : smC (q :: M) = .int .i64 q.1 :: .float .f64 q.2 :: smC M := rfl
    rw [e]
    cases k with
    | zero => simp at h; subst h; exact ⟨rfl, rfl⟩
    | succ k =>
      have := ih (k := k) (p := p) (by simpa using h)
      rw [show (k + 1) * 2 = k * 2 + 1 + 1 by omega, show k * 2 + 1 + 1 + 1 = (k * 2 + 1) + 1 + 1 by omega]
      exact this
theorem smC_one (p : Int × Nat) : ∀ u ∈ [Value.int .i64 p.1, .float .f64 p.2], u.oneCell' = true := by
  intro u hu
  simp only [List.mem_cons, List.not_mem_nil, or_false] at hu
  rcases hu with rfl | rfl <;> rfl
theorem ycell2 (w : World) (x y : Value) (t : TypeId) : ∀ j u, [x, y][j]? = some u → (w.alloc (.cells #[x, y] t)).cell? ((⟨w.heap.size, 0, none⟩ : Addr).add j) = some u := by
  intro j u hj
  match j, hj with
  | 0, hj => simp at hj; subst hj; simp [Addr.add]
  | 1, hj => simp at hj; subst hj; simp [Addr.add]
  | n + 2, hj => simp at hj
set_option maxHeartbeats 3200000 in
set_option maxRecDepth 100000 in
theorem ysamples_any (rb mb : Nat) (L : List (Int × Nat)) (w : World) (h : RecAt w rb mb L) :
    Calls Try.prog 17 #[.pointer (some ⟨rb, 0, none⟩)] w fun e w' => ∃ v : Value, e = .returned v ∧ Hid (w'.ownsRow w.heap.size 40 2 v (onesL L true).length (smC (onesL L true))) ∧ Below w.heap.size w w' := by
  have HT := hid (yticks_any rb mb L true w h)
  have HR := hid h
  obtain ⟨i0, hi, hz0, hz1, hz2⟩ := info_parts Try.yinfoS
  have HM : Hid (∀ p ∈ onesL L true, rget L p.1 = some p.2 ∧ I64 p.1) := fun p hp => by
    have q := (List.mem_filter.1 hp).1
    have := h.ok.tick p q
    exact ⟨h.ok.get q, by unfold I64; omega⟩
  have hn4 := (h.ok.ones true).few
  clear h
  generalize onesL L true = M at *
  go_enter Try.func17, Try.ntmps17
  go_wp2_with fail
  refine Calls.mono HT.out ?_
  rintro e w1 ⟨v, ks, rfl, HO, HK, HL, hb⟩
  have HE : Hid (ks.length = M.length) := by
    have := congrArg List.length HK.out
    rw [List.length_mergeSort, List.length_map] at this
    exact this
  have HB := hid hb
  have HS := hid (ysort_any w.heap.size v ks w1 HO.out HL.out HB.out.size)
  rw [HK.out] at HS
  clear HT HO HL hb
  go_wp2_with fail
  refine Calls.mono HS.out ?_
  rintro e w2 ⟨rfl, HO2, hb2⟩
  have HB2 := hid (HB.out.trans hb2)
  rw [HE.out] at HO2
  obtain ⟨a, cap, rfl, HV⟩ := yshape HO2.out
  have HVH := hid HV
  clear HS HB hb2 HK HE HO2 HV
  go_wp2_with fail
  go_loopw [4, 13] (fun v x wr => ∃ k : Nat, k ≤ M.length ∧ x = .int .i64 (k : Int) ∧ Hid (wr.ownsRow w2.heap.size 40 2 v k (smC (M.take k))) ∧ Hid (Below w2.heap.size w2 wr)) (fun _ x _ => M.length - (intOf x).toNat)
  case atStart => exact ⟨0, Nat.zero_le _, rfl, World.ownsRow_nil _ _ _ _, Below.refl _ _⟩
  case round =>
    obtain ⟨k, hk, rfl, HO, HBW⟩ := hrel
    by_cases hlt : k < M.length
    · obtain ⟨p, hp⟩ : ∃ p, M[k]? = some p := ⟨_, List.getElem?_eq_getElem hlt⟩
      obtain ⟨t, b⟩ := p
      have HP := hid hp
      have hmem : (t, b) ∈ M := List.mem_of_getElem? hp
      have HG := HM.out _ hmem
      have ho := HO.out
      have hb := HBW.out
      have hsz := hb.size
      have HRW := hid (HR.out.later (HB2.out.trans (hb.mono HB2.out.size)))
      have hl : (Instr.lookup 59 (.map (some mb)) (.int .i64 t) false).run Try.prog wr = .ok (.float .f64 b) wr := by
        have q := ylook HRW.out.own HG.2 false
        rw [HG.1] at q
        exact q
      have c0 : wr.cell? ⟨rb, 0, none⟩ = some (.map (some mb)) := HRW.out.box.cell 0
      obtain ⟨g, rfl, hg, hc⟩ : ∃ g, a = some ⟨g, 0, none⟩ ∧ g < w2.heap.size ∧ ∀ j u, ((M.map (·.1)).map (Value.int .i64))[j]? = some u → w2.cell? ⟨g, j, none⟩ = some u := by
        rcases HVH.out with q | q
        · have := congrArg List.length q
          simp at this
          rw [this] at hlt
          simp at hlt
        · exact q
      have c1 : wr.cell? ⟨g, k, none⟩ = some (.int .i64 t) := (hb.cell (p := ⟨g, k, none⟩) hg).trans (hc k _ (by simp [hp]))
      have HS := hid (smC_take hp)
      clear HO HBW hp hmem HG hc
      generalize smC (M.take k) = R at *
      go_wp2_with (first
        | (at_builtin; refine wpList_append_own _ rfl _ _ 37 rfl w2.heap.size 40 i0 (.agg #[.int .i64 0, .float .f64 0]) 2 16 Try.underlying37 hi hz0 hz1 hz2 rfl (by decide) _ _ _ rfl (ho.alloc _) ⟨wr.heap.size, 0, none⟩ 1 1 [.int .i64 t, .float .f64 b] rfl rfl (ycell2 _ _ _ _) (smC_one (t, b)) (by unfold maxLen; omega) (by omega) (by simp; omega) ?_; intro v' w4 ho2 hg2 _)
        | go_in)
      have hb3 : Below w2.heap.size w2 w4 := (hb.alloc (by omega) _).grown hg2 (by simp; omega) (fun g hg => (ho.lt g hg).1)
      have HB3 := hid hb3
      have HO2 := hid ho2
      clear hg2 hl hb3 ho2
      go_wp2_with fail
      go_roundw
      case rel => exact ⟨k + 1, by omega, by go_num, by rw [HS.out]; exact HO2.out, HB3.out⟩
      case measure => simp [intOf]; omega
    · obtain rfl : k = M.length := by omega
      have hg2 : decide (((M.length : Nat) : Int) < ((M.length : Nat) : Int)) = false := by simp
      have HE : Hid (smC (M.take M.length) = smC M) := by rw [List.take_length]; rfl
      go_wp2_with fail
      all_goals first | (exfalso; omega) | (go_ret; exact ⟨_, rfl, yowns_base (HE.out ▸ HO.out) HB2.out.size, HB2.out.trans (HBW.out.mono HB2.out.size)⟩)
end Go.Proofs.Ytbbmdpkccdcacaa

/- package record: At, lookAt, appendGap, All. -/
namespace Go.Proofs.Ytbbmdpkccdcacaa
open Go.RowKit
set_option linter.unusedVariables false
set_option linter.unusedSimpArgs false

/-- What At tells. -/
def yatR (L : List (Int × Nat)) (t : Int) : Nat × Bool := match rget L t with
  | none => (0, false)
  | some b => if isone b then (b, true) else (0, false)
theorem rget_has {L : List (Int × Nat)} {t : Int} : (rget L t).isSome = rhas L t := by
  unfold rget rhas
  rw [Option.isSome_map]
  induction L with
  | nil => rfl
  | cons y r ih =>
    rw [List.find?_cons, List.any_cons]
    cases h : (y.1 == t)
    · exact ih
    · rfl
theorem rget_mem {L : List (Int × Nat)} {t : Int} {b : Nat} (h : rget L t = some b) : (t, b) ∈ L := by
  unfold rget at h
  cases hf : L.find? (fun p => p.1 == t) with
  | none => rw [hf] at h; cases h
  | some p =>
    rw [hf] at h
    have e2 : p.2 = b := by simpa using h
    have e3 : p.1 = t := by simpa using List.find?_some hf
    have := List.mem_of_find?_eq_some hf
    rw [← e2, ← e3]
    exact this
theorem yat_none {L : List (Int × Nat)} {t : Int} (h : rget L t = none) : yatR L t = (0, false) := by unfold yatR; rw [h]
theorem yat_not {L : List (Int × Nat)} {t : Int} {b : Nat} (h : rget L t = some b) (o : isone b = false) : yatR L t = (0, false) := by unfold yatR; rw [h]; simp [o]
theorem yat_yes {L : List (Int × Nat)} {t : Int} {b : Nat} (h : rget L t = some b) (o : isone b = true) : yatR L t = (b, true) := by unfold yatR; rw [h]; simp [o]
set_option maxHeartbeats 1600000 in
set_option maxRecDepth 100000 in
theorem yat_any (rb mb : Nat) (L : List (Int × Nat)) (t : Int) (w : World) (h : RecAt w rb mb L) (ht : I64 t) :
    Calls Try.prog 29 #[.pointer (some ⟨rb, 0, none⟩), .int .i64 t] w fun e w' => e = .returned (.tuple #[.float .f64 (yatR L t).1, .bool (yatR L t).2]) ∧ w' = w := by
  have HM := hid (ymade_any rb mb w h.box)
  have hl : (Instr.lookup 59 (.map (some mb)) (.int .i64 t) true).run Try.prog w = .ok (.tuple #[.float .f64 ((rget L t).getD 0), .bool (rhas L t)]) w := ylook h.own ht true
  have c0 : w.cell? ⟨rb, 0, none⟩ = some (.map (some mb)) := h.box.cell 0
  rw [← rget_has] at hl
  have HT : Hid (∀ b, rget L t = some b → b < 18446744073709551616) := fun b hb => (h.ok.tick _ (rget_mem hb)).2.2
  clear h ht
  cases hg : rget L t with
  | none =>
    rw [hg] at hl
    have HE : Hid (yatR L t = (0, false)) := yat_none hg
    clear HT hg
    go_enter Try.func29, Try.ntmps29
    go_wp2_with fail
    refine Calls.mono HM.out ?_
    rintro e w1 ⟨rfl, rfl⟩
    go_wp2_with fail
    go_ret2
    rw [HE.out]
    exact ⟨rfl, rfl⟩
  | some b =>
    rw [hg] at hl
    have HI := hid (yisone_any b w (HT.out b hg))
    cases ho : isone b
    · have HE : Hid (yatR L t = (0, false)) := yat_not hg ho
      rw [ho] at HI
      clear HT hg ho
      go_enter Try.func29, Try.ntmps29
      go_wp2_with fail
      refine Calls.mono HM.out ?_
      rintro e w1 ⟨rfl, rfl⟩
      go_wp2_with fail
      refine Calls.mono HI.out ?_
      rintro e w1 ⟨rfl, rfl⟩
      go_wp2_with fail
      go_ret2
      rw [HE.out]
      exact ⟨rfl, rfl⟩
    · have HE : Hid (yatR L t = (b, true)) := yat_yes hg ho
      rw [ho] at HI
      clear HT hg ho
      go_enter Try.func29, Try.ntmps29
      go_wp2_with fail
      refine Calls.mono HM.out ?_
      rintro e w1 ⟨rfl, rfl⟩
      go_wp2_with fail
      refine Calls.mono HI.out ?_
      rintro e w1 ⟨rfl, rfl⟩
      go_wp2_with fail
      go_ret2
      rw [HE.out]
      exact ⟨rfl, rfl⟩
/-- What lookAt tells of a record that was made. -/
def spR (a b : Int) : Int := if a < 0 ∨ 1048577 < b ∨ b < a then 2 else 0
theorem ylook_at (rb mb : Nat) (a b : Int) (w : World) (h : FBox w rb 61 #[.map (some mb)]) (ha : I64 a) (hb : I64 b) :
    Calls Try.prog 50 #[.pointer (some ⟨rb, 0, none⟩), .int .i64 a, .int .i64 b] w fun e w' => e = .returned (.int .i64 (spR a b)) ∧ w' = w := by
  have HM := hid (ymade_any rb mb w h)
  have HC := hid (ckspn_any a b w ha hb)
  clear h ha hb
  by_cases h1 : a < 0 ∨ 1048577 < b ∨ b < a
  · have e1 : spnR a b = 2 := if_pos h1
    have HE : Hid (spR a b = 2) := if_pos h1
    rw [e1] at HC
    clear e1 h1
    go_enter Try.func50, Try.ntmps50
    go_wp2_with fail
    refine Calls.mono HM.out ?_
    rintro e w1 ⟨rfl, rfl⟩
    go_wp2_with fail
    refine Calls.mono HC.out ?_
    rintro e w1 ⟨rfl, rfl⟩
    go_wp2_with fail
    go_ret
    rw [HE.out]
    exact ⟨rfl, rfl⟩
  · have HE : Hid (spR a b = 0) := if_neg h1
    by_cases h2 : 4096 < b - a
    · have e1 : spnR a b = 3 := by unfold spnR; rw [if_neg h1, if_pos h2]
      rw [e1] at HC
      clear e1 h1 h2
      go_enter Try.func50, Try.ntmps50
      go_wp2_with fail
      refine Calls.mono HM.out ?_
      rintro e w1 ⟨rfl, rfl⟩
      go_wp2_with fail
      refine Calls.mono HC.out ?_
      rintro e w1 ⟨rfl, rfl⟩
      go_wp2_with fail
      go_ret
      rw [HE.out]
      exact ⟨rfl, rfl⟩
    · have e1 : spnR a b = 0 := by unfold spnR; rw [if_neg h1, if_neg h2]
      rw [e1] at HC
      clear e1 h1 h2
      go_enter Try.func50, Try.ntmps50
      go_wp2_with fail
      refine Calls.mono HM.out ?_
      rintro e w1 ⟨rfl, rfl⟩
      go_wp2_with fail
      refine Calls.mono HC.out ?_
      rintro e w1 ⟨rfl, rfl⟩
      go_wp2_with fail
      go_ret
      rw [HE.out]
      exact ⟨rfl, rfl⟩
theorem Try.yinfoG : (Try.prog.info? 76).map (fun i => (i.zero, i.size, i.bytes)) = some (some (.agg #[.int .i64 0, .int .i64 0]), 2, 16) := by kernel_rfl
/-- The cells of gaps. -/
def gpC (G : List (Int × Int)) : List Value := G.flatMap fun p => [.int .i64 p.1, .int .i64 p.2]
theorem gpC_append (M N : List (Int × Int)) : gpC (M ++ N) = gpC M ++ gpC N := by unfold gpC; rw [List.flatMap_append]
/-- One gap more, where there is one. -/
def gapR (G : List (Int × Int)) (a b : Int) : List (Int × Int) := if b ≤ a then G else G ++ [(a, b - a)]
theorem ygap_any (base : Nat) (v : Value) (G : List (Int × Int)) (a b : Int) (w : World) (h : w.ownsRow base 76 2 v G.length (gpC G)) (hl : G.length ≤ 100000) (hbs : base ≤ w.heap.size) (ha : 0 ≤ a ∧ a ≤ 2000000) (hb : 0 ≤ b ∧ b ≤ 2000000) :
    Calls Try.prog 49 #[v, .int .i64 a, .int .i64 b] w fun e w' => ∃ v' : Value, e = .returned v' ∧ Hid (w'.ownsRow base 76 2 v' (gapR G a b).length (gpC (gapR G a b))) ∧ Below base w w' ∧ w.grownBy w' v.ownBlock := by
  obtain ⟨i0, hi, hz0, hz1, hz2⟩ := info_parts Try.yinfoG
  by_cases hab : b ≤ a
  · have HE : Hid (gapR G a b = G) := if_pos hab
    have HO := hid h
    clear h
    go_enter Try.func49, Try.ntmps49
    go_wp2_with fail
    all_goals first | (exfalso; omega) | skip
    go_ret
    rw [HE.out]
    exact ⟨_, rfl, HO.out, Below.refl _ _, ⟨rfl, rfl, rfl, Nat.le_refl _, fun _ _ _ => rfl⟩⟩
  · have HE : Hid (gapR G a b = G ++ [(a, b - a)]) := if_neg hab
    have hw : IntKind.i64.wrap (b - a) = b - a := by rw [IntKind.wrap_i64]; omega
    go_enter Try.func49, Try.ntmps49
    go_wp2_with (first
      | (at_builtin; refine wpList_append_own _ rfl _ _ 66 rfl base 76 i0 (.agg #[.int .i64 0, .int .i64 0]) 2 16 Try.underlying66 hi hz0 hz1 hz2 rfl (by decide) _ _ _ rfl (h.alloc _) ⟨w.heap.size, 0, none⟩ 1 1 [.int .i64 a, .int .i64 (b - a)] rfl rfl (ycell2 _ _ _ _) (by intro u hu; simp only [List.mem_cons, List.not_mem_nil, or_false] at hu; rcases hu with rfl | rfl <;> rfl) (by unfold maxLen; omega) (by omega) (by simp; omega) ?_; intro v' w4 ho2 hg2 _)
      | go_in)
    all_goals first | (exfalso; omega) | skip
    go_wp2_with fail
    go_ret
    rw [HE.out]
    refine ⟨_, rfl, ?_, ((Below.refl _ w).alloc hbs _).grown hg2 (by simp; omega) (fun g hg => (h.lt g hg).1), (World.grownBy_alloc _ _ _).trans hg2⟩
    rw [gpC_append, List.length_append]
    exact ho2
end Go.Proofs.Ytbbmdpkccdcacaa

/- package record: All, and the going over of its samples. -/
namespace Go.Proofs.Ytbbmdpkccdcacaa
open Go.RowKit Go.Shelf
set_option linter.unusedVariables false
set_option linter.unusedSimpArgs false
attribute [local go_sem] Oper.semAt_some

theorem ybt {a b c : World} (h : Below a.heap.size a b) (g : Below b.heap.size b c) : Below a.heap.size a c := h.trans (g.mono h.size)
theorem yown_put {w : World} {base e s b t : Nat} {v : Value} {n : Nat} {xs : List Value} {vs : Array Value} (h : w.ownsRow base e s v n xs) (hb : FBox w b t vs) (ht : e ≠ t) (j : Nat) (u : Value) : (w.setCell ⟨b, j, none⟩ u).ownsRow base e s v n xs := by
  refine ⟨h.1, h.2.imp id ?_⟩
  rintro ⟨g, cap, cur, rfl, h1, h2, r⟩
  refine ⟨g, cap, cur, rfl, h1, ?_, r⟩
  rw [Below.heap_setCell]
  · exact h2
  · rintro rfl
    unfold FBox at hb
    rw [h2] at hb
    injection hb with hb
    injection hb with _ hb
    exact ht hb
set_option maxHeartbeats 1600000 in
set_option maxRecDepth 100000 in
theorem yall_any (rb mb : Nat) (L : List (Int × Nat)) (w : World) (h : RecAt w rb mb L) :
    Calls Try.prog 39 #[.pointer (some ⟨rb, 0, none⟩)] w fun e w' => ∃ (p : Nat) (v : Value), e = .returned (.func (.func 58) #[] #[.pointer (some ⟨p, 0, none⟩)]) ∧ Hid (FBox w' p 37 #[v]) ∧ Hid (w'.ownsRow w.heap.size 40 2 v (onesL L true).length (smC (onesL L true))) ∧ Hid (w.heap.size ≤ p) ∧ Below w.heap.size w w' := by
  have HS := hid (ysamples_any rb mb L w h)
  clear h
  generalize onesL L true = M at *
  go_enter Try.func39, Try.ntmps39
  go_wp2_with fail
  refine Calls.mono HS.out ?_
  rintro e w1 ⟨v, rfl, HO, hb⟩
  obtain ⟨a, cap, rfl, HV⟩ := yshape HO.out
  obtain ⟨Y, hY⟩ : ∃ Y, w1.alloc (.cells #[.slice none 0 0] 37) = Y := ⟨_, rfl⟩
  have HN : Hid (FBox Y w1.heap.size 37 #[.slice none 0 0]) := by rw [← hY]; exact FBox.made _ _ _
  have HBY : Hid (Below w1.heap.size w1 Y) := by rw [← hY]; exact (Below.refl _ _).alloc (Nat.le_refl _) _
  have c0 : Y.cell? ⟨w1.heap.size, 0, none⟩ = some (.slice none 0 0) := HN.out.cell 0
  have f0 : Y.frozen? ⟨w1.heap.size, 0, none⟩ = false := HN.out.free 0
  have HB := hid hb
  clear hb HV HS
  go_wp2_with fail
  go_ret
  have q1 := HN.out.set 0 (.slice a M.length cap)
  refine ⟨w1.heap.size, _, rfl, q1, ?_, HB.out.size, ?_⟩
  · have o1 := yowns_later HO.out HBY.out
    exact yown_put o1 HN.out (by decide) _ _
  · exact ybt HB.out (HBY.out.setCell (p := ⟨w1.heap.size, 0, none⟩) (Nat.le_refl _) _)
theorem ybox2 (w : World) (t : Nat) (x y u v : Value) : ∃ Y A0 A1, w.alloc (.cells #[x, y] t) = Y ∧ Y.setCell ⟨w.heap.size, 0, none⟩ u = A0 ∧ A0.setCell ⟨w.heap.size, 1, none⟩ v = A1 ∧ (Y.cell? ⟨w.heap.size, 0, none⟩ = some x ∧ A0.cell? ⟨w.heap.size, 1, none⟩ = some y) ∧ (Y.frozen? ⟨w.heap.size, 0, none⟩ = false ∧ A0.frozen? ⟨w.heap.size, 1, none⟩ = false) ∧ (A1.cell? ⟨w.heap.size, 0, none⟩ = some u ∧ A1.cell? ⟨w.heap.size, 1, none⟩ = some v) ∧ Hid (FBox A1 w.heap.size t #[u, v] ∧ Below w.heap.size w A1) := by
  have h0 := FBox.made w t #[x, y]
  have h1 := h0.set 0 u
  have h2 := h1.set 1 v
  exact ⟨_, _, _, rfl, rfl, rfl, ⟨h0.cell 0, h1.cell 1⟩, ⟨h0.free 0, h1.free 1⟩, ⟨h2.cell 0, h2.cell 1⟩, h2, ((((Below.refl _ w).alloc (Nat.le_refl _) _).setCell (p := ⟨w.heap.size, 0, none⟩) (Nat.le_refl _) _).setCell (p := ⟨w.heap.size, 1, none⟩) (Nat.le_refl _) _)⟩
theorem grownBy_of_below {w w' : World} (h : Below w.heap.size w w') : w.grownBy w' none := ⟨h.os, h.tape, h.output, h.size, fun k hk _ => h.block k hk⟩
theorem yfin_succ (m k : Nat) (hk : k < m) : (List.finRange m).take (k + 1) = (List.finRange m).take k ++ [(⟨k, hk⟩ : _root_.Fin m)] := by
  rw [List.take_add_one, List.getElem?_eq_getElem (by simpa using hk)]
  simp
/-- The going over of the samples, whatever is done with them. -/
theorem yall1_stops (F : Fence) (n : Nat) (h6 : F.fn 58) (hro : F.round = none) (hn : 1 ≤ n) (p : Nat) (a : Option Addr) (cap : Nat) (M : List (Int × Nat)) (w : World) (Kp : World → World → Prop) (hKc : ∀ A B : World, Kp A B → ∀ g, a = some ⟨g, 0, none⟩ → B.heap[g]? = A.heap[g]?) (hp : p < w.heap.size) (c1 : w.cell? ⟨p, 0, none⟩ = some (.slice a M.length cap)) (hv : RdV w a (smC M)) (hM : M.length ≤ 4096) :
    SeqStopsK F n Try.prog 58 #[.pointer (some ⟨p, 0, none⟩)] (fun x : _root_.Fin M.length => #[.int .i64 (M[x.val]).1, .float .f64 (M[x.val]).2]) Kp (fun xs => xs = List.finRange M.length) (fun pre => ∃ k, k ≤ M.length ∧ pre = (List.finRange M.length).take k) M.length w := fun l J Jx W hW hJ hJx hY h0 => by
  refine callsIn_of_wp Try.func58 rfl h6 ?_ hro
  simp only [Try.ntmps58, List.size_toArray, List.length_cons, List.length_nil, Nat.reduceAdd, Nat.reduceSub, Array.replicate_succ, Array.replicate_zero, List.push_toArray, List.append_toArray, List.nil_append, List.cons_append]
  have d1 : W.cell? ⟨p, 0, none⟩ = some (.slice a M.length cap) := (hW.cell (p := ⟨p, 0, none⟩) (show p < _ by omega)).trans c1
  have HV : Hid (∀ g, a = some ⟨g, 0, none⟩ → 0 < M.length → W.heap[g]? = w.heap[g]?) := fun g hg h0 => by
    rcases hv with q | ⟨g', e, hl, _⟩
    · have := congrArg List.length q
      rw [smC_len, List.length_nil] at this
      omega
    · rw [hg] at e
      injection e with e
      injection e with e
      subst e
      exact hW.block g hl
  have HC : Hid (∀ k, ∀ hk : k < M.length, ∃ g, a = some ⟨g, 0, none⟩ ∧ w.cell? ⟨g, k * 2, none⟩ = some (.int .i64 (M[k]).1) ∧ w.cell? ⟨g, k * 2 + 1, none⟩ = some (.float .f64 (M[k]).2)) := fun k hk => by
    rcases hv with q | ⟨g, e, hl, hc⟩
    · have := congrArg List.length q
      rw [smC_len, List.length_nil] at this
      omega
    · have q := smC_at (List.getElem?_eq_getElem hk)
      exact ⟨g, e, hc _ _ q.1, hc _ _ q.2⟩
  have HY := hid hY
  have HK := hid hKc
  clear hY c1 hv hKc
  have hJ0 : Hid (J ((List.finRange M.length).take 0) W) := h0
  have HAb := hid hJ
  have HSF : Hid (∀ k, ∀ hk : k < M.length, (List.finRange M.length).take (k + 1) = (List.finRange M.length).take k ++ [(⟨k, hk⟩ : _root_.Fin M.length)]) := fun k hk => yfin_succ M.length k hk
  have HAll : Hid ((List.finRange M.length).take M.length = List.finRange M.length) := List.take_of_length_le (by simp)
  clear h0 hJ
  gi_wp2
  gi_loopw [7] (fun x wr => ∃ k : Nat, k ≤ M.length ∧ x = .int .i64 (k : Int) ∧ Hid (∀ g, a = some ⟨g, 0, none⟩ → 0 < M.length → wr.heap[g]? = w.heap[g]?) ∧ Hid (J ((List.finRange M.length).take k) wr)) (fun x _ => M.length - (intOf x).toNat)
  case atStart => exact ⟨0, Nat.zero_le _, rfl, HV.out, hJ0⟩
  case round =>
    obtain ⟨k, hk, rfl, HS, HJ⟩ := hrel
    by_cases hlt : k < M.length
    · have HSk := hid (HSF.out k hlt)
      obtain ⟨g, rfl, q1, q2⟩ := HC.out k hlt
      have hblk := HS.out g rfl (by omega)
      have d2 : wr.cell? ⟨g, k * 2, none⟩ = some (.int .i64 (M[k]).1) := (World.cell?_of_block (a := ⟨g, k * 2, none⟩) hblk).trans q1
      have d3 : wr.cell? ⟨g, k * 2 + 1, none⟩ = some (.float .f64 (M[k]).2) := (World.cell?_of_block (a := ⟨g, k * 2 + 1, none⟩) hblk).trans q2
      have hlen : ((List.finRange M.length).take k).length < M.length := by rw [List.length_take, List.length_finRange]; omega
      obtain ⟨Y, A0, A1, hY, hA0, hA1, ⟨y0, y1⟩, ⟨f0, f1⟩, ⟨z0, z1⟩, HBX⟩ := ybox2 wr 40 (.int .i64 0) (.float .f64 0) (.int .i64 (M[k]).1) (.float .f64 (M[k]).2)
      have HJ1 : Hid (J ((List.finRange M.length).take k) A1) := HAb.out _ _ _ none HJ.out (grownBy_of_below HBX.out.2) (fun r e => by cases e)
      obtain ⟨fn, tmps, assign, body, hy, hR⟩ := HY.out _ (⟨k, hlt⟩ : _root_.Fin M.length) A1 HJ1.out hlen
      dsimp only at hy
      have HB1 : Hid (A1.heap[g]? = wr.heap[g]?) := HBX.out.2.block g (block_lt_of_cell d2)
      have HSg := hid hblk
      have sF : ∀ (W : World) (p : Addr) (y : Nat) (md : Mode), (store p (.float .f64 y) md).run Try.prog W = stored Try.prog W p (.float .f64 y) md := fun W p y md => run_store Try.prog W p _ md rfl
      clear q1 q2 hblk
      generalize (List.finRange M.length).take k = pre at *
      generalize (M[k]).1 = tk at *
      generalize (M[k]).2 = bk at *
      gi_wp2
      clear hY hA0 hA1 y0 y1 f0 f1 z0 z1 sF
      refine hR.mono ?_
      rintro e' W3 (⟨rfl, hJ3, hk3⟩ | ⟨rfl, hJx3⟩)
      · have HS3 : Hid (∀ g', some (⟨g, 0, none⟩ : Addr) = some ⟨g', 0, none⟩ → 0 < M.length → W3.heap[g']? = w.heap[g']?) := fun g' e _ => by
          injection e with e
          injection e with e
          subst e
          exact ((HK.out _ _ hk3 g rfl).trans HB1.out).trans HSg.out
        have hw1 : IntKind.i64.wrap ((k : Int) + 1) = (k : Int) + 1 := by rw [IntKind.wrap_i64]; omega
        clear hk3
        gi_wp2
        go_roundw
        case rel => exact ⟨k + 1, by omega, by first | rfl | go_num, HS3.out, by rw [HSk.out]; exact hJ3⟩
        case measure => simp [intOf]; omega
      · gi_wp2
        refine bodyPost_ret (results_none rfl _ _ _) rfl ?_
        exact ⟨⟨_, rfl⟩, .inr ⟨_, ⟨k + 1, by omega, HSk.out.symm⟩, hJx3⟩⟩
    · obtain rfl : k = M.length := by omega
      have hJ9 := HJ.out
      rw [HAll.out] at hJ9
      gi_wp2
      all_goals first
        | (exfalso; omega)
        | (go_end0
           refine ⟨⟨_, rfl⟩, .inl ?_⟩
           simpa using hJ9)
/-- A range over a function of two numbers: the law of the kit, at any slots. -/
theorem yrange {β : Type} {e1 e2 : β → Value} {g : Operand} {assign body : Code} {Q : Exit → Act → World → Prop} {a : Act} {w : World} {gf s1 s2 s3 s4 : Nat} {lb : Array Value}
    (hg : a.eval g = .func (.func gf) #[] lb) (eg : ∀ args w, (callFunc gf args).run Try.prog w = .ok (.enter gf args) w)
    {S Sp : List β → Prop} {N : Nat} {Kp : World → World → Prop} (hseq : SeqStopsK Fence.wide 2 Try.prog gf lb (fun x : β => #[e1 x, e2 x]) Kp S Sp N w) (hKt : ∀ {A B C : World}, Kp A B → Kp B C → Kp A C) (hKb : ∀ (W : World) (l : Nat) (o o' : Obj), w.heap.size ≤ l → W.heap[l]? = some o → o.isCells = false → o.isWalk = false → Kp W (W.putObj l o'))
    (I : List β → World → Prop) (Ix : Code → List β → World → Prop) (hI : OwnFrom w.heap.size I) (hIx : ∀ c, OwnFrom w.heap.size (Ix c)) (h0 : I [] w)
    (hassign : ∀ (l : Nat) (x : β) (W : World) (K : Act → World → Prop), K { tmps := (((a.tmps.setIfInBounds s1 (e1 x)).setIfInBounds s2 (e2 x)).setIfInBounds s3 (e1 x)).setIfInBounds s4 (e2 x), defers := [] } W →
      assign.wpIn (Fence.wide.inRound l) 1 Try.prog (Exit.then K (fun _ _ _ => False)) { tmps := (a.tmps.setIfInBounds s1 (e1 x)).setIfInBounds s2 (e2 x), defers := [] } W)
    (hbody : ∀ (l : Nat) (pre : List β) (x : β) (W : World), I pre W → pre.length < N → body.wpIn (Fence.wide.inRound l) 1 Try.prog (ownPostK Kp I Ix (pre ++ [x]) W) { tmps := (((a.tmps.setIfInBounds s1 (e1 x)).setIfInBounds s2 (e2 x)).setIfInBounds s3 (e1 x)).setIfInBounds s4 (e2 x), defers := [] } W)
    (hdone : ∀ (D : Nat) (xs : List β) (W : World), w.heap.size ≤ D → S xs → I xs W → W.heap[D]? = some (.deferred (some [])) → Q .normal { a with defers := { target := .collected D, args := #[] } :: a.defers } W)
    (hstop : ∀ (D : Nat) (c : Code) (pre : List β) (W : World), w.heap.size ≤ D → Sp pre → Ix c pre W → W.heap[D]? = some (.deferred (some [])) → c.wpIn Fence.wide 3 Try.prog Q { a with defers := { target := .collected D, args := #[] } :: a.defers } W) :
    (Code.rangeFunc g #[s1, s2] assign body).wpIn Fence.wide 3 Try.prog Q a w :=
  wpIn_rangeFunc_ownF rfl (by decide) hg trivial eg hseq hKt hKb (Below.refl _ _) (fun _ => rfl) I Ix hI hIx h0
    (fun x => { tmps := (((a.tmps.setIfInBounds s1 (e1 x)).setIfInBounds s2 (e2 x)).setIfInBounds s3 (e1 x)).setIfInBounds s4 (e2 x), defers := [] })
    (fun l x W K hK => by
      have e := hassign l x W K hK
      simpa using e) hbody hdone hstop
end Go.Proofs.Ytbbmdpkccdcacaa

/- package record: Between, of every record and span. -/
namespace Go.Proofs.Ytbbmdpkccdcacaa
open Go.RowKit Go.Shelf
set_option linter.unusedVariables false
set_option linter.unusedSimpArgs false
attribute [local go_sem] Oper.semAt_some

/-- The samples of a span. -/
def spanL (M : List (Int × Nat)) (a b : Int) : List (Int × Nat) := M.filter fun p => decide (a ≤ p.1) && decide (p.1 < b)
theorem yfin_map (M : List (Int × Nat)) : (List.finRange M.length).map (fun j => M[j.val]) = M := by
  apply List.ext_getElem
  · simp
  · intro i h1 h2; simp
/-- All that lay there but one block lies there still. -/
structure YdR (V W : World) (k : Nat) : Prop where
  size : V.heap.size ≤ W.heap.size
  same : ∀ b, b < V.heap.size → b ≠ k → W.heap[b]? = V.heap[b]?
theorem YdR.refl (V : World) (k : Nat) : YdR V V k := ⟨Nat.le_refl _, fun _ _ _ => rfl⟩
theorem YdR.put {V W : World} {k : Nat} (h : YdR V W k) (j : Nat) (v : Value) : YdR V (W.setCell ⟨k, j, none⟩ v) k := ⟨by simpa [World.setCell] using h.size, fun b hl hn => (Below.heap_setCell _ _ _ _ hn).trans (h.same b hl hn)⟩
theorem YdR.box {V W : World} {k b t : Nat} {vs : Array Value} (h : YdR V W k) (hF : FBox V b t vs) (hn : b ≠ k) : FBox W b t vs := (h.same b hF.lt hn).trans hF
theorem YdR.own {V W W' : World} {k : Nat} {row : Option Nat} (h : YdR V W k) (hg : W.grownBy W' row) (hr : ∀ r, row = some r → V.heap.size ≤ r) : YdR V W' k := ⟨Nat.le_trans h.size hg.size, fun b hl hn => (hg.block b (Nat.lt_of_lt_of_le hl h.size) (fun e => by have := hr b e.symm; omega)).trans (h.same b hl hn)⟩
/-- What stands while Between goes over the samples. -/
structure BtS (w w3 : World) (K0 : Nat) (Q : List (Int × Nat)) (W : World) : Prop where
  own : ∃ v, FBox W K0 37 #[v] ∧ W.ownsRow w3.heap.size 40 2 v Q.length (smC Q)
  rest : YdR w3 W K0
  bel : Below w.heap.size w W
theorem BtS.grow {w w3 A B : World} {K0 : Nat} {Q : List (Int × Nat)} {row : Option Nat} (h : BtS w w3 K0 Q A) (hk : K0 < w3.heap.size) (hw : w.heap.size ≤ w3.heap.size) (hg : A.grownBy B row) (hr : ∀ r, row = some r → w3.heap.size ≤ r ∧ ∃ o : Obj, A.heap[r]? = some o ∧ o.isCells = false) : BtS w w3 K0 Q B := by
  obtain ⟨v, h1, h2⟩ := h.own
  refine ⟨⟨v, ?_, h2.kept hg ?_⟩, h.rest.own hg (fun r e => (hr r e).1), h.bel.grown hg h.bel.size (fun k e => Nat.le_trans hw (hr k e).1)⟩
  · exact (hg.block K0 h1.lt (fun e => by have := (hr K0 e.symm).1; omega)).trans h1
  · rcases h2.2 with ⟨rfl, _⟩ | ⟨g, cap, cur, rfl, _, hh, _⟩
    · exact .inl rfl
    · right
      intro e
      obtain ⟨o, ho, hc⟩ := (hr g e.symm).2
      rw [hh] at ho
      injection ho with ho
      rw [← ho] at hc
      cases hc
set_option maxHeartbeats 6400000 in
set_option maxRecDepth 100000 in
theorem ybetween_ok (rb mb : Nat) (L : List (Int × Nat)) (a b : Int) (w : World) (h : RecAt w rb mb L) (ha : I64 a) (hb : I64 b) (hs : spR a b = 0) :
    Calls Try.prog 28 #[.pointer (some ⟨rb, 0, none⟩), .int .i64 a, .int .i64 b] w fun e w' => ∃ v : Value, e = .returned (.tuple #[v, .int .i64 0]) ∧ Hid (w'.ownsRow w.heap.size 40 2 v (spanL (onesL L true) a b).length (smC (spanL (onesL L true) a b))) ∧ Below w.heap.size w w' := by
  obtain ⟨i0, hi, hz0, hz1, hz2⟩ := info_parts Try.yinfoS
  have HR := hid h
  have HLk := hid (fun V (q : FBox V rb 61 #[.map (some mb)]) => ylook_at rb mb a b V q ha hb)
  rw [hs] at HLk
  have HAl := hid (fun V (q : RecAt V rb mb L) => yall_any rb mb L V q)
  have hM := (h.ok.ones true).few
  clear h hs ha hb
  generalize onesL L true = M at *
  refine (callsIn_wide (n := 3)).1 ?_
  refine callsIn_of_wp_marks Try.func28 rfl trivial ?_ rfl
  simp only [Try.ntmps28, List.size_toArray, List.length_cons, List.length_nil, Nat.reduceAdd, Nat.reduceSub, Array.replicate_succ, Array.replicate_zero, List.push_toArray, List.append_toArray, List.nil_append, List.cons_append]
  obtain ⟨V0, hV0⟩ : ∃ V0, (w.alloc (.cells #[.int .i64 a] 3)).alloc (.cells #[.int .i64 b] 3) = V0 := ⟨_, rfl⟩
  have HA0 : Hid (FBox V0 w.heap.size 3 #[.int .i64 a] ∧ FBox V0 (w.heap.size + 1) 3 #[.int .i64 b] ∧ Below w.heap.size w V0) := by
    rw [← hV0]
    have q1 := FBox.made w 3 #[.int .i64 a]
    have q2 := FBox.made (w.alloc (.cells #[.int .i64 a] 3)) 3 #[.int .i64 b]
    rw [show (w.alloc (.cells #[.int .i64 a] 3)).heap.size = w.heap.size + 1 by simp] at q2
    exact ⟨q1.later ((Below.refl _ _).alloc (Nat.le_refl _) _) q1.lt, q2, ((Below.refl _ _).alloc (Nat.le_refl _) _).alloc (by simp) _⟩
  have c0 : V0.cell? ⟨w.heap.size, 0, none⟩ = some (.int .i64 a) := HA0.out.1.cell 0
  have c1 : V0.cell? ⟨w.heap.size + 1, 0, none⟩ = some (.int .i64 b) := HA0.out.2.1.cell 0
  gi_wp2
  clear hV0
  refine ⟨trivial, ?_⟩
  refine (callsIn_wide.2 (HLk.out _ (HR.out.later HA0.out.2.2).box)).mono ?_
  rintro e w1 ⟨rfl, rfl⟩
  obtain ⟨V1, hV1⟩ : ∃ V1, w1.alloc (.cells #[.slice none 0 0] 37) = V1 := ⟨_, rfl⟩
  have HA1 : Hid (FBox V1 w1.heap.size 37 #[.slice none 0 0] ∧ Below w1.heap.size w1 V1) := by
    rw [← hV1]
    exact ⟨FBox.made _ _ _, (Below.refl _ _).alloc (Nat.le_refl _) _⟩
  clear c0 c1
  gi_wp2
  clear hV1
  refine ⟨trivial, ?_⟩
  refine (callsIn_wide.2 (HAl.out _ (HR.out.later (ybt HA0.out.2.2 HA1.out.2)))).mono ?_
  rintro e w3 ⟨p, v, rfl, HP, HV, HPl, hb3⟩
  obtain ⟨ad, cap, rfl, HRd⟩ := yshape HV.out
  have hnil : (binOp BinOp.eql 83 (.func (.func 58) #[] #[.pointer (some ⟨p, 0, none⟩)]) .nilFunc).run Try.prog w3 = .ok (.bool false) w3 := by first | rfl | kernel_rfl | simp [binOp, go_sem]
  have HB3 := hid (ybt HA0.out.2.2 (ybt HA1.out.2 hb3))
  have HK3 := hid (HA1.out.1.later hb3 HA1.out.1.lt)
  have Ha3 := hid (HA0.out.1.later (ybt HA1.out.2 hb3) HA0.out.1.lt)
  have Hb3 := hid (HA0.out.2.1.later (ybt HA1.out.2 hb3) HA0.out.2.1.lt)
  have hk0 : w.heap.size + 1 < w1.heap.size := HA0.out.2.1.lt
  have hk3 : w1.heap.size < w3.heap.size := HK3.out.lt
  have hgs : ∀ g, ad = some ⟨g, 0, none⟩ → V1.heap.size ≤ g ∧ g < w3.heap.size := fun g e => HV.out.lt g (by rw [e]; rfl)
  have hV1s : w1.heap.size < V1.heap.size := HA1.out.1.lt
  have HRdH := hid HRd
  clear hb3 HRd HLk HAl
  gi_wp2
  clear hnil
  refine yrange (s1 := 21) (s2 := 22) (s3 := 10) (s4 := 11) (Kp := fun A B => ∀ g, g < w3.heap.size → g ≠ w1.heap.size → B.heap[g]? = A.heap[g]?) rfl (enters_of Try.func58 (by kernel_rfl) rfl) (yall1_stops Fence.wide 2 trivial rfl (by decide) p ad cap M w3 _ (fun A B hq g e => hq g (hgs g e).2 (by have := (hgs g e).1; omega)) HP.out.lt (HP.out.cell 0) HRdH.out hM)
    (fun hq k g h1 h2 => (k g h1 h2).trans (hq g h1 h2)) (fun W l o o' hl ho hc _ g h1 h2 => World.putObj_heap_other (show g ≠ l by omega))
    (fun pre W => BtS w w3 w1.heap.size (spanL (pre.map fun j => M[j.val]) a b) W)
    (fun c pre W => False)
    (fun s A B row hs hg hr => hs.grow hk3 HB3.out.size hg hr)
    (fun c s A B row hs hg hr => hs) ⟨⟨_, HK3.out, World.ownsRow_nil _ _ _ _⟩, YdR.refl _ _, HB3.out⟩ ?assign ?body ?done ?stop
  case assign =>
    intro l x W K hK
    gi_wp2
    exact hK
  case stop =>
    rintro D c pre W hD hSp hIx hKD
    exact hIx.elim
  case body =>
    rintro l pre x W hS hlen
    obtain ⟨v, hF, hO⟩ := hS.own
    obtain ⟨a1, cap1, rfl, _⟩ := yshape hO
    have HS := hid hS
    have HF := hid hF
    have HO := hid hO
    have e0 : W.cell? ⟨w.heap.size, 0, none⟩ = some (.int .i64 a) := (hS.rest.box Ha3.out (by omega)).cell 0
    have e1 : W.cell? ⟨w.heap.size + 1, 0, none⟩ = some (.int .i64 b) := (hS.rest.box Hb3.out (by omega)).cell 0
    have e2 : W.cell? ⟨w1.heap.size, 0, none⟩ = some (.slice a1 (spanL (pre.map fun j => M[j.val]) a b).length cap1) := hF.cell 0
    have f2 : W.frozen? ⟨w1.heap.size, 0, none⟩ = false := hF.free 0
    have HX : Hid (spanL ((pre ++ [x]).map fun j => M[j.val]) a b = spanL (pre.map fun j => M[j.val]) a b ++ (if decide (a ≤ (M[x.val]).1) && decide ((M[x.val]).1 < b) then [M[x.val]] else [])) := by
      unfold spanL
      rw [List.map_append, List.filter_append]
      congr 1
      simp only [List.map_cons, List.map_nil, List.filter_cons, List.filter_nil]
    have hql : (spanL (pre.map fun j => M[j.val]) a b).length ≤ 4096 := by
      have := List.length_filter_le (fun p : Int × Nat => decide (a ≤ p.1) && decide (p.1 < b)) (pre.map fun j => M[j.val])
      unfold spanL
      rw [List.length_map] at this
      omega
    clear hS hF hO
    generalize spanL (pre.map fun j => M[j.val]) a b = Q at *
    obtain ⟨t, ht⟩ : ∃ t, (M[x.val]) = t := ⟨_, rfl⟩
    rw [ht] at HX ⊢
    obtain ⟨tk, bk⟩ := t
    dsimp only at HX ⊢
    clear ht
    by_cases h1 : a ≤ tk
    · by_cases h2 : tk < b
      · have HX2 : Hid (spanL ((pre ++ [x]).map fun j => M[j.val]) a b = Q ++ [(tk, bk)]) := by
          have q := HX.out
          rw [if_pos (by simp [h1, h2])] at q
          exact q
        have ho := HO.out
        have hws := HS.out.rest.size
        clear HX hlen
        have HAA : Hid (∀ w4, (W.alloc (.cells #[.int .i64 tk, .float .f64 bk] 40)).grownBy w4 (Value.slice a1 Q.length cap1).ownBlock → W.grownBy w4 (Value.slice a1 Q.length cap1).ownBlock ∧ w4.heap[w1.heap.size]? = W.heap[w1.heap.size]?) := fun w4 hg => by
          have q := (World.grownBy_alloc W (.cells #[.int .i64 tk, .float .f64 bk] 40) _).trans hg
          exact ⟨q, q.block _ HF.out.lt (fun e => by have := (HO.out.lt _ e.symm).1; omega)⟩
        gi_wp2_with (first
          | (gi_at_builtin; refine wpListIn_append_own _ rfl _ _ 37 rfl w3.heap.size 40 i0 (.agg #[.int .i64 0, .float .f64 0]) 2 16 Try.underlying37 hi hz0 hz1 hz2 rfl (by decide) _ _ _ rfl (ho.alloc _) ⟨W.heap.size, 0, none⟩ 1 1 [.int .i64 tk, .float .f64 bk] rfl rfl (ycell2 _ _ _ _) (smC_one (tk, bk)) (by unfold maxLen; omega) (by omega) (by simp; omega) ?_; intro v' w4 ho2 hg2 _; obtain ⟨a2, cap2, rfl, _⟩ := yshape ho2; have e4 : w4.cell? ⟨w1.heap.size, 0, none⟩ = some (.slice a1 Q.length cap1) := (World.cell?_of_block (a := ⟨w1.heap.size, 0, none⟩) (HAA.out w4 hg2).2).trans (HF.out.cell 0); have f4 : w4.frozen? ⟨w1.heap.size, 0, none⟩ = false := (World.frozen?_of_block (a := ⟨w1.heap.size, 0, none⟩) (HAA.out w4 hg2).2).trans (HF.out.free 0); have HG2 := hid hg2; have HO2 := hid ho2; clear hg2 ho2)
          | gi_in)
        all_goals first | (exfalso; omega) | skip
        have HA := hid (HAA.out w4 HG2.out).1
        have HF4 : Hid (FBox w4 w1.heap.size 37 #[.slice a1 Q.length cap1]) := (HAA.out w4 HG2.out).2.trans HF.out
        refine ⟨(KeepsOthers.of_grownBy HA.out (fun r o e ho => ?_)).trans (KeepsOthers.setCell _ _ _), fun g g1 g2 => ?_, ?_⟩
        · rcases HO.out.2 with ⟨q, _⟩ | ⟨g, cc, cur, q, _, hh, _⟩
          · rw [q] at e; cases e
          · rw [q] at e
            injection e with e
            rw [← e, hh] at ho
            injection ho with ho
            rw [← ho]
            rfl
        · exact (Below.heap_setCell _ _ _ _ g2).trans (HA.out.block g (Nat.lt_of_lt_of_le g1 hws) (fun e => by have := (HO.out.lt _ e.symm).1; omega))
        · have q : BtS w w3 w1.heap.size (Q ++ [(tk, bk)]) (w4.setCell ⟨w1.heap.size, 0, none⟩ (.slice a2 (Q.length + 1) cap2)) := by
            refine ⟨⟨_, HF4.out.set 0 _, ?_⟩, (HS.out.rest.own HA.out (fun r e => (HO.out.lt r e).1)).put 0 _, (HS.out.bel.grown HA.out HS.out.bel.size (fun r e => Nat.le_trans HB3.out.size (HO.out.lt r e).1)).setCell (p := ⟨w1.heap.size, 0, none⟩) (show w.heap.size ≤ w1.heap.size by omega) _⟩
            have o2 := yown_put HO2.out HF4.out (by decide) 0 (.slice a2 (Q.length + 1) cap2)
            rw [smC_append, List.length_append]
            exact o2
          rw [← HX2.out] at q
          exact q
      · have HX2 : Hid (spanL ((pre ++ [x]).map fun j => M[j.val]) a b = Q) := by
          have q := HX.out
          rw [if_neg (by simp [h2]), List.append_nil] at q
          exact q
        clear HX hlen
        gi_wp2
        all_goals first | (exfalso; omega) | skip
        all_goals exact ⟨KeepsOthers.refl _, fun _ _ _ => rfl, by have q := HS.out; rw [← HX2.out] at q; exact q⟩
    · have HX2 : Hid (spanL ((pre ++ [x]).map fun j => M[j.val]) a b = Q) := by
        have q := HX.out
        rw [if_neg (by simp [h1]), List.append_nil] at q
        exact q
      clear HX hlen
      gi_wp2
      all_goals first | (exfalso; omega) | skip
      all_goals exact ⟨KeepsOthers.refl _, fun _ _ _ => rfl, by have q := HS.out; rw [← HX2.out] at q; exact q⟩
  case done =>
    rintro D xs W hD rfl hS hKD
    rw [yfin_map] at hS
    obtain ⟨v, hF, hO⟩ := hS.own
    obtain ⟨a1, cap1, rfl, _⟩ := yshape hO
    have HO := hid (yowns_base hO HB3.out.size)
    have HB := hid hS.bel
    have HD := hid hKD
    have hDl : w.heap.size ≤ D := Nat.le_trans HB3.out.size hD
    have e2 : W.cell? ⟨w1.heap.size, 0, none⟩ = some (.slice a1 (spanL M a b).length cap1) := hF.cell 0
    clear hS hF hO hKD
    gi_wp2
    refine ⟨by simp, .inl ⟨_, _, rfl, run_takeDeferred HD.out, ?_⟩⟩
    refine ⟨.tuple #[.slice a1 (spanL M a b).length cap1, .int .i64 0], ?_, _, rfl, ?_, ?_⟩
    · simp [results, Try.results28, go_sem]
    · refine HO.out.kept (grownBy_putObj' W D (.deferred none)) ?_
      rcases HO.out.2 with ⟨q, _⟩ | ⟨g, cc, cur, q, _, hh, _⟩
      · rw [q]; exact .inl rfl
      · right
        rw [q]
        intro e
        injection e with e
        rw [← e, hh] at HD
        injection HD.out with e
        cases e
    · exact HB.out.trans (belowK_b (w := w) (Nat.le_refl _) _ D _ (.deferred none) hDl HD.out rfl rfl)
end Go.Proofs.Ytbbmdpkccdcacaa

/- package record: Between refused, Gaps, of every record and span. -/
namespace Go.Proofs.Ytbbmdpkccdcacaa
open Go.RowKit
set_option linter.unusedVariables false
set_option linter.unusedSimpArgs false

set_option maxHeartbeats 1600000 in
set_option maxRecDepth 100000 in
theorem ybetween_bad (rb mb : Nat) (a b : Int) (w : World) (h : FBox w rb 61 #[.map (some mb)]) (ha : I64 a) (hb : I64 b) (hs : ¬ spR a b = 0) :
    Calls Try.prog 28 #[.pointer (some ⟨rb, 0, none⟩), .int .i64 a, .int .i64 b] w fun e w' => e = .returned (.tuple #[.slice none 0 0, .int .i64 2]) ∧ Below w.heap.size w w' := by
  have hs2 : spR a b = 2 := by unfold spR at *; split at hs <;> simp_all
  obtain ⟨V0, hV0⟩ : ∃ V0, (w.alloc (.cells #[.int .i64 a] 3)).alloc (.cells #[.int .i64 b] 3) = V0 := ⟨_, rfl⟩
  have HA0 : Hid (FBox V0 w.heap.size 3 #[.int .i64 a] ∧ FBox V0 (w.heap.size + 1) 3 #[.int .i64 b] ∧ Below w.heap.size w V0) := by
    rw [← hV0]
    have q1 := FBox.made w 3 #[.int .i64 a]
    have q2 := FBox.made (w.alloc (.cells #[.int .i64 a] 3)) 3 #[.int .i64 b]
    rw [show (w.alloc (.cells #[.int .i64 a] 3)).heap.size = w.heap.size + 1 by simp] at q2
    exact ⟨q1.later ((Below.refl _ _).alloc (Nat.le_refl _) _) q1.lt, q2, ((Below.refl _ _).alloc (Nat.le_refl _) _).alloc (by simp) _⟩
  have HLk := hid (ylook_at rb mb a b V0 (h.later HA0.out.2.2 h.lt) ha hb)
  rw [hs2] at HLk
  have c0 : V0.cell? ⟨w.heap.size, 0, none⟩ = some (.int .i64 a) := HA0.out.1.cell 0
  have c1 : V0.cell? ⟨w.heap.size + 1, 0, none⟩ = some (.int .i64 b) := HA0.out.2.1.cell 0
  clear h ha hb hs hs2
  go_enter Try.func28, Try.ntmps28
  go_wp2_with fail
  clear hV0
  refine Calls.mono HLk.out ?_
  rintro e w1 ⟨rfl, rfl⟩
  go_wp2_with fail
  go_ret2
  exact ⟨rfl, HA0.out.2.2⟩
/-- The gaps ahead of the samples of a list, and where the next one begins. -/
def gapF (Q : List (Int × Nat)) (s : List (Int × Int) × Int) : List (Int × Int) × Int := Q.foldl (fun s p => (gapR s.1 s.2 p.1, p.1 + 1)) s
def gapsR (Q : List (Int × Nat)) (a b : Int) : List (Int × Int) := gapR (gapF Q ([], a)).1 (gapF Q ([], a)).2 b
theorem gapF_snoc (Q : List (Int × Nat)) (p : Int × Nat) (s : List (Int × Int) × Int) : gapF (Q ++ [p]) s = (gapR (gapF Q s).1 (gapF Q s).2 p.1, p.1 + 1) := by unfold gapF; rw [List.foldl_append]; rfl
theorem gapR_len (G : List (Int × Int)) (a b : Int) : (gapR G a b).length ≤ G.length + 1 := by
  unfold gapR
  split
  · omega
  · rw [List.length_append]; simp
theorem gapF_in {Q : List (Int × Nat)} {a : Int} (ha : 0 ≤ a ∧ a ≤ 1048577) (hQ : ∀ p ∈ Q, 0 ≤ p.1 ∧ p.1 ≤ 1048576) : ∀ k, k ≤ Q.length → (gapF (Q.take k) ([], a)).1.length ≤ k ∧ 0 ≤ (gapF (Q.take k) ([], a)).2 ∧ (gapF (Q.take k) ([], a)).2 ≤ 1048577 := by
  intro k
  induction k with
  | zero => intro _; exact ⟨Nat.le_refl _, ha⟩
  | succ k ih =>
    intro hk
    have := ih (by omega)
    have hg : Q[k]? = some Q[k] := List.getElem?_eq_getElem (by omega)
    rw [List.take_add_one, hg]
    simp only [Option.toList_some]
    rw [gapF_snoc]
    have q := hQ Q[k] (List.getElem_mem _)
    have l := gapR_len (gapF (Q.take k) ([], a)).1 (gapF (Q.take k) ([], a)).2 (Q[k]).1
    exact ⟨by dsimp only; omega, by dsimp only; omega, by dsimp only; omega⟩
set_option maxHeartbeats 3200000 in
set_option maxRecDepth 100000 in
theorem ygaps_ok (rb mb : Nat) (L : List (Int × Nat)) (a b : Int) (w : World) (h : RecAt w rb mb L) (ha : I64 a) (hb : I64 b) (hs : spR a b = 0) :
    Calls Try.prog 27 #[.pointer (some ⟨rb, 0, none⟩), .int .i64 a, .int .i64 b] w fun e w' => ∃ v : Value, e = .returned (.tuple #[v, .int .i64 0]) ∧ Hid (w'.ownsRow w.heap.size 76 2 v (gapsR (spanL (onesL L true) a b) a b).length (gpC (gapsR (spanL (onesL L true) a b) a b))) ∧ Below w.heap.size w w' := by
  have HBt := hid (ybetween_ok rb mb L a b w h ha hb hs)
  have hab : 0 ≤ a ∧ b ≤ 1048577 ∧ a ≤ b := by unfold spR at hs; split at hs <;> omega
  have hok := h.ok.ones true
  have hQ : ∀ p ∈ spanL (onesL L true) a b, 0 ≤ p.1 ∧ p.1 ≤ 1048576 := fun p hp => by
    have := hok.tick p (List.mem_filter.1 hp).1
    omega
  have hlen : (spanL (onesL L true) a b).length ≤ 4096 := Nat.le_trans (List.length_filter_le _ _) hok.few
  clear h ha hb hs hok
  have HGI := hid (gapF_in (Q := spanL (onesL L true) a b) (a := a) (by omega) hQ)
  have HQ := hid hQ
  have HGS : Hid (gapsR (spanL (onesL L true) a b) a b = gapR (gapF ((spanL (onesL L true) a b).take (spanL (onesL L true) a b).length) ([], a)).1 (gapF ((spanL (onesL L true) a b).take (spanL (onesL L true) a b).length) ([], a)).2 b) := by
    rw [List.take_length]; rfl
  clear hQ
  generalize gapsR (spanL (onesL L true) a b) a b = GS at *
  generalize spanL (onesL L true) a b = Q at *
  go_enter Try.func27, Try.ntmps27
  go_wp2_with fail
  refine Calls.mono HBt.out ?_
  rintro e w1 ⟨v, rfl, HO, hb1⟩
  obtain ⟨ad, cap, rfl, HV⟩ := yshape HO.out
  have HVH := hid HV
  have HB1 := hid hb1
  clear HBt HO HV hb1
  go_wp2_with fail
  go_loopw [10, 11, 27] (fun v nx x wr => ∃ k : Nat, k ≤ Q.length ∧ x = .int .i64 (k : Int) ∧ nx = .int .i64 (gapF (Q.take k) ([], a)).2 ∧ Hid (wr.ownsRow w1.heap.size 76 2 v (gapF (Q.take k) ([], a)).1.length (gpC (gapF (Q.take k) ([], a)).1)) ∧ Hid (Below w1.heap.size w1 wr)) (fun _ _ x _ => Q.length - (intOf x).toNat)
  case atStart => exact ⟨0, Nat.zero_le _, rfl, rfl, World.ownsRow_nil _ _ _ _, Below.refl _ _⟩
  case round =>
    obtain ⟨k, hk, rfl, rfl, HO, HBW⟩ := hrel
    obtain ⟨g1, g2, g3⟩ := HGI.out k hk
    by_cases hlt : k < Q.length
    · have hp : Q[k]? = some Q[k] := List.getElem?_eq_getElem hlt
      have HS : Hid (gapF (Q.take (k + 1)) ([], a) = (gapR (gapF (Q.take k) ([], a)).1 (gapF (Q.take k) ([], a)).2 (Q[k]).1, (Q[k]).1 + 1)) := by
        rw [List.take_add_one, hp]
        exact gapF_snoc _ _ _
      have ht := HQ.out Q[k] (List.getElem_mem hlt)
      obtain ⟨g, rfl, hg, hc⟩ : ∃ g, ad = some ⟨g, 0, none⟩ ∧ g < w1.heap.size ∧ ∀ j u, (smC Q)[j]? = some u → w1.cell? ⟨g, j, none⟩ = some u := by
        rcases HVH.out with q | q
        · have := congrArg List.length q
          rw [smC_len, List.length_nil] at this
          omega
        · exact q
      have q := smC_at hp
      have d0 : wr.cell? ⟨g, k * 2, none⟩ = some (.int .i64 (Q[k]).1) := (HBW.out.cell (p := ⟨g, k * 2, none⟩) hg).trans (hc _ _ q.1)
      have d1 : wr.cell? ⟨g, k * 2 + 1, none⟩ = some (.float .f64 (Q[k]).2) := (HBW.out.cell (p := ⟨g, k * 2 + 1, none⟩) hg).trans (hc _ _ q.2)
      obtain ⟨Y, A0, A1, hY, hA0, hA1, ⟨y0, y1⟩, ⟨f0, f1⟩, ⟨z0, z1⟩, HBX⟩ := ybox2 wr 40 (.int .i64 0) (.float .f64 0) (.int .i64 (Q[k]).1) (.float .f64 (Q[k]).2)
      have sF : ∀ (W : World) (p : Addr) (y : Nat) (md : Mode), (store p (.float .f64 y) md).run Try.prog W = stored Try.prog W p (.float .f64 y) md := fun W p y md => run_store Try.prog W p _ md rfl
      have HBA := hid (HBW.out.trans (HBX.out.2.mono HBW.out.size))
      have HBXb := hid HBX.out.1
      have HOA := hid (yowns_later HO.out HBX.out.2)
      have HNE : Hid (∀ r, u10.ownBlock = some r → r < wr.heap.size) := fun r e => (HO.out.lt r e).2
      have hsz := HBA.out.size
      clear q hc hp HBX HO HBW
      generalize gapF (Q.take k) ([], a) = st at *
      obtain ⟨G, nx⟩ := st
      dsimp only at HS HOA g1 g2 g3 ⊢
      generalize (Q[k]).1 = tk at *
      generalize (Q[k]).2 = bk at *
      have HGp := hid (ygap_any w1.heap.size _ G nx tk A1 HOA.out (by omega) hsz (by omega) (by omega))
      go_wp2_with fail
      clear hY hA0 hA1 y0 y1 f0 f1 z0 z1 sF d0 d1
      refine Calls.mono HGp.out ?_
      rintro e w4 ⟨v', rfl, HO4, hb4, hg4⟩
      have HB4 := hid (HBA.out.trans hb4)
      have HX4 : Hid (FBox w4 wr.heap.size 40 #[.int .i64 tk, .float .f64 bk]) := (hg4.block _ HBXb.out.lt (fun e => by have := HNE.out _ e.symm; omega)).trans HBXb.out
      have c4 : w4.cell? ⟨wr.heap.size, 0, none⟩ = some (.int .i64 tk) := HX4.out.cell 0
      have hw1 : IntKind.i64.wrap (tk + 1) = tk + 1 := by rw [IntKind.wrap_i64]; omega
      have hw2 : IntKind.i64.wrap ((k : Int) + 1) = (k : Int) + 1 := by rw [IntKind.wrap_i64]; omega
      clear hb4 hg4 HGp
      go_wp2_with fail
      go_roundw
      case rel => exact ⟨k + 1, by omega, by first | rfl | go_num, by rw [HS.out], by rw [HS.out]; exact HO4.out, HB4.out⟩
      case measure => simp [intOf]; omega
    · obtain rfl : k = Q.length := by omega
      have hsz := HBW.out.size
      generalize gapF (Q.take Q.length) ([], a) = st at *
      obtain ⟨G, nx⟩ := st
      dsimp only at HGS HO g1 g2 g3 ⊢
      have HGp := hid (ygap_any w1.heap.size _ G nx b wr HO.out (by omega) hsz (by omega) (by omega))
      have hf : decide (((Q.length : Nat) : Int) < ((Q.length : Nat) : Int)) = false := by simp
      go_wp2_with fail
      all_goals first | (exfalso; omega) | skip
      refine Calls.mono HGp.out ?_
      rintro e w4 ⟨v', rfl, HO4, hb4, hg4⟩
      have HB4 := hid (HBW.out.trans hb4)
      clear hb4 hg4 HGp
      go_wp2_with fail
      go_ret2
      refine ⟨_, rfl, ?_, HB1.out.trans (HB4.out.mono HB1.out.size)⟩
      rw [HGS.out]
      exact yowns_base HO4.out HB1.out.size
theorem ygaps_bad (rb mb : Nat) (a b : Int) (w : World) (h : FBox w rb 61 #[.map (some mb)]) (ha : I64 a) (hb : I64 b) (hs : ¬ spR a b = 0) :
    Calls Try.prog 27 #[.pointer (some ⟨rb, 0, none⟩), .int .i64 a, .int .i64 b] w fun e w' => e = .returned (.tuple #[.slice none 0 0, .int .i64 2]) ∧ Below w.heap.size w w' := by
  have HB := hid (ybetween_bad rb mb a b w h ha hb hs)
  clear h ha hb hs
  go_enter Try.func27, Try.ntmps27
  go_wp2_with fail
  refine Calls.mono HB.out ?_
  rintro e w1 ⟨rfl, hb⟩
  have HB1 := hid hb
  clear hb HB
  go_wp2_with fail
  go_ret2
  exact ⟨rfl, HB1.out⟩
end Go.Proofs.Ytbbmdpkccdcacaa

/- The laws' own for records: lists held against each other; awake. -/
namespace Go.Proofs.Ytbbmdpkccdcacaa
open Go.RowKit
set_option linter.unusedVariables false
set_option linter.unusedSimpArgs false

theorem ydrewM {B n : Nat} {a w : World} (h : Below B a w) : Below B a (w.drewN n) := by
  induction n with
  | zero => exact h
  | succ n ih => exact ih.drew
theorem ybt' {a b c : World} (h : Below a.heap.size a b) (g : Below b.heap.size b c) : Below a.heap.size a c := h.trans (g.mono h.size)
theorem ylit {w : World} {b t j : Nat} {vs : Array Value} {u : Value} (hj : vs.toList[j]? = some u) (h : FBox w b t vs) : w.cell? ⟨b, j, none⟩ = some u := by
  rw [h.cell j, ← hj]
  simp
theorem RdV.get {w : World} {a : Option Addr} {xs : List Value} (h : RdV w a xs) {j : Nat} {u : Value} (hj : xs[j]? = some u) : ∃ g, a = some ⟨g, 0, none⟩ ∧ g < w.heap.size ∧ ∀ j u, xs[j]? = some u → w.cell? ⟨g, j, none⟩ = some u := by
  rcases h with rfl | h
  · simp at hj
  · exact h
set_option maxHeartbeats 1600000 in
set_option maxRecDepth 100000 in
theorem ysameI (a b : Option Addr) (ca cb : Nat) (zs : List Int) (w : World) (hn : zs.length ≤ 100000) (ha : RdV w a (zs.map (Value.int .i64))) (hb : RdV w b (zs.map (Value.int .i64))) :
    Calls Try.prog 19 #[.slice a zs.length ca, .slice b zs.length cb] w fun e w' => e = .returned (.bool true) ∧ Below w.heap.size w w' := by
  have HA := hid ha
  have HB := hid hb
  clear ha hb
  go_enter Try.func19, Try.ntmps19
  go_wp2_with fail
  go_loopw [5] (fun x wr => ∃ k : Nat, k ≤ zs.length ∧ x = .int .i64 (k : Int) ∧ Hid (Below w.heap.size w wr)) (fun x _ => zs.length - (intOf x).toNat)
  case atStart => exact ⟨0, Nat.zero_le _, rfl, Below.refl _ _⟩
  case round =>
    obtain ⟨k, hk, rfl, HW⟩ := hrel
    by_cases hlt : k < zs.length
    · have hj : (zs.map (Value.int .i64))[k]? = some (.int .i64 zs[k]) := by simp [hlt]
      obtain ⟨g, rfl, hg, hc⟩ := HA.out.get hj
      obtain ⟨g', rfl, hg', hc'⟩ := HB.out.get hj
      have c0 : wr.cell? ⟨g, k, none⟩ = some (.int .i64 zs[k]) := (HW.out.cell (p := ⟨g, k, none⟩) hg).trans (hc k _ hj)
      have c1 : wr.cell? ⟨g', k, none⟩ = some (.int .i64 zs[k]) := (HW.out.cell (p := ⟨g', k, none⟩) hg').trans (hc' k _ hj)
      clear hc hc' HA HB hj
      generalize zs[k] = z at *
      go_wp2_with fail
      go_quiet (fail)
      go_wp2_with fail
      go_roundw
      case rel => exact ⟨k + 1, by omega, by go_num, ydrewM HW.out⟩
      case measure => simp [intOf]; omega
    · obtain rfl : k = zs.length := by omega
      go_wp2_with fail
      go_ret
      exact ⟨rfl, HW.out⟩
theorem gpC_at {M : List (Int × Int)} : ∀ {k : Nat} {p : Int × Int}, M[k]? = some p → (gpC M)[k * 2]? = some (.int .i64 p.1) ∧ (gpC M)[k * 2 + 1]? = some (.int .i64 p.2) := by
  induction M with
  | nil => intro k p h; simp at h
  | cons q M ih =>
    intro k p h
    have e : gpC (q :: M) = .int .i64 q.1 :: .int .i64 q.2 :: gpC M := rfl
    rw [e]
    cases k with
    | zero => simp at h; subst h; exact ⟨rfl, rfl⟩
    | succ k =>
      have := ih (k := k) (p := p) (by simpa using h)
      rw [show (k + 1) * 2 = k * 2 + 1 + 1 by omega, show k * 2 + 1 + 1 + 1 = (k * 2 + 1) + 1 + 1 by omega]
      exact this
theorem ypeq_item (w : World) (d : Nat) (xs ys : Array Value) (k : Nat) (is : List Nat) (a : Int) (ha : xs[k]? = some (.int .i64 a)) (hb : ys[k]? = some (.int .i64 a)) :
    (Op.eqItems (d + 1) 3 1 xs ys (k :: is)).run Try.prog w = (Op.eqItems (d + 1) 3 1 xs ys is).run Try.prog w := by
  have p1 := run_part_plain (P := Try.prog) w (e := 3) (by kernel_rfl) (xs := xs) (off := k * 1) (v := .int .i64 a) (by rw [Nat.mul_one]; exact ha)
  have p2 := run_part_plain (P := Try.prog) w (e := 3) (by kernel_rfl) (xs := ys) (off := k * 1) (v := .int .i64 a) (by rw [Nat.mul_one]; exact hb)
  have p3 := run_equalIn_int (P := Try.prog) w d 3 .i64 .i64 a a Try.underlying3
  simp only [Op.eqItems, Sem.run_bind, p1, p2, p3, Result.andThen_ok]
  simp
theorem ypeq (a b : Int) (w : World) : (Op.equalIn 10000 76 (.agg #[.int .i64 a, .int .i64 b]) (.agg #[.int .i64 a, .int .i64 b])).run Try.prog w = .ok true w := by
  obtain ⟨i0, hi0⟩ : ∃ i0, Try.prog.info? 3 = some i0 := by
    have h : (Try.prog.info? 3).isSome = true := by kernel_rfl
    exact Option.isSome_iff_exists.1 h
  rw [show (10000 : Nat) = 9999 + 1 from rfl, run_equalIn_array (P := Try.prog) w 9999 _ _ Try.underlying76 hi0, show Try.prog.cellsOf 3 = 1 by kernel_rfl]
  rw [show List.range 2 = [0, 1] from rfl, show (9999 : Nat) = 9998 + 1 from rfl]
  rw [ypeq_item w 9998 _ _ 0 _ a rfl rfl, ypeq_item w 9998 _ _ 1 _ b rfl rfl]
  simp [Op.eqItems]
set_option maxHeartbeats 1600000 in
set_option maxRecDepth 100000 in
theorem ypairs (a b : Option Addr) (ca cb : Nat) (G : List (Int × Int)) (w : World) (hn : G.length ≤ 100000) (ha : RdV w a (gpC G)) (hb : RdV w b (gpC G)) :
    Calls Try.prog 46 #[.slice a G.length ca, .slice b G.length cb] w fun e w' => e = .returned (.bool true) ∧ Below w.heap.size w w' := by
  have HA := hid ha
  have HB := hid hb
  clear ha hb
  go_enter Try.func46, Try.ntmps46
  go_wp2_with fail
  go_loopw [5] (fun x wr => ∃ k : Nat, k ≤ G.length ∧ x = .int .i64 (k : Int) ∧ Hid (Below w.heap.size w wr)) (fun x _ => G.length - (intOf x).toNat)
  case atStart => exact ⟨0, Nat.zero_le _, rfl, Below.refl _ _⟩
  case round =>
    obtain ⟨k, hk, rfl, HW⟩ := hrel
    by_cases hlt : k < G.length
    · have hj := gpC_at (List.getElem?_eq_getElem hlt)
      obtain ⟨g, rfl, hg, hc⟩ := HA.out.get hj.1
      obtain ⟨g', rfl, hg', hc'⟩ := HB.out.get hj.1
      have c0 : wr.cell? ⟨g, k * 2, none⟩ = some (.int .i64 (G[k]).1) := (HW.out.cell (p := ⟨g, k * 2, none⟩) hg).trans (hc _ _ hj.1)
      have c1 : wr.cell? ⟨g, k * 2 + 1, none⟩ = some (.int .i64 (G[k]).2) := (HW.out.cell (p := ⟨g, k * 2 + 1, none⟩) hg).trans (hc _ _ hj.2)
      have d0 : wr.cell? ⟨g', k * 2, none⟩ = some (.int .i64 (G[k]).1) := (HW.out.cell (p := ⟨g', k * 2, none⟩) hg').trans (hc' _ _ hj.1)
      have d1 : wr.cell? ⟨g', k * 2 + 1, none⟩ = some (.int .i64 (G[k]).2) := (HW.out.cell (p := ⟨g', k * 2 + 1, none⟩) hg').trans (hc' _ _ hj.2)
      clear hc hc' HA HB hj
      generalize (G[k]).1 = z1 at *
      generalize (G[k]).2 = z2 at *
      have hEQ := ypeq z1 z2
      go_wp2_with fail
      go_quiet (fail)
      go_wp2_with fail
      go_roundw
      case rel => exact ⟨k + 1, by omega, by go_num, ydrewM HW.out⟩
      case measure => simp [intOf]; omega
    · obtain rfl : k = G.length := by omega
      go_wp2_with fail
      go_ret
      exact ⟨rfl, HW.out⟩
set_option maxHeartbeats 3200000 in
set_option maxRecDepth 100000 in
theorem yawake (w : World) : Calls Try.prog 23 #[] w fun e w' => e = .returned (.bool true) ∧ Below w.heap.size w w' := by
  have H1 := hid (ynew_any w)
  have HN := hid (fun V => mNaN_any V)
  go_enter Try.func23, Try.ntmps23
  go_wp2_with fail
  refine Calls.mono H1.out ?_
  rintro e w1 ⟨rfl, R1, hb1⟩
  obtain ⟨rb, hrb⟩ : ∃ rb, w.heap.size + 1 = rb := ⟨_, rfl⟩
  obtain ⟨mb, hmb⟩ : ∃ mb, w.heap.size = mb := ⟨_, rfl⟩
  have HMB := hid (Nat.le_of_eq hmb)
  rw [hrb, hmb] at R1
  rw [hrb]
  have HA := hid (yadd_any rb mb [] 3 4609434218613702656 w1 R1 (by unfold I64; omega) (by omega))
  rw [show addR [] 3 4609434218613702656 = (0, [(3, 4609434218613702656)]) by decide] at HA
  have HB := hid hb1
  clear R1 hb1 H1 hrb hmb
  go_wp2_with fail
  refine Calls.mono HA.out ?_
  rintro e w2 ⟨rfl, R2, k2⟩
  replace HB := hid (HB.out.trans (k2.below HMB.out HB.out.size))
  replace HA := hid (fun V (R : RecAt V rb mb [(3, 4609434218613702656)]) => yadd_any rb mb _ 1 9221120237041090561 V R (by unfold I64; omega) (by omega))
  rw [show addR [(3, 4609434218613702656)] 1 9221120237041090561 = (0, [(1, 9221120237041090561), (3, 4609434218613702656)]) by decide] at HA
  have HR2 := hid R2
  clear R2 k2
  go_wp2_with fail
  refine Calls.mono (HN.out _) ?_
  rintro e w3 ⟨rfl, rfl⟩
  go_wp2_with fail
  refine Calls.mono (HA.out _ HR2.out) ?_
  rintro e w4 ⟨rfl, R4, k4⟩
  replace HB := hid (HB.out.trans (k4.below HMB.out HB.out.size))
  replace HA := hid (yadd_any rb mb _ 3 4611686018427387904 w4 R4 (by unfold I64; omega) (by omega))
  rw [show addR [(1, 9221120237041090561), (3, 4609434218613702656)] 3 4611686018427387904 = (5, [(1, 9221120237041090561), (3, 4609434218613702656)]) by decide] at HA
  clear R4 k4 HR2
  go_wp2_with fail
  refine Calls.mono HA.out ?_
  rintro e w5 ⟨rfl, R5, k5⟩
  replace HB := hid (HB.out.trans (k5.below HMB.out HB.out.size))
  replace HA := hid (yadd_any rb mb _ (-1) 0 w5 R5 (by unfold I64; omega) (by omega))
  rw [show addR [(1, 9221120237041090561), (3, 4609434218613702656)] (-1) 0 = (2, [(1, 9221120237041090561), (3, 4609434218613702656)]) by decide] at HA
  clear R5 k5
  go_wp2_with fail
  refine Calls.mono HA.out ?_
  rintro e w6 ⟨rfl, R6, k6⟩
  replace HB := hid (HB.out.trans (k6.below HMB.out HB.out.size))
  replace HA := hid (ygaps_ok rb mb _ 0 6 w6 R6 (by unfold I64; omega) (by unfold I64; omega) (by decide))
  rw [show gapsR (spanL (onesL [(1, 9221120237041090561), (3, 4609434218613702656)] true) 0 6) 0 6 = [(0, 3), (4, 2)] by decide] at HA
  have HR6 := hid R6
  clear R6 k6
  go_wp2_with fail
  refine Calls.mono HA.out ?_
  rintro e w7 ⟨v7, rfl, HO7, hb7⟩
  obtain ⟨a7, c7, rfl, HV7⟩ := yshape HO7.out
  replace HB := hid (ybt' HB.out hb7)
  have HR7 := hid (HR6.out.later hb7)
  replace HA := hid (ylen_any rb mb _ w7 HR7.out)
  rw [show (onesL [(1, 9221120237041090561), (3, 4609434218613702656)] true).length = 1 by decide] at HA
  have HV := hid HV7
  clear HO7 hb7 HR6 HV7
  go_wp2_with fail
  refine Calls.mono HA.out ?_
  rintro e w8 ⟨rfl, hb8⟩
  replace HB := hid (ybt' HB.out hb8)
  replace HV := hid (HV.out.later hb8)
  replace HA := hid (ylost_any rb mb _ w8 (HR7.out.later hb8))
  rw [show onesL [(1, 9221120237041090561), (3, 4609434218613702656)] false = [(1, 9221120237041090561)] by decide] at HA
  clear hb8 HR7
  go_wp2_with fail
  refine Calls.mono HA.out ?_
  rintro e w9 ⟨v9, rfl, HO9, hb9⟩
  obtain ⟨a9, c9, rfl, HV9⟩ := yshape HO9.out
  replace HB := hid (ybt' HB.out hb9)
  replace HV := hid (HV.out.later hb9)
  clear hb9 HO9
  obtain ⟨X, hX⟩ : ∃ X, w9.alloc (.cells #[.int .i64 1] 3) = X := ⟨_, rfl⟩
  have HX : Hid (FBox X w9.heap.size 3 #[.int .i64 1] ∧ Below w9.heap.size w9 X) := by rw [← hX]; exact ⟨FBox.made _ _ _, (Below.refl _ _).alloc (Nat.le_refl _) _⟩
  have HS := hid (ysameI a9 (some ⟨w9.heap.size, 0, none⟩) c9 1 [1] X (by decide) (HV9.later HX.out.2) (.inr ⟨_, rfl, HX.out.1.lt, fun j u hj => ylit hj HX.out.1⟩))
  replace HB := hid (ybt' HB.out HX.out.2)
  replace HV := hid (HV.out.later HX.out.2)
  clear HV9
  go_wp2_with fail
  clear hX
  refine Calls.mono HS.out ?_
  rintro e w10 ⟨rfl, hb10⟩
  replace HB := hid (ybt' HB.out hb10)
  replace HV := hid (HV.out.later hb10)
  clear hb10 HS HX HA
  obtain ⟨Y, hY⟩ : ∃ Y, w10.alloc (.cells #[.int .i64 0, .int .i64 3, .int .i64 4, .int .i64 2] 76) = Y := ⟨_, rfl⟩
  have HY : Hid (FBox Y w10.heap.size 76 #[.int .i64 0, .int .i64 3, .int .i64 4, .int .i64 2] ∧ Below w10.heap.size w10 Y) := by rw [← hY]; exact ⟨FBox.made _ _ _, (Below.refl _ _).alloc (Nat.le_refl _) _⟩
  have HS := hid (ypairs a7 (some ⟨w10.heap.size, 0, none⟩) c7 2 [(0, 3), (4, 2)] Y (by decide) (HV.out.later HY.out.2) (.inr ⟨_, rfl, HY.out.1.lt, fun j u hj => ylit hj HY.out.1⟩))
  replace HB := hid (ybt' HB.out HY.out.2)
  go_wp2_with fail
  clear hY
  refine Calls.mono HS.out ?_
  rintro e w11 ⟨rfl, hb11⟩
  replace HB := hid (ybt' HB.out hb11)
  clear hb11 HS HY
  go_wp2_with fail
  go_ret
  exact ⟨rfl, HB.out⟩
end Go.Proofs.Ytbbmdpkccdcacaa

/- Layer 19's Same: two lists of samples, to the bit. -/
namespace Go.Proofs.Ytbbmdpkccdcacaa
open Go.RowKit
set_option linter.unusedVariables false
set_option linter.unusedSimpArgs false

set_option maxHeartbeats 1600000 in
set_option maxRecDepth 100000 in
theorem ysameS (a b : Option Addr) (ca cb : Nat) (M : List (Int × Nat)) (w : World) (hn : M.length ≤ 100000) (ha : RdV w a (smC M)) (hb : RdV w b (smC M)) :
    Calls Try.prog 15 #[.slice a M.length ca, .slice b M.length cb] w fun e w' => e = .returned (.bool true) ∧ Below w.heap.size w w' := by
  have HA := hid ha
  have HB := hid hb
  clear ha hb
  go_enter Try.func15, Try.ntmps15
  go_wp2_with fail
  go_loopw [5] (fun x wr => ∃ k : Nat, k ≤ M.length ∧ x = .int .i64 (k : Int) ∧ Hid (Below w.heap.size w wr)) (fun x _ => M.length - (intOf x).toNat)
  case atStart => exact ⟨0, Nat.zero_le _, rfl, Below.refl _ _⟩
  case round =>
    obtain ⟨k, hk, rfl, HW⟩ := hrel
    by_cases hlt : k < M.length
    · have hj := smC_at (List.getElem?_eq_getElem hlt)
      obtain ⟨g, rfl, hg, hc⟩ := HA.out.get hj.1
      obtain ⟨g', rfl, hg', hc'⟩ := HB.out.get hj.1
      have c0 : wr.cell? ⟨g, k * 2, none⟩ = some (.int .i64 (M[k]).1) := (HW.out.cell (p := ⟨g, k * 2, none⟩) hg).trans (hc _ _ hj.1)
      have c1 : wr.cell? ⟨g, k * 2 + 1, none⟩ = some (.float .f64 (M[k]).2) := (HW.out.cell (p := ⟨g, k * 2 + 1, none⟩) hg).trans (hc _ _ hj.2)
      have d0 : wr.cell? ⟨g', k * 2, none⟩ = some (.int .i64 (M[k]).1) := (HW.out.cell (p := ⟨g', k * 2, none⟩) hg').trans (hc' _ _ hj.1)
      have d1 : wr.cell? ⟨g', k * 2 + 1, none⟩ = some (.float .f64 (M[k]).2) := (HW.out.cell (p := ⟨g', k * 2 + 1, none⟩) hg').trans (hc' _ _ hj.2)
      clear hc hc' HA HB hj
      generalize (M[k]).1 = z1 at *
      generalize (M[k]).2 = z2 at *
      have HSB : Hid (∀ V, Calls Try.prog 30 #[.float .f64 z2, .float .f64 z2] V fun e w' => e = .returned (.bool true) ∧ w' = V) := sameBits_eq z2
      have hs0 : wr.drew.cell? ⟨g, k * 2, none⟩ = some (.int .i64 z1) ∧ wr.drew.cell? ⟨g, k * 2 + 1, none⟩ = some (.float .f64 z2) ∧ wr.drew.cell? ⟨g', k * 2, none⟩ = some (.int .i64 z1) ∧ wr.drew.cell? ⟨g', k * 2 + 1, none⟩ = some (.float .f64 z2) := ⟨c0, c1, d0, d1⟩
      have hk0 : (0 : Int) ≤ ↑k := by omega
      have hk1 : (↑k : Int) < ↑M.length := by omega
      have HBL := hid (HW.out.drew)
      go_wp2_with fail
      go_region_held3 (fun V : World => V.cell? ⟨g, k * 2, none⟩ = some (.int .i64 z1) ∧ V.cell? ⟨g, k * 2 + 1, none⟩ = some (.float .f64 z2) ∧ V.cell? ⟨g', k * 2, none⟩ = some (.int .i64 z1) ∧ V.cell? ⟨g', k * 2 + 1, none⟩ = some (.float .f64 z2)) (exact hs0) ((go_at_call 30; with_reducible refine Calls.mono (HSB.out _) ?_; rintro e w2 ⟨rfl, rfl⟩))
      all_goals
        go_wp2_with fail
        go_roundw
        case rel => exact ⟨k + 1, by omega, by go_num, HBL.out⟩
        case measure => simp [intOf]; omega
    · obtain rfl : k = M.length := by omega
      go_wp2_with fail
      go_ret
      exact ⟨rfl, HW.out⟩
end Go.Proofs.Ytbbmdpkccdcacaa

/- package record: From of any list of samples. -/
namespace Go.Proofs.Ytbbmdpkccdcacaa
open Go.RowKit
set_option linter.unusedVariables false
set_option linter.unusedSimpArgs false

/-- A list of samples in memory. -/
def RdS (w : World) (a : Option Addr) (xs : List (Int × Nat)) : Prop := xs = [] ∨ ∃ g o, a = some ⟨g, o, none⟩ ∧ g < w.heap.size ∧ ∀ j p, xs[j]? = some p → w.cell? ⟨g, o + j * 2, none⟩ = some (.int .i64 p.1) ∧ w.cell? ⟨g, o + j * 2 + 1, none⟩ = some (.float .f64 p.2)
theorem RdS.later {w w' : World} {B : Nat} {a : Option Addr} {xs : List (Int × Nat)} (h : RdS w a xs) (hb : Below w.heap.size w w') : RdS w' a xs := by
  rcases h with h | ⟨g, o, ha, hg, hc⟩
  · exact .inl h
  · have := hb.size
    refine .inr ⟨g, o, ha, by omega, fun j p hj => ?_⟩
    obtain ⟨e1, e2⟩ := hc j p hj
    exact ⟨(hb.cell (p := ⟨g, o + j * 2, none⟩) hg).trans e1, (hb.cell (p := ⟨g, o + j * 2 + 1, none⟩) hg).trans e2⟩
theorem RdS.of {w : World} {a : Option Addr} {xs : List (Int × Nat)} (h : RdV w a (smC xs)) : RdS w a xs := by
  rcases h with h | ⟨g, ha, hg, hc⟩
  · left
    cases xs with
    | nil => rfl
    | cons p r => simp [smC] at h
  · refine .inr ⟨g, 0, ha, hg, fun j p hj => ?_⟩
    have := smC_at hj
    rw [Nat.zero_add]
    exact ⟨hc _ _ this.1, hc _ _ this.2⟩
theorem RdS.get {w : World} {a : Option Addr} {xs : List (Int × Nat)} (h : RdS w a xs) {j : Nat} {p : Int × Nat} (hj : xs[j]? = some p) : ∃ g o, a = some ⟨g, o, none⟩ ∧ g < w.heap.size ∧ ∀ j p, xs[j]? = some p → w.cell? ⟨g, o + j * 2, none⟩ = some (.int .i64 p.1) ∧ w.cell? ⟨g, o + j * 2 + 1, none⟩ = some (.float .f64 p.2) := by
  rcases h with rfl | h
  · simp at hj
  · exact h
/-- What From comes to: the record, or the first error and its place. -/
def fromR : List (Int × Nat) → List (Int × Nat) → Nat → List (Int × Nat) × Option (Int × Nat)
  | L, [], _ => (L, none)
  | L, p :: r, i => if (addR L p.1 p.2).1 = 0 then fromR (addR L p.1 p.2).2 r (i + 1) else (L, some ((addR L p.1 p.2).1, i))
/-- What From hands back. -/
def fromV (rb : Nat) : Option (Int × Nat) → Value
  | none => .tuple #[.pointer (some ⟨rb, 0, none⟩), .agg #[.int .i64 0, .int .i64 0]]
  | some q => .tuple #[.pointer none, .agg #[.int .i64 q.1, .int .i64 (q.2 : Int)]]
theorem fromR_step {L : List (Int × Nat)} {xs : List (Int × Nat)} {k : Nat} {p : Int × Nat} (hp : xs[k]? = some p) : fromR L (xs.drop k) k = if (addR L p.1 p.2).1 = 0 then fromR (addR L p.1 p.2).2 (xs.drop (k + 1)) (k + 1) else (L, some ((addR L p.1 p.2).1, k)) := by
  obtain ⟨hl, e⟩ := List.getElem?_eq_some_iff.1 hp
  rw [List.drop_eq_getElem_cons hl, e, fromR]
/-- What From tells. -/
def FromT (w : World) (xs : List (Int × Nat)) (e : Ending) (w' : World) : Prop := ∃ rb mb, e = .returned (fromV rb (fromR [] xs 0).2) ∧ Hid (RecAt w' rb mb (fromR [] xs 0).1) ∧ Hid (w.heap.size ≤ mb ∧ w.heap.size ≤ rb) ∧ Below w.heap.size w w'
theorem RecAt.put {W : World} {rb mb b : Nat} {L : List (Int × Nat)} (h : RecAt W rb mb L) (h1 : rb ≠ b) (h2 : mb ≠ b) (j : Nat) (v : Value) : RecAt (W.setCell ⟨b, j, none⟩ v) rb mb L := h.kept (Below.heap_setCell _ _ _ _ h1) (Below.heap_setCell _ _ _ _ h2)
structure FrS (w : World) (rb mb : Nat) (L : List (Int × Nat)) (W : World) : Prop where
  bel : Below w.heap.size w W
  own : RecAt W rb mb L
  box : FBox W w.heap.size 46 #[.int .i64 0, .int .i64 0]
theorem FrS.later {w W W' : World} {rb mb : Nat} {L : List (Int × Nat)} (h : FrS w rb mb L W) (hb : Below W.heap.size W W') : FrS w rb mb L W' := ⟨ybt' h.bel hb, h.own.later hb, h.box.later hb h.box.lt⟩
theorem FrS.but {w W W' : World} {rb mb : Nat} {L L' : List (Int × Nat)} (h : FrS w rb mb L W) (hb : But mb W W') (hm : w.heap.size < mb) (hr : RecAt W' rb mb L') : FrS w rb mb L' W' := ⟨h.bel.trans (hb.below (Nat.le_of_lt hm) h.bel.size), hr, h.box.but hb (by omega)⟩
set_option maxHeartbeats 3200000 in
set_option maxRecDepth 100000 in
theorem yfrom_any (a : Option Addr) (n cap : Nat) (xs : List (Int × Nat)) (w : World) (hn : n ≤ 100000) (hl : xs.length = n) (hx : ∀ p ∈ xs, I64 p.1 ∧ p.2 < 18446744073709551616) (h : RdS w a xs) :
    Calls Try.prog 13 #[.slice a n cap] w (FromT w xs) := by
  obtain ⟨X, hX⟩ : ∃ X, w.alloc (.cells #[.int .i64 0, .int .i64 0] 46) = X := ⟨_, rfl⟩
  have HX : Hid (FBox X w.heap.size 46 #[.int .i64 0, .int .i64 0] ∧ Below w.heap.size w X) := by rw [← hX]; exact ⟨FBox.made _ _ _, (Below.refl _ _).alloc (Nat.le_refl _) _⟩
  have HN := hid (ynew_any X)
  have HD := hid h
  have HXS := hid hx
  clear h hx
  go_enter Try.func13, Try.ntmps13
  go_wp2_with fail
  clear hX
  refine Calls.mono HN.out ?_
  rintro e w1 ⟨rfl, R1, hb1⟩
  obtain ⟨rb, hrb⟩ : ∃ rb, X.heap.size + 1 = rb := ⟨_, rfl⟩
  obtain ⟨mb, hmb⟩ : ∃ mb, X.heap.size = mb := ⟨_, rfl⟩
  have hXm : w.heap.size < mb := by rw [← hmb]; exact HX.out.1.lt
  have hrm : w.heap.size < rb := by omega
  rw [hrb, hmb] at R1
  rw [hrb]
  have HB := hid (ybt' HX.out.2 hb1)
  have HF1 := hid (HX.out.1.later hb1 HX.out.1.lt)
  have HR1 := hid R1
  clear R1 hb1 hrb hmb HN HX
  go_wp2_with fail
  have sF : ∀ (W : World) (p : Addr) (y : Nat) (md : Mode), (store p (.float .f64 y) md).run Try.prog W = stored Try.prog W p (.float .f64 y) md := fun W p y md => run_store Try.prog W p _ md rfl
  go_loopw [11] (fun x wr => ∃ (k : Nat) (L : List (Int × Nat)), k ≤ n ∧ x = .int .i64 (k : Int) ∧ Hid (fromR L (xs.drop k) k = fromR [] xs 0) ∧ Hid (FrS w rb mb L wr)) (fun x _ => n - (intOf x).toNat)
  case atStart => exact ⟨0, [], Nat.zero_le _, rfl, rfl, ⟨HB.out, HR1.out, HF1.out⟩⟩
  case round =>
    obtain ⟨k, L, hk, rfl, HE, HS⟩ := hrel
    clear HB HR1 HF1
    by_cases hlt : k < n
    · obtain ⟨p, hp⟩ : ∃ p, xs[k]? = some p := ⟨_, List.getElem?_eq_getElem (by omega)⟩
      obtain ⟨t, b⟩ := p
      have HE2 := hid (HE.out)
      rw [fromR_step hp] at HE2
      obtain ⟨ht, hb⟩ := HXS.out _ (List.mem_of_getElem? hp)
      obtain ⟨g, o, rfl, hg, hc⟩ := HD.out.get hp
      obtain ⟨q0, q1⟩ := hc k _ hp
      have c0 : wr.cell? ⟨g, o + k * 2, none⟩ = some (.int .i64 t) := (HS.out.bel.cell (p := ⟨g, o + k * 2, none⟩) hg).trans q0
      have c1 : wr.cell? ⟨g, o + k * 2 + 1, none⟩ = some (.float .f64 b) := (HS.out.bel.cell (p := ⟨g, o + k * 2 + 1, none⟩) hg).trans q1
      have HTB : Hid (I64 t ∧ b < 18446744073709551616) := ⟨ht, hb⟩
      clear hp ht hb hc q0 q1 HE
      obtain ⟨Y, A0, A1, hY, hA0, hA1, ⟨y0, y1⟩, ⟨f0, f1⟩, ⟨z0, z1⟩, HBX⟩ := ybox2 wr 40 (.int .i64 0) (.float .f64 0) (.int .i64 t) (.float .f64 b)
      have HS4 := hid (HS.out.later HBX.out.2)
      have HA := hid (yadd_any rb mb L t b A1 HS4.out.own HTB.out.1 HTB.out.2)
      go_wp2_with fail
      clear hY hA0 hA1 y0 y1 f0 f1 z0 z1 c0 c1
      by_cases h0 : (addR L t b).1 = 0
      · rw [if_pos h0] at HE2
        rw [h0] at HA
        clear h0
        refine Calls.mono HA.out ?_
        rintro e w5 ⟨rfl, R5, k5⟩
        have HS5 := hid (HS4.out.but k5 hXm R5)
        clear R5 k5 HA HS4
        go_wp2_with fail
        go_roundw
        case rel => exact ⟨k + 1, _, by omega, by go_num, HE2.out, HS5.out⟩
        case measure => simp [intOf]; omega
      · rw [if_neg h0] at HE2
        rw [addR_no h0] at HA
        generalize (addR L t b).1 = z at *
        refine Calls.mono HA.out ?_
        rintro e w5 ⟨rfl, R5, k5⟩
        have HS5 := hid (HS4.out.but k5 hXm R5)
        clear R5 k5 HA HS4
        have d0 : w5.cell? ⟨w.heap.size, 0, none⟩ = some (.int .i64 0) := HS5.out.box.cell 0
        have d1 : w5.cell? ⟨w.heap.size, 1, none⟩ = some (.int .i64 0) := HS5.out.box.cell 1
        have q0 : w5.frozen? ⟨w.heap.size, 0, none⟩ = false := HS5.out.box.free 0
        have q1 : w5.frozen? ⟨w.heap.size, 1, none⟩ = false := HS5.out.box.free 1
        go_wp2_with fail
        have F1 := (HS5.out.box.set 0 (.int .i64 z)).set 1 (.int .i64 (k : Int))
        have e0 := F1.cell 0
        have e1 := F1.cell 1
        refine bodyPost_ret (v := Value.tuple #[.pointer none, .agg #[.int .i64 z, .int .i64 (k : Int)]]) (by simp [results, Try.results13, go_sem, e0, e1]) rfl ?_
        refine ⟨rb, mb, ?_, ?_, ⟨Nat.le_of_lt hXm, Nat.le_of_lt hrm⟩, (HS5.out.bel.setCell (p := ⟨w.heap.size, 0, none⟩) (Nat.le_refl _) _).setCell (p := ⟨w.heap.size, 1, none⟩) (Nat.le_refl _) _⟩
        · rw [← HE2.out]; rfl
        · rw [← HE2.out]
          exact (HS5.out.own.put (by omega) (by omega) 0 _).put (by omega) (by omega) 1 _
    · obtain rfl : k = n := by omega
      have HE2 := hid (HE.out)
      rw [List.drop_eq_nil_of_le (by omega), fromR] at HE2
      have d0 : wr.cell? ⟨w.heap.size, 0, none⟩ = some (.int .i64 0) := HS.out.box.cell 0
      have d1 : wr.cell? ⟨w.heap.size, 1, none⟩ = some (.int .i64 0) := HS.out.box.cell 1
      have q0 : wr.frozen? ⟨w.heap.size, 0, none⟩ = false := HS.out.box.free 0
      have q1 : wr.frozen? ⟨w.heap.size, 1, none⟩ = false := HS.out.box.free 1
      have hkk : ¬ (k : Int) < (k : Int) := by omega
      clear HE
      go_wp2_with fail
      have F1 := (HS.out.box.set 0 (.int .i64 0)).set 1 (.int .i64 0)
      have e0 := F1.cell 0
      have e1 := F1.cell 1
      refine bodyPost_ret (v := Value.tuple #[.pointer (some ⟨rb, 0, none⟩), .agg #[.int .i64 0, .int .i64 0]]) (by simp [results, Try.results13, go_sem, e0, e1]) rfl ?_
      refine ⟨rb, mb, ?_, ?_, ⟨Nat.le_of_lt hXm, Nat.le_of_lt hrm⟩, (HS.out.bel.setCell (p := ⟨w.heap.size, 0, none⟩) (Nat.le_refl _) _).setCell (p := ⟨w.heap.size, 1, none⟩) (Nat.le_refl _) _⟩
      · rw [← HE2.out]; rfl
      · rw [← HE2.out]
        exact (HS.out.own.put (by omega) (by omega) 0 _).put (by omega) (by omega) 1 _
end Go.Proofs.Ytbbmdpkccdcacaa

/- The document's record (layer 19): New, none, place, one. -/
namespace Go.Proofs.Ytbbmdpkccdcacaa
open Go.RowKit
set_option linter.unusedVariables false
set_option linter.unusedSimpArgs false

/-- The document's record stands in memory: its struct, its list in memory that the law made. -/
structure DocAt (w : World) (base rb : Nat) (L : List (Int × Nat)) : Prop where
  box : ∃ v, FBox w rb 79 #[.bool true, v] ∧ w.ownsRow base 40 2 v L.length (smC L)
  ok : RecOk L
theorem d19new_any (w : World) : Calls Try.prog 9 #[] w fun e w' => ∃ rb, e = .returned (.pointer (some ⟨rb, 0, none⟩)) ∧ Hid (DocAt w' w.heap.size rb []) ∧ Hid (w.heap.size ≤ rb) ∧ Below w.heap.size w w' := by
  go_enter Try.func9, Try.ntmps9
  go_wp2_with fail
  go_ret
  exact ⟨_, rfl, ⟨⟨_, FBox.made _ _ _, World.ownsRow_nil _ _ _ _⟩, RecOk.nil⟩, Nat.le_refl _, (Below.refl _ _).alloc (Nat.le_refl _) _⟩
theorem d19none_any (rb : Nat) (v : Value) (w : World) (h : FBox w rb 79 #[.bool true, v]) : Calls Try.prog 43 #[.pointer (some ⟨rb, 0, none⟩)] w fun e w' => e = .returned (.bool false) ∧ w' = w := by
  have c0 : w.cell? ⟨rb, 0, none⟩ = some (.bool true) := h.cell 0
  go_enter Try.func43, Try.ntmps43
  go_wp2_with fail
  go_ret
  exact ⟨rfl, rfl⟩
/-- Where a tick's sample stands, or would stand. -/
structure Plc (L : List (Int × Nat)) (t : Int) (k : Nat) : Prop where
  le : k ≤ L.length
  lo : ∀ p ∈ L.take k, p.1 < t
  hi : ∀ p ∈ L.drop k, t ≤ p.1
theorem Plc.of {L : List (Int × Nat)} (ok : RecOk L) {t : Int} {k : Nat} (h0 : k ≤ L.length) (h1 : ∀ j p, j < k → L[j]? = some p → p.1 < t) (h2 : ∀ p, L[k]? = some p → t ≤ p.1) : Plc L t k := by
  refine ⟨h0, fun p hp => ?_, fun p hp => ?_⟩
  · obtain ⟨j, hj⟩ := List.getElem?_of_mem hp
    rw [List.getElem?_take] at hj
    split at hj
    · rename_i hlt; exact h1 j p hlt hj
    · cases hj
  · obtain ⟨j, hj⟩ := List.getElem?_of_mem hp
    rw [List.getElem?_drop] at hj
    cases hq : L[k]? with
    | none =>
      have := List.getElem?_eq_none_iff.1 hq
      have := (List.getElem?_eq_some_iff.1 hj).1
      omega
    | some q =>
      have hq2 := h2 q hq
      rcases Nat.eq_zero_or_pos j with rfl | hpos
      · rw [Nat.add_zero, hq] at hj
        injection hj with hj
        subst hj
        exact hq2
      · obtain ⟨l1, e1⟩ := List.getElem?_eq_some_iff.1 hq
        obtain ⟨l2, e2⟩ := List.getElem?_eq_some_iff.1 hj
        have := List.pairwise_iff_getElem.1 ok.rise k (k + j) l1 l2 (by omega)
        rw [e1, e2] at this
        omega
theorem Plc.has {L : List (Int × Nat)} (ok : RecOk L) {t : Int} {k : Nat} (h : Plc L t k) {b : Nat} (hp : L[k]? = some (t, b)) : rhas L t = true := by
  unfold rhas
  rw [List.any_eq_true]
  exact ⟨_, List.mem_of_getElem? hp, by simp⟩
theorem Plc.no {L : List (Int × Nat)} (ok : RecOk L) {t : Int} {k : Nat} (h : Plc L t k) (hp : ∀ p, L[k]? = some p → p.1 ≠ t) : rhas L t = false := by
  cases hh : rhas L t
  · rfl
  · exfalso
    obtain ⟨b, hb⟩ := rhas_yes hh
    rw [← List.take_append_drop k L] at hb
    rcases List.mem_append.1 hb with hm | hm
    · have := h.lo _ hm; dsimp only at this; omega
    · cases hq : L[k]? with
      | none =>
        have := List.getElem?_eq_none_iff.1 hq
        rw [List.drop_eq_nil_of_le this] at hm
        simp at hm
      | some q =>
        have hne := hp q hq
        obtain ⟨l1, e1⟩ := List.getElem?_eq_some_iff.1 hq
        have hqm : q ∈ L.drop k := by rw [List.drop_eq_getElem_cons l1, e1]; exact List.mem_cons_self
        have hq2 := h.hi q hqm
        have hrd : (L.drop k).Pairwise (fun p q => p.1 < q.1) := ok.rise.sublist (List.drop_sublist _ _)
        rw [List.drop_eq_getElem_cons l1, e1] at hm hrd
        rw [List.pairwise_cons] at hrd
        rcases List.mem_cons.1 hm with e | hm
        · subst e; exact hne rfl
        · have := hrd.1 _ hm; dsimp only at this; omega
theorem rins_split {t : Int} {b : Nat} : ∀ {A B : List (Int × Nat)}, (∀ p ∈ A, p.1 < t) → (∀ p ∈ B, t < p.1) → rins (t, b) (A ++ B) = A ++ (t, b) :: B
  | [], [], _, _ => rfl
  | [], y :: r, _, h => by
    show rins (t, b) (y :: r) = _
    unfold rins
    rw [if_pos (h y List.mem_cons_self)]
    rfl
  | x :: A, B, h1, h2 => by
    show rins (t, b) (x :: (A ++ B)) = _
    have hx := h1 x List.mem_cons_self
    unfold rins
    rw [if_neg (by dsimp only; omega), rins_split (fun p hp => h1 p (List.mem_cons_of_mem _ hp)) h2]
    rfl
theorem Plc.ins {L : List (Int × Nat)} {t : Int} {k : Nat} (h : Plc L t k) (hn : rhas L t = false) (b : Nat) : rins (t, b) L = L.take k ++ (t, b) :: L.drop k := by
  have e := rins_split (t := t) (b := b) h.lo (B := L.drop k) (fun p hp => by
    have h1 := h.hi p hp
    have h2 := rhas_no hn p (List.mem_of_mem_drop hp)
    omega)
  rw [List.take_append_drop] at e
  exact e
theorem Plc.del {L : List (Int × Nat)} (ok : RecOk L) {t : Int} {k : Nat} (h : Plc L t k) {b : Nat} (hp : L[k]? = some (t, b)) : rdel L t = L.take k ++ L.drop (k + 1) := by
  obtain ⟨l1, e1⟩ := List.getElem?_eq_some_iff.1 hp
  have hd : L.drop k = (t, b) :: L.drop (k + 1) := by rw [List.drop_eq_getElem_cons l1, e1]
  have hrd : (L.drop k).Pairwise (fun p q => p.1 < q.1) := ok.rise.sublist (List.drop_sublist _ _)
  rw [hd, List.pairwise_cons] at hrd
  have e : L = L.take k ++ (t, b) :: L.drop (k + 1) := by rw [← hd, List.take_append_drop]
  unfold rdel
  conv => lhs; rw [e]
  rw [List.filter_append, List.filter_cons]
  have h1 : (L.take k).filter (fun p => !(p.1 == t)) = L.take k := by
    rw [List.filter_eq_self]
    intro p hp
    have := h.lo p hp
    simp
    omega
  have h2 : (L.drop (k + 1)).filter (fun p => !(p.1 == t)) = L.drop (k + 1) := by
    rw [List.filter_eq_self]
    intro p hp
    have := hrd.1 p hp
    dsimp only at this
    simp
    omega
  rw [h1, h2]
  simp
set_option maxHeartbeats 1600000 in
set_option maxRecDepth 100000 in
theorem d19place_any (base rb : Nat) (L : List (Int × Nat)) (t : Int) (w : World) (h : DocAt w base rb L) (ht : I64 t) : Calls Try.prog 54 #[.pointer (some ⟨rb, 0, none⟩), .int .i64 t] w fun e w' => ∃ k : Nat, e = .returned (.tuple #[.int .i64 (k : Int), .bool (rhas L t)]) ∧ Hid (Plc L t k) ∧ Below w.heap.size w w' := by
  obtain ⟨v, hb, ho⟩ := h.box
  obtain ⟨a, cap, rfl, HV⟩ := yshape ho
  have HB := hid hb
  have HVV := hid HV
  have HO := hid h.ok
  have hf := h.ok.few
  clear h ht HV hb ho
  go_enter Try.func54, Try.ntmps54
  go_wp2_with fail
  go_loopw [6] (fun x wr => ∃ k : Nat, k ≤ L.length ∧ x = .int .i64 (k : Int) ∧ Hid (∀ j p, j < k → L[j]? = some p → p.1 < t) ∧ Hid (Below w.heap.size w wr)) (fun x _ => L.length - (intOf x).toNat)
  case atStart => exact ⟨0, Nat.zero_le _, rfl, fun j p hj => by omega, Below.refl _ _⟩
  case round =>
    obtain ⟨k, hk, rfl, HL, HW⟩ := hrel
    have c1 : wr.cell? ⟨rb, 1, none⟩ = some (.slice a L.length cap) := (HB.out.later HW.out HB.out.lt).cell 1
    by_cases hlt : k < L.length
    · obtain ⟨p, hp⟩ : ∃ p, L[k]? = some p := ⟨_, List.getElem?_eq_getElem hlt⟩
      obtain ⟨u, b⟩ := p
      have hsm := smC_at hp
      obtain ⟨g, rfl, hg, hc⟩ := HVV.out.get hsm.1
      have c2 : wr.cell? ⟨g, k * 2, none⟩ = some (.int .i64 u) := (HW.out.cell (p := ⟨g, k * 2, none⟩) hg).trans (hc _ _ hsm.1)
      have HP := hid hp
      clear hp hsm hc
      by_cases hut : u < t
      · go_wp2_with fail
        go_roundw
        case rel =>
          refine ⟨k + 1, by omega, by go_num, fun j p hj hp => ?_, HW.out⟩
          rcases Nat.lt_or_ge j k with h | h
          · exact HL.out j p h hp
          · obtain rfl : j = k := by omega
            rw [HP.out] at hp
            injection hp with hp
            subst hp
            exact hut
        case measure => simp [intOf]; omega
      · have HPl : Hid (Plc L t k) := Plc.of HO.out hk HL.out (fun p hp => by rw [HP.out] at hp; injection hp with hp; subst hp; dsimp only; omega)
        by_cases hue : u = t
        · subst hue
          have hh := HPl.out.has HO.out HP.out
          have HH := hid hh
          clear hh
          go_wp2_with fail
          go_quiet (fail)
          go_wp2_with fail
          go_returns
          exact ⟨k, by simp [HH.out], HPl.out, ydrewM HW.out⟩
        · have hh := HPl.out.no HO.out (fun p hp => by rw [HP.out] at hp; injection hp with hp; subst hp; exact hue)
          have HU := hid hue
          have HH := hid hh
          clear hh
          go_wp2_with fail
          go_quiet (fail)
          go_wp2_with fail
          go_returns
          exact ⟨k, by simp [HH.out, HU.out], HPl.out, ydrewM HW.out⟩
    · obtain rfl : k = L.length := by omega
      have HPl : Hid (Plc L t L.length) := Plc.of HO.out (Nat.le_refl _) HL.out (fun p hp => by simp at hp)
      have hh := HPl.out.no HO.out (fun p hp => by simp at hp)
      have HH := hid hh
      clear hh
      have hkk : ¬ (L.length : Int) < (L.length : Int) := by omega
      go_wp2_with fail
      go_quiet (fail)
      go_wp2_with fail
      go_returns
      exact ⟨L.length, by simp [HH.out], HPl.out, ydrewM HW.out⟩
end Go.Proofs.Ytbbmdpkccdcacaa

/- The document's record (layer 19): Add. -/
namespace Go.Proofs.Ytbbmdpkccdcacaa
open Go.RowKit
set_option linter.unusedVariables false
set_option linter.unusedSimpArgs false

theorem DocAt.later {w w' : World} {base rb : Nat} {L : List (Int × Nat)} (h : DocAt w base rb L) (hb : Below w.heap.size w w') : DocAt w' base rb L := by
  obtain ⟨v, h1, h2⟩ := h.box
  exact ⟨⟨v, h1.later hb h1.lt, yowns_later h2 hb⟩, h.ok⟩
theorem smC_oneC (M : List (Int × Nat)) : ∀ u ∈ smC M, u.oneCell' = true := by
  intro u hu
  unfold smC at hu
  obtain ⟨p, _, hp⟩ := List.mem_flatMap.1 hu
  exact smC_one p u hp
theorem smC_fore {M : List (Int × Nat)} {k j : Nat} {u : Value} (h : (smC (M.take k))[j]? = some u) : (smC M)[j]? = some u := by
  rw [← List.take_append_drop k M, smC_append, List.getElem?_append_left (List.getElem?_eq_some_iff.1 h).1]
  exact h
theorem smC_aft {M : List (Int × Nat)} {k j : Nat} {u : Value} (hk : k ≤ M.length) (h : (smC (M.drop k))[j]? = some u) : (smC M)[k * 2 + j]? = some u := by
  rw [← List.take_append_drop k M, smC_append, List.getElem?_append_right (by rw [smC_len]; simp; omega), smC_len, List.length_take]
  rw [show k * 2 + j - min k M.length * 2 = j by omega]
  exact h
theorem But.put {m : Nat} {a w : World} (h : But m a w) (j : Nat) (v : Value) : But m a (w.setCell ⟨m, j, none⟩ v) :=
  ⟨h.os, h.tape, h.output, by simpa [World.setCell] using h.size, fun i hi hr => (Below.heap_setCell _ _ _ _ (fun e => hr (by rw [show i = m from e]))).trans (h.block i hi hr)⟩
set_option maxHeartbeats 3200000 in
set_option maxRecDepth 100000 in
theorem d19add_any (base rb : Nat) (L : List (Int × Nat)) (t : Int) (b : Nat) (w : World) (h : DocAt w base rb L) (hbs : base ≤ w.heap.size) (hrb : base ≤ rb) (ht : I64 t) (hb : b < 18446744073709551616) :
    Calls Try.prog 33 #[.pointer (some ⟨rb, 0, none⟩), .agg #[.int .i64 t, .float .f64 b]] w fun e w' => e = .returned (.int .i64 (addR L t b).1) ∧ Hid (DocAt w' base rb (addR L t b).2) ∧ But rb w w' := by
  obtain ⟨i0, hi, hz0, hz1, hz2⟩ := info_parts Try.yinfoS
  obtain ⟨X, hX⟩ : ∃ X, w.alloc (.cells #[.int .i64 t, .float .f64 b] 40) = X := ⟨_, rfl⟩
  have HX : Hid (FBox X w.heap.size 40 #[.int .i64 t, .float .f64 b] ∧ Below w.heap.size w X) := by rw [← hX]; exact ⟨FBox.made _ _ _, (Below.refl _ _).alloc (Nat.le_refl _) _⟩
  have HG : Hid (w.grownBy X (some rb)) := by rw [← hX]; exact World.grownBy_alloc w _ _
  have HR := hid (h.later HX.out.2)
  have HT := hid ht
  have HBB := hid hb
  have hxs : base ≤ X.heap.size := Nat.le_trans hbs HX.out.2.size
  clear h ht hb
  obtain ⟨v, hbx, ho⟩ := HR.out.box
  have HN := hid (d19none_any rb v X hbx)
  have c0 : X.cell? ⟨w.heap.size, 0, none⟩ = some (.int .i64 t) := HX.out.1.cell 0
  clear hbx ho
  go_enter Try.func33, Try.ntmps33
  go_wp2_with fail
  clear hX
  refine Calls.mono HN.out ?_
  rintro e w1 ⟨rfl, rfl⟩
  by_cases hk : 0 ≤ t ∧ t ≤ 1048576
  · have HP := hid (d19place_any base rb L t w1 HR.out HT.out)
    have HK := hid hk
    obtain ⟨hk1, hk2⟩ := hk
    have hk3 : ¬ t < 0 := by omega
    have hk4 : ¬ 1048576 < t := by omega
    go_wp2_with fail
    refine Calls.mono HP.out ?_
    rintro e w2 ⟨k, rfl, HPl, hb2⟩
    have HX2 := hid (HX.out.1.later hb2 HX.out.1.lt)
    have HR2 := hid (HR.out.later hb2)
    have HG2 : Hid (w.grownBy w2 (some rb)) := But.trans (m := rb) HG.out (But.of_below hb2)
    have hxs2 : base ≤ w2.heap.size := Nat.le_trans hxs hb2.size
    clear hb2 HP c0
    cases hh : rhas L t
    · have HH := hid hh
      clear hh
      obtain ⟨v, hbx, ho⟩ := HR2.out.box
      obtain ⟨a, cap, rfl, HV⟩ := yshape ho
      have HBX := hid hbx
      have HO := hid ho
      have HVV := hid HV
      have c1 : w2.cell? ⟨rb, 1, none⟩ = some (.slice a L.length cap) := hbx.cell 1
      have hf := HR2.out.ok.few
      clear hbx ho HV
      by_cases hfl : 4096 ≤ L.length
      · have e1 : addR L t b = (3, L) := by
          unfold addR
          rw [if_neg (by have := HK.out; omega), if_neg (by rw [HH.out]; simp), if_pos hfl]
        have HE := hid e1
        clear e1
        have hfl2 : (4096 : Int) ≤ (L.length : Int) := by omega
        go_wp2_with fail
        go_ret
        rw [HE.out]
        exact ⟨rfl, HR2.out, HG2.out⟩
      · have hfl2 : ¬ (4096 : Int) ≤ (L.length : Int) := by omega
        have hkl := HPl.out.le
        have e1 : addR L t b = (0, rins (t, b) L) := by
          unfold addR
          rw [if_neg (by have := HK.out; omega), if_neg (by rw [HH.out]; simp), if_neg hfl]
        have HE := hid e1
        have HOK := hid (HR2.out.ok.ins HK.out HBB.out HH.out (by omega))
        clear e1
        rcases HO.out.2 with ⟨hnil, h0⟩ | ⟨g, cap', cur, hv, h1, h2, h3, h4, h5, h6⟩
        · injection hnil with e1 e2 e3
          subst e1 e3
          obtain rfl : L = [] := List.eq_nil_of_length_eq_zero e2
          obtain rfl : k = 0 := by simpa using hkl
          have HC : Hid (∀ W, Below w2.heap.size w2 W → W.cell? ⟨w.heap.size, 0, none⟩ = some (.int .i64 t) ∧ W.cell? ⟨w.heap.size, 1, none⟩ = some (.float .f64 b) ∧ W.cell? ⟨rb, 1, none⟩ = some (.slice none 0 0)) := fun W hW =>
            ⟨(HX2.out.later hW HX2.out.lt).cell 0, (HX2.out.later hW HX2.out.lt).cell 1, (HBX.out.later hW HBX.out.lt).cell 1⟩
          obtain ⟨c3, c4, c5⟩ := HC.out _ (Below.refl _ _)
          go_wp2_with (first
            | (at_builtin; refine wpList_append_own_none rfl _ _ 37 rfl w2.heap.size 40 i0 2 Try.underlying37 hi _ 0 [] rfl (World.ownsRow_nil w2 _ _ _) rfl ?_)
            | (at_builtin; refine wpList_append_own _ rfl _ _ 37 rfl w2.heap.size 40 i0 (.agg #[.int .i64 0, .float .f64 0]) 2 16 Try.underlying37 hi hz0 hz1 hz2 rfl (by decide) _ 0 [] rfl (World.ownsRow_nil _ _ _ _) ⟨w2.heap.size, 0, none⟩ 1 1 [.int .i64 t, .float .f64 b] rfl rfl (ycell2 _ _ _ _) (smC_one (t, b)) (by unfold maxLen; omega) (by omega) (by simp) ?_; intro v2 w4 ho4 hg4 _
               have hb4 : Below w2.heap.size w2 w4 := ((Below.refl _ _).alloc (Nat.le_refl _) _).grown hg4 (by simp) (fun q e => by cases e)
               have HB4 := hid hb4
               have hs4 := hb4.size
               obtain ⟨a9, d9, rfl, hV9⟩ := yshape ho4
               clear hV9
               have q1 : w4.frozen? ⟨rb, 1, none⟩ = false := (HBX.out.later hb4 HBX.out.lt).free 1
               obtain ⟨c3, c4, c5⟩ := HC.out _ hb4
               clear hg4 hb4)
            | (at_builtin; refine wpList_append_own_none rfl _ _ 37 rfl w2.heap.size 40 i0 2 Try.underlying37 hi _ _ _ rfl ho4 rfl ?_)
            | go_in)
          go_ret
          rw [HE.out]
          refine ⟨rfl, ⟨⟨_, (HBX.out.later HB4.out HBX.out.lt).set 1 _, ?_⟩, HOK.out⟩, (But.trans (m := rb) HG2.out (But.of_below HB4.out)).put 1 _⟩
          refine yown_put ?_ (HBX.out.later HB4.out HBX.out.lt) (by decide) 1 _
          exact yowns_base ho4 hxs2
        · injection hv with e1 e2 e3
          subst e1 e3
          clear h1 h2 h5 h6 e2
          have HN1 : Hid (∀ W, Below w2.heap.size w2 W → ∀ j u, (smC (L.take k))[j]? = some u → W.cell? ((⟨g, 0, none⟩ : Addr).add j) = some u) := fun W hW j u hj => by
            obtain ⟨g', e, hg, hc⟩ := HVV.out.get (smC_fore hj)
            injection e with e
            injection e with e
            subst e
            rw [Addr.add_lit, Nat.zero_add, hW.cell (p := ⟨g, j, none⟩) hg]
            exact hc _ _ (smC_fore hj)
          have HN2 : Hid (∀ W, Below w2.heap.size w2 W → ∀ j u, (smC (L.drop k))[j]? = some u → W.cell? ((⟨g, k * 2, none⟩ : Addr).add j) = some u) := fun W hW j u hj => by
            have hq := smC_aft hkl hj
            obtain ⟨g', e, hg, hc⟩ := HVV.out.get hq
            injection e with e
            injection e with e
            subst e
            rw [Addr.add_lit, hW.cell (p := ⟨g, k * 2 + j, none⟩) hg]
            exact hc _ _ hq
          have HC : Hid (∀ W, Below w2.heap.size w2 W → W.cell? ⟨w.heap.size, 0, none⟩ = some (.int .i64 t) ∧ W.cell? ⟨w.heap.size, 1, none⟩ = some (.float .f64 b) ∧ W.cell? ⟨rb, 1, none⟩ = some (.slice (some ⟨g, 0, none⟩) L.length cap)) := fun W hW =>
            ⟨(HX2.out.later hW HX2.out.lt).cell 0, (HX2.out.later hW HX2.out.lt).cell 1, (HBX.out.later hW HBX.out.lt).cell 1⟩
          by_cases hck : cap = k
          · obtain rfl : L.length = k := by omega
            subst hck
            go_wp2_with (first
              | (at_builtin; refine wpList_append_own _ rfl _ _ 37 rfl w2.heap.size 40 i0 (.agg #[.int .i64 0, .float .f64 0]) 2 16 Try.underlying37 hi hz0 hz1 hz2 rfl (by decide) _ 0 [] rfl (World.ownsRow_nil _ _ _ _) ⟨g, 0, none⟩ L.length L.length (smC (L.take L.length)) rfl (by rw [smC_len, List.length_take]; omega) (HN1.out _ (Below.refl _ _)) (smC_oneC _) (by unfold maxLen; omega) (by omega) (Nat.le_refl _) ?_; intro v1 w3 ho3 hg3 _
                 have hb3 : Below w2.heap.size w2 w3 := (Below.refl _ _).grown hg3 (Nat.le_refl _) (fun q e => by cases e)
                 have HB3 := hid hb3
                 have hs3 := hb3.size
                 obtain ⟨c3, c4, c5⟩ := HC.out _ hb3
                 clear hg3 hb3 c1)
              | (at_builtin; refine wpList_append_own _ rfl _ _ 37 rfl w2.heap.size 40 i0 (.agg #[.int .i64 0, .float .f64 0]) 2 16 Try.underlying37 hi hz0 hz1 hz2 rfl (by decide) _ _ _ rfl (ho3.alloc _) ⟨w3.heap.size, 0, none⟩ 1 1 [.int .i64 t, .float .f64 b] rfl rfl (ycell2 _ _ _ _) (smC_one (t, b)) (by unfold maxLen; omega) (by omega) (by simp; omega) ?_; intro v2 w4 ho4 hg4 _
                 have hb4 : Below w2.heap.size w2 w4 := (HB3.out.alloc (by omega) _).grown hg4 (by simp; omega) (fun q e => (ho3.lt q e).1)
                 have HB4 := hid hb4
                 have hs4 := hb4.size
                 obtain ⟨c3, c4, c5⟩ := HC.out _ hb4
                 clear hg4 hb4)
              | (at_builtin; refine wpList_append_own _ rfl _ _ 37 rfl w2.heap.size 40 i0 (.agg #[.int .i64 0, .float .f64 0]) 2 16 Try.underlying37 hi hz0 hz1 hz2 rfl (by decide) _ _ _ rfl ho4 ⟨g, 0, none⟩ 0 0 [] rfl rfl (fun j u hj => by simp at hj) (fun u hu => by simp at hu) (by unfold maxLen; omega) (by omega) (by omega) ?_; intro v3 w5 ho5 hg5 _
                 obtain ⟨a9, d9, rfl, hV9⟩ := yshape ho5
                 clear hV9
                 have hb5 : Below w2.heap.size w2 w5 := HB4.out.grown hg5 (by omega) (fun q e => (ho4.lt q e).1)
                 have HB5 := hid hb5
                 have q1 : w5.frozen? ⟨rb, 1, none⟩ = false := (HBX.out.later hb5 HBX.out.lt).free 1
                 obtain ⟨c3, c4, c5⟩ := HC.out _ hb5
                 clear hg5 hb5)
              | go_in)
            go_ret
            rw [HE.out]
            refine ⟨rfl, ⟨⟨_, (HBX.out.later HB5.out HBX.out.lt).set 1 _, ?_⟩, HOK.out⟩, (But.trans (m := rb) HG2.out (But.of_below HB5.out)).put 1 _⟩
            have e := HPl.out.ins HH.out b
            refine yown_put ?_ (HBX.out.later HB5.out HBX.out.lt) (by decide) 1 _
            rw [e]
            have q := yowns_base ho5 hxs2
            rw [show 0 + L.length + 1 + 0 = L.length + 1 by omega] at q
            have hlen : (L.take L.length ++ (t, b) :: L.drop L.length).length = L.length + 1 := by simp
            have hcs : smC (L.take L.length ++ (t, b) :: L.drop L.length) = ([] ++ smC (L.take L.length) ++ [.int .i64 t, .float .f64 b]) ++ [] := by simp [smC]
            rw [hlen, hcs]
            exact q
          · have hck2 : ¬ (cap - k = 0) := by omega
            go_wp2_with (first
              | (at_builtin; refine wpList_append_own _ rfl _ _ 37 rfl w2.heap.size 40 i0 (.agg #[.int .i64 0, .float .f64 0]) 2 16 Try.underlying37 hi hz0 hz1 hz2 rfl (by decide) _ 0 [] rfl (World.ownsRow_nil _ _ _ _) ⟨g, 0, none⟩ k cap (smC (L.take k)) rfl (by rw [smC_len, List.length_take]; omega) (HN1.out _ (Below.refl _ _)) (smC_oneC _) (by unfold maxLen; omega) (by omega) (Nat.le_refl _) ?_; intro v1 w3 ho3 hg3 _
                 have hb3 : Below w2.heap.size w2 w3 := (Below.refl _ _).grown hg3 (Nat.le_refl _) (fun q e => by cases e)
                 have HB3 := hid hb3
                 have hs3 := hb3.size
                 obtain ⟨c3, c4, c5⟩ := HC.out _ hb3
                 clear hg3 hb3 c1)
              | (at_builtin; refine wpList_append_own _ rfl _ _ 37 rfl w2.heap.size 40 i0 (.agg #[.int .i64 0, .float .f64 0]) 2 16 Try.underlying37 hi hz0 hz1 hz2 rfl (by decide) _ _ _ rfl (ho3.alloc _) ⟨w3.heap.size, 0, none⟩ 1 1 [.int .i64 t, .float .f64 b] rfl rfl (ycell2 _ _ _ _) (smC_one (t, b)) (by unfold maxLen; omega) (by omega) (by simp; omega) ?_; intro v2 w4 ho4 hg4 _
                 have hb4 : Below w2.heap.size w2 w4 := (HB3.out.alloc (by omega) _).grown hg4 (by simp; omega) (fun q e => (ho3.lt q e).1)
                 have HB4 := hid hb4
                 have hs4 := hb4.size
                 obtain ⟨c3, c4, c5⟩ := HC.out _ hb4
                 clear hg4 hb4)
              | (at_builtin; refine wpList_append_own _ rfl _ _ 37 rfl w2.heap.size 40 i0 (.agg #[.int .i64 0, .float .f64 0]) 2 16 Try.underlying37 hi hz0 hz1 hz2 rfl (by decide) _ _ _ rfl ho4 ⟨g, k * 2, none⟩ (L.length - k) (cap - k) (smC (L.drop k)) rfl (by rw [smC_len, List.length_drop]) (HN2.out _ HB4.out) (smC_oneC _) (by unfold maxLen; omega) (by omega) (by omega) ?_; intro v3 w5 ho5 hg5 _
                 obtain ⟨a9, d9, rfl, hV9⟩ := yshape ho5
                 clear hV9
                 have hb5 : Below w2.heap.size w2 w5 := HB4.out.grown hg5 (by omega) (fun q e => (ho4.lt q e).1)
                 have HB5 := hid hb5
                 have q1 : w5.frozen? ⟨rb, 1, none⟩ = false := (HBX.out.later hb5 HBX.out.lt).free 1
                 obtain ⟨c3, c4, c5⟩ := HC.out _ hb5
                 clear hg5 hb5)
              | go_in)
            go_ret
            rw [HE.out]
            refine ⟨rfl, ⟨⟨_, (HBX.out.later HB5.out HBX.out.lt).set 1 _, ?_⟩, HOK.out⟩, (But.trans (m := rb) HG2.out (But.of_below HB5.out)).put 1 _⟩
            have e := HPl.out.ins HH.out b
            refine yown_put ?_ (HBX.out.later HB5.out HBX.out.lt) (by decide) 1 _
            rw [e]
            have q := yowns_base ho5 hxs2
            rw [show 0 + k + 1 + (L.length - k) = k + 1 + (L.length - k) by omega] at q
            have hlen : (L.take k ++ (t, b) :: L.drop k).length = k + 1 + (L.length - k) := by simp; omega
            have hcs : smC (L.take k ++ (t, b) :: L.drop k) = ([] ++ smC (L.take k) ++ [.int .i64 t, .float .f64 b]) ++ smC (L.drop k) := by simp [smC]
            rw [hlen, hcs]
            exact q
    · have e1 : addR L t b = (5, L) := by
        unfold addR
        rw [if_neg (by have := HK.out; omega), if_pos hh]
      have HE := hid e1
      clear e1 hh
      go_wp2_with fail
      go_ret
      rw [HE.out]
      exact ⟨rfl, HR2.out, HG2.out⟩
  · have e1 : addR L t b = (2, L) := if_pos hk
    have HE := hid e1
    clear e1
    by_cases hk1 : t < 0
    · go_wp2_with fail
      go_ret
      rw [HE.out]
      exact ⟨rfl, HR.out, HG.out⟩
    · have hk2 : 1048576 < t := by omega
      go_wp2_with fail
      go_ret
      rw [HE.out]
      exact ⟨rfl, HR.out, HG.out⟩
end Go.Proofs.Ytbbmdpkccdcacaa

/- The document's record (layer 19): From, Samples, Lost. -/
namespace Go.Proofs.Ytbbmdpkccdcacaa
open Go.RowKit
set_option linter.unusedVariables false
set_option linter.unusedSimpArgs false

/-- What the document's From tells. -/
def DFromT (w : World) (xs : List (Int × Nat)) (e : Ending) (w' : World) : Prop := ∃ rb, e = .returned (fromV rb (fromR [] xs 0).2) ∧ Hid (DocAt w' w.heap.size rb (fromR [] xs 0).1) ∧ Hid (w.heap.size ≤ rb) ∧ Below w.heap.size w w'
theorem DocAt.base {w : World} {base base' rb : Nat} {L : List (Int × Nat)} (h : DocAt w base rb L) (hb : base' ≤ base) : DocAt w base' rb L := by
  obtain ⟨v, h1, h2⟩ := h.box
  exact ⟨⟨v, h1, yowns_base h2 hb⟩, h.ok⟩
structure DfS (w : World) (rb : Nat) (L : List (Int × Nat)) (W : World) : Prop where
  bel : Below w.heap.size w W
  own : DocAt W w.heap.size rb L
  box : FBox W w.heap.size 46 #[.int .i64 0, .int .i64 0]
theorem DfS.later {w W W' : World} {rb : Nat} {L : List (Int × Nat)} (h : DfS w rb L W) (hb : Below W.heap.size W W') : DfS w rb L W' := ⟨ybt' h.bel hb, h.own.later hb, h.box.later hb h.box.lt⟩
theorem DfS.but {w W W' : World} {rb : Nat} {L L' : List (Int × Nat)} (h : DfS w rb L W) (hb : But rb W W') (hm : w.heap.size < rb) (hr : DocAt W' w.heap.size rb L') : DfS w rb L' W' := ⟨h.bel.trans (hb.below (Nat.le_of_lt hm) h.bel.size), hr, h.box.but hb (by omega)⟩
theorem DocAt.put {W : World} {base rb b t : Nat} {vs : Array Value} {L : List (Int × Nat)} (h : DocAt W base rb L) (hb : FBox W b t vs) (ht : 40 ≠ t) (h1 : rb ≠ b) (j : Nat) (v : Value) : DocAt (W.setCell ⟨b, j, none⟩ v) base rb L := by
  obtain ⟨u, q1, q2⟩ := h.box
  exact ⟨⟨u, q1.other ⟨b, j, none⟩ v h1, yown_put q2 hb ht j v⟩, h.ok⟩
set_option maxHeartbeats 3200000 in
set_option maxRecDepth 100000 in
theorem dfrom_any (a : Option Addr) (n cap : Nat) (xs : List (Int × Nat)) (w : World) (hn : n ≤ 100000) (hl : xs.length = n) (hx : ∀ p ∈ xs, I64 p.1 ∧ p.2 < 18446744073709551616) (h : RdS w a xs) :
    Calls Try.prog 14 #[.slice a n cap] w (DFromT w xs) := by
  obtain ⟨X, hX⟩ : ∃ X, w.alloc (.cells #[.int .i64 0, .int .i64 0] 46) = X := ⟨_, rfl⟩
  have HX : Hid (FBox X w.heap.size 46 #[.int .i64 0, .int .i64 0] ∧ Below w.heap.size w X) := by rw [← hX]; exact ⟨FBox.made _ _ _, (Below.refl _ _).alloc (Nat.le_refl _) _⟩
  have HN := hid (d19new_any X)
  have HD := hid h
  have HXS := hid hx
  clear h hx
  go_enter Try.func14, Try.ntmps14
  go_wp2_with fail
  clear hX
  refine Calls.mono HN.out ?_
  rintro e w1 ⟨rb, rfl, R1, hrb, hb1⟩
  have hrm : w.heap.size < rb := Nat.lt_of_lt_of_le HX.out.1.lt hrb.out
  have HS1 : Hid (DfS w rb [] w1) := ⟨ybt' HX.out.2 hb1, R1.out.base HX.out.2.size, HX.out.1.later hb1 HX.out.1.lt⟩
  clear R1 hb1 HN HX hrb
  go_wp2_with fail
  go_loopw [5] (fun x wr => ∃ (k : Nat) (L : List (Int × Nat)), k ≤ n ∧ x = .int .i64 (k : Int) ∧ Hid (fromR L (xs.drop k) k = fromR [] xs 0) ∧ Hid (DfS w rb L wr)) (fun x _ => n - (intOf x).toNat)
  case atStart => exact ⟨0, [], Nat.zero_le _, rfl, rfl, HS1.out⟩
  case round =>
    obtain ⟨k, L, hk, rfl, HE, HS⟩ := hrel
    clear HS1
    by_cases hlt : k < n
    · obtain ⟨p, hp⟩ : ∃ p, xs[k]? = some p := ⟨_, List.getElem?_eq_getElem (by omega)⟩
      obtain ⟨t, b⟩ := p
      have HE2 := hid (HE.out)
      rw [fromR_step hp] at HE2
      obtain ⟨ht, hb⟩ := HXS.out _ (List.mem_of_getElem? hp)
      obtain ⟨g, o, rfl, hg, hc⟩ := HD.out.get hp
      obtain ⟨q0, q1⟩ := hc k _ hp
      have c0 : wr.cell? ⟨g, o + k * 2, none⟩ = some (.int .i64 t) := (HS.out.bel.cell (p := ⟨g, o + k * 2, none⟩) hg).trans q0
      have c1 : wr.cell? ⟨g, o + k * 2 + 1, none⟩ = some (.float .f64 b) := (HS.out.bel.cell (p := ⟨g, o + k * 2 + 1, none⟩) hg).trans q1
      have HA := hid (d19add_any w.heap.size rb L t b wr HS.out.own HS.out.bel.size (Nat.le_of_lt hrm) ht hb)
      clear hp ht hb hc q0 q1 HE
      go_wp2_with fail
      clear c0 c1
      by_cases h0 : (addR L t b).1 = 0
      · rw [if_pos h0] at HE2
        rw [h0] at HA
        clear h0
        refine Calls.mono HA.out ?_
        rintro e w5 ⟨rfl, R5, k5⟩
        have HS5 := hid (HS.out.but k5 hrm R5.out)
        clear R5 k5 HA HS
        go_wp2_with fail
        go_roundw
        case rel => exact ⟨k + 1, _, by omega, by go_num, HE2.out, HS5.out⟩
        case measure => simp [intOf]; omega
      · rw [if_neg h0] at HE2
        rw [addR_no h0] at HA
        generalize (addR L t b).1 = z at *
        refine Calls.mono HA.out ?_
        rintro e w5 ⟨rfl, R5, k5⟩
        have HS5 := hid (HS.out.but k5 hrm R5.out)
        clear R5 k5 HA HS
        have d0 : w5.cell? ⟨w.heap.size, 0, none⟩ = some (.int .i64 0) := HS5.out.box.cell 0
        have d1 : w5.cell? ⟨w.heap.size, 1, none⟩ = some (.int .i64 0) := HS5.out.box.cell 1
        have q0 : w5.frozen? ⟨w.heap.size, 0, none⟩ = false := HS5.out.box.free 0
        have q1 : w5.frozen? ⟨w.heap.size, 1, none⟩ = false := HS5.out.box.free 1
        go_wp2_with fail
        have F1 := (HS5.out.box.set 0 (.int .i64 z)).set 1 (.int .i64 (k : Int))
        have e0 := F1.cell 0
        have e1 := F1.cell 1
        refine bodyPost_ret (v := Value.tuple #[.pointer none, .agg #[.int .i64 z, .int .i64 (k : Int)]]) (by simp [results, Try.results14, go_sem, e0, e1]) rfl ?_
        refine ⟨rb, ?_, ?_, Nat.le_of_lt hrm, (HS5.out.bel.setCell (p := ⟨w.heap.size, 0, none⟩) (Nat.le_refl _) _).setCell (p := ⟨w.heap.size, 1, none⟩) (Nat.le_refl _) _⟩
        · rw [← HE2.out]; rfl
        · rw [← HE2.out]
          exact (HS5.out.own.put HS5.out.box (by decide) (by omega) 0 _).put (HS5.out.box.set 0 _) (by decide) (by omega) 1 _
    · obtain rfl : k = n := by omega
      have HE2 := hid (HE.out)
      rw [List.drop_eq_nil_of_le (by omega), fromR] at HE2
      have d0 : wr.cell? ⟨w.heap.size, 0, none⟩ = some (.int .i64 0) := HS.out.box.cell 0
      have d1 : wr.cell? ⟨w.heap.size, 1, none⟩ = some (.int .i64 0) := HS.out.box.cell 1
      have q0 : wr.frozen? ⟨w.heap.size, 0, none⟩ = false := HS.out.box.free 0
      have q1 : wr.frozen? ⟨w.heap.size, 1, none⟩ = false := HS.out.box.free 1
      have hkk : ¬ (k : Int) < (k : Int) := by omega
      clear HE
      go_wp2_with fail
      have F1 := (HS.out.box.set 0 (.int .i64 0)).set 1 (.int .i64 0)
      have e0 := F1.cell 0
      have e1 := F1.cell 1
      refine bodyPost_ret (v := Value.tuple #[.pointer (some ⟨rb, 0, none⟩), .agg #[.int .i64 0, .int .i64 0]]) (by simp [results, Try.results14, go_sem, e0, e1]) rfl ?_
      refine ⟨rb, ?_, ?_, Nat.le_of_lt hrm, (HS.out.bel.setCell (p := ⟨w.heap.size, 0, none⟩) (Nat.le_refl _) _).setCell (p := ⟨w.heap.size, 1, none⟩) (Nat.le_refl _) _⟩
      · rw [← HE2.out]; rfl
      · rw [← HE2.out]
        exact (HS.out.own.put HS.out.box (by decide) (by omega) 0 _).put (HS.out.box.set 0 _) (by decide) (by omega) 1 _
theorem done_fin {b : Nat} (hb : b < 18446744073709551616) : fin b = isone b := by
  have h := fin_iff b
  unfold isone
  cases hf : fin b
  · rw [hf] at h
    simp at h
    simp
    omega
  · rw [hf] at h
    simp at h
    simp
    omega
set_option maxHeartbeats 800000 in
set_option maxRecDepth 100000 in
theorem d19one_any (t : Int) (b : Nat) (w : World) (hb : b < 18446744073709551616) : Calls Try.prog 44 #[.agg #[.int .i64 t, .float .f64 b]] w fun e w' => e = .returned (.bool (isone b)) ∧ Below w.heap.size w w' := by
  obtain ⟨X, hX⟩ : ∃ X, w.alloc (.cells #[.int .i64 t, .float .f64 b] 40) = X := ⟨_, rfl⟩
  have HX : Hid (FBox X w.heap.size 40 #[.int .i64 t, .float .f64 b] ∧ Below w.heap.size w X) := by rw [← hX]; exact ⟨FBox.made _ _ _, (Below.refl _ _).alloc (Nat.le_refl _) _⟩
  have c1 : X.cell? ⟨w.heap.size, 1, none⟩ = some (.float .f64 b) := HX.out.1.cell 1
  have rS := fsub_run Try.prog 38
  have hl := less_self (fval_fn .sub X b b)
  have HE := hid (done_fin hb)
  clear hb
  go_enter Try.func44, Try.ntmps44
  go_wp2_with fail
  go_ret
  refine ⟨?_, fwld_below _ _ _ HX.out.2⟩
  show Ending.returned (.bool (fin b)) = _
  rw [HE.out]
end Go.Proofs.Ytbbmdpkccdcacaa

/- The document's record (layer 19): Samples, Lost, Len. -/
namespace Go.Proofs.Ytbbmdpkccdcacaa
open Go.RowKit
set_option linter.unusedVariables false
set_option linter.unusedSimpArgs false

theorem ones_take {L : List (Int × Nat)} {k : Nat} {p : Int × Nat} (o : Bool) (h : L[k]? = some p) : onesL (L.take (k + 1)) o = onesL (L.take k) o ++ (if isone p.2 == o then [p] else []) := by
  unfold onesL
  rw [List.take_add_one, h, List.filter_append]
  congr 1
  by_cases hp : (isone p.2 == o) = true
  · rw [if_pos hp]; simp [hp]
  · rw [if_neg hp]; simp [hp]
set_option maxHeartbeats 3200000 in
set_option maxRecDepth 100000 in
theorem d19samples_any (base rb : Nat) (L : List (Int × Nat)) (w : World) (h : DocAt w base rb L) :
    Calls Try.prog 18 #[.pointer (some ⟨rb, 0, none⟩)] w fun e w' => ∃ v : Value, e = .returned v ∧ Hid (w'.ownsRow w.heap.size 40 2 v (onesL L true).length (smC (onesL L true))) ∧ Below w.heap.size w w' := by
  obtain ⟨i0, hi, hz0, hz1, hz2⟩ := info_parts Try.yinfoS
  obtain ⟨v, hb, ho⟩ := h.box
  obtain ⟨a, cap, rfl, HV⟩ := yshape ho
  have HB := hid hb
  have HVV := hid HV
  have HOK := hid h.ok
  have hf := h.ok.few
  clear h HV hb ho
  go_enter Try.func18, Try.ntmps18
  go_wp2_with fail
  go_loopw [3, 4] (fun v x wr => ∃ k : Nat, k ≤ L.length ∧ x = .int .i64 (k : Int) ∧ Hid (wr.ownsRow w.heap.size 40 2 v (onesL (L.take k) true).length (smC (onesL (L.take k) true))) ∧ Hid (Below w.heap.size w wr)) (fun _ x _ => L.length - (intOf x).toNat)
  case atStart => exact ⟨0, Nat.zero_le _, rfl, World.ownsRow_nil _ _ _ _, Below.refl _ _⟩
  case round =>
    obtain ⟨k, hk, rfl, HO, HW⟩ := hrel
    have HN := hid (d19none_any rb _ wr (HB.out.later HW.out HB.out.lt))
    have c1 : wr.cell? ⟨rb, 1, none⟩ = some (.slice a L.length cap) := (HB.out.later HW.out HB.out.lt).cell 1
    by_cases hlt : k < L.length
    · obtain ⟨p, hp⟩ : ∃ p, L[k]? = some p := ⟨_, List.getElem?_eq_getElem hlt⟩
      have HT := hid (ones_take true hp)
      obtain ⟨t, b⟩ := p
      have HOne := hid (fun V => d19one_any t b V (HOK.out.tick _ (List.mem_of_getElem? hp)).2.2)
      have hsm := smC_at hp
      obtain ⟨g, rfl, hg, hc⟩ := HVV.out.get hsm.1
      have HC : Hid (∀ V, Below w.heap.size w V → V.cell? ⟨rb, 1, none⟩ = some (.slice (some ⟨g, 0, none⟩) L.length cap) ∧ V.cell? ⟨g, k * 2, none⟩ = some (.int .i64 t) ∧ V.cell? ⟨g, k * 2 + 1, none⟩ = some (.float .f64 b)) := fun V hV =>
        ⟨(HB.out.later hV HB.out.lt).cell 1, (hV.cell (p := ⟨g, k * 2, none⟩) hg).trans (hc _ _ hsm.1), (hV.cell (p := ⟨g, k * 2 + 1, none⟩) hg).trans (hc _ _ hsm.2)⟩
      obtain ⟨_, c2, c3⟩ := HC.out wr HW.out
      have hle : (onesL (L.take k) true).length ≤ k := Nat.le_trans (List.length_filter_le _ _) (by rw [List.length_take]; omega)
      clear hp hsm hc
      generalize onesL (L.take k) true = R at *
      dsimp only at HT
      cases hone : isone b
      · rw [hone] at HOne
        rw [hone] at HT
        clear hone
        go_wp2_with fail
        refine Calls.mono HN.out ?_
        rintro e w1 ⟨rfl, rfl⟩
        go_wp2_with fail
        refine Calls.mono (HOne.out _) ?_
        rintro e w2 ⟨rfl, hb2⟩
        have HB2 := hid (HW.out.trans (hb2.mono HW.out.size))
        have HO2 := hid (yowns_later HO.out hb2)
        clear hb2 HOne HO HW c1 c2 c3
        rw [if_neg (by decide), List.append_nil] at HT
        go_wp2_with fail
        go_roundw
        case rel => exact ⟨k + 1, by omega, by go_num, by rw [HT.out]; exact HO2.out, HB2.out⟩
        case measure => simp [intOf]; omega
      · rw [hone] at HOne
        rw [hone] at HT
        clear hone
        go_wp2_with fail
        refine Calls.mono HN.out ?_
        rintro e w1 ⟨rfl, rfl⟩
        go_wp2_with fail
        refine Calls.mono (HOne.out _) ?_
        rintro e w2 ⟨rfl, hb2⟩
        have HB2 := hid (HW.out.trans (hb2.mono HW.out.size))
        have HO2 := hid (yowns_later HO.out hb2)
        clear hb2 HOne HO HW c1 c2 c3
        rw [if_pos (by decide)] at HT
        obtain ⟨c1, c2, c3⟩ := HC.out w2 HB2.out
        have ho := HO2.out
        have hsz := HB2.out.size
        go_wp2_with (first
          | (at_builtin; refine wpList_append_own _ rfl _ _ 37 rfl w.heap.size 40 i0 (.agg #[.int .i64 0, .float .f64 0]) 2 16 Try.underlying37 hi hz0 hz1 hz2 rfl (by decide) _ _ _ rfl (ho.alloc _) ⟨w2.heap.size, 0, none⟩ 1 1 [.int .i64 t, .float .f64 b] rfl rfl (ycell2 _ _ _ _) (smC_one (t, b)) (by unfold maxLen; omega) (by omega) (by simp; omega) ?_; intro v' w4 ho4 hg4 _)
          | go_in)
        have HB4 := hid ((HB2.out.alloc (by omega) _).grown hg4 (by simp; omega) (fun g hg => (ho.lt g hg).1))
        have HO4 := hid ho4
        clear hg4 ho4
        go_wp2_with fail
        go_roundw
        case rel =>
          refine ⟨k + 1, by omega, by go_num, ?_, HB4.out⟩
          rw [HT.out, List.length_append, smC_append]
          exact HO4.out
        case measure => simp [intOf]; omega
    · obtain rfl : k = L.length := by omega
      have hkk : ¬ (L.length : Int) < (L.length : Int) := by omega
      have HE : Hid (L.take L.length = L) := List.take_length
      rw [HE.out] at HO
      go_wp2_with fail
      refine Calls.mono HN.out ?_
      rintro e w1 ⟨rfl, rfl⟩
      go_wp2_with fail
      go_ret
      exact ⟨_, rfl, HO.out, HW.out⟩
set_option maxHeartbeats 3200000 in
set_option maxRecDepth 100000 in
theorem d19lost_any (base rb : Nat) (L : List (Int × Nat)) (w : World) (h : DocAt w base rb L) :
    Calls Try.prog 21 #[.pointer (some ⟨rb, 0, none⟩)] w fun e w' => ∃ v : Value, e = .returned v ∧ Hid (w'.ownsRow w.heap.size 3 1 v (onesL L false).length (((onesL L false).map (·.1)).map (Value.int .i64))) ∧ Below w.heap.size w w' := by
  obtain ⟨i0, hi, hz0, hz1, hz2⟩ := info_parts Try.yinfoI
  obtain ⟨v, hb, ho⟩ := h.box
  obtain ⟨a, cap, rfl, HV⟩ := yshape ho
  have HB := hid hb
  have HVV := hid HV
  have HOK := hid h.ok
  have hf := h.ok.few
  clear h HV hb ho
  go_enter Try.func21, Try.ntmps21
  go_wp2_with fail
  go_loopw [3, 4] (fun v x wr => ∃ k : Nat, k ≤ L.length ∧ x = .int .i64 (k : Int) ∧ Hid (wr.ownsRow w.heap.size 3 1 v (onesL (L.take k) false).length (((onesL (L.take k) false).map (·.1)).map (Value.int .i64))) ∧ Hid (Below w.heap.size w wr)) (fun _ x _ => L.length - (intOf x).toNat)
  case atStart => exact ⟨0, Nat.zero_le _, rfl, World.ownsRow_nil _ _ _ _, Below.refl _ _⟩
  case round =>
    obtain ⟨k, hk, rfl, HO, HW⟩ := hrel
    have HN := hid (d19none_any rb _ wr (HB.out.later HW.out HB.out.lt))
    have c1 : wr.cell? ⟨rb, 1, none⟩ = some (.slice a L.length cap) := (HB.out.later HW.out HB.out.lt).cell 1
    by_cases hlt : k < L.length
    · obtain ⟨p, hp⟩ : ∃ p, L[k]? = some p := ⟨_, List.getElem?_eq_getElem hlt⟩
      have HT := hid (ones_take false hp)
      obtain ⟨t, b⟩ := p
      have HOne := hid (fun V => d19one_any t b V (HOK.out.tick _ (List.mem_of_getElem? hp)).2.2)
      have hsm := smC_at hp
      obtain ⟨g, rfl, hg, hc⟩ := HVV.out.get hsm.1
      have HC : Hid (∀ V, Below w.heap.size w V → V.cell? ⟨rb, 1, none⟩ = some (.slice (some ⟨g, 0, none⟩) L.length cap) ∧ V.cell? ⟨g, k * 2, none⟩ = some (.int .i64 t) ∧ V.cell? ⟨g, k * 2 + 1, none⟩ = some (.float .f64 b)) := fun V hV =>
        ⟨(HB.out.later hV HB.out.lt).cell 1, (hV.cell (p := ⟨g, k * 2, none⟩) hg).trans (hc _ _ hsm.1), (hV.cell (p := ⟨g, k * 2 + 1, none⟩) hg).trans (hc _ _ hsm.2)⟩
      obtain ⟨_, c2, c3⟩ := HC.out wr HW.out
      have hle : (onesL (L.take k) false).length ≤ k := Nat.le_trans (List.length_filter_le _ _) (by rw [List.length_take]; omega)
      clear hp hsm hc
      generalize onesL (L.take k) false = R at *
      dsimp only at HT
      cases hone : isone b
      · rw [hone] at HOne
        rw [hone] at HT
        clear hone
        go_wp2_with fail
        refine Calls.mono HN.out ?_
        rintro e w1 ⟨rfl, rfl⟩
        go_wp2_with fail
        refine Calls.mono (HOne.out _) ?_
        rintro e w2 ⟨rfl, hb2⟩
        have HB2 := hid (HW.out.trans (hb2.mono HW.out.size))
        have HO2 := hid (yowns_later HO.out hb2)
        clear hb2 HOne HO HW c1 c2 c3
        rw [if_pos (by decide)] at HT
        obtain ⟨c1, c2, c3⟩ := HC.out w2 HB2.out
        have ho := HO2.out
        have hsz := HB2.out.size
        go_wp2_with (first
          | (at_builtin; refine wpList_append_own _ rfl _ _ 55 rfl w.heap.size 3 i0 (.int .i64 0) 1 8 Try.underlying55 hi hz0 hz1 hz2 rfl (by decide) _ _ _ rfl (ho.alloc _) ⟨w2.heap.size, 0, none⟩ 1 1 [.int .i64 t] rfl rfl (cell_one_new _ _ _) (by simp [Value.oneCell']) (by unfold maxLen; omega) (by omega) (by simp; omega) ?_; intro v' w4 ho4 hg4 _)
          | go_in)
        have HB4 := hid ((HB2.out.alloc (by omega) _).grown hg4 (by simp; omega) (fun g hg => (ho.lt g hg).1))
        have HO4 := hid ho4
        clear hg4 ho4
        go_wp2_with fail
        go_roundw
        case rel =>
          refine ⟨k + 1, by omega, by go_num, ?_, HB4.out⟩
          rw [HT.out, List.length_append, List.map_append, List.map_append]
          exact HO4.out
        case measure => simp [intOf]; omega
      · rw [hone] at HOne
        rw [hone] at HT
        clear hone
        go_wp2_with fail
        refine Calls.mono HN.out ?_
        rintro e w1 ⟨rfl, rfl⟩
        go_wp2_with fail
        refine Calls.mono (HOne.out _) ?_
        rintro e w2 ⟨rfl, hb2⟩
        have HB2 := hid (HW.out.trans (hb2.mono HW.out.size))
        have HO2 := hid (yowns_later HO.out hb2)
        clear hb2 HOne HO HW c1 c2 c3
        rw [if_neg (by decide), List.append_nil] at HT
        go_wp2_with fail
        go_roundw
        case rel => exact ⟨k + 1, by omega, by go_num, by rw [HT.out]; exact HO2.out, HB2.out⟩
        case measure => simp [intOf]; omega
    · obtain rfl : k = L.length := by omega
      have hkk : ¬ (L.length : Int) < (L.length : Int) := by omega
      have HE : Hid (L.take L.length = L) := List.take_length
      rw [HE.out] at HO
      go_wp2_with fail
      refine Calls.mono HN.out ?_
      rintro e w1 ⟨rfl, rfl⟩
      go_wp2_with fail
      go_ret
      exact ⟨_, rfl, HO.out, HW.out⟩
end Go.Proofs.Ytbbmdpkccdcacaa

/- Layer 19's over: samples are written over. -/
namespace Go.Proofs.Ytbbmdpkccdcacaa
open Go.RowKit
set_option linter.unusedVariables false
set_option linter.unusedSimpArgs false

theorem grownBy_put {w W : World} {g j : Nat} {v : Value} (h : w.grownBy W (some g)) : w.grownBy (W.setCell ⟨g, j, none⟩ v) (some g) :=
  ⟨h.os, h.tape, h.output, by simpa [World.setCell] using h.size, fun i hi hr => (Below.heap_setCell _ _ _ _ (fun e => hr (by rw [show i = g from e]))).trans (h.block i hi hr)⟩
set_option maxHeartbeats 3200000 in
set_option maxRecDepth 100000 in
theorem yover (base : Nat) (a : Option Addr) (n cap : Nat) (R : List Value) (w : World) (h : w.ownsRow base 40 2 (.slice a n cap) n R) (hn : n ≤ 100000) :
    Calls Try.prog 16 #[.slice a n cap] w fun e w' => e = .returned (.tuple #[]) ∧ w.grownBy w' (Value.ownBlock (.slice a n cap)) := by
  have sF : ∀ (W : World) (p : Addr) (y : Nat) (md : Mode), (store p (.float .f64 y) md).run Try.prog W = stored Try.prog W p (.float .f64 y) md := fun W p y md => run_store Try.prog W p _ md rfl
  rcases h.2 with ⟨hv, h0⟩ | ⟨g, cap', cur, hv, h1, h2, h3, h4, h5, h6⟩
  · injection hv with e1 e2 e3
    subst e1 e2 e3
    go_enter Try.func16, Try.ntmps16
    go_wp2_with fail
    go_loopw [2] (fun x wr => x = .int .i64 0 ∧ wr = w) (fun _ _ => 0)
    case atStart => exact ⟨rfl, rfl⟩
    case round =>
      obtain ⟨rfl, rfl⟩ := hrel
      go_wp2_with fail
      go_end0
      exact ⟨rfl, (World.grownBy.refl _ _)⟩
  · injection hv with e1 e2 e3
    subst e1 e3
    have HF : Hid (FBox w g 40 cur) := h2
    have hsz : n * 2 ≤ cur.size := by rw [h5]; omega
    clear h h1 h2 h3 h4 h5 h6
    go_enter Try.func16, Try.ntmps16
    go_wp2_with fail
    go_loopw [2] (fun x wr => ∃ (k : Nat) (cu : Array Value), k ≤ n ∧ x = .int .i64 (k : Int) ∧ n * 2 ≤ cu.size ∧ Hid (FBox wr g 40 cu) ∧ Hid (w.grownBy wr (some g))) (fun x _ => n - (intOf x).toNat)
    case atStart => exact ⟨0, cur, Nat.zero_le _, rfl, hsz, HF.out, World.grownBy.refl _ _⟩
    case round =>
      obtain ⟨k, cu, hk, rfl, hcs, HB, HG⟩ := hrel
      clear HF
      by_cases hlt : k < n
      · obtain ⟨x0, hx0⟩ : ∃ x, cu[k * 2]? = some x := ⟨_, Array.getElem?_eq_getElem (by omega)⟩
        obtain ⟨x1, hx1⟩ : ∃ x, cu[k * 2 + 1]? = some x := ⟨_, Array.getElem?_eq_getElem (by omega)⟩
        have c0 : wr.cell? ⟨g, k * 2, none⟩ = some x0 := by rw [HB.out.cell, hx0]
        have q0 : wr.frozen? ⟨g, k * 2, none⟩ = false := HB.out.free _
        have H1 := hid (HB.out.set (k * 2) (.int .i64 (-7)))
        have c1 : (wr.setCell ⟨g, k * 2, none⟩ (.int .i64 (-7))).cell? ⟨g, k * 2 + 1, none⟩ = some x1 := by
          rw [H1.out.cell, Array.getElem?_setIfInBounds, if_neg (by omega), hx1]
        have q1 : (wr.setCell ⟨g, k * 2, none⟩ (.int .i64 (-7))).frozen? ⟨g, k * 2 + 1, none⟩ = false := H1.out.free _
        have H2 := hid (H1.out.set (k * 2 + 1) (.float .f64 13842939354630062080))
        have hk1 : (k : Int) < (n : Int) := by omega
        clear hx0 hx1
        go_wp2_with fail
        exact ⟨⟨k + 1, _, by omega, by go_num, by simpa using hcs, H2.out, grownBy_put (grownBy_put HG.out)⟩, by simp [intOf]; omega⟩
      · obtain rfl : k = n := by omega
        have hkk : ¬ (k : Int) < (k : Int) := by omega
        go_wp2_with fail
        go_end0
        exact ⟨rfl, HG.out⟩
end Go.Proofs.Ytbbmdpkccdcacaa

/- package record: what is no record: each call, where made says no. -/
namespace Go.Proofs.Ytbbmdpkccdcacaa
open Go.RowKit
set_option linter.unusedVariables false
set_option linter.unusedSimpArgs false

/-- A pointer that leads to no record, in this world and in all that follow. -/
def NoRec (p : Value) (V : World) : Prop := ∀ W, Below V.heap.size V W → Calls Try.prog 47 #[p] W fun e w' => e = .returned (.bool false) ∧ w' = W
theorem NoRec.later {p : Value} {V W : World} (h : NoRec p V) (hb : Below V.heap.size V W) : NoRec p W := fun X hx => h X (hb.trans (hx.mono hb.size))
theorem norec_nil (V : World) : NoRec (.pointer none) V := fun W _ => ymade_nil W
theorem norec_un {rb : Nat} {V : World} (h : FBox V rb 61 #[.map none]) : NoRec (.pointer (some ⟨rb, 0, none⟩)) V := fun W hb => ymade_un rb W (h.later hb h.lt)
theorem zat (p : Value) (t : Int) (V : World) (h : NoRec p V) : Calls Try.prog 29 #[p, .int .i64 t] V fun e w' => e = .returned (.tuple #[.float .f64 0, .bool false]) ∧ w' = V := by
  have HM := hid (h V (Below.refl _ _))
  clear h
  go_enter Try.func29, Try.ntmps29
  go_wp2_with fail
  refine Calls.mono HM.out ?_
  rintro e w1 ⟨rfl, rfl⟩
  go_wp2_with fail
  go_ret2
  exact ⟨rfl, rfl⟩
theorem zlookAt (p : Value) (a b : Int) (V : World) (h : NoRec p V) : Calls Try.prog 50 #[p, .int .i64 a, .int .i64 b] V fun e w' => e = .returned (.int .i64 1) ∧ w' = V := by
  have HM := hid (h V (Below.refl _ _))
  clear h
  go_enter Try.func50, Try.ntmps50
  go_wp2_with fail
  refine Calls.mono HM.out ?_
  rintro e w1 ⟨rfl, rfl⟩
  go_wp2_with fail
  go_ret
  exact ⟨rfl, rfl⟩
theorem ztake (p : Value) (t : Int) (V : World) (h : NoRec p V) : Calls Try.prog 26 #[p, .int .i64 t] V fun e w' => e = .returned (.int .i64 1) ∧ w' = V := by
  have HM := hid (h V (Below.refl _ _))
  clear h
  go_enter Try.func26, Try.ntmps26
  go_wp2_with fail
  refine Calls.mono HM.out ?_
  rintro e w1 ⟨rfl, rfl⟩
  go_wp2_with fail
  go_ret
  exact ⟨rfl, rfl⟩
theorem zticks (p : Value) (o : Bool) (V : World) (h : NoRec p V) : Calls Try.prog 41 #[p, .bool o] V fun e w' => e = .returned (.slice none 0 0) ∧ w' = V := by
  have HM := hid (h V (Below.refl _ _))
  clear h
  go_enter Try.func41, Try.ntmps41
  go_wp2_with fail
  refine Calls.mono HM.out ?_
  rintro e w1 ⟨rfl, rfl⟩
  go_wp2_with fail
  go_ret
  exact ⟨rfl, rfl⟩
theorem zadd (p : Value) (t : Int) (b : Nat) (V : World) (h : NoRec p V) : Calls Try.prog 24 #[p, .agg #[.int .i64 t, .float .f64 b]] V fun e w' => e = .returned (.int .i64 1) ∧ Below V.heap.size V w' := by
  obtain ⟨X, hX⟩ : ∃ X, V.alloc (.cells #[.int .i64 t, .float .f64 b] 40) = X := ⟨_, rfl⟩
  have HB : Hid (Below V.heap.size V X) := by rw [← hX]; exact (Below.refl _ V).alloc (Nat.le_refl _) _
  have HM := hid (h X HB.out)
  clear h
  go_enter Try.func24, Try.ntmps24
  go_wp2_with fail
  clear hX
  refine Calls.mono HM.out ?_
  rintro e w1 ⟨rfl, rfl⟩
  go_wp2_with fail
  go_ret
  exact ⟨rfl, HB.out⟩
theorem zlen (p : Value) (V : World) (h : NoRec p V) : Calls Try.prog 25 #[p] V fun e w' => e = .returned (.int .i64 0) ∧ w' = V := by
  have HM := hid (zticks p true V h)
  clear h
  go_enter Try.func25, Try.ntmps25
  go_wp2_with fail
  refine Calls.mono HM.out ?_
  rintro e w1 ⟨rfl, rfl⟩
  go_wp2_with fail
  go_ret
  exact ⟨rfl, rfl⟩
theorem zlost (p : Value) (V : World) (h : NoRec p V) : Calls Try.prog 20 #[p] V fun e w' => e = .returned (.slice none 0 0) ∧ w' = V := by
  have HM := hid (zticks p false V h)
  have HS := hid (Try.slices_Sort_int_none none 0 V)
  clear h
  go_enter Try.func20, Try.ntmps20
  go_wp2_with fail
  refine Calls.mono HM.out ?_
  rintro e w1 ⟨rfl, rfl⟩
  go_wp2_with fail
  refine Calls.mono HS.out ?_
  rintro e w2 ⟨rfl, rfl⟩
  go_wp2_with fail
  go_ret
  exact ⟨rfl, rfl⟩
theorem zsamples (p : Value) (V : World) (h : NoRec p V) : Calls Try.prog 17 #[p] V fun e w' => e = .returned (.slice none 0 0) ∧ w' = V := by
  have HM := hid (zticks p true V h)
  have HS := hid (Try.slices_Sort_int_none none 0 V)
  clear h
  go_enter Try.func17, Try.ntmps17
  go_wp2_with fail
  refine Calls.mono HM.out ?_
  rintro e w1 ⟨rfl, rfl⟩
  go_wp2_with fail
  refine Calls.mono HS.out ?_
  rintro e w2 ⟨rfl, rfl⟩
  go_wp2_with fail
  refine wp_loop_rounds 1 ?_
  rw [rounds_succ]
  go_wp2_with fail
  go_ret
  exact ⟨rfl, rfl⟩
theorem zbetween (p : Value) (a b : Int) (w : World) (h : NoRec p w) : Calls Try.prog 28 #[p, .int .i64 a, .int .i64 b] w fun e w' => e = .returned (.tuple #[.slice none 0 0, .int .i64 1]) ∧ Below w.heap.size w w' := by
  obtain ⟨V0, hV0⟩ : ∃ V0, (w.alloc (.cells #[.int .i64 a] 3)).alloc (.cells #[.int .i64 b] 3) = V0 := ⟨_, rfl⟩
  have HA0 : Hid (FBox V0 w.heap.size 3 #[.int .i64 a] ∧ FBox V0 (w.heap.size + 1) 3 #[.int .i64 b] ∧ Below w.heap.size w V0) := by
    rw [← hV0]
    have q1 := FBox.made w 3 #[.int .i64 a]
    have q2 := FBox.made (w.alloc (.cells #[.int .i64 a] 3)) 3 #[.int .i64 b]
    rw [show (w.alloc (.cells #[.int .i64 a] 3)).heap.size = w.heap.size + 1 by simp] at q2
    exact ⟨q1.later ((Below.refl _ _).alloc (Nat.le_refl _) _) q1.lt, q2, ((Below.refl _ _).alloc (Nat.le_refl _) _).alloc (by simp) _⟩
  have HLk := hid (zlookAt p a b V0 (h.later HA0.out.2.2))
  have c0 : V0.cell? ⟨w.heap.size, 0, none⟩ = some (.int .i64 a) := HA0.out.1.cell 0
  have c1 : V0.cell? ⟨w.heap.size + 1, 0, none⟩ = some (.int .i64 b) := HA0.out.2.1.cell 0
  clear h
  go_enter Try.func28, Try.ntmps28
  go_wp2_with fail
  clear hV0
  refine Calls.mono HLk.out ?_
  rintro e w1 ⟨rfl, rfl⟩
  go_wp2_with fail
  go_ret2
  exact ⟨rfl, HA0.out.2.2⟩
theorem zgaps (p : Value) (a b : Int) (w : World) (h : NoRec p w) : Calls Try.prog 27 #[p, .int .i64 a, .int .i64 b] w fun e w' => e = .returned (.tuple #[.slice none 0 0, .int .i64 1]) ∧ Below w.heap.size w w' := by
  have HB := hid (zbetween p a b w h)
  clear h
  go_enter Try.func27, Try.ntmps27
  go_wp2_with fail
  refine Calls.mono HB.out ?_
  rintro e w1 ⟨rfl, hb⟩
  have HB1 := hid hb
  clear hb HB
  go_wp2_with fail
  go_ret2
  exact ⟨rfl, HB1.out⟩
end Go.Proofs.Ytbbmdpkccdcacaa

/- Layer 19's own: a sample by its bits; All of what is no record. -/
namespace Go.Proofs.Ytbbmdpkccdcacaa
open Go.RowKit
set_option linter.unusedVariables false
set_option linter.unusedSimpArgs false

theorem zall (p : Value) (w : World) (h : NoRec p w) : Calls Try.prog 39 #[p] w fun e w' => ∃ q : Nat, e = .returned (.func (.func 58) #[] #[.pointer (some ⟨q, 0, none⟩)]) ∧ Hid (FBox w' q 37 #[.slice none 0 0]) ∧ Hid (w.heap.size ≤ q) ∧ Below w.heap.size w w' := by
  have HS := hid (zsamples p w h)
  clear h
  go_enter Try.func39, Try.ntmps39
  go_wp2_with fail
  refine Calls.mono HS.out ?_
  rintro e w1 ⟨rfl, rfl⟩
  obtain ⟨Y, hY⟩ : ∃ Y, w1.alloc (.cells #[.slice none 0 0] 37) = Y := ⟨_, rfl⟩
  have HN : Hid (FBox Y w1.heap.size 37 #[.slice none 0 0]) := by rw [← hY]; exact FBox.made _ _ _
  have HBY : Hid (Below w1.heap.size w1 Y) := by rw [← hY]; exact (Below.refl _ _).alloc (Nat.le_refl _) _
  have c0 : Y.cell? ⟨w1.heap.size, 0, none⟩ = some (.slice none 0 0) := HN.out.cell 0
  have f0 : Y.frozen? ⟨w1.heap.size, 0, none⟩ = false := HN.out.free 0
  clear HS
  go_wp2_with fail
  go_ret
  exact ⟨w1.heap.size, rfl, HN.out.set 0 (.slice none 0 0), Nat.le_refl _, HBY.out.setCell (p := ⟨w1.heap.size, 0, none⟩) (Nat.le_refl _) _⟩
set_option maxHeartbeats 1600000 in
set_option maxRecDepth 100000 in
theorem ysample (t : Int) (b : Nat) (w : World) : Calls Try.prog 12 #[.agg #[.int .i64 t, .int .u64 (b : Int)]] w fun e w' => e = .returned (.agg #[.int .i64 t, .float .f64 b]) ∧ Below w.heap.size w w' := by
  obtain ⟨X, hX⟩ : ∃ X, (w.alloc (.cells #[.int .i64 t, .int .u64 (b : Int)] 42)).alloc (.cells #[.int .i64 0, .float .f64 0] 40) = X := ⟨_, rfl⟩
  have HX : Hid (FBox X w.heap.size 42 #[.int .i64 t, .int .u64 (b : Int)] ∧ FBox X (w.heap.size + 1) 40 #[.int .i64 0, .float .f64 0] ∧ Below w.heap.size w X) := by
    rw [← hX]
    have q1 := FBox.made w 42 #[.int .i64 t, .int .u64 (b : Int)]
    have q2 := FBox.made (w.alloc (.cells #[.int .i64 t, .int .u64 (b : Int)] 42)) 40 #[.int .i64 0, .float .f64 0]
    rw [show (w.alloc (.cells #[.int .i64 t, .int .u64 (b : Int)] 42)).heap.size = w.heap.size + 1 by simp] at q2
    exact ⟨q1.later ((Below.refl _ _).alloc (Nat.le_refl _) _) q1.lt, q2, ((Below.refl _ _).alloc (Nat.le_refl _) _).alloc (by simp) _⟩
  have HF : ∀ V, (callFunc 40 #[.int .u64 (b : Int)]).run Try.prog V = .ok (.value (.float .f64 b)) V := from_run b
  have sF : ∀ (W : World) (p : Addr) (y : Nat) (md : Mode), (store p (.float .f64 y) md).run Try.prog W = stored Try.prog W p (.float .f64 y) md := fun W p y md => run_store Try.prog W p _ md rfl
  have c0 : X.cell? ⟨w.heap.size, 0, none⟩ = some (.int .i64 t) := HX.out.1.cell 0
  have c1 : X.cell? ⟨w.heap.size, 1, none⟩ = some (.int .u64 (b : Int)) := HX.out.1.cell 1
  have H1 := hid (HX.out.2.1.set 0 (.int .i64 t))
  have H2 := hid (H1.out.set 1 (.float .f64 b))
  have d0 : X.cell? ⟨w.heap.size + 1, 0, none⟩ = some (.int .i64 0) := HX.out.2.1.cell 0
  have g0 : X.frozen? ⟨w.heap.size + 1, 0, none⟩ = false := HX.out.2.1.free 0
  have d1 : (X.setCell ⟨w.heap.size + 1, 0, none⟩ (.int .i64 t)).cell? ⟨w.heap.size + 1, 1, none⟩ = some (.float .f64 0) := H1.out.cell 1
  have g1 : (X.setCell ⟨w.heap.size + 1, 0, none⟩ (.int .i64 t)).frozen? ⟨w.heap.size + 1, 1, none⟩ = false := H1.out.free 1
  go_enter Try.func12, Try.ntmps12
  go_upto_region 1 with fail
  clear hX
  go_region
  have e0 := H2.out.cell 0
  have e1 := H2.out.cell 1
  have HB := hid ((HX.out.2.2.setCell (p := ⟨w.heap.size + 1, 0, none⟩) (show w.heap.size ≤ w.heap.size + 1 by omega) (.int .i64 t)).setCell (p := ⟨w.heap.size + 1, 1, none⟩) (show w.heap.size ≤ w.heap.size + 1 by omega) (.float .f64 b))
  clear HF sF c0 c1 d0 g0 d1 g1 HX H1
  generalize (X.setCell ⟨w.heap.size + 1, 0, none⟩ (.int .i64 t)).setCell ⟨w.heap.size + 1, 1, none⟩ (.float .f64 b) = Y at *
  have e0' : Y.drew.cell? ⟨w.heap.size + 1, 0, none⟩ = some (.int .i64 t) := e0
  have e1' : Y.drew.cell? ⟨w.heap.size + 1, 1, none⟩ = some (.float .f64 b) := e1
  go_wp2_with fail
  refine bodyPost_ret (v := .agg #[.int .i64 t, .float .f64 b]) (by simp [results, Try.results12, go_sem, e0', e1']) rfl ?_
  exact ⟨rfl, HB.out.drew⟩
end Go.Proofs.Ytbbmdpkccdcacaa

/- The law RecordFrom answers true, of every list of samples. -/
namespace Go.Proofs.Ytbbmdpkccdcacaa
open Go.RowKit
set_option linter.unusedVariables false
set_option linter.unusedSimpArgs false

/-- append to a row of the call's own, as one step of a region: where the row lies behind it is told. -/
theorem step_append_own_at {P : Program} {ops : Array Oper} {o : Oper} {a : Act} {w : World} {K : Act → World → Prop} {Q : Exit → Act → World → Prop} {E : Prop}
    (hg : o.guard = none) (s x : Operand) (t : TypeId) (hop : o.op = Op.call { callee := Callee.builtin Builtin.append, args := #[s, x], argTypes := #[t, t] })
    (base : Nat) (e : TypeId) (i : TypeInfo) (z : Value) (size bytes : Nat) (h1 : P.underlying t = some (.slice e)) (h2 : P.info? e = some i) (h3 : i.zero = some z) (h4 : i.size = size) (h5 : i.bytes = bytes) (h6 : z.cells.size = size) (h7 : 0 < size)
    (v : Value) (n : Nat) (xs : List Value) (hs : a.eval s = v) (hown : w.ownsRow base e size v n xs)
    (ad : Addr) (m c : Nat) (news : List Value) (hx : a.eval x = .slice (some ad) m c) (hn : news.length = m * size) (hc : ∀ j u, news[j]? = some u → w.cell? (ad.add j) = some u) (h1c : ∀ u ∈ news, u.oneCell' = true)
    (b1 : n + m ≤ maxLen) (b2 : (n + m) * bytes ≤ 140737488355328) (hbase : base ≤ w.heap.size)
    (hK : ∀ v' w', w'.ownsRow base e size v' (n + m) (xs ++ news) → w.grownBy w' v.ownBlock → (v'.ownBlock = v.ownBlock ∨ v'.ownBlock = some w.heap.size) → K (a.put o.dst v') w') :
    if Region.wanted o (yielded ops a.tmps) = true then Oper.wp P o a w K Q else E := by
  have hw : Region.wanted o (yielded ops a.tmps) = true := by simp [Region.wanted, hg]
  rw [if_pos hw]
  obtain ⟨v', w', hrun, r1, r2, _, r3⟩ := run_append_own_at (P := P) w base t o.type e i z size bytes h1 h2 h3 h4 h5 h6 h7 v n xs hown ad m c news hn hc h1c b1 b2 hbase
  unfold Oper.wp
  simp [execOp, hop, resolve, invoke, builtin, hs, hx, hrun, Result.andThen]
  exact hK v' w' r1 r2 r3
/-- Two rows of samples that the law makes, side by side. -/
structure FwS (w : World) (k1 : Nat) (R1 : List Value) (v : Value) (k2 : Nat) (R2 : List Value) (u : Value) (W : World) : Prop where
  bel : Below w.heap.size w W
  fst : W.ownsRow w.heap.size 40 2 v k1 R1
  snd : W.ownsRow w.heap.size 40 2 u k2 R2
  ne : v.ownBlock = none ∨ v.ownBlock ≠ u.ownBlock
theorem FwS.later {w W W' : World} {k1 k2 : Nat} {R1 R2 : List Value} {v u : Value} (h : FwS w k1 R1 v k2 R2 u W) (hb : Below W.heap.size W W') : FwS w k1 R1 v k2 R2 u W' := ⟨ybt' h.bel hb, yowns_later h.fst hb, yowns_later h.snd hb, h.ne⟩
theorem FwS.ne' {w W : World} {k1 k2 : Nat} {R1 R2 : List Value} {v u : Value} (h : FwS w k1 R1 v k2 R2 u W) : u.ownBlock = none ∨ u.ownBlock ≠ v.ownBlock := by
  rcases h.ne with h | h
  · rw [h]
    cases u.ownBlock with
    | none => exact .inl rfl
    | some x => exact .inr (by simp)
  · exact .inr (fun e => h e.symm)
theorem FwS.one {w W W' : World} {k1 k2 k1' : Nat} {R1 R2 R1' : List Value} {v u v' : Value} (h : FwS w k1 R1 v k2 R2 u W) (o : W'.ownsRow w.heap.size 40 2 v' k1' R1') (hg : W.grownBy W' v.ownBlock) (ha : v'.ownBlock = v.ownBlock ∨ v'.ownBlock = some W.heap.size) : FwS w k1' R1' v' k2 R2 u W' := by
  refine ⟨h.bel.grown hg h.bel.size (fun q e => (h.fst.lt q e).1), o, h.snd.kept hg h.ne', ?_⟩
  rcases ha with ha | ha
  · rw [ha]; exact h.ne
  · right
    rw [ha]
    intro e
    have := (h.snd.lt _ e.symm).2
    omega
theorem FwS.two {w W W' : World} {k1 k2 k2' : Nat} {R1 R2 R2' : List Value} {v u u' : Value} (h : FwS w k1 R1 v k2 R2 u W) (o : W'.ownsRow w.heap.size 40 2 u' k2' R2') (hg : W.grownBy W' u.ownBlock) (ha : u'.ownBlock = u.ownBlock ∨ u'.ownBlock = some W.heap.size) : FwS w k1 R1 v k2' R2' u' W' := by
  refine ⟨h.bel.grown hg h.bel.size (fun q e => (h.snd.lt q e).1), h.fst.kept hg h.ne, o, ?_⟩
  rcases ha with ha | ha
  · rw [ha]; exact h.ne
  · right
    rw [ha]
    intro e
    have := (h.fst.lt _ e).2
    omega
theorem yfeqN (e i : Int) (w : World) : (Op.equalIn 10000 46 (.agg #[.int .i64 e, .int .i64 i]) (.agg #[.int .i64 e, .int .i64 i])).run Try.prog w = .ok true w := by
  have u1 := Try.underlying3
  have u2 := Try.underlying44
  have hS : Try.prog.underlying 46 = some (.struct (Try.prog.fieldsOf 46)) := by kernel_rfl
  rw [show (10000 : Nat) = 9999 + 1 from rfl, run_equalIn_agg w 9999 46 _ _ hS (by kernel_rfl)]
  simp only [Program.fieldsOf, Try.underlying46]
  go_simp
/-- What stands behind the two calls of From. -/
structure FsS (w : World) (k : Nat) (R : List Value) (v u : Value) (rb mb rb2 base fb gb : Nat) (L : List (Int × Nat)) (E I : Int) (W : World) : Prop where
  rows : FwS w k R v k R u W
  rcd : RecAt W rb mb L
  doc : DocAt W base rb2 L
  f : FBox W fb 46 #[.int .i64 E, .int .i64 I]
  g : FBox W gb 46 #[.int .i64 E, .int .i64 I]
theorem FsS.later {w W W' : World} {k : Nat} {R : List Value} {v u : Value} {rb mb rb2 base fb gb : Nat} {L : List (Int × Nat)} {E I : Int} (h : FsS w k R v u rb mb rb2 base fb gb L E I W) (hb : Below W.heap.size W W') : FsS w k R v u rb mb rb2 base fb gb L E I W' :=
  ⟨h.rows.later hb, h.rcd.later hb, h.doc.later hb, h.f.later hb h.f.lt, h.g.later hb h.g.lt⟩
theorem yrdv2 {w : World} {base e s n cap : Nat} {a : Option Addr} {xs : List Value} (h : w.ownsRow base e s (.slice a n cap) n xs) : RdV w a xs := by
  obtain ⟨a', c', e, h⟩ := yshape h
  injection e with e1 e2 e3
  subst e1
  exact h
theorem yalloc_later (W : World) (o : Obj) : Below W.heap.size W (W.alloc o) := (Below.refl _ _).alloc (Nat.le_refl _) _
set_option maxHeartbeats 1600000 in
set_option maxRecDepth 100000 in
theorem recordFrom_long (a : Option Addr) (n cap : Nat) (w : World) (hn : 5000 < n) (hm : n ≤ 9223372036854775807) :
    Calls Try.prog 4 #[.slice a n cap] w fun e w' => e = .returned (.bool true) ∧ Below w.heap.size w w' := by
  have h1 : (5000 : Int) < (n : Int) := by omega
  go_enter Try.func4, Try.ntmps4
  go_wp2_with fail
  go_ret
  exact ⟨rfl, Below.refl _ _⟩
set_option maxHeartbeats 6400000 in
set_option maxRecDepth 100000 in
theorem recordFrom_go (a : Option Addr) (n cap : Nat) (xs : List (Int × Nat)) (w : World) (hn : n ≤ 5000) (hd : RdB w a n xs) :
    Calls Try.prog 4 #[.slice a n cap] w fun e w' => e = .returned (.bool true) ∧ Below w.heap.size w w' := by
  obtain ⟨i0, hi, hz0, hz1, hz2⟩ := info_parts Try.yinfoS
  have h5 : ¬ (5000 : Int) < (n : Int) := by omega
  have HD := hid hd
  clear hd
  go_enter Try.func4, Try.ntmps4
  go_wp2_with fail
  go_loopw [3, 4, 5] (fun v u x wr => ∃ k : Nat, k ≤ n ∧ x = .int .i64 (k : Int) ∧ Hid (FwS w k (smC (xs.take k)) v k (smC (xs.take k)) u wr)) (fun _ _ x _ => n - (intOf x).toNat)
  case atStart => exact ⟨0, Nat.zero_le _, rfl, ⟨Below.refl _ _, World.ownsRow_nil _ _ _ _, World.ownsRow_nil _ _ _ _, .inl rfl⟩⟩
  case round =>
    obtain ⟨k, hk, rfl, HF⟩ := hrel
    by_cases hlt : k < n
    · obtain ⟨p, hp⟩ : ∃ p, xs[k]? = some p := ⟨_, List.getElem?_eq_getElem (by rw [HD.out.1]; exact hlt)⟩
      obtain ⟨t, b⟩ := p
      obtain ⟨ht, hb⟩ := HD.out.2.1 _ (List.mem_of_getElem? hp)
      obtain ⟨g, o, rfl, hg, hc⟩ := HD.out.2.2.resolve_left (by omega)
      obtain ⟨q0, q1⟩ := hc k _ hp
      have HC : Hid (∀ V, Below w.heap.size w V → V.cell? ⟨g, o + k * 2, none⟩ = some (.int .i64 t) ∧ V.cell? ⟨g, o + k * 2 + 1, none⟩ = some (.int .u64 (b : Int))) := fun V hv => ⟨(hv.cell (p := ⟨g, o + k * 2, none⟩) hg).trans q0, (hv.cell (p := ⟨g, o + k * 2 + 1, none⟩) hg).trans q1⟩
      have HT := hid (smC_take hp)
      have HF0 := hid (HF.out.later ((Below.refl _ _).drew))
      have hs0 := HC.out _ HF0.out.bel
      obtain ⟨c0, c1⟩ := HC.out wr HF.out.bel
      have HSA := hid (ysample t b wr.drew)
      clear hp ht hb hc q0 q1
      generalize smC (xs.take k) = R at *
      go_wp2_with fail
      go_region_held3 (fun V : World => V.cell? ⟨g, o + k * 2, none⟩ = some (.int .i64 t) ∧ V.cell? ⟨g, o + k * 2 + 1, none⟩ = some (.int .u64 (b : Int))) (first | exact hs0 | exact hs1 | exact hs1a | exact hs2 | exact hs3 | exact hs3a | exact hs4 | go_keep)
        (first
          | (go_at_call 12; with_reducible refine Calls.mono HSA.out ?_; rintro e x1 ⟨rfl, hx1⟩; have HF1 := hid (HF0.out.later hx1); have hs1 := HC.out _ HF1.out.bel; have HF1a := hid (HF1.out.later (yalloc_later x1 (.cells #[.int .i64 t, .float .f64 b] 40))); have hs1a := HC.out _ HF1a.out.bel)
          | (refine step_append_own_at rfl (.tmp 19) (.tmp 25) 37 rfl w.heap.size 40 i0 (.agg #[.int .i64 0, .float .f64 0]) 2 16 Try.underlying37 hi hz0 hz1 hz2 rfl (by decide) u3 k R rfl HF1a.out.fst ⟨x1.heap.size, 0, none⟩ 1 1 [.int .i64 t, .float .f64 b] rfl rfl (ycell2 x1 _ _ _) (smC_one (t, b)) (by unfold maxLen; omega) (by omega) HF1a.out.bel.size ?_; intro v1 y1 o1 gr1 at1; have HF2 := hid (HF1a.out.one o1 gr1 at1); have hs2 := HC.out _ HF2.out.bel; have HSB := hid (ysample t b y1))
          | (go_at_call 12; with_reducible refine Calls.mono HSB.out ?_; rintro e x2 ⟨rfl, hx2⟩; have HF3 := hid (HF2.out.later hx2); have hs3 := HC.out _ HF3.out.bel; have HF3a := hid (HF3.out.later (yalloc_later x2 (.cells #[.int .i64 t, .float .f64 b] 40))); have hs3a := HC.out _ HF3a.out.bel)
          | (refine step_append_own_at rfl (.tmp 27) (.tmp 33) 37 rfl w.heap.size 40 i0 (.agg #[.int .i64 0, .float .f64 0]) 2 16 Try.underlying37 hi hz0 hz1 hz2 rfl (by decide) u4 k R rfl HF3a.out.snd ⟨x2.heap.size, 0, none⟩ 1 1 [.int .i64 t, .float .f64 b] rfl rfl (ycell2 x2 _ _ _) (smC_one (t, b)) (by unfold maxLen; omega) (by omega) HF3a.out.bel.size ?_; intro v2 y2 o2 gr2 at2; have HF4 := hid (HF3a.out.two o2 gr2 at2); have hs4 := HC.out _ HF4.out.bel))
      clear hs0 hs1 hs1a hs2 hs3 hs3a hs4 c0 c1
      have HFF : Hid (FwS w (k + 1) (smC (xs.take (k + 1))) v1 (k + 1) (smC (xs.take (k + 1))) v2 y2) := by rw [HT.out]; exact HF4.out
      go_wp2_with fail
      go_roundw
      case rel => exact ⟨k + 1, by omega, by go_num, HFF.out⟩
      case measure => simp [intOf]; omega
    · obtain rfl : k = n := by omega
      have HX : Hid (∀ p ∈ xs, I64 p.1 ∧ p.2 < 18446744073709551616) := HD.out.2.1
      have HL : Hid (xs.length = k) := HD.out.1
      have htk : xs.take k = xs := by rw [← HL.out]; exact List.take_length
      rw [htk] at HF
      clear htk HD
      obtain ⟨a1, c1, rfl, V1⟩ := yshape HF.out.fst
      obtain ⟨a2, c2, rfl, V2⟩ := yshape HF.out.snd
      have hkk : ¬ (k : Int) < (k : Int) := by omega
      have HA := hid (yfrom_any a1 k c1 xs wr (by omega) HL.out HX.out (RdS.of V1))
      clear V1 V2
      go_wp2_with fail
      refine Calls.mono HA.out ?_
      rintro e x1 ⟨rb, mb, rfl, HR, HLo, hb1⟩
      have HF1 := hid (HF.out.later hb1)
      have HB1 := hid hb1
      have HVL : Hid (∀ q, Value.ownBlock (.slice a1 k c1) = some q → w.heap.size ≤ q ∧ q < wr.heap.size) := fun q e => HF.out.fst.lt q e
      have hws := HF.out.bel.size
      clear hb1 HA HF
      cases hq : (fromR [] xs 0).2 with
      | none =>
        have HQ := hid hq
        clear hq
        rw [show fromV rb none = .tuple #[.pointer (some ⟨rb, 0, none⟩), .agg #[.int .i64 0, .int .i64 0]] from rfl]
        obtain ⟨Y, A0, A1, hY, hA0, hA1, ⟨y0, y1⟩, ⟨f0, f1⟩, ⟨z0, z1⟩, HBX⟩ := ybox2 x1 46 (.int .i64 0) (.int .i64 0) (.int .i64 0) (.int .i64 0)
        have HBS : Hid (x1.heap.size ≤ A1.heap.size) := HBX.out.2.size
        have HF2 := hid (HF1.out.later HBX.out.2)
        have HR2 := hid (HR.out.later HBX.out.2)
        have HA := hid (dfrom_any a2 k c2 xs A1 (by omega) HL.out HX.out (RdS.of (yrdv2 HF2.out.snd)))
        go_wp2_with fail
        clear hY hA0 hA1 y0 y1 f0 f1 z0 z1
        refine Calls.mono HA.out ?_
        rintro e x3 ⟨rb2, rfl, HD3, HLo3, hb3⟩
        rw [HQ.out]
        rw [show fromV rb2 none = .tuple #[.pointer (some ⟨rb2, 0, none⟩), .agg #[.int .i64 0, .int .i64 0]] from rfl]
        have HF3 := hid (HF2.out.later hb3)
        have HR3 := hid (HR2.out.later hb3)
        have HX3 := hid (HBX.out.1.later hb3 HBX.out.1.lt)
        clear hb3 HA HF2 HR2 HBX
        obtain ⟨Y, B0, B1, hY, hA0, hA1, ⟨y0, y1⟩, ⟨f0, f1⟩, ⟨z0, z1⟩, HBX⟩ := ybox2 x3 46 (.int .i64 0) (.int .i64 0) (.int .i64 0) (.int .i64 0)
        have HS : Hid (FsS w k (smC xs) (.slice a1 k c1) (.slice a2 k c2) rb mb rb2 A1.heap.size x1.heap.size x3.heap.size (fromR [] xs 0).1 0 0 B1) := ⟨HF3.out.later HBX.out.2, HR3.out.later HBX.out.2, HD3.out.later HBX.out.2, HX3.out.later HBX.out.2 HX3.out.lt, HBX.out.1⟩
        have hEQ := yfeqN 0 0
        have d0 : B1.cell? ⟨x1.heap.size, 0, none⟩ = some (.int .i64 0) := HS.out.f.cell 0
        have d1 : B1.cell? ⟨x1.heap.size, 1, none⟩ = some (.int .i64 0) := HS.out.f.cell 1
        go_wp2_with fail
        clear hY hA0 hA1 y0 y1 f0 f1 z0 z1
        have HSA := hid (ysameS a1 a2 c1 c2 xs B1 (by rw [HL.out]; omega) (yrdv2 HS.out.rows.fst) (yrdv2 HS.out.rows.snd))
        rw [HL.out] at HSA
        have hA1s : wr.heap.size ≤ A1.heap.size := Nat.le_trans HB1.out.size HBS.out
        refine Calls.mono HSA.out ?_
        rintro e x4 ⟨rfl, hb4⟩
        have HS4 := hid (HS.out.later hb4)
        clear hb4 HSA HS d0 d1 hEQ
        go_wp2_with fail
        refine Calls.mono (yover _ a1 k c1 _ x4 HS4.out.rows.fst (by omega)) ?_
        rintro e x5 ⟨rfl, hg5⟩
        have HT5 : Hid (RecAt x5 rb mb (fromR [] xs 0).1 ∧ DocAt x5 A1.heap.size rb2 (fromR [] xs 0).1 ∧ Below w.heap.size w x5) := by
          have k1 : ∀ b, b < x4.heap.size → wr.heap.size ≤ b → x5.heap[b]? = x4.heap[b]? := fun b h1 h2 => hg5.block b h1 (fun e => by have := HVL.out b e.symm; omega)
          obtain ⟨dv, q1, q2⟩ := HS4.out.doc.box
          refine ⟨HS4.out.rcd.kept (k1 _ HS4.out.rcd.box.lt HLo.out.2) (k1 _ HS4.out.rcd.own.lt HLo.out.1), ⟨⟨dv, (k1 _ q1.lt (Nat.le_trans hA1s HLo3.out)).trans q1, q2.kept hg5 ?_⟩, HS4.out.doc.ok⟩, HS4.out.rows.bel.grown hg5 HS4.out.rows.bel.size (fun q e => (HVL.out q e).1)⟩
          cases hdv : dv.ownBlock with
          | none => exact .inl rfl
          | some y =>
            right
            intro e
            have h1 := (q2.lt y hdv).1
            have h2 := HVL.out y e.symm
            omega
        clear hg5 HS4
        go_wp2_with fail
        refine Calls.mono (ysamples_any rb mb _ _ HT5.out.1) ?_
        rintro e x6 ⟨v6, rfl, O6, hb6⟩
        obtain ⟨a6, c6, rfl, V6⟩ := yshape O6.out
        have HV6 := hid V6
        have HT6 : Hid (RecAt x6 rb mb (fromR [] xs 0).1 ∧ DocAt x6 A1.heap.size rb2 (fromR [] xs 0).1 ∧ Below w.heap.size w x6) := ⟨HT5.out.1.later hb6, HT5.out.2.1.later hb6, ybt' HT5.out.2.2 hb6⟩
        clear hb6 HT5 V6 O6
        go_wp2_with fail
        refine Calls.mono (d19samples_any A1.heap.size rb2 _ _ HT6.out.2.1) ?_
        rintro e x7 ⟨v7, rfl, O7, hb7⟩
        obtain ⟨a7, c7, rfl, V7⟩ := yshape O7.out
        have HSM := hid (ysameS a6 a7 c6 c7 (onesL (fromR [] xs 0).1 true) x7 (by have := (HT6.out.1.ok.ones true).few; omega) (HV6.out.later hb7) V7)
        have HT7 : Hid (RecAt x7 rb mb (fromR [] xs 0).1 ∧ DocAt x7 A1.heap.size rb2 (fromR [] xs 0).1 ∧ Below w.heap.size w x7) := ⟨HT6.out.1.later hb7, HT6.out.2.1.later hb7, ybt' HT6.out.2.2 hb7⟩
        clear hb7 HT6 V7 O7 HV6
        go_wp2_with fail
        refine Calls.mono HSM.out ?_
        rintro e x8 ⟨rfl, hb8⟩
        have HT8 : Hid (RecAt x8 rb mb (fromR [] xs 0).1 ∧ DocAt x8 A1.heap.size rb2 (fromR [] xs 0).1 ∧ Below w.heap.size w x8) := ⟨HT7.out.1.later hb8, HT7.out.2.1.later hb8, ybt' HT7.out.2.2 hb8⟩
        clear hb8 HT7 HSM
        go_wp2_with fail
        refine Calls.mono (ylost_any rb mb _ _ HT8.out.1) ?_
        rintro e x9 ⟨v9, rfl, O9, hb9⟩
        obtain ⟨a9, c9, rfl, V9⟩ := yshape O9.out
        have HV9 := hid V9
        have HT9 : Hid (RecAt x9 rb mb (fromR [] xs 0).1 ∧ DocAt x9 A1.heap.size rb2 (fromR [] xs 0).1 ∧ Below w.heap.size w x9) := ⟨HT8.out.1.later hb9, HT8.out.2.1.later hb9, ybt' HT8.out.2.2 hb9⟩
        clear hb9 HT8 V9 O9
        go_wp2_with fail
        refine Calls.mono (d19lost_any A1.heap.size rb2 _ _ HT9.out.2.1) ?_
        rintro e x10 ⟨v10, rfl, O10, hb10⟩
        obtain ⟨a10, c10, rfl, V10⟩ := yshape O10.out
        have HSM := hid (ysameI a9 a10 c9 c10 ((onesL (fromR [] xs 0).1 false).map (·.1)) x10 (by have := (HT9.out.1.ok.ones false).few; rw [List.length_map]; omega) (HV9.out.later hb10) V10)
        rw [List.length_map] at HSM
        have HT10 := hid (ybt' HT9.out.2.2 hb10)
        clear hb10 HT9 V10 O10 HV9
        go_wp2_with fail
        refine Calls.mono HSM.out ?_
        rintro e x11 ⟨rfl, hb11⟩
        have HT11 := hid (ybt' HT10.out hb11)
        clear hb11 HSM HT10
        go_wp2_with fail
        go_ret
        exact ⟨rfl, HT11.out⟩
      | some f =>
        obtain ⟨E, I⟩ := f
        have HQ := hid hq
        clear hq
        rw [show fromV rb (some (E, I)) = .tuple #[.pointer none, .agg #[.int .i64 E, .int .i64 (I : Int)]] from rfl]
        obtain ⟨Y, A0, A1, hY, hA0, hA1, ⟨y0, y1⟩, ⟨f0, f1⟩, ⟨z0, z1⟩, HBX⟩ := ybox2 x1 46 (.int .i64 0) (.int .i64 0) (.int .i64 E) (.int .i64 (I : Int))
        have HBS : Hid (x1.heap.size ≤ A1.heap.size) := HBX.out.2.size
        have HF2 := hid (HF1.out.later HBX.out.2)
        have HR2 := hid (HR.out.later HBX.out.2)
        have HA := hid (dfrom_any a2 k c2 xs A1 (by omega) HL.out HX.out (RdS.of (yrdv2 HF2.out.snd)))
        go_wp2_with fail
        clear hY hA0 hA1 y0 y1 f0 f1 z0 z1
        refine Calls.mono HA.out ?_
        rintro e x3 ⟨rb2, rfl, HD3, HLo3, hb3⟩
        rw [HQ.out]
        rw [show fromV rb2 (some (E, I)) = .tuple #[.pointer none, .agg #[.int .i64 E, .int .i64 (I : Int)]] from rfl]
        have HF3 := hid (HF2.out.later hb3)
        have HR3 := hid (HR2.out.later hb3)
        have HX3 := hid (HBX.out.1.later hb3 HBX.out.1.lt)
        clear hb3 HA HF2 HR2 HBX
        obtain ⟨Y, B0, B1, hY, hA0, hA1, ⟨y0, y1⟩, ⟨f0, f1⟩, ⟨z0, z1⟩, HBX⟩ := ybox2 x3 46 (.int .i64 0) (.int .i64 0) (.int .i64 E) (.int .i64 (I : Int))
        have HS : Hid (FsS w k (smC xs) (.slice a1 k c1) (.slice a2 k c2) rb mb rb2 A1.heap.size x1.heap.size x3.heap.size (fromR [] xs 0).1 E (I : Int) B1) := ⟨HF3.out.later HBX.out.2, HR3.out.later HBX.out.2, HD3.out.later HBX.out.2, HX3.out.later HBX.out.2 HX3.out.lt, HBX.out.1⟩
        have hEQ := yfeqN E (I : Int)
        have d0 : B1.cell? ⟨x1.heap.size, 0, none⟩ = some (.int .i64 E) := HS.out.f.cell 0
        have d1 : B1.cell? ⟨x1.heap.size, 1, none⟩ = some (.int .i64 (I : Int)) := HS.out.f.cell 1
        go_wp2_with fail
        clear hY hA0 hA1 y0 y1 f0 f1 z0 z1
        have HSA := hid (ysameS a1 a2 c1 c2 xs B1 (by rw [HL.out]; omega) (yrdv2 HS.out.rows.fst) (yrdv2 HS.out.rows.snd))
        rw [HL.out] at HSA
        have hA1s : wr.heap.size ≤ A1.heap.size := Nat.le_trans HB1.out.size HBS.out
        refine Calls.mono HSA.out ?_
        rintro e x4 ⟨rfl, hb4⟩
        have HS4 := hid (HS.out.later hb4)
        clear hb4 HSA HS d0 d1 hEQ
        go_wp2_with fail
        refine Calls.mono (yover _ a1 k c1 _ x4 HS4.out.rows.fst (by omega)) ?_
        rintro e x5 ⟨rfl, hg5⟩
        have HT5 : Hid (Below w.heap.size w x5) := HS4.out.rows.bel.grown hg5 HS4.out.rows.bel.size (fun q e => (HVL.out q e).1)
        clear hg5 HS4
        go_wp2_with fail
        go_ret
        exact ⟨rfl, HT5.out⟩
theorem recordFrom_in (a : Option Addr) (n cap : Nat) (xs : List (Int × Nat)) (w : World) (h : (a = none → n = 0 ∧ cap = 0) ∧ n ≤ cap ∧ cap ≤ maxLen ∧ RdB w a n xs) :
    Calls Try.prog 4 #[.slice a n cap] w fun e w' => e = .returned (.bool true) ∧ Below w.heap.size w w' := by
  by_cases hn : n ≤ 5000
  · exact recordFrom_go a n cap xs w hn h.2.2.2
  · exact recordFrom_long a n cap w (by omega) (by have := h.2.1; have := h.2.2.1; unfold maxLen at *; omega)
end Go.Proofs.Ytbbmdpkccdcacaa

