/- My texts on the way to RecordScript, one behind the other: contracts of the program and of the document's answers. -/
import Derived.Test.YtblfemmhhijeeaaJ1
import Derived.Test.YtblfemmhhijeeaaShelf
import Derived.Sort.OwnSortedInts
import Derived.Maps.AppendAt
import Derived.Deep.Cut
import Derived.RangeFuncNested
import Derived.RangeFuncBound
import Derived.RangeFuncCalls
import Derived.RangeFuncLeaves
import Derived.RangeFuncFrom
import Derived.Shelf.Abstract
import Derived.Shelf.RegionOpen
import Derived.OwnWalkIn
import Derived.TacticsInMore
import Derived.LoopNIn
import Derived.LoopIn
import Derived.Deep.RegionHeld3
import Derived.Stop.RegionWithIn
import Derived.ChangeKeysEq
import Derived.Laws.StructEq
import Derived.Laws.AppendOwn
import Derived.Laws.AppendOwnNone
import Derived.ArgAppend
import Derived.BigQuiet
/- package record: Len, Lost, Samples, of every record. -/
namespace Go.Proofs.Ytblfemmhhijeeaa
open Go.RowKit
set_option linter.unusedVariables false
set_option linter.unusedSimpArgs false

theorem Try.yinfoS : (Try.prog.info? 46).map (fun i => (i.zero, i.size, i.bytes)) = some (some (.agg #[.int .i64 0, .float .f64 0]), 2, 16) := by kernel_rfl
/-- What the call owns stays, while nothing that stood is written. -/
theorem yowns_later {w w' : World} {base e s : Nat} {v : Value} {n : Nat} {xs : List Value} (h : w.ownsRow base e s v n xs) (hb : Below w.heap.size w w') : w'.ownsRow base e s v n xs := by
  refine ⟨h.1, h.2.imp id ?_⟩
  rintro ⟨g, cap, cur, rfl, h1, h2, r⟩
  exact ⟨g, cap, cur, rfl, h1, (hb.block g (Array.getElem?_eq_some_iff.1 h2).1).trans h2, r⟩
theorem yowns_base {w : World} {base base' e s : Nat} {v : Value} {n : Nat} {xs : List Value} (h : w.ownsRow base e s v n xs) (hb : base' ≤ base) : w.ownsRow base' e s v n xs := by
  refine ⟨h.1, h.2.imp id ?_⟩
  rintro ⟨g, cap, cur, rfl, h1, r⟩
  exact ⟨g, cap, cur, rfl, by omega, r⟩
/-- A slice that is read as these cells. -/
def RdV (w : World) (a : Option Addr) (xs : List Value) : Prop := xs = [] ∨ ∃ g, a = some ⟨g, 0, none⟩ ∧ g < w.heap.size ∧ ∀ j u, xs[j]? = some u → w.cell? ⟨g, j, none⟩ = some u
theorem RdV.later {w w' : World} {a : Option Addr} {xs : List Value} (h : RdV w a xs) (hb : Below w.heap.size w w') : RdV w' a xs := by
  rcases h with h | ⟨g, ha, hg, hc⟩
  · exact .inl h
  · exact .inr ⟨g, ha, Nat.lt_of_lt_of_le hg hb.size, fun j u hj => (hb.cell (p := ⟨g, j, none⟩) hg).trans (hc j u hj)⟩
theorem yshape {w : World} {base e s : Nat} {v : Value} {n : Nat} {xs : List Value} (h : w.ownsRow base e s v n xs) : ∃ a cap, v = .slice a n cap ∧ RdV w a xs := by
  rcases h.2 with ⟨h1, h0⟩ | ⟨g, cap, cur, hv, h1, h2, h3, h4, h5, h6⟩
  · subst h0
    exact ⟨_, _, h1, .inl (List.length_eq_zero_iff.1 (by rw [h.1]; simp))⟩
  · refine ⟨_, _, hv, .inr ⟨g, rfl, (Array.getElem?_eq_some_iff.1 h2).1, fun j u hj => ?_⟩⟩
    have q := h.cells (g := g) (by rw [hv]; rfl) j u hj
    unfold Addr.add at q
    split at q
    · rename_i hj0
      have hj0 : j = 0 := by simpa using hj0
      rw [hj0]
      exact q
    · simpa using q
theorem ysort_any (base : Nat) (v : Value) (ks : List Int) (w : World) (h : w.ownsRow base 3 1 v ks.length (ks.map (Value.int .i64))) (hl : ks.length ≤ 4096) (hbs : base ≤ w.heap.size) :
    Calls Try.prog 86 #[v] w fun e w' => e = .returned (.tuple #[]) ∧ Hid (w'.ownsRow base 3 1 v ks.length ((ks.mergeSort (fun x y => decide (x ≤ y))).map (Value.int .i64))) ∧ Below base w w' := by
  rcases h.2 with ⟨rfl, h0⟩ | ⟨g, cap, cur, rfl, h1, h2, h3, h4, h5, h6⟩
  · obtain rfl : ks = [] := List.length_eq_zero_iff.1 h0
    refine Calls.mono (Try.slices_Sort_int_none none 0 w) ?_
    rintro e w' ⟨rfl, rfl⟩
    refine ⟨rfl, ?_, Below.refl _ _⟩
    rw [List.mergeSort_nil]
    exact World.ownsRow_nil _ _ _ _
  · refine Calls.mono (Try.slices_Sort_int g 0 cap ks w (holds_of_blockI h2 (by rw [Nat.mul_one] at h6; exact h6)) (Array.getElem?_eq_some_iff.1 h2).1 (by omega)) ?_
    rintro e w' ⟨rfl, n, os, rfl⟩
    exact ⟨rfl, ownsRow_sortedI (List.length_mergeSort ks) h1 h2 h3 h4 h5, (Below.refl _ _).grown (grownBy_sortedI _) hbs (fun k e => by cases e; exact h1)⟩
theorem ylen_any (rb mb : Nat) (L : List (Int × Nat)) (w : World) (h : RecAt w rb mb L) :
    Calls Try.prog 48 #[.pointer (some ⟨rb, 0, none⟩)] w fun e w' => e = .returned (.int .i64 ((onesL L true).length : Int)) ∧ Below w.heap.size w w' := by
  have HT := hid (yticks_any rb mb L true w h)
  clear h
  go_enter Try.func48, Try.ntmps48
  go_wp2_with fail
  refine Calls.mono HT.out ?_
  rintro e w1 ⟨v, ks, rfl, HO, HK, HL, hb⟩
  obtain ⟨a, cap, rfl, HV⟩ := yshape HO.out
  have HE : Hid (ks.length = (onesL L true).length) := by
    have := congrArg List.length HK.out
    rw [List.length_mergeSort, List.length_map] at this
    exact this
  have HB := hid hb
  clear HT HO HV HK HL hb
  go_wp2_with fail
  go_ret
  exact ⟨by rw [HE.out]; rfl, HB.out⟩
theorem ylost_any (rb mb : Nat) (L : List (Int × Nat)) (w : World) (h : RecAt w rb mb L) :
    Calls Try.prog 46 #[.pointer (some ⟨rb, 0, none⟩)] w fun e w' => ∃ v : Value, e = .returned v ∧ Hid (w'.ownsRow w.heap.size 3 1 v (onesL L false).length (((onesL L false).map (·.1)).map (Value.int .i64))) ∧ Below w.heap.size w w' := by
  have HT := hid (yticks_any rb mb L false w h)
  clear h
  go_enter Try.func46, Try.ntmps46
  go_wp2_with fail
  refine Calls.mono HT.out ?_
  rintro e w1 ⟨v, ks, rfl, HO, HK, HL, hb⟩
  have HE : Hid (ks.length = (onesL L false).length) := by
    have := congrArg List.length HK.out
    rw [List.length_mergeSort, List.length_map] at this
    exact this
  have HB := hid hb
  have HS := hid (ysort_any w.heap.size v ks w1 HO.out HL.out HB.out.size)
  rw [HK.out] at HS
  clear HT HO HL hb
  go_wp2_with fail
  refine Calls.mono HS.out ?_
  rintro e w2 ⟨rfl, HO2, hb2⟩
  have HB2 := hid (HB.out.trans hb2)
  rw [HE.out] at HO2
  clear HS HB hb2 HK HE
  go_wp2_with fail
  go_ret
  exact ⟨_, rfl, HO2, HB2.out⟩
/-- The cells of samples. -/
def smC (M : List (Int × Nat)) : List Value := M.flatMap fun p => [.int .i64 p.1, .float .f64 p.2]
theorem smC_append (M N : List (Int × Nat)) : smC (M ++ N) = smC M ++ smC N := by unfold smC; rw [List.flatMap_append]
theorem smC_len (M : List (Int × Nat)) : (smC M).length = M.length * 2 := by
  induction M with
  | nil => rfl
  | cons p M ih => unfold smC at *; rw [List.flatMap_cons, List.length_append, ih, List.length_cons]; simp; omega
theorem smC_take {M : List (Int × Nat)} {k : Nat} {p : Int × Nat} (h : M[k]? = some p) : smC (M.take (k + 1)) = smC (M.take k) ++ [.int .i64 p.1, .float .f64 p.2] := by
  rw [List.take_add_one, h, smC_append]
  rfl
theorem smC_at {M : List (Int × Nat)} : ∀ {k : Nat} {p : Int × Nat}, M[k]? = some p → (smC M)[k * 2]? = some (.int .i64 p.1) ∧ (smC M)[k * 2 + 1]? = some (.float .f64 p.2) := by
  induction M with
  | nil => intro k p h; simp at h
  | cons q M ih =>
    intro k p h
    have e : smC (q :: M) = .int .i64 q.1 :: .float .f64 q.2 :: smC M := rfl
    rw [e]
    cases k with
    | zero => simp at h; subst h; exact ⟨rfl, rfl⟩
    | succ k =>
      have := ih (k := k) (p := p) (by simpa using h)
      rw [show (k + 1) * 2 = k * 2 + 1 + 1 by omega, show k * 2 + 1 + 1 + 1 = (k * 2 + 1) + 1 + 1 by omega]
      exact this
theorem smC_one (p : Int × Nat) : ∀ u ∈ [Value.int .i64 p.1, .float .f64 p.2], u.oneCell' = true := by
  intro u hu
  simp only [List.mem_cons, List.not_mem_nil, or_false] at hu
  rcases hu with rfl | rfl <;> rfl
theorem ycell2 (w : World) (x y : Value) (t : TypeId) : ∀ j u, [x, y][j]? = some u → (w.alloc (.cells #[x, y] t)).cell? ((⟨w.heap.size, 0, none⟩ : Addr).add j) = some u := by
  intro j u hj
  match j, hj with
  | 0, hj => simp at hj; subst hj; simp [Addr.add]
  | 1, hj => simp at hj; subst hj; simp [Addr.add]
  | n + 2, hj => simp at hj
set_option maxHeartbeats 3200000 in
set_option maxRecDepth 100000 in
theorem ysamples_any (rb mb : Nat) (L : List (Int × Nat)) (w : World) (h : RecAt w rb mb L) :
    Calls Try.prog 90 #[.pointer (some ⟨rb, 0, none⟩)] w fun e w' => ∃ v : Value, e = .returned v ∧ Hid (w'.ownsRow w.heap.size 46 2 v (onesL L true).length (smC (onesL L true))) ∧ Below w.heap.size w w' := by
  have HT := hid (yticks_any rb mb L true w h)
  have HR := hid h
  obtain ⟨i0, hi, hz0, hz1, hz2⟩ := info_parts Try.yinfoS
  have HM : Hid (∀ p ∈ onesL L true, rget L p.1 = some p.2 ∧ I64 p.1) := fun p hp => by
    have q := (List.mem_filter.1 hp).1
    have := h.ok.tick p q
    exact ⟨h.ok.get q, by unfold I64; omega⟩
  have hn4 := (h.ok.ones true).few
  clear h
  generalize onesL L true = M at *
  go_enter Try.func90, Try.ntmps90
  go_wp2_with fail
  refine Calls.mono HT.out ?_
  rintro e w1 ⟨v, ks, rfl, HO, HK, HL, hb⟩
  have HE : Hid (ks.length = M.length) := by
    have := congrArg List.length HK.out
    rw [List.length_mergeSort, List.length_map] at this
    exact this
  have HB := hid hb
  have HS := hid (ysort_any w.heap.size v ks w1 HO.out HL.out HB.out.size)
  rw [HK.out] at HS
  clear HT HO HL hb
  go_wp2_with fail
  refine Calls.mono HS.out ?_
  rintro e w2 ⟨rfl, HO2, hb2⟩
  have HB2 := hid (HB.out.trans hb2)
  rw [HE.out] at HO2
  obtain ⟨a, cap, rfl, HV⟩ := yshape HO2.out
  have HVH := hid HV
  clear HS HB hb2 HK HE HO2 HV
  go_wp2_with fail
  go_loopw [4, 13] (fun v x wr => ∃ k : Nat, k ≤ M.length ∧ x = .int .i64 (k : Int) ∧ Hid (wr.ownsRow w2.heap.size 46 2 v k (smC (M.take k))) ∧ Hid (Below w2.heap.size w2 wr)) (fun _ x _ => M.length - (intOf x).toNat)
  case atStart => exact ⟨0, Nat.zero_le _, rfl, World.ownsRow_nil _ _ _ _, Below.refl _ _⟩
  case round =>
    obtain ⟨k, hk, rfl, HO, HBW⟩ := hrel
    by_cases hlt : k < M.length
    · obtain ⟨p, hp⟩ : ∃ p, M[k]? = some p := ⟨_, List.getElem?_eq_getElem hlt⟩
      obtain ⟨t, b⟩ := p
      have HP := hid hp
      have hmem : (t, b) ∈ M := List.mem_of_getElem? hp
      have HG := HM.out _ hmem
      have ho := HO.out
      have hb := HBW.out
      have hsz := hb.size
      have HRW := hid (HR.out.later (HB2.out.trans (hb.mono HB2.out.size)))
      have hl : (Instr.lookup 73 (.map (some mb)) (.int .i64 t) false).run Try.prog wr = .ok (.float .f64 b) wr := by
        have q := ylook HRW.out.own HG.2 false
        rw [HG.1] at q
        exact q
      have c0 : wr.cell? ⟨rb, 0, none⟩ = some (.map (some mb)) := HRW.out.box.cell 0
      obtain ⟨g, rfl, hg, hc⟩ : ∃ g, a = some ⟨g, 0, none⟩ ∧ g < w2.heap.size ∧ ∀ j u, ((M.map (·.1)).map (Value.int .i64))[j]? = some u → w2.cell? ⟨g, j, none⟩ = some u := by
        rcases HVH.out with q | q
        · have := congrArg List.length q
          simp at this
          rw [this] at hlt
          simp at hlt
        · exact q
      have c1 : wr.cell? ⟨g, k, none⟩ = some (.int .i64 t) := (hb.cell (p := ⟨g, k, none⟩) hg).trans (hc k _ (by simp [hp]))
      have HS := hid (smC_take hp)
      clear HO HBW hp hmem HG hc
      generalize smC (M.take k) = R at *
      go_wp2_with (first
        | (at_builtin; refine wpList_append_own _ rfl _ _ 39 rfl w2.heap.size 46 i0 (.agg #[.int .i64 0, .float .f64 0]) 2 16 Try.underlying39 hi hz0 hz1 hz2 rfl (by decide) _ _ _ rfl (ho.alloc _) ⟨wr.heap.size, 0, none⟩ 1 1 [.int .i64 t, .float .f64 b] rfl rfl (ycell2 _ _ _ _) (smC_one (t, b)) (by unfold maxLen; omega) (by omega) (by simp; omega) ?_; intro v' w4 ho2 hg2 _)
        | go_in)
      have hb3 : Below w2.heap.size w2 w4 := (hb.alloc (by omega) _).grown hg2 (by simp; omega) (fun g hg => (ho.lt g hg).1)
      have HB3 := hid hb3
      have HO2 := hid ho2
      clear hg2 hl hb3 ho2
      go_wp2_with fail
      go_roundw
      case rel => exact ⟨k + 1, by omega, by go_num, by rw [HS.out]; exact HO2.out, HB3.out⟩
      case measure => simp [intOf]; omega
    · obtain rfl : k = M.length := by omega
      have hg2 : decide (((M.length : Nat) : Int) < ((M.length : Nat) : Int)) = false := by simp
      have HE : Hid (smC (M.take M.length) = smC M) := by rw [List.take_length]; rfl
      go_wp2_with fail
      all_goals first | (exfalso; omega) | (go_ret; exact ⟨_, rfl, yowns_base (HE.out ▸ HO.out) HB2.out.size, HB2.out.trans (HBW.out.mono HB2.out.size)⟩)
end Go.Proofs.Ytblfemmhhijeeaa

/- package record: At, lookAt, appendGap, All. -/
namespace Go.Proofs.Ytblfemmhhijeeaa
open Go.RowKit
set_option linter.unusedVariables false
set_option linter.unusedSimpArgs false

/-- What At tells. -/
def yatR (L : List (Int × Nat)) (t : Int) : Nat × Bool := match rget L t with
  | none => (0, false)
  | some b => if isone b then (b, true) else (0, false)
theorem rget_has {L : List (Int × Nat)} {t : Int} : (rget L t).isSome = rhas L t := by
  unfold rget rhas
  rw [Option.isSome_map]
  induction L with
  | nil => rfl
  | cons y r ih =>
    rw [List.find?_cons, List.any_cons]
    cases h : (y.1 == t)
    · exact ih
    · rfl
theorem rget_mem {L : List (Int × Nat)} {t : Int} {b : Nat} (h : rget L t = some b) : (t, b) ∈ L := by
  unfold rget at h
  cases hf : L.find? (fun p => p.1 == t) with
  | none => rw [hf] at h; cases h
  | some p =>
    rw [hf] at h
    have e2 : p.2 = b := by simpa using h
    have e3 : p.1 = t := by simpa using List.find?_some hf
    have := List.mem_of_find?_eq_some hf
    rw [← e2, ← e3]
    exact this
theorem yat_none {L : List (Int × Nat)} {t : Int} (h : rget L t = none) : yatR L t = (0, false) := by unfold yatR; rw [h]
theorem yat_not {L : List (Int × Nat)} {t : Int} {b : Nat} (h : rget L t = some b) (o : isone b = false) : yatR L t = (0, false) := by unfold yatR; rw [h]; simp [o]
theorem yat_yes {L : List (Int × Nat)} {t : Int} {b : Nat} (h : rget L t = some b) (o : isone b = true) : yatR L t = (b, true) := by unfold yatR; rw [h]; simp [o]
set_option maxHeartbeats 1600000 in
set_option maxRecDepth 100000 in
theorem yat_any (rb mb : Nat) (L : List (Int × Nat)) (t : Int) (w : World) (h : RecAt w rb mb L) (ht : I64 t) :
    Calls Try.prog 51 #[.pointer (some ⟨rb, 0, none⟩), .int .i64 t] w fun e w' => e = .returned (.tuple #[.float .f64 (yatR L t).1, .bool (yatR L t).2]) ∧ w' = w := by
  have HM := hid (ymade_any rb mb w h.box)
  have hl : (Instr.lookup 73 (.map (some mb)) (.int .i64 t) true).run Try.prog w = .ok (.tuple #[.float .f64 ((rget L t).getD 0), .bool (rhas L t)]) w := ylook h.own ht true
  have c0 : w.cell? ⟨rb, 0, none⟩ = some (.map (some mb)) := h.box.cell 0
  rw [← rget_has] at hl
  have HT : Hid (∀ b, rget L t = some b → b < 18446744073709551616) := fun b hb => (h.ok.tick _ (rget_mem hb)).2.2
  clear h ht
  cases hg : rget L t with
  | none =>
    rw [hg] at hl
    have HE : Hid (yatR L t = (0, false)) := yat_none hg
    clear HT hg
    go_enter Try.func51, Try.ntmps51
    go_wp2_with fail
    refine Calls.mono HM.out ?_
    rintro e w1 ⟨rfl, rfl⟩
    go_wp2_with fail
    go_ret2
    rw [HE.out]
    exact ⟨rfl, rfl⟩
  | some b =>
    rw [hg] at hl
    have HI := hid (yisone_any b w (HT.out b hg))
    cases ho : isone b
    · have HE : Hid (yatR L t = (0, false)) := yat_not hg ho
      rw [ho] at HI
      clear HT hg ho
      go_enter Try.func51, Try.ntmps51
      go_wp2_with fail
      refine Calls.mono HM.out ?_
      rintro e w1 ⟨rfl, rfl⟩
      go_wp2_with fail
      refine Calls.mono HI.out ?_
      rintro e w1 ⟨rfl, rfl⟩
      go_wp2_with fail
      go_ret2
      rw [HE.out]
      exact ⟨rfl, rfl⟩
    · have HE : Hid (yatR L t = (b, true)) := yat_yes hg ho
      rw [ho] at HI
      clear HT hg ho
      go_enter Try.func51, Try.ntmps51
      go_wp2_with fail
      refine Calls.mono HM.out ?_
      rintro e w1 ⟨rfl, rfl⟩
      go_wp2_with fail
      refine Calls.mono HI.out ?_
      rintro e w1 ⟨rfl, rfl⟩
      go_wp2_with fail
      go_ret2
      rw [HE.out]
      exact ⟨rfl, rfl⟩
/-- What lookAt tells of a record that was made. -/
def spR (a b : Int) : Int := if a < 0 ∨ 1048577 < b ∨ b < a then 2 else 0
theorem ylook_at (rb mb : Nat) (a b : Int) (w : World) (h : FBox w rb 75 #[.map (some mb)]) (ha : I64 a) (hb : I64 b) :
    Calls Try.prog 114 #[.pointer (some ⟨rb, 0, none⟩), .int .i64 a, .int .i64 b] w fun e w' => e = .returned (.int .i64 (spR a b)) ∧ w' = w := by
  have HM := hid (ymade_any rb mb w h)
  have HC := hid (ckspn_any a b w ha hb)
  clear h ha hb
  by_cases h1 : a < 0 ∨ 1048577 < b ∨ b < a
  · have e1 : spnR a b = 2 := if_pos h1
    have HE : Hid (spR a b = 2) := if_pos h1
    rw [e1] at HC
    clear e1 h1
    go_enter Try.func114, Try.ntmps114
    go_wp2_with fail
    refine Calls.mono HM.out ?_
    rintro e w1 ⟨rfl, rfl⟩
    go_wp2_with fail
    refine Calls.mono HC.out ?_
    rintro e w1 ⟨rfl, rfl⟩
    go_wp2_with fail
    go_ret
    rw [HE.out]
    exact ⟨rfl, rfl⟩
  · have HE : Hid (spR a b = 0) := if_neg h1
    by_cases h2 : 4096 < b - a
    · have e1 : spnR a b = 3 := by unfold spnR; rw [if_neg h1, if_pos h2]
      rw [e1] at HC
      clear e1 h1 h2
      go_enter Try.func114, Try.ntmps114
      go_wp2_with fail
      refine Calls.mono HM.out ?_
      rintro e w1 ⟨rfl, rfl⟩
      go_wp2_with fail
      refine Calls.mono HC.out ?_
      rintro e w1 ⟨rfl, rfl⟩
      go_wp2_with fail
      go_ret
      rw [HE.out]
      exact ⟨rfl, rfl⟩
    · have e1 : spnR a b = 0 := by unfold spnR; rw [if_neg h1, if_neg h2]
      rw [e1] at HC
      clear e1 h1 h2
      go_enter Try.func114, Try.ntmps114
      go_wp2_with fail
      refine Calls.mono HM.out ?_
      rintro e w1 ⟨rfl, rfl⟩
      go_wp2_with fail
      refine Calls.mono HC.out ?_
      rintro e w1 ⟨rfl, rfl⟩
      go_wp2_with fail
      go_ret
      rw [HE.out]
      exact ⟨rfl, rfl⟩
theorem Try.yinfoG : (Try.prog.info? 123).map (fun i => (i.zero, i.size, i.bytes)) = some (some (.agg #[.int .i64 0, .int .i64 0]), 2, 16) := by kernel_rfl
/-- The cells of gaps. -/
def gpC (G : List (Int × Int)) : List Value := G.flatMap fun p => [.int .i64 p.1, .int .i64 p.2]
theorem gpC_append (M N : List (Int × Int)) : gpC (M ++ N) = gpC M ++ gpC N := by unfold gpC; rw [List.flatMap_append]
/-- One gap more, where there is one. -/
def gapR (G : List (Int × Int)) (a b : Int) : List (Int × Int) := if b ≤ a then G else G ++ [(a, b - a)]
theorem ygap_any (base : Nat) (v : Value) (G : List (Int × Int)) (a b : Int) (w : World) (h : w.ownsRow base 123 2 v G.length (gpC G)) (hl : G.length ≤ 100000) (hbs : base ≤ w.heap.size) (ha : 0 ≤ a ∧ a ≤ 2000000) (hb : 0 ≤ b ∧ b ≤ 2000000) :
    Calls Try.prog 113 #[v, .int .i64 a, .int .i64 b] w fun e w' => ∃ v' : Value, e = .returned v' ∧ Hid (w'.ownsRow base 123 2 v' (gapR G a b).length (gpC (gapR G a b))) ∧ Below base w w' ∧ w.grownBy w' v.ownBlock := by
  obtain ⟨i0, hi, hz0, hz1, hz2⟩ := info_parts Try.yinfoG
  by_cases hab : b ≤ a
  · have HE : Hid (gapR G a b = G) := if_pos hab
    have HO := hid h
    clear h
    go_enter Try.func113, Try.ntmps113
    go_wp2_with fail
    all_goals first | (exfalso; omega) | skip
    go_ret
    rw [HE.out]
    exact ⟨_, rfl, HO.out, Below.refl _ _, ⟨rfl, rfl, rfl, Nat.le_refl _, fun _ _ _ => rfl⟩⟩
  · have HE : Hid (gapR G a b = G ++ [(a, b - a)]) := if_neg hab
    have hw : IntKind.i64.wrap (b - a) = b - a := by rw [IntKind.wrap_i64]; omega
    go_enter Try.func113, Try.ntmps113
    go_wp2_with (first
      | (at_builtin; refine wpList_append_own _ rfl _ _ 119 rfl base 123 i0 (.agg #[.int .i64 0, .int .i64 0]) 2 16 Try.underlying119 hi hz0 hz1 hz2 rfl (by decide) _ _ _ rfl (h.alloc _) ⟨w.heap.size, 0, none⟩ 1 1 [.int .i64 a, .int .i64 (b - a)] rfl rfl (ycell2 _ _ _ _) (by intro u hu; simp only [List.mem_cons, List.not_mem_nil, or_false] at hu; rcases hu with rfl | rfl <;> rfl) (by unfold maxLen; omega) (by omega) (by simp; omega) ?_; intro v' w4 ho2 hg2 _)
      | go_in)
    all_goals first | (exfalso; omega) | skip
    go_wp2_with fail
    go_ret
    rw [HE.out]
    refine ⟨_, rfl, ?_, ((Below.refl _ w).alloc hbs _).grown hg2 (by simp; omega) (fun g hg => (h.lt g hg).1), (World.grownBy_alloc _ _ _).trans hg2⟩
    rw [gpC_append, List.length_append]
    exact ho2
end Go.Proofs.Ytblfemmhhijeeaa

/- package record: All, and the going over of its samples. -/
namespace Go.Proofs.Ytblfemmhhijeeaa
open Go.RowKit Go.Shelf
set_option linter.unusedVariables false
set_option linter.unusedSimpArgs false
attribute [local go_sem] Oper.semAt_some

theorem ybt {a b c : World} (h : Below a.heap.size a b) (g : Below b.heap.size b c) : Below a.heap.size a c := h.trans (g.mono h.size)
theorem yown_put {w : World} {base e s b t : Nat} {v : Value} {n : Nat} {xs : List Value} {vs : Array Value} (h : w.ownsRow base e s v n xs) (hb : FBox w b t vs) (ht : e ≠ t) (j : Nat) (u : Value) : (w.setCell ⟨b, j, none⟩ u).ownsRow base e s v n xs := by
  refine ⟨h.1, h.2.imp id ?_⟩
  rintro ⟨g, cap, cur, rfl, h1, h2, r⟩
  refine ⟨g, cap, cur, rfl, h1, ?_, r⟩
  rw [Below.heap_setCell]
  · exact h2
  · rintro rfl
    unfold FBox at hb
    rw [h2] at hb
    injection hb with hb
    injection hb with _ hb
    exact ht hb
set_option maxHeartbeats 1600000 in
set_option maxRecDepth 100000 in
theorem yall_any (rb mb : Nat) (L : List (Int × Nat)) (w : World) (h : RecAt w rb mb L) :
    Calls Try.prog 56 #[.pointer (some ⟨rb, 0, none⟩)] w fun e w' => ∃ (p : Nat) (v : Value), e = .returned (.func (.func 98) #[] #[.pointer (some ⟨p, 0, none⟩)]) ∧ Hid (FBox w' p 39 #[v]) ∧ Hid (w'.ownsRow w.heap.size 46 2 v (onesL L true).length (smC (onesL L true))) ∧ Hid (w.heap.size ≤ p) ∧ Below w.heap.size w w' := by
  have HS := hid (ysamples_any rb mb L w h)
  clear h
  generalize onesL L true = M at *
  go_enter Try.func56, Try.ntmps56
  go_wp2_with fail
  refine Calls.mono HS.out ?_
  rintro e w1 ⟨v, rfl, HO, hb⟩
  obtain ⟨a, cap, rfl, HV⟩ := yshape HO.out
  obtain ⟨Y, hY⟩ : ∃ Y, w1.alloc (.cells #[.slice none 0 0] 39) = Y := ⟨_, rfl⟩
  have HN : Hid (FBox Y w1.heap.size 39 #[.slice none 0 0]) := by rw [← hY]; exact FBox.made _ _ _
  have HBY : Hid (Below w1.heap.size w1 Y) := by rw [← hY]; exact (Below.refl _ _).alloc (Nat.le_refl _) _
  have c0 : Y.cell? ⟨w1.heap.size, 0, none⟩ = some (.slice none 0 0) := HN.out.cell 0
  have f0 : Y.frozen? ⟨w1.heap.size, 0, none⟩ = false := HN.out.free 0
  have HB := hid hb
  clear hb HV HS
  go_wp2_with fail
  go_ret
  have q1 := HN.out.set 0 (.slice a M.length cap)
  refine ⟨w1.heap.size, _, rfl, q1, ?_, HB.out.size, ?_⟩
  · have o1 := yowns_later HO.out HBY.out
    exact yown_put o1 HN.out (by decide) _ _
  · exact ybt HB.out (HBY.out.setCell (p := ⟨w1.heap.size, 0, none⟩) (Nat.le_refl _) _)
theorem ybox2 (w : World) (t : Nat) (x y u v : Value) : ∃ Y A0 A1, w.alloc (.cells #[x, y] t) = Y ∧ Y.setCell ⟨w.heap.size, 0, none⟩ u = A0 ∧ A0.setCell ⟨w.heap.size, 1, none⟩ v = A1 ∧ (Y.cell? ⟨w.heap.size, 0, none⟩ = some x ∧ A0.cell? ⟨w.heap.size, 1, none⟩ = some y) ∧ (Y.frozen? ⟨w.heap.size, 0, none⟩ = false ∧ A0.frozen? ⟨w.heap.size, 1, none⟩ = false) ∧ (A1.cell? ⟨w.heap.size, 0, none⟩ = some u ∧ A1.cell? ⟨w.heap.size, 1, none⟩ = some v) ∧ Hid (FBox A1 w.heap.size t #[u, v] ∧ Below w.heap.size w A1) := by
  have h0 := FBox.made w t #[x, y]
  have h1 := h0.set 0 u
  have h2 := h1.set 1 v
  exact ⟨_, _, _, rfl, rfl, rfl, ⟨h0.cell 0, h1.cell 1⟩, ⟨h0.free 0, h1.free 1⟩, ⟨h2.cell 0, h2.cell 1⟩, h2, ((((Below.refl _ w).alloc (Nat.le_refl _) _).setCell (p := ⟨w.heap.size, 0, none⟩) (Nat.le_refl _) _).setCell (p := ⟨w.heap.size, 1, none⟩) (Nat.le_refl _) _)⟩
theorem grownBy_of_below {w w' : World} (h : Below w.heap.size w w') : w.grownBy w' none := ⟨h.os, h.tape, h.output, h.size, fun k hk _ => h.block k hk⟩
theorem yfin_succ (m k : Nat) (hk : k < m) : (List.finRange m).take (k + 1) = (List.finRange m).take k ++ [(⟨k, hk⟩ : _root_.Fin m)] := by
  rw [List.take_add_one, List.getElem?_eq_getElem (by simpa using hk)]
  simp
/-- The going over of the samples, whatever is done with them. -/
theorem yall1_stops (F : Fence) (n : Nat) (h6 : F.fn 98) (hro : F.round = none) (hn : 1 ≤ n) (p : Nat) (a : Option Addr) (cap : Nat) (M : List (Int × Nat)) (w : World) (Kp : World → World → Prop) (hKc : ∀ A B : World, Kp A B → ∀ g, a = some ⟨g, 0, none⟩ → B.heap[g]? = A.heap[g]?) (hp : p < w.heap.size) (c1 : w.cell? ⟨p, 0, none⟩ = some (.slice a M.length cap)) (hv : RdV w a (smC M)) (hM : M.length ≤ 4096) :
    SeqStopsK F n Try.prog 98 #[.pointer (some ⟨p, 0, none⟩)] (fun x : _root_.Fin M.length => #[.int .i64 (M[x.val]).1, .float .f64 (M[x.val]).2]) Kp (fun xs => xs = List.finRange M.length) (fun pre => ∃ k, k ≤ M.length ∧ pre = (List.finRange M.length).take k) M.length w := fun l J Jx W hW hJ hJx hY h0 => by
  refine callsIn_of_wp Try.func98 rfl h6 ?_ hro
  simp only [Try.ntmps98, List.size_toArray, List.length_cons, List.length_nil, Nat.reduceAdd, Nat.reduceSub, Array.replicate_succ, Array.replicate_zero, List.push_toArray, List.append_toArray, List.nil_append, List.cons_append]
  have d1 : W.cell? ⟨p, 0, none⟩ = some (.slice a M.length cap) := (hW.cell (p := ⟨p, 0, none⟩) (show p < _ by omega)).trans c1
  have HV : Hid (∀ g, a = some ⟨g, 0, none⟩ → 0 < M.length → W.heap[g]? = w.heap[g]?) := fun g hg h0 => by
    rcases hv with q | ⟨g', e, hl, _⟩
    · have := congrArg List.length q
      rw [smC_len, List.length_nil] at this
      omega
    · rw [hg] at e
      injection e with e
      injection e with e
      subst e
      exact hW.block g hl
  have HC : Hid (∀ k, ∀ hk : k < M.length, ∃ g, a = some ⟨g, 0, none⟩ ∧ w.cell? ⟨g, k * 2, none⟩ = some (.int .i64 (M[k]).1) ∧ w.cell? ⟨g, k * 2 + 1, none⟩ = some (.float .f64 (M[k]).2)) := fun k hk => by
    rcases hv with q | ⟨g, e, hl, hc⟩
    · have := congrArg List.length q
      rw [smC_len, List.length_nil] at this
      omega
    · have q := smC_at (List.getElem?_eq_getElem hk)
      exact ⟨g, e, hc _ _ q.1, hc _ _ q.2⟩
  have HY := hid hY
  have HK := hid hKc
  clear hY c1 hv hKc
  have hJ0 : Hid (J ((List.finRange M.length).take 0) W) := h0
  have HAb := hid hJ
  have HSF : Hid (∀ k, ∀ hk : k < M.length, (List.finRange M.length).take (k + 1) = (List.finRange M.length).take k ++ [(⟨k, hk⟩ : _root_.Fin M.length)]) := fun k hk => yfin_succ M.length k hk
  have HAll : Hid ((List.finRange M.length).take M.length = List.finRange M.length) := List.take_of_length_le (by simp)
  clear h0 hJ
  gi_wp2
  gi_loopw [7] (fun x wr => ∃ k : Nat, k ≤ M.length ∧ x = .int .i64 (k : Int) ∧ Hid (∀ g, a = some ⟨g, 0, none⟩ → 0 < M.length → wr.heap[g]? = w.heap[g]?) ∧ Hid (J ((List.finRange M.length).take k) wr)) (fun x _ => M.length - (intOf x).toNat)
  case atStart => exact ⟨0, Nat.zero_le _, rfl, HV.out, hJ0⟩
  case round =>
    obtain ⟨k, hk, rfl, HS, HJ⟩ := hrel
    by_cases hlt : k < M.length
    · have HSk := hid (HSF.out k hlt)
      obtain ⟨g, rfl, q1, q2⟩ := HC.out k hlt
      have hblk := HS.out g rfl (by omega)
      have d2 : wr.cell? ⟨g, k * 2, none⟩ = some (.int .i64 (M[k]).1) := (World.cell?_of_block (a := ⟨g, k * 2, none⟩) hblk).trans q1
      have d3 : wr.cell? ⟨g, k * 2 + 1, none⟩ = some (.float .f64 (M[k]).2) := (World.cell?_of_block (a := ⟨g, k * 2 + 1, none⟩) hblk).trans q2
      have hlen : ((List.finRange M.length).take k).length < M.length := by rw [List.length_take, List.length_finRange]; omega
      obtain ⟨Y, A0, A1, hY, hA0, hA1, ⟨y0, y1⟩, ⟨f0, f1⟩, ⟨z0, z1⟩, HBX⟩ := ybox2 wr 46 (.int .i64 0) (.float .f64 0) (.int .i64 (M[k]).1) (.float .f64 (M[k]).2)
      have HJ1 : Hid (J ((List.finRange M.length).take k) A1) := HAb.out _ _ _ none HJ.out (grownBy_of_below HBX.out.2) (fun r e => by cases e)
      obtain ⟨fn, tmps, assign, body, hy, hR⟩ := HY.out _ (⟨k, hlt⟩ : _root_.Fin M.length) A1 HJ1.out hlen
      dsimp only at hy
      have HB1 : Hid (A1.heap[g]? = wr.heap[g]?) := HBX.out.2.block g (block_lt_of_cell d2)
      have HSg := hid hblk
      have sF : ∀ (W : World) (p : Addr) (y : Nat) (md : Mode), (store p (.float .f64 y) md).run Try.prog W = stored Try.prog W p (.float .f64 y) md := fun W p y md => run_store Try.prog W p _ md rfl
      clear q1 q2 hblk
      generalize (List.finRange M.length).take k = pre at *
      generalize (M[k]).1 = tk at *
      generalize (M[k]).2 = bk at *
      gi_wp2
      clear hY hA0 hA1 y0 y1 f0 f1 z0 z1 sF
      refine hR.mono ?_
      rintro e' W3 (⟨rfl, hJ3, hk3⟩ | ⟨rfl, hJx3⟩)
      · have HS3 : Hid (∀ g', some (⟨g, 0, none⟩ : Addr) = some ⟨g', 0, none⟩ → 0 < M.length → W3.heap[g']? = w.heap[g']?) := fun g' e _ => by
          injection e with e
          injection e with e
          subst e
          exact ((HK.out _ _ hk3 g rfl).trans HB1.out).trans HSg.out
        have hw1 : IntKind.i64.wrap ((k : Int) + 1) = (k : Int) + 1 := by rw [IntKind.wrap_i64]; omega
        clear hk3
        gi_wp2
        go_roundw
        case rel => exact ⟨k + 1, by omega, by first | rfl | go_num, HS3.out, by rw [HSk.out]; exact hJ3⟩
        case measure => simp [intOf]; omega
      · gi_wp2
        refine bodyPost_ret (results_none rfl _ _ _) rfl ?_
        exact ⟨⟨_, rfl⟩, .inr ⟨_, ⟨k + 1, by omega, HSk.out.symm⟩, hJx3⟩⟩
    · obtain rfl : k = M.length := by omega
      have hJ9 := HJ.out
      rw [HAll.out] at hJ9
      gi_wp2
      all_goals first
        | (exfalso; omega)
        | (go_end0
           refine ⟨⟨_, rfl⟩, .inl ?_⟩
           simpa using hJ9)
/-- A range over a function of two numbers: the law of the kit, at any slots. -/
theorem yrange {β : Type} {e1 e2 : β → Value} {g : Operand} {assign body : Code} {Q : Exit → Act → World → Prop} {a : Act} {w : World} {gf s1 s2 s3 s4 : Nat} {lb : Array Value}
    (hg : a.eval g = .func (.func gf) #[] lb) (eg : ∀ args w, (callFunc gf args).run Try.prog w = .ok (.enter gf args) w)
    {S Sp : List β → Prop} {N : Nat} {Kp : World → World → Prop} (hseq : SeqStopsK Fence.wide 2 Try.prog gf lb (fun x : β => #[e1 x, e2 x]) Kp S Sp N w) (hKt : ∀ {A B C : World}, Kp A B → Kp B C → Kp A C) (hKb : ∀ (W : World) (l : Nat) (o o' : Obj), w.heap.size ≤ l → W.heap[l]? = some o → o.isCells = false → o.isWalk = false → Kp W (W.putObj l o'))
    (I : List β → World → Prop) (Ix : Code → List β → World → Prop) (hI : OwnFrom w.heap.size I) (hIx : ∀ c, OwnFrom w.heap.size (Ix c)) (h0 : I [] w)
    (hassign : ∀ (l : Nat) (x : β) (W : World) (K : Act → World → Prop), K { tmps := (((a.tmps.setIfInBounds s1 (e1 x)).setIfInBounds s2 (e2 x)).setIfInBounds s3 (e1 x)).setIfInBounds s4 (e2 x), defers := [] } W →
      assign.wpIn (Fence.wide.inRound l) 1 Try.prog (Exit.then K (fun _ _ _ => False)) { tmps := (a.tmps.setIfInBounds s1 (e1 x)).setIfInBounds s2 (e2 x), defers := [] } W)
    (hbody : ∀ (l : Nat) (pre : List β) (x : β) (W : World), I pre W → pre.length < N → body.wpIn (Fence.wide.inRound l) 1 Try.prog (ownPostK Kp I Ix (pre ++ [x]) W) { tmps := (((a.tmps.setIfInBounds s1 (e1 x)).setIfInBounds s2 (e2 x)).setIfInBounds s3 (e1 x)).setIfInBounds s4 (e2 x), defers := [] } W)
    (hdone : ∀ (D : Nat) (xs : List β) (W : World), w.heap.size ≤ D → S xs → I xs W → W.heap[D]? = some (.deferred (some [])) → Q .normal { a with defers := { target := .collected D, args := #[] } :: a.defers } W)
    (hstop : ∀ (D : Nat) (c : Code) (pre : List β) (W : World), w.heap.size ≤ D → Sp pre → Ix c pre W → W.heap[D]? = some (.deferred (some [])) → c.wpIn Fence.wide 3 Try.prog Q { a with defers := { target := .collected D, args := #[] } :: a.defers } W) :
    (Code.rangeFunc g #[s1, s2] assign body).wpIn Fence.wide 3 Try.prog Q a w :=
  wpIn_rangeFunc_ownF rfl (by decide) hg trivial eg hseq hKt hKb (Below.refl _ _) (fun _ => rfl) I Ix hI hIx h0
    (fun x => { tmps := (((a.tmps.setIfInBounds s1 (e1 x)).setIfInBounds s2 (e2 x)).setIfInBounds s3 (e1 x)).setIfInBounds s4 (e2 x), defers := [] })
    (fun l x W K hK => by
      have e := hassign l x W K hK
      simpa using e) hbody hdone hstop
end Go.Proofs.Ytblfemmhhijeeaa

/- package record: Between, of every record and span. -/
namespace Go.Proofs.Ytblfemmhhijeeaa
open Go.RowKit Go.Shelf
set_option linter.unusedVariables false
set_option linter.unusedSimpArgs false
attribute [local go_sem] Oper.semAt_some

/-- The samples of a span. -/
def spanL (M : List (Int × Nat)) (a b : Int) : List (Int × Nat) := M.filter fun p => decide (a ≤ p.1) && decide (p.1 < b)
theorem yfin_map (M : List (Int × Nat)) : (List.finRange M.length).map (fun j => M[j.val]) = M := by
  apply List.ext_getElem
  · simp
  · intro i h1 h2; simp
/-- All that lay there but one block lies there still. -/
structure YdR (V W : World) (k : Nat) : Prop where
  size : V.heap.size ≤ W.heap.size
  same : ∀ b, b < V.heap.size → b ≠ k → W.heap[b]? = V.heap[b]?
theorem YdR.refl (V : World) (k : Nat) : YdR V V k := ⟨Nat.le_refl _, fun _ _ _ => rfl⟩
theorem YdR.put {V W : World} {k : Nat} (h : YdR V W k) (j : Nat) (v : Value) : YdR V (W.setCell ⟨k, j, none⟩ v) k := ⟨by simpa [World.setCell] using h.size, fun b hl hn => (Below.heap_setCell _ _ _ _ hn).trans (h.same b hl hn)⟩
theorem YdR.box {V W : World} {k b t : Nat} {vs : Array Value} (h : YdR V W k) (hF : FBox V b t vs) (hn : b ≠ k) : FBox W b t vs := (h.same b hF.lt hn).trans hF
theorem YdR.own {V W W' : World} {k : Nat} {row : Option Nat} (h : YdR V W k) (hg : W.grownBy W' row) (hr : ∀ r, row = some r → V.heap.size ≤ r) : YdR V W' k := ⟨Nat.le_trans h.size hg.size, fun b hl hn => (hg.block b (Nat.lt_of_lt_of_le hl h.size) (fun e => by have := hr b e.symm; omega)).trans (h.same b hl hn)⟩
/-- What stands while Between goes over the samples. -/
structure BtS (w w3 : World) (K0 : Nat) (Q : List (Int × Nat)) (W : World) : Prop where
  own : ∃ v, FBox W K0 39 #[v] ∧ W.ownsRow w3.heap.size 46 2 v Q.length (smC Q)
  rest : YdR w3 W K0
  bel : Below w.heap.size w W
theorem BtS.grow {w w3 A B : World} {K0 : Nat} {Q : List (Int × Nat)} {row : Option Nat} (h : BtS w w3 K0 Q A) (hk : K0 < w3.heap.size) (hw : w.heap.size ≤ w3.heap.size) (hg : A.grownBy B row) (hr : ∀ r, row = some r → w3.heap.size ≤ r ∧ ∃ o : Obj, A.heap[r]? = some o ∧ o.isCells = false) : BtS w w3 K0 Q B := by
  obtain ⟨v, h1, h2⟩ := h.own
  refine ⟨⟨v, ?_, h2.kept hg ?_⟩, h.rest.own hg (fun r e => (hr r e).1), h.bel.grown hg h.bel.size (fun k e => Nat.le_trans hw (hr k e).1)⟩
  · exact (hg.block K0 h1.lt (fun e => by have := (hr K0 e.symm).1; omega)).trans h1
  · rcases h2.2 with ⟨rfl, _⟩ | ⟨g, cap, cur, rfl, _, hh, _⟩
    · exact .inl rfl
    · right
      intro e
      obtain ⟨o, ho, hc⟩ := (hr g e.symm).2
      rw [hh] at ho
      injection ho with ho
      rw [← ho] at hc
      cases hc
set_option maxHeartbeats 6400000 in
set_option maxRecDepth 100000 in
theorem ybetween_ok (rb mb : Nat) (L : List (Int × Nat)) (a b : Int) (w : World) (h : RecAt w rb mb L) (ha : I64 a) (hb : I64 b) (hs : spR a b = 0) :
    Calls Try.prog 96 #[.pointer (some ⟨rb, 0, none⟩), .int .i64 a, .int .i64 b] w fun e w' => ∃ v : Value, e = .returned (.tuple #[v, .int .i64 0]) ∧ Hid (w'.ownsRow w.heap.size 46 2 v (spanL (onesL L true) a b).length (smC (spanL (onesL L true) a b))) ∧ Below w.heap.size w w' := by
  obtain ⟨i0, hi, hz0, hz1, hz2⟩ := info_parts Try.yinfoS
  have HR := hid h
  have HLk := hid (fun V (q : FBox V rb 75 #[.map (some mb)]) => ylook_at rb mb a b V q ha hb)
  rw [hs] at HLk
  have HAl := hid (fun V (q : RecAt V rb mb L) => yall_any rb mb L V q)
  have hM := (h.ok.ones true).few
  clear h hs ha hb
  generalize onesL L true = M at *
  refine (callsIn_wide (n := 3)).1 ?_
  refine callsIn_of_wp_marks Try.func96 rfl trivial ?_ rfl
  simp only [Try.ntmps96, List.size_toArray, List.length_cons, List.length_nil, Nat.reduceAdd, Nat.reduceSub, Array.replicate_succ, Array.replicate_zero, List.push_toArray, List.append_toArray, List.nil_append, List.cons_append]
  obtain ⟨V0, hV0⟩ : ∃ V0, (w.alloc (.cells #[.int .i64 a] 3)).alloc (.cells #[.int .i64 b] 3) = V0 := ⟨_, rfl⟩
  have HA0 : Hid (FBox V0 w.heap.size 3 #[.int .i64 a] ∧ FBox V0 (w.heap.size + 1) 3 #[.int .i64 b] ∧ Below w.heap.size w V0) := by
    rw [← hV0]
    have q1 := FBox.made w 3 #[.int .i64 a]
    have q2 := FBox.made (w.alloc (.cells #[.int .i64 a] 3)) 3 #[.int .i64 b]
    rw [show (w.alloc (.cells #[.int .i64 a] 3)).heap.size = w.heap.size + 1 by simp] at q2
    exact ⟨q1.later ((Below.refl _ _).alloc (Nat.le_refl _) _) q1.lt, q2, ((Below.refl _ _).alloc (Nat.le_refl _) _).alloc (by simp) _⟩
  have c0 : V0.cell? ⟨w.heap.size, 0, none⟩ = some (.int .i64 a) := HA0.out.1.cell 0
  have c1 : V0.cell? ⟨w.heap.size + 1, 0, none⟩ = some (.int .i64 b) := HA0.out.2.1.cell 0
  gi_wp2
  clear hV0
  refine ⟨trivial, ?_⟩
  refine (callsIn_wide.2 (HLk.out _ (HR.out.later HA0.out.2.2).box)).mono ?_
  rintro e w1 ⟨rfl, rfl⟩
  obtain ⟨V1, hV1⟩ : ∃ V1, w1.alloc (.cells #[.slice none 0 0] 39) = V1 := ⟨_, rfl⟩
  have HA1 : Hid (FBox V1 w1.heap.size 39 #[.slice none 0 0] ∧ Below w1.heap.size w1 V1) := by
    rw [← hV1]
    exact ⟨FBox.made _ _ _, (Below.refl _ _).alloc (Nat.le_refl _) _⟩
  clear c0 c1
  gi_wp2
  clear hV1
  refine ⟨trivial, ?_⟩
  refine (callsIn_wide.2 (HAl.out _ (HR.out.later (ybt HA0.out.2.2 HA1.out.2)))).mono ?_
  rintro e w3 ⟨p, v, rfl, HP, HV, HPl, hb3⟩
  obtain ⟨ad, cap, rfl, HRd⟩ := yshape HV.out
  have hnil : (binOp BinOp.eql 90 (.func (.func 98) #[] #[.pointer (some ⟨p, 0, none⟩)]) .nilFunc).run Try.prog w3 = .ok (.bool false) w3 := by first | rfl | kernel_rfl | simp [binOp, go_sem]
  have HB3 := hid (ybt HA0.out.2.2 (ybt HA1.out.2 hb3))
  have HK3 := hid (HA1.out.1.later hb3 HA1.out.1.lt)
  have Ha3 := hid (HA0.out.1.later (ybt HA1.out.2 hb3) HA0.out.1.lt)
  have Hb3 := hid (HA0.out.2.1.later (ybt HA1.out.2 hb3) HA0.out.2.1.lt)
  have hk0 : w.heap.size + 1 < w1.heap.size := HA0.out.2.1.lt
  have hk3 : w1.heap.size < w3.heap.size := HK3.out.lt
  have hgs : ∀ g, ad = some ⟨g, 0, none⟩ → V1.heap.size ≤ g ∧ g < w3.heap.size := fun g e => HV.out.lt g (by rw [e]; rfl)
  have hV1s : w1.heap.size < V1.heap.size := HA1.out.1.lt
  have HRdH := hid HRd
  clear hb3 HRd HLk HAl
  gi_wp2
  clear hnil
  refine yrange (s1 := 21) (s2 := 22) (s3 := 10) (s4 := 11) (Kp := fun A B => ∀ g, g < w3.heap.size → g ≠ w1.heap.size → B.heap[g]? = A.heap[g]?) rfl (enters_of Try.func98 (by kernel_rfl) rfl) (yall1_stops Fence.wide 2 trivial rfl (by decide) p ad cap M w3 _ (fun A B hq g e => hq g (hgs g e).2 (by have := (hgs g e).1; omega)) HP.out.lt (HP.out.cell 0) HRdH.out hM)
    (fun hq k g h1 h2 => (k g h1 h2).trans (hq g h1 h2)) (fun W l o o' hl ho hc _ g h1 h2 => World.putObj_heap_other (show g ≠ l by omega))
    (fun pre W => BtS w w3 w1.heap.size (spanL (pre.map fun j => M[j.val]) a b) W)
    (fun c pre W => False)
    (fun s A B row hs hg hr => hs.grow hk3 HB3.out.size hg hr)
    (fun c s A B row hs hg hr => hs) ⟨⟨_, HK3.out, World.ownsRow_nil _ _ _ _⟩, YdR.refl _ _, HB3.out⟩ ?assign ?body ?done ?stop
  case assign =>
    intro l x W K hK
    gi_wp2
    exact hK
  case stop =>
    rintro D c pre W hD hSp hIx hKD
    exact hIx.elim
  case body =>
    rintro l pre x W hS hlen
    obtain ⟨v, hF, hO⟩ := hS.own
    obtain ⟨a1, cap1, rfl, _⟩ := yshape hO
    have HS := hid hS
    have HF := hid hF
    have HO := hid hO
    have e0 : W.cell? ⟨w.heap.size, 0, none⟩ = some (.int .i64 a) := (hS.rest.box Ha3.out (by omega)).cell 0
    have e1 : W.cell? ⟨w.heap.size + 1, 0, none⟩ = some (.int .i64 b) := (hS.rest.box Hb3.out (by omega)).cell 0
    have e2 : W.cell? ⟨w1.heap.size, 0, none⟩ = some (.slice a1 (spanL (pre.map fun j => M[j.val]) a b).length cap1) := hF.cell 0
    have f2 : W.frozen? ⟨w1.heap.size, 0, none⟩ = false := hF.free 0
    have HX : Hid (spanL ((pre ++ [x]).map fun j => M[j.val]) a b = spanL (pre.map fun j => M[j.val]) a b ++ (if decide (a ≤ (M[x.val]).1) && decide ((M[x.val]).1 < b) then [M[x.val]] else [])) := by
      unfold spanL
      rw [List.map_append, List.filter_append]
      congr 1
      simp only [List.map_cons, List.map_nil, List.filter_cons, List.filter_nil]
    have hql : (spanL (pre.map fun j => M[j.val]) a b).length ≤ 4096 := by
      have := List.length_filter_le (fun p : Int × Nat => decide (a ≤ p.1) && decide (p.1 < b)) (pre.map fun j => M[j.val])
      unfold spanL
      rw [List.length_map] at this
      omega
    clear hS hF hO
    generalize spanL (pre.map fun j => M[j.val]) a b = Q at *
    obtain ⟨t, ht⟩ : ∃ t, (M[x.val]) = t := ⟨_, rfl⟩
    rw [ht] at HX ⊢
    obtain ⟨tk, bk⟩ := t
    dsimp only at HX ⊢
    clear ht
    by_cases h1 : a ≤ tk
    · by_cases h2 : tk < b
      · have HX2 : Hid (spanL ((pre ++ [x]).map fun j => M[j.val]) a b = Q ++ [(tk, bk)]) := by
          have q := HX.out
          rw [if_pos (by simp [h1, h2])] at q
          exact q
        have ho := HO.out
        have hws := HS.out.rest.size
        clear HX hlen
        have HAA : Hid (∀ w4, (W.alloc (.cells #[.int .i64 tk, .float .f64 bk] 46)).grownBy w4 (Value.slice a1 Q.length cap1).ownBlock → W.grownBy w4 (Value.slice a1 Q.length cap1).ownBlock ∧ w4.heap[w1.heap.size]? = W.heap[w1.heap.size]?) := fun w4 hg => by
          have q := (World.grownBy_alloc W (.cells #[.int .i64 tk, .float .f64 bk] 46) _).trans hg
          exact ⟨q, q.block _ HF.out.lt (fun e => by have := (HO.out.lt _ e.symm).1; omega)⟩
        gi_wp2_with (first
          | (gi_at_builtin; refine wpListIn_append_own _ rfl _ _ 39 rfl w3.heap.size 46 i0 (.agg #[.int .i64 0, .float .f64 0]) 2 16 Try.underlying39 hi hz0 hz1 hz2 rfl (by decide) _ _ _ rfl (ho.alloc _) ⟨W.heap.size, 0, none⟩ 1 1 [.int .i64 tk, .float .f64 bk] rfl rfl (ycell2 _ _ _ _) (smC_one (tk, bk)) (by unfold maxLen; omega) (by omega) (by simp; omega) ?_; intro v' w4 ho2 hg2 _; obtain ⟨a2, cap2, rfl, _⟩ := yshape ho2; have e4 : w4.cell? ⟨w1.heap.size, 0, none⟩ = some (.slice a1 Q.length cap1) := (World.cell?_of_block (a := ⟨w1.heap.size, 0, none⟩) (HAA.out w4 hg2).2).trans (HF.out.cell 0); have f4 : w4.frozen? ⟨w1.heap.size, 0, none⟩ = false := (World.frozen?_of_block (a := ⟨w1.heap.size, 0, none⟩) (HAA.out w4 hg2).2).trans (HF.out.free 0); have HG2 := hid hg2; have HO2 := hid ho2; clear hg2 ho2)
          | gi_in)
        all_goals first | (exfalso; omega) | skip
        have HA := hid (HAA.out w4 HG2.out).1
        have HF4 : Hid (FBox w4 w1.heap.size 39 #[.slice a1 Q.length cap1]) := (HAA.out w4 HG2.out).2.trans HF.out
        refine ⟨(KeepsOthers.of_grownBy HA.out (fun r o e ho => ?_)).trans (KeepsOthers.setCell _ _ _), fun g g1 g2 => ?_, ?_⟩
        · rcases HO.out.2 with ⟨q, _⟩ | ⟨g, cc, cur, q, _, hh, _⟩
          · rw [q] at e; cases e
          · rw [q] at e
            injection e with e
            rw [← e, hh] at ho
            injection ho with ho
            rw [← ho]
            rfl
        · exact (Below.heap_setCell _ _ _ _ g2).trans (HA.out.block g (Nat.lt_of_lt_of_le g1 hws) (fun e => by have := (HO.out.lt _ e.symm).1; omega))
        · have q : BtS w w3 w1.heap.size (Q ++ [(tk, bk)]) (w4.setCell ⟨w1.heap.size, 0, none⟩ (.slice a2 (Q.length + 1) cap2)) := by
            refine ⟨⟨_, HF4.out.set 0 _, ?_⟩, (HS.out.rest.own HA.out (fun r e => (HO.out.lt r e).1)).put 0 _, (HS.out.bel.grown HA.out HS.out.bel.size (fun r e => Nat.le_trans HB3.out.size (HO.out.lt r e).1)).setCell (p := ⟨w1.heap.size, 0, none⟩) (show w.heap.size ≤ w1.heap.size by omega) _⟩
            have o2 := yown_put HO2.out HF4.out (by decide) 0 (.slice a2 (Q.length + 1) cap2)
            rw [smC_append, List.length_append]
            exact o2
          rw [← HX2.out] at q
          exact q
      · have HX2 : Hid (spanL ((pre ++ [x]).map fun j => M[j.val]) a b = Q) := by
          have q := HX.out
          rw [if_neg (by simp [h2]), List.append_nil] at q
          exact q
        clear HX hlen
        gi_wp2
        all_goals first | (exfalso; omega) | skip
        all_goals exact ⟨KeepsOthers.refl _, fun _ _ _ => rfl, by have q := HS.out; rw [← HX2.out] at q; exact q⟩
    · have HX2 : Hid (spanL ((pre ++ [x]).map fun j => M[j.val]) a b = Q) := by
        have q := HX.out
        rw [if_neg (by simp [h1]), List.append_nil] at q
        exact q
      clear HX hlen
      gi_wp2
      all_goals first | (exfalso; omega) | skip
      all_goals exact ⟨KeepsOthers.refl _, fun _ _ _ => rfl, by have q := HS.out; rw [← HX2.out] at q; exact q⟩
  case done =>
    rintro D xs W hD rfl hS hKD
    rw [yfin_map] at hS
    obtain ⟨v, hF, hO⟩ := hS.own
    obtain ⟨a1, cap1, rfl, _⟩ := yshape hO
    have HO := hid (yowns_base hO HB3.out.size)
    have HB := hid hS.bel
    have HD := hid hKD
    have hDl : w.heap.size ≤ D := Nat.le_trans HB3.out.size hD
    have e2 : W.cell? ⟨w1.heap.size, 0, none⟩ = some (.slice a1 (spanL M a b).length cap1) := hF.cell 0
    clear hS hF hO hKD
    gi_wp2
    refine ⟨by simp, .inl ⟨_, _, rfl, run_takeDeferred HD.out, ?_⟩⟩
    refine ⟨.tuple #[.slice a1 (spanL M a b).length cap1, .int .i64 0], ?_, _, rfl, ?_, ?_⟩
    · simp [results, Try.results96, go_sem]
    · refine HO.out.kept (grownBy_putObj' W D (.deferred none)) ?_
      rcases HO.out.2 with ⟨q, _⟩ | ⟨g, cc, cur, q, _, hh, _⟩
      · rw [q]; exact .inl rfl
      · right
        rw [q]
        intro e
        injection e with e
        rw [← e, hh] at HD
        injection HD.out with e
        cases e
    · exact HB.out.trans (belowK_b (w := w) (Nat.le_refl _) _ D _ (.deferred none) hDl HD.out rfl rfl)
end Go.Proofs.Ytblfemmhhijeeaa

/- package record: Between refused, Gaps, of every record and span. -/
namespace Go.Proofs.Ytblfemmhhijeeaa
open Go.RowKit
set_option linter.unusedVariables false
set_option linter.unusedSimpArgs false

set_option maxHeartbeats 1600000 in
set_option maxRecDepth 100000 in
theorem ybetween_bad (rb mb : Nat) (a b : Int) (w : World) (h : FBox w rb 75 #[.map (some mb)]) (ha : I64 a) (hb : I64 b) (hs : ¬ spR a b = 0) :
    Calls Try.prog 96 #[.pointer (some ⟨rb, 0, none⟩), .int .i64 a, .int .i64 b] w fun e w' => e = .returned (.tuple #[.slice none 0 0, .int .i64 2]) ∧ Below w.heap.size w w' := by
  have hs2 : spR a b = 2 := by unfold spR at *; split at hs <;> simp_all
  obtain ⟨V0, hV0⟩ : ∃ V0, (w.alloc (.cells #[.int .i64 a] 3)).alloc (.cells #[.int .i64 b] 3) = V0 := ⟨_, rfl⟩
  have HA0 : Hid (FBox V0 w.heap.size 3 #[.int .i64 a] ∧ FBox V0 (w.heap.size + 1) 3 #[.int .i64 b] ∧ Below w.heap.size w V0) := by
    rw [← hV0]
    have q1 := FBox.made w 3 #[.int .i64 a]
    have q2 := FBox.made (w.alloc (.cells #[.int .i64 a] 3)) 3 #[.int .i64 b]
    rw [show (w.alloc (.cells #[.int .i64 a] 3)).heap.size = w.heap.size + 1 by simp] at q2
    exact ⟨q1.later ((Below.refl _ _).alloc (Nat.le_refl _) _) q1.lt, q2, ((Below.refl _ _).alloc (Nat.le_refl _) _).alloc (by simp) _⟩
  have HLk := hid (ylook_at rb mb a b V0 (h.later HA0.out.2.2 h.lt) ha hb)
  rw [hs2] at HLk
  have c0 : V0.cell? ⟨w.heap.size, 0, none⟩ = some (.int .i64 a) := HA0.out.1.cell 0
  have c1 : V0.cell? ⟨w.heap.size + 1, 0, none⟩ = some (.int .i64 b) := HA0.out.2.1.cell 0
  clear h ha hb hs hs2
  go_enter Try.func96, Try.ntmps96
  go_wp2_with fail
  clear hV0
  refine Calls.mono HLk.out ?_
  rintro e w1 ⟨rfl, rfl⟩
  go_wp2_with fail
  go_ret2
  exact ⟨rfl, HA0.out.2.2⟩
/-- The gaps ahead of the samples of a list, and where the next one begins. -/
def gapF (Q : List (Int × Nat)) (s : List (Int × Int) × Int) : List (Int × Int) × Int := Q.foldl (fun s p => (gapR s.1 s.2 p.1, p.1 + 1)) s
def gapsR (Q : List (Int × Nat)) (a b : Int) : List (Int × Int) := gapR (gapF Q ([], a)).1 (gapF Q ([], a)).2 b
theorem gapF_snoc (Q : List (Int × Nat)) (p : Int × Nat) (s : List (Int × Int) × Int) : gapF (Q ++ [p]) s = (gapR (gapF Q s).1 (gapF Q s).2 p.1, p.1 + 1) := by unfold gapF; rw [List.foldl_append]; rfl
theorem gapR_len (G : List (Int × Int)) (a b : Int) : (gapR G a b).length ≤ G.length + 1 := by
  unfold gapR
  split
  · omega
  · rw [List.length_append]; simp
theorem gapF_in {Q : List (Int × Nat)} {a : Int} (ha : 0 ≤ a ∧ a ≤ 1048577) (hQ : ∀ p ∈ Q, 0 ≤ p.1 ∧ p.1 ≤ 1048576) : ∀ k, k ≤ Q.length → (gapF (Q.take k) ([], a)).1.length ≤ k ∧ 0 ≤ (gapF (Q.take k) ([], a)).2 ∧ (gapF (Q.take k) ([], a)).2 ≤ 1048577 := by
  intro k
  induction k with
  | zero => intro _; exact ⟨Nat.le_refl _, ha⟩
  | succ k ih =>
    intro hk
    have := ih (by omega)
    have hg : Q[k]? = some Q[k] := List.getElem?_eq_getElem (by omega)
    rw [List.take_add_one, hg]
    simp only [Option.toList_some]
    rw [gapF_snoc]
    have q := hQ Q[k] (List.getElem_mem _)
    have l := gapR_len (gapF (Q.take k) ([], a)).1 (gapF (Q.take k) ([], a)).2 (Q[k]).1
    exact ⟨by dsimp only; omega, by dsimp only; omega, by dsimp only; omega⟩
set_option maxHeartbeats 3200000 in
set_option maxRecDepth 100000 in
theorem ygaps_ok (rb mb : Nat) (L : List (Int × Nat)) (a b : Int) (w : World) (h : RecAt w rb mb L) (ha : I64 a) (hb : I64 b) (hs : spR a b = 0) :
    Calls Try.prog 93 #[.pointer (some ⟨rb, 0, none⟩), .int .i64 a, .int .i64 b] w fun e w' => ∃ v : Value, e = .returned (.tuple #[v, .int .i64 0]) ∧ Hid (w'.ownsRow w.heap.size 123 2 v (gapsR (spanL (onesL L true) a b) a b).length (gpC (gapsR (spanL (onesL L true) a b) a b))) ∧ Below w.heap.size w w' := by
  have HBt := hid (ybetween_ok rb mb L a b w h ha hb hs)
  have hab : 0 ≤ a ∧ b ≤ 1048577 ∧ a ≤ b := by unfold spR at hs; split at hs <;> omega
  have hok := h.ok.ones true
  have hQ : ∀ p ∈ spanL (onesL L true) a b, 0 ≤ p.1 ∧ p.1 ≤ 1048576 := fun p hp => by
    have := hok.tick p (List.mem_filter.1 hp).1
    omega
  have hlen : (spanL (onesL L true) a b).length ≤ 4096 := Nat.le_trans (List.length_filter_le _ _) hok.few
  clear h ha hb hs hok
  have HGI := hid (gapF_in (Q := spanL (onesL L true) a b) (a := a) (by omega) hQ)
  have HQ := hid hQ
  have HGS : Hid (gapsR (spanL (onesL L true) a b) a b = gapR (gapF ((spanL (onesL L true) a b).take (spanL (onesL L true) a b).length) ([], a)).1 (gapF ((spanL (onesL L true) a b).take (spanL (onesL L true) a b).length) ([], a)).2 b) := by
    rw [List.take_length]; rfl
  clear hQ
  generalize gapsR (spanL (onesL L true) a b) a b = GS at *
  generalize spanL (onesL L true) a b = Q at *
  go_enter Try.func93, Try.ntmps93
  go_wp2_with fail
  refine Calls.mono HBt.out ?_
  rintro e w1 ⟨v, rfl, HO, hb1⟩
  obtain ⟨ad, cap, rfl, HV⟩ := yshape HO.out
  have HVH := hid HV
  have HB1 := hid hb1
  clear HBt HO HV hb1
  go_wp2_with fail
  go_loopw [10, 11, 27] (fun v nx x wr => ∃ k : Nat, k ≤ Q.length ∧ x = .int .i64 (k : Int) ∧ nx = .int .i64 (gapF (Q.take k) ([], a)).2 ∧ Hid (wr.ownsRow w1.heap.size 123 2 v (gapF (Q.take k) ([], a)).1.length (gpC (gapF (Q.take k) ([], a)).1)) ∧ Hid (Below w1.heap.size w1 wr)) (fun _ _ x _ => Q.length - (intOf x).toNat)
  case atStart => exact ⟨0, Nat.zero_le _, rfl, rfl, World.ownsRow_nil _ _ _ _, Below.refl _ _⟩
  case round =>
    obtain ⟨k, hk, rfl, rfl, HO, HBW⟩ := hrel
    obtain ⟨g1, g2, g3⟩ := HGI.out k hk
    by_cases hlt : k < Q.length
    · have hp : Q[k]? = some Q[k] := List.getElem?_eq_getElem hlt
      have HS : Hid (gapF (Q.take (k + 1)) ([], a) = (gapR (gapF (Q.take k) ([], a)).1 (gapF (Q.take k) ([], a)).2 (Q[k]).1, (Q[k]).1 + 1)) := by
        rw [List.take_add_one, hp]
        exact gapF_snoc _ _ _
      have ht := HQ.out Q[k] (List.getElem_mem hlt)
      obtain ⟨g, rfl, hg, hc⟩ : ∃ g, ad = some ⟨g, 0, none⟩ ∧ g < w1.heap.size ∧ ∀ j u, (smC Q)[j]? = some u → w1.cell? ⟨g, j, none⟩ = some u := by
        rcases HVH.out with q | q
        · have := congrArg List.length q
          rw [smC_len, List.length_nil] at this
          omega
        · exact q
      have q := smC_at hp
      have d0 : wr.cell? ⟨g, k * 2, none⟩ = some (.int .i64 (Q[k]).1) := (HBW.out.cell (p := ⟨g, k * 2, none⟩) hg).trans (hc _ _ q.1)
      have d1 : wr.cell? ⟨g, k * 2 + 1, none⟩ = some (.float .f64 (Q[k]).2) := (HBW.out.cell (p := ⟨g, k * 2 + 1, none⟩) hg).trans (hc _ _ q.2)
      obtain ⟨Y, A0, A1, hY, hA0, hA1, ⟨y0, y1⟩, ⟨f0, f1⟩, ⟨z0, z1⟩, HBX⟩ := ybox2 wr 46 (.int .i64 0) (.float .f64 0) (.int .i64 (Q[k]).1) (.float .f64 (Q[k]).2)
      have sF : ∀ (W : World) (p : Addr) (y : Nat) (md : Mode), (store p (.float .f64 y) md).run Try.prog W = stored Try.prog W p (.float .f64 y) md := fun W p y md => run_store Try.prog W p _ md rfl
      have HBA := hid (HBW.out.trans (HBX.out.2.mono HBW.out.size))
      have HBXb := hid HBX.out.1
      have HOA := hid (yowns_later HO.out HBX.out.2)
      have HNE : Hid (∀ r, u10.ownBlock = some r → r < wr.heap.size) := fun r e => (HO.out.lt r e).2
      have hsz := HBA.out.size
      clear q hc hp HBX HO HBW
      generalize gapF (Q.take k) ([], a) = st at *
      obtain ⟨G, nx⟩ := st
      dsimp only at HS HOA g1 g2 g3 ⊢
      generalize (Q[k]).1 = tk at *
      generalize (Q[k]).2 = bk at *
      have HGp := hid (ygap_any w1.heap.size _ G nx tk A1 HOA.out (by omega) hsz (by omega) (by omega))
      go_wp2_with fail
      clear hY hA0 hA1 y0 y1 f0 f1 z0 z1 sF d0 d1
      refine Calls.mono HGp.out ?_
      rintro e w4 ⟨v', rfl, HO4, hb4, hg4⟩
      have HB4 := hid (HBA.out.trans hb4)
      have HX4 : Hid (FBox w4 wr.heap.size 46 #[.int .i64 tk, .float .f64 bk]) := (hg4.block _ HBXb.out.lt (fun e => by have := HNE.out _ e.symm; omega)).trans HBXb.out
      have c4 : w4.cell? ⟨wr.heap.size, 0, none⟩ = some (.int .i64 tk) := HX4.out.cell 0
      have hw1 : IntKind.i64.wrap (tk + 1) = tk + 1 := by rw [IntKind.wrap_i64]; omega
      have hw2 : IntKind.i64.wrap ((k : Int) + 1) = (k : Int) + 1 := by rw [IntKind.wrap_i64]; omega
      clear hb4 hg4 HGp
      go_wp2_with fail
      go_roundw
      case rel => exact ⟨k + 1, by omega, by first | rfl | go_num, by rw [HS.out], by rw [HS.out]; exact HO4.out, HB4.out⟩
      case measure => simp [intOf]; omega
    · obtain rfl : k = Q.length := by omega
      have hsz := HBW.out.size
      generalize gapF (Q.take Q.length) ([], a) = st at *
      obtain ⟨G, nx⟩ := st
      dsimp only at HGS HO g1 g2 g3 ⊢
      have HGp := hid (ygap_any w1.heap.size _ G nx b wr HO.out (by omega) hsz (by omega) (by omega))
      have hf : decide (((Q.length : Nat) : Int) < ((Q.length : Nat) : Int)) = false := by simp
      go_wp2_with fail
      all_goals first | (exfalso; omega) | skip
      refine Calls.mono HGp.out ?_
      rintro e w4 ⟨v', rfl, HO4, hb4, hg4⟩
      have HB4 := hid (HBW.out.trans hb4)
      clear hb4 hg4 HGp
      go_wp2_with fail
      go_ret2
      refine ⟨_, rfl, ?_, HB1.out.trans (HB4.out.mono HB1.out.size)⟩
      rw [HGS.out]
      exact yowns_base HO4.out HB1.out.size
theorem ygaps_bad (rb mb : Nat) (a b : Int) (w : World) (h : FBox w rb 75 #[.map (some mb)]) (ha : I64 a) (hb : I64 b) (hs : ¬ spR a b = 0) :
    Calls Try.prog 93 #[.pointer (some ⟨rb, 0, none⟩), .int .i64 a, .int .i64 b] w fun e w' => e = .returned (.tuple #[.slice none 0 0, .int .i64 2]) ∧ Below w.heap.size w w' := by
  have HB := hid (ybetween_bad rb mb a b w h ha hb hs)
  clear h ha hb hs
  go_enter Try.func93, Try.ntmps93
  go_wp2_with fail
  refine Calls.mono HB.out ?_
  rintro e w1 ⟨rfl, hb⟩
  have HB1 := hid hb
  clear hb HB
  go_wp2_with fail
  go_ret2
  exact ⟨rfl, HB1.out⟩
end Go.Proofs.Ytblfemmhhijeeaa

/- The laws' own for records: lists held against each other; awake. -/
namespace Go.Proofs.Ytblfemmhhijeeaa
open Go.RowKit
set_option linter.unusedVariables false
set_option linter.unusedSimpArgs false

theorem ydrewM {B n : Nat} {a w : World} (h : Below B a w) : Below B a (w.drewN n) := by
  induction n with
  | zero => exact h
  | succ n ih => exact ih.drew
theorem ybt' {a b c : World} (h : Below a.heap.size a b) (g : Below b.heap.size b c) : Below a.heap.size a c := h.trans (g.mono h.size)
theorem RdV.get {w : World} {a : Option Addr} {xs : List Value} (h : RdV w a xs) {j : Nat} {u : Value} (hj : xs[j]? = some u) : ∃ g, a = some ⟨g, 0, none⟩ ∧ g < w.heap.size ∧ ∀ j u, xs[j]? = some u → w.cell? ⟨g, j, none⟩ = some u := by
  rcases h with rfl | h
  · simp at hj
  · exact h
set_option maxHeartbeats 1600000 in
set_option maxRecDepth 100000 in
theorem ysameI (a b : Option Addr) (ca cb : Nat) (zs : List Int) (w : World) (hn : zs.length ≤ 100000) (ha : RdV w a (zs.map (Value.int .i64))) (hb : RdV w b (zs.map (Value.int .i64))) :
    Calls Try.prog 20 #[.slice a zs.length ca, .slice b zs.length cb] w fun e w' => e = .returned (.bool true) ∧ Below w.heap.size w w' := by
  have HA := hid ha
  have HB := hid hb
  clear ha hb
  go_enter Try.func20, Try.ntmps20
  go_wp2_with fail
  go_loopw [5] (fun x wr => ∃ k : Nat, k ≤ zs.length ∧ x = .int .i64 (k : Int) ∧ Hid (Below w.heap.size w wr)) (fun x _ => zs.length - (intOf x).toNat)
  case atStart => exact ⟨0, Nat.zero_le _, rfl, Below.refl _ _⟩
  case round =>
    obtain ⟨k, hk, rfl, HW⟩ := hrel
    by_cases hlt : k < zs.length
    · have hj : (zs.map (Value.int .i64))[k]? = some (.int .i64 zs[k]) := by simp [hlt]
      obtain ⟨g, rfl, hg, hc⟩ := HA.out.get hj
      obtain ⟨g', rfl, hg', hc'⟩ := HB.out.get hj
      have c0 : wr.cell? ⟨g, k, none⟩ = some (.int .i64 zs[k]) := (HW.out.cell (p := ⟨g, k, none⟩) hg).trans (hc k _ hj)
      have c1 : wr.cell? ⟨g', k, none⟩ = some (.int .i64 zs[k]) := (HW.out.cell (p := ⟨g', k, none⟩) hg').trans (hc' k _ hj)
      clear hc hc' HA HB hj
      generalize zs[k] = z at *
      go_wp2_with fail
      go_quiet (fail)
      go_wp2_with fail
      go_roundw
      case rel => exact ⟨k + 1, by omega, by go_num, ydrewM HW.out⟩
      case measure => simp [intOf]; omega
    · obtain rfl : k = zs.length := by omega
      go_wp2_with fail
      go_ret
      exact ⟨rfl, HW.out⟩
theorem gpC_at {M : List (Int × Int)} : ∀ {k : Nat} {p : Int × Int}, M[k]? = some p → (gpC M)[k * 2]? = some (.int .i64 p.1) ∧ (gpC M)[k * 2 + 1]? = some (.int .i64 p.2) := by
  induction M with
  | nil => intro k p h; simp at h
  | cons q M ih =>
    intro k p h
    have e : gpC (q :: M) = .int .i64 q.1 :: .int .i64 q.2 :: gpC M := rfl
    rw [e]
    cases k with
    | zero => simp at h; subst h; exact ⟨rfl, rfl⟩
    | succ k =>
      have := ih (k := k) (p := p) (by simpa using h)
      rw [show (k + 1) * 2 = k * 2 + 1 + 1 by omega, show k * 2 + 1 + 1 + 1 = (k * 2 + 1) + 1 + 1 by omega]
      exact this
theorem ypeq_item (w : World) (d : Nat) (xs ys : Array Value) (k : Nat) (is : List Nat) (a : Int) (ha : xs[k]? = some (.int .i64 a)) (hb : ys[k]? = some (.int .i64 a)) :
    (Op.eqItems (d + 1) 3 1 xs ys (k :: is)).run Try.prog w = (Op.eqItems (d + 1) 3 1 xs ys is).run Try.prog w := by
  have p1 := run_part_plain (P := Try.prog) w (e := 3) (by kernel_rfl) (xs := xs) (off := k * 1) (v := .int .i64 a) (by rw [Nat.mul_one]; exact ha)
  have p2 := run_part_plain (P := Try.prog) w (e := 3) (by kernel_rfl) (xs := ys) (off := k * 1) (v := .int .i64 a) (by rw [Nat.mul_one]; exact hb)
  have p3 := run_equalIn_int (P := Try.prog) w d 3 .i64 .i64 a a Try.underlying3
  simp only [Op.eqItems, Sem.run_bind, p1, p2, p3, Result.andThen_ok]
  simp
theorem ypeq (a b : Int) (w : World) : (Op.equalIn 10000 123 (.agg #[.int .i64 a, .int .i64 b]) (.agg #[.int .i64 a, .int .i64 b])).run Try.prog w = .ok true w := by
  obtain ⟨i0, hi0⟩ : ∃ i0, Try.prog.info? 3 = some i0 := by
    have h : (Try.prog.info? 3).isSome = true := by kernel_rfl
    exact Option.isSome_iff_exists.1 h
  rw [show (10000 : Nat) = 9999 + 1 from rfl, run_equalIn_array (P := Try.prog) w 9999 _ _ Try.underlying123 hi0, show Try.prog.cellsOf 3 = 1 by kernel_rfl]
  rw [show List.range 2 = [0, 1] from rfl, show (9999 : Nat) = 9998 + 1 from rfl]
  rw [ypeq_item w 9998 _ _ 0 _ a rfl rfl, ypeq_item w 9998 _ _ 1 _ b rfl rfl]
  simp [Op.eqItems]
set_option maxHeartbeats 1600000 in
set_option maxRecDepth 100000 in
theorem ypairs (a b : Option Addr) (ca cb : Nat) (G : List (Int × Int)) (w : World) (hn : G.length ≤ 100000) (ha : RdV w a (gpC G)) (hb : RdV w b (gpC G)) :
    Calls Try.prog 95 #[.slice a G.length ca, .slice b G.length cb] w fun e w' => e = .returned (.bool true) ∧ Below w.heap.size w w' := by
  have HA := hid ha
  have HB := hid hb
  clear ha hb
  go_enter Try.func95, Try.ntmps95
  go_wp2_with fail
  go_loopw [5] (fun x wr => ∃ k : Nat, k ≤ G.length ∧ x = .int .i64 (k : Int) ∧ Hid (Below w.heap.size w wr)) (fun x _ => G.length - (intOf x).toNat)
  case atStart => exact ⟨0, Nat.zero_le _, rfl, Below.refl _ _⟩
  case round =>
    obtain ⟨k, hk, rfl, HW⟩ := hrel
    by_cases hlt : k < G.length
    · have hj := gpC_at (List.getElem?_eq_getElem hlt)
      obtain ⟨g, rfl, hg, hc⟩ := HA.out.get hj.1
      obtain ⟨g', rfl, hg', hc'⟩ := HB.out.get hj.1
      have c0 : wr.cell? ⟨g, k * 2, none⟩ = some (.int .i64 (G[k]).1) := (HW.out.cell (p := ⟨g, k * 2, none⟩) hg).trans (hc _ _ hj.1)
      have c1 : wr.cell? ⟨g, k * 2 + 1, none⟩ = some (.int .i64 (G[k]).2) := (HW.out.cell (p := ⟨g, k * 2 + 1, none⟩) hg).trans (hc _ _ hj.2)
      have d0 : wr.cell? ⟨g', k * 2, none⟩ = some (.int .i64 (G[k]).1) := (HW.out.cell (p := ⟨g', k * 2, none⟩) hg').trans (hc' _ _ hj.1)
      have d1 : wr.cell? ⟨g', k * 2 + 1, none⟩ = some (.int .i64 (G[k]).2) := (HW.out.cell (p := ⟨g', k * 2 + 1, none⟩) hg').trans (hc' _ _ hj.2)
      clear hc hc' HA HB hj
      generalize (G[k]).1 = z1 at *
      generalize (G[k]).2 = z2 at *
      have hEQ := ypeq z1 z2
      go_wp2_with fail
      go_quiet (fail)
      go_wp2_with fail
      go_roundw
      case rel => exact ⟨k + 1, by omega, by go_num, ydrewM HW.out⟩
      case measure => simp [intOf]; omega
    · obtain rfl : k = G.length := by omega
      go_wp2_with fail
      go_ret
      exact ⟨rfl, HW.out⟩
end Go.Proofs.Ytblfemmhhijeeaa

/- Layer 19's Same: two lists of samples, to the bit. -/
namespace Go.Proofs.Ytblfemmhhijeeaa
open Go.RowKit
set_option linter.unusedVariables false
set_option linter.unusedSimpArgs false

set_option maxHeartbeats 1600000 in
set_option maxRecDepth 100000 in
theorem ysameS (a b : Option Addr) (ca cb : Nat) (M : List (Int × Nat)) (w : World) (hn : M.length ≤ 100000) (ha : RdV w a (smC M)) (hb : RdV w b (smC M)) :
    Calls Try.prog 91 #[.slice a M.length ca, .slice b M.length cb] w fun e w' => e = .returned (.bool true) ∧ Below w.heap.size w w' := by
  have HA := hid ha
  have HB := hid hb
  clear ha hb
  go_enter Try.func91, Try.ntmps91
  go_wp2_with fail
  go_loopw [5] (fun x wr => ∃ k : Nat, k ≤ M.length ∧ x = .int .i64 (k : Int) ∧ Hid (Below w.heap.size w wr)) (fun x _ => M.length - (intOf x).toNat)
  case atStart => exact ⟨0, Nat.zero_le _, rfl, Below.refl _ _⟩
  case round =>
    obtain ⟨k, hk, rfl, HW⟩ := hrel
    by_cases hlt : k < M.length
    · have hj := smC_at (List.getElem?_eq_getElem hlt)
      obtain ⟨g, rfl, hg, hc⟩ := HA.out.get hj.1
      obtain ⟨g', rfl, hg', hc'⟩ := HB.out.get hj.1
      have c0 : wr.cell? ⟨g, k * 2, none⟩ = some (.int .i64 (M[k]).1) := (HW.out.cell (p := ⟨g, k * 2, none⟩) hg).trans (hc _ _ hj.1)
      have c1 : wr.cell? ⟨g, k * 2 + 1, none⟩ = some (.float .f64 (M[k]).2) := (HW.out.cell (p := ⟨g, k * 2 + 1, none⟩) hg).trans (hc _ _ hj.2)
      have d0 : wr.cell? ⟨g', k * 2, none⟩ = some (.int .i64 (M[k]).1) := (HW.out.cell (p := ⟨g', k * 2, none⟩) hg').trans (hc' _ _ hj.1)
      have d1 : wr.cell? ⟨g', k * 2 + 1, none⟩ = some (.float .f64 (M[k]).2) := (HW.out.cell (p := ⟨g', k * 2 + 1, none⟩) hg').trans (hc' _ _ hj.2)
      clear hc hc' HA HB hj
      generalize (M[k]).1 = z1 at *
      generalize (M[k]).2 = z2 at *
      have HSB : Hid (∀ V, Calls Try.prog 53 #[.float .f64 z2, .float .f64 z2] V fun e w' => e = .returned (.bool true) ∧ w' = V) := sameBits_eq z2
      have hs0 : wr.drew.cell? ⟨g, k * 2, none⟩ = some (.int .i64 z1) ∧ wr.drew.cell? ⟨g, k * 2 + 1, none⟩ = some (.float .f64 z2) ∧ wr.drew.cell? ⟨g', k * 2, none⟩ = some (.int .i64 z1) ∧ wr.drew.cell? ⟨g', k * 2 + 1, none⟩ = some (.float .f64 z2) := ⟨c0, c1, d0, d1⟩
      have hk0 : (0 : Int) ≤ ↑k := by omega
      have hk1 : (↑k : Int) < ↑M.length := by omega
      have HBL := hid (HW.out.drew)
      go_wp2_with fail
      go_region_held3 (fun V : World => V.cell? ⟨g, k * 2, none⟩ = some (.int .i64 z1) ∧ V.cell? ⟨g, k * 2 + 1, none⟩ = some (.float .f64 z2) ∧ V.cell? ⟨g', k * 2, none⟩ = some (.int .i64 z1) ∧ V.cell? ⟨g', k * 2 + 1, none⟩ = some (.float .f64 z2)) (exact hs0) ((go_at_call 53; with_reducible refine Calls.mono (HSB.out _) ?_; rintro e w2 ⟨rfl, rfl⟩))
      all_goals
        go_wp2_with fail
        go_roundw
        case rel => exact ⟨k + 1, by omega, by go_num, HBL.out⟩
        case measure => simp [intOf]; omega
    · obtain rfl : k = M.length := by omega
      go_wp2_with fail
      go_ret
      exact ⟨rfl, HW.out⟩
end Go.Proofs.Ytblfemmhhijeeaa

/- package record: From of any list of samples. -/
namespace Go.Proofs.Ytblfemmhhijeeaa
open Go.RowKit
set_option linter.unusedVariables false
set_option linter.unusedSimpArgs false

/-- A list of samples in memory. -/
def RdS (w : World) (a : Option Addr) (xs : List (Int × Nat)) : Prop := xs = [] ∨ ∃ g o, a = some ⟨g, o, none⟩ ∧ g < w.heap.size ∧ ∀ j p, xs[j]? = some p → w.cell? ⟨g, o + j * 2, none⟩ = some (.int .i64 p.1) ∧ w.cell? ⟨g, o + j * 2 + 1, none⟩ = some (.float .f64 p.2)
theorem RdS.later {w w' : World} {B : Nat} {a : Option Addr} {xs : List (Int × Nat)} (h : RdS w a xs) (hb : Below w.heap.size w w') : RdS w' a xs := by
  rcases h with h | ⟨g, o, ha, hg, hc⟩
  · exact .inl h
  · have := hb.size
    refine .inr ⟨g, o, ha, by omega, fun j p hj => ?_⟩
    obtain ⟨e1, e2⟩ := hc j p hj
    exact ⟨(hb.cell (p := ⟨g, o + j * 2, none⟩) hg).trans e1, (hb.cell (p := ⟨g, o + j * 2 + 1, none⟩) hg).trans e2⟩
theorem RdS.of {w : World} {a : Option Addr} {xs : List (Int × Nat)} (h : RdV w a (smC xs)) : RdS w a xs := by
  rcases h with h | ⟨g, ha, hg, hc⟩
  · left
    cases xs with
    | nil => rfl
    | cons p r => simp [smC] at h
  · refine .inr ⟨g, 0, ha, hg, fun j p hj => ?_⟩
    have := smC_at hj
    rw [Nat.zero_add]
    exact ⟨hc _ _ this.1, hc _ _ this.2⟩
theorem RdS.get {w : World} {a : Option Addr} {xs : List (Int × Nat)} (h : RdS w a xs) {j : Nat} {p : Int × Nat} (hj : xs[j]? = some p) : ∃ g o, a = some ⟨g, o, none⟩ ∧ g < w.heap.size ∧ ∀ j p, xs[j]? = some p → w.cell? ⟨g, o + j * 2, none⟩ = some (.int .i64 p.1) ∧ w.cell? ⟨g, o + j * 2 + 1, none⟩ = some (.float .f64 p.2) := by
  rcases h with rfl | h
  · simp at hj
  · exact h
theorem RecAt.put {W : World} {rb mb b : Nat} {L : List (Int × Nat)} (h : RecAt W rb mb L) (h1 : rb ≠ b) (h2 : mb ≠ b) (j : Nat) (v : Value) : RecAt (W.setCell ⟨b, j, none⟩ v) rb mb L := h.kept (Below.heap_setCell _ _ _ _ h1) (Below.heap_setCell _ _ _ _ h2)
structure FrS (w : World) (rb mb : Nat) (L : List (Int × Nat)) (W : World) : Prop where
  bel : Below w.heap.size w W
  own : RecAt W rb mb L
  box : FBox W w.heap.size 42 #[.int .i64 0, .int .i64 0]
theorem FrS.later {w W W' : World} {rb mb : Nat} {L : List (Int × Nat)} (h : FrS w rb mb L W) (hb : Below W.heap.size W W') : FrS w rb mb L W' := ⟨ybt' h.bel hb, h.own.later hb, h.box.later hb h.box.lt⟩
theorem FrS.but {w W W' : World} {rb mb : Nat} {L L' : List (Int × Nat)} (h : FrS w rb mb L W) (hb : But mb W W') (hm : w.heap.size < mb) (hr : RecAt W' rb mb L') : FrS w rb mb L' W' := ⟨h.bel.trans (hb.below (Nat.le_of_lt hm) h.bel.size), hr, h.box.but hb (by omega)⟩
end Go.Proofs.Ytblfemmhhijeeaa

/- package clean: isOne, rising, inOrder. -/
namespace Go.Proofs.Ytblfemmhhijeeaa
open Go.RowKit Go.Sort Go.Shelf Go.Lib
set_option linter.unusedVariables false
set_option linter.unusedSimpArgs false

end Go.Proofs.Ytblfemmhhijeeaa

/- package clean: inOrder, Median. -/
namespace Go.Proofs.Ytblfemmhhijeeaa
open Go.RowKit
set_option linter.unusedVariables false
set_option linter.unusedSimpArgs false

/-- A list of heights in memory. -/
def RdH (w : World) (a : Option Addr) (xs : List Nat) : Prop := xs = [] ∨ ∃ g o, a = some ⟨g, o, none⟩ ∧ g < w.heap.size ∧ ∀ j x, xs[j]? = some x → w.cell? ⟨g, o + j, none⟩ = some (.float .f64 x)
theorem RdH.later {w w' : World} {a : Option Addr} {xs : List Nat} (h : RdH w a xs) (hb : Below w.heap.size w w') : RdH w' a xs := by
  rcases h with h | ⟨g, o, ha, hg, hc⟩
  · exact .inl h
  · have := hb.size
    exact .inr ⟨g, o, ha, by omega, fun j x hj => (hb.cell (p := ⟨g, o + j, none⟩) hg).trans (hc j x hj)⟩
theorem RdH.get {w : World} {a : Option Addr} {xs : List Nat} (h : RdH w a xs) {j x : Nat} (hj : xs[j]? = some x) : ∃ g o, a = some ⟨g, o, none⟩ ∧ g < w.heap.size ∧ ∀ j x, xs[j]? = some x → w.cell? ⟨g, o + j, none⟩ = some (.float .f64 x) := by
  rcases h with rfl | h
  · simp at hj
  · exact h
theorem RdH.of {w : World} {a : Option Addr} {xs : List Nat} (h : RdV w a (xs.map (Value.float .f64))) : RdH w a xs := by
  rcases h with h | ⟨g, ha, hg, hc⟩
  · left
    simpa using h
  · exact .inr ⟨g, 0, ha, hg, fun j x hj => by rw [Nat.zero_add]; exact hc j _ (by simp [hj])⟩
/-- What Median tells of heights in their order. -/
def MedT (S : List Nat) (r : Nat) (o : Bool) : Prop := (S = [] ∧ r = 0 ∧ o = false) ∨ (S.length % 2 = 1 ∧ o = true ∧ S[S.length / 2]? = some r) ∨ (S ≠ [] ∧ S.length % 2 = 0 ∧ o = true ∧ ∃ a b p q, S[S.length / 2 - 1]? = some a ∧ S[S.length / 2]? = some b ∧ FN .quo a 4611686018427387904 p ∧ FN .quo b 4611686018427387904 q ∧ FN .add p q r)
end Go.Proofs.Ytblfemmhhijeeaa

/- package clean: Rising, onLine, appendLine. -/
namespace Go.Proofs.Ytblfemmhhijeeaa
open Go.RowKit
set_option linter.unusedVariables false
set_option linter.unusedSimpArgs false

theorem rise_adj : ∀ {xs : List (Int × Nat)}, (∀ i p q, xs[i]? = some p → xs[i + 1]? = some q → p.1 < q.1) → xs.Pairwise (fun p q => p.1 < q.1)
  | [], _ => .nil
  | [x], _ => by simp
  | x :: y :: r, h => by
    have ih : (y :: r).Pairwise (fun p q => p.1 < q.1) := rise_adj (fun i p q hp hq => h (i + 1) p q (by simpa using hp) (by simpa using hq))
    have hxy := h 0 x y rfl rfl
    refine List.pairwise_cons.2 ⟨fun p hp => ?_, ih⟩
    rcases List.mem_cons.1 hp with rfl | hp
    · exact hxy
    · have := (List.pairwise_cons.1 ih).1 p hp
      omega
/-- What stands on a line, each step rounded. -/
def LineT (s : Int) (b : Nat) (t : Int) (c : Nat) (x : Int) (r : Nat) : Prop := ∃ d p m, FN .sub c b d ∧ FN .quo (floatOfInt .f64 (x - s)) (floatOfInt .f64 (t - s)) p ∧ FN .mul d p m ∧ FN .add b m r
end Go.Proofs.Ytblfemmhhijeeaa

/- package clean: appendLine. -/
namespace Go.Proofs.Ytblfemmhhijeeaa
open Go.RowKit
set_option linter.unusedVariables false
set_option linter.unusedSimpArgs false

/-- What is put in between two samples. -/
def LineL (p q : Int × Nat) (M : List (Int × Nat)) : Prop := (3 < q.1 - p.1 - 1 ∧ M = []) ∨ (q.1 - p.1 - 1 ≤ 3 ∧ (M.length : Int) = q.1 - p.1 - 1 ∧ ∀ (j : Nat) x, M[j]? = some x → x.1 = p.1 + 1 + (j : Int) ∧ LineT p.1 p.2 q.1 q.2 x.1 x.2 ∧ x.2 < 18446744073709551616)
theorem LineT.lt {s : Int} {b : Nat} {t : Int} {c : Nat} {x : Int} {r : Nat} (h : LineT s b t c x r) : r < 18446744073709551616 := by
  obtain ⟨d, p, m, _, _, _, h4⟩ := h
  exact h4.1
/-- What stands while a line is put in. -/
structure ApS (base : Nat) (w : World) (v0 : Value) (n0 : Nat) (F M : List (Int × Nat)) (s : Int) (b : Nat) (t : Int) (c : Nat) (v : Value) (W : World) : Prop where
  bel : Below base w W
  own : W.ownsRow base 46 2 v (F ++ M).length (smC (F ++ M))
  b1 : FBox W w.heap.size 46 #[.int .i64 s, .float .f64 b]
  b2 : FBox W (w.heap.size + 1) 46 #[.int .i64 t, .float .f64 c]
  away : ∀ q, v.ownBlock = some q → v0.ownBlock = some q ∨ n0 ≤ q
  low : ∀ q, v0.ownBlock = some q → q < w.heap.size
  keep : ∀ k, k < w.heap.size → some k ≠ v0.ownBlock → W.heap[k]? = w.heap[k]?
  sz : n0 ≤ W.heap.size ∧ w.heap.size + 2 ≤ n0
theorem ApS.later {base n0 : Nat} {w W W' : World} {F M : List (Int × Nat)} {s : Int} {b : Nat} {t : Int} {c : Nat} {v v0 : Value} (h : ApS base w v0 n0 F M s b t c v W) (hbs : base ≤ w.heap.size) (hb : Below W.heap.size W W') : ApS base w v0 n0 F M s b t c v W' :=
  ⟨h.bel.trans (hb.mono (by have := h.sz; omega)), yowns_later h.own hb, h.b1.later hb h.b1.lt, h.b2.later hb h.b2.lt, h.away, h.low, fun k hk hn => (hb.block k (by have := h.sz; omega)).trans (h.keep k hk hn), ⟨Nat.le_trans h.sz.1 hb.size, h.sz.2⟩⟩
end Go.Proofs.Ytblfemmhhijeeaa

/- package clean: onesRising; what Fill makes, no program. -/
namespace Go.Proofs.Ytblfemmhhijeeaa
open Go.RowKit
set_option linter.unusedVariables false
set_option linter.unusedSimpArgs false

def tOk (t : Int) : Prop := 0 ≤ t ∧ t ≤ 1048576
/-- May samples be filled? -/
def goodS (xs : List (Int × Nat)) : Prop := xs.length ≤ 4096 ∧ xs.Pairwise (fun p q => p.1 < q.1) ∧ ∀ p ∈ xs, tOk p.1
def errS (xs : List (Int × Nat)) : Int := if 4096 < xs.length then 3 else 2
/-! ### What Fill makes -/
inductive FilP : List (Int × Nat) → List (Int × Nat) → Prop
  | nil : FilP [] []
  | one (q : Int × Nat) : FilP [q] [q]
  | more (O : List (Int × Nat)) (p q : Int × Nat) (F M : List (Int × Nat)) : FilP (O ++ [p]) F → LineL p q M → FilP (O ++ [p] ++ [q]) (F ++ M ++ [q])
theorem LineL.len {p q : Int × Nat} {M : List (Int × Nat)} (h : LineL p q M) : M.length ≤ 3 := by
  rcases h with ⟨_, rfl⟩ | ⟨h1, h2, _⟩
  · simp
  · omega
theorem FilP.len {O F : List (Int × Nat)} (h : FilP O F) : F.length ≤ 4 * O.length := by
  induction h with
  | nil => simp
  | one q => simp
  | more O p q F M h hl ih =>
    have := hl.len
    simp at ih ⊢
    omega
end Go.Proofs.Ytblfemmhhijeeaa

/- package clean: Fill. -/
namespace Go.Proofs.Ytblfemmhhijeeaa
open Go.RowKit
set_option linter.unusedVariables false
set_option linter.unusedSimpArgs false

theorem FilP.lt {O F : List (Int × Nat)} (h : FilP O F) (ho : ∀ p ∈ O, p.2 < 18446744073709551616) : ∀ p ∈ F, p.2 < 18446744073709551616 := by
  induction h with
  | nil => simp
  | one q => exact ho
  | more O p q F M h hl ih =>
    intro x hx
    rcases List.mem_append.1 hx with hx | hx
    · rcases List.mem_append.1 hx with hx | hx
      · exact ih (fun y hy => ho y (List.mem_append.2 (.inl hy))) x hx
      · rcases hl with ⟨_, rfl⟩ | ⟨_, _, h3⟩
        · simp at hx
        · obtain ⟨j, hj⟩ := List.getElem?_of_mem hx
          exact (h3 j x hj).2.2
    · exact ho x (List.mem_append.2 (.inr hx))
theorem FilP.next {O F M : List (Int × Nat)} {k : Nat} {p q : Int × Nat} (h : FilP (O.take (k + 1)) F) (hp : O[k]? = some p) (hq : O[k + 1]? = some q) (hl : LineL p q M) : FilP (O.take (k + 2)) (F ++ M ++ [q]) := by
  have e1 : O.take (k + 1) = O.take k ++ [p] := by rw [List.take_add_one, hp]; rfl
  have e2 : O.take (k + 2) = O.take k ++ [p] ++ [q] := by rw [List.take_add_one, hq, e1]; rfl
  rw [e1] at h
  rw [e2]
  exact FilP.more _ p q F M h hl
end Go.Proofs.Ytblfemmhhijeeaa

/- Layer 20's lives: two of the chapter's examples. -/
namespace Go.Proofs.Ytblfemmhhijeeaa
open Go.RowKit
set_option linter.unusedVariables false
set_option linter.unusedSimpArgs false

theorem FilP.none {F : List (Int × Nat)} (h : FilP [] F) : F = [] := by
  generalize hO : ([] : List (Int × Nat)) = O at h
  cases h with
  | nil => rfl
  | one q => cases hO
  | more O p q F M h hl => simp at hO
theorem FilP.single {p : Int × Nat} {F : List (Int × Nat)} (h : FilP [p] F) : F = [p] := by
  generalize hO : [p] = O at h
  cases h with
  | nil => cases hO
  | one q => rfl
  | more O p' q F M h hl =>
    have := congrArg List.length hO
    simp at this
theorem FilP.snoc {O : List (Int × Nat)} {p q : Int × Nat} {F : List (Int × Nat)} (h : FilP (O ++ [p] ++ [q]) F) : ∃ F' M, FilP (O ++ [p]) F' ∧ LineL p q M ∧ F = F' ++ M ++ [q] := by
  generalize hO : O ++ [p] ++ [q] = X at h
  cases h with
  | nil => simp at hO
  | one q' =>
    have := congrArg List.length hO
    simp at this
  | more O' p' q' F' M h hl =>
    have e1 := List.append_inj' hO rfl
    have e2 := List.append_inj' e1.1 rfl
    have e3 : q = q' := by simpa using e1.2
    have e4 : p = p' := by simpa using e2.2
    subst e3 e4
    rw [e2.1]
    exact ⟨F', M, h, hl, rfl⟩
theorem FilP.two {p q : Int × Nat} {F : List (Int × Nat)} (h : FilP [p, q] F) : ∃ M, LineL p q M ∧ F = [p] ++ M ++ [q] := by
  obtain ⟨F', M, h1, h2, h3⟩ := FilP.snoc (O := []) h
  rw [FilP.single h1] at h3
  exact ⟨M, h2, h3⟩
end Go.Proofs.Ytblfemmhhijeeaa

/- Samples and heights that came in; what Fill makes has no small gap, and is filled already; no program. -/
namespace Go.Proofs.Ytblfemmhhijeeaa
open Go.RowKit Go.ChangeShapes Go.WideShapes Go.Deep Go.Joins
set_option linter.unusedVariables false

/-! ### What Fill makes -/
/-- Each behind the one ahead, no small gap between. -/
def Nxt (p q : Int × Nat) : Prop := p.1 < q.1 ∧ (q.1 - p.1 ≤ 1 ∨ 4 < q.1 - p.1)
def Adj (F : List (Int × Nat)) : Prop := ∀ i p q, F[i]? = some p → F[i + 1]? = some q → Nxt p q
theorem Adj.snoc {F : List (Int × Nat)} {p q : Int × Nat} (h : Adj (F ++ [p])) (hr : Nxt p q) : Adj (F ++ [p] ++ [q]) := by
  intro i a b ha hb
  have hi := (List.getElem?_eq_some_iff.1 hb).1
  simp at hi
  rcases Nat.lt_or_ge (i + 1) (F ++ [p]).length with h1 | h1
  · rw [List.getElem?_append_left (by omega)] at ha
    rw [List.getElem?_append_left h1] at hb
    exact h i a b ha hb
  · have hif : i = F.length := by simp at h1; omega
    subst hif
    rw [List.getElem?_append_left (by simp)] at ha
    rw [List.getElem?_append_right (by simp)] at hb
    simp at ha hb
    subst ha hb
    exact hr
theorem Adj.rise {F : List (Int × Nat)} (h : Adj F) : F.Pairwise (fun p q => p.1 < q.1) := rise_adj (fun i p q hp hq => (h i p q hp hq).1)
theorem Adj.line {F0 M : List (Int × Nat)} {p q : Int × Nat} (h : Adj (F0 ++ [p])) (hl : LineL p q M) (hpq : p.1 < q.1) : Adj (F0 ++ [p] ++ M ++ [q]) := by
  rcases hl with ⟨hb, rfl⟩ | ⟨h1, h2, h3⟩
  · rw [List.append_nil]
    exact h.snoc ⟨hpq, .inr (by omega)⟩
  · have key : ∀ m, m ≤ M.length → ∃ G l, F0 ++ [p] ++ M.take m = G ++ [l] ∧ l.1 = p.1 + (m : Int) ∧ Adj (G ++ [l]) := by
      intro m
      induction m with
      | zero => intro _; exact ⟨F0, p, by simp, by simp, h⟩
      | succ m ih =>
        intro hm
        obtain ⟨G, l, e1, e2, e3⟩ := ih (by omega)
        obtain ⟨x, hx⟩ : ∃ x, M[m]? = some x := ⟨_, List.getElem?_eq_getElem (by omega)⟩
        have hx1 := (h3 m x hx).1
        refine ⟨G ++ [l], x, ?_, by rw [hx1]; omega, e3.snoc ⟨by omega, .inl (by omega)⟩⟩
        rw [List.take_add_one, hx, ← List.append_assoc, e1]
        rfl
    obtain ⟨G, l, e1, e2, e3⟩ := key M.length (Nat.le_refl _)
    rw [List.take_length] at e1
    rw [e1]
    exact e3.snoc ⟨by omega, .inl (by omega)⟩
end Go.Proofs.Ytblfemmhhijeeaa

/- Halves and medians, no program: a half is the float nearest to it; medians of the negatives, of the same heights in another order, between the least and the greatest. -/
namespace Go.Proofs.Ytblfemmhhijeeaa
open Go.RowKit
set_option linter.unusedVariables false

theorem read_num53 {x : Nat} (h : x % 9223372036854775808 < 9218868437227405312) :
    ∃ m a, Ieee.double.read x = .number (x / 9223372036854775808 % 2 == 1) m (-1074 + (a : Nat)) ∧ m * 2 ^ a = rungVal (x % 9223372036854775808) ∧ m < 9007199254740992 := by
  unfold Ieee.Format.read
  simp only [dbl_sign, dbl_inf, dbl_binade, dbl_least]
  by_cases hb : x % 9223372036854775808 < 4503599627370496
  · rw [if_pos hb]
    exact ⟨_, 0, rfl, by rw [rungVal, if_pos hb]; simp, by omega⟩
  · rw [if_neg hb, if_pos h]
    exact ⟨_, _, rfl, by rw [rungVal, if_neg hb], by omega⟩
/-- A half is the float nearest to the half. -/
theorem half_rn {x p : Nat} (hx : Fi x) (h : FN .quo x 4611686018427387904 p) : RN (sv x) 2 p := by
  obtain ⟨m, a, e1, v1, hm⟩ := read_num53 hx.2
  have e2 : Ieee.double.read 4611686018427387904 = .number false 4503599627370496 (-51) := by decide
  generalize hs : (x / 9223372036854775808 % 2 == 1) = s at e1
  have hsv : (sv x).natAbs = m * 2 ^ a := by rw [sv_abs, v1]
  have hlog : m.log2 ≤ 52 := by
    by_cases h0 : m = 0
    · subst h0; decide
    · have := (Nat.log2_lt h0 (k := 53)).2 (by omega)
      omega
  have key : ∃ (dg : Nat), 53 ≤ dg ∧ floatBits .quo .f64 x 4611686018427387904 = ((((Ieee.double.read x).quotient dg (Ieee.double.read 4611686018427387904)).map Ieee.double.write)) := ⟨_, by decide, rfl⟩
  obtain ⟨dg, hdg, hq⟩ := key
  rw [e1, e2] at hq
  simp only [Ieee.Datum.quotient] at hq
  rw [if_neg (by decide), show (4503599627370496 : Nat).log2 = 52 by decide] at hq
  obtain ⟨mo, hmo⟩ : ∃ mo, dg + 52 - m.log2 = 52 + mo := ⟨dg + 52 - m.log2 - 52, by omega⟩
  rw [hmo] at hq
  have hsh : m <<< (52 + mo) = m * 2 ^ mo * 4503599627370496 := by
    rw [Nat.shiftLeft_eq, Nat.pow_add, show (2 : Nat) ^ 52 = 4503599627370496 by decide, Nat.mul_comm 4503599627370496, ← Nat.mul_assoc]
  rw [hsh, Nat.mul_div_cancel _ (by decide), Nat.mul_mod_left] at hq
  have hq2 := h.bits (hq.trans rfl)
  have e3 : p = Ieee.double.nearest s (2 * (m * 2 ^ mo)) (-1074 + (a : Int) - -51 - ((52 + mo : Nat) : Int) - 1) := by
    rw [hq2]
    cases s <;> rfl
  rw [e3]
  refine near_rn (by decide) ?_ ?_ ?_
  · rw [hsv]
    by_cases hc : mo + 2 ≤ a
    · rw [show (-1074 + (a : Int) - -51 - ((52 + mo : Nat) : Int) - 1 + 1074).toNat = a - (mo + 2) by omega, show (-(-1074 + (a : Int) - -51 - ((52 + mo : Nat) : Int) - 1 + 1074)).toNat = 0 by omega]
      have e : (2 : Nat) ^ a = 2 ^ mo * 4 * 2 ^ (a - (mo + 2)) := by
        rw [show (4 : Nat) = 2 ^ 2 by decide, ← Nat.pow_add, ← Nat.pow_add, show mo + 2 + (a - (mo + 2)) = a by omega]
      rw [e, Nat.pow_zero, Nat.mul_one]
      generalize (2 : Nat) ^ mo = A
      generalize (2 : Nat) ^ (a - (mo + 2)) = B
      rw [show 2 * (m * A) * B * 2 = m * A * B * 4 by
        rw [Nat.mul_assoc 2, Nat.mul_comm 2, Nat.mul_assoc (m * A * B)]]
      rw [Nat.mul_assoc m, Nat.mul_assoc m, Nat.mul_right_comm A B 4]
    · rw [show (-1074 + (a : Int) - -51 - ((52 + mo : Nat) : Int) - 1 + 1074).toNat = 0 by omega, show (-(-1074 + (a : Int) - -51 - ((52 + mo : Nat) : Int) - 1 + 1074)).toNat = mo + 2 - a by omega]
      rw [Nat.mul_assoc m, ← Nat.pow_add, show a + (mo + 2 - a) = mo + 2 by omega, Nat.pow_add, Nat.pow_zero, Nat.mul_one]
      generalize (2 : Nat) ^ mo = A
      show 2 * (m * A) * 2 = m * (A * 4)
      rw [← Nat.mul_assoc m A 4]
      generalize m * A = C
      omega
  · intro hneg
    have := sv_sign hs
    cases s
    · rw [if_neg (by simp)] at this
      omega
    · rfl
  · intro hpos
    have := sv_sign hs
    cases s
    · rfl
    · rw [if_pos rfl] at this
      omega
theorem RN.fi {A : Int} {D p r : Nat} (h : RN A D p) (hD : 0 < D) (hr : r < 9218868437227405312) (hA : A.natAbs ≤ rungVal r * D) : Fi p := by
  obtain ⟨neg, s, rfl, _, _, hm⟩ := h
  have := hm.le hD hA
  exact word_fi neg (by omega)
theorem half_fi {x p : Nat} (hx : Fi x) (h : FN .quo x 4611686018427387904 p) : Fi p := (half_rn hx h).fi (by decide) hx.2 (by rw [sv_abs]; omega)
/-- Two numbers nearest to a fraction have one value. -/
theorem RN.val {A : Int} {D p q : Nat} (hD : 0 < D) (h : RN A D p) (g : RN A D q) (fp : Fi p) : sv p = sv q := by
  obtain ⟨n1, s, rfl, h1, h2, h3⟩ := h
  obtain ⟨n2, t, rfl, g1, g2, g3⟩ := g
  obtain rfl := h3.unique hD g3
  have hs : s ≤ 9218868437227405312 := h3.top
  rw [sv_word _ _ hs, sv_word _ _ hs]
  rcases Int.lt_trichotomy A 0 with hA | hA | hA
  · rw [h1 hA, g1 hA]
  · have : s = 0 := by
      subst hA
      exact h3.unique hD (mid_zero D)
    subst this
    have e : rungVal 0 = 0 := by decide
    rw [e]
    cases n1 <;> cases n2 <;> rfl
  · rw [h2 hA, g2 hA]
theorem RN.neg {A : Int} {D p q : Nat} (hD : 0 < D) (h : RN A D p) (g : RN (-A) D q) : sv q = - sv p := by
  obtain ⟨n1, s, rfl, h1, h2, h3⟩ := h
  obtain ⟨n2, t, rfl, g1, g2, g3⟩ := g
  rw [Int.natAbs_neg] at g3
  obtain rfl := h3.unique hD g3
  have hs : s ≤ 9218868437227405312 := h3.top
  rw [sv_word _ _ hs, sv_word _ _ hs]
  rcases Int.lt_trichotomy A 0 with hA | hA | hA
  · rw [h1 hA, g2 (by omega)]
    simp
  · have : s = 0 := by
      subst hA
      exact h3.unique hD (mid_zero D)
    subst this
    have e : rungVal 0 = 0 := by decide
    rw [e]
    cases n1 <;> cases n2 <;> rfl
  · rw [h2 hA, g1 (by omega)]
    simp
end Go.Proofs.Ytblfemmhhijeeaa

/- Medians, no program: of the same heights, of the negatives; between the least and the greatest. -/
namespace Go.Proofs.Ytblfemmhhijeeaa
open Go.RowKit
set_option linter.unusedVariables false

/-- What is nearest is not below a float that is not above. -/
theorem RN.ge_fl {A : Int} {r v : Nat} (h : RN A 1 r) (hv : Fi v) (hA : sv v ≤ A) : sv v ≤ sv r := by
  obtain ⟨neg, s, rfl, h1, h2, h3⟩ := h
  rw [sv_word _ _ h3.top]
  have hav := sv_abs v
  rcases Int.lt_or_le A 0 with hn | hp
  · rw [h1 hn, if_pos rfl]
    have := h3.le (r := v % 9223372036854775808) (by decide) (by rw [← hav]; omega)
    have := rungVal_le this
    omega
  · have hz : A = 0 ∨ 0 < A := by omega
    rcases hz with hz | hz
    · subst hz
      have : s = 0 := h3.unique (by decide) (mid_zero 1)
      subst this
      rw [show rungVal 0 = 0 by decide]
      cases neg <;> simp <;> omega
    · rw [h2 hz, if_neg (by decide)]
      by_cases hv0 : sv v ≤ 0
      · omega
      · have := h3.ge (r := v % 9223372036854775808) (by decide) (by have := hv.2; omega) (by rw [← hav]; omega)
        have := rungVal_le this
        omega
theorem RN.le_fl {A : Int} {r v : Nat} (h : RN A 1 r) (hv : Fi v) (hA : A ≤ sv v) : sv r ≤ sv v := by
  obtain ⟨neg, s, rfl, h1, h2, h3⟩ := h
  rw [sv_word _ _ h3.top]
  have hav := sv_abs v
  rcases Int.lt_or_le 0 A with hp | hn
  · rw [h2 hp, if_neg (by decide)]
    have := h3.le (r := v % 9223372036854775808) (by decide) (by rw [← hav]; omega)
    have := rungVal_le this
    omega
  · have hz : A = 0 ∨ A < 0 := by omega
    rcases hz with hz | hz
    · subst hz
      have : s = 0 := h3.unique (by decide) (mid_zero 1)
      subst this
      rw [show rungVal 0 = 0 by decide]
      cases neg <;> simp <;> omega
    · rw [h1 hz, if_pos rfl]
      by_cases hv0 : 0 ≤ sv v
      · omega
      · have := h3.ge (r := v % 9223372036854775808) (by decide) (by have := hv.2; omega) (by rw [← hav]; omega)
        have := rungVal_le this
        omega
/-- The greatest float, and its half. -/
theorem top_half : rungVal 9218868437227405311 = rungVal 9214364837600034815 * 2 := by decide +kernel
theorem half_size {x p : Nat} (hx : Fi x) (h : FN .quo x 4611686018427387904 p) : (sv p).natAbs ≤ rungVal 9214364837600034815 := by
  have hr := half_rn hx h
  obtain ⟨neg, s, rfl, _, _, hm⟩ := hr
  have h1 : (sv x).natAbs ≤ rungVal 9218868437227405311 := by
    rw [sv_abs]
    exact rungVal_le (by have := hx.2; omega)
  rw [top_half] at h1
  have := rungVal_le (hm.le (by decide) h1)
  rw [sv_word _ _ hm.top]
  split <;> omega
theorem sum_fi {p q r : Nat} (hp : Fi p) (hq : Fi q) (h1 : (sv p).natAbs ≤ rungVal 9214364837600034815) (h2 : (sv q).natAbs ≤ rungVal 9214364837600034815) (h : FN .add p q r) : Fi r := by
  refine (add_rn hp hq h).fi (r := 9218868437227405311) (by decide) (by decide) ?_
  rw [top_half]
  omega
/-- A half that is exact. -/
theorem half_exact {x p : Nat} (hx : Fi x) (h : FN .quo x 4611686018427387904 p) (ht : sv x = 0 ∨ 9007199254740992 ≤ (sv x).natAbs) : 2 * sv p = sv x := by
  have hr := half_rn hx h
  obtain ⟨neg, s, rfl, g1, g2, hm⟩ := hr
  rcases ht with ht | ht
  · rw [ht] at hm
    have : s = 0 := hm.unique (by decide) (mid_zero 2)
    subst this
    rw [sv_word _ _ (by decide), ht, show rungVal 0 = 0 by decide]
    cases neg <;> rfl
  · rw [sv_abs] at hm ht
    have hx2 := hx.2
    obtain ⟨e, he⟩ : ∃ e, x % 9223372036854775808 = e := ⟨_, rfl⟩
    rw [he] at hm ht hx2
    have hbig : 9007199254740992 ≤ e := by
      apply Nat.le_of_not_lt
      intro hlt
      have h3 : rungVal e < rungVal 9007199254740992 := rungVal_lt hlt
      rw [show rungVal 9007199254740992 = 9007199254740992 by decide +kernel] at h3
      omega
    have hhalf : rungVal e = rungVal (e - 4503599627370496) * 2 := by
      unfold rungVal
      rw [if_neg (by omega), if_neg (by omega)]
      have e1 : (e - 4503599627370496) % 4503599627370496 = e % 4503599627370496 := by omega
      have e2 : e / 4503599627370496 - 1 = ((e - 4503599627370496) / 4503599627370496 - 1) + 1 := by omega
      rw [e1, e2, Nat.pow_succ, ← Nat.mul_assoc]
    have hs : s = e - 4503599627370496 := by
      apply Nat.le_antisymm
      · exact hm.le (by decide) (Nat.le_of_eq hhalf)
      · exact hm.ge (by decide) (by omega) (Nat.le_of_eq hhalf.symm)
    rw [sv_word _ _ hm.top, hs]
    have hsg : sv x = if neg = true then -(rungVal e : Int) else (rungVal e : Int) := by
      have hab := sv_abs x
      rw [he] at hab
      have hpos : 0 < rungVal e := by omega
      rcases Int.lt_or_le (sv x) 0 with hn | hp
      · rw [g1 hn, if_pos rfl]
        omega
      · rw [g2 (by omega), if_neg (by decide)]
        omega
    rw [hsg, hhalf]
    split
    · rw [Int.natCast_mul]; omega
    · rw [Int.natCast_mul]; omega
end Go.Proofs.Ytblfemmhhijeeaa

/- Medians, no program: of one list, of the negatives; between the least and the greatest. -/
namespace Go.Proofs.Ytblfemmhhijeeaa
open Go.RowKit
set_option linter.unusedVariables false

theorem MedT.there {S : List Nat} {r : Nat} {o : Bool} (h : MedT S r o) : (o = true ↔ S ≠ []) ∧ (o = false → r = 0) := by
  rcases h with ⟨h1, h2, h3⟩ | ⟨h1, h2, h3⟩ | ⟨h1, h2, h3, h4⟩
  · subst h3; exact ⟨by simp [h1], fun _ => h2⟩
  · subst h2; refine ⟨⟨fun _ e => ?_, fun _ => rfl⟩, fun e => by cases e⟩
    subst e; simp at h1
  · subst h3; exact ⟨⟨fun _ => h1, fun _ => rfl⟩, fun e => by cases e⟩
theorem MedT.fi {S : List Nat} {r : Nat} (hS : ∀ x ∈ S, Fi x) (h : MedT S r true) : Fi r := by
  rcases h with ⟨_, _, h3⟩ | ⟨_, _, h3⟩ | ⟨_, _, _, a, b, p, q, ha, hb, hp, hq, hr⟩
  · cases h3
  · exact hS _ (List.mem_of_getElem? h3)
  · have fa := hS _ (List.mem_of_getElem? ha)
    have fb := hS _ (List.mem_of_getElem? hb)
    exact sum_fi (half_fi fa hp) (half_fi fb hq) (half_size fa hp) (half_size fb hq) hr
/-- Two medians of one list have one value. -/
theorem MedT.same {S : List Nat} {r s : Nat} (hS : ∀ x ∈ S, Fi x) (h : MedT S r true) (g : MedT S s true) : sv s = sv r := by
  rcases h with ⟨_, _, h3⟩ | ⟨h1, _, h3⟩ | ⟨h0, h1, _, a, b, p, q, ha, hb, hp, hq, hr⟩
  · cases h3
  · rcases g with ⟨_, _, g3⟩ | ⟨_, _, g3⟩ | ⟨_, g1, _⟩
    · cases g3
    · rw [h3] at g3; cases g3; rfl
    · omega
  · rcases g with ⟨_, _, g3⟩ | ⟨g1, _⟩ | ⟨_, _, _, a', b', p', q', ga, gb, gp, gq, gr⟩
    · cases g3
    · omega
    · rw [ha] at ga
      rw [hb] at gb
      cases ga
      cases gb
      have fa := hS _ (List.mem_of_getElem? ha)
      have fb := hS _ (List.mem_of_getElem? hb)
      have e1 := RN.val (by decide) (half_rn fa gp) (half_rn fa hp) (half_fi fa gp)
      have e2 := RN.val (by decide) (half_rn fb gq) (half_rn fb hq) (half_fi fb gq)
      have h5 := add_rn (half_fi fa gp) (half_fi fb gq) gr
      rw [e1, e2] at h5
      exact RN.val (by decide) h5 (add_rn (half_fi fa hp) (half_fi fb hq) hr) (sum_fi (half_fi fa gp) (half_fi fb gq) (half_size fa gp) (half_size fb gq) gr)
/-- Where halving loses nothing, the median lies between any two floats that hold all heights between them. -/
theorem MedT.between {S : List Nat} {r lo hi : Nat} (hS : ∀ x ∈ S, Fi x) (h : MedT S r true) (hlo : Fi lo) (hhi : Fi hi) (hb : ∀ x ∈ S, sv lo ≤ sv x ∧ sv x ≤ sv hi) (ht : ∀ x ∈ S, sv x = 0 ∨ 9007199254740992 ≤ (sv x).natAbs) : sv lo ≤ sv r ∧ sv r ≤ sv hi := by
  rcases h with ⟨_, _, h3⟩ | ⟨h1, _, h3⟩ | ⟨h0, h1, _, a, b, p, q, ha, hb', hp, hq, hr⟩
  · cases h3
  · exact hb _ (List.mem_of_getElem? h3)
  · have ma := List.mem_of_getElem? ha
    have mb := List.mem_of_getElem? hb'
    have e1 := half_exact (hS _ ma) hp (ht _ ma)
    have e2 := half_exact (hS _ mb) hq (ht _ mb)
    have b1 := hb _ ma
    have b2 := hb _ mb
    have hn := add_rn (half_fi (hS _ ma) hp) (half_fi (hS _ mb) hq) hr
    exact ⟨hn.ge_fl hlo (by omega), hn.le_fl hhi (by omega)⟩
end Go.Proofs.Ytblfemmhhijeeaa

/- The law CleanFills answers true, of every list of samples. -/
namespace Go.Proofs.Ytblfemmhhijeeaa
open Go.RowKit
set_option linter.unusedVariables false
set_option linter.unusedSimpArgs false

end Go.Proofs.Ytblfemmhhijeeaa

/- The laws' finite: how many heights are finite, the least and the greatest. -/
namespace Go.Proofs.Ytblfemmhhijeeaa
open Go.RowKit
set_option linter.unusedVariables false

/-- k heights are finite; lo and hi hold them between them. -/
structure FnT (xs : List Nat) (k lo hi : Nat) : Prop where
  num : k = (xs.filter isone).length
  non : k = 0 → lo = 0 ∧ hi = 0
  fl : Fi lo
  fh : Fi hi
  all : ∀ x ∈ xs, isone x = true → sv lo ≤ sv x ∧ sv x ≤ sv hi
theorem FnT.nil : FnT [] 0 0 0 := ⟨rfl, fun _ => ⟨rfl, rfl⟩, by unfold Fi; decide, by unfold Fi; decide, fun x h => by cases h⟩
theorem FnT.take {xs : List Nat} {k lo hi b lo' hi' : Nat} (h : FnT xs k lo hi) (fb : Fi b) (hl : Fi lo') (hh : Fi hi') (h1 : sv lo' ≤ sv b) (h2 : sv b ≤ sv hi') (h3 : k = 0 ∨ sv lo' ≤ sv lo) (h4 : k = 0 ∨ sv hi ≤ sv hi') : FnT (xs ++ [b]) (k + 1) lo' hi' :=
  ⟨by rw [List.filter_append, h.num]; simp [fb.isone], fun e => by omega, hl, hh, fun x hx ho => by
    rcases List.mem_append.1 hx with hx | hx
    · have hk : k ≠ 0 := by
        intro e
        have hm := h.num
        rw [e] at hm
        have : xs.filter isone = [] := List.eq_nil_of_length_eq_zero hm.symm
        have hx' : x ∈ xs.filter isone := List.mem_filter.2 ⟨hx, ho⟩
        rw [this] at hx'
        cases hx'
      have := h.all x hx ho
      omega
    · rw [List.mem_singleton.1 hx]; exact ⟨h1, h2⟩⟩
end Go.Proofs.Ytblfemmhhijeeaa

/- The laws' tiny: where it says no, halving loses nothing. -/
namespace Go.Proofs.Ytblfemmhhijeeaa
open Go.RowKit
set_option linter.unusedVariables false

end Go.Proofs.Ytblfemmhhijeeaa

/- Means and medians as the document makes them, no program: a half is half of it; sums in order; what one height is swapped with. -/
namespace Go.Proofs.Ytblfemmhhijeeaa
open Go.RowKit
set_option linter.unusedVariables false

theorem efn_same {op : BinOp} {x y r r' : Nat} (h : FN op x y r) (h' : FN op x y r') (f : Fi r) : r = r' := by
  rcases h.al h' (.refl _) (.refl _) with e | ⟨e, _⟩
  · exact e
  · rw [f.notnan] at e; cases e
theorem eint_fi (n : Nat) (h : n ≤ 9007199254740992) : Fi (floatOfInt .f64 (n : Int)) := by
  obtain ⟨r, hr, hv⟩ := rep n 1074 h (by decide) (by decide)
  have e : floatOfInt .f64 (n : Int) = Ieee.double.nearest false n 0 := by
    show Ieee.double.nearest (decide ((n : Int) < 0)) (n : Int).natAbs 0 = _
    rw [decide_eq_false (by omega), Int.natAbs_natCast]
  by_cases h0 : n = 0
  · subst h0
    rw [e]
    unfold Fi
    decide +kernel
  · obtain ⟨s, e1, m⟩ := near_is_mid false n 0 h0
    rw [e, e1]
    refine word_fi false ?_
    have q : s ≤ r := Mid.le (by decide) m (by
      rw [hv]
      exact Nat.le_of_eq (by rw [show ((0 : Int) + 1074).toNat = 1074 by decide, show (-((0 : Int) + 1074)).toNat = 0 by decide, Nat.pow_zero, Nat.mul_one]))
    omega
theorem RN.back {A : Int} {D k r : Nat} (hk : 0 < k) (h : RN (A * (k : Int)) (D * k) r) : RN A D r := by
  have hk' : (0 : Int) < (k : Int) := by omega
  obtain ⟨neg, s, e, h1, h2, h3⟩ := h
  refine ⟨neg, s, e, fun hA => h1 (Int.mul_neg_of_neg_of_pos hA hk'), fun hA => h2 (Int.mul_pos hA hk'), ?_⟩
  rw [Int.natAbs_mul, Int.natAbs_natCast] at h3
  exact h3.back k hk
theorem RN.one {A : Int} {D p q : Nat} (hA : A ≠ 0) (hD : 0 < D) (h : RN A D p) (g : RN A D q) : p = q := by
  obtain ⟨n1, s, rfl, h1, h2, h3⟩ := h
  obtain ⟨n2, t, rfl, g1, g2, g3⟩ := g
  obtain rfl := h3.unique hD g3
  rcases Int.lt_trichotomy A 0 with h | h | h
  · rw [h1 h, g1 h]
  · exact absurd h hA
  · rw [h2 h, g2 h]
/-- What Median tells is one. -/
theorem MedT.one {S : List Nat} {r s : Nat} {o u : Bool} (hS : ∀ x ∈ S, Fi x) (h : MedT S r o) (g : MedT S s u) : r = s ∧ o = u := by
  have hne : ∀ (k : Nat), k % 2 = 1 → k % 2 = 0 → False := fun k a b => by omega
  rcases h with ⟨h0, h1, h2⟩ | ⟨h0, h1, h2⟩ | ⟨h0, h1, h2, a, b, p, q, ha, hb, hp, hq, hr⟩
  · rcases g with ⟨g0, g1, g2⟩ | ⟨g0, g1, g2⟩ | ⟨g0, _⟩
    · exact ⟨by rw [h1, g1], by rw [h2, g2]⟩
    · rw [h0] at g0; simp at g0
    · exact absurd h0 g0
  · rcases g with ⟨g0, g1, g2⟩ | ⟨g0, g1, g2⟩ | ⟨g0, g1, _⟩
    · rw [g0] at h0; simp at h0
    · rw [h2] at g2
      injection g2 with g2
      exact ⟨g2, by rw [h1, g1]⟩
    · exact (hne _ h0 g1).elim
  · rcases g with ⟨g0, g1, g2⟩ | ⟨g0, g1, g2⟩ | ⟨g0, g1, g2, a', b', p', q', ga, gb, gp, gq, gr⟩
    · exact absurd g0 h0
    · exact (hne _ g0 h1).elim
    · rw [ha] at ga
      rw [hb] at gb
      injection ga with ga
      injection gb with gb
      subst ga gb
      have fa := hS a (List.mem_of_getElem? ha)
      have fb := hS b (List.mem_of_getElem? hb)
      obtain rfl := efn_same hp gp (half_fi fa hp)
      obtain rfl := efn_same hq gq (half_fi fb hq)
      have fr : Fi r := sum_fi (half_fi fa hp) (half_fi fb hq) (half_size fa hp) (half_size fb hq) hr
      exact ⟨efn_same hr gr fr, by rw [h2, g2]⟩
/-! ### Sums in order -/
/-- No NaN. -/
def Nf (x : Nat) : Prop := x < 18446744073709551616 ∧ x % 9223372036854775808 ≤ 9218868437227405312
theorem Nf.inf {x : Nat} (h : Nf x) (hn : ¬ Fi x) : x % 9223372036854775808 = 9218868437227405312 := by
  unfold Fi at hn
  have := h.1
  have := h.2
  omega
theorem inf_read {x : Nat} (hx : x < 18446744073709551616) (h : x % 9223372036854775808 = 9218868437227405312) : ∃ s, Ieee.double.read x = .infinity s ∧ Ieee.double.write (.infinity s) = x := by
  have : x = 9218868437227405312 ∨ x = 18442240474082181120 := by omega
  rcases this with rfl | rfl
  · exact ⟨false, by decide, by decide⟩
  · exact ⟨true, by decide, by decide⟩
theorem inf_add {x y : Nat} (hx : x < 18446744073709551616) (h : x % 9223372036854775808 = 9218868437227405312) (hy : Fi y) : floatBits .add .f64 x y = some x := by
  obtain ⟨s, e1, e2⟩ := inf_read hx h
  obtain ⟨m, a, e3, _⟩ := read_num hy.2
  show (((Ieee.double.read x).sum (Ieee.double.read y)).map Ieee.double.write) = some x
  rw [e1, e3]
  simp only [Ieee.Datum.sum, Option.map_some, e2]
theorem add_nf {x y : Nat} (hx : Nf x) (hy : Fi y) : ∃ r, floatBits .add .f64 x y = some r ∧ Nf r ∧ (¬ Fi x → ¬ Fi r) := by
  by_cases h : Fi x
  · obtain ⟨r, hr⟩ := add_some ((fin_iff x).2 h.2) ((fin_iff y).2 hy.2)
    refine ⟨r, hr, ?_, fun hn => absurd h hn⟩
    obtain ⟨neg, s, rfl, _, _, hm⟩ := add_rn h hy (FN.some hr)
    have hs : s ≤ 9218868437227405312 := hm.top
    unfold Nf
    cases neg
    · have hw : Ieee.double.word false s = s := rfl
      rw [hw]
      omega
    · have hw : Ieee.double.word true s = 9223372036854775808 + s := by show Ieee.double.signWeight + s = _; rw [dbl_sign]
      rw [hw]
      omega
  · exact ⟨x, inf_add hx.1 (hx.inf h) hy, hx, fun g => g⟩
/-- The sum of heights, in their order. -/
def sumF (s : Nat) : List Nat → Nat
  | [] => s
  | x :: xs => sumF ((floatBits .add .f64 s x).getD 0) xs
theorem sumF_nf {s : Nat} (hs : Nf s) : ∀ xs, (∀ x ∈ xs, Fi x) → Nf (sumF s xs) ∧ (¬ Fi s → ¬ Fi (sumF s xs)) := by
  intro xs
  induction xs generalizing s with
  | nil => intro _; exact ⟨hs, fun h => h⟩
  | cons y ys ih =>
    intro h
    obtain ⟨r, hr, h1, h2⟩ := add_nf hs (h y List.mem_cons_self)
    show Nf (sumF ((floatBits .add .f64 s y).getD 0) ys) ∧ _
    have e : (floatBits .add .f64 s y).getD 0 = r := by rw [hr]; rfl
    have q := ih (s := r) h1 (fun x hx => h x (List.mem_cons_of_mem _ hx))
    show Nf (sumF ((floatBits .add .f64 s y).getD 0) ys) ∧ (¬ Fi s → ¬ Fi (sumF ((floatBits .add .f64 s y).getD 0) ys))
    rw [e]
    exact ⟨q.1, fun hn => q.2 (h2 hn)⟩
theorem sumF_app (s : Nat) : ∀ xs ys, sumF s (xs ++ ys) = sumF (sumF s xs) ys := by
  intro xs
  induction xs generalizing s with
  | nil => intro ys; rfl
  | cons x xs ih => intro ys; exact ih _ ys
theorem zero_nf : Nf 0 := by unfold Nf; decide
/-- What is beyond the floats stays there. -/
theorem sumF_stays {S : List Nat} {k : Nat} (hS : ∀ x ∈ S, Fi x) (h : ¬ Fi (sumF 0 (S.take k))) : ¬ Fi (sumF 0 S) := by
  have q := (sumF_nf (sumF_nf zero_nf (S.take k) (fun y hy => hS y (List.mem_of_mem_take hy))).1 (S.drop k) (fun y hy => hS y (List.mem_of_mem_drop hy))).2 h
  rw [← sumF_app, List.take_append_drop] at q
  exact q
/-- What Mean tells of heights in their order. -/
def MeanT (S : List Nat) (r : Nat) (e : Int) : Prop := (S = [] ∧ r = 0 ∧ e = 0) ∨ (S ≠ [] ∧ ∃ m, FN .quo (sumF 0 S) (floatOfInt .f64 (S.length : Int)) m ∧ ((isone m = true ∧ r = m ∧ e = 0) ∨ (isone m = false ∧ r = 0 ∧ e = 9)))
theorem MeanT.one {S : List Nat} {r s : Nat} {e f : Int} (h : MeanT S r e) (g : MeanT S s f) : r = s ∧ e = f := by
  rcases h with ⟨h0, h1, h2⟩ | ⟨h0, m, hm, hc⟩
  · rcases g with ⟨g0, g1, g2⟩ | ⟨g0, _⟩
    · exact ⟨by rw [h1, g1], by rw [h2, g2]⟩
    · exact absurd h0 g0
  · rcases g with ⟨g0, _⟩ | ⟨g0, n, hn, gc⟩
    · exact absurd g0 h0
    · rcases hc with ⟨a, rfl, rfl⟩ | ⟨a, rfl, rfl⟩
      · obtain rfl := efn_same hm hn (Fi.of hm.1 a)
        rcases gc with ⟨b, rfl, rfl⟩ | ⟨b, rfl, rfl⟩
        · exact ⟨rfl, rfl⟩
        · rw [a] at b; cases b
      · rcases gc with ⟨b, rfl, rfl⟩ | ⟨b, rfl, rfl⟩
        · obtain rfl := efn_same hn hm (Fi.of hn.1 b)
          rw [a] at b; cases b
        · exact ⟨rfl, rfl⟩
/-- A sum beyond the floats has no mean. -/
theorem MeanT.over {S : List Nat} {k : Nat} (hS : ∀ x ∈ S, Fi x) (hl : S.length ≤ 1000000) (hne : S ≠ []) (h : ¬ Fi (sumF 0 (S.take k))) : MeanT S 0 9 := by
  have hn := sumF_stays hS h
  have hf := (sumF_nf zero_nf S hS).1
  obtain ⟨s, e1, e2⟩ := inf_read hf.1 (hf.inf hn)
  have h0 : 0 < S.length := List.length_pos_iff.2 hne
  obtain ⟨m, a, e3, _⟩ := read_num (eint_fi S.length (by omega)).2
  have hq : floatBits .quo .f64 (sumF 0 S) (floatOfInt .f64 (S.length : Int)) = some (Ieee.double.write (.infinity (s ^^ (floatOfInt .f64 (S.length : Int) / 9223372036854775808 % 2 == 1)))) := by
    have key : ∃ dg, floatBits .quo .f64 (sumF 0 S) (floatOfInt .f64 (S.length : Int)) = ((((Ieee.double.read (sumF 0 S)).quotient dg (Ieee.double.read (floatOfInt .f64 (S.length : Int)))).map Ieee.double.write)) := ⟨_, rfl⟩
    obtain ⟨dg, hdg⟩ := key
    rw [hdg, e1, e3]
    rfl
  refine .inr ⟨hne, _, FN.some hq, .inr ⟨?_, rfl, rfl⟩⟩
  generalize (s ^^ (floatOfInt .f64 (S.length : Int) / 9223372036854775808 % 2 == 1)) = z
  cases z <;> decide
/-! ### One height behind the other -/
/-- The document's order. -/
def ahd (x y : Nat) : Bool := decide (kz x < kz y)
/-- A list in order, one height put ahead of all that it stands ahead of. -/
structure InsP (A : List Nat) (x : Nat) (B : List Nat) : Prop where
  rise : (A ++ B).Pairwise (fun p q => kz p ≤ kz q)
  less : ∀ b ∈ B, kz x < kz b
theorem InsP.done {A : List Nat} {x : Nat} {B : List Nat} (h : InsP A x B) (hA : A = [] ∨ ∃ A' y, A = A' ++ [y] ∧ ahd x y = false) : (A ++ x :: B).Pairwise (fun p q => kz p ≤ kz q) := by
  have h1 := List.pairwise_append.1 h.rise
  refine List.pairwise_append.2 ⟨h1.1, List.pairwise_cons.2 ⟨fun b hb => by have := h.less b hb; omega, h1.2.1⟩, fun a ha b hb => ?_⟩
  rcases List.mem_cons.1 hb with rfl | hb
  · rcases hA with rfl | ⟨A', y, rfl, hy⟩
    · cases ha
    · have hy' : ¬ kz b < kz y := by simpa [ahd] using hy
      rcases List.mem_append.1 ha with ha | ha
      · have := (List.pairwise_append.1 h1.1).2.2 a ha y (by simp)
        omega
      · rw [List.mem_singleton.1 ha]; omega
  · exact h1.2.2 a ha b hb
/-! ### A row of one's own, one cell written -/
end Go.Proofs.Ytblfemmhhijeeaa

/- The document's record (layer 19): New, none, place, one. -/
namespace Go.Proofs.Ytblfemmhhijeeaa
open Go.RowKit
set_option linter.unusedVariables false
set_option linter.unusedSimpArgs false

/-- The document's record stands in memory: its struct, its list in memory that the law made. -/
structure DocAt (w : World) (base rb : Nat) (L : List (Int × Nat)) : Prop where
  box : ∃ v, FBox w rb 77 #[.bool true, v] ∧ w.ownsRow base 46 2 v L.length (smC L)
  ok : RecOk L
theorem d19new_any (w : World) : Calls Try.prog 10 #[] w fun e w' => ∃ rb, e = .returned (.pointer (some ⟨rb, 0, none⟩)) ∧ Hid (DocAt w' w.heap.size rb []) ∧ Hid (w.heap.size ≤ rb) ∧ Below w.heap.size w w' := by
  go_enter Try.func10, Try.ntmps10
  go_wp2_with fail
  go_ret
  exact ⟨_, rfl, ⟨⟨_, FBox.made _ _ _, World.ownsRow_nil _ _ _ _⟩, RecOk.nil⟩, Nat.le_refl _, (Below.refl _ _).alloc (Nat.le_refl _) _⟩
theorem d19none_any (rb : Nat) (v : Value) (w : World) (h : FBox w rb 77 #[.bool true, v]) : Calls Try.prog 83 #[.pointer (some ⟨rb, 0, none⟩)] w fun e w' => e = .returned (.bool false) ∧ w' = w := by
  have c0 : w.cell? ⟨rb, 0, none⟩ = some (.bool true) := h.cell 0
  go_enter Try.func83, Try.ntmps83
  go_wp2_with fail
  go_ret
  exact ⟨rfl, rfl⟩
/-- Where a tick's sample stands, or would stand. -/
structure Plc (L : List (Int × Nat)) (t : Int) (k : Nat) : Prop where
  le : k ≤ L.length
  lo : ∀ p ∈ L.take k, p.1 < t
  hi : ∀ p ∈ L.drop k, t ≤ p.1
theorem Plc.of {L : List (Int × Nat)} (ok : RecOk L) {t : Int} {k : Nat} (h0 : k ≤ L.length) (h1 : ∀ j p, j < k → L[j]? = some p → p.1 < t) (h2 : ∀ p, L[k]? = some p → t ≤ p.1) : Plc L t k := by
  refine ⟨h0, fun p hp => ?_, fun p hp => ?_⟩
  · obtain ⟨j, hj⟩ := List.getElem?_of_mem hp
    rw [List.getElem?_take] at hj
    split at hj
    · rename_i hlt; exact h1 j p hlt hj
    · cases hj
  · obtain ⟨j, hj⟩ := List.getElem?_of_mem hp
    rw [List.getElem?_drop] at hj
    cases hq : L[k]? with
    | none =>
      have := List.getElem?_eq_none_iff.1 hq
      have := (List.getElem?_eq_some_iff.1 hj).1
      omega
    | some q =>
      have hq2 := h2 q hq
      rcases Nat.eq_zero_or_pos j with rfl | hpos
      · rw [Nat.add_zero, hq] at hj
        injection hj with hj
        subst hj
        exact hq2
      · obtain ⟨l1, e1⟩ := List.getElem?_eq_some_iff.1 hq
        obtain ⟨l2, e2⟩ := List.getElem?_eq_some_iff.1 hj
        have := List.pairwise_iff_getElem.1 ok.rise k (k + j) l1 l2 (by omega)
        rw [e1, e2] at this
        omega
theorem Plc.has {L : List (Int × Nat)} (ok : RecOk L) {t : Int} {k : Nat} (h : Plc L t k) {b : Nat} (hp : L[k]? = some (t, b)) : rhas L t = true := by
  unfold rhas
  rw [List.any_eq_true]
  exact ⟨_, List.mem_of_getElem? hp, by simp⟩
theorem Plc.no {L : List (Int × Nat)} (ok : RecOk L) {t : Int} {k : Nat} (h : Plc L t k) (hp : ∀ p, L[k]? = some p → p.1 ≠ t) : rhas L t = false := by
  cases hh : rhas L t
  · rfl
  · exfalso
    obtain ⟨b, hb⟩ := rhas_yes hh
    rw [← List.take_append_drop k L] at hb
    rcases List.mem_append.1 hb with hm | hm
    · have := h.lo _ hm; dsimp only at this; omega
    · cases hq : L[k]? with
      | none =>
        have := List.getElem?_eq_none_iff.1 hq
        rw [List.drop_eq_nil_of_le this] at hm
        simp at hm
      | some q =>
        have hne := hp q hq
        obtain ⟨l1, e1⟩ := List.getElem?_eq_some_iff.1 hq
        have hqm : q ∈ L.drop k := by rw [List.drop_eq_getElem_cons l1, e1]; exact List.mem_cons_self
        have hq2 := h.hi q hqm
        have hrd : (L.drop k).Pairwise (fun p q => p.1 < q.1) := ok.rise.sublist (List.drop_sublist _ _)
        rw [List.drop_eq_getElem_cons l1, e1] at hm hrd
        rw [List.pairwise_cons] at hrd
        rcases List.mem_cons.1 hm with e | hm
        · subst e; exact hne rfl
        · have := hrd.1 _ hm; dsimp only at this; omega
theorem rins_split {t : Int} {b : Nat} : ∀ {A B : List (Int × Nat)}, (∀ p ∈ A, p.1 < t) → (∀ p ∈ B, t < p.1) → rins (t, b) (A ++ B) = A ++ (t, b) :: B
  | [], [], _, _ => rfl
  | [], y :: r, _, h => by
    show rins (t, b) (y :: r) = _
    unfold rins
    rw [if_pos (h y List.mem_cons_self)]
    rfl
  | x :: A, B, h1, h2 => by
    show rins (t, b) (x :: (A ++ B)) = _
    have hx := h1 x List.mem_cons_self
    unfold rins
    rw [if_neg (by dsimp only; omega), rins_split (fun p hp => h1 p (List.mem_cons_of_mem _ hp)) h2]
    rfl
theorem Plc.ins {L : List (Int × Nat)} {t : Int} {k : Nat} (h : Plc L t k) (hn : rhas L t = false) (b : Nat) : rins (t, b) L = L.take k ++ (t, b) :: L.drop k := by
  have e := rins_split (t := t) (b := b) h.lo (B := L.drop k) (fun p hp => by
    have h1 := h.hi p hp
    have h2 := rhas_no hn p (List.mem_of_mem_drop hp)
    omega)
  rw [List.take_append_drop] at e
  exact e
theorem Plc.del {L : List (Int × Nat)} (ok : RecOk L) {t : Int} {k : Nat} (h : Plc L t k) {b : Nat} (hp : L[k]? = some (t, b)) : rdel L t = L.take k ++ L.drop (k + 1) := by
  obtain ⟨l1, e1⟩ := List.getElem?_eq_some_iff.1 hp
  have hd : L.drop k = (t, b) :: L.drop (k + 1) := by rw [List.drop_eq_getElem_cons l1, e1]
  have hrd : (L.drop k).Pairwise (fun p q => p.1 < q.1) := ok.rise.sublist (List.drop_sublist _ _)
  rw [hd, List.pairwise_cons] at hrd
  have e : L = L.take k ++ (t, b) :: L.drop (k + 1) := by rw [← hd, List.take_append_drop]
  unfold rdel
  conv => lhs; rw [e]
  rw [List.filter_append, List.filter_cons]
  have h1 : (L.take k).filter (fun p => !(p.1 == t)) = L.take k := by
    rw [List.filter_eq_self]
    intro p hp
    have := h.lo p hp
    simp
    omega
  have h2 : (L.drop (k + 1)).filter (fun p => !(p.1 == t)) = L.drop (k + 1) := by
    rw [List.filter_eq_self]
    intro p hp
    have := hrd.1 p hp
    dsimp only at this
    simp
    omega
  rw [h1, h2]
  simp
set_option maxHeartbeats 1600000 in
set_option maxRecDepth 100000 in
theorem d19place_any (base rb : Nat) (L : List (Int × Nat)) (t : Int) (w : World) (h : DocAt w base rb L) (ht : I64 t) : Calls Try.prog 84 #[.pointer (some ⟨rb, 0, none⟩), .int .i64 t] w fun e w' => ∃ k : Nat, e = .returned (.tuple #[.int .i64 (k : Int), .bool (rhas L t)]) ∧ Hid (Plc L t k) ∧ Below w.heap.size w w' := by
  obtain ⟨v, hb, ho⟩ := h.box
  obtain ⟨a, cap, rfl, HV⟩ := yshape ho
  have HB := hid hb
  have HVV := hid HV
  have HO := hid h.ok
  have hf := h.ok.few
  clear h ht HV hb ho
  go_enter Try.func84, Try.ntmps84
  go_wp2_with fail
  go_loopw [6] (fun x wr => ∃ k : Nat, k ≤ L.length ∧ x = .int .i64 (k : Int) ∧ Hid (∀ j p, j < k → L[j]? = some p → p.1 < t) ∧ Hid (Below w.heap.size w wr)) (fun x _ => L.length - (intOf x).toNat)
  case atStart => exact ⟨0, Nat.zero_le _, rfl, fun j p hj => by omega, Below.refl _ _⟩
  case round =>
    obtain ⟨k, hk, rfl, HL, HW⟩ := hrel
    have c1 : wr.cell? ⟨rb, 1, none⟩ = some (.slice a L.length cap) := (HB.out.later HW.out HB.out.lt).cell 1
    by_cases hlt : k < L.length
    · obtain ⟨p, hp⟩ : ∃ p, L[k]? = some p := ⟨_, List.getElem?_eq_getElem hlt⟩
      obtain ⟨u, b⟩ := p
      have hsm := smC_at hp
      obtain ⟨g, rfl, hg, hc⟩ := HVV.out.get hsm.1
      have c2 : wr.cell? ⟨g, k * 2, none⟩ = some (.int .i64 u) := (HW.out.cell (p := ⟨g, k * 2, none⟩) hg).trans (hc _ _ hsm.1)
      have HP := hid hp
      clear hp hsm hc
      by_cases hut : u < t
      · go_wp2_with fail
        go_roundw
        case rel =>
          refine ⟨k + 1, by omega, by go_num, fun j p hj hp => ?_, HW.out⟩
          rcases Nat.lt_or_ge j k with h | h
          · exact HL.out j p h hp
          · obtain rfl : j = k := by omega
            rw [HP.out] at hp
            injection hp with hp
            subst hp
            exact hut
        case measure => simp [intOf]; omega
      · have HPl : Hid (Plc L t k) := Plc.of HO.out hk HL.out (fun p hp => by rw [HP.out] at hp; injection hp with hp; subst hp; dsimp only; omega)
        by_cases hue : u = t
        · subst hue
          have hh := HPl.out.has HO.out HP.out
          have HH := hid hh
          clear hh
          go_wp2_with fail
          go_quiet (fail)
          go_wp2_with fail
          go_returns
          exact ⟨k, by simp [HH.out], HPl.out, ydrewM HW.out⟩
        · have hh := HPl.out.no HO.out (fun p hp => by rw [HP.out] at hp; injection hp with hp; subst hp; exact hue)
          have HU := hid hue
          have HH := hid hh
          clear hh
          go_wp2_with fail
          go_quiet (fail)
          go_wp2_with fail
          go_returns
          exact ⟨k, by simp [HH.out, HU.out], HPl.out, ydrewM HW.out⟩
    · obtain rfl : k = L.length := by omega
      have HPl : Hid (Plc L t L.length) := Plc.of HO.out (Nat.le_refl _) HL.out (fun p hp => by simp at hp)
      have hh := HPl.out.no HO.out (fun p hp => by simp at hp)
      have HH := hid hh
      clear hh
      have hkk : ¬ (L.length : Int) < (L.length : Int) := by omega
      go_wp2_with fail
      go_quiet (fail)
      go_wp2_with fail
      go_returns
      exact ⟨L.length, by simp [HH.out], HPl.out, ydrewM HW.out⟩
end Go.Proofs.Ytblfemmhhijeeaa

/- The document's record (layer 19): Add. -/
namespace Go.Proofs.Ytblfemmhhijeeaa
open Go.RowKit
set_option linter.unusedVariables false
set_option linter.unusedSimpArgs false

theorem DocAt.later {w w' : World} {base rb : Nat} {L : List (Int × Nat)} (h : DocAt w base rb L) (hb : Below w.heap.size w w') : DocAt w' base rb L := by
  obtain ⟨v, h1, h2⟩ := h.box
  exact ⟨⟨v, h1.later hb h1.lt, yowns_later h2 hb⟩, h.ok⟩
theorem smC_oneC (M : List (Int × Nat)) : ∀ u ∈ smC M, u.oneCell' = true := by
  intro u hu
  unfold smC at hu
  obtain ⟨p, _, hp⟩ := List.mem_flatMap.1 hu
  exact smC_one p u hp
theorem smC_fore {M : List (Int × Nat)} {k j : Nat} {u : Value} (h : (smC (M.take k))[j]? = some u) : (smC M)[j]? = some u := by
  rw [← List.take_append_drop k M, smC_append, List.getElem?_append_left (List.getElem?_eq_some_iff.1 h).1]
  exact h
theorem smC_aft {M : List (Int × Nat)} {k j : Nat} {u : Value} (hk : k ≤ M.length) (h : (smC (M.drop k))[j]? = some u) : (smC M)[k * 2 + j]? = some u := by
  rw [← List.take_append_drop k M, smC_append, List.getElem?_append_right (by rw [smC_len]; simp; omega), smC_len, List.length_take]
  rw [show k * 2 + j - min k M.length * 2 = j by omega]
  exact h
theorem But.put {m : Nat} {a w : World} (h : But m a w) (j : Nat) (v : Value) : But m a (w.setCell ⟨m, j, none⟩ v) :=
  ⟨h.os, h.tape, h.output, by simpa [World.setCell] using h.size, fun i hi hr => (Below.heap_setCell _ _ _ _ (fun e => hr (by rw [show i = m from e]))).trans (h.block i hi hr)⟩
set_option maxHeartbeats 3200000 in
set_option maxRecDepth 100000 in
theorem d19add_any (base rb : Nat) (L : List (Int × Nat)) (t : Int) (b : Nat) (w : World) (h : DocAt w base rb L) (hbs : base ≤ w.heap.size) (hrb : base ≤ rb) (ht : I64 t) (hb : b < 18446744073709551616) :
    Calls Try.prog 43 #[.pointer (some ⟨rb, 0, none⟩), .agg #[.int .i64 t, .float .f64 b]] w fun e w' => e = .returned (.int .i64 (addR L t b).1) ∧ Hid (DocAt w' base rb (addR L t b).2) ∧ But rb w w' := by
  obtain ⟨i0, hi, hz0, hz1, hz2⟩ := info_parts Try.yinfoS
  obtain ⟨X, hX⟩ : ∃ X, w.alloc (.cells #[.int .i64 t, .float .f64 b] 46) = X := ⟨_, rfl⟩
  have HX : Hid (FBox X w.heap.size 46 #[.int .i64 t, .float .f64 b] ∧ Below w.heap.size w X) := by rw [← hX]; exact ⟨FBox.made _ _ _, (Below.refl _ _).alloc (Nat.le_refl _) _⟩
  have HG : Hid (w.grownBy X (some rb)) := by rw [← hX]; exact World.grownBy_alloc w _ _
  have HR := hid (h.later HX.out.2)
  have HT := hid ht
  have HBB := hid hb
  have hxs : base ≤ X.heap.size := Nat.le_trans hbs HX.out.2.size
  clear h ht hb
  obtain ⟨v, hbx, ho⟩ := HR.out.box
  have HN := hid (d19none_any rb v X hbx)
  have c0 : X.cell? ⟨w.heap.size, 0, none⟩ = some (.int .i64 t) := HX.out.1.cell 0
  clear hbx ho
  go_enter Try.func43, Try.ntmps43
  go_wp2_with fail
  clear hX
  refine Calls.mono HN.out ?_
  rintro e w1 ⟨rfl, rfl⟩
  by_cases hk : 0 ≤ t ∧ t ≤ 1048576
  · have HP := hid (d19place_any base rb L t w1 HR.out HT.out)
    have HK := hid hk
    obtain ⟨hk1, hk2⟩ := hk
    have hk3 : ¬ t < 0 := by omega
    have hk4 : ¬ 1048576 < t := by omega
    go_wp2_with fail
    refine Calls.mono HP.out ?_
    rintro e w2 ⟨k, rfl, HPl, hb2⟩
    have HX2 := hid (HX.out.1.later hb2 HX.out.1.lt)
    have HR2 := hid (HR.out.later hb2)
    have HG2 : Hid (w.grownBy w2 (some rb)) := But.trans (m := rb) HG.out (But.of_below hb2)
    have hxs2 : base ≤ w2.heap.size := Nat.le_trans hxs hb2.size
    clear hb2 HP c0
    cases hh : rhas L t
    · have HH := hid hh
      clear hh
      obtain ⟨v, hbx, ho⟩ := HR2.out.box
      obtain ⟨a, cap, rfl, HV⟩ := yshape ho
      have HBX := hid hbx
      have HO := hid ho
      have HVV := hid HV
      have c1 : w2.cell? ⟨rb, 1, none⟩ = some (.slice a L.length cap) := hbx.cell 1
      have hf := HR2.out.ok.few
      clear hbx ho HV
      by_cases hfl : 4096 ≤ L.length
      · have e1 : addR L t b = (3, L) := by
          unfold addR
          rw [if_neg (by have := HK.out; omega), if_neg (by rw [HH.out]; simp), if_pos hfl]
        have HE := hid e1
        clear e1
        have hfl2 : (4096 : Int) ≤ (L.length : Int) := by omega
        go_wp2_with fail
        go_ret
        rw [HE.out]
        exact ⟨rfl, HR2.out, HG2.out⟩
      · have hfl2 : ¬ (4096 : Int) ≤ (L.length : Int) := by omega
        have hkl := HPl.out.le
        have e1 : addR L t b = (0, rins (t, b) L) := by
          unfold addR
          rw [if_neg (by have := HK.out; omega), if_neg (by rw [HH.out]; simp), if_neg hfl]
        have HE := hid e1
        have HOK := hid (HR2.out.ok.ins HK.out HBB.out HH.out (by omega))
        clear e1
        rcases HO.out.2 with ⟨hnil, h0⟩ | ⟨g, cap', cur, hv, h1, h2, h3, h4, h5, h6⟩
        · injection hnil with e1 e2 e3
          subst e1 e3
          obtain rfl : L = [] := List.eq_nil_of_length_eq_zero e2
          obtain rfl : k = 0 := by simpa using hkl
          have HC : Hid (∀ W, Below w2.heap.size w2 W → W.cell? ⟨w.heap.size, 0, none⟩ = some (.int .i64 t) ∧ W.cell? ⟨w.heap.size, 1, none⟩ = some (.float .f64 b) ∧ W.cell? ⟨rb, 1, none⟩ = some (.slice none 0 0)) := fun W hW =>
            ⟨(HX2.out.later hW HX2.out.lt).cell 0, (HX2.out.later hW HX2.out.lt).cell 1, (HBX.out.later hW HBX.out.lt).cell 1⟩
          obtain ⟨c3, c4, c5⟩ := HC.out _ (Below.refl _ _)
          go_wp2_with (first
            | (at_builtin; refine wpList_append_own_none rfl _ _ 39 rfl w2.heap.size 46 i0 2 Try.underlying39 hi _ 0 [] rfl (World.ownsRow_nil w2 _ _ _) rfl ?_)
            | (at_builtin; refine wpList_append_own _ rfl _ _ 39 rfl w2.heap.size 46 i0 (.agg #[.int .i64 0, .float .f64 0]) 2 16 Try.underlying39 hi hz0 hz1 hz2 rfl (by decide) _ 0 [] rfl (World.ownsRow_nil _ _ _ _) ⟨w2.heap.size, 0, none⟩ 1 1 [.int .i64 t, .float .f64 b] rfl rfl (ycell2 _ _ _ _) (smC_one (t, b)) (by unfold maxLen; omega) (by omega) (by simp) ?_; intro v2 w4 ho4 hg4 _
               have hb4 : Below w2.heap.size w2 w4 := ((Below.refl _ _).alloc (Nat.le_refl _) _).grown hg4 (by simp) (fun q e => by cases e)
               have HB4 := hid hb4
               have hs4 := hb4.size
               obtain ⟨a9, d9, rfl, hV9⟩ := yshape ho4
               clear hV9
               have q1 : w4.frozen? ⟨rb, 1, none⟩ = false := (HBX.out.later hb4 HBX.out.lt).free 1
               obtain ⟨c3, c4, c5⟩ := HC.out _ hb4
               clear hg4 hb4)
            | (at_builtin; refine wpList_append_own_none rfl _ _ 39 rfl w2.heap.size 46 i0 2 Try.underlying39 hi _ _ _ rfl ho4 rfl ?_)
            | go_in)
          go_ret
          rw [HE.out]
          refine ⟨rfl, ⟨⟨_, (HBX.out.later HB4.out HBX.out.lt).set 1 _, ?_⟩, HOK.out⟩, (But.trans (m := rb) HG2.out (But.of_below HB4.out)).put 1 _⟩
          refine yown_put ?_ (HBX.out.later HB4.out HBX.out.lt) (by decide) 1 _
          exact yowns_base ho4 hxs2
        · injection hv with e1 e2 e3
          subst e1 e3
          clear h1 h2 h5 h6 e2
          have HN1 : Hid (∀ W, Below w2.heap.size w2 W → ∀ j u, (smC (L.take k))[j]? = some u → W.cell? ((⟨g, 0, none⟩ : Addr).add j) = some u) := fun W hW j u hj => by
            obtain ⟨g', e, hg, hc⟩ := HVV.out.get (smC_fore hj)
            injection e with e
            injection e with e
            subst e
            rw [Addr.add_lit, Nat.zero_add, hW.cell (p := ⟨g, j, none⟩) hg]
            exact hc _ _ (smC_fore hj)
          have HN2 : Hid (∀ W, Below w2.heap.size w2 W → ∀ j u, (smC (L.drop k))[j]? = some u → W.cell? ((⟨g, k * 2, none⟩ : Addr).add j) = some u) := fun W hW j u hj => by
            have hq := smC_aft hkl hj
            obtain ⟨g', e, hg, hc⟩ := HVV.out.get hq
            injection e with e
            injection e with e
            subst e
            rw [Addr.add_lit, hW.cell (p := ⟨g, k * 2 + j, none⟩) hg]
            exact hc _ _ hq
          have HC : Hid (∀ W, Below w2.heap.size w2 W → W.cell? ⟨w.heap.size, 0, none⟩ = some (.int .i64 t) ∧ W.cell? ⟨w.heap.size, 1, none⟩ = some (.float .f64 b) ∧ W.cell? ⟨rb, 1, none⟩ = some (.slice (some ⟨g, 0, none⟩) L.length cap)) := fun W hW =>
            ⟨(HX2.out.later hW HX2.out.lt).cell 0, (HX2.out.later hW HX2.out.lt).cell 1, (HBX.out.later hW HBX.out.lt).cell 1⟩
          by_cases hck : cap = k
          · obtain rfl : L.length = k := by omega
            subst hck
            go_wp2_with (first
              | (at_builtin; refine wpList_append_own _ rfl _ _ 39 rfl w2.heap.size 46 i0 (.agg #[.int .i64 0, .float .f64 0]) 2 16 Try.underlying39 hi hz0 hz1 hz2 rfl (by decide) _ 0 [] rfl (World.ownsRow_nil _ _ _ _) ⟨g, 0, none⟩ L.length L.length (smC (L.take L.length)) rfl (by rw [smC_len, List.length_take]; omega) (HN1.out _ (Below.refl _ _)) (smC_oneC _) (by unfold maxLen; omega) (by omega) (Nat.le_refl _) ?_; intro v1 w3 ho3 hg3 _
                 have hb3 : Below w2.heap.size w2 w3 := (Below.refl _ _).grown hg3 (Nat.le_refl _) (fun q e => by cases e)
                 have HB3 := hid hb3
                 have hs3 := hb3.size
                 obtain ⟨c3, c4, c5⟩ := HC.out _ hb3
                 clear hg3 hb3 c1)
              | (at_builtin; refine wpList_append_own _ rfl _ _ 39 rfl w2.heap.size 46 i0 (.agg #[.int .i64 0, .float .f64 0]) 2 16 Try.underlying39 hi hz0 hz1 hz2 rfl (by decide) _ _ _ rfl (ho3.alloc _) ⟨w3.heap.size, 0, none⟩ 1 1 [.int .i64 t, .float .f64 b] rfl rfl (ycell2 _ _ _ _) (smC_one (t, b)) (by unfold maxLen; omega) (by omega) (by simp; omega) ?_; intro v2 w4 ho4 hg4 _
                 have hb4 : Below w2.heap.size w2 w4 := (HB3.out.alloc (by omega) _).grown hg4 (by simp; omega) (fun q e => (ho3.lt q e).1)
                 have HB4 := hid hb4
                 have hs4 := hb4.size
                 obtain ⟨c3, c4, c5⟩ := HC.out _ hb4
                 clear hg4 hb4)
              | (at_builtin; refine wpList_append_own _ rfl _ _ 39 rfl w2.heap.size 46 i0 (.agg #[.int .i64 0, .float .f64 0]) 2 16 Try.underlying39 hi hz0 hz1 hz2 rfl (by decide) _ _ _ rfl ho4 ⟨g, 0, none⟩ 0 0 [] rfl rfl (fun j u hj => by simp at hj) (fun u hu => by simp at hu) (by unfold maxLen; omega) (by omega) (by omega) ?_; intro v3 w5 ho5 hg5 _
                 obtain ⟨a9, d9, rfl, hV9⟩ := yshape ho5
                 clear hV9
                 have hb5 : Below w2.heap.size w2 w5 := HB4.out.grown hg5 (by omega) (fun q e => (ho4.lt q e).1)
                 have HB5 := hid hb5
                 have q1 : w5.frozen? ⟨rb, 1, none⟩ = false := (HBX.out.later hb5 HBX.out.lt).free 1
                 obtain ⟨c3, c4, c5⟩ := HC.out _ hb5
                 clear hg5 hb5)
              | go_in)
            go_ret
            rw [HE.out]
            refine ⟨rfl, ⟨⟨_, (HBX.out.later HB5.out HBX.out.lt).set 1 _, ?_⟩, HOK.out⟩, (But.trans (m := rb) HG2.out (But.of_below HB5.out)).put 1 _⟩
            have e := HPl.out.ins HH.out b
            refine yown_put ?_ (HBX.out.later HB5.out HBX.out.lt) (by decide) 1 _
            rw [e]
            have q := yowns_base ho5 hxs2
            rw [show 0 + L.length + 1 + 0 = L.length + 1 by omega] at q
            have hlen : (L.take L.length ++ (t, b) :: L.drop L.length).length = L.length + 1 := by simp
            have hcs : smC (L.take L.length ++ (t, b) :: L.drop L.length) = ([] ++ smC (L.take L.length) ++ [.int .i64 t, .float .f64 b]) ++ [] := by simp [smC]
            rw [hlen, hcs]
            exact q
          · have hck2 : ¬ (cap - k = 0) := by omega
            go_wp2_with (first
              | (at_builtin; refine wpList_append_own _ rfl _ _ 39 rfl w2.heap.size 46 i0 (.agg #[.int .i64 0, .float .f64 0]) 2 16 Try.underlying39 hi hz0 hz1 hz2 rfl (by decide) _ 0 [] rfl (World.ownsRow_nil _ _ _ _) ⟨g, 0, none⟩ k cap (smC (L.take k)) rfl (by rw [smC_len, List.length_take]; omega) (HN1.out _ (Below.refl _ _)) (smC_oneC _) (by unfold maxLen; omega) (by omega) (Nat.le_refl _) ?_; intro v1 w3 ho3 hg3 _
                 have hb3 : Below w2.heap.size w2 w3 := (Below.refl _ _).grown hg3 (Nat.le_refl _) (fun q e => by cases e)
                 have HB3 := hid hb3
                 have hs3 := hb3.size
                 obtain ⟨c3, c4, c5⟩ := HC.out _ hb3
                 clear hg3 hb3 c1)
              | (at_builtin; refine wpList_append_own _ rfl _ _ 39 rfl w2.heap.size 46 i0 (.agg #[.int .i64 0, .float .f64 0]) 2 16 Try.underlying39 hi hz0 hz1 hz2 rfl (by decide) _ _ _ rfl (ho3.alloc _) ⟨w3.heap.size, 0, none⟩ 1 1 [.int .i64 t, .float .f64 b] rfl rfl (ycell2 _ _ _ _) (smC_one (t, b)) (by unfold maxLen; omega) (by omega) (by simp; omega) ?_; intro v2 w4 ho4 hg4 _
                 have hb4 : Below w2.heap.size w2 w4 := (HB3.out.alloc (by omega) _).grown hg4 (by simp; omega) (fun q e => (ho3.lt q e).1)
                 have HB4 := hid hb4
                 have hs4 := hb4.size
                 obtain ⟨c3, c4, c5⟩ := HC.out _ hb4
                 clear hg4 hb4)
              | (at_builtin; refine wpList_append_own _ rfl _ _ 39 rfl w2.heap.size 46 i0 (.agg #[.int .i64 0, .float .f64 0]) 2 16 Try.underlying39 hi hz0 hz1 hz2 rfl (by decide) _ _ _ rfl ho4 ⟨g, k * 2, none⟩ (L.length - k) (cap - k) (smC (L.drop k)) rfl (by rw [smC_len, List.length_drop]) (HN2.out _ HB4.out) (smC_oneC _) (by unfold maxLen; omega) (by omega) (by omega) ?_; intro v3 w5 ho5 hg5 _
                 obtain ⟨a9, d9, rfl, hV9⟩ := yshape ho5
                 clear hV9
                 have hb5 : Below w2.heap.size w2 w5 := HB4.out.grown hg5 (by omega) (fun q e => (ho4.lt q e).1)
                 have HB5 := hid hb5
                 have q1 : w5.frozen? ⟨rb, 1, none⟩ = false := (HBX.out.later hb5 HBX.out.lt).free 1
                 obtain ⟨c3, c4, c5⟩ := HC.out _ hb5
                 clear hg5 hb5)
              | go_in)
            go_ret
            rw [HE.out]
            refine ⟨rfl, ⟨⟨_, (HBX.out.later HB5.out HBX.out.lt).set 1 _, ?_⟩, HOK.out⟩, (But.trans (m := rb) HG2.out (But.of_below HB5.out)).put 1 _⟩
            have e := HPl.out.ins HH.out b
            refine yown_put ?_ (HBX.out.later HB5.out HBX.out.lt) (by decide) 1 _
            rw [e]
            have q := yowns_base ho5 hxs2
            rw [show 0 + k + 1 + (L.length - k) = k + 1 + (L.length - k) by omega] at q
            have hlen : (L.take k ++ (t, b) :: L.drop k).length = k + 1 + (L.length - k) := by simp; omega
            have hcs : smC (L.take k ++ (t, b) :: L.drop k) = ([] ++ smC (L.take k) ++ [.int .i64 t, .float .f64 b]) ++ smC (L.drop k) := by simp [smC]
            rw [hlen, hcs]
            exact q
    · have e1 : addR L t b = (5, L) := by
        unfold addR
        rw [if_neg (by have := HK.out; omega), if_pos hh]
      have HE := hid e1
      clear e1 hh
      go_wp2_with fail
      go_ret
      rw [HE.out]
      exact ⟨rfl, HR2.out, HG2.out⟩
  · have e1 : addR L t b = (2, L) := if_pos hk
    have HE := hid e1
    clear e1
    by_cases hk1 : t < 0
    · go_wp2_with fail
      go_ret
      rw [HE.out]
      exact ⟨rfl, HR.out, HG.out⟩
    · have hk2 : 1048576 < t := by omega
      go_wp2_with fail
      go_ret
      rw [HE.out]
      exact ⟨rfl, HR.out, HG.out⟩
end Go.Proofs.Ytblfemmhhijeeaa

/- The document's record (layer 19): From, Samples, Lost. -/
namespace Go.Proofs.Ytblfemmhhijeeaa
open Go.RowKit
set_option linter.unusedVariables false
set_option linter.unusedSimpArgs false

theorem DocAt.base {w : World} {base base' rb : Nat} {L : List (Int × Nat)} (h : DocAt w base rb L) (hb : base' ≤ base) : DocAt w base' rb L := by
  obtain ⟨v, h1, h2⟩ := h.box
  exact ⟨⟨v, h1, yowns_base h2 hb⟩, h.ok⟩
structure DfS (w : World) (rb : Nat) (L : List (Int × Nat)) (W : World) : Prop where
  bel : Below w.heap.size w W
  own : DocAt W w.heap.size rb L
  box : FBox W w.heap.size 42 #[.int .i64 0, .int .i64 0]
theorem DfS.later {w W W' : World} {rb : Nat} {L : List (Int × Nat)} (h : DfS w rb L W) (hb : Below W.heap.size W W') : DfS w rb L W' := ⟨ybt' h.bel hb, h.own.later hb, h.box.later hb h.box.lt⟩
theorem DfS.but {w W W' : World} {rb : Nat} {L L' : List (Int × Nat)} (h : DfS w rb L W) (hb : But rb W W') (hm : w.heap.size < rb) (hr : DocAt W' w.heap.size rb L') : DfS w rb L' W' := ⟨h.bel.trans (hb.below (Nat.le_of_lt hm) h.bel.size), hr, h.box.but hb (by omega)⟩
theorem DocAt.put {W : World} {base rb b t : Nat} {vs : Array Value} {L : List (Int × Nat)} (h : DocAt W base rb L) (hb : FBox W b t vs) (ht : 46 ≠ t) (h1 : rb ≠ b) (j : Nat) (v : Value) : DocAt (W.setCell ⟨b, j, none⟩ v) base rb L := by
  obtain ⟨u, q1, q2⟩ := h.box
  exact ⟨⟨u, q1.other ⟨b, j, none⟩ v h1, yown_put q2 hb ht j v⟩, h.ok⟩
theorem done_fin {b : Nat} (hb : b < 18446744073709551616) : fin b = isone b := by
  have h := fin_iff b
  unfold isone
  cases hf : fin b
  · rw [hf] at h
    simp at h
    simp
    omega
  · rw [hf] at h
    simp at h
    simp
    omega
set_option maxHeartbeats 800000 in
set_option maxRecDepth 100000 in
theorem d19one_any (t : Int) (b : Nat) (w : World) (hb : b < 18446744073709551616) : Calls Try.prog 87 #[.agg #[.int .i64 t, .float .f64 b]] w fun e w' => e = .returned (.bool (isone b)) ∧ Below w.heap.size w w' := by
  obtain ⟨X, hX⟩ : ∃ X, w.alloc (.cells #[.int .i64 t, .float .f64 b] 46) = X := ⟨_, rfl⟩
  have HX : Hid (FBox X w.heap.size 46 #[.int .i64 t, .float .f64 b] ∧ Below w.heap.size w X) := by rw [← hX]; exact ⟨FBox.made _ _ _, (Below.refl _ _).alloc (Nat.le_refl _) _⟩
  have c1 : X.cell? ⟨w.heap.size, 1, none⟩ = some (.float .f64 b) := HX.out.1.cell 1
  have rS := fsub_run Try.prog 36
  have hl := less_self (fval_fn .sub X b b)
  have HE := hid (done_fin hb)
  clear hb
  go_enter Try.func87, Try.ntmps87
  go_wp2_with fail
  go_ret
  refine ⟨?_, fwld_below _ _ _ HX.out.2⟩
  show Ending.returned (.bool (fin b)) = _
  rw [HE.out]
end Go.Proofs.Ytblfemmhhijeeaa

/- The document's means and medians: Finite, ahead, Order, Mean, Median; package clean's Mean. -/
namespace Go.Proofs.Ytblfemmhhijeeaa
open Go.RowKit
set_option linter.unusedVariables false
set_option linter.unusedSimpArgs false

end Go.Proofs.Ytblfemmhhijeeaa

/- Means and medians: package clean's Mean, the document's Mean and Median. -/
namespace Go.Proofs.Ytblfemmhhijeeaa
open Go.RowKit
set_option linter.unusedVariables false
set_option linter.unusedSimpArgs false

end Go.Proofs.Ytblfemmhhijeeaa

/- The law CleanMeans answers true, whatever heights come in. -/
namespace Go.Proofs.Ytblfemmhhijeeaa
open Go.RowKit
set_option linter.unusedVariables false
set_option linter.unusedSimpArgs false

end Go.Proofs.Ytblfemmhhijeeaa

/- The kit's lists of samples and of places: a copy, a lent one, kept, the same. -/
namespace Go.Proofs.Ytblfemmhhijeeaa
open Go.RowKit
set_option linter.unusedVariables false
set_option linter.unusedSimpArgs false

end Go.Proofs.Ytblfemmhhijeeaa

/- Lists of samples and of numbers that came in: no longer than their bulk. -/
namespace Go.Proofs.Ytblfemmhhijeeaa
open Go.RowKit Go.ChangeShapes Go.WideShapes Go.Deep Go.Joins
set_option linter.unusedVariables false

/-- A list of numbers in memory. -/
def RdZ (w : World) (a : Option Addr) (xs : List Int) : Prop := xs = [] ∨ ∃ g o, a = some ⟨g, o, none⟩ ∧ g < w.heap.size ∧ ∀ j x, xs[j]? = some x → w.cell? ⟨g, o + j, none⟩ = some (.int .i64 x)
theorem RdZ.later {w w' : World} {a : Option Addr} {xs : List Int} (h : RdZ w a xs) (hb : Below w.heap.size w w') : RdZ w' a xs := by
  rcases h with h | ⟨g, o, ha, hg, hc⟩
  · exact .inl h
  · have := hb.size
    exact .inr ⟨g, o, ha, by omega, fun j x hj => (hb.cell (p := ⟨g, o + j, none⟩) hg).trans (hc j x hj)⟩
theorem RdZ.get {w : World} {a : Option Addr} {xs : List Int} (h : RdZ w a xs) {j : Nat} {x : Int} (hj : xs[j]? = some x) : ∃ g o, a = some ⟨g, o, none⟩ ∧ g < w.heap.size ∧ ∀ j x, xs[j]? = some x → w.cell? ⟨g, o + j, none⟩ = some (.int .i64 x) := by
  rcases h with rfl | h
  · simp at hj
  · exact h
theorem RdZ.of {w : World} {a : Option Addr} {xs : List Int} (h : RdV w a (xs.map (Value.int .i64))) : RdZ w a xs := by
  rcases h with h | ⟨g, ha, hg, hc⟩
  · left
    simpa using h
  · exact .inr ⟨g, 0, ha, hg, fun j x hj => by rw [Nat.zero_add]; exact hc j _ (by simp [hj])⟩
end Go.Proofs.Ytblfemmhhijeeaa

/- Gaps filled, two ways of one: what Fill makes is one but for what is no number; no program. Samples without those at some places. -/
namespace Go.Proofs.Ytblfemmhhijeeaa
open Go.RowKit
set_option linter.unusedVariables false

theorem LineT.al {s : Int} {b : Nat} {t : Int} {c : Nat} {x : Int} {r r' : Nat} (h : LineT s b t c x r) (g : LineT s b t c x r') : Al r r' := by
  obtain ⟨d, p, m, h1, h2, h3, h4⟩ := h
  obtain ⟨d', p', m', g1, g2, g3, g4⟩ := g
  exact h4.al g4 (.refl _) (h3.al g3 (h1.al g1 (.refl _) (.refl _)) (h2.al g2 (.refl _) (.refl _)))
theorem LineT.ex (w : World) (s : Int) (b : Nat) (t : Int) (c : Nat) (x : Int) : ∃ r, LineT s b t c x r := ⟨_, _, _, _, fval_fn _ w _ _, fval_fn _ w _ _, fval_fn _ w _ _, fval_fn _ w _ _⟩
/-- A sample, all that is no number being one. -/
def canS (p : Int × Nat) : Int × Nat := (p.1, if isnan p.2 = true then 9221120237041090561 else p.2)
theorem canS_al {x : Int} {r r' : Nat} (h : Al r r') : canS (x, r) = canS (x, r') := by
  rcases h with rfl | ⟨h1, h2⟩
  · rfl
  · unfold canS
    rw [if_pos h1, if_pos h2]
theorem isone_nan {x : Nat} (h : isnan x = true) : isone x = false := by
  have := (isnan_iff x).1 h
  unfold isone
  exact decide_eq_false (by omega)
theorem canS_one (p : Int × Nat) : isone (canS p).2 = isone p.2 := by
  unfold canS
  by_cases h : isnan p.2 = true
  · simp only [if_pos h]
    rw [isone_nan h]
    decide
  · simp only [if_neg h]
theorem canS_fi {p : Int × Nat} (h : isone p.2 = true) : canS p = p := by
  unfold canS
  rw [if_neg]
  intro hn
  rw [isone_nan hn] at h
  cases h
theorem canS_bad {F F' : List (Int × Nat)} (h : F.map canS = F'.map canS) (hb : ∃ p ∈ F, isone p.2 = false) : ∃ p ∈ F', isone p.2 = false := by
  obtain ⟨p, hp, hn⟩ := hb
  have : canS p ∈ F'.map canS := by rw [← h]; exact List.mem_map.2 ⟨p, hp, rfl⟩
  obtain ⟨q, hq, e⟩ := List.mem_map.1 this
  exact ⟨q, hq, by rw [← canS_one, e, canS_one]; exact hn⟩
theorem canS_all {F : List (Int × Nat)} (h : ∀ p ∈ F, isone p.2 = true) : F.map canS = F := by
  induction F with
  | nil => rfl
  | cons p r ih => rw [List.map_cons, canS_fi (h p List.mem_cons_self), ih (fun q hq => h q (List.mem_cons_of_mem _ hq))]
theorem LineL.can {p q : Int × Nat} {M M' : List (Int × Nat)} (h : LineL p q M) (g : LineL p q M') : M.map canS = M'.map canS := by
  rcases h with ⟨h1, rfl⟩ | ⟨h1, h2, h3⟩
  · rcases g with ⟨g1, rfl⟩ | ⟨g1, _⟩
    · rfl
    · omega
  · rcases g with ⟨g1, _⟩ | ⟨g1, g2, g3⟩
    · omega
    · apply List.ext_getElem?
      intro j
      rw [List.getElem?_map, List.getElem?_map]
      by_cases hj : j < M.length
      · have hx : M[j]? = some M[j] := List.getElem?_eq_getElem hj
        have hy : M'[j]? = some (M'[j]'(by omega)) := List.getElem?_eq_getElem (by omega)
        have a := h3 j _ hx
        have b := g3 j _ hy
        rw [hx, hy]
        show some _ = some _
        congr 1
        have e1 : (M[j]).1 = (M'[j]'(by omega)).1 := a.1.trans b.1.symm
        have a2 := a.2.1
        have b2 := b.2.1
        rw [← e1] at b2
        have := canS_al (x := (M[j]).1) (a2.al b2)
        show canS ((M[j]).1, (M[j]).2) = canS ((M'[j]'(by omega)).1, (M'[j]'(by omega)).2)
        rw [this, e1]
      · rw [List.getElem?_eq_none (by omega), List.getElem?_eq_none (by omega)]
theorem FilP.can {O F F' : List (Int × Nat)} (h : FilP O F) (g : FilP O F') : F.map canS = F'.map canS := by
  induction h generalizing F' with
  | nil => rw [g.none]
  | one q => rw [g.single]
  | more O p q F M h hl ih =>
    obtain ⟨F2, M2, g1, g2, rfl⟩ := FilP.snoc g
    rw [List.map_append, List.map_append, List.map_append, List.map_append, ih g1, hl.can g2]
/-- What Fill tells, whatever memory it lies in. -/
def FilC (xs : List (Int × Nat)) (err : Int) (v : Value) (Q : List (Int × Nat) → Prop) : Prop := (¬ goodS xs ∧ err = errS xs ∧ v = .slice none 0 0) ∨ (goodS xs ∧ ∃ F, FilP (onesL xs true) F ∧ (((∃ p ∈ F, isone p.2 = false) ∧ err = 9 ∧ v = .slice none 0 0) ∨ ((∀ p ∈ F, isone p.2 = true) ∧ 4096 < F.length ∧ err = 3 ∧ v = .slice none 0 0) ∨ ((∀ p ∈ F, isone p.2 = true) ∧ F.length ≤ 4096 ∧ err = 0 ∧ Q F)))
theorem one_bad {F : List (Int × Nat)} (h1 : ∃ p ∈ F, isone p.2 = false) (h2 : ∀ p ∈ F, isone p.2 = true) : False := by
  obtain ⟨p, hp, hn⟩ := h1
  rw [h2 p hp] at hn
  cases hn
theorem FilC.both {xs : List (Int × Nat)} {e f : Int} {v u : Value} {Q R : List (Int × Nat) → Prop} (h : FilC xs e v Q) (g : FilC xs f u R) : e = f ∧ ((v = .slice none 0 0 ∧ u = .slice none 0 0) ∨ ∃ F, (∀ p ∈ F, isone p.2 = true) ∧ F.length ≤ 4096 ∧ FilP (onesL xs true) F ∧ Q F ∧ R F) := by
  rcases h with ⟨h0, h1, h2⟩ | ⟨h0, F, hF, hc⟩
  · rcases g with ⟨g0, g1, g2⟩ | ⟨g0, _⟩
    · exact ⟨by rw [h1, g1], .inl ⟨h2, g2⟩⟩
    · exact absurd g0 h0
  · rcases g with ⟨g0, _⟩ | ⟨g0, G, hG, gc⟩
    · exact absurd h0 g0
    · have hca := hF.can hG
      have hlen : F.length = G.length := by have := congrArg List.length hca; simpa using this
      rcases hc with ⟨hb, he, hv⟩ | ⟨ha, hl, he, hv⟩ | ⟨ha, hl, he, hq⟩
      · have gb := canS_bad hca hb
        rcases gc with ⟨_, ge, gv⟩ | ⟨ga, _⟩ | ⟨ga, _⟩
        · exact ⟨by rw [he, ge], .inl ⟨hv, gv⟩⟩
        · exact (one_bad gb ga).elim
        · exact (one_bad gb ga).elim
      · rcases gc with ⟨gb, _⟩ | ⟨ga, gl, ge, gv⟩ | ⟨ga, gl, _⟩
        · exact (one_bad (canS_bad hca.symm gb) ha).elim
        · exact ⟨by rw [he, ge], .inl ⟨hv, gv⟩⟩
        · omega
      · rcases gc with ⟨gb, _⟩ | ⟨ga, gl, ge, gv⟩ | ⟨ga, gl, ge, gq⟩
        · exact (one_bad (canS_bad hca.symm gb) ha).elim
        · omega
        · rw [canS_all ha, canS_all ga] at hca
          subst hca
          exact ⟨by rw [he, ge], .inr ⟨F, ha, hl, hF, hq, gq⟩⟩
/-! ### Without -/
/-- Places of a list of so many, rising. -/
def goodP (zs : List Int) (n : Nat) : Prop := zs.Pairwise (· < ·) ∧ ∀ z ∈ zs, 0 ≤ z ∧ z < (n : Int)
end Go.Proofs.Ytblfemmhhijeeaa

/- The kit's lists of numbers; package clean's placesOf, Without. -/
namespace Go.Proofs.Ytblfemmhhijeeaa
open Go.RowKit
set_option linter.unusedVariables false
set_option linter.unusedSimpArgs false

theorem ints_cells (Z : List Int) : ∀ u ∈ Z.map (Value.int .i64), u.oneCell' = true := by
  intro u hu
  obtain ⟨z, _, rfl⟩ := List.mem_map.1 hu
  rfl
set_option maxHeartbeats 1600000 in
set_option maxRecDepth 100000 in
theorem ecopyI_any (a : Option Addr) (n cap : Nat) (zs : List Int) (w : World) (hn : n ≤ 274877906944) (hl : zs.length = n) (hz : a = none → cap = 0 ∧ n = 0) (h : RdZ w a zs) :
    Calls Try.prog 79 #[.slice a n cap] w fun e w' => ∃ v, e = .returned v ∧ w'.ownsRow w.heap.size 3 1 v n (zs.map (Value.int .i64)) ∧ Below w.heap.size w w' := by
  obtain ⟨i0, hi, hz0, hz1, hz2⟩ := info_parts Try.yinfoI
  have hown : (w.alloc (.cells #[] 3)).ownsRow w.heap.size 3 1 (.slice (some ⟨w.heap.size, 0, none⟩) 0 0) 0 [] := by
    refine ⟨rfl, .inr ⟨w.heap.size, 0, #[], rfl, Nat.le_refl _, (FBox.made w 3 #[]), Nat.le_refl _, Nat.zero_le _, rfl, rfl⟩⟩
  have hbel : Below w.heap.size w (w.alloc (.cells #[] 3)) := (Below.refl _ _).alloc (Nat.le_refl _) _
  cases a with
  | none =>
    obtain ⟨h0, h1⟩ := hz rfl
    subst h0
    subst h1
    have hx : zs = [] := List.eq_nil_of_length_eq_zero hl
    subst hx
    clear h hl hz
    go_enter Try.func79, Try.ntmps79
    go_wp2_with (at_builtin; refine wpList_append_own_none rfl _ _ 54 rfl w.heap.size 3 i0 1 Try.underlying54 hi _ 0 [] rfl hown rfl ?_)
    go_ret
    exact ⟨_, rfl, hown, hbel⟩
  | some ad =>
    have HN : Hid (∀ j v, (zs.map (Value.int .i64))[j]? = some v → (w.alloc (.cells #[] 3)).cell? (ad.add j) = some v) := fun j v hj => by
      rw [List.getElem?_map] at hj
      obtain ⟨z, hzj, rfl⟩ := Option.map_eq_some_iff.1 hj
      obtain ⟨g, o, ha, hg, hcs⟩ := h.get hzj
      injection ha with ha
      subst ha
      rw [Addr.add_lit]
      exact (hbel.cell (p := ⟨g, o + j, none⟩) hg).trans (hcs j z hzj)
    have HLn : Hid ((zs.map (Value.int .i64)).length = n * 1) := by show _ = _; rw [List.length_map, hl, Nat.mul_one]
    clear h hl hz
    go_enter Try.func79, Try.ntmps79
    go_wp2_with (at_builtin; refine wpList_append_own _ rfl _ _ 54 rfl w.heap.size 3 i0 (.int .i64 0) 1 8 Try.underlying54 hi hz0 hz1 hz2 rfl (by decide) _ 0 [] rfl hown ad n cap (zs.map (Value.int .i64)) rfl HLn.out HN.out (ints_cells _) (by unfold maxLen; omega) (by omega) (by simp) ?_)
    intro v' w1 hown' hgrow _
    have hb2 : Below w.heap.size w w1 := hbel.grown hgrow (by simp) (fun k hk => by simp [Value.ownBlock] at hk; omega)
    go_wp2_with fail
    go_ret
    exact ⟨_, rfl, by simpa using hown', hb2⟩
/-! ### placesOf, Without -/
theorem take_snocI {zs : List Int} {k : Nat} {z : Int} (h : zs[k]? = some z) : zs.take (k + 1) = zs.take k ++ [z] := by rw [List.take_add_one, h]; rfl
/-- What stands while places are looked at. -/
structure PlS (zs : List Int) (n k : Nat) (last : Int) : Prop where
  good : goodP (zs.take k) n
  high : ∀ z ∈ zs.take k, z ≤ last
  first : k = 0 → last = -1
  there : k ≠ 0 → last ∈ zs.take k
theorem PlS.step {zs : List Int} {n k : Nat} {last z : Int} (h : PlS zs n k last) (hz : zs[k]? = some z) (h1 : last < z) (h2 : z < (n : Int)) : PlS zs n (k + 1) z := by
  have h0 : 0 ≤ z := by
    by_cases hk : k = 0
    · have := h.first hk; omega
    · have := (h.good.2 _ (h.there hk)).1; omega
  refine ⟨⟨?_, fun y hy => ?_⟩, fun y hy => ?_, fun e => by omega, fun _ => ?_⟩
  · rw [take_snocI hz]
    refine List.pairwise_append.2 ⟨h.good.1, by simp, fun a ha b hb => ?_⟩
    rw [List.mem_singleton.1 hb]
    have := h.high a ha
    omega
  · rw [take_snocI hz] at hy
    rcases List.mem_append.1 hy with hy | hy
    · exact h.good.2 y hy
    · rw [List.mem_singleton.1 hy]; exact ⟨h0, h2⟩
  · rw [take_snocI hz] at hy
    rcases List.mem_append.1 hy with hy | hy
    · have := h.high y hy; omega
    · rw [List.mem_singleton.1 hy]; omega
  · rw [take_snocI hz]; simp
theorem PlS.no {zs : List Int} {n k : Nat} {last z : Int} (h : PlS zs n k last) (hz : zs[k]? = some z) (hb : z ≤ last ∨ (n : Int) ≤ z) : ¬ goodP zs n := by
  intro hg
  have hm := List.mem_of_getElem? hz
  rcases hb with hb | hb
  · by_cases hk : k = 0
    · have := h.first hk
      have := (hg.2 z hm).1
      omega
    · obtain ⟨i, hi⟩ := List.getElem?_of_mem (h.there hk)
      have hil := (List.getElem?_eq_some_iff.1 hi).1
      rw [List.length_take] at hil
      rw [List.getElem?_take_of_lt (by omega)] at hi
      have hkl := (List.getElem?_eq_some_iff.1 hz).1
      have := List.pairwise_iff_getElem.1 hg.1 i k (by omega) hkl (by omega)
      have e1 := (List.getElem?_eq_some_iff.1 hi).2
      have e2 := (List.getElem?_eq_some_iff.1 hz).2
      omega
  · have := (hg.2 z hm).2
    omega
theorem PlS.done {zs : List Int} {n k : Nat} {last : Int} (h : PlS zs n k last) (hk : zs.length ≤ k) : goodP zs n := by
  have := h.good
  rw [List.take_of_length_le hk] at this
  exact this
/-- What stands while samples are gone through. -/
structure WoS (zs : List Int) (k j : Nat) : Prop where
  low : ∀ i z, i < j → zs[i]? = some z → z < (k : Int)
  high : ∀ i z, j ≤ i → zs[i]? = some z → (k : Int) ≤ z
theorem WoS.skip {zs : List Int} {n k j : Nat} (hg : goodP zs n) (h : WoS zs k j) (hz : zs[j]? = some (k : Int)) : WoS zs (k + 1) (j + 1) := by
  refine ⟨fun i z hi hiz => ?_, fun i z hi hiz => ?_⟩
  · rcases Nat.lt_or_ge i j with h1 | h1
    · have := h.low i z h1 hiz; omega
    · obtain rfl : i = j := by omega
      rw [hz] at hiz
      injection hiz with hiz
      omega
  · have l1 := (List.getElem?_eq_some_iff.1 hz).1
    have l2 := (List.getElem?_eq_some_iff.1 hiz).1
    have := List.pairwise_iff_getElem.1 hg.1 j i l1 l2 (by omega)
    have e1 := (List.getElem?_eq_some_iff.1 hz).2
    have e2 := (List.getElem?_eq_some_iff.1 hiz).2
    omega
theorem WoS.take {zs : List Int} {k j : Nat} (h : WoS zs k j) (hz : (k : Int) ∉ zs) : WoS zs (k + 1) j := by
  refine ⟨fun i z hi hiz => ?_, fun i z hi hiz => ?_⟩
  · have := h.low i z hi hiz; omega
  · have h1 := h.high i z hi hiz
    have h2 : z ≠ (k : Int) := fun e => hz (by rw [← e]; exact List.mem_of_getElem? hiz)
    omega
end Go.Proofs.Ytblfemmhhijeeaa

/- The document's Without. -/
namespace Go.Proofs.Ytblfemmhhijeeaa
open Go.RowKit
set_option linter.unusedVariables false
set_option linter.unusedSimpArgs false

end Go.Proofs.Ytblfemmhhijeeaa

/- The document's Fill. -/
namespace Go.Proofs.Ytblfemmhhijeeaa
open Go.RowKit
set_option linter.unusedVariables false
set_option linter.unusedSimpArgs false

theorem FilP.ge {O F : List (Int × Nat)} (h : FilP O F) : O.length ≤ F.length := by
  induction h with
  | nil => simp
  | one q => simp
  | more O p q F M h hl ih => simp at ih ⊢; omega
theorem FilP.last {O F : List (Int × Nat)} (h : FilP O F) (hne : F ≠ []) : ∃ O0 F0 p, O = O0 ++ [p] ∧ F = F0 ++ [p] := by
  cases h with
  | nil => exact absurd rfl hne
  | one q => exact ⟨[], [], q, rfl, rfl⟩
  | more O p q F M h hl => exact ⟨_, _, q, rfl, rfl⟩
/-- What stands while a line is put in. -/
structure RfS (w : World) (ba : Nat) (L : List (Int × Nat)) (p : Int × Nat) (v : Value) (W : World) : Prop where
  bel : Below w.heap.size w W
  own : W.ownsRow w.heap.size 46 2 v L.length (smC L)
  box : FBox W ba 46 #[.int .i64 p.1, .float .f64 p.2]
  away : v.ownBlock ≠ some ba
theorem RfS.later {w W W' : World} {ba : Nat} {L : List (Int × Nat)} {p : Int × Nat} {v : Value} (h : RfS w ba L p v W) (hb : Below W.heap.size W W') : RfS w ba L p v W' :=
  ⟨ybt' h.bel hb, yowns_later h.own hb, h.box.later hb h.box.lt, h.away⟩
end Go.Proofs.Ytblfemmhhijeeaa

/- The law's apart: an answer is written over, all others stay. -/
namespace Go.Proofs.Ytblfemmhhijeeaa
open Go.RowKit
set_option linter.unusedVariables false
set_option linter.unusedSimpArgs false

theorem RdV.gby {w w' : World} {o : Option Nat} {a : Option Addr} {xs : List Value} (h : RdV w a xs) (hg : w.grownBy w' o) (ha : ∀ g, a = some ⟨g, 0, none⟩ → o ≠ some g) : RdV w' a xs := by
  rcases h with h | ⟨g, rfl, hl, hc⟩
  · exact .inl h
  · refine .inr ⟨g, rfl, Nat.lt_of_lt_of_le hl hg.size, fun j u hj => ?_⟩
    have e := hg.block g hl (fun q => ha g rfl q.symm)
    have q := hc j u hj
    unfold World.cell? at q ⊢
    simp only [e]
    exact q
theorem FBox.gby {w w' : World} {o : Option Nat} {b t : Nat} {vs : Array Value} (h : FBox w b t vs) (hg : w.grownBy w' o) (ha : o ≠ some b) : FBox w' b t vs := (hg.block b h.lt (fun q => ha q.symm)).trans h
/-- A block of so many cells that may be written. -/
def Blk (W : World) (g sz : Nat) : Prop := ∃ cur, W.heap[g]? = some (.cells cur 46 (0, 0)) ∧ cur.size = sz
theorem Blk.cell {W : World} {g sz j : Nat} (h : Blk W g sz) (hj : j < sz) : ∃ u, W.cell? ⟨g, j, none⟩ = some u ∧ W.frozen? ⟨g, j, none⟩ = false := by
  obtain ⟨cur, hb, hs⟩ := h
  refine ⟨cur[j]'(by omega), ?_, by simp [World.frozen?, hb]⟩
  simp only [World.cell?, hb]
  simp [hs, hj]
theorem Blk.set {W : World} {g sz : Nat} (h : Blk W g sz) (j : Nat) (v : Value) : Blk (W.setCell ⟨g, j, none⟩ v) g sz := by
  obtain ⟨cur, hb, hs⟩ := h
  exact ⟨_, heap_setCell_same W g j cur _ v hb, by simpa using hs⟩
theorem Blk.later {W W' : World} {g sz : Nat} (h : Blk W g sz) (hb : Below W.heap.size W W') : Blk W' g sz := by
  obtain ⟨cur, hc, hs⟩ := h
  exact ⟨cur, (hb.block g (Array.getElem?_eq_some_iff.1 hc).1).trans hc, hs⟩
/-- What may be written over: nothing, or a row of one's own. -/
def Ovr (W : World) (v : Value) (o : Option Nat) : Prop := (v = .slice none 0 0 ∧ o = none) ∨ ∃ g n cap, v = .slice (some ⟨g, 0, none⟩) n cap ∧ o = some g ∧ n ≤ cap ∧ cap ≤ maxLen ∧ Blk W g (cap * 2)
theorem Ovr.of {W : World} {base n : Nat} {v : Value} {xs : List Value} (h : W.ownsRow base 46 2 v n xs) : Ovr W v v.ownBlock := by
  rcases h.2 with ⟨rfl, _⟩ | ⟨g, cap, cur, rfl, h1, h2, h3, h4, h5, h6⟩
  · exact .inl ⟨rfl, rfl⟩
  · exact .inr ⟨g, n, cap, rfl, rfl, h3, h4, cur, h2, h5⟩
end Go.Proofs.Ytblfemmhhijeeaa

/- The document's record (layer 19): Samples, Lost, Len. -/
namespace Go.Proofs.Ytblfemmhhijeeaa
open Go.RowKit
set_option linter.unusedVariables false
set_option linter.unusedSimpArgs false

theorem ones_take {L : List (Int × Nat)} {k : Nat} {p : Int × Nat} (o : Bool) (h : L[k]? = some p) : onesL (L.take (k + 1)) o = onesL (L.take k) o ++ (if isone p.2 == o then [p] else []) := by
  unfold onesL
  rw [List.take_add_one, h, List.filter_append]
  congr 1
  by_cases hp : (isone p.2 == o) = true
  · rw [if_pos hp]; simp [hp]
  · rw [if_neg hp]; simp [hp]
set_option maxHeartbeats 3200000 in
set_option maxRecDepth 100000 in
theorem d19samples_any (base rb : Nat) (L : List (Int × Nat)) (w : World) (h : DocAt w base rb L) :
    Calls Try.prog 55 #[.pointer (some ⟨rb, 0, none⟩)] w fun e w' => ∃ v : Value, e = .returned v ∧ Hid (w'.ownsRow w.heap.size 46 2 v (onesL L true).length (smC (onesL L true))) ∧ Below w.heap.size w w' := by
  obtain ⟨i0, hi, hz0, hz1, hz2⟩ := info_parts Try.yinfoS
  obtain ⟨v, hb, ho⟩ := h.box
  obtain ⟨a, cap, rfl, HV⟩ := yshape ho
  have HB := hid hb
  have HVV := hid HV
  have HOK := hid h.ok
  have hf := h.ok.few
  clear h HV hb ho
  go_enter Try.func55, Try.ntmps55
  go_wp2_with fail
  go_loopw [3, 4] (fun v x wr => ∃ k : Nat, k ≤ L.length ∧ x = .int .i64 (k : Int) ∧ Hid (wr.ownsRow w.heap.size 46 2 v (onesL (L.take k) true).length (smC (onesL (L.take k) true))) ∧ Hid (Below w.heap.size w wr)) (fun _ x _ => L.length - (intOf x).toNat)
  case atStart => exact ⟨0, Nat.zero_le _, rfl, World.ownsRow_nil _ _ _ _, Below.refl _ _⟩
  case round =>
    obtain ⟨k, hk, rfl, HO, HW⟩ := hrel
    have HN := hid (d19none_any rb _ wr (HB.out.later HW.out HB.out.lt))
    have c1 : wr.cell? ⟨rb, 1, none⟩ = some (.slice a L.length cap) := (HB.out.later HW.out HB.out.lt).cell 1
    by_cases hlt : k < L.length
    · obtain ⟨p, hp⟩ : ∃ p, L[k]? = some p := ⟨_, List.getElem?_eq_getElem hlt⟩
      have HT := hid (ones_take true hp)
      obtain ⟨t, b⟩ := p
      have HOne := hid (fun V => d19one_any t b V (HOK.out.tick _ (List.mem_of_getElem? hp)).2.2)
      have hsm := smC_at hp
      obtain ⟨g, rfl, hg, hc⟩ := HVV.out.get hsm.1
      have HC : Hid (∀ V, Below w.heap.size w V → V.cell? ⟨rb, 1, none⟩ = some (.slice (some ⟨g, 0, none⟩) L.length cap) ∧ V.cell? ⟨g, k * 2, none⟩ = some (.int .i64 t) ∧ V.cell? ⟨g, k * 2 + 1, none⟩ = some (.float .f64 b)) := fun V hV =>
        ⟨(HB.out.later hV HB.out.lt).cell 1, (hV.cell (p := ⟨g, k * 2, none⟩) hg).trans (hc _ _ hsm.1), (hV.cell (p := ⟨g, k * 2 + 1, none⟩) hg).trans (hc _ _ hsm.2)⟩
      obtain ⟨_, c2, c3⟩ := HC.out wr HW.out
      have hle : (onesL (L.take k) true).length ≤ k := Nat.le_trans (List.length_filter_le _ _) (by rw [List.length_take]; omega)
      clear hp hsm hc
      generalize onesL (L.take k) true = R at *
      dsimp only at HT
      cases hone : isone b
      · rw [hone] at HOne
        rw [hone] at HT
        clear hone
        go_wp2_with fail
        refine Calls.mono HN.out ?_
        rintro e w1 ⟨rfl, rfl⟩
        go_wp2_with fail
        refine Calls.mono (HOne.out _) ?_
        rintro e w2 ⟨rfl, hb2⟩
        have HB2 := hid (HW.out.trans (hb2.mono HW.out.size))
        have HO2 := hid (yowns_later HO.out hb2)
        clear hb2 HOne HO HW c1 c2 c3
        rw [if_neg (by decide), List.append_nil] at HT
        go_wp2_with fail
        go_roundw
        case rel => exact ⟨k + 1, by omega, by go_num, by rw [HT.out]; exact HO2.out, HB2.out⟩
        case measure => simp [intOf]; omega
      · rw [hone] at HOne
        rw [hone] at HT
        clear hone
        go_wp2_with fail
        refine Calls.mono HN.out ?_
        rintro e w1 ⟨rfl, rfl⟩
        go_wp2_with fail
        refine Calls.mono (HOne.out _) ?_
        rintro e w2 ⟨rfl, hb2⟩
        have HB2 := hid (HW.out.trans (hb2.mono HW.out.size))
        have HO2 := hid (yowns_later HO.out hb2)
        clear hb2 HOne HO HW c1 c2 c3
        rw [if_pos (by decide)] at HT
        obtain ⟨c1, c2, c3⟩ := HC.out w2 HB2.out
        have ho := HO2.out
        have hsz := HB2.out.size
        go_wp2_with (first
          | (at_builtin; refine wpList_append_own _ rfl _ _ 39 rfl w.heap.size 46 i0 (.agg #[.int .i64 0, .float .f64 0]) 2 16 Try.underlying39 hi hz0 hz1 hz2 rfl (by decide) _ _ _ rfl (ho.alloc _) ⟨w2.heap.size, 0, none⟩ 1 1 [.int .i64 t, .float .f64 b] rfl rfl (ycell2 _ _ _ _) (smC_one (t, b)) (by unfold maxLen; omega) (by omega) (by simp; omega) ?_; intro v' w4 ho4 hg4 _)
          | go_in)
        have HB4 := hid ((HB2.out.alloc (by omega) _).grown hg4 (by simp; omega) (fun g hg => (ho.lt g hg).1))
        have HO4 := hid ho4
        clear hg4 ho4
        go_wp2_with fail
        go_roundw
        case rel =>
          refine ⟨k + 1, by omega, by go_num, ?_, HB4.out⟩
          rw [HT.out, List.length_append, smC_append]
          exact HO4.out
        case measure => simp [intOf]; omega
    · obtain rfl : k = L.length := by omega
      have hkk : ¬ (L.length : Int) < (L.length : Int) := by omega
      have HE : Hid (L.take L.length = L) := List.take_length
      rw [HE.out] at HO
      go_wp2_with fail
      refine Calls.mono HN.out ?_
      rintro e w1 ⟨rfl, rfl⟩
      go_wp2_with fail
      go_ret
      exact ⟨_, rfl, HO.out, HW.out⟩
set_option maxHeartbeats 3200000 in
set_option maxRecDepth 100000 in
theorem d19lost_any (base rb : Nat) (L : List (Int × Nat)) (w : World) (h : DocAt w base rb L) :
    Calls Try.prog 47 #[.pointer (some ⟨rb, 0, none⟩)] w fun e w' => ∃ v : Value, e = .returned v ∧ Hid (w'.ownsRow w.heap.size 3 1 v (onesL L false).length (((onesL L false).map (·.1)).map (Value.int .i64))) ∧ Below w.heap.size w w' := by
  obtain ⟨i0, hi, hz0, hz1, hz2⟩ := info_parts Try.yinfoI
  obtain ⟨v, hb, ho⟩ := h.box
  obtain ⟨a, cap, rfl, HV⟩ := yshape ho
  have HB := hid hb
  have HVV := hid HV
  have HOK := hid h.ok
  have hf := h.ok.few
  clear h HV hb ho
  go_enter Try.func47, Try.ntmps47
  go_wp2_with fail
  go_loopw [3, 4] (fun v x wr => ∃ k : Nat, k ≤ L.length ∧ x = .int .i64 (k : Int) ∧ Hid (wr.ownsRow w.heap.size 3 1 v (onesL (L.take k) false).length (((onesL (L.take k) false).map (·.1)).map (Value.int .i64))) ∧ Hid (Below w.heap.size w wr)) (fun _ x _ => L.length - (intOf x).toNat)
  case atStart => exact ⟨0, Nat.zero_le _, rfl, World.ownsRow_nil _ _ _ _, Below.refl _ _⟩
  case round =>
    obtain ⟨k, hk, rfl, HO, HW⟩ := hrel
    have HN := hid (d19none_any rb _ wr (HB.out.later HW.out HB.out.lt))
    have c1 : wr.cell? ⟨rb, 1, none⟩ = some (.slice a L.length cap) := (HB.out.later HW.out HB.out.lt).cell 1
    by_cases hlt : k < L.length
    · obtain ⟨p, hp⟩ : ∃ p, L[k]? = some p := ⟨_, List.getElem?_eq_getElem hlt⟩
      have HT := hid (ones_take false hp)
      obtain ⟨t, b⟩ := p
      have HOne := hid (fun V => d19one_any t b V (HOK.out.tick _ (List.mem_of_getElem? hp)).2.2)
      have hsm := smC_at hp
      obtain ⟨g, rfl, hg, hc⟩ := HVV.out.get hsm.1
      have HC : Hid (∀ V, Below w.heap.size w V → V.cell? ⟨rb, 1, none⟩ = some (.slice (some ⟨g, 0, none⟩) L.length cap) ∧ V.cell? ⟨g, k * 2, none⟩ = some (.int .i64 t) ∧ V.cell? ⟨g, k * 2 + 1, none⟩ = some (.float .f64 b)) := fun V hV =>
        ⟨(HB.out.later hV HB.out.lt).cell 1, (hV.cell (p := ⟨g, k * 2, none⟩) hg).trans (hc _ _ hsm.1), (hV.cell (p := ⟨g, k * 2 + 1, none⟩) hg).trans (hc _ _ hsm.2)⟩
      obtain ⟨_, c2, c3⟩ := HC.out wr HW.out
      have hle : (onesL (L.take k) false).length ≤ k := Nat.le_trans (List.length_filter_le _ _) (by rw [List.length_take]; omega)
      clear hp hsm hc
      generalize onesL (L.take k) false = R at *
      dsimp only at HT
      cases hone : isone b
      · rw [hone] at HOne
        rw [hone] at HT
        clear hone
        go_wp2_with fail
        refine Calls.mono HN.out ?_
        rintro e w1 ⟨rfl, rfl⟩
        go_wp2_with fail
        refine Calls.mono (HOne.out _) ?_
        rintro e w2 ⟨rfl, hb2⟩
        have HB2 := hid (HW.out.trans (hb2.mono HW.out.size))
        have HO2 := hid (yowns_later HO.out hb2)
        clear hb2 HOne HO HW c1 c2 c3
        rw [if_pos (by decide)] at HT
        obtain ⟨c1, c2, c3⟩ := HC.out w2 HB2.out
        have ho := HO2.out
        have hsz := HB2.out.size
        go_wp2_with (first
          | (at_builtin; refine wpList_append_own _ rfl _ _ 54 rfl w.heap.size 3 i0 (.int .i64 0) 1 8 Try.underlying54 hi hz0 hz1 hz2 rfl (by decide) _ _ _ rfl (ho.alloc _) ⟨w2.heap.size, 0, none⟩ 1 1 [.int .i64 t] rfl rfl (cell_one_new _ _ _) (by simp [Value.oneCell']) (by unfold maxLen; omega) (by omega) (by simp; omega) ?_; intro v' w4 ho4 hg4 _)
          | go_in)
        have HB4 := hid ((HB2.out.alloc (by omega) _).grown hg4 (by simp; omega) (fun g hg => (ho.lt g hg).1))
        have HO4 := hid ho4
        clear hg4 ho4
        go_wp2_with fail
        go_roundw
        case rel =>
          refine ⟨k + 1, by omega, by go_num, ?_, HB4.out⟩
          rw [HT.out, List.length_append, List.map_append, List.map_append]
          exact HO4.out
        case measure => simp [intOf]; omega
      · rw [hone] at HOne
        rw [hone] at HT
        clear hone
        go_wp2_with fail
        refine Calls.mono HN.out ?_
        rintro e w1 ⟨rfl, rfl⟩
        go_wp2_with fail
        refine Calls.mono (HOne.out _) ?_
        rintro e w2 ⟨rfl, hb2⟩
        have HB2 := hid (HW.out.trans (hb2.mono HW.out.size))
        have HO2 := hid (yowns_later HO.out hb2)
        clear hb2 HOne HO HW c1 c2 c3
        rw [if_neg (by decide), List.append_nil] at HT
        go_wp2_with fail
        go_roundw
        case rel => exact ⟨k + 1, by omega, by go_num, by rw [HT.out]; exact HO2.out, HB2.out⟩
        case measure => simp [intOf]; omega
    · obtain rfl : k = L.length := by omega
      have hkk : ¬ (L.length : Int) < (L.length : Int) := by omega
      have HE : Hid (L.take L.length = L) := List.take_length
      rw [HE.out] at HO
      go_wp2_with fail
      refine Calls.mono HN.out ?_
      rintro e w1 ⟨rfl, rfl⟩
      go_wp2_with fail
      go_ret
      exact ⟨_, rfl, HO.out, HW.out⟩
end Go.Proofs.Ytblfemmhhijeeaa

/- The document's record (layer 19): Take, At, Len. -/
namespace Go.Proofs.Ytblfemmhhijeeaa
open Go.RowKit
set_option linter.unusedVariables false
set_option linter.unusedSimpArgs false

theorem Plc.at {L : List (Int × Nat)} (ok : RecOk L) {t : Int} {k : Nat} (h : Plc L t k) (hh : rhas L t = true) : ∃ b, L[k]? = some (t, b) ∧ rget L t = some b := by
  obtain ⟨b, hb⟩ := rhas_yes hh
  refine ⟨b, ?_, ok.get hb⟩
  have hm : (t, b) ∈ L.take k ++ L.drop k := by rw [List.take_append_drop]; exact hb
  rcases List.mem_append.1 hm with h1 | h1
  · have := h.lo _ h1
    dsimp only at this
    omega
  · obtain ⟨j, hj⟩ := List.getElem?_of_mem h1
    rw [List.getElem?_drop] at hj
    by_cases h0 : j = 0
    · subst h0
      exact hj
    · exfalso
      have hl := (List.getElem?_eq_some_iff.1 hj).1
      have hk : L[k]? = some (L[k]'(by omega)) := List.getElem?_eq_getElem (by omega)
      have h2 := h.hi (L[k]'(by omega)) (List.mem_of_getElem? (i := 0) (by rw [List.getElem?_drop]; exact hk))
      have h3 := List.pairwise_iff_getElem.1 ok.rise k (k + j) (by omega) hl (by omega)
      have h4 := (List.getElem?_eq_some_iff.1 hj).2
      rw [h4] at h3
      dsimp only at h3
      omega
set_option maxHeartbeats 6400000 in
set_option maxRecDepth 100000 in
theorem d19take_any (base rb : Nat) (L : List (Int × Nat)) (t : Int) (w : World) (h : DocAt w base rb L) (hbs : base ≤ w.heap.size) (hrb : base ≤ rb) (ht : I64 t) :
    Calls Try.prog 45 #[.pointer (some ⟨rb, 0, none⟩), .int .i64 t] w fun e w' => e = .returned (.int .i64 (takeR L t).1) ∧ Hid (DocAt w' base rb (takeR L t).2) ∧ But rb w w' := by
  obtain ⟨i0, hi, hz0, hz1, hz2⟩ := info_parts Try.yinfoS
  have HR := hid h
  have HT := hid ht
  clear h ht
  obtain ⟨v, hbx, ho⟩ := HR.out.box
  have HN := hid (d19none_any rb v w hbx)
  clear hbx ho
  go_enter Try.func45, Try.ntmps45
  go_wp2_with fail
  refine Calls.mono HN.out ?_
  rintro e w1 ⟨rfl, rfl⟩
  have HP := hid (d19place_any base rb L t w1 HR.out HT.out)
  go_wp2_with fail
  refine Calls.mono HP.out ?_
  rintro e w2 ⟨k, rfl, HPl, hb2⟩
  have HR2 := hid (HR.out.later hb2)
  have HG2 : Hid (w1.grownBy w2 (some rb)) := But.of_below hb2
  have hxs2 : base ≤ w2.heap.size := Nat.le_trans hbs hb2.size
  clear hb2 HP HN
  cases hh : rhas L t
  · have HE : Hid (takeR L t = (6, L)) := by show _ = _; unfold takeR; rw [hh]; rfl
    clear hh
    go_wp2_with fail
    go_ret
    rw [HE.out]
    exact ⟨rfl, HR2.out, HG2.out⟩
  · have HE : Hid (takeR L t = (0, rdel L t)) := by show _ = _; unfold takeR; rw [if_pos hh]
    obtain ⟨b, hkb, _⟩ := HPl.out.at HR2.out.ok hh
    have HD := hid (HPl.out.del HR2.out.ok hkb)
    have HOK := hid (HR2.out.ok.del t)
    have hkl : k < L.length := (List.getElem?_eq_some_iff.1 hkb).1
    have hf := HR2.out.ok.few
    obtain ⟨v, hbx, ho⟩ := HR2.out.box
    obtain ⟨a, cap, rfl, HV⟩ := yshape ho
    have HBX := hid hbx
    have HO := hid ho
    have HVV := hid HV
    have c1 : w2.cell? ⟨rb, 1, none⟩ = some (.slice a L.length cap) := hbx.cell 1
    clear hbx ho HV hh hkb
    rcases HO.out.2 with ⟨hnil, h0⟩ | ⟨g, cap', cur, hv, h1, h2, h3, h4, h5, h6⟩
    · injection hnil with e1 e2 e3
      exfalso
      omega
    · injection hv with e1 e2 e3
      subst e1 e3
      clear h1 h2 h5 h6 e2
      have HN1 : Hid (∀ W, Below w2.heap.size w2 W → ∀ j u, (smC (L.take k))[j]? = some u → W.cell? ((⟨g, 0, none⟩ : Addr).add j) = some u) := fun W hW j u hj => by
        obtain ⟨g', e, hg, hc⟩ := HVV.out.get (smC_fore hj)
        injection e with e
        injection e with e
        subst e
        rw [Addr.add_lit, Nat.zero_add, hW.cell (p := ⟨g, j, none⟩) hg]
        exact hc _ _ (smC_fore hj)
      have HN2 : Hid (∀ W, Below w2.heap.size w2 W → ∀ j u, (smC (L.drop (k + 1)))[j]? = some u → W.cell? ((⟨g, (k + 1) * 2, none⟩ : Addr).add j) = some u) := fun W hW j u hj => by
        have hq := smC_aft (show k + 1 ≤ L.length by omega) hj
        obtain ⟨g', e, hg, hc⟩ := HVV.out.get hq
        injection e with e
        injection e with e
        subst e
        rw [Addr.add_lit, hW.cell (p := ⟨g, (k + 1) * 2 + j, none⟩) hg]
        exact hc _ _ hq
      have HC : Hid (∀ W, Below w2.heap.size w2 W → W.cell? ⟨rb, 1, none⟩ = some (.slice (some ⟨g, 0, none⟩) L.length cap)) := fun W hW => (HBX.out.later hW HBX.out.lt).cell 1
      have hk1 : (k : Int) + 1 ≤ (L.length : Int) := by omega
      by_cases hck : cap = k + 1
      · have hL1 : L.length = k + 1 := by omega
        obtain ⟨n1, hn1⟩ : ∃ n1, n1 = k + 1 := ⟨_, rfl⟩
        rw [hL1, hck] at c1
        have HC1 : Hid (∀ W, Below w2.heap.size w2 W → W.cell? ⟨rb, 1, none⟩ = some (.slice (some ⟨g, 0, none⟩) (k + 1) (k + 1))) := fun W hW => by have := HC.out W hW; rw [hL1, hck] at this; exact this
        have hcx : ((k + 1 : Nat) : Int) - ((k : Int) + 1) = 0 := by omega
        go_wp2_with (first
          | (at_builtin; refine wpList_append_own _ rfl _ _ 39 rfl w2.heap.size 46 i0 (.agg #[.int .i64 0, .float .f64 0]) 2 16 Try.underlying39 hi hz0 hz1 hz2 rfl (by decide) _ 0 [] rfl (World.ownsRow_nil _ _ _ _) ⟨g, 0, none⟩ k (k + 1) (smC (L.take k)) rfl (by rw [smC_len, List.length_take]; omega) (HN1.out _ (Below.refl _ _)) (smC_oneC _) (by unfold maxLen; omega) (by omega) (Nat.le_refl _) ?_; intro v1 w3 ho3 hg3 _
             have hb3 : Below w2.heap.size w2 w3 := (Below.refl _ _).grown hg3 (Nat.le_refl _) (fun q e => by cases e)
             have HB3 := hid hb3
             have hs3 := hb3.size
             have c3 := HC1.out _ hb3
             clear hg3 hb3 c1)
          | (at_builtin; refine wpList_append_own _ rfl _ _ 39 rfl w2.heap.size 46 i0 (.agg #[.int .i64 0, .float .f64 0]) 2 16 Try.underlying39 hi hz0 hz1 hz2 rfl (by decide) _ _ _ rfl ho3 ⟨g, 0, none⟩ 0 0 [] rfl rfl (fun j u hj => by simp at hj) (fun u hu => by simp at hu) (by unfold maxLen; omega) (by omega) (by omega) ?_; intro v3 w5 ho5 hg5 _
             obtain ⟨a9, d9, rfl, hV9⟩ := yshape ho5
             clear hV9
             have hb5 : Below w2.heap.size w2 w5 := HB3.out.grown hg5 (by omega) (fun q e => (ho3.lt q e).1)
             have HB5 := hid hb5
             have q1 : w5.frozen? ⟨rb, 1, none⟩ = false := (HBX.out.later hb5 HBX.out.lt).free 1
             have c5 := HC1.out _ hb5
             clear hg5 hb5)
          | go_in)
        go_ret
        rw [HE.out]
        refine ⟨rfl, ⟨⟨_, (HBX.out.later HB5.out HBX.out.lt).set 1 _, ?_⟩, HOK.out⟩, (But.trans (m := rb) HG2.out (But.of_below HB5.out)).put 1 _⟩
        refine yown_put ?_ (HBX.out.later HB5.out HBX.out.lt) (by decide) 1 _
        rw [HD.out]
        have q := yowns_base ho5 hxs2
        rw [show 0 + k + 0 = k by omega] at q
        have hd : L.drop (k + 1) = [] := List.drop_eq_nil_of_le (by omega)
        rw [hd, List.append_nil, show (L.take k).length = k by rw [List.length_take]; omega, show smC (L.take k) = [] ++ smC (L.take k) ++ [] by simp]
        exact q
      · have hck2 : ¬ (cap - (k + 1) = 0) := by omega
        go_wp2_with (first
          | (at_builtin; refine wpList_append_own _ rfl _ _ 39 rfl w2.heap.size 46 i0 (.agg #[.int .i64 0, .float .f64 0]) 2 16 Try.underlying39 hi hz0 hz1 hz2 rfl (by decide) _ 0 [] rfl (World.ownsRow_nil _ _ _ _) ⟨g, 0, none⟩ k cap (smC (L.take k)) rfl (by rw [smC_len, List.length_take]; omega) (HN1.out _ (Below.refl _ _)) (smC_oneC _) (by unfold maxLen; omega) (by omega) (Nat.le_refl _) ?_; intro v1 w3 ho3 hg3 _
             have hb3 : Below w2.heap.size w2 w3 := (Below.refl _ _).grown hg3 (Nat.le_refl _) (fun q e => by cases e)
             have HB3 := hid hb3
             have hs3 := hb3.size
             have c3 := HC.out _ hb3
             clear hg3 hb3 c1)
          | (at_builtin; refine wpList_append_own _ rfl _ _ 39 rfl w2.heap.size 46 i0 (.agg #[.int .i64 0, .float .f64 0]) 2 16 Try.underlying39 hi hz0 hz1 hz2 rfl (by decide) _ _ _ rfl ho3 ⟨g, (k + 1) * 2, none⟩ (L.length - (k + 1)) (cap - (k + 1)) (smC (L.drop (k + 1))) rfl (by rw [smC_len, List.length_drop]) (HN2.out _ HB3.out) (smC_oneC _) (by unfold maxLen; omega) (by omega) (by omega) ?_; intro v3 w5 ho5 hg5 _
             obtain ⟨a9, d9, rfl, hV9⟩ := yshape ho5
             clear hV9
             have hb5 : Below w2.heap.size w2 w5 := HB3.out.grown hg5 (by omega) (fun q e => (ho3.lt q e).1)
             have HB5 := hid hb5
             have q1 : w5.frozen? ⟨rb, 1, none⟩ = false := (HBX.out.later hb5 HBX.out.lt).free 1
             have c5 := HC.out _ hb5
             clear hg5 hb5)
          | go_in)
        go_ret
        rw [HE.out]
        refine ⟨rfl, ⟨⟨_, (HBX.out.later HB5.out HBX.out.lt).set 1 _, ?_⟩, HOK.out⟩, (But.trans (m := rb) HG2.out (But.of_below HB5.out)).put 1 _⟩
        refine yown_put ?_ (HBX.out.later HB5.out HBX.out.lt) (by decide) 1 _
        rw [HD.out]
        have q := yowns_base ho5 hxs2
        rw [show 0 + k + (L.length - (k + 1)) = k + (L.length - (k + 1)) by omega] at q
        rw [show (L.take k ++ L.drop (k + 1)).length = k + (L.length - (k + 1)) by simp; omega, show smC (L.take k ++ L.drop (k + 1)) = [] ++ smC (L.take k) ++ smC (L.drop (k + 1)) by simp [smC]]
        exact q
set_option maxHeartbeats 1600000 in
set_option maxRecDepth 100000 in
theorem d19at_any (base rb : Nat) (L : List (Int × Nat)) (t : Int) (w : World) (h : DocAt w base rb L) (ht : I64 t) :
    Calls Try.prog 52 #[.pointer (some ⟨rb, 0, none⟩), .int .i64 t] w fun e w' => e = .returned (.tuple #[.float .f64 (yatR L t).1, .bool (yatR L t).2]) ∧ Below w.heap.size w w' := by
  have HR := hid h
  have HT := hid ht
  clear h ht
  obtain ⟨v, hbx, ho⟩ := HR.out.box
  have HN := hid (d19none_any rb v w hbx)
  clear hbx ho
  go_enter Try.func52, Try.ntmps52
  go_wp2_with fail
  refine Calls.mono HN.out ?_
  rintro e w1 ⟨rfl, rfl⟩
  have HP := hid (d19place_any base rb L t w1 HR.out HT.out)
  go_wp2_with fail
  refine Calls.mono HP.out ?_
  rintro e w2 ⟨k, rfl, HPl, hb2⟩
  have HR2 := hid (HR.out.later hb2)
  have HB2 := hid hb2
  clear hb2 HP HN
  cases hh : rhas L t
  · have HE : Hid (yatR L t = (0, false)) := by
      apply yat_none
      have := rget_has (L := L) (t := t)
      rw [hh] at this
      simpa using this
    clear hh
    go_wp2_with fail
    go_returns
    rw [HE.out]
    exact ⟨rfl, HB2.out⟩
  · obtain ⟨b, hkb, hgb⟩ := HPl.out.at HR2.out.ok hh
    have hkl : k < L.length := (List.getElem?_eq_some_iff.1 hkb).1
    have hbb : b < 18446744073709551616 := (HR2.out.ok.tick _ (List.mem_of_getElem? hkb)).2.2
    obtain ⟨v, hbx, ho⟩ := HR2.out.box
    obtain ⟨a, cap, rfl, HV⟩ := yshape ho
    have hsm := smC_at hkb
    obtain ⟨g, rfl, hg, hc⟩ := HV.get hsm.1
    have c1 : w2.cell? ⟨rb, 1, none⟩ = some (.slice (some ⟨g, 0, none⟩) L.length cap) := hbx.cell 1
    have d0 : w2.cell? ⟨g, k * 2, none⟩ = some (.int .i64 t) := hc _ _ hsm.1
    have d1 : w2.cell? ⟨g, k * 2 + 1, none⟩ = some (.float .f64 b) := hc _ _ hsm.2
    have HC : Hid (∀ W, Below w2.heap.size w2 W → W.cell? ⟨rb, 1, none⟩ = some (.slice (some ⟨g, 0, none⟩) L.length cap) ∧ W.cell? ⟨g, k * 2 + 1, none⟩ = some (.float .f64 b)) := fun W hW => ⟨(hbx.later hW hbx.lt).cell 1, (hW.cell (p := ⟨g, k * 2 + 1, none⟩) hg).trans d1⟩
    have hk0 : (0 : Int) ≤ (k : Int) := by omega
    have hk1 : (k : Int) < (L.length : Int) := by omega
    have HO := hid (d19one_any t b w2 hbb)
    have HGB := hid hgb
    clear hbx ho HV hc hsm hkb hh hgb hbb
    cases hone : isone b
    · have HE := hid (yat_not HGB.out hone)
      rw [hone] at HO
      clear hone
      go_wp2_with fail
      refine Calls.mono HO.out ?_
      rintro e w3 ⟨rfl, hb3⟩
      have HB3 := hid (ybt' HB2.out hb3)
      clear hb3
      go_wp2_with fail
      go_returns
      rw [HE.out]
      exact ⟨rfl, HB3.out⟩
    · have HE := hid (yat_yes HGB.out hone)
      rw [hone] at HO
      clear hone
      go_wp2_with fail
      refine Calls.mono HO.out ?_
      rintro e w3 ⟨rfl, hb3⟩
      have HB3 := hid (ybt' HB2.out hb3)
      obtain ⟨q1, q2⟩ := HC.out w3 hb3
      clear hb3 c1 d0 d1
      go_wp2_with fail
      go_returns
      rw [HE.out]
      exact ⟨rfl, HB3.out⟩
set_option maxHeartbeats 1600000 in
set_option maxRecDepth 100000 in
theorem d19len_any (base rb : Nat) (L : List (Int × Nat)) (w : World) (h : DocAt w base rb L) :
    Calls Try.prog 49 #[.pointer (some ⟨rb, 0, none⟩)] w fun e w' => e = .returned (.int .i64 ((onesL L true).length : Int)) ∧ Below w.heap.size w w' := by
  have HS := hid (d19samples_any base rb L w h)
  clear h
  go_enter Try.func49, Try.ntmps49
  go_wp2_with fail
  refine Calls.mono HS.out ?_
  rintro e w2 ⟨v, rfl, ho, hb2⟩
  obtain ⟨a, cap, rfl, HV⟩ := yshape ho.out
  have HB := hid hb2
  clear ho hb2 HV
  go_wp2_with fail
  go_ret
  exact ⟨rfl, HB.out⟩
end Go.Proofs.Ytblfemmhhijeeaa

/- The document's record (layer 19): Between, Gaps. -/
namespace Go.Proofs.Ytblfemmhhijeeaa
open Go.RowKit
set_option linter.unusedVariables false
set_option linter.unusedSimpArgs false

theorem spanL_step {M : List (Int × Nat)} {k : Nat} {p : Int × Nat} {a b : Int} (h : M[k]? = some p) : spanL (M.take (k + 1)) a b = spanL (M.take k) a b ++ (if a ≤ p.1 ∧ p.1 < b then [p] else []) := by
  unfold spanL
  rw [List.take_add_one, h, List.filter_append]
  congr 1
  by_cases h1 : a ≤ p.1
  · by_cases h2 : p.1 < b
    · simp [h1, h2]
    · simp [h1, h2]
  · simp [h1]
theorem spR_cases (a b : Int) : (spR a b = 2 ∧ (a < 0 ∨ 1048577 < b ∨ b < a)) ∨ (spR a b = 0 ∧ 0 ≤ a ∧ b ≤ 1048577 ∧ a ≤ b) := by
  unfold spR
  split
  · exact .inl ⟨rfl, by assumption⟩
  · exact .inr ⟨rfl, by omega, by omega, by omega⟩
set_option maxHeartbeats 3200000 in
set_option maxRecDepth 100000 in
theorem d19between_bad (base rb : Nat) (L : List (Int × Nat)) (a b : Int) (w : World) (h : DocAt w base rb L) (ha : I64 a) (hb : I64 b) (hs : ¬ spR a b = 0) :
    Calls Try.prog 97 #[.pointer (some ⟨rb, 0, none⟩), .int .i64 a, .int .i64 b] w fun e w' => e = .returned (.tuple #[.slice none 0 0, .int .i64 2]) ∧ Below w.heap.size w w' := by
  obtain ⟨v, hbx, ho⟩ := h.box
  have HN := hid (d19none_any rb v w hbx)
  clear h hbx ho
  have hc : a < 0 ∨ 1048577 < b ∨ b < a := by
    rcases spR_cases a b with ⟨_, h⟩ | ⟨h, _⟩
    · exact h
    · exact absurd h hs
  clear hs
  by_cases h1 : a < 0
  · go_enter Try.func97, Try.ntmps97
    go_wp2_with fail
    refine Calls.mono HN.out ?_
    rintro e w1 ⟨rfl, rfl⟩
    go_wp2_with fail
    go_returns
    exact ⟨rfl, Below.refl _ _⟩
  · by_cases h2 : 1048577 < b
    · go_enter Try.func97, Try.ntmps97
      go_wp2_with fail
      refine Calls.mono HN.out ?_
      rintro e w1 ⟨rfl, rfl⟩
      go_wp2_with fail
      go_returns
      exact ⟨rfl, Below.refl _ _⟩
    · have h3 : b < a := by omega
      clear hc
      go_enter Try.func97, Try.ntmps97
      go_wp2_with fail
      refine Calls.mono HN.out ?_
      rintro e w1 ⟨rfl, rfl⟩
      go_wp2_with fail
      go_returns
      exact ⟨rfl, Below.refl _ _⟩
set_option maxHeartbeats 6400000 in
set_option maxRecDepth 100000 in
theorem d19between_ok (base rb : Nat) (L : List (Int × Nat)) (a b : Int) (w : World) (h : DocAt w base rb L) (ha : I64 a) (hb : I64 b) (hs : spR a b = 0) :
    Calls Try.prog 97 #[.pointer (some ⟨rb, 0, none⟩), .int .i64 a, .int .i64 b] w fun e w' => ∃ v : Value, e = .returned (.tuple #[v, .int .i64 0]) ∧ Hid (w'.ownsRow w.heap.size 46 2 v (spanL (onesL L true) a b).length (smC (spanL (onesL L true) a b))) ∧ Below w.heap.size w w' := by
  obtain ⟨i0, hi, hz0, hz1, hz2⟩ := info_parts Try.yinfoS
  obtain ⟨v, hbx, ho⟩ := h.box
  have HN := hid (d19none_any rb v w hbx)
  have HS := hid (d19samples_any base rb L w h)
  have hQl : (onesL L true).length ≤ 4096 := Nat.le_trans (List.length_filter_le _ _) h.ok.few
  clear h hbx ho
  have hc : 0 ≤ a ∧ b ≤ 1048577 ∧ a ≤ b := by
    rcases spR_cases a b with ⟨h, _⟩ | ⟨_, h⟩
    · rw [h] at hs; cases hs
    · exact h
  have h1 : ¬ a < 0 := by omega
  have h2 : ¬ 1048577 < b := by omega
  have h3 : ¬ b < a := by omega
  clear hs hc
  generalize onesL L true = Q at *
  go_enter Try.func97, Try.ntmps97
  go_wp2_with fail
  refine Calls.mono HN.out ?_
  rintro e w1 ⟨rfl, rfl⟩
  clear HN
  go_wp2_with fail
  refine Calls.mono HS.out ?_
  rintro e w2 ⟨v2, rfl, ho2, hb2⟩
  obtain ⟨a2, c2, rfl, hV2⟩ := yshape ho2.out
  have HV2 := hid hV2
  have HB2 := hid hb2
  clear ho2 hV2 hb2 HS
  go_wp2_with fail
  go_loopw [8, 10] (fun v x wr => ∃ k : Nat, k ≤ Q.length ∧ x = .int .i64 (k : Int) ∧ Hid (wr.ownsRow w2.heap.size 46 2 v (spanL (Q.take k) a b).length (smC (spanL (Q.take k) a b))) ∧ Hid (Below w2.heap.size w2 wr)) (fun _ x _ => Q.length - (intOf x).toNat)
  case atStart => exact ⟨0, Nat.zero_le _, rfl, World.ownsRow_nil _ _ _ _, Below.refl _ _⟩
  case round =>
    obtain ⟨k, hk, rfl, HO, HW⟩ := hrel
    by_cases hlt : k < Q.length
    · obtain ⟨p, hp⟩ : ∃ p, Q[k]? = some p := ⟨_, List.getElem?_eq_getElem hlt⟩
      obtain ⟨t, c⟩ := p
      have hsm := smC_at hp
      obtain ⟨g, rfl, hg, hcs⟩ := HV2.out.get hsm.1
      have c0 : wr.cell? ⟨g, k * 2, none⟩ = some (.int .i64 t) := (HW.out.cell (p := ⟨g, k * 2, none⟩) hg).trans (hcs _ _ hsm.1)
      have c1 : wr.cell? ⟨g, k * 2 + 1, none⟩ = some (.float .f64 c) := (HW.out.cell (p := ⟨g, k * 2 + 1, none⟩) hg).trans (hcs _ _ hsm.2)
      have hst := spanL_step (a := a) (b := b) hp
      have hk0 : (0 : Int) ≤ (k : Int) := by omega
      have hk1 : (k : Int) < (Q.length : Int) := by omega
      have hsz : w2.heap.size ≤ wr.heap.size := HW.out.size
      have hle : (spanL (Q.take k) a b).length ≤ k := Nat.le_trans (List.length_filter_le _ _) (by rw [List.length_take]; omega)
      clear hp hsm hcs
      by_cases q : a ≤ t ∧ t < b
      · rw [if_pos q] at hst
        have HT := hid hst
        obtain ⟨q1, q2⟩ := q
        have ho := HO.out
        clear hst HO
        generalize spanL (Q.take k) a b = R at *
        go_wp2_with (first
          | (at_builtin; refine wpList_append_own _ rfl _ _ 39 rfl w2.heap.size 46 i0 (.agg #[.int .i64 0, .float .f64 0]) 2 16 Try.underlying39 hi hz0 hz1 hz2 rfl (by decide) _ _ _ rfl (ho.alloc _) ⟨wr.heap.size, 0, none⟩ 1 1 [.int .i64 t, .float .f64 c] rfl rfl (ycell2 _ _ _ _) (smC_one (t, c)) (by unfold maxLen; omega) (by omega) (by simp; omega) ?_; intro v' w4 ho4 hg4 _)
          | go_in)
        have HB4 := hid ((HW.out.alloc (by omega) _).grown hg4 (by simp; omega) (fun g hg => (ho.lt g hg).1))
        have HO4 := hid ho4
        clear hg4 ho4 ho
        go_wp2_with fail
        refine ⟨⟨k + 1, by omega, by go_num, ?_, HB4.out⟩, by simp [intOf]; omega⟩
        rw [HT.out, List.length_append, smC_append]
        exact HO4.out
      · rw [if_neg q, List.append_nil] at hst
        have HT := hid hst
        clear hst
        by_cases q1 : a ≤ t
        · have q2 : ¬ t < b := fun e => q ⟨q1, e⟩
          clear q
          go_wp2_with fail
          refine ⟨⟨k + 1, by omega, by go_num, ?_, HW.out⟩, by simp [intOf]; omega⟩
          rw [HT.out]
          exact HO.out
        · clear q
          go_wp2_with fail
          refine ⟨⟨k + 1, by omega, by go_num, ?_, HW.out⟩, by simp [intOf]; omega⟩
          rw [HT.out]
          exact HO.out
    · obtain rfl : k = Q.length := by omega
      have hkk : ¬ (Q.length : Int) < (Q.length : Int) := by omega
      rw [List.take_length] at HO
      go_wp2_with fail
      go_returns
      exact ⟨_, rfl, yowns_base HO.out HB2.out.size, ybt' HB2.out HW.out⟩
theorem d19gaps_bad (base rb : Nat) (L : List (Int × Nat)) (a b : Int) (w : World) (h : DocAt w base rb L) (ha : I64 a) (hb : I64 b) (hs : ¬ spR a b = 0) :
    Calls Try.prog 94 #[.pointer (some ⟨rb, 0, none⟩), .int .i64 a, .int .i64 b] w fun e w' => e = .returned (.tuple #[.slice none 0 0, .int .i64 2]) ∧ Below w.heap.size w w' := by
  have HB := hid (d19between_bad base rb L a b w h ha hb hs)
  clear h ha hb hs
  go_enter Try.func94, Try.ntmps94
  go_wp2_with fail
  refine Calls.mono HB.out ?_
  rintro e w2 ⟨rfl, hb2⟩
  have HB2 := hid hb2
  clear hb2 HB
  go_wp2_with fail
  go_returns
  exact ⟨rfl, HB2.out⟩
/-- What stands while gaps are looked for. -/
def gapS (Q : List (Int × Nat)) (a b : Int) (i : Nat) : List (Int × Int) × Int := if i ≤ Q.length then gapF (Q.take i) ([], a) else (gapsR Q a b, b + 1)
theorem gapS_step {Q : List (Int × Nat)} {a b : Int} {i : Nat} {p : Int × Nat} (h : Q[i]? = some p) : gapS Q a b (i + 1) = (gapR (gapS Q a b i).1 (gapS Q a b i).2 p.1, p.1 + 1) := by
  have hl := (List.getElem?_eq_some_iff.1 h).1
  unfold gapS
  rw [if_pos (by omega), if_pos (by omega), List.take_add_one, h]
  exact gapF_snoc _ _ _
theorem gapS_end (Q : List (Int × Nat)) (a b : Int) : gapS Q a b (Q.length + 1) = (gapR (gapS Q a b Q.length).1 (gapS Q a b Q.length).2 b, b + 1) := by
  unfold gapS
  rw [if_neg (by omega), if_pos (Nat.le_refl _), List.take_length]
  rfl
set_option maxHeartbeats 6400000 in
set_option maxRecDepth 100000 in
theorem d19gaps_ok (base rb : Nat) (L : List (Int × Nat)) (a b : Int) (w : World) (h : DocAt w base rb L) (ha : I64 a) (hb : I64 b) (hs : spR a b = 0) :
    Calls Try.prog 94 #[.pointer (some ⟨rb, 0, none⟩), .int .i64 a, .int .i64 b] w fun e w' => ∃ v : Value, e = .returned (.tuple #[v, .int .i64 0]) ∧ Hid (w'.ownsRow w.heap.size 123 2 v (gapsR (spanL (onesL L true) a b) a b).length (gpC (gapsR (spanL (onesL L true) a b) a b))) ∧ Below w.heap.size w w' := by
  obtain ⟨i0, hi, hz0, hz1, hz2⟩ := info_parts Try.yinfoG
  have HBt := hid (d19between_ok base rb L a b w h ha hb hs)
  have hc : 0 ≤ a ∧ b ≤ 1048577 ∧ a ≤ b := by
    rcases spR_cases a b with ⟨h, _⟩ | ⟨_, h⟩
    · rw [h] at hs; cases hs
    · exact h
  have HQ : Hid (∀ p ∈ spanL (onesL L true) a b, 0 ≤ p.1 ∧ p.1 ≤ 1048576) := fun p hp => by
    have h1 := (List.mem_filter.1 (List.mem_filter.1 hp).1).1
    have h2 := h.ok.tick p h1
    exact ⟨h2.1, h2.2.1⟩
  have hQl : (spanL (onesL L true) a b).length ≤ 4096 := Nat.le_trans (List.length_filter_le _ _) (Nat.le_trans (List.length_filter_le _ _) h.ok.few)
  clear h ha hb hs
  generalize spanL (onesL L true) a b = Q at *
  have HIn : Hid (∀ k, k ≤ Q.length → (gapS Q a b k).1.length ≤ k ∧ 0 ≤ (gapS Q a b k).2 ∧ (gapS Q a b k).2 ≤ 1048577) := fun k hk => by
    unfold gapS
    rw [if_pos hk]
    exact gapF_in ⟨hc.1, by omega⟩ HQ.out k hk
  go_enter Try.func94, Try.ntmps94
  go_wp2_with fail
  refine Calls.mono HBt.out ?_
  rintro e w2 ⟨v2, rfl, ho2, hb2⟩
  obtain ⟨a2, c2, rfl, hV2⟩ := yshape ho2.out
  have HV2 := hid hV2
  have HB2 := hid hb2
  clear ho2 hV2 hb2 HBt
  go_wp2_with fail
  go_loopw [10, 11, 12] (fun v y x wr => ∃ k : Nat, k ≤ Q.length + 1 ∧ x = .int .i64 (k : Int) ∧ y = .int .i64 (gapS Q a b k).2 ∧ Hid (wr.ownsRow w2.heap.size 123 2 v (gapS Q a b k).1.length (gpC (gapS Q a b k).1)) ∧ Hid (Below w2.heap.size w2 wr)) (fun _ _ x _ => Q.length + 1 - (intOf x).toNat)
  case atStart => exact ⟨0, Nat.zero_le _, rfl, rfl, World.ownsRow_nil _ _ _ _, Below.refl _ _⟩
  case round =>
    obtain ⟨k, hk, rfl, rfl, HO, HW⟩ := hrel
    by_cases hlt : k ≤ Q.length
    · obtain ⟨G, hG⟩ : ∃ G, (gapS Q a b k).1 = G := ⟨_, rfl⟩
      obtain ⟨from_, hfr⟩ : ∃ f, (gapS Q a b k).2 = f := ⟨_, rfl⟩
      have hin := HIn.out k hlt
      rw [hG, hfr] at hin
      obtain ⟨hin1, hin2, hin3⟩ := hin
      have HGF := hid (And.intro hG hfr)
      rw [hG] at HO
      rw [hfr]
      have hkl : (k : Int) ≤ (Q.length : Int) := by omega
      have hk0 : (0 : Int) ≤ (k : Int) := by omega
      have hsz : w2.heap.size ≤ wr.heap.size := HW.out.size
      clear hG hfr
      have key : ∃ to_ : Int, 0 ≤ to_ ∧ to_ ≤ 1048577 ∧ gapS Q a b (k + 1) = (gapR G from_ to_, to_ + 1) ∧ ((k = Q.length ∧ to_ = b) ∨ (k < Q.length ∧ ∃ c, Q[k]? = some (to_, c))) := by
        by_cases hkq : k < Q.length
        · have hp : Q[k]? = some Q[k] := List.getElem?_eq_getElem hkq
          have hq := HQ.out _ (List.mem_of_getElem? hp)
          refine ⟨(Q[k]).1, hq.1, by omega, ?_, .inr ⟨hkq, (Q[k]).2, hp⟩⟩
          rw [gapS_step hp, HGF.out.1, HGF.out.2]
        · have hke : k = Q.length := by omega
          refine ⟨b, by omega, hc.2.1, ?_, .inl ⟨hke, rfl⟩⟩
          have := gapS_end Q a b
          rw [← hke, HGF.out.1, HGF.out.2] at this
          exact this
      obtain ⟨to_, ht0, ht1, hst, hcase⟩ := key
      have HST := hid hst
      clear hst
      have hw1 : IntKind.i64.wrap (to_ - from_) = to_ - from_ := by rw [IntKind.wrap_i64]; omega
      by_cases hap : to_ ≤ from_
      · have HE : Hid (gapR G from_ to_ = G) := if_pos hap
        have hap2 : ¬ from_ < to_ := by omega
        rcases hcase with ⟨hke, rfl⟩ | ⟨hkq, c, hp⟩
        · have hkk : ¬ (k : Int) < (Q.length : Int) := by omega
          go_wp2_with fail
          refine ⟨⟨k + 1, by omega, by go_num, by rw [HST.out], ?_, HW.out⟩, by simp [intOf]; omega⟩
          rw [HST.out, HE.out]
          exact HO.out
        · have hkk : (k : Int) < (Q.length : Int) := by omega
          have hsm := smC_at hp
          obtain ⟨g, rfl, hg, hcs⟩ := HV2.out.get hsm.1
          have c0 : wr.cell? ⟨g, k * 2, none⟩ = some (.int .i64 to_) := (HW.out.cell (p := ⟨g, k * 2, none⟩) hg).trans (hcs _ _ hsm.1)
          clear hp hsm hcs
          go_wp2_with fail
          refine ⟨⟨k + 1, by omega, by go_num, by rw [HST.out], ?_, HW.out⟩, by simp [intOf]; omega⟩
          rw [HST.out, HE.out]
          exact HO.out
      · have HE : Hid (gapR G from_ to_ = G ++ [(from_, to_ - from_)]) := if_neg hap
        have hap2 : from_ < to_ := by omega
        have ho := HO.out
        clear HO
        rcases hcase with ⟨hke, rfl⟩ | ⟨hkq, c, hp⟩
        · have hkk : ¬ (k : Int) < (Q.length : Int) := by omega
          go_wp2_with (first
            | (at_builtin; refine wpList_append_own _ rfl _ _ 119 rfl w2.heap.size 123 i0 (.agg #[.int .i64 0, .int .i64 0]) 2 16 Try.underlying119 hi hz0 hz1 hz2 rfl (by decide) _ _ _ rfl (ho.alloc _) ⟨wr.heap.size, 0, none⟩ 1 1 [.int .i64 from_, .int .i64 (to_ - from_)] rfl rfl (ycell2 _ _ _ _) (by intro u hu; simp only [List.mem_cons, List.not_mem_nil, or_false] at hu; rcases hu with rfl | rfl <;> rfl) (by unfold maxLen; omega) (by omega) (by simp; omega) ?_; intro v' w4 ho4 hg4 _)
            | go_in)
          have HB4 := hid ((HW.out.alloc (by omega) _).grown hg4 (by simp; omega) (fun g hg => (ho.lt g hg).1))
          have HO4 := hid ho4
          clear hg4 ho4 ho
          go_wp2_with fail
          refine ⟨⟨k + 1, by omega, by go_num, by rw [HST.out], ?_, HB4.out⟩, by simp [intOf]; omega⟩
          rw [HST.out, HE.out, List.length_append, gpC_append]
          exact HO4.out
        · have hkk : (k : Int) < (Q.length : Int) := by omega
          have hsm := smC_at hp
          obtain ⟨g, rfl, hg, hcs⟩ := HV2.out.get hsm.1
          have c0 : wr.cell? ⟨g, k * 2, none⟩ = some (.int .i64 to_) := (HW.out.cell (p := ⟨g, k * 2, none⟩) hg).trans (hcs _ _ hsm.1)
          clear hp hsm hcs
          go_wp2_with (first
            | (at_builtin; refine wpList_append_own _ rfl _ _ 119 rfl w2.heap.size 123 i0 (.agg #[.int .i64 0, .int .i64 0]) 2 16 Try.underlying119 hi hz0 hz1 hz2 rfl (by decide) _ _ _ rfl (ho.alloc _) ⟨wr.heap.size, 0, none⟩ 1 1 [.int .i64 from_, .int .i64 (to_ - from_)] rfl rfl (ycell2 _ _ _ _) (by intro u hu; simp only [List.mem_cons, List.not_mem_nil, or_false] at hu; rcases hu with rfl | rfl <;> rfl) (by unfold maxLen; omega) (by omega) (by simp; omega) ?_; intro v' w4 ho4 hg4 _)
            | go_in)
          have HB4 := hid ((HW.out.alloc (by omega) _).grown hg4 (by simp; omega) (fun g hg => (ho.lt g hg).1))
          have HO4 := hid ho4
          clear hg4 ho4 ho
          go_wp2_with fail
          refine ⟨⟨k + 1, by omega, by go_num, by rw [HST.out], ?_, HB4.out⟩, by simp [intOf]; omega⟩
          rw [HST.out, HE.out, List.length_append, gpC_append]
          exact HO4.out
    · obtain rfl : k = Q.length + 1 := by omega
      have hkk : ¬ (((Q.length + 1 : Nat) : Int) ≤ (Q.length : Int)) := by omega
      have HE : Hid ((gapS Q a b (Q.length + 1)).1 = gapsR Q a b) := by
        show _ = _
        unfold gapS
        rw [if_neg (by omega)]
      go_wp2_with fail
      go_returns
      refine ⟨_, rfl, ?_, ybt' HB2.out HW.out⟩
      rw [← HE.out]
      exact yowns_base HO.out HB2.out.size
end Go.Proofs.Ytblfemmhhijeeaa

/- Layer 19's closed statement: its parts. -/
namespace Go.Proofs.Ytblfemmhhijeeaa
open Go.RowKit
set_option linter.unusedVariables false
set_option linter.unusedSimpArgs false

end Go.Proofs.Ytblfemmhhijeeaa

/- The law's gone: the samples gone over, up to so many. -/
namespace Go.Proofs.Ytblfemmhhijeeaa
open Go.RowKit Go.Shelf
set_option linter.unusedVariables false
set_option linter.unusedSimpArgs false
attribute [local go_sem] Oper.semAt_some

/-- What stands while samples are gone over. -/
structure GoS (w w4 : World) (nb rs : Nat) (k : Int) (res : Bool) (W : World) : Prop where
  n : FBox W nb 3 #[.int .i64 k]
  r : FBox W rs 4 #[.bool res]
  rest : ∀ g, g < w4.heap.size → g ≠ nb → g ≠ rs → W.heap[g]? = w4.heap[g]?
  size : w4.heap.size ≤ W.heap.size
  bel : Below w.heap.size w W
theorem GoS.grow {w w4 A B : World} {nb rs : Nat} {k : Int} {res : Bool} {row : Option Nat} (h : GoS w w4 nb rs k res A) (hn : nb < w4.heap.size) (hr : rs < w4.heap.size) (hw : w.heap.size ≤ w4.heap.size) (hg : A.grownBy B row) (hrow : ∀ r, row = some r → w4.heap.size ≤ r ∧ ∃ o : Obj, A.heap[r]? = some o ∧ o.isCells = false) : GoS w w4 nb rs k res B :=
  ⟨(hg.block nb h.n.lt (fun e => by have := (hrow nb e.symm).1; omega)).trans h.n, (hg.block rs h.r.lt (fun e => by have := (hrow rs e.symm).1; omega)).trans h.r,
   fun g h1 h2 h3 => (hg.block g (Nat.lt_of_lt_of_le h1 h.size) (fun e => by have := (hrow g e.symm).1; omega)).trans (h.rest g h1 h2 h3), Nat.le_trans h.size hg.size, h.bel.grown hg h.bel.size (fun r e => Nat.le_trans hw (hrow r e).1)⟩
theorem GoS.setN {w w4 W : World} {nb rs : Nat} {k : Int} {res : Bool} (h : GoS w w4 nb rs k res W) (hne : nb ≠ rs) (hw : w.heap.size ≤ nb) (k' : Int) : GoS w w4 nb rs k' res (W.setCell ⟨nb, 0, none⟩ (.int .i64 k')) :=
  ⟨h.n.set 0 _, h.r.other ⟨nb, 0, none⟩ _ (fun e => hne e.symm), fun g h1 h2 h3 => (Below.heap_setCell _ _ _ _ h2).trans (h.rest g h1 h2 h3), by simpa [World.setCell] using h.size, h.bel.setCell (p := ⟨nb, 0, none⟩) hw _⟩
theorem GoS.setR {w w4 W : World} {nb rs : Nat} {k : Int} {res : Bool} (h : GoS w w4 nb rs k res W) (hne : nb ≠ rs) (hw : w.heap.size ≤ rs) (b : Bool) : GoS w w4 nb rs k b (W.setCell ⟨rs, 0, none⟩ (.bool b)) :=
  ⟨h.n.other ⟨rs, 0, none⟩ _ hne, h.r.set 0 _, fun g h1 h2 h3 => (Below.heap_setCell _ _ _ _ h3).trans (h.rest g h1 h2 h3), by simpa [World.setCell] using h.size, h.bel.setCell (p := ⟨rs, 0, none⟩) hw _⟩
theorem GoS.box {w w4 W : World} {nb rs : Nat} {k : Int} {res : Bool} {b t : Nat} {vs : Array Value} (h : GoS w w4 nb rs k res W) (hb : FBox w4 b t vs) (h1 : b ≠ nb) (h2 : b ≠ rs) : FBox W b t vs := (h.rest b hb.lt h1 h2).trans hb
theorem ytake_snoc {n k : Nat} {pre : List (_root_.Fin n)} (h : pre = (List.finRange n).take pre.length) (hk : pre.length = k) (hx : k < n) : pre ++ [⟨k, hx⟩] = (List.finRange n).take (pre ++ [(⟨k, hx⟩ : _root_.Fin n)]).length := by
  subst hk
  rw [List.length_append, List.length_singleton, List.take_succ_eq_append_getElem (by simpa using hx)]
  rw [← h]
  simp
theorem ytake_not {n : Nat} {pre : List (_root_.Fin n)} {x : _root_.Fin n} (hx : x.val ≠ pre.length) (h : pre ++ [x] = (List.finRange n).take (pre ++ [x]).length) : False := by
  have e : (pre ++ [x])[pre.length]? = ((List.finRange n).take (pre ++ [x]).length)[pre.length]? := congrArg (fun l => l[pre.length]?) h
  rw [List.length_append, List.length_singleton, List.getElem?_append_right (Nat.le_refl _), List.getElem?_take, if_pos (by omega)] at e
  simp only [Nat.sub_self, List.getElem?_cons_zero] at e
  obtain ⟨_, e2⟩ := List.getElem?_eq_some_iff.1 e.symm
  rw [List.getElem_finRange] at e2
  rw [← e2] at hx
  exact hx rfl
set_option maxHeartbeats 12800000 in
set_option maxRecDepth 100000 in
theorem ygone_any (rb mb base rd : Nat) (L : List (Int × Nat)) (stop : Int) (w : World) (hr : RecAt w rb mb L) (hd : DocAt w base rd L) (hst : I64 stop) :
    Calls Try.prog 12 #[.agg #[.pointer (some ⟨rb, 0, none⟩), .pointer (some ⟨rd, 0, none⟩)], .int .i64 stop] w fun e w' => e = .returned (.bool true) ∧ Below w.heap.size w w' := by
  have HR := hid hr
  have HDo := hid hd
  have HSa := hid (fun V (q : DocAt V base rd L) => d19samples_any base rd L V q)
  have HAl := hid (fun V (q : RecAt V rb mb L) => yall_any rb mb L V q)
  have hM := (hr.ok.ones true).few
  have HRi := hid (hr.ok.ones true).rise
  clear hr hd
  generalize onesL L true = M at *
  refine (callsIn_wide (n := 3)).1 ?_
  refine callsIn_of_wp_marks Try.func12 rfl trivial ?_ rfl
  simp only [Try.ntmps12, List.size_toArray, List.length_cons, List.length_nil, Nat.reduceAdd, Nat.reduceSub, Array.replicate_succ, Array.replicate_zero, List.push_toArray, List.append_toArray, List.nil_append, List.cons_append]
  obtain ⟨V0, hV0⟩ : ∃ V0, ((w.alloc (.cells #[.pointer (some ⟨rb, 0, none⟩), .pointer (some ⟨rd, 0, none⟩)] 28)).alloc (.cells #[.int .i64 stop] 3)).alloc (.cells #[.bool false] 4) = V0 := ⟨_, rfl⟩
  have HA0 : Hid (FBox V0 w.heap.size 28 #[.pointer (some ⟨rb, 0, none⟩), .pointer (some ⟨rd, 0, none⟩)] ∧ FBox V0 (w.heap.size + 1) 3 #[.int .i64 stop] ∧ FBox V0 (w.heap.size + 1 + 1) 4 #[.bool false] ∧ Below w.heap.size w V0) := by
    rw [← hV0]
    have q1 := FBox.made w 28 #[.pointer (some ⟨rb, 0, none⟩), .pointer (some ⟨rd, 0, none⟩)]
    have q2 := FBox.made (w.alloc (.cells #[.pointer (some ⟨rb, 0, none⟩), .pointer (some ⟨rd, 0, none⟩)] 28)) 3 #[.int .i64 stop]
    have q3 := FBox.made ((w.alloc (.cells #[.pointer (some ⟨rb, 0, none⟩), .pointer (some ⟨rd, 0, none⟩)] 28)).alloc (.cells #[.int .i64 stop] 3)) 4 #[.bool false]
    rw [show (w.alloc (.cells #[.pointer (some ⟨rb, 0, none⟩), .pointer (some ⟨rd, 0, none⟩)] 28)).heap.size = w.heap.size + 1 by simp] at q2
    rw [show ((w.alloc (.cells #[.pointer (some ⟨rb, 0, none⟩), .pointer (some ⟨rd, 0, none⟩)] 28)).alloc (.cells #[.int .i64 stop] 3)).heap.size = w.heap.size + 1 + 1 by simp] at q3
    have b1 : Below w.heap.size w (w.alloc (.cells #[.pointer (some ⟨rb, 0, none⟩), .pointer (some ⟨rd, 0, none⟩)] 28)) := (Below.refl _ _).alloc (Nat.le_refl _) _
    have p1 := q1.later ((Below.refl _ _).alloc (Nat.le_refl _) (.cells #[.int .i64 stop] 3)) q1.lt
    have p2 := p1.later ((Below.refl _ _).alloc (Nat.le_refl _) (.cells #[.bool false] 4)) p1.lt
    exact ⟨p2, q2.later ((Below.refl _ _).alloc (Nat.le_refl _) _) q2.lt, q3, (b1.alloc (by simp) _).alloc (by simp; omega) _⟩
  have c0 : V0.cell? ⟨w.heap.size, 0, none⟩ = some (.pointer (some ⟨rb, 0, none⟩)) := HA0.out.1.cell 0
  have c1 : V0.cell? ⟨w.heap.size, 1, none⟩ = some (.pointer (some ⟨rd, 0, none⟩)) := HA0.out.1.cell 1
  gi_wp2
  clear hV0
  refine ⟨trivial, ?_⟩
  refine (callsIn_wide.2 (HSa.out _ (HDo.out.later HA0.out.2.2.2))).mono ?_
  rintro e w1 ⟨v1, rfl, HO1, hb1⟩
  obtain ⟨a1, cap1, rfl, hV1⟩ := yshape HO1.out
  have HV1 := hid hV1
  have HG1 : Hid (∀ g, a1 = some ⟨g, 0, none⟩ → V0.heap.size ≤ g ∧ g < w1.heap.size) := fun g e => HO1.out.lt g (by rw [e]; rfl)
  have HB1 := hid hb1
  obtain ⟨V1, hV1e⟩ : ∃ V1, w1.alloc (.cells #[.slice a1 M.length cap1] 39) = V1 := ⟨_, rfl⟩
  have HA1 : Hid (FBox V1 w1.heap.size 39 #[.slice a1 M.length cap1] ∧ Below w1.heap.size w1 V1) := by
    rw [← hV1e]
    exact ⟨FBox.made _ _ _, (Below.refl _ _).alloc (Nat.le_refl _) _⟩
  have c2 : V1.cell? ⟨w.heap.size, 0, none⟩ = some (.pointer (some ⟨rb, 0, none⟩)) := (HA0.out.1.later (ybt hb1 HA1.out.2) HA0.out.1.lt).cell 0
  clear c0 c1 HO1 hV1 hb1
  gi_wp2
  clear hV1e
  refine ⟨trivial, ?_⟩
  refine (callsIn_wide.2 (HAl.out _ (HR.out.later (ybt HA0.out.2.2.2 (ybt HB1.out HA1.out.2))))).mono ?_
  rintro e w3 ⟨p, v, rfl, HP, HV, HPl, hb3⟩
  obtain ⟨ad, cap, rfl, HRd⟩ := yshape HV.out
  have hgs : ∀ g, ad = some ⟨g, 0, none⟩ → V1.heap.size ≤ g ∧ g < w3.heap.size := fun g e => HV.out.lt g (by rw [e]; rfl)
  have HGs := hid hgs
  have HRdH := hid HRd
  have HB3 := hid hb3
  have hnil : (binOp BinOp.eql 90 (.func (.func 98) #[] #[.pointer (some ⟨p, 0, none⟩)]) .nilFunc).run Try.prog w3 = .ok (.bool false) w3 := by first | rfl | kernel_rfl | simp [binOp, go_sem]
  obtain ⟨w35, hw35⟩ : ∃ w35, w3.alloc (.cells #[.int .i64 0] 3) = w35 := ⟨_, rfl⟩
  have HA35 : Hid (FBox w35 w3.heap.size 3 #[.int .i64 0] ∧ Below w3.heap.size w3 w35) := by
    rw [← hw35]
    exact ⟨FBox.made _ _ _, (Below.refl _ _).alloc (Nat.le_refl _) _⟩
  have k35 : w35.cell? ⟨w3.heap.size, 0, none⟩ = some (.int .i64 0) := HA35.out.1.cell 0
  have f35 : w35.frozen? ⟨w3.heap.size, 0, none⟩ = false := HA35.out.1.free 0
  obtain ⟨w4, hw4⟩ : ∃ w4, w35.setCell ⟨w3.heap.size, 0, none⟩ (.int .i64 0) = w4 := ⟨_, rfl⟩
  have HA4 : Hid (FBox w4 w3.heap.size 3 #[.int .i64 0] ∧ Below w3.heap.size w3 w4) := by
    rw [← hw4]
    exact ⟨HA35.out.1.set 0 _, HA35.out.2.setCell (p := ⟨w3.heap.size, 0, none⟩) (Nat.le_refl _) _⟩
  clear HV HRd hgs c2 hb3 HSa HAl
  gi_wp2
  clear hnil hw4 hw35 k35 f35 HA35
  have hn4 : w3.heap.size < w4.heap.size := HA4.out.1.lt
  have hs1 : w.heap.size + 1 + 1 < V0.heap.size := HA0.out.2.2.1.lt
  have hs2 : V0.heap.size ≤ w1.heap.size := HB1.out.size
  have hs3 : w1.heap.size < V1.heap.size := HA1.out.1.lt
  have hs4 : V1.heap.size ≤ w3.heap.size := HB3.out.size
  have HBall : Hid (Below w.heap.size w w4) := ybt HA0.out.2.2.2 (ybt HB1.out (ybt HA1.out.2 (ybt HB3.out HA4.out.2)))
  have HWant : Hid (FBox w4 w1.heap.size 39 #[.slice a1 M.length cap1] ∧ RdV w4 a1 (smC M)) := by
    have q := ybt HB3.out HA4.out.2
    exact ⟨HA1.out.1.later q HA1.out.1.lt, HV1.out.later (ybt HA1.out.2 q)⟩
  have HStop : Hid (FBox w4 (w.heap.size + 1) 3 #[.int .i64 stop]) := HA0.out.2.1.later (ybt HB1.out (ybt HA1.out.2 (ybt HB3.out HA4.out.2))) HA0.out.2.1.lt
  have HRes : Hid (FBox w4 (w.heap.size + 1 + 1) 4 #[.bool false]) := HA0.out.2.2.1.later (ybt HB1.out (ybt HA1.out.2 (ybt HB3.out HA4.out.2))) HA0.out.2.2.1.lt
  have HAd : Hid (FBox w4 p 39 #[.slice ad M.length cap] ∧ RdV w4 ad (smC M)) := ⟨HP.out.later HA4.out.2 HP.out.lt, HRdH.out.later HA4.out.2⟩
  have hpp : p < w3.heap.size := HP.out.lt
  have hne : w3.heap.size ≠ w.heap.size + 1 + 1 := by omega
  clear HRdH HP HPl
  refine yrange (s1 := 19) (s2 := 20) (s3 := 8) (s4 := 9) (Kp := fun A B => ∀ g, g < w4.heap.size → g ≠ w3.heap.size → g ≠ w.heap.size + 1 + 1 → B.heap[g]? = A.heap[g]?) rfl (enters_of Try.func98 (by kernel_rfl) rfl) (yall1_stops Fence.wide 2 trivial rfl (by decide) p ad cap M w4 _ (fun A B hq g e => hq g (by have := HGs.out g e; omega) (by have := HGs.out g e; omega) (by have := HGs.out g e; omega)) HAd.out.1.lt (HAd.out.1.cell 0) HAd.out.2 hM)
    (fun hq k g h1 h2 h3 => (k g h1 h2 h3).trans (hq g h1 h2 h3)) (fun W l o o' hl ho hc _ g h1 h2 h3 => World.putObj_heap_other (show g ≠ l by omega))
    (fun pre W => pre = (List.finRange M.length).take pre.length ∧ GoS w w4 w3.heap.size (w.heap.size + 1 + 1) (pre.length : Int) false W)
    (fun c pre W => c = .ret ∧ (pre = (List.finRange M.length).take pre.length → GoS w w4 w3.heap.size (w.heap.size + 1 + 1) (pre.length : Int) true W))
    (fun s A B row hs hg hr => ⟨hs.1, hs.2.grow hn4 (by omega) (by have := HBall.out.size; omega) hg hr⟩)
    (fun c s A B row hs hg hr => ⟨hs.1, fun e => (hs.2 e).grow hn4 (by omega) (by have := HBall.out.size; omega) hg hr⟩) ⟨rfl, ⟨HA4.out.1, HRes.out, fun _ _ _ _ => rfl, Nat.le_refl _, HBall.out⟩⟩ ?assign ?body ?done ?stop
  case assign =>
    intro l x W K hK
    gi_wp2
    simpa using hK
  case body =>
    rintro l pre x W ⟨hpre, hS⟩ hlen
    have HS := hid hS
    have HPre := hid hpre
    obtain ⟨k, hk⟩ : ∃ k, pre.length = k := ⟨_, rfl⟩
    have HK := hid hk
    rw [hk] at HS hlen
    have n0 : W.cell? ⟨w3.heap.size, 0, none⟩ = some (.int .i64 (k : Int)) := HS.out.n.cell 0
    have n1 : W.frozen? ⟨w3.heap.size, 0, none⟩ = false := HS.out.n.free 0
    have w0 : W.cell? ⟨w1.heap.size, 0, none⟩ = some (.slice a1 M.length cap1) := (HS.out.box HWant.out.1 (by omega) (by omega)).cell 0
    have s0 : W.cell? ⟨w.heap.size + 1, 0, none⟩ = some (.int .i64 stop) := (HS.out.box HStop.out (by omega) (by omega)).cell 0
    have r0 : W.cell? ⟨w.heap.size + 1 + 1, 0, none⟩ = some (.bool false) := HS.out.r.cell 0
    have r1 : W.frozen? ⟨w.heap.size + 1 + 1, 0, none⟩ = false := HS.out.r.free 0
    have hsm := smC_at (List.getElem?_eq_getElem hlen)
    obtain ⟨g, rfl, hg, hc⟩ := HWant.out.2.get hsm.1
    have hgg := HG1.out g rfl
    have d0 : W.cell? ⟨g, k * 2, none⟩ = some (.int .i64 (M[k]).1) := (World.cell?_of_block (a := ⟨g, k * 2, none⟩) (HS.out.rest g hg (by omega) (by omega))).trans (hc _ _ hsm.1)
    have d1 : W.cell? ⟨g, k * 2 + 1, none⟩ = some (.float .f64 (M[k]).2) := (World.cell?_of_block (a := ⟨g, k * 2 + 1, none⟩) (HS.out.rest g hg (by omega) (by omega))).trans (hc _ _ hsm.2)
    have hxl := x.isLt
    obtain ⟨xv, hxv⟩ := x
    dsimp only at hxl ⊢
    by_cases hx : xv = k
    · subst hx
      have HSB := hid (sameBits_eq (M[xv]).2)
      clear hsm hc hg hS
      have hk0 : I64 (xv : Int) := by constructor <;> omega
      have hnl := ytake_snoc hpre hk hxv
      gi_wp2
      refine ⟨trivial, ?_⟩
      refine (CallsIn.inRound l (callsIn_wide.2 (HSB.out _))).mono ?_
      rintro e w5 ⟨rfl, rfl⟩
      gi_wp2
      · refine ⟨(KeepsOthers.setCell _ _ _).trans (KeepsOthers.setCell _ _ _), rfl, fun _ => ?_⟩
        have q := (HS.out.setN hne (by omega) ((xv : Int) + 1)).setR hne (by omega) true
        rw [List.length_append, hk]
        exact q
      · refine ⟨KeepsOthers.setCell _ _ _, fun g h1 h2 h3 => Below.heap_setCell _ _ _ _ h2, hnl, ?_⟩
        have q := HS.out.setN hne (by omega) ((xv : Int) + 1)
        rw [List.length_append, hk]
        exact q
    · have hti : (M[xv]).1 ≠ (M[k]).1 := by
        rcases Nat.lt_or_gt_of_ne hx with h | h
        · have := List.pairwise_iff_getElem.1 HRi.out xv k hxv hlen h; omega
        · have := List.pairwise_iff_getElem.1 HRi.out k xv hlen hxv h; omega
      clear hsm hc hg hS
      gi_wp2
      refine ⟨trivial, ?_⟩
      gi_wp2
      exact ⟨KeepsOthers.setCell _ _ _, rfl, fun e => (ytake_not (x := ⟨xv, hxv⟩) (show xv ≠ pre.length by omega) e).elim⟩
  case stop =>
    rintro D c pre W hD ⟨k, hk, hp⟩ ⟨rfl, hG⟩ hKD
    have hl : pre.length = k := by rw [hp, List.length_take, List.length_finRange]; omega
    have HS := hid (hG (by rw [hl]; exact hp))
    have HD := hid hKD
    clear hG hKD
    gi_wp2
    have hr := (World.putObj_heap_other (w := W) (o := .deferred none) (show w.heap.size + 1 + 1 ≠ D by omega)).trans HS.out.r
    have hrc : (W.putObj D (.deferred none)).cell? ⟨w.heap.size + 1 + 1, 0, none⟩ = some (.bool true) := FBox.cell hr 0
    refine ⟨by simp, .inl ⟨_, _, rfl, run_takeDeferred HD.out, ?_⟩⟩
    refine ⟨.bool true, ?_, rfl, ?_⟩
    · simp [results, Try.results12, go_sem, hrc]
    · exact HS.out.bel.trans (belowK_b (w := w) (Nat.le_refl _) _ D _ (.deferred none) (by have := HBall.out.size; omega) HD.out rfl rfl)
  case done =>
    rintro D xs W hD rfl ⟨_, hS⟩ hKD
    have HS := hid hS
    have HD := hid hKD
    rw [List.length_finRange] at HS
    clear hS hKD
    have n0 : W.cell? ⟨w3.heap.size, 0, none⟩ = some (.int .i64 (M.length : Int)) := HS.out.n.cell 0
    have w0 : W.cell? ⟨w1.heap.size, 0, none⟩ = some (.slice a1 M.length cap1) := (HS.out.box HWant.out.1 (by omega) (by omega)).cell 0
    have r0 : W.cell? ⟨w.heap.size + 1 + 1, 0, none⟩ = some (.bool false) := HS.out.r.cell 0
    have r1 : W.frozen? ⟨w.heap.size + 1 + 1, 0, none⟩ = false := HS.out.r.free 0
    gi_wp2
    have HS2 := hid (HS.out.setR hne (by omega) true)
    have HD2 : Hid ((W.setCell ⟨w.heap.size + 1 + 1, 0, none⟩ (.bool true)).heap[D]? = some (.deferred (some []))) := (Below.heap_setCell _ _ _ _ (show D ≠ w.heap.size + 1 + 1 by omega)).trans HD.out
    clear HD HS r0 r1 n0 w0
    generalize (W.setCell ⟨w.heap.size + 1 + 1, 0, none⟩ (.bool true)) = W' at *
    have hr := (World.putObj_heap_other (w := W') (o := .deferred none) (show w.heap.size + 1 + 1 ≠ D by omega)).trans HS2.out.r
    have hrc : (W'.putObj D (.deferred none)).cell? ⟨w.heap.size + 1 + 1, 0, none⟩ = some (.bool true) := FBox.cell hr 0
    refine ⟨by simp, .inl ⟨_, _, rfl, run_takeDeferred HD2.out, ?_⟩⟩
    refine ⟨.bool true, ?_, rfl, ?_⟩
    · simp [results, Try.results12, go_sem, hrc]
    · exact HS2.out.bel.trans (belowK_b (w := w) (Nat.le_refl _) _ D _ (.deferred none) (by have := HBall.out.size; omega) HD2.out rfl rfl)
end Go.Proofs.Ytblfemmhhijeeaa

/- The kit's ApartInts: of any list of numbers and one other. -/
namespace Go.Proofs.Ytblfemmhhijeeaa
open Go.RowKit
set_option linter.unusedVariables false
set_option linter.unusedSimpArgs false

theorem ycell_one (w : World) (v : Value) (t : TypeId) : ∀ j u, [v][j]? = some u → (w.alloc (.cells #[v] t)).cell? ((⟨w.heap.size, 0, none⟩ : Addr).add j) = some u := by
  intro j u hj
  cases j with
  | zero =>
    injection hj with hj
    subst hj
    exact (FBox.made w t #[v]).cell 0
  | succ j => cases hj
/-- An append of one value where there is room. -/
theorem wpList_append_room1 {P : Program} (w : World) {ops : Array Oper} {rest : List Oper} {o : Oper} {a : Act} {Q : Exit → Act → World → Prop}
    (hg : o.guard = none) (s x : Operand) (t : TypeId) (hop : o.op = Op.call { callee := Callee.builtin Builtin.append, args := #[s, x], argTypes := #[t, t] })
    (e : TypeId) (i : TypeInfo) (h1 : P.underlying t = some (.slice e)) (h2 : P.info? e = some i) (h4 : i.size = 1)
    (b n cap : Nat) (hs : a.eval s = .slice (some ⟨b, 0, none⟩) n cap)
    (ad : Addr) (c : Nat) (v : Value) (hx : a.eval x = .slice (some ad) 1 c) (hc : ∀ j u, [v][j]? = some u → w.cell? (ad.add j) = some u) (h1c : v.oneCell' = true)
    (hr : n + 1 ≤ cap) (hspare : (w.cell? ⟨b, n, none⟩).isSome = true ∧ w.frozen? ⟨b, n, none⟩ = false)
    (hroom : wpList P ops Q rest (a.put o.dst (.slice (some ⟨b, 0, none⟩) (n + 1) cap)) (w.setCell ⟨b, n, none⟩ v)) :
    wpList P ops Q (o :: rest) a w := by
  refine wpList_plain hg fun K hK' => ?_
  have hrun := run_append_room_cells (P := P) w t o.type e i h1 h2 b 0 n cap ad 1 c [v] (by simp [h4]) hc (by simpa using h1c) hr (fun j hj => by
    obtain rfl : j = 0 := by simpa using hj
    simpa [h4] using hspare.1) (fun j hj => by
    obtain rfl : j = 0 := by simpa using hj
    simpa [h4] using hspare.2)
  unfold Oper.wp
  simp [execOp, hop, resolve, invoke, builtin, hs, hx, hrun, Result.andThen]
  have e2 : w.setCells b (0 + n * i.size) [v] = w.setCell ⟨b, n, none⟩ v := by rw [h4, Nat.zero_add, Nat.mul_one]; rfl
  rw [Nat.zero_add] at e2
  rw [e2]
  exact hK' _ _ hroom

theorem RdV.set {w : World} {a : Option Addr} {xs : List Value} (h : RdV w a xs) (p : Addr) (v : Value) (hne : ∀ g, a = some ⟨g, 0, none⟩ → g ≠ p.block) : RdV (w.setCell p v) a xs := by
  rcases h with h | ⟨g, ha, hl, hc⟩
  · exact .inl h
  · refine .inr ⟨g, ha, by simpa [World.setCell] using hl, fun j u hj => ?_⟩
    have e := hc j u hj
    have hg := hne g ha
    have hh : (w.setCell p v).heap[g]? = w.heap[g]? := heap_setCell_other w p g v hg
    unfold World.cell? at e ⊢
    simp only [hh]
    exact e
/-- What must stay while a list is written over. -/
def CiK (m go n : Nat) (a1 ay : Option Addr) (c1 cy : Nat) (zs : List Int) (W : World) : Prop := FBox W m 54 #[.slice a1 n c1] ∧ FBox W go 54 #[.slice ay n cy] ∧ RdV W a1 (zs.map (Value.int .i64)) ∧ RdV W ay (zs.map (Value.int .i64))
theorem CiK.set {m go n : Nat} {a1 ay : Option Addr} {c1 cy : Nat} {zs : List Int} {W : World} (h : CiK m go n a1 ay c1 cy zs W) (g j : Nat) (v : Value) (hg : m ≠ g ∧ go ≠ g ∧ (∀ b, a1 = some ⟨b, 0, none⟩ → b ≠ g) ∧ (∀ b, ay = some ⟨b, 0, none⟩ → b ≠ g)) : CiK m go n a1 ay c1 cy zs (W.setCell ⟨g, j, none⟩ v) :=
  ⟨h.1.other _ _ hg.1, h.2.1.other _ _ hg.2.1, h.2.2.1.set _ _ hg.2.2.1, h.2.2.2.set _ _ hg.2.2.2⟩
theorem CiK.later {m go n : Nat} {a1 ay : Option Addr} {c1 cy : Nat} {zs : List Int} {W W' : World} (h : CiK m go n a1 ay c1 cy zs W) (hb : Below W.heap.size W W') : CiK m go n a1 ay c1 cy zs W' :=
  ⟨h.1.later hb h.1.lt, h.2.1.later hb h.2.1.lt, h.2.2.1.later hb, h.2.2.2.later hb⟩
/-- A list that a call may write over. -/
def YSpare (w : World) (base n : Nat) (v : Value) (g cap : Nat) (cur : Array Value) : Prop := v = .slice (some ⟨g, 0, none⟩) n cap ∧ base ≤ g ∧ FBox w g 3 cur ∧ n ≤ cap ∧ cur.size = cap ∧ ∀ j, j < n → ∃ z : Int, cur[j]? = some (.int .i64 z)

set_option maxHeartbeats 1600000 in
set_option maxRecDepth 100000 in
theorem yapart_any (base go n : Nat) (vx : Value) (ay : Option Addr) (cy : Nat) (zs : List Int) (w : World) (hln : zs.length = n) (hn : n ≤ 100000) (hbs : base ≤ w.heap.size) (hyz : ay = none → cy = 0 ∧ n = 0)
    (hx : (vx = .slice none 0 0 ∧ n = 0) ∨ ∃ g cap cur, YSpare w base n vx g cap cur ∧ (∀ b, ay = some ⟨b, 0, none⟩ → b ≠ g) ∧ go ≠ g)
    (hy : RdV w ay (zs.map (Value.int .i64))) (hay : ∀ g, ay = some ⟨g, 0, none⟩ → g < w.heap.size) (ho : FBox w go 54 #[.slice ay n cy]) :
    Calls Try.prog 50 #[vx, .slice (some ⟨go, 0, none⟩) 1 1] w fun e w' => e = .returned (.bool true) ∧ Below base w w' := by
  have hmk : ∀ V : World, (Instr.makeSlice 86 (.int .i64 1) (.int .i64 1)).run Try.prog V = .ok (.slice (some ⟨V.heap.size, 0, none⟩) 1 1) (V.alloc (.cells #[.slice none 0 0] 54)) := fun V => by kernel_rfl
  obtain ⟨i0, hi, hz0, hz1, hz2⟩ := info_parts Try.yinfoI
  have hry := hy
  have HX := hid hx
  have HY := hid hy
  have HO := hid ho
  have HM : Hid (FBox (w.alloc (.cells #[.slice none 0 0] 54)) w.heap.size 54 #[.slice none 0 0]) := FBox.made _ _ _
  have HB : Hid (Below w.heap.size w (w.alloc (.cells #[.slice none 0 0] 54))) := (Below.refl _ _).alloc (Nat.le_refl _) _
  obtain ⟨ax, nx, cx, hvx⟩ : ∃ ax nx cx, vx = .slice ax nx cx := by
    rcases hx with ⟨rfl, _⟩ | ⟨g, cap, cur, ⟨rfl, _⟩, _⟩
    · exact ⟨_, _, _, rfl⟩
    · exact ⟨_, _, _, rfl⟩
  clear hx hy ho
  subst hvx
  go_enter Try.func50, Try.ntmps50
  go_wp2_with fail
  generalize w.alloc (.cells #[.slice none 0 0] 54) = V at *
  refine wp_loop_rounds 2 ?_
  rw [rounds_succ]
  have k0 : V.cell? ⟨go, 0, none⟩ = some (.slice ay n cy) := (HO.out.later HB.out HO.out.lt).cell 0
  go_wp2_with fail
  clear k0
  refine Calls.mono (ecopyI_any ay n cy zs V (by omega) hln hyz (RdZ.of (HY.out.later HB.out))) ?_
  rintro e w1 ⟨v', rfl, ho1, hb1⟩
  have HLY : Hid (∀ g, ay = some ⟨g, 0, none⟩ → g < w.heap.size) := hay
  have HLT : Hid (∀ g, v'.ownBlock = some g → V.heap.size ≤ g) := fun g hg => (ho1.lt g hg).1
  obtain ⟨a1, c1, rfl, hr1⟩ := yshape ho1
  have HM1 := hid (HM.out.later hb1 HM.out.lt)
  have m0 : w1.cell? ⟨w.heap.size, 0, none⟩ = some (.slice none 0 0) := HM1.out.cell 0
  have m1 := HM1.out.free 0
  have hVw : w.heap.size < V.heap.size := HM.out.lt
  have HB1 := hid (ybt HB.out hb1)
  have HR1 := hid hr1
  have HRY := hid (hry.later HB1.out)
  have HO1 := hid (HO.out.later HB1.out HO.out.lt)
  have hgo : go < w.heap.size := HO.out.lt
  clear ho1 hr1 hry hb1 HM HY HO
  go_wp2_with fail
  have HK : Hid (CiK w.heap.size go n a1 ay c1 cy zs (w1.setCell ⟨w.heap.size, 0, none⟩ (.slice a1 n c1))) := ⟨HM1.out.set 0 _, HO1.out.other _ _ (by simp; omega), RdV.set HR1.out _ _ (fun g hg => by
    subst hg
    have := HLT.out g rfl
    show g ≠ w.heap.size
    omega), RdV.set HRY.out _ _ (fun g hg => by
    have := HLY.out g hg
    show g ≠ w.heap.size
    omega)⟩
  have HB2 : Hid (Below w.heap.size w (w1.setCell ⟨w.heap.size, 0, none⟩ (.slice a1 n c1))) := HB1.out.setCell (p := ⟨w.heap.size, 0, none⟩) (Nat.le_refl _) _
  generalize w1.setCell ⟨w.heap.size, 0, none⟩ (.slice a1 n c1) = W2 at *
  clear HM1 HO1 HR1 HRY HB1 m0 m1
  rw [rounds_succ]
  go_wp2_with fail
  rcases HX.out with ⟨e, hn0⟩ | ⟨g, cap, cur, ⟨e, hg0, hgf, hnc, hcs, hcz⟩, hgy, hgo2⟩
  · simp only [Value.slice.injEq] at e
    obtain ⟨rfl, rfl, rfl⟩ := e
    clear hn0
    refine wp_loop_rounds 1 ?_
    rw [rounds_succ]
    go_wp2_with fail
    refine wp_loop_rounds 1 ?_
    rw [rounds_succ]
    go_wp2_with fail
    refine wp_loop_rounds 2 ?_
    rw [rounds_succ]
    have k0 : W2.cell? ⟨go, 0, none⟩ = some (.slice ay n cy) := HK.out.2.1.cell 0
    have k1 : W2.cell? ⟨w.heap.size, 0, none⟩ = some (.slice a1 n c1) := HK.out.1.cell 0
    have hs0 := And.intro k0 k1
    have HSM : Hid (∀ ww, Below W2.heap.size W2 ww → Calls Try.prog 20 #[.slice ay n cy, .slice a1 n c1] ww fun e w' => e = .returned (.bool true) ∧ (w'.cell? ⟨go, 0, none⟩ = some (.slice ay n cy) ∧ w'.cell? ⟨w.heap.size, 0, none⟩ = some (.slice a1 n c1)) ∧ Below W2.heap.size W2 w') := fun ww hv => by
      have K := HK.out.later hv
      refine Calls.mono ((hln ▸ ysameI ay a1 cy c1 zs ww (by omega) K.2.2.2 K.2.2.1)) ?_
      rintro e w' ⟨rfl, hb⟩
      exact ⟨rfl, ⟨(K.2.1.later hb K.2.1.lt).cell 0, (K.1.later hb K.1.lt).cell 0⟩, ybt' hv hb⟩
    have hb0 : Below W2.heap.size W2 W2.drew := (Below.refl _ _).drew
    go_wp2_with fail
    go_region_held3 (fun V : World => V.cell? ⟨go, 0, none⟩ = some (.slice ay n cy) ∧ V.cell? ⟨w.heap.size, 0, none⟩ = some (.slice a1 n c1)) (first | exact hs1 | exact hs0) (first | (go_at_call 20; with_reducible refine Calls.mono (HSM.out _ hb0) ?_; rintro e w5 ⟨rfl, hs1, hb5⟩))
    go_wp2_with fail
    rw [rounds_succ]
    go_wp2_with fail
    go_ret
    exact ⟨rfl, (HB2.out.mono hbs).trans (hb5.mono (Nat.le_trans hbs HB2.out.size))⟩
  · simp only [Value.slice.injEq] at e
    obtain ⟨e1, e2, e3⟩ := e
    subst e1
    subst nx
    subst e3
    have hgw : g < w.heap.size := hgf.lt
    have HG : Hid (w.heap.size ≠ g ∧ go ≠ g ∧ (∀ b, a1 = some ⟨b, 0, none⟩ → b ≠ g) ∧ (∀ b, ay = some ⟨b, 0, none⟩ → b ≠ g)) := ⟨by omega, hgo2, fun b hb => by
      subst hb
      have := HLT.out b rfl
      omega, fun b hb => by
      exact hgy b hb⟩
    have HF0 := hid (hgf.later HB2.out hgw)
    have HB3 := hid (HB2.out.mono hbs)
    clear HX HLT HLY hgy hgo2 hgf
    have HS : Hid (∃ cr : Array Value, FBox W2 g 3 cr ∧ cr.size = cx ∧ ∀ j, j < n → ∃ z : Int, cr[j]? = some (.int .i64 z)) := ⟨cur, HF0.out, hcs, hcz⟩
    clear HF0 hcs hcz HB2
    go_loopw [7] (fun t wr => ∃ k : Nat, k ≤ n ∧ t = .int .i64 (k : Int) ∧ Hid (CiK w.heap.size go n a1 ay c1 cy zs wr) ∧ Hid (Below base w wr) ∧ Hid (∃ cr : Array Value, FBox wr g 3 cr ∧ cr.size = cx ∧ ∀ j, j < n → ∃ z : Int, cr[j]? = some (.int .i64 z))) (fun t _ => n - (intOf t).toNat)
    case atStart => exact ⟨0, Nat.zero_le _, rfl, HK, HB3, HS⟩
    case round =>
      clear HK HB3 HS
      obtain ⟨k, hk, rfl, HK, HB3, HS⟩ := hrel
      by_cases hlt : k < n
      · obtain ⟨cr, hf, hsz, hz⟩ := HS.out
        obtain ⟨z, hz1'⟩ := hz k hlt
        have c0 : wr.cell? ⟨g, k, none⟩ = some (.int .i64 z) := (hf.cell k).trans hz1'
        have f0 := hf.free k
        have HF := hid hf
        have HZ := hid hz
        clear hf hz HS
        go_wp2_with fail
        go_roundw
        case rel =>
          refine ⟨k + 1, by omega, by go_num, HK.out.set g k _ HG.out, HB3.out.setCell (p := ⟨g, k, none⟩) hg0 _, _, HF.out.set k _, by simpa using hsz, fun j hj => ?_⟩
          by_cases e : k = j
          · subst e
            exact ⟨_, by rw [Array.getElem?_setIfInBounds_self_of_lt (by omega)]⟩
          · rw [Array.getElem?_setIfInBounds_ne e]
            exact HZ.out j hj
        case measure => simp [intOf]; omega
      · obtain rfl : k = n := by omega
        go_wp2_with fail
        go_loopw [0, 8] (fun v t wq => ∃ i m : Nat, m ≤ cx ∧ m ≤ k + i ∧ t = .int .i64 (i : Int) ∧ i ≤ 3 ∧ v = .slice (some ⟨g, 0, none⟩) m cx ∧ Hid (CiK w.heap.size go k a1 ay c1 cy zs wq) ∧ Hid (Below base w wq) ∧ Hid (∃ cr : Array Value, FBox wq g 3 cr ∧ cr.size = cx)) (fun _ t _ => 3 - (intOf t).toNat)
        case atStart => exact ⟨0, k, hnc, Nat.le_refl _, rfl, by decide, rfl, HK, HB3, by obtain ⟨cr, h1, h2, _⟩ := HS.out; exact ⟨cr, h1, h2⟩⟩
        case round =>
          clear HK HB3 HS
          obtain ⟨i, m, hm, hmi, rfl, hi3, rfl, HK, HB3, HS⟩ := hrel
          by_cases h3 : i < 3
          · by_cases hr : m < cx
            · obtain ⟨cr, hf, hsz⟩ := HS.out
              have hVB : Below wr.heap.size wr (wr.alloc (.cells #[.int .i64 55] 3)) := (Below.refl _ _).alloc (Nat.le_refl _) _
              have hf2 := hf.later hVB hf.lt
              have HSP : Hid (((wr.alloc (.cells #[.int .i64 55] 3)).cell? ⟨g, m, none⟩).isSome = true ∧ (wr.alloc (.cells #[.int .i64 55] 3)).frozen? ⟨g, m, none⟩ = false) := ⟨by rw [hf2.cell m, Array.getElem?_eq_getElem (by omega)]; rfl, hf2.free m⟩
              have HF := hid hf2
              have HK2 := hid (HK.out.later hVB)
              have HB4 := hid (HB3.out.alloc (Nat.le_trans hbs HB3.out.size) (.cells #[.int .i64 55] 3))
              clear hf hf2 hVB HS HK
              go_wp2_with (at_builtin; refine wpList_append_room1 _ rfl _ _ 54 rfl 3 i0 Try.underlying54 hi hz1 g m cx rfl ⟨wr.heap.size, 0, none⟩ 1 (.int .i64 55) rfl (ycell_one _ _ _) rfl (by omega) HSP.out ?_)
              go_roundw
              case rel =>
                exact ⟨i + 1, m + 1, by omega, by omega, by go_num, by omega, rfl, HK2.out.set g m _ HG.out, HB4.out.setCell (p := ⟨g, m, none⟩) hg0 _, _, HF.out.set m _, by simpa using hsz⟩
              case measure => simp [intOf]; omega
            · go_wp2_with fail
              refine wp_loop_rounds 2 ?_
              rw [rounds_succ]
              have k0 : wr.cell? ⟨go, 0, none⟩ = some (.slice ay k cy) := HK.out.2.1.cell 0
              have k1 : wr.cell? ⟨w.heap.size, 0, none⟩ = some (.slice a1 k c1) := HK.out.1.cell 0
              have hs0 := And.intro k0 k1
              have HSM : Hid (∀ ww, Below wr.heap.size wr ww → Calls Try.prog 20 #[.slice ay k cy, .slice a1 k c1] ww fun e w' => e = .returned (.bool true) ∧ (w'.cell? ⟨go, 0, none⟩ = some (.slice ay k cy) ∧ w'.cell? ⟨w.heap.size, 0, none⟩ = some (.slice a1 k c1)) ∧ Below wr.heap.size wr w') := fun ww hv => by
                have K := HK.out.later hv
                refine Calls.mono ((hln ▸ ysameI ay a1 cy c1 zs ww (by omega) K.2.2.2 K.2.2.1)) ?_
                rintro e w' ⟨rfl, hb⟩
                exact ⟨rfl, ⟨(K.2.1.later hb K.2.1.lt).cell 0, (K.1.later hb K.1.lt).cell 0⟩, ybt' hv hb⟩
              have hb0 : Below wr.heap.size wr wr.drew := (Below.refl _ _).drew
              go_wp2_with fail
              go_region_held3 (fun V : World => V.cell? ⟨go, 0, none⟩ = some (.slice ay k cy) ∧ V.cell? ⟨w.heap.size, 0, none⟩ = some (.slice a1 k c1)) (first | exact hs1 | exact hs0) (first | (go_at_call 20; with_reducible refine Calls.mono (HSM.out _ hb0) ?_; rintro e w5 ⟨rfl, hs1, hb5⟩))
              go_wp2_with fail
              rw [rounds_succ]
              go_wp2_with fail
              go_ret
              exact ⟨rfl, HB3.out.trans (hb5.mono (Nat.le_trans hbs HB3.out.size))⟩
          · go_wp2_with fail
            refine wp_loop_rounds 2 ?_
            rw [rounds_succ]
            have k0 : wr.cell? ⟨go, 0, none⟩ = some (.slice ay k cy) := HK.out.2.1.cell 0
            have k1 : wr.cell? ⟨w.heap.size, 0, none⟩ = some (.slice a1 k c1) := HK.out.1.cell 0
            have hs0 := And.intro k0 k1
            have HSM : Hid (∀ ww, Below wr.heap.size wr ww → Calls Try.prog 20 #[.slice ay k cy, .slice a1 k c1] ww fun e w' => e = .returned (.bool true) ∧ (w'.cell? ⟨go, 0, none⟩ = some (.slice ay k cy) ∧ w'.cell? ⟨w.heap.size, 0, none⟩ = some (.slice a1 k c1)) ∧ Below wr.heap.size wr w') := fun ww hv => by
              have K := HK.out.later hv
              refine Calls.mono ((hln ▸ ysameI ay a1 cy c1 zs ww (by omega) K.2.2.2 K.2.2.1)) ?_
              rintro e w' ⟨rfl, hb⟩
              exact ⟨rfl, ⟨(K.2.1.later hb K.2.1.lt).cell 0, (K.1.later hb K.1.lt).cell 0⟩, ybt' hv hb⟩
            have hb0 : Below wr.heap.size wr wr.drew := (Below.refl _ _).drew
            go_wp2_with fail
            go_region_held3 (fun V : World => V.cell? ⟨go, 0, none⟩ = some (.slice ay k cy) ∧ V.cell? ⟨w.heap.size, 0, none⟩ = some (.slice a1 k c1)) (first | exact hs1 | exact hs0) (first | (go_at_call 20; with_reducible refine Calls.mono (HSM.out _ hb0) ?_; rintro e w5 ⟨rfl, hs1, hb5⟩))
            go_wp2_with fail
            rw [rounds_succ]
            go_wp2_with fail
            go_ret
            exact ⟨rfl, HB3.out.trans (hb5.mono (Nat.le_trans hbs HB3.out.size))⟩
end Go.Proofs.Ytblfemmhhijeeaa

/- Layer 19's over: samples are written over. -/
namespace Go.Proofs.Ytblfemmhhijeeaa
open Go.RowKit
set_option linter.unusedVariables false
set_option linter.unusedSimpArgs false

theorem grownBy_put {w W : World} {g j : Nat} {v : Value} (h : w.grownBy W (some g)) : w.grownBy (W.setCell ⟨g, j, none⟩ v) (some g) :=
  ⟨h.os, h.tape, h.output, by simpa [World.setCell] using h.size, fun i hi hr => (Below.heap_setCell _ _ _ _ (fun e => hr (by rw [show i = g from e]))).trans (h.block i hi hr)⟩
set_option maxHeartbeats 3200000 in
set_option maxRecDepth 100000 in
theorem yover (base : Nat) (a : Option Addr) (n cap : Nat) (R : List Value) (w : World) (h : w.ownsRow base 46 2 (.slice a n cap) n R) (hn : n ≤ 100000) :
    Calls Try.prog 92 #[.slice a n cap] w fun e w' => e = .returned (.tuple #[]) ∧ w.grownBy w' (Value.ownBlock (.slice a n cap)) := by
  have sF : ∀ (W : World) (p : Addr) (y : Nat) (md : Mode), (store p (.float .f64 y) md).run Try.prog W = stored Try.prog W p (.float .f64 y) md := fun W p y md => run_store Try.prog W p _ md rfl
  rcases h.2 with ⟨hv, h0⟩ | ⟨g, cap', cur, hv, h1, h2, h3, h4, h5, h6⟩
  · injection hv with e1 e2 e3
    subst e1 e2 e3
    go_enter Try.func92, Try.ntmps92
    go_wp2_with fail
    go_loopw [2] (fun x wr => x = .int .i64 0 ∧ wr = w) (fun _ _ => 0)
    case atStart => exact ⟨rfl, rfl⟩
    case round =>
      obtain ⟨rfl, rfl⟩ := hrel
      go_wp2_with fail
      go_end0
      exact ⟨rfl, (World.grownBy.refl _ _)⟩
  · injection hv with e1 e2 e3
    subst e1 e3
    have HF : Hid (FBox w g 46 cur) := h2
    have hsz : n * 2 ≤ cur.size := by rw [h5]; omega
    clear h h1 h2 h3 h4 h5 h6
    go_enter Try.func92, Try.ntmps92
    go_wp2_with fail
    go_loopw [2] (fun x wr => ∃ (k : Nat) (cu : Array Value), k ≤ n ∧ x = .int .i64 (k : Int) ∧ n * 2 ≤ cu.size ∧ Hid (FBox wr g 46 cu) ∧ Hid (w.grownBy wr (some g))) (fun x _ => n - (intOf x).toNat)
    case atStart => exact ⟨0, cur, Nat.zero_le _, rfl, hsz, HF.out, World.grownBy.refl _ _⟩
    case round =>
      obtain ⟨k, cu, hk, rfl, hcs, HB, HG⟩ := hrel
      clear HF
      by_cases hlt : k < n
      · obtain ⟨x0, hx0⟩ : ∃ x, cu[k * 2]? = some x := ⟨_, Array.getElem?_eq_getElem (by omega)⟩
        obtain ⟨x1, hx1⟩ : ∃ x, cu[k * 2 + 1]? = some x := ⟨_, Array.getElem?_eq_getElem (by omega)⟩
        have c0 : wr.cell? ⟨g, k * 2, none⟩ = some x0 := by rw [HB.out.cell, hx0]
        have q0 : wr.frozen? ⟨g, k * 2, none⟩ = false := HB.out.free _
        have H1 := hid (HB.out.set (k * 2) (.int .i64 (-7)))
        have c1 : (wr.setCell ⟨g, k * 2, none⟩ (.int .i64 (-7))).cell? ⟨g, k * 2 + 1, none⟩ = some x1 := by
          rw [H1.out.cell, Array.getElem?_setIfInBounds, if_neg (by omega), hx1]
        have q1 : (wr.setCell ⟨g, k * 2, none⟩ (.int .i64 (-7))).frozen? ⟨g, k * 2 + 1, none⟩ = false := H1.out.free _
        have H2 := hid (H1.out.set (k * 2 + 1) (.float .f64 13842939354630062080))
        have hk1 : (k : Int) < (n : Int) := by omega
        clear hx0 hx1
        go_wp2_with fail
        exact ⟨⟨k + 1, _, by omega, by go_num, by simpa using hcs, H2.out, grownBy_put (grownBy_put HG.out)⟩, by simp [intOf]; omega⟩
      · obtain rfl : k = n := by omega
        have hkk : ¬ (k : Int) < (k : Int) := by omega
        go_wp2_with fail
        go_end0
        exact ⟨rfl, HG.out⟩
end Go.Proofs.Ytblfemmhhijeeaa

/- The law's lists: Samples. -/
namespace Go.Proofs.Ytblfemmhhijeeaa
open Go.RowKit
set_option linter.unusedVariables false
set_option linter.unusedSimpArgs false

/-- What a call that makes a list of samples leaves: the list, its own; what lay there. -/
def LsS (w V W : World) (a : Option Addr) (cap : Nat) (M : List (Int × Nat)) : Prop := W.ownsRow V.heap.size 46 2 (.slice a M.length cap) M.length (smC M) ∧ Below V.heap.size V W ∧ Below w.heap.size w W
theorem LsS.rd {w V W : World} {a : Option Addr} {cap : Nat} {M : List (Int × Nat)} (h : LsS w V W a cap M) : RdV W a (smC M) := by
  obtain ⟨a', cap', e, q⟩ := yshape h.1
  injection e with e1 e2 e3
  subst e1
  exact q
theorem LsS.lt {w V W : World} {a : Option Addr} {cap : Nat} {M : List (Int × Nat)} (h : LsS w V W a cap M) (g : Nat) (e : a = some ⟨g, 0, none⟩) : V.heap.size ≤ g ∧ g < W.heap.size := by
  subst e
  exact h.1.lt g rfl
set_option maxHeartbeats 12800000 in
set_option maxRecDepth 100000 in
theorem ylists3 (rb mb base rd : Nat) (L : List (Int × Nat)) (on tk en : Int) (bb : Nat) (w : World) (hr : RecAt w rb mb L) (hd : DocAt w base rd L) :
    Calls Try.prog 54 #[.agg #[.pointer (some ⟨rb, 0, none⟩), .pointer (some ⟨rd, 0, none⟩)], .agg #[.int .i64 3, .int .i64 on, .int .i64 tk, .int .i64 en, .int .u64 (bb : Int)]] w fun e w' => e = .returned (.bool true) ∧ Below w.heap.size w w' := by
  have hf := hr.ok.few
  have hM := (hr.ok.ones true).few
  have HDS : Hid (∀ V, Below w.heap.size w V → Calls Try.prog 55 #[.pointer (some ⟨rd, 0, none⟩)] V fun e w' => ∃ a cap, e = .returned (.slice a (onesL L true).length cap) ∧ Hid (LsS w V w' a cap (onesL L true))) := fun V hV => by
    refine Calls.mono (d19samples_any base rd L V (hd.later hV)) ?_
    rintro e w' ⟨v, rfl, ho, hb⟩
    obtain ⟨a, cap, rfl, _⟩ := yshape ho.out
    exact ⟨a, cap, rfl, ho.out, hb, ybt hV hb⟩
  have HRS : Hid (∀ V, Below w.heap.size w V → Calls Try.prog 90 #[.pointer (some ⟨rb, 0, none⟩)] V fun e w' => ∃ a cap, e = .returned (.slice a (onesL L true).length cap) ∧ Hid (LsS w V w' a cap (onesL L true))) := fun V hV => by
    refine Calls.mono (ysamples_any rb mb L V (hr.later hV)) ?_
    rintro e w' ⟨v, rfl, ho, hb⟩
    obtain ⟨a, cap, rfl, _⟩ := yshape ho.out
    exact ⟨a, cap, rfl, ho.out, hb, ybt hV hb⟩
  clear hr hd
  generalize onesL L true = M at *
  go_enter Try.func54, Try.ntmps54
  go_wp2_with fail
  obtain ⟨V0, hV0⟩ : ∃ V0, (w.alloc (.cells #[.pointer (some ⟨rb, 0, none⟩), .pointer (some ⟨rd, 0, none⟩)] 28)).alloc (.cells #[.int .i64 3, .int .i64 on, .int .i64 tk, .int .i64 en, .int .u64 (bb : Int)] 32) = V0 := ⟨_, rfl⟩
  have HA0 : Hid (FBox V0 w.heap.size 28 #[.pointer (some ⟨rb, 0, none⟩), .pointer (some ⟨rd, 0, none⟩)] ∧ Below w.heap.size w V0) := by
    rw [← hV0]
    have q1 := FBox.made w 28 #[.pointer (some ⟨rb, 0, none⟩), .pointer (some ⟨rd, 0, none⟩)]
    exact ⟨q1.later ((Below.refl _ _).alloc (Nat.le_refl _) _) q1.lt, ((Below.refl _ _).alloc (Nat.le_refl _) _).alloc (by simp) _⟩
  rw [hV0]
  clear hV0
  have HF : Hid (∀ V, Below V0.heap.size V0 V → V.cell? ⟨w.heap.size, 0, none⟩ = some (.pointer (some ⟨rb, 0, none⟩)) ∧ V.cell? ⟨w.heap.size, 1, none⟩ = some (.pointer (some ⟨rd, 0, none⟩))) := fun V hv => by
    have q := HA0.out.1.later hv HA0.out.1.lt
    exact ⟨q.cell 0, q.cell 1⟩
  have hs0 := HF.out _ (Below.refl _ V0).drew
  have hb0 := (Below.refl V0.heap.size V0).drew
  have HR1 : Hid (∀ V, Below V0.heap.size V0 V → Calls Try.prog 90 #[.pointer (some ⟨rb, 0, none⟩)] V fun e w' => ∃ a cap, e = .returned (.slice a M.length cap) ∧ (w'.cell? ⟨w.heap.size, 0, none⟩ = some (.pointer (some ⟨rb, 0, none⟩)) ∧ w'.cell? ⟨w.heap.size, 1, none⟩ = some (.pointer (some ⟨rd, 0, none⟩))) ∧ Hid (LsS w V w' a cap M) ∧ Below V0.heap.size V0 w') := fun V hV => by
    refine Calls.mono (HRS.out V (ybt HA0.out.2 hV)) ?_
    rintro e w' ⟨a, cap, rfl, h⟩
    exact ⟨a, cap, rfl, HF.out _ (ybt' hV h.out.2.1), h, ybt' hV h.out.2.1⟩
  go_region_held3 (fun V : World => V.cell? ⟨w.heap.size, 0, none⟩ = some (.pointer (some ⟨rb, 0, none⟩)) ∧ V.cell? ⟨w.heap.size, 1, none⟩ = some (.pointer (some ⟨rd, 0, none⟩))) (first | exact hs2 | exact hs1 | exact hs0)
    (first
      | (go_at_call 90; with_reducible refine Calls.mono (HR1.out _ hb1) ?_; rintro e w2 ⟨a2, cap2, rfl, hs2, ho2, hb2⟩)
      | (go_at_call 90; with_reducible refine Calls.mono (HR1.out _ hb0) ?_; rintro e w1 ⟨a1, cap1, rfl, hs1, ho1, hb1⟩))
  go_wp2_with fail
  refine Calls.mono (HDS.out w2 ho2.out.2.2) ?_
  rintro e w3 ⟨a3, cap3, rfl, h3⟩
  have HB1 := hid hb1
  clear hs0 hs1 hb0 hb1 HR1
  go_wp2_with fail
  have h13 : Below w1.heap.size w1 w3 := ybt ho2.out.2.1 h3.out.2.1
  refine Calls.mono (ysameS a1 a3 cap1 cap3 M w3 (by omega) (ho1.out.rd.later h13) h3.out.rd) ?_
  rintro e w4 ⟨rfl, hb4⟩
  go_wp2_with fail
  refine Calls.mono (ysameS a2 a1 cap2 cap1 M w4 (by omega) (ho2.out.rd.later (ybt h3.out.2.1 hb4)) (ho1.out.rd.later (ybt h13 hb4))) ?_
  rintro e w5 ⟨rfl, hb5⟩
  go_wp2_with fail
  have h15 : Below w1.heap.size w1 w5 := ybt (ybt h13 hb4) hb5
  have H1 := hid (yowns_later ho1.out.1 h15)
  refine Calls.mono (yover _ a1 M.length cap1 (smC M) w5 H1.out (by omega)) ?_
  rintro e w6 ⟨rfl, hg6⟩
  have HG6 := hid hg6
  have hVs : V0.drew.heap.size = V0.heap.size := rfl
  have hwV : w.heap.size < V0.heap.size := HA0.out.1.lt
  have HLT : Hid (∀ g, (Value.slice a1 M.length cap1).ownBlock = some g → V0.heap.size ≤ g ∧ g < w1.heap.size) := fun g e => ho1.out.1.lt g e
  have hs5 : V0.heap.size ≤ w5.heap.size := Nat.le_trans HB1.out.size h15.size
  have HB6 : Hid (Below V0.heap.size V0 w6) := (ybt' HB1.out h15).grown HG6.out hs5 (fun r e => (HLT.out r e).1)
  have c6 := (HF.out w6 HB6.out).2
  have HR2 : Hid (RdV w6 a2 (smC M)) := (ho2.out.rd.later (ybt (ybt h3.out.2.1 hb4) hb5)).gby HG6.out (fun g e q => by
    have := (HLT.out g q).2
    have := (ho2.out.lt g e).1
    omega)
  have HW6 : Hid (Below w.heap.size w w6) := ybt HA0.out.2 HB6.out
  clear hg6
  go_wp2_with fail
  refine Calls.mono (HDS.out w6 HW6.out) ?_
  rintro e w7 ⟨a7, cap7, rfl, h7⟩
  go_wp2_with fail
  refine Calls.mono (ysameS a2 a7 cap2 cap7 M w7 (by omega) (HR2.out.later h7.out.2.1) h7.out.rd) ?_
  rintro e w8 ⟨rfl, hb8⟩
  go_wp2_with fail
  go_ret
  exact ⟨rfl, ybt h7.out.2.2 hb8⟩
end Go.Proofs.Ytblfemmhhijeeaa

/- The law's lists: Between. -/
namespace Go.Proofs.Ytblfemmhhijeeaa
open Go.RowKit
set_option linter.unusedVariables false
set_option linter.unusedSimpArgs false

/-- What Between tells. -/
def btwG (M : List (Int × Nat)) (a b : Int) : List (Int × Nat) := if spR a b = 0 then spanL M a b else []
theorem btwG_len (M : List (Int × Nat)) (a b : Int) : (btwG M a b).length ≤ M.length := by
  unfold btwG
  split
  · exact List.length_filter_le _ _
  · exact Nat.zero_le _
theorem spR_bad {a b : Int} (h : ¬ spR a b = 0) : spR a b = 2 := by unfold spR at *; split at h <;> simp_all
theorem LsS.nil (w V W : World) (h : Below V.heap.size V W) (h2 : Below w.heap.size w W) : LsS w V W none 0 [] := ⟨World.ownsRow_nil _ _ _ _, h, h2⟩
theorem ybtw_any (rb mb : Nat) (L : List (Int × Nat)) (a b : Int) (w V : World) (hr : RecAt V rb mb L) (hV : Below w.heap.size w V) (ha : I64 a) (hb : I64 b) :
    Calls Try.prog 96 #[.pointer (some ⟨rb, 0, none⟩), .int .i64 a, .int .i64 b] V fun e w' => ∃ c cap, e = .returned (.tuple #[.slice c (btwG (onesL L true) a b).length cap, .int .i64 (spR a b)]) ∧ Hid (LsS w V w' c cap (btwG (onesL L true) a b)) := by
  by_cases hs : spR a b = 0
  · rw [show btwG (onesL L true) a b = spanL (onesL L true) a b from if_pos hs]
    refine Calls.mono (ybetween_ok rb mb L a b V hr ha hb hs) ?_
    rintro e w' ⟨v, rfl, ho, hb⟩
    obtain ⟨c, cap, rfl, _⟩ := yshape ho.out
    exact ⟨c, cap, by rw [hs], ho.out, hb, ybt hV hb⟩
  · rw [show btwG (onesL L true) a b = [] from if_neg hs]
    refine Calls.mono (ybetween_bad rb mb a b V hr.box ha hb hs) ?_
    rintro e w' ⟨rfl, hb⟩
    exact ⟨none, 0, by rw [spR_bad hs]; rfl, LsS.nil _ _ _ hb (ybt hV hb)⟩
theorem dbtw_any (base rd : Nat) (L : List (Int × Nat)) (a b : Int) (w V : World) (hr : DocAt V base rd L) (hV : Below w.heap.size w V) (ha : I64 a) (hb : I64 b) :
    Calls Try.prog 97 #[.pointer (some ⟨rd, 0, none⟩), .int .i64 a, .int .i64 b] V fun e w' => ∃ c cap, e = .returned (.tuple #[.slice c (btwG (onesL L true) a b).length cap, .int .i64 (spR a b)]) ∧ Hid (LsS w V w' c cap (btwG (onesL L true) a b)) := by
  by_cases hs : spR a b = 0
  · rw [show btwG (onesL L true) a b = spanL (onesL L true) a b from if_pos hs]
    refine Calls.mono (d19between_ok base rd L a b V hr ha hb hs) ?_
    rintro e w' ⟨v, rfl, ho, hb⟩
    obtain ⟨c, cap, rfl, _⟩ := yshape ho.out
    exact ⟨c, cap, by rw [hs], ho.out, hb, ybt hV hb⟩
  · rw [show btwG (onesL L true) a b = [] from if_neg hs]
    refine Calls.mono (d19between_bad base rd L a b V hr ha hb hs) ?_
    rintro e w' ⟨rfl, hb⟩
    exact ⟨none, 0, by rw [spR_bad hs]; rfl, LsS.nil _ _ _ hb (ybt hV hb)⟩
set_option maxHeartbeats 12800000 in
set_option maxRecDepth 100000 in
theorem ylists6 (rb mb base rd : Nat) (L : List (Int × Nat)) (on tk en : Int) (bb : Nat) (w : World) (hr : RecAt w rb mb L) (hd : DocAt w base rd L) (ht : I64 tk) (he : I64 en) :
    Calls Try.prog 54 #[.agg #[.pointer (some ⟨rb, 0, none⟩), .pointer (some ⟨rd, 0, none⟩)], .agg #[.int .i64 6, .int .i64 on, .int .i64 tk, .int .i64 en, .int .u64 (bb : Int)]] w fun e w' => e = .returned (.bool true) ∧ Below w.heap.size w w' := by
  have hM0 := (hr.ok.ones true).few
  have hM1 := btwG_len (onesL L true) tk en
  have HDS := hid (fun V (hV : Below w.heap.size w V) => dbtw_any base rd L tk en w V (hd.later hV) hV ht he)
  have HRS := hid (fun V (hV : Below w.heap.size w V) => ybtw_any rb mb L tk en w V (hr.later hV) hV ht he)
  clear hr hd
  generalize btwG (onesL L true) tk en = M at *
  generalize spR tk en = z at *
  have hM : M.length ≤ 4096 := by omega
  clear hM0 hM1
  have HA0 : Hid (∀ V0, (w.alloc (.cells #[.pointer (some ⟨rb, 0, none⟩), .pointer (some ⟨rd, 0, none⟩)] 28)).alloc (.cells #[.int .i64 6, .int .i64 on, .int .i64 tk, .int .i64 en, .int .u64 (bb : Int)] 32) = V0 → FBox V0 w.heap.size 28 #[.pointer (some ⟨rb, 0, none⟩), .pointer (some ⟨rd, 0, none⟩)] ∧ FBox V0 (w.heap.size + 1) 32 #[.int .i64 6, .int .i64 on, .int .i64 tk, .int .i64 en, .int .u64 (bb : Int)] ∧ Below w.heap.size w V0) := by
    rintro V0 rfl
    have q1 := FBox.made w 28 #[.pointer (some ⟨rb, 0, none⟩), .pointer (some ⟨rd, 0, none⟩)]
    have q2 := FBox.made (w.alloc (.cells #[.pointer (some ⟨rb, 0, none⟩), .pointer (some ⟨rd, 0, none⟩)] 28)) 32 #[.int .i64 6, .int .i64 on, .int .i64 tk, .int .i64 en, .int .u64 (bb : Int)]
    rw [show (w.alloc (.cells #[.pointer (some ⟨rb, 0, none⟩), .pointer (some ⟨rd, 0, none⟩)] 28)).heap.size = w.heap.size + 1 by simp] at q2
    exact ⟨q1.later ((Below.refl _ _).alloc (Nat.le_refl _) _) q1.lt, q2, ((Below.refl _ _).alloc (Nat.le_refl _) _).alloc (by simp) _⟩
  go_enter Try.func54, Try.ntmps54
  go_wp2_with fail
  obtain ⟨V0, hV0⟩ : ∃ V0, (w.alloc (.cells #[.pointer (some ⟨rb, 0, none⟩), .pointer (some ⟨rd, 0, none⟩)] 28)).alloc (.cells #[.int .i64 6, .int .i64 on, .int .i64 tk, .int .i64 en, .int .u64 (bb : Int)] 32) = V0 := ⟨_, rfl⟩
  have HA := hid (HA0.out V0 hV0)
  rw [hV0]
  clear hV0 HA0
  have HF : Hid (∀ V, Below V0.heap.size V0 V → (V.cell? ⟨w.heap.size, 0, none⟩ = some (.pointer (some ⟨rb, 0, none⟩)) ∧ V.cell? ⟨w.heap.size, 1, none⟩ = some (.pointer (some ⟨rd, 0, none⟩))) ∧ V.cell? ⟨w.heap.size + 1, 2, none⟩ = some (.int .i64 tk) ∧ V.cell? ⟨w.heap.size + 1, 3, none⟩ = some (.int .i64 en)) := fun V hv => by
    have q := HA.out.1.later hv HA.out.1.lt
    have r := HA.out.2.1.later hv HA.out.2.1.lt
    exact ⟨⟨q.cell 0, q.cell 1⟩, r.cell 2, r.cell 3⟩
  refine Calls.mono (HRS.out V0 HA.out.2.2) ?_
  rintro e w1 ⟨a1, cap1, rfl, h1⟩
  obtain ⟨⟨c0, c1⟩, c2, c3⟩ := HF.out w1 h1.out.2.1
  go_wp2_with fail
  refine Calls.mono (HRS.out w1 h1.out.2.2) ?_
  rintro e w2 ⟨a2, cap2, rfl, h2⟩
  clear c0 c1 c2 c3
  obtain ⟨⟨c0, c1⟩, c2, c3⟩ := HF.out w2 (ybt' h1.out.2.1 h2.out.2.1)
  go_wp2_with fail
  refine Calls.mono (HDS.out w2 h2.out.2.2) ?_
  rintro e w3 ⟨a3, cap3, rfl, h3⟩
  clear c0 c1 c2 c3
  go_wp2_with fail
  have h13 : Below w1.heap.size w1 w3 := ybt h2.out.2.1 h3.out.2.1
  refine Calls.mono (ysameS a1 a3 cap1 cap3 M w3 (by omega) (h1.out.rd.later h13) h3.out.rd) ?_
  rintro e w4 ⟨rfl, hb4⟩
  go_wp2_with fail
  refine Calls.mono (ysameS a2 a3 cap2 cap3 M w4 (by omega) (h2.out.rd.later (ybt h3.out.2.1 hb4)) (h3.out.rd.later hb4)) ?_
  rintro e w5 ⟨rfl, hb5⟩
  go_wp2_with fail
  have h15 : Below w1.heap.size w1 w5 := ybt (ybt h13 hb4) hb5
  have H1 := hid (yowns_later h1.out.1 h15)
  refine Calls.mono (yover _ a1 M.length cap1 (smC M) w5 H1.out (by omega)) ?_
  rintro e w6 ⟨rfl, hg6⟩
  have HG6 := hid hg6
  have hwV : w.heap.size < V0.heap.size := HA.out.1.lt
  have HLT : Hid (∀ g, (Value.slice a1 M.length cap1).ownBlock = some g → V0.heap.size ≤ g ∧ g < w1.heap.size) := fun g e => h1.out.1.lt g e
  have hs5 : V0.heap.size ≤ w5.heap.size := Nat.le_trans h1.out.2.1.size h15.size
  have HB6 : Hid (Below V0.heap.size V0 w6) := (ybt' h1.out.2.1 h15).grown HG6.out hs5 (fun r e => (HLT.out r e).1)
  have HR2 : Hid (RdV w6 a2 (smC M)) := (h2.out.rd.later (ybt (ybt h3.out.2.1 hb4) hb5)).gby HG6.out (fun g e q => by
    have := (HLT.out g q).2
    have := (h2.out.lt g e).1
    omega)
  have HR3 : Hid (RdV w6 a3 (smC M)) := (h3.out.rd.later (ybt hb4 hb5)).gby HG6.out (fun g e q => by
    have := (HLT.out g q).2
    have := (h3.out.lt g e).1
    have := h2.out.2.1.size
    omega)
  have HW6 : Hid (Below w.heap.size w w6) := ybt HA.out.2.2 HB6.out
  clear hg6
  go_wp2_with fail
  refine Calls.mono (ysameS a2 a3 cap2 cap3 M w6 (by omega) HR2.out HR3.out) ?_
  rintro e w8 ⟨rfl, hb8⟩
  go_wp2_with fail
  go_ret
  exact ⟨rfl, ybt HW6.out hb8⟩
end Go.Proofs.Ytblfemmhhijeeaa

