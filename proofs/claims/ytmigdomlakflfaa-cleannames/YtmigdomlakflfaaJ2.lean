/- My texts on the way to CleanNames, one behind the other: contracts of the program and of the document's answers. -/
import Derived.Test.YtmigdomlakflfaaJ1
import Derived.Test.YtmigdomlakflfaaShelf
import Derived.Sort.OwnSortedInts
import Derived.Maps.AppendAt
import Derived.Deep.Cut
import Derived.RangeFuncNested
import Derived.RangeFuncBound
import Derived.RangeFuncCalls
import Derived.RangeFuncLeaves
import Derived.RangeFuncFrom
import Derived.Shelf.Abstract
import Derived.Shelf.RegionOpen
import Derived.OwnWalkIn
import Derived.TacticsInMore
import Derived.LoopNIn
import Derived.LoopIn
import Derived.Deep.RegionHeld3
import Derived.Stop.RegionWithIn
import Derived.ChangeKeysEq
import Derived.Laws.StructEq
import Derived.Laws.AppendOwn
import Derived.Laws.AppendOwnNone
import Derived.ArgAppend
import Derived.Handy
import Derived.Maps.OwnSet
import Derived.Maps.Views
import Derived.Test.YtmigdomlakflfaaIterShelf
/- package record: Len, Lost, Samples, of every record. -/
namespace Go.Proofs.Ytmigdomlakflfaa
open Go.RowKit
set_option linter.unusedVariables false
set_option linter.unusedSimpArgs false

theorem Try.yinfoS : (Try.prog.info? 32).map (fun i => (i.zero, i.size, i.bytes)) = some (some (.agg #[.int .i64 0, .float .f64 0]), 2, 16) := by kernel_rfl
/-- What the call owns stays, while nothing that stood is written. -/
theorem yowns_later {w w' : World} {base e s : Nat} {v : Value} {n : Nat} {xs : List Value} (h : w.ownsRow base e s v n xs) (hb : Below w.heap.size w w') : w'.ownsRow base e s v n xs := by
  refine ⟨h.1, h.2.imp id ?_⟩
  rintro ⟨g, cap, cur, rfl, h1, h2, r⟩
  exact ⟨g, cap, cur, rfl, h1, (hb.block g (Array.getElem?_eq_some_iff.1 h2).1).trans h2, r⟩
theorem yowns_base {w : World} {base base' e s : Nat} {v : Value} {n : Nat} {xs : List Value} (h : w.ownsRow base e s v n xs) (hb : base' ≤ base) : w.ownsRow base' e s v n xs := by
  refine ⟨h.1, h.2.imp id ?_⟩
  rintro ⟨g, cap, cur, rfl, h1, r⟩
  exact ⟨g, cap, cur, rfl, by omega, r⟩
/-- A slice that is read as these cells. -/
def RdV (w : World) (a : Option Addr) (xs : List Value) : Prop := xs = [] ∨ ∃ g, a = some ⟨g, 0, none⟩ ∧ g < w.heap.size ∧ ∀ j u, xs[j]? = some u → w.cell? ⟨g, j, none⟩ = some u
theorem RdV.later {w w' : World} {a : Option Addr} {xs : List Value} (h : RdV w a xs) (hb : Below w.heap.size w w') : RdV w' a xs := by
  rcases h with h | ⟨g, ha, hg, hc⟩
  · exact .inl h
  · exact .inr ⟨g, ha, Nat.lt_of_lt_of_le hg hb.size, fun j u hj => (hb.cell (p := ⟨g, j, none⟩) hg).trans (hc j u hj)⟩
theorem yshape {w : World} {base e s : Nat} {v : Value} {n : Nat} {xs : List Value} (h : w.ownsRow base e s v n xs) : ∃ a cap, v = .slice a n cap ∧ RdV w a xs := by
  rcases h.2 with ⟨h1, h0⟩ | ⟨g, cap, cur, hv, h1, h2, h3, h4, h5, h6⟩
  · subst h0
    exact ⟨_, _, h1, .inl (List.length_eq_zero_iff.1 (by rw [h.1]; simp))⟩
  · refine ⟨_, _, hv, .inr ⟨g, rfl, (Array.getElem?_eq_some_iff.1 h2).1, fun j u hj => ?_⟩⟩
    have q := h.cells (g := g) (by rw [hv]; rfl) j u hj
    unfold Addr.add at q
    split at q
    · rename_i hj0
      have hj0 : j = 0 := by simpa using hj0
      rw [hj0]
      exact q
    · simpa using q
theorem ysort_any (base : Nat) (v : Value) (ks : List Int) (w : World) (h : w.ownsRow base 3 1 v ks.length (ks.map (Value.int .i64))) (hl : ks.length ≤ 4096) (hbs : base ≤ w.heap.size) :
    Calls Try.prog 47 #[v] w fun e w' => e = .returned (.tuple #[]) ∧ Hid (w'.ownsRow base 3 1 v ks.length ((ks.mergeSort (fun x y => decide (x ≤ y))).map (Value.int .i64))) ∧ Below base w w' := by
  rcases h.2 with ⟨rfl, h0⟩ | ⟨g, cap, cur, rfl, h1, h2, h3, h4, h5, h6⟩
  · obtain rfl : ks = [] := List.length_eq_zero_iff.1 h0
    refine Calls.mono (Try.slices_Sort_int_none none 0 w) ?_
    rintro e w' ⟨rfl, rfl⟩
    refine ⟨rfl, ?_, Below.refl _ _⟩
    rw [List.mergeSort_nil]
    exact World.ownsRow_nil _ _ _ _
  · refine Calls.mono (Try.slices_Sort_int g 0 cap ks w (holds_of_blockI h2 (by rw [Nat.mul_one] at h6; exact h6)) (Array.getElem?_eq_some_iff.1 h2).1 (by omega)) ?_
    rintro e w' ⟨rfl, n, os, rfl⟩
    exact ⟨rfl, ownsRow_sortedI (List.length_mergeSort ks) h1 h2 h3 h4 h5, (Below.refl _ _).grown (grownBy_sortedI _) hbs (fun k e => by cases e; exact h1)⟩
/-- The cells of samples. -/
def smC (M : List (Int × Nat)) : List Value := M.flatMap fun p => [.int .i64 p.1, .float .f64 p.2]
theorem smC_append (M N : List (Int × Nat)) : smC (M ++ N) = smC M ++ smC N := by unfold smC; rw [List.flatMap_append]
theorem smC_take {M : List (Int × Nat)} {k : Nat} {p : Int × Nat} (h : M[k]? = some p) : smC (M.take (k + 1)) = smC (M.take k) ++ [.int .i64 p.1, .float .f64 p.2] := by
  rw [List.take_add_one, h, smC_append]
  rfl
theorem smC_at {M : List (Int × Nat)} : ∀ {k : Nat} {p : Int × Nat}, M[k]? = some p → (smC M)[k * 2]? = some (.int .i64 p.1) ∧ (smC M)[k * 2 + 1]? = some (.float .f64 p.2) := by
  induction M with
  | nil => intro k p h; simp at h
  | cons q M ih =>
    intro k p h
    have e : smC (q :: M) = .int .i64 q.1 :: .float .f64 q.2 :: smC M := rfl
    rw [e]
    cases k with
    | zero => simp at h; subst h; exact ⟨rfl, rfl⟩
    | succ k =>
      have := ih (k := k) (p := p) (by simpa using h)
      rw [show (k + 1) * 2 = k * 2 + 1 + 1 by omega, show k * 2 + 1 + 1 + 1 = (k * 2 + 1) + 1 + 1 by omega]
      exact this
theorem smC_one (p : Int × Nat) : ∀ u ∈ [Value.int .i64 p.1, .float .f64 p.2], u.oneCell' = true := by
  intro u hu
  simp only [List.mem_cons, List.not_mem_nil, or_false] at hu
  rcases hu with rfl | rfl <;> rfl
theorem ycell2 (w : World) (x y : Value) (t : TypeId) : ∀ j u, [x, y][j]? = some u → (w.alloc (.cells #[x, y] t)).cell? ((⟨w.heap.size, 0, none⟩ : Addr).add j) = some u := by
  intro j u hj
  match j, hj with
  | 0, hj => simp at hj; subst hj; simp [Addr.add]
  | 1, hj => simp at hj; subst hj; simp [Addr.add]
  | n + 2, hj => simp at hj
set_option maxHeartbeats 3200000 in
set_option maxRecDepth 100000 in
theorem ysamples_any (rb mb : Nat) (L : List (Int × Nat)) (w : World) (h : RecAt w rb mb L) :
    Calls Try.prog 55 #[.pointer (some ⟨rb, 0, none⟩)] w fun e w' => ∃ v : Value, e = .returned v ∧ Hid (w'.ownsRow w.heap.size 32 2 v (onesL L true).length (smC (onesL L true))) ∧ Below w.heap.size w w' := by
  have HT := hid (yticks_any rb mb L true w h)
  have HR := hid h
  obtain ⟨i0, hi, hz0, hz1, hz2⟩ := info_parts Try.yinfoS
  have HM : Hid (∀ p ∈ onesL L true, rget L p.1 = some p.2 ∧ I64 p.1) := fun p hp => by
    have q := (List.mem_filter.1 hp).1
    have := h.ok.tick p q
    exact ⟨h.ok.get q, by unfold I64; omega⟩
  have hn4 := (h.ok.ones true).few
  clear h
  generalize onesL L true = M at *
  go_enter Try.func55, Try.ntmps55
  go_wp2_with fail
  refine Calls.mono HT.out ?_
  rintro e w1 ⟨v, ks, rfl, HO, HK, HL, hb⟩
  have HE : Hid (ks.length = M.length) := by
    have := congrArg List.length HK.out
    rw [List.length_mergeSort, List.length_map] at this
    exact this
  have HB := hid hb
  have HS := hid (ysort_any w.heap.size v ks w1 HO.out HL.out HB.out.size)
  rw [HK.out] at HS
  clear HT HO HL hb
  go_wp2_with fail
  refine Calls.mono HS.out ?_
  rintro e w2 ⟨rfl, HO2, hb2⟩
  have HB2 := hid (HB.out.trans hb2)
  rw [HE.out] at HO2
  obtain ⟨a, cap, rfl, HV⟩ := yshape HO2.out
  have HVH := hid HV
  clear HS HB hb2 HK HE HO2 HV
  go_wp2_with fail
  go_loopw [4, 13] (fun v x wr => ∃ k : Nat, k ≤ M.length ∧ x = .int .i64 (k : Int) ∧ Hid (wr.ownsRow w2.heap.size 32 2 v k (smC (M.take k))) ∧ Hid (Below w2.heap.size w2 wr)) (fun _ x _ => M.length - (intOf x).toNat)
  case atStart => exact ⟨0, Nat.zero_le _, rfl, World.ownsRow_nil _ _ _ _, Below.refl _ _⟩
  case round =>
    obtain ⟨k, hk, rfl, HO, HBW⟩ := hrel
    by_cases hlt : k < M.length
    · obtain ⟨p, hp⟩ : ∃ p, M[k]? = some p := ⟨_, List.getElem?_eq_getElem hlt⟩
      obtain ⟨t, b⟩ := p
      have HP := hid hp
      have hmem : (t, b) ∈ M := List.mem_of_getElem? hp
      have HG := HM.out _ hmem
      have ho := HO.out
      have hb := HBW.out
      have hsz := hb.size
      have HRW := hid (HR.out.later (HB2.out.trans (hb.mono HB2.out.size)))
      have hl : (Instr.lookup 99 (.map (some mb)) (.int .i64 t) false).run Try.prog wr = .ok (.float .f64 b) wr := by
        have q := ylook HRW.out.own HG.2 false
        rw [HG.1] at q
        exact q
      have c0 : wr.cell? ⟨rb, 0, none⟩ = some (.map (some mb)) := HRW.out.box.cell 0
      obtain ⟨g, rfl, hg, hc⟩ : ∃ g, a = some ⟨g, 0, none⟩ ∧ g < w2.heap.size ∧ ∀ j u, ((M.map (·.1)).map (Value.int .i64))[j]? = some u → w2.cell? ⟨g, j, none⟩ = some u := by
        rcases HVH.out with q | q
        · have := congrArg List.length q
          simp at this
          rw [this] at hlt
          simp at hlt
        · exact q
      have c1 : wr.cell? ⟨g, k, none⟩ = some (.int .i64 t) := (hb.cell (p := ⟨g, k, none⟩) hg).trans (hc k _ (by simp [hp]))
      have HS := hid (smC_take hp)
      clear HO HBW hp hmem HG hc
      generalize smC (M.take k) = R at *
      go_wp2_with (first
        | (at_builtin; refine wpList_append_own _ rfl _ _ 25 rfl w2.heap.size 32 i0 (.agg #[.int .i64 0, .float .f64 0]) 2 16 Try.underlying25 hi hz0 hz1 hz2 rfl (by decide) _ _ _ rfl (ho.alloc _) ⟨wr.heap.size, 0, none⟩ 1 1 [.int .i64 t, .float .f64 b] rfl rfl (ycell2 _ _ _ _) (smC_one (t, b)) (by unfold maxLen; omega) (by omega) (by simp; omega) ?_; intro v' w4 ho2 hg2 _)
        | go_in)
      have hb3 : Below w2.heap.size w2 w4 := (hb.alloc (by omega) _).grown hg2 (by simp; omega) (fun g hg => (ho.lt g hg).1)
      have HB3 := hid hb3
      have HO2 := hid ho2
      clear hg2 hl hb3 ho2
      go_wp2_with fail
      go_roundw
      case rel => exact ⟨k + 1, by omega, by go_num, by rw [HS.out]; exact HO2.out, HB3.out⟩
      case measure => simp [intOf]; omega
    · obtain rfl : k = M.length := by omega
      have hg2 : decide (((M.length : Nat) : Int) < ((M.length : Nat) : Int)) = false := by simp
      have HE : Hid (smC (M.take M.length) = smC M) := by rw [List.take_length]; rfl
      go_wp2_with fail
      all_goals first | (exfalso; omega) | (go_ret; exact ⟨_, rfl, yowns_base (HE.out ▸ HO.out) HB2.out.size, HB2.out.trans (HBW.out.mono HB2.out.size)⟩)
end Go.Proofs.Ytmigdomlakflfaa

/- package record: At, lookAt, appendGap, All. -/
namespace Go.Proofs.Ytmigdomlakflfaa
open Go.RowKit
set_option linter.unusedVariables false
set_option linter.unusedSimpArgs false

end Go.Proofs.Ytmigdomlakflfaa

/- package record: All, and the going over of its samples. -/
namespace Go.Proofs.Ytmigdomlakflfaa
open Go.RowKit Go.Shelf
set_option linter.unusedVariables false
set_option linter.unusedSimpArgs false
attribute [local go_sem] Oper.semAt_some

theorem ybt {a b c : World} (h : Below a.heap.size a b) (g : Below b.heap.size b c) : Below a.heap.size a c := h.trans (g.mono h.size)
theorem yown_put {w : World} {base e s b t : Nat} {v : Value} {n : Nat} {xs : List Value} {vs : Array Value} (h : w.ownsRow base e s v n xs) (hb : FBox w b t vs) (ht : e ≠ t) (j : Nat) (u : Value) : (w.setCell ⟨b, j, none⟩ u).ownsRow base e s v n xs := by
  refine ⟨h.1, h.2.imp id ?_⟩
  rintro ⟨g, cap, cur, rfl, h1, h2, r⟩
  refine ⟨g, cap, cur, rfl, h1, ?_, r⟩
  rw [Below.heap_setCell]
  · exact h2
  · rintro rfl
    unfold FBox at hb
    rw [h2] at hb
    injection hb with hb
    injection hb with _ hb
    exact ht hb
theorem ybox2 (w : World) (t : Nat) (x y u v : Value) : ∃ Y A0 A1, w.alloc (.cells #[x, y] t) = Y ∧ Y.setCell ⟨w.heap.size, 0, none⟩ u = A0 ∧ A0.setCell ⟨w.heap.size, 1, none⟩ v = A1 ∧ (Y.cell? ⟨w.heap.size, 0, none⟩ = some x ∧ A0.cell? ⟨w.heap.size, 1, none⟩ = some y) ∧ (Y.frozen? ⟨w.heap.size, 0, none⟩ = false ∧ A0.frozen? ⟨w.heap.size, 1, none⟩ = false) ∧ (A1.cell? ⟨w.heap.size, 0, none⟩ = some u ∧ A1.cell? ⟨w.heap.size, 1, none⟩ = some v) ∧ Hid (FBox A1 w.heap.size t #[u, v] ∧ Below w.heap.size w A1) := by
  have h0 := FBox.made w t #[x, y]
  have h1 := h0.set 0 u
  have h2 := h1.set 1 v
  exact ⟨_, _, _, rfl, rfl, rfl, ⟨h0.cell 0, h1.cell 1⟩, ⟨h0.free 0, h1.free 1⟩, ⟨h2.cell 0, h2.cell 1⟩, h2, ((((Below.refl _ w).alloc (Nat.le_refl _) _).setCell (p := ⟨w.heap.size, 0, none⟩) (Nat.le_refl _) _).setCell (p := ⟨w.heap.size, 1, none⟩) (Nat.le_refl _) _)⟩
theorem grownBy_of_below {w w' : World} (h : Below w.heap.size w w') : w.grownBy w' none := ⟨h.os, h.tape, h.output, h.size, fun k hk _ => h.block k hk⟩
end Go.Proofs.Ytmigdomlakflfaa

/- package record: Between, of every record and span. -/
namespace Go.Proofs.Ytmigdomlakflfaa
open Go.RowKit Go.Shelf
set_option linter.unusedVariables false
set_option linter.unusedSimpArgs false
attribute [local go_sem] Oper.semAt_some

/-- All that lay there but one block lies there still. -/
structure YdR (V W : World) (k : Nat) : Prop where
  size : V.heap.size ≤ W.heap.size
  same : ∀ b, b < V.heap.size → b ≠ k → W.heap[b]? = V.heap[b]?
theorem YdR.refl (V : World) (k : Nat) : YdR V V k := ⟨Nat.le_refl _, fun _ _ _ => rfl⟩
theorem YdR.put {V W : World} {k : Nat} (h : YdR V W k) (j : Nat) (v : Value) : YdR V (W.setCell ⟨k, j, none⟩ v) k := ⟨by simpa [World.setCell] using h.size, fun b hl hn => (Below.heap_setCell _ _ _ _ hn).trans (h.same b hl hn)⟩
theorem YdR.box {V W : World} {k b t : Nat} {vs : Array Value} (h : YdR V W k) (hF : FBox V b t vs) (hn : b ≠ k) : FBox W b t vs := (h.same b hF.lt hn).trans hF
theorem YdR.own {V W W' : World} {k : Nat} {row : Option Nat} (h : YdR V W k) (hg : W.grownBy W' row) (hr : ∀ r, row = some r → V.heap.size ≤ r) : YdR V W' k := ⟨Nat.le_trans h.size hg.size, fun b hl hn => (hg.block b (Nat.lt_of_lt_of_le hl h.size) (fun e => by have := hr b e.symm; omega)).trans (h.same b hl hn)⟩
/-- What stands while Between goes over the samples. -/
structure BtS (w w3 : World) (K0 : Nat) (Q : List (Int × Nat)) (W : World) : Prop where
  own : ∃ v, FBox W K0 25 #[v] ∧ W.ownsRow w3.heap.size 32 2 v Q.length (smC Q)
  rest : YdR w3 W K0
  bel : Below w.heap.size w W
theorem BtS.grow {w w3 A B : World} {K0 : Nat} {Q : List (Int × Nat)} {row : Option Nat} (h : BtS w w3 K0 Q A) (hk : K0 < w3.heap.size) (hw : w.heap.size ≤ w3.heap.size) (hg : A.grownBy B row) (hr : ∀ r, row = some r → w3.heap.size ≤ r ∧ ∃ o : Obj, A.heap[r]? = some o ∧ o.isCells = false) : BtS w w3 K0 Q B := by
  obtain ⟨v, h1, h2⟩ := h.own
  refine ⟨⟨v, ?_, h2.kept hg ?_⟩, h.rest.own hg (fun r e => (hr r e).1), h.bel.grown hg h.bel.size (fun k e => Nat.le_trans hw (hr k e).1)⟩
  · exact (hg.block K0 h1.lt (fun e => by have := (hr K0 e.symm).1; omega)).trans h1
  · rcases h2.2 with ⟨rfl, _⟩ | ⟨g, cap, cur, rfl, _, hh, _⟩
    · exact .inl rfl
    · right
      intro e
      obtain ⟨o, ho, hc⟩ := (hr g e.symm).2
      rw [hh] at ho
      injection ho with ho
      rw [← ho] at hc
      cases hc
end Go.Proofs.Ytmigdomlakflfaa

/- package record: Between refused, Gaps, of every record and span. -/
namespace Go.Proofs.Ytmigdomlakflfaa
open Go.RowKit
set_option linter.unusedVariables false
set_option linter.unusedSimpArgs false

end Go.Proofs.Ytmigdomlakflfaa

/- The laws' own for records: lists held against each other; awake. -/
namespace Go.Proofs.Ytmigdomlakflfaa
open Go.RowKit
set_option linter.unusedVariables false
set_option linter.unusedSimpArgs false

theorem ybt' {a b c : World} (h : Below a.heap.size a b) (g : Below b.heap.size b c) : Below a.heap.size a c := h.trans (g.mono h.size)
theorem RdV.get {w : World} {a : Option Addr} {xs : List Value} (h : RdV w a xs) {j : Nat} {u : Value} (hj : xs[j]? = some u) : ∃ g, a = some ⟨g, 0, none⟩ ∧ g < w.heap.size ∧ ∀ j u, xs[j]? = some u → w.cell? ⟨g, j, none⟩ = some u := by
  rcases h with rfl | h
  · simp at hj
  · exact h
end Go.Proofs.Ytmigdomlakflfaa

/- package record: From of any list of samples. -/
namespace Go.Proofs.Ytmigdomlakflfaa
open Go.RowKit
set_option linter.unusedVariables false
set_option linter.unusedSimpArgs false

/-- A list of samples in memory. -/
def RdS (w : World) (a : Option Addr) (xs : List (Int × Nat)) : Prop := xs = [] ∨ ∃ g o, a = some ⟨g, o, none⟩ ∧ g < w.heap.size ∧ ∀ j p, xs[j]? = some p → w.cell? ⟨g, o + j * 2, none⟩ = some (.int .i64 p.1) ∧ w.cell? ⟨g, o + j * 2 + 1, none⟩ = some (.float .f64 p.2)
theorem RdS.later {w w' : World} {B : Nat} {a : Option Addr} {xs : List (Int × Nat)} (h : RdS w a xs) (hb : Below w.heap.size w w') : RdS w' a xs := by
  rcases h with h | ⟨g, o, ha, hg, hc⟩
  · exact .inl h
  · have := hb.size
    refine .inr ⟨g, o, ha, by omega, fun j p hj => ?_⟩
    obtain ⟨e1, e2⟩ := hc j p hj
    exact ⟨(hb.cell (p := ⟨g, o + j * 2, none⟩) hg).trans e1, (hb.cell (p := ⟨g, o + j * 2 + 1, none⟩) hg).trans e2⟩
theorem RdS.of {w : World} {a : Option Addr} {xs : List (Int × Nat)} (h : RdV w a (smC xs)) : RdS w a xs := by
  rcases h with h | ⟨g, ha, hg, hc⟩
  · left
    cases xs with
    | nil => rfl
    | cons p r => simp [smC] at h
  · refine .inr ⟨g, 0, ha, hg, fun j p hj => ?_⟩
    have := smC_at hj
    rw [Nat.zero_add]
    exact ⟨hc _ _ this.1, hc _ _ this.2⟩
theorem RdS.get {w : World} {a : Option Addr} {xs : List (Int × Nat)} (h : RdS w a xs) {j : Nat} {p : Int × Nat} (hj : xs[j]? = some p) : ∃ g o, a = some ⟨g, o, none⟩ ∧ g < w.heap.size ∧ ∀ j p, xs[j]? = some p → w.cell? ⟨g, o + j * 2, none⟩ = some (.int .i64 p.1) ∧ w.cell? ⟨g, o + j * 2 + 1, none⟩ = some (.float .f64 p.2) := by
  rcases h with rfl | h
  · simp at hj
  · exact h
/-- What From comes to: the record, or the first error and its place. -/
def fromR : List (Int × Nat) → List (Int × Nat) → Nat → List (Int × Nat) × Option (Int × Nat)
  | L, [], _ => (L, none)
  | L, p :: r, i => if (addR L p.1 p.2).1 = 0 then fromR (addR L p.1 p.2).2 r (i + 1) else (L, some ((addR L p.1 p.2).1, i))
/-- What From hands back. -/
def fromV (rb : Nat) : Option (Int × Nat) → Value
  | none => .tuple #[.pointer (some ⟨rb, 0, none⟩), .agg #[.int .i64 0, .int .i64 0]]
  | some q => .tuple #[.pointer none, .agg #[.int .i64 q.1, .int .i64 (q.2 : Int)]]
theorem fromR_step {L : List (Int × Nat)} {xs : List (Int × Nat)} {k : Nat} {p : Int × Nat} (hp : xs[k]? = some p) : fromR L (xs.drop k) k = if (addR L p.1 p.2).1 = 0 then fromR (addR L p.1 p.2).2 (xs.drop (k + 1)) (k + 1) else (L, some ((addR L p.1 p.2).1, k)) := by
  obtain ⟨hl, e⟩ := List.getElem?_eq_some_iff.1 hp
  rw [List.drop_eq_getElem_cons hl, e, fromR]
/-- What From tells. -/
def FromT (w : World) (xs : List (Int × Nat)) (e : Ending) (w' : World) : Prop := ∃ rb mb, e = .returned (fromV rb (fromR [] xs 0).2) ∧ Hid (RecAt w' rb mb (fromR [] xs 0).1) ∧ Hid (w.heap.size ≤ mb ∧ w.heap.size ≤ rb) ∧ Below w.heap.size w w'
theorem RecAt.put {W : World} {rb mb b : Nat} {L : List (Int × Nat)} (h : RecAt W rb mb L) (h1 : rb ≠ b) (h2 : mb ≠ b) (j : Nat) (v : Value) : RecAt (W.setCell ⟨b, j, none⟩ v) rb mb L := h.kept (Below.heap_setCell _ _ _ _ h1) (Below.heap_setCell _ _ _ _ h2)
structure FrS (w : World) (rb mb : Nat) (L : List (Int × Nat)) (W : World) : Prop where
  bel : Below w.heap.size w W
  own : RecAt W rb mb L
  box : FBox W w.heap.size 28 #[.int .i64 0, .int .i64 0]
theorem FrS.later {w W W' : World} {rb mb : Nat} {L : List (Int × Nat)} (h : FrS w rb mb L W) (hb : Below W.heap.size W W') : FrS w rb mb L W' := ⟨ybt' h.bel hb, h.own.later hb, h.box.later hb h.box.lt⟩
theorem FrS.but {w W W' : World} {rb mb : Nat} {L L' : List (Int × Nat)} (h : FrS w rb mb L W) (hb : But mb W W') (hm : w.heap.size < mb) (hr : RecAt W' rb mb L') : FrS w rb mb L' W' := ⟨h.bel.trans (hb.below (Nat.le_of_lt hm) h.bel.size), hr, h.box.but hb (by omega)⟩
set_option maxHeartbeats 3200000 in
set_option maxRecDepth 100000 in
theorem yfrom_any (a : Option Addr) (n cap : Nat) (xs : List (Int × Nat)) (w : World) (hn : n ≤ 100000) (hl : xs.length = n) (hx : ∀ p ∈ xs, I64 p.1 ∧ p.2 < 18446744073709551616) (h : RdS w a xs) :
    Calls Try.prog 54 #[.slice a n cap] w (FromT w xs) := by
  obtain ⟨X, hX⟩ : ∃ X, w.alloc (.cells #[.int .i64 0, .int .i64 0] 28) = X := ⟨_, rfl⟩
  have HX : Hid (FBox X w.heap.size 28 #[.int .i64 0, .int .i64 0] ∧ Below w.heap.size w X) := by rw [← hX]; exact ⟨FBox.made _ _ _, (Below.refl _ _).alloc (Nat.le_refl _) _⟩
  have HN := hid (ynew_any X)
  have HD := hid h
  have HXS := hid hx
  clear h hx
  go_enter Try.func54, Try.ntmps54
  go_wp2_with fail
  clear hX
  refine Calls.mono HN.out ?_
  rintro e w1 ⟨rfl, R1, hb1⟩
  obtain ⟨rb, hrb⟩ : ∃ rb, X.heap.size + 1 = rb := ⟨_, rfl⟩
  obtain ⟨mb, hmb⟩ : ∃ mb, X.heap.size = mb := ⟨_, rfl⟩
  have hXm : w.heap.size < mb := by rw [← hmb]; exact HX.out.1.lt
  have hrm : w.heap.size < rb := by omega
  rw [hrb, hmb] at R1
  rw [hrb]
  have HB := hid (ybt' HX.out.2 hb1)
  have HF1 := hid (HX.out.1.later hb1 HX.out.1.lt)
  have HR1 := hid R1
  clear R1 hb1 hrb hmb HN HX
  go_wp2_with fail
  have sF : ∀ (W : World) (p : Addr) (y : Nat) (md : Mode), (store p (.float .f64 y) md).run Try.prog W = stored Try.prog W p (.float .f64 y) md := fun W p y md => run_store Try.prog W p _ md rfl
  go_loopw [11] (fun x wr => ∃ (k : Nat) (L : List (Int × Nat)), k ≤ n ∧ x = .int .i64 (k : Int) ∧ Hid (fromR L (xs.drop k) k = fromR [] xs 0) ∧ Hid (FrS w rb mb L wr)) (fun x _ => n - (intOf x).toNat)
  case atStart => exact ⟨0, [], Nat.zero_le _, rfl, rfl, ⟨HB.out, HR1.out, HF1.out⟩⟩
  case round =>
    obtain ⟨k, L, hk, rfl, HE, HS⟩ := hrel
    clear HB HR1 HF1
    by_cases hlt : k < n
    · obtain ⟨p, hp⟩ : ∃ p, xs[k]? = some p := ⟨_, List.getElem?_eq_getElem (by omega)⟩
      obtain ⟨t, b⟩ := p
      have HE2 := hid (HE.out)
      rw [fromR_step hp] at HE2
      obtain ⟨ht, hb⟩ := HXS.out _ (List.mem_of_getElem? hp)
      obtain ⟨g, o, rfl, hg, hc⟩ := HD.out.get hp
      obtain ⟨q0, q1⟩ := hc k _ hp
      have c0 : wr.cell? ⟨g, o + k * 2, none⟩ = some (.int .i64 t) := (HS.out.bel.cell (p := ⟨g, o + k * 2, none⟩) hg).trans q0
      have c1 : wr.cell? ⟨g, o + k * 2 + 1, none⟩ = some (.float .f64 b) := (HS.out.bel.cell (p := ⟨g, o + k * 2 + 1, none⟩) hg).trans q1
      have HTB : Hid (I64 t ∧ b < 18446744073709551616) := ⟨ht, hb⟩
      clear hp ht hb hc q0 q1 HE
      obtain ⟨Y, A0, A1, hY, hA0, hA1, ⟨y0, y1⟩, ⟨f0, f1⟩, ⟨z0, z1⟩, HBX⟩ := ybox2 wr 32 (.int .i64 0) (.float .f64 0) (.int .i64 t) (.float .f64 b)
      have HS4 := hid (HS.out.later HBX.out.2)
      have HA := hid (yadd_any rb mb L t b A1 HS4.out.own HTB.out.1 HTB.out.2)
      go_wp2_with fail
      clear hY hA0 hA1 y0 y1 f0 f1 z0 z1 c0 c1
      by_cases h0 : (addR L t b).1 = 0
      · rw [if_pos h0] at HE2
        rw [h0] at HA
        clear h0
        refine Calls.mono HA.out ?_
        rintro e w5 ⟨rfl, R5, k5⟩
        have HS5 := hid (HS4.out.but k5 hXm R5)
        clear R5 k5 HA HS4
        go_wp2_with fail
        go_roundw
        case rel => exact ⟨k + 1, _, by omega, by go_num, HE2.out, HS5.out⟩
        case measure => simp [intOf]; omega
      · rw [if_neg h0] at HE2
        rw [addR_no h0] at HA
        generalize (addR L t b).1 = z at *
        refine Calls.mono HA.out ?_
        rintro e w5 ⟨rfl, R5, k5⟩
        have HS5 := hid (HS4.out.but k5 hXm R5)
        clear R5 k5 HA HS4
        have d0 : w5.cell? ⟨w.heap.size, 0, none⟩ = some (.int .i64 0) := HS5.out.box.cell 0
        have d1 : w5.cell? ⟨w.heap.size, 1, none⟩ = some (.int .i64 0) := HS5.out.box.cell 1
        have q0 : w5.frozen? ⟨w.heap.size, 0, none⟩ = false := HS5.out.box.free 0
        have q1 : w5.frozen? ⟨w.heap.size, 1, none⟩ = false := HS5.out.box.free 1
        go_wp2_with fail
        have F1 := (HS5.out.box.set 0 (.int .i64 z)).set 1 (.int .i64 (k : Int))
        have e0 := F1.cell 0
        have e1 := F1.cell 1
        refine bodyPost_ret (v := Value.tuple #[.pointer none, .agg #[.int .i64 z, .int .i64 (k : Int)]]) (by simp [results, Try.results54, go_sem, e0, e1]) rfl ?_
        refine ⟨rb, mb, ?_, ?_, ⟨Nat.le_of_lt hXm, Nat.le_of_lt hrm⟩, (HS5.out.bel.setCell (p := ⟨w.heap.size, 0, none⟩) (Nat.le_refl _) _).setCell (p := ⟨w.heap.size, 1, none⟩) (Nat.le_refl _) _⟩
        · rw [← HE2.out]; rfl
        · rw [← HE2.out]
          exact (HS5.out.own.put (by omega) (by omega) 0 _).put (by omega) (by omega) 1 _
    · obtain rfl : k = n := by omega
      have HE2 := hid (HE.out)
      rw [List.drop_eq_nil_of_le (by omega), fromR] at HE2
      have d0 : wr.cell? ⟨w.heap.size, 0, none⟩ = some (.int .i64 0) := HS.out.box.cell 0
      have d1 : wr.cell? ⟨w.heap.size, 1, none⟩ = some (.int .i64 0) := HS.out.box.cell 1
      have q0 : wr.frozen? ⟨w.heap.size, 0, none⟩ = false := HS.out.box.free 0
      have q1 : wr.frozen? ⟨w.heap.size, 1, none⟩ = false := HS.out.box.free 1
      have hkk : ¬ (k : Int) < (k : Int) := by omega
      clear HE
      go_wp2_with fail
      have F1 := (HS.out.box.set 0 (.int .i64 0)).set 1 (.int .i64 0)
      have e0 := F1.cell 0
      have e1 := F1.cell 1
      refine bodyPost_ret (v := Value.tuple #[.pointer (some ⟨rb, 0, none⟩), .agg #[.int .i64 0, .int .i64 0]]) (by simp [results, Try.results54, go_sem, e0, e1]) rfl ?_
      refine ⟨rb, mb, ?_, ?_, ⟨Nat.le_of_lt hXm, Nat.le_of_lt hrm⟩, (HS.out.bel.setCell (p := ⟨w.heap.size, 0, none⟩) (Nat.le_refl _) _).setCell (p := ⟨w.heap.size, 1, none⟩) (Nat.le_refl _) _⟩
      · rw [← HE2.out]; rfl
      · rw [← HE2.out]
        exact (HS.out.own.put (by omega) (by omega) 0 _).put (by omega) (by omega) 1 _
end Go.Proofs.Ytmigdomlakflfaa

/- package clean: isOne, rising, inOrder. -/
namespace Go.Proofs.Ytmigdomlakflfaa
open Go.RowKit Go.Sort Go.Shelf Go.Lib
set_option linter.unusedVariables false
set_option linter.unusedSimpArgs false

theorem eisone_any (b : Nat) (w : World) (hb : b < 18446744073709551616) : Calls Try.prog 31 #[.float .f64 b] w fun e w' => e = .returned (.bool (isone b)) ∧ w' = w := by
  have H1 := hid (mIsNaN_any b w)
  have H2 := hid (mIsInf0_any b w hb)
  have e : isone b = (!isnan b && !isinf (b % 9223372036854775808)) := by
    unfold isone isnan isinf
    by_cases h1 : b % 9223372036854775808 < 9218868437227405312
    · have : ¬ 9218868437227405312 < b % 9223372036854775808 := by omega
      have : b % 9223372036854775808 ≠ 9218868437227405312 := by omega
      simp [*]
    · by_cases h2 : b % 9223372036854775808 = 9218868437227405312
      · simp [h2]
      · have : 9218868437227405312 < b % 9223372036854775808 := by omega
        simp [h1, h2, this]
  rw [e]
  generalize isnan b = N at *
  generalize isinf (b % 9223372036854775808) = I at *
  clear e hb
  cases N
  · go_enter Try.func31, Try.ntmps31
    go_wp2_with fail
    refine Calls.mono H1.out ?_
    rintro e w1 ⟨rfl, rfl⟩
    go_wp2_with fail
    refine Calls.mono H2.out ?_
    rintro e w1 ⟨rfl, rfl⟩
    go_wp2_with fail
    go_ret
    exact ⟨by simp, rfl⟩
  · go_enter Try.func31, Try.ntmps31
    go_wp2_with fail
    refine Calls.mono H1.out ?_
    rintro e w1 ⟨rfl, rfl⟩
    go_wp2_with fail
    go_ret
    exact ⟨by simp, rfl⟩
set_option maxHeartbeats 800000 in
set_option maxRecDepth 100000 in
theorem esign_any (x : Nat) (w : World) (hx : x < 18446744073709551616) : Calls Try.prog 50 #[.float .f64 x] w fun e w' => e = .returned (.bool (decide (9223372036854775808 ≤ x))) ∧ w' = w := by
  have H : ∀ V, (callFunc 65 #[.float .f64 x]).run Try.prog V = .ok (.value (.int .u64 (x : Int))) V := fun V => bits_run x V
  go_enter Try.func50, Try.ntmps50
  go_wp2
  go_ret
  refine ⟨?_, rfl⟩
  show Ending.returned (Value.bool (decide (wrap64 (x : Int) < 0))) = _
  have e : (wrap64 (x : Int) < 0) ↔ 9223372036854775808 ≤ x := by unfold wrap64; omega
  rw [decide_eq_decide.2 e]
set_option maxHeartbeats 1600000 in
set_option maxRecDepth 100000 in
theorem erising_any (x y : Nat) (w : World) (hx : Fi x) (hy : Fi y) : Calls Try.prog 30 #[.float .f64 x, .float .f64 y] w fun e w' => e = .returned (.int .i64 (risR x y)) ∧ w' = w := by
  have H1 := hid (esign_any x w hx.1)
  have H2 := hid (esign_any y w hy.1)
  have ho := yorder hx hy
  rcases Int.lt_trichotomy (sv x) (sv y) with h | h | h
  · have e : risR x y = -1 := if_pos (kz_of_lt hx hy h)
    have HE := hid e
    have hl : (FloatKind.f64.format.order x y == some .lt) = true := by rw [ho, Int.compare_eq_lt.2 h]; rfl
    clear ho e h
    go_enter Try.func30, Try.ntmps30
    go_wp2_with fail
    go_ret
    rw [HE.out]; exact ⟨rfl, rfl⟩
  · have hl : (FloatKind.f64.format.order x y == some .lt) = false := by rw [ho, h, Int.compare_eq_eq.2 rfl]; rfl
    have hg : (FloatKind.f64.format.order x y == some .gt) = false := by rw [ho, h, Int.compare_eq_eq.2 rfl]; rfl
    by_cases hs : decide (9223372036854775808 ≤ x) = decide (9223372036854775808 ≤ y)
    · have e : x = y := kz_same hx hy h (by
        have h1 := hx.1
        have h2 := hy.1
        have hs' := decide_eq_decide.1 hs
        by_cases ha : 9223372036854775808 ≤ x
        · have hb := hs'.1 ha
          rw [show x / 9223372036854775808 % 2 = 1 by omega, show y / 9223372036854775808 % 2 = 1 by omega]
        · have hb : ¬ 9223372036854775808 ≤ y := fun hb => ha (hs'.2 hb)
          rw [show x / 9223372036854775808 % 2 = 0 by omega, show y / 9223372036854775808 % 2 = 0 by omega])
      have e2 : risR x y = 0 := by rw [e]; unfold risR; rw [if_neg (by omega), if_neg (by omega)]
      have HE := hid e2
      rw [hs] at H1
      generalize decide (9223372036854775808 ≤ y) = B at *
      clear ho e e2 h hs hx hy
      go_enter Try.func30, Try.ntmps30
      go_wp2_with fail
      refine Calls.mono H1.out ?_
      rintro e w1 ⟨rfl, rfl⟩
      go_wp2_with fail
      refine Calls.mono H2.out ?_
      rintro e w1 ⟨rfl, rfl⟩
      go_wp2_with fail
      go_ret
      rw [HE.out]; exact ⟨rfl, rfl⟩
    · by_cases ha : 9223372036854775808 ≤ x
      · have hb : ¬ 9223372036854775808 ≤ y := fun hb => hs (by rw [decide_eq_true ha, decide_eq_true hb])
        have e2 : risR x y = -1 := by
          unfold risR
          rw [if_pos]
          unfold kz
          rw [if_neg (by omega), if_pos (by omega)]
          omega
        have HE := hid e2
        rw [decide_eq_true ha] at H1
        rw [decide_eq_false hb] at H2
        clear ho e2 h hs hx hy ha hb
        go_enter Try.func30, Try.ntmps30
        go_wp2_with fail
        refine Calls.mono H1.out ?_
        rintro e w1 ⟨rfl, rfl⟩
        go_wp2_with fail
        refine Calls.mono H2.out ?_
        rintro e w1 ⟨rfl, rfl⟩
        go_wp2_with fail
        refine Calls.mono H1.out ?_
        rintro e w1 ⟨rfl, rfl⟩
        go_wp2_with fail
        go_ret
        rw [HE.out]; exact ⟨rfl, rfl⟩
      · have hb : 9223372036854775808 ≤ y := by
          apply Classical.byContradiction
          intro hb
          exact hs (by rw [decide_eq_false ha, decide_eq_false hb])
        have e2 : risR x y = 1 := by
          have e3 : kz y < kz x := by
            unfold kz
            rw [if_neg (by omega), if_pos (by omega)]
            omega
          unfold risR
          rw [if_neg (by omega), if_pos e3]
        have HE := hid e2
        rw [decide_eq_false ha] at H1
        rw [decide_eq_true hb] at H2
        clear ho e2 h hs hx hy ha hb
        go_enter Try.func30, Try.ntmps30
        go_wp2_with fail
        refine Calls.mono H1.out ?_
        rintro e w1 ⟨rfl, rfl⟩
        go_wp2_with fail
        refine Calls.mono H2.out ?_
        rintro e w1 ⟨rfl, rfl⟩
        go_wp2_with fail
        refine Calls.mono H1.out ?_
        rintro e w1 ⟨rfl, rfl⟩
        go_wp2_with fail
        go_ret
        rw [HE.out]; exact ⟨rfl, rfl⟩
  · have e3 := kz_of_lt hy hx h
    have e : risR x y = 1 := by
      unfold risR
      rw [if_neg (by omega), if_pos e3]
    have HE := hid e
    have hl : (FloatKind.f64.format.order x y == some .lt) = false := by rw [ho, Int.compare_eq_gt.2 h]; rfl
    have hg : (FloatKind.f64.format.order x y == some .gt) = true := by rw [ho, Int.compare_eq_gt.2 h]; rfl
    clear ho e e3 h
    go_enter Try.func30, Try.ntmps30
    go_wp2_with fail
    go_ret
    rw [HE.out]; exact ⟨rfl, rfl⟩
/-- A finite height. -/
def Fl := { x : Nat // Fi x }
def flE (x : Fl) : Value := .float .f64 x.1
theorem erow (xs : List Nat) (h : ∀ x ∈ xs, Fi x) : ∃ ss : List Fl, ss.map flE = xs.map (Value.float .f64) ∧ ss.map (fun a : Fl => a.1) = xs := by
  induction xs with
  | nil => exact ⟨[], rfl, rfl⟩
  | cons x xs ih =>
    obtain ⟨ss, e1, e2⟩ := ih (fun y hy => h y (List.mem_cons_of_mem _ hy))
    refine ⟨⟨x, h x List.mem_cons_self⟩ :: ss, ?_, ?_⟩
    · show flE _ :: ss.map flE = _
      rw [e1]
      rfl
    · show x :: ss.map (fun a : Fl => a.1) = _
      rw [e2]
theorem elt (x y : Fl) : ltOf (fun a b : Fl => risR a.1 b.1) x y = decide (kz x.1 < kz y.1) := by
  unfold ltOf risR
  by_cases h1 : kz x.1 < kz y.1
  · simp [h1]
  · by_cases h2 : kz y.1 < kz x.1 <;> simp [h1, h2]
set_option maxHeartbeats 1600000 in
set_option maxRecDepth 100000 in
theorem esort_any (base : Nat) (v : Value) (xs : List Nat) (w : World) (h : w.ownsRow base 22 1 v xs.length (xs.map (Value.float .f64))) (hf : ∀ x ∈ xs, Fi x) (hl : xs.length ≤ 1000000) (hbs : base ≤ w.heap.size) :
    Calls Try.prog 49 #[v, .func (.func 30) #[] #[]] w fun e w' => e = .returned (.tuple #[]) ∧ Hid (w'.ownsRow base 22 1 v xs.length ((xs.mergeSort (fun x y => decide (kz x ≤ kz y))).map (Value.float .f64))) ∧ Below base w w' := by
  haveI : Inhabited Fl := ⟨⟨0, by unfold Fi; decide⟩⟩
  obtain ⟨ss, e1, e2⟩ := erow xs hf
  have hls : ss.length = xs.length := by rw [← e2, List.length_map]
  rcases h.2 with ⟨rfl, h0⟩ | ⟨g, cap, cur, rfl, h1, h2, h3, h4, h5, h6⟩
  · rw [h0]
    have hx : xs = [] := by
      cases xs with
      | nil => rfl
      | cons a b => simp at h0
    subst hx
    refine Calls.mono (Try.slices_SortFunc_none (α := Fl) none 0 _ w) ?_
    rintro e w' ⟨rfl, rfl⟩
    refine ⟨rfl, ?_, Below.refl _ _⟩
    rw [List.mergeSort_nil]
    exact World.ownsRow_nil _ _ _ _
  · have eg : ∀ args w, (callFunc 30 args).run Try.prog w = .ok (.enter 30 args) w := enters_of Try.func30 (by kernel_rfl) rfl
    have hcmp : CmpReads Try.prog 30 #[] flE (fun a b : Fl => risR a.1 b.1) g 0 ss.toArray.size w := fun m os dk hs x y => by
      refine Calls.mono (erising_any x.1 y.1 _ x.2 y.2) ?_
      rintro e w' ⟨rfl, rfl⟩
      exact ⟨rfl, 0, rfl⟩
    have hO : SWO (ltOf (fun a b : Fl => risR a.1 b.1)) := by
      refine ⟨fun x => ?_, fun x y z a b => ?_, fun x y z a b => ?_⟩
      · rw [elt]; simp
      · rw [elt] at *; simp at *; omega
      · rw [elt] at *; simp at *; omega
    have hT : ∀ x y : Fl, ltOf (fun a b : Fl => risR a.1 b.1) x y = false → ltOf (fun a b : Fl => risR a.1 b.1) y x = false → x = y := fun x y a b => by
      rw [elt] at *
      simp at *
      exact Subtype.ext (kz_inj (by omega))
    have hH : Holds flE w g 0 ss.toArray := holdsG flE h2 (by rw [hls, e1]; rw [Nat.mul_one] at h6; exact h6)
    have hcon := Try.slices_SortFunc_total flE (fun _ => rfl) (fun a b : Fl => risR a.1 b.1) hO 30 #[] g 0 cap ss.toArray w eg hcmp.lays hH (Array.getElem?_eq_some_iff.1 h2).1 (by simp; omega) hT
    rw [List.size_toArray, hls] at hcon
    refine Calls.mono hcon ?_
    rintro e w' ⟨rfl, n, os, rfl⟩
    have q := ownsG flE (w := w) (base := base) (g := g) (cap := cap) (n := n) (e := 22) (os := os) (cur := cur) (ss := ss) (ts := ss.mergeSort fun x y => !(ltOf (fun a b : Fl => risR a.1 b.1)) y x) (List.length_mergeSort ss) h1 h2 (by omega) h4 h5
    have hm : (ss.mergeSort fun x y => !(ltOf (fun a b : Fl => risR a.1 b.1)) y x).map flE = (xs.mergeSort (fun x y => decide (kz x ≤ kz y))).map (Value.float .f64) := by
      have h9 : (ss.mergeSort fun x y => !(ltOf (fun a b : Fl => risR a.1 b.1)) y x).map (fun a : Fl => a.1) = xs.mergeSort (fun x y => decide (kz x ≤ kz y)) := by
        rw [← e2]
        refine List.map_mergeSort (fun a _ b _ => ?_)
        rw [elt]
        by_cases hk : kz a.1 ≤ kz b.1
        · rw [decide_eq_true hk, decide_eq_false (by omega)]; rfl
        · rw [decide_eq_false hk, decide_eq_true (by omega)]; rfl
      rw [← h9, List.map_map]
      rfl
    rw [hm, hls] at q
    exact ⟨rfl, q, (Below.refl _ _).grown (grownG flE _) hbs (fun k e => by cases e; exact h1)⟩
end Go.Proofs.Ytmigdomlakflfaa

/- package clean: inOrder, Median. -/
namespace Go.Proofs.Ytmigdomlakflfaa
open Go.RowKit
set_option linter.unusedVariables false
set_option linter.unusedSimpArgs false

/-- A list of heights in memory. -/
def RdH (w : World) (a : Option Addr) (xs : List Nat) : Prop := xs = [] ∨ ∃ g o, a = some ⟨g, o, none⟩ ∧ g < w.heap.size ∧ ∀ j x, xs[j]? = some x → w.cell? ⟨g, o + j, none⟩ = some (.float .f64 x)
theorem RdH.later {w w' : World} {a : Option Addr} {xs : List Nat} (h : RdH w a xs) (hb : Below w.heap.size w w') : RdH w' a xs := by
  rcases h with h | ⟨g, o, ha, hg, hc⟩
  · exact .inl h
  · have := hb.size
    exact .inr ⟨g, o, ha, by omega, fun j x hj => (hb.cell (p := ⟨g, o + j, none⟩) hg).trans (hc j x hj)⟩
theorem RdH.get {w : World} {a : Option Addr} {xs : List Nat} (h : RdH w a xs) {j x : Nat} (hj : xs[j]? = some x) : ∃ g o, a = some ⟨g, o, none⟩ ∧ g < w.heap.size ∧ ∀ j x, xs[j]? = some x → w.cell? ⟨g, o + j, none⟩ = some (.float .f64 x) := by
  rcases h with rfl | h
  · simp at hj
  · exact h
theorem RdH.of {w : World} {a : Option Addr} {xs : List Nat} (h : RdV w a (xs.map (Value.float .f64))) : RdH w a xs := by
  rcases h with h | ⟨g, ha, hg, hc⟩
  · left
    simpa using h
  · exact .inr ⟨g, 0, ha, hg, fun j x hj => by rw [Nat.zero_add]; exact hc j _ (by simp [hj])⟩
theorem ones_takeF {xs : List Nat} {k x : Nat} (h : xs[k]? = some x) : (xs.take (k + 1)).filter isone = (xs.take k).filter isone ++ (if isone x then [x] else []) := by
  rw [List.take_add_one, h, List.filter_append]
  congr 1
  cases hx : isone x <;> simp [hx]
set_option maxHeartbeats 3200000 in
set_option maxRecDepth 100000 in
theorem einorder_any (a : Option Addr) (n cap : Nat) (xs : List Nat) (w : World) (hn : n ≤ 1000000) (hl : xs.length = n) (hx : ∀ x ∈ xs, x < 18446744073709551616) (h : RdH w a xs) :
    Calls Try.prog 29 #[.slice a n cap, .func (.func 30) #[] #[]] w fun e w' => ∃ v : Value, e = .returned v ∧ Hid (w'.ownsRow w.heap.size 22 1 v (srtF xs).length ((srtF xs).map (Value.float .f64))) ∧ Below w.heap.size w w' := by
  obtain ⟨i0, hi, hz0, hz1, hz2⟩ := info_parts Try.infoF
  have HD := hid h
  have HX := hid hx
  clear h hx
  go_enter Try.func29, Try.ntmps29
  go_wp2_with fail
  go_loopw [5, 10] (fun v x wr => ∃ k : Nat, k ≤ n ∧ x = .int .i64 (k : Int) ∧ Hid (wr.ownsRow w.heap.size 22 1 v ((xs.take k).filter isone).length (((xs.take k).filter isone).map (Value.float .f64))) ∧ Hid (Below w.heap.size w wr)) (fun _ x _ => n - (intOf x).toNat)
  case atStart => exact ⟨0, Nat.zero_le _, rfl, World.ownsRow_nil _ _ _ _, Below.refl _ _⟩
  case round =>
    obtain ⟨k, hk, rfl, HO, HW⟩ := hrel
    by_cases hlt : k < n
    · obtain ⟨x, hp⟩ : ∃ p, xs[k]? = some p := ⟨_, List.getElem?_eq_getElem (by omega)⟩
      have HT := hid (ones_takeF hp)
      have HOne := hid (fun V => eisone_any x V (HX.out _ (List.mem_of_getElem? hp)))
      obtain ⟨g, o, rfl, hg, hc⟩ := HD.out.get hp
      have c1 : wr.cell? ⟨g, o + k, none⟩ = some (.float .f64 x) := (HW.out.cell (p := ⟨g, o + k, none⟩) hg).trans (hc _ _ hp)
      have hle : ((xs.take k).filter isone).length ≤ k := Nat.le_trans (List.length_filter_le _ _) (by rw [List.length_take]; omega)
      have hsz := HW.out.size
      clear hp hc
      generalize (xs.take k).filter isone = R at *
      cases hone : isone x
      · rw [hone] at HOne HT
        clear hone
        rw [if_neg (by decide), List.append_nil] at HT
        go_wp2_with fail
        refine Calls.mono (HOne.out _) ?_
        rintro e w2 ⟨rfl, rfl⟩
        go_wp2_with fail
        go_roundw
        case rel => exact ⟨k + 1, by omega, by go_num, by rw [HT.out]; exact HO.out, HW.out⟩
        case measure => simp [intOf]; omega
      · rw [hone] at HOne HT
        clear hone
        rw [if_pos rfl] at HT
        go_wp2_with fail
        refine Calls.mono (HOne.out _) ?_
        rintro e w2 ⟨rfl, rfl⟩
        have ho := HO.out
        go_wp2_with (first
          | (at_builtin; refine wpList_append_own _ rfl _ _ 37 rfl w.heap.size 22 i0 (.float .f64 0) 1 8 Try.underlying37 hi hz0 hz1 hz2 rfl (by decide) _ _ _ rfl (ho.alloc _) ⟨w2.heap.size, 0, none⟩ 1 1 [.float .f64 x] rfl rfl (cell_one_new _ _ _) (by simp [Value.oneCell']) (by unfold maxLen; omega) (by omega) (by simp; omega) ?_; intro v' w4 ho4 hg4 _)
          | go_in)
        have HB4 := hid ((HW.out.alloc (by omega) _).grown hg4 (by simp; omega) (fun g hg => (ho.lt g hg).1))
        have HO4 := hid ho4
        clear hg4 ho4
        go_wp2_with fail
        go_roundw
        case rel =>
          refine ⟨k + 1, by omega, by go_num, ?_, HB4.out⟩
          rw [HT.out, List.length_append, List.map_append]
          exact HO4.out
        case measure => simp [intOf]; omega
    · obtain rfl : k = n := by omega
      have hkk : ¬ (k : Int) < (k : Int) := by omega
      have hE : xs.take k = xs := by rw [← hl]; exact List.take_length
      rw [hE] at HO
      have HS := hid (esort_any w.heap.size _ (xs.filter isone) wr HO.out (fun x hx => by
        have := List.mem_filter.1 hx
        exact Fi.of (HX.out x this.1) this.2) (Nat.le_trans (List.length_filter_le _ _) (by omega)) HW.out.size)
      have HLn := hid (srtF_len xs)
      clear hE
      go_wp2_with fail
      refine Calls.mono HS.out ?_
      rintro e w2 ⟨rfl, HO2, hb2⟩
      have HB2 := hid (HW.out.trans hb2)
      clear hb2 HS HW HO
      go_wp2_with fail
      go_ret
      exact ⟨_, rfl, by rw [HLn.out]; exact HO2.out, HB2.out⟩
theorem fn_some {op : BinOp} {x y r : Nat} (V : World) (h : floatBits op .f64 x y = some r) : FN op x y r := by
  have q := fval_fn op V x y
  unfold fval at q
  rw [h] at q
  exact q
theorem ydrewMM {B n : Nat} {a w : World} (h : Below B a w) : Below B a (w.drewN n) := by
  induction n with
  | zero => exact h
  | succ n ih => exact ih.drew
/-- A half of a finite height is a float. -/
theorem half_some {x : Nat} (hx : Fi x) : ∃ p, floatBits .quo .f64 x 4611686018427387904 = some p := by
  obtain ⟨m, a, e1, v1⟩ := read_num hx.2
  have e2 : Ieee.double.read 4611686018427387904 = .number false 4503599627370496 (-51) := by decide
  exact ⟨_, show (((Ieee.double.read x).quotient _ (Ieee.double.read 4611686018427387904)).map Ieee.double.write) = some _ by
    rw [e1, e2]
    simp only [Ieee.Datum.quotient]
    rfl⟩
/-- What Median tells of heights in their order. -/
def MedT (S : List Nat) (r : Nat) (o : Bool) : Prop := (S = [] ∧ r = 0 ∧ o = false) ∨ (S.length % 2 = 1 ∧ o = true ∧ S[S.length / 2]? = some r) ∨ (S ≠ [] ∧ S.length % 2 = 0 ∧ o = true ∧ ∃ a b p q, S[S.length / 2 - 1]? = some a ∧ S[S.length / 2]? = some b ∧ FN .quo a 4611686018427387904 p ∧ FN .quo b 4611686018427387904 q ∧ FN .add p q r)
set_option maxHeartbeats 3200000 in
set_option maxRecDepth 100000 in
theorem emedian_any (a : Option Addr) (n cap : Nat) (xs : List Nat) (w : World) (hn : n ≤ 1000000) (hl : xs.length = n) (hx : ∀ x ∈ xs, x < 18446744073709551616) (h : RdH w a xs) :
    Calls Try.prog 11 #[.slice a n cap] w fun e w' => ∃ (r : Nat) (o : Bool), e = .returned (.tuple #[.float .f64 r, .bool o]) ∧ Hid (MedT (srtF xs) r o) ∧ Below w.heap.size w w' := by
  have HI := hid (einorder_any a n cap xs w hn hl hx h)
  have hls : (srtF xs).length ≤ 1000000 := by rw [srtF_len]; exact Nat.le_trans (List.length_filter_le _ _) (by omega)
  have rD := fquo_run Try.prog 22
  have rA := fadd_run Try.prog 22
  have HF : Hid (∀ x ∈ srtF xs, Fi x) := fun x h => by
    have := srtF_mem.1 h
    exact Fi.of (hx x this.1) this.2
  clear h hx hl hn
  generalize srtF xs = S at *
  go_enter Try.func11, Try.ntmps11
  go_wp2_with fail
  refine Calls.mono HI.out ?_
  rintro e w1 ⟨v, rfl, HO, hb1⟩
  obtain ⟨a1, c1, rfl, hV⟩ := yshape HO.out
  have HV := hid (RdH.of hV)
  have HB := hid hb1
  clear hb1 hV HO HI
  by_cases h0 : S.length = 0
  · obtain rfl : S = [] := List.eq_nil_of_length_eq_zero h0
    go_wp2_with fail
    go_returns
    exact ⟨0, false, rfl, .inl ⟨rfl, rfl, rfl⟩, HB.out⟩
  · obtain ⟨g, o, rfl, hg, hc⟩ := HV.out.get (List.getElem?_eq_getElem (show S.length / 2 < S.length by omega))
    by_cases h1 : S.length % 2 = 1
    · have hd : ((S.length : Nat) : Int).tmod 2 = 1 := by
        rw [show ((S.length : Nat) : Int).tmod 2 = ((S.length % 2 : Nat) : Int) from rfl, h1]
        rfl
      have hq : ((S.length : Nat) : Int).tdiv 2 = ((S.length / 2 : Nat) : Int) := rfl
      obtain ⟨x, hx⟩ : ∃ x, S[S.length / 2]? = some x := ⟨_, List.getElem?_eq_getElem (show S.length / 2 < S.length by omega)⟩
      have HX := hid hx
      have cx := hc _ _ hx
      have hz : ¬ ((S.length : Nat) : Int) = 0 := by omega
      have HH : Hid (S.length % 2 = 1) := h1
      have hlt : ((S.length / 2 : Nat) : Int) < ((S.length : Nat) : Int) := by omega
      clear hx hc h1
      go_wp2_with fail
      go_returns
      refine ⟨x, true, rfl, .inr (.inl ⟨HH.out, rfl, HX.out⟩), HB.out⟩
    · have hd : ((S.length : Nat) : Int).tmod 2 = 0 := by
        rw [show ((S.length : Nat) : Int).tmod 2 = ((S.length % 2 : Nat) : Int) from rfl, show S.length % 2 = 0 by omega]
        rfl
      have hq : ((S.length : Nat) : Int).tdiv 2 = ((S.length / 2 : Nat) : Int) := rfl
      obtain ⟨x, hx⟩ : ∃ x, S[S.length / 2 - 1]? = some x := ⟨_, List.getElem?_eq_getElem (show S.length / 2 - 1 < S.length by omega)⟩
      obtain ⟨y, hy⟩ : ∃ x, S[S.length / 2]? = some x := ⟨_, List.getElem?_eq_getElem (show S.length / 2 < S.length by omega)⟩
      obtain ⟨p, hp⟩ := half_some (HF.out x (List.mem_of_getElem? hx))
      obtain ⟨q, hqq⟩ := half_some (HF.out y (List.mem_of_getElem? hy))
      have r1 : ∀ V, (binOp .quo 22 (.float .f64 x) (.float .f64 4611686018427387904)).run Try.prog V = .ok (.float .f64 p) V := fun V => run_float_arith V _ _ _ _ _ _ hp
      have r2 : ∀ V, (binOp .quo 22 (.float .f64 y) (.float .f64 4611686018427387904)).run Try.prog V = .ok (.float .f64 q) V := fun V => run_float_arith V _ _ _ _ _ _ hqq
      have HX := hid hx
      have HY := hid hy
      have HP := hid hp
      have HQ := hid hqq
      have cx := hc _ _ hx
      have cy := hc _ _ hy
      have hz : ¬ ((S.length : Nat) : Int) = 0 := by omega
      have HH : Hid (S.length % 2 = 0) := by show _ = _; omega
      have hlt : ((S.length / 2 : Nat) : Int) < ((S.length : Nat) : Int) := by omega
      have hlt2 : ((S.length / 2 : Nat) : Int) - 1 = ((S.length / 2 - 1 : Nat) : Int) := by omega
      clear hx hy hc h1 hp hqq rD
      go_wp2_with fail
      go_quiet (fail)
      go_wp2_with fail
      go_returns
      refine ⟨_, true, rfl, .inr (.inr ⟨?_, HH.out, rfl, x, y, p, q, HX.out, HY.out, fn_some w1 HP.out, fn_some w1 HQ.out, fval_fn .add _ p q⟩), fwld_below _ _ _ (ydrewMM HB.out)⟩
      rintro rfl
      simp at h0
end Go.Proofs.Ytmigdomlakflfaa

/- package clean: Rising, onLine, appendLine. -/
namespace Go.Proofs.Ytmigdomlakflfaa
open Go.RowKit
set_option linter.unusedVariables false
set_option linter.unusedSimpArgs false

theorem rise_adj : ∀ {xs : List (Int × Nat)}, (∀ i p q, xs[i]? = some p → xs[i + 1]? = some q → p.1 < q.1) → xs.Pairwise (fun p q => p.1 < q.1)
  | [], _ => .nil
  | [x], _ => by simp
  | x :: y :: r, h => by
    have ih : (y :: r).Pairwise (fun p q => p.1 < q.1) := rise_adj (fun i p q hp hq => h (i + 1) p q (by simpa using hp) (by simpa using hq))
    have hxy := h 0 x y rfl rfl
    refine List.pairwise_cons.2 ⟨fun p hp => ?_, ih⟩
    rcases List.mem_cons.1 hp with rfl | hp
    · exact hxy
    · have := (List.pairwise_cons.1 ih).1 p hp
      omega
theorem adj_rise {xs : List (Int × Nat)} (h : xs.Pairwise (fun p q => p.1 < q.1)) {i : Nat} {p q : Int × Nat} (hp : xs[i]? = some p) (hq : xs[i + 1]? = some q) : p.1 < q.1 := by
  obtain ⟨l1, e1⟩ := List.getElem?_eq_some_iff.1 hp
  obtain ⟨l2, e2⟩ := List.getElem?_eq_some_iff.1 hq
  have := List.pairwise_iff_getElem.1 h i (i + 1) l1 l2 (by omega)
  rw [e1, e2] at this
  exact this
theorem fwld_cell (op : BinOp) (V : World) (x y : Nat) (p : Addr) : (fwld op V x y).cell? p = V.cell? p := by
  unfold fwld
  split <;> rfl
/-- What Rising tells. -/
def RisT (w : World) (xs : List (Int × Nat)) (e : Ending) (w' : World) : Prop := ∃ b : Bool, e = .returned (.bool b) ∧ Hid (b = true ↔ xs.Pairwise (fun p q => p.1 < q.1)) ∧ Below w.heap.size w w'
set_option maxHeartbeats 1600000 in
set_option maxRecDepth 100000 in
theorem eRising_any (a : Option Addr) (n cap : Nat) (xs : List (Int × Nat)) (w : World) (hn : n ≤ 1000000) (hl : xs.length = n) (h : RdS w a xs) :
    Calls Try.prog 22 #[.slice a n cap] w (RisT w xs) := by
  have HD := hid h
  clear h
  go_enter Try.func22, Try.ntmps22
  go_wp2_with fail
  go_loopw [3] (fun x wr => ∃ k : Nat, 1 ≤ k ∧ (k ≤ n ∨ k = 1) ∧ x = .int .i64 (k : Int) ∧ Hid (∀ i p q, i + 1 < k → xs[i]? = some p → xs[i + 1]? = some q → p.1 < q.1) ∧ Hid (Below w.heap.size w wr)) (fun x _ => n + 1 - (intOf x).toNat)
  case atStart => exact ⟨1, Nat.le_refl _, .inr rfl, rfl, fun i p q h => by omega, Below.refl _ _⟩
  case round =>
    obtain ⟨k, hk1, hk2, rfl, HL, HW⟩ := hrel
    by_cases hlt : k < n
    · obtain ⟨j, rfl⟩ : ∃ j, k = j + 1 := ⟨k - 1, by omega⟩
      obtain ⟨p, hp⟩ : ∃ p, xs[j]? = some p := ⟨_, List.getElem?_eq_getElem (by omega)⟩
      obtain ⟨q, hq⟩ : ∃ p, xs[j + 1]? = some p := ⟨_, List.getElem?_eq_getElem (by omega)⟩
      obtain ⟨g, o, rfl, hg, hc⟩ := HD.out.get hp
      have c0 : wr.cell? ⟨g, o + j * 2, none⟩ = some (.int .i64 p.1) := (HW.out.cell (p := ⟨g, o + j * 2, none⟩) hg).trans (hc _ _ hp).1
      have c1 : wr.cell? ⟨g, o + (j + 1) * 2, none⟩ = some (.int .i64 q.1) := (HW.out.cell (p := ⟨g, o + (j + 1) * 2, none⟩) hg).trans (hc _ _ hq).1
      have HP := hid hp
      have HQ := hid hq
      have hj0 : (((j + 1 : Nat) : Int)) - 1 = (j : Int) := by omega
      have hj1 : ((j + 1 : Nat) : Int) < (n : Int) := by omega
      have hj2 : (j : Int) < (n : Int) := by omega
      clear hp hq hc
      by_cases hpq : p.1 < q.1
      · have hpq2 : ¬ q.1 ≤ p.1 := by omega
        have HPQ := hid hpq
        go_wp2_with fail
        go_quiet (fail)
        go_wp2_with fail
        refine ⟨⟨j + 2, by omega, .inl (by omega), by go_num, fun i p' q' h h1 h2 => ?_, ydrewMM HW.out⟩, by simp [intOf]; omega⟩
        rcases Nat.lt_or_ge (i + 1) (j + 1) with h3 | h3
        · exact HL.out i p' q' h3 h1 h2
        · obtain rfl : i = j := by omega
          rw [HP.out] at h1
          rw [HQ.out] at h2
          injection h1 with h1
          injection h2 with h2
          rw [← h1, ← h2]
          exact HPQ.out
      · have hpq2 : q.1 ≤ p.1 := by omega
        have HPQ := hid hpq
        go_wp2_with fail
        go_quiet (fail)
        go_wp2_with fail
        go_ret
        refine ⟨false, rfl, ⟨fun h => (by cases h), fun h => ?_⟩, ydrewMM HW.out⟩
        have h1 := adj_rise h HP.out HQ.out
        have h2 := HPQ.out
        omega
    · have hkk : ¬ (k : Int) < (n : Int) := by omega
      have HPw : Hid (xs.Pairwise (fun p q => p.1 < q.1)) := rise_adj (fun i p q hp hq => HL.out i p q (by have := (List.getElem?_eq_some_iff.1 hq).1; omega) hp hq)
      go_wp2_with fail
      go_ret
      exact ⟨true, rfl, ⟨fun _ => HPw.out, fun _ => rfl⟩, HW.out⟩
/-- What stands on a line, each step rounded. -/
def LineT (s : Int) (b : Nat) (t : Int) (c : Nat) (x : Int) (r : Nat) : Prop := ∃ d p m, FN .sub c b d ∧ FN .quo (floatOfInt .f64 (x - s)) (floatOfInt .f64 (t - s)) p ∧ FN .mul d p m ∧ FN .add b m r
set_option maxHeartbeats 1600000 in
set_option maxRecDepth 100000 in
theorem eline_any (s : Int) (b : Nat) (t : Int) (c : Nat) (x : Int) (w : World) (h1 : 0 ≤ s ∧ s ≤ x) (h2 : x ≤ t ∧ t ≤ 1048576) :
    Calls Try.prog 56 #[.agg #[.int .i64 s, .float .f64 b], .agg #[.int .i64 t, .float .f64 c], .int .i64 x] w fun e w' => ∃ r, e = .returned (.float .f64 r) ∧ Hid (LineT s b t c x r) ∧ Below w.heap.size w w' := by
  have rS := fsub_run Try.prog 22
  have rD := fquo_run Try.prog 22
  have rM := fmul_run Try.prog 22
  have rA := fadd_run Try.prog 22
  obtain ⟨X, hX⟩ : ∃ X, (w.alloc (.cells #[.int .i64 s, .float .f64 b] 32)).alloc (.cells #[.int .i64 t, .float .f64 c] 32) = X := ⟨_, rfl⟩
  have HX : Hid (FBox X w.heap.size 32 #[.int .i64 s, .float .f64 b] ∧ FBox X (w.heap.size + 1) 32 #[.int .i64 t, .float .f64 c] ∧ Below w.heap.size w X) := by
    rw [← hX]
    have q1 := FBox.made w 32 #[.int .i64 s, .float .f64 b]
    have q2 := FBox.made (w.alloc (.cells #[.int .i64 s, .float .f64 b] 32)) 32 #[.int .i64 t, .float .f64 c]
    rw [show (w.alloc (.cells #[.int .i64 s, .float .f64 b] 32)).heap.size = w.heap.size + 1 by simp] at q2
    exact ⟨q1.later ((Below.refl _ _).alloc (Nat.le_refl _) _) q1.lt, q2, ((Below.refl _ _).alloc (Nat.le_refl _) _).alloc (by simp) _⟩
  have c0 : X.cell? ⟨w.heap.size, 0, none⟩ = some (.int .i64 s) := HX.out.1.cell 0
  have c1 : X.cell? ⟨w.heap.size, 1, none⟩ = some (.float .f64 b) := HX.out.1.cell 1
  have d0 : X.cell? ⟨w.heap.size + 1, 0, none⟩ = some (.int .i64 t) := HX.out.2.1.cell 0
  have d1 : X.cell? ⟨w.heap.size + 1, 1, none⟩ = some (.float .f64 c) := HX.out.2.1.cell 1
  have hFc := fwld_cell
  go_enter Try.func56, Try.ntmps56
  go_wp2_with fail
  go_ret
  exact ⟨_, rfl, ⟨_, _, _, fval_fn _ _ _ _, fval_fn _ _ _ _, fval_fn _ _ _ _, fval_fn _ _ _ _⟩, fwld_below _ _ _ (fwld_below _ _ _ (fwld_below _ _ _ (fwld_below _ _ _ HX.out.2.2)))⟩
end Go.Proofs.Ytmigdomlakflfaa

/- package clean: appendLine. -/
namespace Go.Proofs.Ytmigdomlakflfaa
open Go.RowKit
set_option linter.unusedVariables false
set_option linter.unusedSimpArgs false

/-- What is put in between two samples. -/
def LineL (p q : Int × Nat) (M : List (Int × Nat)) : Prop := (3 < q.1 - p.1 - 1 ∧ M = []) ∨ (q.1 - p.1 - 1 ≤ 3 ∧ (M.length : Int) = q.1 - p.1 - 1 ∧ ∀ (j : Nat) x, M[j]? = some x → x.1 = p.1 + 1 + (j : Int) ∧ LineT p.1 p.2 q.1 q.2 x.1 x.2 ∧ x.2 < 18446744073709551616)
/-- What appendLine tells. -/
def AppT (base : Nat) (w : World) (v : Value) (F : List (Int × Nat)) (p q : Int × Nat) (e : Ending) (w' : World) : Prop := ∃ v' M, e = .returned v' ∧ Hid (w'.ownsRow base 32 2 v' (F ++ M).length (smC (F ++ M))) ∧ Hid (LineL p q M) ∧ Hid (∀ k, k < w.heap.size → some k ≠ v.ownBlock → w'.heap[k]? = w.heap[k]?) ∧ Below base w w'
theorem LineT.lt {s : Int} {b : Nat} {t : Int} {c : Nat} {x : Int} {r : Nat} (h : LineT s b t c x r) : r < 18446744073709551616 := by
  obtain ⟨d, p, m, _, _, _, h4⟩ := h
  exact h4.1
/-- What stands while a line is put in. -/
structure ApS (base : Nat) (w : World) (v0 : Value) (n0 : Nat) (F M : List (Int × Nat)) (s : Int) (b : Nat) (t : Int) (c : Nat) (v : Value) (W : World) : Prop where
  bel : Below base w W
  own : W.ownsRow base 32 2 v (F ++ M).length (smC (F ++ M))
  b1 : FBox W w.heap.size 32 #[.int .i64 s, .float .f64 b]
  b2 : FBox W (w.heap.size + 1) 32 #[.int .i64 t, .float .f64 c]
  away : ∀ q, v.ownBlock = some q → v0.ownBlock = some q ∨ n0 ≤ q
  low : ∀ q, v0.ownBlock = some q → q < w.heap.size
  keep : ∀ k, k < w.heap.size → some k ≠ v0.ownBlock → W.heap[k]? = w.heap[k]?
  sz : n0 ≤ W.heap.size ∧ w.heap.size + 2 ≤ n0
theorem ApS.later {base n0 : Nat} {w W W' : World} {F M : List (Int × Nat)} {s : Int} {b : Nat} {t : Int} {c : Nat} {v v0 : Value} (h : ApS base w v0 n0 F M s b t c v W) (hbs : base ≤ w.heap.size) (hb : Below W.heap.size W W') : ApS base w v0 n0 F M s b t c v W' :=
  ⟨h.bel.trans (hb.mono (by have := h.sz; omega)), yowns_later h.own hb, h.b1.later hb h.b1.lt, h.b2.later hb h.b2.lt, h.away, h.low, fun k hk hn => (hb.block k (by have := h.sz; omega)).trans (h.keep k hk hn), ⟨Nat.le_trans h.sz.1 hb.size, h.sz.2⟩⟩
theorem ApS.app {base n0 : Nat} {w W W' : World} {F M M' : List (Int × Nat)} {s : Int} {b : Nat} {t : Int} {c : Nat} {v v' v0 : Value} (h : ApS base w v0 n0 F M s b t c v W) (o : W'.ownsRow base 32 2 v' (F ++ M').length (smC (F ++ M'))) (hg : W.grownBy W' v.ownBlock) (ha : v'.ownBlock = v.ownBlock ∨ v'.ownBlock = some W.heap.size) (hbs : base ≤ w.heap.size) : ApS base w v0 n0 F M' s b t c v' W' := by
  have hz := h.sz
  have k : ∀ q, w.heap.size ≤ q → q < n0 → W'.heap[q]? = W.heap[q]? := fun q h1 h2 => hg.block q (by omega) (fun e => by
    rcases h.away q e.symm with h3 | h3
    · have := h.low q h3; omega
    · omega)
  refine ⟨h.bel.grown hg (by omega) (fun q e => (h.own.lt q e).1), o, (k _ (by omega) (by omega)).trans h.b1, (k _ (by omega) (by omega)).trans h.b2, fun q e => ?_, h.low, fun j hj hn => (hg.block j (by omega) (fun e => by
    rcases h.away j e.symm with h3 | h3
    · exact hn h3.symm
    · omega)).trans (h.keep j hj hn), ⟨Nat.le_trans hz.1 hg.size, hz.2⟩⟩
  rcases ha with ha | ha
  · rw [ha] at e; exact h.away q e
  · rw [ha] at e
    injection e with e
    right
    omega
set_option maxHeartbeats 3200000 in
set_option maxRecDepth 100000 in
theorem eappend_any (base : Nat) (v : Value) (F : List (Int × Nat)) (s : Int) (b : Nat) (t : Int) (c : Nat) (w : World) (h : w.ownsRow base 32 2 v F.length (smC F)) (hF : F.length ≤ 100000) (hbs : base ≤ w.heap.size) (h1 : 0 ≤ s) (h2 : s < t) (h3 : t ≤ 1048576) :
    Calls Try.prog 36 #[v, .agg #[.int .i64 s, .float .f64 b], .agg #[.int .i64 t, .float .f64 c]] w (AppT base w v F (s, b) (t, c)) := by
  obtain ⟨i0, hi, hz0, hz1, hz2⟩ := info_parts Try.yinfoS
  obtain ⟨X, hX⟩ : ∃ X, (w.alloc (.cells #[.int .i64 s, .float .f64 b] 32)).alloc (.cells #[.int .i64 t, .float .f64 c] 32) = X := ⟨_, rfl⟩
  have HX : Hid (FBox X w.heap.size 32 #[.int .i64 s, .float .f64 b] ∧ FBox X (w.heap.size + 1) 32 #[.int .i64 t, .float .f64 c] ∧ Below w.heap.size w X) := by
    rw [← hX]
    have q1 := FBox.made w 32 #[.int .i64 s, .float .f64 b]
    have q2 := FBox.made (w.alloc (.cells #[.int .i64 s, .float .f64 b] 32)) 32 #[.int .i64 t, .float .f64 c]
    rw [show (w.alloc (.cells #[.int .i64 s, .float .f64 b] 32)).heap.size = w.heap.size + 1 by simp] at q2
    exact ⟨q1.later ((Below.refl _ _).alloc (Nat.le_refl _) _) q1.lt, q2, ((Below.refl _ _).alloc (Nat.le_refl _) _).alloc (by simp) _⟩
  have HO := hid (yowns_later h HX.out.2.2)
  have HV : Hid (∀ q, v.ownBlock = some q → q < w.heap.size) := fun q e => (h.lt q e).2
  have c0 : X.cell? ⟨w.heap.size, 0, none⟩ = some (.int .i64 s) := HX.out.1.cell 0
  have d0 : X.cell? ⟨w.heap.size + 1, 0, none⟩ = some (.int .i64 t) := HX.out.2.1.cell 0
  clear h
  go_enter Try.func36, Try.ntmps36
  by_cases hg : 3 < t - s - 1
  · go_wp2_with fail
    go_ret
    exact ⟨v, [], rfl, by rw [List.append_nil]; exact HO.out, .inl ⟨hg, rfl⟩, fun k hk _ => HX.out.2.2.block k hk, HX.out.2.2.mono hbs⟩
  · have hXs : X.heap.size = w.heap.size + 2 := by rw [← hX]; simp
    have HS0 : Hid (ApS base w v X.heap.size F [] s b t c v X) := ⟨HX.out.2.2.mono hbs, by rw [List.append_nil]; exact HO.out, HX.out.1, HX.out.2.1, fun q e => .inl e, HV.out, fun k hk _ => HX.out.2.2.block k hk, ⟨Nat.le_refl _, by omega⟩⟩
    go_wp2_with fail
    clear hX HX HO c0 d0
    generalize X.heap.size = n0 at *
    go_loopw [0, 7] (fun vv x wr => ∃ (k : Nat) (M : List (Int × Nat)), (k : Int) ≤ t - s - 1 ∧ x = .int .i64 (s + 1 + (k : Int)) ∧ M.length = k ∧ Hid (∀ (j : Nat) x, M[j]? = some x → x.1 = s + 1 + (j : Int) ∧ LineT s b t c x.1 x.2 ∧ x.2 < 18446744073709551616) ∧ Hid (ApS base w v n0 F M s b t c vv wr)) (fun _ x _ => (t - intOf x).toNat)
    case atStart => exact ⟨0, [], by omega, by go_num, rfl, fun j x hj => by simp at hj, HS0.out⟩
    case round =>
      obtain ⟨k, M, hk, rfl, hMl, HM, HS⟩ := hrel
      clear HS0
      have c0 : wr.cell? ⟨w.heap.size, 0, none⟩ = some (.int .i64 s) := HS.out.b1.cell 0
      have c1 : wr.cell? ⟨w.heap.size, 1, none⟩ = some (.float .f64 b) := HS.out.b1.cell 1
      have d0 : wr.cell? ⟨w.heap.size + 1, 0, none⟩ = some (.int .i64 t) := HS.out.b2.cell 0
      have d1 : wr.cell? ⟨w.heap.size + 1, 1, none⟩ = some (.float .f64 c) := HS.out.b2.cell 1
      by_cases hlt : s + 1 + (k : Int) < t
      · have HA := hid (eline_any s b t c (s + 1 + (k : Int)) wr (by omega) (by omega))
        go_wp2_with fail
        refine Calls.mono HA.out ?_
        rintro e w2 ⟨r, rfl, HL, hb2⟩
        have HS2 := hid (HS.out.later hbs hb2)
        have HS3 := hid (HS2.out.later hbs ((Below.refl _ _).alloc (Nat.le_refl _) (.cells #[.int .i64 (s + 1 + (k : Int)), .float .f64 r] 32)))
        have ho := HS3.out.own
        have hsz := HS2.out.sz
        have hfm : (F ++ M).length ≤ 100004 := by rw [List.length_append]; omega
        clear hb2 HA HS c0 c1 d0 d1
        go_wp2_with (first
          | (at_builtin; refine wpList_append_own_at _ rfl _ _ 25 rfl base 32 i0 (.agg #[.int .i64 0, .float .f64 0]) 2 16 Try.underlying25 hi hz0 hz1 hz2 rfl (by decide) _ _ _ rfl ho ⟨w2.heap.size, 0, none⟩ 1 1 [.int .i64 (s + 1 + (k : Int)), .float .f64 r] rfl rfl (ycell2 _ _ _ _) (smC_one (s + 1 + (k : Int), r)) (by unfold maxLen; omega) (by omega) (by simp; omega) ?_; intro v' w4 ho4 hg4 _ ha4)
          | go_in)
        have HS4 : Hid (ApS base w v n0 F (M ++ [(s + 1 + (k : Int), r)]) s b t c v' w4) := by
          refine HS3.out.app ?_ hg4 ha4 hbs
          rw [← List.append_assoc, List.length_append, smC_append]
          exact ho4
        clear hg4 ho4 ha4 ho HS3 HS2
        go_wp2_with fail
        go_roundw
        case rel =>
          refine ⟨k + 1, M ++ [(s + 1 + (k : Int), r)], by omega, by go_num, by simp [hMl], fun j x hj => ?_, HS4.out⟩
          rcases Nat.lt_or_ge j M.length with h | h
          · rw [List.getElem?_append_left h] at hj
            exact HM.out j x hj
          · rw [List.getElem?_append_right h] at hj
            have hj0 : j = M.length := by
              have := (List.getElem?_eq_some_iff.1 hj).1
              simp at this
              omega
            subst hj0
            simp at hj
            subst hj
            refine ⟨by rw [hMl], HL.out, HL.out.lt⟩
        case measure => simp [intOf]; omega
      · have hkt : (k : Int) = t - s - 1 := by omega
        go_wp2_with fail
        go_ret
        exact ⟨_, M, rfl, HS.out.own, .inr ⟨by omega, by rw [hMl]; exact hkt, HM.out⟩, HS.out.keep, HS.out.bel⟩
end Go.Proofs.Ytmigdomlakflfaa

/- package clean: onesRising; what Fill makes, no program. -/
namespace Go.Proofs.Ytmigdomlakflfaa
open Go.RowKit
set_option linter.unusedVariables false
set_option linter.unusedSimpArgs false

def tOk (t : Int) : Prop := 0 ≤ t ∧ t ≤ 1048576
theorem pw_app {L : List (Int × Nat)} {p : Int × Nat} {xs : List (Int × Nat)} (h : (L ++ p :: xs).Pairwise (fun p q => p.1 < q.1)) : ((L ++ [p]) ++ xs).Pairwise (fun p q => p.1 < q.1) := by rw [List.append_assoc]; exact h
theorem add_end {L : List (Int × Nat)} {p : Int × Nat} {xs : List (Int × Nat)} (h : (L ++ p :: xs).Pairwise (fun p q => p.1 < q.1)) (ht : tOk p.1) (hl : L.length < 4096) : addR L p.1 p.2 = (0, L ++ [p]) := by
  have hlt : ∀ q ∈ L, q.1 < p.1 := fun q hq => (List.pairwise_append.1 h).2.2 q hq p List.mem_cons_self
  have hno : rhas L p.1 = false := by
    cases hh : rhas L p.1
    · rfl
    · obtain ⟨b, hb⟩ := rhas_yes hh
      have := hlt _ hb
      dsimp only at this
      omega
  unfold addR
  have e : rins (p.1, p.2) L = L ++ [(p.1, p.2)] := by
    have key : ∀ (M : List (Int × Nat)), (∀ q ∈ M, q.1 < p.1) → rins (p.1, p.2) M = M ++ [(p.1, p.2)] := by
      intro M
      induction M with
      | nil => intro _; rfl
      | cons y r ih =>
        intro hM
        have hy := hM y List.mem_cons_self
        unfold rins
        rw [if_neg (by dsimp only; omega), ih (fun q hq => hM q (List.mem_cons_of_mem _ hq))]
        rfl
    exact key L hlt
  rw [if_neg (by have := ht.1; have := ht.2; omega), if_neg (by rw [hno]; simp), if_neg (by omega), e]
theorem fromR_ok : ∀ (xs L : List (Int × Nat)) (i : Nat), (L ++ xs).Pairwise (fun p q => p.1 < q.1) → (∀ p ∈ xs, tOk p.1) → (L ++ xs).length ≤ 4096 → fromR L xs i = (L ++ xs, none)
  | [], L, i, _, _, _ => by rw [fromR, List.append_nil]
  | p :: xs, L, i, h, ht, hl => by
    have hl2 : L.length < 4096 := by simp at hl; omega
    rw [fromR, add_end h (ht p List.mem_cons_self) hl2, if_pos rfl, fromR_ok xs (L ++ [p]) (i + 1) (pw_app h) (fun q hq => ht q (List.mem_cons_of_mem _ hq)) (by rw [List.append_assoc]; exact hl), List.append_assoc]
    rfl
theorem fromR_bad : ∀ (xs L : List (Int × Nat)) (i : Nat), (L ++ xs).Pairwise (fun p q => p.1 < q.1) → (∃ p ∈ xs, ¬ tOk p.1) → (L ++ xs).length ≤ 4096 → ∃ j, (fromR L xs i).2 = some (2, j)
  | [], L, i, _, hb, _ => by obtain ⟨p, hp, _⟩ := hb; simp at hp
  | p :: xs, L, i, h, hb, hl => by
    have hl2 : L.length < 4096 := by simp at hl; omega
    by_cases ht : tOk p.1
    · obtain ⟨q, hq, hn⟩ := hb
      rcases List.mem_cons.1 hq with rfl | hq
      · exact absurd ht hn
      · rw [fromR, add_end h ht hl2, if_pos rfl]
        exact fromR_bad xs (L ++ [p]) (i + 1) (pw_app h) ⟨q, hq, hn⟩ (by rw [List.append_assoc]; exact hl)
    · have e : addR L p.1 p.2 = (2, L) := if_pos ht
      rw [fromR, e, if_neg (show ¬ (2 : Int) = 0 by decide)]
      exact ⟨i, rfl⟩
/-- May samples be filled? -/
def goodS (xs : List (Int × Nat)) : Prop := xs.length ≤ 4096 ∧ xs.Pairwise (fun p q => p.1 < q.1) ∧ ∀ p ∈ xs, tOk p.1
def errS (xs : List (Int × Nat)) : Int := if 4096 < xs.length then 3 else 2
/-- What onesRising tells. -/
def OnT (w : World) (xs : List (Int × Nat)) (e : Ending) (w' : World) : Prop := ∃ v err, e = .returned (.tuple #[v, .int .i64 err]) ∧ Hid ((¬ goodS xs ∧ err = errS xs ∧ v = .slice none 0 0) ∨ (goodS xs ∧ err = 0 ∧ w'.ownsRow w.heap.size 32 2 v (onesL xs true).length (smC (onesL xs true)))) ∧ Below w.heap.size w w'
set_option maxHeartbeats 3200000 in
set_option maxRecDepth 100000 in
theorem eones_any (a : Option Addr) (n cap : Nat) (xs : List (Int × Nat)) (w : World) (hn : n ≤ 9223372036854775807) (hl : xs.length = n) (hx : ∀ p ∈ xs, I64 p.1 ∧ p.2 < 18446744073709551616) (h : RdS w a xs) :
    Calls Try.prog 35 #[.slice a n cap] w (OnT w xs) := by
  have HD := hid h
  have HX := hid hx
  clear h hx
  by_cases hlong : 4096 < n
  · have hlong2 : (4096 : Int) < (n : Int) := by omega
    have HE : Hid (¬ goodS xs ∧ errS xs = 3) := ⟨fun h => by have := h.1; omega, by unfold errS; rw [if_pos (by omega)]⟩
    go_enter Try.func35, Try.ntmps35
    go_wp2_with fail
    go_returns
    exact ⟨_, _, rfl, .inl ⟨HE.out.1, HE.out.2.symm, rfl⟩, Below.refl _ _⟩
  · have hlong2 : ¬ (4096 : Int) < (n : Int) := by omega
    have HEr : Hid (errS xs = 2) := by unfold errS; rw [if_neg (by omega)]; rfl
    have HR := hid (eRising_any a n cap xs w (by omega) hl HD.out)
    go_enter Try.func35, Try.ntmps35
    go_wp2_with fail
    refine Calls.mono HR.out ?_
    rintro e w1 ⟨b, rfl, HB, hb1⟩
    have HB1 := hid hb1
    have HA := hid (yfrom_any a n cap xs w1 (by omega) hl HX.out (HD.out.later (B := 0) hb1))
    clear hb1 HR
    cases b
    · have HN : Hid (¬ goodS xs) := fun h => by have := HB.out.2 h.2.1; cases this
      go_wp2_with fail
      go_returns
      exact ⟨_, _, rfl, .inl ⟨HN.out, HEr.out.symm, rfl⟩, HB1.out⟩
    · have HPw := hid (HB.out.1 rfl)
      go_wp2_with fail
      refine Calls.mono HA.out ?_
      rintro e w2 ⟨rb, mb, rfl, HRc, HLo, hb2⟩
      have HB2 := hid (ybt' HB1.out hb2)
      clear hb2 HA HB1
      by_cases hg : ∀ p ∈ xs, tOk p.1
      · have e := fromR_ok xs [] 0 HPw.out hg (by show xs.length ≤ 4096; omega)
        rw [List.nil_append] at e
        rw [e] at HRc
        rw [e]
        rw [show fromV rb (xs, (none : Option (Int × Nat))).2 = .tuple #[.pointer (some ⟨rb, 0, none⟩), .agg #[.int .i64 0, .int .i64 0]] from rfl]
        have HG : Hid (goodS xs) := ⟨by omega, HPw.out, hg⟩
        clear e hg
        obtain ⟨Y, A0, A1, hY, hA0, hA1, ⟨y0, y1⟩, ⟨f0, f1⟩, ⟨z0, z1⟩, HBX⟩ := ybox2 w2 28 (.int .i64 0) (.int .i64 0) (.int .i64 0) (.int .i64 0)
        go_wp2_with fail
        clear hY hA0 hA1 y0 y1 f0 f1 z0 z1
        refine Calls.mono (ysamples_any rb mb xs A1 (HRc.out.later HBX.out.2)) ?_
        rintro e w3 ⟨v3, rfl, O3, hb3⟩
        have HB3 := hid (ybt' HB2.out (ybt' HBX.out.2 hb3))
        have HO3 := hid (yowns_base O3.out (Nat.le_trans HB2.out.size HBX.out.2.size))
        clear O3 hb3 HBX HB2
        go_wp2_with fail
        go_returns
        exact ⟨_, _, rfl, .inr ⟨HG.out, rfl, HO3.out⟩, HB3.out⟩
      · obtain ⟨j, e⟩ := fromR_bad xs [] 0 HPw.out (Classical.byContradiction fun hc => hg fun p hp => Classical.byContradiction fun ht => hc ⟨p, hp, ht⟩) (by show xs.length ≤ 4096; omega)
        rw [e]
        rw [show fromV rb (some (2, j)) = .tuple #[.pointer none, .agg #[.int .i64 2, .int .i64 (j : Int)]] from rfl]
        have HN : Hid (¬ goodS xs) := fun h => hg h.2.2
        clear e hg
        obtain ⟨Y, A0, A1, hY, hA0, hA1, ⟨y0, y1⟩, ⟨f0, f1⟩, ⟨z0, z1⟩, HBX⟩ := ybox2 w2 28 (.int .i64 0) (.int .i64 0) (.int .i64 2) (.int .i64 (j : Int))
        go_wp2_with fail
        clear hY hA0 hA1 y0 y1 f0 f1
        go_quiet (fail)
        go_wp2_with fail
        go_returns
        exact ⟨_, _, rfl, .inl ⟨HN.out, HEr.out.symm, rfl⟩, ydrewMM (ybt' HB2.out HBX.out.2)⟩
/-! ### What Fill makes -/
inductive FilP : List (Int × Nat) → List (Int × Nat) → Prop
  | nil : FilP [] []
  | one (q : Int × Nat) : FilP [q] [q]
  | more (O : List (Int × Nat)) (p q : Int × Nat) (F M : List (Int × Nat)) : FilP (O ++ [p]) F → LineL p q M → FilP (O ++ [p] ++ [q]) (F ++ M ++ [q])
theorem LineL.len {p q : Int × Nat} {M : List (Int × Nat)} (h : LineL p q M) : M.length ≤ 3 := by
  rcases h with ⟨_, rfl⟩ | ⟨h1, h2, _⟩
  · simp
  · omega
theorem FilP.len {O F : List (Int × Nat)} (h : FilP O F) : F.length ≤ 4 * O.length := by
  induction h with
  | nil => simp
  | one q => simp
  | more O p q F M h hl ih =>
    have := hl.len
    simp at ih ⊢
    omega
/-- What Fill tells. -/
def FilT (w : World) (xs : List (Int × Nat)) (e : Ending) (w' : World) : Prop := ∃ v err, e = .returned (.tuple #[v, .int .i64 err]) ∧ Hid ((¬ goodS xs ∧ err = errS xs ∧ v = .slice none 0 0) ∨ (goodS xs ∧ ∃ F, FilP (onesL xs true) F ∧ (((∃ p ∈ F, isone p.2 = false) ∧ err = 9 ∧ v = .slice none 0 0) ∨ ((∀ p ∈ F, isone p.2 = true) ∧ 4096 < F.length ∧ err = 3 ∧ v = .slice none 0 0) ∨ ((∀ p ∈ F, isone p.2 = true) ∧ F.length ≤ 4096 ∧ err = 0 ∧ w'.ownsRow w.heap.size 32 2 v F.length (smC F))))) ∧ Below w.heap.size w w'
end Go.Proofs.Ytmigdomlakflfaa

/- package clean: Fill. -/
namespace Go.Proofs.Ytmigdomlakflfaa
open Go.RowKit
set_option linter.unusedVariables false
set_option linter.unusedSimpArgs false

theorem FilP.lt {O F : List (Int × Nat)} (h : FilP O F) (ho : ∀ p ∈ O, p.2 < 18446744073709551616) : ∀ p ∈ F, p.2 < 18446744073709551616 := by
  induction h with
  | nil => simp
  | one q => exact ho
  | more O p q F M h hl ih =>
    intro x hx
    rcases List.mem_append.1 hx with hx | hx
    · rcases List.mem_append.1 hx with hx | hx
      · exact ih (fun y hy => ho y (List.mem_append.2 (.inl hy))) x hx
      · rcases hl with ⟨_, rfl⟩ | ⟨_, _, h3⟩
        · simp at hx
        · obtain ⟨j, hj⟩ := List.getElem?_of_mem hx
          exact (h3 j x hj).2.2
    · exact ho x (List.mem_append.2 (.inr hx))
theorem FilP.next {O F M : List (Int × Nat)} {k : Nat} {p q : Int × Nat} (h : FilP (O.take (k + 1)) F) (hp : O[k]? = some p) (hq : O[k + 1]? = some q) (hl : LineL p q M) : FilP (O.take (k + 2)) (F ++ M ++ [q]) := by
  have e1 : O.take (k + 1) = O.take k ++ [p] := by rw [List.take_add_one, hp]; rfl
  have e2 : O.take (k + 2) = O.take k ++ [p] ++ [q] := by rw [List.take_add_one, hq, e1]; rfl
  rw [e1] at h
  rw [e2]
  exact FilP.more _ p q F M h hl
set_option maxHeartbeats 6400000 in
set_option maxRecDepth 100000 in
theorem efill_any (a : Option Addr) (n cap : Nat) (xs : List (Int × Nat)) (w : World) (hn : n ≤ 9223372036854775807) (hl : xs.length = n) (hx : ∀ p ∈ xs, I64 p.1 ∧ p.2 < 18446744073709551616) (h : RdS w a xs) :
    Calls Try.prog 14 #[.slice a n cap] w (FilT w xs) := by
  obtain ⟨i0, hi, hz0, hz1, hz2⟩ := info_parts Try.yinfoS
  have HO := hid (eones_any a n cap xs w hn hl hx h)
  have HX := hid hx
  clear h hx
  go_enter Try.func14, Try.ntmps14
  go_wp2_with fail
  refine Calls.mono HO.out ?_
  rintro e w1 ⟨v1, err, rfl, HC, hb1⟩
  have HB1 := hid hb1
  clear hb1 HO
  rcases HC.out with ⟨hg, he, hv⟩ | ⟨hg, he, hown⟩
  · have HG := hid hg
    have HE := hid he
    have hne : ¬ err = 0 := by rw [he]; unfold errS; split <;> decide
    subst hv
    clear hg he HC
    go_wp2_with fail
    go_returns
    exact ⟨_, _, rfl, .inl ⟨HG.out, HE.out, rfl⟩, HB1.out⟩
  · subst he
    have HG := hid hg
    obtain ⟨a1, c1, rfl, hV⟩ := yshape hown
    have HV := hid (RdS.of hV)
    have hol : (onesL xs true).length ≤ 4096 := Nat.le_trans (List.length_filter_le _ _) hg.1
    have HOk : Hid ((onesL xs true).Pairwise (fun p q => p.1 < q.1) ∧ ∀ p ∈ onesL xs true, tOk p.1 ∧ p.2 < 18446744073709551616) := ⟨hg.2.1.filter _, fun p hp => ⟨hg.2.2 p (List.mem_filter.1 hp).1, (HX.out p (List.mem_filter.1 hp).1).2⟩⟩
    clear hg hV hown HC
    obtain ⟨O, hO⟩ : ∃ O, onesL xs true = O := ⟨_, rfl⟩
    have HEO := hid hO
    rw [hO] at HV hol HOk
    rw [hO]
    clear hO
    go_wp2_with fail
    have sF : ∀ (W : World) (p : Addr) (y : Nat) (md : Mode), (store p (.float .f64 y) md).run Try.prog W = stored Try.prog W p (.float .f64 y) md := fun W p y md => run_store Try.prog W p _ md rfl
    go_loopw [6, 21] (fun v x wr => ∃ (k : Nat) (F : List (Int × Nat)), k ≤ O.length ∧ x = .int .i64 (k : Int) ∧ Hid (FilP (O.take k) F) ∧ Hid (wr.ownsRow w1.heap.size 32 2 v F.length (smC F)) ∧ Hid (Below w1.heap.size w1 wr)) (fun _ x _ => O.length - (intOf x).toNat)
    case atStart => exact ⟨0, [], Nat.zero_le _, rfl, FilP.nil, World.ownsRow_nil _ _ _ _, Below.refl _ _⟩
    case round =>
      obtain ⟨k, F, hk, rfl, HP, HOw, HW⟩ := hrel
      by_cases hlt : k < O.length
      · obtain ⟨q, hq⟩ : ∃ p, O[k]? = some p := ⟨_, List.getElem?_eq_getElem hlt⟩
        obtain ⟨t, c⟩ := q
        obtain ⟨g, o, rfl, hg, hc⟩ := HV.out.get hq
        have HCq : Hid (∀ V, Below w1.heap.size w1 V → V.cell? ⟨g, o + k * 2, none⟩ = some (.int .i64 t) ∧ V.cell? ⟨g, o + k * 2 + 1, none⟩ = some (.float .f64 c)) := fun V hV => ⟨(hV.cell (p := ⟨g, o + k * 2, none⟩) hg).trans (hc _ _ hq).1, (hV.cell (p := ⟨g, o + k * 2 + 1, none⟩) hg).trans (hc _ _ hq).2⟩
        obtain ⟨c0, c1⟩ := HCq.out _ HW.out
        have HQ := hid hq
        have hFl : F.length ≤ 16384 := by have := HP.out.len; rw [List.length_take] at this; omega
        obtain ⟨Y, A0, A1, hY, hA0, hA1, ⟨y0, y1⟩, ⟨f0, f1⟩, ⟨z0, z1⟩, HBX⟩ := ybox2 wr 32 (.int .i64 0) (.float .f64 0) (.int .i64 t) (.float .f64 c)
        have HWA := hid (ybt' HW.out HBX.out.2)
        have HOA := hid (yowns_later HOw.out HBX.out.2)
        have hszA := HWA.out.size
        by_cases hk0 : 0 < k
        · obtain ⟨j, rfl⟩ : ∃ j, k = j + 1 := ⟨k - 1, by omega⟩
          obtain ⟨p, hp⟩ : ∃ p, O[j]? = some p := ⟨_, List.getElem?_eq_getElem (by omega)⟩
          obtain ⟨s, b⟩ := p
          have HPj := hid hp
          have HCp : Hid (∀ V, Below w1.heap.size w1 V → V.cell? ⟨g, o + j * 2, none⟩ = some (.int .i64 s) ∧ V.cell? ⟨g, o + j * 2 + 1, none⟩ = some (.float .f64 b)) := fun V hV => ⟨(hV.cell (p := ⟨g, o + j * 2, none⟩) hg).trans (hc _ _ hp).1, (hV.cell (p := ⟨g, o + j * 2 + 1, none⟩) hg).trans (hc _ _ hp).2⟩
          obtain ⟨e0, e1⟩ := HCp.out A1 HWA.out
          have hki : ((j + 1 : Nat) : Int) - 1 = (j : Int) := by omega
          have hk2 : (0 : Int) < ((j + 1 : Nat) : Int) := by omega
          have hj1 : ((j + 1 : Nat) : Int) < (O.length : Int) := by omega
          have hj2 : (j : Int) < (O.length : Int) := by omega
          have hj3 : (0 : Int) ≤ (j : Int) := by omega
          have hw3 : IntKind.i64.wrap (j : Int) = (j : Int) := by rw [IntKind.wrap_i64]; omega
          have hw1 : IntKind.i64.wrap ((j : Int) + 1 - 1) = (j : Int) := by rw [IntKind.wrap_i64]; omega
          have hw2 : IntKind.i64.wrap (((j + 1 : Nat) : Int) - 1) = (j : Int) := by rw [IntKind.wrap_i64]; omega
          have HT : Hid (0 ≤ s ∧ s < t ∧ t ≤ 1048576) := by
            have q1 := (HOk.out.2 _ (List.mem_of_getElem? hp)).1
            have q2 := (HOk.out.2 _ (List.mem_of_getElem? hq)).1
            have q3 := adj_rise HOk.out.1 hp hq
            exact ⟨q1.1, q3, q2.2⟩
          have HAp := hid (eappend_any w1.heap.size _ F s b t c A1.drew (yowns_later HOA.out ((Below.refl _ _).drew)) (by omega) HWA.out.size HT.out.1 HT.out.2.1 HT.out.2.2)
          have hs0 : A1.drew.cell? ⟨g, o + j * 2, none⟩ = some (.int .i64 s) ∧ A1.drew.cell? ⟨g, o + j * 2 + 1, none⟩ = some (.float .f64 b) ∧ A1.drew.cell? ⟨wr.heap.size, 0, none⟩ = some (.int .i64 t) ∧ A1.drew.cell? ⟨wr.heap.size, 1, none⟩ = some (.float .f64 c) := ⟨e0, e1, z0, z1⟩
          clear hc hq hp
          go_wp2_with fail
          clear hY hA0 hA1 y0 y1 f0 f1
          go_region_held3 (fun V : World => V.cell? ⟨g, o + j * 2, none⟩ = some (.int .i64 s) ∧ V.cell? ⟨g, o + j * 2 + 1, none⟩ = some (.float .f64 b) ∧ V.cell? ⟨wr.heap.size, 0, none⟩ = some (.int .i64 t) ∧ V.cell? ⟨wr.heap.size, 1, none⟩ = some (.float .f64 c)) (first | exact hs0 | exact hs2 | go_keep)
            (first | (go_at_call 36; (with_reducible refine Calls.mono HAp.out ?_); rintro e w2 ⟨v2, M, rfl, HO2, HL2, HK2, hb2⟩; have HB2 := hid (HWA.out.drew.trans hb2); have HF2 : Hid (FBox w2 wr.heap.size 32 #[.int .i64 t, .float .f64 c]) := ((HK2.out wr.heap.size HBX.out.1.lt (fun e => by have := (HOw.out.lt _ e.symm).2; omega))).trans HBX.out.1; have hs2 : w2.cell? ⟨g, o + j * 2, none⟩ = some (.int .i64 s) ∧ w2.cell? ⟨g, o + j * 2 + 1, none⟩ = some (.float .f64 b) ∧ w2.cell? ⟨wr.heap.size, 0, none⟩ = some (.int .i64 t) ∧ w2.cell? ⟨wr.heap.size, 1, none⟩ = some (.float .f64 c) := ⟨(HCp.out w2 HB2.out).1, (HCp.out w2 HB2.out).2, HF2.out.cell 0, HF2.out.cell 1⟩))
          have g0 : w2.cell? ⟨wr.heap.size, 0, none⟩ = some (.int .i64 t) := HF2.out.cell 0
          have g1 : w2.cell? ⟨wr.heap.size, 1, none⟩ = some (.float .f64 c) := HF2.out.cell 1
          have ho := HO2.out
          have hs9 := HB2.out.size
          have hfm : (F ++ M).length ≤ 20000 := by have := HL2.out.len; rw [List.length_append]; omega
          clear hs0 hs2 z0 z1 e0 e1
          go_wp2_with (first
            | (at_builtin; refine wpList_append_own _ rfl _ _ 25 rfl w1.heap.size 32 i0 (.agg #[.int .i64 0, .float .f64 0]) 2 16 Try.underlying25 hi hz0 hz1 hz2 rfl (by decide) _ _ _ rfl (ho.alloc _) ⟨w2.heap.size, 0, none⟩ 1 1 [.int .i64 t, .float .f64 c] rfl rfl (ycell2 _ _ _ _) (smC_one (t, c)) (by unfold maxLen; omega) (by omega) (by simp; omega) ?_; intro v' w4 ho4 hg4 _)
            | go_in)
          refine ⟨⟨j + 1 + 1, F ++ M ++ [(t, c)], by omega, by go_num, ?_, ?_, (HB2.out.alloc (by omega) _).grown hg4 (by simp; omega) (fun q e => (ho.lt q e).1)⟩, by simp [intOf]; omega⟩
          · exact FilP.next HP.out HPj.out HQ.out HL2.out
          · rw [List.length_append, smC_append]
            exact ho4
        · have hk2 : ¬ (0 : Int) < (k : Int) := by omega
          have ho := HOA.out
          clear hc hq
          go_wp2_with (first
            | (at_builtin; refine wpList_append_own _ rfl _ _ 25 rfl w1.heap.size 32 i0 (.agg #[.int .i64 0, .float .f64 0]) 2 16 Try.underlying25 hi hz0 hz1 hz2 rfl (by decide) _ _ _ rfl (ho.alloc _) ⟨A1.heap.size, 0, none⟩ 1 1 [.int .i64 t, .float .f64 c] rfl rfl (ycell2 _ _ _ _) (smC_one (t, c)) (by unfold maxLen; omega) (by omega) (by simp; omega) ?_; intro v' w4 ho4 hg4 _)
            | go_in)
          have hk00 : k = 0 := by omega
          have hF0 : F = [] := by
            have := HP.out.len
            rw [hk00] at this
            exact List.eq_nil_of_length_eq_zero (by simpa using this)
          refine ⟨⟨k + 1, [(t, c)], by omega, by go_num, ?_, ?_, (HWA.out.alloc (by omega) _).grown hg4 (by simp; omega) (fun q e => (ho.lt q e).1)⟩, by simp [intOf]; omega⟩
          · have e : O.take (k + 1) = [(t, c)] := by rw [List.take_add_one, HQ.out, hk00]; rfl
            rw [e]
            exact FilP.one _
          · rw [hF0] at ho4
            exact ho4
      · obtain rfl : k = O.length := by omega
        rw [List.take_length] at HP
        have hkk : ¬ (O.length : Int) < (O.length : Int) := by omega
        obtain ⟨a6, c6, rfl, hV6⟩ := yshape HOw.out
        have HV6 := hid (RdS.of hV6)
        have hFl : F.length ≤ 16384 := by have := HP.out.len; omega
        have HFb : Hid (∀ p ∈ F, p.2 < 18446744073709551616) := HP.out.lt (fun p hp => (HOk.out.2 p hp).2)
        have HBW := hid (ybt' HB1.out HW.out)
        clear hV6
        obtain ⟨U, rfl⟩ : ∃ U, U = wr := ⟨_, rfl⟩
        go_wp2_with fail
        go_loopw [43] (fun x wr2 => ∃ m : Nat, m ≤ F.length ∧ x = .int .i64 (m : Int) ∧ Hid (∀ p ∈ F.take m, isone p.2 = true) ∧ Hid (Below U.heap.size U wr2)) (fun x _ => F.length - (intOf x).toNat)
        case atStart => exact ⟨0, Nat.zero_le _, rfl, fun p hp => by simp at hp, Below.refl _ _⟩
        case round =>
          obtain ⟨m, hm, rfl, HI, HU⟩ := hrel
          by_cases hmlt : m < F.length
          · obtain ⟨q, hq⟩ : ∃ p, F[m]? = some p := ⟨_, List.getElem?_eq_getElem hmlt⟩
            obtain ⟨t, c⟩ := q
            obtain ⟨g, o, rfl, hg, hc⟩ := HV6.out.get hq
            have c0 : wr.cell? ⟨g, o + m * 2, none⟩ = some (.int .i64 t) := (HU.out.cell (p := ⟨g, o + m * 2, none⟩) hg).trans (hc _ _ hq).1
            have c1 : wr.cell? ⟨g, o + m * 2 + 1, none⟩ = some (.float .f64 c) := (HU.out.cell (p := ⟨g, o + m * 2 + 1, none⟩) hg).trans (hc _ _ hq).2
            obtain ⟨Y, A0, A1, hY, hA0, hA1, ⟨y0, y1⟩, ⟨f0, f1⟩, ⟨z0, z1⟩, HBX⟩ := ybox2 wr 32 (.int .i64 0) (.float .f64 0) (.int .i64 t) (.float .f64 c)
            have HOne := hid (eisone_any c A1 (HFb.out _ (List.mem_of_getElem? hq)))
            have HQ := hid hq
            clear hc hq
            cases hone : isone c
            · rw [hone] at HOne
              have HN : Hid (∃ p ∈ F, isone p.2 = false) := ⟨(t, c), List.mem_of_getElem? HQ.out, hone⟩
              clear hone
              go_wp2_with fail
              refine Calls.mono HOne.out ?_
              rintro e w3 ⟨rfl, rfl⟩
              clear hY hA0 hA1 y0 y1 f0 f1 z0 z1
              go_wp2_with fail
              go_returns
              exact ⟨_, _, rfl, .inr ⟨HG.out, F, by rw [HEO.out]; exact HP.out, .inl ⟨HN.out, rfl, rfl⟩⟩, ybt' HBW.out (ybt' HU.out HBX.out.2)⟩
            · rw [hone] at HOne
              have HI2 : Hid (∀ p ∈ F.take (m + 1), isone p.2 = true) := fun p hp => by
                rw [List.take_add_one, HQ.out] at hp
                rcases List.mem_append.1 hp with h | h
                · exact HI.out p h
                · simp at h
                  subst h
                  exact hone
              clear hone
              go_wp2_with fail
              refine Calls.mono HOne.out ?_
              rintro e w3 ⟨rfl, rfl⟩
              clear hY hA0 hA1 y0 y1 f0 f1 z0 z1
              go_wp2_with fail
              go_roundw
              case rel => exact ⟨m + 1, by omega, by go_num, HI2.out, ybt' HU.out HBX.out.2⟩
              case measure => simp [intOf]; omega
          · obtain rfl : m = F.length := by omega
            have hmm : ¬ (F.length : Int) < (F.length : Int) := by omega
            have HAll : Hid (∀ p ∈ F, isone p.2 = true) := by have := HI.out; rw [List.take_length] at this; exact this
            have HBZ := hid (ybt' HBW.out HU.out)
            have HOz := hid (yowns_base (yowns_later HOw.out HU.out) HB1.out.size)
            by_cases hlong : 4096 < F.length
            · have hlong2 : (4096 : Int) < (F.length : Int) := by omega
              go_wp2_with fail
              go_returns
              exact ⟨_, _, rfl, .inr ⟨HG.out, F, by rw [HEO.out]; exact HP.out, .inr (.inl ⟨HAll.out, hlong, rfl, rfl⟩)⟩, HBZ.out⟩
            · have hlong2 : ¬ (4096 : Int) < (F.length : Int) := by omega
              go_wp2_with fail
              go_returns
              exact ⟨_, _, rfl, .inr ⟨HG.out, F, by rw [HEO.out]; exact HP.out, .inr (.inr ⟨HAll.out, by omega, rfl, HOz.out⟩)⟩, HBZ.out⟩
end Go.Proofs.Ytmigdomlakflfaa

/- Layer 20's lives: two of the chapter's examples. -/
namespace Go.Proofs.Ytmigdomlakflfaa
open Go.RowKit
set_option linter.unusedVariables false
set_option linter.unusedSimpArgs false

theorem FilP.none {F : List (Int × Nat)} (h : FilP [] F) : F = [] := by
  generalize hO : ([] : List (Int × Nat)) = O at h
  cases h with
  | nil => rfl
  | one q => cases hO
  | more O p q F M h hl => simp at hO
theorem FilP.single {p : Int × Nat} {F : List (Int × Nat)} (h : FilP [p] F) : F = [p] := by
  generalize hO : [p] = O at h
  cases h with
  | nil => cases hO
  | one q => rfl
  | more O p' q F M h hl =>
    have := congrArg List.length hO
    simp at this
theorem FilP.snoc {O : List (Int × Nat)} {p q : Int × Nat} {F : List (Int × Nat)} (h : FilP (O ++ [p] ++ [q]) F) : ∃ F' M, FilP (O ++ [p]) F' ∧ LineL p q M ∧ F = F' ++ M ++ [q] := by
  generalize hO : O ++ [p] ++ [q] = X at h
  cases h with
  | nil => simp at hO
  | one q' =>
    have := congrArg List.length hO
    simp at this
  | more O' p' q' F' M h hl =>
    have e1 := List.append_inj' hO rfl
    have e2 := List.append_inj' e1.1 rfl
    have e3 : q = q' := by simpa using e1.2
    have e4 : p = p' := by simpa using e2.2
    subst e3 e4
    rw [e2.1]
    exact ⟨F', M, h, hl, rfl⟩
theorem FilP.two {p q : Int × Nat} {F : List (Int × Nat)} (h : FilP [p, q] F) : ∃ M, LineL p q M ∧ F = [p] ++ M ++ [q] := by
  obtain ⟨F', M, h1, h2, h3⟩ := FilP.snoc (O := []) h
  rw [FilP.single h1] at h3
  exact ⟨M, h2, h3⟩
theorem line_is {s : Int} {b : Nat} {t : Int} {c : Nat} {x : Int} {r d p m k : Nat} (h : LineT s b t c x r) (h1 : floatBits .sub .f64 c b = some d) (h2 : floatBits .quo .f64 (floatOfInt .f64 (x - s)) (floatOfInt .f64 (t - s)) = some p) (h3 : floatBits .mul .f64 d p = some m) (h4 : floatBits .add .f64 b m = some k) : r = k := by
  obtain ⟨d', p', m', g1, g2, g3, g4⟩ := h
  obtain rfl := g1.bits h1
  obtain rfl := g2.bits h2
  obtain rfl := g3.bits h3
  exact g4.bits h4
/-- The first example's samples, filled. -/
theorem live_fill {F : List (Int × Nat)} (h : FilP (onesL [(1, 0), (4, 4613937818241073152)] true) F) : F = [(1, 0), (2, 4607182418800017408), (3, 4611686018427387904), (4, 4613937818241073152)] := by
  have e : onesL [(1, 0), (4, 4613937818241073152)] true = [(1, 0), (4, 4613937818241073152)] := by decide
  rw [e] at h
  obtain ⟨M, hl, rfl⟩ := h.two
  rcases hl with ⟨hb, _⟩ | ⟨_, h2, h3⟩
  · simp at hb
  · have hlen : M.length = 2 := by
      dsimp only at h2
      omega
    match M, hlen with
    | [x, y], _ =>
      obtain ⟨x1, x2, _⟩ := h3 0 x rfl
      obtain ⟨y1, y2, _⟩ := h3 1 y rfl
      dsimp only at x1 x2 y1 y2
      obtain ⟨tx, bx⟩ := x
      obtain ⟨ty, by_⟩ := y
      dsimp only at x1 x2 y1 y2
      have ex : tx = 2 := by simpa using x1
      have ey : ty = 3 := by simpa using y1
      subst ex ey
      have rx := line_is (k := 4607182418800017408) x2 (d := 4613937818241073152) (p := 4599676419421066581) (m := 4607182418800017408) (by decide +kernel) (by decide +kernel) (by decide +kernel) (by decide +kernel)
      have ry := line_is (k := 4611686018427387904) y2 (d := 4613937818241073152) (p := 4604180019048437077) (m := 4611686018427387904) (by decide +kernel) (by decide +kernel) (by decide +kernel) (by decide +kernel)
      rw [rx, ry]
      rfl
theorem live_med {r : Nat} {o : Bool} (h : MedT (srtF [4616189618054758400, 4607182418800017408]) r o) : r = 4612811918334230528 ∧ o = true := by
  have e : srtF [4616189618054758400, 4607182418800017408] = [4607182418800017408, 4616189618054758400] := by
    refine srtF_eq ?_ ?_
    · have : [4616189618054758400, 4607182418800017408].filter isone = [4616189618054758400, 4607182418800017408] := by decide
      rw [this]
      exact List.Perm.swap _ _ _
    · simp [kz]
  rw [e] at h
  rcases h with ⟨h0, _⟩ | ⟨h1, _⟩ | ⟨_, _, ho, a, b, p, q, ha, hb, hp, hq, hr⟩
  · cases h0
  · simp at h1
  · have ea : a = 4607182418800017408 := by simpa using ha.symm
    have eb : b = 4616189618054758400 := by simpa using hb.symm
    subst ea eb
    have ep := hp.bits (show _ = some 4602678819172646912 by decide +kernel)
    have eq := hq.bits (show _ = some 4611686018427387904 by decide +kernel)
    subst ep eq
    exact ⟨hr.bits (by decide +kernel), ho⟩
theorem efleq (d : Nat) (t : TypeId) (a b : Nat) (w : World) (h : Try.prog.underlying t = some (.float .f64)) : (Op.equalIn (d + 1) t (.float .f64 a) (.float .f64 b)).run Try.prog w = .ok (FloatKind.f64.format.order a b == some .eq) w := by
  simp [Op.equalIn, run_underlying h]
  rfl
theorem esmeq (t : Int) (b : Nat) (hb : fin b = true) (w : World) : (Op.equalIn 10000 32 (.agg #[.int .i64 t, .float .f64 b]) (.agg #[.int .i64 t, .float .f64 b])).run Try.prog w = .ok true w := by
  have u1 := Try.underlying3
  have u2 := efleq 9998 22 b b w Try.underlying22
  rw [order_self hb] at u2
  have hS : Try.prog.underlying 32 = some (.struct (Try.prog.fieldsOf 32)) := by kernel_rfl
  rw [show (10000 : Nat) = 9999 + 1 from rfl, run_equalIn_agg w 9999 32 _ _ hS (by kernel_rfl)]
  simp only [Program.fieldsOf, Try.underlying32]
  go_simp
set_option maxHeartbeats 3200000 in
set_option maxRecDepth 100000 in
theorem elives_any (w : World) : Calls Try.prog 16 #[] w fun e w' => e = .returned (.bool true) ∧ Below w.heap.size w w' := by
  obtain ⟨X, hX⟩ : ∃ X, w.alloc (.cells #[.int .i64 1, .float .f64 0, .int .i64 4, .float .f64 4613937818241073152] 32) = X := ⟨_, rfl⟩
  have HX : Hid (FBox X w.heap.size 32 #[.int .i64 1, .float .f64 0, .int .i64 4, .float .f64 4613937818241073152] ∧ Below w.heap.size w X) := by rw [← hX]; exact ⟨FBox.made _ _ _, (Below.refl _ _).alloc (Nat.le_refl _) _⟩
  have HR : Hid (RdS X (some ⟨w.heap.size, 0, none⟩) [(1, 0), (4, 4613937818241073152)]) := .inr ⟨_, 0, rfl, HX.out.1.lt, fun j p hj => by
    match j, hj with
    | 0, hj => obtain rfl : (1, 0) = p := by simpa using hj
               exact ⟨HX.out.1.cell 0, HX.out.1.cell 1⟩
    | 1, hj => obtain rfl : (4, 4613937818241073152) = p := by simpa using hj
               exact ⟨HX.out.1.cell 2, HX.out.1.cell 3⟩
    | j + 2, hj => simp at hj⟩
  have HF := hid (efill_any (some ⟨w.heap.size, 0, none⟩) 2 2 _ X (by decide) rfl (fun p hp => by
    simp at hp
    rcases hp with rfl | rfl <;> exact ⟨by unfold I64; omega, by decide⟩) HR.out)
  go_enter Try.func16, Try.ntmps16
  go_wp2_with fail
  clear hX
  refine Calls.mono HF.out ?_
  rintro e w1 ⟨v, err, rfl, HC, hb1⟩
  have HV : Hid (err = 0 ∧ w1.ownsRow X.heap.size 32 2 v 4 (smC [(1, 0), (2, 4607182418800017408), (3, 4611686018427387904), (4, 4613937818241073152)])) := by
    rcases HC.out with ⟨hg, _⟩ | ⟨hg, F, hF, hc⟩
    · refine absurd ?_ hg
      refine ⟨by decide, by simp, fun p hp => ?_⟩
      simp at hp
      rcases hp with rfl | rfl <;> exact ⟨by decide, by decide⟩
    · obtain rfl := live_fill hF
      rcases hc with ⟨hx, _⟩ | ⟨_, hx, _⟩ | ⟨_, _, h1, h2⟩
      · exfalso
        simp [isone] at hx
      · simp at hx
      · exact ⟨h1, h2⟩
  obtain ⟨hv1, hv2⟩ := HV.out
  subst hv1
  obtain ⟨a1, c1, rfl, hV1⟩ := yshape hv2
  have HV1 := hid hV1
  have HB1 := hid (ybt' HX.out.2 hb1)
  clear hV1 hv2 HV HC hb1 HF HR HX
  obtain ⟨Y, hY⟩ : ∃ Y, w1.alloc (.cells #[.float .f64 4616189618054758400, .float .f64 4607182418800017408] 22) = Y := ⟨_, rfl⟩
  have HY : Hid (FBox Y w1.heap.size 22 #[.float .f64 4616189618054758400, .float .f64 4607182418800017408] ∧ Below w1.heap.size w1 Y) := by rw [← hY]; exact ⟨FBox.made _ _ _, (Below.refl _ _).alloc (Nat.le_refl _) _⟩
  have HM := hid (emedian_any (some ⟨w1.heap.size, 0, none⟩) 2 2 [4616189618054758400, 4607182418800017408] Y (by decide) rfl (fun x hx => by simp at hx; rcases hx with rfl | rfl <;> decide) (.inr ⟨_, 0, rfl, HY.out.1.lt, fun j x hj => by
    match j, hj with
    | 0, hj => obtain rfl : 4616189618054758400 = x := by simpa using hj
               exact HY.out.1.cell 0
    | 1, hj => obtain rfl : 4607182418800017408 = x := by simpa using hj
               exact HY.out.1.cell 1
    | j + 2, hj => simp at hj⟩))
  go_wp2_with fail
  clear hY
  refine Calls.mono HM.out ?_
  rintro e w2 ⟨r, o, rfl, HR, hb2⟩
  obtain ⟨h1, h2⟩ := live_med HR.out
  subst h1 h2
  have HB2 := hid (ybt' HB1.out (ybt' HY.out.2 hb2))
  have HV2 := hid (HV1.out.later (ybt' HY.out.2 hb2))
  obtain ⟨g, rfl, hg, hc⟩ := HV2.out.get (j := 4) (u := .int .i64 3) rfl
  have c4 : w2.cell? ⟨g, 4, none⟩ = some (.int .i64 3) := hc 4 _ rfl
  have c5 : w2.cell? ⟨g, 5, none⟩ = some (.float .f64 4611686018427387904) := hc 5 _ rfl
  have hEQ := esmeq 3 4611686018427387904 (by decide)
  have ho : (FloatKind.f64.format.order 4612811918334230528 4612811918334230528 == some .eq) = true := by decide +kernel
  clear hb2 HM HY HR hc HV1 HB1
  go_wp2_with fail
  go_ret
  exact ⟨rfl, HB2.out⟩
end Go.Proofs.Ytmigdomlakflfaa

/- Samples and heights that came in; what Fill makes has no small gap, and is filled already; no program. -/
namespace Go.Proofs.Ytmigdomlakflfaa
open Go.RowKit Go.ChangeShapes Go.WideShapes Go.Deep Go.Joins
set_option linter.unusedVariables false

/-! ### What Fill makes -/
/-- Each behind the one ahead, no small gap between. -/
def Nxt (p q : Int × Nat) : Prop := p.1 < q.1 ∧ (q.1 - p.1 ≤ 1 ∨ 4 < q.1 - p.1)
def Adj (F : List (Int × Nat)) : Prop := ∀ i p q, F[i]? = some p → F[i + 1]? = some q → Nxt p q
theorem Adj.snoc {F : List (Int × Nat)} {p q : Int × Nat} (h : Adj (F ++ [p])) (hr : Nxt p q) : Adj (F ++ [p] ++ [q]) := by
  intro i a b ha hb
  have hi := (List.getElem?_eq_some_iff.1 hb).1
  simp at hi
  rcases Nat.lt_or_ge (i + 1) (F ++ [p]).length with h1 | h1
  · rw [List.getElem?_append_left (by omega)] at ha
    rw [List.getElem?_append_left h1] at hb
    exact h i a b ha hb
  · have hif : i = F.length := by simp at h1; omega
    subst hif
    rw [List.getElem?_append_left (by simp)] at ha
    rw [List.getElem?_append_right (by simp)] at hb
    simp at ha hb
    subst ha hb
    exact hr
theorem Adj.rise {F : List (Int × Nat)} (h : Adj F) : F.Pairwise (fun p q => p.1 < q.1) := rise_adj (fun i p q hp hq => (h i p q hp hq).1)
theorem Adj.line {F0 M : List (Int × Nat)} {p q : Int × Nat} (h : Adj (F0 ++ [p])) (hl : LineL p q M) (hpq : p.1 < q.1) : Adj (F0 ++ [p] ++ M ++ [q]) := by
  rcases hl with ⟨hb, rfl⟩ | ⟨h1, h2, h3⟩
  · rw [List.append_nil]
    exact h.snoc ⟨hpq, .inr (by omega)⟩
  · have key : ∀ m, m ≤ M.length → ∃ G l, F0 ++ [p] ++ M.take m = G ++ [l] ∧ l.1 = p.1 + (m : Int) ∧ Adj (G ++ [l]) := by
      intro m
      induction m with
      | zero => intro _; exact ⟨F0, p, by simp, by simp, h⟩
      | succ m ih =>
        intro hm
        obtain ⟨G, l, e1, e2, e3⟩ := ih (by omega)
        obtain ⟨x, hx⟩ : ∃ x, M[m]? = some x := ⟨_, List.getElem?_eq_getElem (by omega)⟩
        have hx1 := (h3 m x hx).1
        refine ⟨G ++ [l], x, ?_, by rw [hx1]; omega, e3.snoc ⟨by omega, .inl (by omega)⟩⟩
        rw [List.take_add_one, hx, ← List.append_assoc, e1]
        rfl
    obtain ⟨G, l, e1, e2, e3⟩ := key M.length (Nat.le_refl _)
    rw [List.take_length] at e1
    rw [e1]
    exact e3.snoc ⟨by omega, .inl (by omega)⟩
end Go.Proofs.Ytmigdomlakflfaa

/- Halves and medians, no program: a half is the float nearest to it; medians of the negatives, of the same heights in another order, between the least and the greatest. -/
namespace Go.Proofs.Ytmigdomlakflfaa
open Go.RowKit
set_option linter.unusedVariables false

theorem read_num53 {x : Nat} (h : x % 9223372036854775808 < 9218868437227405312) :
    ∃ m a, Ieee.double.read x = .number (x / 9223372036854775808 % 2 == 1) m (-1074 + (a : Nat)) ∧ m * 2 ^ a = rungVal (x % 9223372036854775808) ∧ m < 9007199254740992 := by
  unfold Ieee.Format.read
  simp only [dbl_sign, dbl_inf, dbl_binade, dbl_least]
  by_cases hb : x % 9223372036854775808 < 4503599627370496
  · rw [if_pos hb]
    exact ⟨_, 0, rfl, by rw [rungVal, if_pos hb]; simp, by omega⟩
  · rw [if_neg hb, if_pos h]
    exact ⟨_, _, rfl, by rw [rungVal, if_neg hb], by omega⟩
/-- A half is the float nearest to the half. -/
theorem half_rn {x p : Nat} (hx : Fi x) (h : FN .quo x 4611686018427387904 p) : RN (sv x) 2 p := by
  obtain ⟨m, a, e1, v1, hm⟩ := read_num53 hx.2
  have e2 : Ieee.double.read 4611686018427387904 = .number false 4503599627370496 (-51) := by decide
  generalize hs : (x / 9223372036854775808 % 2 == 1) = s at e1
  have hsv : (sv x).natAbs = m * 2 ^ a := by rw [sv_abs, v1]
  have hlog : m.log2 ≤ 52 := by
    by_cases h0 : m = 0
    · subst h0; decide
    · have := (Nat.log2_lt h0 (k := 53)).2 (by omega)
      omega
  have key : ∃ (dg : Nat), 53 ≤ dg ∧ floatBits .quo .f64 x 4611686018427387904 = ((((Ieee.double.read x).quotient dg (Ieee.double.read 4611686018427387904)).map Ieee.double.write)) := ⟨_, by decide, rfl⟩
  obtain ⟨dg, hdg, hq⟩ := key
  rw [e1, e2] at hq
  simp only [Ieee.Datum.quotient] at hq
  rw [if_neg (by decide), show (4503599627370496 : Nat).log2 = 52 by decide] at hq
  obtain ⟨mo, hmo⟩ : ∃ mo, dg + 52 - m.log2 = 52 + mo := ⟨dg + 52 - m.log2 - 52, by omega⟩
  rw [hmo] at hq
  have hsh : m <<< (52 + mo) = m * 2 ^ mo * 4503599627370496 := by
    rw [Nat.shiftLeft_eq, Nat.pow_add, show (2 : Nat) ^ 52 = 4503599627370496 by decide, Nat.mul_comm 4503599627370496, ← Nat.mul_assoc]
  rw [hsh, Nat.mul_div_cancel _ (by decide), Nat.mul_mod_left] at hq
  have hq2 := h.bits (hq.trans rfl)
  have e3 : p = Ieee.double.nearest s (2 * (m * 2 ^ mo)) (-1074 + (a : Int) - -51 - ((52 + mo : Nat) : Int) - 1) := by
    rw [hq2]
    cases s <;> rfl
  rw [e3]
  refine near_rn (by decide) ?_ ?_ ?_
  · rw [hsv]
    by_cases hc : mo + 2 ≤ a
    · rw [show (-1074 + (a : Int) - -51 - ((52 + mo : Nat) : Int) - 1 + 1074).toNat = a - (mo + 2) by omega, show (-(-1074 + (a : Int) - -51 - ((52 + mo : Nat) : Int) - 1 + 1074)).toNat = 0 by omega]
      have e : (2 : Nat) ^ a = 2 ^ mo * 4 * 2 ^ (a - (mo + 2)) := by
        rw [show (4 : Nat) = 2 ^ 2 by decide, ← Nat.pow_add, ← Nat.pow_add, show mo + 2 + (a - (mo + 2)) = a by omega]
      rw [e, Nat.pow_zero, Nat.mul_one]
      generalize (2 : Nat) ^ mo = A
      generalize (2 : Nat) ^ (a - (mo + 2)) = B
      rw [show 2 * (m * A) * B * 2 = m * A * B * 4 by
        rw [Nat.mul_assoc 2, Nat.mul_comm 2, Nat.mul_assoc (m * A * B)]]
      rw [Nat.mul_assoc m, Nat.mul_assoc m, Nat.mul_right_comm A B 4]
    · rw [show (-1074 + (a : Int) - -51 - ((52 + mo : Nat) : Int) - 1 + 1074).toNat = 0 by omega, show (-(-1074 + (a : Int) - -51 - ((52 + mo : Nat) : Int) - 1 + 1074)).toNat = mo + 2 - a by omega]
      rw [Nat.mul_assoc m, ← Nat.pow_add, show a + (mo + 2 - a) = mo + 2 by omega, Nat.pow_add, Nat.pow_zero, Nat.mul_one]
      generalize (2 : Nat) ^ mo = A
      show 2 * (m * A) * 2 = m * (A * 4)
      rw [← Nat.mul_assoc m A 4]
      generalize m * A = C
      omega
  · intro hneg
    have := sv_sign hs
    cases s
    · rw [if_neg (by simp)] at this
      omega
    · rfl
  · intro hpos
    have := sv_sign hs
    cases s
    · rfl
    · rw [if_pos rfl] at this
      omega
theorem RN.fi {A : Int} {D p r : Nat} (h : RN A D p) (hD : 0 < D) (hr : r < 9218868437227405312) (hA : A.natAbs ≤ rungVal r * D) : Fi p := by
  obtain ⟨neg, s, rfl, _, _, hm⟩ := h
  have := hm.le hD hA
  exact word_fi neg (by omega)
theorem half_fi {x p : Nat} (hx : Fi x) (h : FN .quo x 4611686018427387904 p) : Fi p := (half_rn hx h).fi (by decide) hx.2 (by rw [sv_abs]; omega)
/-- Two numbers nearest to a fraction have one value. -/
theorem RN.val {A : Int} {D p q : Nat} (hD : 0 < D) (h : RN A D p) (g : RN A D q) (fp : Fi p) : sv p = sv q := by
  obtain ⟨n1, s, rfl, h1, h2, h3⟩ := h
  obtain ⟨n2, t, rfl, g1, g2, g3⟩ := g
  obtain rfl := h3.unique hD g3
  have hs : s ≤ 9218868437227405312 := h3.top
  rw [sv_word _ _ hs, sv_word _ _ hs]
  rcases Int.lt_trichotomy A 0 with hA | hA | hA
  · rw [h1 hA, g1 hA]
  · have : s = 0 := by
      subst hA
      exact h3.unique hD (mid_zero D)
    subst this
    have e : rungVal 0 = 0 := by decide
    rw [e]
    cases n1 <;> cases n2 <;> rfl
  · rw [h2 hA, g2 hA]
theorem RN.neg {A : Int} {D p q : Nat} (hD : 0 < D) (h : RN A D p) (g : RN (-A) D q) : sv q = - sv p := by
  obtain ⟨n1, s, rfl, h1, h2, h3⟩ := h
  obtain ⟨n2, t, rfl, g1, g2, g3⟩ := g
  rw [Int.natAbs_neg] at g3
  obtain rfl := h3.unique hD g3
  have hs : s ≤ 9218868437227405312 := h3.top
  rw [sv_word _ _ hs, sv_word _ _ hs]
  rcases Int.lt_trichotomy A 0 with hA | hA | hA
  · rw [h1 hA, g2 (by omega)]
    simp
  · have : s = 0 := by
      subst hA
      exact h3.unique hD (mid_zero D)
    subst this
    have e : rungVal 0 = 0 := by decide
    rw [e]
    cases n1 <;> cases n2 <;> rfl
  · rw [h2 hA, g1 (by omega)]
    simp
end Go.Proofs.Ytmigdomlakflfaa

/- Medians, no program: of the same heights, of the negatives; between the least and the greatest. -/
namespace Go.Proofs.Ytmigdomlakflfaa
open Go.RowKit
set_option linter.unusedVariables false

/-- What is nearest is not below a float that is not above. -/
theorem RN.ge_fl {A : Int} {r v : Nat} (h : RN A 1 r) (hv : Fi v) (hA : sv v ≤ A) : sv v ≤ sv r := by
  obtain ⟨neg, s, rfl, h1, h2, h3⟩ := h
  rw [sv_word _ _ h3.top]
  have hav := sv_abs v
  rcases Int.lt_or_le A 0 with hn | hp
  · rw [h1 hn, if_pos rfl]
    have := h3.le (r := v % 9223372036854775808) (by decide) (by rw [← hav]; omega)
    have := rungVal_le this
    omega
  · have hz : A = 0 ∨ 0 < A := by omega
    rcases hz with hz | hz
    · subst hz
      have : s = 0 := h3.unique (by decide) (mid_zero 1)
      subst this
      rw [show rungVal 0 = 0 by decide]
      cases neg <;> simp <;> omega
    · rw [h2 hz, if_neg (by decide)]
      by_cases hv0 : sv v ≤ 0
      · omega
      · have := h3.ge (r := v % 9223372036854775808) (by decide) (by have := hv.2; omega) (by rw [← hav]; omega)
        have := rungVal_le this
        omega
theorem RN.le_fl {A : Int} {r v : Nat} (h : RN A 1 r) (hv : Fi v) (hA : A ≤ sv v) : sv r ≤ sv v := by
  obtain ⟨neg, s, rfl, h1, h2, h3⟩ := h
  rw [sv_word _ _ h3.top]
  have hav := sv_abs v
  rcases Int.lt_or_le 0 A with hp | hn
  · rw [h2 hp, if_neg (by decide)]
    have := h3.le (r := v % 9223372036854775808) (by decide) (by rw [← hav]; omega)
    have := rungVal_le this
    omega
  · have hz : A = 0 ∨ A < 0 := by omega
    rcases hz with hz | hz
    · subst hz
      have : s = 0 := h3.unique (by decide) (mid_zero 1)
      subst this
      rw [show rungVal 0 = 0 by decide]
      cases neg <;> simp <;> omega
    · rw [h1 hz, if_pos rfl]
      by_cases hv0 : 0 ≤ sv v
      · omega
      · have := h3.ge (r := v % 9223372036854775808) (by decide) (by have := hv.2; omega) (by rw [← hav]; omega)
        have := rungVal_le this
        omega
/-- The greatest float, and its half. -/
theorem top_half : rungVal 9218868437227405311 = rungVal 9214364837600034815 * 2 := by decide +kernel
theorem half_size {x p : Nat} (hx : Fi x) (h : FN .quo x 4611686018427387904 p) : (sv p).natAbs ≤ rungVal 9214364837600034815 := by
  have hr := half_rn hx h
  obtain ⟨neg, s, rfl, _, _, hm⟩ := hr
  have h1 : (sv x).natAbs ≤ rungVal 9218868437227405311 := by
    rw [sv_abs]
    exact rungVal_le (by have := hx.2; omega)
  rw [top_half] at h1
  have := rungVal_le (hm.le (by decide) h1)
  rw [sv_word _ _ hm.top]
  split <;> omega
theorem sum_fi {p q r : Nat} (hp : Fi p) (hq : Fi q) (h1 : (sv p).natAbs ≤ rungVal 9214364837600034815) (h2 : (sv q).natAbs ≤ rungVal 9214364837600034815) (h : FN .add p q r) : Fi r := by
  refine (add_rn hp hq h).fi (r := 9218868437227405311) (by decide) (by decide) ?_
  rw [top_half]
  omega
/-- A half that is exact. -/
theorem half_exact {x p : Nat} (hx : Fi x) (h : FN .quo x 4611686018427387904 p) (ht : sv x = 0 ∨ 9007199254740992 ≤ (sv x).natAbs) : 2 * sv p = sv x := by
  have hr := half_rn hx h
  obtain ⟨neg, s, rfl, g1, g2, hm⟩ := hr
  rcases ht with ht | ht
  · rw [ht] at hm
    have : s = 0 := hm.unique (by decide) (mid_zero 2)
    subst this
    rw [sv_word _ _ (by decide), ht, show rungVal 0 = 0 by decide]
    cases neg <;> rfl
  · rw [sv_abs] at hm ht
    have hx2 := hx.2
    obtain ⟨e, he⟩ : ∃ e, x % 9223372036854775808 = e := ⟨_, rfl⟩
    rw [he] at hm ht hx2
    have hbig : 9007199254740992 ≤ e := by
      apply Nat.le_of_not_lt
      intro hlt
      have h3 : rungVal e < rungVal 9007199254740992 := rungVal_lt hlt
      rw [show rungVal 9007199254740992 = 9007199254740992 by decide +kernel] at h3
      omega
    have hhalf : rungVal e = rungVal (e - 4503599627370496) * 2 := by
      unfold rungVal
      rw [if_neg (by omega), if_neg (by omega)]
      have e1 : (e - 4503599627370496) % 4503599627370496 = e % 4503599627370496 := by omega
      have e2 : e / 4503599627370496 - 1 = ((e - 4503599627370496) / 4503599627370496 - 1) + 1 := by omega
      rw [e1, e2, Nat.pow_succ, ← Nat.mul_assoc]
    have hs : s = e - 4503599627370496 := by
      apply Nat.le_antisymm
      · exact hm.le (by decide) (Nat.le_of_eq hhalf)
      · exact hm.ge (by decide) (by omega) (Nat.le_of_eq hhalf.symm)
    rw [sv_word _ _ hm.top, hs]
    have hsg : sv x = if neg = true then -(rungVal e : Int) else (rungVal e : Int) := by
      have hab := sv_abs x
      rw [he] at hab
      have hpos : 0 < rungVal e := by omega
      rcases Int.lt_or_le (sv x) 0 with hn | hp
      · rw [g1 hn, if_pos rfl]
        omega
      · rw [g2 (by omega), if_neg (by decide)]
        omega
    rw [hsg, hhalf]
    split
    · rw [Int.natCast_mul]; omega
    · rw [Int.natCast_mul]; omega
end Go.Proofs.Ytmigdomlakflfaa

/- Medians, no program: of one list, of the negatives; between the least and the greatest. -/
namespace Go.Proofs.Ytmigdomlakflfaa
open Go.RowKit
set_option linter.unusedVariables false

theorem MedT.there {S : List Nat} {r : Nat} {o : Bool} (h : MedT S r o) : (o = true ↔ S ≠ []) ∧ (o = false → r = 0) := by
  rcases h with ⟨h1, h2, h3⟩ | ⟨h1, h2, h3⟩ | ⟨h1, h2, h3, h4⟩
  · subst h3; exact ⟨by simp [h1], fun _ => h2⟩
  · subst h2; refine ⟨⟨fun _ e => ?_, fun _ => rfl⟩, fun e => by cases e⟩
    subst e; simp at h1
  · subst h3; exact ⟨⟨fun _ => h1, fun _ => rfl⟩, fun e => by cases e⟩
theorem MedT.fi {S : List Nat} {r : Nat} (hS : ∀ x ∈ S, Fi x) (h : MedT S r true) : Fi r := by
  rcases h with ⟨_, _, h3⟩ | ⟨_, _, h3⟩ | ⟨_, _, _, a, b, p, q, ha, hb, hp, hq, hr⟩
  · cases h3
  · exact hS _ (List.mem_of_getElem? h3)
  · have fa := hS _ (List.mem_of_getElem? ha)
    have fb := hS _ (List.mem_of_getElem? hb)
    exact sum_fi (half_fi fa hp) (half_fi fb hq) (half_size fa hp) (half_size fb hq) hr
/-- The median of the negatives is the negative. -/
theorem MedT.opp {S : List Nat} {r s : Nat} (hS : ∀ x ∈ S, Fi x) (h : MedT S r true) (g : MedT (S.map fopp).reverse s true) : sv s = - sv r := by
  have hlen : (S.map fopp).reverse.length = S.length := by simp
  have hget : ∀ j, j < S.length → (S.map fopp).reverse[j]? = (S[S.length - 1 - j]?).map fopp := by
    intro j hj
    rw [List.getElem?_reverse (by simpa using hj), List.getElem?_map]
    simp
  unfold MedT at g
  rw [hlen] at g
  rcases h with ⟨_, _, h3⟩ | ⟨h1, _, h3⟩ | ⟨h0, h1, _, a, b, p, q, ha, hb, hp, hq, hr⟩
  · cases h3
  · have hlt := (List.getElem?_eq_some_iff.1 h3).1
    rcases g with ⟨_, _, g3⟩ | ⟨_, _, g3⟩ | ⟨_, g1, _⟩
    · cases g3
    · rw [hget _ hlt, show S.length - 1 - S.length / 2 = S.length / 2 by omega, h3] at g3
      simp only [Option.map_some, Option.some.injEq] at g3
      rw [← g3, sv_opp (hS _ (List.mem_of_getElem? h3)).1]
    · omega
  · have hlt := (List.getElem?_eq_some_iff.1 hb).1
    rcases g with ⟨_, _, g3⟩ | ⟨g1, _⟩ | ⟨_, _, _, a', b', p', q', ga, gb, gp, gq, gr⟩
    · cases g3
    · omega
    · have fa := hS _ (List.mem_of_getElem? ha)
      have fb := hS _ (List.mem_of_getElem? hb)
      rw [hget _ (by omega), show S.length - 1 - (S.length / 2 - 1) = S.length / 2 by omega, hb] at ga
      rw [hget _ hlt, show S.length - 1 - S.length / 2 = S.length / 2 - 1 by omega, ha] at gb
      simp only [Option.map_some, Option.some.injEq] at ga gb
      subst ga gb
      have e1 : sv p' = - sv q := by
        have := half_rn fb.opp gp
        rw [sv_opp fb.1] at this
        exact (half_rn fb hq).neg (by decide) this
      have e2 : sv q' = - sv p := by
        have := half_rn fa.opp gq
        rw [sv_opp fa.1] at this
        exact (half_rn fa hp).neg (by decide) this
      have := add_rn (half_fi fb.opp gp) (half_fi fa.opp gq) gr
      rw [e1, e2, show - sv q + - sv p = - (sv p + sv q) by omega] at this
      exact (add_rn (half_fi fa hp) (half_fi fb hq) hr).neg (by decide) this
/-- Two medians of one list have one value. -/
theorem MedT.same {S : List Nat} {r s : Nat} (hS : ∀ x ∈ S, Fi x) (h : MedT S r true) (g : MedT S s true) : sv s = sv r := by
  rcases h with ⟨_, _, h3⟩ | ⟨h1, _, h3⟩ | ⟨h0, h1, _, a, b, p, q, ha, hb, hp, hq, hr⟩
  · cases h3
  · rcases g with ⟨_, _, g3⟩ | ⟨_, _, g3⟩ | ⟨_, g1, _⟩
    · cases g3
    · rw [h3] at g3; cases g3; rfl
    · omega
  · rcases g with ⟨_, _, g3⟩ | ⟨g1, _⟩ | ⟨_, _, _, a', b', p', q', ga, gb, gp, gq, gr⟩
    · cases g3
    · omega
    · rw [ha] at ga
      rw [hb] at gb
      cases ga
      cases gb
      have fa := hS _ (List.mem_of_getElem? ha)
      have fb := hS _ (List.mem_of_getElem? hb)
      have e1 := RN.val (by decide) (half_rn fa gp) (half_rn fa hp) (half_fi fa gp)
      have e2 := RN.val (by decide) (half_rn fb gq) (half_rn fb hq) (half_fi fb gq)
      have h5 := add_rn (half_fi fa gp) (half_fi fb gq) gr
      rw [e1, e2] at h5
      exact RN.val (by decide) h5 (add_rn (half_fi fa hp) (half_fi fb hq) hr) (sum_fi (half_fi fa gp) (half_fi fb gq) (half_size fa gp) (half_size fb gq) gr)
/-- Where halving loses nothing, the median lies between any two floats that hold all heights between them. -/
theorem MedT.between {S : List Nat} {r lo hi : Nat} (hS : ∀ x ∈ S, Fi x) (h : MedT S r true) (hlo : Fi lo) (hhi : Fi hi) (hb : ∀ x ∈ S, sv lo ≤ sv x ∧ sv x ≤ sv hi) (ht : ∀ x ∈ S, sv x = 0 ∨ 9007199254740992 ≤ (sv x).natAbs) : sv lo ≤ sv r ∧ sv r ≤ sv hi := by
  rcases h with ⟨_, _, h3⟩ | ⟨h1, _, h3⟩ | ⟨h0, h1, _, a, b, p, q, ha, hb', hp, hq, hr⟩
  · cases h3
  · exact hb _ (List.mem_of_getElem? h3)
  · have ma := List.mem_of_getElem? ha
    have mb := List.mem_of_getElem? hb'
    have e1 := half_exact (hS _ ma) hp (ht _ ma)
    have e2 := half_exact (hS _ mb) hq (ht _ mb)
    have b1 := hb _ ma
    have b2 := hb _ mb
    have hn := add_rn (half_fi (hS _ ma) hp) (half_fi (hS _ mb) hq) hr
    exact ⟨hn.ge_fl hlo (by omega), hn.le_fl hhi (by omega)⟩
end Go.Proofs.Ytmigdomlakflfaa

/- The law CleanFills answers true, of every list of samples. -/
namespace Go.Proofs.Ytmigdomlakflfaa
open Go.RowKit
set_option linter.unusedVariables false
set_option linter.unusedSimpArgs false

set_option maxHeartbeats 1600000 in
set_option maxRecDepth 100000 in
theorem esame_any (a b : Option Addr) (ca cb : Nat) (M : List (Int × Nat)) (w : World) (hn : M.length ≤ 100000) (hf : ∀ p ∈ M, isone p.2 = true ∧ p.2 < 18446744073709551616) (ha : RdV w a (smC M)) (hb : RdV w b (smC M)) :
    Calls Try.prog 9 #[.slice a M.length ca, .slice b M.length cb] w fun e w' => e = .returned (.bool true) ∧ Below w.heap.size w w' := by
  have HA := hid ha
  have HB := hid hb
  have HF := hid hf
  clear ha hb hf
  go_enter Try.func9, Try.ntmps9
  go_wp2_with fail
  go_loopw [5] (fun x wr => ∃ k : Nat, k ≤ M.length ∧ x = .int .i64 (k : Int) ∧ Hid (Below w.heap.size w wr)) (fun x _ => M.length - (intOf x).toNat)
  case atStart => exact ⟨0, Nat.zero_le _, rfl, Below.refl _ _⟩
  case round =>
    obtain ⟨k, hk, rfl, HW⟩ := hrel
    by_cases hlt : k < M.length
    · have hj := smC_at (List.getElem?_eq_getElem hlt)
      have hfk := HF.out _ (List.getElem_mem hlt)
      obtain ⟨g, rfl, hg, hc⟩ := HA.out.get hj.1
      obtain ⟨g', rfl, hg', hc'⟩ := HB.out.get hj.1
      have c0 : wr.cell? ⟨g, k * 2, none⟩ = some (.int .i64 (M[k]).1) := (HW.out.cell (p := ⟨g, k * 2, none⟩) hg).trans (hc _ _ hj.1)
      have c1 : wr.cell? ⟨g, k * 2 + 1, none⟩ = some (.float .f64 (M[k]).2) := (HW.out.cell (p := ⟨g, k * 2 + 1, none⟩) hg).trans (hc _ _ hj.2)
      have d0 : wr.cell? ⟨g', k * 2, none⟩ = some (.int .i64 (M[k]).1) := (HW.out.cell (p := ⟨g', k * 2, none⟩) hg').trans (hc' _ _ hj.1)
      have d1 : wr.cell? ⟨g', k * 2 + 1, none⟩ = some (.float .f64 (M[k]).2) := (HW.out.cell (p := ⟨g', k * 2 + 1, none⟩) hg').trans (hc' _ _ hj.2)
      clear hc hc' HA HB hj
      generalize (M[k]).1 = z1 at *
      generalize (M[k]).2 = z2 at *
      have HSB : Hid (∀ V, Calls Try.prog 28 #[.float .f64 z2, .float .f64 z2] V fun e w' => e = .returned (.bool true) ∧ w' = V) := fun V => sameFloat_eq z2 V (by
        rw [fin_iff]
        have := hfk.1
        unfold isone at this
        simpa using this)
      have hs0 : wr.drew.cell? ⟨g, k * 2, none⟩ = some (.int .i64 z1) ∧ wr.drew.cell? ⟨g, k * 2 + 1, none⟩ = some (.float .f64 z2) ∧ wr.drew.cell? ⟨g', k * 2, none⟩ = some (.int .i64 z1) ∧ wr.drew.cell? ⟨g', k * 2 + 1, none⟩ = some (.float .f64 z2) := ⟨c0, c1, d0, d1⟩
      have hk0 : (0 : Int) ≤ ↑k := by omega
      have hk1 : (↑k : Int) < ↑M.length := by omega
      have HBL := hid (HW.out.drew)
      clear hfk
      go_wp2_with fail
      go_region_held3 (fun V : World => V.cell? ⟨g, k * 2, none⟩ = some (.int .i64 z1) ∧ V.cell? ⟨g, k * 2 + 1, none⟩ = some (.float .f64 z2) ∧ V.cell? ⟨g', k * 2, none⟩ = some (.int .i64 z1) ∧ V.cell? ⟨g', k * 2 + 1, none⟩ = some (.float .f64 z2)) (exact hs0) ((go_at_call 28; with_reducible refine Calls.mono (HSB.out _) ?_; rintro e w2 ⟨rfl, rfl⟩))
      all_goals
        go_wp2_with fail
        go_roundw
        case rel => exact ⟨k + 1, by omega, by go_num, HBL.out⟩
        case measure => simp [intOf]; omega
    · obtain rfl : k = M.length := by omega
      go_wp2_with fail
      go_ret
      exact ⟨rfl, HW.out⟩
end Go.Proofs.Ytmigdomlakflfaa

/- The laws' finite: how many heights are finite, the least and the greatest. -/
namespace Go.Proofs.Ytmigdomlakflfaa
open Go.RowKit
set_option linter.unusedVariables false

theorem elt_iff {x y : Nat} (hx : Fi x) (hy : Fi y) : (FloatKind.f64.format.order x y == some .lt) = decide (sv x < sv y) := by
  rw [yorder hx hy]
  rcases Int.lt_trichotomy (sv x) (sv y) with h | h | h
  · rw [Int.compare_eq_lt.2 h, decide_eq_true h]; rfl
  · rw [h, Int.compare_eq_eq.2 rfl, decide_eq_false (by omega)]; rfl
  · rw [Int.compare_eq_gt.2 h, decide_eq_false (by omega)]; rfl
/-- k heights are finite; lo and hi hold them between them. -/
structure FnT (xs : List Nat) (k lo hi : Nat) : Prop where
  num : k = (xs.filter isone).length
  non : k = 0 → lo = 0 ∧ hi = 0
  fl : Fi lo
  fh : Fi hi
  all : ∀ x ∈ xs, isone x = true → sv lo ≤ sv x ∧ sv x ≤ sv hi
theorem FnT.nil : FnT [] 0 0 0 := ⟨rfl, fun _ => ⟨rfl, rfl⟩, by unfold Fi; decide, by unfold Fi; decide, fun x h => by cases h⟩
theorem FnT.take {xs : List Nat} {k lo hi b lo' hi' : Nat} (h : FnT xs k lo hi) (fb : Fi b) (hl : Fi lo') (hh : Fi hi') (h1 : sv lo' ≤ sv b) (h2 : sv b ≤ sv hi') (h3 : k = 0 ∨ sv lo' ≤ sv lo) (h4 : k = 0 ∨ sv hi ≤ sv hi') : FnT (xs ++ [b]) (k + 1) lo' hi' :=
  ⟨by rw [List.filter_append, h.num]; simp [fb.isone], fun e => by omega, hl, hh, fun x hx ho => by
    rcases List.mem_append.1 hx with hx | hx
    · have hk : k ≠ 0 := by
        intro e
        have hm := h.num
        rw [e] at hm
        have : xs.filter isone = [] := List.eq_nil_of_length_eq_zero hm.symm
        have hx' : x ∈ xs.filter isone := List.mem_filter.2 ⟨hx, ho⟩
        rw [this] at hx'
        cases hx'
      have := h.all x hx ho
      omega
    · rw [List.mem_singleton.1 hx]; exact ⟨h1, h2⟩⟩
end Go.Proofs.Ytmigdomlakflfaa

/- The laws' tiny: where it says no, halving loses nothing. -/
namespace Go.Proofs.Ytmigdomlakflfaa
open Go.RowKit
set_option linter.unusedVariables false

end Go.Proofs.Ytmigdomlakflfaa

/- Means and medians as the document makes them, no program: a half is half of it; sums in order; what one height is swapped with. -/
namespace Go.Proofs.Ytmigdomlakflfaa
open Go.RowKit
set_option linter.unusedVariables false

theorem efn_same {op : BinOp} {x y r r' : Nat} (h : FN op x y r) (h' : FN op x y r') (f : Fi r) : r = r' := by
  rcases h.al h' (.refl _) (.refl _) with e | ⟨e, _⟩
  · exact e
  · rw [f.notnan] at e; cases e
theorem eint_fi (n : Nat) (h : n ≤ 9007199254740992) : Fi (floatOfInt .f64 (n : Int)) := by
  obtain ⟨r, hr, hv⟩ := rep n 1074 h (by decide) (by decide)
  have e : floatOfInt .f64 (n : Int) = Ieee.double.nearest false n 0 := by
    show Ieee.double.nearest (decide ((n : Int) < 0)) (n : Int).natAbs 0 = _
    rw [decide_eq_false (by omega), Int.natAbs_natCast]
  by_cases h0 : n = 0
  · subst h0
    rw [e]
    unfold Fi
    decide +kernel
  · obtain ⟨s, e1, m⟩ := near_is_mid false n 0 h0
    rw [e, e1]
    refine word_fi false ?_
    have q : s ≤ r := Mid.le (by decide) m (by
      rw [hv]
      exact Nat.le_of_eq (by rw [show ((0 : Int) + 1074).toNat = 1074 by decide, show (-((0 : Int) + 1074)).toNat = 0 by decide, Nat.pow_zero, Nat.mul_one]))
    omega
theorem RN.back {A : Int} {D k r : Nat} (hk : 0 < k) (h : RN (A * (k : Int)) (D * k) r) : RN A D r := by
  have hk' : (0 : Int) < (k : Int) := by omega
  obtain ⟨neg, s, e, h1, h2, h3⟩ := h
  refine ⟨neg, s, e, fun hA => h1 (Int.mul_neg_of_neg_of_pos hA hk'), fun hA => h2 (Int.mul_pos hA hk'), ?_⟩
  rw [Int.natAbs_mul, Int.natAbs_natCast] at h3
  exact h3.back k hk
theorem RN.one {A : Int} {D p q : Nat} (hA : A ≠ 0) (hD : 0 < D) (h : RN A D p) (g : RN A D q) : p = q := by
  obtain ⟨n1, s, rfl, h1, h2, h3⟩ := h
  obtain ⟨n2, t, rfl, g1, g2, g3⟩ := g
  obtain rfl := h3.unique hD g3
  rcases Int.lt_trichotomy A 0 with h | h | h
  · rw [h1 h, g1 h]
  · exact absurd h hA
  · rw [h2 h, g2 h]
/-- What Median tells is one. -/
theorem MedT.one {S : List Nat} {r s : Nat} {o u : Bool} (hS : ∀ x ∈ S, Fi x) (h : MedT S r o) (g : MedT S s u) : r = s ∧ o = u := by
  have hne : ∀ (k : Nat), k % 2 = 1 → k % 2 = 0 → False := fun k a b => by omega
  rcases h with ⟨h0, h1, h2⟩ | ⟨h0, h1, h2⟩ | ⟨h0, h1, h2, a, b, p, q, ha, hb, hp, hq, hr⟩
  · rcases g with ⟨g0, g1, g2⟩ | ⟨g0, g1, g2⟩ | ⟨g0, _⟩
    · exact ⟨by rw [h1, g1], by rw [h2, g2]⟩
    · rw [h0] at g0; simp at g0
    · exact absurd h0 g0
  · rcases g with ⟨g0, g1, g2⟩ | ⟨g0, g1, g2⟩ | ⟨g0, g1, _⟩
    · rw [g0] at h0; simp at h0
    · rw [h2] at g2
      injection g2 with g2
      exact ⟨g2, by rw [h1, g1]⟩
    · exact (hne _ h0 g1).elim
  · rcases g with ⟨g0, g1, g2⟩ | ⟨g0, g1, g2⟩ | ⟨g0, g1, g2, a', b', p', q', ga, gb, gp, gq, gr⟩
    · exact absurd g0 h0
    · exact (hne _ g0 h1).elim
    · rw [ha] at ga
      rw [hb] at gb
      injection ga with ga
      injection gb with gb
      subst ga gb
      have fa := hS a (List.mem_of_getElem? ha)
      have fb := hS b (List.mem_of_getElem? hb)
      obtain rfl := efn_same hp gp (half_fi fa hp)
      obtain rfl := efn_same hq gq (half_fi fb hq)
      have fr : Fi r := sum_fi (half_fi fa hp) (half_fi fb hq) (half_size fa hp) (half_size fb hq) hr
      exact ⟨efn_same hr gr fr, by rw [h2, g2]⟩
/-! ### Sums in order -/
/-- No NaN. -/
def Nf (x : Nat) : Prop := x < 18446744073709551616 ∧ x % 9223372036854775808 ≤ 9218868437227405312
theorem Nf.inf {x : Nat} (h : Nf x) (hn : ¬ Fi x) : x % 9223372036854775808 = 9218868437227405312 := by
  unfold Fi at hn
  have := h.1
  have := h.2
  omega
theorem inf_read {x : Nat} (hx : x < 18446744073709551616) (h : x % 9223372036854775808 = 9218868437227405312) : ∃ s, Ieee.double.read x = .infinity s ∧ Ieee.double.write (.infinity s) = x := by
  have : x = 9218868437227405312 ∨ x = 18442240474082181120 := by omega
  rcases this with rfl | rfl
  · exact ⟨false, by decide, by decide⟩
  · exact ⟨true, by decide, by decide⟩
theorem inf_add {x y : Nat} (hx : x < 18446744073709551616) (h : x % 9223372036854775808 = 9218868437227405312) (hy : Fi y) : floatBits .add .f64 x y = some x := by
  obtain ⟨s, e1, e2⟩ := inf_read hx h
  obtain ⟨m, a, e3, _⟩ := read_num hy.2
  show (((Ieee.double.read x).sum (Ieee.double.read y)).map Ieee.double.write) = some x
  rw [e1, e3]
  simp only [Ieee.Datum.sum, Option.map_some, e2]
theorem add_nf {x y : Nat} (hx : Nf x) (hy : Fi y) : ∃ r, floatBits .add .f64 x y = some r ∧ Nf r ∧ (¬ Fi x → ¬ Fi r) := by
  by_cases h : Fi x
  · obtain ⟨r, hr⟩ := add_some ((fin_iff x).2 h.2) ((fin_iff y).2 hy.2)
    refine ⟨r, hr, ?_, fun hn => absurd h hn⟩
    obtain ⟨neg, s, rfl, _, _, hm⟩ := add_rn h hy (FN.some hr)
    have hs : s ≤ 9218868437227405312 := hm.top
    unfold Nf
    cases neg
    · have hw : Ieee.double.word false s = s := rfl
      rw [hw]
      omega
    · have hw : Ieee.double.word true s = 9223372036854775808 + s := by show Ieee.double.signWeight + s = _; rw [dbl_sign]
      rw [hw]
      omega
  · exact ⟨x, inf_add hx.1 (hx.inf h) hy, hx, fun g => g⟩
/-- The sum of heights, in their order. -/
def sumF (s : Nat) : List Nat → Nat
  | [] => s
  | x :: xs => sumF ((floatBits .add .f64 s x).getD 0) xs
theorem sumF_snoc (s x : Nat) : ∀ xs, sumF s (xs ++ [x]) = (floatBits .add .f64 (sumF s xs) x).getD 0 := by
  intro xs
  induction xs generalizing s with
  | nil => rfl
  | cons y ys ih => exact ih _
theorem sumF_nf {s : Nat} (hs : Nf s) : ∀ xs, (∀ x ∈ xs, Fi x) → Nf (sumF s xs) ∧ (¬ Fi s → ¬ Fi (sumF s xs)) := by
  intro xs
  induction xs generalizing s with
  | nil => intro _; exact ⟨hs, fun h => h⟩
  | cons y ys ih =>
    intro h
    obtain ⟨r, hr, h1, h2⟩ := add_nf hs (h y List.mem_cons_self)
    show Nf (sumF ((floatBits .add .f64 s y).getD 0) ys) ∧ _
    have e : (floatBits .add .f64 s y).getD 0 = r := by rw [hr]; rfl
    have q := ih (s := r) h1 (fun x hx => h x (List.mem_cons_of_mem _ hx))
    show Nf (sumF ((floatBits .add .f64 s y).getD 0) ys) ∧ (¬ Fi s → ¬ Fi (sumF ((floatBits .add .f64 s y).getD 0) ys))
    rw [e]
    exact ⟨q.1, fun hn => q.2 (h2 hn)⟩
theorem sumF_app (s : Nat) : ∀ xs ys, sumF s (xs ++ ys) = sumF (sumF s xs) ys := by
  intro xs
  induction xs generalizing s with
  | nil => intro ys; rfl
  | cons x xs ih => intro ys; exact ih _ ys
theorem zero_nf : Nf 0 := by unfold Nf; decide
/-- One more. -/
theorem sumF_step {S : List Nat} {k x : Nat} (hS : ∀ x ∈ S, Fi x) (h : S[k]? = some x) : floatBits .add .f64 (sumF 0 (S.take k)) x = some (sumF 0 (S.take (k + 1))) := by
  obtain ⟨r, hr, _⟩ := add_nf (sumF_nf zero_nf (S.take k) (fun y hy => hS y (List.mem_of_mem_take hy))).1 (hS x (List.mem_of_getElem? h))
  rw [List.take_add_one, h]
  show _ = some (sumF 0 (S.take k ++ [x]))
  rw [sumF_snoc, hr]
  rfl
/-- What is beyond the floats stays there. -/
theorem sumF_stays {S : List Nat} {k : Nat} (hS : ∀ x ∈ S, Fi x) (h : ¬ Fi (sumF 0 (S.take k))) : ¬ Fi (sumF 0 S) := by
  have q := (sumF_nf (sumF_nf zero_nf (S.take k) (fun y hy => hS y (List.mem_of_mem_take hy))).1 (S.drop k) (fun y hy => hS y (List.mem_of_mem_drop hy))).2 h
  rw [← sumF_app, List.take_append_drop] at q
  exact q
/-- What Mean tells of heights in their order. -/
def MeanT (S : List Nat) (r : Nat) (e : Int) : Prop := (S = [] ∧ r = 0 ∧ e = 0) ∨ (S ≠ [] ∧ ∃ m, FN .quo (sumF 0 S) (floatOfInt .f64 (S.length : Int)) m ∧ ((isone m = true ∧ r = m ∧ e = 0) ∨ (isone m = false ∧ r = 0 ∧ e = 9)))
theorem MeanT.one {S : List Nat} {r s : Nat} {e f : Int} (h : MeanT S r e) (g : MeanT S s f) : r = s ∧ e = f := by
  rcases h with ⟨h0, h1, h2⟩ | ⟨h0, m, hm, hc⟩
  · rcases g with ⟨g0, g1, g2⟩ | ⟨g0, _⟩
    · exact ⟨by rw [h1, g1], by rw [h2, g2]⟩
    · exact absurd h0 g0
  · rcases g with ⟨g0, _⟩ | ⟨g0, n, hn, gc⟩
    · exact absurd g0 h0
    · rcases hc with ⟨a, rfl, rfl⟩ | ⟨a, rfl, rfl⟩
      · obtain rfl := efn_same hm hn (Fi.of hm.1 a)
        rcases gc with ⟨b, rfl, rfl⟩ | ⟨b, rfl, rfl⟩
        · exact ⟨rfl, rfl⟩
        · rw [a] at b; cases b
      · rcases gc with ⟨b, rfl, rfl⟩ | ⟨b, rfl, rfl⟩
        · obtain rfl := efn_same hn hm (Fi.of hn.1 b)
          rw [a] at b; cases b
        · exact ⟨rfl, rfl⟩
/-- A sum beyond the floats has no mean. -/
theorem MeanT.over {S : List Nat} {k : Nat} (hS : ∀ x ∈ S, Fi x) (hl : S.length ≤ 1000000) (hne : S ≠ []) (h : ¬ Fi (sumF 0 (S.take k))) : MeanT S 0 9 := by
  have hn := sumF_stays hS h
  have hf := (sumF_nf zero_nf S hS).1
  obtain ⟨s, e1, e2⟩ := inf_read hf.1 (hf.inf hn)
  have h0 : 0 < S.length := List.length_pos_iff.2 hne
  obtain ⟨m, a, e3, _⟩ := read_num (eint_fi S.length (by omega)).2
  have hq : floatBits .quo .f64 (sumF 0 S) (floatOfInt .f64 (S.length : Int)) = some (Ieee.double.write (.infinity (s ^^ (floatOfInt .f64 (S.length : Int) / 9223372036854775808 % 2 == 1)))) := by
    have key : ∃ dg, floatBits .quo .f64 (sumF 0 S) (floatOfInt .f64 (S.length : Int)) = ((((Ieee.double.read (sumF 0 S)).quotient dg (Ieee.double.read (floatOfInt .f64 (S.length : Int)))).map Ieee.double.write)) := ⟨_, rfl⟩
    obtain ⟨dg, hdg⟩ := key
    rw [hdg, e1, e3]
    rfl
  refine .inr ⟨hne, _, FN.some hq, .inr ⟨?_, rfl, rfl⟩⟩
  generalize (s ^^ (floatOfInt .f64 (S.length : Int) / 9223372036854775808 % 2 == 1)) = z
  cases z <;> decide
/-! ### One height behind the other -/
/-- The document's order. -/
def ahd (x y : Nat) : Bool := decide (kz x < kz y)
/-- A list in order, one height put ahead of all that it stands ahead of. -/
structure InsP (A : List Nat) (x : Nat) (B : List Nat) : Prop where
  rise : (A ++ B).Pairwise (fun p q => kz p ≤ kz q)
  less : ∀ b ∈ B, kz x < kz b
theorem InsP.start {A : List Nat} {x : Nat} (h : A.Pairwise (fun p q => kz p ≤ kz q)) : InsP A x [] := ⟨by rw [List.append_nil]; exact h, fun b hb => by cases hb⟩
theorem InsP.done {A : List Nat} {x : Nat} {B : List Nat} (h : InsP A x B) (hA : A = [] ∨ ∃ A' y, A = A' ++ [y] ∧ ahd x y = false) : (A ++ x :: B).Pairwise (fun p q => kz p ≤ kz q) := by
  have h1 := List.pairwise_append.1 h.rise
  refine List.pairwise_append.2 ⟨h1.1, List.pairwise_cons.2 ⟨fun b hb => by have := h.less b hb; omega, h1.2.1⟩, fun a ha b hb => ?_⟩
  rcases List.mem_cons.1 hb with rfl | hb
  · rcases hA with rfl | ⟨A', y, rfl, hy⟩
    · cases ha
    · have hy' : ¬ kz b < kz y := by simpa [ahd] using hy
      rcases List.mem_append.1 ha with ha | ha
      · have := (List.pairwise_append.1 h1.1).2.2 a ha y (by simp)
        omega
      · rw [List.mem_singleton.1 ha]; omega
  · exact h1.2.2 a ha b hb
/-! ### A row of one's own, one cell written -/
end Go.Proofs.Ytmigdomlakflfaa

/- The document's record (layer 19): New, none, place, one. -/
namespace Go.Proofs.Ytmigdomlakflfaa
open Go.RowKit
set_option linter.unusedVariables false
set_option linter.unusedSimpArgs false

/-- Where a tick's sample stands, or would stand. -/
structure Plc (L : List (Int × Nat)) (t : Int) (k : Nat) : Prop where
  le : k ≤ L.length
  lo : ∀ p ∈ L.take k, p.1 < t
  hi : ∀ p ∈ L.drop k, t ≤ p.1
theorem Plc.of {L : List (Int × Nat)} (ok : RecOk L) {t : Int} {k : Nat} (h0 : k ≤ L.length) (h1 : ∀ j p, j < k → L[j]? = some p → p.1 < t) (h2 : ∀ p, L[k]? = some p → t ≤ p.1) : Plc L t k := by
  refine ⟨h0, fun p hp => ?_, fun p hp => ?_⟩
  · obtain ⟨j, hj⟩ := List.getElem?_of_mem hp
    rw [List.getElem?_take] at hj
    split at hj
    · rename_i hlt; exact h1 j p hlt hj
    · cases hj
  · obtain ⟨j, hj⟩ := List.getElem?_of_mem hp
    rw [List.getElem?_drop] at hj
    cases hq : L[k]? with
    | none =>
      have := List.getElem?_eq_none_iff.1 hq
      have := (List.getElem?_eq_some_iff.1 hj).1
      omega
    | some q =>
      have hq2 := h2 q hq
      rcases Nat.eq_zero_or_pos j with rfl | hpos
      · rw [Nat.add_zero, hq] at hj
        injection hj with hj
        subst hj
        exact hq2
      · obtain ⟨l1, e1⟩ := List.getElem?_eq_some_iff.1 hq
        obtain ⟨l2, e2⟩ := List.getElem?_eq_some_iff.1 hj
        have := List.pairwise_iff_getElem.1 ok.rise k (k + j) l1 l2 (by omega)
        rw [e1, e2] at this
        omega
theorem Plc.has {L : List (Int × Nat)} (ok : RecOk L) {t : Int} {k : Nat} (h : Plc L t k) {b : Nat} (hp : L[k]? = some (t, b)) : rhas L t = true := by
  unfold rhas
  rw [List.any_eq_true]
  exact ⟨_, List.mem_of_getElem? hp, by simp⟩
theorem Plc.no {L : List (Int × Nat)} (ok : RecOk L) {t : Int} {k : Nat} (h : Plc L t k) (hp : ∀ p, L[k]? = some p → p.1 ≠ t) : rhas L t = false := by
  cases hh : rhas L t
  · rfl
  · exfalso
    obtain ⟨b, hb⟩ := rhas_yes hh
    rw [← List.take_append_drop k L] at hb
    rcases List.mem_append.1 hb with hm | hm
    · have := h.lo _ hm; dsimp only at this; omega
    · cases hq : L[k]? with
      | none =>
        have := List.getElem?_eq_none_iff.1 hq
        rw [List.drop_eq_nil_of_le this] at hm
        simp at hm
      | some q =>
        have hne := hp q hq
        obtain ⟨l1, e1⟩ := List.getElem?_eq_some_iff.1 hq
        have hqm : q ∈ L.drop k := by rw [List.drop_eq_getElem_cons l1, e1]; exact List.mem_cons_self
        have hq2 := h.hi q hqm
        have hrd : (L.drop k).Pairwise (fun p q => p.1 < q.1) := ok.rise.sublist (List.drop_sublist _ _)
        rw [List.drop_eq_getElem_cons l1, e1] at hm hrd
        rw [List.pairwise_cons] at hrd
        rcases List.mem_cons.1 hm with e | hm
        · subst e; exact hne rfl
        · have := hrd.1 _ hm; dsimp only at this; omega
theorem rins_split {t : Int} {b : Nat} : ∀ {A B : List (Int × Nat)}, (∀ p ∈ A, p.1 < t) → (∀ p ∈ B, t < p.1) → rins (t, b) (A ++ B) = A ++ (t, b) :: B
  | [], [], _, _ => rfl
  | [], y :: r, _, h => by
    show rins (t, b) (y :: r) = _
    unfold rins
    rw [if_pos (h y List.mem_cons_self)]
    rfl
  | x :: A, B, h1, h2 => by
    show rins (t, b) (x :: (A ++ B)) = _
    have hx := h1 x List.mem_cons_self
    unfold rins
    rw [if_neg (by dsimp only; omega), rins_split (fun p hp => h1 p (List.mem_cons_of_mem _ hp)) h2]
    rfl
theorem Plc.ins {L : List (Int × Nat)} {t : Int} {k : Nat} (h : Plc L t k) (hn : rhas L t = false) (b : Nat) : rins (t, b) L = L.take k ++ (t, b) :: L.drop k := by
  have e := rins_split (t := t) (b := b) h.lo (B := L.drop k) (fun p hp => by
    have h1 := h.hi p hp
    have h2 := rhas_no hn p (List.mem_of_mem_drop hp)
    omega)
  rw [List.take_append_drop] at e
  exact e
theorem Plc.del {L : List (Int × Nat)} (ok : RecOk L) {t : Int} {k : Nat} (h : Plc L t k) {b : Nat} (hp : L[k]? = some (t, b)) : rdel L t = L.take k ++ L.drop (k + 1) := by
  obtain ⟨l1, e1⟩ := List.getElem?_eq_some_iff.1 hp
  have hd : L.drop k = (t, b) :: L.drop (k + 1) := by rw [List.drop_eq_getElem_cons l1, e1]
  have hrd : (L.drop k).Pairwise (fun p q => p.1 < q.1) := ok.rise.sublist (List.drop_sublist _ _)
  rw [hd, List.pairwise_cons] at hrd
  have e : L = L.take k ++ (t, b) :: L.drop (k + 1) := by rw [← hd, List.take_append_drop]
  unfold rdel
  conv => lhs; rw [e]
  rw [List.filter_append, List.filter_cons]
  have h1 : (L.take k).filter (fun p => !(p.1 == t)) = L.take k := by
    rw [List.filter_eq_self]
    intro p hp
    have := h.lo p hp
    simp
    omega
  have h2 : (L.drop (k + 1)).filter (fun p => !(p.1 == t)) = L.drop (k + 1) := by
    rw [List.filter_eq_self]
    intro p hp
    have := hrd.1 p hp
    dsimp only at this
    simp
    omega
  rw [h1, h2]
  simp
end Go.Proofs.Ytmigdomlakflfaa

/- The document's record (layer 19): Add. -/
namespace Go.Proofs.Ytmigdomlakflfaa
open Go.RowKit
set_option linter.unusedVariables false
set_option linter.unusedSimpArgs false

theorem But.put {m : Nat} {a w : World} (h : But m a w) (j : Nat) (v : Value) : But m a (w.setCell ⟨m, j, none⟩ v) :=
  ⟨h.os, h.tape, h.output, by simpa [World.setCell] using h.size, fun i hi hr => (Below.heap_setCell _ _ _ _ (fun e => hr (by rw [show i = m from e]))).trans (h.block i hi hr)⟩
end Go.Proofs.Ytmigdomlakflfaa

/- The document's record (layer 19): From, Samples, Lost. -/
namespace Go.Proofs.Ytmigdomlakflfaa
open Go.RowKit
set_option linter.unusedVariables false
set_option linter.unusedSimpArgs false

end Go.Proofs.Ytmigdomlakflfaa

/- The document's means and medians: Finite, ahead, Order, Mean, Median; package clean's Mean. -/
namespace Go.Proofs.Ytmigdomlakflfaa
open Go.RowKit
set_option linter.unusedVariables false
set_option linter.unusedSimpArgs false

theorem rstore_flt (P : Program) (w : World) (a : Addr) (k : FloatKind) (x : Nat) (m : Mode) : (store a (.float k x) m).run P w = stored P w a (.float k x) m := run_store P w a _ m rfl
end Go.Proofs.Ytmigdomlakflfaa

/- Means and medians: package clean's Mean, the document's Mean and Median. -/
namespace Go.Proofs.Ytmigdomlakflfaa
open Go.RowKit
set_option linter.unusedVariables false
set_option linter.unusedSimpArgs false

theorem srtF_fi {xs : List Nat} (hx : ∀ x ∈ xs, x < 18446744073709551616) : ∀ x ∈ srtF xs, Fi x := fun x h => by
  have := srtF_mem.1 h
  exact Fi.of (hx x this.1) this.2
set_option maxHeartbeats 3200000 in
set_option maxRecDepth 100000 in
theorem emean_any (a : Option Addr) (n cap : Nat) (xs : List Nat) (w : World) (hn : n ≤ 65536) (hl : xs.length = n) (hx : ∀ x ∈ xs, x < 18446744073709551616) (h : RdH w a xs) :
    Calls Try.prog 10 #[.slice a n cap] w fun e w' => ∃ (r : Nat) (o : Int), e = .returned (.tuple #[.float .f64 r, .int .i64 o]) ∧ Hid (MeanT (srtF xs) r o) ∧ Below w.heap.size w w' := by
  have HI := hid (einorder_any a n cap xs w (by omega) hl hx h)
  have hls : (srtF xs).length ≤ 65536 := by rw [srtF_len]; exact Nat.le_trans (List.length_filter_le _ _) (by omega)
  have HF : Hid (∀ x ∈ srtF xs, Fi x) := srtF_fi hx
  have hnn : ¬ (65536 : Int) < (n : Int) := by omega
  clear h hx hl
  generalize srtF xs = S at *
  go_enter Try.func10, Try.ntmps10
  go_wp2_with fail
  refine Calls.mono HI.out ?_
  rintro e w1 ⟨v, rfl, HO, hb1⟩
  obtain ⟨a1, c1, rfl, hV⟩ := yshape HO.out
  have HV := hid (RdH.of hV)
  have HB := hid hb1
  clear hb1 hV HO HI
  by_cases h0 : S.length = 0
  · obtain rfl : S = [] := List.eq_nil_of_length_eq_zero h0
    go_wp2_with fail
    go_returns
    exact ⟨0, 0, rfl, .inl ⟨rfl, rfl, rfl⟩, HB.out⟩
  · have hz : ¬ ((S.length : Nat) : Int) = 0 := by omega
    have HNE : Hid (S ≠ []) := fun e => h0 (by rw [e]; rfl)
    go_wp2_with fail
    go_loopw [5, 19] (fun z x wr => ∃ k s : Nat, k ≤ S.length ∧ x = .int .i64 (k : Int) ∧ z = .float .f64 s ∧ Hid (s = sumF 0 (S.take k)) ∧ Hid (Below w1.heap.size w1 wr)) (fun _ x _ => S.length - (intOf x).toNat)
    case atStart => exact ⟨0, 0, Nat.zero_le _, rfl, rfl, rfl, Below.refl _ _⟩
    case round =>
      obtain ⟨k, s, hk, rfl, rfl, HS, HW⟩ := hrel
      by_cases hlt : k < S.length
      · obtain ⟨x, hp⟩ : ∃ p, S[k]? = some p := ⟨_, List.getElem?_eq_getElem (by omega)⟩
        obtain ⟨g, o, rfl, hg, hc⟩ := HV.out.get hp
        have c1 : wr.cell? ⟨g, o + k, none⟩ = some (.float .f64 x) := (HW.out.cell (p := ⟨g, o + k, none⟩) hg).trans (hc _ _ hp)
        obtain ⟨t, ht⟩ : ∃ t, t = sumF 0 (S.take (k + 1)) := ⟨_, rfl⟩
        have hst := sumF_step HF.out hp
        rw [← HS.out, ← ht] at hst
        have HT := hid ht
        have r1 : ∀ V, (binOp .add 22 (.float .f64 s) (.float .f64 x)).run Try.prog V = .ok (.float .f64 t) V := fun V => run_float_arith V _ _ _ _ _ _ hst
        have hki : (k : Int) < (S.length : Int) := by omega
        have hk0 : (0 : Int) ≤ (k : Int) := by omega
        clear hp hc hst ht
        go_wp2_with fail
        go_roundw
        case rel => exact ⟨k + 1, t, by omega, by go_num, rfl, HT.out, HW.out⟩
        case measure => simp [intOf]; omega
      · obtain rfl : k = S.length := by omega
        have hkk : ¬ (S.length : Int) < (S.length : Int) := by omega
        rw [List.take_length] at HS
        obtain ⟨m, hm⟩ : ∃ m, fval .quo wr s (floatOfInt .f64 (S.length : Int)) = m := ⟨_, rfl⟩
        obtain ⟨V, hV⟩ : ∃ V, fwld .quo wr s (floatOfInt .f64 (S.length : Int)) = V := ⟨_, rfl⟩
        have HM : Hid (FN .quo (sumF 0 S) (floatOfInt .f64 (S.length : Int)) m) := by rw [← hm, ← HS.out]; exact fval_fn _ _ _ _
        have HBV : Hid (Below w1.heap.size w1 V) := by rw [← hV]; exact fwld_below _ _ _ HW.out
        have rD : (binOp .quo 22 (.float .f64 s) (.float .f64 (floatOfInt .f64 (S.length : Int)))).run Try.prog wr = .ok (.float .f64 m) V := by rw [← hm, ← hV]; exact fquo_run _ _ _ _ _
        have HOne := hid (eisone_any m V HM.out.1)
        clear hm hV
        cases hone : isone m
        · rw [hone] at HOne
          have HN := hid hone
          clear hone
          go_wp2_with fail
          refine Calls.mono HOne.out ?_
          rintro e w2 ⟨rfl, rfl⟩
          go_wp2_with fail
          go_returns
          exact ⟨_, _, rfl, .inr ⟨HNE.out, m, HM.out, .inr ⟨HN.out, rfl, rfl⟩⟩, ybt' HB.out HBV.out⟩
        · rw [hone] at HOne
          have HN := hid hone
          clear hone
          go_wp2_with fail
          refine Calls.mono HOne.out ?_
          rintro e w2 ⟨rfl, rfl⟩
          go_wp2_with fail
          go_returns
          exact ⟨_, _, rfl, .inr ⟨HNE.out, m, HM.out, .inl ⟨HN.out, rfl, rfl⟩⟩, ybt' HB.out HBV.out⟩
end Go.Proofs.Ytmigdomlakflfaa

/- The law CleanMeans answers true, whatever heights come in. -/
namespace Go.Proofs.Ytmigdomlakflfaa
open Go.RowKit
set_option linter.unusedVariables false
set_option linter.unusedSimpArgs false

end Go.Proofs.Ytmigdomlakflfaa

/- The kit's lists of samples and of places: a copy, a lent one, kept, the same. -/
namespace Go.Proofs.Ytmigdomlakflfaa
open Go.RowKit
set_option linter.unusedVariables false
set_option linter.unusedSimpArgs false

/-- What stands behind a list of samples that is lent. -/
def smarks (k : Nat) : List (Int × Nat) := [((-9 : Int), 0), (-9, 4607182418800017408), (-9, 4611686018427387904)].take k
set_option maxHeartbeats 1600000 in
set_option maxRecDepth 100000 in
theorem esameI_any (a b : Option Addr) (ca cb : Nat) (Z : List Int) (w : World) (hn : Z.length ≤ 100000) (ha : RdV w a (Z.map (Value.int .i64))) (hb : RdV w b (Z.map (Value.int .i64))) :
    Calls Try.prog 13 #[.slice a Z.length ca, .slice b Z.length cb] w fun e w' => e = .returned (.bool true) ∧ Below w.heap.size w w' := by
  have HA := hid ha
  have HB := hid hb
  clear ha hb
  go_enter Try.func13, Try.ntmps13
  go_wp2_with fail
  go_loopw [5] (fun x wr => ∃ k : Nat, k ≤ Z.length ∧ x = .int .i64 (k : Int) ∧ Hid (Below w.heap.size w wr)) (fun x _ => Z.length - (intOf x).toNat)
  case atStart => exact ⟨0, Nat.zero_le _, rfl, Below.refl _ _⟩
  case round =>
    obtain ⟨k, hk, rfl, HW⟩ := hrel
    by_cases hlt : k < Z.length
    · obtain ⟨z, hz⟩ : ∃ z, Z[k]? = some z := ⟨_, List.getElem?_eq_getElem hlt⟩
      have hj : (Z.map (Value.int .i64))[k]? = some (.int .i64 z) := by rw [List.getElem?_map, hz]; rfl
      obtain ⟨g, rfl, hg, hc⟩ := HA.out.get hj
      obtain ⟨g', rfl, hg', hc'⟩ := HB.out.get hj
      have c0 : wr.cell? ⟨g, k, none⟩ = some (.int .i64 z) := (HW.out.cell (p := ⟨g, k, none⟩) hg).trans (hc _ _ hj)
      have d0 : wr.cell? ⟨g', k, none⟩ = some (.int .i64 z) := (HW.out.cell (p := ⟨g', k, none⟩) hg').trans (hc' _ _ hj)
      clear hc hc' HA HB hj hz
      have hk0 : (0 : Int) ≤ ↑k := by omega
      have hk1 : (↑k : Int) < ↑Z.length := by omega
      go_wp2_with fail
      go_quiet (fail)
      go_wp2_with fail
      exact ⟨⟨k + 1, by omega, by go_num, ydrewMM HW.out⟩, by simp [intOf]; omega⟩
    · obtain rfl : k = Z.length := by omega
      go_wp2_with fail
      go_ret
      exact ⟨rfl, HW.out⟩
end Go.Proofs.Ytmigdomlakflfaa

/- Lists of samples and of numbers that came in: no longer than their bulk. -/
namespace Go.Proofs.Ytmigdomlakflfaa
open Go.RowKit Go.ChangeShapes Go.WideShapes Go.Deep Go.Joins
set_option linter.unusedVariables false

/-- A list of numbers in memory. -/
def RdZ (w : World) (a : Option Addr) (xs : List Int) : Prop := xs = [] ∨ ∃ g o, a = some ⟨g, o, none⟩ ∧ g < w.heap.size ∧ ∀ j x, xs[j]? = some x → w.cell? ⟨g, o + j, none⟩ = some (.int .i64 x)
theorem RdZ.later {w w' : World} {a : Option Addr} {xs : List Int} (h : RdZ w a xs) (hb : Below w.heap.size w w') : RdZ w' a xs := by
  rcases h with h | ⟨g, o, ha, hg, hc⟩
  · exact .inl h
  · have := hb.size
    exact .inr ⟨g, o, ha, by omega, fun j x hj => (hb.cell (p := ⟨g, o + j, none⟩) hg).trans (hc j x hj)⟩
theorem RdZ.get {w : World} {a : Option Addr} {xs : List Int} (h : RdZ w a xs) {j : Nat} {x : Int} (hj : xs[j]? = some x) : ∃ g o, a = some ⟨g, o, none⟩ ∧ g < w.heap.size ∧ ∀ j x, xs[j]? = some x → w.cell? ⟨g, o + j, none⟩ = some (.int .i64 x) := by
  rcases h with rfl | h
  · simp at hj
  · exact h
theorem RdZ.of {w : World} {a : Option Addr} {xs : List Int} (h : RdV w a (xs.map (Value.int .i64))) : RdZ w a xs := by
  rcases h with h | ⟨g, ha, hg, hc⟩
  · left
    simpa using h
  · exact .inr ⟨g, 0, ha, hg, fun j x hj => by rw [Nat.zero_add]; exact hc j _ (by simp [hj])⟩
end Go.Proofs.Ytmigdomlakflfaa

/- Gaps filled, two ways of one: what Fill makes is one but for what is no number; no program. Samples without those at some places. -/
namespace Go.Proofs.Ytmigdomlakflfaa
open Go.RowKit
set_option linter.unusedVariables false

theorem LineT.al {s : Int} {b : Nat} {t : Int} {c : Nat} {x : Int} {r r' : Nat} (h : LineT s b t c x r) (g : LineT s b t c x r') : Al r r' := by
  obtain ⟨d, p, m, h1, h2, h3, h4⟩ := h
  obtain ⟨d', p', m', g1, g2, g3, g4⟩ := g
  exact h4.al g4 (.refl _) (h3.al g3 (h1.al g1 (.refl _) (.refl _)) (h2.al g2 (.refl _) (.refl _)))
theorem LineT.ex (w : World) (s : Int) (b : Nat) (t : Int) (c : Nat) (x : Int) : ∃ r, LineT s b t c x r := ⟨_, _, _, _, fval_fn _ w _ _, fval_fn _ w _ _, fval_fn _ w _ _, fval_fn _ w _ _⟩
/-- A sample, all that is no number being one. -/
def canS (p : Int × Nat) : Int × Nat := (p.1, if isnan p.2 = true then 9221120237041090561 else p.2)
theorem canS_al {x : Int} {r r' : Nat} (h : Al r r') : canS (x, r) = canS (x, r') := by
  rcases h with rfl | ⟨h1, h2⟩
  · rfl
  · unfold canS
    rw [if_pos h1, if_pos h2]
theorem isone_nan {x : Nat} (h : isnan x = true) : isone x = false := by
  have := (isnan_iff x).1 h
  unfold isone
  exact decide_eq_false (by omega)
theorem canS_one (p : Int × Nat) : isone (canS p).2 = isone p.2 := by
  unfold canS
  by_cases h : isnan p.2 = true
  · simp only [if_pos h]
    rw [isone_nan h]
    decide
  · simp only [if_neg h]
theorem canS_fi {p : Int × Nat} (h : isone p.2 = true) : canS p = p := by
  unfold canS
  rw [if_neg]
  intro hn
  rw [isone_nan hn] at h
  cases h
theorem canS_bad {F F' : List (Int × Nat)} (h : F.map canS = F'.map canS) (hb : ∃ p ∈ F, isone p.2 = false) : ∃ p ∈ F', isone p.2 = false := by
  obtain ⟨p, hp, hn⟩ := hb
  have : canS p ∈ F'.map canS := by rw [← h]; exact List.mem_map.2 ⟨p, hp, rfl⟩
  obtain ⟨q, hq, e⟩ := List.mem_map.1 this
  exact ⟨q, hq, by rw [← canS_one, e, canS_one]; exact hn⟩
theorem canS_all {F : List (Int × Nat)} (h : ∀ p ∈ F, isone p.2 = true) : F.map canS = F := by
  induction F with
  | nil => rfl
  | cons p r ih => rw [List.map_cons, canS_fi (h p List.mem_cons_self), ih (fun q hq => h q (List.mem_cons_of_mem _ hq))]
theorem LineL.can {p q : Int × Nat} {M M' : List (Int × Nat)} (h : LineL p q M) (g : LineL p q M') : M.map canS = M'.map canS := by
  rcases h with ⟨h1, rfl⟩ | ⟨h1, h2, h3⟩
  · rcases g with ⟨g1, rfl⟩ | ⟨g1, _⟩
    · rfl
    · omega
  · rcases g with ⟨g1, _⟩ | ⟨g1, g2, g3⟩
    · omega
    · apply List.ext_getElem?
      intro j
      rw [List.getElem?_map, List.getElem?_map]
      by_cases hj : j < M.length
      · have hx : M[j]? = some M[j] := List.getElem?_eq_getElem hj
        have hy : M'[j]? = some (M'[j]'(by omega)) := List.getElem?_eq_getElem (by omega)
        have a := h3 j _ hx
        have b := g3 j _ hy
        rw [hx, hy]
        show some _ = some _
        congr 1
        have e1 : (M[j]).1 = (M'[j]'(by omega)).1 := a.1.trans b.1.symm
        have a2 := a.2.1
        have b2 := b.2.1
        rw [← e1] at b2
        have := canS_al (x := (M[j]).1) (a2.al b2)
        show canS ((M[j]).1, (M[j]).2) = canS ((M'[j]'(by omega)).1, (M'[j]'(by omega)).2)
        rw [this, e1]
      · rw [List.getElem?_eq_none (by omega), List.getElem?_eq_none (by omega)]
theorem FilP.can {O F F' : List (Int × Nat)} (h : FilP O F) (g : FilP O F') : F.map canS = F'.map canS := by
  induction h generalizing F' with
  | nil => rw [g.none]
  | one q => rw [g.single]
  | more O p q F M h hl ih =>
    obtain ⟨F2, M2, g1, g2, rfl⟩ := FilP.snoc g
    rw [List.map_append, List.map_append, List.map_append, List.map_append, ih g1, hl.can g2]
/-- What Fill tells, whatever memory it lies in. -/
def FilC (xs : List (Int × Nat)) (err : Int) (v : Value) (Q : List (Int × Nat) → Prop) : Prop := (¬ goodS xs ∧ err = errS xs ∧ v = .slice none 0 0) ∨ (goodS xs ∧ ∃ F, FilP (onesL xs true) F ∧ (((∃ p ∈ F, isone p.2 = false) ∧ err = 9 ∧ v = .slice none 0 0) ∨ ((∀ p ∈ F, isone p.2 = true) ∧ 4096 < F.length ∧ err = 3 ∧ v = .slice none 0 0) ∨ ((∀ p ∈ F, isone p.2 = true) ∧ F.length ≤ 4096 ∧ err = 0 ∧ Q F)))
theorem one_bad {F : List (Int × Nat)} (h1 : ∃ p ∈ F, isone p.2 = false) (h2 : ∀ p ∈ F, isone p.2 = true) : False := by
  obtain ⟨p, hp, hn⟩ := h1
  rw [h2 p hp] at hn
  cases hn
theorem FilC.both {xs : List (Int × Nat)} {e f : Int} {v u : Value} {Q R : List (Int × Nat) → Prop} (h : FilC xs e v Q) (g : FilC xs f u R) : e = f ∧ ((v = .slice none 0 0 ∧ u = .slice none 0 0) ∨ ∃ F, (∀ p ∈ F, isone p.2 = true) ∧ F.length ≤ 4096 ∧ FilP (onesL xs true) F ∧ Q F ∧ R F) := by
  rcases h with ⟨h0, h1, h2⟩ | ⟨h0, F, hF, hc⟩
  · rcases g with ⟨g0, g1, g2⟩ | ⟨g0, _⟩
    · exact ⟨by rw [h1, g1], .inl ⟨h2, g2⟩⟩
    · exact absurd g0 h0
  · rcases g with ⟨g0, _⟩ | ⟨g0, G, hG, gc⟩
    · exact absurd h0 g0
    · have hca := hF.can hG
      have hlen : F.length = G.length := by have := congrArg List.length hca; simpa using this
      rcases hc with ⟨hb, he, hv⟩ | ⟨ha, hl, he, hv⟩ | ⟨ha, hl, he, hq⟩
      · have gb := canS_bad hca hb
        rcases gc with ⟨_, ge, gv⟩ | ⟨ga, _⟩ | ⟨ga, _⟩
        · exact ⟨by rw [he, ge], .inl ⟨hv, gv⟩⟩
        · exact (one_bad gb ga).elim
        · exact (one_bad gb ga).elim
      · rcases gc with ⟨gb, _⟩ | ⟨ga, gl, ge, gv⟩ | ⟨ga, gl, _⟩
        · exact (one_bad (canS_bad hca.symm gb) ha).elim
        · exact ⟨by rw [he, ge], .inl ⟨hv, gv⟩⟩
        · omega
      · rcases gc with ⟨gb, _⟩ | ⟨ga, gl, ge, gv⟩ | ⟨ga, gl, ge, gq⟩
        · exact (one_bad (canS_bad hca.symm gb) ha).elim
        · omega
        · rw [canS_all ha, canS_all ga] at hca
          subst hca
          exact ⟨by rw [he, ge], .inr ⟨F, ha, hl, hF, hq, gq⟩⟩
/-- A line begun can be ended. -/
theorem line_end (w : World) (p q : Int × Nat) : ∀ (m : Nat) (P : List (Int × Nat)), (∀ (j : Nat) x, P[j]? = some x → x.1 = p.1 + 1 + (j : Int) ∧ LineT p.1 p.2 q.1 q.2 x.1 x.2 ∧ x.2 < 18446744073709551616) → ∃ M, M.length = m ∧ ∀ (j : Nat) x, (P ++ M)[j]? = some x → x.1 = p.1 + 1 + (j : Int) ∧ LineT p.1 p.2 q.1 q.2 x.1 x.2 ∧ x.2 < 18446744073709551616
  | 0, P, h => ⟨[], rfl, by rw [List.append_nil]; exact h⟩
  | m + 1, P, h => by
    obtain ⟨r, hr⟩ := LineT.ex w p.1 p.2 q.1 q.2 (p.1 + 1 + (P.length : Int))
    obtain ⟨M, h1, h2⟩ := line_end w p q m (P ++ [(p.1 + 1 + (P.length : Int), r)]) (fun j x hj => by
      rcases Nat.lt_or_ge j P.length with hlt | hge
      · rw [List.getElem?_append_left hlt] at hj
        exact h j x hj
      · rw [List.getElem?_append_right hge] at hj
        have hj0 : j = P.length := by
          have := (List.getElem?_eq_some_iff.1 hj).1
          simp at this
          omega
        subst hj0
        simp at hj
        subst hj
        exact ⟨rfl, hr, hr.lt⟩)
    refine ⟨(p.1 + 1 + (P.length : Int), r) :: M, by simp [h1], fun j x hj => h2 j x ?_⟩
    rw [List.append_assoc]
    exact hj
theorem FilP.ext (w : World) : ∀ (rest O F : List (Int × Nat)), FilP O F → (O ++ rest).Pairwise (fun p q => p.1 < q.1) → ∃ G, FilP (O ++ rest) (F ++ G)
  | [], O, F, h, _ => ⟨[], by rw [List.append_nil, List.append_nil]; exact h⟩
  | q :: rest, O, F, h, hr => by
    rcases List.eq_nil_or_concat O with rfl | ⟨O', p, hO⟩
    · obtain rfl := h.none
      obtain ⟨G, hG⟩ := FilP.ext w rest [q] [q] (FilP.one q) hr
      exact ⟨[q] ++ G, hG⟩
    · rw [List.concat_eq_append] at hO
      subst hO
      have hpq : p.1 < q.1 := (List.pairwise_append.1 hr).2.2 p (by simp) q (by simp)
      obtain ⟨M, hM⟩ : ∃ M, LineL p q M := by
        by_cases hg : 3 < q.1 - p.1 - 1
        · exact ⟨[], .inl ⟨hg, rfl⟩⟩
        · obtain ⟨M, h1, h2⟩ := line_end w p q (q.1 - p.1 - 1).toNat [] (fun j x hj => by simp at hj)
          exact ⟨M, .inr ⟨by omega, by omega, h2⟩⟩
      have hr2 : ((O' ++ [p] ++ [q]) ++ rest).Pairwise (fun p q => p.1 < q.1) := by rw [List.append_assoc (O' ++ [p])]; exact hr
      obtain ⟨G, hG⟩ := FilP.ext w rest (O' ++ [p] ++ [q]) (F ++ M ++ [q]) (FilP.more O' p q F M h hM) hr2
      refine ⟨M ++ [q] ++ G, ?_⟩
      rw [List.append_assoc (O' ++ [p])] at hG
      rw [show F ++ (M ++ [q] ++ G) = F ++ M ++ [q] ++ G by simp [List.append_assoc]]
      exact hG
/-- One height beyond the floats, and there is one in the end. -/
theorem FilP.bad (w : World) {O' rest F P : List (Int × Nat)} {p q : Int × Nat} {r : Nat} (h : FilP (O' ++ [p]) F) (hr : (O' ++ [p] ++ q :: rest).Pairwise (fun p q => p.1 < q.1)) (hg : q.1 - p.1 - 1 ≤ 3)
    (hP : ∀ (j : Nat) x, P[j]? = some x → x.1 = p.1 + 1 + (j : Int) ∧ LineT p.1 p.2 q.1 q.2 x.1 x.2 ∧ x.2 < 18446744073709551616) (hlt : p.1 + 1 + (P.length : Int) < q.1) (hx : LineT p.1 p.2 q.1 q.2 (p.1 + 1 + (P.length : Int)) r) (hn : isone r = false) :
    ∃ G, FilP (O' ++ [p] ++ q :: rest) G ∧ ∃ z ∈ G, isone z.2 = false := by
  obtain ⟨M, h1, h2⟩ := line_end w p q ((q.1 - p.1 - 1).toNat - P.length - 1) (P ++ [(p.1 + 1 + (P.length : Int), r)]) (fun j x hj => by
    rcases Nat.lt_or_ge j P.length with hlt | hge
    · rw [List.getElem?_append_left hlt] at hj
      exact hP j x hj
    · rw [List.getElem?_append_right hge] at hj
      have hj0 : j = P.length := by
        have := (List.getElem?_eq_some_iff.1 hj).1
        simp at this
        omega
      subst hj0
      simp at hj
      subst hj
      exact ⟨rfl, hx, hx.lt⟩)
  have hL : LineL p q (P ++ [(p.1 + 1 + (P.length : Int), r)] ++ M) := .inr ⟨hg, by simp [h1]; omega, h2⟩
  have hr2 : ((O' ++ [p] ++ [q]) ++ rest).Pairwise (fun p q => p.1 < q.1) := by rw [List.append_assoc (O' ++ [p])]; exact hr
  obtain ⟨G, hG⟩ := FilP.ext w rest (O' ++ [p] ++ [q]) _ (FilP.more O' p q F _ h hL) hr2
  rw [List.append_assoc (O' ++ [p])] at hG
  exact ⟨_, hG, _, by simp; exact .inr (.inr (.inl rfl)), hn⟩
/-! ### Without -/
/-- Places of a list of so many, rising. -/
def goodP (zs : List Int) (n : Nat) : Prop := zs.Pairwise (· < ·) ∧ ∀ z ∈ zs, 0 ≤ z ∧ z < (n : Int)
/-- Samples up to a place without those at some places. -/
def woL (xs : List (Int × Nat)) (zs : List Int) (k : Nat) : List (Int × Nat) := ((List.range k).filter (fun i : Nat => !zs.contains (i : Int))).map (fun i => xs[i]?.getD (0, 0))
theorem woL_len (xs : List (Int × Nat)) (zs : List Int) (k : Nat) : (woL xs zs k).length ≤ k := by
  unfold woL
  rw [List.length_map]
  exact Nat.le_trans (List.length_filter_le _ _) (by simp)
theorem woL_skip {xs : List (Int × Nat)} {zs : List Int} {k : Nat} (h : (k : Int) ∈ zs) : woL xs zs (k + 1) = woL xs zs k := by
  unfold woL
  rw [List.range_succ, List.filter_append]
  simp [h]
theorem woL_take {xs : List (Int × Nat)} {zs : List Int} {k : Nat} {p : Int × Nat} (h : (k : Int) ∉ zs) (hp : xs[k]? = some p) : woL xs zs (k + 1) = woL xs zs k ++ [p] := by
  unfold woL
  rw [List.range_succ, List.filter_append, List.map_append]
  simp [h, hp]
theorem goodP_at {zs : List Int} {n : Nat} (h : goodP zs n) {j : Nat} {k : Nat} (hlow : ∀ i z, i < j → zs[i]? = some z → z < (k : Int)) (hhigh : ∀ i z, j ≤ i → zs[i]? = some z → (k : Int) ≤ z) : ((k : Int) ∈ zs ↔ zs[j]? = some (k : Int)) := by
  constructor
  · intro hm
    obtain ⟨i, hi⟩ := List.getElem?_of_mem hm
    rcases Nat.lt_trichotomy i j with h1 | h1 | h1
    · have := hlow i _ h1 hi; omega
    · rw [← h1]; exact hi
    · exfalso
      have hij := (List.getElem?_eq_some_iff.1 hi).1
      have hj : zs[j]? = some (zs[j]'(by omega)) := List.getElem?_eq_getElem (by omega)
      have h2 := hhigh j _ (Nat.le_refl _) hj
      have h3 := List.pairwise_iff_getElem.1 h.1 j i (by omega) hij h1
      have h4 := (List.getElem?_eq_some_iff.1 hi).2
      omega
  · intro hj
    exact List.mem_of_getElem? hj
end Go.Proofs.Ytmigdomlakflfaa

/- The kit's lists of numbers; package clean's placesOf, Without. -/
namespace Go.Proofs.Ytmigdomlakflfaa
open Go.RowKit
set_option linter.unusedVariables false
set_option linter.unusedSimpArgs false

theorem take_snocI {zs : List Int} {k : Nat} {z : Int} (h : zs[k]? = some z) : zs.take (k + 1) = zs.take k ++ [z] := by rw [List.take_add_one, h]; rfl
/-- What stands while places are looked at. -/
structure PlS (zs : List Int) (n k : Nat) (last : Int) : Prop where
  good : goodP (zs.take k) n
  high : ∀ z ∈ zs.take k, z ≤ last
  first : k = 0 → last = -1
  there : k ≠ 0 → last ∈ zs.take k
theorem PlS.start (zs : List Int) (n : Nat) : PlS zs n 0 (-1) := ⟨⟨by simp, by simp⟩, by simp, fun _ => rfl, fun h => absurd rfl h⟩
theorem PlS.step {zs : List Int} {n k : Nat} {last z : Int} (h : PlS zs n k last) (hz : zs[k]? = some z) (h1 : last < z) (h2 : z < (n : Int)) : PlS zs n (k + 1) z := by
  have h0 : 0 ≤ z := by
    by_cases hk : k = 0
    · have := h.first hk; omega
    · have := (h.good.2 _ (h.there hk)).1; omega
  refine ⟨⟨?_, fun y hy => ?_⟩, fun y hy => ?_, fun e => by omega, fun _ => ?_⟩
  · rw [take_snocI hz]
    refine List.pairwise_append.2 ⟨h.good.1, by simp, fun a ha b hb => ?_⟩
    rw [List.mem_singleton.1 hb]
    have := h.high a ha
    omega
  · rw [take_snocI hz] at hy
    rcases List.mem_append.1 hy with hy | hy
    · exact h.good.2 y hy
    · rw [List.mem_singleton.1 hy]; exact ⟨h0, h2⟩
  · rw [take_snocI hz] at hy
    rcases List.mem_append.1 hy with hy | hy
    · have := h.high y hy; omega
    · rw [List.mem_singleton.1 hy]; omega
  · rw [take_snocI hz]; simp
theorem PlS.no {zs : List Int} {n k : Nat} {last z : Int} (h : PlS zs n k last) (hz : zs[k]? = some z) (hb : z ≤ last ∨ (n : Int) ≤ z) : ¬ goodP zs n := by
  intro hg
  have hm := List.mem_of_getElem? hz
  rcases hb with hb | hb
  · by_cases hk : k = 0
    · have := h.first hk
      have := (hg.2 z hm).1
      omega
    · obtain ⟨i, hi⟩ := List.getElem?_of_mem (h.there hk)
      have hil := (List.getElem?_eq_some_iff.1 hi).1
      rw [List.length_take] at hil
      rw [List.getElem?_take_of_lt (by omega)] at hi
      have hkl := (List.getElem?_eq_some_iff.1 hz).1
      have := List.pairwise_iff_getElem.1 hg.1 i k (by omega) hkl (by omega)
      have e1 := (List.getElem?_eq_some_iff.1 hi).2
      have e2 := (List.getElem?_eq_some_iff.1 hz).2
      omega
  · have := (hg.2 z hm).2
    omega
theorem PlS.done {zs : List Int} {n k : Nat} {last : Int} (h : PlS zs n k last) (hk : zs.length ≤ k) : goodP zs n := by
  have := h.good
  rw [List.take_of_length_le hk] at this
  exact this
/-- What placesOf tells. -/
def PlT (w : World) (zs : List Int) (n : Nat) (e : Ending) (w' : World) : Prop := ∃ b : Bool, e = .returned (.bool b) ∧ Hid (b = true ↔ goodP zs n) ∧ Below w.heap.size w w'
set_option maxHeartbeats 1600000 in
set_option maxRecDepth 100000 in
theorem eplaces_any (a : Option Addr) (m cap n : Nat) (zs : List Int) (w : World) (hn : m ≤ 100000) (hl : zs.length = m) (h : RdZ w a zs) :
    Calls Try.prog 37 #[.slice a m cap, .int .i64 (n : Int)] w (PlT w zs n) := by
  have HD := hid h
  clear h
  go_enter Try.func37, Try.ntmps37
  go_wp2_with fail
  go_loopw [5, 10] (fun v x wr => ∃ (k : Nat) (last : Int), k ≤ m ∧ x = .int .i64 (k : Int) ∧ v = .int .i64 last ∧ Hid (PlS zs n k last) ∧ Hid (Below w.heap.size w wr)) (fun _ x _ => m - (intOf x).toNat)
  case atStart => exact ⟨0, -1, Nat.zero_le _, rfl, rfl, PlS.start _ _, Below.refl _ _⟩
  case round =>
    obtain ⟨k, last, hk, rfl, rfl, HP, HW⟩ := hrel
    by_cases hlt : k < m
    · obtain ⟨z, hp⟩ : ∃ p, zs[k]? = some p := ⟨_, List.getElem?_eq_getElem (by omega)⟩
      obtain ⟨g, o, rfl, hg, hc⟩ := HD.out.get hp
      have c1 : wr.cell? ⟨g, o + k, none⟩ = some (.int .i64 z) := (HW.out.cell (p := ⟨g, o + k, none⟩) hg).trans (hc _ _ hp)
      have HZ := hid hp
      have hkm : (k : Int) < (m : Int) := by omega
      have hk0 : (0 : Int) ≤ (k : Int) := by omega
      clear hp hc
      by_cases h1 : z ≤ last
      · have HN := hid (HP.out.no HZ.out (.inl h1))
        go_wp2_with fail
        go_ret
        exact ⟨false, rfl, ⟨(fun e => (by cases e)), (fun e => absurd e HN.out)⟩, HW.out⟩
      · by_cases h2 : (n : Int) ≤ z
        · have HN := hid (HP.out.no HZ.out (.inr h2))
          go_wp2_with fail
          go_ret
          exact ⟨false, rfl, ⟨(fun e => (by cases e)), (fun e => absurd e HN.out)⟩, HW.out⟩
        · have HN := hid (HP.out.step HZ.out (by omega) (by omega))
          go_wp2_with fail
          exact ⟨⟨k + 1, z, by omega, by go_num, rfl, HN.out, HW.out⟩, by simp [intOf]; omega⟩
    · obtain rfl : k = m := by omega
      have hkk : ¬ (k : Int) < (k : Int) := by omega
      have HG := hid (HP.out.done (by omega))
      go_wp2_with fail
      go_ret
      exact ⟨true, rfl, ⟨(fun _ => HG.out), (fun _ => rfl)⟩, HW.out⟩
/-- What Without tells, whatever memory it lies in. -/
def WoC (zs : List Int) (n m : Nat) (err : Int) (v : Value) (Q : Prop) : Prop := ((4096 < n ∨ 4096 < m) ∧ err = 3 ∧ v = .slice none 0 0) ∨ (n ≤ 4096 ∧ m ≤ 4096 ∧ ¬ goodP zs n ∧ err = 2 ∧ v = .slice none 0 0) ∨ (n ≤ 4096 ∧ m ≤ 4096 ∧ goodP zs n ∧ err = 0 ∧ Q)
def WoT (w : World) (xs : List (Int × Nat)) (zs : List Int) (n m : Nat) (e : Ending) (w' : World) : Prop := ∃ v err, e = .returned (.tuple #[v, .int .i64 err]) ∧ Hid (WoC zs n m err v (w'.ownsRow w.heap.size 32 2 v (woL xs zs n).length (smC (woL xs zs n)))) ∧ Below w.heap.size w w'
/-- What stands while samples are gone through. -/
structure WoS (zs : List Int) (k j : Nat) : Prop where
  low : ∀ i z, i < j → zs[i]? = some z → z < (k : Int)
  high : ∀ i z, j ≤ i → zs[i]? = some z → (k : Int) ≤ z
theorem WoS.start {zs : List Int} {n : Nat} (h : goodP zs n) : WoS zs 0 0 := ⟨fun i z hi => by omega, fun i z _ hz => by have := (h.2 z (List.mem_of_getElem? hz)).1; omega⟩
theorem WoS.skip {zs : List Int} {n k j : Nat} (hg : goodP zs n) (h : WoS zs k j) (hz : zs[j]? = some (k : Int)) : WoS zs (k + 1) (j + 1) := by
  refine ⟨fun i z hi hiz => ?_, fun i z hi hiz => ?_⟩
  · rcases Nat.lt_or_ge i j with h1 | h1
    · have := h.low i z h1 hiz; omega
    · obtain rfl : i = j := by omega
      rw [hz] at hiz
      injection hiz with hiz
      omega
  · have l1 := (List.getElem?_eq_some_iff.1 hz).1
    have l2 := (List.getElem?_eq_some_iff.1 hiz).1
    have := List.pairwise_iff_getElem.1 hg.1 j i l1 l2 (by omega)
    have e1 := (List.getElem?_eq_some_iff.1 hz).2
    have e2 := (List.getElem?_eq_some_iff.1 hiz).2
    omega
theorem WoS.take {zs : List Int} {k j : Nat} (h : WoS zs k j) (hz : (k : Int) ∉ zs) : WoS zs (k + 1) j := by
  refine ⟨fun i z hi hiz => ?_, fun i z hi hiz => ?_⟩
  · have := h.low i z hi hiz; omega
  · have h1 := h.high i z hi hiz
    have h2 : z ≠ (k : Int) := fun e => hz (by rw [← e]; exact List.mem_of_getElem? hiz)
    omega
set_option maxHeartbeats 6400000 in
set_option maxRecDepth 100000 in
theorem ewithout_any (a : Option Addr) (n cap : Nat) (xs : List (Int × Nat)) (b : Option Addr) (m cb : Nat) (zs : List Int) (w : World) (hl : xs.length = n) (hm : zs.length = m) (h : RdS w a xs) (hz : RdZ w b zs) :
    Calls Try.prog 15 #[.slice a n cap, .slice b m cb] w (WoT w xs zs n m) := by
  have HD := hid h
  have HZ := hid hz
  clear h hz
  by_cases h1 : 4096 < n
  · have h1' : (4096 : Int) < (n : Int) := by omega
    go_enter Try.func15, Try.ntmps15
    go_wp2_with fail
    go_returns
    exact ⟨_, 3, rfl, .inl ⟨.inl h1, rfl, rfl⟩, Below.refl _ _⟩
  · have h1' : ¬ (4096 : Int) < (n : Int) := by omega
    by_cases h2 : 4096 < m
    · have h2' : (4096 : Int) < (m : Int) := by omega
      go_enter Try.func15, Try.ntmps15
      go_wp2_with fail
      go_returns
      exact ⟨_, 3, rfl, .inl ⟨.inr h2, rfl, rfl⟩, Below.refl _ _⟩
    · have h2' : ¬ (4096 : Int) < (m : Int) := by omega
      have HN := hid (And.intro h1 h2)
      have HPl := hid (eplaces_any b m cb n zs w (by omega) hm HZ.out)
      obtain ⟨i0, hi, hz0, hz1, hz2⟩ := info_parts Try.yinfoS
      have hnb : n ≤ 4096 ∧ m ≤ 4096 := by omega
      clear h1 h2
      go_enter Try.func15, Try.ntmps15
      go_wp2_with fail
      refine Calls.mono HPl.out ?_
      rintro e w1 ⟨bb, rfl, hb, hb1⟩
      have HB1 := hid hb1
      clear hb1 HPl
      cases bb
      · have HNo : Hid (¬ goodP zs n) := fun e => by have := hb.out.2 e; cases this
        go_wp2_with fail
        go_returns
        exact ⟨_, 2, rfl, .inr (.inl ⟨hnb.1, hnb.2, HNo.out, rfl, rfl⟩), HB1.out⟩
      · have HG := hid (hb.out.1 rfl)
        go_wp2_with fail
        go_loopw [6, 7, 8] (fun v x y wr => ∃ k j : Nat, k ≤ n ∧ j ≤ m ∧ x = .int .i64 (k : Int) ∧ y = .int .i64 (j : Int) ∧ Hid (WoS zs k j) ∧ Hid (wr.ownsRow w.heap.size 32 2 v (woL xs zs k).length (smC (woL xs zs k))) ∧ Hid (Below w.heap.size w wr)) (fun _ x _ _ => n - (intOf x).toNat)
        case atStart => exact ⟨0, 0, Nat.zero_le _, Nat.zero_le _, rfl, rfl, WoS.start HG.out, World.ownsRow_nil _ _ _ _, HB1.out⟩
        case round =>
          clear HB1
          obtain ⟨k, j, hk, hj, rfl, rfl, HS, HO, HW⟩ := hrel
          by_cases hlt : k < n
          · obtain ⟨q, hq⟩ : ∃ p, xs[k]? = some p := ⟨_, List.getElem?_eq_getElem (by omega)⟩
            obtain ⟨t, c⟩ := q
            obtain ⟨g, o, rfl, hg, hc⟩ := HD.out.get hq
            have c0 : wr.cell? ⟨g, o + k * 2, none⟩ = some (.int .i64 t) := (HW.out.cell (p := ⟨g, o + k * 2, none⟩) hg).trans (hc _ _ hq).1
            have c1 : wr.cell? ⟨g, o + k * 2 + 1, none⟩ = some (.float .f64 c) := (HW.out.cell (p := ⟨g, o + k * 2 + 1, none⟩) hg).trans (hc _ _ hq).2
            have HQ := hid hq
            have hkn : (k : Int) < (n : Int) := by omega
            have hk0 : (0 : Int) ≤ (k : Int) := by omega
            have hsz := HW.out.size
            have hle : (woL xs zs k).length ≤ k := woL_len _ _ _
            have hat := goodP_at (k := k) (j := j) HG.out HS.out.low HS.out.high
            clear hc hq
            by_cases hjm : j < m
            · obtain ⟨z, hzj⟩ : ∃ p, zs[j]? = some p := ⟨_, List.getElem?_eq_getElem (by omega)⟩
              obtain ⟨g', o', rfl, hg', hc'⟩ := HZ.out.get hzj
              have d0 : wr.cell? ⟨g', o' + j, none⟩ = some (.int .i64 z) := (HW.out.cell (p := ⟨g', o' + j, none⟩) hg').trans (hc' _ _ hzj)
              have hjm2 : (j : Int) < (m : Int) := by omega
              have hj0 : (0 : Int) ≤ (j : Int) := by omega
              have HZJ := hid hzj
              clear hc' hzj
              by_cases hzk : z = (k : Int)
              · subst hzk
                have HN1 := hid (woL_skip (xs := xs) (hat.2 HZJ.out))
                have HS1 := hid (WoS.skip HG.out HS.out HZJ.out)
                clear hat
                go_wp2_with fail
                refine ⟨⟨k + 1, j + 1, by omega, by omega, by go_num, by go_num, HS1.out, ?_, HW.out⟩, by simp [intOf]; omega⟩
                rw [HN1.out]
                exact HO.out
              · have hnm : (k : Int) ∉ zs := fun e => hzk (by have := hat.1 e; rw [HZJ.out] at this; injection this)
                have HN1 := hid (woL_take hnm HQ.out)
                have HS1 := hid (HS.out.take hnm)
                have ho := HO.out
                clear hat hnm HO
                generalize woL xs zs k = R at *
                go_wp2_with (first
                  | (at_builtin; refine wpList_append_own _ rfl _ _ 25 rfl w.heap.size 32 i0 (.agg #[.int .i64 0, .float .f64 0]) 2 16 Try.underlying25 hi hz0 hz1 hz2 rfl (by decide) _ _ _ rfl (ho.alloc _) ⟨wr.heap.size, 0, none⟩ 1 1 [.int .i64 t, .float .f64 c] rfl rfl (ycell2 _ _ _ _) (smC_one (t, c)) (by unfold maxLen; omega) (by omega) (by simp; omega) ?_; intro v' w4 ho4 hg4 _)
                  | go_in)
                have HB4 := hid ((HW.out.alloc (by omega) _).grown hg4 (by simp; omega) (fun g hg => (ho.lt g hg).1))
                have HO4 := hid ho4
                clear hg4 ho4 ho
                go_wp2_with fail
                refine ⟨⟨k + 1, j, by omega, by omega, by go_num, rfl, HS1.out, ?_, HB4.out⟩, by simp [intOf]; omega⟩
                rw [HN1.out, List.length_append, smC_append]
                exact HO4.out
            · have hjm2 : ¬ (j : Int) < (m : Int) := by omega
              have hnm : (k : Int) ∉ zs := fun e => by
                have := hat.1 e
                rw [List.getElem?_eq_none (by omega)] at this
                cases this
              have HN1 := hid (woL_take hnm HQ.out)
              have HS1 := hid (HS.out.take hnm)
              have ho := HO.out
              clear hat hnm HO
              generalize woL xs zs k = R at *
              go_wp2_with (first
                | (at_builtin; refine wpList_append_own _ rfl _ _ 25 rfl w.heap.size 32 i0 (.agg #[.int .i64 0, .float .f64 0]) 2 16 Try.underlying25 hi hz0 hz1 hz2 rfl (by decide) _ _ _ rfl (ho.alloc _) ⟨wr.heap.size, 0, none⟩ 1 1 [.int .i64 t, .float .f64 c] rfl rfl (ycell2 _ _ _ _) (smC_one (t, c)) (by unfold maxLen; omega) (by omega) (by simp; omega) ?_; intro v' w4 ho4 hg4 _)
                | go_in)
              have HB4 := hid ((HW.out.alloc (by omega) _).grown hg4 (by simp; omega) (fun g hg => (ho.lt g hg).1))
              have HO4 := hid ho4
              clear hg4 ho4 ho
              go_wp2_with fail
              refine ⟨⟨k + 1, j, by omega, by omega, by go_num, rfl, HS1.out, ?_, HB4.out⟩, by simp [intOf]; omega⟩
              rw [HN1.out, List.length_append, smC_append]
              exact HO4.out
          · obtain rfl : k = n := by omega
            have hkk : ¬ (k : Int) < (k : Int) := by omega
            go_wp2_with fail
            go_returns
            exact ⟨_, 0, rfl, .inr (.inr ⟨hnb.1, hnb.2, HG.out, rfl, HO.out⟩), HW.out⟩
end Go.Proofs.Ytmigdomlakflfaa

/- The document's Fill. -/
namespace Go.Proofs.Ytmigdomlakflfaa
open Go.RowKit
set_option linter.unusedVariables false
set_option linter.unusedSimpArgs false

theorem FilP.ge {O F : List (Int × Nat)} (h : FilP O F) : O.length ≤ F.length := by
  induction h with
  | nil => simp
  | one q => simp
  | more O p q F M h hl ih => simp at ih ⊢; omega
theorem FilP.last {O F : List (Int × Nat)} (h : FilP O F) (hne : F ≠ []) : ∃ O0 F0 p, O = O0 ++ [p] ∧ F = F0 ++ [p] := by
  cases h with
  | nil => exact absurd rfl hne
  | one q => exact ⟨[], [], q, rfl, rfl⟩
  | more O p q F M h hl => exact ⟨_, _, q, rfl, rfl⟩
/-- What stands while a line is put in. -/
structure RfS (w : World) (ba : Nat) (L : List (Int × Nat)) (p : Int × Nat) (v : Value) (W : World) : Prop where
  bel : Below w.heap.size w W
  own : W.ownsRow w.heap.size 32 2 v L.length (smC L)
  box : FBox W ba 32 #[.int .i64 p.1, .float .f64 p.2]
  away : v.ownBlock ≠ some ba
theorem RfS.later {w W W' : World} {ba : Nat} {L : List (Int × Nat)} {p : Int × Nat} {v : Value} (h : RfS w ba L p v W) (hb : Below W.heap.size W W') : RfS w ba L p v W' :=
  ⟨ybt' h.bel hb, yowns_later h.own hb, h.box.later hb h.box.lt, h.away⟩
theorem RfS.app {w W W' : World} {ba : Nat} {L L' : List (Int × Nat)} {p : Int × Nat} {v v' : Value} (h : RfS w ba L p v W) (o : W'.ownsRow w.heap.size 32 2 v' L'.length (smC L')) (hg : W.grownBy W' v.ownBlock) (ha : v'.ownBlock = v.ownBlock ∨ v'.ownBlock = some W.heap.size) : RfS w ba L' p v' W' := by
  have hl := h.box.lt
  refine ⟨h.bel.grown hg h.bel.size (fun q e => (h.own.lt q e).1), o, (hg.block ba hl (fun e => h.away e.symm)).trans h.box, ?_⟩
  rcases ha with ha | ha
  · rw [ha]; exact h.away
  · rw [ha]
    intro e
    injection e with e
    omega
end Go.Proofs.Ytmigdomlakflfaa

/- The law's apart: an answer is written over, all others stay. -/
namespace Go.Proofs.Ytmigdomlakflfaa
open Go.RowKit
set_option linter.unusedVariables false
set_option linter.unusedSimpArgs false

theorem Try.yinfoSS : (Try.prog.info? 25).map (fun i => (i.zero, i.size, i.bytes)) = some (some (.slice none 0 0), 1, 24) := by kernel_rfl
theorem gby_of {w w' : World} {o : Option Nat} (h : Below w.heap.size w w') : w.grownBy w' o := ⟨h.os, h.tape, h.output, h.size, fun k hk _ => h.block k hk⟩
theorem gby_set {w W : World} {g : Nat} (h : w.grownBy W (some g)) (j : Nat) (v : Value) : w.grownBy (W.setCell ⟨g, j, none⟩ v) (some g) :=
  ⟨h.os, h.tape, h.output, by simpa [World.setCell] using h.size, fun k hk hn => (heap_setCell_other W ⟨g, j, none⟩ k v (fun e => hn (by rw [e]))).trans (h.block k hk hn)⟩
theorem RdV.gby {w w' : World} {o : Option Nat} {a : Option Addr} {xs : List Value} (h : RdV w a xs) (hg : w.grownBy w' o) (ha : ∀ g, a = some ⟨g, 0, none⟩ → o ≠ some g) : RdV w' a xs := by
  rcases h with h | ⟨g, rfl, hl, hc⟩
  · exact .inl h
  · refine .inr ⟨g, rfl, Nat.lt_of_lt_of_le hl hg.size, fun j u hj => ?_⟩
    have e := hg.block g hl (fun q => ha g rfl q.symm)
    have q := hc j u hj
    unfold World.cell? at q ⊢
    simp only [e]
    exact q
theorem FBox.gby {w w' : World} {o : Option Nat} {b t : Nat} {vs : Array Value} (h : FBox w b t vs) (hg : w.grownBy w' o) (ha : o ≠ some b) : FBox w' b t vs := (hg.block b h.lt (fun q => ha q.symm)).trans h
/-- A block of so many cells that may be written. -/
def Blk (W : World) (g sz : Nat) : Prop := ∃ cur, W.heap[g]? = some (.cells cur 32 (0, 0)) ∧ cur.size = sz
theorem Blk.cell {W : World} {g sz j : Nat} (h : Blk W g sz) (hj : j < sz) : ∃ u, W.cell? ⟨g, j, none⟩ = some u ∧ W.frozen? ⟨g, j, none⟩ = false := by
  obtain ⟨cur, hb, hs⟩ := h
  refine ⟨cur[j]'(by omega), ?_, by simp [World.frozen?, hb]⟩
  simp only [World.cell?, hb]
  simp [hs, hj]
theorem Blk.set {W : World} {g sz : Nat} (h : Blk W g sz) (j : Nat) (v : Value) : Blk (W.setCell ⟨g, j, none⟩ v) g sz := by
  obtain ⟨cur, hb, hs⟩ := h
  exact ⟨_, heap_setCell_same W g j cur _ v hb, by simpa using hs⟩
theorem Blk.later {W W' : World} {g sz : Nat} (h : Blk W g sz) (hb : Below W.heap.size W W') : Blk W' g sz := by
  obtain ⟨cur, hc, hs⟩ := h
  exact ⟨cur, (hb.block g (Array.getElem?_eq_some_iff.1 hc).1).trans hc, hs⟩
/-- What may be written over: nothing, or a row of one's own. -/
def Ovr (W : World) (v : Value) (o : Option Nat) : Prop := (v = .slice none 0 0 ∧ o = none) ∨ ∃ g n cap, v = .slice (some ⟨g, 0, none⟩) n cap ∧ o = some g ∧ n ≤ cap ∧ cap ≤ maxLen ∧ Blk W g (cap * 2)
theorem Ovr.of {W : World} {base n : Nat} {v : Value} {xs : List Value} (h : W.ownsRow base 32 2 v n xs) : Ovr W v v.ownBlock := by
  rcases h.2 with ⟨rfl, _⟩ | ⟨g, cap, cur, rfl, h1, h2, h3, h4, h5, h6⟩
  · exact .inl ⟨rfl, rfl⟩
  · exact .inr ⟨g, n, cap, rfl, rfl, h3, h4, cur, h2, h5⟩
end Go.Proofs.Ytmigdomlakflfaa

/- package clean: beyond, slices.ContainsFunc of it, of any samples. -/
namespace Go.Proofs.Ytmigdomlakflfaa
open Go.RowKit
set_option linter.unusedVariables false
set_option linter.unusedSimpArgs false

/-- A tick that is none. -/
def noT (t : Int) : Bool := decide (t < 0 ∨ 1048576 < t)
theorem ebeyond_any (t : Int) (b : Nat) (w : World) (ht : I64 t) : Calls Try.prog 45 #[.agg #[.int .i64 t, .float .f64 b]] w fun e w' => e = .returned (.bool (noT t)) ∧ Below w.heap.size w w' := by
  unfold noT
  by_cases h1 : t < 0
  · rw [decide_eq_true (.inl h1)]
    go_enter Try.func45, Try.ntmps45
    go_wp2_with fail
    go_ret
    exact ⟨rfl, (Below.refl _ _).alloc (Nat.le_refl _) _⟩
  by_cases h2 : 1048576 < t
  · rw [decide_eq_true (.inr h2)]
    go_enter Try.func45, Try.ntmps45
    go_wp2_with fail
    go_ret
    exact ⟨rfl, (Below.refl _ _).alloc (Nat.le_refl _) _⟩
  rw [decide_eq_false (fun h => h.elim h1 h2)]
  go_enter Try.func45, Try.ntmps45
  go_wp2_with fail
  go_ret
  exact ⟨rfl, (Below.refl _ _).alloc (Nat.le_refl _) _⟩
/-- Does a sample of a list stand at no tick? -/
def anyNo (xs : List (Int × Nat)) : Bool := xs.any fun p => noT p.1
theorem anyNo_nil : anyNo [] = false := rfl
theorem anyNo_step {xs : List (Int × Nat)} {k : Nat} (h : k < xs.length) : anyNo (xs.take (k + 1)) = (anyNo (xs.take k) || noT (xs[k]).1) := by
  unfold anyNo
  rw [List.take_succ_eq_append_getElem h, List.any_append]
  simp
theorem anyNo_mem {xs : List (Int × Nat)} {k : Nat} (h : k < xs.length) (e : noT (xs[k]).1 = true) : anyNo xs = true := List.any_eq_true.2 ⟨_, List.getElem_mem h, e⟩
set_option maxHeartbeats 3200000 in
set_option maxRecDepth 100000 in
theorem eindexf_any (a : Option Addr) (n cap : Nat) (xs : List (Int × Nat)) (w : World) (hn : n ≤ 1000000) (hl : xs.length = n) (h64 : ∀ p ∈ xs, I64 p.1) (h : RdS w a xs) :
    Calls Try.prog 60 #[.slice a n cap, .func (.func 45) #[] #[]] w fun e w' => ∃ z : Int, e = .returned (.int .i64 z) ∧ Hid (I64 z ∧ (0 ≤ z ↔ anyNo xs = true)) ∧ Below w.heap.size w w' := by
  have HX := hid h
  have HL := hid hl
  have H64 := hid h64
  clear h hl h64
  go_enter Try.func60, Try.ntmps60
  go_wp2_with fail
  go_loopw [8] (fun x wr => ∃ k : Nat, k ≤ n ∧ x = .int .i64 (k : Int) ∧ Hid (Below w.heap.size w wr) ∧ Hid (anyNo (xs.take k) = false)) (fun x _ => n - (intOf x).toNat)
  case atStart => exact ⟨0, Nat.zero_le _, rfl, Below.refl _ _, anyNo_nil⟩
  case round =>
    obtain ⟨k, hk, rfl, HW, HT⟩ := hrel
    by_cases hlt : k < n
    · have hkx : k < xs.length := by have := HL.out; omega
      have hj : xs[k]? = some xs[k] := List.getElem?_eq_getElem hkx
      have H6 := hid (H64.out _ (List.getElem_mem hkx))
      have HS := hid (anyNo_step hkx)
      have HA := hid (fun h => anyNo_mem (k := k) hkx h)
      rcases HX.out with h0 | ⟨g, o, rfl, hg, hx⟩
      · rw [h0] at hkx; exact absurd hkx (by simp)
      obtain ⟨e0, e1⟩ := hx k _ hj
      have c0 : wr.cell? ⟨g, o + k * 2, none⟩ = some (.int .i64 (xs[k]).1) := (HW.out.cell (p := ⟨g, o + k * 2, none⟩) hg).trans e0
      have c1 : wr.cell? ⟨g, o + k * 2 + 1, none⟩ = some (.float .f64 (xs[k]).2) := (HW.out.cell (p := ⟨g, o + k * 2 + 1, none⟩) hg).trans e1
      clear hx e0 e1 hj
      generalize xs[k] = q at *
      obtain ⟨t, b⟩ := q
      dsimp only at c0 c1 H6 HS HA
      have hk1 : (k : Int) < (n : Int) := by omega
      go_wp2_with fail
      refine Calls.mono (ebeyond_any t b wr H6.out) ?_
      rintro e w2 ⟨rfl, hb⟩
      have HB := hid (ybt HW.out hb)
      clear hb c0 c1
      cases hno : noT t with
      | true =>
        go_wp2_with fail
        go_ret
        exact ⟨(k : Int), rfl, ⟨by constructor <;> omega, fun _ => HA.out hno, fun _ => by omega⟩, HB.out⟩
      | false =>
        go_wp2_with fail
        go_roundw
        case rel => exact ⟨k + 1, by omega, by go_num, HB.out, (show anyNo (xs.take (k + 1)) = false by rw [HS.out, HT.out, hno]; rfl)⟩
        case measure => simp [intOf]; omega
    · obtain rfl : k = n := by omega
      have hkk : ¬ (k : Int) < (k : Int) := by omega
      go_wp2_with fail
      go_ret
      refine ⟨-1, rfl, ⟨by constructor <;> omega, fun h => by omega, fun h => ?_⟩, HW.out⟩
      have := HT.out
      rw [List.take_of_length_le (by have := HL.out; omega), h] at this
      cases this
set_option maxHeartbeats 3200000 in
set_option maxRecDepth 100000 in
theorem econtains_any (a : Option Addr) (n cap : Nat) (xs : List (Int × Nat)) (w : World) (hn : n ≤ 1000000) (hl : xs.length = n) (h64 : ∀ p ∈ xs, I64 p.1) (h : RdS w a xs) :
    Calls Try.prog 44 #[.slice a n cap, .func (.func 45) #[] #[]] w fun e w' => e = .returned (.bool (anyNo xs)) ∧ Below w.heap.size w w' := by
  have HI := hid (eindexf_any a n cap xs w hn hl h64 h)
  clear h
  generalize anyNo xs = bo at *
  go_enter Try.func44, Try.ntmps44
  go_wp2_with fail
  refine Calls.mono HI.out ?_
  rintro e w1 ⟨z, rfl, hz, hb⟩
  have e0 : decide (0 ≤ z) = bo := by
    cases bo with
    | true => exact decide_eq_true (hz.out.2.2 rfl)
    | false => exact decide_eq_false (fun h => by have := hz.out.2.1 h; cases this)
  go_wp2_with fail
  go_ret
  exact ⟨by rw [← e0]; rfl, hb⟩
end Go.Proofs.Ytmigdomlakflfaa

/- package clean: checkLists, of any lists. -/
namespace Go.Proofs.Ytmigdomlakflfaa
open Go.RowKit
set_option linter.unusedVariables false
set_option linter.unusedSimpArgs false

/-- A list of samples among others: where it lies, how much it may grow, what it holds. -/
structure LsI where
  a : Option Addr
  cap : Nat
  xs : List (Int × Nat)
/-- To be read: some lists of samples. -/
def RdL (w : World) (a : Option Addr) (ls : List LsI) : Prop := (ls = [] ∨ ∃ g o, a = some ⟨g, o, none⟩ ∧ g < w.heap.size ∧ ∀ j p, ls[j]? = some p → w.cell? ⟨g, o + j, none⟩ = some (.slice p.a p.xs.length p.cap)) ∧ ∀ p ∈ ls, RdS w p.a p.xs ∧ (p.a = none → p.cap = 0 ∧ p.xs.length = 0) ∧ ∀ q ∈ p.xs, I64 q.1 ∧ q.2 < 18446744073709551616
theorem RdL.later {w w' : World} {a : Option Addr} {ls : List LsI} (h : RdL w a ls) (hb : Below w.heap.size w w') : RdL w' a ls := by
  refine ⟨h.1.imp id ?_, fun p hp => ⟨RdS.later (B := 0) (h.2 p hp).1 hb, (h.2 p hp).2⟩⟩
  rintro ⟨g, o, ha, hg, hc⟩
  exact ⟨g, o, ha, Nat.lt_of_lt_of_le hg hb.size, fun j p hj => (hb.cell (p := ⟨g, o + j, none⟩) hg).trans (hc j p hj)⟩
/-- What of the lists is refused, from a place on. -/
def chkF : Nat → List LsI → Int × Int
  | _, [] => (0, 0)
  | i, p :: r => if 4096 < p.xs.length then (3, (i : Int)) else if anyNo p.xs = true then (2, (i : Int)) else chkF (i + 1) r
/-- What of the lists is refused. -/
def chkL (ls : List LsI) : Int × Int := if 16 < ls.length then (3, -1) else chkF 0 ls
theorem chkF_at {ls : List LsI} {k : Nat} (h : k < ls.length) : chkF k (ls.drop k) = if 4096 < (ls[k]).xs.length then (3, (k : Int)) else if anyNo (ls[k]).xs = true then (2, (k : Int)) else chkF (k + 1) (ls.drop (k + 1)) := by
  rw [List.drop_eq_getElem_cons h]
  rfl
set_option maxHeartbeats 3200000 in
set_option maxRecDepth 100000 in
theorem echeckL_any (a : Option Addr) (n cap : Nat) (ls : List LsI) (w : World) (hl : ls.length = n) (h : RdL w a ls) :
    Calls Try.prog 24 #[.slice a n cap] w fun e w' => e = .returned (.agg #[.int .i64 (chkL ls).1, .int .i64 (chkL ls).2]) ∧ Below w.heap.size w w' := by
  have HX := hid h
  have HL := hid hl
  clear h
  by_cases hn : 16 < n
  · rw [show chkL ls = (3, -1) from if_pos (by omega)]
    clear hl
    go_enter Try.func24, Try.ntmps24
    go_wp2_with fail
    go_returns
    exact ⟨rfl, ((Below.refl _ _).alloc (Nat.le_refl _) _)⟩
  rw [show chkL ls = chkF 0 ls from if_neg (by omega)]
  clear hl
  go_enter Try.func24, Try.ntmps24
  go_wp2_with fail
  obtain ⟨V0, hV0⟩ : ∃ V0, w.alloc (.cells #[.int .i64 0, .int .i64 0] 28) = V0 := ⟨_, rfl⟩
  have HV : Hid (FBox V0 w.heap.size 28 #[.int .i64 0, .int .i64 0] ∧ Below w.heap.size w V0) := by
    rw [← hV0]
    exact ⟨FBox.made _ _ _, (Below.refl _ _).alloc (Nat.le_refl _) _⟩
  rw [hV0]
  clear hV0
  go_loopw [11] (fun x wr => ∃ k : Nat, k ≤ n ∧ x = .int .i64 (k : Int) ∧ Hid (FBox wr w.heap.size 28 #[.int .i64 0, .int .i64 0] ∧ Below w.heap.size w wr) ∧ Hid (chkF 0 ls = chkF k (ls.drop k))) (fun x _ => n - (intOf x).toNat)
  case atStart => exact ⟨0, Nat.zero_le _, rfl, HV.out, (show chkF 0 ls = chkF 0 (ls.drop 0) from rfl)⟩
  case round =>
    clear HV
    obtain ⟨k, hk, rfl, HB, HE⟩ := hrel
    have k0 : wr.cell? ⟨w.heap.size, 0, none⟩ = some (.int .i64 0) := HB.out.1.cell 0
    have k1 : wr.frozen? ⟨w.heap.size, 0, none⟩ = false := HB.out.1.free 0
    by_cases hlt : k < n
    · have hkx : k < ls.length := by have := HL.out; omega
      have hj : ls[k]? = some ls[k] := List.getElem?_eq_getElem hkx
      obtain ⟨hrs, hnz, h64⟩ := HX.out.2 _ (List.getElem_mem hkx)
      have HE2 := hid (HE.out.trans (chkF_at hkx))
      rcases HX.out.1 with h0 | ⟨g, o, rfl, hg, hx⟩
      · rw [h0] at hkx; exact absurd hkx (by simp)
      have c0 : wr.cell? ⟨g, o + k, none⟩ = some (.slice (ls[k]).a (ls[k]).xs.length (ls[k]).cap) := (HB.out.2.cell (p := ⟨g, o + k, none⟩) hg).trans (hx k _ hj)
      clear hx hj
      generalize ls[k] = q at *
      obtain ⟨qa, qc, qx⟩ := q
      dsimp only at c0 hrs hnz h64 HE2
      have hk1 : (k : Int) < (n : Int) := by omega
      have HC : Hid (∀ V, Below w.heap.size w V → qx.length ≤ 4096 → Calls Try.prog 44 #[.slice qa qx.length qc, .func (.func 45) #[] #[]] V fun e w' => e = .returned (.bool (anyNo qx)) ∧ Below V.heap.size V w') := fun V hV hq => econtains_any qa qx.length qc qx V (by omega) rfl (fun p hp => (h64 p hp).1) (RdS.later (B := 0) hrs hV)
      have hset : ∀ (V : World) (z : Int), FBox V w.heap.size 28 #[.int .i64 0, .int .i64 0] → (V.setCell ⟨w.heap.size, 0, none⟩ (.int .i64 z)).cell? ⟨w.heap.size, 1, none⟩ = some (.int .i64 0) ∧ (V.setCell ⟨w.heap.size, 0, none⟩ (.int .i64 z)).frozen? ⟨w.heap.size, 1, none⟩ = false := fun V z hb => ⟨(hb.set 0 _).cell 1, (hb.set 0 _).free 1⟩
      have HSet := hid hset
      clear hset hrs h64 hnz
      by_cases h4 : 4096 < qx.length
      · have HE3 : Hid (chkF 0 ls = (3, (k : Int))) := HE2.out.trans (if_pos h4)
        obtain ⟨s1, s2⟩ := HSet.out wr 3 HB.out.1
        clear HE2 HE
        go_wp2_with fail
        have HF2 : Hid (FBox ((wr.setCell ⟨w.heap.size, 0, none⟩ (.int .i64 3)).setCell ⟨w.heap.size, 1, none⟩ (.int .i64 (k : Int))) w.heap.size 28 #[.int .i64 3, .int .i64 (k : Int)] ∧ Below w.heap.size w ((wr.setCell ⟨w.heap.size, 0, none⟩ (.int .i64 3)).setCell ⟨w.heap.size, 1, none⟩ (.int .i64 (k : Int)))) := ⟨(HB.out.1.set 0 (.int .i64 3)).set 1 (.int .i64 (k : Int)), (HB.out.2.setCell (p := ⟨w.heap.size, 0, none⟩) (Nat.le_refl _) _).setCell (p := ⟨w.heap.size, 1, none⟩) (Nat.le_refl _) _⟩
        clear s1 s2 k0 k1
        generalize (wr.setCell ⟨w.heap.size, 0, none⟩ (.int .i64 3)).setCell ⟨w.heap.size, 1, none⟩ (.int .i64 (k : Int)) = X at *
        have f0 : X.cell? ⟨w.heap.size, 0, none⟩ = some (.int .i64 3) := HF2.out.1.cell 0
        have f1 : X.cell? ⟨w.heap.size, 1, none⟩ = some (.int .i64 (k : Int)) := HF2.out.1.cell 1
        (try simp only [Exit.inBlock, Exit.then])
        refine bodyPost_ret (by simp [results, Try.results24, go_sem, f0, f1]; try rfl) rfl ?_
        exact ⟨by rw [HE3.out], HF2.out.2⟩
      · have HE4 : Hid (chkF 0 ls = if anyNo qx = true then (2, (k : Int)) else chkF (k + 1) (ls.drop (k + 1))) := HE2.out.trans (if_neg h4)
        have h4i : ¬ (4096 : Int) < (qx.length : Int) := by omega
        clear HE2 HE
        go_wp2_with fail
        refine Calls.mono (HC.out wr HB.out.2 (by omega)) ?_
        rintro e w2 ⟨rfl, hb2⟩
        have HB2 : Hid (FBox w2 w.heap.size 28 #[.int .i64 0, .int .i64 0] ∧ Below w.heap.size w w2) := ⟨HB.out.1.later hb2 HB.out.1.lt, ybt HB.out.2 hb2⟩
        clear k0 k1 c0
        have k0 : w2.cell? ⟨w.heap.size, 0, none⟩ = some (.int .i64 0) := HB2.out.1.cell 0
        have k1 : w2.frozen? ⟨w.heap.size, 0, none⟩ = false := HB2.out.1.free 0
        cases hno : anyNo qx with
        | true =>
          have HE3 : Hid (chkF 0 ls = (2, (k : Int))) := HE4.out.trans (if_pos hno)
          obtain ⟨s1, s2⟩ := HSet.out w2 2 HB2.out.1
          go_wp2_with fail
          have HF2 : Hid (FBox ((w2.setCell ⟨w.heap.size, 0, none⟩ (.int .i64 2)).setCell ⟨w.heap.size, 1, none⟩ (.int .i64 (k : Int))) w.heap.size 28 #[.int .i64 2, .int .i64 (k : Int)] ∧ Below w.heap.size w ((w2.setCell ⟨w.heap.size, 0, none⟩ (.int .i64 2)).setCell ⟨w.heap.size, 1, none⟩ (.int .i64 (k : Int)))) := ⟨(HB2.out.1.set 0 (.int .i64 2)).set 1 (.int .i64 (k : Int)), (HB2.out.2.setCell (p := ⟨w.heap.size, 0, none⟩) (Nat.le_refl _) _).setCell (p := ⟨w.heap.size, 1, none⟩) (Nat.le_refl _) _⟩
          clear s1 s2 k0 k1
          generalize (w2.setCell ⟨w.heap.size, 0, none⟩ (.int .i64 2)).setCell ⟨w.heap.size, 1, none⟩ (.int .i64 (k : Int)) = X at *
          have f0 : X.cell? ⟨w.heap.size, 0, none⟩ = some (.int .i64 2) := HF2.out.1.cell 0
          have f1 : X.cell? ⟨w.heap.size, 1, none⟩ = some (.int .i64 (k : Int)) := HF2.out.1.cell 1
          (try simp only [Exit.inBlock, Exit.then])
          refine bodyPost_ret (by simp [results, Try.results24, go_sem, f0, f1]; try rfl) rfl ?_
          exact ⟨by rw [HE3.out], HF2.out.2⟩
        | false =>
          have HE3 : Hid (chkF 0 ls = chkF (k + 1) (ls.drop (k + 1))) := HE4.out.trans (if_neg (by rw [hno]; decide))
          go_wp2_with fail
          go_roundw
          case rel => exact ⟨k + 1, by omega, by go_num, HB2.out, HE3.out⟩
          case measure => simp [intOf]; omega
    · obtain rfl : k = n := by omega
      have hkk : ¬ (k : Int) < (k : Int) := by omega
      have HE3 : Hid (chkF 0 ls = (0, 0)) := HE.out.trans (by rw [List.drop_of_length_le (by have := HL.out; omega)]; rfl)
      obtain ⟨s1, s2⟩ := (show (wr.setCell ⟨w.heap.size, 0, none⟩ (.int .i64 0)).cell? ⟨w.heap.size, 1, none⟩ = some (.int .i64 0) ∧ (wr.setCell ⟨w.heap.size, 0, none⟩ (.int .i64 0)).frozen? ⟨w.heap.size, 1, none⟩ = false from ⟨(HB.out.1.set 0 _).cell 1, (HB.out.1.set 0 _).free 1⟩)
      go_wp2_with fail
      have HF2 : Hid (FBox ((wr.setCell ⟨w.heap.size, 0, none⟩ (.int .i64 0)).setCell ⟨w.heap.size, 1, none⟩ (.int .i64 0)) w.heap.size 28 #[.int .i64 0, .int .i64 0] ∧ Below w.heap.size w ((wr.setCell ⟨w.heap.size, 0, none⟩ (.int .i64 0)).setCell ⟨w.heap.size, 1, none⟩ (.int .i64 0))) := ⟨(HB.out.1.set 0 (.int .i64 0)).set 1 (.int .i64 0), (HB.out.2.setCell (p := ⟨w.heap.size, 0, none⟩) (Nat.le_refl _) _).setCell (p := ⟨w.heap.size, 1, none⟩) (Nat.le_refl _) _⟩
      clear s1 s2 k0 k1
      generalize (wr.setCell ⟨w.heap.size, 0, none⟩ (.int .i64 0)).setCell ⟨w.heap.size, 1, none⟩ (.int .i64 0) = X at *
      have f0 : X.cell? ⟨w.heap.size, 0, none⟩ = some (.int .i64 0) := HF2.out.1.cell 0
      have f1 : X.cell? ⟨w.heap.size, 1, none⟩ = some (.int .i64 0) := HF2.out.1.cell 1
      (try simp only [Exit.inBlock, Exit.then])
      refine bodyPost_ret (by simp [results, Try.results24, go_sem, f0, f1]; try rfl) rfl ?_
      exact ⟨by rw [HE3.out], HF2.out.2⟩
end Go.Proofs.Ytmigdomlakflfaa

/- The document's next: of any lists of samples. -/
namespace Go.Proofs.Ytmigdomlakflfaa
open Go.RowKit
set_option linter.unusedVariables false
set_option linter.unusedSimpArgs false

/-- All samples, one list behind the other. -/
def flatS (ls : List LsI) : List (Int × Nat) := ls.flatMap (·.xs)
theorem flatS_take {ls : List LsI} {i : Nat} (h : i < ls.length) : flatS (ls.take (i + 1)) = flatS (ls.take i) ++ (ls[i]).xs := by
  unfold flatS
  rw [List.take_succ_eq_append_getElem h, List.flatMap_append]
  simp
/-- The least tick so far. -/
def nxtP (t : Int) (s : Int × Bool) (p : Int × Nat) : Int × Bool := if isone p.2 = true ∧ t < p.1 ∧ (s.2 = false ∨ p.1 < s.1) then (p.1, true) else s
/-- The least tick above one at which a sample is one. -/
def nxtF (t : Int) (l : List (Int × Nat)) : Int × Bool := l.foldl (nxtP t) (0, false)
theorem nxtF_snoc (t : Int) (l : List (Int × Nat)) (p : Int × Nat) : nxtF t (l ++ [p]) = nxtP t (nxtF t l) p := by unfold nxtF; rw [List.foldl_append]; rfl
end Go.Proofs.Ytmigdomlakflfaa

/- The document's at: the heights at a tick, of any lists of samples. -/
namespace Go.Proofs.Ytmigdomlakflfaa
open Go.RowKit
set_option linter.unusedVariables false
set_option linter.unusedSimpArgs false

/-- The heights at a tick. -/
def hgtAt (t : Int) (l : List (Int × Nat)) : List Nat := (l.filter fun p => decide (p.1 = t) && isone p.2).map (·.2)
theorem hgtAt_snoc (t : Int) (l : List (Int × Nat)) (p : Int × Nat) : hgtAt t (l ++ [p]) = hgtAt t l ++ (if p.1 = t ∧ isone p.2 = true then [p.2] else []) := by
  unfold hgtAt
  rw [List.filter_append, List.map_append]
  congr 1
  by_cases h1 : p.1 = t
  · cases h2 : isone p.2 <;> simp [h1, h2]
  · simp [h1]
theorem hgtAt_len (t : Int) (l : List (Int × Nat)) : (hgtAt t l).length ≤ l.length := by
  unfold hgtAt
  rw [List.length_map]
  exact List.length_filter_le _ _
theorem flatS_pre (ls : List LsI) (i : Nat) : (flatS (ls.take i)).length ≤ (flatS ls).length := by
  have q : flatS ls = flatS (ls.take i) ++ flatS (ls.drop i) := by
    unfold flatS
    rw [← List.flatMap_append, List.take_append_drop]
  rw [q, List.length_append]
  omega
end Go.Proofs.Ytmigdomlakflfaa

/- No program: what the document's Merge gathers, tick by tick. -/
namespace Go.Proofs.Ytmigdomlakflfaa
open Go.RowKit
set_option linter.unusedVariables false
set_option linter.unusedSimpArgs false

theorem nxtF_spec (t : Int) : ∀ (l : List (Int × Nat)), ((nxtF t l).2 = true ∧ t < (nxtF t l).1 ∧ (∃ p ∈ l, isone p.2 = true ∧ p.1 = (nxtF t l).1) ∧ ∀ p ∈ l, isone p.2 = true → t < p.1 → (nxtF t l).1 ≤ p.1) ∨ ((nxtF t l).2 = false ∧ ∀ p ∈ l, isone p.2 = true → p.1 ≤ t) := by
  intro l
  generalize hn : l.length = n
  induction n generalizing l with
  | zero =>
    rw [List.eq_nil_of_length_eq_zero hn]
    exact .inr ⟨rfl, by simp⟩
  | succ n ih0 =>
    have hne : l ≠ [] := by rintro rfl; simp at hn
    obtain ⟨L, p, rfl⟩ : ∃ L p, l = L ++ [p] := ⟨_, _, (List.dropLast_concat_getLast hne).symm⟩
    have ih := ih0 L (by simpa using hn)
    clear ih0 hn hne
    rw [nxtF_snoc]
    generalize nxtF t L = s at *
    obtain ⟨z, f⟩ := s
    unfold nxtP
    dsimp only at ih ⊢
    split
    · rename_i h
      obtain ⟨h1, h2, h3⟩ := h
      left
      refine ⟨rfl, h2, ⟨p, by simp, h1, rfl⟩, fun q hq h4 h5 => ?_⟩
      rcases List.mem_append.1 hq with hq | hq
      · rcases ih with ⟨i1, i2, i3, i4⟩ | ⟨i1, i2⟩
        · rcases h3 with h3 | h3
          · rw [h3] at i1; cases i1
          · have := i4 q hq h4 h5
            omega
        · have := i2 q hq h4
          omega
      · rw [List.mem_singleton.1 hq]
        exact Int.le_refl _
    · rename_i h
      rcases ih with ⟨i1, i2, ⟨q, iq, i3⟩, i4⟩ | ⟨i1, i2⟩
      · left
        refine ⟨i1, i2, ⟨q, List.mem_append_left _ iq, i3⟩, fun q hq h4 h5 => ?_⟩
        rcases List.mem_append.1 hq with hq | hq
        · exact i4 q hq h4 h5
        · rw [List.mem_singleton.1 hq] at h4 h5 ⊢
          by_cases h6 : p.1 < z
          · exact absurd ⟨h4, h5, .inr h6⟩ h
          · omega
      · right
        refine ⟨i1, fun q hq h4 => ?_⟩
        rcases List.mem_append.1 hq with hq | hq
        · exact i2 q hq h4
        · rw [List.mem_singleton.1 hq] at h4 ⊢
          by_cases h6 : t < p.1
          · exact absurd ⟨h4, h6, .inl i1⟩ h
          · omega
/-- What is gathered up to a tick. -/
structure MrP (F : List (Int × Nat)) (t : Int) (O : List (Int × Nat)) : Prop where
  rise : O.Pairwise (fun p q => p.1 < q.1)
  up : ∀ q ∈ O, q.1 ≤ t
  all : ∀ p ∈ F, isone p.2 = true → p.1 ≤ t → ∃ q ∈ O, q.1 = p.1
  mean : ∀ q ∈ O, (∃ p ∈ F, isone p.2 = true ∧ p.1 = q.1) ∧ MeanT (srtF (hgtAt q.1 F)) q.2 0
theorem MrP.nil {F : List (Int × Nat)} (h : ∀ p ∈ F, 0 ≤ p.1) : MrP F (-1) [] := ⟨.nil, by simp, fun p hp _ h1 => by have := h p hp; omega, by simp⟩
theorem MrP.more {F O : List (Int × Nat)} {t u : Int} {m : Nat} (h : MrP F t O) (hn : nxtF t F = (u, true)) (hm : MeanT (srtF (hgtAt u F)) m 0) : MrP F u (O ++ [(u, m)]) := by
  rcases nxtF_spec t F with ⟨_, h2, h3, h4⟩ | ⟨h1, _⟩
  · rw [hn] at h2 h3 h4
    dsimp only at h2 h3 h4
    refine ⟨?_, fun q hq => ?_, fun p hp h5 h6 => ?_, fun q hq => ?_⟩
    · rw [List.pairwise_append]
      refine ⟨h.rise, List.pairwise_singleton _ _, fun a ha b hb => ?_⟩
      rw [List.mem_singleton.1 hb]
      have := h.up a ha
      dsimp only
      omega
    · rcases List.mem_append.1 hq with hq | hq
      · have := h.up q hq; omega
      · rw [List.mem_singleton.1 hq]; exact Int.le_refl _
    · by_cases h7 : p.1 ≤ t
      · obtain ⟨q, hq, e⟩ := h.all p hp h5 h7
        exact ⟨q, List.mem_append_left _ hq, e⟩
      · have := h4 p hp h5 (by omega)
        exact ⟨(u, m), by simp, by dsimp only; omega⟩
    · rcases List.mem_append.1 hq with hq | hq
      · exact h.mean q hq
      · rw [List.mem_singleton.1 hq]
        obtain ⟨p, hp, h8, h9⟩ := h3
        exact ⟨⟨p, hp, h8, h9⟩, hm⟩
  · rw [hn] at h1; cases h1
/-- All that Merge gathers. -/
structure MrA (F : List (Int × Nat)) (O : List (Int × Nat)) : Prop where
  rise : O.Pairwise (fun p q => p.1 < q.1)
  all : ∀ p ∈ F, isone p.2 = true → ∃ q ∈ O, q.1 = p.1
  mean : ∀ q ∈ O, (∃ p ∈ F, isone p.2 = true ∧ p.1 = q.1) ∧ MeanT (srtF (hgtAt q.1 F)) q.2 0
theorem MrP.done {F O : List (Int × Nat)} {t z : Int} (h : MrP F t O) (hn : nxtF t F = (z, false)) : MrA F O := by
  rcases nxtF_spec t F with ⟨h1, _⟩ | ⟨_, h2⟩
  · rw [hn] at h1; cases h1
  · exact ⟨h.rise, fun p hp h3 => h.all p hp h3 (h2 p hp h3), h.mean⟩
/-- A mean that is refused. -/
def MrX (F : List (Int × Nat)) : Prop := ∃ p ∈ F, isone p.2 = true ∧ ∃ r, MeanT (srtF (hgtAt p.1 F)) r 9
theorem MrA.one {F O Q : List (Int × Nat)} (h : MrA F O) (g : MrA F Q) : O = Q := by
  refine rise_eq h.rise g.rise (fun p => ⟨fun hp => ?_, fun hp => ?_⟩)
  · obtain ⟨⟨q, hq, h1, h2⟩, hm⟩ := h.mean p hp
    obtain ⟨r, hr, h3⟩ := g.all q hq h1
    have hm2 := (g.mean r hr).2
    rw [h3, h2] at hm2
    have := (hm.one hm2).1
    have e : p = r := Prod.ext (by rw [h3, h2]) this
    rw [e]; exact hr
  · obtain ⟨⟨q, hq, h1, h2⟩, hm⟩ := g.mean p hp
    obtain ⟨r, hr, h3⟩ := h.all q hq h1
    have hm2 := (h.mean r hr).2
    rw [h3, h2] at hm2
    have := (hm.one hm2).1
    have e : p = r := Prod.ext (by rw [h3, h2]) this
    rw [e]; exact hr
theorem MrA.no {F O : List (Int × Nat)} (h : MrA F O) (g : MrX F) : False := by
  obtain ⟨p, hp, h1, r, hm⟩ := g
  obtain ⟨q, hq, h2⟩ := h.all p hp h1
  have hm2 := (h.mean q hq).2
  rw [h2] at hm2
  have := (hm.one hm2).2
  omega
end Go.Proofs.Ytmigdomlakflfaa

/- package clean: what the map of heights by tick holds; no walk. -/
namespace Go.Proofs.Ytmigdomlakflfaa
open Go.RowKit Go.Maps
set_option linter.unusedVariables false
set_option linter.unusedSimpArgs false

/-- How an element of the map of heights reads: as itself. -/
def vhElem (v : Value) : Option (DataW Value × List MemPlace) := some (.held v, [])
def hnil : Value := .slice none 0 0
theorem hgtAt_other {t : Int} {p : Int × Nat} {F : List (Int × Nat)} (h : ¬ (p.1 = t ∧ isone p.2 = true)) : hgtAt t (F ++ [p]) = hgtAt t F := by rw [hgtAt_snoc, if_neg h, List.append_nil]
theorem hgtAt_same {t : Int} {b : Nat} {F : List (Int × Nat)} (h : isone b = true) : hgtAt t (F ++ [(t, b)]) = hgtAt t F ++ [b] := by rw [hgtAt_snoc, if_pos ⟨rfl, h⟩]
/-- The map of heights by tick, of the samples so far: a row for each tick, no two in one block. -/
structure HbAt (W : World) (mb : Nat) (F : List (Int × Nat)) (D : DataW Value) (G : Int → Value) : Prop where
  own : W.ownsMap Try.prog 3 vhElem mb F.length D
  has : ∀ t, Maps.has D (.int .i64 t) = !(hgtAt t F).isEmpty
  at_ : ∀ t, D.atKey (.int .i64 t) (.held hnil) = .held (G t)
  row : ∀ t, W.ownsRow (mb + 1) 22 1 (G t) (hgtAt t F).length ((hgtAt t F).map (Value.float .f64))
  apart : ∀ t u, t ≠ u → (G t).ownBlock = none ∨ (G t).ownBlock ≠ (G u).ownBlock
theorem HbAt.made (w : World) : HbAt (w.alloc (.map #[] 0)) w.heap.size [] (.map []) (fun _ => hnil) :=
  ⟨World.ownsMap_made w _ _ _, fun t => rfl, fun t => rfl, fun t => World.ownsRow_nil _ _ _ _, fun t u h => .inl rfl⟩
theorem HbAt.later {W W' : World} {mb : Nat} {F : List (Int × Nat)} {D : DataW Value} {G : Int → Value} (h : HbAt W mb F D G) (hb : W.grownBy W' none) : HbAt W' mb F D G :=
  ⟨h.own.kept hb (by simp), h.has, h.at_, fun t => (h.row t).kept hb (by cases (G t).ownBlock <;> simp), h.apart⟩
theorem HbAt.skip {W : World} {mb : Nat} {F : List (Int × Nat)} {D : DataW Value} {G : Int → Value} (h : HbAt W mb F D G) {p : Int × Nat} (hp : isone p.2 = false) : HbAt W mb (F ++ [p]) D G := by
  have e : ∀ t, hgtAt t (F ++ [p]) = hgtAt t F := fun t => hgtAt_other (fun q => by rw [hp] at q; cases q.2)
  refine ⟨h.own.mono (by simp), fun t => ?_, h.at_, fun t => ?_, h.apart⟩
  · rw [e t]; exact h.has t
  · rw [e t]; exact h.row t
theorem hkeylit (t : Int) : Go.WideAt.IsKeyLit (.int .i64 t) := trivial
theorem hkey_ne {t u : Int} (h : u ≠ t) : (Lit.int .i64 u) ≠ .int .i64 t := fun e => by injection e with _ e2; exact h e2
theorem HbAt.more {W W1 W5 : World} {mb : Nat} {F : List (Int × Nat)} {D : DataW Value} {G : Int → Value} (h : HbAt W mb F D G) {t : Int} {b : Nat} {v' : Value} (hone : isone b = true) (hlt : mb < W.heap.size) (hg1 : W.grownBy W1 (G t).ownBlock)
    (hr : W1.ownsRow (mb + 1) 22 1 v' ((hgtAt t F).length + 1) ((hgtAt t F).map (Value.float .f64) ++ [.float .f64 b])) (hloc : v'.ownBlock = (G t).ownBlock ∨ ∃ g, v'.ownBlock = some g ∧ W.heap.size ≤ g)
    (hu : W5.ownsMap Try.prog 3 vhElem mb (F.length + 1) (D.put (.int .i64 t) (.held v'))) (hg5 : W1.grownBy W5 (some mb)) : HbAt W5 mb (F ++ [(t, b)]) (D.put (.int .i64 t) (.held v')) (fun u => if u = t then v' else G u) := by
  have hD : IsMap D := h.own.isMap
  have own_ne : ∀ {B : Nat} {u : Value} {n : Nat} {xs : List Value}, W1.ownsRow (mb + 1) B 1 u n xs → u.ownBlock = none ∨ u.ownBlock ≠ some mb := fun {B u n xs} ho => by
    cases hu : u.ownBlock with
    | none => exact .inl rfl
    | some g =>
      refine .inr (fun e1 => ?_)
      have := (ho.lt g hu).1
      cases e1
      omega
  have old_new : ∀ u, u ≠ t → (G u).ownBlock = none ∨ (G u).ownBlock ≠ v'.ownBlock := by
    intro u hne
    rcases hloc with h1 | ⟨g, h1, h2⟩
    · rw [h1]; exact h.apart u t hne
    · cases hx : (G u).ownBlock with
      | none => exact .inl rfl
      | some gx =>
        have := ((h.row u).lt gx hx).2
        refine .inr (fun e1 => ?_)
        rw [h1] at e1
        cases e1
        omega
  refine ⟨by rw [List.length_append]; exact hu, fun u => ?_, fun u => ?_, fun u => ?_, fun u x hne => ?_⟩
  · by_cases e : u = t
    · subst e
      rw [has_put_same hD (hkeylit _), hgtAt_same hone]
      simp
    · rw [has_put_other (hkey_ne e), h.has u, hgtAt_other (fun q => e q.1.symm)]
  · by_cases e : u = t
    · subst e
      rw [atKey_put_same hD (hkeylit _), if_pos rfl]
    · rw [atKey_put_other (hkey_ne e), h.at_ u, if_neg e]
  · by_cases e : u = t
    · subst e
      rw [if_pos rfl, hgtAt_same hone, List.map_append, List.length_append]
      exact hr.kept hg5 (own_ne hr)
    · rw [if_neg e, hgtAt_other (fun q => e q.1.symm)]
      have h1 := (h.row u).kept hg1 (h.apart u t e)
      exact h1.kept hg5 (own_ne h1)
  · by_cases e : u = t
    · subst e
      have hx : ¬ x = u := fun q => hne q.symm
      rw [if_pos rfl, if_neg hx]
      rcases old_new x (fun q => hne q.symm) with q | q
      · cases hv : v'.ownBlock with
        | none => exact .inl rfl
        | some g => exact .inr (by rw [q]; simp)
      · exact .inr (fun q2 => q q2.symm)
    · rw [if_neg e]
      by_cases e2 : x = t
      · rw [if_pos e2]; exact old_new u e
      · rw [if_neg e2]; exact h.apart u x hne
end Go.Proofs.Ytmigdomlakflfaa

/- package clean: heightsByTick, of any lists. -/
namespace Go.Proofs.Ytmigdomlakflfaa
open Go.RowKit Go.Maps
set_option linter.unusedVariables false
set_option linter.unusedSimpArgs false

theorem HbAt.drew {W : World} {mb : Nat} {F : List (Int × Nat)} {D : DataW Value} {G : Int → Value} (h : HbAt W mb F D G) : HbAt W.drew mb F D G := ⟨h.own, h.has, h.at_, h.row, h.apart⟩
theorem hzeroR (w : World) : (zeroValue 37).run Try.prog w = .ok (.slice none 0 0) w := by kernel_rfl
theorem vh_mk (v : Value) : vhElem v = some (.held v, []) := rfl
theorem HbAt.look {W : World} {mb : Nat} {F : List (Int × Nat)} {D : DataW Value} {G : Int → Value} (h : HbAt W mb F D G) {t : Int} (ht : I64 t) : (Instr.lookup 57 (.map (some mb)) (.int .i64 t) false).run Try.prog W = .ok (G t) W := by
  obtain ⟨v, ps, hrun, hv⟩ := h.own.lookup ykeys Try.underlying57 (hzeroR W) (vh_mk (.slice none 0 0)) (ykey ht)
  have e : DataW.held v = D.atKey (.int .i64 t) (.held hnil) := congrArg Prod.fst (Option.some.inj hv)
  rw [hrun, DataW.held.inj (e.trans (h.at_ t))]
/-- One more height: what an append and a store leave. -/
theorem HbAt.put {W W1 : World} {mb : Nat} {F : List (Int × Nat)} {D : DataW Value} {G : Int → Value} (h : HbAt W mb F D G) {t : Int} {b : Nat} {v' : Value} (ht : I64 t) (hone : isone b = true) (hsz : F.length < 1000000) (hg1 : W.grownBy W1 (G t).ownBlock)
    (hr : W1.ownsRow (mb + 1) 22 1 v' ((hgtAt t F).length + 1) ((hgtAt t F).map (Value.float .f64) ++ [.float .f64 b])) (hloc : v'.ownBlock = (G t).ownBlock ∨ v'.ownBlock = some W.heap.size) :
    ∃ W5, (Instr.mapUpdate 57 (.map (some mb)) (.int .i64 t) v').run Try.prog W1 = .ok () W5 ∧ HbAt W5 mb (F ++ [(t, b)]) (D.put (.int .i64 t) (.held v')) (fun u => if u = t then v' else G u) ∧ W1.grownBy W5 (some mb) := by
  have hne : some mb ≠ (G t).ownBlock := fun e => by have := ((h.row t).lt mb e.symm).1; omega
  obtain ⟨W5, hu, hown, hg5⟩ := (h.own.kept hg1 hne).update ykeys Try.underlying57 (by unfold maxLen; omega) (ykey ht) (vh_mk v')
  exact ⟨W5, hu, h.more hone h.own.lt hg1 hr (hloc.imp id (fun e => ⟨_, e, Nat.le_refl _⟩)) hown hg5, hg5⟩
/-- What heightsByTick tells. -/
def HbT (w : World) (F : List (Int × Nat)) (e : Ending) (w' : World) : Prop := ∃ D G, e = .returned (.map (some w.heap.size)) ∧ Hid (HbAt w' w.heap.size F D G) ∧ Below w.heap.size w w'
set_option maxHeartbeats 3200000 in
set_option maxRecDepth 100000 in
theorem eheights_any (a : Option Addr) (n cap : Nat) (ls : List LsI) (w : World) (hn : n ≤ 100000) (hm : (flatS ls).length < 1000000) (hl : ls.length = n) (h : RdL w a ls) :
    Calls Try.prog 25 #[.slice a n cap] w (HbT w (flatS ls)) := by
  obtain ⟨i0, hi0, hz0, hz1, hz2⟩ := info_parts Try.infoF
  have HX := hid h
  have HL := hid hl
  have hmm := @run_makeMap Try.prog
  clear h hl
  go_enter Try.func25, Try.ntmps25
  go_wp2_with fail
  obtain ⟨V0, hV0⟩ : ∃ V0, w.alloc (.map #[] 0) = V0 := ⟨_, rfl⟩
  have HV : Hid (HbAt V0 w.heap.size [] (.map []) (fun _ => hnil) ∧ Below w.heap.size w V0) := by
    rw [← hV0]
    exact ⟨HbAt.made w, (Below.refl _ _).alloc (Nat.le_refl _) _⟩
  rw [hV0]
  clear hV0 hmm
  go_loopw [11] (fun x wr => ∃ (i : Nat) (D : DataW Value) (G : Int → Value), i ≤ n ∧ x = .int .i64 (i : Int) ∧ Hid (HbAt wr w.heap.size (flatS (ls.take i)) D G ∧ Below w.heap.size w wr)) (fun x _ => n - (intOf x).toNat)
  case atStart => exact ⟨0, _, _, Nat.zero_le _, rfl, HV⟩
  case round =>
    clear HV
    obtain ⟨i, D, G, hi, rfl, HH⟩ := hrel
    by_cases hlt : i < n
    · have hkx : i < ls.length := by have := HL.out; omega
      have hj : ls[i]? = some ls[i] := List.getElem?_eq_getElem hkx
      obtain ⟨hrs, hnz, h64⟩ := HX.out.2 _ (List.getElem_mem hkx)
      have HT2 := hid (flatS_take hkx)
      have HP2 := hid (flatS_pre ls (i + 1))
      rcases HX.out.1 with h0 | ⟨g, o, rfl, hg, hx⟩
      · rw [h0] at hkx; exact absurd hkx (by simp)
      have hc0 := hx i _ hj
      clear hx hj
      generalize ls[i] = q at *
      obtain ⟨qa, qc, qx⟩ := q
      dsimp only at hc0 hrs hnz h64 HT2
      have hbig : (flatS (ls.take i)).length + qx.length < 1000000 := by
        have q1 := HP2.out
        rw [HT2.out, List.length_append] at q1
        omega
      have HC0 := hid hc0
      have HRS := hid hrs
      have H64 := hid h64
      have hk1 : (i : Int) < (n : Int) := by omega
      have c0 := (HH.out.2.cell (p := ⟨g, o + i, none⟩) hg).trans HC0.out
      clear hc0 hrs hnz h64 HP2
      generalize hFi : flatS (ls.take i) = Fi at *
      have HFi := hid hFi
      clear hFi
      go_wp2_with fail
      clear c0
      go_loopw [17] (fun x wq => ∃ (k : Nat) (D : DataW Value) (G : Int → Value), k ≤ qx.length ∧ x = .int .i64 (k : Int) ∧ Hid (HbAt wq w.heap.size (Fi ++ qx.take k) D G ∧ Below w.heap.size w wq)) (fun x _ => qx.length - (intOf x).toNat)
      case atStart =>
        refine ⟨0, D, G, Nat.zero_le _, rfl, ?_⟩
        rw [List.take_zero, List.append_nil]
        exact HH
      case round =>
        clear HH D G
        obtain ⟨k, D, G, hk, rfl, HH⟩ := hrel
        by_cases hl2 : k < qx.length
        · have hj : qx[k]? = some qx[k] := List.getElem?_eq_getElem hl2
          have H6 := hid (H64.out _ (List.getElem_mem hl2))
          have HN := hid (show Fi ++ qx.take (k + 1) = (Fi ++ qx.take k) ++ [qx[k]] by rw [List.take_succ_eq_append_getElem hl2, ← List.append_assoc])
          have hql : (Fi ++ qx.take k).length < 1000000 := by
            rw [List.length_append, List.length_take]
            omega
          rcases HRS.out with h0 | ⟨g2, o2, rfl, hg2, hx2⟩
          · rw [h0] at hl2; exact absurd hl2 (by simp)
          obtain ⟨e0, e1⟩ := hx2 k _ hj
          have d0 := (HH.out.2.cell (p := ⟨g2, o2 + k * 2, none⟩) hg2).trans e0
          have d1 := (HH.out.2.cell (p := ⟨g2, o2 + k * 2 + 1, none⟩) hg2).trans e1
          clear hx2 e0 e1 hj
          generalize qx[k] = u at *
          obtain ⟨pt, pb⟩ := u
          dsimp only at d0 d1 H6 HN
          generalize Fi ++ qx.take k = Q at *
          have hk2 : (k : Int) < (qx.length : Int) := by omega
          have sF : ∀ (W : World) (p : Addr) (y : Nat) (md : Mode), (store p (.float .f64 y) md).run Try.prog W = stored Try.prog W p (.float .f64 y) md := fun W p y md => run_store Try.prog W p _ md rfl
          go_wp2_with fail
          obtain ⟨W1, hW1⟩ : ∃ W1, wr.alloc (.cells #[.int .i64 pt, .float .f64 pb] 32) = W1 := ⟨_, rfl⟩
          have HX1 : Hid (FBox W1 wr.heap.size 32 #[.int .i64 pt, .float .f64 pb] ∧ HbAt W1 w.heap.size Q D G ∧ Below w.heap.size w W1) := by
            rw [← hW1]
            exact ⟨FBox.made _ _ _, HH.out.1.later (World.grownBy_alloc wr _ none), HH.out.2.alloc (Nat.le_of_lt HH.out.1.own.lt) _⟩
          have HR : Hid (∀ t g, (G t).ownBlock = some g → g < wr.heap.size) := fun t g e => ((HH.out.1.row t).lt g e).2
          have hmb : w.heap.size < wr.heap.size := HH.out.1.own.lt
          rw [hW1]
          clear hW1 sF d0 d1 HH
          have b0 : W1.cell? ⟨wr.heap.size, 0, none⟩ = some (.int .i64 pt) := HX1.out.1.cell 0
          have b1 : W1.cell? ⟨wr.heap.size, 1, none⟩ = some (.float .f64 pb) := HX1.out.1.cell 1
          go_wp2_with fail
          refine Calls.mono (eisone_any pb W1 H6.out.2) ?_
          rintro e' w2 ⟨rfl, hw2⟩
          rw [hw2]
          clear hw2 w2
          cases hone : isone pb with
          | true =>
            have HO := hid hone
            have hpt : I64 pt := H6.out.1
            have HA : Hid (HbAt (W1.alloc (.cells #[.float .f64 pb] 22)).drew w.heap.size Q D G) := (HX1.out.2.1.later (World.grownBy_alloc _ _ none)).drew
            have l0 := HX1.out.2.1.drew.look hpt
            have l1 := HA.out.look hpt
            have hs0 : W1.drew.cell? ⟨wr.heap.size, 0, none⟩ = some (.int .i64 pt) ∧ W1.drew.cell? ⟨wr.heap.size, 1, none⟩ = some (.float .f64 pb) := ⟨b0, b1⟩
            have HXA : Hid (FBox (W1.alloc (.cells #[.float .f64 pb] 22)).drew wr.heap.size 32 #[.int .i64 pt, .float .f64 pb]) := FBox.later (w := W1) (w' := W1.alloc (.cells #[.float .f64 pb] 22)) HX1.out.1 ((Below.refl _ _).alloc (Nat.le_refl _) _) HX1.out.1.lt
            have hs1 : (W1.alloc (.cells #[.float .f64 pb] 22)).drew.cell? ⟨wr.heap.size, 0, none⟩ = some (.int .i64 pt) ∧ (W1.alloc (.cells #[.float .f64 pb] 22)).drew.cell? ⟨wr.heap.size, 1, none⟩ = some (.float .f64 pb) := ⟨HXA.out.cell 0, HXA.out.cell 1⟩
            have HBA : Hid (Below w.heap.size w (W1.alloc (.cells #[.float .f64 pb] 22)).drew) := Below.drew (Below.alloc HX1.out.2.2 HX1.out.2.2.size _)
            have HSZ : w.heap.size + 1 ≤ (W1.alloc (.cells #[.float .f64 pb] 22)).drew.heap.size := HA.out.own.lt
            have hlen : (hgtAt pt Q).length < 1000000 := Nat.lt_of_le_of_lt (hgtAt_len pt Q) hql
            have HU : Hid (∀ v1 W4, W4.ownsRow (w.heap.size + 1) 22 1 v1 ((hgtAt pt Q).length + 1) ((hgtAt pt Q).map (Value.float .f64) ++ [.float .f64 pb]) → (W1.alloc (.cells #[.float .f64 pb] 22)).drew.grownBy W4 (G pt).ownBlock → (v1.ownBlock = (G pt).ownBlock ∨ v1.ownBlock = some (W1.alloc (.cells #[.float .f64 pb] 22)).drew.heap.size) →
                (W4.cell? ⟨wr.heap.size, 0, none⟩ = some (.int .i64 pt) ∧ W4.cell? ⟨wr.heap.size, 1, none⟩ = some (.float .f64 pb)) ∧ ∃ W5, (Instr.mapUpdate 57 (.map (some w.heap.size)) (.int .i64 pt) v1).run Try.prog W4 = .ok () W5 ∧ (W5.cell? ⟨wr.heap.size, 0, none⟩ = some (.int .i64 pt) ∧ W5.cell? ⟨wr.heap.size, 1, none⟩ = some (.float .f64 pb)) ∧ Hid (HbAt W5 w.heap.size (Q ++ [(pt, pb)]) (D.put (.int .i64 pt) (.held v1)) (fun u => if u = pt then v1 else G u) ∧ Below w.heap.size w W5)) := by
              intro v1 W4 o1 g1 a1
              obtain ⟨W5, hu, hH, g5⟩ := HA.out.put hpt HO.out hql g1 o1 a1
              have B4 : FBox W4 wr.heap.size 32 #[.int .i64 pt, .float .f64 pb] := HXA.out.gby g1 (fun e => by have := HR.out _ _ e; omega)
              have B5 : FBox W5 wr.heap.size 32 #[.int .i64 pt, .float .f64 pb] := B4.gby g5 (fun e => by injection e with e; omega)
              exact ⟨⟨B4.cell 0, B4.cell 1⟩, W5, hu, ⟨B5.cell 0, B5.cell 1⟩, hH, (HBA.out.grown g1 HBA.out.size (fun g e => by have := ((HA.out.row pt).lt g e).1; omega)).grown g5 (Nat.le_trans HBA.out.size g1.size) (fun g e => by cases e; exact Nat.le_refl _)⟩
            have HROW := hid (HA.out.row pt)
            clear HA HX1 b0 b1 HXA HBA hpt HR hmb hone
            generalize hgtAt pt Q = hq at *
            go_wp2_with fail
            go_region_held3 (fun V : World => V.cell? ⟨wr.heap.size, 0, none⟩ = some (.int .i64 pt) ∧ V.cell? ⟨wr.heap.size, 1, none⟩ = some (.float .f64 pb)) (first | exact hs0 | exact hs1 | exact hs4 | exact hs5 | go_keep)
              (first
                | (refine step_append_own_at rfl (.tmp 30) (.tmp 33) 37 rfl (w.heap.size + 1) 22 i0 (.float .f64 0) 1 8 Try.underlying37 hi0 hz0 hz1 hz2 rfl (by decide) (G pt) hq.length (hq.map (Value.float .f64)) rfl HROW.out ⟨W1.heap.size, 0, none⟩ 1 1 [.float .f64 pb] rfl rfl (cell_one_new _ _ _) (by simp [Value.oneCell']) (by unfold maxLen; omega) (by omega) HSZ ?_; intro v1 W4 o1 gr1 at1; obtain ⟨hs4, W5, hu, hs5, HB5⟩ := HU.out v1 W4 o1 gr1 at1))
            all_goals (
              have HO5 : Hid (HbAt W5 w.heap.size (Fi ++ qx.take (k + 1)) (D.put (.int .i64 pt) (.held v1)) (fun u => if u = pt then v1 else G u) ∧ Below w.heap.size w W5) := by
                show _ ∧ _
                rw [HN.out]
                exact HB5.out
              clear hs0 hs1 hs4 hs5 l0 l1 HU HROW
              go_wp2_with fail
              have hwr : IntKind.i64.wrap ((k : Int) + 1) = (k : Int) + 1 := by rw [IntKind.wrap_i64]; omega
              exact ⟨⟨k + 1, _, _, by omega, by go_num, HO5⟩, by simp [intOf]; omega⟩)
          | false =>
            have HO5 : Hid (HbAt W1 w.heap.size (Fi ++ qx.take (k + 1)) D G ∧ Below w.heap.size w W1) := by
              show _ ∧ _
              rw [HN.out]
              exact ⟨HX1.out.2.1.skip hone, HX1.out.2.2⟩
            go_wp2_with fail
            exact ⟨⟨k + 1, D, G, by omega, by go_num, HO5⟩, by simp [intOf]; omega⟩
        · have hkk : k = qx.length := by omega
          subst hkk
          have HO5 : Hid (HbAt wr w.heap.size (flatS (ls.take (i + 1))) D G ∧ Below w.heap.size w wr) := by
            have q := HH.out
            rw [List.take_length] at q
            show _ ∧ _
            rw [HT2.out]
            exact q
          go_wp2_with fail
          exact ⟨⟨i + 1, D, G, by omega, by go_num, HO5⟩, by simp [intOf]; omega⟩
    · obtain rfl : i = n := by omega
      have hkk : ¬ (i : Int) < (i : Int) := by omega
      have HE : Hid (HbAt wr w.heap.size (flatS ls) D G ∧ Below w.heap.size w wr) := by
        have q := HH.out
        rw [List.take_of_length_le (by have := HL.out; omega)] at q
        exact q
      go_wp2_with fail
      go_ret
      exact ⟨D, G, rfl, HE.out.1, HE.out.2⟩
end Go.Proofs.Ytmigdomlakflfaa

/- package clean: Sorted of the keys of the map of heights. -/
namespace Go.Proofs.Ytmigdomlakflfaa
open Go.RowKit
set_option linter.unusedVariables false
set_option linter.unusedSimpArgs false

/-- The ticks at which a sample is one, rising. -/
structure HbK (F : List (Int × Nat)) (K : List Int) : Prop where
  rise : K.Pairwise (fun x y => x < y)
  mem : ∀ t, t ∈ K ↔ ∃ p ∈ F, isone p.2 = true ∧ p.1 = t
theorem hgtAt_some (t : Int) (F : List (Int × Nat)) : (!(hgtAt t F).isEmpty) = true ↔ ∃ p ∈ F, isone p.2 = true ∧ p.1 = t := by
  unfold hgtAt
  rw [Bool.not_eq_true', List.isEmpty_eq_false_iff_exists_mem]
  constructor
  · rintro ⟨x, hx⟩
    obtain ⟨p, hp, rfl⟩ := List.mem_map.1 hx
    obtain ⟨h1, h2⟩ := List.mem_filter.1 hp
    simp at h2
    exact ⟨p, h1, h2.2, h2.1⟩
  · rintro ⟨p, hp, h1, h2⟩
    exact ⟨p.2, List.mem_map.2 ⟨p, List.mem_filter.2 ⟨hp, by simp [h1, h2]⟩, rfl⟩⟩
theorem intKeys_of {w : World} {mb n : Nat} {D : DataW Value} (hown : w.ownsMap Try.prog 3 vhElem mb n D) : (intKeys D).Nodup ∧ ∀ x, x ∈ intKeys D ↔ Maps.has D (.int .i64 x) = true := by
  obtain ⟨es, hD, hpw, _⟩ := hown.entries ykeys
  obtain ⟨es', hD', hko⟩ := hown.keysOf
  obtain rfl : es = es' := by rw [hD] at hD'; simpa using hD'
  subst hD
  have hk : ∀ p ∈ es, ∃ x, p.1 = .int .i64 x := fun p hp => by obtain ⟨v, hv⟩ := hko p hp; obtain ⟨x, _, hx, _⟩ := Maps.keyOf_i64 Try.underlying3 hv; exact ⟨x, hx⟩
  constructor
  · show (es.map fun p => Go.intOf p.1).Nodup
    refine List.pairwise_map.2 (hpw.imp_of_mem fun {p q} hp' hq' hne e => hne ?_)
    obtain ⟨a, ha⟩ := hk p hp'
    obtain ⟨b, hb⟩ := hk q hq'
    rw [ha, hb] at e ⊢
    exact congrArg _ e
  · intro x
    rw [Maps.has_eq, List.any_eq_true]
    show x ∈ es.map (fun p => Go.intOf p.1) ↔ _
    rw [List.mem_map]
    constructor
    · rintro ⟨p, hp', rfl⟩
      obtain ⟨a, ha⟩ := hk p hp'
      exact ⟨p, hp', by rw [ha]; simp [Lit.sameKey, Go.intOf]⟩
    · rintro ⟨p, hp', hs⟩
      obtain ⟨a, ha⟩ := hk p hp'
      rw [ha] at hs
      exact ⟨p, hp', by rw [ha]; simpa [Lit.sameKey, Go.intOf] using hs⟩
theorem HbK.of {W : World} {mb : Nat} {F : List (Int × Nat)} {D : DataW Value} {G : Int → Value} (h : HbAt W mb F D G) {ss : List Int} (hp : ss.Perm (intKeys D)) : HbK F (ss.mergeSort (fun x y => decide (x ≤ y))) := by
  obtain ⟨hn, hm⟩ := intKeys_of h.own
  have hp2 := (List.mergeSort_perm ss (fun x y => decide (x ≤ y))).trans hp
  have h1 := List.pairwise_mergeSort (le := fun x y : Int => decide (x ≤ y)) (by intro a b c; simp; omega) (by intro a b; simp; omega) ss
  have h2 := hp2.nodup_iff.2 hn
  refine ⟨(h1.and h2).imp (fun {a b} q => ?_), fun t => ?_⟩
  · have q1 : a ≤ b := by simpa using q.1
    have q2 : a ≠ b := q.2
    omega
  · rw [hp2.mem_iff, hm t, h.has t]
    exact hgtAt_some t F
/-- What Sorted tells of these keys. -/
def SrtT (W : World) (F : List (Int × Nat)) (e : Ending) (w' : World) : Prop := ∃ (v : Value) (K : List Int), e = .returned v ∧ Hid (HbK F K ∧ K.length ≤ F.length) ∧ Hid (w'.ownsRow W.heap.size 3 1 v K.length (K.map (Value.int .i64))) ∧ Below W.heap.size W w'
theorem esorted_any {W : World} {mb : Nat} {F : List (Int × Nat)} {D : DataW Value} {G : Int → Value} (h : HbAt W mb F D G) (hF : F.length ≤ 1000000) :
    Calls Try.prog 26 #[.func (.func 48) #[] #[.pointer (some ⟨W.heap.size, 0, none⟩)]] (W.alloc (.cells #[.map (some mb)] 57)) (SrtT W F) := by
  have hsz : Maps.size D ≤ F.length := h.own.size_le
  refine Calls.mono ((callsIn_wide (n := 5)).1 (Try.slices_Sorted_keys_26_27 mb F.length D vhElem W h.own (by unfold maxLen; omega) (by omega))) ?_
  rintro e w' ⟨v, ss, rfl, hS, hrow, hnil, hb⟩
  have hl : (ss.mergeSort (fun x y => decide (x ≤ y))).length = ss.length := List.length_mergeSort _
  have hl2 : ss.length ≤ F.length := by
    rw [hS.length_eq]
    obtain ⟨es, hD, _⟩ := h.own.entries ykeys
    subst hD
    simpa [intKeys, Maps.size] using hsz
  refine ⟨v, ss.mergeSort (fun x y => decide (x ≤ y)), rfl, ⟨HbK.of h hS, by rw [hl]; exact hl2⟩, ?_, ?_⟩
  · rw [hl]
    exact yowns_base hrow (by simp)
  · exact ((Below.refl _ W).alloc (Nat.le_refl _) _).trans (hb.mono (by simp))
theorem ekeys_any (mb : Nat) (W : World) : Calls Try.prog 27 #[.map (some mb)] W fun e w' => e = .returned (.func (.func 48) #[] #[.pointer (some ⟨W.heap.size, 0, none⟩)]) ∧ w' = W.alloc (.cells #[.map (some mb)] 57) := (callsIn_wide (n := 5)).1 (Try.maps_Keys_27 (some mb) W)
end Go.Proofs.Ytmigdomlakflfaa

/- The document's Merge: of any lists of samples. -/
namespace Go.Proofs.Ytmigdomlakflfaa
open Go.RowKit
set_option linter.unusedVariables false
set_option linter.unusedSimpArgs false

/-- What Merge tells: what is refused of the lists; a mean that is refused; too much; what was gathered. -/
def MgC (ls : List LsI) (er ix : Int) (v : Value) (Q : List (Int × Nat) → Prop) : Prop :=
  (chkL ls ≠ (0, 0) ∧ (er, ix) = chkL ls ∧ v = .slice none 0 0) ∨
  (chkL ls = (0, 0) ∧ MrX (flatS ls) ∧ er = 9 ∧ ix = -1 ∧ v = .slice none 0 0) ∨
  (chkL ls = (0, 0) ∧ ∃ O, MrA (flatS ls) O ∧ ((4096 < O.length ∧ er = 3 ∧ ix = -1 ∧ v = .slice none 0 0) ∨ (O.length ≤ 4096 ∧ er = 0 ∧ ix = 0 ∧ Q O)))
def MgT (w : World) (ls : List LsI) (e : Ending) (w' : World) : Prop := ∃ v er ix, e = .returned (.tuple #[v, .agg #[.int .i64 er, .int .i64 ix]]) ∧ Hid (MgC ls er ix v (fun O => w'.ownsRow w.heap.size 32 2 v O.length (smC O))) ∧ Below w.heap.size w w'
theorem chkF_ok : ∀ (ls : List LsI) (i : Nat), chkF i ls = (0, 0) → ∀ p ∈ ls, p.xs.length ≤ 4096 ∧ anyNo p.xs = false
  | [], _, _ => by simp
  | q :: r, i, h => by
    unfold chkF at h
    by_cases h1 : 4096 < q.xs.length
    · rw [if_pos h1] at h; cases h
    · rw [if_neg h1] at h
      by_cases h2 : anyNo q.xs = true
      · rw [if_pos h2] at h; cases h
      · rw [if_neg h2] at h
        intro p hp
        rcases List.mem_cons.1 hp with rfl | hp
        · exact ⟨by omega, by simpa using h2⟩
        · exact chkF_ok r (i + 1) h p hp
theorem flatS_len : ∀ (ls : List LsI), (∀ p ∈ ls, p.xs.length ≤ 4096) → (flatS ls).length ≤ ls.length * 4096
  | [], _ => by simp [flatS]
  | q :: r, h => by
    have i1 := flatS_len r (fun p hp => h p (List.mem_cons_of_mem _ hp))
    have i2 := h q (List.mem_cons_self ..)
    have e : flatS (q :: r) = q.xs ++ flatS r := rfl
    rw [e, List.length_append, List.length_cons]
    omega
theorem flatS_tick {ls : List LsI} (h : ∀ p ∈ ls, anyNo p.xs = false) : ∀ p ∈ flatS ls, 0 ≤ p.1 ∧ p.1 ≤ 1048576 := by
  intro p hp
  obtain ⟨q, hq, hpq⟩ := List.mem_flatMap.1 hp
  have e := h q hq
  unfold anyNo at e
  have e2 := List.any_eq_false.1 e p hpq
  unfold noT at e2
  simp only [decide_eq_true_eq] at e2
  omega
end Go.Proofs.Ytmigdomlakflfaa

/- Some lists of samples that came in. -/
namespace Go.Proofs.Ytmigdomlakflfaa
open Go.RowKit Go.ChangeShapes Go.WideShapes Go.Deep Go.Joins
set_option linter.unusedVariables false

instance : Inhabited LsI := ⟨⟨none, 0, []⟩⟩
end Go.Proofs.Ytmigdomlakflfaa

/- package clean: Merge, of any lists. -/
namespace Go.Proofs.Ytmigdomlakflfaa
open Go.RowKit
set_option linter.unusedVariables false
set_option linter.unusedSimpArgs false

theorem cfault_eq (w : World) : (Op.equalIn 10000 28 (.agg #[.int .i64 0, .int .i64 0]) (.agg #[.int .i64 0, .int .i64 0])).run Try.prog w = .ok true w := by
  have u1 := Try.underlying3
  have u2 := Try.underlying26
  have hS : Try.prog.underlying 28 = some (.struct (Try.prog.fieldsOf 28)) := by kernel_rfl
  rw [show (10000 : Nat) = 9999 + 1 from rfl, run_equalIn_agg w 9999 28 _ _ hS (by kernel_rfl)]
  simp only [Program.fieldsOf, Try.underlying28]
  go_simp
theorem cfault_ne {e i : Int} (h : (e, i) ≠ (0, 0)) (w : World) : (Op.equalIn 10000 28 (.agg #[.int .i64 e, .int .i64 i]) (.agg #[.int .i64 0, .int .i64 0])).run Try.prog w = .ok false w := by
  have u1 := Try.underlying3
  have u2 := Try.underlying26
  have hS : Try.prog.underlying 28 = some (.struct (Try.prog.fieldsOf 28)) := by kernel_rfl
  by_cases h1 : e = 0
  · subst h1
    have h2 : i ≠ 0 := fun h2 => h (by rw [h2])
    rw [show (10000 : Nat) = 9999 + 1 from rfl, run_equalIn_agg w 9999 28 _ _ hS (by kernel_rfl)]
    simp only [Program.fieldsOf, Try.underlying28]
    go_simp
  · rw [show (10000 : Nat) = 9999 + 1 from rfl, run_equalIn_agg w 9999 28 _ _ hS (by kernel_rfl)]
    simp only [Program.fieldsOf, Try.underlying28]
    go_simp
/-- What is gathered of the first ticks. -/
structure KP (F : List (Int × Nat)) (K : List Int) (k : Nat) (O : List (Int × Nat)) : Prop where
  len : O.length = k
  fst : O.map (·.1) = K.take k
  mean : ∀ q ∈ O, MeanT (srtF (hgtAt q.1 F)) q.2 0
theorem KP.nil (F : List (Int × Nat)) (K : List Int) : KP F K 0 [] := ⟨rfl, rfl, by simp⟩
theorem KP.more {F : List (Int × Nat)} {K : List Int} {k : Nat} {O : List (Int × Nat)} (h : KP F K k O) {t : Int} {m : Nat} (hk : K[k]? = some t) (hm : MeanT (srtF (hgtAt t F)) m 0) : KP F K (k + 1) (O ++ [(t, m)]) := by
  refine ⟨by rw [List.length_append, h.len]; rfl, ?_, fun q hq => ?_⟩
  · rw [List.map_append, h.fst, List.take_add_one, hk]
    rfl
  · rcases List.mem_append.1 hq with hq | hq
    · exact h.mean q hq
    · rw [List.mem_singleton.1 hq]; exact hm
theorem KP.done {F : List (Int × Nat)} {K : List Int} {O : List (Int × Nat)} (h : KP F K K.length O) (hK : HbK F K) : MrA F O := by
  have e : O.map (·.1) = K := by rw [h.fst, List.take_length]
  refine ⟨?_, fun p hp h1 => ?_, fun q hq => ?_⟩
  · have := hK.rise
    rw [← e] at this
    exact List.pairwise_map.1 this
  · have : p.1 ∈ K := (hK.mem p.1).2 ⟨p, hp, h1, rfl⟩
    rw [← e] at this
    obtain ⟨q, hq, hq1⟩ := List.mem_map.1 this
    exact ⟨q, hq, hq1⟩
  · have : q.1 ∈ K := by rw [← e]; exact List.mem_map.2 ⟨q, hq, rfl⟩
    exact ⟨(hK.mem q.1).1 this, h.mean q hq⟩
theorem chkL_ok {ls : List LsI} (h : chkL ls = (0, 0)) : ls.length ≤ 16 ∧ chkF 0 ls = (0, 0) := by
  unfold chkL at h
  by_cases h1 : 16 < ls.length
  · rw [if_pos h1] at h; cases h
  · rw [if_neg h1] at h; exact ⟨by omega, h⟩
set_option maxHeartbeats 6400000 in
set_option maxRecDepth 100000 in
theorem emerge_any (a : Option Addr) (n cap : Nat) (ls : List LsI) (w : World) (hl : ls.length = n) (h : RdL w a ls) :
    Calls Try.prog 8 #[.slice a n cap] w (MgT w ls) := by
  obtain ⟨i0, hi0, hz0, hz1, hz2⟩ := info_parts Try.yinfoS
  have HX := hid h
  have HL := hid hl
  obtain ⟨V0, hV0⟩ : ∃ V0, w.alloc (.cells #[.int .i64 0, .int .i64 0] 28) = V0 := ⟨_, rfl⟩
  have HV : Hid (FBox V0 w.heap.size 28 #[.int .i64 0, .int .i64 0] ∧ Below w.heap.size w V0) := by
    rw [← hV0]
    exact ⟨FBox.made _ _ _, (Below.refl _ _).alloc (Nat.le_refl _) _⟩
  have HSet : Hid (∀ (V : World) (z : Int), FBox V w.heap.size 28 #[.int .i64 0, .int .i64 0] → (V.setCell ⟨w.heap.size, 0, none⟩ (.int .i64 z)).cell? ⟨w.heap.size, 1, none⟩ = some (.int .i64 0) ∧ (V.setCell ⟨w.heap.size, 0, none⟩ (.int .i64 z)).frozen? ⟨w.heap.size, 1, none⟩ = false) := fun V z hb => ⟨(hb.set 0 _).cell 1, (hb.set 0 _).free 1⟩
  have HC := hid (echeckL_any a n cap ls V0 hl (h.later HV.out.2))
  obtain ⟨er, ix, hck⟩ : ∃ er ix, chkL ls = (er, ix) := ⟨_, _, rfl⟩
  have HCK := hid hck
  rw [hck] at HC
  dsimp only at HC
  clear h hl hck
  by_cases h0 : (er, ix) = (0, 0)
  case neg =>
    have hEQ := cfault_ne h0
    have HN0 := hid h0
    clear h0
    go_enter Try.func8, Try.ntmps8
    go_wp2_with fail
    refine Calls.mono HC.out ?_
    rintro e w1 ⟨rfl, hb1⟩
    clear hV0
    obtain ⟨Y, A0, A1, hY, hA0, hA1, ⟨y0, y1⟩, ⟨f0, f1⟩, ⟨z0, z1⟩, HBX⟩ := ybox2 w1 28 (.int .i64 0) (.int .i64 0) (.int .i64 er) (.int .i64 ix)
    have hw1 : w.heap.size < w1.heap.size := Nat.lt_of_lt_of_le HV.out.1.lt hb1.size
    have HB : Hid (FBox A1 w.heap.size 28 #[.int .i64 0, .int .i64 0] ∧ Below w.heap.size w A1) := ⟨(HV.out.1.later hb1 HV.out.1.lt).later HBX.out.2 hw1, ybt (ybt HV.out.2 hb1) HBX.out.2⟩
    go_wp2_with fail
    clear hY hA0 hA1 y0 y1 f0 f1
    have k0 : A1.cell? ⟨w.heap.size, 0, none⟩ = some (.int .i64 0) := HB.out.1.cell 0
    have k1 : A1.frozen? ⟨w.heap.size, 0, none⟩ = false := HB.out.1.free 0
    obtain ⟨s1, s2⟩ := HSet.out A1 er HB.out.1
    go_region
    all_goals (go_wp2_with fail)
    have HF2 : Hid (FBox ((A1.setCell ⟨w.heap.size, 0, none⟩ (.int .i64 er)).setCell ⟨w.heap.size, 1, none⟩ (.int .i64 ix)) w.heap.size 28 #[.int .i64 er, .int .i64 ix] ∧ Below w.heap.size w ((A1.setCell ⟨w.heap.size, 0, none⟩ (.int .i64 er)).setCell ⟨w.heap.size, 1, none⟩ (.int .i64 ix))) := ⟨(HB.out.1.set 0 (.int .i64 er)).set 1 (.int .i64 ix), (HB.out.2.setCell (p := ⟨w.heap.size, 0, none⟩) (Nat.le_refl _) _).setCell (p := ⟨w.heap.size, 1, none⟩) (Nat.le_refl _) _⟩
    generalize (A1.setCell ⟨w.heap.size, 0, none⟩ (.int .i64 er)).setCell ⟨w.heap.size, 1, none⟩ (.int .i64 ix) = X at HF2 ⊢
    have f0 : X.drew.cell? ⟨w.heap.size, 0, none⟩ = some (.int .i64 er) := HF2.out.1.cell 0
    have f1 : X.drew.cell? ⟨w.heap.size, 1, none⟩ = some (.int .i64 ix) := HF2.out.1.cell 1
    refine bodyPost_ret (by simp [results, Try.results8, go_sem, f0, f1]; try rfl) rfl ?_
    exact ⟨_, er, ix, rfl, .inl ⟨by rw [HCK.out]; exact HN0.out, HCK.out.symm, rfl⟩, HF2.out.2.drew⟩
  case pos =>
    obtain ⟨rfl, rfl⟩ : er = 0 ∧ ix = 0 := by injection h0 with h1 h2; exact ⟨h1, h2⟩
    have hEQ := cfault_eq
    clear h0
    have HOk := hid (chkF_ok ls 0 (chkL_ok HCK.out).2)
    have HF1 := hid (flatS_len ls (fun p hp => (HOk.out p hp).1))
    have HFT := hid (flatS_tick (fun p hp => (HOk.out p hp).2))
    have hfl : (flatS ls).length ≤ 65536 := by have := HF1.out; have := (chkL_ok HCK.out).1; omega
    have hn16 : n ≤ 16 := by have := (chkL_ok HCK.out).1; have := HL.out; omega
    have HB3 : Hid (∀ p ∈ flatS ls, p.2 < 18446744073709551616) := fun p hp => by
      obtain ⟨q, hq, hpq⟩ := List.mem_flatMap.1 hp
      exact ((HX.out.2 q hq).2.2 p hpq).2
    have HH : Hid (∀ V, Below w.heap.size w V → Calls Try.prog 25 #[.slice a n cap] V (HbT V (flatS ls))) := fun V hV => eheights_any a n cap ls V (by omega) (by omega) HL.out (HX.out.later hV)
    go_enter Try.func8, Try.ntmps8
    go_wp2_with fail
    refine Calls.mono HC.out ?_
    rintro e w1 ⟨rfl, hb1⟩
    clear hV0
    obtain ⟨Y, A0, A1, hY, hA0, hA1, ⟨y0, y1⟩, ⟨f0, f1⟩, ⟨z0, z1⟩, HBX⟩ := ybox2 w1 28 (.int .i64 0) (.int .i64 0) (.int .i64 0) (.int .i64 0)
    have hw1 : w.heap.size < w1.heap.size := Nat.lt_of_lt_of_le HV.out.1.lt hb1.size
    have HB : Hid (FBox A1 w.heap.size 28 #[.int .i64 0, .int .i64 0] ∧ Below w.heap.size w A1) := ⟨(HV.out.1.later hb1 HV.out.1.lt).later HBX.out.2 hw1, ybt (ybt HV.out.2 hb1) HBX.out.2⟩
    go_wp2_with fail
    clear hY hA0 hA1 y0 y1 f0 f1 hEQ z0 z1 HBX hw1 hb1 HV HC
    refine Calls.mono (HH.out A1 HB.out.2) ?_
    rintro e w2 ⟨D, G, rfl, HM, hb2⟩
    have HB2 : Hid (FBox w2 w.heap.size 28 #[.int .i64 0, .int .i64 0] ∧ Below w.heap.size w w2) := ⟨HB.out.1.later hb2 HB.out.1.lt, ybt HB.out.2 hb2⟩
    clear HB hb2 HH
    generalize hmb : A1.heap.size = mb at *
    clear hmb
    go_wp2_with fail
    refine Calls.mono (ekeys_any mb w2) ?_
    rintro e w3 ⟨rfl, hw3⟩
    rw [hw3]
    clear hw3 w3
    go_wp2_with fail
    refine Calls.mono (esorted_any HM.out (by omega)) ?_
    rintro e w4 ⟨v, K, rfl, HK, HO, hb4⟩
    obtain ⟨ka, kc, rfl, hkv⟩ := yshape HO.out
    have HKV := hid hkv
    have HM4 : Hid (HbAt w4 mb (flatS ls) D G) := HM.out.later (grownBy_of_below hb4)
    have HB4 : Hid (FBox w4 w.heap.size 28 #[.int .i64 0, .int .i64 0] ∧ Below w.heap.size w w4) := ⟨HB2.out.1.later hb4 HB2.out.1.lt, ybt HB2.out.2 hb4⟩
    have hKl : K.length ≤ 65536 := by have := HK.out.2; omega
    have HK1 := hid HK.out.1
    have HT64 : Hid (∀ t ∈ K, I64 t) := fun t ht => by
      obtain ⟨p, hp, _, rfl⟩ := (HK1.out.mem t).1 ht
      have := HFT.out p hp
      constructor <;> omega
    clear hkv HO HM HB2 hb4 HK HFT
    generalize hF : flatS ls = F at *
    have HFe := hid hF
    clear hF
    go_wp2_with fail
    go_loopw [6, 23] (fun v x wr => ∃ (k : Nat) (O : List (Int × Nat)), k ≤ K.length ∧ x = .int .i64 (k : Int) ∧ Hid (Below w4.heap.size w4 wr) ∧ Hid (wr.ownsRow w4.heap.size 32 2 v O.length (smC O)) ∧ Hid (KP F K k O)) (fun _ x _ => K.length - (Go.RowKit.intOf x).toNat)
    case atStart => exact ⟨0, [], Nat.zero_le _, rfl, Below.refl _ _, World.ownsRow_nil _ _ _ _, KP.nil F K⟩
    case round =>
      obtain ⟨k, O, hk, rfl, HW, HO, HP⟩ := hrel
      have HB : Hid (FBox wr w.heap.size 28 #[.int .i64 0, .int .i64 0] ∧ Below w.heap.size w wr) := ⟨HB4.out.1.later HW.out HB4.out.1.lt, ybt HB4.out.2 HW.out⟩
      have hOl : O.length = k := HP.out.len
      have k0 : wr.cell? ⟨w.heap.size, 0, none⟩ = some (.int .i64 0) := HB.out.1.cell 0
      have k1 : wr.frozen? ⟨w.heap.size, 0, none⟩ = false := HB.out.1.free 0
      by_cases hlt : k < K.length
      · have hj : K[k]? = some K[k] := List.getElem?_eq_getElem hlt
        have ht64 := HT64.out _ (List.getElem_mem hlt)
        rcases HKV.out with h0 | ⟨g, rfl, hg, hx⟩
        · rw [List.map_eq_nil_iff] at h0
          rw [h0] at hlt
          exact absurd hlt (by simp)
        have c0 := (HW.out.cell (p := ⟨g, k, none⟩) hg).trans (hx k (.int .i64 K[k]) (by rw [List.getElem?_map, hj]; rfl))
        have HJ := hid hj
        clear hx hj
        generalize K[k] = t at *
        have HMr : Hid (HbAt wr mb F D G) := HM4.out.later (grownBy_of_below HW.out)
        have l0 := HMr.out.look ht64
        obtain ⟨a3, c3, hG, hr3⟩ := yshape (HMr.out.row t)
        rw [hG] at l0
        have hbl : ∀ x ∈ hgtAt t F, x < 18446744073709551616 := fun x hx => by
          obtain ⟨p, hp, rfl⟩ := List.mem_map.1 hx
          exact HB3.out p (List.mem_filter.1 hp).1
        have HMn := hid (emean_any a3 (hgtAt t F).length c3 (hgtAt t F) wr (by have := hgtAt_len t F; omega) rfl hbl (RdH.of hr3))
        have hk1 : (k : Int) < (K.length : Int) := by omega
        have HTk := hid ht64
        clear hbl hr3 hG ht64 HMr
        generalize (hgtAt t F).length = hL at *
        go_wp2_with fail
        refine Calls.mono HMn.out ?_
        rintro e w5 ⟨r, ov, rfl, HM5, hb5⟩
        have HB5 : Hid (FBox w5 w.heap.size 28 #[.int .i64 0, .int .i64 0] ∧ Below w.heap.size w w5) := ⟨HB.out.1.later hb5 HB.out.1.lt, ybt HB.out.2 hb5⟩
        have HW5 : Hid (Below w4.heap.size w4 w5) := ybt HW.out hb5
        have HO5 := hid (yowns_later HO.out hb5)
        have hov : ov = 0 ∨ ov = 9 := by
          rcases HM5.out with ⟨_, _, q⟩ | ⟨_, m, _, ⟨_, _, q⟩ | ⟨_, _, q⟩⟩
          · exact .inl q
          · exact .inl q
          · exact .inr q
        clear HMn l0 k0 k1 c0 hb5 HO HW HB
        have k0 : w5.cell? ⟨w.heap.size, 0, none⟩ = some (.int .i64 0) := HB5.out.1.cell 0
        have k1 : w5.frozen? ⟨w.heap.size, 0, none⟩ = false := HB5.out.1.free 0
        rcases hov with rfl | rfl
        · have HP4 : Hid (KP F K (k + 1) (O ++ [(t, r)])) := HP.out.more HJ.out HM5.out
          have ho := HO5.out
          have hsz := HW5.out.size
          clear k0 k1 HP
          go_wp2_with (first
            | (at_builtin; refine wpList_append_own _ rfl _ _ 25 rfl w4.heap.size 32 i0 (.agg #[.int .i64 0, .float .f64 0]) 2 16 Try.underlying25 hi0 hz0 hz1 hz2 rfl (by decide) _ _ _ rfl (ho.alloc _) ⟨w5.heap.size, 0, none⟩ 1 1 [.int .i64 t, .float .f64 r] rfl rfl (ycell2 _ _ _ _) (smC_one (t, r)) (by unfold maxLen; omega) (by omega) (by simp; omega) ?_; intro v' w6 ho6 hg6 _)
            | fail)
          have HW6 : Hid (Below w4.heap.size w4 w6) := (HW5.out.alloc hsz _).grown hg6 (by simp; omega) (fun g hg => (ho.lt g hg).1)
          have HO6 : Hid (w6.ownsRow w4.heap.size 32 2 v' (O ++ [(t, r)]).length (smC (O ++ [(t, r)]))) := by
            show w6.ownsRow _ _ _ _ _ _
            rw [smC_append, List.length_append]
            exact ho6
          clear hg6 ho6 ho
          go_wp2_with fail
          first | exact ⟨⟨k + 1, O ++ [(t, r)], by omega, by go_num, HW6, HO6, HP4⟩, by simp [Go.RowKit.intOf]; omega⟩ | (go_roundw; (case rel => exact ⟨k + 1, O ++ [(t, r)], by omega, by go_num, HW6, HO6, HP4⟩); (case measure => simp [Go.RowKit.intOf]; omega))
        · obtain ⟨s1, s2⟩ := HSet.out w5 9 HB5.out.1
          have HXX : Hid (MrX (flatS ls)) := by
            obtain ⟨p, hp, h5, h6⟩ := (HK1.out.mem t).1 (List.mem_of_getElem? HJ.out)
            show MrX _
            rw [HFe.out]
            exact ⟨p, hp, h5, r, by rw [h6]; exact HM5.out⟩
          go_wp2_with fail
          have HF2 : Hid (FBox ((w5.setCell ⟨w.heap.size, 0, none⟩ (.int .i64 9)).setCell ⟨w.heap.size, 1, none⟩ (.int .i64 (-1))) w.heap.size 28 #[.int .i64 9, .int .i64 (-1)] ∧ Below w.heap.size w ((w5.setCell ⟨w.heap.size, 0, none⟩ (.int .i64 9)).setCell ⟨w.heap.size, 1, none⟩ (.int .i64 (-1)))) := ⟨(HB5.out.1.set 0 (.int .i64 9)).set 1 (.int .i64 (-1)), (HB5.out.2.setCell (p := ⟨w.heap.size, 0, none⟩) (Nat.le_refl _) _).setCell (p := ⟨w.heap.size, 1, none⟩) (Nat.le_refl _) _⟩
          generalize (w5.setCell ⟨w.heap.size, 0, none⟩ (.int .i64 9)).setCell ⟨w.heap.size, 1, none⟩ (.int .i64 (-1)) = X at HF2 ⊢
          have f0 : X.cell? ⟨w.heap.size, 0, none⟩ = some (.int .i64 9) := HF2.out.1.cell 0
          have f1 : X.cell? ⟨w.heap.size, 1, none⟩ = some (.int .i64 (-1)) := HF2.out.1.cell 1
          (try simp only [Exit.inBlock, Exit.then])
          refine bodyPost_ret (by simp [results, Try.results8, go_sem, f0, f1]; try rfl) rfl ?_
          exact ⟨_, 9, (-1), rfl, .inr (.inl ⟨HCK.out, HXX.out, rfl, rfl, rfl⟩), HF2.out.2⟩
      · clear hOl
        obtain rfl : k = K.length := by omega
        have hkk : ¬ (K.length : Int) < (K.length : Int) := by omega
        have HD : Hid (MrA F O) := HP.out.done HK1.out
        obtain ⟨ao, co, rfl, _⟩ := yshape HO.out
        by_cases h4 : 4096 < O.length
        · obtain ⟨s1, s2⟩ := HSet.out wr 3 HB.out.1
          go_wp2_with fail
          have HF2 : Hid (FBox ((wr.setCell ⟨w.heap.size, 0, none⟩ (.int .i64 3)).setCell ⟨w.heap.size, 1, none⟩ (.int .i64 (-1))) w.heap.size 28 #[.int .i64 3, .int .i64 (-1)] ∧ Below w.heap.size w ((wr.setCell ⟨w.heap.size, 0, none⟩ (.int .i64 3)).setCell ⟨w.heap.size, 1, none⟩ (.int .i64 (-1)))) := ⟨(HB.out.1.set 0 (.int .i64 3)).set 1 (.int .i64 (-1)), (HB.out.2.setCell (p := ⟨w.heap.size, 0, none⟩) (Nat.le_refl _) _).setCell (p := ⟨w.heap.size, 1, none⟩) (Nat.le_refl _) _⟩
          generalize (wr.setCell ⟨w.heap.size, 0, none⟩ (.int .i64 3)).setCell ⟨w.heap.size, 1, none⟩ (.int .i64 (-1)) = X at HF2 ⊢
          have f0 : X.cell? ⟨w.heap.size, 0, none⟩ = some (.int .i64 3) := HF2.out.1.cell 0
          have f1 : X.cell? ⟨w.heap.size, 1, none⟩ = some (.int .i64 (-1)) := HF2.out.1.cell 1
          (try simp only [Exit.inBlock, Exit.then])
          refine bodyPost_ret (by simp [results, Try.results8, go_sem, f0, f1]; try rfl) rfl ?_
          exact ⟨_, 3, (-1), rfl, .inr (.inr ⟨HCK.out, O, (by rw [HFe.out]; exact HD.out), .inl ⟨h4, rfl, rfl, rfl⟩⟩), HF2.out.2⟩
        · obtain ⟨s1, s2⟩ := HSet.out wr 0 HB.out.1
          have h4i : ¬ (4096 : Int) < (O.length : Int) := by omega
          have HO2 : Hid (((wr.setCell ⟨w.heap.size, 0, none⟩ (.int .i64 0)).setCell ⟨w.heap.size, 1, none⟩ (.int .i64 0)).ownsRow w4.heap.size 32 2 (.slice ao O.length co) O.length (smC O)) := yown_put (yown_put HO.out HB.out.1 (by decide) 0 _) (HB.out.1.set 0 _) (by decide) 1 _
          go_wp2_with fail
          have HF2 : Hid (FBox ((wr.setCell ⟨w.heap.size, 0, none⟩ (.int .i64 0)).setCell ⟨w.heap.size, 1, none⟩ (.int .i64 0)) w.heap.size 28 #[.int .i64 0, .int .i64 0] ∧ Below w.heap.size w ((wr.setCell ⟨w.heap.size, 0, none⟩ (.int .i64 0)).setCell ⟨w.heap.size, 1, none⟩ (.int .i64 0))) := ⟨(HB.out.1.set 0 (.int .i64 0)).set 1 (.int .i64 0), (HB.out.2.setCell (p := ⟨w.heap.size, 0, none⟩) (Nat.le_refl _) _).setCell (p := ⟨w.heap.size, 1, none⟩) (Nat.le_refl _) _⟩
          generalize (wr.setCell ⟨w.heap.size, 0, none⟩ (.int .i64 0)).setCell ⟨w.heap.size, 1, none⟩ (.int .i64 0) = X at HF2 HO2 ⊢
          have f0 : X.cell? ⟨w.heap.size, 0, none⟩ = some (.int .i64 0) := HF2.out.1.cell 0
          have f1 : X.cell? ⟨w.heap.size, 1, none⟩ = some (.int .i64 0) := HF2.out.1.cell 1
          (try simp only [Exit.inBlock, Exit.then])
          refine bodyPost_ret (by simp [results, Try.results8, go_sem, f0, f1]; try rfl) rfl ?_
          exact ⟨_, 0, 0, rfl, .inr (.inr ⟨HCK.out, O, (by rw [HFe.out]; exact HD.out), .inr ⟨by omega, rfl, rfl, yowns_base HO2.out HB4.out.2.size⟩⟩), HF2.out.2⟩
end Go.Proofs.Ytmigdomlakflfaa

/- The law CleanFill answers true, whatever samples and places come in. -/
namespace Go.Proofs.Ytmigdomlakflfaa
open Go.RowKit
set_option linter.unusedVariables false
set_option linter.unusedSimpArgs false

theorem eshape {w : World} {base e s : Nat} {v : Value} {n : Nat} {xs : List Value} (h : w.ownsRow base e s v n xs) : ∃ a cap, v = .slice a n cap ∧ RdV w a xs ∧ (a = none → cap = 0 ∧ n = 0) ∧ ∀ g, a = some ⟨g, 0, none⟩ → base ≤ g ∧ g < w.heap.size := by
  obtain ⟨a, cap, hv, hV⟩ := yshape h
  refine ⟨a, cap, hv, hV, fun e => ?_, fun g e => ?_⟩
  · rcases h.2 with ⟨h1, h0⟩ | ⟨g, cap', cur, h1, _⟩
    · rw [hv] at h1
      injection h1 with _ h2 h3
      exact ⟨h3, h2⟩
    · rw [hv, e] at h1
      cases h1
  · exact h.lt g (by rw [hv, e]; rfl)
theorem WoC.rows {zs : List Int} {n m : Nat} {e f : Int} {v u : Value} {W V : World} {b1 b2 : Nat} {xs : List (Int × Nat)} (h : WoC zs n m e v (W.ownsRow b1 32 2 v (woL xs zs n).length (smC (woL xs zs n)))) (g : WoC zs n m f u (V.ownsRow b2 32 2 u (woL xs zs n).length (smC (woL xs zs n)))) :
    e = f ∧ ∃ M : List (Int × Nat), M.length ≤ 4096 ∧ W.ownsRow b1 32 2 v M.length (smC M) ∧ V.ownsRow b2 32 2 u M.length (smC M) := by
  have nil : ∀ (X : World) (b : Nat), X.ownsRow b 32 2 (.slice none 0 0) ([] : List (Int × Nat)).length (smC []) := fun X b => World.ownsRow_nil _ _ _ _
  rcases h with ⟨h0, h1, h2⟩ | ⟨h0, h3, h4, h1, h2⟩ | ⟨h0, h3, h4, h1, h2⟩
  · rcases g with ⟨g0, g1, g2⟩ | ⟨g0, g3, g4, g1, g2⟩ | ⟨g0, g3, g4, g1, g2⟩
    · exact ⟨by rw [h1, g1], [], by simp, by rw [h2]; exact nil _ _, by rw [g2]; exact nil _ _⟩
    · omega
    · omega
  · rcases g with ⟨g0, g1, g2⟩ | ⟨g0, g3, g4, g1, g2⟩ | ⟨g0, g3, g4, g1, g2⟩
    · omega
    · exact ⟨by rw [h1, g1], [], by simp, by rw [h2]; exact nil _ _, by rw [g2]; exact nil _ _⟩
    · exact absurd g4 h4
  · rcases g with ⟨g0, g1, g2⟩ | ⟨g0, g3, g4, g1, g2⟩ | ⟨g0, g3, g4, g1, g2⟩
    · omega
    · exact absurd h4 g4
    · exact ⟨by rw [h1, g1], _, Nat.le_trans (woL_len xs zs n) h0, h2, g2⟩
theorem FilC.rows {xs : List (Int × Nat)} {e f : Int} {v u : Value} {W V : World} {b1 b2 : Nat} (hx : ∀ p ∈ xs, p.2 < 18446744073709551616) (h : FilC xs e v (fun F => W.ownsRow b1 32 2 v F.length (smC F))) (g : FilC xs f u (fun F => V.ownsRow b2 32 2 u F.length (smC F))) :
    e = f ∧ ∃ M : List (Int × Nat), M.length ≤ 4096 ∧ (∀ p ∈ M, isone p.2 = true ∧ p.2 < 18446744073709551616) ∧ W.ownsRow b1 32 2 v M.length (smC M) ∧ V.ownsRow b2 32 2 u M.length (smC M) := by
  have nil : ∀ (X : World) (b : Nat), X.ownsRow b 32 2 (.slice none 0 0) ([] : List (Int × Nat)).length (smC []) := fun X b => World.ownsRow_nil _ _ _ _
  obtain ⟨he, hc⟩ := h.both g
  refine ⟨he, ?_⟩
  rcases hc with ⟨h1, h2⟩ | ⟨F, h1, h2, h3, h4, h5⟩
  · exact ⟨[], by simp, (fun p hp => (by cases hp)), (by rw [h1]; exact nil _ _), (by rw [h2]; exact nil _ _)⟩
  · exact ⟨F, h2, fun p hp => ⟨h1 p hp, h3.lt (fun q hq => hx q (List.mem_filter.1 hq).1) p hp⟩, h4, h5⟩
theorem Blk.gby {W W' : World} {o : Option Nat} {g sz : Nat} (h : Blk W g sz) (hg : W.grownBy W' o) (ho : o ≠ some g) : Blk W' g sz := by
  obtain ⟨cur, hc, hs⟩ := h
  exact ⟨cur, (hg.block g (Array.getElem?_eq_some_iff.1 hc).1 (fun e => ho e.symm)).trans hc, hs⟩
theorem Ovr.gby {W W' : World} {v : Value} {o o' : Option Nat} (h : Ovr W v o) (hg : W.grownBy W' o') (ho : ∀ g, o = some g → o' ≠ some g) : Ovr W' v o := by
  rcases h with h | ⟨g, n, cap, h1, h2, h3, h4, h5⟩
  · exact .inl h
  · exact .inr ⟨g, n, cap, h1, h2, h3, h4, h5.gby hg (ho g h2)⟩
theorem Ovr.later {W W' : World} {v : Value} {o : Option Nat} (h : Ovr W v o) (hb : Below W.heap.size W W') : Ovr W' v o := h.gby (o' := none) (gby_of hb) (fun g _ e => by cases e)
end Go.Proofs.Ytmigdomlakflfaa

