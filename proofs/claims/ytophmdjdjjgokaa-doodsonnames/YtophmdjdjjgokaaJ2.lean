/- My texts on the way to DoodsonNames, one behind the other: contracts of the program and of the document's answers. -/
import Derived.Test.YtophmdjdjjgokaaJ1
import Derived.Test.YtophmdjdjjgokaaIterShelf
import Derived.RangeFuncNested
import Derived.RangeFuncBound
import Derived.RangeFuncCalls
import Derived.RangeFuncLeaves
import Derived.RangeFuncFrom
import Derived.Shelf.Abstract
import Derived.Shelf.RegionOpen
import Derived.OwnWalkIn
import Derived.TacticsInMore
import Derived.LoopNIn
import Derived.LoopIn
/- package doodson: Names, and what the function that it tells goes over. -/
namespace Go.Proofs.Ytophmdjdjjgokaa
open Go.RowKit Go.Shelf Go.Maps
set_option linter.unusedVariables false
set_option linter.unusedSimpArgs false
attribute [local go_sem] Oper.semAt_some

/-- Sixteen places. -/
abbrev DoK := _root_.Fin 16
/-- The names, rising. -/
def doNames : List (List UInt8) := doTab.map (fun x => x.1)
def dnm (j : Nat) : List UInt8 := doNames.getD j []
theorem doNames_keys : strKeys doD = doNames := by kernel_rfl
theorem doNames_sorted : doNames.mergeSort (fun x y => decide (x ≤ y)) = doNames := List.mergeSort_of_pairwise (by decide +kernel)
theorem doNames_at (j : Nat) (hj : j < 16) : doNames[j]? = some (dnm j) := by
  unfold dnm
  rw [List.getD_eq_getElem?_getD, List.getElem?_eq_getElem (show j < doNames.length from hj)]
  rfl

set_option maxHeartbeats 1600000 in
set_option maxRecDepth 100000 in
theorem donames_any (w : World) : Calls Try.prog 6 #[] w fun e w' => ∃ pb g cap, e = .returned (.func (.func 23) #[] #[.pointer (some ⟨pb, 0, none⟩)]) ∧ w.heap.size ≤ pb ∧ w.heap.size ≤ g ∧ g < w'.heap.size ∧ FBox w' pb 22 #[.slice (some ⟨g, 0, none⟩) 16 cap] ∧ (∀ j, j < 16 → w'.cell? ⟨g, j, none⟩ = some (.string ⟨(dnm j).toArray⟩)) ∧ Below w.heap.size w w' := by
  refine (callsIn_wide (n := 6)).1 ?_
  have HT := hid (fun V => dotable_any V)
  have hfK : Fence.wide.fn 21 := trivial
  have hfS : Fence.wide.fn 20 := trivial
  have hfT : Fence.wide.fn 22 := trivial
  refine callsIn_of_wp Try.func6 rfl trivial ?_ rfl
  simp only [Try.ntmps6, List.size_toArray, List.length_cons, List.length_nil, Nat.reduceAdd, Nat.reduceSub, Array.replicate_succ, Array.replicate_zero, List.push_toArray, List.append_toArray, List.nil_append, List.cons_append]
  gi_wp2
  refine (callsIn_wide.2 (HT.out _)).mono ?_
  rintro e w1 ⟨rfl, ho, hb⟩
  have HO := hid ho
  have HB := hid hb
  clear ho hb
  gi_wp2
  refine (Try.maps_Keys_21 _ _).mono ?_
  rintro e w2 ⟨rfl, rfl⟩
  gi_wp2
  refine (Try.slices_Sorted_keys_20_21 w.heap.size 16 doD vR w1 HO.out (by decide) (by decide)).mono ?_
  rintro e w3 ⟨v, ss, rfl, hS, hrow, hnil, hb3⟩
  have HP : Hid (ss.mergeSort (fun x y => decide (x ≤ y)) = doNames) := by
    show _ = _
    rw [← doNames_sorted, ← doNames_keys]
    exact mergeSort_of_perm hS
  have hl : ss.length = 16 := by
    rw [hS.length_eq, doNames_keys]
    rfl
  rw [HP.out, hl] at hrow
  have HB3 := hid (HB.out.trans (((Below.refl _ _).alloc (Nat.le_refl _) (.cells #[.map (some w.heap.size)] 51) |>.trans (hb3.mono (by simp))).mono HB.out.size))
  rcases hrow.2 with ⟨_, h⟩ | ⟨g, cap, cur, rfl, hg, hcur, _⟩
  · exact absurd h (by decide)
  have hgl : g < w3.heap.size := (Array.getElem?_eq_some_iff.1 hcur).1
  have hgw : w.heap.size ≤ g := Nat.le_trans HB.out.size (by simp at hg; omega)
  have HC : Hid (∀ j, j < 16 → w3.cell? ⟨g, j, none⟩ = some (.string ⟨(dnm j).toArray⟩)) := fun j hj => by
    have e := hrow.cells rfl j (encStr (dnm j)) (by rw [List.getElem?_map, doNames_at j hj]; rfl)
    rw [show (⟨g, 0, none⟩ : Addr).add j = ⟨g, j, none⟩ by unfold Addr.add; split <;> simp_all] at e
    exact e
  clear hS hnil hb3 hrow hcur HO HB hg HP
  have HN := hid (boxes1 w3 22 #[.slice (some ⟨g, 0, none⟩) 16 cap])
  obtain ⟨w4, hW⟩ : ∃ w4, w3.alloc (.cells #[.slice (some ⟨g, 0, none⟩) 16 cap] 22) = w4 := ⟨_, rfl⟩
  rw [hW] at HN
  gi_wp2
  go_ret
  have hl4 := HN.out.2.size
  exact ⟨_, g, cap, rfl, HB3.out.size, hgw, by omega, HN.out.1, fun j hj => (HN.out.2.cell (p := ⟨g, j, none⟩) hgl).trans (HC.out j hj), HB3.out.trans (HN.out.2.mono HB3.out.size)⟩

theorem dofin_succ (k : Nat) (hk : k < 16) : (List.finRange 16).take (k + 1) = (List.finRange 16).take k ++ [(⟨k, hk⟩ : DoK)] := by
  rw [List.take_add_one, List.getElem?_eq_getElem (by rw [List.length_finRange]; exact hk), List.getElem_finRange]
  rfl

set_option maxHeartbeats 1600000 in
set_option maxRecDepth 100000 in
theorem donames1_stops (F : Fence) (n : Nat) (h6 : F.fn 23) (hro : F.round = none) (hn : 1 ≤ n) (pb g cap n₀ : Nat) (w : World) (l1 : pb < n₀) (l2 : g < n₀) (hl : n₀ ≤ w.heap.size) (c1 : w.cell? ⟨pb, 0, none⟩ = some (.slice (some ⟨g, 0, none⟩) 16 cap)) (c2 : ∀ j, j < 16 → w.cell? ⟨g, j, none⟩ = some (.string ⟨(dnm j).toArray⟩)) :
    SeqStopsK F n Try.prog 23 #[.pointer (some ⟨pb, 0, none⟩)] (fun x : DoK => #[.string ⟨(dnm x).toArray⟩]) (Below n₀) (fun xs => xs = List.finRange 16) (fun pre => ∃ k, k ≤ 16 ∧ pre = (List.finRange 16).take k) 16 w := fun l J Jx W hW hJ hJx hY h0 => by
  refine callsIn_of_wp Try.func23 rfl h6 ?_ hro
  simp only [Try.ntmps23, List.size_toArray, List.length_cons, List.length_nil, Nat.reduceAdd, Nat.reduceSub, Array.replicate_succ, Array.replicate_zero, List.push_toArray, List.append_toArray, List.nil_append, List.cons_append]
  have d1 : W.cell? ⟨pb, 0, none⟩ = some (.slice (some ⟨g, 0, none⟩) 16 cap) := (hW.cell (p := ⟨pb, 0, none⟩) (show pb < _ by omega)).trans c1
  have D2 : Hid (∀ j, j < 16 → W.cell? ⟨g, j, none⟩ = some (.string ⟨(dnm j).toArray⟩)) := fun j hj => (hW.cell (p := ⟨g, j, none⟩) (show g < _ by omega)).trans (c2 j hj)
  have HY := hid hY
  clear hY c1 c2
  have hJ0 : Hid (J ((List.finRange 16).take 0) W) := h0
  have HS : Hid (∀ k, ∀ hk : k < 16, (List.finRange 16).take (k + 1) = (List.finRange 16).take k ++ [(⟨k, hk⟩ : DoK)]) := fun k hk => dofin_succ k hk
  have HE : Hid ((List.finRange 16).take 16 = List.finRange 16) := rfl
  clear h0
  gi_wp2
  clear d1
  gi_loopw [7] (fun x wr => ∃ k : Nat, k ≤ 16 ∧ x = .int .i64 (k : Int) ∧ Hid (∀ j, j < 16 → wr.cell? ⟨g, j, none⟩ = some (.string ⟨(dnm j).toArray⟩)) ∧ Hid (J ((List.finRange 16).take k) wr)) (fun x _ => 16 - (intOf x).toNat)
  case atStart => exact ⟨0, Nat.zero_le _, rfl, D2, hJ0⟩
  case round =>
    obtain ⟨k, hk, rfl, D3, HJ⟩ := hrel
    by_cases hlt : k < 16
    · have hS := hid (HS.out k hlt)
      have hc := D3.out k hlt
      have hlen : ((List.finRange 16).take k).length < 16 := by rw [List.length_take, List.length_finRange]; omega
      obtain ⟨fn, tmps, assign, body, hy, hR⟩ := HY.out _ (⟨k, hlt⟩ : DoK) wr HJ.out hlen
      dsimp only at hy
      generalize (List.finRange 16).take k = pre at *
      gi_wp2
      refine hR.mono ?_
      rintro e' W3 (⟨rfl, hJ3, hk3⟩ | ⟨rfl, hJx3⟩)
      · have D4 : Hid (∀ j, j < 16 → W3.cell? ⟨g, j, none⟩ = some (.string ⟨(dnm j).toArray⟩)) := fun j hj => (hk3.cell (p := ⟨g, j, none⟩) l2).trans (D3.out j hj)
        gi_wp2
        go_roundw
        case rel => exact ⟨k + 1, by omega, by go_num, D4, by rw [hS.out]; exact hJ3⟩
        case measure => simp [intOf]; omega
      · gi_wp2
        refine bodyPost_ret (results_none rfl _ _ _) rfl ?_
        exact ⟨⟨_, rfl⟩, .inr ⟨_, ⟨k + 1, by omega, hS.out.symm⟩, hJx3⟩⟩
    · obtain rfl : k = 16 := by omega
      have hJ9 := HJ.out
      rw [HE.out] at hJ9
      gi_wp2
      all_goals first
        | (exfalso; omega)
        | (go_end0
           exact ⟨⟨_, rfl⟩, .inl ⟨_, rfl, hJ9⟩⟩)
end Go.Proofs.Ytophmdjdjjgokaa

/- package doodson: Name, of every six numbers. -/
namespace Go.Proofs.Ytophmdjdjjgokaa
open Go.RowKit Go.Shelf Go.Maps
set_option linter.unusedVariables false
set_option linter.unusedSimpArgs false
attribute [local go_sem] Oper.semAt_some

/-- The table's numbers. -/
def dints : List (List Int) := [[1, 1, 0, 0, 0, 0], [2, 2, 0, 0, 0, 0], [2, 1, 0, -1, 0, 0], [2, 0, 0, 0, 0, 0], [4, 0, 0, 0, 0, 0], [4, 2, -2, 0, 0, 0], [0, 2, 0, 0, 0, 0], [0, 1, 0, -1, 0, 0], [2, -1, 0, 1, 0, 0], [2, -2, 0, 2, 0, 0], [1, -1, 0, 0, 0, 0], [1, 1, -2, 0, 0, 0], [1, -2, 0, 1, 0, 0], [2, 2, -2, 0, 0, 0], [0, 0, 1, 0, 0, 0], [0, 0, 2, 0, 0, 0]]
def drow (k j : Nat) : Int := (dints.getD k []).getD j 0
theorem kn_nm (k : Nat) (hk : k < 16) : kn (dnm k) = some (doA (drow k)) := by
  rcases (show k = 0 ∨ k = 1 ∨ k = 2 ∨ k = 3 ∨ k = 4 ∨ k = 5 ∨ k = 6 ∨ k = 7 ∨ k = 8 ∨ k = 9 ∨ k = 10 ∨ k = 11 ∨ k = 12 ∨ k = 13 ∨ k = 14 ∨ k = 15 by omega) with rfl | rfl | rfl | rfl | rfl | rfl | rfl | rfl | rfl | rfl | rfl | rfl | rfl | rfl | rfl | rfl <;> kernel_rfl
/-- Which of the table's rows these numbers are, from the row k on. -/
def dfind (d : Nat → Int) : Nat → Nat → Option Nat
  | k, 0 => none
  | k, f + 1 => if dEq (drow k) d then some k else dfind d (k + 1) f
theorem dfind_no {d : Nat → Int} : ∀ (m k f : Nat), (∀ j, k ≤ j → j < k + m → dEq (drow j) d = false) → m ≤ f → dfind d k f = dfind d (k + m) (f - m)
  | 0, k, f, _, _ => rfl
  | m + 1, k, 0, _, h => absurd h (by omega)
  | m + 1, k, f + 1, h, hf => by
    have e := dfind_no m (k + 1) f (fun j h1 h2 => h j (by omega) (by omega)) (by omega)
    have u : dfind d k (f + 1) = if dEq (drow k) d then some k else dfind d (k + 1) f := rfl
    rw [u, h k (Nat.le_refl _) (by omega), if_neg (by decide), e, show k + 1 + m = k + (m + 1) by omega, show f - m = f + 1 - (m + 1) by omega]
theorem dfind_at {d : Nat → Int} {L : Nat} (hL : L < 16) (h : ∀ j, j < L → dEq (drow j) d = false) (hd : dEq (drow L) d = true) : dfind d 0 16 = some L := by
  rw [dfind_no L 0 16 (fun j _ h2 => h j (by omega)) (by omega), Nat.zero_add, show 16 - L = (15 - L) + 1 by omega]
  unfold dfind
  rw [if_pos hd]
theorem dfind_none {d : Nat → Int} (h : ∀ j, j < 16 → dEq (drow j) d = false) : dfind d 0 16 = none := by
  rw [dfind_no 16 0 16 (fun j _ h2 => h j (by omega)) (by omega)]
  rfl
/-- What Name tells. -/
def dNm (d : Nat → Int) : Value := match dfind d 0 16 with | some k => .tuple #[.string ⟨(dnm k).toArray⟩, .bool true] | none => .tuple #[.string ⟨#[]⟩, .bool false]

theorem doget (w : World) (b n : Nat) (k : Nat) (hk : k < 16) (h : w.ownsMap Try.prog 9 vR b n doD) :
    (Instr.lookup 51 (.map (some b)) (.string ⟨(dnm k).toArray⟩) false).run Try.prog w = .ok (.agg (doA (drow k))) w := by
  have hsz : (⟨(dnm k).toArray⟩ : ByteArray).size ≤ maxLen := by
    have : ∀ k, k < 16 → (dnm k).toArray.size ≤ maxLen := by decide +kernel
    exact this k hk
  obtain ⟨v, ps, hr, hv⟩ := h.lookup dokeyed Try.underlying51 (dozero w) (zd := .held (.agg (doA fun _ => 0))) (zp := []) rfl (WideMaps.keyOf_string_mk Try.underlying9 hsz)
  have e := find_held doTab (dnm k) (.held (.agg (doA fun _ => 0)))
  have ek : (doTab.find? (fun x => x.1 == dnm k)).map (fun x => x.2) = kn (dnm k) := rfl
  rw [ek, kn_nm k hk] at e
  rw [show doD = DataW.map (doTab.map fun x => (Lit.string x.1, DataW.held (Value.agg x.2))) from rfl, show ((⟨(dnm k).toArray⟩ : ByteArray).data.toList) = dnm k by simp, e.1] at hv
  unfold vR at hv
  simp only [Option.some.injEq, Prod.mk.injEq, DataW.held.injEq] at hv
  rw [hv.1] at hr
  exact hr

theorem dofin_get {i : Nat} {y : DoK} (h : (List.finRange 16)[i]? = some y) : y.val = i := by
  obtain ⟨hi, rfl⟩ := List.getElem?_eq_some_iff.1 h
  rw [List.getElem_finRange]
  rfl
theorem dofin_split {k : Nat} {p0 : List DoK} {x : DoK} (h : (List.finRange 16).take k = p0 ++ [x]) : x.val = p0.length ∧ ∀ j, j < p0.length → ∃ y ∈ p0, y.val = j := by
  have hg : ∀ i, (p0 ++ [x])[i]? = if i < k then (List.finRange 16)[i]? else none := fun i => by rw [← h, List.getElem?_take]
  constructor
  · have e := hg p0.length
    rw [List.getElem?_append_right (Nat.le_refl _), Nat.sub_self] at e
    split at e
    · exact dofin_get e.symm
    · exact absurd e (by simp)
  · intro j hj
    have e := hg j
    rw [List.getElem?_append_left hj, List.getElem?_eq_getElem hj] at e
    split at e
    · exact ⟨p0[j], List.getElem_mem hj, dofin_get e.symm⟩
    · exact absurd e (by simp)
theorem owns_below {H : Type} {P : Program} {k : TypeId} {R : Value → Option (DataW H × List MemPlace)} {w w' : World} {B b n : Nat} {D : DataW H} (h : w.ownsMap P k R b n D) (hb : Below B w w') (hlt : b < B) : w'.ownsMap P k R b n D := by
  obtain ⟨es, clock, h1, h2⟩ := h
  exact ⟨es, clock, (hb.block b hlt).trans h1, h2⟩

/-- A range over the names: the law of the kit, at the slots of this function. -/
theorem dorange {g : Operand} {assign body : Code} {Q : Exit → Act → World → Prop} {a : Act} {w : World} {gf s1 s2 : Nat} {lb : Array Value}
    (hg : a.eval g = .func (.func gf) #[] lb) (eg : ∀ args w, (callFunc gf args).run Try.prog w = .ok (.enter gf args) w)
    {S Sp : List (DoK) → Prop} {N n₀ : Nat} (hseq : SeqStopsK Fence.wide 2 Try.prog gf lb (fun x : DoK => #[.string ⟨(dnm x).toArray⟩]) (Below n₀) S Sp N w) (hn₀ : n₀ ≤ w.heap.size)
    (I : List (DoK) → World → Prop) (Ix : Code → List (DoK) → World → Prop) (hI : OwnFrom w.heap.size I) (hIx : ∀ c, OwnFrom w.heap.size (Ix c)) (h0 : I [] w)
    (hassign : ∀ (l : Nat) (x : DoK) (W : World) (K : Act → World → Prop), K { tmps := (a.tmps.setIfInBounds s1 (.string ⟨(dnm x).toArray⟩)).setIfInBounds s2 (.string ⟨(dnm x).toArray⟩), defers := [] } W →
      assign.wpIn (Fence.wide.inRound l) 1 Try.prog (Exit.then K (fun _ _ _ => False)) { tmps := a.tmps.setIfInBounds s1 (.string ⟨(dnm x).toArray⟩), defers := [] } W)
    (hbody : ∀ (l : Nat) (pre : List (DoK)) (x : DoK) (W : World), I pre W → pre.length < N → body.wpIn (Fence.wide.inRound l) 1 Try.prog (ownPostK (Below n₀) I Ix (pre ++ [x]) W) { tmps := (a.tmps.setIfInBounds s1 (.string ⟨(dnm x).toArray⟩)).setIfInBounds s2 (.string ⟨(dnm x).toArray⟩), defers := [] } W)
    (hdone : ∀ (D : Nat) (xs : List (DoK)) (W : World), w.heap.size ≤ D → S xs → I xs W → W.heap[D]? = some (.deferred (some [])) → Q .normal { a with defers := { target := .collected D, args := #[] } :: a.defers } W)
    (hstop : ∀ (D : Nat) (c : Code) (pre : List (DoK)) (W : World), w.heap.size ≤ D → Sp pre → Ix c pre W → W.heap[D]? = some (.deferred (some [])) → c.wpIn Fence.wide 3 Try.prog Q { a with defers := { target := .collected D, args := #[] } :: a.defers } W) :
    (Code.rangeFunc g #[s1] assign body).wpIn Fence.wide 3 Try.prog Q a w :=
  wpIn_rangeFunc_ownF rfl (by decide) hg trivial eg hseq belowK_t (belowK_b hn₀) (Below.refl _ _) (fun _ => rfl) I Ix hI hIx h0
    (fun x => { tmps := (a.tmps.setIfInBounds s1 (.string ⟨(dnm x).toArray⟩)).setIfInBounds s2 (.string ⟨(dnm x).toArray⟩), defers := [] })
    (fun l x W K hK => by
      have e := hassign l x W K hK
      simpa using e) hbody hdone hstop

set_option maxHeartbeats 3200000 in
set_option maxRecDepth 100000 in
theorem doname_any (d : Nat → Int) (w : World) : Calls Try.prog 9 #[.agg (doA d)] w fun e w' => e = .returned (dNm d) ∧ Below w.heap.size w w' := by
  have HT := hid (fun V => dotable_any V)
  have HNN := hid (fun V => donames_any V)
  have HX := hid (dboxes3 w 29 9 4 (doA d) #[.string ⟨#[]⟩] #[.bool false])
  obtain ⟨X, hX⟩ : ∃ X, ((w.alloc (.cells (doA d) 29)).alloc (.cells #[.string ⟨#[]⟩] 9)).alloc (.cells #[.bool false] 4) = X := ⟨_, rfl⟩
  rw [hX] at HX
  rw [show doA d = #[.int .i8 (d 0), .int .i8 (d 1), .int .i8 (d 2), .int .i8 (d 3), .int .i8 (d 4), .int .i8 (d 5)] from rfl] at *
  refine (callsIn_wide (n := 3)).1 ?_
  refine callsIn_of_wp_marks Try.func9 rfl trivial ?_ rfl
  simp only [Try.ntmps9, List.size_toArray, List.length_cons, List.length_nil, Nat.reduceAdd, Nat.reduceSub, Array.replicate_succ, Array.replicate_zero, List.push_toArray, List.append_toArray, List.nil_append, List.cons_append]
  gi_wp2
  clear hX
  refine ⟨trivial, ?_⟩
  refine (callsIn_wide.2 (HT.out _)).mono ?_
  rintro e w1 ⟨rfl, ho, hb⟩
  have HA1 := hid (HX.out.1.later hb HX.out.1.lt)
  have HS1 := hid (HX.out.2.1.later hb HX.out.2.1.lt)
  have HL1 := hid (HX.out.2.2.1.later hb HX.out.2.2.1.lt)
  have HO1 := hid ho
  have HB1 := hid (b2 HX.out.2.2.2 hb)
  have hXX : Hid (X.heap.size < w1.heap.size) := ho.lt
  clear ho hb HX HT
  have HN := hid (boxes1 w1 51 #[.map (some X.heap.size)])
  obtain ⟨w2, hW⟩ : ∃ w2, w1.alloc (.cells #[.map (some X.heap.size)] 51) = w2 := ⟨_, rfl⟩
  rw [hW] at HN
  have HA2 := hid (HA1.out.later HN.out.2 HA1.out.lt)
  have HS2 := hid (HS1.out.later HN.out.2 HS1.out.lt)
  have HL2 := hid (HL1.out.later HN.out.2 HL1.out.lt)
  have HB2 := hid (b2 HB1.out HN.out.2)
  have HM2 := hid HN.out.1
  gi_wp2
  clear hW
  refine ⟨trivial, ?_⟩
  refine (callsIn_wide.2 (HNN.out _)).mono ?_
  rintro e w3 ⟨pb, g, cap, rfl, hpb, hgg, hgl, hpF, hcells, hb⟩
  have HA := hid (HA2.out.later hb HA2.out.lt)
  have HS := hid (HS2.out.later hb HS2.out.lt)
  have HL := hid (HL2.out.later hb HL2.out.lt)
  have HM := hid (HM2.out.later hb HM2.out.lt)
  have HB := hid (b2 HB2.out hb)
  have HB13 : Hid (Below w1.heap.size w1 w3) := b2 HN.out.2 hb
  have HPF := hid hpF
  have HCS := hid hcells
  clear HA1 HS1 HL1 HB1 HA2 HS2 HL2 HB2 HM2 HN hb hpF hcells HNN hpb hgg
  gi_wp2
  have hXw : Hid (w.heap.size + 1 + 1 < w3.heap.size) := HL.out.lt
  refine dorange (s1 := 8) (s2 := 5) (n₀ := w3.heap.size) rfl (enters_of Try.func23 (by kernel_rfl) rfl) (donames1_stops Fence.wide 2 trivial rfl (by decide) pb g cap w3.heap.size w3 HPF.out.lt hgl (Nat.le_refl _) (HPF.out.cell 0) HCS.out) (Nat.le_refl _)
    (fun pre W => (∀ y ∈ pre, dEq (drow y) d = false) ∧ Below w3.heap.size w3 W)
    (fun c pre W => c = .ret ∧ (∃ (p0 : List DoK) (x : DoK), pre = p0 ++ [x] ∧ (∀ y ∈ p0, dEq (drow y) d = false) ∧ dEq (drow x) d = true ∧ W.cell? ⟨w.heap.size + 1, 0, none⟩ = some (.string ⟨(dnm x).toArray⟩) ∧ W.cell? ⟨w.heap.size + 1 + 1, 0, none⟩ = some (.bool true)) ∧ Below w.heap.size w3 W)
    (OwnFrom.and (Own.from (fun s A B row hs hg hr => hs) _) (ownFrom_below (Nat.le_refl _) (Nat.le_refl _)))
    ?hIx ⟨fun y hy => absurd hy (List.not_mem_nil), Below.refl _ _⟩ ?assign ?body ?done ?stop
  case hIx =>
    intro c s A B row hs hg hr
    obtain ⟨h1, ⟨p0, x, h2, h3, h4, h5, h6⟩, h7⟩ := hs
    exact ⟨h1, ⟨p0, x, h2, h3, h4, cell_kept h5 hg (fun r e => (hr r e).2), cell_kept h6 hg (fun r e => (hr r e).2)⟩, ownFrom_below (β := Unit) HB.out.size HB.out.size () A B row h7 hg hr⟩
  case assign =>
    intro l x W K hK
    gi_wp2
    exact hK
  case body =>
    rintro l pre x W ⟨hp, hB⟩ hlen
    have HMW : Hid (W.ownsMap Try.prog 9 vR X.heap.size 16 doD) := owns_below (owns_below HO1.out HB13.out hXX.out) hB (Nat.lt_of_lt_of_le hXX.out HB13.out.size)
    have hl := doget W X.heap.size 16 x x.2 HMW.out
    have heq := doeq (drow x) d W
    unfold doA at hl heq
    have kM : W.cell? ⟨w1.heap.size, 0, none⟩ = some (.map (some X.heap.size)) := (HM.out.later hB HM.out.lt).cell 0
    obtain ⟨n0, n1, n2, n3, n4, n5⟩ := box6 HA.out hB
    have kS : W.cell? ⟨w.heap.size + 1, 0, none⟩ = some (.string ⟨#[]⟩) := (HS.out.later hB HS.out.lt).cell 0
    have fS := (HS.out.later hB HS.out.lt).free 0
    have kL : W.cell? ⟨w.heap.size + 1 + 1, 0, none⟩ = some (.bool false) := (HL.out.later hB HL.out.lt).cell 0
    have fL := (HL.out.later hB HL.out.lt).free 0
    have HBW := hid hB
    have HPP := hid hp
    have hW3 : w.heap.size ≤ w3.heap.size := HB.out.size
    have HPX : Hid (dEq (drow x) d = false → ∀ y ∈ pre ++ [x], dEq (drow y) d = false) := fun h y hy => by
      rcases List.mem_append.1 hy with g | g
      · exact hp y g
      · rw [List.mem_singleton.1 g]; exact h
    clear hp hB hlen HMW
    obtain ⟨E, hE⟩ : ∃ E, dEq (drow x) d = E := ⟨_, rfl⟩
    rw [hE] at heq
    have HE := hid hE
    clear hE
    generalize drow x 0 = r0 at hl heq
    generalize drow x 1 = r1 at hl heq
    generalize drow x 2 = r2 at hl heq
    generalize drow x 3 = r3 at hl heq
    generalize drow x 4 = r4 at hl heq
    generalize drow x 5 = r5 at hl heq
    cases E
    · gi_wp2
      exact ⟨KeepsOthers.refl _, Below.refl _ _, HPX.out HE.out, HBW.out⟩
    · gi_wp2
      exact ⟨(KeepsOthers.setCell _ _ _).trans (KeepsOthers.setCell _ _ _), rfl, ⟨pre, x, rfl, HPP.out, HE.out, (((HS.out.later HBW.out HS.out.lt).set 0 (.string ⟨(dnm x).toArray⟩)).off (show w.heap.size + 1 ≠ w.heap.size + 1 + 1 by omega) 0 (.bool true)).cell 0, (((HL.out.later HBW.out HL.out.lt).off (show w.heap.size + 1 + 1 ≠ w.heap.size + 1 by omega) 0 (.string ⟨(dnm x).toArray⟩)).set 0 (.bool true)).cell 0⟩, ((HBW.out.mono hW3).setCell (p := ⟨w.heap.size + 1, 0, none⟩) (Nat.le_succ _) _).setCell (p := ⟨w.heap.size + 1 + 1, 0, none⟩) (show w.heap.size ≤ w.heap.size + 1 + 1 by omega) _⟩
  case done =>
    rintro D xs W hD rfl ⟨hp, hB⟩ hK
    have HV : Hid (dNm d = .tuple #[.string ⟨#[]⟩, .bool false]) := by
      show _ = _
      unfold dNm
      rw [dfind_none (fun j hj => hp ⟨j, hj⟩ (List.mem_finRange _))]
    have kS : W.cell? ⟨w.heap.size + 1, 0, none⟩ = some (.string ⟨#[]⟩) := (HS.out.later hB HS.out.lt).cell 0
    have fS := (HS.out.later hB HS.out.lt).free 0
    have kL : W.cell? ⟨w.heap.size + 1 + 1, 0, none⟩ = some (.bool false) := (HL.out.later hB HL.out.lt).cell 0
    have fL := (HL.out.later hB HL.out.lt).free 0
    have HBW := hid (HB.out.trans (hB.mono HB.out.size))
    have HSW := hid ((HS.out.later hB HS.out.lt).set 0 (.string ⟨#[]⟩))
    have HLW := hid (HL.out.later hB HL.out.lt)
    have HKD := hid hK
    have hDw : w.heap.size ≤ D := Nat.le_trans HB.out.size hD
    clear hp hB hK hD
    gi_wp2
    have c1 := (HSW.out.off (show w.heap.size + 1 ≠ w.heap.size + 1 + 1 by omega) 0 (.bool false)).cell 0
    have c2 := ((HLW.out.off (show w.heap.size + 1 + 1 ≠ w.heap.size + 1 by omega) 0 (.string ⟨#[]⟩)).set 0 (.bool false)).cell 0
    have hk1 := ((KeepsOthers.setCell W ⟨w.heap.size + 1, 0, none⟩ (.string ⟨#[]⟩)).trans (KeepsOthers.setCell _ ⟨w.heap.size + 1 + 1, 0, none⟩ (.bool false))).same D _ HKD.out rfl
    have hbz := (HBW.out.setCell (p := ⟨w.heap.size + 1, 0, none⟩) (Nat.le_succ _) (.string ⟨#[]⟩)).setCell (p := ⟨w.heap.size + 1 + 1, 0, none⟩) (show w.heap.size ≤ w.heap.size + 1 + 1 by omega) (.bool false)
    refine ⟨by simp, .inl ⟨_, _, rfl, run_takeDeferred hk1, ?_⟩⟩
    have d1 := cell_kept c1 (grownBy_putObj' _ D (.deferred none)) (fun r e => by cases e; exact ⟨_, hk1, rfl⟩)
    have d2 := cell_kept c2 (grownBy_putObj' _ D (.deferred none)) (fun r e => by cases e; exact ⟨_, hk1, rfl⟩)
    refine ⟨.tuple #[.string ⟨#[]⟩, .bool false], ?_, by rw [HV.out], hbz.trans (belowK_b (w := w) (Nat.le_refl _) _ D _ (.deferred none) hDw hk1 rfl rfl)⟩
    simp [results, Try.results9, go_sem, d1, d2]
  case stop =>
    rintro D c pre W hD ⟨k, hk, rfl⟩ ⟨rfl, ⟨p0, x, hpx, hp0, hx, c1, c2⟩, hB⟩ hK
    obtain ⟨hxl, hjs⟩ := dofin_split hpx
    have HV : Hid (dNm d = .tuple #[.string ⟨(dnm x).toArray⟩, .bool true]) := by
      show _ = _
      have e := dfind_at (d := d) (L := x.val) x.2 (fun j hj => by
        obtain ⟨y, hy, hyj⟩ := hjs j (by omega)
        rw [← hyj]
        exact hp0 y hy) hx
      unfold dNm
      rw [e]
    have hDw : w.heap.size ≤ D := Nat.le_trans HB.out.size hD
    have HBW := hid (HB.out.trans hB)
    clear hpx hp0 hx hB hxl hjs hD
    gi_wp2
    refine ⟨by simp, .inl ⟨_, _, rfl, run_takeDeferred hK, ?_⟩⟩
    have d1 := cell_kept c1 (grownBy_putObj' _ D (.deferred none)) (fun r e => by cases e; exact ⟨_, hK, rfl⟩)
    have d2 := cell_kept c2 (grownBy_putObj' _ D (.deferred none)) (fun r e => by cases e; exact ⟨_, hK, rfl⟩)
    refine ⟨.tuple #[.string ⟨(dnm x).toArray⟩, .bool true], ?_, by rw [HV.out], HBW.out.trans (belowK_b (w := w) (Nat.le_refl _) _ D _ (.deferred none) hDw hK rfl rfl)⟩
    simp [results, Try.results9, go_sem, d1, d2]
end Go.Proofs.Ytophmdjdjjgokaa

/- The document's answers of layer 11: Names, rows, Name. -/
namespace Go.Proofs.Ytophmdjdjjgokaa
open Go.RowKit
set_option linter.unusedVariables false
set_option linter.unusedSimpArgs false

/-- The rows' cells, one behind the other. -/
def doR : Array Value := #[.int .i8 1, .int .i8 1, .int .i8 0, .int .i8 0, .int .i8 0, .int .i8 0, .int .i8 2, .int .i8 2, .int .i8 0, .int .i8 0, .int .i8 0, .int .i8 0, .int .i8 2, .int .i8 1, .int .i8 0, .int .i8 (-1), .int .i8 0, .int .i8 0, .int .i8 2, .int .i8 0, .int .i8 0, .int .i8 0, .int .i8 0, .int .i8 0, .int .i8 4, .int .i8 0, .int .i8 0, .int .i8 0, .int .i8 0, .int .i8 0, .int .i8 4, .int .i8 2, .int .i8 (-2), .int .i8 0, .int .i8 0, .int .i8 0, .int .i8 0, .int .i8 2, .int .i8 0, .int .i8 0, .int .i8 0, .int .i8 0, .int .i8 0, .int .i8 1, .int .i8 0, .int .i8 (-1), .int .i8 0, .int .i8 0, .int .i8 2, .int .i8 (-1), .int .i8 0, .int .i8 1, .int .i8 0, .int .i8 0, .int .i8 2, .int .i8 (-2), .int .i8 0, .int .i8 2, .int .i8 0, .int .i8 0, .int .i8 1, .int .i8 (-1), .int .i8 0, .int .i8 0, .int .i8 0, .int .i8 0, .int .i8 1, .int .i8 1, .int .i8 (-2), .int .i8 0, .int .i8 0, .int .i8 0, .int .i8 1, .int .i8 (-2), .int .i8 0, .int .i8 1, .int .i8 0, .int .i8 0, .int .i8 2, .int .i8 2, .int .i8 (-2), .int .i8 0, .int .i8 0, .int .i8 0, .int .i8 0, .int .i8 0, .int .i8 1, .int .i8 0, .int .i8 0, .int .i8 0, .int .i8 0, .int .i8 0, .int .i8 2, .int .i8 0, .int .i8 0, .int .i8 0]
/-- The names' cells. -/
def doNV : Array Value := #[.string { data := #[75, 49] }, .string { data := #[75, 50] }, .string { data := #[76, 50] }, .string { data := #[77, 50] }, .string { data := #[77, 52] }, .string { data := #[77, 83, 52] }, .string { data := #[77, 102] }, .string { data := #[77, 109] }, .string { data := #[78, 50] }, .string { data := #[78, 50, 120] }, .string { data := #[79, 49] }, .string { data := #[80, 49] }, .string { data := #[81, 49] }, .string { data := #[83, 50] }, .string { data := #[83, 97] }, .string { data := #[83, 115, 97] }]
theorem doR_at (k : Nat) (hk : k < 16) : doR[k * 6]? = some (.int .i8 (drow k 0)) ∧ doR[k * 6 + 1]? = some (.int .i8 (drow k 1)) ∧ doR[k * 6 + 2]? = some (.int .i8 (drow k 2)) ∧ doR[k * 6 + 3]? = some (.int .i8 (drow k 3)) ∧ doR[k * 6 + 4]? = some (.int .i8 (drow k 4)) ∧ doR[k * 6 + 5]? = some (.int .i8 (drow k 5)) := by
  rcases (show k = 0 ∨ k = 1 ∨ k = 2 ∨ k = 3 ∨ k = 4 ∨ k = 5 ∨ k = 6 ∨ k = 7 ∨ k = 8 ∨ k = 9 ∨ k = 10 ∨ k = 11 ∨ k = 12 ∨ k = 13 ∨ k = 14 ∨ k = 15 by omega) with rfl | rfl | rfl | rfl | rfl | rfl | rfl | rfl | rfl | rfl | rfl | rfl | rfl | rfl | rfl | rfl <;> exact ⟨rfl, rfl, rfl, rfl, rfl, rfl⟩
theorem doNV_at (k : Nat) (hk : k < 16) : doNV[k]? = some (.string ⟨(dnm k).toArray⟩) := by
  rcases (show k = 0 ∨ k = 1 ∨ k = 2 ∨ k = 3 ∨ k = 4 ∨ k = 5 ∨ k = 6 ∨ k = 7 ∨ k = 8 ∨ k = 9 ∨ k = 10 ∨ k = 11 ∨ k = 12 ∨ k = 13 ∨ k = 14 ∨ k = 15 by omega) with rfl | rfl | rfl | rfl | rfl | rfl | rfl | rfl | rfl | rfl | rfl | rfl | rfl | rfl | rfl | rfl <;> rfl

set_option maxHeartbeats 1600000 in
set_option maxRecDepth 100000 in
theorem dprows_any (w : World) : Calls Try.prog 24 #[] w fun e w' => ∃ g, e = .returned (.slice (some ⟨g, 0, none⟩) 16 16) ∧ w.heap.size ≤ g ∧ FBox w' g 29 doR ∧ Below w.heap.size w w' := by
  go_enter Try.func24, Try.ntmps24
  go_wp2_with fail
  go_ret
  exact ⟨_, rfl, Nat.le_refl _, FBox.made _ _ _, (Below.refl _ _).alloc (Nat.le_refl _) _⟩
set_option maxHeartbeats 1600000 in
set_option maxRecDepth 100000 in
theorem dpnames_any (w : World) : Calls Try.prog 5 #[] w fun e w' => ∃ g, e = .returned (.slice (some ⟨g, 0, none⟩) 16 16) ∧ w.heap.size ≤ g ∧ FBox w' g 9 doNV ∧ Below w.heap.size w w' := by
  go_enter Try.func5, Try.ntmps5
  go_wp2_with fail
  go_ret
  exact ⟨_, rfl, Nat.le_refl _, FBox.made _ _ _, (Below.refl _ _).alloc (Nat.le_refl _) _⟩
theorem dpidxr (g k : Nat) (w : World) (hk : k < 16) : (Instr.indexAt 55 (.slice (some ⟨g, 0, none⟩) 16 16) (.int .i64 (k : Int))).run Try.prog w = .ok (.pointer (some ⟨g, k * 6, none⟩)) w := by
  rcases (show k = 0 ∨ k = 1 ∨ k = 2 ∨ k = 3 ∨ k = 4 ∨ k = 5 ∨ k = 6 ∨ k = 7 ∨ k = 8 ∨ k = 9 ∨ k = 10 ∨ k = 11 ∨ k = 12 ∨ k = 13 ∨ k = 14 ∨ k = 15 by omega) with rfl | rfl | rfl | rfl | rfl | rfl | rfl | rfl | rfl | rfl | rfl | rfl | rfl | rfl | rfl | rfl <;> kernel_rfl
theorem dpidxn (g k : Nat) (w : World) (hk : k < 16) : (Instr.indexAt 22 (.slice (some ⟨g, 0, none⟩) 16 16) (.int .i64 (k : Int))).run Try.prog w = .ok (.pointer (some ⟨g, k, none⟩)) w := by
  rcases (show k = 0 ∨ k = 1 ∨ k = 2 ∨ k = 3 ∨ k = 4 ∨ k = 5 ∨ k = 6 ∨ k = 7 ∨ k = 8 ∨ k = 9 ∨ k = 10 ∨ k = 11 ∨ k = 12 ∨ k = 13 ∨ k = 14 ∨ k = 15 by omega) with rfl | rfl | rfl | rfl | rfl | rfl | rfl | rfl | rfl | rfl | rfl | rfl | rfl | rfl | rfl | rfl <;> kernel_rfl
theorem drewN_size (w : World) (n : Nat) : (w.drewN n).heap.size = w.heap.size := by
  induction n generalizing w with
  | zero => rfl
  | succ n ih => exact ih w.drew

end Go.Proofs.Ytophmdjdjjgokaa

/- The document's answers of layer 11: Known, of every name. -/
namespace Go.Proofs.Ytophmdjdjjgokaa
open Go.RowKit
set_option linter.unusedVariables false
set_option linter.unusedSimpArgs false

/-- Which of the table's names this is, from the name k on. -/
def kfind (l : List UInt8) : Nat → Nat → Option Nat
  | k, 0 => none
  | k, f + 1 => if dnm k = l then some k else kfind l (k + 1) f
theorem doTab_at (k : Nat) (hk : k < 16) : doTab[k]? = some (dnm k, doA (drow k)) := by
  rcases (show k = 0 ∨ k = 1 ∨ k = 2 ∨ k = 3 ∨ k = 4 ∨ k = 5 ∨ k = 6 ∨ k = 7 ∨ k = 8 ∨ k = 9 ∨ k = 10 ∨ k = 11 ∨ k = 12 ∨ k = 13 ∨ k = 14 ∨ k = 15 by omega) with rfl | rfl | rfl | rfl | rfl | rfl | rfl | rfl | rfl | rfl | rfl | rfl | rfl | rfl | rfl | rfl <;> rfl
theorem kn_find (l : List UInt8) : ∀ (f k : Nat), k + f = 16 → ((doTab.drop k).find? (fun x => x.1 == l)).map (fun x => x.2) = (kfind l k f).map (fun k => doA (drow k))
  | 0, k, h => by
    obtain rfl : k = 16 := by omega
    rfl
  | f + 1, k, h => by
    have e := kn_find l f (k + 1) (by omega)
    have hk : k < doTab.length := by show k < 16; omega
    have hd : doTab.drop k = (dnm k, doA (drow k)) :: doTab.drop (k + 1) := by
      rw [List.drop_eq_getElem_cons hk]
      congr 1
      have g := doTab_at k (by omega)
      rw [List.getElem?_eq_getElem hk] at g
      exact Option.some.inj g
    rw [hd, List.find?_cons]
    have u : kfind l k (f + 1) = if dnm k = l then some k else kfind l (k + 1) f := rfl
    rw [u]
    by_cases hl : dnm k = l
    · have b : (dnm k == l) = true := by simp [hl]
      simp only [b, if_pos hl]
      rfl
    · have b : (dnm k == l) = false := by simp [hl]
      simp only [b, if_neg hl]
      exact e
theorem knV_find (l : List UInt8) : knV l = match kfind l 0 16 with | some k => .tuple #[.agg (doA (drow k)), .int .i64 0] | none => .tuple #[.agg (doA fun _ => 0), .int .i64 6] := by
  have e := kn_find l 16 0 rfl
  rw [List.drop_zero] at e
  unfold knV
  rw [show kn l = (kfind l 0 16).map (fun k => doA (drow k)) from e]
  cases kfind l 0 16 <;> rfl
theorem kfind_no {l : List UInt8} : ∀ (m k f : Nat), (∀ j, k ≤ j → j < k + m → dnm j ≠ l) → m ≤ f → kfind l k f = kfind l (k + m) (f - m)
  | 0, k, f, _, _ => rfl
  | m + 1, k, 0, _, h => absurd h (by omega)
  | m + 1, k, f + 1, h, hf => by
    have e := kfind_no m (k + 1) f (fun j h1 h2 => h j (by omega) (by omega)) (by omega)
    have u : kfind l k (f + 1) = if dnm k = l then some k else kfind l (k + 1) f := rfl
    rw [u, if_neg (h k (Nat.le_refl _) (by omega)), e, show k + 1 + m = k + (m + 1) by omega, show f - m = f + 1 - (m + 1) by omega]
theorem kfind_at {l : List UInt8} {L : Nat} (hL : L < 16) (h : ∀ j, j < L → dnm j ≠ l) (hd : dnm L = l) : kfind l 0 16 = some L := by
  rw [kfind_no L 0 16 (fun j _ h2 => h j (by omega)) (by omega), Nat.zero_add, show 16 - L = (15 - L) + 1 by omega]
  unfold kfind
  rw [if_pos hd]
theorem kfind_none {l : List UInt8} (h : ∀ j, j < 16 → dnm j ≠ l) : kfind l 0 16 = none := by
  rw [kfind_no 16 0 16 (fun j _ h2 => h j (by omega)) (by omega)]
  rfl

set_option maxHeartbeats 1600000 in
set_option maxRecDepth 100000 in
theorem dpknown_any (s : ByteArray) (w : World) : Calls Try.prog 8 #[.string s] w fun e w' => e = .returned (knV s.data.toList) ∧ Below w.heap.size w w' := by
  have HR := hid (fun V => dprows_any V)
  have HN := hid (fun V => dpnames_any V)
  have HX := hid (boxes1 w 29 #[.int .i8 0, .int .i8 0, .int .i8 0, .int .i8 0, .int .i8 0, .int .i8 0])
  obtain ⟨X, hX⟩ : ∃ X, w.alloc (.cells #[.int .i8 0, .int .i8 0, .int .i8 0, .int .i8 0, .int .i8 0, .int .i8 0] 29) = X := ⟨_, rfl⟩
  rw [hX] at HX
  have HVN : Hid ((∀ j, j < 16 → dnm j ≠ s.data.toList) → knV s.data.toList = .tuple #[.agg (doA fun _ => 0), .int .i64 6]) := fun h => by rw [knV_find, kfind_none h]
  have HVY : Hid (∀ k, k < 16 → (∀ j, j < k → dnm j ≠ s.data.toList) → dnm k = s.data.toList → knV s.data.toList = .tuple #[.agg (doA (drow k)), .int .i64 0]) := fun k hk h g => by rw [knV_find, kfind_at hk h g]
  go_enter Try.func8, Try.ntmps8
  go_wp2_with fail
  clear hX
  refine Calls.mono (HN.out _) ?_
  rintro e w1 ⟨g, rfl, hg, hF, hb⟩
  have HZ1 := hid (HX.out.1.later hb HX.out.1.lt)
  have HB1 := hid (b2 HX.out.2 hb)
  have HF1 := hid hF
  clear hb HX hF HN
  go_wp2_with fail
  go_loopw [5] (fun x wr => ∃ k : Nat, k ≤ 16 ∧ x = .int .i64 (k : Int) ∧ Hid (∀ j, j < k → dnm j ≠ s.data.toList) ∧ wr = w1) (fun x _ => 16 - (intOf x).toNat)
  case atStart => exact ⟨0, by decide, rfl, fun j hj => absurd hj (Nat.not_lt_zero _), rfl⟩
  case round =>
    obtain ⟨k, hk, rfl, HJ, rfl⟩ := hrel
    by_cases hlt : k < 16
    · have hi := fun V => dpidxn g k V hlt
      have hc : wr.cell? ⟨g, k, none⟩ = some (.string ⟨(dnm k).toArray⟩) := (HF1.out.cell k).trans (doNV_at k hlt)
      by_cases hd : dnm k = s.data.toList
      · have HV := hid (HVY.out k hlt HJ.out hd)
        have hn : (⟨(dnm k).toArray⟩ : ByteArray) = s := by rw [hd]
        rw [hn] at hc
        have h3 : (s.toList == s.toList) = true := by simp
        have hir := fun V g => dpidxr g k V hlt
        have HRA := hid (doR_at k hlt)
        have HE : Hid (doA (drow k) = #[.int .i8 (drow k 0), .int .i8 (drow k 1), .int .i8 (drow k 2), .int .i8 (drow k 3), .int .i8 (drow k 4), .int .i8 (drow k 5)]) := rfl
        rw [HE.out] at HV
        clear HVN HVY hd hn HJ HE
        generalize drow k 0 = z0 at *
        generalize drow k 1 = z1 at *
        generalize drow k 2 = z2 at *
        generalize drow k 3 = z3 at *
        generalize drow k 4 = z4 at *
        generalize drow k 5 = z5 at *
        go_wp2_with fail
        refine Calls.mono (HR.out _) ?_
        rintro e w2 ⟨g2, rfl, hg2, hF2, hb2⟩
        have hir2 := fun V => hir V g2
        obtain ⟨q0, q1, q2, q3, q4, q5⟩ := HRA.out
        have r0 : w2.cell? ⟨g2, k * 6, none⟩ = some (.int .i8 z0) := (hF2.cell _).trans q0
        have r1 : w2.cell? ⟨g2, k * 6 + 1, none⟩ = some (.int .i8 z1) := (hF2.cell _).trans q1
        have r2 : w2.cell? ⟨g2, k * 6 + 2, none⟩ = some (.int .i8 z2) := (hF2.cell _).trans q2
        have r3 : w2.cell? ⟨g2, k * 6 + 3, none⟩ = some (.int .i8 z3) := (hF2.cell _).trans q3
        have r4 : w2.cell? ⟨g2, k * 6 + 4, none⟩ = some (.int .i8 z4) := (hF2.cell _).trans q4
        have r5 : w2.cell? ⟨g2, k * 6 + 5, none⟩ = some (.int .i8 z5) := (hF2.cell _).trans q5
        have HZ2 := hid (HZ1.out.later hb2 HZ1.out.lt)
        have HB2 := hid (HB1.out.trans (hb2.mono HB1.out.size))
        clear q0 q1 q2 q3 q4 q5 hF2 hb2 hir HRA hc hi HR HZ1 HB1 HF1
        generalize k * 6 = o at *
        obtain ⟨m0, m1, m2, m3, m4, m5⟩ := box6 HZ2.out (Below.refl _ _)
        obtain ⟨f0, f1, f2, f3, f4, f5⟩ := free6 HZ2.out (Below.refl _ _)
        have HRR := hid (HZ2.out.put6 (.int .i8 z0) (.int .i8 z1) (.int .i8 z2) (.int .i8 z3) (.int .i8 z4) (.int .i8 z5))
        have HBR := hid (dput6 HB2.out w.heap.size (Nat.le_refl _) (.int .i8 z0) (.int .i8 z1) (.int .i8 z2) (.int .i8 z3) (.int .i8 z4) (.int .i8 z5))
        obtain ⟨W, hW⟩ : ∃ W, ((((((w2.setCell ⟨w.heap.size, 0, none⟩ (.int .i8 z0)).setCell ⟨w.heap.size, 1, none⟩ (.int .i8 z1)).setCell ⟨w.heap.size, 2, none⟩ (.int .i8 z2)).setCell ⟨w.heap.size, 3, none⟩ (.int .i8 z3)).setCell ⟨w.heap.size, 4, none⟩ (.int .i8 z4)).setCell ⟨w.heap.size, 5, none⟩ (.int .i8 z5)) = W := ⟨_, rfl⟩
        rw [hW] at HRR HBR
        clear HZ2 HB2
        go_wp2_with fail
        clear hW m0 m1 m2 m3 m4 m5 f0 f1 f2 f3 f4 f5 r0 r1 r2 r3 r4 r5
        obtain ⟨n0, n1, n2, n3, n4, n5⟩ := box6 HRR.out (Below.refl _ _)
        refine bodyPost_ret (v := Value.tuple #[.agg #[.int .i8 z0, .int .i8 z1, .int .i8 z2, .int .i8 z3, .int .i8 z4, .int .i8 z5], .int .i64 0]) (by simp [results, Try.results8, go_sem, n0, n1, n2, n3, n4, n5]) rfl ?_
        exact ⟨by rw [HV.out], HBR.out⟩
      · have h3 : ((⟨(dnm k).toArray⟩ : ByteArray).toList == s.toList) = false := agstr_other (fun e => hd (by rw [← e]))
        have HJ1 : Hid (∀ j, j < k + 1 → dnm j ≠ s.data.toList) := fun j hj => by
          rcases Nat.lt_succ_iff_lt_or_eq.1 hj with e | e
          · exact HJ.out j e
          · rw [e]; exact hd
        obtain ⟨T, hT⟩ : ∃ T, (⟨(dnm k).toArray⟩ : ByteArray) = T := ⟨_, rfl⟩
        rw [hT] at hc h3
        clear hT hd HVN HVY
        go_wp2_with fail
        go_roundw
        case rel => exact ⟨k + 1, by omega, by go_num, HJ1.out, by first | trivial | rfl⟩
        case measure => simp [intOf]; omega
    · obtain rfl : k = 16 := by omega
      have HV := hid (HVN.out HJ.out)
      clear HVN HVY HJ
      obtain ⟨m0, m1, m2, m3, m4, m5⟩ := box6 HZ1.out (Below.refl _ _)
      obtain ⟨f0, f1, f2, f3, f4, f5⟩ := free6 HZ1.out (Below.refl _ _)
      have HRR := hid (HZ1.out.put6 (.int .i8 0) (.int .i8 0) (.int .i8 0) (.int .i8 0) (.int .i8 0) (.int .i8 0))
      have HBR := hid (dput6 HB1.out w.heap.size (Nat.le_refl _) (.int .i8 0) (.int .i8 0) (.int .i8 0) (.int .i8 0) (.int .i8 0) (.int .i8 0))
      obtain ⟨W, hW⟩ : ∃ W, ((((((wr.setCell ⟨w.heap.size, 0, none⟩ (.int .i8 0)).setCell ⟨w.heap.size, 1, none⟩ (.int .i8 0)).setCell ⟨w.heap.size, 2, none⟩ (.int .i8 0)).setCell ⟨w.heap.size, 3, none⟩ (.int .i8 0)).setCell ⟨w.heap.size, 4, none⟩ (.int .i8 0)).setCell ⟨w.heap.size, 5, none⟩ (.int .i8 0)) = W := ⟨_, rfl⟩
      rw [hW] at HRR HBR
      go_wp2_with fail
      clear hW m0 m1 m2 m3 m4 m5 f0 f1 f2 f3 f4 f5
      obtain ⟨n0, n1, n2, n3, n4, n5⟩ := box6 HRR.out (Below.refl _ _)
      refine bodyPost_ret (v := Value.tuple #[.agg #[.int .i8 0, .int .i8 0, .int .i8 0, .int .i8 0, .int .i8 0, .int .i8 0], .int .i64 6]) (by simp [results, Try.results8, go_sem, n0, n1, n2, n3, n4, n5]) rfl ?_
      exact ⟨by rw [HV.out]; rfl, HBR.out⟩
end Go.Proofs.Ytophmdjdjjgokaa

/- The law DoodsonTexts answers true, and writes nothing that was there: of any name, any text, any number. -/
namespace Go.Proofs.Ytophmdjdjjgokaa
open Go.RowKit Go.Shelf
set_option linter.unusedVariables false
set_option linter.unusedSimpArgs false
attribute [local go_sem] Oper.semAt_some

set_option maxHeartbeats 800000 in
set_option maxRecDepth 100000 in
theorem dopick_any (x : Int) (w : World) (h : I64 x) : Calls Try.prog 19 #[.int .i64 x, .int .i64 16] w fun e w' => (∃ n : Nat, n < 16 ∧ e = .returned (.int .i64 (n : Int))) ∧ w' = w := by
  obtain ⟨h0, h1⟩ := h
  have a := Int.emod_nonneg x (show (16 : Int) ≠ 0 by decide)
  have b := Int.emod_lt_of_pos x (show (0 : Int) < 16 by decide)
  have b1 : Int.tmod x 16 = x % 16 ∨ (Int.tmod x 16 = x % 16 - 16) := by
    rw [Int.tmod_eq_emod]
    split <;> omega
  obtain ⟨r, hr⟩ : ∃ r, Int.tmod x 16 = r := ⟨_, rfl⟩
  rw [hr] at b1
  have r0 : -16 ≤ r ∧ r < 16 := by omega
  have e1 : IntKind.i64.wrap r = r := by rw [IntKind.wrap_i64]; omega
  have e2 : IntKind.i64.wrap (r + 16) = r + 16 := by rw [IntKind.wrap_i64]; omega
  clear a b b1
  go_enter Try.func19, Try.ntmps19
  by_cases hn : r < 0
  · obtain ⟨n, hn2⟩ := Int.eq_ofNat_of_zero_le (show 0 ≤ r + 16 by omega)
    go_wp2_with fail
    go_ret
    exact ⟨⟨n, by omega, by first | rw [hn2] | rfl⟩, rfl⟩
  · obtain ⟨n, hn2⟩ := Int.eq_ofNat_of_zero_le (show 0 ≤ r by omega)
    go_wp2_with fail
    go_ret
    exact ⟨⟨n, by omega, by first | rw [hn2] | rfl⟩, rfl⟩

/-- What is read has that text. -/
theorem dgd_text {s : ByteArray} (h : dgd s) : dOK (dnum s) ∧ (⟨(dtxt (dnum s)).toArray⟩ : ByteArray) = s := by
  obtain ⟨h7, hp, hd⟩ := h
  refine ⟨fun k hk => by have := hd k hk; unfold dnum; omega, ?_⟩
  have e := seven s h7
  rw [hp] at e
  have hB : ∀ k, k < 6 → dB (dnum s k) = dcc s k := fun k hk => by
    apply UInt8.toNat_inj.1
    have g := dB_nat (x := dnum s k) (by have := hd k hk; unfold dnum; omega)
    unfold dnum at g ⊢
    omega
  unfold dtxt
  rw [hB 0 (by decide), hB 1 (by decide), hB 2 (by decide), hB 3 (by decide), hB 4 (by decide), hB 5 (by decide)]
  exact e.symm
theorem dnm_inj : ∀ i j : DoK, dnm i = dnm j → i = j := by decide +kernel

/-- What is known of the world while the law goes over the names. -/
structure TxK (w V : World) (n pw gw pn pb g cap : Nat) : Prop where
  rs : FBox V w.heap.size 4 #[.bool false]
  wt : FBox V pw 22 #[.slice (some ⟨gw, 0, none⟩) 16 16]
  wc : FBox V gw 9 doNV
  nn : FBox V pn 3 #[.int .i64 (n : Int)]
  pB : FBox V pb 22 #[.slice (some ⟨g, 0, none⟩) 16 cap]
  gl : g < V.heap.size
  gc : ∀ j, j < 16 → V.cell? ⟨g, j, none⟩ = some (.string ⟨(dnm j).toArray⟩)
  bl : Below w.heap.size w V
theorem TxK.later {w V V' : World} {n pw gw pn pb g cap : Nat} (h : TxK w V n pw gw pn pb g cap) (hb : Below V.heap.size V V') : TxK w V' n pw gw pn pb g cap :=
  ⟨h.rs.later hb h.rs.lt, h.wt.later hb h.wt.lt, h.wc.later hb h.wc.lt, h.nn.later hb h.nn.lt, h.pB.later hb h.pB.lt, Nat.lt_of_lt_of_le h.gl hb.size, fun j hj => (hb.cell (p := ⟨g, j, none⟩) h.gl).trans (h.gc j hj), b2 h.bl hb⟩
theorem dodefer_later {V V' : World} {D : Nat} (h : V.heap[D]? = some (.deferred (some []))) (hb : Below V.heap.size V V') : V'.heap[D]? = some (.deferred (some [])) :=
  (hb.block D (Array.getElem?_eq_some_iff.1 h).1).trans h

theorem dqeq_self (d0 d1 d2 d3 d4 d5 : Int) (V : World) : (Op.equalIn 10000 29 (.agg #[.int .i8 d0, .int .i8 d1, .int .i8 d2, .int .i8 d3, .int .i8 d4, .int .i8 d5]) (.agg #[.int .i8 d0, .int .i8 d1, .int .i8 d2, .int .i8 d3, .int .i8 d4, .int .i8 d5])).run Try.prog V = .ok true V := by
  have e := doeq (fun k => match k with | 0 => d0 | 1 => d1 | 2 => d2 | 3 => d3 | 4 => d4 | _ => d5) (fun k => match k with | 0 => d0 | 1 => d1 | 2 => d2 | 3 => d3 | 4 => d4 | _ => d5) V
  rw [dEq_self] at e
  exact e

set_option maxHeartbeats 6400000 in
set_option maxRecDepth 100000 in
theorem dotexts_in (nm s : ByteArray) (stop : Int) (w : World) (hst : I64 stop) (k0 k1 k2 k3 k4 k5 kE c0 c1 c2 c3 c4 c5 cE : Int)
    (HK1 : Hid (∀ V, Calls Try.prog 7 #[.string nm] V fun e w' => e = .returned (.tuple #[.agg #[.int .i8 k0, .int .i8 k1, .int .i8 k2, .int .i8 k3, .int .i8 k4, .int .i8 k5], .int .i64 kE]) ∧ Below V.heap.size V w'))
    (HK2 : Hid (∀ V, Calls Try.prog 8 #[.string nm] V fun e w' => e = .returned (.tuple #[.agg #[.int .i8 k0, .int .i8 k1, .int .i8 k2, .int .i8 k3, .int .i8 k4, .int .i8 k5], .int .i64 kE]) ∧ Below V.heap.size V w'))
    (HP1 : Hid (∀ V, Calls Try.prog 13 #[.string s] V fun e w' => e = .returned (.tuple #[.agg #[.int .i8 c0, .int .i8 c1, .int .i8 c2, .int .i8 c3, .int .i8 c4, .int .i8 c5], .int .i64 cE]) ∧ Below V.heap.size V w'))
    (HP2 : Hid (∀ V, Calls Try.prog 18 #[.string s] V fun e w' => e = .returned (.tuple #[.agg #[.int .i8 c0, .int .i8 c1, .int .i8 c2, .int .i8 c3, .int .i8 c4, .int .i8 c5], .int .i64 cE]) ∧ Below V.heap.size V w'))
    (HC : Hid (cE ≠ 0 ∨ cE = 0 ∧ ∀ V, Calls Try.prog 14 #[.agg #[.int .i8 c0, .int .i8 c1, .int .i8 c2, .int .i8 c3, .int .i8 c4, .int .i8 c5]] V fun e w' => e = .returned (.tuple #[.string s, .int .i64 0]) ∧ Below V.heap.size V w')) :
    Calls Try.prog 4 #[.string nm, .string s, .int .i64 stop] w fun e w' => e = .returned (.bool true) ∧ Below w.heap.size w w' := by
  have HL := hid (fun V => dolives_any V)
  have HW := hid (fun V => dpnames_any V)
  have HPK := hid (fun V => dopick_any stop V hst)
  have HNN := hid (fun V => donames_any V)
  have heq : ∀ (d0 d1 d2 d3 d4 d5 : Int) (V : World), (Op.equalIn 10000 29 (.agg #[.int .i8 d0, .int .i8 d1, .int .i8 d2, .int .i8 d3, .int .i8 d4, .int .i8 d5]) (.agg #[.int .i8 d0, .int .i8 d1, .int .i8 d2, .int .i8 d3, .int .i8 d4, .int .i8 d5])).run Try.prog V = .ok true V := dqeq_self
  clear hst
  have HX := hid (boxes1 w 4 #[.bool false])
  obtain ⟨X, hX⟩ : ∃ X, w.alloc (.cells #[.bool false] 4) = X := ⟨_, rfl⟩
  rw [hX] at HX
  have HBR := hid HX.out.1
  have HB := hid HX.out.2
  clear HX
  refine (callsIn_wide (n := 3)).1 ?_
  refine callsIn_of_wp_marks Try.func4 rfl trivial ?_ rfl
  simp only [Try.ntmps4, List.size_toArray, List.length_cons, List.length_nil, Nat.reduceAdd, Nat.reduceSub, Array.replicate_succ, Array.replicate_zero, List.push_toArray, List.append_toArray, List.nil_append, List.cons_append]
  gi_wp2
  clear hX
  refine ⟨trivial, ?_⟩
  refine (callsIn_wide.2 (HK1.out _)).mono ?_
  rintro e u1_ ⟨rfl, hb⟩
  replace HBR := hid (HBR.out.later hb HBR.out.lt)
  replace HB := hid (b2 HB.out hb)
  clear hb
  have HN := hid (boxes1 u1_ 29 #[.int .i8 k0, .int .i8 k1, .int .i8 k2, .int .i8 k3, .int .i8 k4, .int .i8 k5])
  obtain ⟨u2_, hW⟩ : ∃ z, u1_.alloc (.cells #[.int .i8 k0, .int .i8 k1, .int .i8 k2, .int .i8 k3, .int .i8 k4, .int .i8 k5] 29) = z := ⟨_, rfl⟩
  rw [hW] at HN
  replace HBR := hid (HBR.out.later HN.out.2 HBR.out.lt)
  replace HB := hid (b2 HB.out HN.out.2)
  have HBA := hid HN.out.1
  clear HN
  gi_wp2
  clear hW
  refine ⟨trivial, ?_⟩
  refine (callsIn_wide.2 (HK2.out _)).mono ?_
  rintro e u3_ ⟨rfl, hb⟩
  replace HBR := hid (HBR.out.later hb HBR.out.lt)
  replace HBA := hid (HBA.out.later hb HBA.out.lt)
  replace HB := hid (b2 HB.out hb)
  clear hb
  have HN := hid (boxes1 u3_ 29 #[.int .i8 k0, .int .i8 k1, .int .i8 k2, .int .i8 k3, .int .i8 k4, .int .i8 k5])
  obtain ⟨u4_, hW⟩ : ∃ z, u3_.alloc (.cells #[.int .i8 k0, .int .i8 k1, .int .i8 k2, .int .i8 k3, .int .i8 k4, .int .i8 k5] 29) = z := ⟨_, rfl⟩
  rw [hW] at HN
  replace HBR := hid (HBR.out.later HN.out.2 HBR.out.lt)
  replace HBA := hid (HBA.out.later HN.out.2 HBA.out.lt)
  replace HB := hid (b2 HB.out HN.out.2)
  have HBB := hid HN.out.1
  clear HN
  gi_wp2
  clear hW
  refine ⟨trivial, ?_⟩
  refine (callsIn_wide.2 (HP1.out _)).mono ?_
  rintro e u5_ ⟨rfl, hb⟩
  replace HBR := hid (HBR.out.later hb HBR.out.lt)
  replace HBA := hid (HBA.out.later hb HBA.out.lt)
  replace HBB := hid (HBB.out.later hb HBB.out.lt)
  replace HB := hid (b2 HB.out hb)
  clear hb
  have HN := hid (boxes1 u5_ 29 #[.int .i8 c0, .int .i8 c1, .int .i8 c2, .int .i8 c3, .int .i8 c4, .int .i8 c5])
  obtain ⟨u6_, hW⟩ : ∃ z, u5_.alloc (.cells #[.int .i8 c0, .int .i8 c1, .int .i8 c2, .int .i8 c3, .int .i8 c4, .int .i8 c5] 29) = z := ⟨_, rfl⟩
  rw [hW] at HN
  replace HBR := hid (HBR.out.later HN.out.2 HBR.out.lt)
  replace HBA := hid (HBA.out.later HN.out.2 HBA.out.lt)
  replace HBB := hid (HBB.out.later HN.out.2 HBB.out.lt)
  replace HB := hid (b2 HB.out HN.out.2)
  have HBC := hid HN.out.1
  clear HN
  gi_wp2
  clear hW
  refine ⟨trivial, ?_⟩
  refine (callsIn_wide.2 (HP2.out _)).mono ?_
  rintro e u7_ ⟨rfl, hb⟩
  replace HBR := hid (HBR.out.later hb HBR.out.lt)
  replace HBA := hid (HBA.out.later hb HBA.out.lt)
  replace HBB := hid (HBB.out.later hb HBB.out.lt)
  replace HBC := hid (HBC.out.later hb HBC.out.lt)
  replace HB := hid (b2 HB.out hb)
  clear hb
  have HN := hid (boxes1 u7_ 29 #[.int .i8 c0, .int .i8 c1, .int .i8 c2, .int .i8 c3, .int .i8 c4, .int .i8 c5])
  obtain ⟨u8_, hW⟩ : ∃ z, u7_.alloc (.cells #[.int .i8 c0, .int .i8 c1, .int .i8 c2, .int .i8 c3, .int .i8 c4, .int .i8 c5] 29) = z := ⟨_, rfl⟩
  rw [hW] at HN
  replace HBR := hid (HBR.out.later HN.out.2 HBR.out.lt)
  replace HBA := hid (HBA.out.later HN.out.2 HBA.out.lt)
  replace HBB := hid (HBB.out.later HN.out.2 HBB.out.lt)
  replace HBC := hid (HBC.out.later HN.out.2 HBC.out.lt)
  replace HB := hid (b2 HB.out HN.out.2)
  have HBD := hid HN.out.1
  clear HN
  gi_wp2
  clear hW
  refine ⟨trivial, ?_⟩
  refine (callsIn_wide.2 (HL.out _)).mono ?_
  rintro e u9_ ⟨rfl, hb⟩
  replace HBR := hid (HBR.out.later hb HBR.out.lt)
  replace HBA := hid (HBA.out.later hb HBA.out.lt)
  replace HBB := hid (HBB.out.later hb HBB.out.lt)
  replace HBC := hid (HBC.out.later hb HBC.out.lt)
  replace HBD := hid (HBD.out.later hb HBD.out.lt)
  replace HB := hid (b2 HB.out hb)
  clear hb
  obtain ⟨cA0, cA1, cA2, cA3, cA4, cA5⟩ := box6 HBA.out (Below.refl _ _)
  obtain ⟨cB0, cB1, cB2, cB3, cB4, cB5⟩ := box6 HBB.out (Below.refl _ _)
  obtain ⟨cC0, cC1, cC2, cC3, cC4, cC5⟩ := box6 HBC.out (Below.refl _ _)
  obtain ⟨cD0, cD1, cD2, cD3, cD4, cD5⟩ := box6 HBD.out (Below.refl _ _)
  rcases HC.out with hcE | ⟨rfl, hpr⟩
  · have h1 : (cE == 0) = false := by simpa using hcE
    have h2 : (cE != 0) = true := by simp [bne, h1]
    clear hcE
    gi_wp2
    refine ⟨trivial, ?_⟩
    refine (callsIn_wide.2 (HW.out _)).mono ?_
    rintro e u10_ ⟨gw, rfl, hgw, hF, hb⟩
    clear cA0 cA1 cA2 cA3 cA4 cA5 cB0 cB1 cB2 cB3 cB4 cB5 cC0 cC1 cC2 cC3 cC4 cC5 cD0 cD1 cD2 cD3 cD4 cD5
    replace HBR := hid (HBR.out.later hb HBR.out.lt)
    replace HB := hid (b2 HB.out hb)
    have HWC := hid hF
    clear hb hF hgw HBA HBB HBC HBD HK1 HK2 HP1 HP2 HC HL HW heq
    have HN := hid (boxes1 u10_ 22 #[.slice (some ⟨gw, 0, none⟩) 16 16])
    obtain ⟨u11_, hW⟩ : ∃ z, u10_.alloc (.cells #[.slice (some ⟨gw, 0, none⟩) 16 16] 22) = z := ⟨_, rfl⟩
    rw [hW] at HN
    replace HBR := hid (HBR.out.later HN.out.2 HBR.out.lt)
    replace HB := hid (b2 HB.out HN.out.2)
    replace HWC := hid (HWC.out.later HN.out.2 HWC.out.lt)
    have HWT := hid HN.out.1
    clear HN
    have kw : u11_.cell? ⟨u10_.heap.size, 0, none⟩ = some (.slice (some ⟨gw, 0, none⟩) 16 16) := HWT.out.cell 0
    gi_wp2
    clear hW kw
    refine ⟨trivial, ?_⟩
    refine (callsIn_wide.2 (HPK.out _)).mono ?_
    rintro e uP ⟨⟨n, hn, rfl⟩, rfl⟩
    have hw : IntKind.i64.wrap (1 + (n : Int)) = ((n + 1 : Nat) : Int) := by rw [IntKind.wrap_i64]; omega
    have HN := hid (boxes1 uP 3 #[.int .i64 ((n + 1 : Nat) : Int)])
    obtain ⟨uQ, hW⟩ : ∃ z, uP.alloc (.cells #[.int .i64 ((n + 1 : Nat) : Int)] 3) = z := ⟨_, rfl⟩
    rw [hW] at HN
    replace HBR := hid (HBR.out.later HN.out.2 HBR.out.lt)
    replace HB := hid (b2 HB.out HN.out.2)
    replace HWC := hid (HWC.out.later HN.out.2 HWC.out.lt)
    replace HWT := hid (HWT.out.later HN.out.2 HWT.out.lt)
    have HNB := hid HN.out.1
    clear HN HPK
    obtain ⟨N, hN⟩ : ∃ N : Nat, n + 1 = N := ⟨_, rfl⟩
    rw [hN] at hw hW HNB
    have hN1 : 1 ≤ N ∧ N ≤ 16 := by omega
    clear hN hn
    gi_wp2
    clear hW hw
    refine ⟨trivial, ?_⟩
    refine (callsIn_wide.2 (HNN.out _)).mono ?_
    rintro e V1 ⟨pb, g, cap, rfl, hpb, hgg, hgl, hpF, hcells, hb⟩
    have HK : Hid (TxK w V1 N u10_.heap.size gw uP.heap.size pb g cap) := ⟨HBR.out.later hb HBR.out.lt, HWT.out.later hb HWT.out.lt, HWC.out.later hb HWC.out.lt, HNB.out.later hb HNB.out.lt, hpF, hgl, hcells, b2 HB.out hb⟩
    generalize u10_.heap.size = pw at *
    generalize uP.heap.size = pn at *
    clear HBR HB HWC HWT HNB HNN hpb hgg hgl hpF hcells hb
    have hnil : (binOp BinOp.eql 25 (.func (.func 23) #[] #[.pointer (some ⟨pb, 0, none⟩)]) .nilFunc).run Try.prog V1 = .ok (.bool false) V1 := by first | rfl | kernel_rfl | simp [binOp, go_sem]
    gi_wp2
    clear hnil
    refine wpIn_loop_rounds 3 ?_
    rw [roundsIn_succ]
    gi_wp2
    have HNa := hid (boxes1 V1 3 #[.int .i64 0])
    generalize V1.alloc (.cells #[.int .i64 0] 3) = Ya at *
    have HKY := hid (HK.out.later HNa.out.2)
    have hlta : V1.heap.size < Ya.heap.size := HNa.out.1.lt
    refine dorange (s1 := 93) (s2 := 22) (n₀ := V1.heap.size) rfl (enters_of Try.func23 (by kernel_rfl) rfl) (donames1_stops Fence.wide 2 trivial rfl (by decide) pb g cap V1.heap.size Ya HK.out.pB.lt HK.out.gl (Nat.le_of_lt hlta) (HKY.out.pB.cell 0) HKY.out.gc) (Nat.le_of_lt hlta)
      (fun pre W => (W.cell? ⟨V1.heap.size, 0, none⟩ = some (.int .i64 (pre.length : Int)) ∧ W.frozen? ⟨V1.heap.size, 0, none⟩ = false ∧ pre = (List.finRange 16).take pre.length ∧ pre.length < N) ∧ Below V1.heap.size Ya W)
      (fun c pre W => (c = .ret ∧ pre ≠ (List.finRange 16).take pre.length) ∨ (c = .exit 2 ∧ W.cell? ⟨V1.heap.size, 0, none⟩ = some (.int .i64 (N : Int)) ∧ Below V1.heap.size Ya W))
      (OwnFrom.and (Own.from (fun s A B row hs hg hr => ⟨cell_kept hs.1 hg hr, (frozen_kept hs.1 hg hr).trans hs.2.1, hs.2.2⟩) _) (ownFrom_below (Nat.le_of_lt hlta) (Nat.le_of_lt hlta)))
      ?hIxa ⟨⟨HNa.out.1.cell 0, HNa.out.1.free 0, rfl, by show 0 < N; omega⟩, Below.refl _ _⟩ ?assigna ?bodya ?donea ?stopa
    case hIxa =>
      intro c s A B row hs hg hr
      rcases hs with h | ⟨h1, h2, h5⟩
      · exact .inl h
      · exact .inr ⟨h1, cell_kept h2 hg (fun r e => (hr r e).2), ownFrom_below (β := Unit) (Nat.le_of_lt hlta) (Nat.le_of_lt hlta) () A B row h5 hg hr⟩
    case assigna =>
      intro l x W K hK
      gi_wp2
      exact hK
    case bodya =>
      rintro l pre x W ⟨⟨hc, hf, hp, hns⟩, hB⟩ hlen
      have hVW : Below V1.heap.size V1 W := HNa.out.2.trans hB
      have HKW := hid (HK.out.later hVW)
      have kR : W.cell? ⟨w.heap.size, 0, none⟩ = some (.bool false) := HKW.out.rs.cell 0
      have kF := HKW.out.rs.free 0
      have kW : W.cell? ⟨pw, 0, none⟩ = some (.slice (some ⟨gw, 0, none⟩) 16 16) := HKW.out.wt.cell 0
      have kN : W.cell? ⟨pn, 0, none⟩ = some (.int .i64 (N : Int)) := HKW.out.nn.cell 0
      obtain ⟨L, hL⟩ : ∃ L : Nat, pre.length = L := ⟨_, rfl⟩
      rw [hL] at hc hp hlen hns
      have kC : W.cell? ⟨gw, L, none⟩ = some (.string ⟨(dnm L).toArray⟩) := (HKW.out.wc.cell L).trans (doNV_at L hlen)
      have hix := fun V => dpidxn gw L V hlen
      have HC := hid hc
      have HF := hid hf
      have HBW := hid hB
      have HP := hid hp
      have HLL := hid hL
      have HLN : Hid (((pre ++ [x]).length : Int) = (L : Int) + 1) := by show _ = _; rw [List.length_append, HLL.out]; rfl
      have hlm : ¬ 16 ≤ (L : Int) := by omega
      have hlm2 : (L : Int) < 16 := by omega
      have hw1 : IntKind.i64.wrap ((L : Int) + 1) = (L : Int) + 1 := by rw [IntKind.wrap_i64]; omega
      have hn2 : w.heap.size ≠ V1.heap.size := by have := HK.out.rs.lt; omega
      have hn3 : pw ≠ V1.heap.size := by have := HK.out.wt.lt; omega
      have hn4 : pn ≠ V1.heap.size := by have := HK.out.nn.lt; omega
      clear hB hp hL hVW HKW
      by_cases hx : x.val = L
      · have HUP : Hid (pre ++ [x] = (List.finRange 16).take (pre ++ [x]).length) := by
          show _ = _
          rw [List.length_append, HLL.out]
          show pre ++ [x] = (List.finRange 16).take (L + 1)
          rw [dofin_succ L hlen, ← HP.out]
          congr 2
          exact _root_.Fin.ext hx
        have kC2 : W.cell? ⟨gw, L, none⟩ = some (.string ⟨(dnm x.val).toArray⟩) := by rw [hx]; exact kC
        clear kC
        generalize (⟨(dnm x.val).toArray⟩ : ByteArray) = T at *
        have hxe : (T.toList == T.toList) = true := by simp
        clear hx
        by_cases hsp : L + 1 = N
        · have hsb : ((L : Int) + 1 == (N : Int)) = true := by simp; omega
          have HSP := hid hsp
          clear hsp
          gi_wp2
          exact ⟨KeepsOthers.setCell _ _ _, .inr ⟨rfl, by rw [← HSP.out]; exact World.cell?_setCell_same' _ _ _ (by rw [HC.out]; rfl), HBW.out.setCell (p := ⟨V1.heap.size, 0, none⟩) (Nat.le_refl _) _⟩⟩
        · have hsb : ((L : Int) + 1 == (N : Int)) = false := by simp; omega
          have HSP : Hid (L + 1 < N) := by show L + 1 < N; omega
          clear hsp
          gi_wp2
          exact ⟨KeepsOthers.setCell _ _ _, (Below.refl V1.heap.size W).setCell (p := ⟨V1.heap.size, 0, none⟩) (Nat.le_refl _) _, ⟨by rw [HLN.out]; exact World.cell?_setCell_same' _ _ _ (by rw [HC.out]; rfl), by rw [World.frozen?_setCell]; exact HF.out, HUP.out, by rw [List.length_append, HLL.out]; exact HSP.out⟩, HBW.out.setCell (p := ⟨V1.heap.size, 0, none⟩) (Nat.le_refl _) _⟩
      · have HUP : Hid (pre ++ [x] ≠ (List.finRange 16).take (pre ++ [x]).length) := by
          intro e
          rw [List.length_append, HLL.out] at e
          have e2 : pre ++ [x] = (List.finRange 16).take (L + 1) := e
          rw [dofin_succ L hlen, ← HP.out] at e2
          have e3 := List.append_cancel_left e2
          simp at e3
          exact hx (by rw [e3])
        have hxe : ((⟨(dnm x.val).toArray⟩ : ByteArray).toList == (⟨(dnm L).toArray⟩ : ByteArray).toList) = false := agstr_other (fun e => hx (by
          have e2 : dnm x.val = dnm L := by
            have := congrArg (fun b : ByteArray => b.data.toList) e
            simpa using this
          exact congrArg _root_.Fin.val (dnm_inj x ⟨L, hlen⟩ e2)))
        generalize (⟨(dnm L).toArray⟩ : ByteArray) = T2 at kC hxe
        generalize (⟨(dnm x.val).toArray⟩ : ByteArray) = T1 at *
        clear hx
        gi_wp2
        exact ⟨KeepsOthers.setCell _ _ _, .inl ⟨rfl, HUP.out⟩⟩
    case donea =>
      rintro D xs W hD rfl ⟨⟨hc, hf, hp, hns⟩, hB⟩ hKD
      rw [List.length_finRange] at hns
      omega
    case stopa =>
      rintro Da c pre Wa hD hSp hIx hKD
      obtain ⟨k, hk, hpre⟩ := hSp
      rcases hIx with ⟨rfl, hne⟩ | ⟨rfl, hc, hB⟩
      · refine absurd ?_ hne
        rw [hpre, List.length_take, List.length_finRange, Nat.min_eq_left hk]
      clear hpre hk
      have hVW : Below V1.heap.size V1 Wa := HNa.out.2.trans hB
      have hDla : Hid (w.heap.size ≤ Da) := by have h1 := HK.out.rs.lt; have h2 := hlta; show w.heap.size ≤ Da; omega
      replace HK := hid (HK.out.later hVW)
      have HDa := hid hKD
      have kN : Wa.cell? ⟨pn, 0, none⟩ = some (.int .i64 (N : Int)) := HK.out.nn.cell 0
      clear hVW hB hKD HNa hD HKY
      gi_wp2
      clear hc kN
      rw [roundsIn_succ]
      gi_wp2
      have HNb := hid (boxes1 Wa 3 #[.int .i64 0])
      generalize Wa.alloc (.cells #[.int .i64 0] 3) = Yb at *
      have HKY := hid (HK.out.later HNb.out.2)
      have hltb : Wa.heap.size < Yb.heap.size := HNb.out.1.lt
      refine dorange (s1 := 93) (s2 := 22) (n₀ := Wa.heap.size) rfl (enters_of Try.func23 (by kernel_rfl) rfl) (donames1_stops Fence.wide 2 trivial rfl (by decide) pb g cap Wa.heap.size Yb HK.out.pB.lt HK.out.gl (Nat.le_of_lt hltb) (HKY.out.pB.cell 0) HKY.out.gc) (Nat.le_of_lt hltb)
        (fun pre W => (W.cell? ⟨Wa.heap.size, 0, none⟩ = some (.int .i64 (pre.length : Int)) ∧ W.frozen? ⟨Wa.heap.size, 0, none⟩ = false ∧ pre = (List.finRange 16).take pre.length ∧ pre.length < N) ∧ Below Wa.heap.size Yb W)
        (fun c pre W => (c = .ret ∧ pre ≠ (List.finRange 16).take pre.length) ∨ (c = .exit 2 ∧ W.cell? ⟨Wa.heap.size, 0, none⟩ = some (.int .i64 (N : Int)) ∧ Below Wa.heap.size Yb W))
        (OwnFrom.and (Own.from (fun s A B row hs hg hr => ⟨cell_kept hs.1 hg hr, (frozen_kept hs.1 hg hr).trans hs.2.1, hs.2.2⟩) _) (ownFrom_below (Nat.le_of_lt hltb) (Nat.le_of_lt hltb)))
        ?hIxb ⟨⟨HNb.out.1.cell 0, HNb.out.1.free 0, rfl, by show 0 < N; omega⟩, Below.refl _ _⟩ ?assignb ?bodyb ?doneb ?stopb
      case hIxb =>
        intro c s A B row hs hg hr
        rcases hs with h | ⟨h1, h2, h5⟩
        · exact .inl h
        · exact .inr ⟨h1, cell_kept h2 hg (fun r e => (hr r e).2), ownFrom_below (β := Unit) (Nat.le_of_lt hltb) (Nat.le_of_lt hltb) () A B row h5 hg hr⟩
      case assignb =>
        intro l x W K hK
        gi_wp2
        exact hK
      case bodyb =>
        rintro l pre x W ⟨⟨hc, hf, hp, hns⟩, hB⟩ hlen
        have hVW : Below Wa.heap.size Wa W := HNb.out.2.trans hB
        have HKW := hid (HK.out.later hVW)
        have kR : W.cell? ⟨w.heap.size, 0, none⟩ = some (.bool false) := HKW.out.rs.cell 0
        have kF := HKW.out.rs.free 0
        have kW : W.cell? ⟨pw, 0, none⟩ = some (.slice (some ⟨gw, 0, none⟩) 16 16) := HKW.out.wt.cell 0
        have kN : W.cell? ⟨pn, 0, none⟩ = some (.int .i64 (N : Int)) := HKW.out.nn.cell 0
        obtain ⟨L, hL⟩ : ∃ L : Nat, pre.length = L := ⟨_, rfl⟩
        rw [hL] at hc hp hlen hns
        have kC : W.cell? ⟨gw, L, none⟩ = some (.string ⟨(dnm L).toArray⟩) := (HKW.out.wc.cell L).trans (doNV_at L hlen)
        have hix := fun V => dpidxn gw L V hlen
        have HC := hid hc
        have HF := hid hf
        have HBW := hid hB
        have HP := hid hp
        have HLL := hid hL
        have HLN : Hid (((pre ++ [x]).length : Int) = (L : Int) + 1) := by show _ = _; rw [List.length_append, HLL.out]; rfl
        have hlm : ¬ 16 ≤ (L : Int) := by omega
        have hlm2 : (L : Int) < 16 := by omega
        have hw1 : IntKind.i64.wrap ((L : Int) + 1) = (L : Int) + 1 := by rw [IntKind.wrap_i64]; omega
        have hn2 : w.heap.size ≠ Wa.heap.size := by have := HK.out.rs.lt; omega
        have hn3 : pw ≠ Wa.heap.size := by have := HK.out.wt.lt; omega
        have hn4 : pn ≠ Wa.heap.size := by have := HK.out.nn.lt; omega
        clear hB hp hL hVW HKW
        by_cases hx : x.val = L
        · have HUP : Hid (pre ++ [x] = (List.finRange 16).take (pre ++ [x]).length) := by
            show _ = _
            rw [List.length_append, HLL.out]
            show pre ++ [x] = (List.finRange 16).take (L + 1)
            rw [dofin_succ L hlen, ← HP.out]
            congr 2
            exact _root_.Fin.ext hx
          have kC2 : W.cell? ⟨gw, L, none⟩ = some (.string ⟨(dnm x.val).toArray⟩) := by rw [hx]; exact kC
          clear kC
          generalize (⟨(dnm x.val).toArray⟩ : ByteArray) = T at *
          have hxe : (T.toList == T.toList) = true := by simp
          clear hx
          by_cases hsp : L + 1 = N
          · have hsb : ((L : Int) + 1 == (N : Int)) = true := by simp; omega
            have HSP := hid hsp
            clear hsp
            gi_wp2
            exact ⟨KeepsOthers.setCell _ _ _, .inr ⟨rfl, by rw [← HSP.out]; exact World.cell?_setCell_same' _ _ _ (by rw [HC.out]; rfl), HBW.out.setCell (p := ⟨Wa.heap.size, 0, none⟩) (Nat.le_refl _) _⟩⟩
          · have hsb : ((L : Int) + 1 == (N : Int)) = false := by simp; omega
            have HSP : Hid (L + 1 < N) := by show L + 1 < N; omega
            clear hsp
            gi_wp2
            exact ⟨KeepsOthers.setCell _ _ _, (Below.refl Wa.heap.size W).setCell (p := ⟨Wa.heap.size, 0, none⟩) (Nat.le_refl _) _, ⟨by rw [HLN.out]; exact World.cell?_setCell_same' _ _ _ (by rw [HC.out]; rfl), by rw [World.frozen?_setCell]; exact HF.out, HUP.out, by rw [List.length_append, HLL.out]; exact HSP.out⟩, HBW.out.setCell (p := ⟨Wa.heap.size, 0, none⟩) (Nat.le_refl _) _⟩
        · have HUP : Hid (pre ++ [x] ≠ (List.finRange 16).take (pre ++ [x]).length) := by
            intro e
            rw [List.length_append, HLL.out] at e
            have e2 : pre ++ [x] = (List.finRange 16).take (L + 1) := e
            rw [dofin_succ L hlen, ← HP.out] at e2
            have e3 := List.append_cancel_left e2
            simp at e3
            exact hx (by rw [e3])
          have hxe : ((⟨(dnm x.val).toArray⟩ : ByteArray).toList == (⟨(dnm L).toArray⟩ : ByteArray).toList) = false := agstr_other (fun e => hx (by
            have e2 : dnm x.val = dnm L := by
              have := congrArg (fun b : ByteArray => b.data.toList) e
              simpa using this
            exact congrArg _root_.Fin.val (dnm_inj x ⟨L, hlen⟩ e2)))
          generalize (⟨(dnm L).toArray⟩ : ByteArray) = T2 at kC hxe
          generalize (⟨(dnm x.val).toArray⟩ : ByteArray) = T1 at *
          clear hx
          gi_wp2
          exact ⟨KeepsOthers.setCell _ _ _, .inl ⟨rfl, HUP.out⟩⟩
      case doneb =>
        rintro D xs W hD rfl ⟨⟨hc, hf, hp, hns⟩, hB⟩ hKD
        rw [List.length_finRange] at hns
        omega
      case stopb =>
        rintro Db c pre Wb hD hSp hIx hKD
        obtain ⟨k, hk, hpre⟩ := hSp
        rcases hIx with ⟨rfl, hne⟩ | ⟨rfl, hc, hB⟩
        · refine absurd ?_ hne
          rw [hpre, List.length_take, List.length_finRange, Nat.min_eq_left hk]
        clear hpre hk
        have hVW : Below Wa.heap.size Wa Wb := HNb.out.2.trans hB
        have hDlb : Hid (w.heap.size ≤ Db) := by have h1 := HK.out.rs.lt; have h2 := hltb; show w.heap.size ≤ Db; omega
        have HNEa : Hid (Da < Db) := by have h1 := (Array.getElem?_eq_some_iff.1 HDa.out).1; have h2 := hltb; show Da < Db; omega
        replace HK := hid (HK.out.later hVW)
        replace HDa := hid (dodefer_later HDa.out hVW)
        have HDb := hid hKD
        have kN : Wb.cell? ⟨pn, 0, none⟩ = some (.int .i64 (N : Int)) := HK.out.nn.cell 0
        clear hVW hB hKD HNb hD HKY
        gi_wp2
        clear hc kN
        rw [roundsIn_succ]
        have q0 : Wb.cell? ⟨w.heap.size, 0, none⟩ = some (.bool false) := HK.out.rs.cell 0
        have q1 := HK.out.rs.free 0
        gi_wp2
        have hk1 := (KeepsOthers.setCell Wb ⟨w.heap.size, 0, none⟩ (.bool true)).same Db _ HDb.out rfl
        have hk0 := (KeepsOthers.setCell Wb ⟨w.heap.size, 0, none⟩ (.bool true)).same Da _ HDa.out rfl
        have hc1 := World.cell?_setCell_same' Wb ⟨w.heap.size, 0, none⟩ (.bool true) (by rw [q0]; rfl)
        have hbz := HK.out.bl.setCell (p := ⟨w.heap.size, 0, none⟩) (Nat.le_refl _) (.bool true)
        refine ⟨by simp, .inl ⟨_, _, rfl, run_takeDeferred hk1, ?_⟩⟩
        have hc2 := cell_kept hc1 (grownBy_putObj' _ Db (.deferred none)) (fun r e => by cases e; exact ⟨_, hk1, rfl⟩)
        have hk0' := (World.putObj_heap_other (o := .deferred none) (Nat.ne_of_lt HNEa.out)).trans hk0
        have hb3 := hbz.trans (belowK_b (w := w) (Nat.le_refl _) _ Db _ (.deferred none) hDlb.out hk1 rfl rfl)
        refine ⟨by simp, .inl ⟨_, _, rfl, run_takeDeferred hk0', ?_⟩⟩
        have hc3 := cell_kept hc2 (grownBy_putObj' _ Da (.deferred none)) (fun r e => by cases e; exact ⟨_, hk0', rfl⟩)
        refine ⟨.bool true, ?_, rfl, hb3.trans (belowK_b (w := w) (Nat.le_refl _) _ Da _ (.deferred none) hDla.out hk0' rfl rfl)⟩
        simp [results, Try.results4, go_sem, hc3]
  · have HPR := hid hpr
    clear hpr
    gi_wp2
    refine ⟨trivial, ?_⟩
    refine (callsIn_wide.2 (HPR.out _)).mono ?_
    rintro e u10_ ⟨rfl, hb⟩
    clear cA0 cA1 cA2 cA3 cA4 cA5 cB0 cB1 cB2 cB3 cB4 cB5 cC0 cC1 cC2 cC3 cC4 cC5 cD0 cD1 cD2 cD3 cD4 cD5
    replace HBR := hid (HBR.out.later hb HBR.out.lt)
    replace HBA := hid (HBA.out.later hb HBA.out.lt)
    replace HBB := hid (HBB.out.later hb HBB.out.lt)
    replace HBC := hid (HBC.out.later hb HBC.out.lt)
    replace HBD := hid (HBD.out.later hb HBD.out.lt)
    replace HB := hid (b2 HB.out hb)
    clear hb
    have hxs : (s.toList == s.toList) = true := by simp
    gi_wp2
    refine ⟨trivial, ?_⟩
    refine (callsIn_wide.2 (HW.out _)).mono ?_
    rintro e u11_ ⟨gw, rfl, hgw, hF, hb⟩
    replace HBR := hid (HBR.out.later hb HBR.out.lt)
    replace HB := hid (b2 HB.out hb)
    have HWC := hid hF
    clear hb hF hgw HBA HBB HBC HBD HK1 HK2 HP1 HP2 HC HL HW heq
    have HN := hid (boxes1 u11_ 22 #[.slice (some ⟨gw, 0, none⟩) 16 16])
    obtain ⟨u12_, hW⟩ : ∃ z, u11_.alloc (.cells #[.slice (some ⟨gw, 0, none⟩) 16 16] 22) = z := ⟨_, rfl⟩
    rw [hW] at HN
    replace HBR := hid (HBR.out.later HN.out.2 HBR.out.lt)
    replace HB := hid (b2 HB.out HN.out.2)
    replace HWC := hid (HWC.out.later HN.out.2 HWC.out.lt)
    have HWT := hid HN.out.1
    clear HN
    have kw : u12_.cell? ⟨u11_.heap.size, 0, none⟩ = some (.slice (some ⟨gw, 0, none⟩) 16 16) := HWT.out.cell 0
    gi_wp2
    clear hW kw
    refine ⟨trivial, ?_⟩
    refine (callsIn_wide.2 (HPK.out _)).mono ?_
    rintro e uP ⟨⟨n, hn, rfl⟩, rfl⟩
    have hw : IntKind.i64.wrap (1 + (n : Int)) = ((n + 1 : Nat) : Int) := by rw [IntKind.wrap_i64]; omega
    have HN := hid (boxes1 uP 3 #[.int .i64 ((n + 1 : Nat) : Int)])
    obtain ⟨uQ, hW⟩ : ∃ z, uP.alloc (.cells #[.int .i64 ((n + 1 : Nat) : Int)] 3) = z := ⟨_, rfl⟩
    rw [hW] at HN
    replace HBR := hid (HBR.out.later HN.out.2 HBR.out.lt)
    replace HB := hid (b2 HB.out HN.out.2)
    replace HWC := hid (HWC.out.later HN.out.2 HWC.out.lt)
    replace HWT := hid (HWT.out.later HN.out.2 HWT.out.lt)
    have HNB := hid HN.out.1
    clear HN HPK
    obtain ⟨N, hN⟩ : ∃ N : Nat, n + 1 = N := ⟨_, rfl⟩
    rw [hN] at hw hW HNB
    have hN1 : 1 ≤ N ∧ N ≤ 16 := by omega
    clear hN hn
    gi_wp2
    clear hW hw
    refine ⟨trivial, ?_⟩
    refine (callsIn_wide.2 (HNN.out _)).mono ?_
    rintro e V1 ⟨pb, g, cap, rfl, hpb, hgg, hgl, hpF, hcells, hb⟩
    have HK : Hid (TxK w V1 N u11_.heap.size gw uP.heap.size pb g cap) := ⟨HBR.out.later hb HBR.out.lt, HWT.out.later hb HWT.out.lt, HWC.out.later hb HWC.out.lt, HNB.out.later hb HNB.out.lt, hpF, hgl, hcells, b2 HB.out hb⟩
    generalize u11_.heap.size = pw at *
    generalize uP.heap.size = pn at *
    clear HBR HB HWC HWT HNB HNN hpb hgg hgl hpF hcells hb
    have hnil : (binOp BinOp.eql 25 (.func (.func 23) #[] #[.pointer (some ⟨pb, 0, none⟩)]) .nilFunc).run Try.prog V1 = .ok (.bool false) V1 := by first | rfl | kernel_rfl | simp [binOp, go_sem]
    gi_wp2
    clear hnil
    refine wpIn_loop_rounds 3 ?_
    rw [roundsIn_succ]
    gi_wp2
    have HNa := hid (boxes1 V1 3 #[.int .i64 0])
    generalize V1.alloc (.cells #[.int .i64 0] 3) = Ya at *
    have HKY := hid (HK.out.later HNa.out.2)
    have hlta : V1.heap.size < Ya.heap.size := HNa.out.1.lt
    refine dorange (s1 := 93) (s2 := 22) (n₀ := V1.heap.size) rfl (enters_of Try.func23 (by kernel_rfl) rfl) (donames1_stops Fence.wide 2 trivial rfl (by decide) pb g cap V1.heap.size Ya HK.out.pB.lt HK.out.gl (Nat.le_of_lt hlta) (HKY.out.pB.cell 0) HKY.out.gc) (Nat.le_of_lt hlta)
      (fun pre W => (W.cell? ⟨V1.heap.size, 0, none⟩ = some (.int .i64 (pre.length : Int)) ∧ W.frozen? ⟨V1.heap.size, 0, none⟩ = false ∧ pre = (List.finRange 16).take pre.length ∧ pre.length < N) ∧ Below V1.heap.size Ya W)
      (fun c pre W => (c = .ret ∧ pre ≠ (List.finRange 16).take pre.length) ∨ (c = .exit 2 ∧ W.cell? ⟨V1.heap.size, 0, none⟩ = some (.int .i64 (N : Int)) ∧ Below V1.heap.size Ya W))
      (OwnFrom.and (Own.from (fun s A B row hs hg hr => ⟨cell_kept hs.1 hg hr, (frozen_kept hs.1 hg hr).trans hs.2.1, hs.2.2⟩) _) (ownFrom_below (Nat.le_of_lt hlta) (Nat.le_of_lt hlta)))
      ?hIxa ⟨⟨HNa.out.1.cell 0, HNa.out.1.free 0, rfl, by show 0 < N; omega⟩, Below.refl _ _⟩ ?assigna ?bodya ?donea ?stopa
    case hIxa =>
      intro c s A B row hs hg hr
      rcases hs with h | ⟨h1, h2, h5⟩
      · exact .inl h
      · exact .inr ⟨h1, cell_kept h2 hg (fun r e => (hr r e).2), ownFrom_below (β := Unit) (Nat.le_of_lt hlta) (Nat.le_of_lt hlta) () A B row h5 hg hr⟩
    case assigna =>
      intro l x W K hK
      gi_wp2
      exact hK
    case bodya =>
      rintro l pre x W ⟨⟨hc, hf, hp, hns⟩, hB⟩ hlen
      have hVW : Below V1.heap.size V1 W := HNa.out.2.trans hB
      have HKW := hid (HK.out.later hVW)
      have kR : W.cell? ⟨w.heap.size, 0, none⟩ = some (.bool false) := HKW.out.rs.cell 0
      have kF := HKW.out.rs.free 0
      have kW : W.cell? ⟨pw, 0, none⟩ = some (.slice (some ⟨gw, 0, none⟩) 16 16) := HKW.out.wt.cell 0
      have kN : W.cell? ⟨pn, 0, none⟩ = some (.int .i64 (N : Int)) := HKW.out.nn.cell 0
      obtain ⟨L, hL⟩ : ∃ L : Nat, pre.length = L := ⟨_, rfl⟩
      rw [hL] at hc hp hlen hns
      have kC : W.cell? ⟨gw, L, none⟩ = some (.string ⟨(dnm L).toArray⟩) := (HKW.out.wc.cell L).trans (doNV_at L hlen)
      have hix := fun V => dpidxn gw L V hlen
      have HC := hid hc
      have HF := hid hf
      have HBW := hid hB
      have HP := hid hp
      have HLL := hid hL
      have HLN : Hid (((pre ++ [x]).length : Int) = (L : Int) + 1) := by show _ = _; rw [List.length_append, HLL.out]; rfl
      have hlm : ¬ 16 ≤ (L : Int) := by omega
      have hlm2 : (L : Int) < 16 := by omega
      have hw1 : IntKind.i64.wrap ((L : Int) + 1) = (L : Int) + 1 := by rw [IntKind.wrap_i64]; omega
      have hn2 : w.heap.size ≠ V1.heap.size := by have := HK.out.rs.lt; omega
      have hn3 : pw ≠ V1.heap.size := by have := HK.out.wt.lt; omega
      have hn4 : pn ≠ V1.heap.size := by have := HK.out.nn.lt; omega
      clear hB hp hL hVW HKW
      by_cases hx : x.val = L
      · have HUP : Hid (pre ++ [x] = (List.finRange 16).take (pre ++ [x]).length) := by
          show _ = _
          rw [List.length_append, HLL.out]
          show pre ++ [x] = (List.finRange 16).take (L + 1)
          rw [dofin_succ L hlen, ← HP.out]
          congr 2
          exact _root_.Fin.ext hx
        have kC2 : W.cell? ⟨gw, L, none⟩ = some (.string ⟨(dnm x.val).toArray⟩) := by rw [hx]; exact kC
        clear kC
        generalize (⟨(dnm x.val).toArray⟩ : ByteArray) = T at *
        have hxe : (T.toList == T.toList) = true := by simp
        clear hx
        by_cases hsp : L + 1 = N
        · have hsb : ((L : Int) + 1 == (N : Int)) = true := by simp; omega
          have HSP := hid hsp
          clear hsp
          gi_wp2
          exact ⟨KeepsOthers.setCell _ _ _, .inr ⟨rfl, by rw [← HSP.out]; exact World.cell?_setCell_same' _ _ _ (by rw [HC.out]; rfl), HBW.out.setCell (p := ⟨V1.heap.size, 0, none⟩) (Nat.le_refl _) _⟩⟩
        · have hsb : ((L : Int) + 1 == (N : Int)) = false := by simp; omega
          have HSP : Hid (L + 1 < N) := by show L + 1 < N; omega
          clear hsp
          gi_wp2
          exact ⟨KeepsOthers.setCell _ _ _, (Below.refl V1.heap.size W).setCell (p := ⟨V1.heap.size, 0, none⟩) (Nat.le_refl _) _, ⟨by rw [HLN.out]; exact World.cell?_setCell_same' _ _ _ (by rw [HC.out]; rfl), by rw [World.frozen?_setCell]; exact HF.out, HUP.out, by rw [List.length_append, HLL.out]; exact HSP.out⟩, HBW.out.setCell (p := ⟨V1.heap.size, 0, none⟩) (Nat.le_refl _) _⟩
      · have HUP : Hid (pre ++ [x] ≠ (List.finRange 16).take (pre ++ [x]).length) := by
          intro e
          rw [List.length_append, HLL.out] at e
          have e2 : pre ++ [x] = (List.finRange 16).take (L + 1) := e
          rw [dofin_succ L hlen, ← HP.out] at e2
          have e3 := List.append_cancel_left e2
          simp at e3
          exact hx (by rw [e3])
        have hxe : ((⟨(dnm x.val).toArray⟩ : ByteArray).toList == (⟨(dnm L).toArray⟩ : ByteArray).toList) = false := agstr_other (fun e => hx (by
          have e2 : dnm x.val = dnm L := by
            have := congrArg (fun b : ByteArray => b.data.toList) e
            simpa using this
          exact congrArg _root_.Fin.val (dnm_inj x ⟨L, hlen⟩ e2)))
        generalize (⟨(dnm L).toArray⟩ : ByteArray) = T2 at kC hxe
        generalize (⟨(dnm x.val).toArray⟩ : ByteArray) = T1 at *
        clear hx
        gi_wp2
        exact ⟨KeepsOthers.setCell _ _ _, .inl ⟨rfl, HUP.out⟩⟩
    case donea =>
      rintro D xs W hD rfl ⟨⟨hc, hf, hp, hns⟩, hB⟩ hKD
      rw [List.length_finRange] at hns
      omega
    case stopa =>
      rintro Da c pre Wa hD hSp hIx hKD
      obtain ⟨k, hk, hpre⟩ := hSp
      rcases hIx with ⟨rfl, hne⟩ | ⟨rfl, hc, hB⟩
      · refine absurd ?_ hne
        rw [hpre, List.length_take, List.length_finRange, Nat.min_eq_left hk]
      clear hpre hk
      have hVW : Below V1.heap.size V1 Wa := HNa.out.2.trans hB
      have hDla : Hid (w.heap.size ≤ Da) := by have h1 := HK.out.rs.lt; have h2 := hlta; show w.heap.size ≤ Da; omega
      replace HK := hid (HK.out.later hVW)
      have HDa := hid hKD
      have kN : Wa.cell? ⟨pn, 0, none⟩ = some (.int .i64 (N : Int)) := HK.out.nn.cell 0
      clear hVW hB hKD HNa hD HKY
      gi_wp2
      clear hc kN
      rw [roundsIn_succ]
      gi_wp2
      have HNb := hid (boxes1 Wa 3 #[.int .i64 0])
      generalize Wa.alloc (.cells #[.int .i64 0] 3) = Yb at *
      have HKY := hid (HK.out.later HNb.out.2)
      have hltb : Wa.heap.size < Yb.heap.size := HNb.out.1.lt
      refine dorange (s1 := 93) (s2 := 22) (n₀ := Wa.heap.size) rfl (enters_of Try.func23 (by kernel_rfl) rfl) (donames1_stops Fence.wide 2 trivial rfl (by decide) pb g cap Wa.heap.size Yb HK.out.pB.lt HK.out.gl (Nat.le_of_lt hltb) (HKY.out.pB.cell 0) HKY.out.gc) (Nat.le_of_lt hltb)
        (fun pre W => (W.cell? ⟨Wa.heap.size, 0, none⟩ = some (.int .i64 (pre.length : Int)) ∧ W.frozen? ⟨Wa.heap.size, 0, none⟩ = false ∧ pre = (List.finRange 16).take pre.length ∧ pre.length < N) ∧ Below Wa.heap.size Yb W)
        (fun c pre W => (c = .ret ∧ pre ≠ (List.finRange 16).take pre.length) ∨ (c = .exit 2 ∧ W.cell? ⟨Wa.heap.size, 0, none⟩ = some (.int .i64 (N : Int)) ∧ Below Wa.heap.size Yb W))
        (OwnFrom.and (Own.from (fun s A B row hs hg hr => ⟨cell_kept hs.1 hg hr, (frozen_kept hs.1 hg hr).trans hs.2.1, hs.2.2⟩) _) (ownFrom_below (Nat.le_of_lt hltb) (Nat.le_of_lt hltb)))
        ?hIxb ⟨⟨HNb.out.1.cell 0, HNb.out.1.free 0, rfl, by show 0 < N; omega⟩, Below.refl _ _⟩ ?assignb ?bodyb ?doneb ?stopb
      case hIxb =>
        intro c s A B row hs hg hr
        rcases hs with h | ⟨h1, h2, h5⟩
        · exact .inl h
        · exact .inr ⟨h1, cell_kept h2 hg (fun r e => (hr r e).2), ownFrom_below (β := Unit) (Nat.le_of_lt hltb) (Nat.le_of_lt hltb) () A B row h5 hg hr⟩
      case assignb =>
        intro l x W K hK
        gi_wp2
        exact hK
      case bodyb =>
        rintro l pre x W ⟨⟨hc, hf, hp, hns⟩, hB⟩ hlen
        have hVW : Below Wa.heap.size Wa W := HNb.out.2.trans hB
        have HKW := hid (HK.out.later hVW)
        have kR : W.cell? ⟨w.heap.size, 0, none⟩ = some (.bool false) := HKW.out.rs.cell 0
        have kF := HKW.out.rs.free 0
        have kW : W.cell? ⟨pw, 0, none⟩ = some (.slice (some ⟨gw, 0, none⟩) 16 16) := HKW.out.wt.cell 0
        have kN : W.cell? ⟨pn, 0, none⟩ = some (.int .i64 (N : Int)) := HKW.out.nn.cell 0
        obtain ⟨L, hL⟩ : ∃ L : Nat, pre.length = L := ⟨_, rfl⟩
        rw [hL] at hc hp hlen hns
        have kC : W.cell? ⟨gw, L, none⟩ = some (.string ⟨(dnm L).toArray⟩) := (HKW.out.wc.cell L).trans (doNV_at L hlen)
        have hix := fun V => dpidxn gw L V hlen
        have HC := hid hc
        have HF := hid hf
        have HBW := hid hB
        have HP := hid hp
        have HLL := hid hL
        have HLN : Hid (((pre ++ [x]).length : Int) = (L : Int) + 1) := by show _ = _; rw [List.length_append, HLL.out]; rfl
        have hlm : ¬ 16 ≤ (L : Int) := by omega
        have hlm2 : (L : Int) < 16 := by omega
        have hw1 : IntKind.i64.wrap ((L : Int) + 1) = (L : Int) + 1 := by rw [IntKind.wrap_i64]; omega
        have hn2 : w.heap.size ≠ Wa.heap.size := by have := HK.out.rs.lt; omega
        have hn3 : pw ≠ Wa.heap.size := by have := HK.out.wt.lt; omega
        have hn4 : pn ≠ Wa.heap.size := by have := HK.out.nn.lt; omega
        clear hB hp hL hVW HKW
        by_cases hx : x.val = L
        · have HUP : Hid (pre ++ [x] = (List.finRange 16).take (pre ++ [x]).length) := by
            show _ = _
            rw [List.length_append, HLL.out]
            show pre ++ [x] = (List.finRange 16).take (L + 1)
            rw [dofin_succ L hlen, ← HP.out]
            congr 2
            exact _root_.Fin.ext hx
          have kC2 : W.cell? ⟨gw, L, none⟩ = some (.string ⟨(dnm x.val).toArray⟩) := by rw [hx]; exact kC
          clear kC
          generalize (⟨(dnm x.val).toArray⟩ : ByteArray) = T at *
          have hxe : (T.toList == T.toList) = true := by simp
          clear hx
          by_cases hsp : L + 1 = N
          · have hsb : ((L : Int) + 1 == (N : Int)) = true := by simp; omega
            have HSP := hid hsp
            clear hsp
            gi_wp2
            exact ⟨KeepsOthers.setCell _ _ _, .inr ⟨rfl, by rw [← HSP.out]; exact World.cell?_setCell_same' _ _ _ (by rw [HC.out]; rfl), HBW.out.setCell (p := ⟨Wa.heap.size, 0, none⟩) (Nat.le_refl _) _⟩⟩
          · have hsb : ((L : Int) + 1 == (N : Int)) = false := by simp; omega
            have HSP : Hid (L + 1 < N) := by show L + 1 < N; omega
            clear hsp
            gi_wp2
            exact ⟨KeepsOthers.setCell _ _ _, (Below.refl Wa.heap.size W).setCell (p := ⟨Wa.heap.size, 0, none⟩) (Nat.le_refl _) _, ⟨by rw [HLN.out]; exact World.cell?_setCell_same' _ _ _ (by rw [HC.out]; rfl), by rw [World.frozen?_setCell]; exact HF.out, HUP.out, by rw [List.length_append, HLL.out]; exact HSP.out⟩, HBW.out.setCell (p := ⟨Wa.heap.size, 0, none⟩) (Nat.le_refl _) _⟩
        · have HUP : Hid (pre ++ [x] ≠ (List.finRange 16).take (pre ++ [x]).length) := by
            intro e
            rw [List.length_append, HLL.out] at e
            have e2 : pre ++ [x] = (List.finRange 16).take (L + 1) := e
            rw [dofin_succ L hlen, ← HP.out] at e2
            have e3 := List.append_cancel_left e2
            simp at e3
            exact hx (by rw [e3])
          have hxe : ((⟨(dnm x.val).toArray⟩ : ByteArray).toList == (⟨(dnm L).toArray⟩ : ByteArray).toList) = false := agstr_other (fun e => hx (by
            have e2 : dnm x.val = dnm L := by
              have := congrArg (fun b : ByteArray => b.data.toList) e
              simpa using this
            exact congrArg _root_.Fin.val (dnm_inj x ⟨L, hlen⟩ e2)))
          generalize (⟨(dnm L).toArray⟩ : ByteArray) = T2 at kC hxe
          generalize (⟨(dnm x.val).toArray⟩ : ByteArray) = T1 at *
          clear hx
          gi_wp2
          exact ⟨KeepsOthers.setCell _ _ _, .inl ⟨rfl, HUP.out⟩⟩
      case doneb =>
        rintro D xs W hD rfl ⟨⟨hc, hf, hp, hns⟩, hB⟩ hKD
        rw [List.length_finRange] at hns
        omega
      case stopb =>
        rintro Db c pre Wb hD hSp hIx hKD
        obtain ⟨k, hk, hpre⟩ := hSp
        rcases hIx with ⟨rfl, hne⟩ | ⟨rfl, hc, hB⟩
        · refine absurd ?_ hne
          rw [hpre, List.length_take, List.length_finRange, Nat.min_eq_left hk]
        clear hpre hk
        have hVW : Below Wa.heap.size Wa Wb := HNb.out.2.trans hB
        have hDlb : Hid (w.heap.size ≤ Db) := by have h1 := HK.out.rs.lt; have h2 := hltb; show w.heap.size ≤ Db; omega
        have HNEa : Hid (Da < Db) := by have h1 := (Array.getElem?_eq_some_iff.1 HDa.out).1; have h2 := hltb; show Da < Db; omega
        replace HK := hid (HK.out.later hVW)
        replace HDa := hid (dodefer_later HDa.out hVW)
        have HDb := hid hKD
        have kN : Wb.cell? ⟨pn, 0, none⟩ = some (.int .i64 (N : Int)) := HK.out.nn.cell 0
        clear hVW hB hKD HNb hD HKY
        gi_wp2
        clear hc kN
        rw [roundsIn_succ]
        have q0 : Wb.cell? ⟨w.heap.size, 0, none⟩ = some (.bool false) := HK.out.rs.cell 0
        have q1 := HK.out.rs.free 0
        gi_wp2
        have hk1 := (KeepsOthers.setCell Wb ⟨w.heap.size, 0, none⟩ (.bool true)).same Db _ HDb.out rfl
        have hk0 := (KeepsOthers.setCell Wb ⟨w.heap.size, 0, none⟩ (.bool true)).same Da _ HDa.out rfl
        have hc1 := World.cell?_setCell_same' Wb ⟨w.heap.size, 0, none⟩ (.bool true) (by rw [q0]; rfl)
        have hbz := HK.out.bl.setCell (p := ⟨w.heap.size, 0, none⟩) (Nat.le_refl _) (.bool true)
        refine ⟨by simp, .inl ⟨_, _, rfl, run_takeDeferred hk1, ?_⟩⟩
        have hc2 := cell_kept hc1 (grownBy_putObj' _ Db (.deferred none)) (fun r e => by cases e; exact ⟨_, hk1, rfl⟩)
        have hk0' := (World.putObj_heap_other (o := .deferred none) (Nat.ne_of_lt HNEa.out)).trans hk0
        have hb3 := hbz.trans (belowK_b (w := w) (Nat.le_refl _) _ Db _ (.deferred none) hDlb.out hk1 rfl rfl)
        refine ⟨by simp, .inl ⟨_, _, rfl, run_takeDeferred hk0', ?_⟩⟩
        have hc3 := cell_kept hc2 (grownBy_putObj' _ Da (.deferred none)) (fun r e => by cases e; exact ⟨_, hk0', rfl⟩)
        refine ⟨.bool true, ?_, rfl, hb3.trans (belowK_b (w := w) (Nat.le_refl _) _ Da _ (.deferred none) hDla.out hk0' rfl rfl)⟩
        simp [results, Try.results4, go_sem, hc3]

theorem dotexts_any (nm s : ByteArray) (stop : Int) (w : World) (hn : nm.size ≤ maxLen) (hst : I64 stop) :
    Calls Try.prog 4 #[.string nm, .string s, .int .i64 stop] w fun e w' => e = .returned (.bool true) ∧ Below w.heap.size w w' := by
  have HK1 := fun V => doknown_any nm V hn
  have HK2 := fun V => dpknown_any nm V
  have HP1 := fun V => doparse_any s V
  have HP2 := fun V => dpparse_any s V
  obtain ⟨k, kE, hk⟩ : ∃ (k : Nat → Int) (kE : Int), knV nm.data.toList = .tuple #[.agg (doA k), .int .i64 kE] := by
    rw [knV_find]
    split
    · exact ⟨_, _, rfl⟩
    · exact ⟨_, _, rfl⟩
  rw [hk] at HK1 HK2
  by_cases hd : dgd s
  · have e : dPr s = .tuple #[.agg (doA (dnum s)), .int .i64 0] := if_pos hd
    rw [e] at HP1 HP2
    obtain ⟨h1, h2⟩ := dgd_text hd
    refine dotexts_in nm s stop w hst _ _ _ _ _ _ kE _ _ _ _ _ _ 0 HK1 HK2 HP1 HP2 (.inr ⟨rfl, fun V => ?_⟩)
    have c := doprint_ok (dnum s) V h1
    rw [h2] at c
    exact c
  · have e : dPr s = .tuple #[.agg (doA fun _ => 0), .int .i64 210] := if_neg hd
    rw [e] at HP1 HP2
    exact dotexts_in nm s stop w hst _ _ _ _ _ _ kE _ _ _ _ _ _ 210 HK1 HK2 HP1 HP2 (.inl (by decide))
end Go.Proofs.Ytophmdjdjjgokaa

/- Species, the program's and the document's; the document's Print. -/
namespace Go.Proofs.Ytophmdjdjjgokaa
open Go.RowKit
set_option linter.unusedVariables false
set_option linter.unusedSimpArgs false

/-- The first number's size, or refused. -/
def dSp (d : Nat → Int) : Value := if dOK d then .tuple #[.int .i64 (if d 0 < 0 then -d 0 else d 0), .int .i64 0] else .tuple #[.int .i64 0, .int .i64 210]

set_option maxHeartbeats 800000 in
set_option maxRecDepth 100000 in
theorem dospecies_any (d : Nat → Int) (w : World) : Calls Try.prog 12 #[.agg (doA d)] w fun e w' => e = .returned (dSp d) ∧ Below w.heap.size w w' := by
  have HC := hid (fun V => docheck_any d V)
  have HX := hid (boxes1 w 29 (doA d))
  obtain ⟨X, hX⟩ : ∃ X, w.alloc (.cells (doA d) 29) = X := ⟨_, rfl⟩
  rw [hX] at HX
  unfold dSp
  by_cases hd : dOK d
  · rw [dchk_ok hd] at HC
    rw [if_pos hd]
    obtain ⟨b0, b1⟩ := hd 0 (by decide)
    clear hd
    unfold doA at *
    generalize d 0 = d0 at *
    obtain ⟨n0, n1, n2, n3, n4, n5⟩ := box6 HX.out.1 (Below.refl _ _)
    have e1 : IntKind.i64.wrap d0 = d0 := by rw [IntKind.wrap_i64]; omega
    have e2 : IntKind.i64.wrap (-d0) = -d0 := by rw [IntKind.wrap_i64]; omega
    have HM1 : Hid (d0 < 0 → (if d0 < 0 then -d0 else d0) = -d0) := fun h => if_pos h
    have HM2 : Hid (¬ d0 < 0 → (if d0 < 0 then -d0 else d0) = d0) := fun h => if_neg h
    generalize (if d0 < 0 then -d0 else d0) = m at *
    go_enter Try.func12, Try.ntmps12
    go_wp2_with fail
    refine Calls.mono (HC.out _) ?_
    rintro e w1 ⟨rfl, hb⟩
    have HB := hid (b2 HX.out.2 hb)
    clear n0 n1 n2 n3 n4 n5 hX
    have n0 : w1.cell? ⟨w.heap.size, 0, none⟩ = some (.int .i8 d0) := (HX.out.1.later hb HX.out.1.lt).cell 0
    clear hb HX HC
    by_cases h : d0 < 0
    · have HE := hid (HM1.out h)
      clear HM1 HM2
      go_wp2_with fail
      go_returns
      exact ⟨by rw [HE.out]; rfl, HB.out⟩
    · have HE := hid (HM2.out (by omega))
      clear HM1 HM2
      go_wp2_with fail
      go_returns
      exact ⟨by rw [HE.out]; rfl, HB.out⟩
  · rw [dchk_no hd] at HC
    rw [if_neg hd]
    clear hd
    unfold doA at *
    obtain ⟨n0, n1, n2, n3, n4, n5⟩ := box6 HX.out.1 (Below.refl _ _)
    go_enter Try.func12, Try.ntmps12
    go_wp2_with fail
    refine Calls.mono (HC.out _) ?_
    rintro e w1 ⟨rfl, hb⟩
    have HB := hid (b2 HX.out.2 hb)
    clear n0 n1 n2 n3 n4 n5 hX hb HX HC
    go_wp2_with fail
    go_returns
    exact ⟨rfl, HB.out⟩

/-- The first n letters. -/
def dLs (d : Nat → Int) (n : Nat) : List Value := (List.range n).map (fun j => Value.int .u8 (dC d j))
theorem dLs_succ (d : Nat → Int) (n : Nat) : dLs d (n + 1) = dLs d n ++ [.int .u8 (dC d n)] := by
  unfold dLs
  rw [List.range_succ, List.map_append]
  rfl
theorem dp_info : (Try.prog.info? 5).map (fun i => (i.zero, i.size, i.bytes)) = some (some (.int .u8 0), 1, 1) := by kernel_rfl

end Go.Proofs.Ytophmdjdjjgokaa

/- The law DoodsonNames answers true, and writes nothing that was there: chapter 11's table, numbers and examples. -/
namespace Go.Proofs.Ytophmdjdjjgokaa
open Go.RowKit Go.Shelf
set_option linter.unusedVariables false
set_option linter.unusedSimpArgs false
attribute [local go_sem] Oper.semAt_some

/-- Six numbers, written out. -/
def dvec (a b c d e f : Int) (k : Nat) : Int := match k with | 0 => a | 1 => b | 2 => c | 3 => d | 4 => e | _ => f
theorem keeps_below {W W' : World} (h : Below W.heap.size W W') : KeepsOthers W W' := KeepsOthers.of_grownBy (row := none) ⟨h.os, h.tape, h.output, h.size, fun k hk _ => h.block k hk⟩ (fun _ _ e => by cases e)
theorem dnm_size : ∀ k : DoK, (⟨(dnm k).toArray⟩ : ByteArray).size ≤ maxLen := by
  have : ∀ k : DoK, (dnm k).toArray.size ≤ maxLen := by decide +kernel
  exact this
theorem knV_nm (k : Nat) (hk : k < 16) : knV (⟨(dnm k).toArray⟩ : ByteArray).data.toList = .tuple #[.agg (doA (drow k)), .int .i64 0] := by
  rw [show ((⟨(dnm k).toArray⟩ : ByteArray).data.toList) = dnm k by simp]
  unfold knV
  rw [kn_nm k hk]
theorem dfind_row : ∀ k : DoK, dfind (drow k) 0 16 = some k.val := by decide +kernel
theorem dNm_row (k : Nat) (hk : k < 16) : dNm (drow k) = .tuple #[.string ⟨(dnm k).toArray⟩, .bool true] := by
  unfold dNm
  rw [dfind_row ⟨k, hk⟩]
/-- All that lay there but one block lies there still. -/
structure KbR (V W : World) (k : Nat) : Prop where
  size : V.heap.size ≤ W.heap.size
  same : ∀ b, b < V.heap.size → b ≠ k → W.heap[b]? = V.heap[b]?
theorem KbR.refl (V : World) (k : Nat) : KbR V V k := ⟨Nat.le_refl _, fun _ _ _ => rfl⟩
theorem KbR.later {V W W' : World} {k : Nat} (h : KbR V W k) (hb : Below W.heap.size W W') : KbR V W' k := ⟨Nat.le_trans h.size hb.size, fun b hl hn => (hb.block b (Nat.lt_of_lt_of_le hl h.size)).trans (h.same b hl hn)⟩
theorem KbR.put {V W : World} {k : Nat} (h : KbR V W k) (j : Nat) (v : Value) : KbR V (W.setCell ⟨k, j, none⟩ v) k := ⟨by simpa [World.setCell] using h.size, fun b hl hn => (Below.heap_setCell _ _ _ _ hn).trans (h.same b hl hn)⟩
theorem KbR.box {V W : World} {k b t : Nat} {vs : Array Value} (h : KbR V W k) (hF : FBox V b t vs) (hn : b ≠ k) : FBox W b t vs := (h.same b hF.lt hn).trans hF
theorem KbR.own {V W W' : World} {k : Nat} {row : Option Nat} (h : KbR V W k) (hg : W.grownBy W' row) (hr : ∀ r, row = some r → V.heap.size ≤ r) : KbR V W' k := ⟨Nat.le_trans h.size hg.size, fun b hl hn => (hg.block b (Nat.lt_of_lt_of_le hl h.size) (fun e => by have := hr b e.symm; omega)).trans (h.same b hl hn)⟩
structure NmK (w V : World) (pw gw pb g cap : Nat) : Prop where
  rs : FBox V w.heap.size 4 #[.bool false]
  wt : FBox V pw 22 #[.slice (some ⟨gw, 0, none⟩) 16 16]
  wc : FBox V gw 9 doNV
  pB : FBox V pb 22 #[.slice (some ⟨g, 0, none⟩) 16 cap]
  gl : g < V.heap.size
  gc : ∀ j, j < 16 → V.cell? ⟨g, j, none⟩ = some (.string ⟨(dnm j).toArray⟩)
  bl : Below w.heap.size w V
theorem NmK.later {w V V' : World} {pw gw pb g cap : Nat} (h : NmK w V pw gw pb g cap) (hb : Below V.heap.size V V') : NmK w V' pw gw pb g cap :=
  ⟨h.rs.later hb h.rs.lt, h.wt.later hb h.wt.lt, h.wc.later hb h.wc.lt, h.pB.later hb h.pB.lt, Nat.lt_of_lt_of_le h.gl hb.size, fun j hj => (hb.cell (p := ⟨g, j, none⟩) h.gl).trans (h.gc j hj), b2 h.bl hb⟩

set_option maxHeartbeats 1600000 in
set_option maxRecDepth 100000 in
theorem donames1_stopsK (F : Fence) (n : Nat) (h6 : F.fn 23) (hro : F.round = none) (hn : 1 ≤ n) (pb g cap : Nat) (w : World) (Kp : World → World → Prop) (hKc : ∀ A B : World, Kp A B → ∀ j, B.cell? ⟨g, j, none⟩ = A.cell? ⟨g, j, none⟩) (l1 : pb < w.heap.size) (l2 : g < w.heap.size) (c1 : w.cell? ⟨pb, 0, none⟩ = some (.slice (some ⟨g, 0, none⟩) 16 cap)) (c2 : ∀ j, j < 16 → w.cell? ⟨g, j, none⟩ = some (.string ⟨(dnm j).toArray⟩)) :
    SeqStopsK F n Try.prog 23 #[.pointer (some ⟨pb, 0, none⟩)] (fun x : DoK => #[.string ⟨(dnm x).toArray⟩]) Kp (fun xs => xs = List.finRange 16) (fun pre => ∃ k, k ≤ 16 ∧ pre = (List.finRange 16).take k) 16 w := fun l J Jx W hW hJ hJx hY h0 => by
  refine callsIn_of_wp Try.func23 rfl h6 ?_ hro
  simp only [Try.ntmps23, List.size_toArray, List.length_cons, List.length_nil, Nat.reduceAdd, Nat.reduceSub, Array.replicate_succ, Array.replicate_zero, List.push_toArray, List.append_toArray, List.nil_append, List.cons_append]
  have d1 : W.cell? ⟨pb, 0, none⟩ = some (.slice (some ⟨g, 0, none⟩) 16 cap) := (hW.cell (p := ⟨pb, 0, none⟩) (show pb < _ by omega)).trans c1
  have D2 : Hid (∀ j, j < 16 → W.cell? ⟨g, j, none⟩ = some (.string ⟨(dnm j).toArray⟩)) := fun j hj => (hW.cell (p := ⟨g, j, none⟩) (show g < _ by omega)).trans (c2 j hj)
  have HY := hid hY
  clear hY c1 c2
  have hJ0 : Hid (J ((List.finRange 16).take 0) W) := h0
  have HS : Hid (∀ k, ∀ hk : k < 16, (List.finRange 16).take (k + 1) = (List.finRange 16).take k ++ [(⟨k, hk⟩ : DoK)]) := fun k hk => dofin_succ k hk
  have HE : Hid ((List.finRange 16).take 16 = List.finRange 16) := rfl
  clear h0
  gi_wp2
  clear d1
  gi_loopw [7] (fun x wr => ∃ k : Nat, k ≤ 16 ∧ x = .int .i64 (k : Int) ∧ Hid (∀ j, j < 16 → wr.cell? ⟨g, j, none⟩ = some (.string ⟨(dnm j).toArray⟩)) ∧ Hid (J ((List.finRange 16).take k) wr)) (fun x _ => 16 - (intOf x).toNat)
  case atStart => exact ⟨0, Nat.zero_le _, rfl, D2, hJ0⟩
  case round =>
    obtain ⟨k, hk, rfl, D3, HJ⟩ := hrel
    by_cases hlt : k < 16
    · have hS := hid (HS.out k hlt)
      have hc := D3.out k hlt
      have hlen : ((List.finRange 16).take k).length < 16 := by rw [List.length_take, List.length_finRange]; omega
      obtain ⟨fn, tmps, assign, body, hy, hR⟩ := HY.out _ (⟨k, hlt⟩ : DoK) wr HJ.out hlen
      dsimp only at hy
      generalize (List.finRange 16).take k = pre at *
      gi_wp2
      refine hR.mono ?_
      rintro e' W3 (⟨rfl, hJ3, hk3⟩ | ⟨rfl, hJx3⟩)
      · have D4 : Hid (∀ j, j < 16 → W3.cell? ⟨g, j, none⟩ = some (.string ⟨(dnm j).toArray⟩)) := fun j hj => (hKc _ _ hk3 j).trans (D3.out j hj)
        gi_wp2
        go_roundw
        case rel => exact ⟨k + 1, by omega, by go_num, D4, by rw [hS.out]; exact hJ3⟩
        case measure => simp [intOf]; omega
      · gi_wp2
        refine bodyPost_ret (results_none rfl _ _ _) rfl ?_
        exact ⟨⟨_, rfl⟩, .inr ⟨_, ⟨k + 1, by omega, hS.out.symm⟩, hJx3⟩⟩
    · obtain rfl : k = 16 := by omega
      have hJ9 := HJ.out
      rw [HE.out] at hJ9
      gi_wp2
      all_goals first
        | (exfalso; omega)
        | (go_end0
           exact ⟨⟨_, rfl⟩, .inl ⟨_, rfl, hJ9⟩⟩)
/-- A range over the names: the law of the kit, at the slots of this function. -/
theorem dorangeK {g : Operand} {assign body : Code} {Q : Exit → Act → World → Prop} {a : Act} {w : World} {gf s1 s2 : Nat} {lb : Array Value}
    (hg : a.eval g = .func (.func gf) #[] lb) (eg : ∀ args w, (callFunc gf args).run Try.prog w = .ok (.enter gf args) w)
    {S Sp : List (DoK) → Prop} {N : Nat} {Kp : World → World → Prop} (hseq : SeqStopsK Fence.wide 2 Try.prog gf lb (fun x : DoK => #[.string ⟨(dnm x).toArray⟩]) Kp S Sp N w) (hKt : ∀ {A B C : World}, Kp A B → Kp B C → Kp A C) (hKb : ∀ (W : World) (l : Nat) (o o' : Obj), w.heap.size ≤ l → W.heap[l]? = some o → o.isCells = false → o.isWalk = false → Kp W (W.putObj l o'))
    (I : List (DoK) → World → Prop) (Ix : Code → List (DoK) → World → Prop) (hI : OwnFrom w.heap.size I) (hIx : ∀ c, OwnFrom w.heap.size (Ix c)) (h0 : I [] w)
    (hassign : ∀ (l : Nat) (x : DoK) (W : World) (K : Act → World → Prop), K { tmps := (a.tmps.setIfInBounds s1 (.string ⟨(dnm x).toArray⟩)).setIfInBounds s2 (.string ⟨(dnm x).toArray⟩), defers := [] } W →
      assign.wpIn (Fence.wide.inRound l) 1 Try.prog (Exit.then K (fun _ _ _ => False)) { tmps := a.tmps.setIfInBounds s1 (.string ⟨(dnm x).toArray⟩), defers := [] } W)
    (hbody : ∀ (l : Nat) (pre : List (DoK)) (x : DoK) (W : World), I pre W → pre.length < N → body.wpIn (Fence.wide.inRound l) 1 Try.prog (ownPostK Kp I Ix (pre ++ [x]) W) { tmps := (a.tmps.setIfInBounds s1 (.string ⟨(dnm x).toArray⟩)).setIfInBounds s2 (.string ⟨(dnm x).toArray⟩), defers := [] } W)
    (hdone : ∀ (D : Nat) (xs : List (DoK)) (W : World), w.heap.size ≤ D → S xs → I xs W → W.heap[D]? = some (.deferred (some [])) → Q .normal { a with defers := { target := .collected D, args := #[] } :: a.defers } W)
    (hstop : ∀ (D : Nat) (c : Code) (pre : List (DoK)) (W : World), w.heap.size ≤ D → Sp pre → Ix c pre W → W.heap[D]? = some (.deferred (some [])) → c.wpIn Fence.wide 3 Try.prog Q { a with defers := { target := .collected D, args := #[] } :: a.defers } W) :
    (Code.rangeFunc g #[s1] assign body).wpIn Fence.wide 3 Try.prog Q a w :=
  wpIn_rangeFunc_ownF rfl (by decide) hg trivial eg hseq hKt hKb (Below.refl _ _) (fun _ => rfl) I Ix hI hIx h0
    (fun x => { tmps := (a.tmps.setIfInBounds s1 (.string ⟨(dnm x).toArray⟩)).setIfInBounds s2 (.string ⟨(dnm x).toArray⟩), defers := [] })
    (fun l x W K hK => by
      have e := hassign l x W K hK
      simpa using e) hbody hdone hstop

set_option maxHeartbeats 12800000 in
set_option maxRecDepth 100000 in
theorem donamesL_any (w : World) : Calls Try.prog 3 #[] w fun e w' => e = .returned (.bool true) ∧ Below w.heap.size w w' := by
  have HL := hid (fun V => dolives_any V)
  have HW := hid (fun V => dpnames_any V)
  have HNN := hid (fun V => donames_any V)
  have heq : ∀ (d0 d1 d2 d3 d4 d5 : Int) (V : World), (Op.equalIn 10000 29 (.agg #[.int .i8 d0, .int .i8 d1, .int .i8 d2, .int .i8 d3, .int .i8 d4, .int .i8 d5]) (.agg #[.int .i8 d0, .int .i8 d1, .int .i8 d2, .int .i8 d3, .int .i8 d4, .int .i8 d5])).run Try.prog V = .ok true V := dqeq_self
  obtain ⟨sa0, sa1, sa2, sa3, sa4, sa5, HEsa⟩ : ∃ sa0 sa1 sa2 sa3 sa4 sa5 : Int, Hid (sa0 = 2 ∧ sa1 = 2 ∧ sa2 = -2 ∧ sa3 = 0 ∧ sa4 = 0 ∧ sa5 = 0) := ⟨_, _, _, _, _, _, ⟨rfl, rfl, rfl, rfl, rfl, rfl⟩⟩
  obtain ⟨ma0, ma1, ma2, ma3, ma4, ma5, HEma⟩ : ∃ ma0 ma1 ma2 ma3 ma4 ma5 : Int, Hid (ma0 = 2 ∧ ma1 = 0 ∧ ma2 = 0 ∧ ma3 = 0 ∧ ma4 = 0 ∧ ma5 = 0) := ⟨_, _, _, _, _, _, ⟨rfl, rfl, rfl, rfl, rfl, rfl⟩⟩
  obtain ⟨mb0, mb1, mb2, mb3, mb4, mb5, HEmb⟩ : ∃ mb0 mb1 mb2 mb3 mb4 mb5 : Int, Hid (mb0 = 4 ∧ mb1 = 0 ∧ mb2 = 0 ∧ mb3 = 0 ∧ mb4 = 0 ∧ mb5 = 0) := ⟨_, _, _, _, _, _, ⟨rfl, rfl, rfl, rfl, rfl, rfl⟩⟩
  obtain ⟨mc0, mc1, mc2, mc3, mc4, mc5, HEmc⟩ : ∃ mc0 mc1 mc2 mc3 mc4 mc5 : Int, Hid (mc0 = 0 ∧ mc1 = 2 ∧ mc2 = 0 ∧ mc3 = 0 ∧ mc4 = 0 ∧ mc5 = 0) := ⟨_, _, _, _, _, _, ⟨rfl, rfl, rfl, rfl, rfl, rfl⟩⟩
  obtain ⟨pa0, pa1, pa2, pa3, pa4, pa5, HEpa⟩ : ∃ pa0 pa1 pa2 pa3 pa4 pa5 : Int, Hid (pa0 = 4 ∧ pa1 = 2 ∧ pa2 = -2 ∧ pa3 = 0 ∧ pa4 = 0 ∧ pa5 = 0) := ⟨_, _, _, _, _, _, ⟨rfl, rfl, rfl, rfl, rfl, rfl⟩⟩
  obtain ⟨za0, za1, za2, za3, za4, za5, HEza⟩ : ∃ za0 za1 za2 za3 za4 za5 : Int, Hid (za0 = 0 ∧ za1 = 0 ∧ za2 = 0 ∧ za3 = 0 ∧ za4 = 0 ∧ za5 = 0) := ⟨_, _, _, _, _, _, ⟨rfl, rfl, rfl, rfl, rfl, rfl⟩⟩
  have HKs : Hid (∀ V, Calls Try.prog 7 #[.string ⟨#[83, 50]⟩] V fun e w' => e = .returned (.tuple #[.agg #[.int .i8 sa0, .int .i8 sa1, .int .i8 sa2, .int .i8 sa3, .int .i8 sa4, .int .i8 sa5], .int .i64 0]) ∧ Below V.heap.size V w') := fun V => by
    obtain ⟨rfl, rfl, rfl, rfl, rfl, rfl⟩ := HEsa.out
    have e := doknown_any ⟨#[83, 50]⟩ V (by decide)
    rw [show knV (⟨#[83, 50]⟩ : ByteArray).data.toList = .tuple #[.agg #[.int .i8 2, .int .i8 2, .int .i8 (-2), .int .i8 0, .int .i8 0, .int .i8 0], .int .i64 0] by kernel_rfl] at e
    exact e
  have HKm : Hid (∀ V, Calls Try.prog 7 #[.string ⟨#[77, 50]⟩] V fun e w' => e = .returned (.tuple #[.agg #[.int .i8 ma0, .int .i8 ma1, .int .i8 ma2, .int .i8 ma3, .int .i8 ma4, .int .i8 ma5], .int .i64 0]) ∧ Below V.heap.size V w') := fun V => by
    obtain ⟨rfl, rfl, rfl, rfl, rfl, rfl⟩ := HEma.out
    have e := doknown_any ⟨#[77, 50]⟩ V (by decide)
    rw [show knV (⟨#[77, 50]⟩ : ByteArray).data.toList = .tuple #[.agg #[.int .i8 2, .int .i8 0, .int .i8 0, .int .i8 0, .int .i8 0, .int .i8 0], .int .i64 0] by kernel_rfl] at e
    exact e
  have HK4 : Hid (∀ V, Calls Try.prog 7 #[.string ⟨#[77, 52]⟩] V fun e w' => e = .returned (.tuple #[.agg #[.int .i8 mb0, .int .i8 mb1, .int .i8 mb2, .int .i8 mb3, .int .i8 mb4, .int .i8 mb5], .int .i64 0]) ∧ Below V.heap.size V w') := fun V => by
    obtain ⟨rfl, rfl, rfl, rfl, rfl, rfl⟩ := HEmb.out
    have e := doknown_any ⟨#[77, 52]⟩ V (by decide)
    rw [show knV (⟨#[77, 52]⟩ : ByteArray).data.toList = .tuple #[.agg #[.int .i8 4, .int .i8 0, .int .i8 0, .int .i8 0, .int .i8 0, .int .i8 0], .int .i64 0] by kernel_rfl] at e
    exact e
  have HKf : Hid (∀ V, Calls Try.prog 7 #[.string ⟨#[77, 102]⟩] V fun e w' => e = .returned (.tuple #[.agg #[.int .i8 mc0, .int .i8 mc1, .int .i8 mc2, .int .i8 mc3, .int .i8 mc4, .int .i8 mc5], .int .i64 0]) ∧ Below V.heap.size V w') := fun V => by
    obtain ⟨rfl, rfl, rfl, rfl, rfl, rfl⟩ := HEmc.out
    have e := doknown_any ⟨#[77, 102]⟩ V (by decide)
    rw [show knV (⟨#[77, 102]⟩ : ByteArray).data.toList = .tuple #[.agg #[.int .i8 0, .int .i8 2, .int .i8 0, .int .i8 0, .int .i8 0, .int .i8 0], .int .i64 0] by kernel_rfl] at e
    exact e
  have HK3 : Hid (∀ V, Calls Try.prog 7 #[.string ⟨#[77, 51]⟩] V fun e w' => e = .returned (.tuple #[.agg #[.int .i8 za0, .int .i8 za1, .int .i8 za2, .int .i8 za3, .int .i8 za4, .int .i8 za5], .int .i64 6]) ∧ Below V.heap.size V w') := fun V => by
    obtain ⟨rfl, rfl, rfl, rfl, rfl, rfl⟩ := HEza.out
    have e := doknown_any ⟨#[77, 51]⟩ V (by decide)
    rw [show knV (⟨#[77, 51]⟩ : ByteArray).data.toList = .tuple #[.agg #[.int .i8 0, .int .i8 0, .int .i8 0, .int .i8 0, .int .i8 0, .int .i8 0], .int .i64 6] by kernel_rfl] at e
    exact e
  have HSp : Hid (∀ V, Calls Try.prog 10 #[.agg #[.int .i8 sa0, .int .i8 sa1, .int .i8 sa2, .int .i8 sa3, .int .i8 sa4, .int .i8 sa5]] V fun e w' => e = .returned (.tuple #[.agg #[.int .i64 1, .int .i64 12], .int .i64 0]) ∧ Below V.heap.size V w') := fun V => by
    obtain ⟨rfl, rfl, rfl, rfl, rfl, rfl⟩ := HEsa.out
    have e := dospeed_ok (dvec 2 2 (-2) 0 0 0) V (by decide)
    rw [show circ (dV (dvec 2 2 (-2) 0 0 0)) = (1, 12, 0) by decide +kernel] at e
    exact e
  have HT1 : Hid (∀ V, Calls Try.prog 11 #[.agg #[.int .i8 ma0, .int .i8 ma1, .int .i8 ma2, .int .i8 ma3, .int .i8 ma4, .int .i8 ma5], .agg #[.int .i8 sa0, .int .i8 sa1, .int .i8 sa2, .int .i8 sa3, .int .i8 sa4, .int .i8 sa5]] V fun e w' => e = .returned (.tuple #[.agg #[.int .i8 pa0, .int .i8 pa1, .int .i8 pa2, .int .i8 pa3, .int .i8 pa4, .int .i8 pa5], .int .i64 0]) ∧ Below V.heap.size V w') := fun V => by
    obtain ⟨rfl, rfl, rfl, rfl, rfl, rfl⟩ := HEma.out; obtain ⟨rfl, rfl, rfl, rfl, rfl, rfl⟩ := HEsa.out; obtain ⟨rfl, rfl, rfl, rfl, rfl, rfl⟩ := HEpa.out
    have e := dotimes_any (dvec 2 0 0 0 0 0) (dvec 2 2 (-2) 0 0 0) V
    rw [show dJR (dvec 2 0 0 0 0 0) (dvec 2 2 (-2) 0 0 0) 1 = .tuple #[.agg #[.int .i8 4, .int .i8 2, .int .i8 (-2), .int .i8 0, .int .i8 0, .int .i8 0], .int .i64 0] from if_pos (by decide)] at e
    exact e
  have HT2 : Hid (∀ V, Calls Try.prog 11 #[.agg #[.int .i8 mb0, .int .i8 mb1, .int .i8 mb2, .int .i8 mb3, .int .i8 mb4, .int .i8 mb5], .agg #[.int .i8 ma0, .int .i8 ma1, .int .i8 ma2, .int .i8 ma3, .int .i8 ma4, .int .i8 ma5]] V fun e w' => e = .returned (.tuple #[.agg #[.int .i8 za0, .int .i8 za1, .int .i8 za2, .int .i8 za3, .int .i8 za4, .int .i8 za5], .int .i64 210]) ∧ Below V.heap.size V w') := fun V => by
    obtain ⟨rfl, rfl, rfl, rfl, rfl, rfl⟩ := HEmb.out; obtain ⟨rfl, rfl, rfl, rfl, rfl, rfl⟩ := HEma.out; obtain ⟨rfl, rfl, rfl, rfl, rfl, rfl⟩ := HEza.out
    have e := dotimes_any (dvec 4 0 0 0 0 0) (dvec 2 0 0 0 0 0) V
    rw [show dJR (dvec 4 0 0 0 0 0) (dvec 2 0 0 0 0 0) 1 = .tuple #[.agg #[.int .i8 0, .int .i8 0, .int .i8 0, .int .i8 0, .int .i8 0, .int .i8 0], .int .i64 210] from if_neg (by decide)] at e
    exact e
  have HI1 : Hid (∀ V, Calls Try.prog 12 #[.agg #[.int .i8 pa0, .int .i8 pa1, .int .i8 pa2, .int .i8 pa3, .int .i8 pa4, .int .i8 pa5]] V fun e w' => e = .returned (.tuple #[.int .i64 4, .int .i64 0]) ∧ Below V.heap.size V w') := fun V => by
    obtain ⟨rfl, rfl, rfl, rfl, rfl, rfl⟩ := HEpa.out
    have e := dospecies_any (dvec 4 2 (-2) 0 0 0) V
    rw [show dSp (dvec 4 2 (-2) 0 0 0) = .tuple #[.int .i64 4, .int .i64 0] from if_pos (by decide)] at e
    exact e
  have HI2 : Hid (∀ V, Calls Try.prog 12 #[.agg #[.int .i8 mc0, .int .i8 mc1, .int .i8 mc2, .int .i8 mc3, .int .i8 mc4, .int .i8 mc5]] V fun e w' => e = .returned (.tuple #[.int .i64 0, .int .i64 0]) ∧ Below V.heap.size V w') := fun V => by
    obtain ⟨rfl, rfl, rfl, rfl, rfl, rfl⟩ := HEmc.out
    have e := dospecies_any (dvec 0 2 0 0 0 0) V
    rw [show dSp (dvec 0 2 0 0 0 0) = .tuple #[.int .i64 0, .int .i64 0] from if_pos (by decide)] at e
    exact e
  have HP1 : Hid (∀ V, Calls Try.prog 13 #[.string ⟨#[57, 53, 53, 46, 53, 53, 53]⟩] V fun e w' => e = .returned (.tuple #[.agg #[.int .i8 mb0, .int .i8 mb1, .int .i8 mb2, .int .i8 mb3, .int .i8 mb4, .int .i8 mb5], .int .i64 0]) ∧ Below V.heap.size V w') := fun V => by
    obtain ⟨rfl, rfl, rfl, rfl, rfl, rfl⟩ := HEmb.out
    have e := doparse_any ⟨#[57, 53, 53, 46, 53, 53, 53]⟩ V
    rw [show dPr ⟨#[57, 53, 53, 46, 53, 53, 53]⟩ = .tuple #[.agg #[.int .i8 4, .int .i8 0, .int .i8 0, .int .i8 0, .int .i8 0, .int .i8 0], .int .i64 0] from if_pos (by decide)] at e
    exact e
  have HPt : Hid (∀ V, Calls Try.prog 14 #[.agg #[.int .i8 2, .int .i8 2, .int .i8 (-3), .int .i8 0, .int .i8 0, .int .i8 1]] V fun e w' => e = .returned (.tuple #[.string ⟨#[55, 55, 50, 46, 53, 53, 54]⟩, .int .i64 0]) ∧ Below V.heap.size V w') := fun V => by
    exact doprint_ok (dvec 2 2 (-3) 0 0 1) V (by decide)
  have HQ0 : Hid (∀ V, Calls Try.prog 13 #[.string ⟨#[]⟩] V fun e w' => e = .returned (.tuple #[.agg #[.int .i8 za0, .int .i8 za1, .int .i8 za2, .int .i8 za3, .int .i8 za4, .int .i8 za5], .int .i64 210]) ∧ Below V.heap.size V w') := fun V => by
    obtain ⟨rfl, rfl, rfl, rfl, rfl, rfl⟩ := HEza.out
    have e := doparse_any ⟨#[]⟩ V
    rw [show dPr ⟨#[]⟩ = .tuple #[.agg #[.int .i8 0, .int .i8 0, .int .i8 0, .int .i8 0, .int .i8 0, .int .i8 0], .int .i64 210] from if_neg (by decide)] at e
    exact e
  have HQ1 : Hid (∀ V, Calls Try.prog 13 #[.string ⟨#[55, 53, 53, 53, 53, 53]⟩] V fun e w' => e = .returned (.tuple #[.agg #[.int .i8 za0, .int .i8 za1, .int .i8 za2, .int .i8 za3, .int .i8 za4, .int .i8 za5], .int .i64 210]) ∧ Below V.heap.size V w') := fun V => by
    obtain ⟨rfl, rfl, rfl, rfl, rfl, rfl⟩ := HEza.out
    have e := doparse_any ⟨#[55, 53, 53, 53, 53, 53]⟩ V
    rw [show dPr ⟨#[55, 53, 53, 53, 53, 53]⟩ = .tuple #[.agg #[.int .i8 0, .int .i8 0, .int .i8 0, .int .i8 0, .int .i8 0, .int .i8 0], .int .i64 210] from if_neg (by decide)] at e
    exact e
  have HQ2 : Hid (∀ V, Calls Try.prog 13 #[.string ⟨#[55, 53, 46, 53, 53, 53, 53]⟩] V fun e w' => e = .returned (.tuple #[.agg #[.int .i8 za0, .int .i8 za1, .int .i8 za2, .int .i8 za3, .int .i8 za4, .int .i8 za5], .int .i64 210]) ∧ Below V.heap.size V w') := fun V => by
    obtain ⟨rfl, rfl, rfl, rfl, rfl, rfl⟩ := HEza.out
    have e := doparse_any ⟨#[55, 53, 46, 53, 53, 53, 53]⟩ V
    rw [show dPr ⟨#[55, 53, 46, 53, 53, 53, 53]⟩ = .tuple #[.agg #[.int .i8 0, .int .i8 0, .int .i8 0, .int .i8 0, .int .i8 0, .int .i8 0], .int .i64 210] from if_neg (by decide)] at e
    exact e
  have HQ3 : Hid (∀ V, Calls Try.prog 13 #[.string ⟨#[48, 53, 53, 46, 53, 53, 53]⟩] V fun e w' => e = .returned (.tuple #[.agg #[.int .i8 za0, .int .i8 za1, .int .i8 za2, .int .i8 za3, .int .i8 za4, .int .i8 za5], .int .i64 210]) ∧ Below V.heap.size V w') := fun V => by
    obtain ⟨rfl, rfl, rfl, rfl, rfl, rfl⟩ := HEza.out
    have e := doparse_any ⟨#[48, 53, 53, 46, 53, 53, 53]⟩ V
    rw [show dPr ⟨#[48, 53, 53, 46, 53, 53, 53]⟩ = .tuple #[.agg #[.int .i8 0, .int .i8 0, .int .i8 0, .int .i8 0, .int .i8 0, .int .i8 0], .int .i64 210] from if_neg (by decide)] at e
    exact e
  have HQ4 : Hid (∀ V, Calls Try.prog 13 #[.string ⟨#[55, 53, 53, 46, 53, 53, 53, 53]⟩] V fun e w' => e = .returned (.tuple #[.agg #[.int .i8 za0, .int .i8 za1, .int .i8 za2, .int .i8 za3, .int .i8 za4, .int .i8 za5], .int .i64 210]) ∧ Below V.heap.size V w') := fun V => by
    obtain ⟨rfl, rfl, rfl, rfl, rfl, rfl⟩ := HEza.out
    have e := doparse_any ⟨#[55, 53, 53, 46, 53, 53, 53, 53]⟩ V
    rw [show dPr ⟨#[55, 53, 53, 46, 53, 53, 53, 53]⟩ = .tuple #[.agg #[.int .i8 0, .int .i8 0, .int .i8 0, .int .i8 0, .int .i8 0, .int .i8 0], .int .i64 210] from if_neg (by decide)] at e
    exact e
  have HQ5 : Hid (∀ V, Calls Try.prog 13 #[.string ⟨#[55, 53, 53, 44, 53, 53, 53]⟩] V fun e w' => e = .returned (.tuple #[.agg #[.int .i8 za0, .int .i8 za1, .int .i8 za2, .int .i8 za3, .int .i8 za4, .int .i8 za5], .int .i64 210]) ∧ Below V.heap.size V w') := fun V => by
    obtain ⟨rfl, rfl, rfl, rfl, rfl, rfl⟩ := HEza.out
    have e := doparse_any ⟨#[55, 53, 53, 44, 53, 53, 53]⟩ V
    rw [show dPr ⟨#[55, 53, 53, 44, 53, 53, 53]⟩ = .tuple #[.agg #[.int .i8 0, .int .i8 0, .int .i8 0, .int .i8 0, .int .i8 0, .int .i8 0], .int .i64 210] from if_neg (by decide)] at e
    exact e
  have HF1 : Hid (∀ V, Calls Try.prog 15 #[.agg #[.int .i8 ma0, .int .i8 ma1, .int .i8 ma2, .int .i8 ma3, .int .i8 ma4, .int .i8 ma5], .int .i64 (-1)] V fun e w' => e = .returned (.tuple #[.agg #[.int .i64 0, .int .i64 0], .int .i64 2]) ∧ Below V.heap.size V w') := fun V => by
    obtain ⟨rfl, rfl, rfl, rfl, rfl, rfl⟩ := HEma.out
    exact dophase_tick (dvec 2 0 0 0 0 0) (-1) V (by decide) ⟨by decide, by decide⟩ (by decide)
  have HF2 : Hid (∀ V, Calls Try.prog 15 #[.agg #[.int .i8 ma0, .int .i8 ma1, .int .i8 ma2, .int .i8 ma3, .int .i8 ma4, .int .i8 ma5], .int .i64 1048577] V fun e w' => e = .returned (.tuple #[.agg #[.int .i64 0, .int .i64 0], .int .i64 2]) ∧ Below V.heap.size V w') := fun V => by
    obtain ⟨rfl, rfl, rfl, rfl, rfl, rfl⟩ := HEma.out
    exact dophase_tick (dvec 2 0 0 0 0 0) 1048577 V (by decide) ⟨by decide, by decide⟩ (by decide)
  have HCk : Hid (∀ V, Calls Try.prog 17 #[.agg #[.int .i8 5, .int .i8 0, .int .i8 0, .int .i8 0, .int .i8 0, .int .i8 0]] V fun e w' => e = .returned (.int .i64 210) ∧ Below V.heap.size V w') := fun V => by
    have e := docheck_any (dvec 5 0 0 0 0 0) V
    rw [dchk_no (by decide)] at e
    exact e
  have HX := hid (boxes1 w 4 #[.bool false])
  obtain ⟨X, hX⟩ : ∃ X, w.alloc (.cells #[.bool false] 4) = X := ⟨_, rfl⟩
  rw [hX] at HX
  have HBR := hid HX.out.1
  have HB := hid HX.out.2
  clear HX
  refine (callsIn_wide (n := 3)).1 ?_
  refine callsIn_of_wp_marks Try.func3 rfl trivial ?_ rfl
  simp only [Try.ntmps3, List.size_toArray, List.length_cons, List.length_nil, Nat.reduceAdd, Nat.reduceSub, Array.replicate_succ, Array.replicate_zero, List.push_toArray, List.append_toArray, List.nil_append, List.cons_append]
  gi_wp2
  clear hX
  refine ⟨trivial, ?_⟩
  refine (callsIn_wide.2 (HW.out _)).mono ?_
  rintro e U1 ⟨gw, rfl, hgw, hF, hb⟩
  replace HBR := hid (HBR.out.later hb HBR.out.lt)
  replace HB := hid (b2 HB.out hb)
  have HWC := hid hF
  clear hb hF hgw
  have HN := hid (boxes1 U1 22 #[.slice (some ⟨gw, 0, none⟩) 16 16])
  obtain ⟨U2, hW⟩ : ∃ z, U1.alloc (.cells #[.slice (some ⟨gw, 0, none⟩) 16 16] 22) = z := ⟨_, rfl⟩
  rw [hW] at HN
  replace HBR := hid (HBR.out.later HN.out.2 HBR.out.lt)
  replace HB := hid (b2 HB.out HN.out.2)
  replace HWC := hid (HWC.out.later HN.out.2 HWC.out.lt)
  have HWT := hid HN.out.1
  clear HN
  gi_wp2
  clear hW
  have n1 : w.heap.size < U2.heap.size := HBR.out.lt
  have n2 : U1.heap.size < U2.heap.size := HWT.out.lt
  have n3 : gw < U2.heap.size := HWC.out.lt
  have HN := hid (boxes1 U2 3 #[.int .i64 0])
  generalize U2.alloc (.cells #[.int .i64 0] 3) = U3 at *
  replace HBR := hid (HBR.out.later HN.out.2 HBR.out.lt)
  replace HB := hid (b2 HB.out HN.out.2)
  replace HWC := hid (HWC.out.later HN.out.2 HWC.out.lt)
  replace HWT := hid (HWT.out.later HN.out.2 HWT.out.lt)
  have HKK := hid HN.out.1
  have HUU := hid HN.out.2.size
  have HU3 := hid HN.out.1.lt
  clear HN
  refine ⟨trivial, ?_⟩
  refine (callsIn_wide.2 (HNN.out _)).mono ?_
  rintro e V1 ⟨pb, g, cap, rfl, hpb, hgg, hgl, hpF, hcells, hb⟩
  have HK : Hid (NmK w V1 U1.heap.size gw pb g cap) := ⟨HBR.out.later hb HBR.out.lt, HWT.out.later hb HWT.out.lt, HWC.out.later hb HWC.out.lt, hpF, hgl, hcells, b2 HB.out hb⟩
  replace HKK := hid (HKK.out.later hb HKK.out.lt)
  have hk0 := HKK.out.lt
  have n4 : U2.heap.size < pb := Nat.lt_of_lt_of_le HU3.out hpb
  have n5 : U2.heap.size < g := Nat.lt_of_lt_of_le HU3.out hgg
  have n6 : w.heap.size ≤ V1.heap.size := HK.out.bl.size
  generalize U2.heap.size = K0 at *
  generalize U1.heap.size = pw at *
  clear HBR HB HWC HWT HNN HW hpb hgg hgl hpF hcells hb HUU HU3
  gi_wp2
  refine dorangeK (s1 := 40) (s2 := 4) (Kp := fun A B => ∀ j, B.cell? ⟨g, j, none⟩ = A.cell? ⟨g, j, none⟩) rfl (enters_of Try.func23 (by kernel_rfl) rfl) (donames1_stopsK Fence.wide 2 trivial rfl (by decide) pb g cap V1 _ (fun A B h j => h j) HK.out.pB.lt HK.out.gl (HK.out.pB.cell 0) HK.out.gc)
    (fun h k j => (k j).trans (h j)) (fun W l o o' hl ho hc _ j => World.cell?_of_block (World.putObj_heap_other (show g ≠ l by have := HK.out.gl; omega)))
    (fun pre W => W.cell? ⟨K0, 0, none⟩ = some (.int .i64 (pre.length : Int)) ∧ W.frozen? ⟨K0, 0, none⟩ = false ∧ pre = (List.finRange 16).take pre.length ∧ KbR V1 W K0 ∧ Below w.heap.size w W)
    (fun c pre W => c = .ret ∧ pre ≠ (List.finRange 16).take pre.length)
    (fun s A B row hs hg hr => ⟨cell_kept hs.1 hg (fun r e => (hr r e).2), (frozen_kept hs.1 hg (fun r e => (hr r e).2)).trans hs.2.1, hs.2.2.1, hs.2.2.2.1.own hg (fun r e => (hr r e).1), hs.2.2.2.2.grown hg hs.2.2.2.2.size (fun k e => Nat.le_trans n6 (hr k e).1)⟩)
    (fun c s A B row hs hg hr => hs) ⟨HKK.out.cell 0, HKK.out.free 0, rfl, KbR.refl _ _, HK.out.bl⟩ ?assign ?body ?done ?stop
  case assign =>
    intro l x W K hK
    gi_wp2
    exact hK
  case body =>
    rintro l pre x W ⟨hc, hf, hp, hR, hB⟩ hlen
    have kR : W.cell? ⟨w.heap.size, 0, none⟩ = some (.bool false) := (hR.box HK.out.rs (by omega)).cell 0
    have kF := (hR.box HK.out.rs (by omega)).free 0
    have kW : W.cell? ⟨pw, 0, none⟩ = some (.slice (some ⟨gw, 0, none⟩) 16 16) := (hR.box HK.out.wt (by omega)).cell 0
    obtain ⟨L, hL⟩ : ∃ L : Nat, pre.length = L := ⟨_, rfl⟩
    rw [hL] at hc hp hlen
    have kC : W.cell? ⟨gw, L, none⟩ = some (.string ⟨(dnm L).toArray⟩) := ((hR.box HK.out.wc (by omega)).cell L).trans (doNV_at L hlen)
    have hix := fun V => dpidxn gw L V hlen
    have HC := hid hc
    have HF := hid hf
    have HBW := hid hB
    have HP := hid hp
    have HRW := hid hR
    have HLL := hid hL
    have HLN : Hid (((pre ++ [x]).length : Int) = (L : Int) + 1) := by show _ = _; rw [List.length_append, HLL.out]; rfl
    have hlm : ¬ 16 ≤ (L : Int) := by omega
    have hlm2 : (L : Int) < 16 := by omega
    have hw1 : IntKind.i64.wrap ((L : Int) + 1) = (L : Int) + 1 := by rw [IntKind.wrap_i64]; omega
    clear hB hp hL hf hR
    by_cases hx : x.val = L
    · have HUP : Hid (pre ++ [x] = (List.finRange 16).take (pre ++ [x]).length) := by
        show _ = _
        rw [List.length_append, HLL.out]
        show pre ++ [x] = (List.finRange 16).take (L + 1)
        rw [dofin_succ L hlen, ← HP.out]
        congr 2
        exact _root_.Fin.ext hx
      have kC2 : W.cell? ⟨gw, L, none⟩ = some (.string ⟨(dnm x.val).toArray⟩) := by rw [hx]; exact kC
      have HA1 := hid (fun V => doknown_any ⟨(dnm x.val).toArray⟩ V (dnm_size x))
      have HA2 := hid (fun V => dpknown_any ⟨(dnm x.val).toArray⟩ V)
      have HA3 := hid (fun V => doname_any (drow x.val) V)
      rw [knV_nm x.val x.2] at HA1 HA2
      rw [dNm_row x.val x.2] at HA3
      unfold doA at HA1 HA2 HA3
      clear kC hx
      generalize (⟨(dnm x.val).toArray⟩ : ByteArray) = T at *
      generalize drow x.val 0 = r0 at HA1 HA2 HA3
      generalize drow x.val 1 = r1 at HA1 HA2 HA3
      generalize drow x.val 2 = r2 at HA1 HA2 HA3
      generalize drow x.val 3 = r3 at HA1 HA2 HA3
      generalize drow x.val 4 = r4 at HA1 HA2 HA3
      generalize drow x.val 5 = r5 at HA1 HA2 HA3
      have hxe : (T.toList == T.toList) = true := by simp
      gi_wp2
      refine ⟨trivial, ?_⟩
      refine (CallsIn.inRound l (callsIn_wide.2 (HA1.out _))).mono ?_
      rintro e b1 ⟨rfl, hb⟩
      have HN := hid (boxes1 b1 29 #[.int .i8 r0, .int .i8 r1, .int .i8 r2, .int .i8 r3, .int .i8 r4, .int .i8 r5])
      obtain ⟨b3, hW⟩ : ∃ z, b1.alloc (.cells #[.int .i8 r0, .int .i8 r1, .int .i8 r2, .int .i8 r3, .int .i8 r4, .int .i8 r5] 29) = z := ⟨_, rfl⟩
      rw [hW] at HN
      have HW3 := hid (b2 hb HN.out.2)
      have HX3 := hid HN.out.1
      clear hb HN kC2 kW kR kF hc
      gi_wp2
      clear hW
      refine ⟨trivial, ?_⟩
      refine (CallsIn.inRound l (callsIn_wide.2 (HA2.out _))).mono ?_
      rintro e b4 ⟨rfl, hb⟩
      have HN := hid (boxes1 b4 29 #[.int .i8 r0, .int .i8 r1, .int .i8 r2, .int .i8 r3, .int .i8 r4, .int .i8 r5])
      obtain ⟨b5, hW⟩ : ∃ z, b4.alloc (.cells #[.int .i8 r0, .int .i8 r1, .int .i8 r2, .int .i8 r3, .int .i8 r4, .int .i8 r5] 29) = z := ⟨_, rfl⟩
      rw [hW] at HN
      have HW5 := hid (b2 HW3.out (b2 hb HN.out.2))
      have HX5 := hid (HX3.out.later (b2 hb HN.out.2) HX3.out.lt)
      have HY5 := hid HN.out.1
      clear hb HN HX3 HW3
      obtain ⟨q0, q1, q2, q3, q4, q5⟩ := box6 HX5.out (Below.refl _ _)
      gi_wp2
      clear hW q0 q1 q2 q3 q4 q5
      refine ⟨trivial, ?_⟩
      refine (CallsIn.inRound l (callsIn_wide.2 (HA3.out _))).mono ?_
      rintro e b6 ⟨rfl, hb⟩
      have HW6 := hid (b2 HW5.out hb)
      obtain ⟨q0, q1, q2, q3, q4, q5⟩ := box6 HX5.out hb
      obtain ⟨p0, p1, p2, p3, p4, p5⟩ := box6 HY5.out hb
      have hcl : W.heap.size ≤ b6.heap.size := HW6.out.size
      have hk1 : K0 < W.heap.size := Nat.lt_of_lt_of_le hk0 HRW.out.size
      have kc : b6.cell? ⟨K0, 0, none⟩ = some (.int .i64 (L : Int)) := (HW6.out.cell (p := ⟨K0, 0, none⟩) hk1).trans HC.out
      have kf : b6.frozen? ⟨K0, 0, none⟩ = false := (HW6.out.frozen (p := ⟨K0, 0, none⟩) hk1).trans HF.out
      clear hb
      gi_wp2
      refine ⟨(keeps_below HW6.out).trans (KeepsOthers.setCell _ _ _), fun j => ?_, by rw [HLN.out]; exact World.cell?_setCell_same' _ _ _ (by rw [kc]; rfl), by rw [World.frozen?_setCell]; exact kf, HUP.out, (HRW.out.later HW6.out).put 0 _, (HBW.out.trans (HW6.out.mono HBW.out.size)).setCell (p := ⟨K0, 0, none⟩) (Nat.le_of_lt n1) _⟩
      have hgW : g < W.heap.size := Nat.lt_of_lt_of_le HK.out.gl HRW.out.size
      exact (World.cell?_of_block (Below.heap_setCell _ _ _ _ (by show g ≠ K0; omega))).trans (HW6.out.cell (p := ⟨g, j, none⟩) hgW)
    · have HUP : Hid (pre ++ [x] ≠ (List.finRange 16).take (pre ++ [x]).length) := by
        intro e
        rw [List.length_append, HLL.out] at e
        have e2 : pre ++ [x] = (List.finRange 16).take (L + 1) := e
        rw [dofin_succ L hlen, ← HP.out] at e2
        have e3 := List.append_cancel_left e2
        simp at e3
        exact hx (by rw [e3])
      have hxe : ((⟨(dnm x.val).toArray⟩ : ByteArray).toList == (⟨(dnm L).toArray⟩ : ByteArray).toList) = false := agstr_other (fun e => hx (by
        have e2 : dnm x.val = dnm L := by
          have := congrArg (fun b : ByteArray => b.data.toList) e
          simpa using this
        exact congrArg _root_.Fin.val (dnm_inj x ⟨L, hlen⟩ e2)))
      generalize (⟨(dnm L).toArray⟩ : ByteArray) = T2 at kC hxe
      generalize (⟨(dnm x.val).toArray⟩ : ByteArray) = T1 at *
      clear hx
      gi_wp2
      exact ⟨KeepsOthers.setCell _ _ _, ⟨rfl, HUP.out⟩⟩
  case stop =>
    rintro D c pre W hD hSp hIx hKD
    obtain ⟨k, hk, hpre⟩ := hSp
    refine absurd ?_ hIx.2
    rw [hpre, List.length_take, List.length_finRange, Nat.min_eq_left hk]
  case done =>
    rintro D xs W hD rfl ⟨hc, hf, hp, hR, hB⟩ hKD
    rw [List.length_finRange] at hc
    have HBR : Hid (FBox W w.heap.size 4 #[.bool false]) := hR.box HK.out.rs (by omega)
    have HBK : Hid (W.cell? ⟨K0, 0, none⟩ = some (.int .i64 16)) := hc
    have HB := hid hB
    have HD := hid hKD
    have hDl : w.heap.size ≤ D := Nat.le_trans n6 hD
    have hkW : K0 < W.heap.size := Nat.lt_of_lt_of_le hk0 hR.size
    clear hc hf hp hR hB hKD HK HKK hD
    gi_wp2
    refine ⟨trivial, ?_⟩
    refine (callsIn_wide.2 (HKs.out _)).mono ?_
    rintro e y1_ ⟨rfl, hb⟩
    replace HBR := hid (HBR.out.later hb HBR.out.lt)
    replace HD := hid (dodefer_later HD.out hb)
    replace HBK := hid ((hb.cell (p := ⟨K0, 0, none⟩) hkW).trans HBK.out)
    replace hkW := Nat.lt_of_lt_of_le hkW hb.size
    replace HB := hid (HB.out.trans (hb.mono HB.out.size))
    clear hb
    have HN := hid (boxes1 y1_ 29 #[.int .i8 sa0, .int .i8 sa1, .int .i8 sa2, .int .i8 sa3, .int .i8 sa4, .int .i8 sa5])
    obtain ⟨y2_, hW⟩ : ∃ z, y1_.alloc (.cells #[.int .i8 sa0, .int .i8 sa1, .int .i8 sa2, .int .i8 sa3, .int .i8 sa4, .int .i8 sa5] 29) = z := ⟨_, rfl⟩
    rw [hW] at HN
    replace HBR := hid (HBR.out.later HN.out.2 HBR.out.lt)
    replace HD := hid (dodefer_later HD.out HN.out.2)
    replace HBK := hid ((HN.out.2.cell (p := ⟨K0, 0, none⟩) hkW).trans HBK.out)
    replace hkW := Nat.lt_of_lt_of_le hkW HN.out.2.size
    replace HB := hid (HB.out.trans (HN.out.2.mono HB.out.size))
    have HBS := hid HN.out.1
    clear HN
    gi_wp2
    clear hW
    refine ⟨trivial, ?_⟩
    refine (callsIn_wide.2 (HKm.out _)).mono ?_
    rintro e y3_ ⟨rfl, hb⟩
    replace HBS := hid (HBS.out.later hb HBS.out.lt)
    replace HBR := hid (HBR.out.later hb HBR.out.lt)
    replace HD := hid (dodefer_later HD.out hb)
    replace HBK := hid ((hb.cell (p := ⟨K0, 0, none⟩) hkW).trans HBK.out)
    replace hkW := Nat.lt_of_lt_of_le hkW hb.size
    replace HB := hid (HB.out.trans (hb.mono HB.out.size))
    clear hb
    have HN := hid (boxes1 y3_ 29 #[.int .i8 ma0, .int .i8 ma1, .int .i8 ma2, .int .i8 ma3, .int .i8 ma4, .int .i8 ma5])
    obtain ⟨y4_, hW⟩ : ∃ z, y3_.alloc (.cells #[.int .i8 ma0, .int .i8 ma1, .int .i8 ma2, .int .i8 ma3, .int .i8 ma4, .int .i8 ma5] 29) = z := ⟨_, rfl⟩
    rw [hW] at HN
    replace HBS := hid (HBS.out.later HN.out.2 HBS.out.lt)
    replace HBR := hid (HBR.out.later HN.out.2 HBR.out.lt)
    replace HD := hid (dodefer_later HD.out HN.out.2)
    replace HBK := hid ((HN.out.2.cell (p := ⟨K0, 0, none⟩) hkW).trans HBK.out)
    replace hkW := Nat.lt_of_lt_of_le hkW HN.out.2.size
    replace HB := hid (HB.out.trans (HN.out.2.mono HB.out.size))
    have HBM := hid HN.out.1
    clear HN
    gi_wp2
    clear hW
    refine ⟨trivial, ?_⟩
    refine (callsIn_wide.2 (HK4.out _)).mono ?_
    rintro e y5_ ⟨rfl, hb⟩
    replace HBS := hid (HBS.out.later hb HBS.out.lt)
    replace HBM := hid (HBM.out.later hb HBM.out.lt)
    replace HBR := hid (HBR.out.later hb HBR.out.lt)
    replace HD := hid (dodefer_later HD.out hb)
    replace HBK := hid ((hb.cell (p := ⟨K0, 0, none⟩) hkW).trans HBK.out)
    replace hkW := Nat.lt_of_lt_of_le hkW hb.size
    replace HB := hid (HB.out.trans (hb.mono HB.out.size))
    clear hb
    have HN := hid (boxes1 y5_ 29 #[.int .i8 mb0, .int .i8 mb1, .int .i8 mb2, .int .i8 mb3, .int .i8 mb4, .int .i8 mb5])
    obtain ⟨y6_, hW⟩ : ∃ z, y5_.alloc (.cells #[.int .i8 mb0, .int .i8 mb1, .int .i8 mb2, .int .i8 mb3, .int .i8 mb4, .int .i8 mb5] 29) = z := ⟨_, rfl⟩
    rw [hW] at HN
    replace HBS := hid (HBS.out.later HN.out.2 HBS.out.lt)
    replace HBM := hid (HBM.out.later HN.out.2 HBM.out.lt)
    replace HBR := hid (HBR.out.later HN.out.2 HBR.out.lt)
    replace HD := hid (dodefer_later HD.out HN.out.2)
    replace HBK := hid ((HN.out.2.cell (p := ⟨K0, 0, none⟩) hkW).trans HBK.out)
    replace hkW := Nat.lt_of_lt_of_le hkW HN.out.2.size
    replace HB := hid (HB.out.trans (HN.out.2.mono HB.out.size))
    have HBF := hid HN.out.1
    clear HN
    gi_wp2
    clear hW
    refine ⟨trivial, ?_⟩
    refine (callsIn_wide.2 (HKf.out _)).mono ?_
    rintro e y7_ ⟨rfl, hb⟩
    replace HBS := hid (HBS.out.later hb HBS.out.lt)
    replace HBM := hid (HBM.out.later hb HBM.out.lt)
    replace HBF := hid (HBF.out.later hb HBF.out.lt)
    replace HBR := hid (HBR.out.later hb HBR.out.lt)
    replace HD := hid (dodefer_later HD.out hb)
    replace HBK := hid ((hb.cell (p := ⟨K0, 0, none⟩) hkW).trans HBK.out)
    replace hkW := Nat.lt_of_lt_of_le hkW hb.size
    replace HB := hid (HB.out.trans (hb.mono HB.out.size))
    clear hb
    have HN := hid (boxes1 y7_ 29 #[.int .i8 mc0, .int .i8 mc1, .int .i8 mc2, .int .i8 mc3, .int .i8 mc4, .int .i8 mc5])
    obtain ⟨y8_, hW⟩ : ∃ z, y7_.alloc (.cells #[.int .i8 mc0, .int .i8 mc1, .int .i8 mc2, .int .i8 mc3, .int .i8 mc4, .int .i8 mc5] 29) = z := ⟨_, rfl⟩
    rw [hW] at HN
    replace HBS := hid (HBS.out.later HN.out.2 HBS.out.lt)
    replace HBM := hid (HBM.out.later HN.out.2 HBM.out.lt)
    replace HBF := hid (HBF.out.later HN.out.2 HBF.out.lt)
    replace HBR := hid (HBR.out.later HN.out.2 HBR.out.lt)
    replace HD := hid (dodefer_later HD.out HN.out.2)
    replace HBK := hid ((HN.out.2.cell (p := ⟨K0, 0, none⟩) hkW).trans HBK.out)
    replace hkW := Nat.lt_of_lt_of_le hkW HN.out.2.size
    replace HB := hid (HB.out.trans (HN.out.2.mono HB.out.size))
    have HBG := hid HN.out.1
    clear HN
    obtain ⟨cS0, cS1, cS2, cS3, cS4, cS5⟩ := box6 HBS.out (Below.refl _ _)
    gi_wp2
    clear hW
    refine ⟨trivial, ?_⟩
    refine (callsIn_wide.2 (HSp.out _)).mono ?_
    rintro e y9_ ⟨rfl, hb⟩
    clear cS0 cS1 cS2 cS3 cS4 cS5
    replace HBS := hid (HBS.out.later hb HBS.out.lt)
    replace HBM := hid (HBM.out.later hb HBM.out.lt)
    replace HBF := hid (HBF.out.later hb HBF.out.lt)
    replace HBG := hid (HBG.out.later hb HBG.out.lt)
    replace HBR := hid (HBR.out.later hb HBR.out.lt)
    replace HD := hid (dodefer_later HD.out hb)
    replace HBK := hid ((hb.cell (p := ⟨K0, 0, none⟩) hkW).trans HBK.out)
    replace hkW := Nat.lt_of_lt_of_le hkW hb.size
    replace HB := hid (HB.out.trans (hb.mono HB.out.size))
    clear hb
    have HN := hid (boxes1 y9_ 36 #[.int .i64 1, .int .i64 12])
    obtain ⟨y10_, hW⟩ : ∃ z, y9_.alloc (.cells #[.int .i64 1, .int .i64 12] 36) = z := ⟨_, rfl⟩
    rw [hW] at HN
    replace HBS := hid (HBS.out.later HN.out.2 HBS.out.lt)
    replace HBM := hid (HBM.out.later HN.out.2 HBM.out.lt)
    replace HBF := hid (HBF.out.later HN.out.2 HBF.out.lt)
    replace HBG := hid (HBG.out.later HN.out.2 HBG.out.lt)
    replace HBR := hid (HBR.out.later HN.out.2 HBR.out.lt)
    replace HD := hid (dodefer_later HD.out HN.out.2)
    replace HBK := hid ((HN.out.2.cell (p := ⟨K0, 0, none⟩) hkW).trans HBK.out)
    replace hkW := Nat.lt_of_lt_of_le hkW HN.out.2.size
    replace HB := hid (HB.out.trans (HN.out.2.mono HB.out.size))
    have HBV := hid HN.out.1
    clear HN
    obtain ⟨cM0, cM1, cM2, cM3, cM4, cM5⟩ := box6 HBM.out (Below.refl _ _)
    obtain ⟨cS0, cS1, cS2, cS3, cS4, cS5⟩ := box6 HBS.out (Below.refl _ _)
    gi_wp2
    clear hW
    refine ⟨trivial, ?_⟩
    refine (callsIn_wide.2 (HT1.out _)).mono ?_
    rintro e y11_ ⟨rfl, hb⟩
    clear cM0 cM1 cM2 cM3 cM4 cM5 cS0 cS1 cS2 cS3 cS4 cS5
    replace HBS := hid (HBS.out.later hb HBS.out.lt)
    replace HBM := hid (HBM.out.later hb HBM.out.lt)
    replace HBF := hid (HBF.out.later hb HBF.out.lt)
    replace HBG := hid (HBG.out.later hb HBG.out.lt)
    replace HBV := hid (HBV.out.later hb HBV.out.lt)
    replace HBR := hid (HBR.out.later hb HBR.out.lt)
    replace HD := hid (dodefer_later HD.out hb)
    replace HBK := hid ((hb.cell (p := ⟨K0, 0, none⟩) hkW).trans HBK.out)
    replace hkW := Nat.lt_of_lt_of_le hkW hb.size
    replace HB := hid (HB.out.trans (hb.mono HB.out.size))
    clear hb
    have HN := hid (boxes1 y11_ 29 #[.int .i8 pa0, .int .i8 pa1, .int .i8 pa2, .int .i8 pa3, .int .i8 pa4, .int .i8 pa5])
    obtain ⟨y12_, hW⟩ : ∃ z, y11_.alloc (.cells #[.int .i8 pa0, .int .i8 pa1, .int .i8 pa2, .int .i8 pa3, .int .i8 pa4, .int .i8 pa5] 29) = z := ⟨_, rfl⟩
    rw [hW] at HN
    replace HBS := hid (HBS.out.later HN.out.2 HBS.out.lt)
    replace HBM := hid (HBM.out.later HN.out.2 HBM.out.lt)
    replace HBF := hid (HBF.out.later HN.out.2 HBF.out.lt)
    replace HBG := hid (HBG.out.later HN.out.2 HBG.out.lt)
    replace HBV := hid (HBV.out.later HN.out.2 HBV.out.lt)
    replace HBR := hid (HBR.out.later HN.out.2 HBR.out.lt)
    replace HD := hid (dodefer_later HD.out HN.out.2)
    replace HBK := hid ((HN.out.2.cell (p := ⟨K0, 0, none⟩) hkW).trans HBK.out)
    replace hkW := Nat.lt_of_lt_of_le hkW HN.out.2.size
    replace HB := hid (HB.out.trans (HN.out.2.mono HB.out.size))
    have HBP := hid HN.out.1
    clear HN
    obtain ⟨cF0, cF1, cF2, cF3, cF4, cF5⟩ := box6 HBF.out (Below.refl _ _)
    obtain ⟨cM0, cM1, cM2, cM3, cM4, cM5⟩ := box6 HBM.out (Below.refl _ _)
    gi_wp2
    clear hW
    refine ⟨trivial, ?_⟩
    refine (callsIn_wide.2 (HT2.out _)).mono ?_
    rintro e y13_ ⟨rfl, hb⟩
    clear cF0 cF1 cF2 cF3 cF4 cF5 cM0 cM1 cM2 cM3 cM4 cM5
    replace HBS := hid (HBS.out.later hb HBS.out.lt)
    replace HBM := hid (HBM.out.later hb HBM.out.lt)
    replace HBF := hid (HBF.out.later hb HBF.out.lt)
    replace HBG := hid (HBG.out.later hb HBG.out.lt)
    replace HBV := hid (HBV.out.later hb HBV.out.lt)
    replace HBP := hid (HBP.out.later hb HBP.out.lt)
    replace HBR := hid (HBR.out.later hb HBR.out.lt)
    replace HD := hid (dodefer_later HD.out hb)
    replace HBK := hid ((hb.cell (p := ⟨K0, 0, none⟩) hkW).trans HBK.out)
    replace hkW := Nat.lt_of_lt_of_le hkW hb.size
    replace HB := hid (HB.out.trans (hb.mono HB.out.size))
    clear hb
    have HN := hid (boxes1 y13_ 29 #[.int .i8 za0, .int .i8 za1, .int .i8 za2, .int .i8 za3, .int .i8 za4, .int .i8 za5])
    obtain ⟨y14_, hW⟩ : ∃ z, y13_.alloc (.cells #[.int .i8 za0, .int .i8 za1, .int .i8 za2, .int .i8 za3, .int .i8 za4, .int .i8 za5] 29) = z := ⟨_, rfl⟩
    rw [hW] at HN
    replace HBS := hid (HBS.out.later HN.out.2 HBS.out.lt)
    replace HBM := hid (HBM.out.later HN.out.2 HBM.out.lt)
    replace HBF := hid (HBF.out.later HN.out.2 HBF.out.lt)
    replace HBG := hid (HBG.out.later HN.out.2 HBG.out.lt)
    replace HBV := hid (HBV.out.later HN.out.2 HBV.out.lt)
    replace HBP := hid (HBP.out.later HN.out.2 HBP.out.lt)
    replace HBR := hid (HBR.out.later HN.out.2 HBR.out.lt)
    replace HD := hid (dodefer_later HD.out HN.out.2)
    replace HBK := hid ((HN.out.2.cell (p := ⟨K0, 0, none⟩) hkW).trans HBK.out)
    replace hkW := Nat.lt_of_lt_of_le hkW HN.out.2.size
    replace HB := hid (HB.out.trans (HN.out.2.mono HB.out.size))
    clear HN
    obtain ⟨cP0, cP1, cP2, cP3, cP4, cP5⟩ := box6 HBP.out (Below.refl _ _)
    gi_wp2
    clear hW
    refine ⟨trivial, ?_⟩
    refine (callsIn_wide.2 (HI1.out _)).mono ?_
    rintro e y15_ ⟨rfl, hb⟩
    clear cP0 cP1 cP2 cP3 cP4 cP5
    replace HBS := hid (HBS.out.later hb HBS.out.lt)
    replace HBM := hid (HBM.out.later hb HBM.out.lt)
    replace HBF := hid (HBF.out.later hb HBF.out.lt)
    replace HBG := hid (HBG.out.later hb HBG.out.lt)
    replace HBV := hid (HBV.out.later hb HBV.out.lt)
    replace HBP := hid (HBP.out.later hb HBP.out.lt)
    replace HBR := hid (HBR.out.later hb HBR.out.lt)
    replace HD := hid (dodefer_later HD.out hb)
    replace HBK := hid ((hb.cell (p := ⟨K0, 0, none⟩) hkW).trans HBK.out)
    replace hkW := Nat.lt_of_lt_of_le hkW hb.size
    replace HB := hid (HB.out.trans (hb.mono HB.out.size))
    clear hb
    obtain ⟨cG0, cG1, cG2, cG3, cG4, cG5⟩ := box6 HBG.out (Below.refl _ _)
    gi_wp2
    refine ⟨trivial, ?_⟩
    refine (callsIn_wide.2 (HI2.out _)).mono ?_
    rintro e y16_ ⟨rfl, hb⟩
    clear cG0 cG1 cG2 cG3 cG4 cG5
    replace HBS := hid (HBS.out.later hb HBS.out.lt)
    replace HBM := hid (HBM.out.later hb HBM.out.lt)
    replace HBF := hid (HBF.out.later hb HBF.out.lt)
    replace HBG := hid (HBG.out.later hb HBG.out.lt)
    replace HBV := hid (HBV.out.later hb HBV.out.lt)
    replace HBP := hid (HBP.out.later hb HBP.out.lt)
    replace HBR := hid (HBR.out.later hb HBR.out.lt)
    replace HD := hid (dodefer_later HD.out hb)
    replace HBK := hid ((hb.cell (p := ⟨K0, 0, none⟩) hkW).trans HBK.out)
    replace hkW := Nat.lt_of_lt_of_le hkW hb.size
    replace HB := hid (HB.out.trans (hb.mono HB.out.size))
    clear hb
    gi_wp2
    refine ⟨trivial, ?_⟩
    refine (callsIn_wide.2 (HP1.out _)).mono ?_
    rintro e y17_ ⟨rfl, hb⟩
    replace HBS := hid (HBS.out.later hb HBS.out.lt)
    replace HBM := hid (HBM.out.later hb HBM.out.lt)
    replace HBF := hid (HBF.out.later hb HBF.out.lt)
    replace HBG := hid (HBG.out.later hb HBG.out.lt)
    replace HBV := hid (HBV.out.later hb HBV.out.lt)
    replace HBP := hid (HBP.out.later hb HBP.out.lt)
    replace HBR := hid (HBR.out.later hb HBR.out.lt)
    replace HD := hid (dodefer_later HD.out hb)
    replace HBK := hid ((hb.cell (p := ⟨K0, 0, none⟩) hkW).trans HBK.out)
    replace hkW := Nat.lt_of_lt_of_le hkW hb.size
    replace HB := hid (HB.out.trans (hb.mono HB.out.size))
    clear hb
    have HN := hid (boxes1 y17_ 29 #[.int .i8 mb0, .int .i8 mb1, .int .i8 mb2, .int .i8 mb3, .int .i8 mb4, .int .i8 mb5])
    obtain ⟨y18_, hW⟩ : ∃ z, y17_.alloc (.cells #[.int .i8 mb0, .int .i8 mb1, .int .i8 mb2, .int .i8 mb3, .int .i8 mb4, .int .i8 mb5] 29) = z := ⟨_, rfl⟩
    rw [hW] at HN
    replace HBS := hid (HBS.out.later HN.out.2 HBS.out.lt)
    replace HBM := hid (HBM.out.later HN.out.2 HBM.out.lt)
    replace HBF := hid (HBF.out.later HN.out.2 HBF.out.lt)
    replace HBG := hid (HBG.out.later HN.out.2 HBG.out.lt)
    replace HBV := hid (HBV.out.later HN.out.2 HBV.out.lt)
    replace HBP := hid (HBP.out.later HN.out.2 HBP.out.lt)
    replace HBR := hid (HBR.out.later HN.out.2 HBR.out.lt)
    replace HD := hid (dodefer_later HD.out HN.out.2)
    replace HBK := hid ((HN.out.2.cell (p := ⟨K0, 0, none⟩) hkW).trans HBK.out)
    replace hkW := Nat.lt_of_lt_of_le hkW HN.out.2.size
    replace HB := hid (HB.out.trans (HN.out.2.mono HB.out.size))
    have HBQ := hid HN.out.1
    clear HN
    gi_wp2
    clear hW
    refine ⟨trivial, ?_⟩
    refine (callsIn_wide.2 (HPt.out _)).mono ?_
    rintro e y19_ ⟨rfl, hb⟩
    replace HBS := hid (HBS.out.later hb HBS.out.lt)
    replace HBM := hid (HBM.out.later hb HBM.out.lt)
    replace HBF := hid (HBF.out.later hb HBF.out.lt)
    replace HBG := hid (HBG.out.later hb HBG.out.lt)
    replace HBV := hid (HBV.out.later hb HBV.out.lt)
    replace HBP := hid (HBP.out.later hb HBP.out.lt)
    replace HBQ := hid (HBQ.out.later hb HBQ.out.lt)
    replace HBR := hid (HBR.out.later hb HBR.out.lt)
    replace HD := hid (dodefer_later HD.out hb)
    replace HBK := hid ((hb.cell (p := ⟨K0, 0, none⟩) hkW).trans HBK.out)
    replace hkW := Nat.lt_of_lt_of_le hkW hb.size
    replace HB := hid (HB.out.trans (hb.mono HB.out.size))
    clear hb
    obtain ⟨cV0, cV1, _, _⟩ := fbox_facts HBV.out (Below.refl _ _)
    obtain ⟨cP0, cP1, cP2, cP3, cP4, cP5⟩ := box6 HBP.out (Below.refl _ _)
    obtain ⟨cQ0, cQ1, cQ2, cQ3, cQ4, cQ5⟩ := box6 HBQ.out (Below.refl _ _)
    obtain ⟨cF0, cF1, cF2, cF3, cF4, cF5⟩ := box6 HBF.out (Below.refl _ _)
    obtain ⟨rfl, rfl, rfl, rfl, rfl, rfl⟩ := HEpa.out
    gi_wp2
    clear cV0 cV1 cP0 cP1 cP2 cP3 cP4 cP5 cQ0 cQ1 cQ2 cQ3 cQ4 cQ5 cF0 cF1 cF2 cF3 cF4 cF5
    have HN := hid (boxes1 y19_ 9 #[.string ⟨#[]⟩, .string ⟨#[55, 53, 53, 53, 53, 53]⟩, .string ⟨#[55, 53, 46, 53, 53, 53, 53]⟩, .string ⟨#[48, 53, 53, 46, 53, 53, 53]⟩, .string ⟨#[55, 53, 53, 46, 53, 53, 53, 53]⟩, .string ⟨#[55, 53, 53, 44, 53, 53, 53]⟩])
    generalize y19_.alloc (.cells #[.string ⟨#[]⟩, .string ⟨#[55, 53, 53, 53, 53, 53]⟩, .string ⟨#[55, 53, 46, 53, 53, 53, 53]⟩, .string ⟨#[48, 53, 53, 46, 53, 53, 53]⟩, .string ⟨#[55, 53, 53, 46, 53, 53, 53, 53]⟩, .string ⟨#[55, 53, 53, 44, 53, 53, 53]⟩] 9) = y20_ at *
    replace HBS := hid (HBS.out.later HN.out.2 HBS.out.lt)
    replace HBM := hid (HBM.out.later HN.out.2 HBM.out.lt)
    replace HBF := hid (HBF.out.later HN.out.2 HBF.out.lt)
    replace HBG := hid (HBG.out.later HN.out.2 HBG.out.lt)
    replace HBV := hid (HBV.out.later HN.out.2 HBV.out.lt)
    replace HBP := hid (HBP.out.later HN.out.2 HBP.out.lt)
    replace HBQ := hid (HBQ.out.later HN.out.2 HBQ.out.lt)
    replace HBR := hid (HBR.out.later HN.out.2 HBR.out.lt)
    replace HD := hid (dodefer_later HD.out HN.out.2)
    replace HBK := hid ((HN.out.2.cell (p := ⟨K0, 0, none⟩) hkW).trans HBK.out)
    replace hkW := Nat.lt_of_lt_of_le hkW HN.out.2.size
    replace HB := hid (HB.out.trans (HN.out.2.mono HB.out.size))
    have HBL := hid HN.out.1
    clear HN
    generalize y19_.heap.size = bl at HBL ⊢
    refine wpIn_loop_rounds 7 ?_
    rw [roundsIn_succ]
    have kl : y20_.cell? ⟨bl, 0, none⟩ = some (.string ⟨#[]⟩) := HBL.out.cell 0
    gi_wp2
    clear kl
    refine ⟨trivial, ?_⟩
    refine (callsIn_wide.2 (HQ0.out _)).mono ?_
    rintro e y21_ ⟨rfl, hb⟩
    replace HBS := hid (HBS.out.later hb HBS.out.lt)
    replace HBM := hid (HBM.out.later hb HBM.out.lt)
    replace HBF := hid (HBF.out.later hb HBF.out.lt)
    replace HBG := hid (HBG.out.later hb HBG.out.lt)
    replace HBV := hid (HBV.out.later hb HBV.out.lt)
    replace HBP := hid (HBP.out.later hb HBP.out.lt)
    replace HBQ := hid (HBQ.out.later hb HBQ.out.lt)
    replace HBL := hid (HBL.out.later hb HBL.out.lt)
    replace HBR := hid (HBR.out.later hb HBR.out.lt)
    replace HD := hid (dodefer_later HD.out hb)
    replace HBK := hid ((hb.cell (p := ⟨K0, 0, none⟩) hkW).trans HBK.out)
    replace hkW := Nat.lt_of_lt_of_le hkW hb.size
    replace HB := hid (HB.out.trans (hb.mono HB.out.size))
    clear hb
    have HN := hid (boxes1 y21_ 29 #[.int .i8 za0, .int .i8 za1, .int .i8 za2, .int .i8 za3, .int .i8 za4, .int .i8 za5])
    obtain ⟨y22_, hW⟩ : ∃ z, y21_.alloc (.cells #[.int .i8 za0, .int .i8 za1, .int .i8 za2, .int .i8 za3, .int .i8 za4, .int .i8 za5] 29) = z := ⟨_, rfl⟩
    rw [hW] at HN
    replace HBS := hid (HBS.out.later HN.out.2 HBS.out.lt)
    replace HBM := hid (HBM.out.later HN.out.2 HBM.out.lt)
    replace HBF := hid (HBF.out.later HN.out.2 HBF.out.lt)
    replace HBG := hid (HBG.out.later HN.out.2 HBG.out.lt)
    replace HBV := hid (HBV.out.later HN.out.2 HBV.out.lt)
    replace HBP := hid (HBP.out.later HN.out.2 HBP.out.lt)
    replace HBQ := hid (HBQ.out.later HN.out.2 HBQ.out.lt)
    replace HBL := hid (HBL.out.later HN.out.2 HBL.out.lt)
    replace HBR := hid (HBR.out.later HN.out.2 HBR.out.lt)
    replace HD := hid (dodefer_later HD.out HN.out.2)
    replace HBK := hid ((HN.out.2.cell (p := ⟨K0, 0, none⟩) hkW).trans HBK.out)
    replace hkW := Nat.lt_of_lt_of_le hkW HN.out.2.size
    replace HB := hid (HB.out.trans (HN.out.2.mono HB.out.size))
    clear HN
    gi_wp2
    clear hW
    rw [roundsIn_succ]
    have kl : y22_.cell? ⟨bl, 1, none⟩ = some (.string ⟨#[55, 53, 53, 53, 53, 53]⟩) := HBL.out.cell 1
    gi_wp2
    clear kl
    refine ⟨trivial, ?_⟩
    refine (callsIn_wide.2 (HQ1.out _)).mono ?_
    rintro e y23_ ⟨rfl, hb⟩
    replace HBS := hid (HBS.out.later hb HBS.out.lt)
    replace HBM := hid (HBM.out.later hb HBM.out.lt)
    replace HBF := hid (HBF.out.later hb HBF.out.lt)
    replace HBG := hid (HBG.out.later hb HBG.out.lt)
    replace HBV := hid (HBV.out.later hb HBV.out.lt)
    replace HBP := hid (HBP.out.later hb HBP.out.lt)
    replace HBQ := hid (HBQ.out.later hb HBQ.out.lt)
    replace HBL := hid (HBL.out.later hb HBL.out.lt)
    replace HBR := hid (HBR.out.later hb HBR.out.lt)
    replace HD := hid (dodefer_later HD.out hb)
    replace HBK := hid ((hb.cell (p := ⟨K0, 0, none⟩) hkW).trans HBK.out)
    replace hkW := Nat.lt_of_lt_of_le hkW hb.size
    replace HB := hid (HB.out.trans (hb.mono HB.out.size))
    clear hb
    have HN := hid (boxes1 y23_ 29 #[.int .i8 za0, .int .i8 za1, .int .i8 za2, .int .i8 za3, .int .i8 za4, .int .i8 za5])
    obtain ⟨y24_, hW⟩ : ∃ z, y23_.alloc (.cells #[.int .i8 za0, .int .i8 za1, .int .i8 za2, .int .i8 za3, .int .i8 za4, .int .i8 za5] 29) = z := ⟨_, rfl⟩
    rw [hW] at HN
    replace HBS := hid (HBS.out.later HN.out.2 HBS.out.lt)
    replace HBM := hid (HBM.out.later HN.out.2 HBM.out.lt)
    replace HBF := hid (HBF.out.later HN.out.2 HBF.out.lt)
    replace HBG := hid (HBG.out.later HN.out.2 HBG.out.lt)
    replace HBV := hid (HBV.out.later HN.out.2 HBV.out.lt)
    replace HBP := hid (HBP.out.later HN.out.2 HBP.out.lt)
    replace HBQ := hid (HBQ.out.later HN.out.2 HBQ.out.lt)
    replace HBL := hid (HBL.out.later HN.out.2 HBL.out.lt)
    replace HBR := hid (HBR.out.later HN.out.2 HBR.out.lt)
    replace HD := hid (dodefer_later HD.out HN.out.2)
    replace HBK := hid ((HN.out.2.cell (p := ⟨K0, 0, none⟩) hkW).trans HBK.out)
    replace hkW := Nat.lt_of_lt_of_le hkW HN.out.2.size
    replace HB := hid (HB.out.trans (HN.out.2.mono HB.out.size))
    clear HN
    gi_wp2
    clear hW
    rw [roundsIn_succ]
    have kl : y24_.cell? ⟨bl, 2, none⟩ = some (.string ⟨#[55, 53, 46, 53, 53, 53, 53]⟩) := HBL.out.cell 2
    gi_wp2
    clear kl
    refine ⟨trivial, ?_⟩
    refine (callsIn_wide.2 (HQ2.out _)).mono ?_
    rintro e y25_ ⟨rfl, hb⟩
    replace HBS := hid (HBS.out.later hb HBS.out.lt)
    replace HBM := hid (HBM.out.later hb HBM.out.lt)
    replace HBF := hid (HBF.out.later hb HBF.out.lt)
    replace HBG := hid (HBG.out.later hb HBG.out.lt)
    replace HBV := hid (HBV.out.later hb HBV.out.lt)
    replace HBP := hid (HBP.out.later hb HBP.out.lt)
    replace HBQ := hid (HBQ.out.later hb HBQ.out.lt)
    replace HBL := hid (HBL.out.later hb HBL.out.lt)
    replace HBR := hid (HBR.out.later hb HBR.out.lt)
    replace HD := hid (dodefer_later HD.out hb)
    replace HBK := hid ((hb.cell (p := ⟨K0, 0, none⟩) hkW).trans HBK.out)
    replace hkW := Nat.lt_of_lt_of_le hkW hb.size
    replace HB := hid (HB.out.trans (hb.mono HB.out.size))
    clear hb
    have HN := hid (boxes1 y25_ 29 #[.int .i8 za0, .int .i8 za1, .int .i8 za2, .int .i8 za3, .int .i8 za4, .int .i8 za5])
    obtain ⟨y26_, hW⟩ : ∃ z, y25_.alloc (.cells #[.int .i8 za0, .int .i8 za1, .int .i8 za2, .int .i8 za3, .int .i8 za4, .int .i8 za5] 29) = z := ⟨_, rfl⟩
    rw [hW] at HN
    replace HBS := hid (HBS.out.later HN.out.2 HBS.out.lt)
    replace HBM := hid (HBM.out.later HN.out.2 HBM.out.lt)
    replace HBF := hid (HBF.out.later HN.out.2 HBF.out.lt)
    replace HBG := hid (HBG.out.later HN.out.2 HBG.out.lt)
    replace HBV := hid (HBV.out.later HN.out.2 HBV.out.lt)
    replace HBP := hid (HBP.out.later HN.out.2 HBP.out.lt)
    replace HBQ := hid (HBQ.out.later HN.out.2 HBQ.out.lt)
    replace HBL := hid (HBL.out.later HN.out.2 HBL.out.lt)
    replace HBR := hid (HBR.out.later HN.out.2 HBR.out.lt)
    replace HD := hid (dodefer_later HD.out HN.out.2)
    replace HBK := hid ((HN.out.2.cell (p := ⟨K0, 0, none⟩) hkW).trans HBK.out)
    replace hkW := Nat.lt_of_lt_of_le hkW HN.out.2.size
    replace HB := hid (HB.out.trans (HN.out.2.mono HB.out.size))
    clear HN
    gi_wp2
    clear hW
    rw [roundsIn_succ]
    have kl : y26_.cell? ⟨bl, 3, none⟩ = some (.string ⟨#[48, 53, 53, 46, 53, 53, 53]⟩) := HBL.out.cell 3
    gi_wp2
    clear kl
    refine ⟨trivial, ?_⟩
    refine (callsIn_wide.2 (HQ3.out _)).mono ?_
    rintro e y27_ ⟨rfl, hb⟩
    replace HBS := hid (HBS.out.later hb HBS.out.lt)
    replace HBM := hid (HBM.out.later hb HBM.out.lt)
    replace HBF := hid (HBF.out.later hb HBF.out.lt)
    replace HBG := hid (HBG.out.later hb HBG.out.lt)
    replace HBV := hid (HBV.out.later hb HBV.out.lt)
    replace HBP := hid (HBP.out.later hb HBP.out.lt)
    replace HBQ := hid (HBQ.out.later hb HBQ.out.lt)
    replace HBL := hid (HBL.out.later hb HBL.out.lt)
    replace HBR := hid (HBR.out.later hb HBR.out.lt)
    replace HD := hid (dodefer_later HD.out hb)
    replace HBK := hid ((hb.cell (p := ⟨K0, 0, none⟩) hkW).trans HBK.out)
    replace hkW := Nat.lt_of_lt_of_le hkW hb.size
    replace HB := hid (HB.out.trans (hb.mono HB.out.size))
    clear hb
    have HN := hid (boxes1 y27_ 29 #[.int .i8 za0, .int .i8 za1, .int .i8 za2, .int .i8 za3, .int .i8 za4, .int .i8 za5])
    obtain ⟨y28_, hW⟩ : ∃ z, y27_.alloc (.cells #[.int .i8 za0, .int .i8 za1, .int .i8 za2, .int .i8 za3, .int .i8 za4, .int .i8 za5] 29) = z := ⟨_, rfl⟩
    rw [hW] at HN
    replace HBS := hid (HBS.out.later HN.out.2 HBS.out.lt)
    replace HBM := hid (HBM.out.later HN.out.2 HBM.out.lt)
    replace HBF := hid (HBF.out.later HN.out.2 HBF.out.lt)
    replace HBG := hid (HBG.out.later HN.out.2 HBG.out.lt)
    replace HBV := hid (HBV.out.later HN.out.2 HBV.out.lt)
    replace HBP := hid (HBP.out.later HN.out.2 HBP.out.lt)
    replace HBQ := hid (HBQ.out.later HN.out.2 HBQ.out.lt)
    replace HBL := hid (HBL.out.later HN.out.2 HBL.out.lt)
    replace HBR := hid (HBR.out.later HN.out.2 HBR.out.lt)
    replace HD := hid (dodefer_later HD.out HN.out.2)
    replace HBK := hid ((HN.out.2.cell (p := ⟨K0, 0, none⟩) hkW).trans HBK.out)
    replace hkW := Nat.lt_of_lt_of_le hkW HN.out.2.size
    replace HB := hid (HB.out.trans (HN.out.2.mono HB.out.size))
    clear HN
    gi_wp2
    clear hW
    rw [roundsIn_succ]
    have kl : y28_.cell? ⟨bl, 4, none⟩ = some (.string ⟨#[55, 53, 53, 46, 53, 53, 53, 53]⟩) := HBL.out.cell 4
    gi_wp2
    clear kl
    refine ⟨trivial, ?_⟩
    refine (callsIn_wide.2 (HQ4.out _)).mono ?_
    rintro e y29_ ⟨rfl, hb⟩
    replace HBS := hid (HBS.out.later hb HBS.out.lt)
    replace HBM := hid (HBM.out.later hb HBM.out.lt)
    replace HBF := hid (HBF.out.later hb HBF.out.lt)
    replace HBG := hid (HBG.out.later hb HBG.out.lt)
    replace HBV := hid (HBV.out.later hb HBV.out.lt)
    replace HBP := hid (HBP.out.later hb HBP.out.lt)
    replace HBQ := hid (HBQ.out.later hb HBQ.out.lt)
    replace HBL := hid (HBL.out.later hb HBL.out.lt)
    replace HBR := hid (HBR.out.later hb HBR.out.lt)
    replace HD := hid (dodefer_later HD.out hb)
    replace HBK := hid ((hb.cell (p := ⟨K0, 0, none⟩) hkW).trans HBK.out)
    replace hkW := Nat.lt_of_lt_of_le hkW hb.size
    replace HB := hid (HB.out.trans (hb.mono HB.out.size))
    clear hb
    have HN := hid (boxes1 y29_ 29 #[.int .i8 za0, .int .i8 za1, .int .i8 za2, .int .i8 za3, .int .i8 za4, .int .i8 za5])
    obtain ⟨y30_, hW⟩ : ∃ z, y29_.alloc (.cells #[.int .i8 za0, .int .i8 za1, .int .i8 za2, .int .i8 za3, .int .i8 za4, .int .i8 za5] 29) = z := ⟨_, rfl⟩
    rw [hW] at HN
    replace HBS := hid (HBS.out.later HN.out.2 HBS.out.lt)
    replace HBM := hid (HBM.out.later HN.out.2 HBM.out.lt)
    replace HBF := hid (HBF.out.later HN.out.2 HBF.out.lt)
    replace HBG := hid (HBG.out.later HN.out.2 HBG.out.lt)
    replace HBV := hid (HBV.out.later HN.out.2 HBV.out.lt)
    replace HBP := hid (HBP.out.later HN.out.2 HBP.out.lt)
    replace HBQ := hid (HBQ.out.later HN.out.2 HBQ.out.lt)
    replace HBL := hid (HBL.out.later HN.out.2 HBL.out.lt)
    replace HBR := hid (HBR.out.later HN.out.2 HBR.out.lt)
    replace HD := hid (dodefer_later HD.out HN.out.2)
    replace HBK := hid ((HN.out.2.cell (p := ⟨K0, 0, none⟩) hkW).trans HBK.out)
    replace hkW := Nat.lt_of_lt_of_le hkW HN.out.2.size
    replace HB := hid (HB.out.trans (HN.out.2.mono HB.out.size))
    clear HN
    gi_wp2
    clear hW
    rw [roundsIn_succ]
    have kl : y30_.cell? ⟨bl, 5, none⟩ = some (.string ⟨#[55, 53, 53, 44, 53, 53, 53]⟩) := HBL.out.cell 5
    gi_wp2
    clear kl
    refine ⟨trivial, ?_⟩
    refine (callsIn_wide.2 (HQ5.out _)).mono ?_
    rintro e y31_ ⟨rfl, hb⟩
    replace HBS := hid (HBS.out.later hb HBS.out.lt)
    replace HBM := hid (HBM.out.later hb HBM.out.lt)
    replace HBF := hid (HBF.out.later hb HBF.out.lt)
    replace HBG := hid (HBG.out.later hb HBG.out.lt)
    replace HBV := hid (HBV.out.later hb HBV.out.lt)
    replace HBP := hid (HBP.out.later hb HBP.out.lt)
    replace HBQ := hid (HBQ.out.later hb HBQ.out.lt)
    replace HBL := hid (HBL.out.later hb HBL.out.lt)
    replace HBR := hid (HBR.out.later hb HBR.out.lt)
    replace HD := hid (dodefer_later HD.out hb)
    replace HBK := hid ((hb.cell (p := ⟨K0, 0, none⟩) hkW).trans HBK.out)
    replace hkW := Nat.lt_of_lt_of_le hkW hb.size
    replace HB := hid (HB.out.trans (hb.mono HB.out.size))
    clear hb
    have HN := hid (boxes1 y31_ 29 #[.int .i8 za0, .int .i8 za1, .int .i8 za2, .int .i8 za3, .int .i8 za4, .int .i8 za5])
    obtain ⟨y32_, hW⟩ : ∃ z, y31_.alloc (.cells #[.int .i8 za0, .int .i8 za1, .int .i8 za2, .int .i8 za3, .int .i8 za4, .int .i8 za5] 29) = z := ⟨_, rfl⟩
    rw [hW] at HN
    replace HBS := hid (HBS.out.later HN.out.2 HBS.out.lt)
    replace HBM := hid (HBM.out.later HN.out.2 HBM.out.lt)
    replace HBF := hid (HBF.out.later HN.out.2 HBF.out.lt)
    replace HBG := hid (HBG.out.later HN.out.2 HBG.out.lt)
    replace HBV := hid (HBV.out.later HN.out.2 HBV.out.lt)
    replace HBP := hid (HBP.out.later HN.out.2 HBP.out.lt)
    replace HBQ := hid (HBQ.out.later HN.out.2 HBQ.out.lt)
    replace HBL := hid (HBL.out.later HN.out.2 HBL.out.lt)
    replace HBR := hid (HBR.out.later HN.out.2 HBR.out.lt)
    replace HD := hid (dodefer_later HD.out HN.out.2)
    replace HBK := hid ((HN.out.2.cell (p := ⟨K0, 0, none⟩) hkW).trans HBK.out)
    replace hkW := Nat.lt_of_lt_of_le hkW HN.out.2.size
    replace HB := hid (HB.out.trans (HN.out.2.mono HB.out.size))
    clear HN
    gi_wp2
    clear hW
    rw [roundsIn_succ]
    gi_wp2
    refine ⟨trivial, ?_⟩
    refine (callsIn_wide.2 (HK3.out _)).mono ?_
    rintro e y33_ ⟨rfl, hb⟩
    replace HBS := hid (HBS.out.later hb HBS.out.lt)
    replace HBM := hid (HBM.out.later hb HBM.out.lt)
    replace HBF := hid (HBF.out.later hb HBF.out.lt)
    replace HBG := hid (HBG.out.later hb HBG.out.lt)
    replace HBV := hid (HBV.out.later hb HBV.out.lt)
    replace HBP := hid (HBP.out.later hb HBP.out.lt)
    replace HBQ := hid (HBQ.out.later hb HBQ.out.lt)
    replace HBL := hid (HBL.out.later hb HBL.out.lt)
    replace HBR := hid (HBR.out.later hb HBR.out.lt)
    replace HD := hid (dodefer_later HD.out hb)
    replace HBK := hid ((hb.cell (p := ⟨K0, 0, none⟩) hkW).trans HBK.out)
    replace hkW := Nat.lt_of_lt_of_le hkW hb.size
    replace HB := hid (HB.out.trans (hb.mono HB.out.size))
    clear hb
    obtain ⟨cM0, cM1, cM2, cM3, cM4, cM5⟩ := box6 HBM.out (Below.refl _ _)
    gi_wp2
    refine ⟨trivial, ?_⟩
    refine (callsIn_wide.2 (HF1.out _)).mono ?_
    rintro e y34_ ⟨rfl, hb⟩
    clear cM0 cM1 cM2 cM3 cM4 cM5
    replace HBS := hid (HBS.out.later hb HBS.out.lt)
    replace HBM := hid (HBM.out.later hb HBM.out.lt)
    replace HBF := hid (HBF.out.later hb HBF.out.lt)
    replace HBG := hid (HBG.out.later hb HBG.out.lt)
    replace HBV := hid (HBV.out.later hb HBV.out.lt)
    replace HBP := hid (HBP.out.later hb HBP.out.lt)
    replace HBQ := hid (HBQ.out.later hb HBQ.out.lt)
    replace HBL := hid (HBL.out.later hb HBL.out.lt)
    replace HBR := hid (HBR.out.later hb HBR.out.lt)
    replace HD := hid (dodefer_later HD.out hb)
    replace HBK := hid ((hb.cell (p := ⟨K0, 0, none⟩) hkW).trans HBK.out)
    replace hkW := Nat.lt_of_lt_of_le hkW hb.size
    replace HB := hid (HB.out.trans (hb.mono HB.out.size))
    clear hb
    obtain ⟨cM0, cM1, cM2, cM3, cM4, cM5⟩ := box6 HBM.out (Below.refl _ _)
    gi_wp2
    refine ⟨trivial, ?_⟩
    refine (callsIn_wide.2 (HF2.out _)).mono ?_
    rintro e y35_ ⟨rfl, hb⟩
    clear cM0 cM1 cM2 cM3 cM4 cM5
    replace HBS := hid (HBS.out.later hb HBS.out.lt)
    replace HBM := hid (HBM.out.later hb HBM.out.lt)
    replace HBF := hid (HBF.out.later hb HBF.out.lt)
    replace HBG := hid (HBG.out.later hb HBG.out.lt)
    replace HBV := hid (HBV.out.later hb HBV.out.lt)
    replace HBP := hid (HBP.out.later hb HBP.out.lt)
    replace HBQ := hid (HBQ.out.later hb HBQ.out.lt)
    replace HBL := hid (HBL.out.later hb HBL.out.lt)
    replace HBR := hid (HBR.out.later hb HBR.out.lt)
    replace HD := hid (dodefer_later HD.out hb)
    replace HBK := hid ((hb.cell (p := ⟨K0, 0, none⟩) hkW).trans HBK.out)
    replace hkW := Nat.lt_of_lt_of_le hkW hb.size
    replace HB := hid (HB.out.trans (hb.mono HB.out.size))
    clear hb
    gi_wp2
    refine ⟨trivial, ?_⟩
    refine (callsIn_wide.2 (HL.out _)).mono ?_
    rintro e y36_ ⟨rfl, hb⟩
    replace HBS := hid (HBS.out.later hb HBS.out.lt)
    replace HBM := hid (HBM.out.later hb HBM.out.lt)
    replace HBF := hid (HBF.out.later hb HBF.out.lt)
    replace HBG := hid (HBG.out.later hb HBG.out.lt)
    replace HBV := hid (HBV.out.later hb HBV.out.lt)
    replace HBP := hid (HBP.out.later hb HBP.out.lt)
    replace HBQ := hid (HBQ.out.later hb HBQ.out.lt)
    replace HBL := hid (HBL.out.later hb HBL.out.lt)
    replace HBR := hid (HBR.out.later hb HBR.out.lt)
    replace HD := hid (dodefer_later HD.out hb)
    replace HBK := hid ((hb.cell (p := ⟨K0, 0, none⟩) hkW).trans HBK.out)
    replace hkW := Nat.lt_of_lt_of_le hkW hb.size
    replace HB := hid (HB.out.trans (hb.mono HB.out.size))
    clear hb
    have kk := HBK.out
    gi_wp2
    clear kk
    refine ⟨trivial, ?_⟩
    refine (callsIn_wide.2 (HCk.out _)).mono ?_
    rintro e y37_ ⟨rfl, hb⟩
    replace HBS := hid (HBS.out.later hb HBS.out.lt)
    replace HBM := hid (HBM.out.later hb HBM.out.lt)
    replace HBF := hid (HBF.out.later hb HBF.out.lt)
    replace HBG := hid (HBG.out.later hb HBG.out.lt)
    replace HBV := hid (HBV.out.later hb HBV.out.lt)
    replace HBP := hid (HBP.out.later hb HBP.out.lt)
    replace HBQ := hid (HBQ.out.later hb HBQ.out.lt)
    replace HBL := hid (HBL.out.later hb HBL.out.lt)
    replace HBR := hid (HBR.out.later hb HBR.out.lt)
    replace HD := hid (dodefer_later HD.out hb)
    replace HBK := hid ((hb.cell (p := ⟨K0, 0, none⟩) hkW).trans HBK.out)
    replace hkW := Nat.lt_of_lt_of_le hkW hb.size
    replace HB := hid (HB.out.trans (hb.mono HB.out.size))
    clear hb
    have q0 : y37_.cell? ⟨w.heap.size, 0, none⟩ = some (.bool false) := HBR.out.cell 0
    have q1 := HBR.out.free 0
    have kk := HBK.out
    gi_wp2
    have hk1 := (KeepsOthers.setCell y37_ ⟨w.heap.size, 0, none⟩ (.bool true)).same D _ HD.out rfl
    have hc1 := World.cell?_setCell_same' y37_ ⟨w.heap.size, 0, none⟩ (.bool true) (by rw [q0]; rfl)
    have hbz := HB.out.setCell (p := ⟨w.heap.size, 0, none⟩) (Nat.le_refl _) (.bool true)
    refine ⟨by simp, .inl ⟨_, _, rfl, run_takeDeferred hk1, ?_⟩⟩
    have hc2 := cell_kept hc1 (grownBy_putObj' _ D (.deferred none)) (fun r e => by cases e; exact ⟨_, hk1, rfl⟩)
    refine ⟨.bool true, ?_, rfl, hbz.trans (belowK_b (w := w) (Nat.le_refl _) _ D _ (.deferred none) hDl hk1 rfl rfl)⟩
    simp [results, Try.results3, go_sem, hc2]
end Go.Proofs.Ytophmdjdjjgokaa

