/- The law RealTells answers true for every input of bulk at most 1048576, and each argument reads behind the call as it read before: the second form's card, its listed variables tied to the program's text. -/
import Derived.Test.YtabkgpnckaaclaaGreatDoorRows
import Derived.Test.YtabkgpnckaaclaaGreatDoorTie
import Derived.Test.YtabkgpnckaaclaaGreatDoorCards
import Derived.LaidMore
import Derived.Stop.Joined
import Derived.SevenTiedAt
import Derived.ChangeOld
import Derived.Deep.DeepHandedRow
import Derived.Deep.DeepWitnessRowRef
import Derived.WalkKit
import Derived.ProofKit
import Derived.OpenShut
import Derived.ShutString
import Derived.Below
import Derived.JoinedCond
import Derived.Lib.SmallJoins
import Derived.Test.YtabkgpnckaaclaaGreatDoorJ7
namespace Go.Proofs.YtabkgpnckaaclaaGreatDoor.realTells
open Go.ChangeShapes Go.WideShapes Go.ChangeAt Go.RowKit Go.Joins
open Go.ChangeMaps (open_string shut_string)
open Go.WideMaps Go.WideElems
set_option linter.unusedVariables false

theorem own : ownKnob Tryz.prog.godebug = none := by kernel_rfl
theorem laidOut : laidOutB Tryz.prog = true := by kernel_rfl
/-- A slice of words that came in: nil, or a row of 'cap' cells. -/
def IsRow (k : IntKind) (w : World) (a : Option Addr) (len cap : Nat) (zs : List Int) : Prop :=
  (a = none ∧ len = 0 ∧ cap = 0 ∧ zs = []) ∨
  ∃ x, a = some x ∧ len ≤ cap ∧ cap ≤ maxLen ∧ zs.length = cap ∧ (∀ i, i < zs.length → w.cell? (x.add i) = some (.int k (zs.getD i 0))) ∧ ∀ n ∈ zs, (Lit.int k n).wf = true

/-- Each value counts one at the least; a list of values counts as many as it has, or more. -/
theorem bulk_one {H : Type} (d : DataW H) : 1 ≤ Rows.uptoBulk d := by
  cases d with
  | lit l => cases l <;> simp [Rows.uptoBulk]
  | _ => simp [Rows.uptoBulk]
theorem bulk_len {H : Type} (l : List (DataW H)) : l.length ≤ Rows.uptoBulkAll l := by
  induction l with
  | nil => simp
  | cons d r ih =>
    have := bulk_one d
    simp only [Rows.uptoBulkAll, List.length_cons]
    omega
theorem bulk_all {H : Type} (d : DataW H) (l : List (DataW H)) : Rows.uptoBulkAll (d :: l) = Rows.uptoBulk d + Rows.uptoBulkAll l := by simp only [Rows.uptoBulkAll]
theorem bulk_row {H : Type} (e r : List (DataW H)) : e.length + r.length ≤ Rows.uptoBulk (.slice e r) := by
  have h1 := bulk_len e
  have h2 := bulk_len r
  simp only [Rows.uptoBulk]
  omega
theorem bulk_pair {H : Type} (x y : DataW H) : Rows.uptoBulk y ≤ Rows.uptoBulk (.agg [x, y]) := by
  simp only [Rows.uptoBulk, Rows.uptoBulkAll]
  omega
theorem bulk_trip {H : Type} (x y z : DataW H) : Rows.uptoBulk y + Rows.uptoBulk z ≤ Rows.uptoBulk (.agg [x, y, z]) := by
  simp only [Rows.uptoBulk, Rows.uptoBulkAll]
  omega

theorem walk (a0 : Int) (a1 : Int) (n2 : Bool) (a2 : Option Addr) (len2 cap2 : Nat) (z2 : List Int) (b2 : Option Addr) (lem2 cbp2 : Nat) (y2 : List Int) (w : World) (w0 : (Lit.int .u64 a0).wf = true) (w1 : (Lit.int .u64 a1).wf = true) (w2 : IsRow .u32 w a2 len2 cap2 z2) (u2 : IsRow .u32 w b2 lem2 cbp2 y2) (bn2 : cap2 ≤ 1048576) (bd2 : cbp2 ≤ 1048576) (htab : TabB w) :
    Calls Tryz.prog 3 #[.int .u64 a0, .int .u64 a1, .agg #[.bool n2, .slice a2 len2 cap2, .slice b2 lem2 cbp2]] w fun e w' => e = .returned (.bool true) ∧ Below w.heap.size w w' := by
  exact realTells_in a0 a1 (bounds_u64 w0).1 (bounds_u64 w0).2 (bounds_u64 w1).1 (bounds_u64 w1).2 n2 a2 len2 cap2 _ b2 lem2 cbp2 _ w (reads_of_row w2) (reads_of_row u2) bn2 bd2 htab

/-- The door's own heap meets the condition. -/
theorem door_met (os : Os) (args : Array Value) : laidMetH Tryz.prog Rows.realTellsUptoRow.laid ((World.doorLaid Tryz.prog 400 os).forCall (fun _ _ => 0) ⟨#[], args, []⟩).memory :=
  laidMetH_of_parts3 (fuel := 8) (laidMet_of_run' 8 (by kernel_rfl) (by kernel_rfl)) (by kernel_rfl) (by kernel_rfl)
/-- What the condition gives the walk: the table of places. -/
theorem of_laid {W : World} (h : laidMetH Tryz.prog Rows.realTellsUptoRow.laid W) : TabB W := by
  rw [MakeChecks.laidMetH_plain _ _ _ (by kernel_rfl)] at h
  obtain ⟨ps, ⟨g0, t0, cs0, f0, p0, q0, hg0, ht0, hv0, hd0, _, _⟩, _, _⟩ := h
  have e1 : Tryz.prog.globalNamed "math/bits.deBruijn64tab" = some 1 := by kernel_rfl
  have e2 : (Tryz.prog.globals[(1 : Nat)]?).map (·.type) = some 115 := by kernel_rfl
  obtain rfl := Option.some.inj (e1.symm.trans hg0)
  obtain rfl := Option.some.inj (e2.symm.trans ht0)
  have hd : Rows.laid_math_bits_deBruijn64tab (H := Unit) = Lib.tabData .u8 (Lib.deBruijn64tab.map fun (n : Nat) => (n : Int)) := by rfl
  rw [hd] at hd0
  exact tabB_of hv0 e1 (Lib.cells_of_tab Tryz.underlying115 (show Tryz.prog.underlying 5 = some (.int .u8) from Tryz.underlying5) (by kernel_rfl) (by kernel_rfl) hd0)

set_option maxRecDepth 100000 in
/-- What the walk gives, where what is read is small. -/
theorem contract (H : Type) (enc : TypeId × Value → H) (W : World) (base : Nat) (args : Array Value) (ds gs : List (DataW H)) (before : List MemPlace)
    (hval0 : ∀ (j : Nat) t v, Tryz.f3.params[j]? = some t → args[j]? = some v → Value.okWide Tryz.prog W .any base t v)
    (hW : DataW.Whole enc Tryz.prog Tryz.f3.params.toList Rows.realTellsSpec.vars false W args.toList ds gs before) (hk : Rows.uptoSmall H (ds ++ gs) = true) (hL : laidMetH Tryz.prog Rows.realTellsUptoRow.laid W) :
    Calls Tryz.prog 3 args W fun e W' => ∃ v, e = .returned v ∧ Rows.realTellsSpec.post enc Tryz.prog Tryz.f3 false true false false W args v W' := by
  have htab := of_laid hL
  have hval : ∀ (j : Nat) t v, Tryz.f3.params[j]? = some t → args[j]? = some v → Value.okWide Tryz.prog W .any base t v := hval0
  have hW' := hW
  obtain ⟨p, q, hA0, hV, rfl, hfz, hnd⟩ := hW
  have hA : DataW.TrodAll enc Tryz.prog W 0 (fun _ => true) true Tryz.f3.params.toList args.toList ds p := hA0
  rw [Tryz.params3] at hA hval
  obtain ⟨v0, vs0, d0, ds0, p0, q0, hargs, rfl, rfl, h0, r0⟩ := trodAll_cons hA
  obtain ⟨v1, vs1, d1, ds1, p1, q1, rfl, rfl, rfl, h1, r1⟩ := trodAll_cons r0
  obtain ⟨v2, vs2, d2, ds2, p2, q2, rfl, rfl, rfl, h2, r2⟩ := trodAll_cons r1
  obtain ⟨rfl, rfl, rfl⟩ := trodAll_nil r2
  obtain rfl : args = #[v0, v1, v2] := by cases args; simp_all
  obtain ⟨rfl, rfl⟩ := trodVars_none hV
  have hbk : Rows.uptoBulkAll ([d0, d1, d2] ++ []) ≤ 1048576 := of_decide_eq_true hk
  rw [List.append_nil, bulk_all, bulk_all, bulk_all] at hbk
  obtain ⟨a0, rfl, rfl, rfl, w0⟩ := open_int Tryz.underlying22 (hval 0 22 v0 rfl rfl) h0
  obtain ⟨a1, rfl, rfl, rfl, w1⟩ := open_int Tryz.underlying22 (hval 1 22 v1 rfl rfl) h1
  have k2 := h2
  have lt2 : ∀ x ∈ p2, x.block < W.heap.size := by obtain ⟨m, hm⟩ := k2; exact DataW.trod_lt m _ _ _ hm
  obtain ⟨n2, a2, len2, cap2, z2, b2, lem2, cbp2, y2, hv2, w2, u2, bn2, bd2⟩ : ∃ n a len cap zs b lem cbp ys, v2 = .agg #[.bool n, .slice a len cap, .slice b lem cbp] ∧ IsRow .u32 W a len cap zs ∧ IsRow .u32 W b lem cbp ys ∧ cap ≤ 1048576 ∧ cbp ≤ 1048576 := by
    obtain ⟨u0, u1, u2, y0, y1, y2, fuel, e1, ed, _, t0, t1, t2⟩ := open_agg3 Tryz.underlying25 (by kernel_rfl) (by kernel_rfl) (hval 2 25 v2 rfl rfl) h2
    obtain ⟨bb, hc0, _⟩ := DataW.trod_bool Tryz.underlying4 t0
    simp at hc0
    have g1 : ∃ a len cap zs, u1 = .slice a len cap ∧ IsRow .u32 W a len cap zs ∧ cap ≤ 1048576 := by
      rcases open_ints Tryz.underlying23 Tryz.underlying88 (by kernel_rfl) t1 with ⟨hcs, _⟩ | ⟨x, l, cc, zs, hcs, _, hl, hm, hz, ey, hcell, hwz⟩
      · simp at hcs
        exact ⟨none, 0, 0, [], hcs, .inl ⟨rfl, rfl, rfl, rfl⟩, by omega⟩
      · simp at hcs
        have hzc : zs.length = cc := by simpa using hz
        have hr := bulk_row (H := H) (lits .u32 (zs.take l)) (lits .u32 (zs.drop l))
        have hp := bulk_trip y0.1 y1.1 y2.1
        rw [← ed, ey] at hp
        dsimp only at hp
        have hlen : (lits (H := H) .u32 (zs.take l)).length + (lits (H := H) .u32 (zs.drop l)).length = zs.length := by unfold lits; rw [List.length_map, List.length_map, ← List.length_append, List.take_append_drop]
        exact ⟨some x, l, cc, zs, hcs, .inr ⟨_, rfl, hl, hm, hzc, hcell, hwz⟩, by omega⟩
    have g2 : ∃ a len cap zs, u2 = .slice a len cap ∧ IsRow .u32 W a len cap zs ∧ cap ≤ 1048576 := by
      rcases open_ints Tryz.underlying23 Tryz.underlying88 (by kernel_rfl) t2 with ⟨hcs, _⟩ | ⟨x, l, cc, zs, hcs, _, hl, hm, hz, ey, hcell, hwz⟩
      · simp at hcs
        exact ⟨none, 0, 0, [], hcs, .inl ⟨rfl, rfl, rfl, rfl⟩, by omega⟩
      · simp at hcs
        have hzc : zs.length = cc := by simpa using hz
        have hr := bulk_row (H := H) (lits .u32 (zs.take l)) (lits .u32 (zs.drop l))
        have hp := bulk_trip y0.1 y1.1 y2.1
        rw [← ed, ey] at hp
        dsimp only at hp
        have hlen : (lits (H := H) .u32 (zs.take l)).length + (lits (H := H) .u32 (zs.drop l)).length = zs.length := by unfold lits; rw [List.length_map, List.length_map, ← List.length_append, List.take_append_drop]
        exact ⟨some x, l, cc, zs, hcs, .inr ⟨_, rfl, hl, hm, hzc, hcell, hwz⟩, by omega⟩
    obtain ⟨a, len, cap, zs, e3, r3, m3⟩ := g1
    obtain ⟨b, lem, cbp, ys, e4, r4, m4⟩ := g2
    exact ⟨bb, a, len, cap, zs, b, lem, cbp, ys, by rw [e1, hc0, e3, e4], r3, r4, m3, m4⟩
  clear hA0 hval0
  subst hv2
  refine (walk a0 a1 n2 a2 len2 cap2 z2 b2 lem2 cbp2 y2 W w0 w1 w2 u2 bn2 bd2 htab).mono fun e W' ⟨he, bel⟩ => ?_
  subst he
  exact ⟨_, rfl, _, _, _, [], _, [], hW', trodAll_mk1 (shut_bool Tryz.underlying4 _), (trodAll_cons_mk (shut_int Tryz.underlying22 w0) (trodAll_cons_mk (shut_int Tryz.underlying22 w1) (trodAll_cons_mk (Below.trod laidOut (by kernel_rfl) (of_decide_eq_true (by kernel_rfl)) k2 bel lt2) trodAll_mk0))), rfl, bel.frame _, fun h => by cases h⟩

theorem reads (os : Os) {H : Type} (enc : TypeId × Value → H) : ∃ places, DataW.whole enc Tryz.prog ((World.doorLaid Tryz.prog 400 os).forCall (fun _ _ => 0) ⟨#[], #[.int .u64 0, .int .u64 0, .agg #[.bool false, .slice none 0 0, .slice none 0 0]], []⟩).memory Tryz.f3.params.toList Rows.realTellsSpec.vars false #[Value.int .u64 0, .int .u64 0, .agg #[.bool false, .slice none 0 0, .slice none 0 0]].toList 8 = some ([.lit (.int .u64 0), .lit (.int .u64 0), .agg [.lit (.bool false), .nil, .nil]], [], places) :=
  ⟨[], by kernel_rfl⟩

set_option maxRecDepth 100000 in
theorem lifted (os : Os) (started : os.Started) (H : Type) (enc : TypeId × Value → H) (F : Stop.Interp) :
    ReturnsInHanded {} Tryz.checked os 3 .any ((Rows.OpenSpec.upto Rows.realTellsSpec).preRow enc Tryz.prog Tryz.f3 Rows.realTellsUptoRow.domain false Rows.realTellsUptoRow.laid) (((Rows.OpenSpec.upto Rows.realTellsSpec).at F).post enc Tryz.prog Tryz.f3 false true false false) := by
  obtain ⟨places, hx⟩ := reads os enc
  refine returnsInHanded_of_row (C := Tryz.checked) (s := Rows.OpenSpec.upto Rows.realTellsSpec) own started (by kernel_rfl) Tryz.func3
    (witness_row_atRef (enc := enc) (C := Tryz.checked) false (World.doorLaid Tryz.prog 400 os) #[.int .u64 0, .int .u64 0, .agg #[.bool false, .slice none 0 0, .slice none 0 0]] rfl (by kernel_rfl) (by kernel_rfl) (by kernel_rfl)
      (OpenSpec.preRow_of_cond 8 hx (by kernel_rfl) (fun k hk => by cases hk; kernel_rfl) (by kernel_rfl) (door_met os _))) ?_
  intro W base args ds gs before hval hW _ hcond _ hL _ _
  exact contract H enc W base args ds gs before hval hW (hcond _ rfl) hL

theorem over : Rows.RealTellsUptoSaid :=
  OpenClaim.holds_of_cond 3 Tryz.f3 rfl rfl rfl rfl rfl rfl rfl ⟨rfl, rfl, rfl, rfl, rfl⟩ rfl rfl rfl rfl rfl (by kernel_rfl) Tryz.func3 (by kernel_rfl)
    (of_decide_eq_true (by kernel_rfl)) (by unfold Func.isWrapper; first | (rw [if_pos (by decide +kernel)]; kernel_rfl) | (rw [if_neg (by decide +kernel)]; exact ⟨rfl, rfl⟩))
    (fun os started H enc _ F => by rw [OpenClaim.pre_eq_preRow]; exact lifted os started H enc F)

theorem card : Rows.RealTellsUptoCardSaid :=
  Claim7.holds_tied_plain_at .later [] _ _ _ _ over (fun _ h => by cases h) (by kernel_rfl) (fun _ h => by cases h) realTellsUpto_row_tie rfl ⟨rfl, rfl⟩ (by kernel_rfl) rfl
    (fun f fn hf hfn => by
      obtain rfl : f = 3 := Option.some.inj ((show Tryz.prog.funcNamed "slackwater/slackwaterlaw06.RealTells" = some 3 by kernel_rfl).symm.trans hf) |>.symm
      obtain rfl : fn = Tryz.f3 := (Option.some.inj (Tryz.func3.symm.trans hfn)).symm
      exact ⟨by kernel_rfl, fun j t ht => by
        rw [Tryz.params3] at ht
        have hm : t ∈ Tryz.f3.params.toList := by rw [Tryz.params3]; simpa using Array.mem_of_getElem? ht
        have hall : (Tryz.f3.params.toList.all fun u => !Tryz.prog.wantsStandIn u) = true := by kernel_rfl
        exact (show Tryz.prog.wantsStandIn t = false by simpa using List.all_eq_true.1 hall t hm)⟩)
    (by kernel_rfl)
#print axioms card
end Go.Proofs.YtabkgpnckaaclaaGreatDoor.realTells
