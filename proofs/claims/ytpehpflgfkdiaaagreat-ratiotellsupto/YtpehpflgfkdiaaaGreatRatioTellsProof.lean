/- The law RatioTells answers true for every input of bulk at most 1048576, and each argument reads behind the call as it read before. -/
import Derived.Test.YtpehpflgfkdiaaaGreatRows
import Derived.WalkKit
import Derived.ProofKit
import Derived.OpenShut
import Derived.ShutString
import Derived.Below
import Derived.JoinedCond
import Derived.Lib.SmallJoins
import Derived.Test.YtpehpflgfkdiaaaGreatJ5
namespace Go.Proofs.YtpehpflgfkdiaaaGreat.ratioTells
open Go.ChangeShapes Go.WideShapes Go.ChangeAt Go.RowKit Go.Joins
open Go.ChangeMaps (open_string shut_string)
set_option linter.unusedVariables false

theorem own : ownKnob Tryz.prog.godebug = none := by kernel_rfl
theorem laidOut : laidOutB Tryz.prog = true := by kernel_rfl
/-- A slice of words that came in: nil, or a row of 'cap' cells. -/
def IsRow (k : IntKind) (w : World) (a : Option Addr) (len cap : Nat) (zs : List Int) : Prop :=
  (a = none ∧ len = 0 ∧ cap = 0 ∧ zs = []) ∨
  ∃ x, a = some x ∧ len ≤ cap ∧ cap ≤ maxLen ∧ zs.length = cap ∧ (∀ i, i < zs.length → w.cell? (x.add i) = some (.int k (zs.getD i 0))) ∧ ∀ n ∈ zs, (Lit.int k n).wf = true

/-- Each value counts one at the least; a list of values counts as many as it has, or more. -/
theorem bulk_one {H : Type} (d : DataW H) : 1 ≤ Rows.uptoBulk d := by
  cases d with
  | lit l => cases l <;> simp [Rows.uptoBulk]
  | _ => simp [Rows.uptoBulk]
theorem bulk_len {H : Type} (l : List (DataW H)) : l.length ≤ Rows.uptoBulkAll l := by
  induction l with
  | nil => simp
  | cons d r ih =>
    have := bulk_one d
    simp only [Rows.uptoBulkAll, List.length_cons]
    omega
theorem bulk_all {H : Type} (d : DataW H) (l : List (DataW H)) : Rows.uptoBulkAll (d :: l) = Rows.uptoBulk d + Rows.uptoBulkAll l := by simp only [Rows.uptoBulkAll]
theorem bulk_row {H : Type} (e r : List (DataW H)) : e.length + r.length ≤ Rows.uptoBulk (.slice e r) := by
  have h1 := bulk_len e
  have h2 := bulk_len r
  simp only [Rows.uptoBulk]
  omega
theorem bulk_pair {H : Type} (x y : DataW H) : Rows.uptoBulk y ≤ Rows.uptoBulk (.agg [x, y]) := by
  simp only [Rows.uptoBulk, Rows.uptoBulkAll]
  omega
theorem bulk_trip {H : Type} (x y z : DataW H) : Rows.uptoBulk y + Rows.uptoBulk z ≤ Rows.uptoBulk (.agg [x, y, z]) := by
  simp only [Rows.uptoBulk, Rows.uptoBulkAll]
  omega

theorem walk (n0 : Bool) (a0 : Option Addr) (len0 cap0 : Nat) (z0 : List Int) (b0 : Option Addr) (lem0 cbp0 : Nat) (y0 : List Int) (n1 : Bool) (a1 : Option Addr) (len1 cap1 : Nat) (z1 : List Int) (b1 : Option Addr) (lem1 cbp1 : Nat) (y1 : List Int) (w : World) (w0 : IsRow .u32 w a0 len0 cap0 z0) (u0 : IsRow .u32 w b0 lem0 cbp0 y0) (w1 : IsRow .u32 w a1 len1 cap1 z1) (u1 : IsRow .u32 w b1 lem1 cbp1 y1) (bn0 : cap0 ≤ 1048576) (bd0 : cbp0 ≤ 1048576) (bn1 : cap1 ≤ 1048576) (bd1 : cbp1 ≤ 1048576) :
    Calls Tryz.prog 3 #[.agg #[.bool n0, .slice a0 len0 cap0, .slice b0 lem0 cbp0], .agg #[.bool n1, .slice a1 len1 cap1, .slice b1 lem1 cbp1]] w fun e w' => e = .returned (.bool true) ∧ Below w.heap.size w w' := by
  exact ratioTells_in n0 a0 len0 cap0 _ b0 lem0 cbp0 _ n1 a1 len1 cap1 _ b1 lem1 cbp1 _ w (reads_of_row w0) (reads_of_row u0) (reads_of_row w1) (reads_of_row u1) bn0 bd0 bn1 bd1

set_option maxRecDepth 100000 in
/-- What the walk gives, where what is read is small. -/
theorem contract (H : Type) (enc : TypeId × Value → H) (W : World) (base : Nat) (args : Array Value) (ds gs : List (DataW H)) (before : List MemPlace)
    (hval0 : ∀ (j : Nat) t v, Tryz.f3.params[j]? = some t → args[j]? = some v → Value.okWide Tryz.prog W .any base t v)
    (hW : DataW.Whole enc Tryz.prog Tryz.f3.params.toList Rows.ratioTellsSpec.vars false W args.toList ds gs before) (hk : Rows.uptoSmall H (ds ++ gs) = true) :
    Calls Tryz.prog 3 args W fun e W' => ∃ v, e = .returned v ∧ Rows.ratioTellsSpec.post enc Tryz.prog Tryz.f3 false true false false W args v W' := by
  have hval : ∀ (j : Nat) t v, Tryz.f3.params[j]? = some t → args[j]? = some v → Value.okWide Tryz.prog W .any base t v := hval0
  have hW' := hW
  obtain ⟨p, q, hA0, hV, rfl, hfz, hnd⟩ := hW
  have hA : DataW.TrodAll enc Tryz.prog W 0 (fun _ => true) true Tryz.f3.params.toList args.toList ds p := hA0
  rw [Tryz.params3] at hA hval
  obtain ⟨v0, vs0, d0, ds0, p0, q0, hargs, rfl, rfl, h0, r0⟩ := trodAll_cons hA
  obtain ⟨v1, vs1, d1, ds1, p1, q1, rfl, rfl, rfl, h1, r1⟩ := trodAll_cons r0
  obtain ⟨rfl, rfl, rfl⟩ := trodAll_nil r1
  obtain rfl : args = #[v0, v1] := by cases args; simp_all
  obtain ⟨rfl, rfl⟩ := trodVars_none hV
  have hbk : Rows.uptoBulkAll ([d0, d1] ++ []) ≤ 1048576 := of_decide_eq_true hk
  rw [List.append_nil, bulk_all, bulk_all] at hbk
  have k0 := h0
  have lt0 : ∀ x ∈ p0, x.block < W.heap.size := by obtain ⟨m, hm⟩ := k0; exact DataW.trod_lt m _ _ _ hm
  obtain ⟨n0, a0, len0, cap0, z0, b0, lem0, cbp0, y0, hv0, w0, u0, bn0, bd0⟩ : ∃ n a len cap zs b lem cbp ys, v0 = .agg #[.bool n, .slice a len cap, .slice b lem cbp] ∧ IsRow .u32 W a len cap zs ∧ IsRow .u32 W b lem cbp ys ∧ cap ≤ 1048576 ∧ cbp ≤ 1048576 := by
    obtain ⟨u0, u1, u2, y0, y1, y2, fuel, e1, ed, _, t0, t1, t2⟩ := open_agg3 Tryz.underlying24 (by kernel_rfl) (by kernel_rfl) (hval 0 24 v0 rfl rfl) h0
    obtain ⟨bb, hc0, _⟩ := DataW.trod_bool Tryz.underlying4 t0
    simp at hc0
    have g1 : ∃ a len cap zs, u1 = .slice a len cap ∧ IsRow .u32 W a len cap zs ∧ cap ≤ 1048576 := by
      rcases open_ints Tryz.underlying22 Tryz.underlying60 (by kernel_rfl) t1 with ⟨hcs, _⟩ | ⟨x, l, cc, zs, hcs, _, hl, hm, hz, ey, hcell, hwz⟩
      · simp at hcs
        exact ⟨none, 0, 0, [], hcs, .inl ⟨rfl, rfl, rfl, rfl⟩, by omega⟩
      · simp at hcs
        have hzc : zs.length = cc := by simpa using hz
        have hr := bulk_row (H := H) (lits .u32 (zs.take l)) (lits .u32 (zs.drop l))
        have hp := bulk_trip y0.1 y1.1 y2.1
        rw [← ed, ey] at hp
        dsimp only at hp
        have hlen : (lits (H := H) .u32 (zs.take l)).length + (lits (H := H) .u32 (zs.drop l)).length = zs.length := by unfold lits; rw [List.length_map, List.length_map, ← List.length_append, List.take_append_drop]
        exact ⟨some x, l, cc, zs, hcs, .inr ⟨_, rfl, hl, hm, hzc, hcell, hwz⟩, by omega⟩
    have g2 : ∃ a len cap zs, u2 = .slice a len cap ∧ IsRow .u32 W a len cap zs ∧ cap ≤ 1048576 := by
      rcases open_ints Tryz.underlying22 Tryz.underlying60 (by kernel_rfl) t2 with ⟨hcs, _⟩ | ⟨x, l, cc, zs, hcs, _, hl, hm, hz, ey, hcell, hwz⟩
      · simp at hcs
        exact ⟨none, 0, 0, [], hcs, .inl ⟨rfl, rfl, rfl, rfl⟩, by omega⟩
      · simp at hcs
        have hzc : zs.length = cc := by simpa using hz
        have hr := bulk_row (H := H) (lits .u32 (zs.take l)) (lits .u32 (zs.drop l))
        have hp := bulk_trip y0.1 y1.1 y2.1
        rw [← ed, ey] at hp
        dsimp only at hp
        have hlen : (lits (H := H) .u32 (zs.take l)).length + (lits (H := H) .u32 (zs.drop l)).length = zs.length := by unfold lits; rw [List.length_map, List.length_map, ← List.length_append, List.take_append_drop]
        exact ⟨some x, l, cc, zs, hcs, .inr ⟨_, rfl, hl, hm, hzc, hcell, hwz⟩, by omega⟩
    obtain ⟨a, len, cap, zs, e3, r3, m3⟩ := g1
    obtain ⟨b, lem, cbp, ys, e4, r4, m4⟩ := g2
    exact ⟨bb, a, len, cap, zs, b, lem, cbp, ys, by rw [e1, hc0, e3, e4], r3, r4, m3, m4⟩
  have k1 := h1
  have lt1 : ∀ x ∈ p1, x.block < W.heap.size := by obtain ⟨m, hm⟩ := k1; exact DataW.trod_lt m _ _ _ hm
  obtain ⟨n1, a1, len1, cap1, z1, b1, lem1, cbp1, y1, hv1, w1, u1, bn1, bd1⟩ : ∃ n a len cap zs b lem cbp ys, v1 = .agg #[.bool n, .slice a len cap, .slice b lem cbp] ∧ IsRow .u32 W a len cap zs ∧ IsRow .u32 W b lem cbp ys ∧ cap ≤ 1048576 ∧ cbp ≤ 1048576 := by
    obtain ⟨u0, u1, u2, y0, y1, y2, fuel, e1, ed, _, t0, t1, t2⟩ := open_agg3 Tryz.underlying24 (by kernel_rfl) (by kernel_rfl) (hval 1 24 v1 rfl rfl) h1
    obtain ⟨bb, hc0, _⟩ := DataW.trod_bool Tryz.underlying4 t0
    simp at hc0
    have g1 : ∃ a len cap zs, u1 = .slice a len cap ∧ IsRow .u32 W a len cap zs ∧ cap ≤ 1048576 := by
      rcases open_ints Tryz.underlying22 Tryz.underlying60 (by kernel_rfl) t1 with ⟨hcs, _⟩ | ⟨x, l, cc, zs, hcs, _, hl, hm, hz, ey, hcell, hwz⟩
      · simp at hcs
        exact ⟨none, 0, 0, [], hcs, .inl ⟨rfl, rfl, rfl, rfl⟩, by omega⟩
      · simp at hcs
        have hzc : zs.length = cc := by simpa using hz
        have hr := bulk_row (H := H) (lits .u32 (zs.take l)) (lits .u32 (zs.drop l))
        have hp := bulk_trip y0.1 y1.1 y2.1
        rw [← ed, ey] at hp
        dsimp only at hp
        have hlen : (lits (H := H) .u32 (zs.take l)).length + (lits (H := H) .u32 (zs.drop l)).length = zs.length := by unfold lits; rw [List.length_map, List.length_map, ← List.length_append, List.take_append_drop]
        exact ⟨some x, l, cc, zs, hcs, .inr ⟨_, rfl, hl, hm, hzc, hcell, hwz⟩, by omega⟩
    have g2 : ∃ a len cap zs, u2 = .slice a len cap ∧ IsRow .u32 W a len cap zs ∧ cap ≤ 1048576 := by
      rcases open_ints Tryz.underlying22 Tryz.underlying60 (by kernel_rfl) t2 with ⟨hcs, _⟩ | ⟨x, l, cc, zs, hcs, _, hl, hm, hz, ey, hcell, hwz⟩
      · simp at hcs
        exact ⟨none, 0, 0, [], hcs, .inl ⟨rfl, rfl, rfl, rfl⟩, by omega⟩
      · simp at hcs
        have hzc : zs.length = cc := by simpa using hz
        have hr := bulk_row (H := H) (lits .u32 (zs.take l)) (lits .u32 (zs.drop l))
        have hp := bulk_trip y0.1 y1.1 y2.1
        rw [← ed, ey] at hp
        dsimp only at hp
        have hlen : (lits (H := H) .u32 (zs.take l)).length + (lits (H := H) .u32 (zs.drop l)).length = zs.length := by unfold lits; rw [List.length_map, List.length_map, ← List.length_append, List.take_append_drop]
        exact ⟨some x, l, cc, zs, hcs, .inr ⟨_, rfl, hl, hm, hzc, hcell, hwz⟩, by omega⟩
    obtain ⟨a, len, cap, zs, e3, r3, m3⟩ := g1
    obtain ⟨b, lem, cbp, ys, e4, r4, m4⟩ := g2
    exact ⟨bb, a, len, cap, zs, b, lem, cbp, ys, by rw [e1, hc0, e3, e4], r3, r4, m3, m4⟩
  clear hA0 hval0
  subst hv0
  subst hv1
  refine (walk n0 a0 len0 cap0 z0 b0 lem0 cbp0 y0 n1 a1 len1 cap1 z1 b1 lem1 cbp1 y1 W w0 u0 w1 u1 bn0 bd0 bn1 bd1).mono fun e W' ⟨he, bel⟩ => ?_
  subst he
  exact ⟨_, rfl, _, _, _, [], _, [], hW', trodAll_mk1 (shut_bool Tryz.underlying4 _), (trodAll_cons_mk (Below.trod laidOut (by kernel_rfl) (of_decide_eq_true (by kernel_rfl)) k0 bel lt0) (trodAll_cons_mk (Below.trod laidOut (by kernel_rfl) (of_decide_eq_true (by kernel_rfl)) k1 bel lt1) trodAll_mk0)), rfl, bel.frame _, fun h => by cases h⟩

set_option maxRecDepth 100000 in
theorem lifted (os : Os) (started : os.Started) (H : Type) (enc : TypeId × Value → H) (F : Stop.Interp) :
    ReturnsInHanded {} Tryz.checked os 3 .any ((Rows.OpenSpec.upto Rows.ratioTellsSpec).pre6 enc Tryz.prog Tryz.f3 Rows.ratioTellsUptoRow.domain false) (((Rows.OpenSpec.upto Rows.ratioTellsSpec).at F).post enc Tryz.prog Tryz.f3 false true false false) := by
  refine returnsInHanded_of_cond (C := Tryz.checked) (s := Rows.OpenSpec.upto Rows.ratioTellsSpec) (k := Rows.uptoSmall) rfl own started (by kernel_rfl) Tryz.func3
    (OpenSpec.witness (enc := enc) (C := Tryz.checked) (s := Rows.OpenSpec.upto Rows.ratioTellsSpec) (k := Rows.uptoSmall) rfl false ⟨#[], #[.agg #[.bool false, .slice none 0 0, .slice none 0 0], .agg #[.bool false, .slice none 0 0, .slice none 0 0]], []⟩ 8 (by kernel_rfl) (by kernel_rfl) (by kernel_rfl)
      (x := ([.agg [.lit (.bool false), .nil, .nil], .agg [.lit (.bool false), .nil, .nil]], [], [])) (by kernel_rfl) rfl (by kernel_rfl)) ?_
  intro W base args ds gs before hval hW _ hk _
  exact contract H enc W base args ds gs before hval hW hk

theorem over : Rows.ratioTellsUptoRow.holds Tryz.pinned (Rows.OpenSpec.upto Rows.ratioTellsSpec) :=
  OpenClaim.holds_of_cond 3 Tryz.f3 rfl rfl rfl rfl rfl rfl rfl ⟨rfl, rfl, rfl, rfl, rfl⟩ rfl rfl rfl rfl rfl (by kernel_rfl) Tryz.func3 (by kernel_rfl)
    (of_decide_eq_true (by kernel_rfl)) (by unfold Func.isWrapper; first | (rw [if_pos (by decide +kernel)]; kernel_rfl) | (rw [if_neg (by decide +kernel)]; exact ⟨rfl, rfl⟩))
    (fun os started H enc _ F => lifted os started H enc F)

theorem proved : Rows.RatioTellsUptoSaid := over
#print axioms proved
end Go.Proofs.YtpehpflgfkdiaaaGreat.ratioTells
