/- The law RotorCalls answers true for every input, and each argument reads behind the call as it read before. -/
import Derived.Test.YtcfcjnlobpoglaaGreatRows
import Derived.WalkKit
import Derived.ProofKit
import Derived.OpenShut
import Derived.ShutString
import Derived.Below
import Derived.Lib.SmallJoins
import Derived.Test.YtcfcjnlobpoglaaGreatJ7
namespace Go.Proofs.YtcfcjnlobpoglaaGreat.rotorCalls
open Go.ChangeShapes Go.WideShapes Go.ChangeAt Go.RowKit Go.Joins
open Go.ChangeMaps (open_string shut_string)
set_option linter.unusedVariables false

theorem own : ownKnob Tryz.prog.godebug = none := by kernel_rfl
theorem laidOut : laidOutB Tryz.prog = true := by kernel_rfl
/-- A slice of words that came in: nil, or a row of 'cap' cells. -/
def IsRow (k : IntKind) (w : World) (a : Option Addr) (len cap : Nat) (zs : List Int) : Prop :=
  (a = none ∧ len = 0 ∧ cap = 0 ∧ zs = []) ∨
  ∃ x, a = some x ∧ len ≤ cap ∧ cap ≤ maxLen ∧ zs.length = cap ∧ (∀ i, i < zs.length → w.cell? (x.add i) = some (.int k (zs.getD i 0))) ∧ ∀ n ∈ zs, (Lit.int k n).wf = true

theorem walk (a0 b0 : Int) (a1 b1 : Int) (a2 : Int) (w : World) (w0 : (Lit.int .i32 a0).wf = true) (u0 : (Lit.int .i32 b0).wf = true) (w1 : (Lit.int .i32 a1).wf = true) (u1 : (Lit.int .i32 b1).wf = true) (w2 : (Lit.int .i64 a2).wf = true) :
    Calls Tryz.prog 3 #[.agg #[.int .i32 a0, .int .i32 b0], .agg #[.int .i32 a1, .int .i32 b1], .int .i64 a2] w fun e w' => e = .returned (.bool true) ∧ Below w.heap.size w w' := by
  have k : ∀ z : Int, (Lit.int .i32 z).wf = true → -2147483648 ≤ z ∧ z ≤ 2147483647 := fun z h => by
    simp [Lit.wf, Bool.and_eq_true] at h
    exact h
  have l : ∀ z : Int, (Lit.int .i64 z).wf = true → -9223372036854775808 ≤ z ∧ z ≤ 9223372036854775807 := fun z h => by
    simp [Lit.wf, Bool.and_eq_true] at h
    exact h
  exact rotorCalls_in a0 b0 a1 b1 a2 w ⟨k _ w0, k _ u0⟩ ⟨k _ w1, k _ u1⟩ (l _ w2).1 (l _ w2).2

/-! ### THE ROW's STEP -/
set_option maxRecDepth 100000 in
theorem lifted (os : Os) (started : os.Started) (H : Type) (enc : TypeId × Value → H) :
    ReturnsInHanded {} Tryz.checked os 3 .any (Rows.rotorCallsSpec.pre6 enc Tryz.prog Tryz.f3 Rows.rotorCallsRow.domain false) (Rows.rotorCallsSpec.post enc Tryz.prog Tryz.f3 false true false false) := by
  refine returnsInHanded_of_change (C := Tryz.checked) own started (by kernel_rfl) Tryz.func3
    (ChangeSpec.witness6 (enc := enc) (C := Tryz.checked) false ⟨#[], #[.agg #[.int .i32 0, .int .i32 0], .agg #[.int .i32 0, .int .i32 0], .int .i64 0], []⟩ 8 (by kernel_rfl) (by kernel_rfl) (by kernel_rfl) (by kernel_rfl)) ?_
  intro W base args ds gs before hval0 hW hcnd _
  have hval : ∀ (j : Nat) t v, Tryz.f3.params[j]? = some t → args[j]? = some v → Value.okWide Tryz.prog W .any base t v := hval0
  have hW' := hW
  obtain ⟨p, q, hA0, hV, rfl, hfz, hnd⟩ := hW
  have hA : DataW.TrodAll enc Tryz.prog W 0 (fun _ => true) true Tryz.f3.params.toList args.toList ds p := hA0
  rw [Tryz.params3] at hA hval
  obtain ⟨v0, vs0, d0, ds0, p0, q0, hargs, rfl, rfl, h0, r0⟩ := trodAll_cons hA
  obtain ⟨v1, vs1, d1, ds1, p1, q1, rfl, rfl, rfl, h1, r1⟩ := trodAll_cons r0
  obtain ⟨v2, vs2, d2, ds2, p2, q2, rfl, rfl, rfl, h2, r2⟩ := trodAll_cons r1
  obtain ⟨rfl, rfl, rfl⟩ := trodAll_nil r2
  obtain rfl : args = #[v0, v1, v2] := by cases args; simp_all
  obtain ⟨rfl, rfl⟩ := trodVars_none hV
  have k0 := h0
  have lt0 : ∀ x ∈ p0, x.block < W.heap.size := by obtain ⟨m, hm⟩ := k0; exact DataW.trod_lt m _ _ _ hm
  obtain ⟨a0, b0, hv0, w0, u0⟩ : ∃ a b, v0 = .agg #[.int .i32 a, .int .i32 b] ∧ (Lit.int .i32 a).wf = true ∧ (Lit.int .i32 b).wf = true := by
    obtain ⟨u0, u1, y0, y1, fuel, e1, _, _, t0, t1⟩ := open_agg2 Tryz.underlying23 (by kernel_rfl) (by kernel_rfl) (hval 0 23 v0 rfl rfl) h0
    obtain ⟨x, hc0, _, wx⟩ := DataW.trod_int Tryz.underlying21 t0
    obtain ⟨y, hc1, _, wy⟩ := DataW.trod_int Tryz.underlying21 t1
    simp at hc0 hc1
    exact ⟨x, y, by rw [e1, hc0, hc1], wx, wy⟩
  have k1 := h1
  have lt1 : ∀ x ∈ p1, x.block < W.heap.size := by obtain ⟨m, hm⟩ := k1; exact DataW.trod_lt m _ _ _ hm
  obtain ⟨a1, b1, hv1, w1, u1⟩ : ∃ a b, v1 = .agg #[.int .i32 a, .int .i32 b] ∧ (Lit.int .i32 a).wf = true ∧ (Lit.int .i32 b).wf = true := by
    obtain ⟨u0, u1, y0, y1, fuel, e1, _, _, t0, t1⟩ := open_agg2 Tryz.underlying23 (by kernel_rfl) (by kernel_rfl) (hval 1 23 v1 rfl rfl) h1
    obtain ⟨x, hc0, _, wx⟩ := DataW.trod_int Tryz.underlying21 t0
    obtain ⟨y, hc1, _, wy⟩ := DataW.trod_int Tryz.underlying21 t1
    simp at hc0 hc1
    exact ⟨x, y, by rw [e1, hc0, hc1], wx, wy⟩
  obtain ⟨a2, rfl, rfl, rfl, w2⟩ := open_int Tryz.underlying3 (hval 2 3 v2 rfl rfl) h2
  clear hA0 hval0
  subst hv0
  subst hv1
  refine (walk a0 b0 a1 b1 a2 W w0 u0 w1 u1 w2).mono fun e W' ⟨he, bel⟩ => ?_
  subst he
  exact ⟨_, rfl, _, _, _, [], _, [], hW', trodAll_mk1 (shut_bool Tryz.underlying4 _), (trodAll_cons_mk (Below.trod laidOut (by kernel_rfl) (of_decide_eq_true (by kernel_rfl)) k0 bel lt0) (trodAll_cons_mk (Below.trod laidOut (by kernel_rfl) (of_decide_eq_true (by kernel_rfl)) k1 bel lt1) (trodAll_cons_mk (shut_int Tryz.underlying3 w2) trodAll_mk0))), rfl, bel.frame _, fun h => by cases h⟩

theorem over : Rows.rotorCallsRow.holds Tryz.pinned (OpenSpec.ofChange Rows.rotorCallsSpec) :=
  OpenClaim.holds_of_wide 3 Tryz.f3 rfl rfl rfl rfl rfl rfl rfl ⟨rfl, rfl, rfl, rfl, rfl⟩ rfl rfl rfl rfl rfl (by kernel_rfl) Tryz.func3 (by kernel_rfl)
    (of_decide_eq_true (by kernel_rfl)) (by unfold Func.isWrapper; first | (rw [if_pos (by decide +kernel)]; kernel_rfl) | (rw [if_neg (by decide +kernel)]; exact ⟨rfl, rfl⟩))
    (fun os started H enc _ => lifted os started H enc)

theorem proved : Rows.RotorCallsSaid := over
#print axioms proved
end Go.Proofs.YtcfcjnlobpoglaaGreat.rotorCalls
