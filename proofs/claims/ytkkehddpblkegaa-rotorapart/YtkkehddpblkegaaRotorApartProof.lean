/- The law RotorApart answers true for every input, and each argument reads behind the call as it read before. -/
import Derived.Test.YtkkehddpblkegaaRows
import Derived.WalkKit
import Derived.ProofKit
import Derived.OpenShut
import Derived.ShutString
import Derived.Below
import Derived.Lib.SmallJoins
import Derived.Test.YtkkehddpblkegaaJ3
namespace Go.Proofs.Ytkkehddpblkegaa.rotorApart
open Go.ChangeShapes Go.WideShapes Go.ChangeAt Go.RowKit Go.Joins
open Go.ChangeMaps (open_string shut_string)
set_option linter.unusedVariables false

theorem own : ownKnob Try.prog.godebug = none := by kernel_rfl
theorem laidOut : laidOutB Try.prog = true := by kernel_rfl
/-- A slice of words that came in: nil, or a row of 'cap' cells. -/
def IsRow (k : IntKind) (w : World) (a : Option Addr) (len cap : Nat) (zs : List Int) : Prop :=
  (a = none ∧ len = 0 ∧ cap = 0 ∧ zs = []) ∨
  ∃ x, a = some x ∧ len ≤ cap ∧ cap ≤ maxLen ∧ zs.length = cap ∧ (∀ i, i < zs.length → w.cell? (x.add i) = some (.int k (zs.getD i 0))) ∧ ∀ n ∈ zs, (Lit.int k n).wf = true

theorem walk (a0 b0 : Int) (a1 b1 : Int) (a2 b2 : Int) (w : World) (w0 : (Lit.int .i32 a0).wf = true) (u0 : (Lit.int .i32 b0).wf = true) (w1 : (Lit.int .i32 a1).wf = true) (u1 : (Lit.int .i32 b1).wf = true) (w2 : (Lit.int .i32 a2).wf = true) (u2 : (Lit.int .i32 b2).wf = true) :
    Calls Try.prog 4 #[.agg #[.int .i32 a0, .int .i32 b0], .agg #[.int .i32 a1, .int .i32 b1], .agg #[.int .i32 a2, .int .i32 b2]] w fun e w' => e = .returned (.bool true) ∧ Below w.heap.size w w' := by
  have k : ∀ z : Int, (Lit.int .i32 z).wf = true → -2147483648 ≤ z ∧ z ≤ 2147483647 := fun z h => by
    simp [Lit.wf, Bool.and_eq_true] at h
    exact h
  exact rotorApart_in a0 b0 a1 b1 a2 b2 w ⟨k _ w0, k _ u0⟩ ⟨k _ w1, k _ u1⟩ ⟨k _ w2, k _ u2⟩

/-! ### THE ROW's STEP -/
set_option maxRecDepth 100000 in
theorem lifted (os : Os) (started : os.Started) (H : Type) (enc : TypeId × Value → H) :
    ReturnsInHanded {} Try.checked os 4 .any (Rows.rotorApartSpec.pre6 enc Try.prog Try.f4 Rows.rotorApartRow.domain false) (Rows.rotorApartSpec.post enc Try.prog Try.f4 false true false false) := by
  refine returnsInHanded_of_change (C := Try.checked) own started (by kernel_rfl) Try.func4
    (ChangeSpec.witness6 (enc := enc) (C := Try.checked) false ⟨#[], #[.agg #[.int .i32 0, .int .i32 0], .agg #[.int .i32 0, .int .i32 0], .agg #[.int .i32 0, .int .i32 0]], []⟩ 8 (by kernel_rfl) (by kernel_rfl) (by kernel_rfl) (by kernel_rfl)) ?_
  intro W base args ds gs before hval0 hW hcnd _
  have hval : ∀ (j : Nat) t v, Try.f4.params[j]? = some t → args[j]? = some v → Value.okWide Try.prog W .any base t v := hval0
  have hW' := hW
  obtain ⟨p, q, hA0, hV, rfl, hfz, hnd⟩ := hW
  have hA : DataW.TrodAll enc Try.prog W 0 (fun _ => true) true Try.f4.params.toList args.toList ds p := hA0
  rw [Try.params4] at hA hval
  obtain ⟨v0, vs0, d0, ds0, p0, q0, hargs, rfl, rfl, h0, r0⟩ := trodAll_cons hA
  obtain ⟨v1, vs1, d1, ds1, p1, q1, rfl, rfl, rfl, h1, r1⟩ := trodAll_cons r0
  obtain ⟨v2, vs2, d2, ds2, p2, q2, rfl, rfl, rfl, h2, r2⟩ := trodAll_cons r1
  obtain ⟨rfl, rfl, rfl⟩ := trodAll_nil r2
  obtain rfl : args = #[v0, v1, v2] := by cases args; simp_all
  obtain ⟨rfl, rfl⟩ := trodVars_none hV
  have k0 := h0
  have lt0 : ∀ x ∈ p0, x.block < W.heap.size := by obtain ⟨m, hm⟩ := k0; exact DataW.trod_lt m _ _ _ hm
  obtain ⟨a0, b0, hv0, w0, u0⟩ : ∃ a b, v0 = .agg #[.int .i32 a, .int .i32 b] ∧ (Lit.int .i32 a).wf = true ∧ (Lit.int .i32 b).wf = true := by
    obtain ⟨u0, u1, y0, y1, fuel, e1, _, _, t0, t1⟩ := open_agg2 Try.underlying25 (by kernel_rfl) (by kernel_rfl) (hval 0 25 v0 rfl rfl) h0
    obtain ⟨x, hc0, _, wx⟩ := DataW.trod_int Try.underlying21 t0
    obtain ⟨y, hc1, _, wy⟩ := DataW.trod_int Try.underlying21 t1
    simp at hc0 hc1
    exact ⟨x, y, by rw [e1, hc0, hc1], wx, wy⟩
  have k1 := h1
  have lt1 : ∀ x ∈ p1, x.block < W.heap.size := by obtain ⟨m, hm⟩ := k1; exact DataW.trod_lt m _ _ _ hm
  obtain ⟨a1, b1, hv1, w1, u1⟩ : ∃ a b, v1 = .agg #[.int .i32 a, .int .i32 b] ∧ (Lit.int .i32 a).wf = true ∧ (Lit.int .i32 b).wf = true := by
    obtain ⟨u0, u1, y0, y1, fuel, e1, _, _, t0, t1⟩ := open_agg2 Try.underlying25 (by kernel_rfl) (by kernel_rfl) (hval 1 25 v1 rfl rfl) h1
    obtain ⟨x, hc0, _, wx⟩ := DataW.trod_int Try.underlying21 t0
    obtain ⟨y, hc1, _, wy⟩ := DataW.trod_int Try.underlying21 t1
    simp at hc0 hc1
    exact ⟨x, y, by rw [e1, hc0, hc1], wx, wy⟩
  have k2 := h2
  have lt2 : ∀ x ∈ p2, x.block < W.heap.size := by obtain ⟨m, hm⟩ := k2; exact DataW.trod_lt m _ _ _ hm
  obtain ⟨a2, b2, hv2, w2, u2⟩ : ∃ a b, v2 = .agg #[.int .i32 a, .int .i32 b] ∧ (Lit.int .i32 a).wf = true ∧ (Lit.int .i32 b).wf = true := by
    obtain ⟨u0, u1, y0, y1, fuel, e1, _, _, t0, t1⟩ := open_agg2 Try.underlying25 (by kernel_rfl) (by kernel_rfl) (hval 2 25 v2 rfl rfl) h2
    obtain ⟨x, hc0, _, wx⟩ := DataW.trod_int Try.underlying21 t0
    obtain ⟨y, hc1, _, wy⟩ := DataW.trod_int Try.underlying21 t1
    simp at hc0 hc1
    exact ⟨x, y, by rw [e1, hc0, hc1], wx, wy⟩
  clear hA0 hval0
  subst hv0
  subst hv1
  subst hv2
  refine (walk a0 b0 a1 b1 a2 b2 W w0 u0 w1 u1 w2 u2).mono fun e W' ⟨he, bel⟩ => ?_
  subst he
  exact ⟨_, rfl, _, _, _, [], _, [], hW', trodAll_mk1 (shut_bool Try.underlying4 _), (trodAll_cons_mk (Below.trod laidOut (by kernel_rfl) (of_decide_eq_true (by kernel_rfl)) k0 bel lt0) (trodAll_cons_mk (Below.trod laidOut (by kernel_rfl) (of_decide_eq_true (by kernel_rfl)) k1 bel lt1) (trodAll_cons_mk (Below.trod laidOut (by kernel_rfl) (of_decide_eq_true (by kernel_rfl)) k2 bel lt2) trodAll_mk0))), rfl, bel.frame _, fun h => by cases h⟩

theorem over : Rows.rotorApartRow.holds Try.pinned (OpenSpec.ofChange Rows.rotorApartSpec) :=
  OpenClaim.holds_of_wide 4 Try.f4 rfl rfl rfl rfl rfl rfl rfl ⟨rfl, rfl, rfl, rfl, rfl⟩ rfl rfl rfl rfl rfl (by kernel_rfl) Try.func4 (by kernel_rfl)
    (of_decide_eq_true (by kernel_rfl)) (by unfold Func.isWrapper; first | (rw [if_pos (by decide +kernel)]; kernel_rfl) | (rw [if_neg (by decide +kernel)]; exact ⟨rfl, rfl⟩))
    (fun os started H enc _ => lifted os started H enc)

theorem proved : Rows.RotorApartSaid := over
#print axioms proved
end Go.Proofs.Ytkkehddpblkegaa.rotorApart
