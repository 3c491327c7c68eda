/- The law CleanMerge answers true for every input of bulk at most 1048576, and each argument reads behind the call as it read before. -/
import Derived.Test.YtmigdomlakflfaaRows
import Derived.WalkKit
import Derived.ProofKit
import Derived.OpenShut
import Derived.ShutString
import Derived.Laws.Cover2
import Derived.Below
import Derived.JoinedCond
import Derived.Lib.SmallJoins
import Derived.Test.YtmigdomlakflfaaJ3
namespace Go.Proofs.Ytmigdomlakflfaa.cleanMerge
open Go.ChangeShapes Go.WideShapes Go.ChangeAt Go.RowKit Go.Joins
open Go.ChangeMaps (open_string shut_string)
set_option linter.unusedVariables false

theorem own : ownKnob Try.prog.godebug = none := by kernel_rfl
theorem laidOut : laidOutB Try.prog = true := by kernel_rfl
/-- A slice of words that came in: nil, or a row of 'cap' cells. -/
def IsRow (k : IntKind) (w : World) (a : Option Addr) (len cap : Nat) (zs : List Int) : Prop :=
  (a = none ∧ len = 0 ∧ cap = 0 ∧ zs = []) ∨
  ∃ x, a = some x ∧ len ≤ cap ∧ cap ≤ maxLen ∧ zs.length = cap ∧ (∀ i, i < zs.length → w.cell? (x.add i) = some (.int k (zs.getD i 0))) ∧ ∀ n ∈ zs, (Lit.int k n).wf = true

/-- Each value counts one at the least; a list of values counts as many as it has, or more. -/
theorem bulk_one {H : Type} (d : DataW H) : 1 ≤ Rows.uptoBulk d := by
  cases d with
  | lit l => cases l <;> simp [Rows.uptoBulk]
  | _ => simp [Rows.uptoBulk]
theorem bulk_len {H : Type} (l : List (DataW H)) : l.length ≤ Rows.uptoBulkAll l := by
  induction l with
  | nil => simp
  | cons d r ih =>
    have := bulk_one d
    simp only [Rows.uptoBulkAll, List.length_cons]
    omega
theorem bulk_all {H : Type} (d : DataW H) (l : List (DataW H)) : Rows.uptoBulkAll (d :: l) = Rows.uptoBulk d + Rows.uptoBulkAll l := by simp only [Rows.uptoBulkAll]
theorem bulk_mem {H : Type} {d : DataW H} {l : List (DataW H)} (h : d ∈ l) : Rows.uptoBulk d ≤ Rows.uptoBulkAll l := by
  induction l with
  | nil => cases h
  | cons x r ih =>
    rw [bulk_all]
    rcases List.mem_cons.1 h with h | h
    · rw [h]; omega
    · have := ih h; omega
theorem bulk_row {H : Type} (e r : List (DataW H)) : e.length + r.length ≤ Rows.uptoBulk (.slice e r) := by
  have h1 := bulk_len e
  have h2 := bulk_len r
  simp only [Rows.uptoBulk]
  omega
theorem bulk_pair {H : Type} (x y : DataW H) : Rows.uptoBulk y ≤ Rows.uptoBulk (.agg [x, y]) := by
  simp only [Rows.uptoBulk, Rows.uptoBulkAll]
  omega
theorem bulk_trip {H : Type} (x y z : DataW H) : Rows.uptoBulk y + Rows.uptoBulk z ≤ Rows.uptoBulk (.agg [x, y, z]) := by
  simp only [Rows.uptoBulk, Rows.uptoBulkAll]
  omega

theorem walk (a0 : Option Addr) (len0 cap0 : Nat) (xs0 : List LsI) (w : World) (w0 : (a0 = none → len0 = 0 ∧ cap0 = 0) ∧ len0 ≤ cap0 ∧ cap0 ≤ maxLen ∧ xs0.length = len0 ∧ RdL w a0 xs0) (bm0 : ∀ p ∈ xs0, p.xs.length ≤ 1048576) :
    Calls Try.prog 4 #[.slice a0 len0 cap0] w fun e w' => e = .returned (.bool true) ∧ Below w.heap.size w w' := by
  exact cleanMerge_in a0 len0 cap0 xs0 w w0 bm0

set_option maxRecDepth 100000 in
/-- What the walk gives, where what is read is small. -/
theorem contract (H : Type) (enc : TypeId × Value → H) (W : World) (base : Nat) (args : Array Value) (ds gs : List (DataW H)) (before : List MemPlace)
    (hval0 : ∀ (j : Nat) t v, Try.f4.params[j]? = some t → args[j]? = some v → Value.okWide Try.prog W .any base t v)
    (hW : DataW.Whole enc Try.prog Try.f4.params.toList Rows.cleanMergeSpec.vars false W args.toList ds gs before) (hk : Rows.uptoSmall H (ds ++ gs) = true) :
    Calls Try.prog 4 args W fun e W' => ∃ v, e = .returned v ∧ Rows.cleanMergeSpec.post enc Try.prog Try.f4 false true false false W args v W' := by
  have hval : ∀ (j : Nat) t v, Try.f4.params[j]? = some t → args[j]? = some v → Value.okWide Try.prog W .any base t v := hval0
  have hW' := hW
  obtain ⟨p, q, hA0, hV, rfl, hfz, hnd⟩ := hW
  have hA : DataW.TrodAll enc Try.prog W 0 (fun _ => true) true Try.f4.params.toList args.toList ds p := hA0
  rw [Try.params4] at hA hval
  obtain ⟨v0, vs0, d0, ds0, p0, q0, hargs, rfl, rfl, h0, r0⟩ := trodAll_cons hA
  obtain ⟨rfl, rfl, rfl⟩ := trodAll_nil r0
  obtain rfl : args = #[v0] := by cases args; simp_all
  obtain ⟨rfl, rfl⟩ := trodVars_none hV
  have hbk : Rows.uptoBulkAll ([d0] ++ []) ≤ 1048576 := of_decide_eq_true hk
  rw [List.append_nil, bulk_all] at hbk
  have k0 := h0
  have lt0 : ∀ x ∈ p0, x.block < W.heap.size := by obtain ⟨m, hm⟩ := k0; exact DataW.trod_lt m _ _ _ hm
  obtain ⟨a0, len0, cap0, xs0, hv0, w0, bm0⟩ : ∃ a len cap, ∃ xs : List LsI, v0 = .slice a len cap ∧ ((a = none → len = 0 ∧ cap = 0) ∧ len ≤ cap ∧ cap ≤ maxLen ∧ xs.length = len ∧ RdL W a xs) ∧ ∀ p ∈ xs, p.xs.length ≤ 1048576 := by
    obtain ⟨fuel, hf⟩ := h0
    obtain ⟨a0, len0, cap0, e0⟩ := okWide_slice Try.underlying33 (hval 0 33 v0 rfl rfl)
    subst e0
    have hf' : DataW.trod enc Try.prog W 0 (fun _ => true) true fuel 33 [.slice a0 len0 cap0] = some (d0, p0) := hf
    obtain ⟨a, len, cap, xs, hv, h1, h2, h3, h4, hr4, h5⟩ := many_of_trod_b Try.underlying33 (by kernel_rfl) Try.underlying25 Try.underlying32 (by kernel_rfl) (by rfl) (by rfl) (by kernel_rfl) (by kernel_rfl) Try.underlying3 Try.underlying22 hf'
    have h6 : ∀ p ∈ xs, p.xs.length ≤ Rows.uptoBulk d0 := h5 Rows.uptoBulk (fun e r => by have := bulk_row e r; omega) (fun e r d hd => by have := bulk_mem hd; simp only [Rows.uptoBulk]; omega)
    exact ⟨a, len, cap, xs, hv, ⟨h3, h1, h2, h4, hr4⟩, fun p hp => by have := h6 p hp; omega⟩
  clear hA0 hval0
  subst hv0
  refine (walk a0 len0 cap0 xs0 W w0 bm0).mono fun e W' ⟨he, bel⟩ => ?_
  subst he
  exact ⟨_, rfl, _, _, _, [], _, [], hW', trodAll_mk1 (shut_bool Try.underlying4 _), (trodAll_cons_mk (Below.trod laidOut (by kernel_rfl) (of_decide_eq_true (by kernel_rfl)) k0 bel lt0) trodAll_mk0), rfl, bel.frame _, fun h => by cases h⟩

set_option maxRecDepth 100000 in
theorem lifted (os : Os) (started : os.Started) (H : Type) (enc : TypeId × Value → H) (F : Stop.Interp) :
    ReturnsInHanded {} Try.checked os 4 .any ((Rows.OpenSpec.upto Rows.cleanMergeSpec).pre6 enc Try.prog Try.f4 Rows.cleanMergeUptoRow.domain false) (((Rows.OpenSpec.upto Rows.cleanMergeSpec).at F).post enc Try.prog Try.f4 false true false false) := by
  refine returnsInHanded_of_cond (C := Try.checked) (s := Rows.OpenSpec.upto Rows.cleanMergeSpec) (k := Rows.uptoSmall) rfl own started (by kernel_rfl) Try.func4
    (OpenSpec.witness (enc := enc) (C := Try.checked) (s := Rows.OpenSpec.upto Rows.cleanMergeSpec) (k := Rows.uptoSmall) rfl false ⟨#[], #[.slice none 0 0], []⟩ 8 (by kernel_rfl) (by kernel_rfl) (by kernel_rfl)
      (x := ([.nil], [], [])) (by kernel_rfl) rfl (by kernel_rfl)) ?_
  intro W base args ds gs before hval hW _ hk _
  exact contract H enc W base args ds gs before hval hW hk

theorem over : Rows.cleanMergeUptoRow.holds Try.pinned (Rows.OpenSpec.upto Rows.cleanMergeSpec) :=
  OpenClaim.holds_of_cond 4 Try.f4 rfl rfl rfl rfl rfl rfl rfl ⟨rfl, rfl, rfl, rfl, rfl⟩ rfl rfl rfl rfl rfl (by kernel_rfl) Try.func4 (by kernel_rfl)
    (of_decide_eq_true (by kernel_rfl)) (by unfold Func.isWrapper; first | (rw [if_pos (by decide +kernel)]; kernel_rfl) | (rw [if_neg (by decide +kernel)]; exact ⟨rfl, rfl⟩))
    (fun os started H enc _ F => lifted os started H enc F)

theorem proved : Rows.CleanMergeUptoSaid := over
#print axioms proved
end Go.Proofs.Ytmigdomlakflfaa.cleanMerge
