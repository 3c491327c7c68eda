/- The law GaussCalls answers true for every input, and each argument reads behind the call as it read before. -/
import Derived.Test.YtlleakifnjfdkaaGreatRows
import Derived.WalkKit
import Derived.ProofKit
import Derived.OpenShut
import Derived.ShutString
import Derived.Below
import Derived.Lib.SmallJoins
import Derived.Test.YtlleakifnjfdkaaGreatJ7
namespace Go.Proofs.YtlleakifnjfdkaaGreat.gaussCalls
open Go.ChangeShapes Go.WideShapes Go.ChangeAt Go.RowKit Go.Joins
open Go.ChangeMaps (open_string shut_string)
set_option linter.unusedVariables false

theorem own : ownKnob Tryz.prog.godebug = none := by kernel_rfl
theorem laidOut : laidOutB Tryz.prog = true := by kernel_rfl
/-- A slice of words that came in: nil, or a row of 'cap' cells. -/
def IsRow (k : IntKind) (w : World) (a : Option Addr) (len cap : Nat) (zs : List Int) : Prop :=
  (a = none ∧ len = 0 ∧ cap = 0 ∧ zs = []) ∨
  ∃ x, a = some x ∧ len ≤ cap ∧ cap ≤ maxLen ∧ zs.length = cap ∧ (∀ i, i < zs.length → w.cell? (x.add i) = some (.int k (zs.getD i 0))) ∧ ∀ n ∈ zs, (Lit.int k n).wf = true

theorem walk (n0 : Bool) (a0 : Option Addr) (len0 cap0 : Nat) (z0 : List Int) (b0 : Option Addr) (lem0 cbp0 : Nat) (y0 : List Int) (m0 : Bool) (c0 : Option Addr) (lec0 cac0 : Nat) (us0 : List Int) (e0 : Option Addr) (lee0 cae0 : Nat) (vs0 : List Int) (n1 : Bool) (a1 : Option Addr) (len1 cap1 : Nat) (z1 : List Int) (b1 : Option Addr) (lem1 cbp1 : Nat) (y1 : List Int) (m1 : Bool) (c1 : Option Addr) (lec1 cac1 : Nat) (us1 : List Int) (e1 : Option Addr) (lee1 cae1 : Nat) (vs1 : List Int) (n2 : Bool) (a2 : Option Addr) (len2 cap2 : Nat) (z2 : List Int) (b2 : Option Addr) (lem2 cbp2 : Nat) (y2 : List Int) (w : World) (w0 : InRow w a0 len0 cap0 z0 ∧ InRow w b0 lem0 cbp0 y0 ∧ InRow w c0 lec0 cac0 us0 ∧ InRow w e0 lee0 cae0 vs0) (w1 : InRow w a1 len1 cap1 z1 ∧ InRow w b1 lem1 cbp1 y1 ∧ InRow w c1 lec1 cac1 us1 ∧ InRow w e1 lee1 cae1 vs1) (w2 : IsRow .u32 w a2 len2 cap2 z2) (u2 : IsRow .u32 w b2 lem2 cbp2 y2) :
    Calls Tryz.prog 3 #[.agg #[.bool n0, .slice a0 len0 cap0, .slice b0 lem0 cbp0, .bool m0, .slice c0 lec0 cac0, .slice e0 lee0 cae0], .agg #[.bool n1, .slice a1 len1 cap1, .slice b1 lem1 cbp1, .bool m1, .slice c1 lec1 cac1, .slice e1 lee1 cae1], .agg #[.bool n2, .slice a2 len2 cap2, .slice b2 lem2 cbp2]] w fun e w' => e = .returned (.bool true) ∧ Below w.heap.size w w' := by
  exact gaussCalls_in n0 a0 len0 cap0 _ b0 lem0 cbp0 _ m0 c0 lec0 cac0 _ e0 lee0 cae0 _ n1 a1 len1 cap1 _ b1 lem1 cbp1 _ m1 c1 lec1 cac1 _ e1 lee1 cae1 _ n2 a2 len2 cap2 _ b2 lem2 cbp2 _ w (reads_of_row w0.1) (reads_of_row w0.2.1) (reads_of_row w0.2.2.1) (reads_of_row w0.2.2.2) (reads_of_row w1.1) (reads_of_row w1.2.1) (reads_of_row w1.2.2.1) (reads_of_row w1.2.2.2) (reads_of_row w2) (reads_of_row u2)

/-! ### THE ROW's STEP -/
set_option maxRecDepth 100000 in
theorem lifted (os : Os) (started : os.Started) (H : Type) (enc : TypeId × Value → H) :
    ReturnsInHanded {} Tryz.checked os 3 .any (Rows.gaussCallsSpec.pre6 enc Tryz.prog Tryz.f3 Rows.gaussCallsRow.domain false) (Rows.gaussCallsSpec.post enc Tryz.prog Tryz.f3 false true false false) := by
  refine returnsInHanded_of_change (C := Tryz.checked) own started (by kernel_rfl) Tryz.func3
    (ChangeSpec.witness6 (enc := enc) (C := Tryz.checked) false ⟨#[], #[.agg #[.bool false, .slice none 0 0, .slice none 0 0, .bool false, .slice none 0 0, .slice none 0 0], .agg #[.bool false, .slice none 0 0, .slice none 0 0, .bool false, .slice none 0 0, .slice none 0 0], .agg #[.bool false, .slice none 0 0, .slice none 0 0]], []⟩ 8 (by kernel_rfl) (by kernel_rfl) (by kernel_rfl) (by kernel_rfl)) ?_
  intro W base args ds gs before hval0 hW hcnd _
  have hval : ∀ (j : Nat) t v, Tryz.f3.params[j]? = some t → args[j]? = some v → Value.okWide Tryz.prog W .any base t v := hval0
  have hW' := hW
  obtain ⟨p, q, hA0, hV, rfl, hfz, hnd⟩ := hW
  have hA : DataW.TrodAll enc Tryz.prog W 0 (fun _ => true) true Tryz.f3.params.toList args.toList ds p := hA0
  rw [Tryz.params3] at hA hval
  obtain ⟨v0, vs0, d0, ds0, p0, q0, hargs, rfl, rfl, h0, r0⟩ := trodAll_cons hA
  obtain ⟨v1, vs1, d1, ds1, p1, q1, rfl, rfl, rfl, h1, r1⟩ := trodAll_cons r0
  obtain ⟨v2, vs2, d2, ds2, p2, q2, rfl, rfl, rfl, h2, r2⟩ := trodAll_cons r1
  obtain ⟨rfl, rfl, rfl⟩ := trodAll_nil r2
  obtain rfl : args = #[v0, v1, v2] := by cases args; simp_all
  obtain ⟨rfl, rfl⟩ := trodVars_none hV
  have k0 := h0
  have lt0 : ∀ x ∈ p0, x.block < W.heap.size := by obtain ⟨m, hm⟩ := k0; exact DataW.trod_lt m _ _ _ hm
  obtain ⟨n0, a0, len0, cap0, z0, b0, lem0, cbp0, y0, m0, c0, lec0, cac0, us0, e0, lee0, cae0, vs0, hv0, w0⟩ := open_gauss (hval 0 26 v0 rfl rfl) h0
  have k1 := h1
  have lt1 : ∀ x ∈ p1, x.block < W.heap.size := by obtain ⟨m, hm⟩ := k1; exact DataW.trod_lt m _ _ _ hm
  obtain ⟨n1, a1, len1, cap1, z1, b1, lem1, cbp1, y1, m1, c1, lec1, cac1, us1, e1, lee1, cae1, vs1, hv1, w1⟩ := open_gauss (hval 1 26 v1 rfl rfl) h1
  have k2 := h2
  have lt2 : ∀ x ∈ p2, x.block < W.heap.size := by obtain ⟨m, hm⟩ := k2; exact DataW.trod_lt m _ _ _ hm
  obtain ⟨n2, a2, len2, cap2, z2, b2, lem2, cbp2, y2, hv2, w2, u2⟩ : ∃ n a len cap zs b lem cbp ys, v2 = .agg #[.bool n, .slice a len cap, .slice b lem cbp] ∧ IsRow .u32 W a len cap zs ∧ IsRow .u32 W b lem cbp ys := by
    obtain ⟨u0, u1, u2, y0, y1, y2, fuel, e1, _, _, t0, t1, t2⟩ := open_agg3 Tryz.underlying24 (by kernel_rfl) (by kernel_rfl) (hval 2 24 v2 rfl rfl) h2
    obtain ⟨bb, hc0, _⟩ := DataW.trod_bool Tryz.underlying4 t0
    simp at hc0
    have g1 : ∃ a len cap zs, u1 = .slice a len cap ∧ IsRow .u32 W a len cap zs := by
      rcases open_ints Tryz.underlying22 Tryz.underlying63 (by kernel_rfl) t1 with ⟨hcs, _⟩ | ⟨x, l, cc, zs, hcs, _, hl, hm, hz, _, hcell, hwz⟩
      · simp at hcs
        exact ⟨none, 0, 0, [], hcs, .inl ⟨rfl, rfl, rfl, rfl⟩⟩
      · simp at hcs
        exact ⟨some x, l, cc, zs, hcs, .inr ⟨_, rfl, hl, hm, by simpa using hz, hcell, hwz⟩⟩
    have g2 : ∃ a len cap zs, u2 = .slice a len cap ∧ IsRow .u32 W a len cap zs := by
      rcases open_ints Tryz.underlying22 Tryz.underlying63 (by kernel_rfl) t2 with ⟨hcs, _⟩ | ⟨x, l, cc, zs, hcs, _, hl, hm, hz, _, hcell, hwz⟩
      · simp at hcs
        exact ⟨none, 0, 0, [], hcs, .inl ⟨rfl, rfl, rfl, rfl⟩⟩
      · simp at hcs
        exact ⟨some x, l, cc, zs, hcs, .inr ⟨_, rfl, hl, hm, by simpa using hz, hcell, hwz⟩⟩
    obtain ⟨a, len, cap, zs, e3, r3⟩ := g1
    obtain ⟨b, lem, cbp, ys, e4, r4⟩ := g2
    exact ⟨bb, a, len, cap, zs, b, lem, cbp, ys, by rw [e1, hc0, e3, e4], r3, r4⟩
  clear hA0 hval0
  subst hv0
  subst hv1
  subst hv2
  refine (walk n0 a0 len0 cap0 z0 b0 lem0 cbp0 y0 m0 c0 lec0 cac0 us0 e0 lee0 cae0 vs0 n1 a1 len1 cap1 z1 b1 lem1 cbp1 y1 m1 c1 lec1 cac1 us1 e1 lee1 cae1 vs1 n2 a2 len2 cap2 z2 b2 lem2 cbp2 y2 W w0 w1 w2 u2).mono fun e W' ⟨he, bel⟩ => ?_
  subst he
  exact ⟨_, rfl, _, _, _, [], _, [], hW', trodAll_mk1 (shut_bool Tryz.underlying4 _), (trodAll_cons_mk (Below.trod laidOut (by kernel_rfl) (of_decide_eq_true (by kernel_rfl)) k0 bel lt0) (trodAll_cons_mk (Below.trod laidOut (by kernel_rfl) (of_decide_eq_true (by kernel_rfl)) k1 bel lt1) (trodAll_cons_mk (Below.trod laidOut (by kernel_rfl) (of_decide_eq_true (by kernel_rfl)) k2 bel lt2) trodAll_mk0))), rfl, bel.frame _, fun h => by cases h⟩

theorem over : Rows.gaussCallsRow.holds Tryz.pinned (OpenSpec.ofChange Rows.gaussCallsSpec) :=
  OpenClaim.holds_of_wide 3 Tryz.f3 rfl rfl rfl rfl rfl rfl rfl ⟨rfl, rfl, rfl, rfl, rfl⟩ rfl rfl rfl rfl rfl (by kernel_rfl) Tryz.func3 (by kernel_rfl)
    (of_decide_eq_true (by kernel_rfl)) (by unfold Func.isWrapper; first | (rw [if_pos (by decide +kernel)]; kernel_rfl) | (rw [if_neg (by decide +kernel)]; exact ⟨rfl, rfl⟩))
    (fun os started H enc _ => lifted os started H enc)

theorem proved : Rows.GaussCallsSaid := over
#print axioms proved
end Go.Proofs.YtlleakifnjfdkaaGreat.gaussCalls
