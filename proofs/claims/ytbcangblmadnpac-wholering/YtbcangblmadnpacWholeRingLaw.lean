/- The law WholeRing answers true, and writes nothing that was there: whatever whole numbers come in. -/
import Derived.Test.YtbcangblmadnpacWh11
namespace Go.Proofs.Ytbcangblmadnpac
open Go.RowKit
set_option linter.unusedVariables false

/-- A slice of words lies in no struct's block. -/
theorem Sl.put {U : World} {v : Value} {xs : List Int} {b t : Nat} {n : Bool} {a : Option Addr} {k c : Nat} (h : Sl U v xs) (hb : Box U b t #[.bool n, .slice a k c]) (v0 v1 : Value) : Sl ((U.setCell ⟨b, 0, none⟩ v0).setCell ⟨b, 1, none⟩ v1) v xs := by
  obtain ⟨a', cap, rfl, h1, h2, h3, h4⟩ := h
  refine ⟨a', cap, rfl, h1, h2, ?_, h4⟩
  rcases h3 with h0 | ⟨bb, o, rfl, hlt, hc⟩
  · exact .inl h0
  · by_cases hl : xs.length = 0
    · exact .inl hl
    · right
      have hne : bb ≠ b := fun e => by
        subst e
        have e1 := hc 0 (by omega)
        rw [Nat.add_zero, hb.cell o] at e1
        match o with
        | 0 => simp at e1
        | 1 => simp at e1
        | o + 2 => simp at e1
      refine ⟨bb, o, rfl, by simpa [World.setCell] using hlt, fun j hj => ?_⟩
      have e1 := World.cell?_of_block (w := U) (w' := U.setCell ⟨b, 0, none⟩ v0) (a := ⟨bb, o + j, none⟩) (Below.heap_setCell U ⟨b, 0, none⟩ v0 bb hne)
      have e2 := World.cell?_of_block (w := U.setCell ⟨b, 0, none⟩ v0) (w' := (U.setCell ⟨b, 0, none⟩ v0).setCell ⟨b, 1, none⟩ v1) (a := ⟨bb, o + j, none⟩) (Below.heap_setCell _ ⟨b, 1, none⟩ v1 bb hne)
      rw [e2, e1]
      exact hc j hj
theorem Vr.put {U : World} {b b' : Nat} {n n' : Bool} {a a' : Option Addr} {c c' : Nat} {xs xs' : List Int} (h : Vr U b n a c xs) (h' : Vr U b' n' a' c' xs') (hne : b ≠ b') (v0 v1 : Value) : Vr ((U.setCell ⟨b', 0, none⟩ v0).setCell ⟨b', 1, none⟩ v1) b n a c xs :=
  ⟨(h.box.other ⟨b', 0, none⟩ v0 hne).other ⟨b', 1, none⟩ v1 hne, h.sl.put h'.box v0 v1⟩
theorem Vr.over {U : World} {b : Nat} {n : Bool} {a : Option Addr} {c : Nat} {xs : List Int} (h : Vr U b n a c xs) (m : Bool) {a' : Option Addr} {c' : Nat} {ys : List Int} (s : Sl U (.slice a' ys.length c') ys) : Vr ((U.setCell ⟨b, 0, none⟩ (.bool m)).setCell ⟨b, 1, none⟩ (.slice a' ys.length c')) b m a' c' ys :=
  ⟨(h.box.set 0 (.bool m)).set 1 (.slice a' ys.length c'), s.put h.box _ _⟩

set_option maxHeartbeats 800000 in
set_option maxRecDepth 100000 in
theorem wcheck_all (n : Bool) (v : Value) (xs : List Int) (w : World) (h : Sl w v xs) :
    Calls Try.prog 5 #[.agg #[.bool n, v]] w fun e w' => e = .returned (.int .i64 (wchk n xs)) ∧ Below w.heap.size w w' := by
  by_cases hl : xs.length ≤ 281474976710656
  · exact wcheck_any n v xs w h hl
  · have HB := hid (alloc_later w (.cells #[.bool n, v] 24))
    obtain ⟨a, cap, rfl, hr⟩ := h
    have h63 : xs.length ≤ 9223372036854775807 := by have := hr.2.2.2.1; have := hr.2.2.2.2.1; unfold maxLen at this; omega
    clear hr
    have HW : Hid (wchk n xs = 3) := by show _ = _; unfold wchk; rw [if_pos (by omega)]
    obtain ⟨k, hk⟩ : ∃ k, xs.length = k := ⟨_, rfl⟩
    rw [hk] at HB h63 hl ⊢
    have h1' : (2048 : Int) < (k : Int) := by omega
    clear hk hl
    go_enter Try.func5, Try.ntmps5
    go_wp2_with fail
    go_ret
    exact ⟨ret_int HW.out.symm, HB.out⟩

/-- Between two bounds. -/
def Bd (x L : Int) : Prop := -L < x ∧ x < L
theorem Bd.mul {x y L M : Int} (hx : Bd x L) (hy : Bd y M) : Bd (x * y) (L * M) := by
  have a1 : (x.natAbs : Int) ≤ L - 1 := by have := hx.1; have := hx.2; omega
  have a2 : (y.natAbs : Int) ≤ M - 1 := by have := hy.1; have := hy.2; omega
  have e1 : (x.natAbs : Int) * (y.natAbs : Int) ≤ (L - 1) * (M - 1) := Int.mul_le_mul a1 a2 (by omega) (by omega)
  have e2 : ((x * y).natAbs : Int) = (x.natAbs : Int) * (y.natAbs : Int) := by rw [Int.natAbs_mul, Int.natCast_mul]
  have e3 : (L - 1) * (M - 1) < L * M := by rw [Int.sub_mul, Int.mul_sub, Int.mul_one, Int.one_mul]; omega
  exact ⟨by omega, by omega⟩
theorem Bd.add {x y L M : Int} (hx : Bd x L) (hy : Bd y M) : Bd (x + y) (L + M) := ⟨by have := hx.1; have := hy.1; omega, by have := hx.2; have := hy.2; omega⟩
theorem Bd.le {x L M : Int} (hx : Bd x L) (h : L ≤ M) : Bd x M := ⟨by have := hx.1; omega, by have := hx.2; omega⟩
theorem lims : lim40 + lim40 + lim40 ≤ wlim ∧ lim40 * lim40 + lim40 * lim40 ≤ wlim ∧ lim40 * lim40 * lim40 ≤ wlim := by
  have e1 : lim40 * lim40 = 4294967296 ^ 80 := by unfold lim40; rw [← Int.pow_add]
  have e2 : (4294967296 : Int) ^ 80 * lim40 = 4294967296 ^ 120 := by unfold lim40; rw [← Int.pow_add]
  rw [e1, e2]
  have a1 : (4294967296 : Int) ^ (80 + 1) ≤ wlim := by unfold wlim; exact pw_le (by omega)
  have a2 : (4294967296 : Int) ^ 120 ≤ wlim := by unfold wlim; exact pw_le (by omega)
  have a3 : (4294967296 : Int) ^ (40 + 1) ≤ wlim := by unfold wlim; exact pw_le (by omega)
  rw [pw_succ] at a1 a3
  have p1 := pw_pos 80
  have p3 := pw_pos 40
  have e3 : lim40 = 4294967296 ^ 40 := rfl
  rw [e3]
  generalize (4294967296 : Int) ^ 40 = P at *
  generalize (4294967296 : Int) ^ 80 = Q at *
  generalize (4294967296 : Int) ^ 120 = R at *
  generalize wlim = V at *
  exact ⟨by omega, by omega, a2⟩

set_option maxHeartbeats 25600000 in
set_option maxRecDepth 100000 in
theorem wholeRing_good (nA : Bool) (aA : Option Addr) (cA : Nat) (xA : List Int) (nB : Bool) (aB : Option Addr) (cB : Nat) (xB : List Int) (nC : Bool) (aC : Option Addr) (cC : Nat) (xC : List Int) (w : World)
    (sA : Sl w (.slice aA xA.length cA) xA) (sB : Sl w (.slice aB xB.length cB) xB) (sC : Sl w (.slice aC xC.length cC) xC) :
    Calls Try.prog 3 #[.agg #[.bool nA, .slice aA xA.length cA], .agg #[.bool nB, .slice aB xB.length cB], .agg #[.bool nC, .slice aC xC.length cC]] w fun e w' => e = .returned (.bool true) ∧ Below w.heap.size w w' := by
  have wA := sA.wd
  have wB := sB.wd
  have wC := sC.wd
  have HB3 : Hid (Below w.heap.size w (((w.alloc (.cells #[.bool nA, .slice aA xA.length cA] 24)).alloc (.cells #[.bool nB, .slice aB xB.length cB] 24)).alloc (.cells #[.bool nC, .slice aC xC.length cC] 24))) := bt (bt (alloc_later _ _) (alloc_later _ _)) (alloc_later _ _)
  have vA0 : Vr (((w.alloc (.cells #[.bool nA, .slice aA xA.length cA] 24)).alloc (.cells #[.bool nB, .slice aB xB.length cB] 24)).alloc (.cells #[.bool nC, .slice aC xC.length cC] 24)) w.heap.size nA aA cA xA := Vr.new sA (bt (alloc_later _ _) (alloc_later _ _))
  have vB0 : Vr (((w.alloc (.cells #[.bool nA, .slice aA xA.length cA] 24)).alloc (.cells #[.bool nB, .slice aB xB.length cB] 24)).alloc (.cells #[.bool nC, .slice aC xC.length cC] 24)) (w.heap.size + 1) nB aB cB xB := by
    have e := Vr.new (n := nB) (sB.later (alloc_later w (.cells #[.bool nA, .slice aA xA.length cA] 24))) (alloc_later ((w.alloc (.cells #[.bool nA, .slice aA xA.length cA] 24)).alloc (.cells #[.bool nB, .slice aB xB.length cB] 24)) (.cells #[.bool nC, .slice aC xC.length cC] 24))
    rw [show (w.alloc (.cells #[.bool nA, .slice aA xA.length cA] 24)).heap.size = w.heap.size + 1 by simp] at e
    exact e
  have vC0 : Vr (((w.alloc (.cells #[.bool nA, .slice aA xA.length cA] 24)).alloc (.cells #[.bool nB, .slice aB xB.length cB] 24)).alloc (.cells #[.bool nC, .slice aC xC.length cC] 24)) (w.heap.size + 1 + 1) nC aC cC xC := by
    have e := Vr.new (n := nC) (sC.later (bt (alloc_later w (.cells #[.bool nA, .slice aA xA.length cA] 24)) (alloc_later _ (.cells #[.bool nB, .slice aB xB.length cB] 24)))) (Below.refl _ (((w.alloc (.cells #[.bool nA, .slice aA xA.length cA] 24)).alloc (.cells #[.bool nB, .slice aB xB.length cB] 24)).alloc (.cells #[.bool nC, .slice aC xC.length cC] 24)))
    rw [show ((w.alloc (.cells #[.bool nA, .slice aA xA.length cA] 24)).alloc (.cells #[.bool nB, .slice aB xB.length cB] 24)).heap.size = w.heap.size + 1 + 1 by simp] at e
    exact e
  have HV0 := hid (And.intro vA0 (And.intro vB0 vC0))
  have HL := hid (lives_any (((w.alloc (.cells #[.bool nA, .slice aA xA.length cA] 24)).alloc (.cells #[.bool nB, .slice aB xB.length cB] 24)).alloc (.cells #[.bool nC, .slice aC xC.length cC] 24)))
  clear sA sB sC vA0 vB0 vC0
  go_enter Try.func3, Try.ntmps3
  go_wp2_with fail
  refine Calls.mono HL.out ?_
  rintro e U1 ⟨rfl, hb1⟩
  have vA := HV0.out.1.later hb1
  have vB := HV0.out.2.1.later hb1
  have vC := HV0.out.2.2.later hb1
  have hb := bt HB3.out hb1
  clear HL HV0 HB3 hb1
  have iA0 := vA.c0
  have iA1 := vA.c1
  have iB0 := vB.c0
  have iB1 := vB.c1
  have iC0 := vC.c0
  have iC1 := vC.c1
  have dAB : Hid (w.heap.size < w.heap.size + 1) := by show _ < _; omega
  have dAC : Hid (w.heap.size < w.heap.size + 1 + 1) := by show _ < _; omega
  have dBC : Hid (w.heap.size + 1 < w.heap.size + 1 + 1) := by show _ < _; omega
  have hb6 := alloc_later U1 (.cells #[.bool nA, .slice aA xA.length cA, .bool nB, .slice aB xB.length cB, .bool nC, .slice aC xC.length cC] 24)
  have HBX := hid (Box.made U1 24 #[.bool nA, .slice aA xA.length cA, .bool nB, .slice aB xB.length cB, .bool nC, .slice aC xC.length cC])
  have HVX := hid (And.intro (vA.later hb6) (And.intro (vB.later hb6) (And.intro (vC.later hb6) (bt hb hb6))))
  clear vA vB vC hb hb6
  go_wp2_with fail
  go_loopw [32] (fun t wr => ∃ k : Nat, k ≤ 3 ∧ t = .int .i64 k ∧ Hid (1 ≤ k → wchk nA xA = 0 ∧ xA.length ≤ 40) ∧ Hid (2 ≤ k → wchk nB xB = 0 ∧ xB.length ≤ 40) ∧ Hid (3 ≤ k → wchk nC xC = 0 ∧ xC.length ≤ 40) ∧
    Box wr U1.heap.size 24 #[.bool nA, .slice aA xA.length cA, .bool nB, .slice aB xB.length cB, .bool nC, .slice aC xC.length cC] ∧ Vr wr w.heap.size nA aA cA xA ∧ Vr wr (w.heap.size + 1) nB aB cB xB ∧ Vr wr (w.heap.size + 1 + 1) nC aC cC xC ∧ Below w.heap.size w wr) (fun t _ => 3 - (intOf t).toNat)
  case atStart => exact ⟨0, by omega, rfl, fun h => by omega, fun h => by omega, fun h => by omega, HBX.out, HVX.out.1, HVX.out.2.1, HVX.out.2.2.1, HVX.out.2.2.2⟩
  case round =>
    obtain ⟨k, hk, rfl, HA, HBk, HC, box, vA, vB, vC, hb⟩ := hrel
    clear HBX HVX iA0 iA1 iB0 iB1 iC0 iC1
    rcases k with _ | k
    · skip
      have e0 : wr.cell? ⟨U1.heap.size, 0, none⟩ = some (.bool nA) := box.cell 0
      have e1 : wr.cell? ⟨U1.heap.size, 1, none⟩ = some (.slice aA xA.length cA) := box.cell 1
      have hb9 := alloc_later wr (.cells #[.bool nA, .slice aA xA.length cA] 24)
      have HCK := hid (wcheck_all nA _ xA _ (vA.sl.later hb9))
      have HX := hid (Box.made wr 24 #[.bool nA, .slice aA xA.length cA])
      have HB9 := hid hb9
      clear hb9
      by_cases h1 : wchk nA xA = 0
      · rw [h1] at HCK
        by_cases h2 : 40 < xA.length
        · have h2' : (40 : Int) < (xA.length : Int) := by omega
          clear h1 h2
          go_wp2_with fail
          refine Calls.mono HCK.out ?_
          rintro e U2 ⟨rfl, hb2⟩
          obtain ⟨y0, y1, _, _⟩ := res_box HX.out hb2
          have hbF := bt hb (bt HB9.out hb2)
          clear hb2
          go_wp2_with fail
          go_ret
          exact ⟨rfl, hbF⟩
        · have h2' : ¬ (40 : Int) < (xA.length : Int) := by omega
          have HG := hid (And.intro h1 (show xA.length ≤ 40 by omega))
          clear h1 h2
          go_wp2_with fail
          refine Calls.mono HCK.out ?_
          rintro e U2 ⟨rfl, hb2⟩
          obtain ⟨y0, y1, _, _⟩ := res_box HX.out hb2
          have hb3 := bt HB9.out hb2
          have HF := hid (And.intro (box.later hb3 box.lt) (And.intro (vA.later hb3) (And.intro (vB.later hb3) (And.intro (vC.later hb3) (bt hb hb3)))))
          clear hb2 hb3 box vA vB vC hb
          go_wp2_with fail
          go_roundw
          case rel => exact ⟨1, by omega, by go_num, (fun _ => HG.out), (fun h => by omega), (fun h => by omega), HF.out.1, HF.out.2.1, HF.out.2.2.1, HF.out.2.2.2.1, HF.out.2.2.2.2⟩
          case measure => simp [intOf]
      · have hne : (wchk nA xA != 0) = true := by simp [h1]
        obtain ⟨cc, hcc⟩ : ∃ cc, wchk nA xA = cc := ⟨_, rfl⟩
        rw [hcc] at HCK hne
        clear h1 hcc
        go_wp2_with fail
        refine Calls.mono HCK.out ?_
        rintro e U2 ⟨rfl, hb2⟩
        have hbF := bt hb (bt HB9.out hb2)
        clear hb2
        go_wp2_with fail
        go_ret
        exact ⟨rfl, hbF⟩
    · rcases k with _ | k
      · skip
        have e0 : wr.cell? ⟨U1.heap.size, 2, none⟩ = some (.bool nB) := box.cell 2
        have e1 : wr.cell? ⟨U1.heap.size, 3, none⟩ = some (.slice aB xB.length cB) := box.cell 3
        have hb9 := alloc_later wr (.cells #[.bool nB, .slice aB xB.length cB] 24)
        have HCK := hid (wcheck_all nB _ xB _ (vB.sl.later hb9))
        have HX := hid (Box.made wr 24 #[.bool nB, .slice aB xB.length cB])
        have HB9 := hid hb9
        clear hb9
        by_cases h1 : wchk nB xB = 0
        · rw [h1] at HCK
          by_cases h2 : 40 < xB.length
          · have h2' : (40 : Int) < (xB.length : Int) := by omega
            clear h1 h2
            go_wp2_with fail
            refine Calls.mono HCK.out ?_
            rintro e U2 ⟨rfl, hb2⟩
            obtain ⟨y0, y1, _, _⟩ := res_box HX.out hb2
            have hbF := bt hb (bt HB9.out hb2)
            clear hb2
            go_wp2_with fail
            go_ret
            exact ⟨rfl, hbF⟩
          · have h2' : ¬ (40 : Int) < (xB.length : Int) := by omega
            have HG := hid (And.intro h1 (show xB.length ≤ 40 by omega))
            clear h1 h2
            go_wp2_with fail
            refine Calls.mono HCK.out ?_
            rintro e U2 ⟨rfl, hb2⟩
            obtain ⟨y0, y1, _, _⟩ := res_box HX.out hb2
            have hb3 := bt HB9.out hb2
            have HF := hid (And.intro (box.later hb3 box.lt) (And.intro (vA.later hb3) (And.intro (vB.later hb3) (And.intro (vC.later hb3) (bt hb hb3)))))
            clear hb2 hb3 box vA vB vC hb
            go_wp2_with fail
            go_roundw
            case rel => exact ⟨2, by omega, by go_num, (fun _ => HA.out (by omega)), (fun _ => HG.out), (fun h => by omega), HF.out.1, HF.out.2.1, HF.out.2.2.1, HF.out.2.2.2.1, HF.out.2.2.2.2⟩
            case measure => simp [intOf]
        · have hne : (wchk nB xB != 0) = true := by simp [h1]
          obtain ⟨cc, hcc⟩ : ∃ cc, wchk nB xB = cc := ⟨_, rfl⟩
          rw [hcc] at HCK hne
          clear h1 hcc
          go_wp2_with fail
          refine Calls.mono HCK.out ?_
          rintro e U2 ⟨rfl, hb2⟩
          have hbF := bt hb (bt HB9.out hb2)
          clear hb2
          go_wp2_with fail
          go_ret
          exact ⟨rfl, hbF⟩
      · rcases k with _ | k
        · skip
          have e0 : wr.cell? ⟨U1.heap.size, 4, none⟩ = some (.bool nC) := box.cell 4
          have e1 : wr.cell? ⟨U1.heap.size, 5, none⟩ = some (.slice aC xC.length cC) := box.cell 5
          have hb9 := alloc_later wr (.cells #[.bool nC, .slice aC xC.length cC] 24)
          have HCK := hid (wcheck_all nC _ xC _ (vC.sl.later hb9))
          have HX := hid (Box.made wr 24 #[.bool nC, .slice aC xC.length cC])
          have HB9 := hid hb9
          clear hb9
          by_cases h1 : wchk nC xC = 0
          · rw [h1] at HCK
            by_cases h2 : 40 < xC.length
            · have h2' : (40 : Int) < (xC.length : Int) := by omega
              clear h1 h2
              go_wp2_with fail
              refine Calls.mono HCK.out ?_
              rintro e U2 ⟨rfl, hb2⟩
              obtain ⟨y0, y1, _, _⟩ := res_box HX.out hb2
              have hbF := bt hb (bt HB9.out hb2)
              clear hb2
              go_wp2_with fail
              go_ret
              exact ⟨rfl, hbF⟩
            · have h2' : ¬ (40 : Int) < (xC.length : Int) := by omega
              have HG := hid (And.intro h1 (show xC.length ≤ 40 by omega))
              clear h1 h2
              go_wp2_with fail
              refine Calls.mono HCK.out ?_
              rintro e U2 ⟨rfl, hb2⟩
              obtain ⟨y0, y1, _, _⟩ := res_box HX.out hb2
              have hb3 := bt HB9.out hb2
              have HF := hid (And.intro (box.later hb3 box.lt) (And.intro (vA.later hb3) (And.intro (vB.later hb3) (And.intro (vC.later hb3) (bt hb hb3)))))
              clear hb2 hb3 box vA vB vC hb
              go_wp2_with fail
              go_roundw
              case rel => exact ⟨3, by omega, by go_num, (fun _ => HA.out (by omega)), (fun _ => HBk.out (by omega)), (fun _ => HG.out), HF.out.1, HF.out.2.1, HF.out.2.2.1, HF.out.2.2.2.1, HF.out.2.2.2.2⟩
              case measure => simp [intOf]
          · have hne : (wchk nC xC != 0) = true := by simp [h1]
            obtain ⟨cc, hcc⟩ : ∃ cc, wchk nC xC = cc := ⟨_, rfl⟩
            rw [hcc] at HCK hne
            clear h1 hcc
            go_wp2_with fail
            refine Calls.mono HCK.out ?_
            rintro e U2 ⟨rfl, hb2⟩
            have hbF := bt hb (bt HB9.out hb2)
            clear hb2
            go_wp2_with fail
            go_ret
            exact ⟨rfl, hbF⟩
        · obtain rfl : k = 0 := by omega
          obtain ⟨hA, l40A⟩ := HA.out (by omega)
          obtain ⟨hB, l40B⟩ := HBk.out (by omega)
          obtain ⟨hC, l40C⟩ := HC.out (by omega)
          clear HA HBk HC box
          have HbA : Hid (Bd (wval nA xA) lim40) := below40 wA l40A
          have HbB : Hid (Bd (wval nB xB) lim40) := below40 wB l40B
          have HbC : Hid (Bd (wval nC xC) lim40) := below40 wC l40C
          have HLM := hid lims
          have HP4 := hid lim40_pos
          have HBD : Hid (Bd (wval nA xA + wval nB xB) wlim) := (HbA.out.add HbB.out).le (by have := HLM.out.1; have := HP4.out; omega)
          have HH := hid (lawAdd_any nA _ xA nB _ xB _ (vA.sl.later (Below.refl wr.heap.size wr)) (vB.sl.later (Below.refl wr.heap.size wr)) hA hB HBD.out.1 HBD.out.2)
          have iA0 := vA.c0
          have iA1 := vA.c1
          have iAb := vA.box.lt
          have iB0 := vB.c0
          have iB1 := vB.c1
          have iBb := vB.box.lt
          go_wp2_with fail
          refine Calls.mono HH.out ?_
          rintro e U1 ⟨nP, vPx, zP, rfl, oP, wP, kP, hvP, hb2⟩
          clear iA0 iA1 iAb iB0 iB1 iBb
          have hb3 := bt (Below.refl wr.heap.size wr) hb2
          replace vA := vA.later hb3
          replace vB := vB.later hb3
          replace vC := vC.later hb3
          replace hb := bt hb hb3
          clear hb2 hb3 HH
          obtain ⟨aP, cP, hs⟩ := own_slice' oP
          subst hs
          have HVP := hid hvP
          clear hvP
          have sP := Sl.own oP wP
          clear oP
          have gP := hid hb.size
          have dAP := hid vA.box.lt
          have dBP := hid vB.box.lt
          have dCP := hid vC.box.lt
          clear HBD
          have HbP : Hid (Bd (wval nP zP) (lim40 + lim40)) := by show Bd _ _; rw [HVP.out]; exact HbA.out.add HbB.out
          have HBD : Hid (Bd (wval nB xB + wval nA xA) wlim) := (HbB.out.add HbA.out).le (by have := HLM.out.1; have := HP4.out; omega)
          have HH := hid (lawAdd_any nB _ xB nA _ xA _ (vB.sl.later (show Below U1.heap.size U1 (U1.alloc (.cells #[.bool nP, .slice aP zP.length cP] 24)) from (alloc_later _ _))) (vA.sl.later (show Below U1.heap.size U1 (U1.alloc (.cells #[.bool nP, .slice aP zP.length cP] 24)) from (alloc_later _ _))) hB hA HBD.out.1 HBD.out.2)
          have iB0 := vB.c0
          have iB1 := vB.c1
          have iBb := vB.box.lt
          have iB2 := (vB.later (show Below U1.heap.size U1 (U1.alloc (.cells #[.bool nP, .slice aP zP.length cP] 24)) from (alloc_later _ _))).c0
          have iB3 := (vB.later (show Below U1.heap.size U1 (U1.alloc (.cells #[.bool nP, .slice aP zP.length cP] 24)) from (alloc_later _ _))).c1
          have iA0 := vA.c0
          have iA1 := vA.c1
          have iAb := vA.box.lt
          have iA2 := (vA.later (show Below U1.heap.size U1 (U1.alloc (.cells #[.bool nP, .slice aP zP.length cP] 24)) from (alloc_later _ _))).c0
          have iA3 := (vA.later (show Below U1.heap.size U1 (U1.alloc (.cells #[.bool nP, .slice aP zP.length cP] 24)) from (alloc_later _ _))).c1
          go_wp2_with fail
          refine Calls.mono HH.out ?_
          rintro e U2 ⟨nQ, vQx, zQ, rfl, oQ, wQ, kQ, hvQ, hb2⟩
          clear iB0 iB1 iBb iB2 iB3 iA0 iA1 iAb iA2 iA3
          have hb3 := bt (show Below U1.heap.size U1 (U1.alloc (.cells #[.bool nP, .slice aP zP.length cP] 24)) from (alloc_later _ _)) hb2
          replace vA := vA.later hb3
          replace vB := vB.later hb3
          replace vC := vC.later hb3
          have vP : Vr U2 U1.heap.size nP aP cP zP := Vr.new sP hb2
          clear sP
          replace hb := bt hb hb3
          clear hb2 hb3 HH
          obtain ⟨aQ, cQ, hs⟩ := own_slice' oQ
          subst hs
          have HVQ := hid hvQ
          clear hvQ
          have sQ := Sl.own oQ wQ
          clear oQ
          have gQ := hid hb.size
          have dAQ := hid vA.box.lt
          have dBQ := hid vB.box.lt
          have dCQ := hid vC.box.lt
          have dPQ := hid vP.box.lt
          clear HBD
          have HBD : Hid (Bd (wval nB xB + wval nC xC) wlim) := (HbB.out.add HbC.out).le (by have := HLM.out.1; have := HP4.out; omega)
          have HH := hid (lawAdd_any nB _ xB nC _ xC _ (vB.sl.later (show Below U2.heap.size U2 (U2.alloc (.cells #[.bool nQ, .slice aQ zQ.length cQ] 24)) from (alloc_later _ _))) (vC.sl.later (show Below U2.heap.size U2 (U2.alloc (.cells #[.bool nQ, .slice aQ zQ.length cQ] 24)) from (alloc_later _ _))) hB hC HBD.out.1 HBD.out.2)
          have iB0 := vB.c0
          have iB1 := vB.c1
          have iBb := vB.box.lt
          have iB2 := (vB.later (show Below U2.heap.size U2 (U2.alloc (.cells #[.bool nQ, .slice aQ zQ.length cQ] 24)) from (alloc_later _ _))).c0
          have iB3 := (vB.later (show Below U2.heap.size U2 (U2.alloc (.cells #[.bool nQ, .slice aQ zQ.length cQ] 24)) from (alloc_later _ _))).c1
          have iC0 := vC.c0
          have iC1 := vC.c1
          have iCb := vC.box.lt
          have iC2 := (vC.later (show Below U2.heap.size U2 (U2.alloc (.cells #[.bool nQ, .slice aQ zQ.length cQ] 24)) from (alloc_later _ _))).c0
          have iC3 := (vC.later (show Below U2.heap.size U2 (U2.alloc (.cells #[.bool nQ, .slice aQ zQ.length cQ] 24)) from (alloc_later _ _))).c1
          go_wp2_with fail
          refine Calls.mono HH.out ?_
          rintro e U3 ⟨nR, vRx, zR, rfl, oR, wR, kR, hvR, hb2⟩
          clear iB0 iB1 iBb iB2 iB3 iC0 iC1 iCb iC2 iC3
          have hb3 := bt (show Below U2.heap.size U2 (U2.alloc (.cells #[.bool nQ, .slice aQ zQ.length cQ] 24)) from (alloc_later _ _)) hb2
          replace vA := vA.later hb3
          replace vB := vB.later hb3
          replace vC := vC.later hb3
          replace vP := vP.later hb3
          have vQ : Vr U3 U2.heap.size nQ aQ cQ zQ := Vr.new sQ hb2
          clear sQ
          replace hb := bt hb hb3
          clear hb2 hb3 HH
          obtain ⟨aR, cR, hs⟩ := own_slice' oR
          subst hs
          have HVR := hid hvR
          clear hvR
          have sR := Sl.own oR wR
          clear oR
          have gR := hid hb.size
          have dAR := hid vA.box.lt
          have dBR := hid vB.box.lt
          have dCR := hid vC.box.lt
          have dPR := hid vP.box.lt
          have dQR := hid vQ.box.lt
          clear HBD
          have HbR : Hid (Bd (wval nR zR) (lim40 + lim40)) := by show Bd _ _; rw [HVR.out]; exact HbB.out.add HbC.out
          have HBD : Hid (Bd (wval nP zP + wval nC xC) wlim) := (HbP.out.add HbC.out).le (by have := HLM.out.1; omega)
          have HH := hid (lawAdd_any nP _ zP nC _ xC _ (vP.sl.later (show Below U3.heap.size U3 (U3.alloc (.cells #[.bool nR, .slice aR zR.length cR] 24)) from (alloc_later _ _))) (vC.sl.later (show Below U3.heap.size U3 (U3.alloc (.cells #[.bool nR, .slice aR zR.length cR] 24)) from (alloc_later _ _))) kP hC HBD.out.1 HBD.out.2)
          have iP0 := vP.c0
          have iP1 := vP.c1
          have iPb := vP.box.lt
          have iP2 := (vP.later (show Below U3.heap.size U3 (U3.alloc (.cells #[.bool nR, .slice aR zR.length cR] 24)) from (alloc_later _ _))).c0
          have iP3 := (vP.later (show Below U3.heap.size U3 (U3.alloc (.cells #[.bool nR, .slice aR zR.length cR] 24)) from (alloc_later _ _))).c1
          have iC0 := vC.c0
          have iC1 := vC.c1
          have iCb := vC.box.lt
          have iC2 := (vC.later (show Below U3.heap.size U3 (U3.alloc (.cells #[.bool nR, .slice aR zR.length cR] 24)) from (alloc_later _ _))).c0
          have iC3 := (vC.later (show Below U3.heap.size U3 (U3.alloc (.cells #[.bool nR, .slice aR zR.length cR] 24)) from (alloc_later _ _))).c1
          go_wp2_with fail
          refine Calls.mono HH.out ?_
          rintro e U4 ⟨nL, vLx, zL, rfl, oL, wL, kL, hvL, hb2⟩
          clear iP0 iP1 iPb iP2 iP3 iC0 iC1 iCb iC2 iC3
          have hb3 := bt (show Below U3.heap.size U3 (U3.alloc (.cells #[.bool nR, .slice aR zR.length cR] 24)) from (alloc_later _ _)) hb2
          replace vA := vA.later hb3
          replace vB := vB.later hb3
          replace vC := vC.later hb3
          replace vP := vP.later hb3
          replace vQ := vQ.later hb3
          have vR : Vr U4 U3.heap.size nR aR cR zR := Vr.new sR hb2
          clear sR
          replace hb := bt hb hb3
          clear hb2 hb3 HH
          obtain ⟨aL, cL, hs⟩ := own_slice' oL
          subst hs
          have HVL := hid hvL
          clear hvL
          have sL := Sl.own oL wL
          clear oL
          have gL := hid hb.size
          have dAL := hid vA.box.lt
          have dBL := hid vB.box.lt
          have dCL := hid vC.box.lt
          have dPL := hid vP.box.lt
          have dQL := hid vQ.box.lt
          have dRL := hid vR.box.lt
          clear HBD
          have HBD : Hid (Bd (wval nA xA + wval nR zR) wlim) := (HbA.out.add HbR.out).le (by have := HLM.out.1; omega)
          have HH := hid (lawAdd_any nA _ xA nR _ zR _ (vA.sl.later (show Below U4.heap.size U4 (U4.alloc (.cells #[.bool nL, .slice aL zL.length cL] 24)) from (alloc_later _ _))) (vR.sl.later (show Below U4.heap.size U4 (U4.alloc (.cells #[.bool nL, .slice aL zL.length cL] 24)) from (alloc_later _ _))) hA kR HBD.out.1 HBD.out.2)
          have iA0 := vA.c0
          have iA1 := vA.c1
          have iAb := vA.box.lt
          have iA2 := (vA.later (show Below U4.heap.size U4 (U4.alloc (.cells #[.bool nL, .slice aL zL.length cL] 24)) from (alloc_later _ _))).c0
          have iA3 := (vA.later (show Below U4.heap.size U4 (U4.alloc (.cells #[.bool nL, .slice aL zL.length cL] 24)) from (alloc_later _ _))).c1
          have iR0 := vR.c0
          have iR1 := vR.c1
          have iRb := vR.box.lt
          have iR2 := (vR.later (show Below U4.heap.size U4 (U4.alloc (.cells #[.bool nL, .slice aL zL.length cL] 24)) from (alloc_later _ _))).c0
          have iR3 := (vR.later (show Below U4.heap.size U4 (U4.alloc (.cells #[.bool nL, .slice aL zL.length cL] 24)) from (alloc_later _ _))).c1
          go_wp2_with fail
          refine Calls.mono HH.out ?_
          rintro e U5 ⟨nM, vMx, zM, rfl, oM, wM, kM, hvM, hb2⟩
          clear iA0 iA1 iAb iA2 iA3 iR0 iR1 iRb iR2 iR3
          have hb3 := bt (show Below U4.heap.size U4 (U4.alloc (.cells #[.bool nL, .slice aL zL.length cL] 24)) from (alloc_later _ _)) hb2
          replace vA := vA.later hb3
          replace vB := vB.later hb3
          replace vC := vC.later hb3
          replace vP := vP.later hb3
          replace vQ := vQ.later hb3
          replace vR := vR.later hb3
          have vL : Vr U5 U4.heap.size nL aL cL zL := Vr.new sL hb2
          clear sL
          replace hb := bt hb hb3
          clear hb2 hb3 HH
          obtain ⟨aM, cM, hs⟩ := own_slice' oM
          subst hs
          have HVM := hid hvM
          clear hvM
          have sM := Sl.own oM wM
          clear oM
          have gM := hid hb.size
          have dAM := hid vA.box.lt
          have dBM := hid vB.box.lt
          have dCM := hid vC.box.lt
          have dPM := hid vP.box.lt
          have dQM := hid vQ.box.lt
          have dRM := hid vR.box.lt
          have dLM := hid vL.box.lt
          clear HBD
          have HH := hid (lawSame_any nP _ zP nQ _ zQ _ (vP.sl.later (show Below U5.heap.size U5 (U5.alloc (.cells #[.bool nM, .slice aM zM.length cM] 24)) from (alloc_later _ _))) (vQ.sl.later (show Below U5.heap.size U5 (U5.alloc (.cells #[.bool nM, .slice aM zM.length cM] 24)) from (alloc_later _ _))) kP kQ (by rw [HVP.out, HVQ.out, Int.add_comm]))
          have iP0 := vP.c0
          have iP1 := vP.c1
          have iPb := vP.box.lt
          have iP2 := (vP.later (show Below U5.heap.size U5 (U5.alloc (.cells #[.bool nM, .slice aM zM.length cM] 24)) from (alloc_later _ _))).c0
          have iP3 := (vP.later (show Below U5.heap.size U5 (U5.alloc (.cells #[.bool nM, .slice aM zM.length cM] 24)) from (alloc_later _ _))).c1
          have iQ0 := vQ.c0
          have iQ1 := vQ.c1
          have iQb := vQ.box.lt
          have iQ2 := (vQ.later (show Below U5.heap.size U5 (U5.alloc (.cells #[.bool nM, .slice aM zM.length cM] 24)) from (alloc_later _ _))).c0
          have iQ3 := (vQ.later (show Below U5.heap.size U5 (U5.alloc (.cells #[.bool nM, .slice aM zM.length cM] 24)) from (alloc_later _ _))).c1
          go_wp2_with fail
          refine Calls.mono HH.out ?_
          rintro e U6 ⟨rfl, hb2⟩
          clear iP0 iP1 iPb iP2 iP3 iQ0 iQ1 iQb iQ2 iQ3
          have hb3 := bt (show Below U5.heap.size U5 (U5.alloc (.cells #[.bool nM, .slice aM zM.length cM] 24)) from (alloc_later _ _)) hb2
          replace vA := vA.later hb3
          replace vB := vB.later hb3
          replace vC := vC.later hb3
          replace vP := vP.later hb3
          replace vQ := vQ.later hb3
          replace vR := vR.later hb3
          replace vL := vL.later hb3
          have vM : Vr U6 U5.heap.size nM aM cM zM := Vr.new sM hb2
          clear sM
          replace hb := bt hb hb3
          clear hb2 hb3 HH
          have HH := hid (lawSame_any nL _ zL nM _ zM _ (vL.sl.later (Below.refl U6.heap.size U6)) (vM.sl.later (Below.refl U6.heap.size U6)) kL kM (by rw [HVL.out, HVM.out, HVP.out, HVR.out, Int.add_assoc]))
          have iL0 := vL.c0
          have iL1 := vL.c1
          have iLb := vL.box.lt
          have iM0 := vM.c0
          have iM1 := vM.c1
          have iMb := vM.box.lt
          go_wp2_with fail
          refine Calls.mono HH.out ?_
          rintro e U7 ⟨rfl, hb2⟩
          clear iL0 iL1 iLb iM0 iM1 iMb
          have hb3 := bt (Below.refl U6.heap.size U6) hb2
          replace vA := vA.later hb3
          replace vB := vB.later hb3
          replace vC := vC.later hb3
          replace vP := vP.later hb3
          replace vQ := vQ.later hb3
          replace vR := vR.later hb3
          replace vL := vL.later hb3
          replace vM := vM.later hb3
          replace hb := bt hb hb3
          clear hb2 hb3 HH
          clear vQ
          clear kQ HVQ
          have HH := hid (wsub_any nP _ zP nB _ xB _ (vP.sl.later (Below.refl U7.heap.size U7)) (vB.sl.later (Below.refl U7.heap.size U7)) kP hB)
          have iP0 := vP.c0
          have iP1 := vP.c1
          have iPb := vP.box.lt
          have iB0 := vB.c0
          have iB1 := vB.c1
          have iBb := vB.box.lt
          go_wp2_with fail
          refine Calls.mono HH.out ?_
          rintro e U8 ⟨nS, vSx, zS, ccS, rfl, oS, wtS, hb2⟩
          clear iP0 iP1 iPb iB0 iB1 iBb
          have hb3 := bt (Below.refl U7.heap.size U7) hb2
          replace vA := vA.later hb3
          replace vB := vB.later hb3
          replace vC := vC.later hb3
          replace vP := vP.later hb3
          replace vR := vR.later hb3
          replace vL := vL.later hb3
          replace vM := vM.later hb3
          replace hb := bt hb hb3
          clear hb2 hb3 HH
          have hsv : wval nP zP - wval nB xB = wval nA xA := by rw [HVP.out]; omega
          rw [hsv] at wtS
          obtain ⟨rfl, hvS⟩ := wtS.good rfl (by have := HbA.out.1; have := HLM.out.1; have := HP4.out; omega) (by have := HbA.out.2; have := HLM.out.1; have := HP4.out; omega)
          obtain ⟨aS, cS, hs⟩ := own_slice' oS
          subst hs
          have sS := Sl.own oS wtS.wd
          have kS := wchk_good wtS.len wtS.trim wtS.sign
          have HVS := hid hvS
          clear oS wtS hvS hsv
          have gS := hid hb.size
          have dAS := hid vA.box.lt
          have dBS := hid vB.box.lt
          have dCS := hid vC.box.lt
          have dPS := hid vP.box.lt
          have dRS := hid vR.box.lt
          have dLS := hid vL.box.lt
          have dMS := hid vM.box.lt
          clear vP
          clear HbP
          have HBD : Hid (Bd (wval nA xA * wval nB xB) wlim) := (HbA.out.mul HbB.out).le (by have := HLM.out.2.1; have := Int.mul_pos HP4.out HP4.out; omega)
          have HH := hid (lawMul_any nA _ xA nB _ xB _ (vA.sl.later (show Below U8.heap.size U8 (U8.alloc (.cells #[.bool nS, .slice aS zS.length cS] 24)) from (alloc_later _ _))) (vB.sl.later (show Below U8.heap.size U8 (U8.alloc (.cells #[.bool nS, .slice aS zS.length cS] 24)) from (alloc_later _ _))) hA hB HBD.out.1 HBD.out.2)
          have iA0 := vA.c0
          have iA1 := vA.c1
          have iAb := vA.box.lt
          have iA2 := (vA.later (show Below U8.heap.size U8 (U8.alloc (.cells #[.bool nS, .slice aS zS.length cS] 24)) from (alloc_later _ _))).c0
          have iA3 := (vA.later (show Below U8.heap.size U8 (U8.alloc (.cells #[.bool nS, .slice aS zS.length cS] 24)) from (alloc_later _ _))).c1
          have iB0 := vB.c0
          have iB1 := vB.c1
          have iBb := vB.box.lt
          have iB2 := (vB.later (show Below U8.heap.size U8 (U8.alloc (.cells #[.bool nS, .slice aS zS.length cS] 24)) from (alloc_later _ _))).c0
          have iB3 := (vB.later (show Below U8.heap.size U8 (U8.alloc (.cells #[.bool nS, .slice aS zS.length cS] 24)) from (alloc_later _ _))).c1
          go_wp2_with fail
          refine Calls.mono HH.out ?_
          rintro e U9 ⟨nX, vXx, zX, rfl, oX, wX, kX, hvX, hb2⟩
          clear iA0 iA1 iAb iA2 iA3 iB0 iB1 iBb iB2 iB3
          have hb3 := bt (show Below U8.heap.size U8 (U8.alloc (.cells #[.bool nS, .slice aS zS.length cS] 24)) from (alloc_later _ _)) hb2
          replace vA := vA.later hb3
          replace vB := vB.later hb3
          replace vC := vC.later hb3
          replace vR := vR.later hb3
          replace vL := vL.later hb3
          replace vM := vM.later hb3
          have vS : Vr U9 U8.heap.size nS aS cS zS := Vr.new sS hb2
          clear sS
          replace hb := bt hb hb3
          clear hb2 hb3 HH
          obtain ⟨aX, cX, hs⟩ := own_slice' oX
          subst hs
          have HVX := hid hvX
          clear hvX
          have sX := Sl.own oX wX
          clear oX
          have gX := hid hb.size
          have dAX := hid vA.box.lt
          have dBX := hid vB.box.lt
          have dCX := hid vC.box.lt
          have dRX := hid vR.box.lt
          have dLX := hid vL.box.lt
          have dMX := hid vM.box.lt
          have dSX := hid vS.box.lt
          clear HBD
          have HbX : Hid (Bd (wval nX zX) (lim40 * lim40)) := by show Bd _ _; rw [HVX.out]; exact HbA.out.mul HbB.out
          have HBD : Hid (Bd (wval nB xB * wval nA xA) wlim) := (HbB.out.mul HbA.out).le (by have := HLM.out.2.1; have := Int.mul_pos HP4.out HP4.out; omega)
          have HH := hid (lawMul_any nB _ xB nA _ xA _ (vB.sl.later (show Below U9.heap.size U9 (U9.alloc (.cells #[.bool nX, .slice aX zX.length cX] 24)) from (alloc_later _ _))) (vA.sl.later (show Below U9.heap.size U9 (U9.alloc (.cells #[.bool nX, .slice aX zX.length cX] 24)) from (alloc_later _ _))) hB hA HBD.out.1 HBD.out.2)
          have iB0 := vB.c0
          have iB1 := vB.c1
          have iBb := vB.box.lt
          have iB2 := (vB.later (show Below U9.heap.size U9 (U9.alloc (.cells #[.bool nX, .slice aX zX.length cX] 24)) from (alloc_later _ _))).c0
          have iB3 := (vB.later (show Below U9.heap.size U9 (U9.alloc (.cells #[.bool nX, .slice aX zX.length cX] 24)) from (alloc_later _ _))).c1
          have iA0 := vA.c0
          have iA1 := vA.c1
          have iAb := vA.box.lt
          have iA2 := (vA.later (show Below U9.heap.size U9 (U9.alloc (.cells #[.bool nX, .slice aX zX.length cX] 24)) from (alloc_later _ _))).c0
          have iA3 := (vA.later (show Below U9.heap.size U9 (U9.alloc (.cells #[.bool nX, .slice aX zX.length cX] 24)) from (alloc_later _ _))).c1
          go_wp2_with fail
          refine Calls.mono HH.out ?_
          rintro e U10 ⟨nY, vYx, zY, rfl, oY, wY, kY, hvY, hb2⟩
          clear iB0 iB1 iBb iB2 iB3 iA0 iA1 iAb iA2 iA3
          have hb3 := bt (show Below U9.heap.size U9 (U9.alloc (.cells #[.bool nX, .slice aX zX.length cX] 24)) from (alloc_later _ _)) hb2
          replace vA := vA.later hb3
          replace vB := vB.later hb3
          replace vC := vC.later hb3
          replace vR := vR.later hb3
          replace vL := vL.later hb3
          replace vM := vM.later hb3
          replace vS := vS.later hb3
          have vX : Vr U10 U9.heap.size nX aX cX zX := Vr.new sX hb2
          clear sX
          replace hb := bt hb hb3
          clear hb2 hb3 HH
          obtain ⟨aY, cY, hs⟩ := own_slice' oY
          subst hs
          have HVY := hid hvY
          clear hvY
          have sY := Sl.own oY wY
          clear oY
          have gY := hid hb.size
          have dAY := hid vA.box.lt
          have dBY := hid vB.box.lt
          have dCY := hid vC.box.lt
          have dRY := hid vR.box.lt
          have dLY := hid vL.box.lt
          have dMY := hid vM.box.lt
          have dSY := hid vS.box.lt
          have dXY := hid vX.box.lt
          clear HBD
          have HBD : Hid (Bd (wval nB xB * wval nC xC) wlim) := (HbB.out.mul HbC.out).le (by have := HLM.out.2.1; have := Int.mul_pos HP4.out HP4.out; omega)
          have HH := hid (lawMul_any nB _ xB nC _ xC _ (vB.sl.later (show Below U10.heap.size U10 (U10.alloc (.cells #[.bool nY, .slice aY zY.length cY] 24)) from (alloc_later _ _))) (vC.sl.later (show Below U10.heap.size U10 (U10.alloc (.cells #[.bool nY, .slice aY zY.length cY] 24)) from (alloc_later _ _))) hB hC HBD.out.1 HBD.out.2)
          have iB0 := vB.c0
          have iB1 := vB.c1
          have iBb := vB.box.lt
          have iB2 := (vB.later (show Below U10.heap.size U10 (U10.alloc (.cells #[.bool nY, .slice aY zY.length cY] 24)) from (alloc_later _ _))).c0
          have iB3 := (vB.later (show Below U10.heap.size U10 (U10.alloc (.cells #[.bool nY, .slice aY zY.length cY] 24)) from (alloc_later _ _))).c1
          have iC0 := vC.c0
          have iC1 := vC.c1
          have iCb := vC.box.lt
          have iC2 := (vC.later (show Below U10.heap.size U10 (U10.alloc (.cells #[.bool nY, .slice aY zY.length cY] 24)) from (alloc_later _ _))).c0
          have iC3 := (vC.later (show Below U10.heap.size U10 (U10.alloc (.cells #[.bool nY, .slice aY zY.length cY] 24)) from (alloc_later _ _))).c1
          go_wp2_with fail
          refine Calls.mono HH.out ?_
          rintro e U11 ⟨nZ, vZx, zZ, rfl, oZ, wZ, kZ, hvZ, hb2⟩
          clear iB0 iB1 iBb iB2 iB3 iC0 iC1 iCb iC2 iC3
          have hb3 := bt (show Below U10.heap.size U10 (U10.alloc (.cells #[.bool nY, .slice aY zY.length cY] 24)) from (alloc_later _ _)) hb2
          replace vA := vA.later hb3
          replace vB := vB.later hb3
          replace vC := vC.later hb3
          replace vR := vR.later hb3
          replace vL := vL.later hb3
          replace vM := vM.later hb3
          replace vS := vS.later hb3
          replace vX := vX.later hb3
          have vY : Vr U11 U10.heap.size nY aY cY zY := Vr.new sY hb2
          clear sY
          replace hb := bt hb hb3
          clear hb2 hb3 HH
          obtain ⟨aZ, cZ, hs⟩ := own_slice' oZ
          subst hs
          have HVZ := hid hvZ
          clear hvZ
          have sZ := Sl.own oZ wZ
          clear oZ
          have gZ := hid hb.size
          have dAZ := hid vA.box.lt
          have dBZ := hid vB.box.lt
          have dCZ := hid vC.box.lt
          have dRZ := hid vR.box.lt
          have dLZ := hid vL.box.lt
          have dMZ := hid vM.box.lt
          have dSZ := hid vS.box.lt
          have dXZ := hid vX.box.lt
          have dYZ := hid vY.box.lt
          clear HBD
          have HbZ : Hid (Bd (wval nZ zZ) (lim40 * lim40)) := by show Bd _ _; rw [HVZ.out]; exact HbB.out.mul HbC.out
          clear kL kM HVL HVM
          have HBD : Hid (Bd (wval nX zX * wval nC xC) wlim) := (HbX.out.mul HbC.out).le HLM.out.2.2
          have HH := hid (lawMul_any nX _ zX nC _ xC _ (vX.sl.later (show Below U11.heap.size U11 (U11.alloc (.cells #[.bool nZ, .slice aZ zZ.length cZ] 24)) from (alloc_later _ _))) (vC.sl.later (show Below U11.heap.size U11 (U11.alloc (.cells #[.bool nZ, .slice aZ zZ.length cZ] 24)) from (alloc_later _ _))) kX hC HBD.out.1 HBD.out.2)
          have iX0 := vX.c0
          have iX1 := vX.c1
          have iXb := vX.box.lt
          have iX2 := (vX.later (show Below U11.heap.size U11 (U11.alloc (.cells #[.bool nZ, .slice aZ zZ.length cZ] 24)) from (alloc_later _ _))).c0
          have iX3 := (vX.later (show Below U11.heap.size U11 (U11.alloc (.cells #[.bool nZ, .slice aZ zZ.length cZ] 24)) from (alloc_later _ _))).c1
          have iC0 := vC.c0
          have iC1 := vC.c1
          have iCb := vC.box.lt
          have iC2 := (vC.later (show Below U11.heap.size U11 (U11.alloc (.cells #[.bool nZ, .slice aZ zZ.length cZ] 24)) from (alloc_later _ _))).c0
          have iC3 := (vC.later (show Below U11.heap.size U11 (U11.alloc (.cells #[.bool nZ, .slice aZ zZ.length cZ] 24)) from (alloc_later _ _))).c1
          go_wp2_with fail
          refine Calls.mono HH.out ?_
          rintro e U12 ⟨nL2, vL2x, zL2, rfl, oL2, wL2, kL2, hvL2, hb2⟩
          clear iX0 iX1 iXb iX2 iX3 iC0 iC1 iCb iC2 iC3
          have hb3 := bt (show Below U11.heap.size U11 (U11.alloc (.cells #[.bool nZ, .slice aZ zZ.length cZ] 24)) from (alloc_later _ _)) hb2
          replace vA := vA.later hb3
          replace vB := vB.later hb3
          replace vC := vC.later hb3
          replace vR := vR.later hb3
          replace vL := vL.later hb3
          replace vM := vM.later hb3
          replace vS := vS.later hb3
          replace vX := vX.later hb3
          replace vY := vY.later hb3
          have vZ : Vr U12 U11.heap.size nZ aZ cZ zZ := Vr.new sZ hb2
          clear sZ
          replace hb := bt hb hb3
          clear hb2 hb3 HH
          obtain ⟨aL2, cL2, hs⟩ := own_slice' oL2
          subst hs
          have HVL2 := hid hvL2
          clear hvL2
          have sLn := Sl.own oL2 wL2
          clear oL2
          have oo0 := vL.c0
          have oo1 := vL.c1
          have oo2 := vL.box.free 0
          have oo3 := vL.box.free 1
          have xA := vA.put vL (Nat.ne_of_lt dAL.out) (.bool nL2) (.slice aL2 zL2.length cL2)
          have xB := vB.put vL (Nat.ne_of_lt dBL.out) (.bool nL2) (.slice aL2 zL2.length cL2)
          have xC := vC.put vL (Nat.ne_of_lt dCL.out) (.bool nL2) (.slice aL2 zL2.length cL2)
          have xR := vR.put vL (Nat.ne_of_lt dRL.out) (.bool nL2) (.slice aL2 zL2.length cL2)
          have xM := vM.put vL (Nat.ne_of_gt dLM.out) (.bool nL2) (.slice aL2 zL2.length cL2)
          have xS := vS.put vL (Nat.ne_of_gt dLS.out) (.bool nL2) (.slice aL2 zL2.length cL2)
          have xX := vX.put vL (Nat.ne_of_gt dLX.out) (.bool nL2) (.slice aL2 zL2.length cL2)
          have xY := vY.put vL (Nat.ne_of_gt dLY.out) (.bool nL2) (.slice aL2 zL2.length cL2)
          have xZ := vZ.put vL (Nat.ne_of_gt dLZ.out) (.bool nL2) (.slice aL2 zL2.length cL2)
          have xL := vL.over nL2 sLn
          have hbx := below_put2 hb (U4.heap.size) (by have := gL.out; omega) (.bool nL2) (.slice aL2 zL2.length cL2)
          clear hb sLn vA vB vC vR vL vM vS vX vY vZ
          have vA := xA
          have vB := xB
          have vC := xC
          have vR := xR
          have vL := xL
          have vM := xM
          have vS := xS
          have vX := xX
          have vY := xY
          have vZ := xZ
          have hb := hbx
          clear hbx xA xB xC xR xL xM xS xX xY xZ
          clear HBD
          have HBD : Hid (Bd (wval nA xA * wval nZ zZ) wlim) := (HbA.out.mul HbZ.out).le (by rw [← Int.mul_assoc]; exact HLM.out.2.2)
          have HH := hid (lawMul_any nA _ xA nZ _ zZ _ (vA.sl.later (Below.refl ((U12.setCell ⟨U4.heap.size, 0, none⟩ (.bool nL2)).setCell ⟨U4.heap.size, 1, none⟩ (.slice aL2 zL2.length cL2)).heap.size ((U12.setCell ⟨U4.heap.size, 0, none⟩ (.bool nL2)).setCell ⟨U4.heap.size, 1, none⟩ (.slice aL2 zL2.length cL2)))) (vZ.sl.later (Below.refl ((U12.setCell ⟨U4.heap.size, 0, none⟩ (.bool nL2)).setCell ⟨U4.heap.size, 1, none⟩ (.slice aL2 zL2.length cL2)).heap.size ((U12.setCell ⟨U4.heap.size, 0, none⟩ (.bool nL2)).setCell ⟨U4.heap.size, 1, none⟩ (.slice aL2 zL2.length cL2)))) hA kZ HBD.out.1 HBD.out.2)
          have iA0 := vA.c0
          have iA1 := vA.c1
          have iAb := vA.box.lt
          have iZ0 := vZ.c0
          have iZ1 := vZ.c1
          have iZb := vZ.box.lt
          go_wp2_with fail
          refine Calls.mono HH.out ?_
          rintro e U13 ⟨nM2, vM2x, zM2, rfl, oM2, wM2, kM2, hvM2, hb2⟩
          clear iA0 iA1 iAb iZ0 iZ1 iZb
          have hb3 := bt (Below.refl ((U12.setCell ⟨U4.heap.size, 0, none⟩ (.bool nL2)).setCell ⟨U4.heap.size, 1, none⟩ (.slice aL2 zL2.length cL2)).heap.size ((U12.setCell ⟨U4.heap.size, 0, none⟩ (.bool nL2)).setCell ⟨U4.heap.size, 1, none⟩ (.slice aL2 zL2.length cL2))) hb2
          replace vA := vA.later hb3
          replace vB := vB.later hb3
          replace vC := vC.later hb3
          replace vR := vR.later hb3
          replace vL := vL.later hb3
          replace vM := vM.later hb3
          replace vS := vS.later hb3
          replace vX := vX.later hb3
          replace vY := vY.later hb3
          replace vZ := vZ.later hb3
          replace hb := bt hb hb3
          clear hb2 hb3 HH
          clear oo0 oo1 oo2 oo3
          obtain ⟨aM2, cM2, hs⟩ := own_slice' oM2
          subst hs
          have HVM2 := hid hvM2
          clear hvM2
          have sMn := Sl.own oM2 wM2
          clear oM2
          have oo0 := vM.c0
          have oo1 := vM.c1
          have oo2 := vM.box.free 0
          have oo3 := vM.box.free 1
          have xA := vA.put vM (Nat.ne_of_lt dAM.out) (.bool nM2) (.slice aM2 zM2.length cM2)
          have xB := vB.put vM (Nat.ne_of_lt dBM.out) (.bool nM2) (.slice aM2 zM2.length cM2)
          have xC := vC.put vM (Nat.ne_of_lt dCM.out) (.bool nM2) (.slice aM2 zM2.length cM2)
          have xR := vR.put vM (Nat.ne_of_lt dRM.out) (.bool nM2) (.slice aM2 zM2.length cM2)
          have xL := vL.put vM (Nat.ne_of_lt dLM.out) (.bool nM2) (.slice aM2 zM2.length cM2)
          have xS := vS.put vM (Nat.ne_of_gt dMS.out) (.bool nM2) (.slice aM2 zM2.length cM2)
          have xX := vX.put vM (Nat.ne_of_gt dMX.out) (.bool nM2) (.slice aM2 zM2.length cM2)
          have xY := vY.put vM (Nat.ne_of_gt dMY.out) (.bool nM2) (.slice aM2 zM2.length cM2)
          have xZ := vZ.put vM (Nat.ne_of_gt dMZ.out) (.bool nM2) (.slice aM2 zM2.length cM2)
          have xM := vM.over nM2 sMn
          have hbx := below_put2 hb (U5.heap.size) (by have := gM.out; omega) (.bool nM2) (.slice aM2 zM2.length cM2)
          clear hb sMn vA vB vC vR vL vM vS vX vY vZ
          have vA := xA
          have vB := xB
          have vC := xC
          have vR := xR
          have vL := xL
          have vM := xM
          have vS := xS
          have vX := xX
          have vY := xY
          have vZ := xZ
          have hb := hbx
          clear hbx xA xB xC xR xL xM xS xX xY xZ
          clear HBD
          have HH := hid (lawSame_any nS _ zS nA _ xA _ (vS.sl.later (Below.refl ((U13.setCell ⟨U5.heap.size, 0, none⟩ (.bool nM2)).setCell ⟨U5.heap.size, 1, none⟩ (.slice aM2 zM2.length cM2)).heap.size ((U13.setCell ⟨U5.heap.size, 0, none⟩ (.bool nM2)).setCell ⟨U5.heap.size, 1, none⟩ (.slice aM2 zM2.length cM2)))) (vA.sl.later (Below.refl ((U13.setCell ⟨U5.heap.size, 0, none⟩ (.bool nM2)).setCell ⟨U5.heap.size, 1, none⟩ (.slice aM2 zM2.length cM2)).heap.size ((U13.setCell ⟨U5.heap.size, 0, none⟩ (.bool nM2)).setCell ⟨U5.heap.size, 1, none⟩ (.slice aM2 zM2.length cM2)))) kS hA (by exact HVS.out))
          have iS0 := vS.c0
          have iS1 := vS.c1
          have iSb := vS.box.lt
          have iA0 := vA.c0
          have iA1 := vA.c1
          have iAb := vA.box.lt
          go_wp2_with fail
          refine Calls.mono HH.out ?_
          rintro e U14 ⟨rfl, hb2⟩
          clear iS0 iS1 iSb iA0 iA1 iAb
          have hb3 := bt (Below.refl ((U13.setCell ⟨U5.heap.size, 0, none⟩ (.bool nM2)).setCell ⟨U5.heap.size, 1, none⟩ (.slice aM2 zM2.length cM2)).heap.size ((U13.setCell ⟨U5.heap.size, 0, none⟩ (.bool nM2)).setCell ⟨U5.heap.size, 1, none⟩ (.slice aM2 zM2.length cM2))) hb2
          replace vA := vA.later hb3
          replace vB := vB.later hb3
          replace vC := vC.later hb3
          replace vR := vR.later hb3
          replace vL := vL.later hb3
          replace vM := vM.later hb3
          replace vS := vS.later hb3
          replace vX := vX.later hb3
          replace vY := vY.later hb3
          replace vZ := vZ.later hb3
          replace hb := bt hb hb3
          clear hb2 hb3 HH
          clear oo0 oo1 oo2 oo3
          have HH := hid (lawSame_any nX _ zX nY _ zY _ (vX.sl.later (Below.refl U14.heap.size U14)) (vY.sl.later (Below.refl U14.heap.size U14)) kX kY (by rw [HVX.out, HVY.out, Int.mul_comm]))
          have iX0 := vX.c0
          have iX1 := vX.c1
          have iXb := vX.box.lt
          have iY0 := vY.c0
          have iY1 := vY.c1
          have iYb := vY.box.lt
          go_wp2_with fail
          refine Calls.mono HH.out ?_
          rintro e U15 ⟨rfl, hb2⟩
          clear iX0 iX1 iXb iY0 iY1 iYb
          have hb3 := bt (Below.refl U14.heap.size U14) hb2
          replace vA := vA.later hb3
          replace vB := vB.later hb3
          replace vC := vC.later hb3
          replace vR := vR.later hb3
          replace vL := vL.later hb3
          replace vM := vM.later hb3
          replace vS := vS.later hb3
          replace vX := vX.later hb3
          replace vY := vY.later hb3
          replace vZ := vZ.later hb3
          replace hb := bt hb hb3
          clear hb2 hb3 HH
          have HH := hid (lawSame_any nL2 _ zL2 nM2 _ zM2 _ (vL.sl.later (Below.refl U15.heap.size U15)) (vM.sl.later (Below.refl U15.heap.size U15)) kL2 kM2 (by rw [HVL2.out, HVM2.out, HVX.out, HVZ.out, Int.mul_assoc]))
          have iL0 := vL.c0
          have iL1 := vL.c1
          have iLb := vL.box.lt
          have iM0 := vM.c0
          have iM1 := vM.c1
          have iMb := vM.box.lt
          go_wp2_with fail
          refine Calls.mono HH.out ?_
          rintro e U16 ⟨rfl, hb2⟩
          clear iL0 iL1 iLb iM0 iM1 iMb
          have hb3 := bt (Below.refl U15.heap.size U15) hb2
          replace vA := vA.later hb3
          replace vB := vB.later hb3
          replace vC := vC.later hb3
          replace vR := vR.later hb3
          replace vL := vL.later hb3
          replace vM := vM.later hb3
          replace vS := vS.later hb3
          replace vX := vX.later hb3
          replace vY := vY.later hb3
          replace vZ := vZ.later hb3
          replace hb := bt hb hb3
          clear hb2 hb3 HH
          clear vS vY vZ
          clear kS kY kZ HVS HVY HVZ HbZ
          have HBD : Hid (Bd (wval nA xA * wval nC xC) wlim) := (HbA.out.mul HbC.out).le (by have := HLM.out.2.1; have := Int.mul_pos HP4.out HP4.out; omega)
          have HH := hid (lawMul_any nA _ xA nC _ xC _ (vA.sl.later (Below.refl U16.heap.size U16)) (vC.sl.later (Below.refl U16.heap.size U16)) hA hC HBD.out.1 HBD.out.2)
          have iA0 := vA.c0
          have iA1 := vA.c1
          have iAb := vA.box.lt
          have iC0 := vC.c0
          have iC1 := vC.c1
          have iCb := vC.box.lt
          go_wp2_with fail
          refine Calls.mono HH.out ?_
          rintro e U17 ⟨nG, vGx, zG, rfl, oG, wG, kG, hvG, hb2⟩
          clear iA0 iA1 iAb iC0 iC1 iCb
          have hb3 := bt (Below.refl U16.heap.size U16) hb2
          replace vA := vA.later hb3
          replace vB := vB.later hb3
          replace vC := vC.later hb3
          replace vR := vR.later hb3
          replace vL := vL.later hb3
          replace vM := vM.later hb3
          replace vX := vX.later hb3
          replace hb := bt hb hb3
          clear hb2 hb3 HH
          obtain ⟨aG, cG, hs⟩ := own_slice' oG
          subst hs
          have HVG := hid hvG
          clear hvG
          have sG := Sl.own oG wG
          clear oG
          have gG := hid hb.size
          have dAG := hid vA.box.lt
          have dBG := hid vB.box.lt
          have dCG := hid vC.box.lt
          have dRG := hid vR.box.lt
          have dLG := hid vL.box.lt
          have dMG := hid vM.box.lt
          have dXG := hid vX.box.lt
          clear HBD
          have HbG : Hid (Bd (wval nG zG) (lim40 * lim40)) := by show Bd _ _; rw [HVG.out]; exact HbA.out.mul HbC.out
          clear kL2 kM2 HVL2 HVM2
          have HBD : Hid (Bd (wval nA xA * wval nR zR) wlim) := (HbA.out.mul HbR.out).le (by rw [Int.mul_add]; exact HLM.out.2.1)
          have HH := hid (lawMul_any nA _ xA nR _ zR _ (vA.sl.later (show Below U17.heap.size U17 (U17.alloc (.cells #[.bool nG, .slice aG zG.length cG] 24)) from (alloc_later _ _))) (vR.sl.later (show Below U17.heap.size U17 (U17.alloc (.cells #[.bool nG, .slice aG zG.length cG] 24)) from (alloc_later _ _))) hA kR HBD.out.1 HBD.out.2)
          have iA0 := vA.c0
          have iA1 := vA.c1
          have iAb := vA.box.lt
          have iA2 := (vA.later (show Below U17.heap.size U17 (U17.alloc (.cells #[.bool nG, .slice aG zG.length cG] 24)) from (alloc_later _ _))).c0
          have iA3 := (vA.later (show Below U17.heap.size U17 (U17.alloc (.cells #[.bool nG, .slice aG zG.length cG] 24)) from (alloc_later _ _))).c1
          have iR0 := vR.c0
          have iR1 := vR.c1
          have iRb := vR.box.lt
          have iR2 := (vR.later (show Below U17.heap.size U17 (U17.alloc (.cells #[.bool nG, .slice aG zG.length cG] 24)) from (alloc_later _ _))).c0
          have iR3 := (vR.later (show Below U17.heap.size U17 (U17.alloc (.cells #[.bool nG, .slice aG zG.length cG] 24)) from (alloc_later _ _))).c1
          go_wp2_with fail
          refine Calls.mono HH.out ?_
          rintro e U18 ⟨nL3, vL3x, zL3, rfl, oL3, wL3, kL3, hvL3, hb2⟩
          clear iA0 iA1 iAb iA2 iA3 iR0 iR1 iRb iR2 iR3
          have hb3 := bt (show Below U17.heap.size U17 (U17.alloc (.cells #[.bool nG, .slice aG zG.length cG] 24)) from (alloc_later _ _)) hb2
          replace vA := vA.later hb3
          replace vB := vB.later hb3
          replace vC := vC.later hb3
          replace vR := vR.later hb3
          replace vL := vL.later hb3
          replace vM := vM.later hb3
          replace vX := vX.later hb3
          have vG : Vr U18 U17.heap.size nG aG cG zG := Vr.new sG hb2
          clear sG
          replace hb := bt hb hb3
          clear hb2 hb3 HH
          obtain ⟨aL3, cL3, hs⟩ := own_slice' oL3
          subst hs
          have HVL3 := hid hvL3
          clear hvL3
          have sLn := Sl.own oL3 wL3
          clear oL3
          have oo0 := vL.c0
          have oo1 := vL.c1
          have oo2 := vL.box.free 0
          have oo3 := vL.box.free 1
          have xA := vA.put vL (Nat.ne_of_lt dAL.out) (.bool nL3) (.slice aL3 zL3.length cL3)
          have xB := vB.put vL (Nat.ne_of_lt dBL.out) (.bool nL3) (.slice aL3 zL3.length cL3)
          have xC := vC.put vL (Nat.ne_of_lt dCL.out) (.bool nL3) (.slice aL3 zL3.length cL3)
          have xR := vR.put vL (Nat.ne_of_lt dRL.out) (.bool nL3) (.slice aL3 zL3.length cL3)
          have xM := vM.put vL (Nat.ne_of_gt dLM.out) (.bool nL3) (.slice aL3 zL3.length cL3)
          have xX := vX.put vL (Nat.ne_of_gt dLX.out) (.bool nL3) (.slice aL3 zL3.length cL3)
          have xG := vG.put vL (Nat.ne_of_gt dLG.out) (.bool nL3) (.slice aL3 zL3.length cL3)
          have xL := vL.over nL3 sLn
          have hbx := below_put2 hb (U4.heap.size) (by have := gL.out; omega) (.bool nL3) (.slice aL3 zL3.length cL3)
          clear hb sLn vA vB vC vR vL vM vX vG
          have vA := xA
          have vB := xB
          have vC := xC
          have vR := xR
          have vL := xL
          have vM := xM
          have vX := xX
          have vG := xG
          have hb := hbx
          clear hbx xA xB xC xR xL xM xX xG
          clear HBD
          have HBD : Hid (Bd (wval nX zX + wval nG zG) wlim) := (HbX.out.add HbG.out).le HLM.out.2.1
          have HH := hid (lawAdd_any nX _ zX nG _ zG _ (vX.sl.later (Below.refl ((U18.setCell ⟨U4.heap.size, 0, none⟩ (.bool nL3)).setCell ⟨U4.heap.size, 1, none⟩ (.slice aL3 zL3.length cL3)).heap.size ((U18.setCell ⟨U4.heap.size, 0, none⟩ (.bool nL3)).setCell ⟨U4.heap.size, 1, none⟩ (.slice aL3 zL3.length cL3)))) (vG.sl.later (Below.refl ((U18.setCell ⟨U4.heap.size, 0, none⟩ (.bool nL3)).setCell ⟨U4.heap.size, 1, none⟩ (.slice aL3 zL3.length cL3)).heap.size ((U18.setCell ⟨U4.heap.size, 0, none⟩ (.bool nL3)).setCell ⟨U4.heap.size, 1, none⟩ (.slice aL3 zL3.length cL3)))) kX kG HBD.out.1 HBD.out.2)
          have iX0 := vX.c0
          have iX1 := vX.c1
          have iXb := vX.box.lt
          have iG0 := vG.c0
          have iG1 := vG.c1
          have iGb := vG.box.lt
          go_wp2_with fail
          refine Calls.mono HH.out ?_
          rintro e U19 ⟨nM3, vM3x, zM3, rfl, oM3, wM3, kM3, hvM3, hb2⟩
          clear iX0 iX1 iXb iG0 iG1 iGb
          have hb3 := bt (Below.refl ((U18.setCell ⟨U4.heap.size, 0, none⟩ (.bool nL3)).setCell ⟨U4.heap.size, 1, none⟩ (.slice aL3 zL3.length cL3)).heap.size ((U18.setCell ⟨U4.heap.size, 0, none⟩ (.bool nL3)).setCell ⟨U4.heap.size, 1, none⟩ (.slice aL3 zL3.length cL3))) hb2
          replace vA := vA.later hb3
          replace vB := vB.later hb3
          replace vC := vC.later hb3
          replace vR := vR.later hb3
          replace vL := vL.later hb3
          replace vM := vM.later hb3
          replace vX := vX.later hb3
          replace vG := vG.later hb3
          replace hb := bt hb hb3
          clear hb2 hb3 HH
          clear oo0 oo1 oo2 oo3
          obtain ⟨aM3, cM3, hs⟩ := own_slice' oM3
          subst hs
          have HVM3 := hid hvM3
          clear hvM3
          have sMn := Sl.own oM3 wM3
          clear oM3
          have oo0 := vM.c0
          have oo1 := vM.c1
          have oo2 := vM.box.free 0
          have oo3 := vM.box.free 1
          have xA := vA.put vM (Nat.ne_of_lt dAM.out) (.bool nM3) (.slice aM3 zM3.length cM3)
          have xB := vB.put vM (Nat.ne_of_lt dBM.out) (.bool nM3) (.slice aM3 zM3.length cM3)
          have xC := vC.put vM (Nat.ne_of_lt dCM.out) (.bool nM3) (.slice aM3 zM3.length cM3)
          have xR := vR.put vM (Nat.ne_of_lt dRM.out) (.bool nM3) (.slice aM3 zM3.length cM3)
          have xL := vL.put vM (Nat.ne_of_lt dLM.out) (.bool nM3) (.slice aM3 zM3.length cM3)
          have xX := vX.put vM (Nat.ne_of_gt dMX.out) (.bool nM3) (.slice aM3 zM3.length cM3)
          have xG := vG.put vM (Nat.ne_of_gt dMG.out) (.bool nM3) (.slice aM3 zM3.length cM3)
          have xM := vM.over nM3 sMn
          have hbx := below_put2 hb (U5.heap.size) (by have := gM.out; omega) (.bool nM3) (.slice aM3 zM3.length cM3)
          clear hb sMn vA vB vC vR vL vM vX vG
          have vA := xA
          have vB := xB
          have vC := xC
          have vR := xR
          have vL := xL
          have vM := xM
          have vX := xX
          have vG := xG
          have hb := hbx
          clear hbx xA xB xC xR xL xM xX xG
          clear HBD
          have HH := hid (lawSame_any nL3 _ zL3 nM3 _ zM3 _ (vL.sl.later (Below.refl ((U19.setCell ⟨U5.heap.size, 0, none⟩ (.bool nM3)).setCell ⟨U5.heap.size, 1, none⟩ (.slice aM3 zM3.length cM3)).heap.size ((U19.setCell ⟨U5.heap.size, 0, none⟩ (.bool nM3)).setCell ⟨U5.heap.size, 1, none⟩ (.slice aM3 zM3.length cM3)))) (vM.sl.later (Below.refl ((U19.setCell ⟨U5.heap.size, 0, none⟩ (.bool nM3)).setCell ⟨U5.heap.size, 1, none⟩ (.slice aM3 zM3.length cM3)).heap.size ((U19.setCell ⟨U5.heap.size, 0, none⟩ (.bool nM3)).setCell ⟨U5.heap.size, 1, none⟩ (.slice aM3 zM3.length cM3)))) kL3 kM3 (by rw [HVL3.out, HVM3.out, HVR.out, HVX.out, HVG.out, Int.mul_add]))
          have iL0 := vL.c0
          have iL1 := vL.c1
          have iLb := vL.box.lt
          have iM0 := vM.c0
          have iM1 := vM.c1
          have iMb := vM.box.lt
          go_wp2_with fail
          refine Calls.mono HH.out ?_
          rintro e U20 ⟨rfl, hb2⟩
          clear iL0 iL1 iLb iM0 iM1 iMb
          have hb3 := bt (Below.refl ((U19.setCell ⟨U5.heap.size, 0, none⟩ (.bool nM3)).setCell ⟨U5.heap.size, 1, none⟩ (.slice aM3 zM3.length cM3)).heap.size ((U19.setCell ⟨U5.heap.size, 0, none⟩ (.bool nM3)).setCell ⟨U5.heap.size, 1, none⟩ (.slice aM3 zM3.length cM3))) hb2
          replace vA := vA.later hb3
          replace vB := vB.later hb3
          replace vC := vC.later hb3
          replace vR := vR.later hb3
          replace vL := vL.later hb3
          replace vM := vM.later hb3
          replace vX := vX.later hb3
          replace vG := vG.later hb3
          replace hb := bt hb hb3
          clear hb2 hb3 HH
          clear oo0 oo1 oo2 oo3
          have HH := hid (lawDivides_any nA aA cA xA nB aB cB xB U20 (vA.sl.later (Below.refl U20.heap.size U20)) (vB.sl.later (Below.refl U20.heap.size U20)) hA hB l40A l40B)
          have iA0 := vA.c0
          have iA1 := vA.c1
          have iAb := vA.box.lt
          have iB0 := vB.c0
          have iB1 := vB.c1
          have iBb := vB.box.lt
          go_wp2_with fail
          refine Calls.mono HH.out ?_
          rintro e UF ⟨rfl, hb2⟩
          replace hb := bt hb hb2
          go_wp2_with fail
          go_ret
          exact ⟨rfl, hb⟩

theorem wholeRing_walk (n0 : Bool) (a0 : Option Addr) (k0 c0 : Nat) (x0 : List Int) (n1 : Bool) (a1 : Option Addr) (k1 c1 : Nat) (x1 : List Int) (n2 : Bool) (a2 : Option Addr) (k2 c2 : Nat) (x2 : List Int) (w : World)
    (h0 : Reads w w.heap.size a0 k0 c0 x0) (h1 : Reads w w.heap.size a1 k1 c1 x1) (h2 : Reads w w.heap.size a2 k2 c2 x2) :
    Calls Try.prog 3 #[.agg #[.bool n0, .slice a0 k0 c0], .agg #[.bool n1, .slice a1 k1 c1], .agg #[.bool n2, .slice a2 k2 c2]] w fun e w' => e = .returned (.bool true) ∧ Below w.heap.size w w' := by
  have e0 := h0.1
  have e1 := h1.1
  have e2 := h2.1
  subst e0
  subst e1
  subst e2
  exact wholeRing_good n0 a0 c0 x0 n1 a1 c1 x1 n2 a2 c2 x2 w ⟨_, _, rfl, h0⟩ ⟨_, _, rfl, h1⟩ ⟨_, _, rfl, h2⟩
end Go.Proofs.Ytbcangblmadnpac
