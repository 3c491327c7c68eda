/- My texts on the way to RotorCalls, one behind the other: contracts of the program and of the document's answers. -/
import Derived.Test.YtcfcjnlobpoglaaGreatJ1
import Derived.Test.YtcfcjnlobpoglaaGreatJ2
import Derived.Deep.RegionHeld3
import Derived.BigQuiet
import Derived.Deep.LoopGhost
import Derived.Handy
import Derived.Deep.CutRange
/- The statements of the document's Power that draw their order, for whatever follows. (tools/mkrp8.py) -/
namespace Go.Proofs.YtcfcjnlobpoglaaGreat
open Go.RowKit
set_option linter.unusedVariables false
set_option linter.unusedSimpArgs false

/-- The operations of the statement. -/
def pw_region6_ops : Array Oper := #[{ dst := some 29, op := Op.fieldAddr 23 (Operand.tmp 2) 0, type := 0, pos := "ref.go:62", after := #[], guard := none }, { dst := some 30, op := Op.load 21 (Operand.tmp 29), type := 21, pos := "ref.go:62", after := #[{ on := 0, ground := Ground.data }], guard := none }, { dst := some 31, op := Op.convert 21 2 (Operand.tmp 30), type := 2, pos := "ref.go:62", after := #[{ on := 1, ground := Ground.data }], guard := none }, { dst := some 32, op := Op.call { callee := Callee.value (Operand.func 29), args := #[Operand.tmp 31], argTypes := #[2] }, type := 59, pos := "ref.go:62", after := #[{ on := 2, ground := Ground.data }], guard := none }, { dst := some 33, op := Op.fieldAddr 23 (Operand.tmp 2) 1, type := 0, pos := "ref.go:62", after := #[], guard := none }, { dst := some 34, op := Op.load 21 (Operand.tmp 33), type := 21, pos := "ref.go:62", after := #[{ on := 4, ground := Ground.data }], guard := none }, { dst := some 35, op := Op.convert 21 2 (Operand.tmp 34), type := 2, pos := "ref.go:62", after := #[{ on := 5, ground := Ground.data }], guard := none }, { dst := some 36, op := Op.call { callee := Callee.value (Operand.func 29), args := #[Operand.tmp 35], argTypes := #[2] }, type := 59, pos := "ref.go:62", after := #[{ on := 6, ground := Ground.data }, { on := 3, ground := Ground.chain }], guard := none }, { dst := some 7, op := Op.alloc 59, type := 0, pos := "ref.go:62", after := #[], guard := none }, { dst := some 8, op := Op.alloc 59, type := 0, pos := "ref.go:62", after := #[], guard := none }, { dst := none, op := Op.store 59 (Operand.tmp 7) (Operand.tmp 32), type := 0, pos := "ref.go:62", after := #[{ on := 8, ground := Ground.data }, { on := 3, ground := Ground.data }, { on := 7, ground := Ground.chain }, { on := 0, ground := Ground.phase }, { on := 1, ground := Ground.phase }, { on := 2, ground := Ground.phase }, { on := 3, ground := Ground.phase }, { on := 4, ground := Ground.textOnly Departure.lateStores }, { on := 5, ground := Ground.textOnly Departure.lateStores }, { on := 6, ground := Ground.textOnly Departure.lateStores }, { on := 7, ground := Ground.textOnly Departure.lateStoresUnsure }, { on := 8, ground := Ground.phase }, { on := 9, ground := Ground.phase }], guard := none }, { dst := none, op := Op.store 59 (Operand.tmp 8) (Operand.tmp 36), type := 0, pos := "ref.go:62", after := #[{ on := 9, ground := Ground.data }, { on := 7, ground := Ground.data }, { on := 10, ground := Ground.chain }, { on := 0, ground := Ground.phase }, { on := 1, ground := Ground.phase }, { on := 2, ground := Ground.phase }, { on := 3, ground := Ground.phase }, { on := 4, ground := Ground.phase }, { on := 5, ground := Ground.phase }, { on := 6, ground := Ground.phase }, { on := 7, ground := Ground.phase }, { on := 8, ground := Ground.phase }, { on := 9, ground := Ground.phase }, { on := 10, ground := Ground.phase }], guard := none }]
set_option maxHeartbeats 6400000 in
set_option maxRecDepth 100000 in
theorem pw_region6 (X : World) (gr : Nat) (f n : Int) (HB : Hid (Box X gr 23 #[.int .i32 f, .int .i32 n])) (HI : Hid ((-2147483648 ≤ f ∧ f ≤ 2147483647) ∧ (-2147483648 ≤ n ∧ n ≤ 2147483647))) (t0 t1 t3 t4 t5 t6 t7 t8 t9 t10 t11 t12 t13 t14 t15 t16 t17 t18 t19 t20 t21 t22 t23 t24 t25 t26 t27 t28 t29 t30 t31 t32 t33 t34 t35 t36 : Value) (rest : List Value) (Q : Exit → Act → World → Prop)
    (hQ : ∀ (p : Nat) (q : Nat) (u29 : Value) (u30 : Value) (u31 : Value) (u32 : Value) (u33 : Value) (u34 : Value) (u35 : Value) (u36 : Value) (F : World), Hid (NB F p f ∧ NB F q n ∧ p ≠ q ∧ X.heap.size ≤ p ∧ X.heap.size ≤ q ∧ Below X.heap.size X F) → Q .normal { tmps := (List.toArray (t0 :: t1 :: (.pointer (some ⟨gr, 0, none⟩)) :: t3 :: t4 :: t5 :: t6 :: (.pointer (some ⟨p, 0, none⟩)) :: (.pointer (some ⟨q, 0, none⟩)) :: t9 :: t10 :: t11 :: t12 :: t13 :: t14 :: t15 :: t16 :: t17 :: t18 :: t19 :: t20 :: t21 :: t22 :: t23 :: t24 :: t25 :: t26 :: t27 :: t28 :: u29 :: u30 :: u31 :: u32 :: u33 :: u34 :: u35 :: u36 :: rest)), defers := [] } F) :
    Code.wp Tryz.prog (Code.region 6 pw_region6_ops true) Q { tmps := (List.toArray (t0 :: t1 :: (.pointer (some ⟨gr, 0, none⟩)) :: t3 :: t4 :: t5 :: t6 :: t7 :: t8 :: t9 :: t10 :: t11 :: t12 :: t13 :: t14 :: t15 :: t16 :: t17 :: t18 :: t19 :: t20 :: t21 :: t22 :: t23 :: t24 :: t25 :: t26 :: t27 :: t28 :: t29 :: t30 :: t31 :: t32 :: t33 :: t34 :: t35 :: t36 :: rest)), defers := [] } X := by
  have HQ := hid hQ
  clear hQ
  have HK : Hid (∀ V, Below X.heap.size X V → V.cell? ⟨gr, 0, none⟩ = some (.int .i32 f) ∧ V.cell? ⟨gr, 1, none⟩ = some (.int .i32 n)) := fun V hb => by
    obtain ⟨p0, q0, _, _⟩ := res_box HB.out hb
    exact ⟨p0, q0⟩
  have wf : wrap64 f = f := by have := HI.out; unfold wrap64; omega
  have wn : wrap64 n = n := by have := HI.out; unfold wrap64; omega
  have wf2 : IntKind.i64.wrap f = f := by have := HI.out; rw [IntKind.wrap_i64]; omega
  have wn2 : IntKind.i64.wrap n = n := by have := HI.out; rw [IntKind.wrap_i64]; omega
  have F_3_7_8_9 : Hid (∀ listed, listed = #[true, true, true, true, true, true, true, true, true, true, false, false] → ∀ (V : World) (m1 : Bool) (e1 : Option Addr) (j1 : Nat) (d1 : Nat) (m2 : Bool) (e2 : Option Addr) (j2 : Nat) (d2 : Nat) (p : Nat) (q : Nat), Hid ((Below X.heap.size X V) ∧ (DW V m1 e1 j1 d1 (f)) ∧ (DW V m2 e2 j2 d2 (n)) ∧ (Box V p 59 #[.bool false, .slice none 0 0] ∧ X.heap.size ≤ p) ∧ (Box V q 59 #[.bool false, .slice none 0 0] ∧ X.heap.size ≤ q) ∧ (p ≠ q)) → wpAnyH Tryz.prog .any pw_region6_ops (NoPanic Q) (fun V : World => Below X.heap.size X V) 2 listed { tmps := (List.toArray (t0 :: t1 :: (.pointer (some ⟨gr, 0, none⟩)) :: t3 :: t4 :: t5 :: t6 :: (.pointer (some ⟨p, 0, none⟩)) :: (.pointer (some ⟨q, 0, none⟩)) :: t9 :: t10 :: t11 :: t12 :: t13 :: t14 :: t15 :: t16 :: t17 :: t18 :: t19 :: t20 :: t21 :: t22 :: t23 :: t24 :: t25 :: t26 :: t27 :: t28 :: (.pointer (some ⟨gr, 0, none⟩)) :: (.int .i32 f) :: (.int .i64 f) :: (.agg #[.bool m1, .slice e1 j1 d1]) :: (.pointer (some ⟨gr, 1, none⟩)) :: (.int .i32 n) :: (.int .i64 n) :: (.agg #[.bool m2, .slice e2 j2 d2]) :: rest)), defers := [] } V) := by
    rintro _ rfl V m1 e1 j1 d1 m2 e2 j2 d2 p q HR
    have HP := hid (HR.out.2.2.2.1).1
    have HLP := hid (HR.out.2.2.2.1).2
    have HQ2 := hid (HR.out.2.2.2.2.1).1
    have HLQ := hid (HR.out.2.2.2.2.1).2
    have HNE := hid HR.out.2.2.2.2.2
    have HD1 := hid HR.out.2.1
    have HD2 := hid HR.out.2.2.1
    have HBL := hid HR.out.1
    clear HR
    obtain ⟨y0, y1, f0, f1⟩ := res_box HP.out (Below.refl _ _)
    have HU := hid (NB.set HP.out HD1.out)
    have HV := hid (HD2.out.put HP.out (.bool m1) (.slice e1 j1 d1))
    have HW := hid (HQ2.out.far2 (Ne.symm HNE.out) (.bool m1) (.slice e1 j1 d1))
    have HBE := hid (below_put2 HBL.out p HLP.out (.bool m1) (.slice e1 j1 d1))
    clear HP HD1 HD2 HQ2 HBL
    refine wpAnyH_ready (rs := [10]) (by kernel_rfl) (by simp) ?_
    refine AllReadyH.cons (o := { dst := none, op := Op.store 59 (Operand.tmp 7) (Operand.tmp 32), type := 0, pos := "ref.go:62", after := #[{ on := 8, ground := Ground.data }, { on := 3, ground := Ground.data }, { on := 7, ground := Ground.chain }, { on := 0, ground := Ground.phase }, { on := 1, ground := Ground.phase }, { on := 2, ground := Ground.phase }, { on := 3, ground := Ground.phase }, { on := 4, ground := Ground.textOnly Departure.lateStores }, { on := 5, ground := Ground.textOnly Departure.lateStores }, { on := 6, ground := Ground.textOnly Departure.lateStores }, { on := 7, ground := Ground.textOnly Departure.lateStoresUnsure }, { on := 8, ground := Ground.phase }, { on := 9, ground := Ground.phase }], guard := none }) rfl (fun K hK => ?_) AllReadyH.nil
    go_simp
    refine hK.out _ _ ?_ (fun hHeld => ?_)
    · exact HBE.out
    clear hK K y0 y1 f0 f1 hHeld
    try simp only [List.setIfInBounds_toArray, List.set_cons_zero, List.set_cons_succ]
    generalize (V.setCell ⟨p, 0, none⟩ (.bool m1)).setCell ⟨p, 1, none⟩ (.slice e1 j1 d1) = V2 at *
    obtain ⟨y0, y1, f0, f1⟩ := res_box HW.out (Below.refl _ _)
    have HU2 := hid (HU.out.put HW.out HNE.out (.bool m2) (.slice e2 j2 d2))
    have HV2 := hid (NB.set HW.out HV.out)
    have HBF := hid (below_put2 HBE.out q HLQ.out (.bool m2) (.slice e2 j2 d2))
    refine wpAnyH_ready (rs := [11]) (by kernel_rfl) (by simp) ?_
    refine AllReadyH.cons (o := { dst := none, op := Op.store 59 (Operand.tmp 8) (Operand.tmp 36), type := 0, pos := "ref.go:62", after := #[{ on := 9, ground := Ground.data }, { on := 7, ground := Ground.data }, { on := 10, ground := Ground.chain }, { on := 0, ground := Ground.phase }, { on := 1, ground := Ground.phase }, { on := 2, ground := Ground.phase }, { on := 3, ground := Ground.phase }, { on := 4, ground := Ground.phase }, { on := 5, ground := Ground.phase }, { on := 6, ground := Ground.phase }, { on := 7, ground := Ground.phase }, { on := 8, ground := Ground.phase }, { on := 9, ground := Ground.phase }, { on := 10, ground := Ground.phase }], guard := none }) rfl (fun K hK => ?_) AllReadyH.nil
    go_simp
    refine hK.out _ _ ?_ (fun hHeld => ?_)
    · exact HBF.out
    clear hK K
    try simp only [List.setIfInBounds_toArray, List.set_cons_zero, List.set_cons_succ]
    refine wpAnyH_done (by kernel_rfl) ?_ _
    refine NoPanic.normal ?_
    exact HQ.out p q _ _ _ _ _ _ _ _ _ (hid ⟨HU2.out, HV2.out, HNE.out, HLP.out, HLQ.out, HBF.out⟩)
  have F_3_7_8 : Hid (∀ listed, listed = #[true, true, true, true, true, true, true, true, true, false, false, false] → ∀ (V : World) (m1 : Bool) (e1 : Option Addr) (j1 : Nat) (d1 : Nat) (m2 : Bool) (e2 : Option Addr) (j2 : Nat) (d2 : Nat) (p : Nat), Hid ((Below X.heap.size X V) ∧ (DW V m1 e1 j1 d1 (f)) ∧ (DW V m2 e2 j2 d2 (n)) ∧ (Box V p 59 #[.bool false, .slice none 0 0] ∧ X.heap.size ≤ p)) → wpAnyH Tryz.prog .any pw_region6_ops (NoPanic Q) (fun V : World => Below X.heap.size X V) 3 listed { tmps := (List.toArray (t0 :: t1 :: (.pointer (some ⟨gr, 0, none⟩)) :: t3 :: t4 :: t5 :: t6 :: (.pointer (some ⟨p, 0, none⟩)) :: t8 :: t9 :: t10 :: t11 :: t12 :: t13 :: t14 :: t15 :: t16 :: t17 :: t18 :: t19 :: t20 :: t21 :: t22 :: t23 :: t24 :: t25 :: t26 :: t27 :: t28 :: (.pointer (some ⟨gr, 0, none⟩)) :: (.int .i32 f) :: (.int .i64 f) :: (.agg #[.bool m1, .slice e1 j1 d1]) :: (.pointer (some ⟨gr, 1, none⟩)) :: (.int .i32 n) :: (.int .i64 n) :: (.agg #[.bool m2, .slice e2 j2 d2]) :: rest)), defers := [] } V) := by
    rintro _ rfl V m1 e1 j1 d1 m2 e2 j2 d2 p HR
    refine wpAnyH_ready (rs := [9]) (by kernel_rfl) (by simp) ?_
    refine AllReadyH.cons (o := { dst := some 8, op := Op.alloc 59, type := 0, pos := "ref.go:62", after := #[], guard := none }) rfl (fun K hK => ?_) ?_
    · go_simp
      have hb := alloc_later V (.cells #[.bool false, .slice none 0 0] 59)
      have new := And.intro (Box.made V 59 #[.bool false, .slice none 0 0]) (HR.out.1).size
      have HB2 := hid (bt HR.out.1 hb)
      refine hK.out _ _ ?_ (fun hHeld => ?_)
      · exact HB2.out
      clear hK K
      try simp only [List.setIfInBounds_toArray, List.set_cons_zero, List.set_cons_succ]
      exact F_3_7_8_9.out _ (by kernel_rfl) _ m1 e1 j1 d1 m2 e2 j2 d2 p V.heap.size (hid ⟨HB2.out, (HR.out.2.1).later hb, (HR.out.2.2.1).later hb, ⟨(HR.out.2.2.2).1.later hb (HR.out.2.2.2).1.lt, (HR.out.2.2.2).2⟩, new, (by have := (HR.out.2.2.2).1.lt; omega)⟩)
    exact AllReadyH.nil
  have F_3_7_9 : Hid (∀ listed, listed = #[true, true, true, true, true, true, true, true, false, true, false, false] → ∀ (V : World) (m1 : Bool) (e1 : Option Addr) (j1 : Nat) (d1 : Nat) (m2 : Bool) (e2 : Option Addr) (j2 : Nat) (d2 : Nat) (q : Nat), Hid ((Below X.heap.size X V) ∧ (DW V m1 e1 j1 d1 (f)) ∧ (DW V m2 e2 j2 d2 (n)) ∧ (Box V q 59 #[.bool false, .slice none 0 0] ∧ X.heap.size ≤ q)) → wpAnyH Tryz.prog .any pw_region6_ops (NoPanic Q) (fun V : World => Below X.heap.size X V) 3 listed { tmps := (List.toArray (t0 :: t1 :: (.pointer (some ⟨gr, 0, none⟩)) :: t3 :: t4 :: t5 :: t6 :: t7 :: (.pointer (some ⟨q, 0, none⟩)) :: t9 :: t10 :: t11 :: t12 :: t13 :: t14 :: t15 :: t16 :: t17 :: t18 :: t19 :: t20 :: t21 :: t22 :: t23 :: t24 :: t25 :: t26 :: t27 :: t28 :: (.pointer (some ⟨gr, 0, none⟩)) :: (.int .i32 f) :: (.int .i64 f) :: (.agg #[.bool m1, .slice e1 j1 d1]) :: (.pointer (some ⟨gr, 1, none⟩)) :: (.int .i32 n) :: (.int .i64 n) :: (.agg #[.bool m2, .slice e2 j2 d2]) :: rest)), defers := [] } V) := by
    rintro _ rfl V m1 e1 j1 d1 m2 e2 j2 d2 q HR
    refine wpAnyH_ready (rs := [8]) (by kernel_rfl) (by simp) ?_
    refine AllReadyH.cons (o := { dst := some 7, op := Op.alloc 59, type := 0, pos := "ref.go:62", after := #[], guard := none }) rfl (fun K hK => ?_) ?_
    · go_simp
      have hb := alloc_later V (.cells #[.bool false, .slice none 0 0] 59)
      have new := And.intro (Box.made V 59 #[.bool false, .slice none 0 0]) (HR.out.1).size
      have HB2 := hid (bt HR.out.1 hb)
      refine hK.out _ _ ?_ (fun hHeld => ?_)
      · exact HB2.out
      clear hK K
      try simp only [List.setIfInBounds_toArray, List.set_cons_zero, List.set_cons_succ]
      exact F_3_7_8_9.out _ (by kernel_rfl) _ m1 e1 j1 d1 m2 e2 j2 d2 V.heap.size q (hid ⟨HB2.out, (HR.out.2.1).later hb, (HR.out.2.2.1).later hb, new, ⟨(HR.out.2.2.2).1.later hb (HR.out.2.2.2).1.lt, (HR.out.2.2.2).2⟩, (by have := (HR.out.2.2.2).1.lt; omega)⟩)
    exact AllReadyH.nil
  have F_3_8_9 : Hid (∀ listed, listed = #[true, true, true, true, true, true, true, false, true, true, false, false] → ∀ (V : World) (m1 : Bool) (e1 : Option Addr) (j1 : Nat) (d1 : Nat) (p : Nat) (q : Nat), Hid ((Below X.heap.size X V) ∧ (DW V m1 e1 j1 d1 (f)) ∧ (Box V p 59 #[.bool false, .slice none 0 0] ∧ X.heap.size ≤ p) ∧ (Box V q 59 #[.bool false, .slice none 0 0] ∧ X.heap.size ≤ q) ∧ (p ≠ q)) → wpAnyH Tryz.prog .any pw_region6_ops (NoPanic Q) (fun V : World => Below X.heap.size X V) 3 listed { tmps := (List.toArray (t0 :: t1 :: (.pointer (some ⟨gr, 0, none⟩)) :: t3 :: t4 :: t5 :: t6 :: (.pointer (some ⟨p, 0, none⟩)) :: (.pointer (some ⟨q, 0, none⟩)) :: t9 :: t10 :: t11 :: t12 :: t13 :: t14 :: t15 :: t16 :: t17 :: t18 :: t19 :: t20 :: t21 :: t22 :: t23 :: t24 :: t25 :: t26 :: t27 :: t28 :: (.pointer (some ⟨gr, 0, none⟩)) :: (.int .i32 f) :: (.int .i64 f) :: (.agg #[.bool m1, .slice e1 j1 d1]) :: (.pointer (some ⟨gr, 1, none⟩)) :: (.int .i32 n) :: (.int .i64 n) :: t36 :: rest)), defers := [] } V) := by
    rintro _ rfl V m1 e1 j1 d1 p q HR
    refine wpAnyH_ready (rs := [7]) (by kernel_rfl) (by simp) ?_
    refine AllReadyH.cons (o := { dst := some 36, op := Op.call { callee := Callee.value (Operand.func 29), args := #[Operand.tmp 35], argTypes := #[2] }, type := 59, pos := "ref.go:62", after := #[{ on := 6, ground := Ground.data }, { on := 3, ground := Ground.chain }], guard := none }) rfl (fun K hK => ?_) ?_
    · go_simp
      refine Calls.mono (dOf n V (by have := HI.out; omega) (by have := HI.out; omega)) ?_
      rintro e V' ⟨m2, e2, j2, d2, rfl, new, hb⟩
      dsimp only
      have HB2 := hid (bt HR.out.1 hb)
      refine hK.out _ _ ?_ (fun hHeld => ?_)
      · exact HB2.out
      clear hK K
      try simp only [List.setIfInBounds_toArray, List.set_cons_zero, List.set_cons_succ]
      exact F_3_7_8_9.out _ (by kernel_rfl) _ m1 e1 j1 d1 m2 e2 j2 d2 p q (hid ⟨HB2.out, (HR.out.2.1).later hb, new, ⟨(HR.out.2.2.1).1.later hb (HR.out.2.2.1).1.lt, (HR.out.2.2.1).2⟩, ⟨(HR.out.2.2.2.1).1.later hb (HR.out.2.2.2.1).1.lt, (HR.out.2.2.2.1).2⟩, HR.out.2.2.2.2⟩)
    exact AllReadyH.nil
  have F_3_7 : Hid (∀ listed, listed = #[true, true, true, true, true, true, true, true, false, false, false, false] → ∀ (V : World) (m1 : Bool) (e1 : Option Addr) (j1 : Nat) (d1 : Nat) (m2 : Bool) (e2 : Option Addr) (j2 : Nat) (d2 : Nat), Hid ((Below X.heap.size X V) ∧ (DW V m1 e1 j1 d1 (f)) ∧ (DW V m2 e2 j2 d2 (n))) → wpAnyH Tryz.prog .any pw_region6_ops (NoPanic Q) (fun V : World => Below X.heap.size X V) 4 listed { tmps := (List.toArray (t0 :: t1 :: (.pointer (some ⟨gr, 0, none⟩)) :: t3 :: t4 :: t5 :: t6 :: t7 :: t8 :: t9 :: t10 :: t11 :: t12 :: t13 :: t14 :: t15 :: t16 :: t17 :: t18 :: t19 :: t20 :: t21 :: t22 :: t23 :: t24 :: t25 :: t26 :: t27 :: t28 :: (.pointer (some ⟨gr, 0, none⟩)) :: (.int .i32 f) :: (.int .i64 f) :: (.agg #[.bool m1, .slice e1 j1 d1]) :: (.pointer (some ⟨gr, 1, none⟩)) :: (.int .i32 n) :: (.int .i64 n) :: (.agg #[.bool m2, .slice e2 j2 d2]) :: rest)), defers := [] } V) := by
    rintro _ rfl V m1 e1 j1 d1 m2 e2 j2 d2 HR
    refine wpAnyH_ready (rs := [8, 9]) (by kernel_rfl) (by simp) ?_
    refine AllReadyH.cons (o := { dst := some 7, op := Op.alloc 59, type := 0, pos := "ref.go:62", after := #[], guard := none }) rfl (fun K hK => ?_) ?_
    · go_simp
      have hb := alloc_later V (.cells #[.bool false, .slice none 0 0] 59)
      have new := And.intro (Box.made V 59 #[.bool false, .slice none 0 0]) (HR.out.1).size
      have HB2 := hid (bt HR.out.1 hb)
      refine hK.out _ _ ?_ (fun hHeld => ?_)
      · exact HB2.out
      clear hK K
      try simp only [List.setIfInBounds_toArray, List.set_cons_zero, List.set_cons_succ]
      exact F_3_7_8.out _ (by kernel_rfl) _ m1 e1 j1 d1 m2 e2 j2 d2 V.heap.size (hid ⟨HB2.out, (HR.out.2.1).later hb, (HR.out.2.2).later hb, new⟩)
    refine AllReadyH.cons (o := { dst := some 8, op := Op.alloc 59, type := 0, pos := "ref.go:62", after := #[], guard := none }) rfl (fun K hK => ?_) ?_
    · go_simp
      have hb := alloc_later V (.cells #[.bool false, .slice none 0 0] 59)
      have new := And.intro (Box.made V 59 #[.bool false, .slice none 0 0]) (HR.out.1).size
      have HB2 := hid (bt HR.out.1 hb)
      refine hK.out _ _ ?_ (fun hHeld => ?_)
      · exact HB2.out
      clear hK K
      try simp only [List.setIfInBounds_toArray, List.set_cons_zero, List.set_cons_succ]
      exact F_3_7_9.out _ (by kernel_rfl) _ m1 e1 j1 d1 m2 e2 j2 d2 V.heap.size (hid ⟨HB2.out, (HR.out.2.1).later hb, (HR.out.2.2).later hb, new⟩)
    exact AllReadyH.nil
  have F_3_8 : Hid (∀ listed, listed = #[true, true, true, true, true, true, true, false, true, false, false, false] → ∀ (V : World) (m1 : Bool) (e1 : Option Addr) (j1 : Nat) (d1 : Nat) (p : Nat), Hid ((Below X.heap.size X V) ∧ (DW V m1 e1 j1 d1 (f)) ∧ (Box V p 59 #[.bool false, .slice none 0 0] ∧ X.heap.size ≤ p)) → wpAnyH Tryz.prog .any pw_region6_ops (NoPanic Q) (fun V : World => Below X.heap.size X V) 4 listed { tmps := (List.toArray (t0 :: t1 :: (.pointer (some ⟨gr, 0, none⟩)) :: t3 :: t4 :: t5 :: t6 :: (.pointer (some ⟨p, 0, none⟩)) :: t8 :: t9 :: t10 :: t11 :: t12 :: t13 :: t14 :: t15 :: t16 :: t17 :: t18 :: t19 :: t20 :: t21 :: t22 :: t23 :: t24 :: t25 :: t26 :: t27 :: t28 :: (.pointer (some ⟨gr, 0, none⟩)) :: (.int .i32 f) :: (.int .i64 f) :: (.agg #[.bool m1, .slice e1 j1 d1]) :: (.pointer (some ⟨gr, 1, none⟩)) :: (.int .i32 n) :: (.int .i64 n) :: t36 :: rest)), defers := [] } V) := by
    rintro _ rfl V m1 e1 j1 d1 p HR
    refine wpAnyH_ready (rs := [7, 9]) (by kernel_rfl) (by simp) ?_
    refine AllReadyH.cons (o := { dst := some 36, op := Op.call { callee := Callee.value (Operand.func 29), args := #[Operand.tmp 35], argTypes := #[2] }, type := 59, pos := "ref.go:62", after := #[{ on := 6, ground := Ground.data }, { on := 3, ground := Ground.chain }], guard := none }) rfl (fun K hK => ?_) ?_
    · go_simp
      refine Calls.mono (dOf n V (by have := HI.out; omega) (by have := HI.out; omega)) ?_
      rintro e V' ⟨m2, e2, j2, d2, rfl, new, hb⟩
      dsimp only
      have HB2 := hid (bt HR.out.1 hb)
      refine hK.out _ _ ?_ (fun hHeld => ?_)
      · exact HB2.out
      clear hK K
      try simp only [List.setIfInBounds_toArray, List.set_cons_zero, List.set_cons_succ]
      exact F_3_7_8.out _ (by kernel_rfl) _ m1 e1 j1 d1 m2 e2 j2 d2 p (hid ⟨HB2.out, (HR.out.2.1).later hb, new, ⟨(HR.out.2.2).1.later hb (HR.out.2.2).1.lt, (HR.out.2.2).2⟩⟩)
    refine AllReadyH.cons (o := { dst := some 8, op := Op.alloc 59, type := 0, pos := "ref.go:62", after := #[], guard := none }) rfl (fun K hK => ?_) ?_
    · go_simp
      have hb := alloc_later V (.cells #[.bool false, .slice none 0 0] 59)
      have new := And.intro (Box.made V 59 #[.bool false, .slice none 0 0]) (HR.out.1).size
      have HB2 := hid (bt HR.out.1 hb)
      refine hK.out _ _ ?_ (fun hHeld => ?_)
      · exact HB2.out
      clear hK K
      try simp only [List.setIfInBounds_toArray, List.set_cons_zero, List.set_cons_succ]
      exact F_3_8_9.out _ (by kernel_rfl) _ m1 e1 j1 d1 p V.heap.size (hid ⟨HB2.out, (HR.out.2.1).later hb, ⟨(HR.out.2.2).1.later hb (HR.out.2.2).1.lt, (HR.out.2.2).2⟩, new, (by have := (HR.out.2.2).1.lt; omega)⟩)
    exact AllReadyH.nil
  have F_3_9 : Hid (∀ listed, listed = #[true, true, true, true, true, true, true, false, false, true, false, false] → ∀ (V : World) (m1 : Bool) (e1 : Option Addr) (j1 : Nat) (d1 : Nat) (q : Nat), Hid ((Below X.heap.size X V) ∧ (DW V m1 e1 j1 d1 (f)) ∧ (Box V q 59 #[.bool false, .slice none 0 0] ∧ X.heap.size ≤ q)) → wpAnyH Tryz.prog .any pw_region6_ops (NoPanic Q) (fun V : World => Below X.heap.size X V) 4 listed { tmps := (List.toArray (t0 :: t1 :: (.pointer (some ⟨gr, 0, none⟩)) :: t3 :: t4 :: t5 :: t6 :: t7 :: (.pointer (some ⟨q, 0, none⟩)) :: t9 :: t10 :: t11 :: t12 :: t13 :: t14 :: t15 :: t16 :: t17 :: t18 :: t19 :: t20 :: t21 :: t22 :: t23 :: t24 :: t25 :: t26 :: t27 :: t28 :: (.pointer (some ⟨gr, 0, none⟩)) :: (.int .i32 f) :: (.int .i64 f) :: (.agg #[.bool m1, .slice e1 j1 d1]) :: (.pointer (some ⟨gr, 1, none⟩)) :: (.int .i32 n) :: (.int .i64 n) :: t36 :: rest)), defers := [] } V) := by
    rintro _ rfl V m1 e1 j1 d1 q HR
    refine wpAnyH_ready (rs := [7, 8]) (by kernel_rfl) (by simp) ?_
    refine AllReadyH.cons (o := { dst := some 36, op := Op.call { callee := Callee.value (Operand.func 29), args := #[Operand.tmp 35], argTypes := #[2] }, type := 59, pos := "ref.go:62", after := #[{ on := 6, ground := Ground.data }, { on := 3, ground := Ground.chain }], guard := none }) rfl (fun K hK => ?_) ?_
    · go_simp
      refine Calls.mono (dOf n V (by have := HI.out; omega) (by have := HI.out; omega)) ?_
      rintro e V' ⟨m2, e2, j2, d2, rfl, new, hb⟩
      dsimp only
      have HB2 := hid (bt HR.out.1 hb)
      refine hK.out _ _ ?_ (fun hHeld => ?_)
      · exact HB2.out
      clear hK K
      try simp only [List.setIfInBounds_toArray, List.set_cons_zero, List.set_cons_succ]
      exact F_3_7_9.out _ (by kernel_rfl) _ m1 e1 j1 d1 m2 e2 j2 d2 q (hid ⟨HB2.out, (HR.out.2.1).later hb, new, ⟨(HR.out.2.2).1.later hb (HR.out.2.2).1.lt, (HR.out.2.2).2⟩⟩)
    refine AllReadyH.cons (o := { dst := some 7, op := Op.alloc 59, type := 0, pos := "ref.go:62", after := #[], guard := none }) rfl (fun K hK => ?_) ?_
    · go_simp
      have hb := alloc_later V (.cells #[.bool false, .slice none 0 0] 59)
      have new := And.intro (Box.made V 59 #[.bool false, .slice none 0 0]) (HR.out.1).size
      have HB2 := hid (bt HR.out.1 hb)
      refine hK.out _ _ ?_ (fun hHeld => ?_)
      · exact HB2.out
      clear hK K
      try simp only [List.setIfInBounds_toArray, List.set_cons_zero, List.set_cons_succ]
      exact F_3_8_9.out _ (by kernel_rfl) _ m1 e1 j1 d1 V.heap.size q (hid ⟨HB2.out, (HR.out.2.1).later hb, new, ⟨(HR.out.2.2).1.later hb (HR.out.2.2).1.lt, (HR.out.2.2).2⟩, (by have := (HR.out.2.2).1.lt; omega)⟩)
    exact AllReadyH.nil
  have F_8_9 : Hid (∀ listed, listed = #[true, true, true, false, true, true, true, false, true, true, false, false] → ∀ (V : World) (p : Nat) (q : Nat), Hid ((Below X.heap.size X V) ∧ (Box V p 59 #[.bool false, .slice none 0 0] ∧ X.heap.size ≤ p) ∧ (Box V q 59 #[.bool false, .slice none 0 0] ∧ X.heap.size ≤ q) ∧ (p ≠ q)) → wpAnyH Tryz.prog .any pw_region6_ops (NoPanic Q) (fun V : World => Below X.heap.size X V) 4 listed { tmps := (List.toArray (t0 :: t1 :: (.pointer (some ⟨gr, 0, none⟩)) :: t3 :: t4 :: t5 :: t6 :: (.pointer (some ⟨p, 0, none⟩)) :: (.pointer (some ⟨q, 0, none⟩)) :: t9 :: t10 :: t11 :: t12 :: t13 :: t14 :: t15 :: t16 :: t17 :: t18 :: t19 :: t20 :: t21 :: t22 :: t23 :: t24 :: t25 :: t26 :: t27 :: t28 :: (.pointer (some ⟨gr, 0, none⟩)) :: (.int .i32 f) :: (.int .i64 f) :: t32 :: (.pointer (some ⟨gr, 1, none⟩)) :: (.int .i32 n) :: (.int .i64 n) :: t36 :: rest)), defers := [] } V) := by
    rintro _ rfl V p q HR
    refine wpAnyH_ready (rs := [3]) (by kernel_rfl) (by simp) ?_
    refine AllReadyH.cons (o := { dst := some 32, op := Op.call { callee := Callee.value (Operand.func 29), args := #[Operand.tmp 31], argTypes := #[2] }, type := 59, pos := "ref.go:62", after := #[{ on := 2, ground := Ground.data }], guard := none }) rfl (fun K hK => ?_) ?_
    · go_simp
      refine Calls.mono (dOf f V (by have := HI.out; omega) (by have := HI.out; omega)) ?_
      rintro e V' ⟨m1, e1, j1, d1, rfl, new, hb⟩
      dsimp only
      have HB2 := hid (bt HR.out.1 hb)
      refine hK.out _ _ ?_ (fun hHeld => ?_)
      · exact HB2.out
      clear hK K
      try simp only [List.setIfInBounds_toArray, List.set_cons_zero, List.set_cons_succ]
      exact F_3_8_9.out _ (by kernel_rfl) _ m1 e1 j1 d1 p q (hid ⟨HB2.out, new, ⟨(HR.out.2.1).1.later hb (HR.out.2.1).1.lt, (HR.out.2.1).2⟩, ⟨(HR.out.2.2.1).1.later hb (HR.out.2.2.1).1.lt, (HR.out.2.2.1).2⟩, HR.out.2.2.2⟩)
    exact AllReadyH.nil
  have F_3 : Hid (∀ listed, listed = #[true, true, true, true, true, true, true, false, false, false, false, false] → ∀ (V : World) (m1 : Bool) (e1 : Option Addr) (j1 : Nat) (d1 : Nat), Hid ((Below X.heap.size X V) ∧ (DW V m1 e1 j1 d1 (f))) → wpAnyH Tryz.prog .any pw_region6_ops (NoPanic Q) (fun V : World => Below X.heap.size X V) 5 listed { tmps := (List.toArray (t0 :: t1 :: (.pointer (some ⟨gr, 0, none⟩)) :: t3 :: t4 :: t5 :: t6 :: t7 :: t8 :: t9 :: t10 :: t11 :: t12 :: t13 :: t14 :: t15 :: t16 :: t17 :: t18 :: t19 :: t20 :: t21 :: t22 :: t23 :: t24 :: t25 :: t26 :: t27 :: t28 :: (.pointer (some ⟨gr, 0, none⟩)) :: (.int .i32 f) :: (.int .i64 f) :: (.agg #[.bool m1, .slice e1 j1 d1]) :: (.pointer (some ⟨gr, 1, none⟩)) :: (.int .i32 n) :: (.int .i64 n) :: t36 :: rest)), defers := [] } V) := by
    rintro _ rfl V m1 e1 j1 d1 HR
    refine wpAnyH_ready (rs := [7, 8, 9]) (by kernel_rfl) (by simp) ?_
    refine AllReadyH.cons (o := { dst := some 36, op := Op.call { callee := Callee.value (Operand.func 29), args := #[Operand.tmp 35], argTypes := #[2] }, type := 59, pos := "ref.go:62", after := #[{ on := 6, ground := Ground.data }, { on := 3, ground := Ground.chain }], guard := none }) rfl (fun K hK => ?_) ?_
    · go_simp
      refine Calls.mono (dOf n V (by have := HI.out; omega) (by have := HI.out; omega)) ?_
      rintro e V' ⟨m2, e2, j2, d2, rfl, new, hb⟩
      dsimp only
      have HB2 := hid (bt HR.out.1 hb)
      refine hK.out _ _ ?_ (fun hHeld => ?_)
      · exact HB2.out
      clear hK K
      try simp only [List.setIfInBounds_toArray, List.set_cons_zero, List.set_cons_succ]
      exact F_3_7.out _ (by kernel_rfl) _ m1 e1 j1 d1 m2 e2 j2 d2 (hid ⟨HB2.out, (HR.out.2).later hb, new⟩)
    refine AllReadyH.cons (o := { dst := some 7, op := Op.alloc 59, type := 0, pos := "ref.go:62", after := #[], guard := none }) rfl (fun K hK => ?_) ?_
    · go_simp
      have hb := alloc_later V (.cells #[.bool false, .slice none 0 0] 59)
      have new := And.intro (Box.made V 59 #[.bool false, .slice none 0 0]) (HR.out.1).size
      have HB2 := hid (bt HR.out.1 hb)
      refine hK.out _ _ ?_ (fun hHeld => ?_)
      · exact HB2.out
      clear hK K
      try simp only [List.setIfInBounds_toArray, List.set_cons_zero, List.set_cons_succ]
      exact F_3_8.out _ (by kernel_rfl) _ m1 e1 j1 d1 V.heap.size (hid ⟨HB2.out, (HR.out.2).later hb, new⟩)
    refine AllReadyH.cons (o := { dst := some 8, op := Op.alloc 59, type := 0, pos := "ref.go:62", after := #[], guard := none }) rfl (fun K hK => ?_) ?_
    · go_simp
      have hb := alloc_later V (.cells #[.bool false, .slice none 0 0] 59)
      have new := And.intro (Box.made V 59 #[.bool false, .slice none 0 0]) (HR.out.1).size
      have HB2 := hid (bt HR.out.1 hb)
      refine hK.out _ _ ?_ (fun hHeld => ?_)
      · exact HB2.out
      clear hK K
      try simp only [List.setIfInBounds_toArray, List.set_cons_zero, List.set_cons_succ]
      exact F_3_9.out _ (by kernel_rfl) _ m1 e1 j1 d1 V.heap.size (hid ⟨HB2.out, (HR.out.2).later hb, new⟩)
    exact AllReadyH.nil
  have F_8 : Hid (∀ listed, listed = #[true, true, true, false, true, true, true, false, true, false, false, false] → ∀ (V : World) (p : Nat), Hid ((Below X.heap.size X V) ∧ (Box V p 59 #[.bool false, .slice none 0 0] ∧ X.heap.size ≤ p)) → wpAnyH Tryz.prog .any pw_region6_ops (NoPanic Q) (fun V : World => Below X.heap.size X V) 5 listed { tmps := (List.toArray (t0 :: t1 :: (.pointer (some ⟨gr, 0, none⟩)) :: t3 :: t4 :: t5 :: t6 :: (.pointer (some ⟨p, 0, none⟩)) :: t8 :: t9 :: t10 :: t11 :: t12 :: t13 :: t14 :: t15 :: t16 :: t17 :: t18 :: t19 :: t20 :: t21 :: t22 :: t23 :: t24 :: t25 :: t26 :: t27 :: t28 :: (.pointer (some ⟨gr, 0, none⟩)) :: (.int .i32 f) :: (.int .i64 f) :: t32 :: (.pointer (some ⟨gr, 1, none⟩)) :: (.int .i32 n) :: (.int .i64 n) :: t36 :: rest)), defers := [] } V) := by
    rintro _ rfl V p HR
    refine wpAnyH_ready (rs := [3, 9]) (by kernel_rfl) (by simp) ?_
    refine AllReadyH.cons (o := { dst := some 32, op := Op.call { callee := Callee.value (Operand.func 29), args := #[Operand.tmp 31], argTypes := #[2] }, type := 59, pos := "ref.go:62", after := #[{ on := 2, ground := Ground.data }], guard := none }) rfl (fun K hK => ?_) ?_
    · go_simp
      refine Calls.mono (dOf f V (by have := HI.out; omega) (by have := HI.out; omega)) ?_
      rintro e V' ⟨m1, e1, j1, d1, rfl, new, hb⟩
      dsimp only
      have HB2 := hid (bt HR.out.1 hb)
      refine hK.out _ _ ?_ (fun hHeld => ?_)
      · exact HB2.out
      clear hK K
      try simp only [List.setIfInBounds_toArray, List.set_cons_zero, List.set_cons_succ]
      exact F_3_8.out _ (by kernel_rfl) _ m1 e1 j1 d1 p (hid ⟨HB2.out, new, ⟨(HR.out.2).1.later hb (HR.out.2).1.lt, (HR.out.2).2⟩⟩)
    refine AllReadyH.cons (o := { dst := some 8, op := Op.alloc 59, type := 0, pos := "ref.go:62", after := #[], guard := none }) rfl (fun K hK => ?_) ?_
    · go_simp
      have hb := alloc_later V (.cells #[.bool false, .slice none 0 0] 59)
      have new := And.intro (Box.made V 59 #[.bool false, .slice none 0 0]) (HR.out.1).size
      have HB2 := hid (bt HR.out.1 hb)
      refine hK.out _ _ ?_ (fun hHeld => ?_)
      · exact HB2.out
      clear hK K
      try simp only [List.setIfInBounds_toArray, List.set_cons_zero, List.set_cons_succ]
      exact F_8_9.out _ (by kernel_rfl) _ p V.heap.size (hid ⟨HB2.out, ⟨(HR.out.2).1.later hb (HR.out.2).1.lt, (HR.out.2).2⟩, new, (by have := (HR.out.2).1.lt; omega)⟩)
    exact AllReadyH.nil
  have F_9 : Hid (∀ listed, listed = #[true, true, true, false, true, true, true, false, false, true, false, false] → ∀ (V : World) (q : Nat), Hid ((Below X.heap.size X V) ∧ (Box V q 59 #[.bool false, .slice none 0 0] ∧ X.heap.size ≤ q)) → wpAnyH Tryz.prog .any pw_region6_ops (NoPanic Q) (fun V : World => Below X.heap.size X V) 5 listed { tmps := (List.toArray (t0 :: t1 :: (.pointer (some ⟨gr, 0, none⟩)) :: t3 :: t4 :: t5 :: t6 :: t7 :: (.pointer (some ⟨q, 0, none⟩)) :: t9 :: t10 :: t11 :: t12 :: t13 :: t14 :: t15 :: t16 :: t17 :: t18 :: t19 :: t20 :: t21 :: t22 :: t23 :: t24 :: t25 :: t26 :: t27 :: t28 :: (.pointer (some ⟨gr, 0, none⟩)) :: (.int .i32 f) :: (.int .i64 f) :: t32 :: (.pointer (some ⟨gr, 1, none⟩)) :: (.int .i32 n) :: (.int .i64 n) :: t36 :: rest)), defers := [] } V) := by
    rintro _ rfl V q HR
    refine wpAnyH_ready (rs := [3, 8]) (by kernel_rfl) (by simp) ?_
    refine AllReadyH.cons (o := { dst := some 32, op := Op.call { callee := Callee.value (Operand.func 29), args := #[Operand.tmp 31], argTypes := #[2] }, type := 59, pos := "ref.go:62", after := #[{ on := 2, ground := Ground.data }], guard := none }) rfl (fun K hK => ?_) ?_
    · go_simp
      refine Calls.mono (dOf f V (by have := HI.out; omega) (by have := HI.out; omega)) ?_
      rintro e V' ⟨m1, e1, j1, d1, rfl, new, hb⟩
      dsimp only
      have HB2 := hid (bt HR.out.1 hb)
      refine hK.out _ _ ?_ (fun hHeld => ?_)
      · exact HB2.out
      clear hK K
      try simp only [List.setIfInBounds_toArray, List.set_cons_zero, List.set_cons_succ]
      exact F_3_9.out _ (by kernel_rfl) _ m1 e1 j1 d1 q (hid ⟨HB2.out, new, ⟨(HR.out.2).1.later hb (HR.out.2).1.lt, (HR.out.2).2⟩⟩)
    refine AllReadyH.cons (o := { dst := some 7, op := Op.alloc 59, type := 0, pos := "ref.go:62", after := #[], guard := none }) rfl (fun K hK => ?_) ?_
    · go_simp
      have hb := alloc_later V (.cells #[.bool false, .slice none 0 0] 59)
      have new := And.intro (Box.made V 59 #[.bool false, .slice none 0 0]) (HR.out.1).size
      have HB2 := hid (bt HR.out.1 hb)
      refine hK.out _ _ ?_ (fun hHeld => ?_)
      · exact HB2.out
      clear hK K
      try simp only [List.setIfInBounds_toArray, List.set_cons_zero, List.set_cons_succ]
      exact F_8_9.out _ (by kernel_rfl) _ V.heap.size q (hid ⟨HB2.out, new, ⟨(HR.out.2).1.later hb (HR.out.2).1.lt, (HR.out.2).2⟩, (by have := (HR.out.2).1.lt; omega)⟩)
    exact AllReadyH.nil
  have F : Hid (∀ listed, listed = #[true, true, true, false, true, true, true, false, false, false, false, false] → ∀ (V : World) , Hid ((Below X.heap.size X V)) → wpAnyH Tryz.prog .any pw_region6_ops (NoPanic Q) (fun V : World => Below X.heap.size X V) 6 listed { tmps := (List.toArray (t0 :: t1 :: (.pointer (some ⟨gr, 0, none⟩)) :: t3 :: t4 :: t5 :: t6 :: t7 :: t8 :: t9 :: t10 :: t11 :: t12 :: t13 :: t14 :: t15 :: t16 :: t17 :: t18 :: t19 :: t20 :: t21 :: t22 :: t23 :: t24 :: t25 :: t26 :: t27 :: t28 :: (.pointer (some ⟨gr, 0, none⟩)) :: (.int .i32 f) :: (.int .i64 f) :: t32 :: (.pointer (some ⟨gr, 1, none⟩)) :: (.int .i32 n) :: (.int .i64 n) :: t36 :: rest)), defers := [] } V) := by
    rintro _ rfl V  HR
    refine wpAnyH_ready (rs := [3, 8, 9]) (by kernel_rfl) (by simp) ?_
    refine AllReadyH.cons (o := { dst := some 32, op := Op.call { callee := Callee.value (Operand.func 29), args := #[Operand.tmp 31], argTypes := #[2] }, type := 59, pos := "ref.go:62", after := #[{ on := 2, ground := Ground.data }], guard := none }) rfl (fun K hK => ?_) ?_
    · go_simp
      refine Calls.mono (dOf f V (by have := HI.out; omega) (by have := HI.out; omega)) ?_
      rintro e V' ⟨m1, e1, j1, d1, rfl, new, hb⟩
      dsimp only
      have HB2 := hid (bt HR.out hb)
      refine hK.out _ _ ?_ (fun hHeld => ?_)
      · exact HB2.out
      clear hK K
      try simp only [List.setIfInBounds_toArray, List.set_cons_zero, List.set_cons_succ]
      exact F_3.out _ (by kernel_rfl) _ m1 e1 j1 d1 (hid ⟨HB2.out, new⟩)
    refine AllReadyH.cons (o := { dst := some 7, op := Op.alloc 59, type := 0, pos := "ref.go:62", after := #[], guard := none }) rfl (fun K hK => ?_) ?_
    · go_simp
      have hb := alloc_later V (.cells #[.bool false, .slice none 0 0] 59)
      have new := And.intro (Box.made V 59 #[.bool false, .slice none 0 0]) (HR.out).size
      have HB2 := hid (bt HR.out hb)
      refine hK.out _ _ ?_ (fun hHeld => ?_)
      · exact HB2.out
      clear hK K
      try simp only [List.setIfInBounds_toArray, List.set_cons_zero, List.set_cons_succ]
      exact F_8.out _ (by kernel_rfl) _ V.heap.size (hid ⟨HB2.out, new⟩)
    refine AllReadyH.cons (o := { dst := some 8, op := Op.alloc 59, type := 0, pos := "ref.go:62", after := #[], guard := none }) rfl (fun K hK => ?_) ?_
    · go_simp
      have hb := alloc_later V (.cells #[.bool false, .slice none 0 0] 59)
      have new := And.intro (Box.made V 59 #[.bool false, .slice none 0 0]) (HR.out).size
      have HB2 := hid (bt HR.out hb)
      refine hK.out _ _ ?_ (fun hHeld => ?_)
      · exact HB2.out
      clear hK K
      try simp only [List.setIfInBounds_toArray, List.set_cons_zero, List.set_cons_succ]
      exact F_9.out _ (by kernel_rfl) _ V.heap.size (hid ⟨HB2.out, new⟩)
    exact AllReadyH.nil
  refine wp_region_noPanic ?_
  refine wp_region_held_drew (S := (fun V : World => Below X.heap.size X V)) (by kernel_rfl) ?_ (fun hHeld => ?_)
  · exact (Below.drew (Below.refl _ X))
  refine wpAnyH_take (i := 0) (oi := { dst := some 29, op := Op.fieldAddr 23 (Operand.tmp 2) 0, type := 0, pos := "ref.go:62", after := #[], guard := none }) (v := ?_) rfl (by kernel_rfl) (by kernel_rfl) (by kernel_rfl) (fun _ _ _ h => h) (Or.inl ⟨by rfl, ?_⟩) (by assumption) ?_
  rotate_left 1
  · intro V hSw
    go_simp
    try with_reducible rfl
  try simp only [Act.put, List.setIfInBounds_toArray, List.set_cons_zero, List.set_cons_succ]
  refine wpAnyH_take (i := 1) (oi := { dst := some 30, op := Op.load 21 (Operand.tmp 29), type := 21, pos := "ref.go:62", after := #[{ on := 0, ground := Ground.data }], guard := none }) (v := ?_) rfl (by kernel_rfl) (by kernel_rfl) (by kernel_rfl) (fun _ _ _ h => h) (Or.inl ⟨by rfl, ?_⟩) (by assumption) ?_
  rotate_left 1
  · intro V hSw
    obtain ⟨p0, p1⟩ := HK.out V hSw
    clear hSw
    go_simp
    try with_reducible rfl
  try simp only [Act.put, List.setIfInBounds_toArray, List.set_cons_zero, List.set_cons_succ]
  refine wpAnyH_take (i := 2) (oi := { dst := some 31, op := Op.convert 21 2 (Operand.tmp 30), type := 2, pos := "ref.go:62", after := #[{ on := 1, ground := Ground.data }], guard := none }) (v := ?_) rfl (by kernel_rfl) (by kernel_rfl) (by kernel_rfl) (fun _ _ _ h => h) (Or.inl ⟨by rfl, ?_⟩) (by assumption) ?_
  rotate_left 1
  · intro V hSw
    go_simp
    try with_reducible rfl
  try simp only [Act.put, List.setIfInBounds_toArray, List.set_cons_zero, List.set_cons_succ]
  refine wpAnyH_take (i := 4) (oi := { dst := some 33, op := Op.fieldAddr 23 (Operand.tmp 2) 1, type := 0, pos := "ref.go:62", after := #[], guard := none }) (v := ?_) rfl (by kernel_rfl) (by kernel_rfl) (by kernel_rfl) (fun _ _ _ h => h) (Or.inl ⟨by rfl, ?_⟩) (by assumption) ?_
  rotate_left 1
  · intro V hSw
    go_simp
    try with_reducible rfl
  try simp only [Act.put, List.setIfInBounds_toArray, List.set_cons_zero, List.set_cons_succ]
  refine wpAnyH_take (i := 5) (oi := { dst := some 34, op := Op.load 21 (Operand.tmp 33), type := 21, pos := "ref.go:62", after := #[{ on := 4, ground := Ground.data }], guard := none }) (v := ?_) rfl (by kernel_rfl) (by kernel_rfl) (by kernel_rfl) (fun _ _ _ h => h) (Or.inl ⟨by rfl, ?_⟩) (by assumption) ?_
  rotate_left 1
  · intro V hSw
    obtain ⟨p0, p1⟩ := HK.out V hSw
    clear hSw
    go_simp
    try with_reducible rfl
  try simp only [Act.put, List.setIfInBounds_toArray, List.set_cons_zero, List.set_cons_succ]
  refine wpAnyH_take (i := 6) (oi := { dst := some 35, op := Op.convert 21 2 (Operand.tmp 34), type := 2, pos := "ref.go:62", after := #[{ on := 5, ground := Ground.data }], guard := none }) (v := ?_) rfl (by kernel_rfl) (by kernel_rfl) (by kernel_rfl) (fun _ _ _ h => h) (Or.inl ⟨by rfl, ?_⟩) (by assumption) ?_
  rotate_left 1
  · intro V hSw
    go_simp
    try with_reducible rfl
  try simp only [Act.put, List.setIfInBounds_toArray, List.set_cons_zero, List.set_cons_succ]
  exact F.out _ (by kernel_rfl) _ (hid (Below.drew (Below.refl _ X)))
/-- The operations of the statement. -/
def pw_region10_ops : Array Oper := #[{ dst := some 43, op := Op.load 59 (Operand.tmp 7), type := 59, pos := "ref.go:67", after := #[], guard := none }, { dst := some 44, op := Op.load 59 (Operand.tmp 7), type := 59, pos := "ref.go:67", after := #[], guard := none }, { dst := some 45, op := Op.call { callee := Callee.value (Operand.func 32), args := #[Operand.tmp 43, Operand.tmp 44], argTypes := #[59, 59] }, type := 59, pos := "ref.go:67", after := #[{ on := 0, ground := Ground.data }, { on := 1, ground := Ground.data }], guard := none }, { dst := some 46, op := Op.load 59 (Operand.tmp 8), type := 59, pos := "ref.go:67", after := #[], guard := none }, { dst := some 47, op := Op.load 59 (Operand.tmp 8), type := 59, pos := "ref.go:67", after := #[], guard := none }, { dst := some 48, op := Op.call { callee := Callee.value (Operand.func 32), args := #[Operand.tmp 46, Operand.tmp 47], argTypes := #[59, 59] }, type := 59, pos := "ref.go:67", after := #[{ on := 3, ground := Ground.data }, { on := 4, ground := Ground.data }, { on := 2, ground := Ground.chain }], guard := none }, { dst := some 49, op := Op.call { callee := Callee.value (Operand.func 31), args := #[Operand.tmp 45, Operand.tmp 48], argTypes := #[59, 59] }, type := 59, pos := "ref.go:67", after := #[{ on := 2, ground := Ground.data }, { on := 5, ground := Ground.data }, { on := 5, ground := Ground.chain }], guard := none }, { dst := some 9, op := Op.alloc 59, type := 0, pos := "ref.go:67", after := #[], guard := none }, { dst := none, op := Op.store 59 (Operand.tmp 9) (Operand.tmp 49), type := 0, pos := "ref.go:67", after := #[{ on := 7, ground := Ground.data }, { on := 6, ground := Ground.data }, { on := 6, ground := Ground.chain }, { on := 0, ground := Ground.phase }, { on := 1, ground := Ground.phase }, { on := 2, ground := Ground.phase }, { on := 3, ground := Ground.phase }, { on := 4, ground := Ground.phase }, { on := 5, ground := Ground.phase }, { on := 6, ground := Ground.phase }, { on := 7, ground := Ground.phase }], guard := none }]
set_option maxHeartbeats 6400000 in
set_option maxRecDepth 100000 in
theorem pw_region10 (X : World) (b7 : Nat) (n7 : Bool) (a7 : Option Addr) (k7 c7 : Nat) (z7 : Int) (HB7 : Hid (Box X b7 59 #[.bool n7, .slice a7 k7 c7])) (HD7 : Hid (DW X n7 a7 k7 c7 z7)) (L7 : Hid (k7 ≤ 100000)) (b8 : Nat) (n8 : Bool) (a8 : Option Addr) (k8 c8 : Nat) (z8 : Int) (HB8 : Hid (Box X b8 59 #[.bool n8, .slice a8 k8 c8])) (HD8 : Hid (DW X n8 a8 k8 c8 z8)) (L8 : Hid (k8 ≤ 100000)) (M1 : Hid ((z7 * z7).natAbs < dlim 3000)) (M2 : Hid ((z8 * z8).natAbs < dlim 3000)) (t0 t1 t2 t3 t4 t5 t6 t9 t10 t11 t12 t13 t14 t15 t16 t17 t18 t19 t20 t21 t22 t23 t24 t25 t26 t27 t28 t29 t30 t31 t32 t33 t34 t35 t36 t37 t38 t39 t40 t41 t42 t43 t44 t45 t46 t47 t48 t49 : Value) (rest : List Value) (Q : Exit → Act → World → Prop)
    (hQ : ∀ (p : Nat) (u43 : Value) (u44 : Value) (u45 : Value) (u46 : Value) (u47 : Value) (u48 : Value) (u49 : Value) (F : World), Hid (NB F p (z7 * z7 + z8 * z8) ∧ X.heap.size ≤ p ∧ Below X.heap.size X F) → Q .normal { tmps := (List.toArray (t0 :: t1 :: t2 :: t3 :: t4 :: t5 :: t6 :: (.pointer (some ⟨b7, 0, none⟩)) :: (.pointer (some ⟨b8, 0, none⟩)) :: (.pointer (some ⟨p, 0, none⟩)) :: t10 :: t11 :: t12 :: t13 :: t14 :: t15 :: t16 :: t17 :: t18 :: t19 :: t20 :: t21 :: t22 :: t23 :: t24 :: t25 :: t26 :: t27 :: t28 :: t29 :: t30 :: t31 :: t32 :: t33 :: t34 :: t35 :: t36 :: t37 :: t38 :: t39 :: t40 :: t41 :: t42 :: u43 :: u44 :: u45 :: u46 :: u47 :: u48 :: u49 :: rest)), defers := [] } F) :
    Code.wp Tryz.prog (Code.region 10 pw_region10_ops true) Q { tmps := (List.toArray (t0 :: t1 :: t2 :: t3 :: t4 :: t5 :: t6 :: (.pointer (some ⟨b7, 0, none⟩)) :: (.pointer (some ⟨b8, 0, none⟩)) :: t9 :: t10 :: t11 :: t12 :: t13 :: t14 :: t15 :: t16 :: t17 :: t18 :: t19 :: t20 :: t21 :: t22 :: t23 :: t24 :: t25 :: t26 :: t27 :: t28 :: t29 :: t30 :: t31 :: t32 :: t33 :: t34 :: t35 :: t36 :: t37 :: t38 :: t39 :: t40 :: t41 :: t42 :: t43 :: t44 :: t45 :: t46 :: t47 :: t48 :: t49 :: rest)), defers := [] } X := by
  have HQ := hid hQ
  clear hQ
  have HK : Hid (∀ V, Below X.heap.size X V → V.cell? ⟨b7, 0, none⟩ = some (.bool n7) ∧ V.cell? ⟨b7, 1, none⟩ = some (.slice a7 k7 c7) ∧ V.cell? ⟨b8, 0, none⟩ = some (.bool n8) ∧ V.cell? ⟨b8, 1, none⟩ = some (.slice a8 k8 c8)) := fun V hb => by
    obtain ⟨p7, q7, _, _⟩ := res_box HB7.out hb
    obtain ⟨p8, q8, _, _⟩ := res_box HB8.out hb
    exact ⟨p7, q7, p8, q8⟩
  have F_2_5_6_7 : Hid (∀ listed, listed = #[true, true, true, true, true, true, true, true, false] → ∀ (V : World) (m1 : Bool) (e1 : Option Addr) (j1 : Nat) (d1 : Nat) (m2 : Bool) (e2 : Option Addr) (j2 : Nat) (d2 : Nat) (m3 : Bool) (e3 : Option Addr) (j3 : Nat) (d3 : Nat) (p : Nat), Hid ((Below X.heap.size X V) ∧ (DW V m1 e1 j1 d1 (z7 * z7)) ∧ (DW V m2 e2 j2 d2 (z8 * z8)) ∧ (DW V m3 e3 j3 d3 (z7 * z7 + z8 * z8)) ∧ (Box V p 59 #[.bool false, .slice none 0 0] ∧ X.heap.size ≤ p)) → wpAnyH Tryz.prog .any pw_region10_ops (NoPanic Q) (fun V : World => Below X.heap.size X V) 1 listed { tmps := (List.toArray (t0 :: t1 :: t2 :: t3 :: t4 :: t5 :: t6 :: (.pointer (some ⟨b7, 0, none⟩)) :: (.pointer (some ⟨b8, 0, none⟩)) :: (.pointer (some ⟨p, 0, none⟩)) :: t10 :: t11 :: t12 :: t13 :: t14 :: t15 :: t16 :: t17 :: t18 :: t19 :: t20 :: t21 :: t22 :: t23 :: t24 :: t25 :: t26 :: t27 :: t28 :: t29 :: t30 :: t31 :: t32 :: t33 :: t34 :: t35 :: t36 :: t37 :: t38 :: t39 :: t40 :: t41 :: t42 :: (.agg #[.bool n7, .slice a7 k7 c7]) :: (.agg #[.bool n7, .slice a7 k7 c7]) :: (.agg #[.bool m1, .slice e1 j1 d1]) :: (.agg #[.bool n8, .slice a8 k8 c8]) :: (.agg #[.bool n8, .slice a8 k8 c8]) :: (.agg #[.bool m2, .slice e2 j2 d2]) :: (.agg #[.bool m3, .slice e3 j3 d3]) :: rest)), defers := [] } V) := by
    rintro _ rfl V m1 e1 j1 d1 m2 e2 j2 d2 m3 e3 j3 d3 p HR
    have HB := hid (HR.out.2.2.2.2).1
    have HL := hid (HR.out.2.2.2.2).2
    obtain ⟨y0, y1, f0, f1⟩ := res_box HB.out (Below.refl _ _)
    have HU := hid (NB.set HB.out HR.out.2.2.2.1)
    have HBE := hid (below_put2 HR.out.1 p HL.out (.bool m3) (.slice e3 j3 d3))
    clear HR
    refine wpAnyH_ready (rs := [8]) (by kernel_rfl) (by simp) ?_
    refine AllReadyH.cons (o := { dst := none, op := Op.store 59 (Operand.tmp 9) (Operand.tmp 49), type := 0, pos := "ref.go:67", after := #[{ on := 7, ground := Ground.data }, { on := 6, ground := Ground.data }, { on := 6, ground := Ground.chain }, { on := 0, ground := Ground.phase }, { on := 1, ground := Ground.phase }, { on := 2, ground := Ground.phase }, { on := 3, ground := Ground.phase }, { on := 4, ground := Ground.phase }, { on := 5, ground := Ground.phase }, { on := 6, ground := Ground.phase }, { on := 7, ground := Ground.phase }], guard := none }) rfl (fun K hK => ?_) AllReadyH.nil
    go_simp
    refine hK.out _ _ ?_ (fun hHeld => ?_)
    · exact HBE.out
    clear hK K
    try simp only [List.setIfInBounds_toArray, List.set_cons_zero, List.set_cons_succ]
    refine wpAnyH_done (by kernel_rfl) ?_ _
    refine NoPanic.normal ?_
    exact HQ.out p _ _ _ _ _ _ _ _ (hid ⟨HU.out, HL.out, HBE.out⟩)
  have F_2_5_6 : Hid (∀ listed, listed = #[true, true, true, true, true, true, true, false, false] → ∀ (V : World) (m1 : Bool) (e1 : Option Addr) (j1 : Nat) (d1 : Nat) (m2 : Bool) (e2 : Option Addr) (j2 : Nat) (d2 : Nat) (m3 : Bool) (e3 : Option Addr) (j3 : Nat) (d3 : Nat), Hid ((Below X.heap.size X V) ∧ (DW V m1 e1 j1 d1 (z7 * z7)) ∧ (DW V m2 e2 j2 d2 (z8 * z8)) ∧ (DW V m3 e3 j3 d3 (z7 * z7 + z8 * z8))) → wpAnyH Tryz.prog .any pw_region10_ops (NoPanic Q) (fun V : World => Below X.heap.size X V) 2 listed { tmps := (List.toArray (t0 :: t1 :: t2 :: t3 :: t4 :: t5 :: t6 :: (.pointer (some ⟨b7, 0, none⟩)) :: (.pointer (some ⟨b8, 0, none⟩)) :: t9 :: t10 :: t11 :: t12 :: t13 :: t14 :: t15 :: t16 :: t17 :: t18 :: t19 :: t20 :: t21 :: t22 :: t23 :: t24 :: t25 :: t26 :: t27 :: t28 :: t29 :: t30 :: t31 :: t32 :: t33 :: t34 :: t35 :: t36 :: t37 :: t38 :: t39 :: t40 :: t41 :: t42 :: (.agg #[.bool n7, .slice a7 k7 c7]) :: (.agg #[.bool n7, .slice a7 k7 c7]) :: (.agg #[.bool m1, .slice e1 j1 d1]) :: (.agg #[.bool n8, .slice a8 k8 c8]) :: (.agg #[.bool n8, .slice a8 k8 c8]) :: (.agg #[.bool m2, .slice e2 j2 d2]) :: (.agg #[.bool m3, .slice e3 j3 d3]) :: rest)), defers := [] } V) := by
    rintro _ rfl V m1 e1 j1 d1 m2 e2 j2 d2 m3 e3 j3 d3 HR
    refine wpAnyH_ready (rs := [7]) (by kernel_rfl) (by simp) ?_
    refine AllReadyH.cons (o := { dst := some 9, op := Op.alloc 59, type := 0, pos := "ref.go:67", after := #[], guard := none }) rfl (fun K hK => ?_) ?_
    · go_simp
      have hb := alloc_later V (.cells #[.bool false, .slice none 0 0] 59)
      have new := And.intro (Box.made V 59 #[.bool false, .slice none 0 0]) (HR.out.1).size
      have HB2 := hid (bt HR.out.1 hb)
      refine hK.out _ _ ?_ (fun hHeld => ?_)
      · exact HB2.out
      clear hK K
      try simp only [List.setIfInBounds_toArray, List.set_cons_zero, List.set_cons_succ]
      exact F_2_5_6_7.out _ (by kernel_rfl) _ m1 e1 j1 d1 m2 e2 j2 d2 m3 e3 j3 d3 V.heap.size (hid ⟨HB2.out, (HR.out.2.1).later hb, (HR.out.2.2.1).later hb, (HR.out.2.2.2).later hb, new⟩)
    exact AllReadyH.nil
  have F_2_5_7 : Hid (∀ listed, listed = #[true, true, true, true, true, true, false, true, false] → ∀ (V : World) (m1 : Bool) (e1 : Option Addr) (j1 : Nat) (d1 : Nat) (m2 : Bool) (e2 : Option Addr) (j2 : Nat) (d2 : Nat) (p : Nat), Hid ((Below X.heap.size X V) ∧ (DW V m1 e1 j1 d1 (z7 * z7)) ∧ (DW V m2 e2 j2 d2 (z8 * z8)) ∧ (Box V p 59 #[.bool false, .slice none 0 0] ∧ X.heap.size ≤ p)) → wpAnyH Tryz.prog .any pw_region10_ops (NoPanic Q) (fun V : World => Below X.heap.size X V) 2 listed { tmps := (List.toArray (t0 :: t1 :: t2 :: t3 :: t4 :: t5 :: t6 :: (.pointer (some ⟨b7, 0, none⟩)) :: (.pointer (some ⟨b8, 0, none⟩)) :: (.pointer (some ⟨p, 0, none⟩)) :: t10 :: t11 :: t12 :: t13 :: t14 :: t15 :: t16 :: t17 :: t18 :: t19 :: t20 :: t21 :: t22 :: t23 :: t24 :: t25 :: t26 :: t27 :: t28 :: t29 :: t30 :: t31 :: t32 :: t33 :: t34 :: t35 :: t36 :: t37 :: t38 :: t39 :: t40 :: t41 :: t42 :: (.agg #[.bool n7, .slice a7 k7 c7]) :: (.agg #[.bool n7, .slice a7 k7 c7]) :: (.agg #[.bool m1, .slice e1 j1 d1]) :: (.agg #[.bool n8, .slice a8 k8 c8]) :: (.agg #[.bool n8, .slice a8 k8 c8]) :: (.agg #[.bool m2, .slice e2 j2 d2]) :: t49 :: rest)), defers := [] } V) := by
    rintro _ rfl V m1 e1 j1 d1 m2 e2 j2 d2 p HR
    refine wpAnyH_ready (rs := [6]) (by kernel_rfl) (by simp) ?_
    refine AllReadyH.cons (o := { dst := some 49, op := Op.call { callee := Callee.value (Operand.func 31), args := #[Operand.tmp 45, Operand.tmp 48], argTypes := #[59, 59] }, type := 59, pos := "ref.go:67", after := #[{ on := 2, ground := Ground.data }, { on := 5, ground := Ground.data }, { on := 5, ground := Ground.chain }], guard := none }) rfl (fun K hK => ?_) ?_
    · go_simp
      refine Calls.mono (dPlus HR.out.2.1 HR.out.2.2.1 (Nat.le_trans ((HR.out.2.1).len M1.out) (by omega)) (Nat.le_trans ((HR.out.2.2.1).len M2.out) (by omega))) ?_
      rintro e V' ⟨m3, e3, j3, d3, rfl, new, hb⟩
      dsimp only
      have HB2 := hid (bt HR.out.1 hb)
      refine hK.out _ _ ?_ (fun hHeld => ?_)
      · exact HB2.out
      clear hK K
      try simp only [List.setIfInBounds_toArray, List.set_cons_zero, List.set_cons_succ]
      exact F_2_5_6_7.out _ (by kernel_rfl) _ m1 e1 j1 d1 m2 e2 j2 d2 m3 e3 j3 d3 p (hid ⟨HB2.out, (HR.out.2.1).later hb, (HR.out.2.2.1).later hb, new, ⟨(HR.out.2.2.2).1.later hb (HR.out.2.2.2).1.lt, (HR.out.2.2.2).2⟩⟩)
    exact AllReadyH.nil
  have F_2_5 : Hid (∀ listed, listed = #[true, true, true, true, true, true, false, false, false] → ∀ (V : World) (m1 : Bool) (e1 : Option Addr) (j1 : Nat) (d1 : Nat) (m2 : Bool) (e2 : Option Addr) (j2 : Nat) (d2 : Nat), Hid ((Below X.heap.size X V) ∧ (DW V m1 e1 j1 d1 (z7 * z7)) ∧ (DW V m2 e2 j2 d2 (z8 * z8))) → wpAnyH Tryz.prog .any pw_region10_ops (NoPanic Q) (fun V : World => Below X.heap.size X V) 3 listed { tmps := (List.toArray (t0 :: t1 :: t2 :: t3 :: t4 :: t5 :: t6 :: (.pointer (some ⟨b7, 0, none⟩)) :: (.pointer (some ⟨b8, 0, none⟩)) :: t9 :: t10 :: t11 :: t12 :: t13 :: t14 :: t15 :: t16 :: t17 :: t18 :: t19 :: t20 :: t21 :: t22 :: t23 :: t24 :: t25 :: t26 :: t27 :: t28 :: t29 :: t30 :: t31 :: t32 :: t33 :: t34 :: t35 :: t36 :: t37 :: t38 :: t39 :: t40 :: t41 :: t42 :: (.agg #[.bool n7, .slice a7 k7 c7]) :: (.agg #[.bool n7, .slice a7 k7 c7]) :: (.agg #[.bool m1, .slice e1 j1 d1]) :: (.agg #[.bool n8, .slice a8 k8 c8]) :: (.agg #[.bool n8, .slice a8 k8 c8]) :: (.agg #[.bool m2, .slice e2 j2 d2]) :: t49 :: rest)), defers := [] } V) := by
    rintro _ rfl V m1 e1 j1 d1 m2 e2 j2 d2 HR
    refine wpAnyH_ready (rs := [6, 7]) (by kernel_rfl) (by simp) ?_
    refine AllReadyH.cons (o := { dst := some 49, op := Op.call { callee := Callee.value (Operand.func 31), args := #[Operand.tmp 45, Operand.tmp 48], argTypes := #[59, 59] }, type := 59, pos := "ref.go:67", after := #[{ on := 2, ground := Ground.data }, { on := 5, ground := Ground.data }, { on := 5, ground := Ground.chain }], guard := none }) rfl (fun K hK => ?_) ?_
    · go_simp
      refine Calls.mono (dPlus HR.out.2.1 HR.out.2.2 (Nat.le_trans ((HR.out.2.1).len M1.out) (by omega)) (Nat.le_trans ((HR.out.2.2).len M2.out) (by omega))) ?_
      rintro e V' ⟨m3, e3, j3, d3, rfl, new, hb⟩
      dsimp only
      have HB2 := hid (bt HR.out.1 hb)
      refine hK.out _ _ ?_ (fun hHeld => ?_)
      · exact HB2.out
      clear hK K
      try simp only [List.setIfInBounds_toArray, List.set_cons_zero, List.set_cons_succ]
      exact F_2_5_6.out _ (by kernel_rfl) _ m1 e1 j1 d1 m2 e2 j2 d2 m3 e3 j3 d3 (hid ⟨HB2.out, (HR.out.2.1).later hb, (HR.out.2.2).later hb, new⟩)
    refine AllReadyH.cons (o := { dst := some 9, op := Op.alloc 59, type := 0, pos := "ref.go:67", after := #[], guard := none }) rfl (fun K hK => ?_) ?_
    · go_simp
      have hb := alloc_later V (.cells #[.bool false, .slice none 0 0] 59)
      have new := And.intro (Box.made V 59 #[.bool false, .slice none 0 0]) (HR.out.1).size
      have HB2 := hid (bt HR.out.1 hb)
      refine hK.out _ _ ?_ (fun hHeld => ?_)
      · exact HB2.out
      clear hK K
      try simp only [List.setIfInBounds_toArray, List.set_cons_zero, List.set_cons_succ]
      exact F_2_5_7.out _ (by kernel_rfl) _ m1 e1 j1 d1 m2 e2 j2 d2 V.heap.size (hid ⟨HB2.out, (HR.out.2.1).later hb, (HR.out.2.2).later hb, new⟩)
    exact AllReadyH.nil
  have F_2_7 : Hid (∀ listed, listed = #[true, true, true, true, true, false, false, true, false] → ∀ (V : World) (m1 : Bool) (e1 : Option Addr) (j1 : Nat) (d1 : Nat) (p : Nat), Hid ((Below X.heap.size X V) ∧ (DW V m1 e1 j1 d1 (z7 * z7)) ∧ (Box V p 59 #[.bool false, .slice none 0 0] ∧ X.heap.size ≤ p)) → wpAnyH Tryz.prog .any pw_region10_ops (NoPanic Q) (fun V : World => Below X.heap.size X V) 3 listed { tmps := (List.toArray (t0 :: t1 :: t2 :: t3 :: t4 :: t5 :: t6 :: (.pointer (some ⟨b7, 0, none⟩)) :: (.pointer (some ⟨b8, 0, none⟩)) :: (.pointer (some ⟨p, 0, none⟩)) :: t10 :: t11 :: t12 :: t13 :: t14 :: t15 :: t16 :: t17 :: t18 :: t19 :: t20 :: t21 :: t22 :: t23 :: t24 :: t25 :: t26 :: t27 :: t28 :: t29 :: t30 :: t31 :: t32 :: t33 :: t34 :: t35 :: t36 :: t37 :: t38 :: t39 :: t40 :: t41 :: t42 :: (.agg #[.bool n7, .slice a7 k7 c7]) :: (.agg #[.bool n7, .slice a7 k7 c7]) :: (.agg #[.bool m1, .slice e1 j1 d1]) :: (.agg #[.bool n8, .slice a8 k8 c8]) :: (.agg #[.bool n8, .slice a8 k8 c8]) :: t48 :: t49 :: rest)), defers := [] } V) := by
    rintro _ rfl V m1 e1 j1 d1 p HR
    refine wpAnyH_ready (rs := [5]) (by kernel_rfl) (by simp) ?_
    refine AllReadyH.cons (o := { dst := some 48, op := Op.call { callee := Callee.value (Operand.func 32), args := #[Operand.tmp 46, Operand.tmp 47], argTypes := #[59, 59] }, type := 59, pos := "ref.go:67", after := #[{ on := 3, ground := Ground.data }, { on := 4, ground := Ground.data }, { on := 2, ground := Ground.chain }], guard := none }) rfl (fun K hK => ?_) ?_
    · go_simp
      refine Calls.mono (dProduct (HD8.out.later HR.out.1) (HD8.out.later HR.out.1) L8.out L8.out) ?_
      rintro e V' ⟨m2, e2, j2, d2, rfl, new, hb⟩
      dsimp only
      have HB2 := hid (bt HR.out.1 hb)
      refine hK.out _ _ ?_ (fun hHeld => ?_)
      · exact HB2.out
      clear hK K
      try simp only [List.setIfInBounds_toArray, List.set_cons_zero, List.set_cons_succ]
      exact F_2_5_7.out _ (by kernel_rfl) _ m1 e1 j1 d1 m2 e2 j2 d2 p (hid ⟨HB2.out, (HR.out.2.1).later hb, new, ⟨(HR.out.2.2).1.later hb (HR.out.2.2).1.lt, (HR.out.2.2).2⟩⟩)
    exact AllReadyH.nil
  have F_2 : Hid (∀ listed, listed = #[true, true, true, true, true, false, false, false, false] → ∀ (V : World) (m1 : Bool) (e1 : Option Addr) (j1 : Nat) (d1 : Nat), Hid ((Below X.heap.size X V) ∧ (DW V m1 e1 j1 d1 (z7 * z7))) → wpAnyH Tryz.prog .any pw_region10_ops (NoPanic Q) (fun V : World => Below X.heap.size X V) 4 listed { tmps := (List.toArray (t0 :: t1 :: t2 :: t3 :: t4 :: t5 :: t6 :: (.pointer (some ⟨b7, 0, none⟩)) :: (.pointer (some ⟨b8, 0, none⟩)) :: t9 :: t10 :: t11 :: t12 :: t13 :: t14 :: t15 :: t16 :: t17 :: t18 :: t19 :: t20 :: t21 :: t22 :: t23 :: t24 :: t25 :: t26 :: t27 :: t28 :: t29 :: t30 :: t31 :: t32 :: t33 :: t34 :: t35 :: t36 :: t37 :: t38 :: t39 :: t40 :: t41 :: t42 :: (.agg #[.bool n7, .slice a7 k7 c7]) :: (.agg #[.bool n7, .slice a7 k7 c7]) :: (.agg #[.bool m1, .slice e1 j1 d1]) :: (.agg #[.bool n8, .slice a8 k8 c8]) :: (.agg #[.bool n8, .slice a8 k8 c8]) :: t48 :: t49 :: rest)), defers := [] } V) := by
    rintro _ rfl V m1 e1 j1 d1 HR
    refine wpAnyH_ready (rs := [5, 7]) (by kernel_rfl) (by simp) ?_
    refine AllReadyH.cons (o := { dst := some 48, op := Op.call { callee := Callee.value (Operand.func 32), args := #[Operand.tmp 46, Operand.tmp 47], argTypes := #[59, 59] }, type := 59, pos := "ref.go:67", after := #[{ on := 3, ground := Ground.data }, { on := 4, ground := Ground.data }, { on := 2, ground := Ground.chain }], guard := none }) rfl (fun K hK => ?_) ?_
    · go_simp
      refine Calls.mono (dProduct (HD8.out.later HR.out.1) (HD8.out.later HR.out.1) L8.out L8.out) ?_
      rintro e V' ⟨m2, e2, j2, d2, rfl, new, hb⟩
      dsimp only
      have HB2 := hid (bt HR.out.1 hb)
      refine hK.out _ _ ?_ (fun hHeld => ?_)
      · exact HB2.out
      clear hK K
      try simp only [List.setIfInBounds_toArray, List.set_cons_zero, List.set_cons_succ]
      exact F_2_5.out _ (by kernel_rfl) _ m1 e1 j1 d1 m2 e2 j2 d2 (hid ⟨HB2.out, (HR.out.2).later hb, new⟩)
    refine AllReadyH.cons (o := { dst := some 9, op := Op.alloc 59, type := 0, pos := "ref.go:67", after := #[], guard := none }) rfl (fun K hK => ?_) ?_
    · go_simp
      have hb := alloc_later V (.cells #[.bool false, .slice none 0 0] 59)
      have new := And.intro (Box.made V 59 #[.bool false, .slice none 0 0]) (HR.out.1).size
      have HB2 := hid (bt HR.out.1 hb)
      refine hK.out _ _ ?_ (fun hHeld => ?_)
      · exact HB2.out
      clear hK K
      try simp only [List.setIfInBounds_toArray, List.set_cons_zero, List.set_cons_succ]
      exact F_2_7.out _ (by kernel_rfl) _ m1 e1 j1 d1 V.heap.size (hid ⟨HB2.out, (HR.out.2).later hb, new⟩)
    exact AllReadyH.nil
  have F_7 : Hid (∀ listed, listed = #[true, true, false, true, true, false, false, true, false] → ∀ (V : World) (p : Nat), Hid ((Below X.heap.size X V) ∧ (Box V p 59 #[.bool false, .slice none 0 0] ∧ X.heap.size ≤ p)) → wpAnyH Tryz.prog .any pw_region10_ops (NoPanic Q) (fun V : World => Below X.heap.size X V) 4 listed { tmps := (List.toArray (t0 :: t1 :: t2 :: t3 :: t4 :: t5 :: t6 :: (.pointer (some ⟨b7, 0, none⟩)) :: (.pointer (some ⟨b8, 0, none⟩)) :: (.pointer (some ⟨p, 0, none⟩)) :: t10 :: t11 :: t12 :: t13 :: t14 :: t15 :: t16 :: t17 :: t18 :: t19 :: t20 :: t21 :: t22 :: t23 :: t24 :: t25 :: t26 :: t27 :: t28 :: t29 :: t30 :: t31 :: t32 :: t33 :: t34 :: t35 :: t36 :: t37 :: t38 :: t39 :: t40 :: t41 :: t42 :: (.agg #[.bool n7, .slice a7 k7 c7]) :: (.agg #[.bool n7, .slice a7 k7 c7]) :: t45 :: (.agg #[.bool n8, .slice a8 k8 c8]) :: (.agg #[.bool n8, .slice a8 k8 c8]) :: t48 :: t49 :: rest)), defers := [] } V) := by
    rintro _ rfl V p HR
    refine wpAnyH_ready (rs := [2]) (by kernel_rfl) (by simp) ?_
    refine AllReadyH.cons (o := { dst := some 45, op := Op.call { callee := Callee.value (Operand.func 32), args := #[Operand.tmp 43, Operand.tmp 44], argTypes := #[59, 59] }, type := 59, pos := "ref.go:67", after := #[{ on := 0, ground := Ground.data }, { on := 1, ground := Ground.data }], guard := none }) rfl (fun K hK => ?_) ?_
    · go_simp
      refine Calls.mono (dProduct (HD7.out.later HR.out.1) (HD7.out.later HR.out.1) L7.out L7.out) ?_
      rintro e V' ⟨m1, e1, j1, d1, rfl, new, hb⟩
      dsimp only
      have HB2 := hid (bt HR.out.1 hb)
      refine hK.out _ _ ?_ (fun hHeld => ?_)
      · exact HB2.out
      clear hK K
      try simp only [List.setIfInBounds_toArray, List.set_cons_zero, List.set_cons_succ]
      exact F_2_7.out _ (by kernel_rfl) _ m1 e1 j1 d1 p (hid ⟨HB2.out, new, ⟨(HR.out.2).1.later hb (HR.out.2).1.lt, (HR.out.2).2⟩⟩)
    exact AllReadyH.nil
  have F : Hid (∀ listed, listed = #[true, true, false, true, true, false, false, false, false] → ∀ (V : World) , Hid ((Below X.heap.size X V)) → wpAnyH Tryz.prog .any pw_region10_ops (NoPanic Q) (fun V : World => Below X.heap.size X V) 5 listed { tmps := (List.toArray (t0 :: t1 :: t2 :: t3 :: t4 :: t5 :: t6 :: (.pointer (some ⟨b7, 0, none⟩)) :: (.pointer (some ⟨b8, 0, none⟩)) :: t9 :: t10 :: t11 :: t12 :: t13 :: t14 :: t15 :: t16 :: t17 :: t18 :: t19 :: t20 :: t21 :: t22 :: t23 :: t24 :: t25 :: t26 :: t27 :: t28 :: t29 :: t30 :: t31 :: t32 :: t33 :: t34 :: t35 :: t36 :: t37 :: t38 :: t39 :: t40 :: t41 :: t42 :: (.agg #[.bool n7, .slice a7 k7 c7]) :: (.agg #[.bool n7, .slice a7 k7 c7]) :: t45 :: (.agg #[.bool n8, .slice a8 k8 c8]) :: (.agg #[.bool n8, .slice a8 k8 c8]) :: t48 :: t49 :: rest)), defers := [] } V) := by
    rintro _ rfl V  HR
    refine wpAnyH_ready (rs := [2, 7]) (by kernel_rfl) (by simp) ?_
    refine AllReadyH.cons (o := { dst := some 45, op := Op.call { callee := Callee.value (Operand.func 32), args := #[Operand.tmp 43, Operand.tmp 44], argTypes := #[59, 59] }, type := 59, pos := "ref.go:67", after := #[{ on := 0, ground := Ground.data }, { on := 1, ground := Ground.data }], guard := none }) rfl (fun K hK => ?_) ?_
    · go_simp
      refine Calls.mono (dProduct (HD7.out.later HR.out) (HD7.out.later HR.out) L7.out L7.out) ?_
      rintro e V' ⟨m1, e1, j1, d1, rfl, new, hb⟩
      dsimp only
      have HB2 := hid (bt HR.out hb)
      refine hK.out _ _ ?_ (fun hHeld => ?_)
      · exact HB2.out
      clear hK K
      try simp only [List.setIfInBounds_toArray, List.set_cons_zero, List.set_cons_succ]
      exact F_2.out _ (by kernel_rfl) _ m1 e1 j1 d1 (hid ⟨HB2.out, new⟩)
    refine AllReadyH.cons (o := { dst := some 9, op := Op.alloc 59, type := 0, pos := "ref.go:67", after := #[], guard := none }) rfl (fun K hK => ?_) ?_
    · go_simp
      have hb := alloc_later V (.cells #[.bool false, .slice none 0 0] 59)
      have new := And.intro (Box.made V 59 #[.bool false, .slice none 0 0]) (HR.out).size
      have HB2 := hid (bt HR.out hb)
      refine hK.out _ _ ?_ (fun hHeld => ?_)
      · exact HB2.out
      clear hK K
      try simp only [List.setIfInBounds_toArray, List.set_cons_zero, List.set_cons_succ]
      exact F_7.out _ (by kernel_rfl) _ V.heap.size (hid ⟨HB2.out, new⟩)
    exact AllReadyH.nil
  refine wp_region_noPanic ?_
  refine wp_region_held_drew (S := (fun V : World => Below X.heap.size X V)) (by kernel_rfl) ?_ (fun hHeld => ?_)
  · exact (Below.drew (Below.refl _ X))
  refine wpAnyH_take (i := 0) (oi := { dst := some 43, op := Op.load 59 (Operand.tmp 7), type := 59, pos := "ref.go:67", after := #[], guard := none }) (v := ?_) rfl (by kernel_rfl) (by kernel_rfl) (by kernel_rfl) (fun _ _ _ h => h) (Or.inl ⟨by rfl, ?_⟩) (by assumption) ?_
  rotate_left 1
  · intro V hSw
    obtain ⟨p7, q7, p8, q8⟩ := HK.out V hSw
    clear hSw
    go_simp
    try with_reducible rfl
  try simp only [Act.put, List.setIfInBounds_toArray, List.set_cons_zero, List.set_cons_succ]
  refine wpAnyH_take (i := 1) (oi := { dst := some 44, op := Op.load 59 (Operand.tmp 7), type := 59, pos := "ref.go:67", after := #[], guard := none }) (v := ?_) rfl (by kernel_rfl) (by kernel_rfl) (by kernel_rfl) (fun _ _ _ h => h) (Or.inl ⟨by rfl, ?_⟩) (by assumption) ?_
  rotate_left 1
  · intro V hSw
    obtain ⟨p7, q7, p8, q8⟩ := HK.out V hSw
    clear hSw
    go_simp
    try with_reducible rfl
  try simp only [Act.put, List.setIfInBounds_toArray, List.set_cons_zero, List.set_cons_succ]
  refine wpAnyH_take (i := 3) (oi := { dst := some 46, op := Op.load 59 (Operand.tmp 8), type := 59, pos := "ref.go:67", after := #[], guard := none }) (v := ?_) rfl (by kernel_rfl) (by kernel_rfl) (by kernel_rfl) (fun _ _ _ h => h) (Or.inl ⟨by rfl, ?_⟩) (by assumption) ?_
  rotate_left 1
  · intro V hSw
    obtain ⟨p7, q7, p8, q8⟩ := HK.out V hSw
    clear hSw
    go_simp
    try with_reducible rfl
  try simp only [Act.put, List.setIfInBounds_toArray, List.set_cons_zero, List.set_cons_succ]
  refine wpAnyH_take (i := 4) (oi := { dst := some 47, op := Op.load 59 (Operand.tmp 8), type := 59, pos := "ref.go:67", after := #[], guard := none }) (v := ?_) rfl (by kernel_rfl) (by kernel_rfl) (by kernel_rfl) (fun _ _ _ h => h) (Or.inl ⟨by rfl, ?_⟩) (by assumption) ?_
  rotate_left 1
  · intro V hSw
    obtain ⟨p7, q7, p8, q8⟩ := HK.out V hSw
    clear hSw
    go_simp
    try with_reducible rfl
  try simp only [Act.put, List.setIfInBounds_toArray, List.set_cons_zero, List.set_cons_succ]
  exact F.out _ (by kernel_rfl) _ (hid (Below.drew (Below.refl _ X)))
/-- The operations of the statement. -/
def pw_region15_ops : Array Oper := #[{ dst := some 59, op := Op.load 59 (Operand.tmp 10), type := 59, pos := "ref.go:70", after := #[], guard := none }, { dst := some 60, op := Op.load 59 (Operand.tmp 7), type := 59, pos := "ref.go:70", after := #[], guard := none }, { dst := some 61, op := Op.call { callee := Callee.value (Operand.func 32), args := #[Operand.tmp 59, Operand.tmp 60], argTypes := #[59, 59] }, type := 59, pos := "ref.go:70", after := #[{ on := 0, ground := Ground.data }, { on := 1, ground := Ground.data }], guard := none }, { dst := some 62, op := Op.load 59 (Operand.tmp 11), type := 59, pos := "ref.go:70", after := #[], guard := none }, { dst := some 63, op := Op.load 59 (Operand.tmp 8), type := 59, pos := "ref.go:70", after := #[], guard := none }, { dst := some 64, op := Op.call { callee := Callee.value (Operand.func 32), args := #[Operand.tmp 62, Operand.tmp 63], argTypes := #[59, 59] }, type := 59, pos := "ref.go:70", after := #[{ on := 3, ground := Ground.data }, { on := 4, ground := Ground.data }, { on := 2, ground := Ground.chain }], guard := none }, { dst := some 65, op := Op.call { callee := Callee.value (Operand.func 33), args := #[Operand.tmp 61, Operand.tmp 64], argTypes := #[59, 59] }, type := 59, pos := "ref.go:70", after := #[{ on := 2, ground := Ground.data }, { on := 5, ground := Ground.data }, { on := 5, ground := Ground.chain }], guard := none }, { dst := some 14, op := Op.alloc 59, type := 0, pos := "ref.go:70", after := #[], guard := none }, { dst := none, op := Op.store 59 (Operand.tmp 14) (Operand.tmp 65), type := 0, pos := "ref.go:70", after := #[{ on := 7, ground := Ground.data }, { on := 6, ground := Ground.data }, { on := 6, ground := Ground.chain }, { on := 0, ground := Ground.phase }, { on := 1, ground := Ground.phase }, { on := 2, ground := Ground.phase }, { on := 3, ground := Ground.phase }, { on := 4, ground := Ground.phase }, { on := 5, ground := Ground.phase }, { on := 6, ground := Ground.phase }, { on := 7, ground := Ground.phase }], guard := none }]
set_option maxHeartbeats 6400000 in
set_option maxRecDepth 100000 in
theorem pw_region15 (X : World) (b7 : Nat) (n7 : Bool) (a7 : Option Addr) (k7 c7 : Nat) (z7 : Int) (HB7 : Hid (Box X b7 59 #[.bool n7, .slice a7 k7 c7])) (HD7 : Hid (DW X n7 a7 k7 c7 z7)) (L7 : Hid (k7 ≤ 100000)) (b8 : Nat) (n8 : Bool) (a8 : Option Addr) (k8 c8 : Nat) (z8 : Int) (HB8 : Hid (Box X b8 59 #[.bool n8, .slice a8 k8 c8])) (HD8 : Hid (DW X n8 a8 k8 c8 z8)) (L8 : Hid (k8 ≤ 100000)) (b10 : Nat) (n10 : Bool) (a10 : Option Addr) (k10 c10 : Nat) (z10 : Int) (HB10 : Hid (Box X b10 59 #[.bool n10, .slice a10 k10 c10])) (HD10 : Hid (DW X n10 a10 k10 c10 z10)) (L10 : Hid (k10 ≤ 100000)) (b11 : Nat) (n11 : Bool) (a11 : Option Addr) (k11 c11 : Nat) (z11 : Int) (HB11 : Hid (Box X b11 59 #[.bool n11, .slice a11 k11 c11])) (HD11 : Hid (DW X n11 a11 k11 c11 z11)) (L11 : Hid (k11 ≤ 100000)) (M1 : Hid ((z10 * z7).natAbs < dlim 3000)) (M2 : Hid ((z11 * z8).natAbs < dlim 3000)) (t0 t1 t2 t3 t4 t5 t6 t9 t12 t13 t14 t15 t16 t17 t18 t19 t20 t21 t22 t23 t24 t25 t26 t27 t28 t29 t30 t31 t32 t33 t34 t35 t36 t37 t38 t39 t40 t41 t42 t43 t44 t45 t46 t47 t48 t49 t50 t51 t52 t53 t54 t55 t56 t57 t58 t59 t60 t61 t62 t63 t64 t65 : Value) (rest : List Value) (Q : Exit → Act → World → Prop)
    (hQ : ∀ (p : Nat) (u59 : Value) (u60 : Value) (u61 : Value) (u62 : Value) (u63 : Value) (u64 : Value) (u65 : Value) (F : World), Hid (NB F p (z10 * z7 - z11 * z8) ∧ X.heap.size ≤ p ∧ Below X.heap.size X F) → Q .normal { tmps := (List.toArray (t0 :: t1 :: t2 :: t3 :: t4 :: t5 :: t6 :: (.pointer (some ⟨b7, 0, none⟩)) :: (.pointer (some ⟨b8, 0, none⟩)) :: t9 :: (.pointer (some ⟨b10, 0, none⟩)) :: (.pointer (some ⟨b11, 0, none⟩)) :: t12 :: t13 :: (.pointer (some ⟨p, 0, none⟩)) :: t15 :: t16 :: t17 :: t18 :: t19 :: t20 :: t21 :: t22 :: t23 :: t24 :: t25 :: t26 :: t27 :: t28 :: t29 :: t30 :: t31 :: t32 :: t33 :: t34 :: t35 :: t36 :: t37 :: t38 :: t39 :: t40 :: t41 :: t42 :: t43 :: t44 :: t45 :: t46 :: t47 :: t48 :: t49 :: t50 :: t51 :: t52 :: t53 :: t54 :: t55 :: t56 :: t57 :: t58 :: u59 :: u60 :: u61 :: u62 :: u63 :: u64 :: u65 :: rest)), defers := [] } F) :
    Code.wp Tryz.prog (Code.region 15 pw_region15_ops true) Q { tmps := (List.toArray (t0 :: t1 :: t2 :: t3 :: t4 :: t5 :: t6 :: (.pointer (some ⟨b7, 0, none⟩)) :: (.pointer (some ⟨b8, 0, none⟩)) :: t9 :: (.pointer (some ⟨b10, 0, none⟩)) :: (.pointer (some ⟨b11, 0, none⟩)) :: t12 :: t13 :: t14 :: t15 :: t16 :: t17 :: t18 :: t19 :: t20 :: t21 :: t22 :: t23 :: t24 :: t25 :: t26 :: t27 :: t28 :: t29 :: t30 :: t31 :: t32 :: t33 :: t34 :: t35 :: t36 :: t37 :: t38 :: t39 :: t40 :: t41 :: t42 :: t43 :: t44 :: t45 :: t46 :: t47 :: t48 :: t49 :: t50 :: t51 :: t52 :: t53 :: t54 :: t55 :: t56 :: t57 :: t58 :: t59 :: t60 :: t61 :: t62 :: t63 :: t64 :: t65 :: rest)), defers := [] } X := by
  have HQ := hid hQ
  clear hQ
  have HK : Hid (∀ V, Below X.heap.size X V → V.cell? ⟨b7, 0, none⟩ = some (.bool n7) ∧ V.cell? ⟨b7, 1, none⟩ = some (.slice a7 k7 c7) ∧ V.cell? ⟨b8, 0, none⟩ = some (.bool n8) ∧ V.cell? ⟨b8, 1, none⟩ = some (.slice a8 k8 c8) ∧ V.cell? ⟨b10, 0, none⟩ = some (.bool n10) ∧ V.cell? ⟨b10, 1, none⟩ = some (.slice a10 k10 c10) ∧ V.cell? ⟨b11, 0, none⟩ = some (.bool n11) ∧ V.cell? ⟨b11, 1, none⟩ = some (.slice a11 k11 c11)) := fun V hb => by
    obtain ⟨p7, q7, _, _⟩ := res_box HB7.out hb
    obtain ⟨p8, q8, _, _⟩ := res_box HB8.out hb
    obtain ⟨p10, q10, _, _⟩ := res_box HB10.out hb
    obtain ⟨p11, q11, _, _⟩ := res_box HB11.out hb
    exact ⟨p7, q7, p8, q8, p10, q10, p11, q11⟩
  have F_2_5_6_7 : Hid (∀ listed, listed = #[true, true, true, true, true, true, true, true, false] → ∀ (V : World) (m1 : Bool) (e1 : Option Addr) (j1 : Nat) (d1 : Nat) (m2 : Bool) (e2 : Option Addr) (j2 : Nat) (d2 : Nat) (m3 : Bool) (e3 : Option Addr) (j3 : Nat) (d3 : Nat) (p : Nat), Hid ((Below X.heap.size X V) ∧ (DW V m1 e1 j1 d1 (z10 * z7)) ∧ (DW V m2 e2 j2 d2 (z11 * z8)) ∧ (DW V m3 e3 j3 d3 (z10 * z7 - z11 * z8)) ∧ (Box V p 59 #[.bool false, .slice none 0 0] ∧ X.heap.size ≤ p)) → wpAnyH Tryz.prog .any pw_region15_ops (NoPanic Q) (fun V : World => Below X.heap.size X V) 1 listed { tmps := (List.toArray (t0 :: t1 :: t2 :: t3 :: t4 :: t5 :: t6 :: (.pointer (some ⟨b7, 0, none⟩)) :: (.pointer (some ⟨b8, 0, none⟩)) :: t9 :: (.pointer (some ⟨b10, 0, none⟩)) :: (.pointer (some ⟨b11, 0, none⟩)) :: t12 :: t13 :: (.pointer (some ⟨p, 0, none⟩)) :: t15 :: t16 :: t17 :: t18 :: t19 :: t20 :: t21 :: t22 :: t23 :: t24 :: t25 :: t26 :: t27 :: t28 :: t29 :: t30 :: t31 :: t32 :: t33 :: t34 :: t35 :: t36 :: t37 :: t38 :: t39 :: t40 :: t41 :: t42 :: t43 :: t44 :: t45 :: t46 :: t47 :: t48 :: t49 :: t50 :: t51 :: t52 :: t53 :: t54 :: t55 :: t56 :: t57 :: t58 :: (.agg #[.bool n10, .slice a10 k10 c10]) :: (.agg #[.bool n7, .slice a7 k7 c7]) :: (.agg #[.bool m1, .slice e1 j1 d1]) :: (.agg #[.bool n11, .slice a11 k11 c11]) :: (.agg #[.bool n8, .slice a8 k8 c8]) :: (.agg #[.bool m2, .slice e2 j2 d2]) :: (.agg #[.bool m3, .slice e3 j3 d3]) :: rest)), defers := [] } V) := by
    rintro _ rfl V m1 e1 j1 d1 m2 e2 j2 d2 m3 e3 j3 d3 p HR
    have HB := hid (HR.out.2.2.2.2).1
    have HL := hid (HR.out.2.2.2.2).2
    obtain ⟨y0, y1, f0, f1⟩ := res_box HB.out (Below.refl _ _)
    have HU := hid (NB.set HB.out HR.out.2.2.2.1)
    have HBE := hid (below_put2 HR.out.1 p HL.out (.bool m3) (.slice e3 j3 d3))
    clear HR
    refine wpAnyH_ready (rs := [8]) (by kernel_rfl) (by simp) ?_
    refine AllReadyH.cons (o := { dst := none, op := Op.store 59 (Operand.tmp 14) (Operand.tmp 65), type := 0, pos := "ref.go:70", after := #[{ on := 7, ground := Ground.data }, { on := 6, ground := Ground.data }, { on := 6, ground := Ground.chain }, { on := 0, ground := Ground.phase }, { on := 1, ground := Ground.phase }, { on := 2, ground := Ground.phase }, { on := 3, ground := Ground.phase }, { on := 4, ground := Ground.phase }, { on := 5, ground := Ground.phase }, { on := 6, ground := Ground.phase }, { on := 7, ground := Ground.phase }], guard := none }) rfl (fun K hK => ?_) AllReadyH.nil
    go_simp
    refine hK.out _ _ ?_ (fun hHeld => ?_)
    · exact HBE.out
    clear hK K
    try simp only [List.setIfInBounds_toArray, List.set_cons_zero, List.set_cons_succ]
    refine wpAnyH_done (by kernel_rfl) ?_ _
    refine NoPanic.normal ?_
    exact HQ.out p _ _ _ _ _ _ _ _ (hid ⟨HU.out, HL.out, HBE.out⟩)
  have F_2_5_6 : Hid (∀ listed, listed = #[true, true, true, true, true, true, true, false, false] → ∀ (V : World) (m1 : Bool) (e1 : Option Addr) (j1 : Nat) (d1 : Nat) (m2 : Bool) (e2 : Option Addr) (j2 : Nat) (d2 : Nat) (m3 : Bool) (e3 : Option Addr) (j3 : Nat) (d3 : Nat), Hid ((Below X.heap.size X V) ∧ (DW V m1 e1 j1 d1 (z10 * z7)) ∧ (DW V m2 e2 j2 d2 (z11 * z8)) ∧ (DW V m3 e3 j3 d3 (z10 * z7 - z11 * z8))) → wpAnyH Tryz.prog .any pw_region15_ops (NoPanic Q) (fun V : World => Below X.heap.size X V) 2 listed { tmps := (List.toArray (t0 :: t1 :: t2 :: t3 :: t4 :: t5 :: t6 :: (.pointer (some ⟨b7, 0, none⟩)) :: (.pointer (some ⟨b8, 0, none⟩)) :: t9 :: (.pointer (some ⟨b10, 0, none⟩)) :: (.pointer (some ⟨b11, 0, none⟩)) :: t12 :: t13 :: t14 :: t15 :: t16 :: t17 :: t18 :: t19 :: t20 :: t21 :: t22 :: t23 :: t24 :: t25 :: t26 :: t27 :: t28 :: t29 :: t30 :: t31 :: t32 :: t33 :: t34 :: t35 :: t36 :: t37 :: t38 :: t39 :: t40 :: t41 :: t42 :: t43 :: t44 :: t45 :: t46 :: t47 :: t48 :: t49 :: t50 :: t51 :: t52 :: t53 :: t54 :: t55 :: t56 :: t57 :: t58 :: (.agg #[.bool n10, .slice a10 k10 c10]) :: (.agg #[.bool n7, .slice a7 k7 c7]) :: (.agg #[.bool m1, .slice e1 j1 d1]) :: (.agg #[.bool n11, .slice a11 k11 c11]) :: (.agg #[.bool n8, .slice a8 k8 c8]) :: (.agg #[.bool m2, .slice e2 j2 d2]) :: (.agg #[.bool m3, .slice e3 j3 d3]) :: rest)), defers := [] } V) := by
    rintro _ rfl V m1 e1 j1 d1 m2 e2 j2 d2 m3 e3 j3 d3 HR
    refine wpAnyH_ready (rs := [7]) (by kernel_rfl) (by simp) ?_
    refine AllReadyH.cons (o := { dst := some 14, op := Op.alloc 59, type := 0, pos := "ref.go:70", after := #[], guard := none }) rfl (fun K hK => ?_) ?_
    · go_simp
      have hb := alloc_later V (.cells #[.bool false, .slice none 0 0] 59)
      have new := And.intro (Box.made V 59 #[.bool false, .slice none 0 0]) (HR.out.1).size
      have HB2 := hid (bt HR.out.1 hb)
      refine hK.out _ _ ?_ (fun hHeld => ?_)
      · exact HB2.out
      clear hK K
      try simp only [List.setIfInBounds_toArray, List.set_cons_zero, List.set_cons_succ]
      exact F_2_5_6_7.out _ (by kernel_rfl) _ m1 e1 j1 d1 m2 e2 j2 d2 m3 e3 j3 d3 V.heap.size (hid ⟨HB2.out, (HR.out.2.1).later hb, (HR.out.2.2.1).later hb, (HR.out.2.2.2).later hb, new⟩)
    exact AllReadyH.nil
  have F_2_5_7 : Hid (∀ listed, listed = #[true, true, true, true, true, true, false, true, false] → ∀ (V : World) (m1 : Bool) (e1 : Option Addr) (j1 : Nat) (d1 : Nat) (m2 : Bool) (e2 : Option Addr) (j2 : Nat) (d2 : Nat) (p : Nat), Hid ((Below X.heap.size X V) ∧ (DW V m1 e1 j1 d1 (z10 * z7)) ∧ (DW V m2 e2 j2 d2 (z11 * z8)) ∧ (Box V p 59 #[.bool false, .slice none 0 0] ∧ X.heap.size ≤ p)) → wpAnyH Tryz.prog .any pw_region15_ops (NoPanic Q) (fun V : World => Below X.heap.size X V) 2 listed { tmps := (List.toArray (t0 :: t1 :: t2 :: t3 :: t4 :: t5 :: t6 :: (.pointer (some ⟨b7, 0, none⟩)) :: (.pointer (some ⟨b8, 0, none⟩)) :: t9 :: (.pointer (some ⟨b10, 0, none⟩)) :: (.pointer (some ⟨b11, 0, none⟩)) :: t12 :: t13 :: (.pointer (some ⟨p, 0, none⟩)) :: t15 :: t16 :: t17 :: t18 :: t19 :: t20 :: t21 :: t22 :: t23 :: t24 :: t25 :: t26 :: t27 :: t28 :: t29 :: t30 :: t31 :: t32 :: t33 :: t34 :: t35 :: t36 :: t37 :: t38 :: t39 :: t40 :: t41 :: t42 :: t43 :: t44 :: t45 :: t46 :: t47 :: t48 :: t49 :: t50 :: t51 :: t52 :: t53 :: t54 :: t55 :: t56 :: t57 :: t58 :: (.agg #[.bool n10, .slice a10 k10 c10]) :: (.agg #[.bool n7, .slice a7 k7 c7]) :: (.agg #[.bool m1, .slice e1 j1 d1]) :: (.agg #[.bool n11, .slice a11 k11 c11]) :: (.agg #[.bool n8, .slice a8 k8 c8]) :: (.agg #[.bool m2, .slice e2 j2 d2]) :: t65 :: rest)), defers := [] } V) := by
    rintro _ rfl V m1 e1 j1 d1 m2 e2 j2 d2 p HR
    refine wpAnyH_ready (rs := [6]) (by kernel_rfl) (by simp) ?_
    refine AllReadyH.cons (o := { dst := some 65, op := Op.call { callee := Callee.value (Operand.func 33), args := #[Operand.tmp 61, Operand.tmp 64], argTypes := #[59, 59] }, type := 59, pos := "ref.go:70", after := #[{ on := 2, ground := Ground.data }, { on := 5, ground := Ground.data }, { on := 5, ground := Ground.chain }], guard := none }) rfl (fun K hK => ?_) ?_
    · go_simp
      refine Calls.mono (dLess HR.out.2.1 HR.out.2.2.1 (Nat.le_trans ((HR.out.2.1).len M1.out) (by omega)) (Nat.le_trans ((HR.out.2.2.1).len M2.out) (by omega))) ?_
      rintro e V' ⟨m3, e3, j3, d3, rfl, new, hb⟩
      dsimp only
      have HB2 := hid (bt HR.out.1 hb)
      refine hK.out _ _ ?_ (fun hHeld => ?_)
      · exact HB2.out
      clear hK K
      try simp only [List.setIfInBounds_toArray, List.set_cons_zero, List.set_cons_succ]
      exact F_2_5_6_7.out _ (by kernel_rfl) _ m1 e1 j1 d1 m2 e2 j2 d2 m3 e3 j3 d3 p (hid ⟨HB2.out, (HR.out.2.1).later hb, (HR.out.2.2.1).later hb, new, ⟨(HR.out.2.2.2).1.later hb (HR.out.2.2.2).1.lt, (HR.out.2.2.2).2⟩⟩)
    exact AllReadyH.nil
  have F_2_5 : Hid (∀ listed, listed = #[true, true, true, true, true, true, false, false, false] → ∀ (V : World) (m1 : Bool) (e1 : Option Addr) (j1 : Nat) (d1 : Nat) (m2 : Bool) (e2 : Option Addr) (j2 : Nat) (d2 : Nat), Hid ((Below X.heap.size X V) ∧ (DW V m1 e1 j1 d1 (z10 * z7)) ∧ (DW V m2 e2 j2 d2 (z11 * z8))) → wpAnyH Tryz.prog .any pw_region15_ops (NoPanic Q) (fun V : World => Below X.heap.size X V) 3 listed { tmps := (List.toArray (t0 :: t1 :: t2 :: t3 :: t4 :: t5 :: t6 :: (.pointer (some ⟨b7, 0, none⟩)) :: (.pointer (some ⟨b8, 0, none⟩)) :: t9 :: (.pointer (some ⟨b10, 0, none⟩)) :: (.pointer (some ⟨b11, 0, none⟩)) :: t12 :: t13 :: t14 :: t15 :: t16 :: t17 :: t18 :: t19 :: t20 :: t21 :: t22 :: t23 :: t24 :: t25 :: t26 :: t27 :: t28 :: t29 :: t30 :: t31 :: t32 :: t33 :: t34 :: t35 :: t36 :: t37 :: t38 :: t39 :: t40 :: t41 :: t42 :: t43 :: t44 :: t45 :: t46 :: t47 :: t48 :: t49 :: t50 :: t51 :: t52 :: t53 :: t54 :: t55 :: t56 :: t57 :: t58 :: (.agg #[.bool n10, .slice a10 k10 c10]) :: (.agg #[.bool n7, .slice a7 k7 c7]) :: (.agg #[.bool m1, .slice e1 j1 d1]) :: (.agg #[.bool n11, .slice a11 k11 c11]) :: (.agg #[.bool n8, .slice a8 k8 c8]) :: (.agg #[.bool m2, .slice e2 j2 d2]) :: t65 :: rest)), defers := [] } V) := by
    rintro _ rfl V m1 e1 j1 d1 m2 e2 j2 d2 HR
    refine wpAnyH_ready (rs := [6, 7]) (by kernel_rfl) (by simp) ?_
    refine AllReadyH.cons (o := { dst := some 65, op := Op.call { callee := Callee.value (Operand.func 33), args := #[Operand.tmp 61, Operand.tmp 64], argTypes := #[59, 59] }, type := 59, pos := "ref.go:70", after := #[{ on := 2, ground := Ground.data }, { on := 5, ground := Ground.data }, { on := 5, ground := Ground.chain }], guard := none }) rfl (fun K hK => ?_) ?_
    · go_simp
      refine Calls.mono (dLess HR.out.2.1 HR.out.2.2 (Nat.le_trans ((HR.out.2.1).len M1.out) (by omega)) (Nat.le_trans ((HR.out.2.2).len M2.out) (by omega))) ?_
      rintro e V' ⟨m3, e3, j3, d3, rfl, new, hb⟩
      dsimp only
      have HB2 := hid (bt HR.out.1 hb)
      refine hK.out _ _ ?_ (fun hHeld => ?_)
      · exact HB2.out
      clear hK K
      try simp only [List.setIfInBounds_toArray, List.set_cons_zero, List.set_cons_succ]
      exact F_2_5_6.out _ (by kernel_rfl) _ m1 e1 j1 d1 m2 e2 j2 d2 m3 e3 j3 d3 (hid ⟨HB2.out, (HR.out.2.1).later hb, (HR.out.2.2).later hb, new⟩)
    refine AllReadyH.cons (o := { dst := some 14, op := Op.alloc 59, type := 0, pos := "ref.go:70", after := #[], guard := none }) rfl (fun K hK => ?_) ?_
    · go_simp
      have hb := alloc_later V (.cells #[.bool false, .slice none 0 0] 59)
      have new := And.intro (Box.made V 59 #[.bool false, .slice none 0 0]) (HR.out.1).size
      have HB2 := hid (bt HR.out.1 hb)
      refine hK.out _ _ ?_ (fun hHeld => ?_)
      · exact HB2.out
      clear hK K
      try simp only [List.setIfInBounds_toArray, List.set_cons_zero, List.set_cons_succ]
      exact F_2_5_7.out _ (by kernel_rfl) _ m1 e1 j1 d1 m2 e2 j2 d2 V.heap.size (hid ⟨HB2.out, (HR.out.2.1).later hb, (HR.out.2.2).later hb, new⟩)
    exact AllReadyH.nil
  have F_2_7 : Hid (∀ listed, listed = #[true, true, true, true, true, false, false, true, false] → ∀ (V : World) (m1 : Bool) (e1 : Option Addr) (j1 : Nat) (d1 : Nat) (p : Nat), Hid ((Below X.heap.size X V) ∧ (DW V m1 e1 j1 d1 (z10 * z7)) ∧ (Box V p 59 #[.bool false, .slice none 0 0] ∧ X.heap.size ≤ p)) → wpAnyH Tryz.prog .any pw_region15_ops (NoPanic Q) (fun V : World => Below X.heap.size X V) 3 listed { tmps := (List.toArray (t0 :: t1 :: t2 :: t3 :: t4 :: t5 :: t6 :: (.pointer (some ⟨b7, 0, none⟩)) :: (.pointer (some ⟨b8, 0, none⟩)) :: t9 :: (.pointer (some ⟨b10, 0, none⟩)) :: (.pointer (some ⟨b11, 0, none⟩)) :: t12 :: t13 :: (.pointer (some ⟨p, 0, none⟩)) :: t15 :: t16 :: t17 :: t18 :: t19 :: t20 :: t21 :: t22 :: t23 :: t24 :: t25 :: t26 :: t27 :: t28 :: t29 :: t30 :: t31 :: t32 :: t33 :: t34 :: t35 :: t36 :: t37 :: t38 :: t39 :: t40 :: t41 :: t42 :: t43 :: t44 :: t45 :: t46 :: t47 :: t48 :: t49 :: t50 :: t51 :: t52 :: t53 :: t54 :: t55 :: t56 :: t57 :: t58 :: (.agg #[.bool n10, .slice a10 k10 c10]) :: (.agg #[.bool n7, .slice a7 k7 c7]) :: (.agg #[.bool m1, .slice e1 j1 d1]) :: (.agg #[.bool n11, .slice a11 k11 c11]) :: (.agg #[.bool n8, .slice a8 k8 c8]) :: t64 :: t65 :: rest)), defers := [] } V) := by
    rintro _ rfl V m1 e1 j1 d1 p HR
    refine wpAnyH_ready (rs := [5]) (by kernel_rfl) (by simp) ?_
    refine AllReadyH.cons (o := { dst := some 64, op := Op.call { callee := Callee.value (Operand.func 32), args := #[Operand.tmp 62, Operand.tmp 63], argTypes := #[59, 59] }, type := 59, pos := "ref.go:70", after := #[{ on := 3, ground := Ground.data }, { on := 4, ground := Ground.data }, { on := 2, ground := Ground.chain }], guard := none }) rfl (fun K hK => ?_) ?_
    · go_simp
      refine Calls.mono (dProduct (HD11.out.later HR.out.1) (HD8.out.later HR.out.1) L11.out L8.out) ?_
      rintro e V' ⟨m2, e2, j2, d2, rfl, new, hb⟩
      dsimp only
      have HB2 := hid (bt HR.out.1 hb)
      refine hK.out _ _ ?_ (fun hHeld => ?_)
      · exact HB2.out
      clear hK K
      try simp only [List.setIfInBounds_toArray, List.set_cons_zero, List.set_cons_succ]
      exact F_2_5_7.out _ (by kernel_rfl) _ m1 e1 j1 d1 m2 e2 j2 d2 p (hid ⟨HB2.out, (HR.out.2.1).later hb, new, ⟨(HR.out.2.2).1.later hb (HR.out.2.2).1.lt, (HR.out.2.2).2⟩⟩)
    exact AllReadyH.nil
  have F_2 : Hid (∀ listed, listed = #[true, true, true, true, true, false, false, false, false] → ∀ (V : World) (m1 : Bool) (e1 : Option Addr) (j1 : Nat) (d1 : Nat), Hid ((Below X.heap.size X V) ∧ (DW V m1 e1 j1 d1 (z10 * z7))) → wpAnyH Tryz.prog .any pw_region15_ops (NoPanic Q) (fun V : World => Below X.heap.size X V) 4 listed { tmps := (List.toArray (t0 :: t1 :: t2 :: t3 :: t4 :: t5 :: t6 :: (.pointer (some ⟨b7, 0, none⟩)) :: (.pointer (some ⟨b8, 0, none⟩)) :: t9 :: (.pointer (some ⟨b10, 0, none⟩)) :: (.pointer (some ⟨b11, 0, none⟩)) :: t12 :: t13 :: t14 :: t15 :: t16 :: t17 :: t18 :: t19 :: t20 :: t21 :: t22 :: t23 :: t24 :: t25 :: t26 :: t27 :: t28 :: t29 :: t30 :: t31 :: t32 :: t33 :: t34 :: t35 :: t36 :: t37 :: t38 :: t39 :: t40 :: t41 :: t42 :: t43 :: t44 :: t45 :: t46 :: t47 :: t48 :: t49 :: t50 :: t51 :: t52 :: t53 :: t54 :: t55 :: t56 :: t57 :: t58 :: (.agg #[.bool n10, .slice a10 k10 c10]) :: (.agg #[.bool n7, .slice a7 k7 c7]) :: (.agg #[.bool m1, .slice e1 j1 d1]) :: (.agg #[.bool n11, .slice a11 k11 c11]) :: (.agg #[.bool n8, .slice a8 k8 c8]) :: t64 :: t65 :: rest)), defers := [] } V) := by
    rintro _ rfl V m1 e1 j1 d1 HR
    refine wpAnyH_ready (rs := [5, 7]) (by kernel_rfl) (by simp) ?_
    refine AllReadyH.cons (o := { dst := some 64, op := Op.call { callee := Callee.value (Operand.func 32), args := #[Operand.tmp 62, Operand.tmp 63], argTypes := #[59, 59] }, type := 59, pos := "ref.go:70", after := #[{ on := 3, ground := Ground.data }, { on := 4, ground := Ground.data }, { on := 2, ground := Ground.chain }], guard := none }) rfl (fun K hK => ?_) ?_
    · go_simp
      refine Calls.mono (dProduct (HD11.out.later HR.out.1) (HD8.out.later HR.out.1) L11.out L8.out) ?_
      rintro e V' ⟨m2, e2, j2, d2, rfl, new, hb⟩
      dsimp only
      have HB2 := hid (bt HR.out.1 hb)
      refine hK.out _ _ ?_ (fun hHeld => ?_)
      · exact HB2.out
      clear hK K
      try simp only [List.setIfInBounds_toArray, List.set_cons_zero, List.set_cons_succ]
      exact F_2_5.out _ (by kernel_rfl) _ m1 e1 j1 d1 m2 e2 j2 d2 (hid ⟨HB2.out, (HR.out.2).later hb, new⟩)
    refine AllReadyH.cons (o := { dst := some 14, op := Op.alloc 59, type := 0, pos := "ref.go:70", after := #[], guard := none }) rfl (fun K hK => ?_) ?_
    · go_simp
      have hb := alloc_later V (.cells #[.bool false, .slice none 0 0] 59)
      have new := And.intro (Box.made V 59 #[.bool false, .slice none 0 0]) (HR.out.1).size
      have HB2 := hid (bt HR.out.1 hb)
      refine hK.out _ _ ?_ (fun hHeld => ?_)
      · exact HB2.out
      clear hK K
      try simp only [List.setIfInBounds_toArray, List.set_cons_zero, List.set_cons_succ]
      exact F_2_7.out _ (by kernel_rfl) _ m1 e1 j1 d1 V.heap.size (hid ⟨HB2.out, (HR.out.2).later hb, new⟩)
    exact AllReadyH.nil
  have F_7 : Hid (∀ listed, listed = #[true, true, false, true, true, false, false, true, false] → ∀ (V : World) (p : Nat), Hid ((Below X.heap.size X V) ∧ (Box V p 59 #[.bool false, .slice none 0 0] ∧ X.heap.size ≤ p)) → wpAnyH Tryz.prog .any pw_region15_ops (NoPanic Q) (fun V : World => Below X.heap.size X V) 4 listed { tmps := (List.toArray (t0 :: t1 :: t2 :: t3 :: t4 :: t5 :: t6 :: (.pointer (some ⟨b7, 0, none⟩)) :: (.pointer (some ⟨b8, 0, none⟩)) :: t9 :: (.pointer (some ⟨b10, 0, none⟩)) :: (.pointer (some ⟨b11, 0, none⟩)) :: t12 :: t13 :: (.pointer (some ⟨p, 0, none⟩)) :: t15 :: t16 :: t17 :: t18 :: t19 :: t20 :: t21 :: t22 :: t23 :: t24 :: t25 :: t26 :: t27 :: t28 :: t29 :: t30 :: t31 :: t32 :: t33 :: t34 :: t35 :: t36 :: t37 :: t38 :: t39 :: t40 :: t41 :: t42 :: t43 :: t44 :: t45 :: t46 :: t47 :: t48 :: t49 :: t50 :: t51 :: t52 :: t53 :: t54 :: t55 :: t56 :: t57 :: t58 :: (.agg #[.bool n10, .slice a10 k10 c10]) :: (.agg #[.bool n7, .slice a7 k7 c7]) :: t61 :: (.agg #[.bool n11, .slice a11 k11 c11]) :: (.agg #[.bool n8, .slice a8 k8 c8]) :: t64 :: t65 :: rest)), defers := [] } V) := by
    rintro _ rfl V p HR
    refine wpAnyH_ready (rs := [2]) (by kernel_rfl) (by simp) ?_
    refine AllReadyH.cons (o := { dst := some 61, op := Op.call { callee := Callee.value (Operand.func 32), args := #[Operand.tmp 59, Operand.tmp 60], argTypes := #[59, 59] }, type := 59, pos := "ref.go:70", after := #[{ on := 0, ground := Ground.data }, { on := 1, ground := Ground.data }], guard := none }) rfl (fun K hK => ?_) ?_
    · go_simp
      refine Calls.mono (dProduct (HD10.out.later HR.out.1) (HD7.out.later HR.out.1) L10.out L7.out) ?_
      rintro e V' ⟨m1, e1, j1, d1, rfl, new, hb⟩
      dsimp only
      have HB2 := hid (bt HR.out.1 hb)
      refine hK.out _ _ ?_ (fun hHeld => ?_)
      · exact HB2.out
      clear hK K
      try simp only [List.setIfInBounds_toArray, List.set_cons_zero, List.set_cons_succ]
      exact F_2_7.out _ (by kernel_rfl) _ m1 e1 j1 d1 p (hid ⟨HB2.out, new, ⟨(HR.out.2).1.later hb (HR.out.2).1.lt, (HR.out.2).2⟩⟩)
    exact AllReadyH.nil
  have F : Hid (∀ listed, listed = #[true, true, false, true, true, false, false, false, false] → ∀ (V : World) , Hid ((Below X.heap.size X V)) → wpAnyH Tryz.prog .any pw_region15_ops (NoPanic Q) (fun V : World => Below X.heap.size X V) 5 listed { tmps := (List.toArray (t0 :: t1 :: t2 :: t3 :: t4 :: t5 :: t6 :: (.pointer (some ⟨b7, 0, none⟩)) :: (.pointer (some ⟨b8, 0, none⟩)) :: t9 :: (.pointer (some ⟨b10, 0, none⟩)) :: (.pointer (some ⟨b11, 0, none⟩)) :: t12 :: t13 :: t14 :: t15 :: t16 :: t17 :: t18 :: t19 :: t20 :: t21 :: t22 :: t23 :: t24 :: t25 :: t26 :: t27 :: t28 :: t29 :: t30 :: t31 :: t32 :: t33 :: t34 :: t35 :: t36 :: t37 :: t38 :: t39 :: t40 :: t41 :: t42 :: t43 :: t44 :: t45 :: t46 :: t47 :: t48 :: t49 :: t50 :: t51 :: t52 :: t53 :: t54 :: t55 :: t56 :: t57 :: t58 :: (.agg #[.bool n10, .slice a10 k10 c10]) :: (.agg #[.bool n7, .slice a7 k7 c7]) :: t61 :: (.agg #[.bool n11, .slice a11 k11 c11]) :: (.agg #[.bool n8, .slice a8 k8 c8]) :: t64 :: t65 :: rest)), defers := [] } V) := by
    rintro _ rfl V  HR
    refine wpAnyH_ready (rs := [2, 7]) (by kernel_rfl) (by simp) ?_
    refine AllReadyH.cons (o := { dst := some 61, op := Op.call { callee := Callee.value (Operand.func 32), args := #[Operand.tmp 59, Operand.tmp 60], argTypes := #[59, 59] }, type := 59, pos := "ref.go:70", after := #[{ on := 0, ground := Ground.data }, { on := 1, ground := Ground.data }], guard := none }) rfl (fun K hK => ?_) ?_
    · go_simp
      refine Calls.mono (dProduct (HD10.out.later HR.out) (HD7.out.later HR.out) L10.out L7.out) ?_
      rintro e V' ⟨m1, e1, j1, d1, rfl, new, hb⟩
      dsimp only
      have HB2 := hid (bt HR.out hb)
      refine hK.out _ _ ?_ (fun hHeld => ?_)
      · exact HB2.out
      clear hK K
      try simp only [List.setIfInBounds_toArray, List.set_cons_zero, List.set_cons_succ]
      exact F_2.out _ (by kernel_rfl) _ m1 e1 j1 d1 (hid ⟨HB2.out, new⟩)
    refine AllReadyH.cons (o := { dst := some 14, op := Op.alloc 59, type := 0, pos := "ref.go:70", after := #[], guard := none }) rfl (fun K hK => ?_) ?_
    · go_simp
      have hb := alloc_later V (.cells #[.bool false, .slice none 0 0] 59)
      have new := And.intro (Box.made V 59 #[.bool false, .slice none 0 0]) (HR.out).size
      have HB2 := hid (bt HR.out hb)
      refine hK.out _ _ ?_ (fun hHeld => ?_)
      · exact HB2.out
      clear hK K
      try simp only [List.setIfInBounds_toArray, List.set_cons_zero, List.set_cons_succ]
      exact F_7.out _ (by kernel_rfl) _ V.heap.size (hid ⟨HB2.out, new⟩)
    exact AllReadyH.nil
  refine wp_region_noPanic ?_
  refine wp_region_held_drew (S := (fun V : World => Below X.heap.size X V)) (by kernel_rfl) ?_ (fun hHeld => ?_)
  · exact (Below.drew (Below.refl _ X))
  refine wpAnyH_take (i := 0) (oi := { dst := some 59, op := Op.load 59 (Operand.tmp 10), type := 59, pos := "ref.go:70", after := #[], guard := none }) (v := ?_) rfl (by kernel_rfl) (by kernel_rfl) (by kernel_rfl) (fun _ _ _ h => h) (Or.inl ⟨by rfl, ?_⟩) (by assumption) ?_
  rotate_left 1
  · intro V hSw
    obtain ⟨p7, q7, p8, q8, p10, q10, p11, q11⟩ := HK.out V hSw
    clear hSw
    go_simp
    try with_reducible rfl
  try simp only [Act.put, List.setIfInBounds_toArray, List.set_cons_zero, List.set_cons_succ]
  refine wpAnyH_take (i := 1) (oi := { dst := some 60, op := Op.load 59 (Operand.tmp 7), type := 59, pos := "ref.go:70", after := #[], guard := none }) (v := ?_) rfl (by kernel_rfl) (by kernel_rfl) (by kernel_rfl) (fun _ _ _ h => h) (Or.inl ⟨by rfl, ?_⟩) (by assumption) ?_
  rotate_left 1
  · intro V hSw
    obtain ⟨p7, q7, p8, q8, p10, q10, p11, q11⟩ := HK.out V hSw
    clear hSw
    go_simp
    try with_reducible rfl
  try simp only [Act.put, List.setIfInBounds_toArray, List.set_cons_zero, List.set_cons_succ]
  refine wpAnyH_take (i := 3) (oi := { dst := some 62, op := Op.load 59 (Operand.tmp 11), type := 59, pos := "ref.go:70", after := #[], guard := none }) (v := ?_) rfl (by kernel_rfl) (by kernel_rfl) (by kernel_rfl) (fun _ _ _ h => h) (Or.inl ⟨by rfl, ?_⟩) (by assumption) ?_
  rotate_left 1
  · intro V hSw
    obtain ⟨p7, q7, p8, q8, p10, q10, p11, q11⟩ := HK.out V hSw
    clear hSw
    go_simp
    try with_reducible rfl
  try simp only [Act.put, List.setIfInBounds_toArray, List.set_cons_zero, List.set_cons_succ]
  refine wpAnyH_take (i := 4) (oi := { dst := some 63, op := Op.load 59 (Operand.tmp 8), type := 59, pos := "ref.go:70", after := #[], guard := none }) (v := ?_) rfl (by kernel_rfl) (by kernel_rfl) (by kernel_rfl) (fun _ _ _ h => h) (Or.inl ⟨by rfl, ?_⟩) (by assumption) ?_
  rotate_left 1
  · intro V hSw
    obtain ⟨p7, q7, p8, q8, p10, q10, p11, q11⟩ := HK.out V hSw
    clear hSw
    go_simp
    try with_reducible rfl
  try simp only [Act.put, List.setIfInBounds_toArray, List.set_cons_zero, List.set_cons_succ]
  exact F.out _ (by kernel_rfl) _ (hid (Below.drew (Below.refl _ X)))
/-- The operations of the statement. -/
def pw_region16_ops : Array Oper := #[{ dst := some 66, op := Op.load 59 (Operand.tmp 10), type := 59, pos := "ref.go:71", after := #[], guard := none }, { dst := some 67, op := Op.load 59 (Operand.tmp 8), type := 59, pos := "ref.go:71", after := #[], guard := none }, { dst := some 68, op := Op.call { callee := Callee.value (Operand.func 32), args := #[Operand.tmp 66, Operand.tmp 67], argTypes := #[59, 59] }, type := 59, pos := "ref.go:71", after := #[{ on := 0, ground := Ground.data }, { on := 1, ground := Ground.data }], guard := none }, { dst := some 69, op := Op.load 59 (Operand.tmp 11), type := 59, pos := "ref.go:71", after := #[], guard := none }, { dst := some 70, op := Op.load 59 (Operand.tmp 7), type := 59, pos := "ref.go:71", after := #[], guard := none }, { dst := some 71, op := Op.call { callee := Callee.value (Operand.func 32), args := #[Operand.tmp 69, Operand.tmp 70], argTypes := #[59, 59] }, type := 59, pos := "ref.go:71", after := #[{ on := 3, ground := Ground.data }, { on := 4, ground := Ground.data }, { on := 2, ground := Ground.chain }], guard := none }, { dst := some 72, op := Op.call { callee := Callee.value (Operand.func 31), args := #[Operand.tmp 68, Operand.tmp 71], argTypes := #[59, 59] }, type := 59, pos := "ref.go:71", after := #[{ on := 2, ground := Ground.data }, { on := 5, ground := Ground.data }, { on := 5, ground := Ground.chain }], guard := none }, { dst := some 15, op := Op.alloc 59, type := 0, pos := "ref.go:71", after := #[], guard := none }, { dst := none, op := Op.store 59 (Operand.tmp 15) (Operand.tmp 72), type := 0, pos := "ref.go:71", after := #[{ on := 7, ground := Ground.data }, { on := 6, ground := Ground.data }, { on := 6, ground := Ground.chain }, { on := 0, ground := Ground.phase }, { on := 1, ground := Ground.phase }, { on := 2, ground := Ground.phase }, { on := 3, ground := Ground.phase }, { on := 4, ground := Ground.phase }, { on := 5, ground := Ground.phase }, { on := 6, ground := Ground.phase }, { on := 7, ground := Ground.phase }], guard := none }]
set_option maxHeartbeats 6400000 in
set_option maxRecDepth 100000 in
theorem pw_region16 (X : World) (b7 : Nat) (n7 : Bool) (a7 : Option Addr) (k7 c7 : Nat) (z7 : Int) (HB7 : Hid (Box X b7 59 #[.bool n7, .slice a7 k7 c7])) (HD7 : Hid (DW X n7 a7 k7 c7 z7)) (L7 : Hid (k7 ≤ 100000)) (b8 : Nat) (n8 : Bool) (a8 : Option Addr) (k8 c8 : Nat) (z8 : Int) (HB8 : Hid (Box X b8 59 #[.bool n8, .slice a8 k8 c8])) (HD8 : Hid (DW X n8 a8 k8 c8 z8)) (L8 : Hid (k8 ≤ 100000)) (b10 : Nat) (n10 : Bool) (a10 : Option Addr) (k10 c10 : Nat) (z10 : Int) (HB10 : Hid (Box X b10 59 #[.bool n10, .slice a10 k10 c10])) (HD10 : Hid (DW X n10 a10 k10 c10 z10)) (L10 : Hid (k10 ≤ 100000)) (b11 : Nat) (n11 : Bool) (a11 : Option Addr) (k11 c11 : Nat) (z11 : Int) (HB11 : Hid (Box X b11 59 #[.bool n11, .slice a11 k11 c11])) (HD11 : Hid (DW X n11 a11 k11 c11 z11)) (L11 : Hid (k11 ≤ 100000)) (M1 : Hid ((z10 * z8).natAbs < dlim 3000)) (M2 : Hid ((z11 * z7).natAbs < dlim 3000)) (t0 t1 t2 t3 t4 t5 t6 t9 t12 t13 t14 t15 t16 t17 t18 t19 t20 t21 t22 t23 t24 t25 t26 t27 t28 t29 t30 t31 t32 t33 t34 t35 t36 t37 t38 t39 t40 t41 t42 t43 t44 t45 t46 t47 t48 t49 t50 t51 t52 t53 t54 t55 t56 t57 t58 t59 t60 t61 t62 t63 t64 t65 t66 t67 t68 t69 t70 t71 t72 : Value) (rest : List Value) (Q : Exit → Act → World → Prop)
    (hQ : ∀ (p : Nat) (u66 : Value) (u67 : Value) (u68 : Value) (u69 : Value) (u70 : Value) (u71 : Value) (u72 : Value) (F : World), Hid (NB F p (z10 * z8 + z11 * z7) ∧ X.heap.size ≤ p ∧ Below X.heap.size X F) → Q .normal { tmps := (List.toArray (t0 :: t1 :: t2 :: t3 :: t4 :: t5 :: t6 :: (.pointer (some ⟨b7, 0, none⟩)) :: (.pointer (some ⟨b8, 0, none⟩)) :: t9 :: (.pointer (some ⟨b10, 0, none⟩)) :: (.pointer (some ⟨b11, 0, none⟩)) :: t12 :: t13 :: t14 :: (.pointer (some ⟨p, 0, none⟩)) :: t16 :: t17 :: t18 :: t19 :: t20 :: t21 :: t22 :: t23 :: t24 :: t25 :: t26 :: t27 :: t28 :: t29 :: t30 :: t31 :: t32 :: t33 :: t34 :: t35 :: t36 :: t37 :: t38 :: t39 :: t40 :: t41 :: t42 :: t43 :: t44 :: t45 :: t46 :: t47 :: t48 :: t49 :: t50 :: t51 :: t52 :: t53 :: t54 :: t55 :: t56 :: t57 :: t58 :: t59 :: t60 :: t61 :: t62 :: t63 :: t64 :: t65 :: u66 :: u67 :: u68 :: u69 :: u70 :: u71 :: u72 :: rest)), defers := [] } F) :
    Code.wp Tryz.prog (Code.region 16 pw_region16_ops true) Q { tmps := (List.toArray (t0 :: t1 :: t2 :: t3 :: t4 :: t5 :: t6 :: (.pointer (some ⟨b7, 0, none⟩)) :: (.pointer (some ⟨b8, 0, none⟩)) :: t9 :: (.pointer (some ⟨b10, 0, none⟩)) :: (.pointer (some ⟨b11, 0, none⟩)) :: t12 :: t13 :: t14 :: t15 :: t16 :: t17 :: t18 :: t19 :: t20 :: t21 :: t22 :: t23 :: t24 :: t25 :: t26 :: t27 :: t28 :: t29 :: t30 :: t31 :: t32 :: t33 :: t34 :: t35 :: t36 :: t37 :: t38 :: t39 :: t40 :: t41 :: t42 :: t43 :: t44 :: t45 :: t46 :: t47 :: t48 :: t49 :: t50 :: t51 :: t52 :: t53 :: t54 :: t55 :: t56 :: t57 :: t58 :: t59 :: t60 :: t61 :: t62 :: t63 :: t64 :: t65 :: t66 :: t67 :: t68 :: t69 :: t70 :: t71 :: t72 :: rest)), defers := [] } X := by
  have HQ := hid hQ
  clear hQ
  have HK : Hid (∀ V, Below X.heap.size X V → V.cell? ⟨b7, 0, none⟩ = some (.bool n7) ∧ V.cell? ⟨b7, 1, none⟩ = some (.slice a7 k7 c7) ∧ V.cell? ⟨b8, 0, none⟩ = some (.bool n8) ∧ V.cell? ⟨b8, 1, none⟩ = some (.slice a8 k8 c8) ∧ V.cell? ⟨b10, 0, none⟩ = some (.bool n10) ∧ V.cell? ⟨b10, 1, none⟩ = some (.slice a10 k10 c10) ∧ V.cell? ⟨b11, 0, none⟩ = some (.bool n11) ∧ V.cell? ⟨b11, 1, none⟩ = some (.slice a11 k11 c11)) := fun V hb => by
    obtain ⟨p7, q7, _, _⟩ := res_box HB7.out hb
    obtain ⟨p8, q8, _, _⟩ := res_box HB8.out hb
    obtain ⟨p10, q10, _, _⟩ := res_box HB10.out hb
    obtain ⟨p11, q11, _, _⟩ := res_box HB11.out hb
    exact ⟨p7, q7, p8, q8, p10, q10, p11, q11⟩
  have F_2_5_6_7 : Hid (∀ listed, listed = #[true, true, true, true, true, true, true, true, false] → ∀ (V : World) (m1 : Bool) (e1 : Option Addr) (j1 : Nat) (d1 : Nat) (m2 : Bool) (e2 : Option Addr) (j2 : Nat) (d2 : Nat) (m3 : Bool) (e3 : Option Addr) (j3 : Nat) (d3 : Nat) (p : Nat), Hid ((Below X.heap.size X V) ∧ (DW V m1 e1 j1 d1 (z10 * z8)) ∧ (DW V m2 e2 j2 d2 (z11 * z7)) ∧ (DW V m3 e3 j3 d3 (z10 * z8 + z11 * z7)) ∧ (Box V p 59 #[.bool false, .slice none 0 0] ∧ X.heap.size ≤ p)) → wpAnyH Tryz.prog .any pw_region16_ops (NoPanic Q) (fun V : World => Below X.heap.size X V) 1 listed { tmps := (List.toArray (t0 :: t1 :: t2 :: t3 :: t4 :: t5 :: t6 :: (.pointer (some ⟨b7, 0, none⟩)) :: (.pointer (some ⟨b8, 0, none⟩)) :: t9 :: (.pointer (some ⟨b10, 0, none⟩)) :: (.pointer (some ⟨b11, 0, none⟩)) :: t12 :: t13 :: t14 :: (.pointer (some ⟨p, 0, none⟩)) :: t16 :: t17 :: t18 :: t19 :: t20 :: t21 :: t22 :: t23 :: t24 :: t25 :: t26 :: t27 :: t28 :: t29 :: t30 :: t31 :: t32 :: t33 :: t34 :: t35 :: t36 :: t37 :: t38 :: t39 :: t40 :: t41 :: t42 :: t43 :: t44 :: t45 :: t46 :: t47 :: t48 :: t49 :: t50 :: t51 :: t52 :: t53 :: t54 :: t55 :: t56 :: t57 :: t58 :: t59 :: t60 :: t61 :: t62 :: t63 :: t64 :: t65 :: (.agg #[.bool n10, .slice a10 k10 c10]) :: (.agg #[.bool n8, .slice a8 k8 c8]) :: (.agg #[.bool m1, .slice e1 j1 d1]) :: (.agg #[.bool n11, .slice a11 k11 c11]) :: (.agg #[.bool n7, .slice a7 k7 c7]) :: (.agg #[.bool m2, .slice e2 j2 d2]) :: (.agg #[.bool m3, .slice e3 j3 d3]) :: rest)), defers := [] } V) := by
    rintro _ rfl V m1 e1 j1 d1 m2 e2 j2 d2 m3 e3 j3 d3 p HR
    have HB := hid (HR.out.2.2.2.2).1
    have HL := hid (HR.out.2.2.2.2).2
    obtain ⟨y0, y1, f0, f1⟩ := res_box HB.out (Below.refl _ _)
    have HU := hid (NB.set HB.out HR.out.2.2.2.1)
    have HBE := hid (below_put2 HR.out.1 p HL.out (.bool m3) (.slice e3 j3 d3))
    clear HR
    refine wpAnyH_ready (rs := [8]) (by kernel_rfl) (by simp) ?_
    refine AllReadyH.cons (o := { dst := none, op := Op.store 59 (Operand.tmp 15) (Operand.tmp 72), type := 0, pos := "ref.go:71", after := #[{ on := 7, ground := Ground.data }, { on := 6, ground := Ground.data }, { on := 6, ground := Ground.chain }, { on := 0, ground := Ground.phase }, { on := 1, ground := Ground.phase }, { on := 2, ground := Ground.phase }, { on := 3, ground := Ground.phase }, { on := 4, ground := Ground.phase }, { on := 5, ground := Ground.phase }, { on := 6, ground := Ground.phase }, { on := 7, ground := Ground.phase }], guard := none }) rfl (fun K hK => ?_) AllReadyH.nil
    go_simp
    refine hK.out _ _ ?_ (fun hHeld => ?_)
    · exact HBE.out
    clear hK K
    try simp only [List.setIfInBounds_toArray, List.set_cons_zero, List.set_cons_succ]
    refine wpAnyH_done (by kernel_rfl) ?_ _
    refine NoPanic.normal ?_
    exact HQ.out p _ _ _ _ _ _ _ _ (hid ⟨HU.out, HL.out, HBE.out⟩)
  have F_2_5_6 : Hid (∀ listed, listed = #[true, true, true, true, true, true, true, false, false] → ∀ (V : World) (m1 : Bool) (e1 : Option Addr) (j1 : Nat) (d1 : Nat) (m2 : Bool) (e2 : Option Addr) (j2 : Nat) (d2 : Nat) (m3 : Bool) (e3 : Option Addr) (j3 : Nat) (d3 : Nat), Hid ((Below X.heap.size X V) ∧ (DW V m1 e1 j1 d1 (z10 * z8)) ∧ (DW V m2 e2 j2 d2 (z11 * z7)) ∧ (DW V m3 e3 j3 d3 (z10 * z8 + z11 * z7))) → wpAnyH Tryz.prog .any pw_region16_ops (NoPanic Q) (fun V : World => Below X.heap.size X V) 2 listed { tmps := (List.toArray (t0 :: t1 :: t2 :: t3 :: t4 :: t5 :: t6 :: (.pointer (some ⟨b7, 0, none⟩)) :: (.pointer (some ⟨b8, 0, none⟩)) :: t9 :: (.pointer (some ⟨b10, 0, none⟩)) :: (.pointer (some ⟨b11, 0, none⟩)) :: t12 :: t13 :: t14 :: t15 :: t16 :: t17 :: t18 :: t19 :: t20 :: t21 :: t22 :: t23 :: t24 :: t25 :: t26 :: t27 :: t28 :: t29 :: t30 :: t31 :: t32 :: t33 :: t34 :: t35 :: t36 :: t37 :: t38 :: t39 :: t40 :: t41 :: t42 :: t43 :: t44 :: t45 :: t46 :: t47 :: t48 :: t49 :: t50 :: t51 :: t52 :: t53 :: t54 :: t55 :: t56 :: t57 :: t58 :: t59 :: t60 :: t61 :: t62 :: t63 :: t64 :: t65 :: (.agg #[.bool n10, .slice a10 k10 c10]) :: (.agg #[.bool n8, .slice a8 k8 c8]) :: (.agg #[.bool m1, .slice e1 j1 d1]) :: (.agg #[.bool n11, .slice a11 k11 c11]) :: (.agg #[.bool n7, .slice a7 k7 c7]) :: (.agg #[.bool m2, .slice e2 j2 d2]) :: (.agg #[.bool m3, .slice e3 j3 d3]) :: rest)), defers := [] } V) := by
    rintro _ rfl V m1 e1 j1 d1 m2 e2 j2 d2 m3 e3 j3 d3 HR
    refine wpAnyH_ready (rs := [7]) (by kernel_rfl) (by simp) ?_
    refine AllReadyH.cons (o := { dst := some 15, op := Op.alloc 59, type := 0, pos := "ref.go:71", after := #[], guard := none }) rfl (fun K hK => ?_) ?_
    · go_simp
      have hb := alloc_later V (.cells #[.bool false, .slice none 0 0] 59)
      have new := And.intro (Box.made V 59 #[.bool false, .slice none 0 0]) (HR.out.1).size
      have HB2 := hid (bt HR.out.1 hb)
      refine hK.out _ _ ?_ (fun hHeld => ?_)
      · exact HB2.out
      clear hK K
      try simp only [List.setIfInBounds_toArray, List.set_cons_zero, List.set_cons_succ]
      exact F_2_5_6_7.out _ (by kernel_rfl) _ m1 e1 j1 d1 m2 e2 j2 d2 m3 e3 j3 d3 V.heap.size (hid ⟨HB2.out, (HR.out.2.1).later hb, (HR.out.2.2.1).later hb, (HR.out.2.2.2).later hb, new⟩)
    exact AllReadyH.nil
  have F_2_5_7 : Hid (∀ listed, listed = #[true, true, true, true, true, true, false, true, false] → ∀ (V : World) (m1 : Bool) (e1 : Option Addr) (j1 : Nat) (d1 : Nat) (m2 : Bool) (e2 : Option Addr) (j2 : Nat) (d2 : Nat) (p : Nat), Hid ((Below X.heap.size X V) ∧ (DW V m1 e1 j1 d1 (z10 * z8)) ∧ (DW V m2 e2 j2 d2 (z11 * z7)) ∧ (Box V p 59 #[.bool false, .slice none 0 0] ∧ X.heap.size ≤ p)) → wpAnyH Tryz.prog .any pw_region16_ops (NoPanic Q) (fun V : World => Below X.heap.size X V) 2 listed { tmps := (List.toArray (t0 :: t1 :: t2 :: t3 :: t4 :: t5 :: t6 :: (.pointer (some ⟨b7, 0, none⟩)) :: (.pointer (some ⟨b8, 0, none⟩)) :: t9 :: (.pointer (some ⟨b10, 0, none⟩)) :: (.pointer (some ⟨b11, 0, none⟩)) :: t12 :: t13 :: t14 :: (.pointer (some ⟨p, 0, none⟩)) :: t16 :: t17 :: t18 :: t19 :: t20 :: t21 :: t22 :: t23 :: t24 :: t25 :: t26 :: t27 :: t28 :: t29 :: t30 :: t31 :: t32 :: t33 :: t34 :: t35 :: t36 :: t37 :: t38 :: t39 :: t40 :: t41 :: t42 :: t43 :: t44 :: t45 :: t46 :: t47 :: t48 :: t49 :: t50 :: t51 :: t52 :: t53 :: t54 :: t55 :: t56 :: t57 :: t58 :: t59 :: t60 :: t61 :: t62 :: t63 :: t64 :: t65 :: (.agg #[.bool n10, .slice a10 k10 c10]) :: (.agg #[.bool n8, .slice a8 k8 c8]) :: (.agg #[.bool m1, .slice e1 j1 d1]) :: (.agg #[.bool n11, .slice a11 k11 c11]) :: (.agg #[.bool n7, .slice a7 k7 c7]) :: (.agg #[.bool m2, .slice e2 j2 d2]) :: t72 :: rest)), defers := [] } V) := by
    rintro _ rfl V m1 e1 j1 d1 m2 e2 j2 d2 p HR
    refine wpAnyH_ready (rs := [6]) (by kernel_rfl) (by simp) ?_
    refine AllReadyH.cons (o := { dst := some 72, op := Op.call { callee := Callee.value (Operand.func 31), args := #[Operand.tmp 68, Operand.tmp 71], argTypes := #[59, 59] }, type := 59, pos := "ref.go:71", after := #[{ on := 2, ground := Ground.data }, { on := 5, ground := Ground.data }, { on := 5, ground := Ground.chain }], guard := none }) rfl (fun K hK => ?_) ?_
    · go_simp
      refine Calls.mono (dPlus HR.out.2.1 HR.out.2.2.1 (Nat.le_trans ((HR.out.2.1).len M1.out) (by omega)) (Nat.le_trans ((HR.out.2.2.1).len M2.out) (by omega))) ?_
      rintro e V' ⟨m3, e3, j3, d3, rfl, new, hb⟩
      dsimp only
      have HB2 := hid (bt HR.out.1 hb)
      refine hK.out _ _ ?_ (fun hHeld => ?_)
      · exact HB2.out
      clear hK K
      try simp only [List.setIfInBounds_toArray, List.set_cons_zero, List.set_cons_succ]
      exact F_2_5_6_7.out _ (by kernel_rfl) _ m1 e1 j1 d1 m2 e2 j2 d2 m3 e3 j3 d3 p (hid ⟨HB2.out, (HR.out.2.1).later hb, (HR.out.2.2.1).later hb, new, ⟨(HR.out.2.2.2).1.later hb (HR.out.2.2.2).1.lt, (HR.out.2.2.2).2⟩⟩)
    exact AllReadyH.nil
  have F_2_5 : Hid (∀ listed, listed = #[true, true, true, true, true, true, false, false, false] → ∀ (V : World) (m1 : Bool) (e1 : Option Addr) (j1 : Nat) (d1 : Nat) (m2 : Bool) (e2 : Option Addr) (j2 : Nat) (d2 : Nat), Hid ((Below X.heap.size X V) ∧ (DW V m1 e1 j1 d1 (z10 * z8)) ∧ (DW V m2 e2 j2 d2 (z11 * z7))) → wpAnyH Tryz.prog .any pw_region16_ops (NoPanic Q) (fun V : World => Below X.heap.size X V) 3 listed { tmps := (List.toArray (t0 :: t1 :: t2 :: t3 :: t4 :: t5 :: t6 :: (.pointer (some ⟨b7, 0, none⟩)) :: (.pointer (some ⟨b8, 0, none⟩)) :: t9 :: (.pointer (some ⟨b10, 0, none⟩)) :: (.pointer (some ⟨b11, 0, none⟩)) :: t12 :: t13 :: t14 :: t15 :: t16 :: t17 :: t18 :: t19 :: t20 :: t21 :: t22 :: t23 :: t24 :: t25 :: t26 :: t27 :: t28 :: t29 :: t30 :: t31 :: t32 :: t33 :: t34 :: t35 :: t36 :: t37 :: t38 :: t39 :: t40 :: t41 :: t42 :: t43 :: t44 :: t45 :: t46 :: t47 :: t48 :: t49 :: t50 :: t51 :: t52 :: t53 :: t54 :: t55 :: t56 :: t57 :: t58 :: t59 :: t60 :: t61 :: t62 :: t63 :: t64 :: t65 :: (.agg #[.bool n10, .slice a10 k10 c10]) :: (.agg #[.bool n8, .slice a8 k8 c8]) :: (.agg #[.bool m1, .slice e1 j1 d1]) :: (.agg #[.bool n11, .slice a11 k11 c11]) :: (.agg #[.bool n7, .slice a7 k7 c7]) :: (.agg #[.bool m2, .slice e2 j2 d2]) :: t72 :: rest)), defers := [] } V) := by
    rintro _ rfl V m1 e1 j1 d1 m2 e2 j2 d2 HR
    refine wpAnyH_ready (rs := [6, 7]) (by kernel_rfl) (by simp) ?_
    refine AllReadyH.cons (o := { dst := some 72, op := Op.call { callee := Callee.value (Operand.func 31), args := #[Operand.tmp 68, Operand.tmp 71], argTypes := #[59, 59] }, type := 59, pos := "ref.go:71", after := #[{ on := 2, ground := Ground.data }, { on := 5, ground := Ground.data }, { on := 5, ground := Ground.chain }], guard := none }) rfl (fun K hK => ?_) ?_
    · go_simp
      refine Calls.mono (dPlus HR.out.2.1 HR.out.2.2 (Nat.le_trans ((HR.out.2.1).len M1.out) (by omega)) (Nat.le_trans ((HR.out.2.2).len M2.out) (by omega))) ?_
      rintro e V' ⟨m3, e3, j3, d3, rfl, new, hb⟩
      dsimp only
      have HB2 := hid (bt HR.out.1 hb)
      refine hK.out _ _ ?_ (fun hHeld => ?_)
      · exact HB2.out
      clear hK K
      try simp only [List.setIfInBounds_toArray, List.set_cons_zero, List.set_cons_succ]
      exact F_2_5_6.out _ (by kernel_rfl) _ m1 e1 j1 d1 m2 e2 j2 d2 m3 e3 j3 d3 (hid ⟨HB2.out, (HR.out.2.1).later hb, (HR.out.2.2).later hb, new⟩)
    refine AllReadyH.cons (o := { dst := some 15, op := Op.alloc 59, type := 0, pos := "ref.go:71", after := #[], guard := none }) rfl (fun K hK => ?_) ?_
    · go_simp
      have hb := alloc_later V (.cells #[.bool false, .slice none 0 0] 59)
      have new := And.intro (Box.made V 59 #[.bool false, .slice none 0 0]) (HR.out.1).size
      have HB2 := hid (bt HR.out.1 hb)
      refine hK.out _ _ ?_ (fun hHeld => ?_)
      · exact HB2.out
      clear hK K
      try simp only [List.setIfInBounds_toArray, List.set_cons_zero, List.set_cons_succ]
      exact F_2_5_7.out _ (by kernel_rfl) _ m1 e1 j1 d1 m2 e2 j2 d2 V.heap.size (hid ⟨HB2.out, (HR.out.2.1).later hb, (HR.out.2.2).later hb, new⟩)
    exact AllReadyH.nil
  have F_2_7 : Hid (∀ listed, listed = #[true, true, true, true, true, false, false, true, false] → ∀ (V : World) (m1 : Bool) (e1 : Option Addr) (j1 : Nat) (d1 : Nat) (p : Nat), Hid ((Below X.heap.size X V) ∧ (DW V m1 e1 j1 d1 (z10 * z8)) ∧ (Box V p 59 #[.bool false, .slice none 0 0] ∧ X.heap.size ≤ p)) → wpAnyH Tryz.prog .any pw_region16_ops (NoPanic Q) (fun V : World => Below X.heap.size X V) 3 listed { tmps := (List.toArray (t0 :: t1 :: t2 :: t3 :: t4 :: t5 :: t6 :: (.pointer (some ⟨b7, 0, none⟩)) :: (.pointer (some ⟨b8, 0, none⟩)) :: t9 :: (.pointer (some ⟨b10, 0, none⟩)) :: (.pointer (some ⟨b11, 0, none⟩)) :: t12 :: t13 :: t14 :: (.pointer (some ⟨p, 0, none⟩)) :: t16 :: t17 :: t18 :: t19 :: t20 :: t21 :: t22 :: t23 :: t24 :: t25 :: t26 :: t27 :: t28 :: t29 :: t30 :: t31 :: t32 :: t33 :: t34 :: t35 :: t36 :: t37 :: t38 :: t39 :: t40 :: t41 :: t42 :: t43 :: t44 :: t45 :: t46 :: t47 :: t48 :: t49 :: t50 :: t51 :: t52 :: t53 :: t54 :: t55 :: t56 :: t57 :: t58 :: t59 :: t60 :: t61 :: t62 :: t63 :: t64 :: t65 :: (.agg #[.bool n10, .slice a10 k10 c10]) :: (.agg #[.bool n8, .slice a8 k8 c8]) :: (.agg #[.bool m1, .slice e1 j1 d1]) :: (.agg #[.bool n11, .slice a11 k11 c11]) :: (.agg #[.bool n7, .slice a7 k7 c7]) :: t71 :: t72 :: rest)), defers := [] } V) := by
    rintro _ rfl V m1 e1 j1 d1 p HR
    refine wpAnyH_ready (rs := [5]) (by kernel_rfl) (by simp) ?_
    refine AllReadyH.cons (o := { dst := some 71, op := Op.call { callee := Callee.value (Operand.func 32), args := #[Operand.tmp 69, Operand.tmp 70], argTypes := #[59, 59] }, type := 59, pos := "ref.go:71", after := #[{ on := 3, ground := Ground.data }, { on := 4, ground := Ground.data }, { on := 2, ground := Ground.chain }], guard := none }) rfl (fun K hK => ?_) ?_
    · go_simp
      refine Calls.mono (dProduct (HD11.out.later HR.out.1) (HD7.out.later HR.out.1) L11.out L7.out) ?_
      rintro e V' ⟨m2, e2, j2, d2, rfl, new, hb⟩
      dsimp only
      have HB2 := hid (bt HR.out.1 hb)
      refine hK.out _ _ ?_ (fun hHeld => ?_)
      · exact HB2.out
      clear hK K
      try simp only [List.setIfInBounds_toArray, List.set_cons_zero, List.set_cons_succ]
      exact F_2_5_7.out _ (by kernel_rfl) _ m1 e1 j1 d1 m2 e2 j2 d2 p (hid ⟨HB2.out, (HR.out.2.1).later hb, new, ⟨(HR.out.2.2).1.later hb (HR.out.2.2).1.lt, (HR.out.2.2).2⟩⟩)
    exact AllReadyH.nil
  have F_2 : Hid (∀ listed, listed = #[true, true, true, true, true, false, false, false, false] → ∀ (V : World) (m1 : Bool) (e1 : Option Addr) (j1 : Nat) (d1 : Nat), Hid ((Below X.heap.size X V) ∧ (DW V m1 e1 j1 d1 (z10 * z8))) → wpAnyH Tryz.prog .any pw_region16_ops (NoPanic Q) (fun V : World => Below X.heap.size X V) 4 listed { tmps := (List.toArray (t0 :: t1 :: t2 :: t3 :: t4 :: t5 :: t6 :: (.pointer (some ⟨b7, 0, none⟩)) :: (.pointer (some ⟨b8, 0, none⟩)) :: t9 :: (.pointer (some ⟨b10, 0, none⟩)) :: (.pointer (some ⟨b11, 0, none⟩)) :: t12 :: t13 :: t14 :: t15 :: t16 :: t17 :: t18 :: t19 :: t20 :: t21 :: t22 :: t23 :: t24 :: t25 :: t26 :: t27 :: t28 :: t29 :: t30 :: t31 :: t32 :: t33 :: t34 :: t35 :: t36 :: t37 :: t38 :: t39 :: t40 :: t41 :: t42 :: t43 :: t44 :: t45 :: t46 :: t47 :: t48 :: t49 :: t50 :: t51 :: t52 :: t53 :: t54 :: t55 :: t56 :: t57 :: t58 :: t59 :: t60 :: t61 :: t62 :: t63 :: t64 :: t65 :: (.agg #[.bool n10, .slice a10 k10 c10]) :: (.agg #[.bool n8, .slice a8 k8 c8]) :: (.agg #[.bool m1, .slice e1 j1 d1]) :: (.agg #[.bool n11, .slice a11 k11 c11]) :: (.agg #[.bool n7, .slice a7 k7 c7]) :: t71 :: t72 :: rest)), defers := [] } V) := by
    rintro _ rfl V m1 e1 j1 d1 HR
    refine wpAnyH_ready (rs := [5, 7]) (by kernel_rfl) (by simp) ?_
    refine AllReadyH.cons (o := { dst := some 71, op := Op.call { callee := Callee.value (Operand.func 32), args := #[Operand.tmp 69, Operand.tmp 70], argTypes := #[59, 59] }, type := 59, pos := "ref.go:71", after := #[{ on := 3, ground := Ground.data }, { on := 4, ground := Ground.data }, { on := 2, ground := Ground.chain }], guard := none }) rfl (fun K hK => ?_) ?_
    · go_simp
      refine Calls.mono (dProduct (HD11.out.later HR.out.1) (HD7.out.later HR.out.1) L11.out L7.out) ?_
      rintro e V' ⟨m2, e2, j2, d2, rfl, new, hb⟩
      dsimp only
      have HB2 := hid (bt HR.out.1 hb)
      refine hK.out _ _ ?_ (fun hHeld => ?_)
      · exact HB2.out
      clear hK K
      try simp only [List.setIfInBounds_toArray, List.set_cons_zero, List.set_cons_succ]
      exact F_2_5.out _ (by kernel_rfl) _ m1 e1 j1 d1 m2 e2 j2 d2 (hid ⟨HB2.out, (HR.out.2).later hb, new⟩)
    refine AllReadyH.cons (o := { dst := some 15, op := Op.alloc 59, type := 0, pos := "ref.go:71", after := #[], guard := none }) rfl (fun K hK => ?_) ?_
    · go_simp
      have hb := alloc_later V (.cells #[.bool false, .slice none 0 0] 59)
      have new := And.intro (Box.made V 59 #[.bool false, .slice none 0 0]) (HR.out.1).size
      have HB2 := hid (bt HR.out.1 hb)
      refine hK.out _ _ ?_ (fun hHeld => ?_)
      · exact HB2.out
      clear hK K
      try simp only [List.setIfInBounds_toArray, List.set_cons_zero, List.set_cons_succ]
      exact F_2_7.out _ (by kernel_rfl) _ m1 e1 j1 d1 V.heap.size (hid ⟨HB2.out, (HR.out.2).later hb, new⟩)
    exact AllReadyH.nil
  have F_7 : Hid (∀ listed, listed = #[true, true, false, true, true, false, false, true, false] → ∀ (V : World) (p : Nat), Hid ((Below X.heap.size X V) ∧ (Box V p 59 #[.bool false, .slice none 0 0] ∧ X.heap.size ≤ p)) → wpAnyH Tryz.prog .any pw_region16_ops (NoPanic Q) (fun V : World => Below X.heap.size X V) 4 listed { tmps := (List.toArray (t0 :: t1 :: t2 :: t3 :: t4 :: t5 :: t6 :: (.pointer (some ⟨b7, 0, none⟩)) :: (.pointer (some ⟨b8, 0, none⟩)) :: t9 :: (.pointer (some ⟨b10, 0, none⟩)) :: (.pointer (some ⟨b11, 0, none⟩)) :: t12 :: t13 :: t14 :: (.pointer (some ⟨p, 0, none⟩)) :: t16 :: t17 :: t18 :: t19 :: t20 :: t21 :: t22 :: t23 :: t24 :: t25 :: t26 :: t27 :: t28 :: t29 :: t30 :: t31 :: t32 :: t33 :: t34 :: t35 :: t36 :: t37 :: t38 :: t39 :: t40 :: t41 :: t42 :: t43 :: t44 :: t45 :: t46 :: t47 :: t48 :: t49 :: t50 :: t51 :: t52 :: t53 :: t54 :: t55 :: t56 :: t57 :: t58 :: t59 :: t60 :: t61 :: t62 :: t63 :: t64 :: t65 :: (.agg #[.bool n10, .slice a10 k10 c10]) :: (.agg #[.bool n8, .slice a8 k8 c8]) :: t68 :: (.agg #[.bool n11, .slice a11 k11 c11]) :: (.agg #[.bool n7, .slice a7 k7 c7]) :: t71 :: t72 :: rest)), defers := [] } V) := by
    rintro _ rfl V p HR
    refine wpAnyH_ready (rs := [2]) (by kernel_rfl) (by simp) ?_
    refine AllReadyH.cons (o := { dst := some 68, op := Op.call { callee := Callee.value (Operand.func 32), args := #[Operand.tmp 66, Operand.tmp 67], argTypes := #[59, 59] }, type := 59, pos := "ref.go:71", after := #[{ on := 0, ground := Ground.data }, { on := 1, ground := Ground.data }], guard := none }) rfl (fun K hK => ?_) ?_
    · go_simp
      refine Calls.mono (dProduct (HD10.out.later HR.out.1) (HD8.out.later HR.out.1) L10.out L8.out) ?_
      rintro e V' ⟨m1, e1, j1, d1, rfl, new, hb⟩
      dsimp only
      have HB2 := hid (bt HR.out.1 hb)
      refine hK.out _ _ ?_ (fun hHeld => ?_)
      · exact HB2.out
      clear hK K
      try simp only [List.setIfInBounds_toArray, List.set_cons_zero, List.set_cons_succ]
      exact F_2_7.out _ (by kernel_rfl) _ m1 e1 j1 d1 p (hid ⟨HB2.out, new, ⟨(HR.out.2).1.later hb (HR.out.2).1.lt, (HR.out.2).2⟩⟩)
    exact AllReadyH.nil
  have F : Hid (∀ listed, listed = #[true, true, false, true, true, false, false, false, false] → ∀ (V : World) , Hid ((Below X.heap.size X V)) → wpAnyH Tryz.prog .any pw_region16_ops (NoPanic Q) (fun V : World => Below X.heap.size X V) 5 listed { tmps := (List.toArray (t0 :: t1 :: t2 :: t3 :: t4 :: t5 :: t6 :: (.pointer (some ⟨b7, 0, none⟩)) :: (.pointer (some ⟨b8, 0, none⟩)) :: t9 :: (.pointer (some ⟨b10, 0, none⟩)) :: (.pointer (some ⟨b11, 0, none⟩)) :: t12 :: t13 :: t14 :: t15 :: t16 :: t17 :: t18 :: t19 :: t20 :: t21 :: t22 :: t23 :: t24 :: t25 :: t26 :: t27 :: t28 :: t29 :: t30 :: t31 :: t32 :: t33 :: t34 :: t35 :: t36 :: t37 :: t38 :: t39 :: t40 :: t41 :: t42 :: t43 :: t44 :: t45 :: t46 :: t47 :: t48 :: t49 :: t50 :: t51 :: t52 :: t53 :: t54 :: t55 :: t56 :: t57 :: t58 :: t59 :: t60 :: t61 :: t62 :: t63 :: t64 :: t65 :: (.agg #[.bool n10, .slice a10 k10 c10]) :: (.agg #[.bool n8, .slice a8 k8 c8]) :: t68 :: (.agg #[.bool n11, .slice a11 k11 c11]) :: (.agg #[.bool n7, .slice a7 k7 c7]) :: t71 :: t72 :: rest)), defers := [] } V) := by
    rintro _ rfl V  HR
    refine wpAnyH_ready (rs := [2, 7]) (by kernel_rfl) (by simp) ?_
    refine AllReadyH.cons (o := { dst := some 68, op := Op.call { callee := Callee.value (Operand.func 32), args := #[Operand.tmp 66, Operand.tmp 67], argTypes := #[59, 59] }, type := 59, pos := "ref.go:71", after := #[{ on := 0, ground := Ground.data }, { on := 1, ground := Ground.data }], guard := none }) rfl (fun K hK => ?_) ?_
    · go_simp
      refine Calls.mono (dProduct (HD10.out.later HR.out) (HD8.out.later HR.out) L10.out L8.out) ?_
      rintro e V' ⟨m1, e1, j1, d1, rfl, new, hb⟩
      dsimp only
      have HB2 := hid (bt HR.out hb)
      refine hK.out _ _ ?_ (fun hHeld => ?_)
      · exact HB2.out
      clear hK K
      try simp only [List.setIfInBounds_toArray, List.set_cons_zero, List.set_cons_succ]
      exact F_2.out _ (by kernel_rfl) _ m1 e1 j1 d1 (hid ⟨HB2.out, new⟩)
    refine AllReadyH.cons (o := { dst := some 15, op := Op.alloc 59, type := 0, pos := "ref.go:71", after := #[], guard := none }) rfl (fun K hK => ?_) ?_
    · go_simp
      have hb := alloc_later V (.cells #[.bool false, .slice none 0 0] 59)
      have new := And.intro (Box.made V 59 #[.bool false, .slice none 0 0]) (HR.out).size
      have HB2 := hid (bt HR.out hb)
      refine hK.out _ _ ?_ (fun hHeld => ?_)
      · exact HB2.out
      clear hK K
      try simp only [List.setIfInBounds_toArray, List.set_cons_zero, List.set_cons_succ]
      exact F_7.out _ (by kernel_rfl) _ V.heap.size (hid ⟨HB2.out, new⟩)
    exact AllReadyH.nil
  refine wp_region_noPanic ?_
  refine wp_region_held_drew (S := (fun V : World => Below X.heap.size X V)) (by kernel_rfl) ?_ (fun hHeld => ?_)
  · exact (Below.drew (Below.refl _ X))
  refine wpAnyH_take (i := 0) (oi := { dst := some 66, op := Op.load 59 (Operand.tmp 10), type := 59, pos := "ref.go:71", after := #[], guard := none }) (v := ?_) rfl (by kernel_rfl) (by kernel_rfl) (by kernel_rfl) (fun _ _ _ h => h) (Or.inl ⟨by rfl, ?_⟩) (by assumption) ?_
  rotate_left 1
  · intro V hSw
    obtain ⟨p7, q7, p8, q8, p10, q10, p11, q11⟩ := HK.out V hSw
    clear hSw
    go_simp
    try with_reducible rfl
  try simp only [Act.put, List.setIfInBounds_toArray, List.set_cons_zero, List.set_cons_succ]
  refine wpAnyH_take (i := 1) (oi := { dst := some 67, op := Op.load 59 (Operand.tmp 8), type := 59, pos := "ref.go:71", after := #[], guard := none }) (v := ?_) rfl (by kernel_rfl) (by kernel_rfl) (by kernel_rfl) (fun _ _ _ h => h) (Or.inl ⟨by rfl, ?_⟩) (by assumption) ?_
  rotate_left 1
  · intro V hSw
    obtain ⟨p7, q7, p8, q8, p10, q10, p11, q11⟩ := HK.out V hSw
    clear hSw
    go_simp
    try with_reducible rfl
  try simp only [Act.put, List.setIfInBounds_toArray, List.set_cons_zero, List.set_cons_succ]
  refine wpAnyH_take (i := 3) (oi := { dst := some 69, op := Op.load 59 (Operand.tmp 11), type := 59, pos := "ref.go:71", after := #[], guard := none }) (v := ?_) rfl (by kernel_rfl) (by kernel_rfl) (by kernel_rfl) (fun _ _ _ h => h) (Or.inl ⟨by rfl, ?_⟩) (by assumption) ?_
  rotate_left 1
  · intro V hSw
    obtain ⟨p7, q7, p8, q8, p10, q10, p11, q11⟩ := HK.out V hSw
    clear hSw
    go_simp
    try with_reducible rfl
  try simp only [Act.put, List.setIfInBounds_toArray, List.set_cons_zero, List.set_cons_succ]
  refine wpAnyH_take (i := 4) (oi := { dst := some 70, op := Op.load 59 (Operand.tmp 7), type := 59, pos := "ref.go:71", after := #[], guard := none }) (v := ?_) rfl (by kernel_rfl) (by kernel_rfl) (by kernel_rfl) (fun _ _ _ h => h) (Or.inl ⟨by rfl, ?_⟩) (by assumption) ?_
  rotate_left 1
  · intro V hSw
    obtain ⟨p7, q7, p8, q8, p10, q10, p11, q11⟩ := HK.out V hSw
    clear hSw
    go_simp
    try with_reducible rfl
  try simp only [Act.put, List.setIfInBounds_toArray, List.set_cons_zero, List.set_cons_succ]
  exact F.out _ (by kernel_rfl) _ (hid (Below.drew (Below.refl _ X)))
/-- The operations of the statement. -/
def pw_region17_ops : Array Oper := #[{ dst := some 73, op := Op.load 59 (Operand.tmp 14), type := 59, pos := "ref.go:72", after := #[], guard := none }, { dst := some 74, op := Op.load 59 (Operand.tmp 15), type := 59, pos := "ref.go:72", after := #[{ on := 2, ground := Ground.gcOnly Departure.lateStores }], guard := none }, { dst := none, op := Op.store 59 (Operand.tmp 10) (Operand.tmp 73), type := 0, pos := "ref.go:72", after := #[{ on := 0, ground := Ground.data }, { on := 0, ground := Ground.phase }, { on := 1, ground := Ground.textOnly Departure.lateStores }], guard := none }, { dst := none, op := Op.store 59 (Operand.tmp 11) (Operand.tmp 74), type := 0, pos := "ref.go:72", after := #[{ on := 1, ground := Ground.data }, { on := 2, ground := Ground.chain }, { on := 0, ground := Ground.phase }, { on := 1, ground := Ground.phase }, { on := 2, ground := Ground.phase }], guard := none }]
set_option maxHeartbeats 6400000 in
set_option maxRecDepth 100000 in
theorem pw_region17 (X : World) (b10 b11 : Nat) (u0 u1 v0 v1 : Value) (b14 : Nat) (n14 : Bool) (a14 : Option Addr) (k14 c14 : Nat) (z14 : Int) (HB14 : Hid (Box X b14 59 #[.bool n14, .slice a14 k14 c14])) (HD14 : Hid (DW X n14 a14 k14 c14 z14)) (b15 : Nat) (n15 : Bool) (a15 : Option Addr) (k15 c15 : Nat) (z15 : Int) (HB15 : Hid (Box X b15 59 #[.bool n15, .slice a15 k15 c15])) (HD15 : Hid (DW X n15 a15 k15 c15 z15)) (HA10 : Hid (Box X b10 59 #[u0, u1])) (HA11 : Hid (Box X b11 59 #[v0, v1])) (N1 : b14 ≠ b10) (N2 : b15 ≠ b10) (N3 : b14 ≠ b11) (N4 : b15 ≠ b11) (N5 : b10 ≠ b11) (t0 t1 t2 t3 t4 t5 t6 t7 t8 t9 t12 t13 t16 t17 t18 t19 t20 t21 t22 t23 t24 t25 t26 t27 t28 t29 t30 t31 t32 t33 t34 t35 t36 t37 t38 t39 t40 t41 t42 t43 t44 t45 t46 t47 t48 t49 t50 t51 t52 t53 t54 t55 t56 t57 t58 t59 t60 t61 t62 t63 t64 t65 t66 t67 t68 t69 t70 t71 t72 t73 t74 : Value) (rest : List Value) (Q : Exit → Act → World → Prop)
    (hQ : ∀ (u73 u74 : Value) (F : World), Hid (NB F b10 z14 ∧ NB F b11 z15 ∧ (∀ b t, b ≠ b10 → b ≠ b11 → NB X b t → NB F b t) ∧ (∀ b t vs, b ≠ b10 → b ≠ b11 → Box X b t vs → Box F b t vs) ∧ (∀ B x, B ≤ b10 → B ≤ b11 → Below B x X → Below B x F) ∧ F.heap.size = X.heap.size) → Q .normal { tmps := (List.toArray (t0 :: t1 :: t2 :: t3 :: t4 :: t5 :: t6 :: t7 :: t8 :: t9 :: (.pointer (some ⟨b10, 0, none⟩)) :: (.pointer (some ⟨b11, 0, none⟩)) :: t12 :: t13 :: (.pointer (some ⟨b14, 0, none⟩)) :: (.pointer (some ⟨b15, 0, none⟩)) :: t16 :: t17 :: t18 :: t19 :: t20 :: t21 :: t22 :: t23 :: t24 :: t25 :: t26 :: t27 :: t28 :: t29 :: t30 :: t31 :: t32 :: t33 :: t34 :: t35 :: t36 :: t37 :: t38 :: t39 :: t40 :: t41 :: t42 :: t43 :: t44 :: t45 :: t46 :: t47 :: t48 :: t49 :: t50 :: t51 :: t52 :: t53 :: t54 :: t55 :: t56 :: t57 :: t58 :: t59 :: t60 :: t61 :: t62 :: t63 :: t64 :: t65 :: t66 :: t67 :: t68 :: t69 :: t70 :: t71 :: t72 :: u73 :: u74 :: rest)), defers := [] } F) :
    Code.wp Tryz.prog (Code.region 17 pw_region17_ops true) Q { tmps := (List.toArray (t0 :: t1 :: t2 :: t3 :: t4 :: t5 :: t6 :: t7 :: t8 :: t9 :: (.pointer (some ⟨b10, 0, none⟩)) :: (.pointer (some ⟨b11, 0, none⟩)) :: t12 :: t13 :: (.pointer (some ⟨b14, 0, none⟩)) :: (.pointer (some ⟨b15, 0, none⟩)) :: t16 :: t17 :: t18 :: t19 :: t20 :: t21 :: t22 :: t23 :: t24 :: t25 :: t26 :: t27 :: t28 :: t29 :: t30 :: t31 :: t32 :: t33 :: t34 :: t35 :: t36 :: t37 :: t38 :: t39 :: t40 :: t41 :: t42 :: t43 :: t44 :: t45 :: t46 :: t47 :: t48 :: t49 :: t50 :: t51 :: t52 :: t53 :: t54 :: t55 :: t56 :: t57 :: t58 :: t59 :: t60 :: t61 :: t62 :: t63 :: t64 :: t65 :: t66 :: t67 :: t68 :: t69 :: t70 :: t71 :: t72 :: t73 :: t74 :: rest)), defers := [] } X := by
  have HQ := hid hQ
  clear hQ
  have HC : Hid (∀ V, Box V b14 59 #[.bool n14, .slice a14 k14 c14] → Box V b15 59 #[.bool n15, .slice a15 k15 c15] → V.cell? ⟨b14, 0, none⟩ = some (.bool n14) ∧ V.cell? ⟨b14, 1, none⟩ = some (.slice a14 k14 c14) ∧ V.cell? ⟨b15, 0, none⟩ = some (.bool n15) ∧ V.cell? ⟨b15, 1, none⟩ = some (.slice a15 k15 c15)) := fun V h1 h2 => ⟨h1.cell 0, h1.cell 1, h2.cell 0, h2.cell 1⟩
  have HX14 : Hid (Box X.drew b14 59 #[.bool n14, .slice a14 k14 c14]) := HB14
  have HX15 : Hid (Box X.drew b15 59 #[.bool n15, .slice a15 k15 c15]) := HB15
  have HX10 : Hid (Box X.drew b10 59 #[u0, u1]) := HA10
  have HX11 : Hid (Box X.drew b11 59 #[v0, v1]) := HA11
  have HE14 : Hid (DW X.drew n14 a14 k14 c14 z14) := HD14
  have HE15 : Hid (DW X.drew n15 a15 k15 c15 z15) := HD15
  have HR : Hid ((∀ b t, NB X b t → NB X.drew b t) ∧ (∀ b t vs, Box X b t vs → Box X.drew b t vs) ∧ (∀ B x, Below B x X → Below B x X.drew) ∧ X.drew.heap.size = X.heap.size) := ⟨fun _ _ h => h, fun _ _ _ h => h, fun _ _ h => h.drew, rfl⟩
  refine wp_region_noPanic ?_
  refine wp_region_held_drew (S := (fun V : World => V.cell? ⟨b14, 0, none⟩ = some (.bool n14) ∧ V.cell? ⟨b14, 1, none⟩ = some (.slice a14 k14 c14) ∧ V.cell? ⟨b15, 0, none⟩ = some (.bool n15) ∧ V.cell? ⟨b15, 1, none⟩ = some (.slice a15 k15 c15))) (by kernel_rfl) ?_ (fun hHeld => ?_)
  · exact HC.out _ HX14.out HX15.out
  generalize X.drew = Y at *
  refine wpAnyH_take (i := 0) (oi := { dst := some 73, op := Op.load 59 (Operand.tmp 14), type := 59, pos := "ref.go:72", after := #[], guard := none }) (v := ?_) rfl (by kernel_rfl) (by kernel_rfl) (by kernel_rfl) (fun _ _ _ h => h) (Or.inl ⟨by rfl, ?_⟩) (by assumption) ?_
  rotate_left 1
  · intro V hSw
    obtain ⟨p0, p1, p2, p3⟩ := hSw
    go_simp
    try with_reducible rfl
  try simp only [Act.put, List.setIfInBounds_toArray, List.set_cons_zero, List.set_cons_succ]
  refine wpAnyH_take (i := 1) (oi := { dst := some 74, op := Op.load 59 (Operand.tmp 15), type := 59, pos := "ref.go:72", after := #[{ on := 2, ground := Ground.gcOnly Departure.lateStores }], guard := none }) (v := ?_) rfl (by kernel_rfl) (by kernel_rfl) (by kernel_rfl) (fun _ _ _ h => h) (Or.inl ⟨by rfl, ?_⟩) (by assumption) ?_
  rotate_left 1
  · intro V hSw
    obtain ⟨p0, p1, p2, p3⟩ := hSw
    go_simp
    try with_reducible rfl
  try simp only [Act.put, List.setIfInBounds_toArray, List.set_cons_zero, List.set_cons_succ]
  obtain ⟨y0, y1, f0, f1⟩ := res_box HX10.out (Below.refl _ _)
  have HV14 := hid (HX14.out.far2 N1 (.bool n14) (.slice a14 k14 c14))
  have HV15 := hid (HX15.out.far2 N2 (.bool n14) (.slice a14 k14 c14))
  have HV11 := hid (HX11.out.far2 (Ne.symm N5) (.bool n14) (.slice a14 k14 c14))
  have HU10 := hid (NB.set HX10.out HE14.out)
  have HE := hid (HE15.out.put HX10.out (.bool n14) (.slice a14 k14 c14))
  have HZ : Hid ((∀ b t, b ≠ b10 → NB Y b t → NB ((Y.setCell ⟨b10, 0, none⟩ (.bool n14)).setCell ⟨b10, 1, none⟩ (.slice a14 k14 c14)) b t) ∧ (∀ b t vs, b ≠ b10 → Box Y b t vs → Box ((Y.setCell ⟨b10, 0, none⟩ (.bool n14)).setCell ⟨b10, 1, none⟩ (.slice a14 k14 c14)) b t vs) ∧ (∀ B x, B ≤ b10 → Below B x Y → Below B x ((Y.setCell ⟨b10, 0, none⟩ (.bool n14)).setCell ⟨b10, 1, none⟩ (.slice a14 k14 c14))) ∧ ((Y.setCell ⟨b10, 0, none⟩ (.bool n14)).setCell ⟨b10, 1, none⟩ (.slice a14 k14 c14)).heap.size = Y.heap.size) := ⟨fun b t h g => g.put HX10.out h _ _, fun b t vs h g => g.far2 h _ _, fun B x h g => below_put2 g b10 h _ _, by simp [World.setCell]⟩
  refine wpAnyH_ready (rs := [2]) (by kernel_rfl) (by simp) ?_
  refine AllReadyH.cons (o := { dst := none, op := Op.store 59 (Operand.tmp 10) (Operand.tmp 73), type := 0, pos := "ref.go:72", after := #[{ on := 0, ground := Ground.data }, { on := 0, ground := Ground.phase }, { on := 1, ground := Ground.textOnly Departure.lateStores }], guard := none }) rfl (fun K hK => ?_) AllReadyH.nil
  go_simp
  refine hK.out _ _ ?_ (fun hHeld => ?_)
  · exact HC.out _ HV14.out HV15.out
  clear hK K y0 y1 f0 f1 hHeld
  try simp only [List.setIfInBounds_toArray, List.set_cons_zero, List.set_cons_succ]
  generalize (Y.setCell ⟨b10, 0, none⟩ (.bool n14)).setCell ⟨b10, 1, none⟩ (.slice a14 k14 c14) = Y2 at *
  obtain ⟨y0, y1, f0, f1⟩ := res_box HV11.out (Below.refl _ _)
  have HU := hid (HU10.out.put HV11.out N5 (.bool n15) (.slice a15 k15 c15))
  have HW := hid (NB.set HV11.out HE.out)
  refine wpAnyH_ready (rs := [3]) (by kernel_rfl) (by simp) ?_
  refine AllReadyH.cons (o := { dst := none, op := Op.store 59 (Operand.tmp 11) (Operand.tmp 74), type := 0, pos := "ref.go:72", after := #[{ on := 1, ground := Ground.data }, { on := 2, ground := Ground.chain }, { on := 0, ground := Ground.phase }, { on := 1, ground := Ground.phase }, { on := 2, ground := Ground.phase }], guard := none }) rfl (fun K hK => ?_) AllReadyH.nil
  go_simp
  refine hK.out _ _ ?_ (fun hHeld => ?_)
  · exact HC.out _ (HV14.out.far2 N3 _ _) (HV15.out.far2 N4 _ _)
  clear hK K
  try simp only [List.setIfInBounds_toArray, List.set_cons_zero, List.set_cons_succ]
  refine wpAnyH_done (by kernel_rfl) ?_ _
  refine NoPanic.normal ?_
  exact HQ.out _ _ _ (hid ⟨HU.out, HW.out, fun b t h1 h2 g => (HZ.out.1 b t h1 (HR.out.1 b t g)).put HV11.out h2 _ _, fun b t vs h1 h2 g => (HZ.out.2.1 b t vs h1 (HR.out.2.1 b t vs g)).far2 h2 _ _, fun B x h1 h2 g => below_put2 (HZ.out.2.2.1 B x h1 (HR.out.2.2.1 B x g)) b11 h2 _ _, by have e1 := HZ.out.2.2.2; have e2 := HR.out.2.2.2; simp [World.setCell]; omega⟩)
end Go.Proofs.YtcfcjnlobpoglaaGreat

/- The document's own long division, one word of it: slackwaterref01.digit. -/
namespace Go.Proofs.YtcfcjnlobpoglaaGreat
open Go.RowKit
set_option linter.unusedVariables false

/-- The first words tell the quotient's word, or more. -/
theorem digit_guess (P lo top dl dt q S D : Int) (hP : 0 < P) (lo1 : lo < P) (dl0 : 0 ≤ dl) (hd : 1 ≤ dt) (hS : S = lo + top * P) (hD : D = dl + dt * P) (q0 : 0 ≤ q) (hq : q * D ≤ S) : q ≤ top / dt := by
  have e1 : q * (dt * P) ≤ q * D := Int.mul_le_mul_of_nonneg_left (by omega) q0
  have e2 : q * dt * P < (top + 1) * P := by rw [Int.mul_assoc, Int.add_mul]; omega
  have e3 := Int.lt_of_mul_lt_mul_right e2 (by omega)
  exact Int.le_ediv_of_mul_le (by omega) (by omega)
theorem seg_two (ys : List Int) (i e : Nat) : segTo ys i (e + 2) = segTo ys i e + (ys[i + e]?.getD 0 + ys[i + (e + 1)]?.getD 0 * 4294967296) * 4294967296 ^ e := by
  rw [segTo_succ, segTo_succ, pw_succ]
  generalize (4294967296 : Int) ^ e = P
  grind
theorem val_top (ds : List Int) (e : Nat) (h : ds.length = e + 1) : val ds = valTo ds e + ds[e]?.getD 0 * 4294967296 ^ e := by
  unfold val; rw [h, valTo_succ]

set_option maxHeartbeats 3200000 in
set_option maxRecDepth 100000 in
theorem refDigit_any (base g n cap i e c : Nat) (ys : List Int) (b : Option Addr) (cap' : Nat) (ds : List Int) (w : World) (ho : OwnC w base g n cap ys) (hwy : Wd ys) (hil : i + (e + 2) ≤ n) (hc : e + 2 ≤ c) (hcm : c ≤ maxLen) (hn : n ≤ 137438953472) (hd : Sl w (.slice b (e + 1) cap') ds) (hlen : ds.length = e + 1) (hh : 1 ≤ ds[e]?.getD 0) (hLD : segTo ys i (e + 2) < 4294967296 * val ds) :
    Calls Tryz.prog 77 #[.slice (some ⟨g, i, none⟩) (e + 2) c, .slice b (e + 1) cap'] w fun x w' => ∃ (q : Int) (us : List Int), x = .returned (.int .u32 q) ∧ 0 ≤ q ∧ q ≤ 4294967295 ∧ OwnC w' base g n cap us ∧ Wd us ∧ (∀ j, j < i ∨ i + (e + 2) ≤ j → us[j]?.getD 0 = ys[j]?.getD 0) ∧ segTo us i (e + 2) = segTo ys i (e + 2) - q * val ds ∧ segTo us i (e + 2) < val ds ∧ w.grownBy w' (some g) := by
  have hwd := hd.wd
  have hD1 := val_top ds e hlen
  have hS1 := seg_two ys i e
  have P0 := pw_pos e
  have lob := segTo_bounds hwy i e
  have dlb := valTo_bounds hwd e
  have hD0 : 0 < val ds := by
    rw [hD1]
    have : 1 * (4294967296 : Int) ^ e ≤ ds[e]?.getD 0 * 4294967296 ^ e := Int.mul_le_mul_of_nonneg_right hh (by omega)
    omega
  have hS0 := (segTo_bounds hwy i (e + 2)).1
  obtain ⟨q, hq⟩ : ∃ q, segTo ys i (e + 2) / val ds = q := ⟨_, rfl⟩
  have q0 : 0 ≤ q := by rw [← hq]; exact Int.ediv_nonneg hS0 (by omega)
  have hq1 : q * val ds ≤ segTo ys i (e + 2) := by rw [← hq]; exact Int.ediv_mul_le _ (by omega)
  have hq2 : segTo ys i (e + 2) < (q + 1) * val ds := by rw [← hq]; exact Int.lt_ediv_add_one_mul_self _ hD0
  have q1 : q ≤ 4294967295 := by
    have : q * val ds < 4294967296 * val ds := by omega
    have := Int.lt_of_mul_lt_mul_right this (by omega)
    omega
  have bu0 := hwy.at (i + e)
  have bu1 := hwy.at (i + (e + 1))
  have bd := hwd.at e
  have y0 := ho.cell (i + e) (by omega)
  have y1 := ho.cell (i + (e + 1)) (by omega)
  have hG := digit_guess (4294967296 ^ e) (segTo ys i e) (ys[i + e]?.getD 0 + ys[i + (e + 1)]?.getD 0 * 4294967296) (valTo ds e) (ds[e]?.getD 0) q _ _ P0 lob.2 dlb.1 hh hS1 hD1 q0 hq1
  obtain ⟨bd1, od1, rfl, ldd, d1⟩ : ∃ b1 o1, b = some ⟨b1, o1, none⟩ ∧ b1 < w.heap.size ∧ w.cell? ⟨b1, o1 + e, none⟩ = some (.int .u32 (ds[e]?.getD 0)) := by
    obtain ⟨a', cap'', hv, hr⟩ := hd
    rw [hlen] at hv hr
    simp only [Value.slice.injEq, true_and] at hv
    obtain ⟨rfl, rfl⟩ := hv
    exact hr.cells e (by omega)
  have hly := ho.len
  have HBE := hid (fun ww (hb : Below w.heap.size w ww) X (h0 : 0 ≤ X) (h1 : X ≤ 4294967295) => refBelow_any _ _ ((ys.drop i).take (e + 2)) ds X ww ((ho.mid hwy i (e + 2) c hil hc hcm).later hb) (hd.later hb) (by rw [List.length_take, List.length_drop]; omega) (by omega) h0 h1)
  rw [val_mid ys i (e + 2) (by omega)] at HBE
  have HOF := hid (fun ww (hb : Below w.heap.size w ww) => refOff_any base g n cap i (e + 2) c ys _ ds q ww (owns_later ho hb) hwy hil hc hcm hn (hd.later hb) (by omega) q0 q1 (by rw [Int.mul_comm]; exact hq1))
  have HQ := hid (And.intro hq1 hq2)
  have HWY := hid hwy
  have HD0 := hid hD0
  obtain ⟨u0, hu0⟩ : ∃ u0, ys[i + e]?.getD 0 = u0 := ⟨_, rfl⟩
  obtain ⟨u1, hu1⟩ : ∃ u1, ys[i + (e + 1)]?.getD 0 = u1 := ⟨_, rfl⟩
  obtain ⟨dt, hdt⟩ : ∃ dt, ds[e]?.getD 0 = dt := ⟨_, rfl⟩
  rw [hu0] at y0 bu0 hG
  rw [hu1] at y1 bu1 hG
  rw [hdt] at d1 bd hG hh
  obtain ⟨top, htop⟩ : ∃ top, u1 * 4294967296 + u0 = top := ⟨_, rfl⟩
  have t0 : 0 ≤ top ∧ top ≤ 18446744073709551615 := by omega
  rw [show u0 + u1 * 4294967296 = top by omega] at hG
  have g0 : 0 ≤ top / dt := Int.ediv_nonneg (by omega) (by omega)
  have g1 : top / dt ≤ top := Int.ediv_le_self _ (by omega)
  have hdz : ¬ dt = 0 := by omega
  obtain ⟨G, hGG⟩ : ∃ G, top / dt = G := ⟨_, rfl⟩
  rw [hGG] at hG g0 g1
  have hei : (e : Int) + 1 - 1 = (e : Int) := by omega
  clear hwd hD1 hS1 P0 lob dlb hD0 hS0 hq hq1 hq2 ho hd hlen hLD hu0 hu1 hdt hwy hly
  by_cases hmin : G ≤ 4294967295
  · go_enter Tryz.func77, Tryz.ntmps77
    go_wp2_with fail
    go_quiet (fail)
    go_wp2_with fail
    clear hGG htop
    go_loopw [7] (fun t wr => ∃ X : Int, t = .int .u64 X ∧ q ≤ X ∧ X ≤ 4294967295 ∧ Below w.heap.size w wr) (fun t _ => (intOf t).toNat)
    case atStart => exact ⟨G, rfl, by omega, by omega, bdw (Below.refl _ _) _⟩
    case round =>
      obtain ⟨X, rfl, hX0, hX1, hb⟩ := hrel
      have HB := hid hb
      have HC := hid (HBE.out wr hb X (by omega) hX1)
      by_cases hlt : q < X
      · have hdec : decide (segTo ys i (e + 2) < val ds * X) = true := decide_eq_true (by
          have a1 := HQ.out.2
          have a2 : (q + 1) * val ds ≤ X * val ds := Int.mul_le_mul_of_nonneg_right (by omega) (Int.le_of_lt HD0.out)
          rw [Int.mul_comm (val ds)]
          omega)
        rw [hdec] at HC
        clear hb hdec
        go_wp2_with fail
        refine Calls.mono HC.out ?_
        rintro x w2 ⟨rfl, hb2⟩
        have HB2 := hid (bt HB.out hb2)
        clear hb2
        go_wp2_with fail
        go_roundw
        case rel => exact ⟨X - 1, rfl, by omega, by omega, HB2.out⟩
        case measure => simp [intOf]; omega
      · obtain rfl : X = q := by omega
        have hdec : decide (segTo ys i (e + 2) < val ds * X) = false := decide_eq_false (by
          have a1 := HQ.out.1
          rw [Int.mul_comm (val ds)]
          omega)
        rw [hdec] at HC
        clear hb hdec
        go_wp2_with fail
        refine Calls.mono HC.out ?_
        rintro x w2 ⟨rfl, hb2⟩
        have HB2 := hid (bt HB.out hb2)
        have HF := hid (HOF.out w2 HB2.out)
        clear hb2 HC HBE HOF
        go_wp2_with fail
        refine Calls.mono HF.out ?_
        rintro x w3 ⟨us, rfl, o3, w3', k3, s3, g3⟩
        have HR := hid (And.intro o3 (And.intro w3' (And.intro k3 (And.intro s3 (grown_trans (grown_of_below HB2.out (some g)) g3)))))
        clear o3 w3' k3 s3 g3 HF
        go_wp2_with fail
        go_ret
        refine ⟨X, us, rfl, q0, q1, HR.out.1, HR.out.2.1, HR.out.2.2.1, by rw [Int.mul_comm]; exact HR.out.2.2.2.1, ?_, HR.out.2.2.2.2⟩
        have a1 := HR.out.2.2.2.1
        have a2 := HQ.out.2
        rw [Int.mul_comm] at a1
        rw [Int.add_mul] at a2
        omega
  · go_enter Tryz.func77, Tryz.ntmps77
    go_wp2_with fail
    go_quiet (fail)
    go_wp2_with fail
    clear hGG htop
    go_loopw [7] (fun t wr => ∃ X : Int, t = .int .u64 X ∧ q ≤ X ∧ X ≤ 4294967295 ∧ Below w.heap.size w wr) (fun t _ => (intOf t).toNat)
    case atStart => exact ⟨4294967295, rfl, by omega, by omega, bdw (Below.refl _ _) _⟩
    case round =>
      obtain ⟨X, rfl, hX0, hX1, hb⟩ := hrel
      have HB := hid hb
      have HC := hid (HBE.out wr hb X (by omega) hX1)
      by_cases hlt : q < X
      · have hdec : decide (segTo ys i (e + 2) < val ds * X) = true := decide_eq_true (by
          have a1 := HQ.out.2
          have a2 : (q + 1) * val ds ≤ X * val ds := Int.mul_le_mul_of_nonneg_right (by omega) (Int.le_of_lt HD0.out)
          rw [Int.mul_comm (val ds)]
          omega)
        rw [hdec] at HC
        clear hb hdec
        go_wp2_with fail
        refine Calls.mono HC.out ?_
        rintro x w2 ⟨rfl, hb2⟩
        have HB2 := hid (bt HB.out hb2)
        clear hb2
        go_wp2_with fail
        go_roundw
        case rel => exact ⟨X - 1, rfl, by omega, by omega, HB2.out⟩
        case measure => simp [intOf]; omega
      · obtain rfl : X = q := by omega
        have hdec : decide (segTo ys i (e + 2) < val ds * X) = false := decide_eq_false (by
          have a1 := HQ.out.1
          rw [Int.mul_comm (val ds)]
          omega)
        rw [hdec] at HC
        clear hb hdec
        go_wp2_with fail
        refine Calls.mono HC.out ?_
        rintro x w2 ⟨rfl, hb2⟩
        have HB2 := hid (bt HB.out hb2)
        have HF := hid (HOF.out w2 HB2.out)
        clear hb2 HC HBE HOF
        go_wp2_with fail
        refine Calls.mono HF.out ?_
        rintro x w3 ⟨us, rfl, o3, w3', k3, s3, g3⟩
        have HR := hid (And.intro o3 (And.intro w3' (And.intro k3 (And.intro s3 (grown_trans (grown_of_below HB2.out (some g)) g3)))))
        clear o3 w3' k3 s3 g3 HF
        go_wp2_with fail
        go_ret
        refine ⟨X, us, rfl, q0, q1, HR.out.1, HR.out.2.1, HR.out.2.2.1, by rw [Int.mul_comm]; exact HR.out.2.2.2.1, ?_, HR.out.2.2.2.2⟩
        have a1 := HR.out.2.2.2.1
        have a2 := HQ.out.2
        rw [Int.mul_comm] at a1
        rw [Int.add_mul] at a2
        omega
end Go.Proofs.YtcfcjnlobpoglaaGreat

/- The document's own quotient and rest: slackwaterref01.Over. -/
namespace Go.Proofs.YtcfcjnlobpoglaaGreat
open Go.RowKit
set_option linter.unusedVariables false

/-- A quotient and a rest, in new memory. -/
def Ref2 (w : World) (xs ys : List Int) (x : Ending) (w' : World) : Prop := ∃ v zs u rs, x = .returned (.tuple #[v, u]) ∧ w'.ownsRow w.heap.size 66 1 v zs.length (zs.map (Value.int .u32)) ∧ w'.ownsRow w.heap.size 66 1 u rs.length (rs.map (Value.int .u32)) ∧ Wd zs ∧ Wd rs ∧ Trimmed zs ∧ Trimmed rs ∧ val xs = val zs * val ys + val rs ∧ val rs < val ys ∧ Below w.heap.size w w'
theorem refDown_zero (v : Value) (xs : List Int) (t : Nat) (w : World) (h : Sl w v xs) (hn : xs.length ≤ 274877906944) (ht : t ≤ 31) :
    Calls Tryz.prog 78 #[v, .int .i64 (t : Int)] w (Ref1 w (val xs / 2 ^ t)) := by
  obtain ⟨a, cap, rfl, hr⟩ := h
  by_cases h0 : xs.length = 0
  · refine Calls.mono (refDown_none a xs.length cap 0 t (t : Int) w hn (by omega) (by omega) ht (by omega)) ?_
    rintro e w' ⟨rfl, rfl⟩
    have hx : xs = [] := List.eq_nil_of_length_eq_zero h0
    refine ⟨_, [], rfl, World.ownsRow_nil _ _ _ _, Wd.nil, Trimmed.nil, ?_, Below.refl _ _⟩
    rw [hx, val_nil]; simp
  · have e := refDown_any a xs.length cap xs 0 t (t : Int) w hr hn (by omega) ht (by omega)
    rw [Int.pow_zero, Int.ediv_one] at e
    exact e
theorem refUp_zero (v : Value) (xs : List Int) (t : Nat) (w : World) (h : Sl w v xs) (hn : xs.length ≤ 274877906944) (h0 : 0 < xs.length) (ht : t ≤ 31) :
    Calls Tryz.prog 76 #[v, .int .i64 (t : Int)] w (Ref1 w (val xs * 2 ^ t)) := by
  obtain ⟨a, cap, rfl, hr⟩ := h
  have e := refUp_any a xs.length cap xs 0 t (t : Int) w hr hn h0 (by omega) ht (by omega)
  rw [Int.pow_zero, Int.mul_one] at e
  exact e
/-- A stretch of one word more that is below the divisor has a nought at its end. -/
theorem seg_end {vs : List Int} (wv : Wd vs) (k m : Nat) {D : Int} (hD : D < 4294967296 ^ m) (h : segTo vs k (m + 1) < D) : vs[k + m]?.getD 0 = 0 := by
  have hb := wv.at (k + m)
  have sb := segTo_nonneg wv k m
  by_cases c : vs[k + m]?.getD 0 = 0
  · exact c
  · have : 1 * (4294967296 : Int) ^ m ≤ vs[k + m]?.getD 0 * 4294967296 ^ m := Int.mul_le_mul_of_nonneg_right (by omega) (Int.le_of_lt (pw_pos m))
    rw [segTo_succ] at h
    omega
theorem bits_gap {ys : List Int} (hy : Trimmed ys) (e : Nat) (hl : ys.length = e + 2) (h1 : ys[e + 1]?.getD 0 ≤ 4294967295) : 32 * ((e : Int) + 2) - (bitsOf ys : Int) = ((32 - Lib.bitLen (ys[e + 1]?.getD 0).toNat : Nat) : Int) := by
  have hs : sz ys = e + 2 := by rw [← hl]; exact hy
  have hb := bitLen_le32 _ h1
  unfold bitsOf
  rw [hs, if_neg (by omega), show e + 2 - 1 = e + 1 by omega]
  omega
theorem len_of_ge {zs : List Int} (hw : Wd zs) {L : Nat} (h : (4294967296 : Int) ^ L ≤ val zs) : L < zs.length := by
  by_cases c : L < zs.length
  · exact c
  · have h1 := val_lt hw
    have h2 := pw_le (show zs.length ≤ L by omega)
    omega
theorem val_snoc_zero (ls : List Int) : val (ls ++ [0]) = val ls := by
  refine val_eq_of fun j => ?_
  rw [List.getElem?_append]
  split
  · rfl
  · rw [List.getElem?_eq_none (l := ls) (by omega)]
    by_cases e : j - ls.length = 0
    · rw [e]; rfl
    · rw [List.getElem?_eq_none (by simp; omega)]
theorem own_shape0 {w : World} {base e n : Nat} {v : Value} {xs : List Value} (h : w.ownsRow base e 1 v n xs) (hn : 0 < n) : ∃ g cap, v = .slice (some ⟨g, 0, none⟩) n cap ∧ base ≤ g ∧ g < w.heap.size ∧ n ≤ cap ∧ cap ≤ maxLen := by
  obtain ⟨g, cap, rfl, h1, h2⟩ := own_shape' h hn
  have := World.ownsRow.lt h g rfl
  exact ⟨g, cap, rfl, this.1, this.2, h1, h2⟩

set_option maxHeartbeats 1600000 in
set_option maxRecDepth 100000 in
theorem refOver_less (v u : Value) (xs ys : List Int) (w : World) (h : Sl w v xs) (g : Sl w u ys) (hn : xs.length ≤ 8200) (hm : ys.length ≤ 8200) (hlt : val xs < val ys) :
    Calls Tryz.prog 53 #[v, u] w (Ref2 w xs ys) := by
  have HC := hid (refCompare_sl _ _ xs ys w h g (by omega) (by omega))
  rw [cmpI_lt hlt] at HC
  have HT := hid (refTrim_sl _ xs w h (by omega))
  have HLT := hid hlt
  have HW := hid h.wd
  clear h g hlt
  go_enter Tryz.func53, Tryz.ntmps53
  go_wp2_with fail
  refine Calls.mono HC.out ?_
  rintro e w1 ⟨rfl, rfl⟩
  go_wp2_with fail
  refine Calls.mono HT.out ?_
  rintro e w2 ⟨v2, rfl, o2, hb2⟩
  have HO := hid (And.intro (owns_len o2) hb2)
  clear o2 hb2
  go_wp2_with fail
  go_ret2
  exact ⟨_, [], v2, _, rfl, World.ownsRow_nil _ _ _ _, HO.out.1, Wd.nil, HW.out.trimmed, Trimmed.nil, Trimmed.trimmed _, by rw [val_trimmed, val_nil]; omega, by rw [val_trimmed]; exact HLT.out, HO.out.2⟩

set_option maxHeartbeats 1600000 in
set_option maxRecDepth 100000 in
theorem refOver_word (v u : Value) (xs : List Int) (y : Int) (w : World) (h : Sl w v xs) (g : Sl w u [y]) (hn : xs.length ≤ 8200) (hy : 1 ≤ y) (hge : y ≤ val xs) :
    Calls Tryz.prog 53 #[v, u] w (Ref2 w xs [y]) := by
  have HC := hid (refCompare_sl _ _ xs [y] w h g (by omega) (by simp))
  have by' := g.wd.at 0
  simp at by'
  obtain ⟨a, cap, rfl, hr⟩ := h
  obtain ⟨b, cap', rfl, gr⟩ := g
  obtain ⟨b1, o1, rfl, l1, c1⟩ := gr.cells 0 (by simp)
  simp at c1
  have hcap := gr.2.2.2.1
  simp at hcap
  have HS := hid (refSmall_any a _ cap xs y w hr (by omega) ⟨hy, by omega⟩)
  rw [val_one] at HC
  obtain ⟨cc, hcc, hcv⟩ : ∃ c, cmpI (val xs) y = c ∧ (c = 0 ∨ c = 1) := by
    by_cases e : val xs = y
    · exact ⟨0, cmpI_eq e, .inl rfl⟩
    · exact ⟨1, cmpI_gt (by omega), .inr rfl⟩
  rw [hcc] at HC
  have hl1 : List.length [y] = 1 := rfl
  rw [hl1] at HC ⊢
  clear hr gr hge hcc hl1
  rcases hcv with rfl | rfl
  all_goals
    go_enter Tryz.func53, Tryz.ntmps53
    go_wp2_with fail
    refine Calls.mono HC.out ?_
    rintro e w1 ⟨rfl, rfl⟩
    go_wp2_with fail
    refine Calls.mono HS.out ?_
    rintro e w2 ⟨v2, zs, r, rfl, o2, wz, tz, hv, r0, r1, hb2⟩
    have r2 : r ≤ 4294967295 := by omega
    have HO := hid (refOf_val r w2 r0 (by omega))
    have HR := hid (And.intro o2 (And.intro hb2 (And.intro hv r1)))
    clear o2 hb2 hv HC HS r1
    go_wp2_with fail
    refine Calls.mono HO.out ?_
    rintro e w3 ⟨v3, rs, rfl, o3, wr, tr, hvr, hb3⟩
    have HQ := hid (And.intro (owns_base o3 HR.out.2.1.size) (And.intro (owns_later HR.out.1 hb3) (And.intro (bt HR.out.2.1 hb3) hvr)))
    clear o3 hb3 hvr HO
    go_wp2_with fail
    go_ret2
    exact ⟨v2, zs, v3, rs, rfl, HQ.out.2.1, HQ.out.1, wz, wr, tz, tr, by rw [HQ.out.2.2.2, val_one]; exact HR.out.2.2.1, by rw [HQ.out.2.2.2, val_one]; exact HR.out.2.2.2, HQ.out.2.2.1⟩
end Go.Proofs.YtcfcjnlobpoglaaGreat

/- The document's own long division, whole: slackwaterref01.Over of any two numbers. -/
namespace Go.Proofs.YtcfcjnlobpoglaaGreat
open Go.RowKit
set_option linter.unusedVariables false

theorem grown_set' (w : World) (p : Addr) (v : Value) : w.grownBy (w.setCell p v) (some p.block) :=
  ⟨rfl, rfl, rfl, by simp [World.setCell], fun k _ hne => Below.heap_setCell w p v k (fun e => hne (by rw [e]))⟩

set_option maxHeartbeats 12800000 in
set_option maxRecDepth 100000 in
theorem refOver_long (v u : Value) (xs ys : List Int) (e : Nat) (w : World) (h : Sl w v xs) (g : Sl w u ys) (hn : xs.length ≤ 8200) (hm : ys.length ≤ 8200) (hx : Trimmed xs) (hy : Trimmed ys) (hl : ys.length = e + 2) (hge : val ys ≤ val xs) :
    Calls Tryz.prog 53 #[v, u] w (Ref2 w xs ys) := by
  obtain ⟨i0, hi, hz0, hz1, hz2⟩ := info_parts Tryz.infoW
  have wx := h.wd
  have wy := g.wd
  have hyx := len_of_lt wy hy (L := xs.length) (by have := val_lt wx; omega)
  obtain ⟨s1, s2, s3, s4, s5⟩ := normal wy hy e hl
  have hgap := bits_gap hy e hl s2
  obtain ⟨t, ht⟩ : ∃ t, 32 - Lib.bitLen (ys[e + 1]?.getD 0).toNat = t := ⟨_, rfl⟩
  rw [ht] at s3 s4 s5 hgap
  have HC := hid (refCompare_sl _ _ xs ys w h g (by omega) (by omega))
  obtain ⟨cc, hcc, hcv⟩ : ∃ c, cmpI (val xs) (val ys) = c ∧ (c = 0 ∨ c = 1) := by
    by_cases e : val xs = val ys
    · exact ⟨0, cmpI_eq e, .inl rfl⟩
    · exact ⟨1, cmpI_gt (by omega), .inr rfl⟩
  rw [hcc] at HC
  have HB := hid (refBits_sl _ ys w g (by omega))
  have HSX := hid h
  have HSY := hid g
  have HN := hid (And.intro s4 (And.intro s5 (And.intro hge hl)))
  have hyn : e + 2 ≤ xs.length := by omega
  obtain ⟨a, cap, rfl, hr⟩ := h
  obtain ⟨b, cap', rfl, gr⟩ := g
  rw [hl] at HC HB ⊢
  obtain ⟨B, hB⟩ : ∃ B, bitsOf ys = B := ⟨_, rfl⟩
  rw [hB] at HB hgap
  have hB0 : (B : Int) ≤ 1000000 := by omega
  have HY' : Hid (Sl w (.slice b (e + 2) cap') ys) := by have e1 := HSY.out; rw [hl] at e1; exact e1
  clear hr gr hcc s1 s2 s4 s5 ht hge hl hB HSY hm hyx
  have hnl : ¬ cc < 0 := by omega
  have hc1 : cc ≤ 1 := by omega
  clear hcv
  skip
  · skip
    go_enter Tryz.func53, Tryz.ntmps53
    go_wp2_with fail
    refine Calls.mono HC.out ?_
    rintro x w' ⟨rfl, rfl⟩
    clear HC
    go_wp2_with fail
    refine Calls.mono HB.out ?_
    rintro x wB ⟨rfl, hbB⟩
    have HU1 := hid (refUp_zero _ ys t wB (HY'.out.later hbB) (by have := HN.out.2.2.2; omega) (by have := HN.out.2.2.2; omega) s3)
    have HBB := hid hbB
    clear hbB HB
    go_wp2_with fail
    refine Calls.mono HU1.out ?_
    intro x w1 h1
    obtain ⟨a1, c1, ds, rfl, oD, wD, tD, vD, hb1⟩ := h1.slice
    have hDl : ds.length = e + 2 := by
      have l1 := len_of_lt wD tD (L := e + 2) (by rw [vD]; exact HN.out.1)
      have l2 := len_of_ge wD (L := e + 1) (by
        rw [vD]
        have q1 := HN.out.2.1
        have q2 : (4294967296 : Int) ^ (e + 2) = 4294967296 ^ (e + 1) * 4294967296 := pw_succ (e + 1)
        have q3 := pw_pos (e + 1)
        omega)
      omega
    have hDt := top_one wD e hDl (by rw [vD]; exact HN.out.2.1)
    have HDG : Hid ((4294967296 : Int) ^ (e + 1) ≤ val ds) := by
      show _ ≤ _
      rw [vD]
      have q1 := HN.out.2.1
      have q2 : (4294967296 : Int) ^ (e + 2) = 4294967296 ^ (e + 1) * 4294967296 := pw_succ (e + 1)
      have q3 := pw_pos (e + 1)
      omega
    have HDM : Hid (val ds < 4294967296 ^ (e + 2)) := by show _ < _; rw [vD]; exact HN.out.1
    have HB1 := hid (bt HBB.out hb1)
    have HD := hid (Sl.own oD wD)
    rw [hDl] at HD
    have HU2 := hid (refUp_zero _ xs t w1 (HSX.out.later HB1.out) (by omega) (by omega) s3)
    have HVD := hid vD
    have HDl := hid hDl
    have HDt := hid hDt
    have HWD := hid wD
    rw [hDl]
    clear h1 oD wD tD vD hb1 hDl hDt HU1 HBB
    go_wp2_with fail
    refine Calls.mono HU2.out ?_
    intro x w2 h2
    obtain ⟨a2, c2, ls, rfl, oL, wL, tL, vL, hb2⟩ := h2.slice
    have hLl : e + 2 ≤ ls.length := by
      have := len_of_ge wL (L := e + 1) (by
        rw [vL]
        have q1 := HN.out.2.1
        have q2 : (4294967296 : Int) ^ (e + 2) = 4294967296 ^ (e + 1) * 4294967296 := pw_succ (e + 1)
        have q3 := pw_pos (e + 1)
        have q4 : val ys * 2 ^ t ≤ val xs * 2 ^ t := Int.mul_le_mul_of_nonneg_right HN.out.2.2.1 (Int.le_of_lt (two_pos t))
        omega)
      omega
    have hLm : ls.length ≤ 8201 := len_of_lt wL tL (by
      rw [vL]
      have q1 := val_lt wx
      have q2 : (4294967296 : Int) ^ (xs.length + 1) ≤ 4294967296 ^ 8201 := pw_le (by omega)
      have q3 : (2 : Int) ^ t ≤ 2 ^ 32 := two_le (by omega)
      have q4 : val xs * 2 ^ t ≤ val xs * 2 ^ 32 := Int.mul_le_mul_of_nonneg_left q3 (val_nonneg wx)
      rw [pw_succ] at q2
      generalize (4294967296 : Int) ^ 8201 = Z at *
      generalize (4294967296 : Int) ^ xs.length = Y at *
      have q5 : (2 : Int) ^ 32 = 4294967296 := by decide
      rw [q5] at q4
      omega)
    have hs2 := hb2.size
    have HVL := hid vL
    have HB2 := hid hb2
    have HWL := hid wL
    have oL' := oL
    obtain ⟨R, hR⟩ : ∃ R, R = ls.map (Value.int .u32) := ⟨_, rfl⟩
    obtain ⟨L, hL⟩ : ∃ L, ls.length = L := ⟨_, rfl⟩
    rw [← hR, hL] at oL
    rw [hL] at hLl hLm ⊢
    have HRL : Hid (R ++ [.int .u32 0] = (ls ++ [0]).map (Value.int .u32)) := by show _ = _; rw [hR]; simp
    have HLL := hid hL
    clear h2 oL' vL hb2 HU2 hR hL tL wL
    go_wp2_with (at_builtin; refine wpList_append_own _ rfl _ _ 24 rfl w1.heap.size 66 i0 (.int .u32 0) 1 4 Tryz.underlying24 hi hz0 hz1 hz2 rfl (by decide) _ _ _ rfl (oL.alloc _) ⟨w2.heap.size, 0, none⟩ 1 1 [.int .u32 0] rfl rfl (cell_one_new _ _ _) (by simp [Value.oneCell']) (by unfold maxLen; omega) (by omega) (by simp; omega) ?_)
    intro v3 w3 o3 hg3 _
    have hb3 : Below w1.heap.size w1 w3 := (HB2.out.alloc (by omega) _).grown hg3 (by simp; omega) (fun g hg => (oL.lt g hg).1)
    clear hg3 oL
    rw [HRL.out] at o3
    obtain ⟨gR, cR, hv3, gb, gl, cl, cm⟩ := own_shape0 o3 (by omega)
    subst hv3
    obtain ⟨K, hK1, hK2⟩ : ∃ K, L + 1 ≤ K + (e + 2) ∧ K + (e + 2) ≤ L + 1 := ⟨L + 1 - (e + 2), by omega, by omega⟩
    have HO3 : Hid (OwnC w3 w1.heap.size gR (L + 1) cR (ls ++ [0])) := o3
    have HB3 := hid hb3
    have hs3 := hb3.size
    have hKi : ((L : Int) + 1 - ((e : Int) + 2)) = (K : Int) := by omega
    clear o3 hb3 HRL
    go_wp2_with (at_make; refine wpList_make_full _ rfl _ _ 24 rfl w3.heap.size 66 i0 (.int .u32 0) 1 Tryz.underlying24 hi hz0 hz1 _ _ _ _ K rfl rfl (by omega) (by omega) (by rw [hz2]; omega) (by unfold maxLen; omega) (Nat.le_refl _) ?_)
    intro w4 hown hgrow
    have hbel4 : Below w3.heap.size w3 w4 := (Below.refl _ _).grown hgrow (Nat.le_refl _) (fun k hk => by simp at hk)
    have HOQ := hid (OwnW.made hown)
    have HB4 := hid hbel4
    clear hown hgrow hbel4
    go_wp2_with fail
    go_loopw [12] (fun z wr => ∃ (k : Nat) (us qs : List Int), k ≤ K ∧ z = .int .i64 ((k : Int) - 1) ∧ Wd us ∧ Wd qs ∧ Hid (val ls = valTo us (k + (e + 2)) + segTo qs k (K - k) * val ds * 4294967296 ^ k) ∧ Hid (segTo us k (e + 2) < val ds) ∧ Hid (∀ j, k + (e + 2) ≤ j → us[j]?.getD 0 = 0) ∧
      OwnC wr w1.heap.size gR (L + 1) cR us ∧ OwnW wr w3.heap.size w3.heap.size K qs ∧ Below w1.heap.size w1 wr) (fun z _ => (intOf z + 1).toNat)
    case atStart =>
      have hl0 : (ls ++ [0]).length = L + 1 := by rw [List.length_append, HLL.out]; rfl
      have hw0 : Wd (ls ++ [0]) := HWL.out.append (Wd.one (by omega))
      have hz0' : (ls ++ [0])[K + (e + 1)]?.getD 0 = 0 := by
        rw [List.getElem?_append, if_neg (by have := HLL.out; omega), show K + (e + 1) - ls.length = 0 by have := HLL.out; omega]; rfl
      refine ⟨K, ls ++ [0], List.replicate K 0, Nat.le_refl _, rfl, hw0, Wd.replicate _, ?_, ?_, ?_, owns_later HO3.out HB4.out, HOQ.out, HB3.out.trans (HB4.out.mono hs3)⟩
      · show _ = _
        rw [valTo_stable _ _ (by rw [hl0]; omega), val_snoc_zero, Nat.sub_self]
        simp [segTo]
      · show _ < _
        have q1 := (segTo_bounds hw0 K (e + 1)).2
        have q2 := HDG.out
        rw [show e + 2 = e + 1 + 1 by omega, segTo_succ, hz0', Int.zero_mul]
        omega
      · intro j hj
        rw [List.getElem?_eq_none (by rw [hl0]; omega)]; rfl
    case round =>
      obtain ⟨k, us, qs, hk, rfl, wu, wq, HV, HS, HZ, oU, oQ, hb⟩ := hrel
      have hbs := hb.size
      have hqb := oQ.base
      have hub := (World.ownsRow.lt oU gR rfl)
      have hlu := oU.len
      have hlq := oQ.len
      rcases k with _ | k
      · have hval : val us = valTo us (e + 2) := by
          have e1 : ∀ m, e + 2 ≤ m → valTo us m = valTo us (e + 2) := fun m hm => by
            induction m with
            | zero => omega
            | succ m ih =>
              by_cases c : e + 2 = m + 1
              · rw [c]
              · rw [valTo_succ, HZ.out m (by omega), ih (by omega)]; omega
          rw [← valTo_stable us (L + 1) (by omega)]
          exact e1 (L + 1) (by omega)
        have HF : Hid (val xs = val qs * val ys + val us / 2 ^ t ∧ val us / 2 ^ t < val ys) := by
          have e1 := HV.out
          have e2 := HS.out
          rw [segTo_zero, ← hval] at e2
          rw [segTo_zero, Nat.zero_add, Nat.sub_zero, valTo_stable qs K (by omega), Int.pow_zero, Int.mul_one, HVL.out, HVD.out, ← hval, ← Int.mul_assoc] at e1
          rw [HVD.out] at e2
          have hp := two_pos t
          have e3 : val us = (val xs - val qs * val ys) * 2 ^ t := by rw [Int.sub_mul]; omega
          have e4 : val us / 2 ^ t = val xs - val qs * val ys := by rw [e3]; exact Int.mul_ediv_cancel _ (by omega)
          refine ⟨by rw [e4]; omega, Int.ediv_lt_of_lt_mul hp e2⟩
        have hsQ : Sl wr (.slice (some ⟨w3.heap.size, 0, none⟩) K K) qs := by
          have e1 := Sl.own oQ wq
          exact e1
        have HTQ := hid (refTrim_sl _ qs wr hsQ (by omega))
        have HUO := hid oU
        have HBW : Hid (Below w.heap.size w wr) := HB1.out.trans (hb.mono HB1.out.size)
        clear HV HS HZ oU oQ hsQ hval hb
        go_wp2_with fail
        refine Calls.mono HTQ.out ?_
        rintro x w5 ⟨v5, rfl, o5, hb5⟩
        have HT5 := hid (And.intro o5 hb5)
        have HTR := hid (refTrim_sl _ us w5 (Sl.own (owns_later HUO.out hb5) wu) (by omega))
        clear o5 hb5 HTQ
        go_wp2_with fail
        refine Calls.mono HTR.out ?_
        rintro x w6 ⟨v6, rfl, o6, hb6⟩
        have HDN := hid (refDown_zero v6 (trimmed us) t w6 (Sl.own o6 wu.trimmed) (by rw [length_trimmed]; have := sz_le us; omega) s3)
        rw [val_trimmed] at HDN
        have HB6 := hid hb6
        clear o6 hb6 HTR
        go_wp2_with fail
        refine Calls.mono HDN.out ?_
        rintro x w7 ⟨v7, rs, rfl, o7, w7', t7, hv7, hb7⟩
        have HE := hid (And.intro o7 (And.intro hv7 hb7))
        clear o7 hv7 hb7 HDN
        go_wp2_with fail
        go_ret2
        have hb57 := bt HB6.out HE.out.2.2
        have hb07 := bt HBW.out (bt HT5.out.2 hb57)
        refine ⟨v5, _, v7, rs, rfl, owns_base (owns_len (owns_later HT5.out.1 hb57)) HBW.out.size, owns_base HE.out.1 (by have := HBW.out.size; have := HT5.out.2.size; have := HB6.out.size; omega), wq.trimmed, w7', Trimmed.trimmed _, t7, ?_, ?_, hb07⟩
        · rw [val_trimmed, HE.out.2.1]; exact HF.out.1
        · rw [HE.out.2.1]; exact HF.out.2
      · have ek : (((k + 1 : Nat) : Int) - 1) = (k : Int) := by omega
        rw [ek]
        clear ek
        have hs1 : segTo us k (e + 2 + 1) < 4294967296 * val ds := by
          have b0 := wu.at k
          have q := HS.out
          rw [segTo_cons]
          omega
        have HDG2 := hid (refDigit_any w1.heap.size gR (L + 1) cR k (e + 1) (cR - k) us a1 c1 ds wr oU wu (by omega) (by omega) (by omega) (by omega) (HD.out.later hb) HDl.out HDt.out hs1)
        have HOQ2 := hid oQ
        have HB5 := hid hb
        have hck : ¬ cR = k := by omega
        have HLS := hid (fun vs q wv => long_step us vs qs (e + 2) K k (val ls) (val ds) q (by omega) hlq wv HDM.out HV.out)
        have HZ2 := hid HZ.out
        clear oU oQ hb hs1 HV HS HZ
        go_wp2_with fail
        rw [show k + (e + 2) + 1 - k = e + 1 + 2 by omega]
        refine Calls.mono HDG2.out ?_
        rintro x w5 ⟨q, vs, rfl, q0, q1, oV, wv, kV, sV, ltV, gV⟩
        have hnq : (w3.heap.size : Nat) ≠ gR := by omega
        have oQ5 : OwnW w5 w3.heap.size w3.heap.size K qs := World.ownsRow.kept HOQ2.out gV (.inr (fun e => hnq (Option.some.inj e)))
        have y1 := oQ5.cell k (by omega)
        have f1 := oQ5.free k
        have HQ6 := hid (oQ5.set k q)
        have HR6 : Hid (OwnC (w5.setCell ⟨w3.heap.size, k, none⟩ (.int .u32 q)) w1.heap.size gR (L + 1) cR vs) := World.ownsRow.kept oV (grown_set' w5 ⟨w3.heap.size, k, none⟩ (.int .u32 q)) (.inr (fun e => hnq (Option.some.inj e).symm))
        have HB6 : Hid (Below w1.heap.size w1 (w5.setCell ⟨w3.heap.size, k, none⟩ (.int .u32 q))) := (HB5.out.grown gV hbs (fun g hg => by have := Option.some.inj hg; omega)).setCell (p := ⟨w3.heap.size, k, none⟩) hs3 _
        obtain ⟨r1, r2⟩ := HLS.out vs q wv (fun j hj => kV j (.inl hj)) sV ltV
        have HR := hid (And.intro r1 r2)
        have HZN : Hid (∀ j, k + (e + 2) ≤ j → vs[j]?.getD 0 = 0) := fun j hj => by
          by_cases c : j = k + (e + 2)
          · rw [c]; exact seg_end wv k (e + 2) HDM.out ltV
          · rw [kV j (.inr (by omega))]; exact HZ2.out j (by omega)
        clear oV kV sV ltV gV oQ5 r1 r2 HLS HZ2 HDG2
        go_wp2_with fail
        go_roundw
        case rel => exact ⟨k, vs, qs.set k q, by omega, rfl, wv, wq.set k ⟨q0, q1⟩, HR.out.1, HR.out.2, HZN, HR6.out, HQ6.out, HB6.out⟩
        case measure => simp [intOf]

theorem refOver_any (v u : Value) (xs ys : List Int) (w : World) (h : Sl w v xs) (g : Sl w u ys) (hn : xs.length ≤ 8200) (hm : ys.length ≤ 8200) (hx : Trimmed xs) (hy : Trimmed ys) (h0 : 0 < ys.length) :
    Calls Tryz.prog 53 #[v, u] w (Ref2 w xs ys) := by
  by_cases hlt : val xs < val ys
  · exact refOver_less v u xs ys w h g hn hm hlt
  · by_cases h1 : ys.length = 1
    · obtain ⟨y, rfl⟩ := List.length_eq_one_iff.1 h1
      have hy1 : 1 ≤ y := by
        have b := g.wd.head
        by_cases c : y = 0
        · subst c; exact absurd hy (by unfold Trimmed; decide)
        · omega
      rw [val_one] at hlt
      exact refOver_word v u xs y w h g hn hy1 (by omega)
    · exact refOver_long v u xs ys (ys.length - 2) w h g hn hm hx hy (by omega) (by omega)
end Go.Proofs.YtcfcjnlobpoglaaGreat

/- nat.smallDivisor: the greatest common divisor where the second number has at most two words, in new memory. -/
namespace Go.Proofs.YtcfcjnlobpoglaaGreat
open Go.RowKit
set_option linter.unusedVariables false

/-- The greatest common divisor, as a whole number. -/
def gcdI (x y : Int) : Int := (Int.gcd x y : Int)
theorem gcdI_zero (x : Int) (h : 0 ≤ x) : gcdI x 0 = x := by unfold gcdI; rw [Int.gcd_zero_right]; omega
theorem gcdI_comm (x y : Int) : gcdI x y = gcdI y x := by unfold gcdI; rw [Int.gcd_comm]
theorem gcdI_mod (x y : Int) : gcdI x y = gcdI y (x % y) := by
  unfold gcdI
  congr 1
  have e := Int.mul_ediv_add_emod x y
  have h : Int.gcd y x = Int.gcd y (x % y) := by
    have h2 : Int.gcd y (x / y * y + x % y) = Int.gcd y (x % y) := Int.gcd_mul_right_add_right y (x % y) (x / y)
    rw [Int.mul_comm, e] at h2
    exact h2
  rw [Int.gcd_comm, h]
theorem gcdI_rest {x y q r : Int} (h : x = q * y + r) : gcdI x y = gcdI y r := by
  unfold gcdI
  congr 1
  rw [Int.gcd_comm, h]
  exact Int.gcd_mul_right_add_right y r q

/-- One number, in new memory. -/
def Told1 (w : World) (t : Int) (x : Ending) (w' : World) : Prop := ∃ v zs, x = .returned v ∧ w'.ownsRow w.heap.size 66 1 v zs.length (zs.map (Value.int .u32)) ∧ Wd zs ∧ Trimmed zs ∧ val zs = t ∧ Below w.heap.size w w'

theorem val_le2 {ys : List Int} (hw : Wd ys) (h : ys.length ≤ 2) : val ys ≤ 18446744073709551615 := by
  have h1 := val_lt hw
  have h2 : (4294967296 : Int) ^ ys.length ≤ 4294967296 ^ 2 := pw_le h
  omega
theorem u64of_eq {ys : List Int} (h : ys.length ≤ 2) : u64of ys = val ys := by
  unfold u64of
  rw [if_pos (by have := sz_le ys; omega)]

set_option maxHeartbeats 1600000 in
set_option maxRecDepth 100000 in
theorem smallDivisor_any (v u : Value) (xs ys : List Int) (w : World) (h : Sl w v xs) (g : Sl w u ys) (hn : xs.length ≤ 8192) (hx : Trimmed xs) (hy : Trimmed ys) (hl : ys.length ≤ 2) :
    Calls Tryz.prog 128 #[v, u] w (Told1 w (gcdI (val xs) (val ys))) := by
  have wx := h.wd
  have wy := g.wd
  by_cases h0 : ys.length = 0
  · have hz : ys = [] := List.eq_nil_of_length_eq_zero h0
    subst hz
    have HT := hid (trim_sl v xs w h (by omega))
    rw [show sz xs = xs.length from hx, trimmed_of hx] at HT
    have HG : Hid (val xs = gcdI (val xs) (val [])) := by show _ = _; rw [val_nil, gcdI_zero _ (val_nonneg wx)]
    obtain ⟨b, cap', rfl, gr⟩ := g
    clear h gr h0
    go_enter Tryz.func128, Tryz.ntmps128
    go_wp2_with fail
    refine Calls.mono HT.out ?_
    rintro e w1 ⟨v1, rfl, o1, hb⟩
    have HO := hid o1
    clear o1
    go_wp2_with fail
    go_ret
    exact ⟨v1, xs, rfl, HO.out, wx, hx, HG.out, hb⟩
  · have HD := hid (divide_any v u xs ys w h g hn (by omega) hx hy (by omega))
    have HGS := hid g
    obtain ⟨b, cap', rfl, gr⟩ := g
    have hz : ((ys.length : Int) == 0) = false := by simp; exact fun e => h0 (by rw [e]; rfl)
    clear h gr h0
    go_enter Tryz.func128, Tryz.ntmps128
    go_wp2_with fail
    refine Calls.mono HD.out ?_
    rintro e w1 ⟨v1, u1, q, r, c, rfl, oq, orr, _, _, _, _, wq, wR, tq, tr, hv, hlt, hb⟩
    have sR := Sl.own orr wR
    have lr : r.length ≤ 2 := len_of_lt wR tr (by have h1 := val_lt wy; have h2 : (4294967296 : Int) ^ ys.length ≤ 4294967296 ^ 2 := pw_le hl; omega)
    have HU1 := hid (uint64_sl _ ys w1 (HGS.out.later hb) (by omega))
    rw [u64of_eq hl] at HU1
    have HGG := hid (gcdI_rest hv)
    have HSR := hid sR
    have py := val_le2 wy hl
    have pr := val_le2 wR lr
    have py0 := val_nonneg wy
    have pr0 := val_nonneg wR
    obtain ⟨Y, hY⟩ : ∃ Y, val ys = Y := ⟨_, rfl⟩
    obtain ⟨R, hR⟩ : ∃ R, val r = R := ⟨_, rfl⟩
    rw [hY] at HU1 HGG py py0 ⊢
    rw [hR] at HGG pr pr0
    have HR := hid hR
    have HY := hid hY
    clear oq orr hv hlt sR HD HGS hY hR
    go_wp2_with fail
    refine Calls.mono HU1.out ?_
    rintro e w2 ⟨rfl, hb2⟩
    have HU2 := hid (uint64_sl _ r w2 (HSR.out.later hb2) (by omega))
    rw [u64of_eq lr, HR.out] at HU2
    have hb3 := bt hb hb2
    clear hb hb2 HU1 HSR
    go_wp2_with fail
    refine Calls.mono HU2.out ?_
    rintro e w3 ⟨rfl, hb2⟩
    have hb := bt hb3 hb2
    clear hb3 hb2 HU2
    go_wp2_with fail
    go_loopw [7, 9] (fun c d ww => ∃ (p q : Int), c = .int .u64 p ∧ d = .int .u64 q ∧ 0 ≤ p ∧ p ≤ 18446744073709551615 ∧ 0 ≤ q ∧ q ≤ 18446744073709551615 ∧ Hid (gcdI p q = gcdI (val xs) Y) ∧ Below w.heap.size w ww) (fun _ d _ => (intOf d).toNat)
    case atStart => exact ⟨Y, R, rfl, rfl, py0, py, pr0, pr, HGG.out.symm, hb⟩
    case round =>
      obtain ⟨p, q, rfl, rfl, p0, p1, q0, q1, HG, hbw⟩ := hrel
      by_cases hq : q = 0
      · subst hq
        have HF : Hid (p = gcdI (val xs) Y) := by show _ = _; rw [← HG.out, gcdI_zero p p0]
        have HOF := hid (of_any p wr p0 p1)
        go_wp2_with fail
        refine Calls.mono HOF.out ?_
        rintro e w4 ⟨v4, rfl, o4, hb4⟩
        have HO := hid (owns_base (owns_len o4) hbw.size)
        have hb5 := bt hbw hb4
        clear o4 hb4 HOF
        go_wp2_with fail
        go_ret
        exact ⟨v4, _, rfl, HO.out, (of_wd p p0 p1).trimmed, Trimmed.trimmed _, by rw [val_trimmed, val_two, HY.out, ← HF.out]; omega, hb5⟩
      · have hne : (q != 0) = true := by simp [hq]
        have m0 : 0 ≤ p % q := Int.emod_nonneg _ hq
        have m1 : p % q < q := Int.emod_lt_of_pos _ (by omega)
        have HG' : Hid (gcdI q (p % q) = gcdI (val xs) Y) := by show _ = _; rw [← gcdI_mod]; exact HG.out
        go_wp2_with fail
        go_quiet (fail)
        go_wp2_with fail
        go_roundw
        case rel => exact ⟨q, p % q, rfl, by go_num, q0, q1, m0, by omega, HG', bdn hbw _⟩
        case measure => simp [intOf]; omega
end Go.Proofs.YtcfcjnlobpoglaaGreat

/- The document's own greatest common divisor: slackwaterref01.Common. -/
namespace Go.Proofs.YtcfcjnlobpoglaaGreat
open Go.RowKit
set_option linter.unusedVariables false

set_option maxHeartbeats 3200000 in
set_option maxRecDepth 100000 in
theorem refCommon_any (v u : Value) (xs ys : List Int) (w : World) (h : Sl w v xs) (g : Sl w u ys) (hn : xs.length ≤ 8200) (hm : ys.length ≤ 8200) (hx : Trimmed xs) (hy : Trimmed ys) :
    Calls Tryz.prog 52 #[v, u] w (Ref1 w (gcdI (val xs) (val ys))) := by
  have HS := hid (And.intro h g)
  obtain ⟨a, cap, rfl, hr⟩ := h
  obtain ⟨b, cap', rfl, gr⟩ := g
  clear hr gr
  go_enter Tryz.func52, Tryz.ntmps52
  go_wp2_with fail
  go_loopg [0, 1] (val ys).toNat (fun k s0 s1 wr => ∃ (a : Option Addr) (c : Nat) (us : List Int) (b : Option Addr) (d : Nat) (vs : List Int), s0 = .slice a us.length c ∧ s1 = .slice b vs.length d ∧ us.length ≤ 8200 ∧ vs.length ≤ 8200 ∧ Hid (Sl wr (.slice a us.length c) us ∧ Sl wr (.slice b vs.length d) vs ∧ Trimmed us ∧ Trimmed vs ∧ (k : Int) = val vs ∧ gcdI (val us) (val vs) = gcdI (val xs) (val ys)) ∧ Below w.heap.size w wr)
  case atStart => exact ⟨a, cap, xs, b, cap', ys, rfl, rfl, hn, hm, ⟨HS.out.1, HS.out.2, hx, hy, by have := val_nonneg HS.out.2.wd; omega, rfl⟩, Below.refl _ _⟩
  case round =>
    obtain ⟨a1, c1, us, b1, d1, vs, rfl, rfl, lu, lv, HR, hb⟩ := hrel
    by_cases h0 : vs.length = 0
    · have HF : Hid (val us = gcdI (val xs) (val ys)) := by
        have e1 : vs = [] := List.eq_nil_of_length_eq_zero h0
        have e2 := HR.out.2.2.2.2.2
        rw [e1, val_nil, gcdI_zero _ (val_nonneg HR.out.1.wd)] at e2
        exact e2
      have HT := hid (refTrim_sl _ us wr HR.out.1 (by omega))
      have HW := hid HR.out.1.wd
      rw [h0]
      clear HR HS h0 lv
      go_wp2_with fail
      refine Calls.mono HT.out ?_
      rintro e w3 ⟨v3, rfl, o3, hb3⟩
      have HO3 := hid (owns_base (owns_len o3) hb.size)
      have hbF := bt hb hb3
      clear o3 hb3
      go_wp2_with fail
      go_ret
      exact ⟨v3, _, rfl, HO3.out, HW.out.trimmed, Trimmed.trimmed _, by rw [val_trimmed]; exact HF.out, hbF⟩
    · have hpos : (0 : Int) < (vs.length : Int) := by omega
      have HO := hid (refOver_any _ _ us vs wr HR.out.1 HR.out.2.1 lu lv HR.out.2.2.1 HR.out.2.2.2.1 (by omega))
      have HB := hid hb
      clear hb HS
      go_wp2_with fail
      refine Calls.mono HO.out ?_
      rintro e w2 ⟨v2, zs, v3, rs, rfl, o2, o3, wz, wr', tz, tr, hv, hlt, hb2⟩
      obtain ⟨a3, c3, hs⟩ := own_slice' o3
      subst hs
      have lr : rs.length ≤ 8200 := by
        have := len_of_lt wr' tr (L := vs.length) (by have := val_lt HR.out.2.1.wd; omega)
        omega
      have HN : Hid (Sl w2 (.slice b1 vs.length d1) vs ∧ Sl w2 (.slice a3 rs.length c3) rs ∧ Trimmed vs ∧ Trimmed rs ∧ ((val rs).toNat : Int) = val rs ∧ gcdI (val vs) (val rs) = gcdI (val xs) (val ys)) :=
        ⟨HR.out.2.1.later hb2, Sl.own o3 wr', HR.out.2.2.2.1, tr, by have := val_nonneg wr'; omega, by rw [← HR.out.2.2.2.2.2]; exact (gcdI_rest hv).symm⟩
      have HM : Hid ((val rs).toNat < (val vs).toNat) := by have := val_nonneg wr'; show _ < _; omega
      have HBN := hid (bt HB.out hb2)
      have HKK := hid HR.out.2.2.2.2.1
      clear o2 o3 hv hlt hb2 HR HO HB
      go_wp2_with fail
      go_roundg (val rs).toNat
      case rel => exact ⟨b1, d1, vs, a3, c3, rs, rfl, rfl, lv, lr, HN, HBN.out⟩
      case measure => have := HM.out; have := HKK.out; omega
end Go.Proofs.YtcfcjnlobpoglaaGreat

/- Lists that lie apart, two, four, twelve of them; a store of six cells. (tools/mkkg.py) -/
namespace Go.Proofs.YtcfcjnlobpoglaaGreat
open Go.RowKit
set_option linter.unusedVariables false

/-- Two lists that lie apart. -/
def Kp (v u : Value) : Prop := v.ownBlock = none ∨ v.ownBlock ≠ u.ownBlock
theorem Kp.far {v u : Value} {a b c d : Nat} (h : Within v a b) (g : Within u c d) (hd : b ≤ c ∨ d ≤ a) : Kp v u := by
  cases e : v.ownBlock with
  | none => exact .inl e
  | some k =>
    refine .inr ?_
    intro f
    rw [e] at f
    have h1 := h k e
    have h2 := g k f.symm
    omega
theorem Kp.turn {v u : Value} (h : Kp v u) : Kp u v := by
  cases e : u.ownBlock with
  | none => exact .inl e
  | some k =>
    refine .inr ?_
    intro f
    rcases h with h | h
    · rw [e] at f; rw [h] at f; cases f
    · exact h f.symm
theorem Kp.rows {w : World} {base n m c d : Nat} {a b : Option Addr} {xs ys : List Value} (h : w.ownsRow base 66 1 (.slice a n c) n xs) (g : w.ownsRow base 66 1 (.slice b m d) m ys) (hab : a = none ∨ a ≠ b) : Kp (.slice a n c) (.slice b m d) := by
  rcases h.2 with ⟨h1, _⟩ | ⟨k, cap, cur, hv, _⟩
  · cases h1; exact .inl rfl
  · rcases g.2 with ⟨g1, _⟩ | ⟨l, cap', cur', gv, _⟩
    · cases g1
      cases hv
      exact .inr (by simp [Value.ownBlock])
    · cases hv
      cases gv
      refine .inr ?_
      rcases hab with hab | hab
      · cases hab
      · intro e
        simp [Value.ownBlock] at e
        exact hab (by rw [e])
theorem kg_within {w : World} {base n : Nat} {v : Value} {xs : List Value} (h : w.ownsRow base 66 1 v n xs) : Within v base w.heap.size := fun g hg => h.lt g hg
/-- Four lists that lie apart. -/
def Kp4 (u v p q : Value) : Prop := Kp u v ∧ Kp p q ∧ Kp u p ∧ Kp u q ∧ Kp v p ∧ Kp v q

/-- Four lists apart, by their numbers. -/
theorem kp_four {v : Nat → Value} (h : Kp4 (v 0) (v 1) (v 2) (v 3)) : ∀ i j, i < 4 → j < 4 → i ≠ j → Kp (v i) (v j) := by
  obtain ⟨h01, h23, h02, h03, h12, h13⟩ := h
  intro i j hi hj hne
  match i, hi, j, hj with
  | 0, _, 0, _ => omega
  | 0, _, 1, _ => exact h01
  | 0, _, 2, _ => exact h02
  | 0, _, 3, _ => exact h03
  | 1, _, 0, _ => exact h01.turn
  | 1, _, 1, _ => omega
  | 1, _, 2, _ => exact h12
  | 1, _, 3, _ => exact h13
  | 2, _, 0, _ => exact h02.turn
  | 2, _, 1, _ => exact h12.turn
  | 2, _, 2, _ => omega
  | 2, _, 3, _ => exact h23
  | 3, _, 0, _ => exact h03.turn
  | 3, _, 1, _ => exact h13.turn
  | 3, _, 2, _ => exact h23.turn
  | 3, _, 3, _ => omega
theorem kown_put1 {w : World} {base e n b : Nat} {v : Value} {xs : List Value} (h : w.ownsRow base e 1 v n xs) (hb : ∀ g, v.ownBlock = some g → g ≠ b) (j : Nat) (u : Value) : (w.setCell ⟨b, j, none⟩ u).ownsRow base e 1 v n xs := by
  refine ⟨h.1, h.2.imp id ?_⟩
  rintro ⟨g, cap, cur, rfl, hbg, hg, h1, h2, h3, h4⟩
  refine ⟨g, cap, cur, rfl, hbg, ?_, h1, h2, h3, h4⟩
  rw [Below.heap_setCell w ⟨b, j, none⟩ u g (hb g rfl)]
  exact hg
end Go.Proofs.YtcfcjnlobpoglaaGreat

/- Fractions as plain arithmetic: numerator over denominator with nothing in common; sums and products as they are worked with what is in common taken out first. Nothing here speaks of the program. -/
namespace Go.Proofs.YtcfcjnlobpoglaaGreat
open Go.RowKit

theorem gcd1 {x y : Int} : gcdI x y = 1 ↔ Int.gcd x y = 1 := by unfold gcdI; omega
/-- Nothing in common, as a rule for divisors. -/
theorem cop_iff {x y : Int} : gcdI x y = 1 ↔ ∀ k : Nat, (k : Int) ∣ x → (k : Int) ∣ y → k = 1 := by
  rw [gcd1]
  constructor
  · intro h k h1 h2
    have := Int.dvd_gcd h1 h2
    rw [h] at this
    exact Nat.dvd_one.1 this
  · intro h
    exact h _ (Int.gcd_dvd_left ..) (Int.gcd_dvd_right ..)
theorem cop_dvd {x y z : Int} (h : gcdI x y = 1) (hz : z ∣ y) : gcdI x z = 1 :=
  cop_iff.2 fun k h1 h2 => cop_iff.1 h k h1 (Int.dvd_trans h2 hz)
theorem cop_dvd' {x y z : Int} (h : gcdI x y = 1) (hz : z ∣ x) : gcdI z y = 1 :=
  cop_iff.2 fun k h1 h2 => cop_iff.1 h k (Int.dvd_trans h1 hz) h2
theorem nat_cop {x y : Int} (h : gcdI x y = 1) : Nat.Coprime x.natAbs y.natAbs := gcd1.1 h
theorem cop_mul {x y z : Int} (h : gcdI x y = 1) (g : gcdI x z = 1) : gcdI x (y * z) = 1 := by
  rw [gcd1]
  show Nat.gcd x.natAbs (y * z).natAbs = 1
  rw [Int.natAbs_mul]
  exact Nat.Coprime.mul_right (nat_cop h) (nat_cop g)
theorem cop_mul' {x y z : Int} (h : gcdI x z = 1) (g : gcdI y z = 1) : gcdI (x * y) z = 1 := by
  rw [gcdI_comm]; exact cop_mul (by rw [gcdI_comm]; exact h) (by rw [gcdI_comm]; exact g)
/-- A sum has nothing in common with a number that divides one part and has nothing in common with the other. -/
theorem cop_add {x y z : Int} (h : gcdI x z = 1) (g : z ∣ y) : gcdI (x + y) z = 1 :=
  cop_iff.2 fun k h1 h2 => cop_iff.1 h k ((Int.dvd_add_left (Int.dvd_trans h2 g)).1 h1) h2
theorem q_parts {a b x y g : Int} (hg : g = gcdI a b) (h0 : 0 < g) (hx : a = x * g) (hy : b = y * g) : gcdI x y = 1 := by
  have e : gcdI (x * g) (y * g) = gcdI x y * g := by
    show ((Int.gcd (x * g) (y * g) : Nat) : Int) = (Int.gcd x y : Int) * g
    rw [Int.gcd_mul_right, Int.natCast_mul]
    congr 1
    omega
  rw [← hx, ← hy, ← hg] at e
  have e2 : g * 1 = g * gcdI x y := by rw [Int.mul_one, Int.mul_comm]; exact e
  exact (Int.eq_of_mul_eq_mul_left (by omega) e2).symm

theorem fr_num {x d : Int} (hd : 0 < d) (h : gcdI x d = 1) : (Rat.divInt x d).num = x ∧ ((Rat.divInt x d).den : Int) = d := by
  have h1 : Int.gcd d x = 1 := by rw [Int.gcd_comm]; exact gcd1.1 h
  constructor
  · rw [Rat.num_divInt, h1, Int.sign_eq_one_of_pos hd]; simp
  · rw [Rat.den_divInt, h1, if_neg (by omega)]; simp; omega
theorem fr_inj {x d y e : Int} (hd : 0 < d) (h : gcdI x d = 1) (he : 0 < e) (g : gcdI y e = 1) (hq : Rat.divInt x d = Rat.divInt y e) : x = y ∧ d = e := by
  obtain ⟨a1, a2⟩ := fr_num hd h
  obtain ⟨b1, b2⟩ := fr_num he g
  exact ⟨by rw [← a1, ← b1, hq], by rw [← a2, ← b2, hq]⟩
theorem pos_left {x y : Int} (h : 0 < x * y) (hy : 0 < y) : 0 < x := by
  rcases Int.lt_trichotomy x 0 with h1 | h1 | h1
  · have := Int.mul_neg_of_neg_of_pos h1 hy; omega
  · subst h1; simp at h
  · exact h1
theorem fr_add {a b c d g rA rB N s p e : Int} (hb : 0 < b) (hd : 0 < d) (hab : gcdI a b = 1) (hcd : gcdI c d = 1) (hg : g = gcdI b d) (h1 : b = rA * g) (h2 : d = rB * g) (hN : N = a * rB + c * rA) (hs : s = gcdI N g) (hp : N = p * s) (he : d = e * s) :
    0 < rA * e ∧ gcdI p (rA * e) = 1 ∧ Rat.divInt p (rA * e) = Rat.divInt a b + Rat.divInt c d := by
  have hg0 : 0 < g := by
    have : 0 < Int.gcd b d := Int.gcd_pos_iff.2 (Or.inl (by omega))
    rw [hg]; unfold gcdI; omega
  have hs0 : 0 < s := by
    have : 0 < Int.gcd N g := Int.gcd_pos_iff.2 (Or.inr (by omega))
    rw [hs]; unfold gcdI; omega
  have rA0 : 0 < rA := pos_left (by omega) hg0
  have rB0 : 0 < rB := pos_left (by omega) hg0
  have e0 : 0 < e := pos_left (by omega) hs0
  have hr : gcdI rA rB = 1 := q_parts hg hg0 h1 h2
  have c1 : gcdI N rA = 1 := by
    rw [hN]
    exact cop_add (cop_mul' (cop_dvd hab ⟨g, h1⟩) (by rw [gcdI_comm]; exact hr)) ⟨c, by rw [Int.mul_comm]⟩
  have c2 : gcdI N rB = 1 := by
    rw [hN, Int.add_comm]
    exact cop_add (cop_mul' (cop_dvd hcd ⟨g, h2⟩) hr) ⟨a, by rw [Int.mul_comm]⟩
  have hsg : s ∣ g := by rw [hs]; exact Int.gcd_dvd_right ..
  obtain ⟨t, ht⟩ := hsg
  have hpt : gcdI p t = 1 := q_parts hs hs0 hp (by rw [ht, Int.mul_comm])
  have het : e = rB * t := by
    have : e * s = rB * t * s := by rw [← he, h2, ht, Int.mul_comm s t, Int.mul_assoc]
    exact Int.eq_of_mul_eq_mul_right (by omega) this
  have hpN : p ∣ N := ⟨s, hp⟩
  refine ⟨Int.mul_pos rA0 e0, ?_, ?_⟩
  · rw [het]
    exact cop_mul (cop_dvd' c1 hpN) (cop_mul (cop_dvd' c2 hpN) hpt)
  · rw [Rat.divInt_add_divInt _ _ (by omega) (by omega), Rat.divInt_eq_divInt_iff (by have := Int.mul_pos rA0 e0; omega) (by have := Int.mul_pos hb hd; omega)]
    have e1 : a * d + c * b = N * g := by rw [hN, h1, h2]; grind
    rw [e1, hp]
    have e2 : b * d = rA * g * (e * s) := by rw [← he, ← h1]
    rw [e2]
    grind
theorem fr_mul {a b c d f s a1 d1 c1 b1 : Int} (hb : 0 < b) (hd : 0 < d) (hab : gcdI a b = 1) (hcd : gcdI c d = 1) (hf : f = gcdI a d) (hs : s = gcdI c b) (h1 : a = a1 * f) (h2 : d = d1 * f) (h3 : c = c1 * s) (h4 : b = b1 * s) :
    0 < b1 * d1 ∧ gcdI (a1 * c1) (b1 * d1) = 1 ∧ Rat.divInt (a1 * c1) (b1 * d1) = Rat.divInt a b * Rat.divInt c d := by
  have hf0 : 0 < f := by
    have : 0 < Int.gcd a d := Int.gcd_pos_iff.2 (Or.inr (by omega))
    rw [hf]; unfold gcdI; omega
  have hs0 : 0 < s := by
    have : 0 < Int.gcd c b := Int.gcd_pos_iff.2 (Or.inr (by omega))
    rw [hs]; unfold gcdI; omega
  have b0 : 0 < b1 := pos_left (by omega) hs0
  have d0 : 0 < d1 := pos_left (by omega) hf0
  have k1 : gcdI a1 b1 = 1 := cop_dvd' (cop_dvd hab ⟨s, h4⟩) ⟨f, h1⟩
  have k2 : gcdI a1 d1 = 1 := q_parts hf hf0 h1 h2
  have k3 : gcdI c1 b1 = 1 := q_parts hs hs0 h3 h4
  have k4 : gcdI c1 d1 = 1 := cop_dvd' (cop_dvd hcd ⟨f, h2⟩) ⟨s, h3⟩
  refine ⟨Int.mul_pos b0 d0, cop_mul' (cop_mul k1 k2) (cop_mul k3 k4), ?_⟩
  rw [Rat.divInt_mul_divInt, Rat.divInt_eq_divInt_iff (by have := Int.mul_pos b0 d0; omega) (by have := Int.mul_pos hb hd; omega), h1, h2, h3, h4]
  grind
theorem fr_make {x d g p e : Int} (hd : 0 < d) (hg : g = gcdI x d) (hp : x = p * g) (he : d = e * g) : 0 < e ∧ gcdI p e = 1 ∧ Rat.divInt p e = Rat.divInt x d := by
  have hg0 : 0 < g := by
    have : 0 < Int.gcd x d := Int.gcd_pos_iff.2 (Or.inr (by omega))
    rw [hg]; unfold gcdI; omega
  have e0 : 0 < e := pos_left (by omega) hg0
  refine ⟨e0, q_parts hg hg0 hp he, ?_⟩
  rw [Rat.divInt_eq_divInt_iff (by omega) (by omega), hp, he]
  grind
end Go.Proofs.YtcfcjnlobpoglaaGreat

/- nat.leap: one more of Euclid's steps, and whether it holds. -/
namespace Go.Proofs.YtcfcjnlobpoglaaGreat
open Go.RowKit
set_option linter.unusedVariables false

set_option maxHeartbeats 400000 in
set_option maxRecDepth 100000 in
theorem sizeOf_any (x : Int) (w : World) (h0 : -4611686018427387904 ≤ x) (h1 : x ≤ 4611686018427387904) :
    Calls Tryz.prog 145 #[.int .i64 x] w fun e w' => e = .returned (.int .i64 (x.natAbs : Int)) ∧ w = w' := by
  by_cases h : x < 0
  · go_enter Tryz.func145, Tryz.ntmps145
    go_wp2_with fail
    go_ret
    exact ⟨ret_int (by omega), rfl⟩
  · go_enter Tryz.func145, Tryz.ntmps145
    go_wp2_with fail
    go_ret
    exact ⟨ret_int (by omega), rfl⟩

set_option maxHeartbeats 800000 in
set_option maxRecDepth 100000 in
theorem step_any (s a b c d q : Int) (w : World) (hs : 0 ≤ s ∧ s ≤ 4611686018427387904) (h1 : IntKind.i64.wrap (q * c) = q * c) (h2 : IntKind.i64.wrap (q * d) = q * d) (h3 : IntKind.i64.wrap (a - q * c) = a - q * c) (h4 : IntKind.i64.wrap (b - q * d) = b - q * d) :
    Calls Tryz.prog 135 #[.agg #[.int .i64 s, .int .i64 a, .int .i64 b, .int .i64 c, .int .i64 d], .int .i64 q] w fun e w' => e = .returned (.agg #[.int .i64 (s + 1), .int .i64 c, .int .i64 d, .int .i64 (a - q * c), .int .i64 (b - q * d)]) ∧ Below w.heap.size w w' := by
  go_enter Tryz.func135, Tryz.ntmps135
  go_wp2_with fail
  go_returns
  exact ⟨rfl, bt (alloc_later _ _) (alloc_later _ _)⟩

set_option maxHeartbeats 800000 in
set_option maxRecDepth 100000 in
theorem holds_any (s a b c d p q : Int) (w : World) (hb : -4611686018427387904 ≤ b ∧ b ≤ 4611686018427387904) (hd : -4611686018427387904 ≤ d ∧ d ≤ 4611686018427387904) (hp : 0 ≤ p ∧ p ≤ 4611686018427387904) (hq : 0 ≤ q ∧ q ≤ 4611686018427387904)
    (hsum : (b.natAbs : Int) + (d.natAbs : Int) ≤ 9223372036854775807) :
    Calls Tryz.prog 136 #[.agg #[.int .i64 s, .int .i64 a, .int .i64 b, .int .i64 c, .int .i64 d], .int .i64 p, .int .i64 q] w fun e w' => e = .returned (.bool (decide ((d.natAbs : Int) ≤ q ∧ (b.natAbs : Int) + (d.natAbs : Int) ≤ p - q))) ∧ Below w.heap.size w w' := by
  have HB := hid (fun ww => Calls.mono (sizeOf_any b ww hb.1 hb.2) (R' := fun e w' => e = .returned (.int .i64 (b.natAbs : Int)) ∧ w' = ww) (fun _ _ h => ⟨h.1, h.2.symm⟩))
  have HD := hid (fun ww => Calls.mono (sizeOf_any d ww hd.1 hd.2) (R' := fun e w' => e = .returned (.int .i64 (d.natAbs : Int)) ∧ w' = ww) (fun _ _ h => ⟨h.1, h.2.symm⟩))
  have f0 : 0 ≤ (b.natAbs : Int) := by omega
  have s0 : 0 ≤ (d.natAbs : Int) := by omega
  obtain ⟨F, hF⟩ : ∃ F : Int, (b.natAbs : Int) = F := ⟨_, rfl⟩
  obtain ⟨S, hS⟩ : ∃ S : Int, (d.natAbs : Int) = S := ⟨_, rfl⟩
  rw [hF] at HB f0 hsum ⊢
  rw [hS] at HD s0 hsum ⊢
  clear hF hS hb hd
  by_cases c1 : S ≤ q
  · by_cases c2 : F + S ≤ p - q
    · have HR : Hid (decide (S ≤ q ∧ F + S ≤ p - q) = true) := decide_eq_true ⟨c1, c2⟩
      go_enter Tryz.func136, Tryz.ntmps136
      go_wp2_with fail
      go_quiet ((go_at_call 145; first | exact Calls.quiet_of_same (HB.out _) | exact Calls.quiet_of_same (HD.out _)))
      go_wp2_with fail
      go_returns
      exact ⟨ret_bool (by first | exact HR.out.symm | (simp; omega)), bdn (alloc_later _ _) _⟩
    · have HR : Hid (decide (S ≤ q ∧ F + S ≤ p - q) = false) := decide_eq_false (fun h => c2 h.2)
      go_enter Tryz.func136, Tryz.ntmps136
      go_wp2_with fail
      go_quiet ((go_at_call 145; first | exact Calls.quiet_of_same (HB.out _) | exact Calls.quiet_of_same (HD.out _)))
      go_wp2_with fail
      go_returns
      exact ⟨ret_bool (by first | exact HR.out.symm | (simp; omega)), bdn (alloc_later _ _) _⟩
  · have HR : Hid (decide (S ≤ q ∧ F + S ≤ p - q) = false) := decide_eq_false (fun h => c1 h.1)
    go_enter Tryz.func136, Tryz.ntmps136
    go_wp2_with fail
    go_quiet ((go_at_call 145; first | exact Calls.quiet_of_same (HB.out _) | exact Calls.quiet_of_same (HD.out _)))
    go_wp2_with fail
    go_returns
    exact ⟨ret_bool (by first | exact HR.out.symm | (simp; omega)), bdn (alloc_later _ _) _⟩
end Go.Proofs.YtcfcjnlobpoglaaGreat

/- nat.highest: the highest 62 bits of three words or more, moved up by the first one's noughts. -/
namespace Go.Proofs.YtcfcjnlobpoglaaGreat
open Go.RowKit
set_option linter.unusedVariables false

theorem val_three (xs : List Int) (e : Nat) (h : xs.length = e + 3) : val xs = valTo xs e + (xs[e]?.getD 0 + (xs[e + 1]?.getD 0 + xs[e + 2]?.getD 0 * 4294967296) * 4294967296) * 4294967296 ^ e := by
  have := seg_three xs 0 e
  rw [segTo_zero, segTo_zero] at this
  simp only [Nat.zero_add] at this
  unfold val
  rw [h]
  exact this
/-- The top three words, moved down. -/
theorem high_value (h2 h1 h0 : Int) (s : Nat) (hs : s ≤ 31) (b0 : 0 ≤ h0) : ((h1 + h2 * 4294967296) * 2 ^ s + h0 / 2 ^ (32 - s)) / 4 = (h0 + (h1 + h2 * 4294967296) * 4294967296) / 2 ^ (34 - s) := by
  have p := two_pos (32 - s)
  have e1 : (2 : Int) ^ (34 - s) = 2 ^ (32 - s) * 4 := by rw [show 34 - s = (32 - s) + 2 by omega, Int.pow_add]; rfl
  have e2 : (4294967296 : Int) = 2 ^ s * 2 ^ (32 - s) := two_split s (by omega)
  have e3 : (h0 + (h1 + h2 * 4294967296) * 4294967296) / 2 ^ (32 - s) = (h1 + h2 * 4294967296) * 2 ^ s + h0 / 2 ^ (32 - s) := by
    have : (h1 + h2 * 4294967296) * 4294967296 = (h1 + h2 * 4294967296) * 2 ^ s * 2 ^ (32 - s) := by rw [Int.mul_assoc, ← e2]
    rw [this, Int.add_mul_ediv_right _ _ (by omega)]
    omega
  rw [e1, ← Int.ediv_ediv_of_nonneg (by omega), e3]

theorem or_shl (c x : Int) (t : Nat) (c0 : 0 ≤ c) (c1 : c < 2 ^ t) (x0 : 0 ≤ x) (hp : x * 2 ^ t + c ≤ 18446744073709551615) : bits BinOp.or IntKind.u64 (x * 2 ^ t) c = x * 2 ^ t + c := by
  have h1 := two_pos t
  have h3 : 0 ≤ x * 2 ^ t := Int.mul_nonneg x0 (Int.le_of_lt h1)
  obtain ⟨C, rfl⟩ := Int.eq_ofNat_of_zero_le c0
  obtain ⟨X, rfl⟩ := Int.eq_ofNat_of_zero_le x0
  have e1 : (X : Int) * 2 ^ t = ((X * 2 ^ t : Nat) : Int) := by rw [Int.natCast_mul, Int.natCast_pow]; rfl
  have e2 : ((2 ^ t : Nat) : Int) = 2 ^ t := by rw [Int.natCast_pow]; rfl
  rw [e1] at hp ⊢
  rw [← e2] at c1
  rw [u64_or _ _ (by omega) (by omega) (by omega) (by omega), Int.toNat_natCast, Int.toNat_natCast, nat_join t _ _ (Nat.mul_mod_left _ _) (Int.ofNat_lt.1 c1)]
  omega

set_option maxHeartbeats 800000 in
set_option maxRecDepth 100000 in
theorem highest_any (a : Option Addr) (e cap : Nat) (xs : List Int) (s : Nat) (w : World) (h : Reads w w.heap.size a (e + 3) cap xs) (hn : e ≤ 8192) (hs : s ≤ 31) (hfit : xs[e + 2]?.getD 0 * 2 ^ s < 4294967296) :
    Calls Tryz.prog 134 #[.slice a (e + 3) cap, .int .i64 s] w fun x w' => x = .returned (.int .i64 (val xs / 4294967296 ^ e / 2 ^ (34 - s))) ∧ 0 ≤ val xs / 4294967296 ^ e / 2 ^ (34 - s) ∧ val xs / 4294967296 ^ e / 2 ^ (34 - s) < 4611686018427387904 ∧ Below w.heap.size w w' := by
  rcases h.2.2.1 with h0 | ⟨b2, o2, rfl, hb2, hc2⟩
  · omega
  · have hwz := h.2.1
    have c2 := hc2 (e + 2) (by omega)
    have c1 := hc2 (e + 1) (by omega)
    have c0 := hc2 e (by omega)
    have b2' := hwz.at (e + 2)
    have b1' := hwz.at (e + 1)
    have b0' := hwz.at e
    have hv := val_three xs e h.1
    have vb := valTo_bounds hwz e
    have hT : val xs / 4294967296 ^ e = xs[e]?.getD 0 + (xs[e + 1]?.getD 0 + xs[e + 2]?.getD 0 * 4294967296) * 4294967296 := by
      rw [hv, Int.add_mul_ediv_right _ _ (by have := pw_pos e; omega), Int.ediv_eq_zero_of_lt vb.1 vb.2]
      omega
    rw [hT]
    generalize xs[e + 2]?.getD 0 = H2 at *
    generalize xs[e + 1]?.getD 0 = H1 at *
    generalize xs[e]?.getD 0 = H0 at *
    rw [← high_value H2 H1 H0 s hs b0'.1]
    obtain ⟨t, ht⟩ : ∃ t, t = H1 + H2 * 4294967296 := ⟨_, rfl⟩
    have hor : bits BinOp.or IntKind.u64 (H2 * 4294967296) H1 = t := by rw [or_join H2 _ b2'.1 b2'.2 b1'.1 b1'.2, ht]
    rw [← ht]
    have ps := two_pos s
    have pr := two_pos (32 - s)
    have t0 : 0 ≤ t := by omega
    obtain ⟨r, hr⟩ : ∃ r : Nat, r = 32 - s := ⟨_, rfl⟩
    have hri : (32 : Int) - (s : Int) = (r : Int) := by omega
    have e2 : (4294967296 : Int) = 2 ^ s * 2 ^ r := by rw [hr]; exact two_split s (by omega)
    rw [← hr] at pr ⊢
    have hH : H2 + 1 ≤ 2 ^ r := Int.lt_of_mul_lt_mul_left (show 2 ^ s * H2 < 2 ^ s * 2 ^ r by rw [← e2, Int.mul_comm]; exact hfit) (by omega)
    have hts : (t + 1) * 2 ^ s ≤ 18446744073709551616 := by
      have a1 : (t + 1) * 2 ^ s ≤ (H2 + 1) * 4294967296 * 2 ^ s := Int.mul_le_mul_of_nonneg_right (by omega) (by omega)
      have a2 : (H2 + 1) * 2 ^ s ≤ 2 ^ r * 2 ^ s := Int.mul_le_mul_of_nonneg_right hH (by omega)
      rw [Int.mul_comm (2 ^ r), ← e2] at a2
      rw [Int.mul_assoc, Int.mul_comm 4294967296, ← Int.mul_assoc] at a1
      omega
    rw [Int.add_mul, Int.one_mul] at hts
    have k0 : 0 ≤ H0 / 2 ^ r := Int.ediv_nonneg b0'.1 (by omega)
    have k1 : H0 / 2 ^ r < 2 ^ s := Int.ediv_lt_of_lt_mul pr (by rw [← e2]; omega)
    have m0 : 0 ≤ t * 2 ^ s := Int.mul_nonneg t0 (by omega)
    have hor2 := or_shl (H0 / 2 ^ r) t s k0 k1 t0 (by omega)
    obtain ⟨k, hk⟩ : ∃ k, H0 / 2 ^ r = k := ⟨_, rfl⟩
    obtain ⟨m, hm⟩ : ∃ m, t * 2 ^ s = m := ⟨_, rfl⟩
    rw [hk] at k0 k1 hor2 ⊢
    rw [hm] at m0 hts hor2 ⊢
    obtain ⟨u, hu⟩ : ∃ u, m + k = u := ⟨_, rfl⟩
    rw [hu] at hor2 ⊢
    have u0 : 0 ≤ u := by omega
    have u1 : u ≤ 18446744073709551615 := by omega
    have m1 : m ≤ 18446744073709551615 := by omega
    have t1 : t ≤ 18446744073709551615 := by omega
    have HPS := hid ps
    clear hc2 h hv vb hT hfit e2 hH hr hu hts k1 ps pr ht
    go_enter Tryz.func134, Tryz.ntmps134
    go_wp2_with fail
    go_quiet (fail)
    go_wp2_with fail
    go_quiet (fail)
    go_wp2_with fail
    go_ret
    exact ⟨ret_int (by omega), by omega, by omega, by first | exact bdn (Below.refl _ _) _ | exact bdn (bdn (Below.refl _ _) _) _⟩
end Go.Proofs.YtcfcjnlobpoglaaGreat

/- (nat.leap).apply: two numbers in own memory become two sums of multiples of them. -/
namespace Go.Proofs.YtcfcjnlobpoglaaGreat
open Go.RowKit
set_option linter.unusedVariables false

theorem OwnC.drewN {w : World} {base g n cap : Nat} {ys : List Int} (h : OwnC w base g n cap ys) (m : Nat) : OwnC (w.drewN m) base g n cap ys := h

theorem OwnC.base {w : World} {base g n cap : Nat} {ys : List Int} (h : OwnC w base g n cap ys) : base ≤ g ∧ g < w.heap.size := World.ownsRow.lt h g rfl

theorem apply_step (xs ys us : List Int) (k : Nat) (a b c p1 p2 T : Int) (hk : k < us.length) (h1 : a * xs[k]?.getD 0 = p1) (h2 : b * ys[k]?.getD 0 = p2) (hT : c + (p1 + p2) = T)
    (h : valTo us k + c * 4294967296 ^ k = a * valTo xs k + b * valTo ys k) :
    valTo (us.set k (T % 4294967296)) (k + 1) + T / 4294967296 * 4294967296 ^ (k + 1) = a * valTo xs (k + 1) + b * valTo ys (k + 1) := by
  rw [valTo_set us k _ hk, valTo_succ xs, valTo_succ ys, pw_succ, Int.mul_add, Int.mul_add, ← Int.mul_assoc a, ← Int.mul_assoc b, h1, h2]
  have e := carry_step (4294967296 ^ k) (T % 4294967296) (T / 4294967296) T (by omega)
  have e2 : T * 4294967296 ^ k = c * 4294967296 ^ k + (p1 * 4294967296 ^ k + p2 * 4294967296 ^ k) := by
    rw [← hT, Int.add_mul, Int.add_mul]
  omega

/-- Two factors of unlike signs, below 2^31 in size. -/
def Coef (a b : Int) : Prop := (0 ≤ a ∧ a ≤ 2147483647 ∧ -2147483647 ≤ b ∧ b ≤ 0) ∨ (-2147483647 ≤ a ∧ a ≤ 0 ∧ 0 ≤ b ∧ b ≤ 2147483647)
theorem coef_pos (a v : Int) (h0 : 0 ≤ a) (h1 : a ≤ 2147483647) (v0 : 0 ≤ v) (v1 : v ≤ 4294967295) : 0 ≤ a * v ∧ a * v ≤ 9223372030412324865 := by
  have e1 := Int.mul_nonneg h0 v0
  have e2 : a * v ≤ 2147483647 * v := Int.mul_le_mul_of_nonneg_right h1 v0
  omega
theorem coef_neg (a v : Int) (h0 : -2147483647 ≤ a) (h1 : a ≤ 0) (v0 : 0 ≤ v) (v1 : v ≤ 4294967295) : -9223372030412324865 ≤ a * v ∧ a * v ≤ 0 := by
  have := coef_pos (-a) v (by omega) (by omega) v0 v1
  rw [Int.neg_mul] at this
  omega
theorem Coef.bounds {a b : Int} (h : Coef a b) {v w p1 p2 : Int} (v0 : 0 ≤ v ∧ v ≤ 4294967295) (w0 : 0 ≤ w ∧ w ≤ 4294967295) (h1 : a * v = p1) (h2 : b * w = p2) :
    (-9223372030412324865 ≤ p1 ∧ p1 ≤ 9223372030412324865) ∧ (-9223372030412324865 ≤ p2 ∧ p2 ≤ 9223372030412324865) ∧ (-9223372030412324865 ≤ p1 + p2 ∧ p1 + p2 ≤ 9223372030412324865) := by
  rcases h with ⟨a0, a1, b0, b1⟩ | ⟨a0, a1, b0, b1⟩
  · have e1 := coef_pos a v a0 a1 v0.1 v0.2
    have e2 := coef_neg b w b0 b1 w0.1 w0.2
    omega
  · have e1 := coef_neg a v a0 a1 v0.1 v0.2
    have e2 := coef_pos b w b0 b1 w0.1 w0.2
    omega
theorem Coef.wide {a b : Int} (h : Coef a b) : (-2147483647 ≤ a ∧ a ≤ 2147483647) ∧ (-2147483647 ≤ b ∧ b ≤ 2147483647) := by
  rcases h with h | h <;> omega

/-- What is left of a number when nothing is carried out. -/
theorem apply_end {us : List Int} (hw : Wd us) (n : Nat) (c V : Int) (hl : us.length = n) (h0 : 0 ≤ V) (h1 : V < 4294967296 ^ n) (h : valTo us n + c * 4294967296 ^ n = V) : val us = V := by
  have b := valTo_bounds hw n
  have hp := pw_pos n
  have hc : c = 0 := by
    have e1 : c * 4294967296 ^ n < 1 * 4294967296 ^ n := by omega
    have e2 : (-1) * 4294967296 ^ n < c * 4294967296 ^ n := by omega
    have e3 := Int.lt_of_mul_lt_mul_right e1 (by omega)
    have e4 := Int.lt_of_mul_lt_mul_right e2 (by omega)
    omega
  rw [hc] at h
  rw [← valTo_stable us n (by omega)]
  omega

set_option maxHeartbeats 3200000 in
set_option maxRecDepth 100000 in
theorem apply_any (base gx gy n capx capy : Nat) (xs ys : List Int) (s a b c d : Int) (w : World) (hx : OwnC w base gx n capx xs) (hy : OwnC w base gy n capy ys) (hne : gx ≠ gy) (wx : Wd xs) (wy : Wd ys) (hn : n ≤ 8192)
    (h1 : Coef a b) (h2 : Coef c d) (x0 : 0 ≤ a * val xs + b * val ys) (x1 : a * val xs + b * val ys < 4294967296 ^ n) (y0 : 0 ≤ c * val xs + d * val ys) (y1 : c * val xs + d * val ys < 4294967296 ^ n) :
    Calls Tryz.prog 126 #[.agg #[.int .i64 s, .int .i64 a, .int .i64 b, .int .i64 c, .int .i64 d], .slice (some ⟨gx, 0, none⟩) n capx, .slice (some ⟨gy, 0, none⟩) n capy] w fun e w' => ∃ us vs, e = .returned (.tuple #[]) ∧ OwnC w' base gx n capx us ∧ OwnC w' base gy n capy vs ∧ Wd us ∧ Wd vs ∧
      val us = a * val xs + b * val ys ∧ val vs = c * val xs + d * val ys ∧ Below base w w' := by
  have bx := hx.base
  have by' := hy.base
  have cx := hx.cap
  have cy := hy.cap
  have lx := hx.len
  have ly := hy.len
  unfold maxLen at cx cy
  have HX0 := hid (And.intro x0 (And.intro x1 (And.intro y0 y1)))
  have HL := hid (And.intro lx ly)
  have hne2 : ¬ gx = gy := hne
  have hne3 : ¬ gy = gx := fun e => hne e.symm
  have HOX := hid (owns_later hx (alloc_later w (.cells #[.int .i64 s, .int .i64 a, .int .i64 b, .int .i64 c, .int .i64 d] 131)))
  have HOY := hid (owns_later hy (alloc_later w (.cells #[.int .i64 s, .int .i64 a, .int .i64 b, .int .i64 c, .int .i64 d] 131)))
  have HBX := hid (Box.made w 131 #[.int .i64 s, .int .i64 a, .int .i64 b, .int .i64 c, .int .i64 d])
  have HW := hid (And.intro h1.wide h2.wide)
  have H1 := hid h1
  have H2 := hid h2
  clear x0 x1 y0 y1 hx hy lx ly h1 h2 hne
  have hncy : n ≤ capy := cy.1
  go_enter Tryz.func126, Tryz.ntmps126
  go_wp2_with fail
  go_loopw [6, 7, 17] (fun cu cv t wr => ∃ (k : Nat) (c1 c2 : Int) (us vs : List Int), k ≤ n ∧ t = .int .i64 k ∧ cu = .int .i64 c1 ∧ cv = .int .i64 c2 ∧ -2147483647 ≤ c1 ∧ c1 ≤ 2147483647 ∧ -2147483647 ≤ c2 ∧ c2 ≤ 2147483647 ∧ Wd us ∧ Wd vs ∧
    Hid (valTo us k + c1 * 4294967296 ^ k = a * valTo xs k + b * valTo ys k) ∧ Hid (valTo vs k + c2 * 4294967296 ^ k = c * valTo xs k + d * valTo ys k) ∧ Hid (∀ j, k ≤ j → us[j]?.getD 0 = xs[j]?.getD 0 ∧ vs[j]?.getD 0 = ys[j]?.getD 0) ∧
    OwnC wr base gx n capx us ∧ OwnC wr base gy n capy vs ∧ Box wr w.heap.size 131 #[.int .i64 s, .int .i64 a, .int .i64 b, .int .i64 c, .int .i64 d] ∧ Below base w wr) (fun _ _ t _ => n - (intOf t).toNat)
  case atStart => exact ⟨0, 0, 0, xs, ys, by omega, rfl, rfl, rfl, by omega, by omega, by omega, by omega, wx, wy, show _ = _ by simp [valTo], show _ = _ by simp [valTo], fun _ _ => ⟨rfl, rfl⟩, HOX.out, HOY.out, HBX.out, (alloc_later _ _).mono (by omega)⟩
  case round =>
    obtain ⟨k, c1, c2, us, vs, hk, rfl, rfl, rfl, c10, c11, c20, c21, wu, wv, HV1, HV2, HK, ou, ov, hbox, hbel⟩ := hrel
    by_cases hlt : k < n
    · have u1 := ou.cell k hlt
      have v1 := ov.cell k hlt
      have fu := ou.free k
      have fv := ov.free k
      have q1 : wr.cell? ⟨w.heap.size, 1, none⟩ = some (.int .i64 a) := hbox.cell 1
      have q2 : wr.cell? ⟨w.heap.size, 2, none⟩ = some (.int .i64 b) := hbox.cell 2
      have q3 : wr.cell? ⟨w.heap.size, 3, none⟩ = some (.int .i64 c) := hbox.cell 3
      have q4 : wr.cell? ⟨w.heap.size, 4, none⟩ = some (.int .i64 d) := hbox.cell 4
      have bv := wu.at k
      have bw := wv.at k
      have hk2 := HK.out k (Nat.le_refl _)
      rw [hk2.1] at u1 bv
      rw [hk2.2] at v1 bw
      obtain ⟨p1, hp1⟩ : ∃ p, a * xs[k]?.getD 0 = p := ⟨_, rfl⟩
      obtain ⟨p2, hp2⟩ : ∃ p, b * ys[k]?.getD 0 = p := ⟨_, rfl⟩
      obtain ⟨p3, hp3⟩ : ∃ p, c * xs[k]?.getD 0 = p := ⟨_, rfl⟩
      obtain ⟨p4, hp4⟩ : ∃ p, d * ys[k]?.getD 0 = p := ⟨_, rfl⟩
      have B1 := H1.out.bounds bv bw hp1 hp2
      have B2 := H2.out.bounds bv bw hp3 hp4
      obtain ⟨T, hT⟩ : ∃ T, c1 + (p1 + p2) = T := ⟨_, rfl⟩
      obtain ⟨U, hU⟩ : ∃ U, c2 + (p3 + p4) = U := ⟨_, rfl⟩
      have hlu := ou.len
      have hlv := ov.len
      have HV1' := hid (apply_step xs ys us k a b c1 p1 p2 T (by omega) hp1 hp2 hT HV1.out)
      have HV2' := hid (apply_step xs ys vs k c d c2 p3 p4 U (by omega) hp3 hp4 hU HV2.out)
      have T0 : -9223372032559808512 ≤ T ∧ T ≤ 9223372032559808512 := by omega
      have U0 : -9223372032559808512 ≤ U ∧ U ≤ 9223372032559808512 := by omega
      obtain ⟨z, hz⟩ : ∃ z, T % 4294967296 = z := ⟨_, rfl⟩
      obtain ⟨y, hy⟩ : ∃ y, U % 4294967296 = y := ⟨_, rfl⟩
      have z0 : 0 ≤ z ∧ z ≤ 4294967295 := by omega
      have y0 : 0 ≤ y ∧ y ≤ 4294967295 := by omega
      have hwz : IntKind.u32.wrap T = z := by rw [IntKind.wrap_u32, hz]
      have hwy : IntKind.u32.wrap U = y := by rw [IntKind.wrap_u32, hy]
      rw [hz] at HV1'
      rw [hy] at HV2'
      have HK' : Hid (∀ j, k + 1 ≤ j → (us.set k z)[j]?.getD 0 = xs[j]?.getD 0 ∧ (vs.set k y)[j]?.getD 0 = ys[j]?.getD 0) := fun j hj => by
        rw [List.getElem?_set, if_neg (by omega), List.getElem?_set, if_neg (by omega)]
        exact HK.out j (by omega)
      have HC : Hid ((-2147483647 ≤ T / 4294967296 ∧ T / 4294967296 ≤ 2147483647) ∧ (-2147483647 ≤ U / 4294967296 ∧ U / 4294967296 ≤ 2147483647)) := by show _ ∧ _; omega
      have hout : ∀ m, OwnC (((wr.drewN m).setCell ⟨gx, k, none⟩ (.int .u32 z)).setCell ⟨gy, k, none⟩ (.int .u32 y)) base gx n capx (us.set k z) ∧ OwnC (((wr.drewN m).setCell ⟨gx, k, none⟩ (.int .u32 z)).setCell ⟨gy, k, none⟩ (.int .u32 y)) base gy n capy (vs.set k y) ∧
          Box (((wr.drewN m).setCell ⟨gx, k, none⟩ (.int .u32 z)).setCell ⟨gy, k, none⟩ (.int .u32 y)) w.heap.size 131 #[.int .i64 s, .int .i64 a, .int .i64 b, .int .i64 c, .int .i64 d] ∧ Below base w (((wr.drewN m).setCell ⟨gx, k, none⟩ (.int .u32 z)).setCell ⟨gy, k, none⟩ (.int .u32 y)) := fun m => by
        have s1 := OwnC.set (ou.drewN m) k z
        have o2 : OwnC ((wr.drewN m).setCell ⟨gx, k, none⟩ (.int .u32 z)) base gy n capy vs := World.ownsRow.kept (ov.drewN m) s1.2 (by right; intro e; simp [Value.ownBlock] at e; omega)
        have s2 := OwnC.set o2 k y
        have o1 := World.ownsRow.kept s1.1 s2.2 (by right; intro e; simp [Value.ownBlock] at e; omega)
        refine ⟨o1, s2.1, (Box.other (Box.other (hbox.drewN m) _ _ (by show _ ≠ gx; omega)) _ _ (by show _ ≠ gy; omega)), ?_⟩
        exact ((bdn hbel m).setCell (p := ⟨gx, k, none⟩) bx.1 _).setCell (p := ⟨gy, k, none⟩) by'.1 _
      have HOUT := hid hout
      have hwn : w.heap.size < wr.heap.size := hbox.lt
      clear hout hlu hlv ou ov hbox hbel HV1 HV2 HK hk2 hz hy HOX HOY HBX
      go_wp2_with fail
      go_quiet (fail)
      go_wp2_with fail
      go_roundw
      case rel => exact ⟨k + 1, T / 4294967296, U / 4294967296, us.set k z, vs.set k y, by omega, by go_num, by go_num, by go_num, HC.out.1.1, HC.out.1.2, HC.out.2.1, HC.out.2.2, wu.set _ z0, wv.set _ y0, HV1', HV2', HK', (HOUT.out _).1, (HOUT.out _).2.1, (HOUT.out _).2.2.1, (HOUT.out _).2.2.2⟩
      case measure => simp [intOf]; omega
    · have hkn : k = n := by omega
      subst hkn
      have hlu := ou.len
      have hlv := ov.len
      have HF1 : Hid (val us = a * val xs + b * val ys) := apply_end wu k c1 _ hlu HX0.out.1 HX0.out.2.1 (by have e := HV1.out; rw [valTo_stable xs k (by have := HL.out.1; omega), valTo_stable ys k (by have := HL.out.2; omega)] at e; exact e)
      have HF2 : Hid (val vs = c * val xs + d * val ys) := apply_end wv k c2 _ hlv HX0.out.2.2.1 HX0.out.2.2.2 (by have e := HV2.out; rw [valTo_stable xs k (by have := HL.out.1; omega), valTo_stable ys k (by have := HL.out.2; omega)] at e; exact e)
      have HO1 := hid ou
      have HO2 := hid ov
      clear ou ov hlu hlv
      go_wp2_with fail
      go_end0
      exact ⟨us, vs, rfl, HO1.out, HO2.out, wu, wv, HF1.out, HF2.out, hbel⟩
end Go.Proofs.YtcfcjnlobpoglaaGreat

/- Euclid's steps, many at once: plain arithmetic, nothing of the program. -/
namespace Go.Proofs.YtcfcjnlobpoglaaGreat
open Go.RowKit
set_option linter.unusedVariables false

/-- The sizes of a leap's four factors and its sign, after s steps. -/
structure Lp (s g A B C D : Int) : Prop where
  a0 : 0 ≤ A
  b0 : 0 ≤ B
  c0 : 0 ≤ C
  cd : C ≤ D
  d1 : 1 ≤ D
  det : A * D - B * C = g
  sgn : g = 1 ∨ g = -1
  way : (s = 0 ∧ A = 1 ∧ B = 0 ∧ C = 0 ∧ D = 1) ∨ (1 ≤ s ∧ A ≤ B ∧ 1 ≤ B ∧ B ≤ D ∧ 1 ≤ C)

theorem Lp.first : Lp 0 1 1 0 0 1 := ⟨by omega, by omega, by omega, by omega, by omega, by omega, .inl rfl, .inl ⟨rfl, rfl, rfl, rfl, rfl⟩⟩

theorem Lp.step {s g A B C D Q : Int} (h : Lp s g A B C D) (hQ : 1 ≤ Q) : Lp (s + 1) (-g) C D (A + Q * C) (B + Q * D) := by
  obtain ⟨a0, b0, c0, cd, d1, det, sgn, way⟩ := h
  have q1 : 0 ≤ Q * C := Int.mul_nonneg (by omega) c0
  have q2 : Q * C ≤ Q * D := Int.mul_le_mul_of_nonneg_left cd (by omega)
  have q3 : 1 * D ≤ Q * D := Int.mul_le_mul_of_nonneg_right hQ (by omega)
  have q4 : 1 * C ≤ Q * C := Int.mul_le_mul_of_nonneg_right hQ c0
  rw [Int.one_mul] at q3 q4
  have hdet : C * (B + Q * D) - D * (A + Q * C) = -g := by
    rw [Int.mul_add, Int.mul_add, Int.mul_comm C B, Int.mul_comm D A, ← Int.mul_assoc C, ← Int.mul_assoc D, Int.mul_comm C Q, Int.mul_comm D Q, Int.mul_assoc Q C, Int.mul_assoc Q D, Int.mul_comm D C]
    omega
  rcases way with ⟨e0, e1, e2, e3, e4⟩ | ⟨w1, w2, w3, w4, w5⟩
  · subst e1 e2 e3 e4
    refine ⟨by omega, by omega, by omega, by omega, by omega, hdet, by omega, .inr ⟨by omega, by omega, by omega, by omega, by omega⟩⟩
  · refine ⟨by omega, by omega, by omega, by omega, by omega, hdet, by omega, .inr ⟨by omega, by omega, by omega, by omega, by omega⟩⟩

/-- One step of the division: the first pair out of the later one. -/
theorem pair_step {A B C D Q p q r p0 q0 : Int} (hp : p = Q * q + r) (h1 : p0 = D * p + B * q) (h2 : q0 = C * p + A * q) :
    p0 = (B + Q * D) * q + D * r ∧ q0 = (A + Q * C) * q + C * r := by
  subst hp
  constructor
  · rw [h1, Int.mul_add, Int.add_mul, ← Int.mul_assoc, Int.mul_comm D Q]; omega
  · rw [h2, Int.mul_add, Int.add_mul, ← Int.mul_assoc, Int.mul_comm C Q]; omega

/-- The later pair out of the first one. -/
theorem pair_back {g A B C D p q p0 q0 : Int} (det : A * D - B * C = g) (sgn : g = 1 ∨ g = -1) (h1 : p0 = D * p + B * q) (h2 : q0 = C * p + A * q) :
    p = g * A * p0 + -(g * B) * q0 ∧ q = -(g * C) * p0 + g * D * q0 := by
  have e1 : A * p0 - B * q0 = g * p := by
    rw [h1, h2, Int.mul_add, Int.mul_add, ← Int.mul_assoc A D, ← Int.mul_assoc B C, ← Int.mul_assoc A B, ← Int.mul_assoc B A, Int.mul_comm B A, ← det, Int.sub_mul]; omega
  have e2 : D * q0 - C * p0 = g * q := by
    rw [h1, h2, Int.mul_add, Int.mul_add, ← Int.mul_assoc D C, ← Int.mul_assoc C D, ← Int.mul_assoc D A, ← Int.mul_assoc C B, Int.mul_comm D A, Int.mul_comm C B, Int.mul_comm D C, ← det, Int.sub_mul]; omega
  rcases sgn with rfl | rfl
  · simp only [Int.one_mul, Int.neg_mul] at *
    omega
  · simp only [Int.neg_mul, Int.one_mul, Int.neg_neg] at *
    omega

/-- What is below the highest bits changes a sum of two multiples with unlike signs by less than the greater one. -/
theorem low_part {C D K xl yl : Int} (c0 : 0 ≤ C) (cd : C ≤ D) (x0 : 0 ≤ xl) (x1 : xl < K) (y0 : 0 ≤ yl) (y1 : yl < K) : -(D * (K - 1)) ≤ D * yl - C * xl ∧ D * yl - C * xl ≤ D * (K - 1) ∧ -(D * (K - 1)) ≤ C * xl - D * yl := by
  have e1 : D * yl ≤ D * (K - 1) := Int.mul_le_mul_of_nonneg_left (by omega) (by omega)
  have e2 : C * xl ≤ C * (K - 1) := Int.mul_le_mul_of_nonneg_left (by omega) c0
  have e3 : C * (K - 1) ≤ D * (K - 1) := Int.mul_le_mul_of_nonneg_right cd (by omega)
  have e4 : 0 ≤ D * yl := Int.mul_nonneg (by omega) y0
  have e5 : 0 ≤ C * xl := Int.mul_nonneg c0 x0
  omega

/-- What a leap does to two numbers whose highest bits it was found by. -/
structure Leaps (X Y a b c d : Int) : Prop where
  ab : Coef a b
  cd : Coef c d
  pos : 0 ≤ c * X + d * Y
  lt : c * X + d * Y < a * X + b * Y
  le : a * X + b * Y ≤ X
  less : (a * X + b * Y) + (c * X + d * Y) < X + Y
  same : gcdI (a * X + b * Y) (c * X + d * Y) = gcdI X Y

theorem gcd_dvd_of {x y u v a b c d : Int} (h1 : u = a * x + b * y) (h2 : v = c * x + d * y) : Int.gcd x y ∣ Int.gcd u v := by
  rw [← Int.ofNat_dvd]
  exact Int.dvd_coe_gcd (by rw [h1]; exact Int.dvd_add (Int.dvd_mul_of_dvd_right (Int.gcd_dvd_left ..)) (Int.dvd_mul_of_dvd_right (Int.gcd_dvd_right ..))) (by rw [h2]; exact Int.dvd_add (Int.dvd_mul_of_dvd_right (Int.gcd_dvd_left ..)) (Int.dvd_mul_of_dvd_right (Int.gcd_dvd_right ..)))

theorem leaps_of {s g A B C D p q K xl yl X Y : Int} (h : Lp s g A B C D) (hs : 1 ≤ s) (hK : 1 ≤ K) (x0 : 0 ≤ xl) (x1 : xl < K) (y0 : 0 ≤ yl) (y1 : yl < K)
    (hX : X = (D * p + B * q) * K + xl) (hY : Y = (C * p + A * q) * K + yl) (hD : D ≤ 2147483647) (hq : D ≤ q) (hpq : B + D ≤ p - q) : Leaps X Y (g * A) (-(g * B)) (-(g * C)) (g * D) := by
  obtain ⟨a0, b0, c0, cd, d1, det, sgn, way⟩ := h
  obtain ⟨_, w2, w3, w4, w5⟩ : 1 ≤ s ∧ A ≤ B ∧ 1 ≤ B ∧ B ≤ D ∧ 1 ≤ C := by
    rcases way with ⟨e, _⟩ | h
    · omega
    · exact h
  have hcoef : Coef (g * A) (-(g * B)) ∧ Coef (-(g * C)) (g * D) := by
    rcases sgn with rfl | rfl
    · simp only [Int.one_mul]; exact ⟨.inl ⟨by omega, by omega, by omega, by omega⟩, .inr ⟨by omega, by omega, by omega, by omega⟩⟩
    · simp only [Int.neg_mul, Int.one_mul, Int.neg_neg]; exact ⟨.inr ⟨by omega, by omega, by omega, by omega⟩, .inl ⟨by omega, by omega, by omega, by omega⟩⟩
  -- the two sums, by the highest bits and by what is below
  obtain ⟨u, hu⟩ : ∃ u, g * A * X + -(g * B) * Y = u := ⟨_, rfl⟩
  obtain ⟨v, hv⟩ : ∃ v, -(g * C) * X + g * D * Y = v := ⟨_, rfl⟩
  have pb := pair_back (p := p) (q := q) det sgn rfl rfl
  have hue : u = p * K + g * (A * xl - B * yl) := by
    rw [← hu, hX, hY]
    have e := pb.1
    generalize D * p + B * q = P at *
    generalize C * p + A * q = R at *
    rw [e, Int.mul_add, Int.mul_add, Int.add_mul, ← Int.mul_assoc, ← Int.mul_assoc, Int.mul_sub, ← Int.mul_assoc g A, ← Int.mul_assoc g B, Int.neg_mul (g * B) yl]
    omega
  have hve : v = q * K + g * (D * yl - C * xl) := by
    rw [← hv, hX, hY]
    have e := pb.2
    generalize D * p + B * q = P at *
    generalize C * p + A * q = R at *
    rw [e, Int.mul_add, Int.mul_add, Int.add_mul, ← Int.mul_assoc, ← Int.mul_assoc, Int.mul_sub, ← Int.mul_assoc g D, ← Int.mul_assoc g C, Int.neg_mul (g * C) xl]
    omega
  have hXe : X = D * u + B * v := by
    have e : g * g = 1 := by rcases sgn with rfl | rfl <;> rfl
    have e1 : D * u + B * v = g * (A * D - B * C) * X := by
      rw [← hu, ← hv, Int.mul_add, Int.mul_add, Int.mul_sub, Int.sub_mul]
      have f1 : D * (g * A * X) = g * (A * D) * X := by rw [← Int.mul_assoc, Int.mul_comm D, Int.mul_assoc g A D]
      have f2 : D * (-(g * B) * Y) = -(g * B * D * Y) := by rw [Int.neg_mul, Int.mul_neg, ← Int.mul_assoc, Int.mul_comm D (g * B)]
      have f3 : B * (-(g * C) * X) = -(g * (B * C) * X) := by rw [Int.neg_mul, Int.mul_neg, ← Int.mul_assoc, Int.mul_comm B (g * C), Int.mul_assoc g C B, Int.mul_comm C B]
      have f4 : B * (g * D * Y) = g * B * D * Y := by rw [← Int.mul_assoc, ← Int.mul_assoc, Int.mul_comm B g]
      rw [f1, f2, f3, f4]
      omega
    rw [e1, det, e, Int.one_mul]
  have hYe : Y = C * u + A * v := by
    have e : g * g = 1 := by rcases sgn with rfl | rfl <;> rfl
    have e1 : C * u + A * v = g * (A * D - B * C) * Y := by
      rw [← hu, ← hv, Int.mul_add, Int.mul_add, Int.mul_sub, Int.sub_mul]
      have f1 : C * (g * A * X) = g * A * C * X := by rw [← Int.mul_assoc, Int.mul_comm C (g * A)]
      have f2 : C * (-(g * B) * Y) = -(g * (B * C) * Y) := by rw [Int.neg_mul, Int.mul_neg, ← Int.mul_assoc, Int.mul_comm C (g * B), Int.mul_assoc g B C]
      have f3 : A * (-(g * C) * X) = -(g * A * C * X) := by rw [Int.neg_mul, Int.mul_neg, ← Int.mul_assoc, ← Int.mul_assoc, Int.mul_comm A g]
      have f4 : A * (g * D * Y) = g * (A * D) * Y := by rw [← Int.mul_assoc, ← Int.mul_assoc, Int.mul_comm A g, Int.mul_assoc g A D]
      rw [f1, f2, f3, f4]
      omega
    rw [e1, det, e, Int.one_mul]
  have l1 := low_part (C := C) (D := D) (K := K) c0 cd x0 x1 y0 y1
  have l2 := low_part (C := A + C) (D := B + D) (K := K) (xl := xl) (yl := yl) (by omega) (by omega) x0 x1 y0 y1
  have k1 : D * K ≤ q * K := Int.mul_le_mul_of_nonneg_right hq (by omega)
  have k2 : (B + D) * K ≤ (p - q) * K := Int.mul_le_mul_of_nonneg_right hpq (by omega)
  rw [Int.mul_sub, Int.mul_one] at l1 l2
  rw [Int.sub_mul] at k2
  rw [Int.add_mul (A) C xl, Int.add_mul B D yl] at l2
  have v0 : 0 ≤ v := by
    rw [hve]
    rcases sgn with rfl | rfl
    · rw [Int.one_mul]; omega
    · rw [Int.neg_mul, Int.one_mul]; omega
  have uv : v < u := by
    rw [hve, hue]
    rcases sgn with rfl | rfl
    · rw [Int.one_mul, Int.one_mul]; omega
    · rw [Int.neg_mul, Int.one_mul, Int.neg_mul, Int.one_mul]; omega
  have m1 : 1 * u ≤ D * u := Int.mul_le_mul_of_nonneg_right d1 (by omega)
  have m2 : 0 ≤ B * v := Int.mul_nonneg b0 v0
  have m2' : 1 * v ≤ B * v := Int.mul_le_mul_of_nonneg_right w3 v0
  have m3 : 1 * u ≤ C * u := Int.mul_le_mul_of_nonneg_right w5 (by omega)
  have m4 : 0 ≤ A * v := Int.mul_nonneg a0 v0
  refine ⟨hcoef.1, hcoef.2, ?_, ?_, ?_, ?_, ?_⟩
  · rw [hv]; exact v0
  · rw [hu, hv]; exact uv
  · rw [hu]; omega
  · rw [hu, hv]; omega
  · rw [hu, hv]
    unfold gcdI
    congr 1
    exact Nat.dvd_antisymm (gcd_dvd_of (x := u) (y := v) hXe hYe) (gcd_dvd_of (x := X) (y := Y) hu.symm hv.symm)

/-- How great the factors of a step are, whether it holds or not. -/
theorem Lp.small {s g A B C D p q P0 : Int} (h : Lp s g A B C D) (hp : 1 ≤ p) (hq : 0 ≤ q) (h1 : P0 = D * p + B * q) (hP : P0 ≤ 4611686018427387903) : D ≤ 4611686018427387903 := by
  have e1 : D * 1 ≤ D * p := Int.mul_le_mul_of_nonneg_left hp (by have := h.d1; omega)
  have e2 : 0 ≤ B * q := Int.mul_nonneg h.b0 hq
  omega
theorem Lp.held {s g A B C D p q P0 : Int} (h : Lp s g A B C D) (hq : D ≤ q) (hpq : B + D ≤ p - q) (h1 : P0 = D * p + B * q) (hP : P0 ≤ 4611686018427387903) : D ≤ 2147483647 := by
  by_cases c : D ≤ 2147483647
  · exact c
  · have hb := h.b0
    have e1 : D * 2147483648 ≤ D * p := Int.mul_le_mul_of_nonneg_left (by omega) (by omega)
    have e2 : 0 ≤ B * q := Int.mul_nonneg h.b0 (by omega)
    omega
end Go.Proofs.YtcfcjnlobpoglaaGreat

/- nat.look: the leap that the highest bits of two numbers tell. -/
namespace Go.Proofs.YtcfcjnlobpoglaaGreat
open Go.RowKit
set_option linter.unusedVariables false

theorem lead_fit (x : Int) (h0 : 1 ≤ x) (h1 : x ≤ 4294967295) (t : Nat) (ht : 32 - Lib.bitLen x.toNat = t) : t ≤ 31 ∧ ∀ y : Int, 0 ≤ y → y ≤ x → y * 2 ^ t < 4294967296 := by
  obtain ⟨a, b, c⟩ := bitLen_bounds x h0 h1
  have h2 := bitLen_le32 x h1
  refine ⟨by omega, fun y hy hyx => ?_⟩
  have e := two_split (Lib.bitLen x.toNat) h2
  rw [ht] at e
  have hp := two_pos t
  have e1 : (y + 1) * 2 ^ t ≤ 2 ^ Lib.bitLen x.toNat * 2 ^ t := Int.mul_le_mul_of_nonneg_right (by omega) (by omega)
  rw [Int.add_mul] at e1
  omega

/-- What look tells. -/
def Looked (w : World) (X Y : Int) (x : Ending) (w' : World) : Prop := ∃ s a b c d : Int, x = .returned (.agg #[.int .i64 s, .int .i64 a, .int .i64 b, .int .i64 c, .int .i64 d]) ∧ 0 ≤ s ∧ s ≤ 4611686018427387904 ∧ (s = 0 ∨ (1 ≤ s ∧ Leaps X Y a b c d)) ∧ Below w.heap.size w w'

theorem Box.put5 {w : World} {b t : Nat} {z0 z1 z2 z3 z4 : Value} (h : Box w b t #[z0, z1, z2, z3, z4]) (v0 v1 v2 v3 v4 : Value) :
    Box (((((w.setCell ⟨b, 0, none⟩ v0).setCell ⟨b, 1, none⟩ v1).setCell ⟨b, 2, none⟩ v2).setCell ⟨b, 3, none⟩ v3).setCell ⟨b, 4, none⟩ v4) b t #[v0, v1, v2, v3, v4] :=
  ((((h.set 0 v0).set 1 v1).set 2 v2).set 3 v3).set 4 v4
theorem below_put5 {B : Nat} {a w : World} (h : Below B a w) (b : Nat) (hb : B ≤ b) (v0 v1 v2 v3 v4 : Value) :
    Below B a (((((w.setCell ⟨b, 0, none⟩ v0).setCell ⟨b, 1, none⟩ v1).setCell ⟨b, 2, none⟩ v2).setCell ⟨b, 3, none⟩ v3).setCell ⟨b, 4, none⟩ v4) :=
  ((((h.setCell (p := ⟨b, 0, none⟩) hb _).setCell (p := ⟨b, 1, none⟩) hb _).setCell (p := ⟨b, 2, none⟩) hb _).setCell (p := ⟨b, 3, none⟩) hb _).setCell (p := ⟨b, 4, none⟩) hb _

theorem new_box {wr w5 : World} {vs : Array Value} {t : Nat} (hb : Below (wr.alloc (.cells vs t)).drew.heap.size (wr.alloc (.cells vs t)).drew w5) : Box w5 wr.heap.size t vs ∧ Below wr.heap.size wr w5 := by
  have h1 : Below (wr.alloc (.cells vs t)).heap.size (wr.alloc (.cells vs t)) w5 := (Below.refl _ (wr.alloc (.cells vs t))).drew.trans hb
  exact ⟨(Box.made wr t vs).later h1 (by simp), bt (alloc_later _ _) h1⟩
theorem Box.put5_other {w : World} {b t b' : Nat} {vs : Array Value} (h : Box w b t vs) (hne : b ≠ b') (v0 v1 v2 v3 v4 : Value) :
    Box (((((w.setCell ⟨b', 0, none⟩ v0).setCell ⟨b', 1, none⟩ v1).setCell ⟨b', 2, none⟩ v2).setCell ⟨b', 3, none⟩ v3).setCell ⟨b', 4, none⟩ v4) b t vs :=
  ((((h.other ⟨b', 0, none⟩ _ hne).other ⟨b', 1, none⟩ _ hne).other ⟨b', 2, none⟩ _ hne).other ⟨b', 3, none⟩ _ hne).other ⟨b', 4, none⟩ _ hne

theorem top_le {xs ys : List Int} (wx : Wd xs) (wy : Wd ys) (n : Nat) (lx : xs.length = n + 1) (ly : ys.length = n + 1) (h : val ys ≤ val xs) : ys[n]?.getD 0 ≤ xs[n]?.getD 0 := by
  by_cases c : ys[n]?.getD 0 ≤ xs[n]?.getD 0
  · exact c
  · have := val_lt_of wx wy n (by omega) (fun j hj => by rw [List.getElem?_eq_none (by omega), List.getElem?_eq_none (by omega)])
    omega

/-- The sizes that a step's factors have. -/
theorem step_sizes {s g A B C D p q a b c d Q : Int} (h : Lp s g A B C D) (hQ : 1 ≤ Q) (hD : B + Q * D ≤ 4611686018427387903) (ha : a = g * A) (hb : b = -(g * B)) (hc : c = -(g * C)) (hd : d = g * D) :
    IntKind.i64.wrap (Q * c) = Q * c ∧ IntKind.i64.wrap (Q * d) = Q * d ∧ IntKind.i64.wrap (a - Q * c) = a - Q * c ∧ IntKind.i64.wrap (b - Q * d) = b - Q * d ∧ d = -(-g * D) ∧ c = -g * C ∧ a - Q * c = -(-g * (A + Q * C)) ∧ b - Q * d = -g * (B + Q * D) := by
  obtain ⟨a0, b0, c0, cd, d1, det, sgn, way⟩ := h
  have q1 : 0 ≤ Q * C := Int.mul_nonneg (by omega) c0
  have q2 : Q * C ≤ Q * D := Int.mul_le_mul_of_nonneg_left cd (by omega)
  have q3 : 0 ≤ Q * D := Int.mul_nonneg (by omega) (by omega)
  have q4 : 1 * D ≤ Q * D := Int.mul_le_mul_of_nonneg_right hQ (by omega)
  have hA : A ≤ B + Q * D := by rcases way with ⟨_, e1, _, _, e4⟩ | ⟨_, w2, _, _, _⟩ <;> omega
  have f1 : d = -(-g * D) := by rw [hd, Int.neg_mul, Int.neg_neg]
  have f2 : c = -g * C := by rw [hc, Int.neg_mul]
  have f3 : a - Q * c = -(-g * (A + Q * C)) := by
    rw [ha, hc, Int.neg_mul, Int.neg_neg, Int.mul_neg, Int.mul_add, ← Int.mul_assoc Q, ← Int.mul_assoc g Q, Int.mul_comm Q g]; omega
  have f4 : b - Q * d = -g * (B + Q * D) := by
    rw [hb, hd, Int.neg_mul, Int.mul_add, ← Int.mul_assoc Q, ← Int.mul_assoc g Q, Int.mul_comm Q g]; omega
  have bb : (-4611686018427387903 ≤ Q * c ∧ Q * c ≤ 4611686018427387903) ∧ (-4611686018427387903 ≤ Q * d ∧ Q * d ≤ 4611686018427387903) ∧ (-4611686018427387903 ≤ a ∧ a ≤ 4611686018427387903) ∧ (-4611686018427387903 ≤ b ∧ b ≤ 4611686018427387903) := by
    rcases sgn with rfl | rfl
    · rw [Int.one_mul] at ha hb hc hd
      rw [hc, hd, ha, hb, Int.mul_neg]
      omega
    · rw [Int.neg_mul, Int.one_mul] at ha hb hc hd
      rw [Int.neg_neg] at hb hc
      rw [hc, hd, ha, hb, Int.mul_neg]
      omega
  exact ⟨IntWalk.i64_in _ (by omega), IntWalk.i64_in _ (by omega), IntWalk.i64_in _ (by omega), IntWalk.i64_in _ (by omega), f1, f2, f3, f4⟩

theorem abs_of {g A a : Int} (h : 0 ≤ A) (sgn : g = 1 ∨ g = -1) (ha : a = g * A ∨ a = -(g * A)) : (a.natAbs : Int) = A := by
  rcases sgn with rfl | rfl
  · simp only [Int.one_mul] at ha; omega
  · simp only [Int.neg_mul, Int.one_mul] at ha; omega

set_option maxHeartbeats 3200000 in
set_option maxRecDepth 100000 in
theorem look_any (a : Option Addr) (e cap : Nat) (xs : List Int) (b : Option Addr) (cap' : Nat) (ys : List Int) (w : World) (h : Reads w w.heap.size a (e + 3) cap xs) (g : Reads w w.heap.size b (e + 3) cap' ys) (hn : e ≤ 8192) (htop : 1 ≤ xs[e + 2]?.getD 0) (hle : val ys ≤ val xs) :
    Calls Tryz.prog 125 #[.slice a (e + 3) cap, .slice b (e + 3) cap'] w (Looked w (val xs) (val ys)) := by
  have bt0 := h.2.1.at (e + 2)
  have bt1 := g.2.1.at (e + 2)
  have hty := top_le h.2.1 g.2.1 (e + 2) h.1 g.1 hle
  obtain ⟨t, ht⟩ : ∃ t, 32 - Lib.bitLen (xs[e + 2]?.getD 0).toNat = t := ⟨_, rfl⟩
  obtain ⟨t31, hfit⟩ := lead_fit _ htop bt0.2 t ht
  have HLD := hid (fun ww => lead_any (xs[e + 2]?.getD 0) ww htop bt0.2)
  rw [ht] at HLD
  have HX := hid (fun ww (hb : Below w.heap.size w ww) => highest_any a e cap xs t ww (h.later hb hb.size) hn t31 (hfit _ (by omega) (Int.le_refl _)))
  have HY := hid (fun ww (hb : Below w.heap.size w ww) => highest_any b e cap' ys t ww (g.later hb hb.size) hn t31 (hfit _ bt1.1 hty))
  -- the highest bits, and what is below them
  have nx := val_nonneg h.2.1
  have ny := val_nonneg g.2.1
  have kp : (0 : Int) < 4294967296 ^ e * 2 ^ (34 - t) := Int.mul_pos (pw_pos e) (two_pos _)
  have dx : val xs / 4294967296 ^ e / 2 ^ (34 - t) = val xs / (4294967296 ^ e * 2 ^ (34 - t)) := Int.ediv_ediv_of_nonneg (Int.le_of_lt (pw_pos e))
  have dy : val ys / 4294967296 ^ e / 2 ^ (34 - t) = val ys / (4294967296 ^ e * 2 ^ (34 - t)) := Int.ediv_ediv_of_nonneg (Int.le_of_lt (pw_pos e))
  rw [dx] at HX
  rw [dy] at HY
  obtain ⟨K, hK⟩ : ∃ K : Int, 4294967296 ^ e * 2 ^ (34 - t) = K := ⟨_, rfl⟩
  rw [hK] at HX HY kp
  have mx := Int.mul_ediv_add_emod (val xs) K
  have my := Int.mul_ediv_add_emod (val ys) K
  have lx := Int.emod_lt_of_pos (val xs) kp
  have ly := Int.emod_lt_of_pos (val ys) kp
  have lx0 := Int.emod_nonneg (val xs) (show K ≠ 0 by omega)
  have ly0 := Int.emod_nonneg (val ys) (show K ≠ 0 by omega)
  have pq : val ys / K ≤ val xs / K := Int.ediv_le_ediv kp hle
  have q00 : 0 ≤ val ys / K := Int.ediv_nonneg ny (by omega)
  obtain ⟨p0, hp0⟩ : ∃ p, val xs / K = p := ⟨_, rfl⟩
  obtain ⟨q0, hq0⟩ : ∃ p, val ys / K = p := ⟨_, rfl⟩
  rw [hp0] at HX mx pq
  rw [hq0] at HY my pq q00
  have HK := hid (And.intro kp (And.intro mx (And.intro my (And.intro lx (And.intro ly (And.intro lx0 ly0))))))
  rcases h.2.2.1 with h0 | ⟨b2, o2, rfl, hb2, hc2⟩
  · omega
  have hc0 := hc2 (e + 2) (by omega)
  clear dx dy hK mx my lx ly lx0 ly0 hp0 hq0 kp hc2 h g hfit ht hty bt1 nx ny hle
  generalize xs[e + 2]?.getD 0 = top at *
  go_enter Tryz.func125, Tryz.ntmps125
  go_wp2_with fail
  refine Calls.mono (HLD.out _) ?_
  rintro x w' ⟨rfl, rfl⟩
  go_wp2_with fail
  refine Calls.mono (HX.out _ (alloc_later _ _)) ?_
  rintro x w2 ⟨rfl, p00, p01, hb2'⟩
  have hbA := bt (alloc_later _ _) hb2'
  have HR2 := hid (Box.later (Box.made w 131 #[.int .i64 0, .int .i64 0, .int .i64 0, .int .i64 0, .int .i64 0]) hb2' (by simp))
  go_wp2_with fail
  refine Calls.mono (HY.out _ hbA) ?_
  rintro x w3 ⟨rfl, _, q01, hb3⟩
  have hbB := bt hbA hb3
  have HR3 := hid (Box.later HR2.out hb3 HR2.out.lt)
  have hs3 := HR3.out.lt
  have HBB := hid hbB
  clear hb3 hb2' hbA hbB HR2 HX HY HLD hc0
  go_wp2_with fail
  go_loopw [6, 7] (fun c1 c2 wr => ∃ (s f A B C D p q a b c d : Int), c1 = .int .i64 p ∧ c2 = .int .i64 q ∧ 0 ≤ q ∧ q ≤ p ∧ p ≤ 4611686018427387903 ∧ 0 ≤ s ∧ s + q ≤ 4611686018427387903 ∧ Hid (Lp s f A B C D) ∧ Hid (p0 = D * p + B * q ∧ q0 = C * p + A * q) ∧ Hid (a = f * A ∧ b = -(f * B) ∧ c = -(f * C) ∧ d = f * D) ∧ Hid (s = 0 ∨ (D ≤ q ∧ B + D ≤ p - q)) ∧
    Box wr w3.heap.size 131 #[.int .i64 s, .int .i64 a, .int .i64 b, .int .i64 c, .int .i64 d] ∧ Box wr w.heap.size 131 #[.int .i64 0, .int .i64 0, .int .i64 0, .int .i64 0, .int .i64 0] ∧ Below w.heap.size w wr) (fun _ c2 _ => (intOf c2).toNat)
  case atStart => exact ⟨0, 1, 1, 0, 0, 1, p0, q0, 1, 0, 0, 1, rfl, rfl, q00, pq, by omega, by omega, by omega, Lp.first, show _ ∧ _ by omega, show _ ∧ _ by omega, .inl rfl, Box.made _ _ _, HR3.out.later (alloc_later _ _) hs3, bt HBB.out (alloc_later _ _)⟩
  case round =>
    obtain ⟨s, f, A, B, C, D, p, q, a', b', c', d', rfl, rfl, qa, qb, pa, sa, sq, HLP, HPQ, HAB, HH, box, res, hbel⟩ := hrel
    have k0 : wr.cell? ⟨w3.heap.size, 0, none⟩ = some (.int .i64 s) := box.cell 0
    have k1 : wr.cell? ⟨w3.heap.size, 1, none⟩ = some (.int .i64 a') := box.cell 1
    have k2 : wr.cell? ⟨w3.heap.size, 2, none⟩ = some (.int .i64 b') := box.cell 2
    have k3 : wr.cell? ⟨w3.heap.size, 3, none⟩ = some (.int .i64 c') := box.cell 3
    have k4 : wr.cell? ⟨w3.heap.size, 4, none⟩ = some (.int .i64 d') := box.cell 4
    have HFIN : Hid (s = 0 ∨ (1 ≤ s ∧ Leaps (val xs) (val ys) a' b' c' d')) := by
      rcases HH.out with h0 | ⟨h1, h2⟩
      · exact .inl h0
      · by_cases hs0 : s = 0
        · exact .inl hs0
        · right
          obtain ⟨e1, e2, e3, e4⟩ := HAB.out
          obtain ⟨kp, mx, my, lx, ly, lx0, ly0⟩ := HK.out
          refine ⟨by omega, ?_⟩
          rw [e1, e2, e3, e4]
          exact leaps_of HLP.out (by omega) (by omega) lx0 lx ly0 ly (by rw [← HPQ.out.1, Int.mul_comm]; exact mx.symm) (by rw [← HPQ.out.2, Int.mul_comm]; exact my.symm) (HLP.out.held h1 h2 HPQ.out.1 (by omega)) h1 h2
    by_cases hq : q = 0
    · subst hq
      have r0 : wr.cell? ⟨w.heap.size, 0, none⟩ = some (.int .i64 0) := res.cell 0
      have r1 : wr.cell? ⟨w.heap.size, 1, none⟩ = some (.int .i64 0) := res.cell 1
      have r2 : wr.cell? ⟨w.heap.size, 2, none⟩ = some (.int .i64 0) := res.cell 2
      have r3 : wr.cell? ⟨w.heap.size, 3, none⟩ = some (.int .i64 0) := res.cell 3
      have r4 : wr.cell? ⟨w.heap.size, 4, none⟩ = some (.int .i64 0) := res.cell 4
      have g0 := res.free 0
      have g1 := res.free 1
      have g2 := res.free 2
      have g3 := res.free 3
      have g4 := res.free 4
      go_wp2_with fail
      refine bodyPost_ret (v := .agg #[.int .i64 s, .int .i64 a', .int .i64 b', .int .i64 c', .int .i64 d']) (by simp [results, Tryz.results125, go_sem, r0, r1, r2, r3, r4]) rfl ?_
      exact ⟨s, a', b', c', d', rfl, sa, by omega, HFIN.out, ((((hbel.setCell (p := ⟨w.heap.size, 0, none⟩) (Nat.le_refl _) _).setCell (p := ⟨w.heap.size, 1, none⟩) (Nat.le_refl _) _).setCell (p := ⟨w.heap.size, 2, none⟩) (Nat.le_refl _) _).setCell (p := ⟨w.heap.size, 3, none⟩) (Nat.le_refl _) _).setCell (p := ⟨w.heap.size, 4, none⟩) (Nat.le_refl _) _⟩
    · have q1 : 1 ≤ q := by omega
      have hne : (q != 0) = true := by simp [hq]
      have Q1 : 1 ≤ p / q := (Int.le_ediv_iff_mul_le (by omega)).2 (by omega)
      have hpe := Int.mul_ediv_add_emod p q
      have m0' : 0 ≤ p % q := Int.emod_nonneg _ hq
      have m1 : p % q < q := Int.emod_lt_of_pos _ (by omega)
      have td : p.tdiv q = p / q := Int.tdiv_eq_ediv_of_nonneg (by omega)
      have tm : p.tmod q = p % q := Int.tmod_eq_emod_of_nonneg (by omega)
      have Qp : p / q ≤ p := Int.ediv_le_self _ (by omega)
      obtain ⟨Q, hQ⟩ : ∃ Q, p / q = Q := ⟨_, rfl⟩
      obtain ⟨r, hr⟩ : ∃ r, p % q = r := ⟨_, rfl⟩
      rw [hQ] at Q1 hpe td Qp
      rw [hr] at m0' m1 hpe tm
      have wQ : IntKind.i64.wrap Q = Q := IntWalk.i64_in _ (by omega)
      have ps := pair_step (Q := Q) (q := q) (r := r) (by rw [Int.mul_comm]; exact hpe.symm) HPQ.out.1 HPQ.out.2
      have lp' := HLP.out.step Q1
      have hD := lp'.small q1 m0' ps.1 (by omega)
      obtain ⟨e1, e2, e3, e4⟩ := HAB.out
      obtain ⟨w1', w2', w3', w4', f1, f2, f3, f4⟩ := step_sizes (p := p) (q := q) HLP.out Q1 hD e1 e2 e3 e4
      have HST := hid (fun ww => Calls.mono (step_any s a' b' c' d' Q ww ⟨sa, by omega⟩ w1' w2' w3' w4') (R' := fun e w' => e = .returned (.agg #[.int .i64 (s + 1), .int .i64 c', .int .i64 d', .int .i64 (a' - Q * c'), .int .i64 (b' - Q * d')]) ∧ Below ww.heap.size ww w' ∧
        (wr.heap.size < ww.heap.size → ∀ j, w'.cell? ⟨wr.heap.size, j, none⟩ = ww.cell? ⟨wr.heap.size, j, none⟩) ∧ (wr.heap.size < ww.heap.size → ∀ j, w'.frozen? ⟨wr.heap.size, j, none⟩ = ww.frozen? ⟨wr.heap.size, j, none⟩)) (fun _ _ h => ⟨h.1, h.2, fun hlt j => h.2.cell hlt, fun hlt j => h.2.frozen hlt⟩))
      obtain ⟨c2, hc2⟩ : ∃ c2, a' - Q * c' = c2 := ⟨_, rfl⟩
      obtain ⟨d2, hd2⟩ : ∃ d2, b' - Q * d' = d2 := ⟨_, rfl⟩
      rw [hc2] at f3 HST
      rw [hd2] at f4 HST
      obtain ⟨C2, hC2⟩ : ∃ C2, A + Q * C = C2 := ⟨_, rfl⟩
      obtain ⟨D2, hD2⟩ : ∃ D2, B + Q * D = D2 := ⟨_, rfl⟩
      rw [hC2] at lp' ps f3
      rw [hD2] at lp' ps f4 hD
      have ad := abs_of (a := d') lp'.b0 lp'.sgn (.inr f1)
      have ad2 := abs_of (a := d2) (by have := lp'.d1; omega) lp'.sgn (.inl f4)
      have lD : D ≤ D2 := by
        rcases lp'.way with ⟨x0, _⟩ | ⟨_, _, _, x3, _⟩
        · omega
        · exact x3
      have lD0 := lp'.b0
      have HHO := hid (fun ww => holds_any (s + 1) c' d' c2 d2 q r ww (by omega) (by omega) (by omega) (by omega) (by omega))
      rw [ad, ad2] at HHO
      have HLP' := hid lp'
      have HPS := hid ps
      have HAB' : Hid (c' = -f * C ∧ d' = -(-f * D) ∧ c2 = -(-f * C2) ∧ d2 = -f * D2) := ⟨f2, f1, f3, f4⟩
      have hbs := box.lt
      have hrs := res.lt
      have HBX := hid box
      have HRS := hid res
      have HBL := hid hbel
      clear lp' ps f1 f2 f3 f4 e1 e2 e3 e4 ad ad2 hC2 hD2 hc2 hd2 w1' w2' w3' w4' hpe box res hbel HLP HPQ HAB HH lD lD0 hD
      go_upto_region 5 with fail
      go_cut [9, 10] from 25 to 42 (fun n9 n10 wx => ∃ b9 : Nat, n9 = .pointer (some ⟨b9, 0, none⟩) ∧ n10 = .int .i64 r ∧ Box wx b9 131 #[.int .i64 (s + 1), .int .i64 c', .int .i64 d', .int .i64 c2, .int .i64 d2] ∧ wr.heap.size ≤ b9 ∧ Below wr.heap.size wr wx)
      case first =>
        go_region_with (go_at_call 135; with_reducible refine Calls.mono (HST.out _) ?_; rintro e w5 ⟨rfl, hb5, hx5, hy5⟩)
        all_goals
          go_wp2_with fail
          go_meet
        · exact ⟨_, rfl, rfl, Box.made _ _ _, hb5.size, bt ((Below.refl _ wr).drew.trans hb5) (alloc_later _ _)⟩
        · exact ⟨_, rfl, rfl, (new_box hb5).1.put5 _ _ _ _ _, Nat.le_refl _, below_put5 (new_box hb5).2 _ (Nat.le_refl _) _ _ _ _ _⟩
        · exact ⟨_, rfl, rfl, (new_box hb5).1.put5 _ _ _ _ _, Nat.le_refl _, below_put5 (new_box hb5).2 _ (Nat.le_refl _) _ _ _ _ _⟩
      case rest =>
        obtain ⟨b9, rfl, rfl, box9, hb9, hbw⟩ := hcut
        have n0 : wc.cell? ⟨b9, 0, none⟩ = some (.int .i64 (s + 1)) := box9.cell 0
        have n1 : wc.cell? ⟨b9, 1, none⟩ = some (.int .i64 c') := box9.cell 1
        have n2 : wc.cell? ⟨b9, 2, none⟩ = some (.int .i64 d') := box9.cell 2
        have n3 : wc.cell? ⟨b9, 3, none⟩ = some (.int .i64 c2) := box9.cell 3
        have n4 : wc.cell? ⟨b9, 4, none⟩ = some (.int .i64 d2) := box9.cell 4
        go_wp2_with fail
        refine Calls.mono (HHO.out _) ?_
        rintro e w6 ⟨rfl, hb6⟩
        have box8 := (HBX.out.later hbw hbs).later hb6 (HBX.out.later hbw hbs).lt
        have res8 := (HRS.out.later hbw hrs).later hb6 (HRS.out.later hbw hrs).lt
        have box6 := box9.later hb6 box9.lt
        have hbel : Below w.heap.size w w6 := bt HBL.out (bt hbw hb6)
        have hne6 : ¬ b9 = w3.heap.size := by omega
        have hne7 : ¬ w3.heap.size = b9 := by omega
        clear n0 n1 n2 n3 n4 k0 k1 k2 k3 k4 HST
        by_cases hh : D2 ≤ r ∧ D + D2 ≤ q - r
        · have hdec : decide (D2 ≤ r ∧ D + D2 ≤ q - r) = true := decide_eq_true hh
          rw [hdec]
          clear hdec
          have n0 : w6.cell? ⟨b9, 0, none⟩ = some (.int .i64 (s + 1)) := box6.cell 0
          have n1 : w6.cell? ⟨b9, 1, none⟩ = some (.int .i64 c') := box6.cell 1
          have n2 : w6.cell? ⟨b9, 2, none⟩ = some (.int .i64 d') := box6.cell 2
          have n3 : w6.cell? ⟨b9, 3, none⟩ = some (.int .i64 c2) := box6.cell 3
          have n4 : w6.cell? ⟨b9, 4, none⟩ = some (.int .i64 d2) := box6.cell 4
          have f0 := box8.free 0
          have f1 := box8.free 1
          have f2 := box8.free 2
          have f3 := box8.free 3
          have f4 := box8.free 4
          have m0 : w6.cell? ⟨w3.heap.size, 0, none⟩ = some (.int .i64 s) := box8.cell 0
          have m1 : w6.cell? ⟨w3.heap.size, 1, none⟩ = some (.int .i64 a') := box8.cell 1
          have m2 : w6.cell? ⟨w3.heap.size, 2, none⟩ = some (.int .i64 b') := box8.cell 2
          have m3 : w6.cell? ⟨w3.heap.size, 3, none⟩ = some (.int .i64 c') := box8.cell 3
          have m4 : w6.cell? ⟨w3.heap.size, 4, none⟩ = some (.int .i64 d') := box8.cell 4
          have HNX := hid (box8.put5 (.int .i64 (s + 1)) (.int .i64 c') (.int .i64 d') (.int .i64 c2) (.int .i64 d2))
          have HRX := hid (res8.put5_other (show w.heap.size ≠ w3.heap.size by omega) (.int .i64 (s + 1)) (.int .i64 c') (.int .i64 d') (.int .i64 c2) (.int .i64 d2))
          have HBX' := hid (below_put5 hbel w3.heap.size (by omega) (.int .i64 (s + 1)) (.int .i64 c') (.int .i64 d') (.int .i64 c2) (.int .i64 d2))
          have HHD := hid hh
          clear box6 box8 res8 box9 hbel hh hbw hb6
          go_wp2_with fail
          go_roundw
          case rel => exact ⟨s + 1, -f, C, D, C2, D2, q, r, c', d', c2, d2, rfl, rfl, m0', by omega, by omega, by omega, by omega, HLP', HPS, HAB', .inr HHD.out, HNX.out, HRX.out, HBX'.out⟩
          case measure => simp [intOf]; omega
        · have hdec : decide (D2 ≤ r ∧ D + D2 ≤ q - r) = false := decide_eq_false hh
          rw [hdec]
          clear hdec
          have m0 : w6.cell? ⟨w3.heap.size, 0, none⟩ = some (.int .i64 s) := box8.cell 0
          have m1 : w6.cell? ⟨w3.heap.size, 1, none⟩ = some (.int .i64 a') := box8.cell 1
          have m2 : w6.cell? ⟨w3.heap.size, 2, none⟩ = some (.int .i64 b') := box8.cell 2
          have m3 : w6.cell? ⟨w3.heap.size, 3, none⟩ = some (.int .i64 c') := box8.cell 3
          have m4 : w6.cell? ⟨w3.heap.size, 4, none⟩ = some (.int .i64 d') := box8.cell 4
          have r0 : w6.cell? ⟨w.heap.size, 0, none⟩ = some (.int .i64 0) := res8.cell 0
          have r1 : w6.cell? ⟨w.heap.size, 1, none⟩ = some (.int .i64 0) := res8.cell 1
          have r2 : w6.cell? ⟨w.heap.size, 2, none⟩ = some (.int .i64 0) := res8.cell 2
          have r3 : w6.cell? ⟨w.heap.size, 3, none⟩ = some (.int .i64 0) := res8.cell 3
          have r4 : w6.cell? ⟨w.heap.size, 4, none⟩ = some (.int .i64 0) := res8.cell 4
          have g0 := res8.free 0
          have g1 := res8.free 1
          have g2 := res8.free 2
          have g3 := res8.free 3
          have g4 := res8.free 4
          clear box6 box8 res8 box9 hh hbw hb6
          go_wp2_with fail
          refine bodyPost_ret (v := .agg #[.int .i64 s, .int .i64 a', .int .i64 b', .int .i64 c', .int .i64 d']) (by simp [results, Tryz.results125, go_sem, r0, r1, r2, r3, r4]) rfl ?_
          exact ⟨s, a', b', c', d', rfl, sa, by omega, HFIN.out, below_put5 hbel w.heap.size (Nat.le_refl _) _ _ _ _ _⟩
end Go.Proofs.YtcfcjnlobpoglaaGreat

/- nat.replace: a number in own memory becomes its rest by another one. -/
namespace Go.Proofs.YtcfcjnlobpoglaaGreat
open Go.RowKit
set_option linter.unusedVariables false

/-- Words set to nought, one behind the other. -/
theorem clear_cells {base g n cap : Nat} : ∀ (k o : Nat) (w : World) (zs : List Int), OwnC w base g n cap zs →
    ∃ us, OwnC (w.setCells g o (List.replicate k (.int .u32 0))) base g n cap us ∧ (∀ j, o ≤ j → j < o + k → us[j]?.getD 0 = 0) ∧ (∀ j, j < o → us[j]?.getD 0 = zs[j]?.getD 0) ∧ w.grownBy (w.setCells g o (List.replicate k (.int .u32 0))) (some g)
  | 0, o, w, zs, h => ⟨zs, h, fun j h1 h2 => by omega, fun _ _ => rfl, World.grownBy.refl _ _⟩
  | k + 1, o, w, zs, h => by
    obtain ⟨h1, hg⟩ := OwnC.set h o 0
    obtain ⟨us, h2, h3, h4, h5⟩ := clear_cells k (o + 1) _ _ h1
    refine ⟨us, h2, fun j a b => ?_, fun j a => ?_, grown_trans hg h5⟩
    · by_cases e : j = o
      · rw [h4 j (by omega), e, List.getElem?_set, if_pos rfl]
        split <;> rfl
      · exact h3 j (by omega) (by omega)
    · rw [h4 j (by omega), List.getElem?_set, if_neg (by omega)]

/-- A copy into an own row. -/
theorem copy_into {w : World} {ops : Array Oper} {rest : List Oper} {o : Oper} {a : Act} {Q : Exit → Act → World → Prop} (hgd : o.guard = none) (d s : Operand) (ho : o.op = .call { callee := .builtin .copy, args := #[d, s], argTypes := #[24, 24] })
    (base g n cap : Nat) (zs : List Int) (sp : Option Addr) (m scap B : Nat) (rs : List Int) (hd : a.eval d = .slice (some ⟨g, 0, none⟩) n cap) (hs : a.eval s = .slice sp m scap) (hO : OwnC w base g n cap zs) (wz : Wd zs) (hR : Reads w B sp m scap rs) (hm : m ≤ n)
    (h : ∀ w' us, Hid (OwnC w' base g n cap us) → Hid (∀ j, us[j]?.getD 0 = if j < m then rs[j]?.getD 0 else zs[j]?.getD 0) → Wd us → w.grownBy w' (some g) → wpList Tryz.prog ops Q rest (a.put o.dst (goInt m)) w') :
    wpList Tryz.prog ops Q (o :: rest) a w := by
  obtain ⟨i0, hi, hz0, hz1, hz2⟩ := info_parts Tryz.infoW
  have hlr := hR.1
  have hlz := hO.len
  by_cases h0 : m = 0
  · subst h0
    refine wpList_copy_nothing hgd d s _ _ ho 66 Tryz.underlying24 (by rw [hi]; simp [hz1]) _ sp n cap 0 scap hd hs (Nat.zero_min _) ?_
    exact h w zs hO (fun j => by rw [if_neg (by omega)]) wz (World.grownBy.refl _ _)
  · obtain ⟨ad, rfl, hcs⟩ := copy_cells hR m (Nat.le_refl _) (by omega)
    rw [List.take_of_length_le (by omega)] at hcs
    rcases hO.2 with ⟨h', _⟩ | ⟨g', cap', cur, h', hb, hg, hnc, hcm, hsz, ht⟩
    · simp at h'
    · simp only [Value.slice.injEq, Option.some.injEq, Addr.mk.injEq, and_true, true_and] at h'
      obtain ⟨rfl, rfl⟩ := h'
      have hlen : (rs.map (Value.int .u32)).length = m := by simp [hlr]
      have hzl : (zs.map (Value.int .u32)).length = n := by simp [hlz]
      rw [Nat.mul_one] at ht hsz
      refine wpList_copy_own hgd d s _ _ ho 66 Tryz.underlying24 (by rw [hi]; simp [hz1]) g 0 n cap ad m scap hd hs cur 66 hg (rs.map (Value.int .u32)) (by rw [hlen]; exact (Nat.min_eq_left hm).symm) hcs (by rw [hlen, hsz]; omega) (ints_oneCell _ _) ?_
      rw [hlen]
      refine h _ (rs ++ zs.drop m) ?_ (fun j => ?_) (hR.2.1.append (wz.drop m)) ?_
      · refine ⟨by simp; omega, .inr ⟨g, cap, _, rfl, hb, setRow_heap w g cur _ _ _ hg, hnc, hcm, by simp [hsz, hlr]; omega, ?_⟩⟩
        rw [Nat.mul_one]
        simp only [List.take_zero, List.nil_append, Nat.zero_add]
        rw [List.map_append, List.map_drop, ← ht]
        have e1 : n = (rs.map (Value.int .u32)).length + (n - m) := by rw [hlen]; omega
        conv => lhs; rw [e1]
        rw [List.take_length_add_append, ← List.drop_take]
      · rw [List.getElem?_append, hlr]
        by_cases c : j < m
        · rw [if_pos c, if_pos c]
        · rw [if_neg c, if_neg c, List.getElem?_drop, show m + (j - m) = j by omega]
      · exact ⟨rfl, rfl, rfl, by simp [World.setRow], fun k hk hne => setRow_other w g k _ (fun e => hne (by rw [e]))⟩

theorem OwnC.reads {w : World} {base g n cap : Nat} {ys : List Int} (h : OwnC w base g n cap ys) (hw : Wd ys) : Reads w w.heap.size (some ⟨g, 0, none⟩) n cap ys := by
  obtain ⟨a, c, hv, hr⟩ := Reads.own h hw
  simp only [Value.slice.injEq] at hv
  obtain ⟨rfl, _, rfl⟩ := hv
  exact hr
theorem OwnC.sl {w : World} {base g n cap : Nat} {ys : List Int} (h : OwnC w base g n cap ys) (hw : Wd ys) : Sl w (.slice (some ⟨g, 0, none⟩) n cap) ys := by
  have e := h.len
  subst e
  exact ⟨_, _, rfl, h.reads hw⟩

set_option maxHeartbeats 1600000 in
set_option maxRecDepth 100000 in
theorem replace_any (base gx gy n capx capy : Nat) (xs ys : List Int) (w : World) (hx : OwnC w base gx n capx xs) (hy : OwnC w base gy n capy ys) (hne : gx ≠ gy) (wx : Wd xs) (wy : Wd ys) (hn : n ≤ 8192) (tx : Trimmed xs) (h0 : 0 < sz ys) :
    Calls Tryz.prog 127 #[.slice (some ⟨gx, 0, none⟩) n capx, .slice (some ⟨gy, 0, none⟩) n capy] w fun e w' => ∃ (us : List Int) (q : Int), e = .returned (.tuple #[]) ∧ OwnC w' base gx n capx us ∧ OwnC w' base gy n capy ys ∧ Wd us ∧
      val xs = q * val ys + val us ∧ val us < val ys ∧ Below base w w' := by
  have bx := hx.base
  have by' := hy.base
  have cx := hx.cap
  have cy := hy.cap
  have lx := hx.len
  have ly := hy.len
  have sy := sz_le ys
  unfold maxLen at cx cy
  have HSZ := hid (size_any _ _ _ ys _ w (hy.reads wy) (by omega))
  have hyt : OwnC w base gy (sz ys) capy (trimmed ys) := hy.take (sz ys) (by omega)
  have HDV := hid (divide_any _ _ xs (trimmed ys) w (hx.sl wx) (hyt.sl wy.trimmed) (by omega) (by rw [length_trimmed]; omega) tx (Trimmed.trimmed _) (by rw [length_trimmed]; exact h0))
  have HOX := hid hx
  have HOY := hid hy
  have hszn : sz ys ≤ n := by omega
  have hsc : sz ys ≤ capy := by omega
  have n0 : 0 < n := by omega
  have hvl : val ys < 4294967296 ^ n := by have := val_lt wy; rw [ly] at this; exact this
  have HVL := hid hvl
  have HVT := hid (val_trimmed ys)
  clear hx hy hyt lx ly sy hvl
  obtain ⟨S, hS⟩ : ∃ S, sz ys = S := ⟨_, rfl⟩
  rw [hS] at HSZ HDV hszn hsc h0
  clear hS
  go_enter Tryz.func127, Tryz.ntmps127
  go_wp2_with fail
  refine Calls.mono HSZ.out ?_
  rintro e w' ⟨rfl, rfl⟩
  go_wp2_with fail
  refine Calls.mono HDV.out ?_
  rintro e w1 ⟨v1, u1, q, r, c, rfl, oq, orr, _, _, _, _, wq, wR, tq, tr, hv, hlt, hb1⟩
  rw [HVT.out] at hv hlt
  obtain ⟨a1, c1, rfl, hrr⟩ := Reads.own orr wR
  have lr : r.length ≤ n := len_of_lt wR tr (by have := HVL.out; omega)
  have ox1 : OwnC w1 base gx n capx xs := owns_later HOX.out hb1
  have oy1 : OwnC w1 base gy n capy ys := owns_later HOY.out hb1
  have hs1 := hb1.size
  obtain ⟨us, ou, hu0, _, hgu⟩ := clear_cells n 0 w1 xs ox1
  have hcl : ∀ ty, (Builtin.clear_ #[24] ty #[.slice (some ⟨gx, 0, none⟩) n capx]).run Tryz.prog w1 = .ok (.tuple #[]) (w1.setCells gx 0 (List.replicate n (.int .u32 0))) := fun ty =>
    Go.Lib.run_clear_slice w1 24 66 ty (.int .u32 0) Tryz.underlying24 (fun w => Tryz.zeroValue66 w) rfl rfl gx 0 n capx n0 (fun j hj => by rw [Nat.zero_add, ox1.cell j hj]; rfl) (fun j hj => by rw [Nat.zero_add]; exact ox1.free j)
  have oy2 := World.ownsRow.kept oy1 hgu (by right; intro e; simp [Value.ownBlock] at e; omega)
  have hb2 : Below base w1 (w1.setCells gx 0 (List.replicate n (.int .u32 0))) := (Below.refl _ _).grown hgu (by omega) (fun k hk => by simp at hk; omega)
  have hrr2 : Reads (w1.setCells gx 0 (List.replicate n (.int .u32 0))) w1.heap.size a1 r.length c1 r := by
    obtain ⟨r1, r2, r3, r4⟩ := hrr
    refine ⟨r1, r2, r3.imp id ?_, r4⟩
    rintro ⟨b, o, rfl, hb, hc⟩
    refine ⟨b, o, rfl, hb, fun j hj => ?_⟩
    have hbb := orr.lt b rfl
    exact hgu.cell (hc j hj) (by intro e; simp at e; omega)
  have hul := ou.len
  have hus : ∀ j : Nat, us[j]?.getD 0 = 0 := fun j => by
    by_cases cj : j < n
    · exact hu0 j (Nat.zero_le _) (by omega)
    · rw [List.getElem?_eq_none (by omega)]; rfl
  have wu : Wd us := fun z hz => by
    obtain ⟨j, hj, rfl⟩ := List.mem_iff_getElem.1 hz
    have := hus j
    rw [List.getElem?_eq_getElem hj] at this
    simp at this
    omega
  have hbB : Below base w (w1.setCells gx 0 (List.replicate n (.int .u32 0))) := (hb1.mono (by omega)).trans hb2
  have HUS := hid hus
  have HOU := hid ou
  have HOY2 := hid oy2
  have HRR := hid hrr2
  have HBB := hid hbB
  have HV := hid (And.intro hv hlt)
  have hs2 := hgu.size
  generalize w1.setCells gx 0 (List.replicate n (.int .u32 0)) = w2 at *
  clear oq orr hv hlt hb1 hrr ox1 oy1 ou hu0 hgu oy2 hb2 hrr2 hul hus hbB HOX HOY HSZ HDV
  go_wp2_with (refine copy_into rfl (.tmp 16) (.tmp 17) rfl base gx n capx us a1 r.length c1 _ r rfl rfl HOU.out wu HRR.out lr ?_)
  intro w3 ts HO3 HE3 wt hg3
  have HF : Hid (OwnC w3 base gy n capy ys) := World.ownsRow.kept HOY2.out hg3 (by right; intro e; simp [Value.ownBlock] at e; omega)
  have hb3 : Below base w w3 := HBB.out.trans ((Below.refl _ _).grown hg3 (by omega) (fun k hk => by simp at hk; omega))
  have HVV : Hid (val ts = val r) := val_eq_of (fun j => by
    rw [HE3.out j]
    split
    · rfl
    · rw [HUS.out j, List.getElem?_eq_none (by omega)]; rfl)
  clear hg3
  go_wp2_with fail
  go_end0
  exact ⟨ts, val q, rfl, HO3.out, HF.out, wt, by rw [HVV.out]; exact HV.out.1, by rw [HVV.out]; exact HV.out.2, hb3⟩
end Go.Proofs.YtcfcjnlobpoglaaGreat

