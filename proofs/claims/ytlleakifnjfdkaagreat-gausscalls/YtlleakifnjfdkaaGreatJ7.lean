/- My texts on the way to GaussCalls, one behind the other: contracts of the program and of the document's answers. -/
import Derived.Test.YtlleakifnjfdkaaGreatJ6
import Derived.Deep.RegionHeld3
import Derived.Test.YtlleakifnjfdkaaGreatChecked
import Derived.Test.YtlleakifnjfdkaaGreatRows
import Derived.WalkKit
import Derived.ProofKit
import Derived.OpenShut
import Derived.ShutString
import Derived.Below
import Derived.Lib.SmallJoins
import Derived.Deep.Strs
/- The law GaussCalls: what is lent, three calls and three boxes in whatever order, for whatever follows. (tools/mkgr2.py) -/
namespace Go.Proofs.YtlleakifnjfdkaaGreat
open Go.RowKit
set_option linter.unusedVariables false
set_option linter.unusedSimpArgs false

theorem gst_two {W : World} {base : Nat} {p q : G6} {bp bq : Nat} (h1 : Box W bq 26 (gv q)) (o1 : q.Ow W base) (h2 : Box W bp 26 (gv p)) (o2 : p.Ow W base) : GSt W base [(bq, q), (bp, p)] := by
  intro x hx
  simp only [List.mem_cons, List.not_mem_nil, or_false] at hx
  rcases hx with rfl | rfl
  · exact ⟨h1, o1⟩
  · exact ⟨h2, o2⟩
def gc_region_ops : Array Oper := #[{ dst := some 51, op := Op.load 26 (Operand.tmp 3), type := 26, pos := "law.go:33", after := #[], guard := none }, { dst := some 52, op := Op.call { callee := Callee.value (Operand.func 6), args := #[Operand.tmp 51], argTypes := #[26] }, type := 26, pos := "law.go:33", after := #[{ on := 0, ground := Ground.data }], guard := none }, { dst := some 53, op := Op.load 26 (Operand.tmp 4), type := 26, pos := "law.go:33", after := #[], guard := none }, { dst := some 54, op := Op.call { callee := Callee.value (Operand.func 6), args := #[Operand.tmp 53], argTypes := #[26] }, type := 26, pos := "law.go:33", after := #[{ on := 2, ground := Ground.data }, { on := 1, ground := Ground.chain }], guard := none }, { dst := some 55, op := Op.load 24 (Operand.tmp 5), type := 24, pos := "law.go:33", after := #[], guard := none }, { dst := some 56, op := Op.call { callee := Callee.value (Operand.func 7), args := #[Operand.tmp 55], argTypes := #[24] }, type := 24, pos := "law.go:33", after := #[{ on := 4, ground := Ground.data }, { on := 3, ground := Ground.chain }], guard := none }, { dst := some 7, op := Op.alloc 26, type := 0, pos := "law.go:33", after := #[], guard := none }, { dst := some 8, op := Op.alloc 26, type := 0, pos := "law.go:33", after := #[], guard := none }, { dst := some 9, op := Op.alloc 24, type := 0, pos := "law.go:33", after := #[], guard := none }, { dst := none, op := Op.store 26 (Operand.tmp 7) (Operand.tmp 52), type := 0, pos := "law.go:33", after := #[{ on := 6, ground := Ground.data }, { on := 1, ground := Ground.data }, { on := 5, ground := Ground.chain }, { on := 0, ground := Ground.phase }, { on := 1, ground := Ground.phase }, { on := 2, ground := Ground.textOnly Departure.lateStores }, { on := 3, ground := Ground.textOnly Departure.lateStoresUnsure }, { on := 4, ground := Ground.textOnly Departure.lateStores }, { on := 5, ground := Ground.textOnly Departure.lateStoresUnsure }, { on := 6, ground := Ground.phase }, { on := 7, ground := Ground.phase }, { on := 8, ground := Ground.phase }], guard := none }, { dst := none, op := Op.store 26 (Operand.tmp 8) (Operand.tmp 54), type := 0, pos := "law.go:33", after := #[{ on := 7, ground := Ground.data }, { on := 3, ground := Ground.data }, { on := 9, ground := Ground.chain }, { on := 0, ground := Ground.phase }, { on := 1, ground := Ground.phase }, { on := 2, ground := Ground.phase }, { on := 3, ground := Ground.phase }, { on := 4, ground := Ground.textOnly Departure.lateStores }, { on := 5, ground := Ground.textOnly Departure.lateStoresUnsure }, { on := 6, ground := Ground.phase }, { on := 7, ground := Ground.phase }, { on := 8, ground := Ground.phase }, { on := 9, ground := Ground.phase }], guard := none }, { dst := none, op := Op.store 24 (Operand.tmp 9) (Operand.tmp 56), type := 0, pos := "law.go:33", after := #[{ on := 8, ground := Ground.data }, { on := 5, ground := Ground.data }, { on := 10, ground := Ground.chain }, { on := 0, ground := Ground.phase }, { on := 1, ground := Ground.phase }, { on := 2, ground := Ground.phase }, { on := 3, ground := Ground.phase }, { on := 4, ground := Ground.phase }, { on := 5, ground := Ground.phase }, { on := 6, ground := Ground.phase }, { on := 7, ground := Ground.phase }, { on := 8, ground := Ground.phase }, { on := 9, ground := Ground.phase }, { on := 10, ground := Ground.phase }], guard := none }]
set_option maxHeartbeats 6400000 in
set_option maxRecDepth 100000 in
theorem gc_region (X : World) (a b : G6) (r : F3) (ba bb br : Nat) (HA0 : Hid (Box X ba 26 (gv a))) (HB0 : Hid (Box X bb 26 (gv b))) (HR0 : Hid (Box X br 24 (fv r))) (HL : Hid (∀ V, Below X.heap.size X V → a.Sl4 V ∧ b.Sl4 V ∧ r.Sl2 V)) (HNa : Hid (a.xs.length ≤ 3000 ∧ a.ys.length ≤ 3000 ∧ a.us.length ≤ 3000 ∧ a.vs.length ≤ 3000)) (HNb : Hid (b.xs.length ≤ 3000 ∧ b.ys.length ≤ 3000 ∧ b.us.length ≤ 3000 ∧ b.vs.length ≤ 3000)) (HNr : Hid (r.xs.length ≤ 3000 ∧ r.ys.length ≤ 3000)) (t0 t1 t2 t6 t7 t8 t9 t10 t11 t12 t13 t14 t15 t16 t17 t18 t19 t20 t21 t22 t23 t24 t25 t26 t27 t28 t29 t30 t31 t32 t33 t34 t35 t36 t37 t38 t39 t40 t41 t42 t43 t44 t45 t46 t47 t48 t49 t50 t51 t52 t53 t54 t55 t56 : Value) (rest : List Value) (Q : Exit → Act → World → Prop)
    (hQ : ∀ (p : G6) (q : G6) (s : F3) (bp : Nat) (bq : Nat) (bs : Nat) (u51 : Value) (u52 : Value) (u53 : Value) (u54 : Value) (u55 : Value) (u56 : Value) (F : World), Hid (GSt F X.heap.size [(bq, q), (bp, p)] ∧ Box F bs 24 (fv s) ∧ p.Lt a F X.heap.size ∧ q.Lt b F X.heap.size ∧ s.Lt r F X.heap.size ∧ GCh X.heap.size [q, p] F.heap.size ∧ Below X.heap.size X F) → Q .normal { tmps := (List.toArray (t0 :: t1 :: t2 :: (.pointer (some ⟨ba, 0, none⟩)) :: (.pointer (some ⟨bb, 0, none⟩)) :: (.pointer (some ⟨br, 0, none⟩)) :: t6 :: (.pointer (some ⟨bp, 0, none⟩)) :: (.pointer (some ⟨bq, 0, none⟩)) :: (.pointer (some ⟨bs, 0, none⟩)) :: t10 :: t11 :: t12 :: t13 :: t14 :: t15 :: t16 :: t17 :: t18 :: t19 :: t20 :: t21 :: t22 :: t23 :: t24 :: t25 :: t26 :: t27 :: t28 :: t29 :: t30 :: t31 :: t32 :: t33 :: t34 :: t35 :: t36 :: t37 :: t38 :: t39 :: t40 :: t41 :: t42 :: t43 :: t44 :: t45 :: t46 :: t47 :: t48 :: t49 :: t50 :: u51 :: u52 :: u53 :: u54 :: u55 :: u56 :: rest)), defers := [] } F) :
    Code.wp Tryz.prog (Code.region 3 gc_region_ops true) Q { tmps := (List.toArray (t0 :: t1 :: t2 :: (.pointer (some ⟨ba, 0, none⟩)) :: (.pointer (some ⟨bb, 0, none⟩)) :: (.pointer (some ⟨br, 0, none⟩)) :: t6 :: t7 :: t8 :: t9 :: t10 :: t11 :: t12 :: t13 :: t14 :: t15 :: t16 :: t17 :: t18 :: t19 :: t20 :: t21 :: t22 :: t23 :: t24 :: t25 :: t26 :: t27 :: t28 :: t29 :: t30 :: t31 :: t32 :: t33 :: t34 :: t35 :: t36 :: t37 :: t38 :: t39 :: t40 :: t41 :: t42 :: t43 :: t44 :: t45 :: t46 :: t47 :: t48 :: t49 :: t50 :: t51 :: t52 :: t53 :: t54 :: t55 :: t56 :: rest)), defers := [] } X := by
  have HQ := hid hQ
  clear hQ
  have HK : Hid (∀ V, Below X.heap.size X V → V.cell? ⟨ba, 0, none⟩ = some (.bool a.n) ∧ V.cell? ⟨ba, 1, none⟩ = some (.slice a.a a.xs.length a.ca) ∧ V.cell? ⟨ba, 2, none⟩ = some (.slice a.b a.ys.length a.cb) ∧ V.cell? ⟨ba, 3, none⟩ = some (.bool a.m) ∧ V.cell? ⟨ba, 4, none⟩ = some (.slice a.c a.us.length a.cc) ∧ V.cell? ⟨ba, 5, none⟩ = some (.slice a.d a.vs.length a.cd) ∧ V.cell? ⟨bb, 0, none⟩ = some (.bool b.n) ∧ V.cell? ⟨bb, 1, none⟩ = some (.slice b.a b.xs.length b.ca) ∧ V.cell? ⟨bb, 2, none⟩ = some (.slice b.b b.ys.length b.cb) ∧ V.cell? ⟨bb, 3, none⟩ = some (.bool b.m) ∧ V.cell? ⟨bb, 4, none⟩ = some (.slice b.c b.us.length b.cc) ∧ V.cell? ⟨bb, 5, none⟩ = some (.slice b.d b.vs.length b.cd) ∧ V.cell? ⟨br, 0, none⟩ = some (.bool r.n) ∧ V.cell? ⟨br, 1, none⟩ = some (.slice r.a r.xs.length r.ca) ∧ V.cell? ⟨br, 2, none⟩ = some (.slice r.b r.ys.length r.cb)) := fun V hb => by
    have k1 := HA0.out.later hb HA0.out.lt
    have k2 := HB0.out.later hb HB0.out.lt
    have k3 := HR0.out.later hb HR0.out.lt
    exact ⟨k1.cell 0, k1.cell 1, k1.cell 2, k1.cell 3, k1.cell 4, k1.cell 5, k2.cell 0, k2.cell 1, k2.cell 2, k2.cell 3, k2.cell 4, k2.cell 5, k3.cell 0, k3.cell 1, k3.cell 2⟩
  clear HA0 HB0 HR0
  have F_1_3_5_6_7_8 : Hid (∀ listed, listed = #[true, true, true, true, true, true, true, true, true, false, false, false] → ∀ (V : World) (p : G6) (q : G6) (s : F3) (bp : Nat) (bq : Nat) (bs : Nat), Hid ((Below X.heap.size X V) ∧ (p.Lt a V X.heap.size ∧ GCh X.heap.size [p] V.heap.size) ∧ (q.Lt b V X.heap.size ∧ GCh X.heap.size [q, p] V.heap.size) ∧ (s.Lt r V X.heap.size) ∧ (Box V bp 26 #[.bool false, .slice none 0 0, .slice none 0 0, .bool false, .slice none 0 0, .slice none 0 0] ∧ X.heap.size ≤ bp) ∧ (Box V bq 26 #[.bool false, .slice none 0 0, .slice none 0 0, .bool false, .slice none 0 0, .slice none 0 0] ∧ X.heap.size ≤ bq) ∧ (Box V bs 24 #[.bool false, .slice none 0 0, .slice none 0 0] ∧ X.heap.size ≤ bs) ∧ (bp ≠ bq) ∧ (bp ≠ bs) ∧ (bq ≠ bs)) → wpAnyH Tryz.prog .any gc_region_ops (NoPanic Q) (fun V : World => Below X.heap.size X V) 3 listed { tmps := (List.toArray (t0 :: t1 :: t2 :: (.pointer (some ⟨ba, 0, none⟩)) :: (.pointer (some ⟨bb, 0, none⟩)) :: (.pointer (some ⟨br, 0, none⟩)) :: t6 :: (.pointer (some ⟨bp, 0, none⟩)) :: (.pointer (some ⟨bq, 0, none⟩)) :: (.pointer (some ⟨bs, 0, none⟩)) :: t10 :: t11 :: t12 :: t13 :: t14 :: t15 :: t16 :: t17 :: t18 :: t19 :: t20 :: t21 :: t22 :: t23 :: t24 :: t25 :: t26 :: t27 :: t28 :: t29 :: t30 :: t31 :: t32 :: t33 :: t34 :: t35 :: t36 :: t37 :: t38 :: t39 :: t40 :: t41 :: t42 :: t43 :: t44 :: t45 :: t46 :: t47 :: t48 :: t49 :: t50 :: (.agg #[.bool a.n, .slice a.a a.xs.length a.ca, .slice a.b a.ys.length a.cb, .bool a.m, .slice a.c a.us.length a.cc, .slice a.d a.vs.length a.cd]) :: (.agg #[.bool p.n, .slice p.a p.xs.length p.ca, .slice p.b p.ys.length p.cb, .bool p.m, .slice p.c p.us.length p.cc, .slice p.d p.vs.length p.cd]) :: (.agg #[.bool b.n, .slice b.a b.xs.length b.ca, .slice b.b b.ys.length b.cb, .bool b.m, .slice b.c b.us.length b.cc, .slice b.d b.vs.length b.cd]) :: (.agg #[.bool q.n, .slice q.a q.xs.length q.ca, .slice q.b q.ys.length q.cb, .bool q.m, .slice q.c q.us.length q.cc, .slice q.d q.vs.length q.cd]) :: (.agg #[.bool r.n, .slice r.a r.xs.length r.ca, .slice r.b r.ys.length r.cb]) :: (.agg #[.bool s.n, .slice s.a s.xs.length s.ca, .slice s.b s.ys.length s.cb]) :: rest)), defers := [] } V) := by
    rintro _ rfl V p q s bp bq bs HR
    have HBL := hid HR.out.1
    have T1 := hid (HR.out.2.1).1
    have T2 := hid (HR.out.2.2.1).1
    have T3 := hid HR.out.2.2.2.1
    have CH := hid (HR.out.2.2.1).2
    have B6 := hid (HR.out.2.2.2.2.1).1
    have B7 := hid (HR.out.2.2.2.2.2.1).1
    have B8 := hid (HR.out.2.2.2.2.2.2.1).1
    have L6 := hid (HR.out.2.2.2.2.1).2
    have L7 := hid (HR.out.2.2.2.2.2.1).2
    have L8 := hid (HR.out.2.2.2.2.2.2.1).2
    have N1 := hid HR.out.2.2.2.2.2.2.2.1
    have N2 := hid HR.out.2.2.2.2.2.2.2.2.1
    have N3 := hid HR.out.2.2.2.2.2.2.2.2.2
    clear HR
    obtain ⟨A0, A1, A2, A3, A4, A5, x0, x1, x2, x3, x4, x5, ⟨y0, y1, y2, y3, y4, y5⟩, ⟨f0, f1, f2, f3, f4, f5⟩, HA⟩ := rchain6 B6.out (by decide) (.bool p.n) (.slice p.a p.xs.length p.ca) (.slice p.b p.ys.length p.cb) (.bool p.m) (.slice p.c p.us.length p.cc) (.slice p.d p.vs.length p.cd)
    have HBE := hid (HA.out.2.2.2.1 _ _ L6.out HBL.out)
    have S6 := hid HA.out.1
    have S7 := hid (HA.out.2.1 _ _ _ (Ne.symm N1.out) B7.out)
    have S8 := hid (HA.out.2.1 _ _ _ (Ne.symm N2.out) B8.out)
    have T1a := hid (T1.out.put HA.out.2.2.1)
    have T2a := hid (T2.out.put HA.out.2.2.1)
    have T3a := hid (T3.out.put HA.out.2.2.1)
    have CHa : Hid (GCh X.heap.size [q, p] A5.heap.size) := CH.out.mono (Nat.le_of_eq HA.out.2.2.2.2.symm)
    clear B6 B7 B8 T1 T2 T3 CH HBL HA
    refine wpAnyH_ready (rs := [9]) (by kernel_rfl) (by simp) ?_
    refine AllReadyH.cons (o := { dst := none, op := Op.store 26 (Operand.tmp 7) (Operand.tmp 52), type := 0, pos := "law.go:33", after := #[{ on := 6, ground := Ground.data }, { on := 1, ground := Ground.data }, { on := 5, ground := Ground.chain }, { on := 0, ground := Ground.phase }, { on := 1, ground := Ground.phase }, { on := 2, ground := Ground.textOnly Departure.lateStores }, { on := 3, ground := Ground.textOnly Departure.lateStoresUnsure }, { on := 4, ground := Ground.textOnly Departure.lateStores }, { on := 5, ground := Ground.textOnly Departure.lateStoresUnsure }, { on := 6, ground := Ground.phase }, { on := 7, ground := Ground.phase }, { on := 8, ground := Ground.phase }], guard := none }) rfl (fun K hK => ?_) AllReadyH.nil
    go_simp
    refine hK.out _ _ ?_ (fun hHeld => ?_)
    · exact HBE.out
    clear hK K hHeld x0 x1 x2 x3 x4 x5 y0 y1 y2 y3 y4 y5 f0 f1 f2 f3 f4 f5
    try simp only [List.setIfInBounds_toArray, List.set_cons_zero, List.set_cons_succ]
    have HBL := HBE
    clear HBE
    obtain ⟨D0, D1, D2, D3, D4, D5, x0, x1, x2, x3, x4, x5, ⟨y0, y1, y2, y3, y4, y5⟩, ⟨f0, f1, f2, f3, f4, f5⟩, HA⟩ := rchain6 S7.out (by decide) (.bool q.n) (.slice q.a q.xs.length q.ca) (.slice q.b q.ys.length q.cb) (.bool q.m) (.slice q.c q.us.length q.cc) (.slice q.d q.vs.length q.cd)
    have HBE := hid (HA.out.2.2.2.1 _ _ L7.out HBL.out)
    have R7 := hid HA.out.1
    have R6 := hid (HA.out.2.1 _ _ _ N1.out S6.out)
    have R8 := hid (HA.out.2.1 _ _ _ (Ne.symm N3.out) S8.out)
    have T1b := hid (T1a.out.put HA.out.2.2.1)
    have T2b := hid (T2a.out.put HA.out.2.2.1)
    have T3b := hid (T3a.out.put HA.out.2.2.1)
    have CHb : Hid (GCh X.heap.size [q, p] D5.heap.size) := CHa.out.mono (Nat.le_of_eq HA.out.2.2.2.2.symm)
    clear S6 S7 S8 T1a T2a T3a CHa HBL HA
    refine wpAnyH_ready (rs := [10]) (by kernel_rfl) (by simp) ?_
    refine AllReadyH.cons (o := { dst := none, op := Op.store 26 (Operand.tmp 8) (Operand.tmp 54), type := 0, pos := "law.go:33", after := #[{ on := 7, ground := Ground.data }, { on := 3, ground := Ground.data }, { on := 9, ground := Ground.chain }, { on := 0, ground := Ground.phase }, { on := 1, ground := Ground.phase }, { on := 2, ground := Ground.phase }, { on := 3, ground := Ground.phase }, { on := 4, ground := Ground.textOnly Departure.lateStores }, { on := 5, ground := Ground.textOnly Departure.lateStoresUnsure }, { on := 6, ground := Ground.phase }, { on := 7, ground := Ground.phase }, { on := 8, ground := Ground.phase }, { on := 9, ground := Ground.phase }], guard := none }) rfl (fun K hK => ?_) AllReadyH.nil
    go_simp
    refine hK.out _ _ ?_ (fun hHeld => ?_)
    · exact HBE.out
    clear hK K hHeld x0 x1 x2 x3 x4 x5 y0 y1 y2 y3 y4 y5 f0 f1 f2 f3 f4 f5
    try simp only [List.setIfInBounds_toArray, List.set_cons_zero, List.set_cons_succ]
    have HBL := HBE
    clear HBE
    obtain ⟨E0, E1, E2, x0, x1, x2, ⟨y0, y1, y2⟩, ⟨f0, f1, f2⟩, HA⟩ := rchain3 R8.out (by decide) (.bool s.n) (.slice s.a s.xs.length s.ca) (.slice s.b s.ys.length s.cb)
    have HBE := hid (HA.out.2.2.2.1 _ _ L8.out HBL.out)
    have Q8 := hid HA.out.1
    have Q6 := hid (HA.out.2.1 _ _ _ N2.out R6.out)
    have Q7 := hid (HA.out.2.1 _ _ _ N3.out R7.out)
    have T1c := hid (T1b.out.put HA.out.2.2.1)
    have T2c := hid (T2b.out.put HA.out.2.2.1)
    have T3c := hid (T3b.out.put HA.out.2.2.1)
    have CHc : Hid (GCh X.heap.size [q, p] E2.heap.size) := CHb.out.mono (Nat.le_of_eq HA.out.2.2.2.2.symm)
    clear R6 R7 R8 T1b T2b T3b CHb HBL HA
    refine wpAnyH_ready (rs := [11]) (by kernel_rfl) (by simp) ?_
    refine AllReadyH.cons (o := { dst := none, op := Op.store 24 (Operand.tmp 9) (Operand.tmp 56), type := 0, pos := "law.go:33", after := #[{ on := 8, ground := Ground.data }, { on := 5, ground := Ground.data }, { on := 10, ground := Ground.chain }, { on := 0, ground := Ground.phase }, { on := 1, ground := Ground.phase }, { on := 2, ground := Ground.phase }, { on := 3, ground := Ground.phase }, { on := 4, ground := Ground.phase }, { on := 5, ground := Ground.phase }, { on := 6, ground := Ground.phase }, { on := 7, ground := Ground.phase }, { on := 8, ground := Ground.phase }, { on := 9, ground := Ground.phase }, { on := 10, ground := Ground.phase }], guard := none }) rfl (fun K hK => ?_) AllReadyH.nil
    go_simp
    refine hK.out _ _ ?_ (fun hHeld => ?_)
    · exact HBE.out
    clear hK K hHeld x0 x1 x2 y0 y1 y2 f0 f1 f2
    try simp only [List.setIfInBounds_toArray, List.set_cons_zero, List.set_cons_succ]
    refine wpAnyH_done (by kernel_rfl) ?_ _
    refine NoPanic.normal ?_
    exact HQ.out p q s bp bq bs _ _ _ _ _ _ _ (hid ⟨gst_two Q7.out T2c.out.ow Q6.out T1c.out.ow, Q8.out, T1c.out, T2c.out, T3c.out, CHc.out, HBE.out⟩)
  have F_1_3_5_6_7 : Hid (∀ listed, listed = #[true, true, true, true, true, true, true, true, false, false, false, false] → ∀ (V : World) (p : G6) (q : G6) (s : F3) (bp : Nat) (bq : Nat), Hid ((Below X.heap.size X V) ∧ (p.Lt a V X.heap.size ∧ GCh X.heap.size [p] V.heap.size) ∧ (q.Lt b V X.heap.size ∧ GCh X.heap.size [q, p] V.heap.size) ∧ (s.Lt r V X.heap.size) ∧ (Box V bp 26 #[.bool false, .slice none 0 0, .slice none 0 0, .bool false, .slice none 0 0, .slice none 0 0] ∧ X.heap.size ≤ bp) ∧ (Box V bq 26 #[.bool false, .slice none 0 0, .slice none 0 0, .bool false, .slice none 0 0, .slice none 0 0] ∧ X.heap.size ≤ bq) ∧ (bp ≠ bq)) → wpAnyH Tryz.prog .any gc_region_ops (NoPanic Q) (fun V : World => Below X.heap.size X V) 4 listed { tmps := (List.toArray (t0 :: t1 :: t2 :: (.pointer (some ⟨ba, 0, none⟩)) :: (.pointer (some ⟨bb, 0, none⟩)) :: (.pointer (some ⟨br, 0, none⟩)) :: t6 :: (.pointer (some ⟨bp, 0, none⟩)) :: (.pointer (some ⟨bq, 0, none⟩)) :: t9 :: t10 :: t11 :: t12 :: t13 :: t14 :: t15 :: t16 :: t17 :: t18 :: t19 :: t20 :: t21 :: t22 :: t23 :: t24 :: t25 :: t26 :: t27 :: t28 :: t29 :: t30 :: t31 :: t32 :: t33 :: t34 :: t35 :: t36 :: t37 :: t38 :: t39 :: t40 :: t41 :: t42 :: t43 :: t44 :: t45 :: t46 :: t47 :: t48 :: t49 :: t50 :: (.agg #[.bool a.n, .slice a.a a.xs.length a.ca, .slice a.b a.ys.length a.cb, .bool a.m, .slice a.c a.us.length a.cc, .slice a.d a.vs.length a.cd]) :: (.agg #[.bool p.n, .slice p.a p.xs.length p.ca, .slice p.b p.ys.length p.cb, .bool p.m, .slice p.c p.us.length p.cc, .slice p.d p.vs.length p.cd]) :: (.agg #[.bool b.n, .slice b.a b.xs.length b.ca, .slice b.b b.ys.length b.cb, .bool b.m, .slice b.c b.us.length b.cc, .slice b.d b.vs.length b.cd]) :: (.agg #[.bool q.n, .slice q.a q.xs.length q.ca, .slice q.b q.ys.length q.cb, .bool q.m, .slice q.c q.us.length q.cc, .slice q.d q.vs.length q.cd]) :: (.agg #[.bool r.n, .slice r.a r.xs.length r.ca, .slice r.b r.ys.length r.cb]) :: (.agg #[.bool s.n, .slice s.a s.xs.length s.ca, .slice s.b s.ys.length s.cb]) :: rest)), defers := [] } V) := by
    rintro _ rfl V p q s bp bq HR
    refine wpAnyH_ready (rs := [8]) (by kernel_rfl) (by simp) ?_
    refine AllReadyH.cons (o := { dst := some 9, op := Op.alloc 24, type := 0, pos := "law.go:33", after := #[], guard := none }) rfl (fun K hK => ?_) ?_
    · go_simp
      have hb := alloc_later V (.cells #[.bool false, .slice none 0 0, .slice none 0 0] 24)
      have new := And.intro (Box.made V 24 #[.bool false, .slice none 0 0, .slice none 0 0]) (HR.out.1).size
      have HB2 := hid (bt HR.out.1 hb)
      refine hK.out _ _ ?_ (fun hHeld => ?_)
      · exact HB2.out
      clear hK K
      try simp only [List.setIfInBounds_toArray, List.set_cons_zero, List.set_cons_succ]
      exact F_1_3_5_6_7_8.out _ (by kernel_rfl) _ p q s bp bq V.heap.size (hid ⟨HB2.out, ⟨(HR.out.2.1).1.later hb, (HR.out.2.1).2.mono hb.size⟩, ⟨(HR.out.2.2.1).1.later hb, (HR.out.2.2.1).2.mono hb.size⟩, (HR.out.2.2.2.1).later hb, ⟨(HR.out.2.2.2.2.1).1.later hb (HR.out.2.2.2.2.1).1.lt, (HR.out.2.2.2.2.1).2⟩, ⟨(HR.out.2.2.2.2.2.1).1.later hb (HR.out.2.2.2.2.2.1).1.lt, (HR.out.2.2.2.2.2.1).2⟩, new, HR.out.2.2.2.2.2.2, (by have := (HR.out.2.2.2.2.1).1.lt; omega), (by have := (HR.out.2.2.2.2.2.1).1.lt; omega)⟩)
    exact AllReadyH.nil
  have F_1_3_5_6_8 : Hid (∀ listed, listed = #[true, true, true, true, true, true, true, false, true, false, false, false] → ∀ (V : World) (p : G6) (q : G6) (s : F3) (bp : Nat) (bs : Nat), Hid ((Below X.heap.size X V) ∧ (p.Lt a V X.heap.size ∧ GCh X.heap.size [p] V.heap.size) ∧ (q.Lt b V X.heap.size ∧ GCh X.heap.size [q, p] V.heap.size) ∧ (s.Lt r V X.heap.size) ∧ (Box V bp 26 #[.bool false, .slice none 0 0, .slice none 0 0, .bool false, .slice none 0 0, .slice none 0 0] ∧ X.heap.size ≤ bp) ∧ (Box V bs 24 #[.bool false, .slice none 0 0, .slice none 0 0] ∧ X.heap.size ≤ bs) ∧ (bp ≠ bs)) → wpAnyH Tryz.prog .any gc_region_ops (NoPanic Q) (fun V : World => Below X.heap.size X V) 4 listed { tmps := (List.toArray (t0 :: t1 :: t2 :: (.pointer (some ⟨ba, 0, none⟩)) :: (.pointer (some ⟨bb, 0, none⟩)) :: (.pointer (some ⟨br, 0, none⟩)) :: t6 :: (.pointer (some ⟨bp, 0, none⟩)) :: t8 :: (.pointer (some ⟨bs, 0, none⟩)) :: t10 :: t11 :: t12 :: t13 :: t14 :: t15 :: t16 :: t17 :: t18 :: t19 :: t20 :: t21 :: t22 :: t23 :: t24 :: t25 :: t26 :: t27 :: t28 :: t29 :: t30 :: t31 :: t32 :: t33 :: t34 :: t35 :: t36 :: t37 :: t38 :: t39 :: t40 :: t41 :: t42 :: t43 :: t44 :: t45 :: t46 :: t47 :: t48 :: t49 :: t50 :: (.agg #[.bool a.n, .slice a.a a.xs.length a.ca, .slice a.b a.ys.length a.cb, .bool a.m, .slice a.c a.us.length a.cc, .slice a.d a.vs.length a.cd]) :: (.agg #[.bool p.n, .slice p.a p.xs.length p.ca, .slice p.b p.ys.length p.cb, .bool p.m, .slice p.c p.us.length p.cc, .slice p.d p.vs.length p.cd]) :: (.agg #[.bool b.n, .slice b.a b.xs.length b.ca, .slice b.b b.ys.length b.cb, .bool b.m, .slice b.c b.us.length b.cc, .slice b.d b.vs.length b.cd]) :: (.agg #[.bool q.n, .slice q.a q.xs.length q.ca, .slice q.b q.ys.length q.cb, .bool q.m, .slice q.c q.us.length q.cc, .slice q.d q.vs.length q.cd]) :: (.agg #[.bool r.n, .slice r.a r.xs.length r.ca, .slice r.b r.ys.length r.cb]) :: (.agg #[.bool s.n, .slice s.a s.xs.length s.ca, .slice s.b s.ys.length s.cb]) :: rest)), defers := [] } V) := by
    rintro _ rfl V p q s bp bs HR
    refine wpAnyH_ready (rs := [7]) (by kernel_rfl) (by simp) ?_
    refine AllReadyH.cons (o := { dst := some 8, op := Op.alloc 26, type := 0, pos := "law.go:33", after := #[], guard := none }) rfl (fun K hK => ?_) ?_
    · go_simp
      have hb := alloc_later V (.cells #[.bool false, .slice none 0 0, .slice none 0 0, .bool false, .slice none 0 0, .slice none 0 0] 26)
      have new := And.intro (Box.made V 26 #[.bool false, .slice none 0 0, .slice none 0 0, .bool false, .slice none 0 0, .slice none 0 0]) (HR.out.1).size
      have HB2 := hid (bt HR.out.1 hb)
      refine hK.out _ _ ?_ (fun hHeld => ?_)
      · exact HB2.out
      clear hK K
      try simp only [List.setIfInBounds_toArray, List.set_cons_zero, List.set_cons_succ]
      exact F_1_3_5_6_7_8.out _ (by kernel_rfl) _ p q s bp V.heap.size bs (hid ⟨HB2.out, ⟨(HR.out.2.1).1.later hb, (HR.out.2.1).2.mono hb.size⟩, ⟨(HR.out.2.2.1).1.later hb, (HR.out.2.2.1).2.mono hb.size⟩, (HR.out.2.2.2.1).later hb, ⟨(HR.out.2.2.2.2.1).1.later hb (HR.out.2.2.2.2.1).1.lt, (HR.out.2.2.2.2.1).2⟩, new, ⟨(HR.out.2.2.2.2.2.1).1.later hb (HR.out.2.2.2.2.2.1).1.lt, (HR.out.2.2.2.2.2.1).2⟩, (by have := (HR.out.2.2.2.2.1).1.lt; omega), HR.out.2.2.2.2.2.2, (by have := (HR.out.2.2.2.2.2.1).1.lt; omega)⟩)
    exact AllReadyH.nil
  have F_1_3_5_7_8 : Hid (∀ listed, listed = #[true, true, true, true, true, true, false, true, true, false, false, false] → ∀ (V : World) (p : G6) (q : G6) (s : F3) (bq : Nat) (bs : Nat), Hid ((Below X.heap.size X V) ∧ (p.Lt a V X.heap.size ∧ GCh X.heap.size [p] V.heap.size) ∧ (q.Lt b V X.heap.size ∧ GCh X.heap.size [q, p] V.heap.size) ∧ (s.Lt r V X.heap.size) ∧ (Box V bq 26 #[.bool false, .slice none 0 0, .slice none 0 0, .bool false, .slice none 0 0, .slice none 0 0] ∧ X.heap.size ≤ bq) ∧ (Box V bs 24 #[.bool false, .slice none 0 0, .slice none 0 0] ∧ X.heap.size ≤ bs) ∧ (bq ≠ bs)) → wpAnyH Tryz.prog .any gc_region_ops (NoPanic Q) (fun V : World => Below X.heap.size X V) 4 listed { tmps := (List.toArray (t0 :: t1 :: t2 :: (.pointer (some ⟨ba, 0, none⟩)) :: (.pointer (some ⟨bb, 0, none⟩)) :: (.pointer (some ⟨br, 0, none⟩)) :: t6 :: t7 :: (.pointer (some ⟨bq, 0, none⟩)) :: (.pointer (some ⟨bs, 0, none⟩)) :: t10 :: t11 :: t12 :: t13 :: t14 :: t15 :: t16 :: t17 :: t18 :: t19 :: t20 :: t21 :: t22 :: t23 :: t24 :: t25 :: t26 :: t27 :: t28 :: t29 :: t30 :: t31 :: t32 :: t33 :: t34 :: t35 :: t36 :: t37 :: t38 :: t39 :: t40 :: t41 :: t42 :: t43 :: t44 :: t45 :: t46 :: t47 :: t48 :: t49 :: t50 :: (.agg #[.bool a.n, .slice a.a a.xs.length a.ca, .slice a.b a.ys.length a.cb, .bool a.m, .slice a.c a.us.length a.cc, .slice a.d a.vs.length a.cd]) :: (.agg #[.bool p.n, .slice p.a p.xs.length p.ca, .slice p.b p.ys.length p.cb, .bool p.m, .slice p.c p.us.length p.cc, .slice p.d p.vs.length p.cd]) :: (.agg #[.bool b.n, .slice b.a b.xs.length b.ca, .slice b.b b.ys.length b.cb, .bool b.m, .slice b.c b.us.length b.cc, .slice b.d b.vs.length b.cd]) :: (.agg #[.bool q.n, .slice q.a q.xs.length q.ca, .slice q.b q.ys.length q.cb, .bool q.m, .slice q.c q.us.length q.cc, .slice q.d q.vs.length q.cd]) :: (.agg #[.bool r.n, .slice r.a r.xs.length r.ca, .slice r.b r.ys.length r.cb]) :: (.agg #[.bool s.n, .slice s.a s.xs.length s.ca, .slice s.b s.ys.length s.cb]) :: rest)), defers := [] } V) := by
    rintro _ rfl V p q s bq bs HR
    refine wpAnyH_ready (rs := [6]) (by kernel_rfl) (by simp) ?_
    refine AllReadyH.cons (o := { dst := some 7, op := Op.alloc 26, type := 0, pos := "law.go:33", after := #[], guard := none }) rfl (fun K hK => ?_) ?_
    · go_simp
      have hb := alloc_later V (.cells #[.bool false, .slice none 0 0, .slice none 0 0, .bool false, .slice none 0 0, .slice none 0 0] 26)
      have new := And.intro (Box.made V 26 #[.bool false, .slice none 0 0, .slice none 0 0, .bool false, .slice none 0 0, .slice none 0 0]) (HR.out.1).size
      have HB2 := hid (bt HR.out.1 hb)
      refine hK.out _ _ ?_ (fun hHeld => ?_)
      · exact HB2.out
      clear hK K
      try simp only [List.setIfInBounds_toArray, List.set_cons_zero, List.set_cons_succ]
      exact F_1_3_5_6_7_8.out _ (by kernel_rfl) _ p q s V.heap.size bq bs (hid ⟨HB2.out, ⟨(HR.out.2.1).1.later hb, (HR.out.2.1).2.mono hb.size⟩, ⟨(HR.out.2.2.1).1.later hb, (HR.out.2.2.1).2.mono hb.size⟩, (HR.out.2.2.2.1).later hb, new, ⟨(HR.out.2.2.2.2.1).1.later hb (HR.out.2.2.2.2.1).1.lt, (HR.out.2.2.2.2.1).2⟩, ⟨(HR.out.2.2.2.2.2.1).1.later hb (HR.out.2.2.2.2.2.1).1.lt, (HR.out.2.2.2.2.2.1).2⟩, (by have := (HR.out.2.2.2.2.1).1.lt; omega), (by have := (HR.out.2.2.2.2.2.1).1.lt; omega), HR.out.2.2.2.2.2.2⟩)
    exact AllReadyH.nil
  have F_1_3_6_7_8 : Hid (∀ listed, listed = #[true, true, true, true, true, false, true, true, true, false, false, false] → ∀ (V : World) (p : G6) (q : G6) (bp : Nat) (bq : Nat) (bs : Nat), Hid ((Below X.heap.size X V) ∧ (p.Lt a V X.heap.size ∧ GCh X.heap.size [p] V.heap.size) ∧ (q.Lt b V X.heap.size ∧ GCh X.heap.size [q, p] V.heap.size) ∧ (Box V bp 26 #[.bool false, .slice none 0 0, .slice none 0 0, .bool false, .slice none 0 0, .slice none 0 0] ∧ X.heap.size ≤ bp) ∧ (Box V bq 26 #[.bool false, .slice none 0 0, .slice none 0 0, .bool false, .slice none 0 0, .slice none 0 0] ∧ X.heap.size ≤ bq) ∧ (Box V bs 24 #[.bool false, .slice none 0 0, .slice none 0 0] ∧ X.heap.size ≤ bs) ∧ (bp ≠ bq) ∧ (bp ≠ bs) ∧ (bq ≠ bs)) → wpAnyH Tryz.prog .any gc_region_ops (NoPanic Q) (fun V : World => Below X.heap.size X V) 4 listed { tmps := (List.toArray (t0 :: t1 :: t2 :: (.pointer (some ⟨ba, 0, none⟩)) :: (.pointer (some ⟨bb, 0, none⟩)) :: (.pointer (some ⟨br, 0, none⟩)) :: t6 :: (.pointer (some ⟨bp, 0, none⟩)) :: (.pointer (some ⟨bq, 0, none⟩)) :: (.pointer (some ⟨bs, 0, none⟩)) :: t10 :: t11 :: t12 :: t13 :: t14 :: t15 :: t16 :: t17 :: t18 :: t19 :: t20 :: t21 :: t22 :: t23 :: t24 :: t25 :: t26 :: t27 :: t28 :: t29 :: t30 :: t31 :: t32 :: t33 :: t34 :: t35 :: t36 :: t37 :: t38 :: t39 :: t40 :: t41 :: t42 :: t43 :: t44 :: t45 :: t46 :: t47 :: t48 :: t49 :: t50 :: (.agg #[.bool a.n, .slice a.a a.xs.length a.ca, .slice a.b a.ys.length a.cb, .bool a.m, .slice a.c a.us.length a.cc, .slice a.d a.vs.length a.cd]) :: (.agg #[.bool p.n, .slice p.a p.xs.length p.ca, .slice p.b p.ys.length p.cb, .bool p.m, .slice p.c p.us.length p.cc, .slice p.d p.vs.length p.cd]) :: (.agg #[.bool b.n, .slice b.a b.xs.length b.ca, .slice b.b b.ys.length b.cb, .bool b.m, .slice b.c b.us.length b.cc, .slice b.d b.vs.length b.cd]) :: (.agg #[.bool q.n, .slice q.a q.xs.length q.ca, .slice q.b q.ys.length q.cb, .bool q.m, .slice q.c q.us.length q.cc, .slice q.d q.vs.length q.cd]) :: (.agg #[.bool r.n, .slice r.a r.xs.length r.ca, .slice r.b r.ys.length r.cb]) :: t56 :: rest)), defers := [] } V) := by
    rintro _ rfl V p q bp bq bs HR
    refine wpAnyH_ready (rs := [5]) (by kernel_rfl) (by simp) ?_
    refine AllReadyH.cons (o := { dst := some 56, op := Op.call { callee := Callee.value (Operand.func 7), args := #[Operand.tmp 55], argTypes := #[24] }, type := 24, pos := "law.go:33", after := #[{ on := 4, ground := Ground.data }, { on := 3, ground := Ground.chain }], guard := none }) rfl (fun K hK => ?_) ?_
    · go_simp
      refine Calls.mono (gcLentR r V (HL.out V HR.out.1).2.2 (by have := HNr.out; omega) (by have := HNr.out; omega)) ?_
      rintro e V' ⟨s, rfl, o1, hb⟩
      dsimp only
      have new : s.Lt r V' X.heap.size := o1.out.base (HR.out.1).size
      have HB2 := hid (bt HR.out.1 hb)
      refine hK.out _ _ ?_ (fun hHeld => ?_)
      · exact HB2.out
      clear hK K
      try simp only [List.setIfInBounds_toArray, List.set_cons_zero, List.set_cons_succ]
      exact F_1_3_5_6_7_8.out _ (by kernel_rfl) _ p q s bp bq bs (hid ⟨HB2.out, ⟨(HR.out.2.1).1.later hb, (HR.out.2.1).2.mono hb.size⟩, ⟨(HR.out.2.2.1).1.later hb, (HR.out.2.2.1).2.mono hb.size⟩, new, ⟨(HR.out.2.2.2.1).1.later hb (HR.out.2.2.2.1).1.lt, (HR.out.2.2.2.1).2⟩, ⟨(HR.out.2.2.2.2.1).1.later hb (HR.out.2.2.2.2.1).1.lt, (HR.out.2.2.2.2.1).2⟩, ⟨(HR.out.2.2.2.2.2.1).1.later hb (HR.out.2.2.2.2.2.1).1.lt, (HR.out.2.2.2.2.2.1).2⟩, HR.out.2.2.2.2.2.2.1, HR.out.2.2.2.2.2.2.2.1, HR.out.2.2.2.2.2.2.2.2⟩)
    exact AllReadyH.nil
  have F_1_3_5_6 : Hid (∀ listed, listed = #[true, true, true, true, true, true, true, false, false, false, false, false] → ∀ (V : World) (p : G6) (q : G6) (s : F3) (bp : Nat), Hid ((Below X.heap.size X V) ∧ (p.Lt a V X.heap.size ∧ GCh X.heap.size [p] V.heap.size) ∧ (q.Lt b V X.heap.size ∧ GCh X.heap.size [q, p] V.heap.size) ∧ (s.Lt r V X.heap.size) ∧ (Box V bp 26 #[.bool false, .slice none 0 0, .slice none 0 0, .bool false, .slice none 0 0, .slice none 0 0] ∧ X.heap.size ≤ bp)) → wpAnyH Tryz.prog .any gc_region_ops (NoPanic Q) (fun V : World => Below X.heap.size X V) 5 listed { tmps := (List.toArray (t0 :: t1 :: t2 :: (.pointer (some ⟨ba, 0, none⟩)) :: (.pointer (some ⟨bb, 0, none⟩)) :: (.pointer (some ⟨br, 0, none⟩)) :: t6 :: (.pointer (some ⟨bp, 0, none⟩)) :: t8 :: t9 :: t10 :: t11 :: t12 :: t13 :: t14 :: t15 :: t16 :: t17 :: t18 :: t19 :: t20 :: t21 :: t22 :: t23 :: t24 :: t25 :: t26 :: t27 :: t28 :: t29 :: t30 :: t31 :: t32 :: t33 :: t34 :: t35 :: t36 :: t37 :: t38 :: t39 :: t40 :: t41 :: t42 :: t43 :: t44 :: t45 :: t46 :: t47 :: t48 :: t49 :: t50 :: (.agg #[.bool a.n, .slice a.a a.xs.length a.ca, .slice a.b a.ys.length a.cb, .bool a.m, .slice a.c a.us.length a.cc, .slice a.d a.vs.length a.cd]) :: (.agg #[.bool p.n, .slice p.a p.xs.length p.ca, .slice p.b p.ys.length p.cb, .bool p.m, .slice p.c p.us.length p.cc, .slice p.d p.vs.length p.cd]) :: (.agg #[.bool b.n, .slice b.a b.xs.length b.ca, .slice b.b b.ys.length b.cb, .bool b.m, .slice b.c b.us.length b.cc, .slice b.d b.vs.length b.cd]) :: (.agg #[.bool q.n, .slice q.a q.xs.length q.ca, .slice q.b q.ys.length q.cb, .bool q.m, .slice q.c q.us.length q.cc, .slice q.d q.vs.length q.cd]) :: (.agg #[.bool r.n, .slice r.a r.xs.length r.ca, .slice r.b r.ys.length r.cb]) :: (.agg #[.bool s.n, .slice s.a s.xs.length s.ca, .slice s.b s.ys.length s.cb]) :: rest)), defers := [] } V) := by
    rintro _ rfl V p q s bp HR
    refine wpAnyH_ready (rs := [7, 8]) (by kernel_rfl) (by simp) ?_
    refine AllReadyH.cons (o := { dst := some 8, op := Op.alloc 26, type := 0, pos := "law.go:33", after := #[], guard := none }) rfl (fun K hK => ?_) ?_
    · go_simp
      have hb := alloc_later V (.cells #[.bool false, .slice none 0 0, .slice none 0 0, .bool false, .slice none 0 0, .slice none 0 0] 26)
      have new := And.intro (Box.made V 26 #[.bool false, .slice none 0 0, .slice none 0 0, .bool false, .slice none 0 0, .slice none 0 0]) (HR.out.1).size
      have HB2 := hid (bt HR.out.1 hb)
      refine hK.out _ _ ?_ (fun hHeld => ?_)
      · exact HB2.out
      clear hK K
      try simp only [List.setIfInBounds_toArray, List.set_cons_zero, List.set_cons_succ]
      exact F_1_3_5_6_7.out _ (by kernel_rfl) _ p q s bp V.heap.size (hid ⟨HB2.out, ⟨(HR.out.2.1).1.later hb, (HR.out.2.1).2.mono hb.size⟩, ⟨(HR.out.2.2.1).1.later hb, (HR.out.2.2.1).2.mono hb.size⟩, (HR.out.2.2.2.1).later hb, ⟨(HR.out.2.2.2.2).1.later hb (HR.out.2.2.2.2).1.lt, (HR.out.2.2.2.2).2⟩, new, (by have := (HR.out.2.2.2.2).1.lt; omega)⟩)
    refine AllReadyH.cons (o := { dst := some 9, op := Op.alloc 24, type := 0, pos := "law.go:33", after := #[], guard := none }) rfl (fun K hK => ?_) ?_
    · go_simp
      have hb := alloc_later V (.cells #[.bool false, .slice none 0 0, .slice none 0 0] 24)
      have new := And.intro (Box.made V 24 #[.bool false, .slice none 0 0, .slice none 0 0]) (HR.out.1).size
      have HB2 := hid (bt HR.out.1 hb)
      refine hK.out _ _ ?_ (fun hHeld => ?_)
      · exact HB2.out
      clear hK K
      try simp only [List.setIfInBounds_toArray, List.set_cons_zero, List.set_cons_succ]
      exact F_1_3_5_6_8.out _ (by kernel_rfl) _ p q s bp V.heap.size (hid ⟨HB2.out, ⟨(HR.out.2.1).1.later hb, (HR.out.2.1).2.mono hb.size⟩, ⟨(HR.out.2.2.1).1.later hb, (HR.out.2.2.1).2.mono hb.size⟩, (HR.out.2.2.2.1).later hb, ⟨(HR.out.2.2.2.2).1.later hb (HR.out.2.2.2.2).1.lt, (HR.out.2.2.2.2).2⟩, new, (by have := (HR.out.2.2.2.2).1.lt; omega)⟩)
    exact AllReadyH.nil
  have F_1_3_5_7 : Hid (∀ listed, listed = #[true, true, true, true, true, true, false, true, false, false, false, false] → ∀ (V : World) (p : G6) (q : G6) (s : F3) (bq : Nat), Hid ((Below X.heap.size X V) ∧ (p.Lt a V X.heap.size ∧ GCh X.heap.size [p] V.heap.size) ∧ (q.Lt b V X.heap.size ∧ GCh X.heap.size [q, p] V.heap.size) ∧ (s.Lt r V X.heap.size) ∧ (Box V bq 26 #[.bool false, .slice none 0 0, .slice none 0 0, .bool false, .slice none 0 0, .slice none 0 0] ∧ X.heap.size ≤ bq)) → wpAnyH Tryz.prog .any gc_region_ops (NoPanic Q) (fun V : World => Below X.heap.size X V) 5 listed { tmps := (List.toArray (t0 :: t1 :: t2 :: (.pointer (some ⟨ba, 0, none⟩)) :: (.pointer (some ⟨bb, 0, none⟩)) :: (.pointer (some ⟨br, 0, none⟩)) :: t6 :: t7 :: (.pointer (some ⟨bq, 0, none⟩)) :: t9 :: t10 :: t11 :: t12 :: t13 :: t14 :: t15 :: t16 :: t17 :: t18 :: t19 :: t20 :: t21 :: t22 :: t23 :: t24 :: t25 :: t26 :: t27 :: t28 :: t29 :: t30 :: t31 :: t32 :: t33 :: t34 :: t35 :: t36 :: t37 :: t38 :: t39 :: t40 :: t41 :: t42 :: t43 :: t44 :: t45 :: t46 :: t47 :: t48 :: t49 :: t50 :: (.agg #[.bool a.n, .slice a.a a.xs.length a.ca, .slice a.b a.ys.length a.cb, .bool a.m, .slice a.c a.us.length a.cc, .slice a.d a.vs.length a.cd]) :: (.agg #[.bool p.n, .slice p.a p.xs.length p.ca, .slice p.b p.ys.length p.cb, .bool p.m, .slice p.c p.us.length p.cc, .slice p.d p.vs.length p.cd]) :: (.agg #[.bool b.n, .slice b.a b.xs.length b.ca, .slice b.b b.ys.length b.cb, .bool b.m, .slice b.c b.us.length b.cc, .slice b.d b.vs.length b.cd]) :: (.agg #[.bool q.n, .slice q.a q.xs.length q.ca, .slice q.b q.ys.length q.cb, .bool q.m, .slice q.c q.us.length q.cc, .slice q.d q.vs.length q.cd]) :: (.agg #[.bool r.n, .slice r.a r.xs.length r.ca, .slice r.b r.ys.length r.cb]) :: (.agg #[.bool s.n, .slice s.a s.xs.length s.ca, .slice s.b s.ys.length s.cb]) :: rest)), defers := [] } V) := by
    rintro _ rfl V p q s bq HR
    refine wpAnyH_ready (rs := [6, 8]) (by kernel_rfl) (by simp) ?_
    refine AllReadyH.cons (o := { dst := some 7, op := Op.alloc 26, type := 0, pos := "law.go:33", after := #[], guard := none }) rfl (fun K hK => ?_) ?_
    · go_simp
      have hb := alloc_later V (.cells #[.bool false, .slice none 0 0, .slice none 0 0, .bool false, .slice none 0 0, .slice none 0 0] 26)
      have new := And.intro (Box.made V 26 #[.bool false, .slice none 0 0, .slice none 0 0, .bool false, .slice none 0 0, .slice none 0 0]) (HR.out.1).size
      have HB2 := hid (bt HR.out.1 hb)
      refine hK.out _ _ ?_ (fun hHeld => ?_)
      · exact HB2.out
      clear hK K
      try simp only [List.setIfInBounds_toArray, List.set_cons_zero, List.set_cons_succ]
      exact F_1_3_5_6_7.out _ (by kernel_rfl) _ p q s V.heap.size bq (hid ⟨HB2.out, ⟨(HR.out.2.1).1.later hb, (HR.out.2.1).2.mono hb.size⟩, ⟨(HR.out.2.2.1).1.later hb, (HR.out.2.2.1).2.mono hb.size⟩, (HR.out.2.2.2.1).later hb, new, ⟨(HR.out.2.2.2.2).1.later hb (HR.out.2.2.2.2).1.lt, (HR.out.2.2.2.2).2⟩, (by have := (HR.out.2.2.2.2).1.lt; omega)⟩)
    refine AllReadyH.cons (o := { dst := some 9, op := Op.alloc 24, type := 0, pos := "law.go:33", after := #[], guard := none }) rfl (fun K hK => ?_) ?_
    · go_simp
      have hb := alloc_later V (.cells #[.bool false, .slice none 0 0, .slice none 0 0] 24)
      have new := And.intro (Box.made V 24 #[.bool false, .slice none 0 0, .slice none 0 0]) (HR.out.1).size
      have HB2 := hid (bt HR.out.1 hb)
      refine hK.out _ _ ?_ (fun hHeld => ?_)
      · exact HB2.out
      clear hK K
      try simp only [List.setIfInBounds_toArray, List.set_cons_zero, List.set_cons_succ]
      exact F_1_3_5_7_8.out _ (by kernel_rfl) _ p q s bq V.heap.size (hid ⟨HB2.out, ⟨(HR.out.2.1).1.later hb, (HR.out.2.1).2.mono hb.size⟩, ⟨(HR.out.2.2.1).1.later hb, (HR.out.2.2.1).2.mono hb.size⟩, (HR.out.2.2.2.1).later hb, ⟨(HR.out.2.2.2.2).1.later hb (HR.out.2.2.2.2).1.lt, (HR.out.2.2.2.2).2⟩, new, (by have := (HR.out.2.2.2.2).1.lt; omega)⟩)
    exact AllReadyH.nil
  have F_1_3_5_8 : Hid (∀ listed, listed = #[true, true, true, true, true, true, false, false, true, false, false, false] → ∀ (V : World) (p : G6) (q : G6) (s : F3) (bs : Nat), Hid ((Below X.heap.size X V) ∧ (p.Lt a V X.heap.size ∧ GCh X.heap.size [p] V.heap.size) ∧ (q.Lt b V X.heap.size ∧ GCh X.heap.size [q, p] V.heap.size) ∧ (s.Lt r V X.heap.size) ∧ (Box V bs 24 #[.bool false, .slice none 0 0, .slice none 0 0] ∧ X.heap.size ≤ bs)) → wpAnyH Tryz.prog .any gc_region_ops (NoPanic Q) (fun V : World => Below X.heap.size X V) 5 listed { tmps := (List.toArray (t0 :: t1 :: t2 :: (.pointer (some ⟨ba, 0, none⟩)) :: (.pointer (some ⟨bb, 0, none⟩)) :: (.pointer (some ⟨br, 0, none⟩)) :: t6 :: t7 :: t8 :: (.pointer (some ⟨bs, 0, none⟩)) :: t10 :: t11 :: t12 :: t13 :: t14 :: t15 :: t16 :: t17 :: t18 :: t19 :: t20 :: t21 :: t22 :: t23 :: t24 :: t25 :: t26 :: t27 :: t28 :: t29 :: t30 :: t31 :: t32 :: t33 :: t34 :: t35 :: t36 :: t37 :: t38 :: t39 :: t40 :: t41 :: t42 :: t43 :: t44 :: t45 :: t46 :: t47 :: t48 :: t49 :: t50 :: (.agg #[.bool a.n, .slice a.a a.xs.length a.ca, .slice a.b a.ys.length a.cb, .bool a.m, .slice a.c a.us.length a.cc, .slice a.d a.vs.length a.cd]) :: (.agg #[.bool p.n, .slice p.a p.xs.length p.ca, .slice p.b p.ys.length p.cb, .bool p.m, .slice p.c p.us.length p.cc, .slice p.d p.vs.length p.cd]) :: (.agg #[.bool b.n, .slice b.a b.xs.length b.ca, .slice b.b b.ys.length b.cb, .bool b.m, .slice b.c b.us.length b.cc, .slice b.d b.vs.length b.cd]) :: (.agg #[.bool q.n, .slice q.a q.xs.length q.ca, .slice q.b q.ys.length q.cb, .bool q.m, .slice q.c q.us.length q.cc, .slice q.d q.vs.length q.cd]) :: (.agg #[.bool r.n, .slice r.a r.xs.length r.ca, .slice r.b r.ys.length r.cb]) :: (.agg #[.bool s.n, .slice s.a s.xs.length s.ca, .slice s.b s.ys.length s.cb]) :: rest)), defers := [] } V) := by
    rintro _ rfl V p q s bs HR
    refine wpAnyH_ready (rs := [6, 7]) (by kernel_rfl) (by simp) ?_
    refine AllReadyH.cons (o := { dst := some 7, op := Op.alloc 26, type := 0, pos := "law.go:33", after := #[], guard := none }) rfl (fun K hK => ?_) ?_
    · go_simp
      have hb := alloc_later V (.cells #[.bool false, .slice none 0 0, .slice none 0 0, .bool false, .slice none 0 0, .slice none 0 0] 26)
      have new := And.intro (Box.made V 26 #[.bool false, .slice none 0 0, .slice none 0 0, .bool false, .slice none 0 0, .slice none 0 0]) (HR.out.1).size
      have HB2 := hid (bt HR.out.1 hb)
      refine hK.out _ _ ?_ (fun hHeld => ?_)
      · exact HB2.out
      clear hK K
      try simp only [List.setIfInBounds_toArray, List.set_cons_zero, List.set_cons_succ]
      exact F_1_3_5_6_8.out _ (by kernel_rfl) _ p q s V.heap.size bs (hid ⟨HB2.out, ⟨(HR.out.2.1).1.later hb, (HR.out.2.1).2.mono hb.size⟩, ⟨(HR.out.2.2.1).1.later hb, (HR.out.2.2.1).2.mono hb.size⟩, (HR.out.2.2.2.1).later hb, new, ⟨(HR.out.2.2.2.2).1.later hb (HR.out.2.2.2.2).1.lt, (HR.out.2.2.2.2).2⟩, (by have := (HR.out.2.2.2.2).1.lt; omega)⟩)
    refine AllReadyH.cons (o := { dst := some 8, op := Op.alloc 26, type := 0, pos := "law.go:33", after := #[], guard := none }) rfl (fun K hK => ?_) ?_
    · go_simp
      have hb := alloc_later V (.cells #[.bool false, .slice none 0 0, .slice none 0 0, .bool false, .slice none 0 0, .slice none 0 0] 26)
      have new := And.intro (Box.made V 26 #[.bool false, .slice none 0 0, .slice none 0 0, .bool false, .slice none 0 0, .slice none 0 0]) (HR.out.1).size
      have HB2 := hid (bt HR.out.1 hb)
      refine hK.out _ _ ?_ (fun hHeld => ?_)
      · exact HB2.out
      clear hK K
      try simp only [List.setIfInBounds_toArray, List.set_cons_zero, List.set_cons_succ]
      exact F_1_3_5_7_8.out _ (by kernel_rfl) _ p q s V.heap.size bs (hid ⟨HB2.out, ⟨(HR.out.2.1).1.later hb, (HR.out.2.1).2.mono hb.size⟩, ⟨(HR.out.2.2.1).1.later hb, (HR.out.2.2.1).2.mono hb.size⟩, (HR.out.2.2.2.1).later hb, new, ⟨(HR.out.2.2.2.2).1.later hb (HR.out.2.2.2.2).1.lt, (HR.out.2.2.2.2).2⟩, (by have := (HR.out.2.2.2.2).1.lt; omega)⟩)
    exact AllReadyH.nil
  have F_1_3_6_7 : Hid (∀ listed, listed = #[true, true, true, true, true, false, true, true, false, false, false, false] → ∀ (V : World) (p : G6) (q : G6) (bp : Nat) (bq : Nat), Hid ((Below X.heap.size X V) ∧ (p.Lt a V X.heap.size ∧ GCh X.heap.size [p] V.heap.size) ∧ (q.Lt b V X.heap.size ∧ GCh X.heap.size [q, p] V.heap.size) ∧ (Box V bp 26 #[.bool false, .slice none 0 0, .slice none 0 0, .bool false, .slice none 0 0, .slice none 0 0] ∧ X.heap.size ≤ bp) ∧ (Box V bq 26 #[.bool false, .slice none 0 0, .slice none 0 0, .bool false, .slice none 0 0, .slice none 0 0] ∧ X.heap.size ≤ bq) ∧ (bp ≠ bq)) → wpAnyH Tryz.prog .any gc_region_ops (NoPanic Q) (fun V : World => Below X.heap.size X V) 5 listed { tmps := (List.toArray (t0 :: t1 :: t2 :: (.pointer (some ⟨ba, 0, none⟩)) :: (.pointer (some ⟨bb, 0, none⟩)) :: (.pointer (some ⟨br, 0, none⟩)) :: t6 :: (.pointer (some ⟨bp, 0, none⟩)) :: (.pointer (some ⟨bq, 0, none⟩)) :: t9 :: t10 :: t11 :: t12 :: t13 :: t14 :: t15 :: t16 :: t17 :: t18 :: t19 :: t20 :: t21 :: t22 :: t23 :: t24 :: t25 :: t26 :: t27 :: t28 :: t29 :: t30 :: t31 :: t32 :: t33 :: t34 :: t35 :: t36 :: t37 :: t38 :: t39 :: t40 :: t41 :: t42 :: t43 :: t44 :: t45 :: t46 :: t47 :: t48 :: t49 :: t50 :: (.agg #[.bool a.n, .slice a.a a.xs.length a.ca, .slice a.b a.ys.length a.cb, .bool a.m, .slice a.c a.us.length a.cc, .slice a.d a.vs.length a.cd]) :: (.agg #[.bool p.n, .slice p.a p.xs.length p.ca, .slice p.b p.ys.length p.cb, .bool p.m, .slice p.c p.us.length p.cc, .slice p.d p.vs.length p.cd]) :: (.agg #[.bool b.n, .slice b.a b.xs.length b.ca, .slice b.b b.ys.length b.cb, .bool b.m, .slice b.c b.us.length b.cc, .slice b.d b.vs.length b.cd]) :: (.agg #[.bool q.n, .slice q.a q.xs.length q.ca, .slice q.b q.ys.length q.cb, .bool q.m, .slice q.c q.us.length q.cc, .slice q.d q.vs.length q.cd]) :: (.agg #[.bool r.n, .slice r.a r.xs.length r.ca, .slice r.b r.ys.length r.cb]) :: t56 :: rest)), defers := [] } V) := by
    rintro _ rfl V p q bp bq HR
    refine wpAnyH_ready (rs := [5, 8]) (by kernel_rfl) (by simp) ?_
    refine AllReadyH.cons (o := { dst := some 56, op := Op.call { callee := Callee.value (Operand.func 7), args := #[Operand.tmp 55], argTypes := #[24] }, type := 24, pos := "law.go:33", after := #[{ on := 4, ground := Ground.data }, { on := 3, ground := Ground.chain }], guard := none }) rfl (fun K hK => ?_) ?_
    · go_simp
      refine Calls.mono (gcLentR r V (HL.out V HR.out.1).2.2 (by have := HNr.out; omega) (by have := HNr.out; omega)) ?_
      rintro e V' ⟨s, rfl, o1, hb⟩
      dsimp only
      have new : s.Lt r V' X.heap.size := o1.out.base (HR.out.1).size
      have HB2 := hid (bt HR.out.1 hb)
      refine hK.out _ _ ?_ (fun hHeld => ?_)
      · exact HB2.out
      clear hK K
      try simp only [List.setIfInBounds_toArray, List.set_cons_zero, List.set_cons_succ]
      exact F_1_3_5_6_7.out _ (by kernel_rfl) _ p q s bp bq (hid ⟨HB2.out, ⟨(HR.out.2.1).1.later hb, (HR.out.2.1).2.mono hb.size⟩, ⟨(HR.out.2.2.1).1.later hb, (HR.out.2.2.1).2.mono hb.size⟩, new, ⟨(HR.out.2.2.2.1).1.later hb (HR.out.2.2.2.1).1.lt, (HR.out.2.2.2.1).2⟩, ⟨(HR.out.2.2.2.2.1).1.later hb (HR.out.2.2.2.2.1).1.lt, (HR.out.2.2.2.2.1).2⟩, HR.out.2.2.2.2.2⟩)
    refine AllReadyH.cons (o := { dst := some 9, op := Op.alloc 24, type := 0, pos := "law.go:33", after := #[], guard := none }) rfl (fun K hK => ?_) ?_
    · go_simp
      have hb := alloc_later V (.cells #[.bool false, .slice none 0 0, .slice none 0 0] 24)
      have new := And.intro (Box.made V 24 #[.bool false, .slice none 0 0, .slice none 0 0]) (HR.out.1).size
      have HB2 := hid (bt HR.out.1 hb)
      refine hK.out _ _ ?_ (fun hHeld => ?_)
      · exact HB2.out
      clear hK K
      try simp only [List.setIfInBounds_toArray, List.set_cons_zero, List.set_cons_succ]
      exact F_1_3_6_7_8.out _ (by kernel_rfl) _ p q bp bq V.heap.size (hid ⟨HB2.out, ⟨(HR.out.2.1).1.later hb, (HR.out.2.1).2.mono hb.size⟩, ⟨(HR.out.2.2.1).1.later hb, (HR.out.2.2.1).2.mono hb.size⟩, ⟨(HR.out.2.2.2.1).1.later hb (HR.out.2.2.2.1).1.lt, (HR.out.2.2.2.1).2⟩, ⟨(HR.out.2.2.2.2.1).1.later hb (HR.out.2.2.2.2.1).1.lt, (HR.out.2.2.2.2.1).2⟩, new, HR.out.2.2.2.2.2, (by have := (HR.out.2.2.2.1).1.lt; omega), (by have := (HR.out.2.2.2.2.1).1.lt; omega)⟩)
    exact AllReadyH.nil
  have F_1_3_6_8 : Hid (∀ listed, listed = #[true, true, true, true, true, false, true, false, true, false, false, false] → ∀ (V : World) (p : G6) (q : G6) (bp : Nat) (bs : Nat), Hid ((Below X.heap.size X V) ∧ (p.Lt a V X.heap.size ∧ GCh X.heap.size [p] V.heap.size) ∧ (q.Lt b V X.heap.size ∧ GCh X.heap.size [q, p] V.heap.size) ∧ (Box V bp 26 #[.bool false, .slice none 0 0, .slice none 0 0, .bool false, .slice none 0 0, .slice none 0 0] ∧ X.heap.size ≤ bp) ∧ (Box V bs 24 #[.bool false, .slice none 0 0, .slice none 0 0] ∧ X.heap.size ≤ bs) ∧ (bp ≠ bs)) → wpAnyH Tryz.prog .any gc_region_ops (NoPanic Q) (fun V : World => Below X.heap.size X V) 5 listed { tmps := (List.toArray (t0 :: t1 :: t2 :: (.pointer (some ⟨ba, 0, none⟩)) :: (.pointer (some ⟨bb, 0, none⟩)) :: (.pointer (some ⟨br, 0, none⟩)) :: t6 :: (.pointer (some ⟨bp, 0, none⟩)) :: t8 :: (.pointer (some ⟨bs, 0, none⟩)) :: t10 :: t11 :: t12 :: t13 :: t14 :: t15 :: t16 :: t17 :: t18 :: t19 :: t20 :: t21 :: t22 :: t23 :: t24 :: t25 :: t26 :: t27 :: t28 :: t29 :: t30 :: t31 :: t32 :: t33 :: t34 :: t35 :: t36 :: t37 :: t38 :: t39 :: t40 :: t41 :: t42 :: t43 :: t44 :: t45 :: t46 :: t47 :: t48 :: t49 :: t50 :: (.agg #[.bool a.n, .slice a.a a.xs.length a.ca, .slice a.b a.ys.length a.cb, .bool a.m, .slice a.c a.us.length a.cc, .slice a.d a.vs.length a.cd]) :: (.agg #[.bool p.n, .slice p.a p.xs.length p.ca, .slice p.b p.ys.length p.cb, .bool p.m, .slice p.c p.us.length p.cc, .slice p.d p.vs.length p.cd]) :: (.agg #[.bool b.n, .slice b.a b.xs.length b.ca, .slice b.b b.ys.length b.cb, .bool b.m, .slice b.c b.us.length b.cc, .slice b.d b.vs.length b.cd]) :: (.agg #[.bool q.n, .slice q.a q.xs.length q.ca, .slice q.b q.ys.length q.cb, .bool q.m, .slice q.c q.us.length q.cc, .slice q.d q.vs.length q.cd]) :: (.agg #[.bool r.n, .slice r.a r.xs.length r.ca, .slice r.b r.ys.length r.cb]) :: t56 :: rest)), defers := [] } V) := by
    rintro _ rfl V p q bp bs HR
    refine wpAnyH_ready (rs := [5, 7]) (by kernel_rfl) (by simp) ?_
    refine AllReadyH.cons (o := { dst := some 56, op := Op.call { callee := Callee.value (Operand.func 7), args := #[Operand.tmp 55], argTypes := #[24] }, type := 24, pos := "law.go:33", after := #[{ on := 4, ground := Ground.data }, { on := 3, ground := Ground.chain }], guard := none }) rfl (fun K hK => ?_) ?_
    · go_simp
      refine Calls.mono (gcLentR r V (HL.out V HR.out.1).2.2 (by have := HNr.out; omega) (by have := HNr.out; omega)) ?_
      rintro e V' ⟨s, rfl, o1, hb⟩
      dsimp only
      have new : s.Lt r V' X.heap.size := o1.out.base (HR.out.1).size
      have HB2 := hid (bt HR.out.1 hb)
      refine hK.out _ _ ?_ (fun hHeld => ?_)
      · exact HB2.out
      clear hK K
      try simp only [List.setIfInBounds_toArray, List.set_cons_zero, List.set_cons_succ]
      exact F_1_3_5_6_8.out _ (by kernel_rfl) _ p q s bp bs (hid ⟨HB2.out, ⟨(HR.out.2.1).1.later hb, (HR.out.2.1).2.mono hb.size⟩, ⟨(HR.out.2.2.1).1.later hb, (HR.out.2.2.1).2.mono hb.size⟩, new, ⟨(HR.out.2.2.2.1).1.later hb (HR.out.2.2.2.1).1.lt, (HR.out.2.2.2.1).2⟩, ⟨(HR.out.2.2.2.2.1).1.later hb (HR.out.2.2.2.2.1).1.lt, (HR.out.2.2.2.2.1).2⟩, HR.out.2.2.2.2.2⟩)
    refine AllReadyH.cons (o := { dst := some 8, op := Op.alloc 26, type := 0, pos := "law.go:33", after := #[], guard := none }) rfl (fun K hK => ?_) ?_
    · go_simp
      have hb := alloc_later V (.cells #[.bool false, .slice none 0 0, .slice none 0 0, .bool false, .slice none 0 0, .slice none 0 0] 26)
      have new := And.intro (Box.made V 26 #[.bool false, .slice none 0 0, .slice none 0 0, .bool false, .slice none 0 0, .slice none 0 0]) (HR.out.1).size
      have HB2 := hid (bt HR.out.1 hb)
      refine hK.out _ _ ?_ (fun hHeld => ?_)
      · exact HB2.out
      clear hK K
      try simp only [List.setIfInBounds_toArray, List.set_cons_zero, List.set_cons_succ]
      exact F_1_3_6_7_8.out _ (by kernel_rfl) _ p q bp V.heap.size bs (hid ⟨HB2.out, ⟨(HR.out.2.1).1.later hb, (HR.out.2.1).2.mono hb.size⟩, ⟨(HR.out.2.2.1).1.later hb, (HR.out.2.2.1).2.mono hb.size⟩, ⟨(HR.out.2.2.2.1).1.later hb (HR.out.2.2.2.1).1.lt, (HR.out.2.2.2.1).2⟩, new, ⟨(HR.out.2.2.2.2.1).1.later hb (HR.out.2.2.2.2.1).1.lt, (HR.out.2.2.2.2.1).2⟩, (by have := (HR.out.2.2.2.1).1.lt; omega), HR.out.2.2.2.2.2, (by have := (HR.out.2.2.2.2.1).1.lt; omega)⟩)
    exact AllReadyH.nil
  have F_1_3_7_8 : Hid (∀ listed, listed = #[true, true, true, true, true, false, false, true, true, false, false, false] → ∀ (V : World) (p : G6) (q : G6) (bq : Nat) (bs : Nat), Hid ((Below X.heap.size X V) ∧ (p.Lt a V X.heap.size ∧ GCh X.heap.size [p] V.heap.size) ∧ (q.Lt b V X.heap.size ∧ GCh X.heap.size [q, p] V.heap.size) ∧ (Box V bq 26 #[.bool false, .slice none 0 0, .slice none 0 0, .bool false, .slice none 0 0, .slice none 0 0] ∧ X.heap.size ≤ bq) ∧ (Box V bs 24 #[.bool false, .slice none 0 0, .slice none 0 0] ∧ X.heap.size ≤ bs) ∧ (bq ≠ bs)) → wpAnyH Tryz.prog .any gc_region_ops (NoPanic Q) (fun V : World => Below X.heap.size X V) 5 listed { tmps := (List.toArray (t0 :: t1 :: t2 :: (.pointer (some ⟨ba, 0, none⟩)) :: (.pointer (some ⟨bb, 0, none⟩)) :: (.pointer (some ⟨br, 0, none⟩)) :: t6 :: t7 :: (.pointer (some ⟨bq, 0, none⟩)) :: (.pointer (some ⟨bs, 0, none⟩)) :: t10 :: t11 :: t12 :: t13 :: t14 :: t15 :: t16 :: t17 :: t18 :: t19 :: t20 :: t21 :: t22 :: t23 :: t24 :: t25 :: t26 :: t27 :: t28 :: t29 :: t30 :: t31 :: t32 :: t33 :: t34 :: t35 :: t36 :: t37 :: t38 :: t39 :: t40 :: t41 :: t42 :: t43 :: t44 :: t45 :: t46 :: t47 :: t48 :: t49 :: t50 :: (.agg #[.bool a.n, .slice a.a a.xs.length a.ca, .slice a.b a.ys.length a.cb, .bool a.m, .slice a.c a.us.length a.cc, .slice a.d a.vs.length a.cd]) :: (.agg #[.bool p.n, .slice p.a p.xs.length p.ca, .slice p.b p.ys.length p.cb, .bool p.m, .slice p.c p.us.length p.cc, .slice p.d p.vs.length p.cd]) :: (.agg #[.bool b.n, .slice b.a b.xs.length b.ca, .slice b.b b.ys.length b.cb, .bool b.m, .slice b.c b.us.length b.cc, .slice b.d b.vs.length b.cd]) :: (.agg #[.bool q.n, .slice q.a q.xs.length q.ca, .slice q.b q.ys.length q.cb, .bool q.m, .slice q.c q.us.length q.cc, .slice q.d q.vs.length q.cd]) :: (.agg #[.bool r.n, .slice r.a r.xs.length r.ca, .slice r.b r.ys.length r.cb]) :: t56 :: rest)), defers := [] } V) := by
    rintro _ rfl V p q bq bs HR
    refine wpAnyH_ready (rs := [5, 6]) (by kernel_rfl) (by simp) ?_
    refine AllReadyH.cons (o := { dst := some 56, op := Op.call { callee := Callee.value (Operand.func 7), args := #[Operand.tmp 55], argTypes := #[24] }, type := 24, pos := "law.go:33", after := #[{ on := 4, ground := Ground.data }, { on := 3, ground := Ground.chain }], guard := none }) rfl (fun K hK => ?_) ?_
    · go_simp
      refine Calls.mono (gcLentR r V (HL.out V HR.out.1).2.2 (by have := HNr.out; omega) (by have := HNr.out; omega)) ?_
      rintro e V' ⟨s, rfl, o1, hb⟩
      dsimp only
      have new : s.Lt r V' X.heap.size := o1.out.base (HR.out.1).size
      have HB2 := hid (bt HR.out.1 hb)
      refine hK.out _ _ ?_ (fun hHeld => ?_)
      · exact HB2.out
      clear hK K
      try simp only [List.setIfInBounds_toArray, List.set_cons_zero, List.set_cons_succ]
      exact F_1_3_5_7_8.out _ (by kernel_rfl) _ p q s bq bs (hid ⟨HB2.out, ⟨(HR.out.2.1).1.later hb, (HR.out.2.1).2.mono hb.size⟩, ⟨(HR.out.2.2.1).1.later hb, (HR.out.2.2.1).2.mono hb.size⟩, new, ⟨(HR.out.2.2.2.1).1.later hb (HR.out.2.2.2.1).1.lt, (HR.out.2.2.2.1).2⟩, ⟨(HR.out.2.2.2.2.1).1.later hb (HR.out.2.2.2.2.1).1.lt, (HR.out.2.2.2.2.1).2⟩, HR.out.2.2.2.2.2⟩)
    refine AllReadyH.cons (o := { dst := some 7, op := Op.alloc 26, type := 0, pos := "law.go:33", after := #[], guard := none }) rfl (fun K hK => ?_) ?_
    · go_simp
      have hb := alloc_later V (.cells #[.bool false, .slice none 0 0, .slice none 0 0, .bool false, .slice none 0 0, .slice none 0 0] 26)
      have new := And.intro (Box.made V 26 #[.bool false, .slice none 0 0, .slice none 0 0, .bool false, .slice none 0 0, .slice none 0 0]) (HR.out.1).size
      have HB2 := hid (bt HR.out.1 hb)
      refine hK.out _ _ ?_ (fun hHeld => ?_)
      · exact HB2.out
      clear hK K
      try simp only [List.setIfInBounds_toArray, List.set_cons_zero, List.set_cons_succ]
      exact F_1_3_6_7_8.out _ (by kernel_rfl) _ p q V.heap.size bq bs (hid ⟨HB2.out, ⟨(HR.out.2.1).1.later hb, (HR.out.2.1).2.mono hb.size⟩, ⟨(HR.out.2.2.1).1.later hb, (HR.out.2.2.1).2.mono hb.size⟩, new, ⟨(HR.out.2.2.2.1).1.later hb (HR.out.2.2.2.1).1.lt, (HR.out.2.2.2.1).2⟩, ⟨(HR.out.2.2.2.2.1).1.later hb (HR.out.2.2.2.2.1).1.lt, (HR.out.2.2.2.2.1).2⟩, (by have := (HR.out.2.2.2.1).1.lt; omega), (by have := (HR.out.2.2.2.2.1).1.lt; omega), HR.out.2.2.2.2.2⟩)
    exact AllReadyH.nil
  have F_1_6_7_8 : Hid (∀ listed, listed = #[true, true, true, false, true, false, true, true, true, false, false, false] → ∀ (V : World) (p : G6) (bp : Nat) (bq : Nat) (bs : Nat), Hid ((Below X.heap.size X V) ∧ (p.Lt a V X.heap.size ∧ GCh X.heap.size [p] V.heap.size) ∧ (Box V bp 26 #[.bool false, .slice none 0 0, .slice none 0 0, .bool false, .slice none 0 0, .slice none 0 0] ∧ X.heap.size ≤ bp) ∧ (Box V bq 26 #[.bool false, .slice none 0 0, .slice none 0 0, .bool false, .slice none 0 0, .slice none 0 0] ∧ X.heap.size ≤ bq) ∧ (Box V bs 24 #[.bool false, .slice none 0 0, .slice none 0 0] ∧ X.heap.size ≤ bs) ∧ (bp ≠ bq) ∧ (bp ≠ bs) ∧ (bq ≠ bs)) → wpAnyH Tryz.prog .any gc_region_ops (NoPanic Q) (fun V : World => Below X.heap.size X V) 5 listed { tmps := (List.toArray (t0 :: t1 :: t2 :: (.pointer (some ⟨ba, 0, none⟩)) :: (.pointer (some ⟨bb, 0, none⟩)) :: (.pointer (some ⟨br, 0, none⟩)) :: t6 :: (.pointer (some ⟨bp, 0, none⟩)) :: (.pointer (some ⟨bq, 0, none⟩)) :: (.pointer (some ⟨bs, 0, none⟩)) :: t10 :: t11 :: t12 :: t13 :: t14 :: t15 :: t16 :: t17 :: t18 :: t19 :: t20 :: t21 :: t22 :: t23 :: t24 :: t25 :: t26 :: t27 :: t28 :: t29 :: t30 :: t31 :: t32 :: t33 :: t34 :: t35 :: t36 :: t37 :: t38 :: t39 :: t40 :: t41 :: t42 :: t43 :: t44 :: t45 :: t46 :: t47 :: t48 :: t49 :: t50 :: (.agg #[.bool a.n, .slice a.a a.xs.length a.ca, .slice a.b a.ys.length a.cb, .bool a.m, .slice a.c a.us.length a.cc, .slice a.d a.vs.length a.cd]) :: (.agg #[.bool p.n, .slice p.a p.xs.length p.ca, .slice p.b p.ys.length p.cb, .bool p.m, .slice p.c p.us.length p.cc, .slice p.d p.vs.length p.cd]) :: (.agg #[.bool b.n, .slice b.a b.xs.length b.ca, .slice b.b b.ys.length b.cb, .bool b.m, .slice b.c b.us.length b.cc, .slice b.d b.vs.length b.cd]) :: t54 :: (.agg #[.bool r.n, .slice r.a r.xs.length r.ca, .slice r.b r.ys.length r.cb]) :: t56 :: rest)), defers := [] } V) := by
    rintro _ rfl V p bp bq bs HR
    refine wpAnyH_ready (rs := [3]) (by kernel_rfl) (by simp) ?_
    refine AllReadyH.cons (o := { dst := some 54, op := Op.call { callee := Callee.value (Operand.func 6), args := #[Operand.tmp 53], argTypes := #[26] }, type := 26, pos := "law.go:33", after := #[{ on := 2, ground := Ground.data }, { on := 1, ground := Ground.chain }], guard := none }) rfl (fun K hK => ?_) ?_
    · go_simp
      refine Calls.mono (gcLent b V (HL.out V HR.out.1).2.1 (by have := HNb.out; omega) (by have := HNb.out; omega) (by have := HNb.out; omega) (by have := HNb.out; omega)) ?_
      rintro e V' ⟨q, rfl, o1, o2, hb⟩
      dsimp only
      have new : q.Lt b V' X.heap.size ∧ GCh X.heap.size [q, p] V'.heap.size := ⟨o1.out.base (HR.out.1).size, V.heap.size, V'.heap.size, o2.out, hb.size, Nat.le_refl _, (HR.out.2.1).2⟩
      have HB2 := hid (bt HR.out.1 hb)
      refine hK.out _ _ ?_ (fun hHeld => ?_)
      · exact HB2.out
      clear hK K
      try simp only [List.setIfInBounds_toArray, List.set_cons_zero, List.set_cons_succ]
      exact F_1_3_6_7_8.out _ (by kernel_rfl) _ p q bp bq bs (hid ⟨HB2.out, ⟨(HR.out.2.1).1.later hb, (HR.out.2.1).2.mono hb.size⟩, new, ⟨(HR.out.2.2.1).1.later hb (HR.out.2.2.1).1.lt, (HR.out.2.2.1).2⟩, ⟨(HR.out.2.2.2.1).1.later hb (HR.out.2.2.2.1).1.lt, (HR.out.2.2.2.1).2⟩, ⟨(HR.out.2.2.2.2.1).1.later hb (HR.out.2.2.2.2.1).1.lt, (HR.out.2.2.2.2.1).2⟩, HR.out.2.2.2.2.2.1, HR.out.2.2.2.2.2.2.1, HR.out.2.2.2.2.2.2.2⟩)
    exact AllReadyH.nil
  have F_1_3_5 : Hid (∀ listed, listed = #[true, true, true, true, true, true, false, false, false, false, false, false] → ∀ (V : World) (p : G6) (q : G6) (s : F3), Hid ((Below X.heap.size X V) ∧ (p.Lt a V X.heap.size ∧ GCh X.heap.size [p] V.heap.size) ∧ (q.Lt b V X.heap.size ∧ GCh X.heap.size [q, p] V.heap.size) ∧ (s.Lt r V X.heap.size)) → wpAnyH Tryz.prog .any gc_region_ops (NoPanic Q) (fun V : World => Below X.heap.size X V) 6 listed { tmps := (List.toArray (t0 :: t1 :: t2 :: (.pointer (some ⟨ba, 0, none⟩)) :: (.pointer (some ⟨bb, 0, none⟩)) :: (.pointer (some ⟨br, 0, none⟩)) :: t6 :: t7 :: t8 :: t9 :: t10 :: t11 :: t12 :: t13 :: t14 :: t15 :: t16 :: t17 :: t18 :: t19 :: t20 :: t21 :: t22 :: t23 :: t24 :: t25 :: t26 :: t27 :: t28 :: t29 :: t30 :: t31 :: t32 :: t33 :: t34 :: t35 :: t36 :: t37 :: t38 :: t39 :: t40 :: t41 :: t42 :: t43 :: t44 :: t45 :: t46 :: t47 :: t48 :: t49 :: t50 :: (.agg #[.bool a.n, .slice a.a a.xs.length a.ca, .slice a.b a.ys.length a.cb, .bool a.m, .slice a.c a.us.length a.cc, .slice a.d a.vs.length a.cd]) :: (.agg #[.bool p.n, .slice p.a p.xs.length p.ca, .slice p.b p.ys.length p.cb, .bool p.m, .slice p.c p.us.length p.cc, .slice p.d p.vs.length p.cd]) :: (.agg #[.bool b.n, .slice b.a b.xs.length b.ca, .slice b.b b.ys.length b.cb, .bool b.m, .slice b.c b.us.length b.cc, .slice b.d b.vs.length b.cd]) :: (.agg #[.bool q.n, .slice q.a q.xs.length q.ca, .slice q.b q.ys.length q.cb, .bool q.m, .slice q.c q.us.length q.cc, .slice q.d q.vs.length q.cd]) :: (.agg #[.bool r.n, .slice r.a r.xs.length r.ca, .slice r.b r.ys.length r.cb]) :: (.agg #[.bool s.n, .slice s.a s.xs.length s.ca, .slice s.b s.ys.length s.cb]) :: rest)), defers := [] } V) := by
    rintro _ rfl V p q s HR
    refine wpAnyH_ready (rs := [6, 7, 8]) (by kernel_rfl) (by simp) ?_
    refine AllReadyH.cons (o := { dst := some 7, op := Op.alloc 26, type := 0, pos := "law.go:33", after := #[], guard := none }) rfl (fun K hK => ?_) ?_
    · go_simp
      have hb := alloc_later V (.cells #[.bool false, .slice none 0 0, .slice none 0 0, .bool false, .slice none 0 0, .slice none 0 0] 26)
      have new := And.intro (Box.made V 26 #[.bool false, .slice none 0 0, .slice none 0 0, .bool false, .slice none 0 0, .slice none 0 0]) (HR.out.1).size
      have HB2 := hid (bt HR.out.1 hb)
      refine hK.out _ _ ?_ (fun hHeld => ?_)
      · exact HB2.out
      clear hK K
      try simp only [List.setIfInBounds_toArray, List.set_cons_zero, List.set_cons_succ]
      exact F_1_3_5_6.out _ (by kernel_rfl) _ p q s V.heap.size (hid ⟨HB2.out, ⟨(HR.out.2.1).1.later hb, (HR.out.2.1).2.mono hb.size⟩, ⟨(HR.out.2.2.1).1.later hb, (HR.out.2.2.1).2.mono hb.size⟩, (HR.out.2.2.2).later hb, new⟩)
    refine AllReadyH.cons (o := { dst := some 8, op := Op.alloc 26, type := 0, pos := "law.go:33", after := #[], guard := none }) rfl (fun K hK => ?_) ?_
    · go_simp
      have hb := alloc_later V (.cells #[.bool false, .slice none 0 0, .slice none 0 0, .bool false, .slice none 0 0, .slice none 0 0] 26)
      have new := And.intro (Box.made V 26 #[.bool false, .slice none 0 0, .slice none 0 0, .bool false, .slice none 0 0, .slice none 0 0]) (HR.out.1).size
      have HB2 := hid (bt HR.out.1 hb)
      refine hK.out _ _ ?_ (fun hHeld => ?_)
      · exact HB2.out
      clear hK K
      try simp only [List.setIfInBounds_toArray, List.set_cons_zero, List.set_cons_succ]
      exact F_1_3_5_7.out _ (by kernel_rfl) _ p q s V.heap.size (hid ⟨HB2.out, ⟨(HR.out.2.1).1.later hb, (HR.out.2.1).2.mono hb.size⟩, ⟨(HR.out.2.2.1).1.later hb, (HR.out.2.2.1).2.mono hb.size⟩, (HR.out.2.2.2).later hb, new⟩)
    refine AllReadyH.cons (o := { dst := some 9, op := Op.alloc 24, type := 0, pos := "law.go:33", after := #[], guard := none }) rfl (fun K hK => ?_) ?_
    · go_simp
      have hb := alloc_later V (.cells #[.bool false, .slice none 0 0, .slice none 0 0] 24)
      have new := And.intro (Box.made V 24 #[.bool false, .slice none 0 0, .slice none 0 0]) (HR.out.1).size
      have HB2 := hid (bt HR.out.1 hb)
      refine hK.out _ _ ?_ (fun hHeld => ?_)
      · exact HB2.out
      clear hK K
      try simp only [List.setIfInBounds_toArray, List.set_cons_zero, List.set_cons_succ]
      exact F_1_3_5_8.out _ (by kernel_rfl) _ p q s V.heap.size (hid ⟨HB2.out, ⟨(HR.out.2.1).1.later hb, (HR.out.2.1).2.mono hb.size⟩, ⟨(HR.out.2.2.1).1.later hb, (HR.out.2.2.1).2.mono hb.size⟩, (HR.out.2.2.2).later hb, new⟩)
    exact AllReadyH.nil
  have F_1_3_6 : Hid (∀ listed, listed = #[true, true, true, true, true, false, true, false, false, false, false, false] → ∀ (V : World) (p : G6) (q : G6) (bp : Nat), Hid ((Below X.heap.size X V) ∧ (p.Lt a V X.heap.size ∧ GCh X.heap.size [p] V.heap.size) ∧ (q.Lt b V X.heap.size ∧ GCh X.heap.size [q, p] V.heap.size) ∧ (Box V bp 26 #[.bool false, .slice none 0 0, .slice none 0 0, .bool false, .slice none 0 0, .slice none 0 0] ∧ X.heap.size ≤ bp)) → wpAnyH Tryz.prog .any gc_region_ops (NoPanic Q) (fun V : World => Below X.heap.size X V) 6 listed { tmps := (List.toArray (t0 :: t1 :: t2 :: (.pointer (some ⟨ba, 0, none⟩)) :: (.pointer (some ⟨bb, 0, none⟩)) :: (.pointer (some ⟨br, 0, none⟩)) :: t6 :: (.pointer (some ⟨bp, 0, none⟩)) :: t8 :: t9 :: t10 :: t11 :: t12 :: t13 :: t14 :: t15 :: t16 :: t17 :: t18 :: t19 :: t20 :: t21 :: t22 :: t23 :: t24 :: t25 :: t26 :: t27 :: t28 :: t29 :: t30 :: t31 :: t32 :: t33 :: t34 :: t35 :: t36 :: t37 :: t38 :: t39 :: t40 :: t41 :: t42 :: t43 :: t44 :: t45 :: t46 :: t47 :: t48 :: t49 :: t50 :: (.agg #[.bool a.n, .slice a.a a.xs.length a.ca, .slice a.b a.ys.length a.cb, .bool a.m, .slice a.c a.us.length a.cc, .slice a.d a.vs.length a.cd]) :: (.agg #[.bool p.n, .slice p.a p.xs.length p.ca, .slice p.b p.ys.length p.cb, .bool p.m, .slice p.c p.us.length p.cc, .slice p.d p.vs.length p.cd]) :: (.agg #[.bool b.n, .slice b.a b.xs.length b.ca, .slice b.b b.ys.length b.cb, .bool b.m, .slice b.c b.us.length b.cc, .slice b.d b.vs.length b.cd]) :: (.agg #[.bool q.n, .slice q.a q.xs.length q.ca, .slice q.b q.ys.length q.cb, .bool q.m, .slice q.c q.us.length q.cc, .slice q.d q.vs.length q.cd]) :: (.agg #[.bool r.n, .slice r.a r.xs.length r.ca, .slice r.b r.ys.length r.cb]) :: t56 :: rest)), defers := [] } V) := by
    rintro _ rfl V p q bp HR
    refine wpAnyH_ready (rs := [5, 7, 8]) (by kernel_rfl) (by simp) ?_
    refine AllReadyH.cons (o := { dst := some 56, op := Op.call { callee := Callee.value (Operand.func 7), args := #[Operand.tmp 55], argTypes := #[24] }, type := 24, pos := "law.go:33", after := #[{ on := 4, ground := Ground.data }, { on := 3, ground := Ground.chain }], guard := none }) rfl (fun K hK => ?_) ?_
    · go_simp
      refine Calls.mono (gcLentR r V (HL.out V HR.out.1).2.2 (by have := HNr.out; omega) (by have := HNr.out; omega)) ?_
      rintro e V' ⟨s, rfl, o1, hb⟩
      dsimp only
      have new : s.Lt r V' X.heap.size := o1.out.base (HR.out.1).size
      have HB2 := hid (bt HR.out.1 hb)
      refine hK.out _ _ ?_ (fun hHeld => ?_)
      · exact HB2.out
      clear hK K
      try simp only [List.setIfInBounds_toArray, List.set_cons_zero, List.set_cons_succ]
      exact F_1_3_5_6.out _ (by kernel_rfl) _ p q s bp (hid ⟨HB2.out, ⟨(HR.out.2.1).1.later hb, (HR.out.2.1).2.mono hb.size⟩, ⟨(HR.out.2.2.1).1.later hb, (HR.out.2.2.1).2.mono hb.size⟩, new, ⟨(HR.out.2.2.2).1.later hb (HR.out.2.2.2).1.lt, (HR.out.2.2.2).2⟩⟩)
    refine AllReadyH.cons (o := { dst := some 8, op := Op.alloc 26, type := 0, pos := "law.go:33", after := #[], guard := none }) rfl (fun K hK => ?_) ?_
    · go_simp
      have hb := alloc_later V (.cells #[.bool false, .slice none 0 0, .slice none 0 0, .bool false, .slice none 0 0, .slice none 0 0] 26)
      have new := And.intro (Box.made V 26 #[.bool false, .slice none 0 0, .slice none 0 0, .bool false, .slice none 0 0, .slice none 0 0]) (HR.out.1).size
      have HB2 := hid (bt HR.out.1 hb)
      refine hK.out _ _ ?_ (fun hHeld => ?_)
      · exact HB2.out
      clear hK K
      try simp only [List.setIfInBounds_toArray, List.set_cons_zero, List.set_cons_succ]
      exact F_1_3_6_7.out _ (by kernel_rfl) _ p q bp V.heap.size (hid ⟨HB2.out, ⟨(HR.out.2.1).1.later hb, (HR.out.2.1).2.mono hb.size⟩, ⟨(HR.out.2.2.1).1.later hb, (HR.out.2.2.1).2.mono hb.size⟩, ⟨(HR.out.2.2.2).1.later hb (HR.out.2.2.2).1.lt, (HR.out.2.2.2).2⟩, new, (by have := (HR.out.2.2.2).1.lt; omega)⟩)
    refine AllReadyH.cons (o := { dst := some 9, op := Op.alloc 24, type := 0, pos := "law.go:33", after := #[], guard := none }) rfl (fun K hK => ?_) ?_
    · go_simp
      have hb := alloc_later V (.cells #[.bool false, .slice none 0 0, .slice none 0 0] 24)
      have new := And.intro (Box.made V 24 #[.bool false, .slice none 0 0, .slice none 0 0]) (HR.out.1).size
      have HB2 := hid (bt HR.out.1 hb)
      refine hK.out _ _ ?_ (fun hHeld => ?_)
      · exact HB2.out
      clear hK K
      try simp only [List.setIfInBounds_toArray, List.set_cons_zero, List.set_cons_succ]
      exact F_1_3_6_8.out _ (by kernel_rfl) _ p q bp V.heap.size (hid ⟨HB2.out, ⟨(HR.out.2.1).1.later hb, (HR.out.2.1).2.mono hb.size⟩, ⟨(HR.out.2.2.1).1.later hb, (HR.out.2.2.1).2.mono hb.size⟩, ⟨(HR.out.2.2.2).1.later hb (HR.out.2.2.2).1.lt, (HR.out.2.2.2).2⟩, new, (by have := (HR.out.2.2.2).1.lt; omega)⟩)
    exact AllReadyH.nil
  have F_1_3_7 : Hid (∀ listed, listed = #[true, true, true, true, true, false, false, true, false, false, false, false] → ∀ (V : World) (p : G6) (q : G6) (bq : Nat), Hid ((Below X.heap.size X V) ∧ (p.Lt a V X.heap.size ∧ GCh X.heap.size [p] V.heap.size) ∧ (q.Lt b V X.heap.size ∧ GCh X.heap.size [q, p] V.heap.size) ∧ (Box V bq 26 #[.bool false, .slice none 0 0, .slice none 0 0, .bool false, .slice none 0 0, .slice none 0 0] ∧ X.heap.size ≤ bq)) → wpAnyH Tryz.prog .any gc_region_ops (NoPanic Q) (fun V : World => Below X.heap.size X V) 6 listed { tmps := (List.toArray (t0 :: t1 :: t2 :: (.pointer (some ⟨ba, 0, none⟩)) :: (.pointer (some ⟨bb, 0, none⟩)) :: (.pointer (some ⟨br, 0, none⟩)) :: t6 :: t7 :: (.pointer (some ⟨bq, 0, none⟩)) :: t9 :: t10 :: t11 :: t12 :: t13 :: t14 :: t15 :: t16 :: t17 :: t18 :: t19 :: t20 :: t21 :: t22 :: t23 :: t24 :: t25 :: t26 :: t27 :: t28 :: t29 :: t30 :: t31 :: t32 :: t33 :: t34 :: t35 :: t36 :: t37 :: t38 :: t39 :: t40 :: t41 :: t42 :: t43 :: t44 :: t45 :: t46 :: t47 :: t48 :: t49 :: t50 :: (.agg #[.bool a.n, .slice a.a a.xs.length a.ca, .slice a.b a.ys.length a.cb, .bool a.m, .slice a.c a.us.length a.cc, .slice a.d a.vs.length a.cd]) :: (.agg #[.bool p.n, .slice p.a p.xs.length p.ca, .slice p.b p.ys.length p.cb, .bool p.m, .slice p.c p.us.length p.cc, .slice p.d p.vs.length p.cd]) :: (.agg #[.bool b.n, .slice b.a b.xs.length b.ca, .slice b.b b.ys.length b.cb, .bool b.m, .slice b.c b.us.length b.cc, .slice b.d b.vs.length b.cd]) :: (.agg #[.bool q.n, .slice q.a q.xs.length q.ca, .slice q.b q.ys.length q.cb, .bool q.m, .slice q.c q.us.length q.cc, .slice q.d q.vs.length q.cd]) :: (.agg #[.bool r.n, .slice r.a r.xs.length r.ca, .slice r.b r.ys.length r.cb]) :: t56 :: rest)), defers := [] } V) := by
    rintro _ rfl V p q bq HR
    refine wpAnyH_ready (rs := [5, 6, 8]) (by kernel_rfl) (by simp) ?_
    refine AllReadyH.cons (o := { dst := some 56, op := Op.call { callee := Callee.value (Operand.func 7), args := #[Operand.tmp 55], argTypes := #[24] }, type := 24, pos := "law.go:33", after := #[{ on := 4, ground := Ground.data }, { on := 3, ground := Ground.chain }], guard := none }) rfl (fun K hK => ?_) ?_
    · go_simp
      refine Calls.mono (gcLentR r V (HL.out V HR.out.1).2.2 (by have := HNr.out; omega) (by have := HNr.out; omega)) ?_
      rintro e V' ⟨s, rfl, o1, hb⟩
      dsimp only
      have new : s.Lt r V' X.heap.size := o1.out.base (HR.out.1).size
      have HB2 := hid (bt HR.out.1 hb)
      refine hK.out _ _ ?_ (fun hHeld => ?_)
      · exact HB2.out
      clear hK K
      try simp only [List.setIfInBounds_toArray, List.set_cons_zero, List.set_cons_succ]
      exact F_1_3_5_7.out _ (by kernel_rfl) _ p q s bq (hid ⟨HB2.out, ⟨(HR.out.2.1).1.later hb, (HR.out.2.1).2.mono hb.size⟩, ⟨(HR.out.2.2.1).1.later hb, (HR.out.2.2.1).2.mono hb.size⟩, new, ⟨(HR.out.2.2.2).1.later hb (HR.out.2.2.2).1.lt, (HR.out.2.2.2).2⟩⟩)
    refine AllReadyH.cons (o := { dst := some 7, op := Op.alloc 26, type := 0, pos := "law.go:33", after := #[], guard := none }) rfl (fun K hK => ?_) ?_
    · go_simp
      have hb := alloc_later V (.cells #[.bool false, .slice none 0 0, .slice none 0 0, .bool false, .slice none 0 0, .slice none 0 0] 26)
      have new := And.intro (Box.made V 26 #[.bool false, .slice none 0 0, .slice none 0 0, .bool false, .slice none 0 0, .slice none 0 0]) (HR.out.1).size
      have HB2 := hid (bt HR.out.1 hb)
      refine hK.out _ _ ?_ (fun hHeld => ?_)
      · exact HB2.out
      clear hK K
      try simp only [List.setIfInBounds_toArray, List.set_cons_zero, List.set_cons_succ]
      exact F_1_3_6_7.out _ (by kernel_rfl) _ p q V.heap.size bq (hid ⟨HB2.out, ⟨(HR.out.2.1).1.later hb, (HR.out.2.1).2.mono hb.size⟩, ⟨(HR.out.2.2.1).1.later hb, (HR.out.2.2.1).2.mono hb.size⟩, new, ⟨(HR.out.2.2.2).1.later hb (HR.out.2.2.2).1.lt, (HR.out.2.2.2).2⟩, (by have := (HR.out.2.2.2).1.lt; omega)⟩)
    refine AllReadyH.cons (o := { dst := some 9, op := Op.alloc 24, type := 0, pos := "law.go:33", after := #[], guard := none }) rfl (fun K hK => ?_) ?_
    · go_simp
      have hb := alloc_later V (.cells #[.bool false, .slice none 0 0, .slice none 0 0] 24)
      have new := And.intro (Box.made V 24 #[.bool false, .slice none 0 0, .slice none 0 0]) (HR.out.1).size
      have HB2 := hid (bt HR.out.1 hb)
      refine hK.out _ _ ?_ (fun hHeld => ?_)
      · exact HB2.out
      clear hK K
      try simp only [List.setIfInBounds_toArray, List.set_cons_zero, List.set_cons_succ]
      exact F_1_3_7_8.out _ (by kernel_rfl) _ p q bq V.heap.size (hid ⟨HB2.out, ⟨(HR.out.2.1).1.later hb, (HR.out.2.1).2.mono hb.size⟩, ⟨(HR.out.2.2.1).1.later hb, (HR.out.2.2.1).2.mono hb.size⟩, ⟨(HR.out.2.2.2).1.later hb (HR.out.2.2.2).1.lt, (HR.out.2.2.2).2⟩, new, (by have := (HR.out.2.2.2).1.lt; omega)⟩)
    exact AllReadyH.nil
  have F_1_3_8 : Hid (∀ listed, listed = #[true, true, true, true, true, false, false, false, true, false, false, false] → ∀ (V : World) (p : G6) (q : G6) (bs : Nat), Hid ((Below X.heap.size X V) ∧ (p.Lt a V X.heap.size ∧ GCh X.heap.size [p] V.heap.size) ∧ (q.Lt b V X.heap.size ∧ GCh X.heap.size [q, p] V.heap.size) ∧ (Box V bs 24 #[.bool false, .slice none 0 0, .slice none 0 0] ∧ X.heap.size ≤ bs)) → wpAnyH Tryz.prog .any gc_region_ops (NoPanic Q) (fun V : World => Below X.heap.size X V) 6 listed { tmps := (List.toArray (t0 :: t1 :: t2 :: (.pointer (some ⟨ba, 0, none⟩)) :: (.pointer (some ⟨bb, 0, none⟩)) :: (.pointer (some ⟨br, 0, none⟩)) :: t6 :: t7 :: t8 :: (.pointer (some ⟨bs, 0, none⟩)) :: t10 :: t11 :: t12 :: t13 :: t14 :: t15 :: t16 :: t17 :: t18 :: t19 :: t20 :: t21 :: t22 :: t23 :: t24 :: t25 :: t26 :: t27 :: t28 :: t29 :: t30 :: t31 :: t32 :: t33 :: t34 :: t35 :: t36 :: t37 :: t38 :: t39 :: t40 :: t41 :: t42 :: t43 :: t44 :: t45 :: t46 :: t47 :: t48 :: t49 :: t50 :: (.agg #[.bool a.n, .slice a.a a.xs.length a.ca, .slice a.b a.ys.length a.cb, .bool a.m, .slice a.c a.us.length a.cc, .slice a.d a.vs.length a.cd]) :: (.agg #[.bool p.n, .slice p.a p.xs.length p.ca, .slice p.b p.ys.length p.cb, .bool p.m, .slice p.c p.us.length p.cc, .slice p.d p.vs.length p.cd]) :: (.agg #[.bool b.n, .slice b.a b.xs.length b.ca, .slice b.b b.ys.length b.cb, .bool b.m, .slice b.c b.us.length b.cc, .slice b.d b.vs.length b.cd]) :: (.agg #[.bool q.n, .slice q.a q.xs.length q.ca, .slice q.b q.ys.length q.cb, .bool q.m, .slice q.c q.us.length q.cc, .slice q.d q.vs.length q.cd]) :: (.agg #[.bool r.n, .slice r.a r.xs.length r.ca, .slice r.b r.ys.length r.cb]) :: t56 :: rest)), defers := [] } V) := by
    rintro _ rfl V p q bs HR
    refine wpAnyH_ready (rs := [5, 6, 7]) (by kernel_rfl) (by simp) ?_
    refine AllReadyH.cons (o := { dst := some 56, op := Op.call { callee := Callee.value (Operand.func 7), args := #[Operand.tmp 55], argTypes := #[24] }, type := 24, pos := "law.go:33", after := #[{ on := 4, ground := Ground.data }, { on := 3, ground := Ground.chain }], guard := none }) rfl (fun K hK => ?_) ?_
    · go_simp
      refine Calls.mono (gcLentR r V (HL.out V HR.out.1).2.2 (by have := HNr.out; omega) (by have := HNr.out; omega)) ?_
      rintro e V' ⟨s, rfl, o1, hb⟩
      dsimp only
      have new : s.Lt r V' X.heap.size := o1.out.base (HR.out.1).size
      have HB2 := hid (bt HR.out.1 hb)
      refine hK.out _ _ ?_ (fun hHeld => ?_)
      · exact HB2.out
      clear hK K
      try simp only [List.setIfInBounds_toArray, List.set_cons_zero, List.set_cons_succ]
      exact F_1_3_5_8.out _ (by kernel_rfl) _ p q s bs (hid ⟨HB2.out, ⟨(HR.out.2.1).1.later hb, (HR.out.2.1).2.mono hb.size⟩, ⟨(HR.out.2.2.1).1.later hb, (HR.out.2.2.1).2.mono hb.size⟩, new, ⟨(HR.out.2.2.2).1.later hb (HR.out.2.2.2).1.lt, (HR.out.2.2.2).2⟩⟩)
    refine AllReadyH.cons (o := { dst := some 7, op := Op.alloc 26, type := 0, pos := "law.go:33", after := #[], guard := none }) rfl (fun K hK => ?_) ?_
    · go_simp
      have hb := alloc_later V (.cells #[.bool false, .slice none 0 0, .slice none 0 0, .bool false, .slice none 0 0, .slice none 0 0] 26)
      have new := And.intro (Box.made V 26 #[.bool false, .slice none 0 0, .slice none 0 0, .bool false, .slice none 0 0, .slice none 0 0]) (HR.out.1).size
      have HB2 := hid (bt HR.out.1 hb)
      refine hK.out _ _ ?_ (fun hHeld => ?_)
      · exact HB2.out
      clear hK K
      try simp only [List.setIfInBounds_toArray, List.set_cons_zero, List.set_cons_succ]
      exact F_1_3_6_8.out _ (by kernel_rfl) _ p q V.heap.size bs (hid ⟨HB2.out, ⟨(HR.out.2.1).1.later hb, (HR.out.2.1).2.mono hb.size⟩, ⟨(HR.out.2.2.1).1.later hb, (HR.out.2.2.1).2.mono hb.size⟩, new, ⟨(HR.out.2.2.2).1.later hb (HR.out.2.2.2).1.lt, (HR.out.2.2.2).2⟩, (by have := (HR.out.2.2.2).1.lt; omega)⟩)
    refine AllReadyH.cons (o := { dst := some 8, op := Op.alloc 26, type := 0, pos := "law.go:33", after := #[], guard := none }) rfl (fun K hK => ?_) ?_
    · go_simp
      have hb := alloc_later V (.cells #[.bool false, .slice none 0 0, .slice none 0 0, .bool false, .slice none 0 0, .slice none 0 0] 26)
      have new := And.intro (Box.made V 26 #[.bool false, .slice none 0 0, .slice none 0 0, .bool false, .slice none 0 0, .slice none 0 0]) (HR.out.1).size
      have HB2 := hid (bt HR.out.1 hb)
      refine hK.out _ _ ?_ (fun hHeld => ?_)
      · exact HB2.out
      clear hK K
      try simp only [List.setIfInBounds_toArray, List.set_cons_zero, List.set_cons_succ]
      exact F_1_3_7_8.out _ (by kernel_rfl) _ p q V.heap.size bs (hid ⟨HB2.out, ⟨(HR.out.2.1).1.later hb, (HR.out.2.1).2.mono hb.size⟩, ⟨(HR.out.2.2.1).1.later hb, (HR.out.2.2.1).2.mono hb.size⟩, new, ⟨(HR.out.2.2.2).1.later hb (HR.out.2.2.2).1.lt, (HR.out.2.2.2).2⟩, (by have := (HR.out.2.2.2).1.lt; omega)⟩)
    exact AllReadyH.nil
  have F_1_6_7 : Hid (∀ listed, listed = #[true, true, true, false, true, false, true, true, false, false, false, false] → ∀ (V : World) (p : G6) (bp : Nat) (bq : Nat), Hid ((Below X.heap.size X V) ∧ (p.Lt a V X.heap.size ∧ GCh X.heap.size [p] V.heap.size) ∧ (Box V bp 26 #[.bool false, .slice none 0 0, .slice none 0 0, .bool false, .slice none 0 0, .slice none 0 0] ∧ X.heap.size ≤ bp) ∧ (Box V bq 26 #[.bool false, .slice none 0 0, .slice none 0 0, .bool false, .slice none 0 0, .slice none 0 0] ∧ X.heap.size ≤ bq) ∧ (bp ≠ bq)) → wpAnyH Tryz.prog .any gc_region_ops (NoPanic Q) (fun V : World => Below X.heap.size X V) 6 listed { tmps := (List.toArray (t0 :: t1 :: t2 :: (.pointer (some ⟨ba, 0, none⟩)) :: (.pointer (some ⟨bb, 0, none⟩)) :: (.pointer (some ⟨br, 0, none⟩)) :: t6 :: (.pointer (some ⟨bp, 0, none⟩)) :: (.pointer (some ⟨bq, 0, none⟩)) :: t9 :: t10 :: t11 :: t12 :: t13 :: t14 :: t15 :: t16 :: t17 :: t18 :: t19 :: t20 :: t21 :: t22 :: t23 :: t24 :: t25 :: t26 :: t27 :: t28 :: t29 :: t30 :: t31 :: t32 :: t33 :: t34 :: t35 :: t36 :: t37 :: t38 :: t39 :: t40 :: t41 :: t42 :: t43 :: t44 :: t45 :: t46 :: t47 :: t48 :: t49 :: t50 :: (.agg #[.bool a.n, .slice a.a a.xs.length a.ca, .slice a.b a.ys.length a.cb, .bool a.m, .slice a.c a.us.length a.cc, .slice a.d a.vs.length a.cd]) :: (.agg #[.bool p.n, .slice p.a p.xs.length p.ca, .slice p.b p.ys.length p.cb, .bool p.m, .slice p.c p.us.length p.cc, .slice p.d p.vs.length p.cd]) :: (.agg #[.bool b.n, .slice b.a b.xs.length b.ca, .slice b.b b.ys.length b.cb, .bool b.m, .slice b.c b.us.length b.cc, .slice b.d b.vs.length b.cd]) :: t54 :: (.agg #[.bool r.n, .slice r.a r.xs.length r.ca, .slice r.b r.ys.length r.cb]) :: t56 :: rest)), defers := [] } V) := by
    rintro _ rfl V p bp bq HR
    refine wpAnyH_ready (rs := [3, 8]) (by kernel_rfl) (by simp) ?_
    refine AllReadyH.cons (o := { dst := some 54, op := Op.call { callee := Callee.value (Operand.func 6), args := #[Operand.tmp 53], argTypes := #[26] }, type := 26, pos := "law.go:33", after := #[{ on := 2, ground := Ground.data }, { on := 1, ground := Ground.chain }], guard := none }) rfl (fun K hK => ?_) ?_
    · go_simp
      refine Calls.mono (gcLent b V (HL.out V HR.out.1).2.1 (by have := HNb.out; omega) (by have := HNb.out; omega) (by have := HNb.out; omega) (by have := HNb.out; omega)) ?_
      rintro e V' ⟨q, rfl, o1, o2, hb⟩
      dsimp only
      have new : q.Lt b V' X.heap.size ∧ GCh X.heap.size [q, p] V'.heap.size := ⟨o1.out.base (HR.out.1).size, V.heap.size, V'.heap.size, o2.out, hb.size, Nat.le_refl _, (HR.out.2.1).2⟩
      have HB2 := hid (bt HR.out.1 hb)
      refine hK.out _ _ ?_ (fun hHeld => ?_)
      · exact HB2.out
      clear hK K
      try simp only [List.setIfInBounds_toArray, List.set_cons_zero, List.set_cons_succ]
      exact F_1_3_6_7.out _ (by kernel_rfl) _ p q bp bq (hid ⟨HB2.out, ⟨(HR.out.2.1).1.later hb, (HR.out.2.1).2.mono hb.size⟩, new, ⟨(HR.out.2.2.1).1.later hb (HR.out.2.2.1).1.lt, (HR.out.2.2.1).2⟩, ⟨(HR.out.2.2.2.1).1.later hb (HR.out.2.2.2.1).1.lt, (HR.out.2.2.2.1).2⟩, HR.out.2.2.2.2⟩)
    refine AllReadyH.cons (o := { dst := some 9, op := Op.alloc 24, type := 0, pos := "law.go:33", after := #[], guard := none }) rfl (fun K hK => ?_) ?_
    · go_simp
      have hb := alloc_later V (.cells #[.bool false, .slice none 0 0, .slice none 0 0] 24)
      have new := And.intro (Box.made V 24 #[.bool false, .slice none 0 0, .slice none 0 0]) (HR.out.1).size
      have HB2 := hid (bt HR.out.1 hb)
      refine hK.out _ _ ?_ (fun hHeld => ?_)
      · exact HB2.out
      clear hK K
      try simp only [List.setIfInBounds_toArray, List.set_cons_zero, List.set_cons_succ]
      exact F_1_6_7_8.out _ (by kernel_rfl) _ p bp bq V.heap.size (hid ⟨HB2.out, ⟨(HR.out.2.1).1.later hb, (HR.out.2.1).2.mono hb.size⟩, ⟨(HR.out.2.2.1).1.later hb (HR.out.2.2.1).1.lt, (HR.out.2.2.1).2⟩, ⟨(HR.out.2.2.2.1).1.later hb (HR.out.2.2.2.1).1.lt, (HR.out.2.2.2.1).2⟩, new, HR.out.2.2.2.2, (by have := (HR.out.2.2.1).1.lt; omega), (by have := (HR.out.2.2.2.1).1.lt; omega)⟩)
    exact AllReadyH.nil
  have F_1_6_8 : Hid (∀ listed, listed = #[true, true, true, false, true, false, true, false, true, false, false, false] → ∀ (V : World) (p : G6) (bp : Nat) (bs : Nat), Hid ((Below X.heap.size X V) ∧ (p.Lt a V X.heap.size ∧ GCh X.heap.size [p] V.heap.size) ∧ (Box V bp 26 #[.bool false, .slice none 0 0, .slice none 0 0, .bool false, .slice none 0 0, .slice none 0 0] ∧ X.heap.size ≤ bp) ∧ (Box V bs 24 #[.bool false, .slice none 0 0, .slice none 0 0] ∧ X.heap.size ≤ bs) ∧ (bp ≠ bs)) → wpAnyH Tryz.prog .any gc_region_ops (NoPanic Q) (fun V : World => Below X.heap.size X V) 6 listed { tmps := (List.toArray (t0 :: t1 :: t2 :: (.pointer (some ⟨ba, 0, none⟩)) :: (.pointer (some ⟨bb, 0, none⟩)) :: (.pointer (some ⟨br, 0, none⟩)) :: t6 :: (.pointer (some ⟨bp, 0, none⟩)) :: t8 :: (.pointer (some ⟨bs, 0, none⟩)) :: t10 :: t11 :: t12 :: t13 :: t14 :: t15 :: t16 :: t17 :: t18 :: t19 :: t20 :: t21 :: t22 :: t23 :: t24 :: t25 :: t26 :: t27 :: t28 :: t29 :: t30 :: t31 :: t32 :: t33 :: t34 :: t35 :: t36 :: t37 :: t38 :: t39 :: t40 :: t41 :: t42 :: t43 :: t44 :: t45 :: t46 :: t47 :: t48 :: t49 :: t50 :: (.agg #[.bool a.n, .slice a.a a.xs.length a.ca, .slice a.b a.ys.length a.cb, .bool a.m, .slice a.c a.us.length a.cc, .slice a.d a.vs.length a.cd]) :: (.agg #[.bool p.n, .slice p.a p.xs.length p.ca, .slice p.b p.ys.length p.cb, .bool p.m, .slice p.c p.us.length p.cc, .slice p.d p.vs.length p.cd]) :: (.agg #[.bool b.n, .slice b.a b.xs.length b.ca, .slice b.b b.ys.length b.cb, .bool b.m, .slice b.c b.us.length b.cc, .slice b.d b.vs.length b.cd]) :: t54 :: (.agg #[.bool r.n, .slice r.a r.xs.length r.ca, .slice r.b r.ys.length r.cb]) :: t56 :: rest)), defers := [] } V) := by
    rintro _ rfl V p bp bs HR
    refine wpAnyH_ready (rs := [3, 7]) (by kernel_rfl) (by simp) ?_
    refine AllReadyH.cons (o := { dst := some 54, op := Op.call { callee := Callee.value (Operand.func 6), args := #[Operand.tmp 53], argTypes := #[26] }, type := 26, pos := "law.go:33", after := #[{ on := 2, ground := Ground.data }, { on := 1, ground := Ground.chain }], guard := none }) rfl (fun K hK => ?_) ?_
    · go_simp
      refine Calls.mono (gcLent b V (HL.out V HR.out.1).2.1 (by have := HNb.out; omega) (by have := HNb.out; omega) (by have := HNb.out; omega) (by have := HNb.out; omega)) ?_
      rintro e V' ⟨q, rfl, o1, o2, hb⟩
      dsimp only
      have new : q.Lt b V' X.heap.size ∧ GCh X.heap.size [q, p] V'.heap.size := ⟨o1.out.base (HR.out.1).size, V.heap.size, V'.heap.size, o2.out, hb.size, Nat.le_refl _, (HR.out.2.1).2⟩
      have HB2 := hid (bt HR.out.1 hb)
      refine hK.out _ _ ?_ (fun hHeld => ?_)
      · exact HB2.out
      clear hK K
      try simp only [List.setIfInBounds_toArray, List.set_cons_zero, List.set_cons_succ]
      exact F_1_3_6_8.out _ (by kernel_rfl) _ p q bp bs (hid ⟨HB2.out, ⟨(HR.out.2.1).1.later hb, (HR.out.2.1).2.mono hb.size⟩, new, ⟨(HR.out.2.2.1).1.later hb (HR.out.2.2.1).1.lt, (HR.out.2.2.1).2⟩, ⟨(HR.out.2.2.2.1).1.later hb (HR.out.2.2.2.1).1.lt, (HR.out.2.2.2.1).2⟩, HR.out.2.2.2.2⟩)
    refine AllReadyH.cons (o := { dst := some 8, op := Op.alloc 26, type := 0, pos := "law.go:33", after := #[], guard := none }) rfl (fun K hK => ?_) ?_
    · go_simp
      have hb := alloc_later V (.cells #[.bool false, .slice none 0 0, .slice none 0 0, .bool false, .slice none 0 0, .slice none 0 0] 26)
      have new := And.intro (Box.made V 26 #[.bool false, .slice none 0 0, .slice none 0 0, .bool false, .slice none 0 0, .slice none 0 0]) (HR.out.1).size
      have HB2 := hid (bt HR.out.1 hb)
      refine hK.out _ _ ?_ (fun hHeld => ?_)
      · exact HB2.out
      clear hK K
      try simp only [List.setIfInBounds_toArray, List.set_cons_zero, List.set_cons_succ]
      exact F_1_6_7_8.out _ (by kernel_rfl) _ p bp V.heap.size bs (hid ⟨HB2.out, ⟨(HR.out.2.1).1.later hb, (HR.out.2.1).2.mono hb.size⟩, ⟨(HR.out.2.2.1).1.later hb (HR.out.2.2.1).1.lt, (HR.out.2.2.1).2⟩, new, ⟨(HR.out.2.2.2.1).1.later hb (HR.out.2.2.2.1).1.lt, (HR.out.2.2.2.1).2⟩, (by have := (HR.out.2.2.1).1.lt; omega), HR.out.2.2.2.2, (by have := (HR.out.2.2.2.1).1.lt; omega)⟩)
    exact AllReadyH.nil
  have F_1_7_8 : Hid (∀ listed, listed = #[true, true, true, false, true, false, false, true, true, false, false, false] → ∀ (V : World) (p : G6) (bq : Nat) (bs : Nat), Hid ((Below X.heap.size X V) ∧ (p.Lt a V X.heap.size ∧ GCh X.heap.size [p] V.heap.size) ∧ (Box V bq 26 #[.bool false, .slice none 0 0, .slice none 0 0, .bool false, .slice none 0 0, .slice none 0 0] ∧ X.heap.size ≤ bq) ∧ (Box V bs 24 #[.bool false, .slice none 0 0, .slice none 0 0] ∧ X.heap.size ≤ bs) ∧ (bq ≠ bs)) → wpAnyH Tryz.prog .any gc_region_ops (NoPanic Q) (fun V : World => Below X.heap.size X V) 6 listed { tmps := (List.toArray (t0 :: t1 :: t2 :: (.pointer (some ⟨ba, 0, none⟩)) :: (.pointer (some ⟨bb, 0, none⟩)) :: (.pointer (some ⟨br, 0, none⟩)) :: t6 :: t7 :: (.pointer (some ⟨bq, 0, none⟩)) :: (.pointer (some ⟨bs, 0, none⟩)) :: t10 :: t11 :: t12 :: t13 :: t14 :: t15 :: t16 :: t17 :: t18 :: t19 :: t20 :: t21 :: t22 :: t23 :: t24 :: t25 :: t26 :: t27 :: t28 :: t29 :: t30 :: t31 :: t32 :: t33 :: t34 :: t35 :: t36 :: t37 :: t38 :: t39 :: t40 :: t41 :: t42 :: t43 :: t44 :: t45 :: t46 :: t47 :: t48 :: t49 :: t50 :: (.agg #[.bool a.n, .slice a.a a.xs.length a.ca, .slice a.b a.ys.length a.cb, .bool a.m, .slice a.c a.us.length a.cc, .slice a.d a.vs.length a.cd]) :: (.agg #[.bool p.n, .slice p.a p.xs.length p.ca, .slice p.b p.ys.length p.cb, .bool p.m, .slice p.c p.us.length p.cc, .slice p.d p.vs.length p.cd]) :: (.agg #[.bool b.n, .slice b.a b.xs.length b.ca, .slice b.b b.ys.length b.cb, .bool b.m, .slice b.c b.us.length b.cc, .slice b.d b.vs.length b.cd]) :: t54 :: (.agg #[.bool r.n, .slice r.a r.xs.length r.ca, .slice r.b r.ys.length r.cb]) :: t56 :: rest)), defers := [] } V) := by
    rintro _ rfl V p bq bs HR
    refine wpAnyH_ready (rs := [3, 6]) (by kernel_rfl) (by simp) ?_
    refine AllReadyH.cons (o := { dst := some 54, op := Op.call { callee := Callee.value (Operand.func 6), args := #[Operand.tmp 53], argTypes := #[26] }, type := 26, pos := "law.go:33", after := #[{ on := 2, ground := Ground.data }, { on := 1, ground := Ground.chain }], guard := none }) rfl (fun K hK => ?_) ?_
    · go_simp
      refine Calls.mono (gcLent b V (HL.out V HR.out.1).2.1 (by have := HNb.out; omega) (by have := HNb.out; omega) (by have := HNb.out; omega) (by have := HNb.out; omega)) ?_
      rintro e V' ⟨q, rfl, o1, o2, hb⟩
      dsimp only
      have new : q.Lt b V' X.heap.size ∧ GCh X.heap.size [q, p] V'.heap.size := ⟨o1.out.base (HR.out.1).size, V.heap.size, V'.heap.size, o2.out, hb.size, Nat.le_refl _, (HR.out.2.1).2⟩
      have HB2 := hid (bt HR.out.1 hb)
      refine hK.out _ _ ?_ (fun hHeld => ?_)
      · exact HB2.out
      clear hK K
      try simp only [List.setIfInBounds_toArray, List.set_cons_zero, List.set_cons_succ]
      exact F_1_3_7_8.out _ (by kernel_rfl) _ p q bq bs (hid ⟨HB2.out, ⟨(HR.out.2.1).1.later hb, (HR.out.2.1).2.mono hb.size⟩, new, ⟨(HR.out.2.2.1).1.later hb (HR.out.2.2.1).1.lt, (HR.out.2.2.1).2⟩, ⟨(HR.out.2.2.2.1).1.later hb (HR.out.2.2.2.1).1.lt, (HR.out.2.2.2.1).2⟩, HR.out.2.2.2.2⟩)
    refine AllReadyH.cons (o := { dst := some 7, op := Op.alloc 26, type := 0, pos := "law.go:33", after := #[], guard := none }) rfl (fun K hK => ?_) ?_
    · go_simp
      have hb := alloc_later V (.cells #[.bool false, .slice none 0 0, .slice none 0 0, .bool false, .slice none 0 0, .slice none 0 0] 26)
      have new := And.intro (Box.made V 26 #[.bool false, .slice none 0 0, .slice none 0 0, .bool false, .slice none 0 0, .slice none 0 0]) (HR.out.1).size
      have HB2 := hid (bt HR.out.1 hb)
      refine hK.out _ _ ?_ (fun hHeld => ?_)
      · exact HB2.out
      clear hK K
      try simp only [List.setIfInBounds_toArray, List.set_cons_zero, List.set_cons_succ]
      exact F_1_6_7_8.out _ (by kernel_rfl) _ p V.heap.size bq bs (hid ⟨HB2.out, ⟨(HR.out.2.1).1.later hb, (HR.out.2.1).2.mono hb.size⟩, new, ⟨(HR.out.2.2.1).1.later hb (HR.out.2.2.1).1.lt, (HR.out.2.2.1).2⟩, ⟨(HR.out.2.2.2.1).1.later hb (HR.out.2.2.2.1).1.lt, (HR.out.2.2.2.1).2⟩, (by have := (HR.out.2.2.1).1.lt; omega), (by have := (HR.out.2.2.2.1).1.lt; omega), HR.out.2.2.2.2⟩)
    exact AllReadyH.nil
  have F_6_7_8 : Hid (∀ listed, listed = #[true, false, true, false, true, false, true, true, true, false, false, false] → ∀ (V : World) (bp : Nat) (bq : Nat) (bs : Nat), Hid ((Below X.heap.size X V) ∧ (Box V bp 26 #[.bool false, .slice none 0 0, .slice none 0 0, .bool false, .slice none 0 0, .slice none 0 0] ∧ X.heap.size ≤ bp) ∧ (Box V bq 26 #[.bool false, .slice none 0 0, .slice none 0 0, .bool false, .slice none 0 0, .slice none 0 0] ∧ X.heap.size ≤ bq) ∧ (Box V bs 24 #[.bool false, .slice none 0 0, .slice none 0 0] ∧ X.heap.size ≤ bs) ∧ (bp ≠ bq) ∧ (bp ≠ bs) ∧ (bq ≠ bs)) → wpAnyH Tryz.prog .any gc_region_ops (NoPanic Q) (fun V : World => Below X.heap.size X V) 6 listed { tmps := (List.toArray (t0 :: t1 :: t2 :: (.pointer (some ⟨ba, 0, none⟩)) :: (.pointer (some ⟨bb, 0, none⟩)) :: (.pointer (some ⟨br, 0, none⟩)) :: t6 :: (.pointer (some ⟨bp, 0, none⟩)) :: (.pointer (some ⟨bq, 0, none⟩)) :: (.pointer (some ⟨bs, 0, none⟩)) :: t10 :: t11 :: t12 :: t13 :: t14 :: t15 :: t16 :: t17 :: t18 :: t19 :: t20 :: t21 :: t22 :: t23 :: t24 :: t25 :: t26 :: t27 :: t28 :: t29 :: t30 :: t31 :: t32 :: t33 :: t34 :: t35 :: t36 :: t37 :: t38 :: t39 :: t40 :: t41 :: t42 :: t43 :: t44 :: t45 :: t46 :: t47 :: t48 :: t49 :: t50 :: (.agg #[.bool a.n, .slice a.a a.xs.length a.ca, .slice a.b a.ys.length a.cb, .bool a.m, .slice a.c a.us.length a.cc, .slice a.d a.vs.length a.cd]) :: t52 :: (.agg #[.bool b.n, .slice b.a b.xs.length b.ca, .slice b.b b.ys.length b.cb, .bool b.m, .slice b.c b.us.length b.cc, .slice b.d b.vs.length b.cd]) :: t54 :: (.agg #[.bool r.n, .slice r.a r.xs.length r.ca, .slice r.b r.ys.length r.cb]) :: t56 :: rest)), defers := [] } V) := by
    rintro _ rfl V bp bq bs HR
    refine wpAnyH_ready (rs := [1]) (by kernel_rfl) (by simp) ?_
    refine AllReadyH.cons (o := { dst := some 52, op := Op.call { callee := Callee.value (Operand.func 6), args := #[Operand.tmp 51], argTypes := #[26] }, type := 26, pos := "law.go:33", after := #[{ on := 0, ground := Ground.data }], guard := none }) rfl (fun K hK => ?_) ?_
    · go_simp
      refine Calls.mono (gcLent a V (HL.out V HR.out.1).1 (by have := HNa.out; omega) (by have := HNa.out; omega) (by have := HNa.out; omega) (by have := HNa.out; omega)) ?_
      rintro e V' ⟨p, rfl, o1, o2, hb⟩
      dsimp only
      have new : p.Lt a V' X.heap.size ∧ GCh X.heap.size [p] V'.heap.size := ⟨o1.out.base (HR.out.1).size, V.heap.size, V'.heap.size, o2.out, hb.size, Nat.le_refl _, (HR.out.1).size⟩
      have HB2 := hid (bt HR.out.1 hb)
      refine hK.out _ _ ?_ (fun hHeld => ?_)
      · exact HB2.out
      clear hK K
      try simp only [List.setIfInBounds_toArray, List.set_cons_zero, List.set_cons_succ]
      exact F_1_6_7_8.out _ (by kernel_rfl) _ p bp bq bs (hid ⟨HB2.out, new, ⟨(HR.out.2.1).1.later hb (HR.out.2.1).1.lt, (HR.out.2.1).2⟩, ⟨(HR.out.2.2.1).1.later hb (HR.out.2.2.1).1.lt, (HR.out.2.2.1).2⟩, ⟨(HR.out.2.2.2.1).1.later hb (HR.out.2.2.2.1).1.lt, (HR.out.2.2.2.1).2⟩, HR.out.2.2.2.2.1, HR.out.2.2.2.2.2.1, HR.out.2.2.2.2.2.2⟩)
    exact AllReadyH.nil
  have F_1_3 : Hid (∀ listed, listed = #[true, true, true, true, true, false, false, false, false, false, false, false] → ∀ (V : World) (p : G6) (q : G6), Hid ((Below X.heap.size X V) ∧ (p.Lt a V X.heap.size ∧ GCh X.heap.size [p] V.heap.size) ∧ (q.Lt b V X.heap.size ∧ GCh X.heap.size [q, p] V.heap.size)) → wpAnyH Tryz.prog .any gc_region_ops (NoPanic Q) (fun V : World => Below X.heap.size X V) 7 listed { tmps := (List.toArray (t0 :: t1 :: t2 :: (.pointer (some ⟨ba, 0, none⟩)) :: (.pointer (some ⟨bb, 0, none⟩)) :: (.pointer (some ⟨br, 0, none⟩)) :: t6 :: t7 :: t8 :: t9 :: t10 :: t11 :: t12 :: t13 :: t14 :: t15 :: t16 :: t17 :: t18 :: t19 :: t20 :: t21 :: t22 :: t23 :: t24 :: t25 :: t26 :: t27 :: t28 :: t29 :: t30 :: t31 :: t32 :: t33 :: t34 :: t35 :: t36 :: t37 :: t38 :: t39 :: t40 :: t41 :: t42 :: t43 :: t44 :: t45 :: t46 :: t47 :: t48 :: t49 :: t50 :: (.agg #[.bool a.n, .slice a.a a.xs.length a.ca, .slice a.b a.ys.length a.cb, .bool a.m, .slice a.c a.us.length a.cc, .slice a.d a.vs.length a.cd]) :: (.agg #[.bool p.n, .slice p.a p.xs.length p.ca, .slice p.b p.ys.length p.cb, .bool p.m, .slice p.c p.us.length p.cc, .slice p.d p.vs.length p.cd]) :: (.agg #[.bool b.n, .slice b.a b.xs.length b.ca, .slice b.b b.ys.length b.cb, .bool b.m, .slice b.c b.us.length b.cc, .slice b.d b.vs.length b.cd]) :: (.agg #[.bool q.n, .slice q.a q.xs.length q.ca, .slice q.b q.ys.length q.cb, .bool q.m, .slice q.c q.us.length q.cc, .slice q.d q.vs.length q.cd]) :: (.agg #[.bool r.n, .slice r.a r.xs.length r.ca, .slice r.b r.ys.length r.cb]) :: t56 :: rest)), defers := [] } V) := by
    rintro _ rfl V p q HR
    refine wpAnyH_ready (rs := [5, 6, 7, 8]) (by kernel_rfl) (by simp) ?_
    refine AllReadyH.cons (o := { dst := some 56, op := Op.call { callee := Callee.value (Operand.func 7), args := #[Operand.tmp 55], argTypes := #[24] }, type := 24, pos := "law.go:33", after := #[{ on := 4, ground := Ground.data }, { on := 3, ground := Ground.chain }], guard := none }) rfl (fun K hK => ?_) ?_
    · go_simp
      refine Calls.mono (gcLentR r V (HL.out V HR.out.1).2.2 (by have := HNr.out; omega) (by have := HNr.out; omega)) ?_
      rintro e V' ⟨s, rfl, o1, hb⟩
      dsimp only
      have new : s.Lt r V' X.heap.size := o1.out.base (HR.out.1).size
      have HB2 := hid (bt HR.out.1 hb)
      refine hK.out _ _ ?_ (fun hHeld => ?_)
      · exact HB2.out
      clear hK K
      try simp only [List.setIfInBounds_toArray, List.set_cons_zero, List.set_cons_succ]
      exact F_1_3_5.out _ (by kernel_rfl) _ p q s (hid ⟨HB2.out, ⟨(HR.out.2.1).1.later hb, (HR.out.2.1).2.mono hb.size⟩, ⟨(HR.out.2.2).1.later hb, (HR.out.2.2).2.mono hb.size⟩, new⟩)
    refine AllReadyH.cons (o := { dst := some 7, op := Op.alloc 26, type := 0, pos := "law.go:33", after := #[], guard := none }) rfl (fun K hK => ?_) ?_
    · go_simp
      have hb := alloc_later V (.cells #[.bool false, .slice none 0 0, .slice none 0 0, .bool false, .slice none 0 0, .slice none 0 0] 26)
      have new := And.intro (Box.made V 26 #[.bool false, .slice none 0 0, .slice none 0 0, .bool false, .slice none 0 0, .slice none 0 0]) (HR.out.1).size
      have HB2 := hid (bt HR.out.1 hb)
      refine hK.out _ _ ?_ (fun hHeld => ?_)
      · exact HB2.out
      clear hK K
      try simp only [List.setIfInBounds_toArray, List.set_cons_zero, List.set_cons_succ]
      exact F_1_3_6.out _ (by kernel_rfl) _ p q V.heap.size (hid ⟨HB2.out, ⟨(HR.out.2.1).1.later hb, (HR.out.2.1).2.mono hb.size⟩, ⟨(HR.out.2.2).1.later hb, (HR.out.2.2).2.mono hb.size⟩, new⟩)
    refine AllReadyH.cons (o := { dst := some 8, op := Op.alloc 26, type := 0, pos := "law.go:33", after := #[], guard := none }) rfl (fun K hK => ?_) ?_
    · go_simp
      have hb := alloc_later V (.cells #[.bool false, .slice none 0 0, .slice none 0 0, .bool false, .slice none 0 0, .slice none 0 0] 26)
      have new := And.intro (Box.made V 26 #[.bool false, .slice none 0 0, .slice none 0 0, .bool false, .slice none 0 0, .slice none 0 0]) (HR.out.1).size
      have HB2 := hid (bt HR.out.1 hb)
      refine hK.out _ _ ?_ (fun hHeld => ?_)
      · exact HB2.out
      clear hK K
      try simp only [List.setIfInBounds_toArray, List.set_cons_zero, List.set_cons_succ]
      exact F_1_3_7.out _ (by kernel_rfl) _ p q V.heap.size (hid ⟨HB2.out, ⟨(HR.out.2.1).1.later hb, (HR.out.2.1).2.mono hb.size⟩, ⟨(HR.out.2.2).1.later hb, (HR.out.2.2).2.mono hb.size⟩, new⟩)
    refine AllReadyH.cons (o := { dst := some 9, op := Op.alloc 24, type := 0, pos := "law.go:33", after := #[], guard := none }) rfl (fun K hK => ?_) ?_
    · go_simp
      have hb := alloc_later V (.cells #[.bool false, .slice none 0 0, .slice none 0 0] 24)
      have new := And.intro (Box.made V 24 #[.bool false, .slice none 0 0, .slice none 0 0]) (HR.out.1).size
      have HB2 := hid (bt HR.out.1 hb)
      refine hK.out _ _ ?_ (fun hHeld => ?_)
      · exact HB2.out
      clear hK K
      try simp only [List.setIfInBounds_toArray, List.set_cons_zero, List.set_cons_succ]
      exact F_1_3_8.out _ (by kernel_rfl) _ p q V.heap.size (hid ⟨HB2.out, ⟨(HR.out.2.1).1.later hb, (HR.out.2.1).2.mono hb.size⟩, ⟨(HR.out.2.2).1.later hb, (HR.out.2.2).2.mono hb.size⟩, new⟩)
    exact AllReadyH.nil
  have F_1_6 : Hid (∀ listed, listed = #[true, true, true, false, true, false, true, false, false, false, false, false] → ∀ (V : World) (p : G6) (bp : Nat), Hid ((Below X.heap.size X V) ∧ (p.Lt a V X.heap.size ∧ GCh X.heap.size [p] V.heap.size) ∧ (Box V bp 26 #[.bool false, .slice none 0 0, .slice none 0 0, .bool false, .slice none 0 0, .slice none 0 0] ∧ X.heap.size ≤ bp)) → wpAnyH Tryz.prog .any gc_region_ops (NoPanic Q) (fun V : World => Below X.heap.size X V) 7 listed { tmps := (List.toArray (t0 :: t1 :: t2 :: (.pointer (some ⟨ba, 0, none⟩)) :: (.pointer (some ⟨bb, 0, none⟩)) :: (.pointer (some ⟨br, 0, none⟩)) :: t6 :: (.pointer (some ⟨bp, 0, none⟩)) :: t8 :: t9 :: t10 :: t11 :: t12 :: t13 :: t14 :: t15 :: t16 :: t17 :: t18 :: t19 :: t20 :: t21 :: t22 :: t23 :: t24 :: t25 :: t26 :: t27 :: t28 :: t29 :: t30 :: t31 :: t32 :: t33 :: t34 :: t35 :: t36 :: t37 :: t38 :: t39 :: t40 :: t41 :: t42 :: t43 :: t44 :: t45 :: t46 :: t47 :: t48 :: t49 :: t50 :: (.agg #[.bool a.n, .slice a.a a.xs.length a.ca, .slice a.b a.ys.length a.cb, .bool a.m, .slice a.c a.us.length a.cc, .slice a.d a.vs.length a.cd]) :: (.agg #[.bool p.n, .slice p.a p.xs.length p.ca, .slice p.b p.ys.length p.cb, .bool p.m, .slice p.c p.us.length p.cc, .slice p.d p.vs.length p.cd]) :: (.agg #[.bool b.n, .slice b.a b.xs.length b.ca, .slice b.b b.ys.length b.cb, .bool b.m, .slice b.c b.us.length b.cc, .slice b.d b.vs.length b.cd]) :: t54 :: (.agg #[.bool r.n, .slice r.a r.xs.length r.ca, .slice r.b r.ys.length r.cb]) :: t56 :: rest)), defers := [] } V) := by
    rintro _ rfl V p bp HR
    refine wpAnyH_ready (rs := [3, 7, 8]) (by kernel_rfl) (by simp) ?_
    refine AllReadyH.cons (o := { dst := some 54, op := Op.call { callee := Callee.value (Operand.func 6), args := #[Operand.tmp 53], argTypes := #[26] }, type := 26, pos := "law.go:33", after := #[{ on := 2, ground := Ground.data }, { on := 1, ground := Ground.chain }], guard := none }) rfl (fun K hK => ?_) ?_
    · go_simp
      refine Calls.mono (gcLent b V (HL.out V HR.out.1).2.1 (by have := HNb.out; omega) (by have := HNb.out; omega) (by have := HNb.out; omega) (by have := HNb.out; omega)) ?_
      rintro e V' ⟨q, rfl, o1, o2, hb⟩
      dsimp only
      have new : q.Lt b V' X.heap.size ∧ GCh X.heap.size [q, p] V'.heap.size := ⟨o1.out.base (HR.out.1).size, V.heap.size, V'.heap.size, o2.out, hb.size, Nat.le_refl _, (HR.out.2.1).2⟩
      have HB2 := hid (bt HR.out.1 hb)
      refine hK.out _ _ ?_ (fun hHeld => ?_)
      · exact HB2.out
      clear hK K
      try simp only [List.setIfInBounds_toArray, List.set_cons_zero, List.set_cons_succ]
      exact F_1_3_6.out _ (by kernel_rfl) _ p q bp (hid ⟨HB2.out, ⟨(HR.out.2.1).1.later hb, (HR.out.2.1).2.mono hb.size⟩, new, ⟨(HR.out.2.2).1.later hb (HR.out.2.2).1.lt, (HR.out.2.2).2⟩⟩)
    refine AllReadyH.cons (o := { dst := some 8, op := Op.alloc 26, type := 0, pos := "law.go:33", after := #[], guard := none }) rfl (fun K hK => ?_) ?_
    · go_simp
      have hb := alloc_later V (.cells #[.bool false, .slice none 0 0, .slice none 0 0, .bool false, .slice none 0 0, .slice none 0 0] 26)
      have new := And.intro (Box.made V 26 #[.bool false, .slice none 0 0, .slice none 0 0, .bool false, .slice none 0 0, .slice none 0 0]) (HR.out.1).size
      have HB2 := hid (bt HR.out.1 hb)
      refine hK.out _ _ ?_ (fun hHeld => ?_)
      · exact HB2.out
      clear hK K
      try simp only [List.setIfInBounds_toArray, List.set_cons_zero, List.set_cons_succ]
      exact F_1_6_7.out _ (by kernel_rfl) _ p bp V.heap.size (hid ⟨HB2.out, ⟨(HR.out.2.1).1.later hb, (HR.out.2.1).2.mono hb.size⟩, ⟨(HR.out.2.2).1.later hb (HR.out.2.2).1.lt, (HR.out.2.2).2⟩, new, (by have := (HR.out.2.2).1.lt; omega)⟩)
    refine AllReadyH.cons (o := { dst := some 9, op := Op.alloc 24, type := 0, pos := "law.go:33", after := #[], guard := none }) rfl (fun K hK => ?_) ?_
    · go_simp
      have hb := alloc_later V (.cells #[.bool false, .slice none 0 0, .slice none 0 0] 24)
      have new := And.intro (Box.made V 24 #[.bool false, .slice none 0 0, .slice none 0 0]) (HR.out.1).size
      have HB2 := hid (bt HR.out.1 hb)
      refine hK.out _ _ ?_ (fun hHeld => ?_)
      · exact HB2.out
      clear hK K
      try simp only [List.setIfInBounds_toArray, List.set_cons_zero, List.set_cons_succ]
      exact F_1_6_8.out _ (by kernel_rfl) _ p bp V.heap.size (hid ⟨HB2.out, ⟨(HR.out.2.1).1.later hb, (HR.out.2.1).2.mono hb.size⟩, ⟨(HR.out.2.2).1.later hb (HR.out.2.2).1.lt, (HR.out.2.2).2⟩, new, (by have := (HR.out.2.2).1.lt; omega)⟩)
    exact AllReadyH.nil
  have F_1_7 : Hid (∀ listed, listed = #[true, true, true, false, true, false, false, true, false, false, false, false] → ∀ (V : World) (p : G6) (bq : Nat), Hid ((Below X.heap.size X V) ∧ (p.Lt a V X.heap.size ∧ GCh X.heap.size [p] V.heap.size) ∧ (Box V bq 26 #[.bool false, .slice none 0 0, .slice none 0 0, .bool false, .slice none 0 0, .slice none 0 0] ∧ X.heap.size ≤ bq)) → wpAnyH Tryz.prog .any gc_region_ops (NoPanic Q) (fun V : World => Below X.heap.size X V) 7 listed { tmps := (List.toArray (t0 :: t1 :: t2 :: (.pointer (some ⟨ba, 0, none⟩)) :: (.pointer (some ⟨bb, 0, none⟩)) :: (.pointer (some ⟨br, 0, none⟩)) :: t6 :: t7 :: (.pointer (some ⟨bq, 0, none⟩)) :: t9 :: t10 :: t11 :: t12 :: t13 :: t14 :: t15 :: t16 :: t17 :: t18 :: t19 :: t20 :: t21 :: t22 :: t23 :: t24 :: t25 :: t26 :: t27 :: t28 :: t29 :: t30 :: t31 :: t32 :: t33 :: t34 :: t35 :: t36 :: t37 :: t38 :: t39 :: t40 :: t41 :: t42 :: t43 :: t44 :: t45 :: t46 :: t47 :: t48 :: t49 :: t50 :: (.agg #[.bool a.n, .slice a.a a.xs.length a.ca, .slice a.b a.ys.length a.cb, .bool a.m, .slice a.c a.us.length a.cc, .slice a.d a.vs.length a.cd]) :: (.agg #[.bool p.n, .slice p.a p.xs.length p.ca, .slice p.b p.ys.length p.cb, .bool p.m, .slice p.c p.us.length p.cc, .slice p.d p.vs.length p.cd]) :: (.agg #[.bool b.n, .slice b.a b.xs.length b.ca, .slice b.b b.ys.length b.cb, .bool b.m, .slice b.c b.us.length b.cc, .slice b.d b.vs.length b.cd]) :: t54 :: (.agg #[.bool r.n, .slice r.a r.xs.length r.ca, .slice r.b r.ys.length r.cb]) :: t56 :: rest)), defers := [] } V) := by
    rintro _ rfl V p bq HR
    refine wpAnyH_ready (rs := [3, 6, 8]) (by kernel_rfl) (by simp) ?_
    refine AllReadyH.cons (o := { dst := some 54, op := Op.call { callee := Callee.value (Operand.func 6), args := #[Operand.tmp 53], argTypes := #[26] }, type := 26, pos := "law.go:33", after := #[{ on := 2, ground := Ground.data }, { on := 1, ground := Ground.chain }], guard := none }) rfl (fun K hK => ?_) ?_
    · go_simp
      refine Calls.mono (gcLent b V (HL.out V HR.out.1).2.1 (by have := HNb.out; omega) (by have := HNb.out; omega) (by have := HNb.out; omega) (by have := HNb.out; omega)) ?_
      rintro e V' ⟨q, rfl, o1, o2, hb⟩
      dsimp only
      have new : q.Lt b V' X.heap.size ∧ GCh X.heap.size [q, p] V'.heap.size := ⟨o1.out.base (HR.out.1).size, V.heap.size, V'.heap.size, o2.out, hb.size, Nat.le_refl _, (HR.out.2.1).2⟩
      have HB2 := hid (bt HR.out.1 hb)
      refine hK.out _ _ ?_ (fun hHeld => ?_)
      · exact HB2.out
      clear hK K
      try simp only [List.setIfInBounds_toArray, List.set_cons_zero, List.set_cons_succ]
      exact F_1_3_7.out _ (by kernel_rfl) _ p q bq (hid ⟨HB2.out, ⟨(HR.out.2.1).1.later hb, (HR.out.2.1).2.mono hb.size⟩, new, ⟨(HR.out.2.2).1.later hb (HR.out.2.2).1.lt, (HR.out.2.2).2⟩⟩)
    refine AllReadyH.cons (o := { dst := some 7, op := Op.alloc 26, type := 0, pos := "law.go:33", after := #[], guard := none }) rfl (fun K hK => ?_) ?_
    · go_simp
      have hb := alloc_later V (.cells #[.bool false, .slice none 0 0, .slice none 0 0, .bool false, .slice none 0 0, .slice none 0 0] 26)
      have new := And.intro (Box.made V 26 #[.bool false, .slice none 0 0, .slice none 0 0, .bool false, .slice none 0 0, .slice none 0 0]) (HR.out.1).size
      have HB2 := hid (bt HR.out.1 hb)
      refine hK.out _ _ ?_ (fun hHeld => ?_)
      · exact HB2.out
      clear hK K
      try simp only [List.setIfInBounds_toArray, List.set_cons_zero, List.set_cons_succ]
      exact F_1_6_7.out _ (by kernel_rfl) _ p V.heap.size bq (hid ⟨HB2.out, ⟨(HR.out.2.1).1.later hb, (HR.out.2.1).2.mono hb.size⟩, new, ⟨(HR.out.2.2).1.later hb (HR.out.2.2).1.lt, (HR.out.2.2).2⟩, (by have := (HR.out.2.2).1.lt; omega)⟩)
    refine AllReadyH.cons (o := { dst := some 9, op := Op.alloc 24, type := 0, pos := "law.go:33", after := #[], guard := none }) rfl (fun K hK => ?_) ?_
    · go_simp
      have hb := alloc_later V (.cells #[.bool false, .slice none 0 0, .slice none 0 0] 24)
      have new := And.intro (Box.made V 24 #[.bool false, .slice none 0 0, .slice none 0 0]) (HR.out.1).size
      have HB2 := hid (bt HR.out.1 hb)
      refine hK.out _ _ ?_ (fun hHeld => ?_)
      · exact HB2.out
      clear hK K
      try simp only [List.setIfInBounds_toArray, List.set_cons_zero, List.set_cons_succ]
      exact F_1_7_8.out _ (by kernel_rfl) _ p bq V.heap.size (hid ⟨HB2.out, ⟨(HR.out.2.1).1.later hb, (HR.out.2.1).2.mono hb.size⟩, ⟨(HR.out.2.2).1.later hb (HR.out.2.2).1.lt, (HR.out.2.2).2⟩, new, (by have := (HR.out.2.2).1.lt; omega)⟩)
    exact AllReadyH.nil
  have F_1_8 : Hid (∀ listed, listed = #[true, true, true, false, true, false, false, false, true, false, false, false] → ∀ (V : World) (p : G6) (bs : Nat), Hid ((Below X.heap.size X V) ∧ (p.Lt a V X.heap.size ∧ GCh X.heap.size [p] V.heap.size) ∧ (Box V bs 24 #[.bool false, .slice none 0 0, .slice none 0 0] ∧ X.heap.size ≤ bs)) → wpAnyH Tryz.prog .any gc_region_ops (NoPanic Q) (fun V : World => Below X.heap.size X V) 7 listed { tmps := (List.toArray (t0 :: t1 :: t2 :: (.pointer (some ⟨ba, 0, none⟩)) :: (.pointer (some ⟨bb, 0, none⟩)) :: (.pointer (some ⟨br, 0, none⟩)) :: t6 :: t7 :: t8 :: (.pointer (some ⟨bs, 0, none⟩)) :: t10 :: t11 :: t12 :: t13 :: t14 :: t15 :: t16 :: t17 :: t18 :: t19 :: t20 :: t21 :: t22 :: t23 :: t24 :: t25 :: t26 :: t27 :: t28 :: t29 :: t30 :: t31 :: t32 :: t33 :: t34 :: t35 :: t36 :: t37 :: t38 :: t39 :: t40 :: t41 :: t42 :: t43 :: t44 :: t45 :: t46 :: t47 :: t48 :: t49 :: t50 :: (.agg #[.bool a.n, .slice a.a a.xs.length a.ca, .slice a.b a.ys.length a.cb, .bool a.m, .slice a.c a.us.length a.cc, .slice a.d a.vs.length a.cd]) :: (.agg #[.bool p.n, .slice p.a p.xs.length p.ca, .slice p.b p.ys.length p.cb, .bool p.m, .slice p.c p.us.length p.cc, .slice p.d p.vs.length p.cd]) :: (.agg #[.bool b.n, .slice b.a b.xs.length b.ca, .slice b.b b.ys.length b.cb, .bool b.m, .slice b.c b.us.length b.cc, .slice b.d b.vs.length b.cd]) :: t54 :: (.agg #[.bool r.n, .slice r.a r.xs.length r.ca, .slice r.b r.ys.length r.cb]) :: t56 :: rest)), defers := [] } V) := by
    rintro _ rfl V p bs HR
    refine wpAnyH_ready (rs := [3, 6, 7]) (by kernel_rfl) (by simp) ?_
    refine AllReadyH.cons (o := { dst := some 54, op := Op.call { callee := Callee.value (Operand.func 6), args := #[Operand.tmp 53], argTypes := #[26] }, type := 26, pos := "law.go:33", after := #[{ on := 2, ground := Ground.data }, { on := 1, ground := Ground.chain }], guard := none }) rfl (fun K hK => ?_) ?_
    · go_simp
      refine Calls.mono (gcLent b V (HL.out V HR.out.1).2.1 (by have := HNb.out; omega) (by have := HNb.out; omega) (by have := HNb.out; omega) (by have := HNb.out; omega)) ?_
      rintro e V' ⟨q, rfl, o1, o2, hb⟩
      dsimp only
      have new : q.Lt b V' X.heap.size ∧ GCh X.heap.size [q, p] V'.heap.size := ⟨o1.out.base (HR.out.1).size, V.heap.size, V'.heap.size, o2.out, hb.size, Nat.le_refl _, (HR.out.2.1).2⟩
      have HB2 := hid (bt HR.out.1 hb)
      refine hK.out _ _ ?_ (fun hHeld => ?_)
      · exact HB2.out
      clear hK K
      try simp only [List.setIfInBounds_toArray, List.set_cons_zero, List.set_cons_succ]
      exact F_1_3_8.out _ (by kernel_rfl) _ p q bs (hid ⟨HB2.out, ⟨(HR.out.2.1).1.later hb, (HR.out.2.1).2.mono hb.size⟩, new, ⟨(HR.out.2.2).1.later hb (HR.out.2.2).1.lt, (HR.out.2.2).2⟩⟩)
    refine AllReadyH.cons (o := { dst := some 7, op := Op.alloc 26, type := 0, pos := "law.go:33", after := #[], guard := none }) rfl (fun K hK => ?_) ?_
    · go_simp
      have hb := alloc_later V (.cells #[.bool false, .slice none 0 0, .slice none 0 0, .bool false, .slice none 0 0, .slice none 0 0] 26)
      have new := And.intro (Box.made V 26 #[.bool false, .slice none 0 0, .slice none 0 0, .bool false, .slice none 0 0, .slice none 0 0]) (HR.out.1).size
      have HB2 := hid (bt HR.out.1 hb)
      refine hK.out _ _ ?_ (fun hHeld => ?_)
      · exact HB2.out
      clear hK K
      try simp only [List.setIfInBounds_toArray, List.set_cons_zero, List.set_cons_succ]
      exact F_1_6_8.out _ (by kernel_rfl) _ p V.heap.size bs (hid ⟨HB2.out, ⟨(HR.out.2.1).1.later hb, (HR.out.2.1).2.mono hb.size⟩, new, ⟨(HR.out.2.2).1.later hb (HR.out.2.2).1.lt, (HR.out.2.2).2⟩, (by have := (HR.out.2.2).1.lt; omega)⟩)
    refine AllReadyH.cons (o := { dst := some 8, op := Op.alloc 26, type := 0, pos := "law.go:33", after := #[], guard := none }) rfl (fun K hK => ?_) ?_
    · go_simp
      have hb := alloc_later V (.cells #[.bool false, .slice none 0 0, .slice none 0 0, .bool false, .slice none 0 0, .slice none 0 0] 26)
      have new := And.intro (Box.made V 26 #[.bool false, .slice none 0 0, .slice none 0 0, .bool false, .slice none 0 0, .slice none 0 0]) (HR.out.1).size
      have HB2 := hid (bt HR.out.1 hb)
      refine hK.out _ _ ?_ (fun hHeld => ?_)
      · exact HB2.out
      clear hK K
      try simp only [List.setIfInBounds_toArray, List.set_cons_zero, List.set_cons_succ]
      exact F_1_7_8.out _ (by kernel_rfl) _ p V.heap.size bs (hid ⟨HB2.out, ⟨(HR.out.2.1).1.later hb, (HR.out.2.1).2.mono hb.size⟩, new, ⟨(HR.out.2.2).1.later hb (HR.out.2.2).1.lt, (HR.out.2.2).2⟩, (by have := (HR.out.2.2).1.lt; omega)⟩)
    exact AllReadyH.nil
  have F_6_7 : Hid (∀ listed, listed = #[true, false, true, false, true, false, true, true, false, false, false, false] → ∀ (V : World) (bp : Nat) (bq : Nat), Hid ((Below X.heap.size X V) ∧ (Box V bp 26 #[.bool false, .slice none 0 0, .slice none 0 0, .bool false, .slice none 0 0, .slice none 0 0] ∧ X.heap.size ≤ bp) ∧ (Box V bq 26 #[.bool false, .slice none 0 0, .slice none 0 0, .bool false, .slice none 0 0, .slice none 0 0] ∧ X.heap.size ≤ bq) ∧ (bp ≠ bq)) → wpAnyH Tryz.prog .any gc_region_ops (NoPanic Q) (fun V : World => Below X.heap.size X V) 7 listed { tmps := (List.toArray (t0 :: t1 :: t2 :: (.pointer (some ⟨ba, 0, none⟩)) :: (.pointer (some ⟨bb, 0, none⟩)) :: (.pointer (some ⟨br, 0, none⟩)) :: t6 :: (.pointer (some ⟨bp, 0, none⟩)) :: (.pointer (some ⟨bq, 0, none⟩)) :: t9 :: t10 :: t11 :: t12 :: t13 :: t14 :: t15 :: t16 :: t17 :: t18 :: t19 :: t20 :: t21 :: t22 :: t23 :: t24 :: t25 :: t26 :: t27 :: t28 :: t29 :: t30 :: t31 :: t32 :: t33 :: t34 :: t35 :: t36 :: t37 :: t38 :: t39 :: t40 :: t41 :: t42 :: t43 :: t44 :: t45 :: t46 :: t47 :: t48 :: t49 :: t50 :: (.agg #[.bool a.n, .slice a.a a.xs.length a.ca, .slice a.b a.ys.length a.cb, .bool a.m, .slice a.c a.us.length a.cc, .slice a.d a.vs.length a.cd]) :: t52 :: (.agg #[.bool b.n, .slice b.a b.xs.length b.ca, .slice b.b b.ys.length b.cb, .bool b.m, .slice b.c b.us.length b.cc, .slice b.d b.vs.length b.cd]) :: t54 :: (.agg #[.bool r.n, .slice r.a r.xs.length r.ca, .slice r.b r.ys.length r.cb]) :: t56 :: rest)), defers := [] } V) := by
    rintro _ rfl V bp bq HR
    refine wpAnyH_ready (rs := [1, 8]) (by kernel_rfl) (by simp) ?_
    refine AllReadyH.cons (o := { dst := some 52, op := Op.call { callee := Callee.value (Operand.func 6), args := #[Operand.tmp 51], argTypes := #[26] }, type := 26, pos := "law.go:33", after := #[{ on := 0, ground := Ground.data }], guard := none }) rfl (fun K hK => ?_) ?_
    · go_simp
      refine Calls.mono (gcLent a V (HL.out V HR.out.1).1 (by have := HNa.out; omega) (by have := HNa.out; omega) (by have := HNa.out; omega) (by have := HNa.out; omega)) ?_
      rintro e V' ⟨p, rfl, o1, o2, hb⟩
      dsimp only
      have new : p.Lt a V' X.heap.size ∧ GCh X.heap.size [p] V'.heap.size := ⟨o1.out.base (HR.out.1).size, V.heap.size, V'.heap.size, o2.out, hb.size, Nat.le_refl _, (HR.out.1).size⟩
      have HB2 := hid (bt HR.out.1 hb)
      refine hK.out _ _ ?_ (fun hHeld => ?_)
      · exact HB2.out
      clear hK K
      try simp only [List.setIfInBounds_toArray, List.set_cons_zero, List.set_cons_succ]
      exact F_1_6_7.out _ (by kernel_rfl) _ p bp bq (hid ⟨HB2.out, new, ⟨(HR.out.2.1).1.later hb (HR.out.2.1).1.lt, (HR.out.2.1).2⟩, ⟨(HR.out.2.2.1).1.later hb (HR.out.2.2.1).1.lt, (HR.out.2.2.1).2⟩, HR.out.2.2.2⟩)
    refine AllReadyH.cons (o := { dst := some 9, op := Op.alloc 24, type := 0, pos := "law.go:33", after := #[], guard := none }) rfl (fun K hK => ?_) ?_
    · go_simp
      have hb := alloc_later V (.cells #[.bool false, .slice none 0 0, .slice none 0 0] 24)
      have new := And.intro (Box.made V 24 #[.bool false, .slice none 0 0, .slice none 0 0]) (HR.out.1).size
      have HB2 := hid (bt HR.out.1 hb)
      refine hK.out _ _ ?_ (fun hHeld => ?_)
      · exact HB2.out
      clear hK K
      try simp only [List.setIfInBounds_toArray, List.set_cons_zero, List.set_cons_succ]
      exact F_6_7_8.out _ (by kernel_rfl) _ bp bq V.heap.size (hid ⟨HB2.out, ⟨(HR.out.2.1).1.later hb (HR.out.2.1).1.lt, (HR.out.2.1).2⟩, ⟨(HR.out.2.2.1).1.later hb (HR.out.2.2.1).1.lt, (HR.out.2.2.1).2⟩, new, HR.out.2.2.2, (by have := (HR.out.2.1).1.lt; omega), (by have := (HR.out.2.2.1).1.lt; omega)⟩)
    exact AllReadyH.nil
  have F_6_8 : Hid (∀ listed, listed = #[true, false, true, false, true, false, true, false, true, false, false, false] → ∀ (V : World) (bp : Nat) (bs : Nat), Hid ((Below X.heap.size X V) ∧ (Box V bp 26 #[.bool false, .slice none 0 0, .slice none 0 0, .bool false, .slice none 0 0, .slice none 0 0] ∧ X.heap.size ≤ bp) ∧ (Box V bs 24 #[.bool false, .slice none 0 0, .slice none 0 0] ∧ X.heap.size ≤ bs) ∧ (bp ≠ bs)) → wpAnyH Tryz.prog .any gc_region_ops (NoPanic Q) (fun V : World => Below X.heap.size X V) 7 listed { tmps := (List.toArray (t0 :: t1 :: t2 :: (.pointer (some ⟨ba, 0, none⟩)) :: (.pointer (some ⟨bb, 0, none⟩)) :: (.pointer (some ⟨br, 0, none⟩)) :: t6 :: (.pointer (some ⟨bp, 0, none⟩)) :: t8 :: (.pointer (some ⟨bs, 0, none⟩)) :: t10 :: t11 :: t12 :: t13 :: t14 :: t15 :: t16 :: t17 :: t18 :: t19 :: t20 :: t21 :: t22 :: t23 :: t24 :: t25 :: t26 :: t27 :: t28 :: t29 :: t30 :: t31 :: t32 :: t33 :: t34 :: t35 :: t36 :: t37 :: t38 :: t39 :: t40 :: t41 :: t42 :: t43 :: t44 :: t45 :: t46 :: t47 :: t48 :: t49 :: t50 :: (.agg #[.bool a.n, .slice a.a a.xs.length a.ca, .slice a.b a.ys.length a.cb, .bool a.m, .slice a.c a.us.length a.cc, .slice a.d a.vs.length a.cd]) :: t52 :: (.agg #[.bool b.n, .slice b.a b.xs.length b.ca, .slice b.b b.ys.length b.cb, .bool b.m, .slice b.c b.us.length b.cc, .slice b.d b.vs.length b.cd]) :: t54 :: (.agg #[.bool r.n, .slice r.a r.xs.length r.ca, .slice r.b r.ys.length r.cb]) :: t56 :: rest)), defers := [] } V) := by
    rintro _ rfl V bp bs HR
    refine wpAnyH_ready (rs := [1, 7]) (by kernel_rfl) (by simp) ?_
    refine AllReadyH.cons (o := { dst := some 52, op := Op.call { callee := Callee.value (Operand.func 6), args := #[Operand.tmp 51], argTypes := #[26] }, type := 26, pos := "law.go:33", after := #[{ on := 0, ground := Ground.data }], guard := none }) rfl (fun K hK => ?_) ?_
    · go_simp
      refine Calls.mono (gcLent a V (HL.out V HR.out.1).1 (by have := HNa.out; omega) (by have := HNa.out; omega) (by have := HNa.out; omega) (by have := HNa.out; omega)) ?_
      rintro e V' ⟨p, rfl, o1, o2, hb⟩
      dsimp only
      have new : p.Lt a V' X.heap.size ∧ GCh X.heap.size [p] V'.heap.size := ⟨o1.out.base (HR.out.1).size, V.heap.size, V'.heap.size, o2.out, hb.size, Nat.le_refl _, (HR.out.1).size⟩
      have HB2 := hid (bt HR.out.1 hb)
      refine hK.out _ _ ?_ (fun hHeld => ?_)
      · exact HB2.out
      clear hK K
      try simp only [List.setIfInBounds_toArray, List.set_cons_zero, List.set_cons_succ]
      exact F_1_6_8.out _ (by kernel_rfl) _ p bp bs (hid ⟨HB2.out, new, ⟨(HR.out.2.1).1.later hb (HR.out.2.1).1.lt, (HR.out.2.1).2⟩, ⟨(HR.out.2.2.1).1.later hb (HR.out.2.2.1).1.lt, (HR.out.2.2.1).2⟩, HR.out.2.2.2⟩)
    refine AllReadyH.cons (o := { dst := some 8, op := Op.alloc 26, type := 0, pos := "law.go:33", after := #[], guard := none }) rfl (fun K hK => ?_) ?_
    · go_simp
      have hb := alloc_later V (.cells #[.bool false, .slice none 0 0, .slice none 0 0, .bool false, .slice none 0 0, .slice none 0 0] 26)
      have new := And.intro (Box.made V 26 #[.bool false, .slice none 0 0, .slice none 0 0, .bool false, .slice none 0 0, .slice none 0 0]) (HR.out.1).size
      have HB2 := hid (bt HR.out.1 hb)
      refine hK.out _ _ ?_ (fun hHeld => ?_)
      · exact HB2.out
      clear hK K
      try simp only [List.setIfInBounds_toArray, List.set_cons_zero, List.set_cons_succ]
      exact F_6_7_8.out _ (by kernel_rfl) _ bp V.heap.size bs (hid ⟨HB2.out, ⟨(HR.out.2.1).1.later hb (HR.out.2.1).1.lt, (HR.out.2.1).2⟩, new, ⟨(HR.out.2.2.1).1.later hb (HR.out.2.2.1).1.lt, (HR.out.2.2.1).2⟩, (by have := (HR.out.2.1).1.lt; omega), HR.out.2.2.2, (by have := (HR.out.2.2.1).1.lt; omega)⟩)
    exact AllReadyH.nil
  have F_7_8 : Hid (∀ listed, listed = #[true, false, true, false, true, false, false, true, true, false, false, false] → ∀ (V : World) (bq : Nat) (bs : Nat), Hid ((Below X.heap.size X V) ∧ (Box V bq 26 #[.bool false, .slice none 0 0, .slice none 0 0, .bool false, .slice none 0 0, .slice none 0 0] ∧ X.heap.size ≤ bq) ∧ (Box V bs 24 #[.bool false, .slice none 0 0, .slice none 0 0] ∧ X.heap.size ≤ bs) ∧ (bq ≠ bs)) → wpAnyH Tryz.prog .any gc_region_ops (NoPanic Q) (fun V : World => Below X.heap.size X V) 7 listed { tmps := (List.toArray (t0 :: t1 :: t2 :: (.pointer (some ⟨ba, 0, none⟩)) :: (.pointer (some ⟨bb, 0, none⟩)) :: (.pointer (some ⟨br, 0, none⟩)) :: t6 :: t7 :: (.pointer (some ⟨bq, 0, none⟩)) :: (.pointer (some ⟨bs, 0, none⟩)) :: t10 :: t11 :: t12 :: t13 :: t14 :: t15 :: t16 :: t17 :: t18 :: t19 :: t20 :: t21 :: t22 :: t23 :: t24 :: t25 :: t26 :: t27 :: t28 :: t29 :: t30 :: t31 :: t32 :: t33 :: t34 :: t35 :: t36 :: t37 :: t38 :: t39 :: t40 :: t41 :: t42 :: t43 :: t44 :: t45 :: t46 :: t47 :: t48 :: t49 :: t50 :: (.agg #[.bool a.n, .slice a.a a.xs.length a.ca, .slice a.b a.ys.length a.cb, .bool a.m, .slice a.c a.us.length a.cc, .slice a.d a.vs.length a.cd]) :: t52 :: (.agg #[.bool b.n, .slice b.a b.xs.length b.ca, .slice b.b b.ys.length b.cb, .bool b.m, .slice b.c b.us.length b.cc, .slice b.d b.vs.length b.cd]) :: t54 :: (.agg #[.bool r.n, .slice r.a r.xs.length r.ca, .slice r.b r.ys.length r.cb]) :: t56 :: rest)), defers := [] } V) := by
    rintro _ rfl V bq bs HR
    refine wpAnyH_ready (rs := [1, 6]) (by kernel_rfl) (by simp) ?_
    refine AllReadyH.cons (o := { dst := some 52, op := Op.call { callee := Callee.value (Operand.func 6), args := #[Operand.tmp 51], argTypes := #[26] }, type := 26, pos := "law.go:33", after := #[{ on := 0, ground := Ground.data }], guard := none }) rfl (fun K hK => ?_) ?_
    · go_simp
      refine Calls.mono (gcLent a V (HL.out V HR.out.1).1 (by have := HNa.out; omega) (by have := HNa.out; omega) (by have := HNa.out; omega) (by have := HNa.out; omega)) ?_
      rintro e V' ⟨p, rfl, o1, o2, hb⟩
      dsimp only
      have new : p.Lt a V' X.heap.size ∧ GCh X.heap.size [p] V'.heap.size := ⟨o1.out.base (HR.out.1).size, V.heap.size, V'.heap.size, o2.out, hb.size, Nat.le_refl _, (HR.out.1).size⟩
      have HB2 := hid (bt HR.out.1 hb)
      refine hK.out _ _ ?_ (fun hHeld => ?_)
      · exact HB2.out
      clear hK K
      try simp only [List.setIfInBounds_toArray, List.set_cons_zero, List.set_cons_succ]
      exact F_1_7_8.out _ (by kernel_rfl) _ p bq bs (hid ⟨HB2.out, new, ⟨(HR.out.2.1).1.later hb (HR.out.2.1).1.lt, (HR.out.2.1).2⟩, ⟨(HR.out.2.2.1).1.later hb (HR.out.2.2.1).1.lt, (HR.out.2.2.1).2⟩, HR.out.2.2.2⟩)
    refine AllReadyH.cons (o := { dst := some 7, op := Op.alloc 26, type := 0, pos := "law.go:33", after := #[], guard := none }) rfl (fun K hK => ?_) ?_
    · go_simp
      have hb := alloc_later V (.cells #[.bool false, .slice none 0 0, .slice none 0 0, .bool false, .slice none 0 0, .slice none 0 0] 26)
      have new := And.intro (Box.made V 26 #[.bool false, .slice none 0 0, .slice none 0 0, .bool false, .slice none 0 0, .slice none 0 0]) (HR.out.1).size
      have HB2 := hid (bt HR.out.1 hb)
      refine hK.out _ _ ?_ (fun hHeld => ?_)
      · exact HB2.out
      clear hK K
      try simp only [List.setIfInBounds_toArray, List.set_cons_zero, List.set_cons_succ]
      exact F_6_7_8.out _ (by kernel_rfl) _ V.heap.size bq bs (hid ⟨HB2.out, new, ⟨(HR.out.2.1).1.later hb (HR.out.2.1).1.lt, (HR.out.2.1).2⟩, ⟨(HR.out.2.2.1).1.later hb (HR.out.2.2.1).1.lt, (HR.out.2.2.1).2⟩, (by have := (HR.out.2.1).1.lt; omega), (by have := (HR.out.2.2.1).1.lt; omega), HR.out.2.2.2⟩)
    exact AllReadyH.nil
  have F_1 : Hid (∀ listed, listed = #[true, true, true, false, true, false, false, false, false, false, false, false] → ∀ (V : World) (p : G6), Hid ((Below X.heap.size X V) ∧ (p.Lt a V X.heap.size ∧ GCh X.heap.size [p] V.heap.size)) → wpAnyH Tryz.prog .any gc_region_ops (NoPanic Q) (fun V : World => Below X.heap.size X V) 8 listed { tmps := (List.toArray (t0 :: t1 :: t2 :: (.pointer (some ⟨ba, 0, none⟩)) :: (.pointer (some ⟨bb, 0, none⟩)) :: (.pointer (some ⟨br, 0, none⟩)) :: t6 :: t7 :: t8 :: t9 :: t10 :: t11 :: t12 :: t13 :: t14 :: t15 :: t16 :: t17 :: t18 :: t19 :: t20 :: t21 :: t22 :: t23 :: t24 :: t25 :: t26 :: t27 :: t28 :: t29 :: t30 :: t31 :: t32 :: t33 :: t34 :: t35 :: t36 :: t37 :: t38 :: t39 :: t40 :: t41 :: t42 :: t43 :: t44 :: t45 :: t46 :: t47 :: t48 :: t49 :: t50 :: (.agg #[.bool a.n, .slice a.a a.xs.length a.ca, .slice a.b a.ys.length a.cb, .bool a.m, .slice a.c a.us.length a.cc, .slice a.d a.vs.length a.cd]) :: (.agg #[.bool p.n, .slice p.a p.xs.length p.ca, .slice p.b p.ys.length p.cb, .bool p.m, .slice p.c p.us.length p.cc, .slice p.d p.vs.length p.cd]) :: (.agg #[.bool b.n, .slice b.a b.xs.length b.ca, .slice b.b b.ys.length b.cb, .bool b.m, .slice b.c b.us.length b.cc, .slice b.d b.vs.length b.cd]) :: t54 :: (.agg #[.bool r.n, .slice r.a r.xs.length r.ca, .slice r.b r.ys.length r.cb]) :: t56 :: rest)), defers := [] } V) := by
    rintro _ rfl V p HR
    refine wpAnyH_ready (rs := [3, 6, 7, 8]) (by kernel_rfl) (by simp) ?_
    refine AllReadyH.cons (o := { dst := some 54, op := Op.call { callee := Callee.value (Operand.func 6), args := #[Operand.tmp 53], argTypes := #[26] }, type := 26, pos := "law.go:33", after := #[{ on := 2, ground := Ground.data }, { on := 1, ground := Ground.chain }], guard := none }) rfl (fun K hK => ?_) ?_
    · go_simp
      refine Calls.mono (gcLent b V (HL.out V HR.out.1).2.1 (by have := HNb.out; omega) (by have := HNb.out; omega) (by have := HNb.out; omega) (by have := HNb.out; omega)) ?_
      rintro e V' ⟨q, rfl, o1, o2, hb⟩
      dsimp only
      have new : q.Lt b V' X.heap.size ∧ GCh X.heap.size [q, p] V'.heap.size := ⟨o1.out.base (HR.out.1).size, V.heap.size, V'.heap.size, o2.out, hb.size, Nat.le_refl _, (HR.out.2).2⟩
      have HB2 := hid (bt HR.out.1 hb)
      refine hK.out _ _ ?_ (fun hHeld => ?_)
      · exact HB2.out
      clear hK K
      try simp only [List.setIfInBounds_toArray, List.set_cons_zero, List.set_cons_succ]
      exact F_1_3.out _ (by kernel_rfl) _ p q (hid ⟨HB2.out, ⟨(HR.out.2).1.later hb, (HR.out.2).2.mono hb.size⟩, new⟩)
    refine AllReadyH.cons (o := { dst := some 7, op := Op.alloc 26, type := 0, pos := "law.go:33", after := #[], guard := none }) rfl (fun K hK => ?_) ?_
    · go_simp
      have hb := alloc_later V (.cells #[.bool false, .slice none 0 0, .slice none 0 0, .bool false, .slice none 0 0, .slice none 0 0] 26)
      have new := And.intro (Box.made V 26 #[.bool false, .slice none 0 0, .slice none 0 0, .bool false, .slice none 0 0, .slice none 0 0]) (HR.out.1).size
      have HB2 := hid (bt HR.out.1 hb)
      refine hK.out _ _ ?_ (fun hHeld => ?_)
      · exact HB2.out
      clear hK K
      try simp only [List.setIfInBounds_toArray, List.set_cons_zero, List.set_cons_succ]
      exact F_1_6.out _ (by kernel_rfl) _ p V.heap.size (hid ⟨HB2.out, ⟨(HR.out.2).1.later hb, (HR.out.2).2.mono hb.size⟩, new⟩)
    refine AllReadyH.cons (o := { dst := some 8, op := Op.alloc 26, type := 0, pos := "law.go:33", after := #[], guard := none }) rfl (fun K hK => ?_) ?_
    · go_simp
      have hb := alloc_later V (.cells #[.bool false, .slice none 0 0, .slice none 0 0, .bool false, .slice none 0 0, .slice none 0 0] 26)
      have new := And.intro (Box.made V 26 #[.bool false, .slice none 0 0, .slice none 0 0, .bool false, .slice none 0 0, .slice none 0 0]) (HR.out.1).size
      have HB2 := hid (bt HR.out.1 hb)
      refine hK.out _ _ ?_ (fun hHeld => ?_)
      · exact HB2.out
      clear hK K
      try simp only [List.setIfInBounds_toArray, List.set_cons_zero, List.set_cons_succ]
      exact F_1_7.out _ (by kernel_rfl) _ p V.heap.size (hid ⟨HB2.out, ⟨(HR.out.2).1.later hb, (HR.out.2).2.mono hb.size⟩, new⟩)
    refine AllReadyH.cons (o := { dst := some 9, op := Op.alloc 24, type := 0, pos := "law.go:33", after := #[], guard := none }) rfl (fun K hK => ?_) ?_
    · go_simp
      have hb := alloc_later V (.cells #[.bool false, .slice none 0 0, .slice none 0 0] 24)
      have new := And.intro (Box.made V 24 #[.bool false, .slice none 0 0, .slice none 0 0]) (HR.out.1).size
      have HB2 := hid (bt HR.out.1 hb)
      refine hK.out _ _ ?_ (fun hHeld => ?_)
      · exact HB2.out
      clear hK K
      try simp only [List.setIfInBounds_toArray, List.set_cons_zero, List.set_cons_succ]
      exact F_1_8.out _ (by kernel_rfl) _ p V.heap.size (hid ⟨HB2.out, ⟨(HR.out.2).1.later hb, (HR.out.2).2.mono hb.size⟩, new⟩)
    exact AllReadyH.nil
  have F_6 : Hid (∀ listed, listed = #[true, false, true, false, true, false, true, false, false, false, false, false] → ∀ (V : World) (bp : Nat), Hid ((Below X.heap.size X V) ∧ (Box V bp 26 #[.bool false, .slice none 0 0, .slice none 0 0, .bool false, .slice none 0 0, .slice none 0 0] ∧ X.heap.size ≤ bp)) → wpAnyH Tryz.prog .any gc_region_ops (NoPanic Q) (fun V : World => Below X.heap.size X V) 8 listed { tmps := (List.toArray (t0 :: t1 :: t2 :: (.pointer (some ⟨ba, 0, none⟩)) :: (.pointer (some ⟨bb, 0, none⟩)) :: (.pointer (some ⟨br, 0, none⟩)) :: t6 :: (.pointer (some ⟨bp, 0, none⟩)) :: t8 :: t9 :: t10 :: t11 :: t12 :: t13 :: t14 :: t15 :: t16 :: t17 :: t18 :: t19 :: t20 :: t21 :: t22 :: t23 :: t24 :: t25 :: t26 :: t27 :: t28 :: t29 :: t30 :: t31 :: t32 :: t33 :: t34 :: t35 :: t36 :: t37 :: t38 :: t39 :: t40 :: t41 :: t42 :: t43 :: t44 :: t45 :: t46 :: t47 :: t48 :: t49 :: t50 :: (.agg #[.bool a.n, .slice a.a a.xs.length a.ca, .slice a.b a.ys.length a.cb, .bool a.m, .slice a.c a.us.length a.cc, .slice a.d a.vs.length a.cd]) :: t52 :: (.agg #[.bool b.n, .slice b.a b.xs.length b.ca, .slice b.b b.ys.length b.cb, .bool b.m, .slice b.c b.us.length b.cc, .slice b.d b.vs.length b.cd]) :: t54 :: (.agg #[.bool r.n, .slice r.a r.xs.length r.ca, .slice r.b r.ys.length r.cb]) :: t56 :: rest)), defers := [] } V) := by
    rintro _ rfl V bp HR
    refine wpAnyH_ready (rs := [1, 7, 8]) (by kernel_rfl) (by simp) ?_
    refine AllReadyH.cons (o := { dst := some 52, op := Op.call { callee := Callee.value (Operand.func 6), args := #[Operand.tmp 51], argTypes := #[26] }, type := 26, pos := "law.go:33", after := #[{ on := 0, ground := Ground.data }], guard := none }) rfl (fun K hK => ?_) ?_
    · go_simp
      refine Calls.mono (gcLent a V (HL.out V HR.out.1).1 (by have := HNa.out; omega) (by have := HNa.out; omega) (by have := HNa.out; omega) (by have := HNa.out; omega)) ?_
      rintro e V' ⟨p, rfl, o1, o2, hb⟩
      dsimp only
      have new : p.Lt a V' X.heap.size ∧ GCh X.heap.size [p] V'.heap.size := ⟨o1.out.base (HR.out.1).size, V.heap.size, V'.heap.size, o2.out, hb.size, Nat.le_refl _, (HR.out.1).size⟩
      have HB2 := hid (bt HR.out.1 hb)
      refine hK.out _ _ ?_ (fun hHeld => ?_)
      · exact HB2.out
      clear hK K
      try simp only [List.setIfInBounds_toArray, List.set_cons_zero, List.set_cons_succ]
      exact F_1_6.out _ (by kernel_rfl) _ p bp (hid ⟨HB2.out, new, ⟨(HR.out.2).1.later hb (HR.out.2).1.lt, (HR.out.2).2⟩⟩)
    refine AllReadyH.cons (o := { dst := some 8, op := Op.alloc 26, type := 0, pos := "law.go:33", after := #[], guard := none }) rfl (fun K hK => ?_) ?_
    · go_simp
      have hb := alloc_later V (.cells #[.bool false, .slice none 0 0, .slice none 0 0, .bool false, .slice none 0 0, .slice none 0 0] 26)
      have new := And.intro (Box.made V 26 #[.bool false, .slice none 0 0, .slice none 0 0, .bool false, .slice none 0 0, .slice none 0 0]) (HR.out.1).size
      have HB2 := hid (bt HR.out.1 hb)
      refine hK.out _ _ ?_ (fun hHeld => ?_)
      · exact HB2.out
      clear hK K
      try simp only [List.setIfInBounds_toArray, List.set_cons_zero, List.set_cons_succ]
      exact F_6_7.out _ (by kernel_rfl) _ bp V.heap.size (hid ⟨HB2.out, ⟨(HR.out.2).1.later hb (HR.out.2).1.lt, (HR.out.2).2⟩, new, (by have := (HR.out.2).1.lt; omega)⟩)
    refine AllReadyH.cons (o := { dst := some 9, op := Op.alloc 24, type := 0, pos := "law.go:33", after := #[], guard := none }) rfl (fun K hK => ?_) ?_
    · go_simp
      have hb := alloc_later V (.cells #[.bool false, .slice none 0 0, .slice none 0 0] 24)
      have new := And.intro (Box.made V 24 #[.bool false, .slice none 0 0, .slice none 0 0]) (HR.out.1).size
      have HB2 := hid (bt HR.out.1 hb)
      refine hK.out _ _ ?_ (fun hHeld => ?_)
      · exact HB2.out
      clear hK K
      try simp only [List.setIfInBounds_toArray, List.set_cons_zero, List.set_cons_succ]
      exact F_6_8.out _ (by kernel_rfl) _ bp V.heap.size (hid ⟨HB2.out, ⟨(HR.out.2).1.later hb (HR.out.2).1.lt, (HR.out.2).2⟩, new, (by have := (HR.out.2).1.lt; omega)⟩)
    exact AllReadyH.nil
  have F_7 : Hid (∀ listed, listed = #[true, false, true, false, true, false, false, true, false, false, false, false] → ∀ (V : World) (bq : Nat), Hid ((Below X.heap.size X V) ∧ (Box V bq 26 #[.bool false, .slice none 0 0, .slice none 0 0, .bool false, .slice none 0 0, .slice none 0 0] ∧ X.heap.size ≤ bq)) → wpAnyH Tryz.prog .any gc_region_ops (NoPanic Q) (fun V : World => Below X.heap.size X V) 8 listed { tmps := (List.toArray (t0 :: t1 :: t2 :: (.pointer (some ⟨ba, 0, none⟩)) :: (.pointer (some ⟨bb, 0, none⟩)) :: (.pointer (some ⟨br, 0, none⟩)) :: t6 :: t7 :: (.pointer (some ⟨bq, 0, none⟩)) :: t9 :: t10 :: t11 :: t12 :: t13 :: t14 :: t15 :: t16 :: t17 :: t18 :: t19 :: t20 :: t21 :: t22 :: t23 :: t24 :: t25 :: t26 :: t27 :: t28 :: t29 :: t30 :: t31 :: t32 :: t33 :: t34 :: t35 :: t36 :: t37 :: t38 :: t39 :: t40 :: t41 :: t42 :: t43 :: t44 :: t45 :: t46 :: t47 :: t48 :: t49 :: t50 :: (.agg #[.bool a.n, .slice a.a a.xs.length a.ca, .slice a.b a.ys.length a.cb, .bool a.m, .slice a.c a.us.length a.cc, .slice a.d a.vs.length a.cd]) :: t52 :: (.agg #[.bool b.n, .slice b.a b.xs.length b.ca, .slice b.b b.ys.length b.cb, .bool b.m, .slice b.c b.us.length b.cc, .slice b.d b.vs.length b.cd]) :: t54 :: (.agg #[.bool r.n, .slice r.a r.xs.length r.ca, .slice r.b r.ys.length r.cb]) :: t56 :: rest)), defers := [] } V) := by
    rintro _ rfl V bq HR
    refine wpAnyH_ready (rs := [1, 6, 8]) (by kernel_rfl) (by simp) ?_
    refine AllReadyH.cons (o := { dst := some 52, op := Op.call { callee := Callee.value (Operand.func 6), args := #[Operand.tmp 51], argTypes := #[26] }, type := 26, pos := "law.go:33", after := #[{ on := 0, ground := Ground.data }], guard := none }) rfl (fun K hK => ?_) ?_
    · go_simp
      refine Calls.mono (gcLent a V (HL.out V HR.out.1).1 (by have := HNa.out; omega) (by have := HNa.out; omega) (by have := HNa.out; omega) (by have := HNa.out; omega)) ?_
      rintro e V' ⟨p, rfl, o1, o2, hb⟩
      dsimp only
      have new : p.Lt a V' X.heap.size ∧ GCh X.heap.size [p] V'.heap.size := ⟨o1.out.base (HR.out.1).size, V.heap.size, V'.heap.size, o2.out, hb.size, Nat.le_refl _, (HR.out.1).size⟩
      have HB2 := hid (bt HR.out.1 hb)
      refine hK.out _ _ ?_ (fun hHeld => ?_)
      · exact HB2.out
      clear hK K
      try simp only [List.setIfInBounds_toArray, List.set_cons_zero, List.set_cons_succ]
      exact F_1_7.out _ (by kernel_rfl) _ p bq (hid ⟨HB2.out, new, ⟨(HR.out.2).1.later hb (HR.out.2).1.lt, (HR.out.2).2⟩⟩)
    refine AllReadyH.cons (o := { dst := some 7, op := Op.alloc 26, type := 0, pos := "law.go:33", after := #[], guard := none }) rfl (fun K hK => ?_) ?_
    · go_simp
      have hb := alloc_later V (.cells #[.bool false, .slice none 0 0, .slice none 0 0, .bool false, .slice none 0 0, .slice none 0 0] 26)
      have new := And.intro (Box.made V 26 #[.bool false, .slice none 0 0, .slice none 0 0, .bool false, .slice none 0 0, .slice none 0 0]) (HR.out.1).size
      have HB2 := hid (bt HR.out.1 hb)
      refine hK.out _ _ ?_ (fun hHeld => ?_)
      · exact HB2.out
      clear hK K
      try simp only [List.setIfInBounds_toArray, List.set_cons_zero, List.set_cons_succ]
      exact F_6_7.out _ (by kernel_rfl) _ V.heap.size bq (hid ⟨HB2.out, new, ⟨(HR.out.2).1.later hb (HR.out.2).1.lt, (HR.out.2).2⟩, (by have := (HR.out.2).1.lt; omega)⟩)
    refine AllReadyH.cons (o := { dst := some 9, op := Op.alloc 24, type := 0, pos := "law.go:33", after := #[], guard := none }) rfl (fun K hK => ?_) ?_
    · go_simp
      have hb := alloc_later V (.cells #[.bool false, .slice none 0 0, .slice none 0 0] 24)
      have new := And.intro (Box.made V 24 #[.bool false, .slice none 0 0, .slice none 0 0]) (HR.out.1).size
      have HB2 := hid (bt HR.out.1 hb)
      refine hK.out _ _ ?_ (fun hHeld => ?_)
      · exact HB2.out
      clear hK K
      try simp only [List.setIfInBounds_toArray, List.set_cons_zero, List.set_cons_succ]
      exact F_7_8.out _ (by kernel_rfl) _ bq V.heap.size (hid ⟨HB2.out, ⟨(HR.out.2).1.later hb (HR.out.2).1.lt, (HR.out.2).2⟩, new, (by have := (HR.out.2).1.lt; omega)⟩)
    exact AllReadyH.nil
  have F_8 : Hid (∀ listed, listed = #[true, false, true, false, true, false, false, false, true, false, false, false] → ∀ (V : World) (bs : Nat), Hid ((Below X.heap.size X V) ∧ (Box V bs 24 #[.bool false, .slice none 0 0, .slice none 0 0] ∧ X.heap.size ≤ bs)) → wpAnyH Tryz.prog .any gc_region_ops (NoPanic Q) (fun V : World => Below X.heap.size X V) 8 listed { tmps := (List.toArray (t0 :: t1 :: t2 :: (.pointer (some ⟨ba, 0, none⟩)) :: (.pointer (some ⟨bb, 0, none⟩)) :: (.pointer (some ⟨br, 0, none⟩)) :: t6 :: t7 :: t8 :: (.pointer (some ⟨bs, 0, none⟩)) :: t10 :: t11 :: t12 :: t13 :: t14 :: t15 :: t16 :: t17 :: t18 :: t19 :: t20 :: t21 :: t22 :: t23 :: t24 :: t25 :: t26 :: t27 :: t28 :: t29 :: t30 :: t31 :: t32 :: t33 :: t34 :: t35 :: t36 :: t37 :: t38 :: t39 :: t40 :: t41 :: t42 :: t43 :: t44 :: t45 :: t46 :: t47 :: t48 :: t49 :: t50 :: (.agg #[.bool a.n, .slice a.a a.xs.length a.ca, .slice a.b a.ys.length a.cb, .bool a.m, .slice a.c a.us.length a.cc, .slice a.d a.vs.length a.cd]) :: t52 :: (.agg #[.bool b.n, .slice b.a b.xs.length b.ca, .slice b.b b.ys.length b.cb, .bool b.m, .slice b.c b.us.length b.cc, .slice b.d b.vs.length b.cd]) :: t54 :: (.agg #[.bool r.n, .slice r.a r.xs.length r.ca, .slice r.b r.ys.length r.cb]) :: t56 :: rest)), defers := [] } V) := by
    rintro _ rfl V bs HR
    refine wpAnyH_ready (rs := [1, 6, 7]) (by kernel_rfl) (by simp) ?_
    refine AllReadyH.cons (o := { dst := some 52, op := Op.call { callee := Callee.value (Operand.func 6), args := #[Operand.tmp 51], argTypes := #[26] }, type := 26, pos := "law.go:33", after := #[{ on := 0, ground := Ground.data }], guard := none }) rfl (fun K hK => ?_) ?_
    · go_simp
      refine Calls.mono (gcLent a V (HL.out V HR.out.1).1 (by have := HNa.out; omega) (by have := HNa.out; omega) (by have := HNa.out; omega) (by have := HNa.out; omega)) ?_
      rintro e V' ⟨p, rfl, o1, o2, hb⟩
      dsimp only
      have new : p.Lt a V' X.heap.size ∧ GCh X.heap.size [p] V'.heap.size := ⟨o1.out.base (HR.out.1).size, V.heap.size, V'.heap.size, o2.out, hb.size, Nat.le_refl _, (HR.out.1).size⟩
      have HB2 := hid (bt HR.out.1 hb)
      refine hK.out _ _ ?_ (fun hHeld => ?_)
      · exact HB2.out
      clear hK K
      try simp only [List.setIfInBounds_toArray, List.set_cons_zero, List.set_cons_succ]
      exact F_1_8.out _ (by kernel_rfl) _ p bs (hid ⟨HB2.out, new, ⟨(HR.out.2).1.later hb (HR.out.2).1.lt, (HR.out.2).2⟩⟩)
    refine AllReadyH.cons (o := { dst := some 7, op := Op.alloc 26, type := 0, pos := "law.go:33", after := #[], guard := none }) rfl (fun K hK => ?_) ?_
    · go_simp
      have hb := alloc_later V (.cells #[.bool false, .slice none 0 0, .slice none 0 0, .bool false, .slice none 0 0, .slice none 0 0] 26)
      have new := And.intro (Box.made V 26 #[.bool false, .slice none 0 0, .slice none 0 0, .bool false, .slice none 0 0, .slice none 0 0]) (HR.out.1).size
      have HB2 := hid (bt HR.out.1 hb)
      refine hK.out _ _ ?_ (fun hHeld => ?_)
      · exact HB2.out
      clear hK K
      try simp only [List.setIfInBounds_toArray, List.set_cons_zero, List.set_cons_succ]
      exact F_6_8.out _ (by kernel_rfl) _ V.heap.size bs (hid ⟨HB2.out, new, ⟨(HR.out.2).1.later hb (HR.out.2).1.lt, (HR.out.2).2⟩, (by have := (HR.out.2).1.lt; omega)⟩)
    refine AllReadyH.cons (o := { dst := some 8, op := Op.alloc 26, type := 0, pos := "law.go:33", after := #[], guard := none }) rfl (fun K hK => ?_) ?_
    · go_simp
      have hb := alloc_later V (.cells #[.bool false, .slice none 0 0, .slice none 0 0, .bool false, .slice none 0 0, .slice none 0 0] 26)
      have new := And.intro (Box.made V 26 #[.bool false, .slice none 0 0, .slice none 0 0, .bool false, .slice none 0 0, .slice none 0 0]) (HR.out.1).size
      have HB2 := hid (bt HR.out.1 hb)
      refine hK.out _ _ ?_ (fun hHeld => ?_)
      · exact HB2.out
      clear hK K
      try simp only [List.setIfInBounds_toArray, List.set_cons_zero, List.set_cons_succ]
      exact F_7_8.out _ (by kernel_rfl) _ V.heap.size bs (hid ⟨HB2.out, new, ⟨(HR.out.2).1.later hb (HR.out.2).1.lt, (HR.out.2).2⟩, (by have := (HR.out.2).1.lt; omega)⟩)
    exact AllReadyH.nil
  have F : Hid (∀ listed, listed = #[true, false, true, false, true, false, false, false, false, false, false, false] → ∀ (V : World) , Hid ((Below X.heap.size X V)) → wpAnyH Tryz.prog .any gc_region_ops (NoPanic Q) (fun V : World => Below X.heap.size X V) 9 listed { tmps := (List.toArray (t0 :: t1 :: t2 :: (.pointer (some ⟨ba, 0, none⟩)) :: (.pointer (some ⟨bb, 0, none⟩)) :: (.pointer (some ⟨br, 0, none⟩)) :: t6 :: t7 :: t8 :: t9 :: t10 :: t11 :: t12 :: t13 :: t14 :: t15 :: t16 :: t17 :: t18 :: t19 :: t20 :: t21 :: t22 :: t23 :: t24 :: t25 :: t26 :: t27 :: t28 :: t29 :: t30 :: t31 :: t32 :: t33 :: t34 :: t35 :: t36 :: t37 :: t38 :: t39 :: t40 :: t41 :: t42 :: t43 :: t44 :: t45 :: t46 :: t47 :: t48 :: t49 :: t50 :: (.agg #[.bool a.n, .slice a.a a.xs.length a.ca, .slice a.b a.ys.length a.cb, .bool a.m, .slice a.c a.us.length a.cc, .slice a.d a.vs.length a.cd]) :: t52 :: (.agg #[.bool b.n, .slice b.a b.xs.length b.ca, .slice b.b b.ys.length b.cb, .bool b.m, .slice b.c b.us.length b.cc, .slice b.d b.vs.length b.cd]) :: t54 :: (.agg #[.bool r.n, .slice r.a r.xs.length r.ca, .slice r.b r.ys.length r.cb]) :: t56 :: rest)), defers := [] } V) := by
    rintro _ rfl V  HR
    refine wpAnyH_ready (rs := [1, 6, 7, 8]) (by kernel_rfl) (by simp) ?_
    refine AllReadyH.cons (o := { dst := some 52, op := Op.call { callee := Callee.value (Operand.func 6), args := #[Operand.tmp 51], argTypes := #[26] }, type := 26, pos := "law.go:33", after := #[{ on := 0, ground := Ground.data }], guard := none }) rfl (fun K hK => ?_) ?_
    · go_simp
      refine Calls.mono (gcLent a V (HL.out V HR.out).1 (by have := HNa.out; omega) (by have := HNa.out; omega) (by have := HNa.out; omega) (by have := HNa.out; omega)) ?_
      rintro e V' ⟨p, rfl, o1, o2, hb⟩
      dsimp only
      have new : p.Lt a V' X.heap.size ∧ GCh X.heap.size [p] V'.heap.size := ⟨o1.out.base (HR.out).size, V.heap.size, V'.heap.size, o2.out, hb.size, Nat.le_refl _, (HR.out).size⟩
      have HB2 := hid (bt HR.out hb)
      refine hK.out _ _ ?_ (fun hHeld => ?_)
      · exact HB2.out
      clear hK K
      try simp only [List.setIfInBounds_toArray, List.set_cons_zero, List.set_cons_succ]
      exact F_1.out _ (by kernel_rfl) _ p (hid ⟨HB2.out, new⟩)
    refine AllReadyH.cons (o := { dst := some 7, op := Op.alloc 26, type := 0, pos := "law.go:33", after := #[], guard := none }) rfl (fun K hK => ?_) ?_
    · go_simp
      have hb := alloc_later V (.cells #[.bool false, .slice none 0 0, .slice none 0 0, .bool false, .slice none 0 0, .slice none 0 0] 26)
      have new := And.intro (Box.made V 26 #[.bool false, .slice none 0 0, .slice none 0 0, .bool false, .slice none 0 0, .slice none 0 0]) (HR.out).size
      have HB2 := hid (bt HR.out hb)
      refine hK.out _ _ ?_ (fun hHeld => ?_)
      · exact HB2.out
      clear hK K
      try simp only [List.setIfInBounds_toArray, List.set_cons_zero, List.set_cons_succ]
      exact F_6.out _ (by kernel_rfl) _ V.heap.size (hid ⟨HB2.out, new⟩)
    refine AllReadyH.cons (o := { dst := some 8, op := Op.alloc 26, type := 0, pos := "law.go:33", after := #[], guard := none }) rfl (fun K hK => ?_) ?_
    · go_simp
      have hb := alloc_later V (.cells #[.bool false, .slice none 0 0, .slice none 0 0, .bool false, .slice none 0 0, .slice none 0 0] 26)
      have new := And.intro (Box.made V 26 #[.bool false, .slice none 0 0, .slice none 0 0, .bool false, .slice none 0 0, .slice none 0 0]) (HR.out).size
      have HB2 := hid (bt HR.out hb)
      refine hK.out _ _ ?_ (fun hHeld => ?_)
      · exact HB2.out
      clear hK K
      try simp only [List.setIfInBounds_toArray, List.set_cons_zero, List.set_cons_succ]
      exact F_7.out _ (by kernel_rfl) _ V.heap.size (hid ⟨HB2.out, new⟩)
    refine AllReadyH.cons (o := { dst := some 9, op := Op.alloc 24, type := 0, pos := "law.go:33", after := #[], guard := none }) rfl (fun K hK => ?_) ?_
    · go_simp
      have hb := alloc_later V (.cells #[.bool false, .slice none 0 0, .slice none 0 0] 24)
      have new := And.intro (Box.made V 24 #[.bool false, .slice none 0 0, .slice none 0 0]) (HR.out).size
      have HB2 := hid (bt HR.out hb)
      refine hK.out _ _ ?_ (fun hHeld => ?_)
      · exact HB2.out
      clear hK K
      try simp only [List.setIfInBounds_toArray, List.set_cons_zero, List.set_cons_succ]
      exact F_8.out _ (by kernel_rfl) _ V.heap.size (hid ⟨HB2.out, new⟩)
    exact AllReadyH.nil
  refine wp_region_noPanic ?_
  refine wp_region_held_drew (S := (fun V : World => Below X.heap.size X V)) (by kernel_rfl) ?_ (fun hHeld => ?_)
  · exact (Below.drew (Below.refl _ X))
  refine wpAnyH_take (i := 0) (oi := { dst := some 51, op := Op.load 26 (Operand.tmp 3), type := 26, pos := "law.go:33", after := #[], guard := none }) (v := ?_) rfl (by kernel_rfl) (by kernel_rfl) (by kernel_rfl) (fun _ _ _ h => h) (Or.inl ⟨by rfl, ?_⟩) (by assumption) ?_
  rotate_left 1
  · intro V hSw
    obtain ⟨pa0, pa1, pa2, pa3, pa4, pa5, pb0, pb1, pb2, pb3, pb4, pb5, pr0, pr1, pr2⟩ := HK.out V hSw
    clear hSw
    go_simp
    try with_reducible rfl
  try simp only [Act.put, List.setIfInBounds_toArray, List.set_cons_zero, List.set_cons_succ]
  refine wpAnyH_take (i := 2) (oi := { dst := some 53, op := Op.load 26 (Operand.tmp 4), type := 26, pos := "law.go:33", after := #[], guard := none }) (v := ?_) rfl (by kernel_rfl) (by kernel_rfl) (by kernel_rfl) (fun _ _ _ h => h) (Or.inl ⟨by rfl, ?_⟩) (by assumption) ?_
  rotate_left 1
  · intro V hSw
    obtain ⟨pa0, pa1, pa2, pa3, pa4, pa5, pb0, pb1, pb2, pb3, pb4, pb5, pr0, pr1, pr2⟩ := HK.out V hSw
    clear hSw
    go_simp
    try with_reducible rfl
  try simp only [Act.put, List.setIfInBounds_toArray, List.set_cons_zero, List.set_cons_succ]
  refine wpAnyH_take (i := 4) (oi := { dst := some 55, op := Op.load 24 (Operand.tmp 5), type := 24, pos := "law.go:33", after := #[], guard := none }) (v := ?_) rfl (by kernel_rfl) (by kernel_rfl) (by kernel_rfl) (fun _ _ _ h => h) (Or.inl ⟨by rfl, ?_⟩) (by assumption) ?_
  rotate_left 1
  · intro V hSw
    obtain ⟨pa0, pa1, pa2, pa3, pa4, pa5, pb0, pb1, pb2, pb3, pb4, pb5, pr0, pr1, pr2⟩ := HK.out V hSw
    clear hSw
    go_simp
    try with_reducible rfl
  try simp only [Act.put, List.setIfInBounds_toArray, List.set_cons_zero, List.set_cons_succ]
  exact F.out _ (by kernel_rfl) _ (hid (Below.drew (Below.refl _ X)))
end Go.Proofs.YtlleakifnjfdkaaGreat

/- A complex fraction, a constituent, that came in is read. -/
namespace Go.Proofs.YtlleakifnjfdkaaGreat
open Go.ChangeShapes Go.WideShapes Go.ChangeAt Go.RowKit Go.Joins Go.Deep
set_option linter.unusedVariables false

def InRow (w : World) (a : Option Addr) (len cap : Nat) (zs : List Int) : Prop :=
  (a = none ∧ len = 0 ∧ cap = 0 ∧ zs = []) ∨
  ∃ x, a = some x ∧ len ≤ cap ∧ cap ≤ maxLen ∧ zs.length = cap ∧ (∀ i, i < zs.length → w.cell? (x.add i) = some (.int .u32 (zs.getD i 0))) ∧ ∀ n ∈ zs, (Lit.int .u32 n).wf = true
theorem arr6 {cs : Array Value} (h : cs.size = 6) : ∃ c0 c1 c2 c3 c4 c5, cs = #[c0, c1, c2, c3, c4, c5] := by
  rcases cs with ⟨l⟩
  match l, h with
  | [c0, c1, c2, c3, c4, c5], _ => exact ⟨c0, c1, c2, c3, c4, c5, rfl⟩
theorem in_row {H : Type} {enc : TypeId × Value → H} {w : World} {held : Bool} {n : Nat} {v : Value} {x : DataW H × List MemPlace} (h : DataW.trod enc Tryz.prog w 0 (fun _ => true) held n 22 [v] = some x) : ∃ a len cap zs, v = .slice a len cap ∧ InRow w a len cap zs := by
  rcases open_ints Tryz.underlying22 Tryz.underlying63 (by kernel_rfl) h with ⟨hcs, _⟩ | ⟨x, l, cc, zs, hcs, _, hl, hm, hz, _, hcell, hwz⟩
  · simp at hcs
    exact ⟨none, 0, 0, [], hcs, .inl ⟨rfl, rfl, rfl, rfl⟩⟩
  · simp at hcs
    exact ⟨some x, l, cc, zs, hcs, .inr ⟨_, rfl, hl, hm, by simpa using hz, hcell, hwz⟩⟩
theorem in_ratio {H : Type} {enc : TypeId × Value → H} {w : World} {held : Bool} {n : Nat} {v0 v1 v2 : Value} {x : DataW H × List MemPlace} (h : DataW.trod enc Tryz.prog w 0 (fun _ => true) held n 24 [v0, v1, v2] = some x) :
    ∃ s a len cap zs b lem cbp ys, v0 = .bool s ∧ v1 = .slice a len cap ∧ v2 = .slice b lem cbp ∧ InRow w a len cap zs ∧ InRow w b lem cbp ys := by
  obtain ⟨y0, y1, y2, m, _, _, t0, t1, t2⟩ := trod_struct3 Tryz.underlying24 h
  have k0 : Tryz.prog.cellsOf 4 = 1 := by kernel_rfl
  have k1 : Tryz.prog.cellsOf 22 = 1 := by kernel_rfl
  simp [k0] at t0
  simp [k1] at t1 t2
  obtain ⟨s, hs, _⟩ := DataW.trod_bool Tryz.underlying4 t0
  simp at hs
  obtain ⟨a, len, cap, zs, e1, r1⟩ := in_row t1
  obtain ⟨b, lem, cbp, ys, e2, r2⟩ := in_row t2
  exact ⟨s, a, len, cap, zs, b, lem, cbp, ys, hs, e1, e2, r1, r2⟩
theorem in_gauss {H : Type} {enc : TypeId × Value → H} {w : World} {held : Bool} {n : Nat} {v0 v1 v2 v3 v4 v5 : Value} {x : DataW H × List MemPlace} (h : DataW.trod enc Tryz.prog w 0 (fun _ => true) held n 26 [v0, v1, v2, v3, v4, v5] = some x) :
    (∃ s a len cap zs b lem cbp ys, v0 = .bool s ∧ v1 = .slice a len cap ∧ v2 = .slice b lem cbp ∧ InRow w a len cap zs ∧ InRow w b lem cbp ys) ∧ (∃ s a len cap zs b lem cbp ys, v3 = .bool s ∧ v4 = .slice a len cap ∧ v5 = .slice b lem cbp ∧ InRow w a len cap zs ∧ InRow w b lem cbp ys) := by
  obtain ⟨y0, y1, m, _, _, t0, t1⟩ := trod_struct2 Tryz.underlying26 h
  have k0 : Tryz.prog.cellsOf 24 = 3 := by kernel_rfl
  simp [k0] at t0 t1
  exact ⟨in_ratio t0, in_ratio t1⟩
set_option maxHeartbeats 800000 in
set_option maxRecDepth 100000 in
theorem open_gauss {H : Type} {enc : TypeId × Value → H} {w : World} {held : Bool} {r : Reach} {b0 : Nat} {v : Value} {d : DataW H} {p : List MemPlace} (hv : Value.okWide Tryz.prog w r b0 26 v) (h : DataW.Trod enc Tryz.prog w 0 (fun _ => true) held 26 v d p) :
    ∃ (n : Bool) (a : Option Addr) (len cap : Nat) (zs : List Int) (b : Option Addr) (lem cbp : Nat) (ys : List Int) (m : Bool) (c : Option Addr) (lec cac : Nat) (us : List Int) (e : Option Addr) (lee cae : Nat) (vs : List Int),
      v = .agg #[.bool n, .slice a len cap, .slice b lem cbp, .bool m, .slice c lec cac, .slice e lee cae] ∧ InRow w a len cap zs ∧ InRow w b lem cbp ys ∧ InRow w c lec cac us ∧ InRow w e lee cae vs := by
  obtain ⟨cs, rfl, hsz⟩ := okWide_struct Tryz.underlying26 hv
  obtain ⟨c0, c1, c2, c3, c4, c5, rfl⟩ := arr6 (hsz.trans (by kernel_rfl))
  obtain ⟨fuel, hf⟩ := h
  obtain ⟨⟨n, a, len, cap, zs, b, lem, cbp, ys, e1, e2, e3, r1, r2⟩, m2, c, lec, cac, us, e, lee, cae, vs, e4, e5, e6, r3, r4⟩ := in_gauss (v0 := c0) (v1 := c1) (v2 := c2) (v3 := c3) (v4 := c4) (v5 := c5) hf
  exact ⟨n, a, len, cap, zs, b, lem, cbp, ys, m2, c, lec, cac, us, e, lee, cae, vs, by rw [e1, e2, e3, e4, e5, e6], r1, r2, r3, r4⟩
end Go.Proofs.YtlleakifnjfdkaaGreat

