/- My texts on the way to GaussCalls, one behind the other: contracts of the program and of the document's answers. -/
import Derived.Test.YtlleakifnjfdkaaGreatJ6
import Derived.Deep.RegionHeld3
import Derived.Maps.RangeWalk
import Derived.Test.YtlleakifnjfdkaaGreatChecked
import Derived.Test.YtlleakifnjfdkaaGreatRows
import Derived.WalkKit
import Derived.ProofKit
import Derived.OpenShut
import Derived.ShutString
import Derived.Below
import Derived.Lib.SmallJoins
import Derived.Deep.Strs
import Derived.Deep.Cut
namespace Go.Proofs.YtlleakifnjfdkaaGreat
set_option maxRecDepth 100000
open Go.RowKit
set_option linter.unusedVariables false
set_option linter.unusedSimpArgs false
def gz6 : Array Value := #[.bool false, .slice none 0 0, .slice none 0 0, .bool false, .slice none 0 0, .slice none 0 0]
def gz3 : Array Value := #[.bool false, .slice none 0 0, .slice none 0 0]
def gcB (X V : World) (b : Nat) : Prop := Box V b 26 gz6 ∧ X.heap.size ≤ b
def gcC (X V : World) (b : Nat) : Prop := Box V b 24 gz3 ∧ X.heap.size ≤ b
theorem gcB.later {X V W : World} {b : Nat} (h : gcB X V b) (hb : Below V.heap.size V W) : gcB X W b := ⟨h.1.later hb h.1.lt, h.2⟩
theorem gcC.later {X V W : World} {b : Nat} (h : gcC X V b) (hb : Below V.heap.size V W) : gcC X W b := ⟨h.1.later hb h.1.lt, h.2⟩
theorem gcB.made {X V : World} (h : Below X.heap.size X V) : gcB X (V.alloc (.cells gz6 26)) V.heap.size := ⟨Box.made V _ _, h.size⟩
theorem gcC.made {X V : World} (h : Below X.heap.size X V) : gcC X (V.alloc (.cells gz3 24)) V.heap.size := ⟨Box.made V _ _, h.size⟩
def gcP (X V : World) (p a : G6) (l : List G6) : Prop := p.Lt a V X.heap.size ∧ GCh X.heap.size l V.heap.size
theorem gcP.later {X V W : World} {p a : G6} {l : List G6} (h : gcP X V p a l) (hb : Below V.heap.size V W) : gcP X W p a l := ⟨h.1.later hb, h.2.mono hb.size⟩
theorem gst_two {W : World} {base : Nat} {p q : G6} {bp bq : Nat} (h1 : Box W bq 26 (gv q)) (o1 : q.Ow W base) (h2 : Box W bp 26 (gv p)) (o2 : p.Ow W base) : GSt W base [(bq, q), (bp, p)] := by
  intro x hx
  simp only [List.mem_cons, List.not_mem_nil, or_false] at hx
  rcases hx with rfl | rfl
  · exact ⟨h1, o1⟩
  · exact ⟨h2, o2⟩
def gc_o1 : Oper := { dst := some 52, op := Op.call { callee := Callee.value (Operand.func 6), args := #[Operand.tmp 51], argTypes := #[26] }, type := 26, pos := "law.go:33", after := #[{ on := 0, ground := Ground.data }], guard := none }
def gc_o3 : Oper := { dst := some 54, op := Op.call { callee := Callee.value (Operand.func 6), args := #[Operand.tmp 53], argTypes := #[26] }, type := 26, pos := "law.go:33", after := #[{ on := 2, ground := Ground.data }, { on := 1, ground := Ground.chain }], guard := none }
def gc_o5 : Oper := { dst := some 56, op := Op.call { callee := Callee.value (Operand.func 7), args := #[Operand.tmp 55], argTypes := #[24] }, type := 24, pos := "law.go:33", after := #[{ on := 4, ground := Ground.data }, { on := 3, ground := Ground.chain }], guard := none }
def gc_o6 : Oper := { dst := some 7, op := Op.alloc 26, type := 0, pos := "law.go:33", after := #[], guard := none }
def gc_o7 : Oper := { dst := some 8, op := Op.alloc 26, type := 0, pos := "law.go:33", after := #[], guard := none }
def gc_o8 : Oper := { dst := some 9, op := Op.alloc 24, type := 0, pos := "law.go:33", after := #[], guard := none }
def gc_region_ops : Array Oper := #[{ dst := some 51, op := Op.load 26 (Operand.tmp 3), type := 26, pos := "law.go:33", after := #[], guard := none }, { dst := some 52, op := Op.call { callee := Callee.value (Operand.func 6), args := #[Operand.tmp 51], argTypes := #[26] }, type := 26, pos := "law.go:33", after := #[{ on := 0, ground := Ground.data }], guard := none }, { dst := some 53, op := Op.load 26 (Operand.tmp 4), type := 26, pos := "law.go:33", after := #[], guard := none }, { dst := some 54, op := Op.call { callee := Callee.value (Operand.func 6), args := #[Operand.tmp 53], argTypes := #[26] }, type := 26, pos := "law.go:33", after := #[{ on := 2, ground := Ground.data }, { on := 1, ground := Ground.chain }], guard := none }, { dst := some 55, op := Op.load 24 (Operand.tmp 5), type := 24, pos := "law.go:33", after := #[], guard := none }, { dst := some 56, op := Op.call { callee := Callee.value (Operand.func 7), args := #[Operand.tmp 55], argTypes := #[24] }, type := 24, pos := "law.go:33", after := #[{ on := 4, ground := Ground.data }, { on := 3, ground := Ground.chain }], guard := none }, { dst := some 7, op := Op.alloc 26, type := 0, pos := "law.go:33", after := #[], guard := none }, { dst := some 8, op := Op.alloc 26, type := 0, pos := "law.go:33", after := #[], guard := none }, { dst := some 9, op := Op.alloc 24, type := 0, pos := "law.go:33", after := #[], guard := none }, { dst := none, op := Op.store 26 (Operand.tmp 7) (Operand.tmp 52), type := 0, pos := "law.go:33", after := #[{ on := 6, ground := Ground.data }, { on := 1, ground := Ground.data }, { on := 5, ground := Ground.chain }, { on := 0, ground := Ground.phase }, { on := 1, ground := Ground.phase }, { on := 2, ground := Ground.textOnly Departure.lateStores }, { on := 3, ground := Ground.textOnly Departure.lateStoresUnsure }, { on := 4, ground := Ground.textOnly Departure.lateStores }, { on := 5, ground := Ground.textOnly Departure.lateStoresUnsure }, { on := 6, ground := Ground.phase }, { on := 7, ground := Ground.phase }, { on := 8, ground := Ground.phase }], guard := none }, { dst := none, op := Op.store 26 (Operand.tmp 8) (Operand.tmp 54), type := 0, pos := "law.go:33", after := #[{ on := 7, ground := Ground.data }, { on := 3, ground := Ground.data }, { on := 9, ground := Ground.chain }, { on := 0, ground := Ground.phase }, { on := 1, ground := Ground.phase }, { on := 2, ground := Ground.phase }, { on := 3, ground := Ground.phase }, { on := 4, ground := Ground.textOnly Departure.lateStores }, { on := 5, ground := Ground.textOnly Departure.lateStoresUnsure }, { on := 6, ground := Ground.phase }, { on := 7, ground := Ground.phase }, { on := 8, ground := Ground.phase }, { on := 9, ground := Ground.phase }], guard := none }, { dst := none, op := Op.store 24 (Operand.tmp 9) (Operand.tmp 56), type := 0, pos := "law.go:33", after := #[{ on := 8, ground := Ground.data }, { on := 5, ground := Ground.data }, { on := 10, ground := Ground.chain }, { on := 0, ground := Ground.phase }, { on := 1, ground := Ground.phase }, { on := 2, ground := Ground.phase }, { on := 3, ground := Ground.phase }, { on := 4, ground := Ground.phase }, { on := 5, ground := Ground.phase }, { on := 6, ground := Ground.phase }, { on := 7, ground := Ground.phase }, { on := 8, ground := Ground.phase }, { on := 9, ground := Ground.phase }, { on := 10, ground := Ground.phase }], guard := none }]
set_option maxHeartbeats 6400000 in
theorem gc_region (X : World) (a b : G6) (r : F3) (ba bb br : Nat) (HA0 : Hid (Box X ba 26 (gv a))) (HB0 : Hid (Box X bb 26 (gv b))) (HR0 : Hid (Box X br 24 (fv r))) (HL : Hid (∀ V, Below X.heap.size X V → a.Sl4 V ∧ b.Sl4 V ∧ r.Sl2 V)) (HNa : Hid (a.xs.length ≤ 3000 ∧ a.ys.length ≤ 3000 ∧ a.us.length ≤ 3000 ∧ a.vs.length ≤ 3000)) (HNb : Hid (b.xs.length ≤ 3000 ∧ b.ys.length ≤ 3000 ∧ b.us.length ≤ 3000 ∧ b.vs.length ≤ 3000)) (HNr : Hid (r.xs.length ≤ 3000 ∧ r.ys.length ≤ 3000)) (t0 t1 t2 t6 t7 t8 t9 t10 t11 t12 t13 t14 t15 t16 t17 t18 t19 t20 t21 t22 t23 t24 t25 t26 t27 t28 t29 t30 t31 t32 t33 t34 t35 t36 t37 t38 t39 t40 t41 t42 t43 t44 t45 t46 t47 t48 t49 t50 t51 t52 t53 t54 t55 t56 : Value) (rest : List Value) (Q : Exit → Act → World → Prop)
    (hQ : ∀ (p : G6) (q : G6) (s : F3) (bp : Nat) (bq : Nat) (bs : Nat) (u51 : Value) (u52 : Value) (u53 : Value) (u54 : Value) (u55 : Value) (u56 : Value) (F : World), Hid (GSt F X.heap.size [(bq, q), (bp, p)] ∧ Box F bs 24 (fv s) ∧ p.Lt a F X.heap.size ∧ q.Lt b F X.heap.size ∧ s.Lt r F X.heap.size ∧ GCh X.heap.size [q, p] F.heap.size ∧ Below X.heap.size X F) → Q .normal { tmps := (List.toArray (t0 :: t1 :: t2 :: (.pointer (some ⟨ba, 0, none⟩)) :: (.pointer (some ⟨bb, 0, none⟩)) :: (.pointer (some ⟨br, 0, none⟩)) :: t6 :: (.pointer (some ⟨bp, 0, none⟩)) :: (.pointer (some ⟨bq, 0, none⟩)) :: (.pointer (some ⟨bs, 0, none⟩)) :: t10 :: t11 :: t12 :: t13 :: t14 :: t15 :: t16 :: t17 :: t18 :: t19 :: t20 :: t21 :: t22 :: t23 :: t24 :: t25 :: t26 :: t27 :: t28 :: t29 :: t30 :: t31 :: t32 :: t33 :: t34 :: t35 :: t36 :: t37 :: t38 :: t39 :: t40 :: t41 :: t42 :: t43 :: t44 :: t45 :: t46 :: t47 :: t48 :: t49 :: t50 :: u51 :: u52 :: u53 :: u54 :: u55 :: u56 :: rest)), defers := [] } F) :
    Code.wp Tryz.prog (Code.region 3 gc_region_ops true) Q { tmps := (List.toArray (t0 :: t1 :: t2 :: (.pointer (some ⟨ba, 0, none⟩)) :: (.pointer (some ⟨bb, 0, none⟩)) :: (.pointer (some ⟨br, 0, none⟩)) :: t6 :: t7 :: t8 :: t9 :: t10 :: t11 :: t12 :: t13 :: t14 :: t15 :: t16 :: t17 :: t18 :: t19 :: t20 :: t21 :: t22 :: t23 :: t24 :: t25 :: t26 :: t27 :: t28 :: t29 :: t30 :: t31 :: t32 :: t33 :: t34 :: t35 :: t36 :: t37 :: t38 :: t39 :: t40 :: t41 :: t42 :: t43 :: t44 :: t45 :: t46 :: t47 :: t48 :: t49 :: t50 :: t51 :: t52 :: t53 :: t54 :: t55 :: t56 :: rest)), defers := [] } X := by
  have HQ := hid hQ
  clear hQ
  have HK : Hid (∀ V, Below X.heap.size X V → V.cell? ⟨ba, 0, none⟩ = some (.bool a.n) ∧ V.cell? ⟨ba, 1, none⟩ = some (.slice a.a a.xs.length a.ca) ∧ V.cell? ⟨ba, 2, none⟩ = some (.slice a.b a.ys.length a.cb) ∧ V.cell? ⟨ba, 3, none⟩ = some (.bool a.m) ∧ V.cell? ⟨ba, 4, none⟩ = some (.slice a.c a.us.length a.cc) ∧ V.cell? ⟨ba, 5, none⟩ = some (.slice a.d a.vs.length a.cd) ∧ V.cell? ⟨bb, 0, none⟩ = some (.bool b.n) ∧ V.cell? ⟨bb, 1, none⟩ = some (.slice b.a b.xs.length b.ca) ∧ V.cell? ⟨bb, 2, none⟩ = some (.slice b.b b.ys.length b.cb) ∧ V.cell? ⟨bb, 3, none⟩ = some (.bool b.m) ∧ V.cell? ⟨bb, 4, none⟩ = some (.slice b.c b.us.length b.cc) ∧ V.cell? ⟨bb, 5, none⟩ = some (.slice b.d b.vs.length b.cd) ∧ V.cell? ⟨br, 0, none⟩ = some (.bool r.n) ∧ V.cell? ⟨br, 1, none⟩ = some (.slice r.a r.xs.length r.ca) ∧ V.cell? ⟨br, 2, none⟩ = some (.slice r.b r.ys.length r.cb)) := fun V hb => by
    have k1 := HA0.out.later hb HA0.out.lt
    have k2 := HB0.out.later hb HB0.out.lt
    have k3 := HR0.out.later hb HR0.out.lt
    exact ⟨k1.cell 0, k1.cell 1, k1.cell 2, k1.cell 3, k1.cell 4, k1.cell 5, k2.cell 0, k2.cell 1, k2.cell 2, k2.cell 3, k2.cell 4, k2.cell 5, k3.cell 0, k3.cell 1, k3.cell 2⟩
  clear HA0 HB0 HR0
  have F_1_3_5_6_7_8 : Hid (∀ listed, listed = #[true, true, true, true, true, true, true, true, true, false, false, false] → ∀ (V : World) (p : G6) (q : G6) (s : F3) (bp : Nat) (bq : Nat) (bs : Nat), Hid ((Below X.heap.size X V) ∧ (gcP X V p a [p]) ∧ (gcP X V q b [q, p]) ∧ (s.Lt r V X.heap.size) ∧ (gcB X V bp) ∧ (gcB X V bq) ∧ (gcC X V bs) ∧ (bp ≠ bq) ∧ (bp ≠ bs) ∧ (bq ≠ bs)) → wpAnyH Tryz.prog .any gc_region_ops (NoPanic Q) (fun V : World => Below X.heap.size X V) 3 listed { tmps := (List.toArray (t0 :: t1 :: t2 :: (.pointer (some ⟨ba, 0, none⟩)) :: (.pointer (some ⟨bb, 0, none⟩)) :: (.pointer (some ⟨br, 0, none⟩)) :: t6 :: (.pointer (some ⟨bp, 0, none⟩)) :: (.pointer (some ⟨bq, 0, none⟩)) :: (.pointer (some ⟨bs, 0, none⟩)) :: t10 :: t11 :: t12 :: t13 :: t14 :: t15 :: t16 :: t17 :: t18 :: t19 :: t20 :: t21 :: t22 :: t23 :: t24 :: t25 :: t26 :: t27 :: t28 :: t29 :: t30 :: t31 :: t32 :: t33 :: t34 :: t35 :: t36 :: t37 :: t38 :: t39 :: t40 :: t41 :: t42 :: t43 :: t44 :: t45 :: t46 :: t47 :: t48 :: t49 :: t50 :: (.agg (gv a)) :: (.agg (gv p)) :: (.agg (gv b)) :: (.agg (gv q)) :: (.agg (fv r)) :: (.agg (fv s)) :: rest)), defers := [] } V) := by
    rintro _ rfl V p q s bp bq bs HR
    have HBL := hid HR.out.1
    have T1 := hid (HR.out.2.1).1
    have T2 := hid (HR.out.2.2.1).1
    have T3 := hid HR.out.2.2.2.1
    have CH := hid (HR.out.2.2.1).2
    have B6 := hid (HR.out.2.2.2.2.1).1
    have B7 := hid (HR.out.2.2.2.2.2.1).1
    have B8 := hid (HR.out.2.2.2.2.2.2.1).1
    have L6 := hid (HR.out.2.2.2.2.1).2
    have L7 := hid (HR.out.2.2.2.2.2.1).2
    have L8 := hid (HR.out.2.2.2.2.2.2.1).2
    have N1 := hid HR.out.2.2.2.2.2.2.2.1
    have N2 := hid HR.out.2.2.2.2.2.2.2.2.1
    have N3 := hid HR.out.2.2.2.2.2.2.2.2.2
    clear HR
    simp only [gv, fv]
    obtain ⟨A0, A1, A2, A3, A4, A5, x0, x1, x2, x3, x4, x5, ⟨y0, y1, y2, y3, y4, y5⟩, ⟨f0, f1, f2, f3, f4, f5⟩, HA⟩ := rchain6 B6.out (by decide) (.bool p.n) (.slice p.a p.xs.length p.ca) (.slice p.b p.ys.length p.cb) (.bool p.m) (.slice p.c p.us.length p.cc) (.slice p.d p.vs.length p.cd)
    have HBE := hid (HA.out.2.2.2.1 _ _ L6.out HBL.out)
    have S6 := hid HA.out.1
    have S7 := hid (HA.out.2.1 _ _ _ (Ne.symm N1.out) B7.out)
    have S8 := hid (HA.out.2.1 _ _ _ (Ne.symm N2.out) B8.out)
    have T1a := hid (T1.out.put HA.out.2.2.1)
    have T2a := hid (T2.out.put HA.out.2.2.1)
    have T3a := hid (T3.out.put HA.out.2.2.1)
    have CHa : Hid (GCh X.heap.size [q, p] A5.heap.size) := CH.out.mono (Nat.le_of_eq HA.out.2.2.2.2.symm)
    clear B6 B7 B8 T1 T2 T3 CH HBL HA
    refine wpAnyH_ready (rs := [9]) (by kernel_rfl) (by simp) ?_
    refine AllReadyH.cons (o := { dst := none, op := Op.store 26 (Operand.tmp 7) (Operand.tmp 52), type := 0, pos := "law.go:33", after := #[{ on := 6, ground := Ground.data }, { on := 1, ground := Ground.data }, { on := 5, ground := Ground.chain }, { on := 0, ground := Ground.phase }, { on := 1, ground := Ground.phase }, { on := 2, ground := Ground.textOnly Departure.lateStores }, { on := 3, ground := Ground.textOnly Departure.lateStoresUnsure }, { on := 4, ground := Ground.textOnly Departure.lateStores }, { on := 5, ground := Ground.textOnly Departure.lateStoresUnsure }, { on := 6, ground := Ground.phase }, { on := 7, ground := Ground.phase }, { on := 8, ground := Ground.phase }], guard := none }) rfl (fun K hK => ?_) AllReadyH.nil
    go_simp
    refine hK.out _ _ ?_ (fun hHeld => ?_)
    · exact HBE.out
    clear hK K hHeld x0 x1 x2 x3 x4 x5 y0 y1 y2 y3 y4 y5 f0 f1 f2 f3 f4 f5
    try go_frame
    have HBL := HBE
    clear HBE
    obtain ⟨D0, D1, D2, D3, D4, D5, x0, x1, x2, x3, x4, x5, ⟨y0, y1, y2, y3, y4, y5⟩, ⟨f0, f1, f2, f3, f4, f5⟩, HA⟩ := rchain6 S7.out (by decide) (.bool q.n) (.slice q.a q.xs.length q.ca) (.slice q.b q.ys.length q.cb) (.bool q.m) (.slice q.c q.us.length q.cc) (.slice q.d q.vs.length q.cd)
    have HBE := hid (HA.out.2.2.2.1 _ _ L7.out HBL.out)
    have R7 := hid HA.out.1
    have R6 := hid (HA.out.2.1 _ _ _ N1.out S6.out)
    have R8 := hid (HA.out.2.1 _ _ _ (Ne.symm N3.out) S8.out)
    have T1b := hid (T1a.out.put HA.out.2.2.1)
    have T2b := hid (T2a.out.put HA.out.2.2.1)
    have T3b := hid (T3a.out.put HA.out.2.2.1)
    have CHb : Hid (GCh X.heap.size [q, p] D5.heap.size) := CHa.out.mono (Nat.le_of_eq HA.out.2.2.2.2.symm)
    clear S6 S7 S8 T1a T2a T3a CHa HBL HA
    refine wpAnyH_ready (rs := [10]) (by kernel_rfl) (by simp) ?_
    refine AllReadyH.cons (o := { dst := none, op := Op.store 26 (Operand.tmp 8) (Operand.tmp 54), type := 0, pos := "law.go:33", after := #[{ on := 7, ground := Ground.data }, { on := 3, ground := Ground.data }, { on := 9, ground := Ground.chain }, { on := 0, ground := Ground.phase }, { on := 1, ground := Ground.phase }, { on := 2, ground := Ground.phase }, { on := 3, ground := Ground.phase }, { on := 4, ground := Ground.textOnly Departure.lateStores }, { on := 5, ground := Ground.textOnly Departure.lateStoresUnsure }, { on := 6, ground := Ground.phase }, { on := 7, ground := Ground.phase }, { on := 8, ground := Ground.phase }, { on := 9, ground := Ground.phase }], guard := none }) rfl (fun K hK => ?_) AllReadyH.nil
    go_simp
    refine hK.out _ _ ?_ (fun hHeld => ?_)
    · exact HBE.out
    clear hK K hHeld x0 x1 x2 x3 x4 x5 y0 y1 y2 y3 y4 y5 f0 f1 f2 f3 f4 f5
    try go_frame
    have HBL := HBE
    clear HBE
    obtain ⟨E0, E1, E2, x0, x1, x2, ⟨y0, y1, y2⟩, ⟨f0, f1, f2⟩, HA⟩ := rchain3 R8.out (by decide) (.bool s.n) (.slice s.a s.xs.length s.ca) (.slice s.b s.ys.length s.cb)
    have HBE := hid (HA.out.2.2.2.1 _ _ L8.out HBL.out)
    have Q8 := hid HA.out.1
    have Q6 := hid (HA.out.2.1 _ _ _ N2.out R6.out)
    have Q7 := hid (HA.out.2.1 _ _ _ N3.out R7.out)
    have T1c := hid (T1b.out.put HA.out.2.2.1)
    have T2c := hid (T2b.out.put HA.out.2.2.1)
    have T3c := hid (T3b.out.put HA.out.2.2.1)
    have CHc : Hid (GCh X.heap.size [q, p] E2.heap.size) := CHb.out.mono (Nat.le_of_eq HA.out.2.2.2.2.symm)
    clear R6 R7 R8 T1b T2b T3b CHb HBL HA
    refine wpAnyH_ready (rs := [11]) (by kernel_rfl) (by simp) ?_
    refine AllReadyH.cons (o := { dst := none, op := Op.store 24 (Operand.tmp 9) (Operand.tmp 56), type := 0, pos := "law.go:33", after := #[{ on := 8, ground := Ground.data }, { on := 5, ground := Ground.data }, { on := 10, ground := Ground.chain }, { on := 0, ground := Ground.phase }, { on := 1, ground := Ground.phase }, { on := 2, ground := Ground.phase }, { on := 3, ground := Ground.phase }, { on := 4, ground := Ground.phase }, { on := 5, ground := Ground.phase }, { on := 6, ground := Ground.phase }, { on := 7, ground := Ground.phase }, { on := 8, ground := Ground.phase }, { on := 9, ground := Ground.phase }, { on := 10, ground := Ground.phase }], guard := none }) rfl (fun K hK => ?_) AllReadyH.nil
    go_simp
    refine hK.out _ _ ?_ (fun hHeld => ?_)
    · exact HBE.out
    clear hK K hHeld x0 x1 x2 y0 y1 y2 f0 f1 f2
    try go_frame
    refine wpAnyH_done (by kernel_rfl) ?_ _
    refine NoPanic.normal ?_
    exact HQ.out p q s bp bq bs _ _ _ _ _ _ _ (hid ⟨gst_two Q7.out T2c.out.ow Q6.out T1c.out.ow, Q8.out, T1c.out, T2c.out, T3c.out, CHc.out, HBE.out⟩)
  have F_1_3_5_6_7 : Hid (∀ listed, listed = #[true, true, true, true, true, true, true, true, false, false, false, false] → ∀ (V : World) (p : G6) (q : G6) (s : F3) (bp : Nat) (bq : Nat), Hid ((Below X.heap.size X V) ∧ (gcP X V p a [p]) ∧ (gcP X V q b [q, p]) ∧ (s.Lt r V X.heap.size) ∧ (gcB X V bp) ∧ (gcB X V bq) ∧ (bp ≠ bq)) → wpAnyH Tryz.prog .any gc_region_ops (NoPanic Q) (fun V : World => Below X.heap.size X V) 4 listed { tmps := (List.toArray (t0 :: t1 :: t2 :: (.pointer (some ⟨ba, 0, none⟩)) :: (.pointer (some ⟨bb, 0, none⟩)) :: (.pointer (some ⟨br, 0, none⟩)) :: t6 :: (.pointer (some ⟨bp, 0, none⟩)) :: (.pointer (some ⟨bq, 0, none⟩)) :: t9 :: t10 :: t11 :: t12 :: t13 :: t14 :: t15 :: t16 :: t17 :: t18 :: t19 :: t20 :: t21 :: t22 :: t23 :: t24 :: t25 :: t26 :: t27 :: t28 :: t29 :: t30 :: t31 :: t32 :: t33 :: t34 :: t35 :: t36 :: t37 :: t38 :: t39 :: t40 :: t41 :: t42 :: t43 :: t44 :: t45 :: t46 :: t47 :: t48 :: t49 :: t50 :: (.agg (gv a)) :: (.agg (gv p)) :: (.agg (gv b)) :: (.agg (gv q)) :: (.agg (fv r)) :: (.agg (fv s)) :: rest)), defers := [] } V) := by
    rintro _ rfl V p q s bp bq HR
    refine wpAnyH_ready (rs := [8]) (by kernel_rfl) (by simp) ?_
    refine AllReadyH.cons (o := gc_o8) rfl (fun K hK => ?_) ?_
    · unfold gc_o8
      go_simp
      have hb := alloc_later V (.cells gz3 24)
      have new := gcC.made (HR.out.1)
      have HB2 := hid (bt HR.out.1 hb)
      refine hK.out _ _ ?_ (fun hHeld => ?_)
      · exact HB2.out
      clear hK K
      try go_frame
      exact F_1_3_5_6_7_8.out _ (by kernel_rfl) _ p q s bp bq V.heap.size (hid ⟨HB2.out, (HR.out.2.1).later hb, (HR.out.2.2.1).later hb, (HR.out.2.2.2.1).later hb, (HR.out.2.2.2.2.1).later hb, (HR.out.2.2.2.2.2.1).later hb, new, HR.out.2.2.2.2.2.2, (by have := (HR.out.2.2.2.2.1).1.lt; omega), (by have := (HR.out.2.2.2.2.2.1).1.lt; omega)⟩)
    exact AllReadyH.nil
  have F_1_3_5_6_8 : Hid (∀ listed, listed = #[true, true, true, true, true, true, true, false, true, false, false, false] → ∀ (V : World) (p : G6) (q : G6) (s : F3) (bp : Nat) (bs : Nat), Hid ((Below X.heap.size X V) ∧ (gcP X V p a [p]) ∧ (gcP X V q b [q, p]) ∧ (s.Lt r V X.heap.size) ∧ (gcB X V bp) ∧ (gcC X V bs) ∧ (bp ≠ bs)) → wpAnyH Tryz.prog .any gc_region_ops (NoPanic Q) (fun V : World => Below X.heap.size X V) 4 listed { tmps := (List.toArray (t0 :: t1 :: t2 :: (.pointer (some ⟨ba, 0, none⟩)) :: (.pointer (some ⟨bb, 0, none⟩)) :: (.pointer (some ⟨br, 0, none⟩)) :: t6 :: (.pointer (some ⟨bp, 0, none⟩)) :: t8 :: (.pointer (some ⟨bs, 0, none⟩)) :: t10 :: t11 :: t12 :: t13 :: t14 :: t15 :: t16 :: t17 :: t18 :: t19 :: t20 :: t21 :: t22 :: t23 :: t24 :: t25 :: t26 :: t27 :: t28 :: t29 :: t30 :: t31 :: t32 :: t33 :: t34 :: t35 :: t36 :: t37 :: t38 :: t39 :: t40 :: t41 :: t42 :: t43 :: t44 :: t45 :: t46 :: t47 :: t48 :: t49 :: t50 :: (.agg (gv a)) :: (.agg (gv p)) :: (.agg (gv b)) :: (.agg (gv q)) :: (.agg (fv r)) :: (.agg (fv s)) :: rest)), defers := [] } V) := by
    rintro _ rfl V p q s bp bs HR
    refine wpAnyH_ready (rs := [7]) (by kernel_rfl) (by simp) ?_
    refine AllReadyH.cons (o := gc_o7) rfl (fun K hK => ?_) ?_
    · unfold gc_o7
      go_simp
      have hb := alloc_later V (.cells gz6 26)
      have new := gcB.made (HR.out.1)
      have HB2 := hid (bt HR.out.1 hb)
      refine hK.out _ _ ?_ (fun hHeld => ?_)
      · exact HB2.out
      clear hK K
      try go_frame
      exact F_1_3_5_6_7_8.out _ (by kernel_rfl) _ p q s bp V.heap.size bs (hid ⟨HB2.out, (HR.out.2.1).later hb, (HR.out.2.2.1).later hb, (HR.out.2.2.2.1).later hb, (HR.out.2.2.2.2.1).later hb, new, (HR.out.2.2.2.2.2.1).later hb, (by have := (HR.out.2.2.2.2.1).1.lt; omega), HR.out.2.2.2.2.2.2, (by have := (HR.out.2.2.2.2.2.1).1.lt; omega)⟩)
    exact AllReadyH.nil
  have F_1_3_5_7_8 : Hid (∀ listed, listed = #[true, true, true, true, true, true, false, true, true, false, false, false] → ∀ (V : World) (p : G6) (q : G6) (s : F3) (bq : Nat) (bs : Nat), Hid ((Below X.heap.size X V) ∧ (gcP X V p a [p]) ∧ (gcP X V q b [q, p]) ∧ (s.Lt r V X.heap.size) ∧ (gcB X V bq) ∧ (gcC X V bs) ∧ (bq ≠ bs)) → wpAnyH Tryz.prog .any gc_region_ops (NoPanic Q) (fun V : World => Below X.heap.size X V) 4 listed { tmps := (List.toArray (t0 :: t1 :: t2 :: (.pointer (some ⟨ba, 0, none⟩)) :: (.pointer (some ⟨bb, 0, none⟩)) :: (.pointer (some ⟨br, 0, none⟩)) :: t6 :: t7 :: (.pointer (some ⟨bq, 0, none⟩)) :: (.pointer (some ⟨bs, 0, none⟩)) :: t10 :: t11 :: t12 :: t13 :: t14 :: t15 :: t16 :: t17 :: t18 :: t19 :: t20 :: t21 :: t22 :: t23 :: t24 :: t25 :: t26 :: t27 :: t28 :: t29 :: t30 :: t31 :: t32 :: t33 :: t34 :: t35 :: t36 :: t37 :: t38 :: t39 :: t40 :: t41 :: t42 :: t43 :: t44 :: t45 :: t46 :: t47 :: t48 :: t49 :: t50 :: (.agg (gv a)) :: (.agg (gv p)) :: (.agg (gv b)) :: (.agg (gv q)) :: (.agg (fv r)) :: (.agg (fv s)) :: rest)), defers := [] } V) := by
    rintro _ rfl V p q s bq bs HR
    refine wpAnyH_ready (rs := [6]) (by kernel_rfl) (by simp) ?_
    refine AllReadyH.cons (o := gc_o6) rfl (fun K hK => ?_) ?_
    · unfold gc_o6
      go_simp
      have hb := alloc_later V (.cells gz6 26)
      have new := gcB.made (HR.out.1)
      have HB2 := hid (bt HR.out.1 hb)
      refine hK.out _ _ ?_ (fun hHeld => ?_)
      · exact HB2.out
      clear hK K
      try go_frame
      exact F_1_3_5_6_7_8.out _ (by kernel_rfl) _ p q s V.heap.size bq bs (hid ⟨HB2.out, (HR.out.2.1).later hb, (HR.out.2.2.1).later hb, (HR.out.2.2.2.1).later hb, new, (HR.out.2.2.2.2.1).later hb, (HR.out.2.2.2.2.2.1).later hb, (by have := (HR.out.2.2.2.2.1).1.lt; omega), (by have := (HR.out.2.2.2.2.2.1).1.lt; omega), HR.out.2.2.2.2.2.2⟩)
    exact AllReadyH.nil
  have F_1_3_6_7_8 : Hid (∀ listed, listed = #[true, true, true, true, true, false, true, true, true, false, false, false] → ∀ (V : World) (p : G6) (q : G6) (bp : Nat) (bq : Nat) (bs : Nat), Hid ((Below X.heap.size X V) ∧ (gcP X V p a [p]) ∧ (gcP X V q b [q, p]) ∧ (gcB X V bp) ∧ (gcB X V bq) ∧ (gcC X V bs) ∧ (bp ≠ bq) ∧ (bp ≠ bs) ∧ (bq ≠ bs)) → wpAnyH Tryz.prog .any gc_region_ops (NoPanic Q) (fun V : World => Below X.heap.size X V) 4 listed { tmps := (List.toArray (t0 :: t1 :: t2 :: (.pointer (some ⟨ba, 0, none⟩)) :: (.pointer (some ⟨bb, 0, none⟩)) :: (.pointer (some ⟨br, 0, none⟩)) :: t6 :: (.pointer (some ⟨bp, 0, none⟩)) :: (.pointer (some ⟨bq, 0, none⟩)) :: (.pointer (some ⟨bs, 0, none⟩)) :: t10 :: t11 :: t12 :: t13 :: t14 :: t15 :: t16 :: t17 :: t18 :: t19 :: t20 :: t21 :: t22 :: t23 :: t24 :: t25 :: t26 :: t27 :: t28 :: t29 :: t30 :: t31 :: t32 :: t33 :: t34 :: t35 :: t36 :: t37 :: t38 :: t39 :: t40 :: t41 :: t42 :: t43 :: t44 :: t45 :: t46 :: t47 :: t48 :: t49 :: t50 :: (.agg (gv a)) :: (.agg (gv p)) :: (.agg (gv b)) :: (.agg (gv q)) :: (.agg (fv r)) :: t56 :: rest)), defers := [] } V) := by
    rintro _ rfl V p q bp bq bs HR
    refine wpAnyH_ready (rs := [5]) (by kernel_rfl) (by simp) ?_
    refine AllReadyH.cons (o := gc_o5) rfl (fun K hK => ?_) ?_
    · unfold gc_o5
      go_simp
      refine Calls.mono (gcLentR r V (HL.out V HR.out.1).2.2 HNr.out.1 HNr.out.2) ?_
      rintro e V' ⟨s, rfl, o1, hb⟩
      dsimp only
      have new : s.Lt r V' X.heap.size := o1.out.base (HR.out.1).size
      have HB2 := hid (bt HR.out.1 hb)
      refine hK.out _ _ ?_ (fun hHeld => ?_)
      · exact HB2.out
      clear hK K
      try go_frame
      exact F_1_3_5_6_7_8.out _ (by kernel_rfl) _ p q s bp bq bs (hid ⟨HB2.out, (HR.out.2.1).later hb, (HR.out.2.2.1).later hb, new, (HR.out.2.2.2.1).later hb, (HR.out.2.2.2.2.1).later hb, (HR.out.2.2.2.2.2.1).later hb, HR.out.2.2.2.2.2.2.1, HR.out.2.2.2.2.2.2.2.1, HR.out.2.2.2.2.2.2.2.2⟩)
    exact AllReadyH.nil
  have F_1_3_5_6 : Hid (∀ listed, listed = #[true, true, true, true, true, true, true, false, false, false, false, false] → ∀ (V : World) (p : G6) (q : G6) (s : F3) (bp : Nat), Hid ((Below X.heap.size X V) ∧ (gcP X V p a [p]) ∧ (gcP X V q b [q, p]) ∧ (s.Lt r V X.heap.size) ∧ (gcB X V bp)) → wpAnyH Tryz.prog .any gc_region_ops (NoPanic Q) (fun V : World => Below X.heap.size X V) 5 listed { tmps := (List.toArray (t0 :: t1 :: t2 :: (.pointer (some ⟨ba, 0, none⟩)) :: (.pointer (some ⟨bb, 0, none⟩)) :: (.pointer (some ⟨br, 0, none⟩)) :: t6 :: (.pointer (some ⟨bp, 0, none⟩)) :: t8 :: t9 :: t10 :: t11 :: t12 :: t13 :: t14 :: t15 :: t16 :: t17 :: t18 :: t19 :: t20 :: t21 :: t22 :: t23 :: t24 :: t25 :: t26 :: t27 :: t28 :: t29 :: t30 :: t31 :: t32 :: t33 :: t34 :: t35 :: t36 :: t37 :: t38 :: t39 :: t40 :: t41 :: t42 :: t43 :: t44 :: t45 :: t46 :: t47 :: t48 :: t49 :: t50 :: (.agg (gv a)) :: (.agg (gv p)) :: (.agg (gv b)) :: (.agg (gv q)) :: (.agg (fv r)) :: (.agg (fv s)) :: rest)), defers := [] } V) := by
    rintro _ rfl V p q s bp HR
    refine wpAnyH_ready (rs := [7, 8]) (by kernel_rfl) (by simp) ?_
    refine AllReadyH.cons (o := gc_o7) rfl (fun K hK => ?_) ?_
    · unfold gc_o7
      go_simp
      have hb := alloc_later V (.cells gz6 26)
      have new := gcB.made (HR.out.1)
      have HB2 := hid (bt HR.out.1 hb)
      refine hK.out _ _ ?_ (fun hHeld => ?_)
      · exact HB2.out
      clear hK K
      try go_frame
      exact F_1_3_5_6_7.out _ (by kernel_rfl) _ p q s bp V.heap.size (hid ⟨HB2.out, (HR.out.2.1).later hb, (HR.out.2.2.1).later hb, (HR.out.2.2.2.1).later hb, (HR.out.2.2.2.2).later hb, new, (by have := (HR.out.2.2.2.2).1.lt; omega)⟩)
    refine AllReadyH.cons (o := gc_o8) rfl (fun K hK => ?_) ?_
    · unfold gc_o8
      go_simp
      have hb := alloc_later V (.cells gz3 24)
      have new := gcC.made (HR.out.1)
      have HB2 := hid (bt HR.out.1 hb)
      refine hK.out _ _ ?_ (fun hHeld => ?_)
      · exact HB2.out
      clear hK K
      try go_frame
      exact F_1_3_5_6_8.out _ (by kernel_rfl) _ p q s bp V.heap.size (hid ⟨HB2.out, (HR.out.2.1).later hb, (HR.out.2.2.1).later hb, (HR.out.2.2.2.1).later hb, (HR.out.2.2.2.2).later hb, new, (by have := (HR.out.2.2.2.2).1.lt; omega)⟩)
    exact AllReadyH.nil
  have F_1_3_5_7 : Hid (∀ listed, listed = #[true, true, true, true, true, true, false, true, false, false, false, false] → ∀ (V : World) (p : G6) (q : G6) (s : F3) (bq : Nat), Hid ((Below X.heap.size X V) ∧ (gcP X V p a [p]) ∧ (gcP X V q b [q, p]) ∧ (s.Lt r V X.heap.size) ∧ (gcB X V bq)) → wpAnyH Tryz.prog .any gc_region_ops (NoPanic Q) (fun V : World => Below X.heap.size X V) 5 listed { tmps := (List.toArray (t0 :: t1 :: t2 :: (.pointer (some ⟨ba, 0, none⟩)) :: (.pointer (some ⟨bb, 0, none⟩)) :: (.pointer (some ⟨br, 0, none⟩)) :: t6 :: t7 :: (.pointer (some ⟨bq, 0, none⟩)) :: t9 :: t10 :: t11 :: t12 :: t13 :: t14 :: t15 :: t16 :: t17 :: t18 :: t19 :: t20 :: t21 :: t22 :: t23 :: t24 :: t25 :: t26 :: t27 :: t28 :: t29 :: t30 :: t31 :: t32 :: t33 :: t34 :: t35 :: t36 :: t37 :: t38 :: t39 :: t40 :: t41 :: t42 :: t43 :: t44 :: t45 :: t46 :: t47 :: t48 :: t49 :: t50 :: (.agg (gv a)) :: (.agg (gv p)) :: (.agg (gv b)) :: (.agg (gv q)) :: (.agg (fv r)) :: (.agg (fv s)) :: rest)), defers := [] } V) := by
    rintro _ rfl V p q s bq HR
    refine wpAnyH_ready (rs := [6, 8]) (by kernel_rfl) (by simp) ?_
    refine AllReadyH.cons (o := gc_o6) rfl (fun K hK => ?_) ?_
    · unfold gc_o6
      go_simp
      have hb := alloc_later V (.cells gz6 26)
      have new := gcB.made (HR.out.1)
      have HB2 := hid (bt HR.out.1 hb)
      refine hK.out _ _ ?_ (fun hHeld => ?_)
      · exact HB2.out
      clear hK K
      try go_frame
      exact F_1_3_5_6_7.out _ (by kernel_rfl) _ p q s V.heap.size bq (hid ⟨HB2.out, (HR.out.2.1).later hb, (HR.out.2.2.1).later hb, (HR.out.2.2.2.1).later hb, new, (HR.out.2.2.2.2).later hb, (by have := (HR.out.2.2.2.2).1.lt; omega)⟩)
    refine AllReadyH.cons (o := gc_o8) rfl (fun K hK => ?_) ?_
    · unfold gc_o8
      go_simp
      have hb := alloc_later V (.cells gz3 24)
      have new := gcC.made (HR.out.1)
      have HB2 := hid (bt HR.out.1 hb)
      refine hK.out _ _ ?_ (fun hHeld => ?_)
      · exact HB2.out
      clear hK K
      try go_frame
      exact F_1_3_5_7_8.out _ (by kernel_rfl) _ p q s bq V.heap.size (hid ⟨HB2.out, (HR.out.2.1).later hb, (HR.out.2.2.1).later hb, (HR.out.2.2.2.1).later hb, (HR.out.2.2.2.2).later hb, new, (by have := (HR.out.2.2.2.2).1.lt; omega)⟩)
    exact AllReadyH.nil
  have F_1_3_5_8 : Hid (∀ listed, listed = #[true, true, true, true, true, true, false, false, true, false, false, false] → ∀ (V : World) (p : G6) (q : G6) (s : F3) (bs : Nat), Hid ((Below X.heap.size X V) ∧ (gcP X V p a [p]) ∧ (gcP X V q b [q, p]) ∧ (s.Lt r V X.heap.size) ∧ (gcC X V bs)) → wpAnyH Tryz.prog .any gc_region_ops (NoPanic Q) (fun V : World => Below X.heap.size X V) 5 listed { tmps := (List.toArray (t0 :: t1 :: t2 :: (.pointer (some ⟨ba, 0, none⟩)) :: (.pointer (some ⟨bb, 0, none⟩)) :: (.pointer (some ⟨br, 0, none⟩)) :: t6 :: t7 :: t8 :: (.pointer (some ⟨bs, 0, none⟩)) :: t10 :: t11 :: t12 :: t13 :: t14 :: t15 :: t16 :: t17 :: t18 :: t19 :: t20 :: t21 :: t22 :: t23 :: t24 :: t25 :: t26 :: t27 :: t28 :: t29 :: t30 :: t31 :: t32 :: t33 :: t34 :: t35 :: t36 :: t37 :: t38 :: t39 :: t40 :: t41 :: t42 :: t43 :: t44 :: t45 :: t46 :: t47 :: t48 :: t49 :: t50 :: (.agg (gv a)) :: (.agg (gv p)) :: (.agg (gv b)) :: (.agg (gv q)) :: (.agg (fv r)) :: (.agg (fv s)) :: rest)), defers := [] } V) := by
    rintro _ rfl V p q s bs HR
    refine wpAnyH_ready (rs := [6, 7]) (by kernel_rfl) (by simp) ?_
    refine AllReadyH.cons (o := gc_o6) rfl (fun K hK => ?_) ?_
    · unfold gc_o6
      go_simp
      have hb := alloc_later V (.cells gz6 26)
      have new := gcB.made (HR.out.1)
      have HB2 := hid (bt HR.out.1 hb)
      refine hK.out _ _ ?_ (fun hHeld => ?_)
      · exact HB2.out
      clear hK K
      try go_frame
      exact F_1_3_5_6_8.out _ (by kernel_rfl) _ p q s V.heap.size bs (hid ⟨HB2.out, (HR.out.2.1).later hb, (HR.out.2.2.1).later hb, (HR.out.2.2.2.1).later hb, new, (HR.out.2.2.2.2).later hb, (by have := (HR.out.2.2.2.2).1.lt; omega)⟩)
    refine AllReadyH.cons (o := gc_o7) rfl (fun K hK => ?_) ?_
    · unfold gc_o7
      go_simp
      have hb := alloc_later V (.cells gz6 26)
      have new := gcB.made (HR.out.1)
      have HB2 := hid (bt HR.out.1 hb)
      refine hK.out _ _ ?_ (fun hHeld => ?_)
      · exact HB2.out
      clear hK K
      try go_frame
      exact F_1_3_5_7_8.out _ (by kernel_rfl) _ p q s V.heap.size bs (hid ⟨HB2.out, (HR.out.2.1).later hb, (HR.out.2.2.1).later hb, (HR.out.2.2.2.1).later hb, new, (HR.out.2.2.2.2).later hb, (by have := (HR.out.2.2.2.2).1.lt; omega)⟩)
    exact AllReadyH.nil
  have F_1_3_6_7 : Hid (∀ listed, listed = #[true, true, true, true, true, false, true, true, false, false, false, false] → ∀ (V : World) (p : G6) (q : G6) (bp : Nat) (bq : Nat), Hid ((Below X.heap.size X V) ∧ (gcP X V p a [p]) ∧ (gcP X V q b [q, p]) ∧ (gcB X V bp) ∧ (gcB X V bq) ∧ (bp ≠ bq)) → wpAnyH Tryz.prog .any gc_region_ops (NoPanic Q) (fun V : World => Below X.heap.size X V) 5 listed { tmps := (List.toArray (t0 :: t1 :: t2 :: (.pointer (some ⟨ba, 0, none⟩)) :: (.pointer (some ⟨bb, 0, none⟩)) :: (.pointer (some ⟨br, 0, none⟩)) :: t6 :: (.pointer (some ⟨bp, 0, none⟩)) :: (.pointer (some ⟨bq, 0, none⟩)) :: t9 :: t10 :: t11 :: t12 :: t13 :: t14 :: t15 :: t16 :: t17 :: t18 :: t19 :: t20 :: t21 :: t22 :: t23 :: t24 :: t25 :: t26 :: t27 :: t28 :: t29 :: t30 :: t31 :: t32 :: t33 :: t34 :: t35 :: t36 :: t37 :: t38 :: t39 :: t40 :: t41 :: t42 :: t43 :: t44 :: t45 :: t46 :: t47 :: t48 :: t49 :: t50 :: (.agg (gv a)) :: (.agg (gv p)) :: (.agg (gv b)) :: (.agg (gv q)) :: (.agg (fv r)) :: t56 :: rest)), defers := [] } V) := by
    rintro _ rfl V p q bp bq HR
    refine wpAnyH_ready (rs := [5, 8]) (by kernel_rfl) (by simp) ?_
    refine AllReadyH.cons (o := gc_o5) rfl (fun K hK => ?_) ?_
    · unfold gc_o5
      go_simp
      refine Calls.mono (gcLentR r V (HL.out V HR.out.1).2.2 HNr.out.1 HNr.out.2) ?_
      rintro e V' ⟨s, rfl, o1, hb⟩
      dsimp only
      have new : s.Lt r V' X.heap.size := o1.out.base (HR.out.1).size
      have HB2 := hid (bt HR.out.1 hb)
      refine hK.out _ _ ?_ (fun hHeld => ?_)
      · exact HB2.out
      clear hK K
      try go_frame
      exact F_1_3_5_6_7.out _ (by kernel_rfl) _ p q s bp bq (hid ⟨HB2.out, (HR.out.2.1).later hb, (HR.out.2.2.1).later hb, new, (HR.out.2.2.2.1).later hb, (HR.out.2.2.2.2.1).later hb, HR.out.2.2.2.2.2⟩)
    refine AllReadyH.cons (o := gc_o8) rfl (fun K hK => ?_) ?_
    · unfold gc_o8
      go_simp
      have hb := alloc_later V (.cells gz3 24)
      have new := gcC.made (HR.out.1)
      have HB2 := hid (bt HR.out.1 hb)
      refine hK.out _ _ ?_ (fun hHeld => ?_)
      · exact HB2.out
      clear hK K
      try go_frame
      exact F_1_3_6_7_8.out _ (by kernel_rfl) _ p q bp bq V.heap.size (hid ⟨HB2.out, (HR.out.2.1).later hb, (HR.out.2.2.1).later hb, (HR.out.2.2.2.1).later hb, (HR.out.2.2.2.2.1).later hb, new, HR.out.2.2.2.2.2, (by have := (HR.out.2.2.2.1).1.lt; omega), (by have := (HR.out.2.2.2.2.1).1.lt; omega)⟩)
    exact AllReadyH.nil
  have F_1_3_6_8 : Hid (∀ listed, listed = #[true, true, true, true, true, false, true, false, true, false, false, false] → ∀ (V : World) (p : G6) (q : G6) (bp : Nat) (bs : Nat), Hid ((Below X.heap.size X V) ∧ (gcP X V p a [p]) ∧ (gcP X V q b [q, p]) ∧ (gcB X V bp) ∧ (gcC X V bs) ∧ (bp ≠ bs)) → wpAnyH Tryz.prog .any gc_region_ops (NoPanic Q) (fun V : World => Below X.heap.size X V) 5 listed { tmps := (List.toArray (t0 :: t1 :: t2 :: (.pointer (some ⟨ba, 0, none⟩)) :: (.pointer (some ⟨bb, 0, none⟩)) :: (.pointer (some ⟨br, 0, none⟩)) :: t6 :: (.pointer (some ⟨bp, 0, none⟩)) :: t8 :: (.pointer (some ⟨bs, 0, none⟩)) :: t10 :: t11 :: t12 :: t13 :: t14 :: t15 :: t16 :: t17 :: t18 :: t19 :: t20 :: t21 :: t22 :: t23 :: t24 :: t25 :: t26 :: t27 :: t28 :: t29 :: t30 :: t31 :: t32 :: t33 :: t34 :: t35 :: t36 :: t37 :: t38 :: t39 :: t40 :: t41 :: t42 :: t43 :: t44 :: t45 :: t46 :: t47 :: t48 :: t49 :: t50 :: (.agg (gv a)) :: (.agg (gv p)) :: (.agg (gv b)) :: (.agg (gv q)) :: (.agg (fv r)) :: t56 :: rest)), defers := [] } V) := by
    rintro _ rfl V p q bp bs HR
    refine wpAnyH_ready (rs := [5, 7]) (by kernel_rfl) (by simp) ?_
    refine AllReadyH.cons (o := gc_o5) rfl (fun K hK => ?_) ?_
    · unfold gc_o5
      go_simp
      refine Calls.mono (gcLentR r V (HL.out V HR.out.1).2.2 HNr.out.1 HNr.out.2) ?_
      rintro e V' ⟨s, rfl, o1, hb⟩
      dsimp only
      have new : s.Lt r V' X.heap.size := o1.out.base (HR.out.1).size
      have HB2 := hid (bt HR.out.1 hb)
      refine hK.out _ _ ?_ (fun hHeld => ?_)
      · exact HB2.out
      clear hK K
      try go_frame
      exact F_1_3_5_6_8.out _ (by kernel_rfl) _ p q s bp bs (hid ⟨HB2.out, (HR.out.2.1).later hb, (HR.out.2.2.1).later hb, new, (HR.out.2.2.2.1).later hb, (HR.out.2.2.2.2.1).later hb, HR.out.2.2.2.2.2⟩)
    refine AllReadyH.cons (o := gc_o7) rfl (fun K hK => ?_) ?_
    · unfold gc_o7
      go_simp
      have hb := alloc_later V (.cells gz6 26)
      have new := gcB.made (HR.out.1)
      have HB2 := hid (bt HR.out.1 hb)
      refine hK.out _ _ ?_ (fun hHeld => ?_)
      · exact HB2.out
      clear hK K
      try go_frame
      exact F_1_3_6_7_8.out _ (by kernel_rfl) _ p q bp V.heap.size bs (hid ⟨HB2.out, (HR.out.2.1).later hb, (HR.out.2.2.1).later hb, (HR.out.2.2.2.1).later hb, new, (HR.out.2.2.2.2.1).later hb, (by have := (HR.out.2.2.2.1).1.lt; omega), HR.out.2.2.2.2.2, (by have := (HR.out.2.2.2.2.1).1.lt; omega)⟩)
    exact AllReadyH.nil
  have F_1_3_7_8 : Hid (∀ listed, listed = #[true, true, true, true, true, false, false, true, true, false, false, false] → ∀ (V : World) (p : G6) (q : G6) (bq : Nat) (bs : Nat), Hid ((Below X.heap.size X V) ∧ (gcP X V p a [p]) ∧ (gcP X V q b [q, p]) ∧ (gcB X V bq) ∧ (gcC X V bs) ∧ (bq ≠ bs)) → wpAnyH Tryz.prog .any gc_region_ops (NoPanic Q) (fun V : World => Below X.heap.size X V) 5 listed { tmps := (List.toArray (t0 :: t1 :: t2 :: (.pointer (some ⟨ba, 0, none⟩)) :: (.pointer (some ⟨bb, 0, none⟩)) :: (.pointer (some ⟨br, 0, none⟩)) :: t6 :: t7 :: (.pointer (some ⟨bq, 0, none⟩)) :: (.pointer (some ⟨bs, 0, none⟩)) :: t10 :: t11 :: t12 :: t13 :: t14 :: t15 :: t16 :: t17 :: t18 :: t19 :: t20 :: t21 :: t22 :: t23 :: t24 :: t25 :: t26 :: t27 :: t28 :: t29 :: t30 :: t31 :: t32 :: t33 :: t34 :: t35 :: t36 :: t37 :: t38 :: t39 :: t40 :: t41 :: t42 :: t43 :: t44 :: t45 :: t46 :: t47 :: t48 :: t49 :: t50 :: (.agg (gv a)) :: (.agg (gv p)) :: (.agg (gv b)) :: (.agg (gv q)) :: (.agg (fv r)) :: t56 :: rest)), defers := [] } V) := by
    rintro _ rfl V p q bq bs HR
    refine wpAnyH_ready (rs := [5, 6]) (by kernel_rfl) (by simp) ?_
    refine AllReadyH.cons (o := gc_o5) rfl (fun K hK => ?_) ?_
    · unfold gc_o5
      go_simp
      refine Calls.mono (gcLentR r V (HL.out V HR.out.1).2.2 HNr.out.1 HNr.out.2) ?_
      rintro e V' ⟨s, rfl, o1, hb⟩
      dsimp only
      have new : s.Lt r V' X.heap.size := o1.out.base (HR.out.1).size
      have HB2 := hid (bt HR.out.1 hb)
      refine hK.out _ _ ?_ (fun hHeld => ?_)
      · exact HB2.out
      clear hK K
      try go_frame
      exact F_1_3_5_7_8.out _ (by kernel_rfl) _ p q s bq bs (hid ⟨HB2.out, (HR.out.2.1).later hb, (HR.out.2.2.1).later hb, new, (HR.out.2.2.2.1).later hb, (HR.out.2.2.2.2.1).later hb, HR.out.2.2.2.2.2⟩)
    refine AllReadyH.cons (o := gc_o6) rfl (fun K hK => ?_) ?_
    · unfold gc_o6
      go_simp
      have hb := alloc_later V (.cells gz6 26)
      have new := gcB.made (HR.out.1)
      have HB2 := hid (bt HR.out.1 hb)
      refine hK.out _ _ ?_ (fun hHeld => ?_)
      · exact HB2.out
      clear hK K
      try go_frame
      exact F_1_3_6_7_8.out _ (by kernel_rfl) _ p q V.heap.size bq bs (hid ⟨HB2.out, (HR.out.2.1).later hb, (HR.out.2.2.1).later hb, new, (HR.out.2.2.2.1).later hb, (HR.out.2.2.2.2.1).later hb, (by have := (HR.out.2.2.2.1).1.lt; omega), (by have := (HR.out.2.2.2.2.1).1.lt; omega), HR.out.2.2.2.2.2⟩)
    exact AllReadyH.nil
  have F_1_6_7_8 : Hid (∀ listed, listed = #[true, true, true, false, true, false, true, true, true, false, false, false] → ∀ (V : World) (p : G6) (bp : Nat) (bq : Nat) (bs : Nat), Hid ((Below X.heap.size X V) ∧ (gcP X V p a [p]) ∧ (gcB X V bp) ∧ (gcB X V bq) ∧ (gcC X V bs) ∧ (bp ≠ bq) ∧ (bp ≠ bs) ∧ (bq ≠ bs)) → wpAnyH Tryz.prog .any gc_region_ops (NoPanic Q) (fun V : World => Below X.heap.size X V) 5 listed { tmps := (List.toArray (t0 :: t1 :: t2 :: (.pointer (some ⟨ba, 0, none⟩)) :: (.pointer (some ⟨bb, 0, none⟩)) :: (.pointer (some ⟨br, 0, none⟩)) :: t6 :: (.pointer (some ⟨bp, 0, none⟩)) :: (.pointer (some ⟨bq, 0, none⟩)) :: (.pointer (some ⟨bs, 0, none⟩)) :: t10 :: t11 :: t12 :: t13 :: t14 :: t15 :: t16 :: t17 :: t18 :: t19 :: t20 :: t21 :: t22 :: t23 :: t24 :: t25 :: t26 :: t27 :: t28 :: t29 :: t30 :: t31 :: t32 :: t33 :: t34 :: t35 :: t36 :: t37 :: t38 :: t39 :: t40 :: t41 :: t42 :: t43 :: t44 :: t45 :: t46 :: t47 :: t48 :: t49 :: t50 :: (.agg (gv a)) :: (.agg (gv p)) :: (.agg (gv b)) :: t54 :: (.agg (fv r)) :: t56 :: rest)), defers := [] } V) := by
    rintro _ rfl V p bp bq bs HR
    refine wpAnyH_ready (rs := [3]) (by kernel_rfl) (by simp) ?_
    refine AllReadyH.cons (o := gc_o3) rfl (fun K hK => ?_) ?_
    · unfold gc_o3
      go_simp
      refine Calls.mono (gcLent b V (HL.out V HR.out.1).2.1 HNb.out.1 HNb.out.2.1 HNb.out.2.2.1 HNb.out.2.2.2) ?_
      rintro e V' ⟨q, rfl, o1, o2, hb⟩
      dsimp only
      have new : gcP X V' q b [q, p] := ⟨o1.out.base (HR.out.1).size, V.heap.size, V'.heap.size, o2.out, hb.size, Nat.le_refl _, (HR.out.2.1).2⟩
      have HB2 := hid (bt HR.out.1 hb)
      refine hK.out _ _ ?_ (fun hHeld => ?_)
      · exact HB2.out
      clear hK K
      try go_frame
      exact F_1_3_6_7_8.out _ (by kernel_rfl) _ p q bp bq bs (hid ⟨HB2.out, (HR.out.2.1).later hb, new, (HR.out.2.2.1).later hb, (HR.out.2.2.2.1).later hb, (HR.out.2.2.2.2.1).later hb, HR.out.2.2.2.2.2.1, HR.out.2.2.2.2.2.2.1, HR.out.2.2.2.2.2.2.2⟩)
    exact AllReadyH.nil
  have F_1_3_5 : Hid (∀ listed, listed = #[true, true, true, true, true, true, false, false, false, false, false, false] → ∀ (V : World) (p : G6) (q : G6) (s : F3), Hid ((Below X.heap.size X V) ∧ (gcP X V p a [p]) ∧ (gcP X V q b [q, p]) ∧ (s.Lt r V X.heap.size)) → wpAnyH Tryz.prog .any gc_region_ops (NoPanic Q) (fun V : World => Below X.heap.size X V) 6 listed { tmps := (List.toArray (t0 :: t1 :: t2 :: (.pointer (some ⟨ba, 0, none⟩)) :: (.pointer (some ⟨bb, 0, none⟩)) :: (.pointer (some ⟨br, 0, none⟩)) :: t6 :: t7 :: t8 :: t9 :: t10 :: t11 :: t12 :: t13 :: t14 :: t15 :: t16 :: t17 :: t18 :: t19 :: t20 :: t21 :: t22 :: t23 :: t24 :: t25 :: t26 :: t27 :: t28 :: t29 :: t30 :: t31 :: t32 :: t33 :: t34 :: t35 :: t36 :: t37 :: t38 :: t39 :: t40 :: t41 :: t42 :: t43 :: t44 :: t45 :: t46 :: t47 :: t48 :: t49 :: t50 :: (.agg (gv a)) :: (.agg (gv p)) :: (.agg (gv b)) :: (.agg (gv q)) :: (.agg (fv r)) :: (.agg (fv s)) :: rest)), defers := [] } V) := by
    rintro _ rfl V p q s HR
    refine wpAnyH_ready (rs := [6, 7, 8]) (by kernel_rfl) (by simp) ?_
    refine AllReadyH.cons (o := gc_o6) rfl (fun K hK => ?_) ?_
    · unfold gc_o6
      go_simp
      have hb := alloc_later V (.cells gz6 26)
      have new := gcB.made (HR.out.1)
      have HB2 := hid (bt HR.out.1 hb)
      refine hK.out _ _ ?_ (fun hHeld => ?_)
      · exact HB2.out
      clear hK K
      try go_frame
      exact F_1_3_5_6.out _ (by kernel_rfl) _ p q s V.heap.size (hid ⟨HB2.out, (HR.out.2.1).later hb, (HR.out.2.2.1).later hb, (HR.out.2.2.2).later hb, new⟩)
    refine AllReadyH.cons (o := gc_o7) rfl (fun K hK => ?_) ?_
    · unfold gc_o7
      go_simp
      have hb := alloc_later V (.cells gz6 26)
      have new := gcB.made (HR.out.1)
      have HB2 := hid (bt HR.out.1 hb)
      refine hK.out _ _ ?_ (fun hHeld => ?_)
      · exact HB2.out
      clear hK K
      try go_frame
      exact F_1_3_5_7.out _ (by kernel_rfl) _ p q s V.heap.size (hid ⟨HB2.out, (HR.out.2.1).later hb, (HR.out.2.2.1).later hb, (HR.out.2.2.2).later hb, new⟩)
    refine AllReadyH.cons (o := gc_o8) rfl (fun K hK => ?_) ?_
    · unfold gc_o8
      go_simp
      have hb := alloc_later V (.cells gz3 24)
      have new := gcC.made (HR.out.1)
      have HB2 := hid (bt HR.out.1 hb)
      refine hK.out _ _ ?_ (fun hHeld => ?_)
      · exact HB2.out
      clear hK K
      try go_frame
      exact F_1_3_5_8.out _ (by kernel_rfl) _ p q s V.heap.size (hid ⟨HB2.out, (HR.out.2.1).later hb, (HR.out.2.2.1).later hb, (HR.out.2.2.2).later hb, new⟩)
    exact AllReadyH.nil
  have F_1_3_6 : Hid (∀ listed, listed = #[true, true, true, true, true, false, true, false, false, false, false, false] → ∀ (V : World) (p : G6) (q : G6) (bp : Nat), Hid ((Below X.heap.size X V) ∧ (gcP X V p a [p]) ∧ (gcP X V q b [q, p]) ∧ (gcB X V bp)) → wpAnyH Tryz.prog .any gc_region_ops (NoPanic Q) (fun V : World => Below X.heap.size X V) 6 listed { tmps := (List.toArray (t0 :: t1 :: t2 :: (.pointer (some ⟨ba, 0, none⟩)) :: (.pointer (some ⟨bb, 0, none⟩)) :: (.pointer (some ⟨br, 0, none⟩)) :: t6 :: (.pointer (some ⟨bp, 0, none⟩)) :: t8 :: t9 :: t10 :: t11 :: t12 :: t13 :: t14 :: t15 :: t16 :: t17 :: t18 :: t19 :: t20 :: t21 :: t22 :: t23 :: t24 :: t25 :: t26 :: t27 :: t28 :: t29 :: t30 :: t31 :: t32 :: t33 :: t34 :: t35 :: t36 :: t37 :: t38 :: t39 :: t40 :: t41 :: t42 :: t43 :: t44 :: t45 :: t46 :: t47 :: t48 :: t49 :: t50 :: (.agg (gv a)) :: (.agg (gv p)) :: (.agg (gv b)) :: (.agg (gv q)) :: (.agg (fv r)) :: t56 :: rest)), defers := [] } V) := by
    rintro _ rfl V p q bp HR
    refine wpAnyH_ready (rs := [5, 7, 8]) (by kernel_rfl) (by simp) ?_
    refine AllReadyH.cons (o := gc_o5) rfl (fun K hK => ?_) ?_
    · unfold gc_o5
      go_simp
      refine Calls.mono (gcLentR r V (HL.out V HR.out.1).2.2 HNr.out.1 HNr.out.2) ?_
      rintro e V' ⟨s, rfl, o1, hb⟩
      dsimp only
      have new : s.Lt r V' X.heap.size := o1.out.base (HR.out.1).size
      have HB2 := hid (bt HR.out.1 hb)
      refine hK.out _ _ ?_ (fun hHeld => ?_)
      · exact HB2.out
      clear hK K
      try go_frame
      exact F_1_3_5_6.out _ (by kernel_rfl) _ p q s bp (hid ⟨HB2.out, (HR.out.2.1).later hb, (HR.out.2.2.1).later hb, new, (HR.out.2.2.2).later hb⟩)
    refine AllReadyH.cons (o := gc_o7) rfl (fun K hK => ?_) ?_
    · unfold gc_o7
      go_simp
      have hb := alloc_later V (.cells gz6 26)
      have new := gcB.made (HR.out.1)
      have HB2 := hid (bt HR.out.1 hb)
      refine hK.out _ _ ?_ (fun hHeld => ?_)
      · exact HB2.out
      clear hK K
      try go_frame
      exact F_1_3_6_7.out _ (by kernel_rfl) _ p q bp V.heap.size (hid ⟨HB2.out, (HR.out.2.1).later hb, (HR.out.2.2.1).later hb, (HR.out.2.2.2).later hb, new, (by have := (HR.out.2.2.2).1.lt; omega)⟩)
    refine AllReadyH.cons (o := gc_o8) rfl (fun K hK => ?_) ?_
    · unfold gc_o8
      go_simp
      have hb := alloc_later V (.cells gz3 24)
      have new := gcC.made (HR.out.1)
      have HB2 := hid (bt HR.out.1 hb)
      refine hK.out _ _ ?_ (fun hHeld => ?_)
      · exact HB2.out
      clear hK K
      try go_frame
      exact F_1_3_6_8.out _ (by kernel_rfl) _ p q bp V.heap.size (hid ⟨HB2.out, (HR.out.2.1).later hb, (HR.out.2.2.1).later hb, (HR.out.2.2.2).later hb, new, (by have := (HR.out.2.2.2).1.lt; omega)⟩)
    exact AllReadyH.nil
  have F_1_3_7 : Hid (∀ listed, listed = #[true, true, true, true, true, false, false, true, false, false, false, false] → ∀ (V : World) (p : G6) (q : G6) (bq : Nat), Hid ((Below X.heap.size X V) ∧ (gcP X V p a [p]) ∧ (gcP X V q b [q, p]) ∧ (gcB X V bq)) → wpAnyH Tryz.prog .any gc_region_ops (NoPanic Q) (fun V : World => Below X.heap.size X V) 6 listed { tmps := (List.toArray (t0 :: t1 :: t2 :: (.pointer (some ⟨ba, 0, none⟩)) :: (.pointer (some ⟨bb, 0, none⟩)) :: (.pointer (some ⟨br, 0, none⟩)) :: t6 :: t7 :: (.pointer (some ⟨bq, 0, none⟩)) :: t9 :: t10 :: t11 :: t12 :: t13 :: t14 :: t15 :: t16 :: t17 :: t18 :: t19 :: t20 :: t21 :: t22 :: t23 :: t24 :: t25 :: t26 :: t27 :: t28 :: t29 :: t30 :: t31 :: t32 :: t33 :: t34 :: t35 :: t36 :: t37 :: t38 :: t39 :: t40 :: t41 :: t42 :: t43 :: t44 :: t45 :: t46 :: t47 :: t48 :: t49 :: t50 :: (.agg (gv a)) :: (.agg (gv p)) :: (.agg (gv b)) :: (.agg (gv q)) :: (.agg (fv r)) :: t56 :: rest)), defers := [] } V) := by
    rintro _ rfl V p q bq HR
    refine wpAnyH_ready (rs := [5, 6, 8]) (by kernel_rfl) (by simp) ?_
    refine AllReadyH.cons (o := gc_o5) rfl (fun K hK => ?_) ?_
    · unfold gc_o5
      go_simp
      refine Calls.mono (gcLentR r V (HL.out V HR.out.1).2.2 HNr.out.1 HNr.out.2) ?_
      rintro e V' ⟨s, rfl, o1, hb⟩
      dsimp only
      have new : s.Lt r V' X.heap.size := o1.out.base (HR.out.1).size
      have HB2 := hid (bt HR.out.1 hb)
      refine hK.out _ _ ?_ (fun hHeld => ?_)
      · exact HB2.out
      clear hK K
      try go_frame
      exact F_1_3_5_7.out _ (by kernel_rfl) _ p q s bq (hid ⟨HB2.out, (HR.out.2.1).later hb, (HR.out.2.2.1).later hb, new, (HR.out.2.2.2).later hb⟩)
    refine AllReadyH.cons (o := gc_o6) rfl (fun K hK => ?_) ?_
    · unfold gc_o6
      go_simp
      have hb := alloc_later V (.cells gz6 26)
      have new := gcB.made (HR.out.1)
      have HB2 := hid (bt HR.out.1 hb)
      refine hK.out _ _ ?_ (fun hHeld => ?_)
      · exact HB2.out
      clear hK K
      try go_frame
      exact F_1_3_6_7.out _ (by kernel_rfl) _ p q V.heap.size bq (hid ⟨HB2.out, (HR.out.2.1).later hb, (HR.out.2.2.1).later hb, new, (HR.out.2.2.2).later hb, (by have := (HR.out.2.2.2).1.lt; omega)⟩)
    refine AllReadyH.cons (o := gc_o8) rfl (fun K hK => ?_) ?_
    · unfold gc_o8
      go_simp
      have hb := alloc_later V (.cells gz3 24)
      have new := gcC.made (HR.out.1)
      have HB2 := hid (bt HR.out.1 hb)
      refine hK.out _ _ ?_ (fun hHeld => ?_)
      · exact HB2.out
      clear hK K
      try go_frame
      exact F_1_3_7_8.out _ (by kernel_rfl) _ p q bq V.heap.size (hid ⟨HB2.out, (HR.out.2.1).later hb, (HR.out.2.2.1).later hb, (HR.out.2.2.2).later hb, new, (by have := (HR.out.2.2.2).1.lt; omega)⟩)
    exact AllReadyH.nil
  have F_1_3_8 : Hid (∀ listed, listed = #[true, true, true, true, true, false, false, false, true, false, false, false] → ∀ (V : World) (p : G6) (q : G6) (bs : Nat), Hid ((Below X.heap.size X V) ∧ (gcP X V p a [p]) ∧ (gcP X V q b [q, p]) ∧ (gcC X V bs)) → wpAnyH Tryz.prog .any gc_region_ops (NoPanic Q) (fun V : World => Below X.heap.size X V) 6 listed { tmps := (List.toArray (t0 :: t1 :: t2 :: (.pointer (some ⟨ba, 0, none⟩)) :: (.pointer (some ⟨bb, 0, none⟩)) :: (.pointer (some ⟨br, 0, none⟩)) :: t6 :: t7 :: t8 :: (.pointer (some ⟨bs, 0, none⟩)) :: t10 :: t11 :: t12 :: t13 :: t14 :: t15 :: t16 :: t17 :: t18 :: t19 :: t20 :: t21 :: t22 :: t23 :: t24 :: t25 :: t26 :: t27 :: t28 :: t29 :: t30 :: t31 :: t32 :: t33 :: t34 :: t35 :: t36 :: t37 :: t38 :: t39 :: t40 :: t41 :: t42 :: t43 :: t44 :: t45 :: t46 :: t47 :: t48 :: t49 :: t50 :: (.agg (gv a)) :: (.agg (gv p)) :: (.agg (gv b)) :: (.agg (gv q)) :: (.agg (fv r)) :: t56 :: rest)), defers := [] } V) := by
    rintro _ rfl V p q bs HR
    refine wpAnyH_ready (rs := [5, 6, 7]) (by kernel_rfl) (by simp) ?_
    refine AllReadyH.cons (o := gc_o5) rfl (fun K hK => ?_) ?_
    · unfold gc_o5
      go_simp
      refine Calls.mono (gcLentR r V (HL.out V HR.out.1).2.2 HNr.out.1 HNr.out.2) ?_
      rintro e V' ⟨s, rfl, o1, hb⟩
      dsimp only
      have new : s.Lt r V' X.heap.size := o1.out.base (HR.out.1).size
      have HB2 := hid (bt HR.out.1 hb)
      refine hK.out _ _ ?_ (fun hHeld => ?_)
      · exact HB2.out
      clear hK K
      try go_frame
      exact F_1_3_5_8.out _ (by kernel_rfl) _ p q s bs (hid ⟨HB2.out, (HR.out.2.1).later hb, (HR.out.2.2.1).later hb, new, (HR.out.2.2.2).later hb⟩)
    refine AllReadyH.cons (o := gc_o6) rfl (fun K hK => ?_) ?_
    · unfold gc_o6
      go_simp
      have hb := alloc_later V (.cells gz6 26)
      have new := gcB.made (HR.out.1)
      have HB2 := hid (bt HR.out.1 hb)
      refine hK.out _ _ ?_ (fun hHeld => ?_)
      · exact HB2.out
      clear hK K
      try go_frame
      exact F_1_3_6_8.out _ (by kernel_rfl) _ p q V.heap.size bs (hid ⟨HB2.out, (HR.out.2.1).later hb, (HR.out.2.2.1).later hb, new, (HR.out.2.2.2).later hb, (by have := (HR.out.2.2.2).1.lt; omega)⟩)
    refine AllReadyH.cons (o := gc_o7) rfl (fun K hK => ?_) ?_
    · unfold gc_o7
      go_simp
      have hb := alloc_later V (.cells gz6 26)
      have new := gcB.made (HR.out.1)
      have HB2 := hid (bt HR.out.1 hb)
      refine hK.out _ _ ?_ (fun hHeld => ?_)
      · exact HB2.out
      clear hK K
      try go_frame
      exact F_1_3_7_8.out _ (by kernel_rfl) _ p q V.heap.size bs (hid ⟨HB2.out, (HR.out.2.1).later hb, (HR.out.2.2.1).later hb, new, (HR.out.2.2.2).later hb, (by have := (HR.out.2.2.2).1.lt; omega)⟩)
    exact AllReadyH.nil
  have F_1_6_7 : Hid (∀ listed, listed = #[true, true, true, false, true, false, true, true, false, false, false, false] → ∀ (V : World) (p : G6) (bp : Nat) (bq : Nat), Hid ((Below X.heap.size X V) ∧ (gcP X V p a [p]) ∧ (gcB X V bp) ∧ (gcB X V bq) ∧ (bp ≠ bq)) → wpAnyH Tryz.prog .any gc_region_ops (NoPanic Q) (fun V : World => Below X.heap.size X V) 6 listed { tmps := (List.toArray (t0 :: t1 :: t2 :: (.pointer (some ⟨ba, 0, none⟩)) :: (.pointer (some ⟨bb, 0, none⟩)) :: (.pointer (some ⟨br, 0, none⟩)) :: t6 :: (.pointer (some ⟨bp, 0, none⟩)) :: (.pointer (some ⟨bq, 0, none⟩)) :: t9 :: t10 :: t11 :: t12 :: t13 :: t14 :: t15 :: t16 :: t17 :: t18 :: t19 :: t20 :: t21 :: t22 :: t23 :: t24 :: t25 :: t26 :: t27 :: t28 :: t29 :: t30 :: t31 :: t32 :: t33 :: t34 :: t35 :: t36 :: t37 :: t38 :: t39 :: t40 :: t41 :: t42 :: t43 :: t44 :: t45 :: t46 :: t47 :: t48 :: t49 :: t50 :: (.agg (gv a)) :: (.agg (gv p)) :: (.agg (gv b)) :: t54 :: (.agg (fv r)) :: t56 :: rest)), defers := [] } V) := by
    rintro _ rfl V p bp bq HR
    refine wpAnyH_ready (rs := [3, 8]) (by kernel_rfl) (by simp) ?_
    refine AllReadyH.cons (o := gc_o3) rfl (fun K hK => ?_) ?_
    · unfold gc_o3
      go_simp
      refine Calls.mono (gcLent b V (HL.out V HR.out.1).2.1 HNb.out.1 HNb.out.2.1 HNb.out.2.2.1 HNb.out.2.2.2) ?_
      rintro e V' ⟨q, rfl, o1, o2, hb⟩
      dsimp only
      have new : gcP X V' q b [q, p] := ⟨o1.out.base (HR.out.1).size, V.heap.size, V'.heap.size, o2.out, hb.size, Nat.le_refl _, (HR.out.2.1).2⟩
      have HB2 := hid (bt HR.out.1 hb)
      refine hK.out _ _ ?_ (fun hHeld => ?_)
      · exact HB2.out
      clear hK K
      try go_frame
      exact F_1_3_6_7.out _ (by kernel_rfl) _ p q bp bq (hid ⟨HB2.out, (HR.out.2.1).later hb, new, (HR.out.2.2.1).later hb, (HR.out.2.2.2.1).later hb, HR.out.2.2.2.2⟩)
    refine AllReadyH.cons (o := gc_o8) rfl (fun K hK => ?_) ?_
    · unfold gc_o8
      go_simp
      have hb := alloc_later V (.cells gz3 24)
      have new := gcC.made (HR.out.1)
      have HB2 := hid (bt HR.out.1 hb)
      refine hK.out _ _ ?_ (fun hHeld => ?_)
      · exact HB2.out
      clear hK K
      try go_frame
      exact F_1_6_7_8.out _ (by kernel_rfl) _ p bp bq V.heap.size (hid ⟨HB2.out, (HR.out.2.1).later hb, (HR.out.2.2.1).later hb, (HR.out.2.2.2.1).later hb, new, HR.out.2.2.2.2, (by have := (HR.out.2.2.1).1.lt; omega), (by have := (HR.out.2.2.2.1).1.lt; omega)⟩)
    exact AllReadyH.nil
  have F_1_6_8 : Hid (∀ listed, listed = #[true, true, true, false, true, false, true, false, true, false, false, false] → ∀ (V : World) (p : G6) (bp : Nat) (bs : Nat), Hid ((Below X.heap.size X V) ∧ (gcP X V p a [p]) ∧ (gcB X V bp) ∧ (gcC X V bs) ∧ (bp ≠ bs)) → wpAnyH Tryz.prog .any gc_region_ops (NoPanic Q) (fun V : World => Below X.heap.size X V) 6 listed { tmps := (List.toArray (t0 :: t1 :: t2 :: (.pointer (some ⟨ba, 0, none⟩)) :: (.pointer (some ⟨bb, 0, none⟩)) :: (.pointer (some ⟨br, 0, none⟩)) :: t6 :: (.pointer (some ⟨bp, 0, none⟩)) :: t8 :: (.pointer (some ⟨bs, 0, none⟩)) :: t10 :: t11 :: t12 :: t13 :: t14 :: t15 :: t16 :: t17 :: t18 :: t19 :: t20 :: t21 :: t22 :: t23 :: t24 :: t25 :: t26 :: t27 :: t28 :: t29 :: t30 :: t31 :: t32 :: t33 :: t34 :: t35 :: t36 :: t37 :: t38 :: t39 :: t40 :: t41 :: t42 :: t43 :: t44 :: t45 :: t46 :: t47 :: t48 :: t49 :: t50 :: (.agg (gv a)) :: (.agg (gv p)) :: (.agg (gv b)) :: t54 :: (.agg (fv r)) :: t56 :: rest)), defers := [] } V) := by
    rintro _ rfl V p bp bs HR
    refine wpAnyH_ready (rs := [3, 7]) (by kernel_rfl) (by simp) ?_
    refine AllReadyH.cons (o := gc_o3) rfl (fun K hK => ?_) ?_
    · unfold gc_o3
      go_simp
      refine Calls.mono (gcLent b V (HL.out V HR.out.1).2.1 HNb.out.1 HNb.out.2.1 HNb.out.2.2.1 HNb.out.2.2.2) ?_
      rintro e V' ⟨q, rfl, o1, o2, hb⟩
      dsimp only
      have new : gcP X V' q b [q, p] := ⟨o1.out.base (HR.out.1).size, V.heap.size, V'.heap.size, o2.out, hb.size, Nat.le_refl _, (HR.out.2.1).2⟩
      have HB2 := hid (bt HR.out.1 hb)
      refine hK.out _ _ ?_ (fun hHeld => ?_)
      · exact HB2.out
      clear hK K
      try go_frame
      exact F_1_3_6_8.out _ (by kernel_rfl) _ p q bp bs (hid ⟨HB2.out, (HR.out.2.1).later hb, new, (HR.out.2.2.1).later hb, (HR.out.2.2.2.1).later hb, HR.out.2.2.2.2⟩)
    refine AllReadyH.cons (o := gc_o7) rfl (fun K hK => ?_) ?_
    · unfold gc_o7
      go_simp
      have hb := alloc_later V (.cells gz6 26)
      have new := gcB.made (HR.out.1)
      have HB2 := hid (bt HR.out.1 hb)
      refine hK.out _ _ ?_ (fun hHeld => ?_)
      · exact HB2.out
      clear hK K
      try go_frame
      exact F_1_6_7_8.out _ (by kernel_rfl) _ p bp V.heap.size bs (hid ⟨HB2.out, (HR.out.2.1).later hb, (HR.out.2.2.1).later hb, new, (HR.out.2.2.2.1).later hb, (by have := (HR.out.2.2.1).1.lt; omega), HR.out.2.2.2.2, (by have := (HR.out.2.2.2.1).1.lt; omega)⟩)
    exact AllReadyH.nil
  have F_1_7_8 : Hid (∀ listed, listed = #[true, true, true, false, true, false, false, true, true, false, false, false] → ∀ (V : World) (p : G6) (bq : Nat) (bs : Nat), Hid ((Below X.heap.size X V) ∧ (gcP X V p a [p]) ∧ (gcB X V bq) ∧ (gcC X V bs) ∧ (bq ≠ bs)) → wpAnyH Tryz.prog .any gc_region_ops (NoPanic Q) (fun V : World => Below X.heap.size X V) 6 listed { tmps := (List.toArray (t0 :: t1 :: t2 :: (.pointer (some ⟨ba, 0, none⟩)) :: (.pointer (some ⟨bb, 0, none⟩)) :: (.pointer (some ⟨br, 0, none⟩)) :: t6 :: t7 :: (.pointer (some ⟨bq, 0, none⟩)) :: (.pointer (some ⟨bs, 0, none⟩)) :: t10 :: t11 :: t12 :: t13 :: t14 :: t15 :: t16 :: t17 :: t18 :: t19 :: t20 :: t21 :: t22 :: t23 :: t24 :: t25 :: t26 :: t27 :: t28 :: t29 :: t30 :: t31 :: t32 :: t33 :: t34 :: t35 :: t36 :: t37 :: t38 :: t39 :: t40 :: t41 :: t42 :: t43 :: t44 :: t45 :: t46 :: t47 :: t48 :: t49 :: t50 :: (.agg (gv a)) :: (.agg (gv p)) :: (.agg (gv b)) :: t54 :: (.agg (fv r)) :: t56 :: rest)), defers := [] } V) := by
    rintro _ rfl V p bq bs HR
    refine wpAnyH_ready (rs := [3, 6]) (by kernel_rfl) (by simp) ?_
    refine AllReadyH.cons (o := gc_o3) rfl (fun K hK => ?_) ?_
    · unfold gc_o3
      go_simp
      refine Calls.mono (gcLent b V (HL.out V HR.out.1).2.1 HNb.out.1 HNb.out.2.1 HNb.out.2.2.1 HNb.out.2.2.2) ?_
      rintro e V' ⟨q, rfl, o1, o2, hb⟩
      dsimp only
      have new : gcP X V' q b [q, p] := ⟨o1.out.base (HR.out.1).size, V.heap.size, V'.heap.size, o2.out, hb.size, Nat.le_refl _, (HR.out.2.1).2⟩
      have HB2 := hid (bt HR.out.1 hb)
      refine hK.out _ _ ?_ (fun hHeld => ?_)
      · exact HB2.out
      clear hK K
      try go_frame
      exact F_1_3_7_8.out _ (by kernel_rfl) _ p q bq bs (hid ⟨HB2.out, (HR.out.2.1).later hb, new, (HR.out.2.2.1).later hb, (HR.out.2.2.2.1).later hb, HR.out.2.2.2.2⟩)
    refine AllReadyH.cons (o := gc_o6) rfl (fun K hK => ?_) ?_
    · unfold gc_o6
      go_simp
      have hb := alloc_later V (.cells gz6 26)
      have new := gcB.made (HR.out.1)
      have HB2 := hid (bt HR.out.1 hb)
      refine hK.out _ _ ?_ (fun hHeld => ?_)
      · exact HB2.out
      clear hK K
      try go_frame
      exact F_1_6_7_8.out _ (by kernel_rfl) _ p V.heap.size bq bs (hid ⟨HB2.out, (HR.out.2.1).later hb, new, (HR.out.2.2.1).later hb, (HR.out.2.2.2.1).later hb, (by have := (HR.out.2.2.1).1.lt; omega), (by have := (HR.out.2.2.2.1).1.lt; omega), HR.out.2.2.2.2⟩)
    exact AllReadyH.nil
  have F_6_7_8 : Hid (∀ listed, listed = #[true, false, true, false, true, false, true, true, true, false, false, false] → ∀ (V : World) (bp : Nat) (bq : Nat) (bs : Nat), Hid ((Below X.heap.size X V) ∧ (gcB X V bp) ∧ (gcB X V bq) ∧ (gcC X V bs) ∧ (bp ≠ bq) ∧ (bp ≠ bs) ∧ (bq ≠ bs)) → wpAnyH Tryz.prog .any gc_region_ops (NoPanic Q) (fun V : World => Below X.heap.size X V) 6 listed { tmps := (List.toArray (t0 :: t1 :: t2 :: (.pointer (some ⟨ba, 0, none⟩)) :: (.pointer (some ⟨bb, 0, none⟩)) :: (.pointer (some ⟨br, 0, none⟩)) :: t6 :: (.pointer (some ⟨bp, 0, none⟩)) :: (.pointer (some ⟨bq, 0, none⟩)) :: (.pointer (some ⟨bs, 0, none⟩)) :: t10 :: t11 :: t12 :: t13 :: t14 :: t15 :: t16 :: t17 :: t18 :: t19 :: t20 :: t21 :: t22 :: t23 :: t24 :: t25 :: t26 :: t27 :: t28 :: t29 :: t30 :: t31 :: t32 :: t33 :: t34 :: t35 :: t36 :: t37 :: t38 :: t39 :: t40 :: t41 :: t42 :: t43 :: t44 :: t45 :: t46 :: t47 :: t48 :: t49 :: t50 :: (.agg (gv a)) :: t52 :: (.agg (gv b)) :: t54 :: (.agg (fv r)) :: t56 :: rest)), defers := [] } V) := by
    rintro _ rfl V bp bq bs HR
    refine wpAnyH_ready (rs := [1]) (by kernel_rfl) (by simp) ?_
    refine AllReadyH.cons (o := gc_o1) rfl (fun K hK => ?_) ?_
    · unfold gc_o1
      go_simp
      refine Calls.mono (gcLent a V (HL.out V HR.out.1).1 HNa.out.1 HNa.out.2.1 HNa.out.2.2.1 HNa.out.2.2.2) ?_
      rintro e V' ⟨p, rfl, o1, o2, hb⟩
      dsimp only
      have new : gcP X V' p a [p] := ⟨o1.out.base (HR.out.1).size, V.heap.size, V'.heap.size, o2.out, hb.size, Nat.le_refl _, (HR.out.1).size⟩
      have HB2 := hid (bt HR.out.1 hb)
      refine hK.out _ _ ?_ (fun hHeld => ?_)
      · exact HB2.out
      clear hK K
      try go_frame
      exact F_1_6_7_8.out _ (by kernel_rfl) _ p bp bq bs (hid ⟨HB2.out, new, (HR.out.2.1).later hb, (HR.out.2.2.1).later hb, (HR.out.2.2.2.1).later hb, HR.out.2.2.2.2.1, HR.out.2.2.2.2.2.1, HR.out.2.2.2.2.2.2⟩)
    exact AllReadyH.nil
  have F_1_3 : Hid (∀ listed, listed = #[true, true, true, true, true, false, false, false, false, false, false, false] → ∀ (V : World) (p : G6) (q : G6), Hid ((Below X.heap.size X V) ∧ (gcP X V p a [p]) ∧ (gcP X V q b [q, p])) → wpAnyH Tryz.prog .any gc_region_ops (NoPanic Q) (fun V : World => Below X.heap.size X V) 7 listed { tmps := (List.toArray (t0 :: t1 :: t2 :: (.pointer (some ⟨ba, 0, none⟩)) :: (.pointer (some ⟨bb, 0, none⟩)) :: (.pointer (some ⟨br, 0, none⟩)) :: t6 :: t7 :: t8 :: t9 :: t10 :: t11 :: t12 :: t13 :: t14 :: t15 :: t16 :: t17 :: t18 :: t19 :: t20 :: t21 :: t22 :: t23 :: t24 :: t25 :: t26 :: t27 :: t28 :: t29 :: t30 :: t31 :: t32 :: t33 :: t34 :: t35 :: t36 :: t37 :: t38 :: t39 :: t40 :: t41 :: t42 :: t43 :: t44 :: t45 :: t46 :: t47 :: t48 :: t49 :: t50 :: (.agg (gv a)) :: (.agg (gv p)) :: (.agg (gv b)) :: (.agg (gv q)) :: (.agg (fv r)) :: t56 :: rest)), defers := [] } V) := by
    rintro _ rfl V p q HR
    refine wpAnyH_ready (rs := [5, 6, 7, 8]) (by kernel_rfl) (by simp) ?_
    refine AllReadyH.cons (o := gc_o5) rfl (fun K hK => ?_) ?_
    · unfold gc_o5
      go_simp
      refine Calls.mono (gcLentR r V (HL.out V HR.out.1).2.2 HNr.out.1 HNr.out.2) ?_
      rintro e V' ⟨s, rfl, o1, hb⟩
      dsimp only
      have new : s.Lt r V' X.heap.size := o1.out.base (HR.out.1).size
      have HB2 := hid (bt HR.out.1 hb)
      refine hK.out _ _ ?_ (fun hHeld => ?_)
      · exact HB2.out
      clear hK K
      try go_frame
      exact F_1_3_5.out _ (by kernel_rfl) _ p q s (hid ⟨HB2.out, (HR.out.2.1).later hb, (HR.out.2.2).later hb, new⟩)
    refine AllReadyH.cons (o := gc_o6) rfl (fun K hK => ?_) ?_
    · unfold gc_o6
      go_simp
      have hb := alloc_later V (.cells gz6 26)
      have new := gcB.made (HR.out.1)
      have HB2 := hid (bt HR.out.1 hb)
      refine hK.out _ _ ?_ (fun hHeld => ?_)
      · exact HB2.out
      clear hK K
      try go_frame
      exact F_1_3_6.out _ (by kernel_rfl) _ p q V.heap.size (hid ⟨HB2.out, (HR.out.2.1).later hb, (HR.out.2.2).later hb, new⟩)
    refine AllReadyH.cons (o := gc_o7) rfl (fun K hK => ?_) ?_
    · unfold gc_o7
      go_simp
      have hb := alloc_later V (.cells gz6 26)
      have new := gcB.made (HR.out.1)
      have HB2 := hid (bt HR.out.1 hb)
      refine hK.out _ _ ?_ (fun hHeld => ?_)
      · exact HB2.out
      clear hK K
      try go_frame
      exact F_1_3_7.out _ (by kernel_rfl) _ p q V.heap.size (hid ⟨HB2.out, (HR.out.2.1).later hb, (HR.out.2.2).later hb, new⟩)
    refine AllReadyH.cons (o := gc_o8) rfl (fun K hK => ?_) ?_
    · unfold gc_o8
      go_simp
      have hb := alloc_later V (.cells gz3 24)
      have new := gcC.made (HR.out.1)
      have HB2 := hid (bt HR.out.1 hb)
      refine hK.out _ _ ?_ (fun hHeld => ?_)
      · exact HB2.out
      clear hK K
      try go_frame
      exact F_1_3_8.out _ (by kernel_rfl) _ p q V.heap.size (hid ⟨HB2.out, (HR.out.2.1).later hb, (HR.out.2.2).later hb, new⟩)
    exact AllReadyH.nil
  have F_1_6 : Hid (∀ listed, listed = #[true, true, true, false, true, false, true, false, false, false, false, false] → ∀ (V : World) (p : G6) (bp : Nat), Hid ((Below X.heap.size X V) ∧ (gcP X V p a [p]) ∧ (gcB X V bp)) → wpAnyH Tryz.prog .any gc_region_ops (NoPanic Q) (fun V : World => Below X.heap.size X V) 7 listed { tmps := (List.toArray (t0 :: t1 :: t2 :: (.pointer (some ⟨ba, 0, none⟩)) :: (.pointer (some ⟨bb, 0, none⟩)) :: (.pointer (some ⟨br, 0, none⟩)) :: t6 :: (.pointer (some ⟨bp, 0, none⟩)) :: t8 :: t9 :: t10 :: t11 :: t12 :: t13 :: t14 :: t15 :: t16 :: t17 :: t18 :: t19 :: t20 :: t21 :: t22 :: t23 :: t24 :: t25 :: t26 :: t27 :: t28 :: t29 :: t30 :: t31 :: t32 :: t33 :: t34 :: t35 :: t36 :: t37 :: t38 :: t39 :: t40 :: t41 :: t42 :: t43 :: t44 :: t45 :: t46 :: t47 :: t48 :: t49 :: t50 :: (.agg (gv a)) :: (.agg (gv p)) :: (.agg (gv b)) :: t54 :: (.agg (fv r)) :: t56 :: rest)), defers := [] } V) := by
    rintro _ rfl V p bp HR
    refine wpAnyH_ready (rs := [3, 7, 8]) (by kernel_rfl) (by simp) ?_
    refine AllReadyH.cons (o := gc_o3) rfl (fun K hK => ?_) ?_
    · unfold gc_o3
      go_simp
      refine Calls.mono (gcLent b V (HL.out V HR.out.1).2.1 HNb.out.1 HNb.out.2.1 HNb.out.2.2.1 HNb.out.2.2.2) ?_
      rintro e V' ⟨q, rfl, o1, o2, hb⟩
      dsimp only
      have new : gcP X V' q b [q, p] := ⟨o1.out.base (HR.out.1).size, V.heap.size, V'.heap.size, o2.out, hb.size, Nat.le_refl _, (HR.out.2.1).2⟩
      have HB2 := hid (bt HR.out.1 hb)
      refine hK.out _ _ ?_ (fun hHeld => ?_)
      · exact HB2.out
      clear hK K
      try go_frame
      exact F_1_3_6.out _ (by kernel_rfl) _ p q bp (hid ⟨HB2.out, (HR.out.2.1).later hb, new, (HR.out.2.2).later hb⟩)
    refine AllReadyH.cons (o := gc_o7) rfl (fun K hK => ?_) ?_
    · unfold gc_o7
      go_simp
      have hb := alloc_later V (.cells gz6 26)
      have new := gcB.made (HR.out.1)
      have HB2 := hid (bt HR.out.1 hb)
      refine hK.out _ _ ?_ (fun hHeld => ?_)
      · exact HB2.out
      clear hK K
      try go_frame
      exact F_1_6_7.out _ (by kernel_rfl) _ p bp V.heap.size (hid ⟨HB2.out, (HR.out.2.1).later hb, (HR.out.2.2).later hb, new, (by have := (HR.out.2.2).1.lt; omega)⟩)
    refine AllReadyH.cons (o := gc_o8) rfl (fun K hK => ?_) ?_
    · unfold gc_o8
      go_simp
      have hb := alloc_later V (.cells gz3 24)
      have new := gcC.made (HR.out.1)
      have HB2 := hid (bt HR.out.1 hb)
      refine hK.out _ _ ?_ (fun hHeld => ?_)
      · exact HB2.out
      clear hK K
      try go_frame
      exact F_1_6_8.out _ (by kernel_rfl) _ p bp V.heap.size (hid ⟨HB2.out, (HR.out.2.1).later hb, (HR.out.2.2).later hb, new, (by have := (HR.out.2.2).1.lt; omega)⟩)
    exact AllReadyH.nil
  have F_1_7 : Hid (∀ listed, listed = #[true, true, true, false, true, false, false, true, false, false, false, false] → ∀ (V : World) (p : G6) (bq : Nat), Hid ((Below X.heap.size X V) ∧ (gcP X V p a [p]) ∧ (gcB X V bq)) → wpAnyH Tryz.prog .any gc_region_ops (NoPanic Q) (fun V : World => Below X.heap.size X V) 7 listed { tmps := (List.toArray (t0 :: t1 :: t2 :: (.pointer (some ⟨ba, 0, none⟩)) :: (.pointer (some ⟨bb, 0, none⟩)) :: (.pointer (some ⟨br, 0, none⟩)) :: t6 :: t7 :: (.pointer (some ⟨bq, 0, none⟩)) :: t9 :: t10 :: t11 :: t12 :: t13 :: t14 :: t15 :: t16 :: t17 :: t18 :: t19 :: t20 :: t21 :: t22 :: t23 :: t24 :: t25 :: t26 :: t27 :: t28 :: t29 :: t30 :: t31 :: t32 :: t33 :: t34 :: t35 :: t36 :: t37 :: t38 :: t39 :: t40 :: t41 :: t42 :: t43 :: t44 :: t45 :: t46 :: t47 :: t48 :: t49 :: t50 :: (.agg (gv a)) :: (.agg (gv p)) :: (.agg (gv b)) :: t54 :: (.agg (fv r)) :: t56 :: rest)), defers := [] } V) := by
    rintro _ rfl V p bq HR
    refine wpAnyH_ready (rs := [3, 6, 8]) (by kernel_rfl) (by simp) ?_
    refine AllReadyH.cons (o := gc_o3) rfl (fun K hK => ?_) ?_
    · unfold gc_o3
      go_simp
      refine Calls.mono (gcLent b V (HL.out V HR.out.1).2.1 HNb.out.1 HNb.out.2.1 HNb.out.2.2.1 HNb.out.2.2.2) ?_
      rintro e V' ⟨q, rfl, o1, o2, hb⟩
      dsimp only
      have new : gcP X V' q b [q, p] := ⟨o1.out.base (HR.out.1).size, V.heap.size, V'.heap.size, o2.out, hb.size, Nat.le_refl _, (HR.out.2.1).2⟩
      have HB2 := hid (bt HR.out.1 hb)
      refine hK.out _ _ ?_ (fun hHeld => ?_)
      · exact HB2.out
      clear hK K
      try go_frame
      exact F_1_3_7.out _ (by kernel_rfl) _ p q bq (hid ⟨HB2.out, (HR.out.2.1).later hb, new, (HR.out.2.2).later hb⟩)
    refine AllReadyH.cons (o := gc_o6) rfl (fun K hK => ?_) ?_
    · unfold gc_o6
      go_simp
      have hb := alloc_later V (.cells gz6 26)
      have new := gcB.made (HR.out.1)
      have HB2 := hid (bt HR.out.1 hb)
      refine hK.out _ _ ?_ (fun hHeld => ?_)
      · exact HB2.out
      clear hK K
      try go_frame
      exact F_1_6_7.out _ (by kernel_rfl) _ p V.heap.size bq (hid ⟨HB2.out, (HR.out.2.1).later hb, new, (HR.out.2.2).later hb, (by have := (HR.out.2.2).1.lt; omega)⟩)
    refine AllReadyH.cons (o := gc_o8) rfl (fun K hK => ?_) ?_
    · unfold gc_o8
      go_simp
      have hb := alloc_later V (.cells gz3 24)
      have new := gcC.made (HR.out.1)
      have HB2 := hid (bt HR.out.1 hb)
      refine hK.out _ _ ?_ (fun hHeld => ?_)
      · exact HB2.out
      clear hK K
      try go_frame
      exact F_1_7_8.out _ (by kernel_rfl) _ p bq V.heap.size (hid ⟨HB2.out, (HR.out.2.1).later hb, (HR.out.2.2).later hb, new, (by have := (HR.out.2.2).1.lt; omega)⟩)
    exact AllReadyH.nil
  have F_1_8 : Hid (∀ listed, listed = #[true, true, true, false, true, false, false, false, true, false, false, false] → ∀ (V : World) (p : G6) (bs : Nat), Hid ((Below X.heap.size X V) ∧ (gcP X V p a [p]) ∧ (gcC X V bs)) → wpAnyH Tryz.prog .any gc_region_ops (NoPanic Q) (fun V : World => Below X.heap.size X V) 7 listed { tmps := (List.toArray (t0 :: t1 :: t2 :: (.pointer (some ⟨ba, 0, none⟩)) :: (.pointer (some ⟨bb, 0, none⟩)) :: (.pointer (some ⟨br, 0, none⟩)) :: t6 :: t7 :: t8 :: (.pointer (some ⟨bs, 0, none⟩)) :: t10 :: t11 :: t12 :: t13 :: t14 :: t15 :: t16 :: t17 :: t18 :: t19 :: t20 :: t21 :: t22 :: t23 :: t24 :: t25 :: t26 :: t27 :: t28 :: t29 :: t30 :: t31 :: t32 :: t33 :: t34 :: t35 :: t36 :: t37 :: t38 :: t39 :: t40 :: t41 :: t42 :: t43 :: t44 :: t45 :: t46 :: t47 :: t48 :: t49 :: t50 :: (.agg (gv a)) :: (.agg (gv p)) :: (.agg (gv b)) :: t54 :: (.agg (fv r)) :: t56 :: rest)), defers := [] } V) := by
    rintro _ rfl V p bs HR
    refine wpAnyH_ready (rs := [3, 6, 7]) (by kernel_rfl) (by simp) ?_
    refine AllReadyH.cons (o := gc_o3) rfl (fun K hK => ?_) ?_
    · unfold gc_o3
      go_simp
      refine Calls.mono (gcLent b V (HL.out V HR.out.1).2.1 HNb.out.1 HNb.out.2.1 HNb.out.2.2.1 HNb.out.2.2.2) ?_
      rintro e V' ⟨q, rfl, o1, o2, hb⟩
      dsimp only
      have new : gcP X V' q b [q, p] := ⟨o1.out.base (HR.out.1).size, V.heap.size, V'.heap.size, o2.out, hb.size, Nat.le_refl _, (HR.out.2.1).2⟩
      have HB2 := hid (bt HR.out.1 hb)
      refine hK.out _ _ ?_ (fun hHeld => ?_)
      · exact HB2.out
      clear hK K
      try go_frame
      exact F_1_3_8.out _ (by kernel_rfl) _ p q bs (hid ⟨HB2.out, (HR.out.2.1).later hb, new, (HR.out.2.2).later hb⟩)
    refine AllReadyH.cons (o := gc_o6) rfl (fun K hK => ?_) ?_
    · unfold gc_o6
      go_simp
      have hb := alloc_later V (.cells gz6 26)
      have new := gcB.made (HR.out.1)
      have HB2 := hid (bt HR.out.1 hb)
      refine hK.out _ _ ?_ (fun hHeld => ?_)
      · exact HB2.out
      clear hK K
      try go_frame
      exact F_1_6_8.out _ (by kernel_rfl) _ p V.heap.size bs (hid ⟨HB2.out, (HR.out.2.1).later hb, new, (HR.out.2.2).later hb, (by have := (HR.out.2.2).1.lt; omega)⟩)
    refine AllReadyH.cons (o := gc_o7) rfl (fun K hK => ?_) ?_
    · unfold gc_o7
      go_simp
      have hb := alloc_later V (.cells gz6 26)
      have new := gcB.made (HR.out.1)
      have HB2 := hid (bt HR.out.1 hb)
      refine hK.out _ _ ?_ (fun hHeld => ?_)
      · exact HB2.out
      clear hK K
      try go_frame
      exact F_1_7_8.out _ (by kernel_rfl) _ p V.heap.size bs (hid ⟨HB2.out, (HR.out.2.1).later hb, new, (HR.out.2.2).later hb, (by have := (HR.out.2.2).1.lt; omega)⟩)
    exact AllReadyH.nil
  have F_6_7 : Hid (∀ listed, listed = #[true, false, true, false, true, false, true, true, false, false, false, false] → ∀ (V : World) (bp : Nat) (bq : Nat), Hid ((Below X.heap.size X V) ∧ (gcB X V bp) ∧ (gcB X V bq) ∧ (bp ≠ bq)) → wpAnyH Tryz.prog .any gc_region_ops (NoPanic Q) (fun V : World => Below X.heap.size X V) 7 listed { tmps := (List.toArray (t0 :: t1 :: t2 :: (.pointer (some ⟨ba, 0, none⟩)) :: (.pointer (some ⟨bb, 0, none⟩)) :: (.pointer (some ⟨br, 0, none⟩)) :: t6 :: (.pointer (some ⟨bp, 0, none⟩)) :: (.pointer (some ⟨bq, 0, none⟩)) :: t9 :: t10 :: t11 :: t12 :: t13 :: t14 :: t15 :: t16 :: t17 :: t18 :: t19 :: t20 :: t21 :: t22 :: t23 :: t24 :: t25 :: t26 :: t27 :: t28 :: t29 :: t30 :: t31 :: t32 :: t33 :: t34 :: t35 :: t36 :: t37 :: t38 :: t39 :: t40 :: t41 :: t42 :: t43 :: t44 :: t45 :: t46 :: t47 :: t48 :: t49 :: t50 :: (.agg (gv a)) :: t52 :: (.agg (gv b)) :: t54 :: (.agg (fv r)) :: t56 :: rest)), defers := [] } V) := by
    rintro _ rfl V bp bq HR
    refine wpAnyH_ready (rs := [1, 8]) (by kernel_rfl) (by simp) ?_
    refine AllReadyH.cons (o := gc_o1) rfl (fun K hK => ?_) ?_
    · unfold gc_o1
      go_simp
      refine Calls.mono (gcLent a V (HL.out V HR.out.1).1 HNa.out.1 HNa.out.2.1 HNa.out.2.2.1 HNa.out.2.2.2) ?_
      rintro e V' ⟨p, rfl, o1, o2, hb⟩
      dsimp only
      have new : gcP X V' p a [p] := ⟨o1.out.base (HR.out.1).size, V.heap.size, V'.heap.size, o2.out, hb.size, Nat.le_refl _, (HR.out.1).size⟩
      have HB2 := hid (bt HR.out.1 hb)
      refine hK.out _ _ ?_ (fun hHeld => ?_)
      · exact HB2.out
      clear hK K
      try go_frame
      exact F_1_6_7.out _ (by kernel_rfl) _ p bp bq (hid ⟨HB2.out, new, (HR.out.2.1).later hb, (HR.out.2.2.1).later hb, HR.out.2.2.2⟩)
    refine AllReadyH.cons (o := gc_o8) rfl (fun K hK => ?_) ?_
    · unfold gc_o8
      go_simp
      have hb := alloc_later V (.cells gz3 24)
      have new := gcC.made (HR.out.1)
      have HB2 := hid (bt HR.out.1 hb)
      refine hK.out _ _ ?_ (fun hHeld => ?_)
      · exact HB2.out
      clear hK K
      try go_frame
      exact F_6_7_8.out _ (by kernel_rfl) _ bp bq V.heap.size (hid ⟨HB2.out, (HR.out.2.1).later hb, (HR.out.2.2.1).later hb, new, HR.out.2.2.2, (by have := (HR.out.2.1).1.lt; omega), (by have := (HR.out.2.2.1).1.lt; omega)⟩)
    exact AllReadyH.nil
  have F_6_8 : Hid (∀ listed, listed = #[true, false, true, false, true, false, true, false, true, false, false, false] → ∀ (V : World) (bp : Nat) (bs : Nat), Hid ((Below X.heap.size X V) ∧ (gcB X V bp) ∧ (gcC X V bs) ∧ (bp ≠ bs)) → wpAnyH Tryz.prog .any gc_region_ops (NoPanic Q) (fun V : World => Below X.heap.size X V) 7 listed { tmps := (List.toArray (t0 :: t1 :: t2 :: (.pointer (some ⟨ba, 0, none⟩)) :: (.pointer (some ⟨bb, 0, none⟩)) :: (.pointer (some ⟨br, 0, none⟩)) :: t6 :: (.pointer (some ⟨bp, 0, none⟩)) :: t8 :: (.pointer (some ⟨bs, 0, none⟩)) :: t10 :: t11 :: t12 :: t13 :: t14 :: t15 :: t16 :: t17 :: t18 :: t19 :: t20 :: t21 :: t22 :: t23 :: t24 :: t25 :: t26 :: t27 :: t28 :: t29 :: t30 :: t31 :: t32 :: t33 :: t34 :: t35 :: t36 :: t37 :: t38 :: t39 :: t40 :: t41 :: t42 :: t43 :: t44 :: t45 :: t46 :: t47 :: t48 :: t49 :: t50 :: (.agg (gv a)) :: t52 :: (.agg (gv b)) :: t54 :: (.agg (fv r)) :: t56 :: rest)), defers := [] } V) := by
    rintro _ rfl V bp bs HR
    refine wpAnyH_ready (rs := [1, 7]) (by kernel_rfl) (by simp) ?_
    refine AllReadyH.cons (o := gc_o1) rfl (fun K hK => ?_) ?_
    · unfold gc_o1
      go_simp
      refine Calls.mono (gcLent a V (HL.out V HR.out.1).1 HNa.out.1 HNa.out.2.1 HNa.out.2.2.1 HNa.out.2.2.2) ?_
      rintro e V' ⟨p, rfl, o1, o2, hb⟩
      dsimp only
      have new : gcP X V' p a [p] := ⟨o1.out.base (HR.out.1).size, V.heap.size, V'.heap.size, o2.out, hb.size, Nat.le_refl _, (HR.out.1).size⟩
      have HB2 := hid (bt HR.out.1 hb)
      refine hK.out _ _ ?_ (fun hHeld => ?_)
      · exact HB2.out
      clear hK K
      try go_frame
      exact F_1_6_8.out _ (by kernel_rfl) _ p bp bs (hid ⟨HB2.out, new, (HR.out.2.1).later hb, (HR.out.2.2.1).later hb, HR.out.2.2.2⟩)
    refine AllReadyH.cons (o := gc_o7) rfl (fun K hK => ?_) ?_
    · unfold gc_o7
      go_simp
      have hb := alloc_later V (.cells gz6 26)
      have new := gcB.made (HR.out.1)
      have HB2 := hid (bt HR.out.1 hb)
      refine hK.out _ _ ?_ (fun hHeld => ?_)
      · exact HB2.out
      clear hK K
      try go_frame
      exact F_6_7_8.out _ (by kernel_rfl) _ bp V.heap.size bs (hid ⟨HB2.out, (HR.out.2.1).later hb, new, (HR.out.2.2.1).later hb, (by have := (HR.out.2.1).1.lt; omega), HR.out.2.2.2, (by have := (HR.out.2.2.1).1.lt; omega)⟩)
    exact AllReadyH.nil
  have F_7_8 : Hid (∀ listed, listed = #[true, false, true, false, true, false, false, true, true, false, false, false] → ∀ (V : World) (bq : Nat) (bs : Nat), Hid ((Below X.heap.size X V) ∧ (gcB X V bq) ∧ (gcC X V bs) ∧ (bq ≠ bs)) → wpAnyH Tryz.prog .any gc_region_ops (NoPanic Q) (fun V : World => Below X.heap.size X V) 7 listed { tmps := (List.toArray (t0 :: t1 :: t2 :: (.pointer (some ⟨ba, 0, none⟩)) :: (.pointer (some ⟨bb, 0, none⟩)) :: (.pointer (some ⟨br, 0, none⟩)) :: t6 :: t7 :: (.pointer (some ⟨bq, 0, none⟩)) :: (.pointer (some ⟨bs, 0, none⟩)) :: t10 :: t11 :: t12 :: t13 :: t14 :: t15 :: t16 :: t17 :: t18 :: t19 :: t20 :: t21 :: t22 :: t23 :: t24 :: t25 :: t26 :: t27 :: t28 :: t29 :: t30 :: t31 :: t32 :: t33 :: t34 :: t35 :: t36 :: t37 :: t38 :: t39 :: t40 :: t41 :: t42 :: t43 :: t44 :: t45 :: t46 :: t47 :: t48 :: t49 :: t50 :: (.agg (gv a)) :: t52 :: (.agg (gv b)) :: t54 :: (.agg (fv r)) :: t56 :: rest)), defers := [] } V) := by
    rintro _ rfl V bq bs HR
    refine wpAnyH_ready (rs := [1, 6]) (by kernel_rfl) (by simp) ?_
    refine AllReadyH.cons (o := gc_o1) rfl (fun K hK => ?_) ?_
    · unfold gc_o1
      go_simp
      refine Calls.mono (gcLent a V (HL.out V HR.out.1).1 HNa.out.1 HNa.out.2.1 HNa.out.2.2.1 HNa.out.2.2.2) ?_
      rintro e V' ⟨p, rfl, o1, o2, hb⟩
      dsimp only
      have new : gcP X V' p a [p] := ⟨o1.out.base (HR.out.1).size, V.heap.size, V'.heap.size, o2.out, hb.size, Nat.le_refl _, (HR.out.1).size⟩
      have HB2 := hid (bt HR.out.1 hb)
      refine hK.out _ _ ?_ (fun hHeld => ?_)
      · exact HB2.out
      clear hK K
      try go_frame
      exact F_1_7_8.out _ (by kernel_rfl) _ p bq bs (hid ⟨HB2.out, new, (HR.out.2.1).later hb, (HR.out.2.2.1).later hb, HR.out.2.2.2⟩)
    refine AllReadyH.cons (o := gc_o6) rfl (fun K hK => ?_) ?_
    · unfold gc_o6
      go_simp
      have hb := alloc_later V (.cells gz6 26)
      have new := gcB.made (HR.out.1)
      have HB2 := hid (bt HR.out.1 hb)
      refine hK.out _ _ ?_ (fun hHeld => ?_)
      · exact HB2.out
      clear hK K
      try go_frame
      exact F_6_7_8.out _ (by kernel_rfl) _ V.heap.size bq bs (hid ⟨HB2.out, new, (HR.out.2.1).later hb, (HR.out.2.2.1).later hb, (by have := (HR.out.2.1).1.lt; omega), (by have := (HR.out.2.2.1).1.lt; omega), HR.out.2.2.2⟩)
    exact AllReadyH.nil
  have F_1 : Hid (∀ listed, listed = #[true, true, true, false, true, false, false, false, false, false, false, false] → ∀ (V : World) (p : G6), Hid ((Below X.heap.size X V) ∧ (gcP X V p a [p])) → wpAnyH Tryz.prog .any gc_region_ops (NoPanic Q) (fun V : World => Below X.heap.size X V) 8 listed { tmps := (List.toArray (t0 :: t1 :: t2 :: (.pointer (some ⟨ba, 0, none⟩)) :: (.pointer (some ⟨bb, 0, none⟩)) :: (.pointer (some ⟨br, 0, none⟩)) :: t6 :: t7 :: t8 :: t9 :: t10 :: t11 :: t12 :: t13 :: t14 :: t15 :: t16 :: t17 :: t18 :: t19 :: t20 :: t21 :: t22 :: t23 :: t24 :: t25 :: t26 :: t27 :: t28 :: t29 :: t30 :: t31 :: t32 :: t33 :: t34 :: t35 :: t36 :: t37 :: t38 :: t39 :: t40 :: t41 :: t42 :: t43 :: t44 :: t45 :: t46 :: t47 :: t48 :: t49 :: t50 :: (.agg (gv a)) :: (.agg (gv p)) :: (.agg (gv b)) :: t54 :: (.agg (fv r)) :: t56 :: rest)), defers := [] } V) := by
    rintro _ rfl V p HR
    refine wpAnyH_ready (rs := [3, 6, 7, 8]) (by kernel_rfl) (by simp) ?_
    refine AllReadyH.cons (o := gc_o3) rfl (fun K hK => ?_) ?_
    · unfold gc_o3
      go_simp
      refine Calls.mono (gcLent b V (HL.out V HR.out.1).2.1 HNb.out.1 HNb.out.2.1 HNb.out.2.2.1 HNb.out.2.2.2) ?_
      rintro e V' ⟨q, rfl, o1, o2, hb⟩
      dsimp only
      have new : gcP X V' q b [q, p] := ⟨o1.out.base (HR.out.1).size, V.heap.size, V'.heap.size, o2.out, hb.size, Nat.le_refl _, (HR.out.2).2⟩
      have HB2 := hid (bt HR.out.1 hb)
      refine hK.out _ _ ?_ (fun hHeld => ?_)
      · exact HB2.out
      clear hK K
      try go_frame
      exact F_1_3.out _ (by kernel_rfl) _ p q (hid ⟨HB2.out, (HR.out.2).later hb, new⟩)
    refine AllReadyH.cons (o := gc_o6) rfl (fun K hK => ?_) ?_
    · unfold gc_o6
      go_simp
      have hb := alloc_later V (.cells gz6 26)
      have new := gcB.made (HR.out.1)
      have HB2 := hid (bt HR.out.1 hb)
      refine hK.out _ _ ?_ (fun hHeld => ?_)
      · exact HB2.out
      clear hK K
      try go_frame
      exact F_1_6.out _ (by kernel_rfl) _ p V.heap.size (hid ⟨HB2.out, (HR.out.2).later hb, new⟩)
    refine AllReadyH.cons (o := gc_o7) rfl (fun K hK => ?_) ?_
    · unfold gc_o7
      go_simp
      have hb := alloc_later V (.cells gz6 26)
      have new := gcB.made (HR.out.1)
      have HB2 := hid (bt HR.out.1 hb)
      refine hK.out _ _ ?_ (fun hHeld => ?_)
      · exact HB2.out
      clear hK K
      try go_frame
      exact F_1_7.out _ (by kernel_rfl) _ p V.heap.size (hid ⟨HB2.out, (HR.out.2).later hb, new⟩)
    refine AllReadyH.cons (o := gc_o8) rfl (fun K hK => ?_) ?_
    · unfold gc_o8
      go_simp
      have hb := alloc_later V (.cells gz3 24)
      have new := gcC.made (HR.out.1)
      have HB2 := hid (bt HR.out.1 hb)
      refine hK.out _ _ ?_ (fun hHeld => ?_)
      · exact HB2.out
      clear hK K
      try go_frame
      exact F_1_8.out _ (by kernel_rfl) _ p V.heap.size (hid ⟨HB2.out, (HR.out.2).later hb, new⟩)
    exact AllReadyH.nil
  have F_6 : Hid (∀ listed, listed = #[true, false, true, false, true, false, true, false, false, false, false, false] → ∀ (V : World) (bp : Nat), Hid ((Below X.heap.size X V) ∧ (gcB X V bp)) → wpAnyH Tryz.prog .any gc_region_ops (NoPanic Q) (fun V : World => Below X.heap.size X V) 8 listed { tmps := (List.toArray (t0 :: t1 :: t2 :: (.pointer (some ⟨ba, 0, none⟩)) :: (.pointer (some ⟨bb, 0, none⟩)) :: (.pointer (some ⟨br, 0, none⟩)) :: t6 :: (.pointer (some ⟨bp, 0, none⟩)) :: t8 :: t9 :: t10 :: t11 :: t12 :: t13 :: t14 :: t15 :: t16 :: t17 :: t18 :: t19 :: t20 :: t21 :: t22 :: t23 :: t24 :: t25 :: t26 :: t27 :: t28 :: t29 :: t30 :: t31 :: t32 :: t33 :: t34 :: t35 :: t36 :: t37 :: t38 :: t39 :: t40 :: t41 :: t42 :: t43 :: t44 :: t45 :: t46 :: t47 :: t48 :: t49 :: t50 :: (.agg (gv a)) :: t52 :: (.agg (gv b)) :: t54 :: (.agg (fv r)) :: t56 :: rest)), defers := [] } V) := by
    rintro _ rfl V bp HR
    refine wpAnyH_ready (rs := [1, 7, 8]) (by kernel_rfl) (by simp) ?_
    refine AllReadyH.cons (o := gc_o1) rfl (fun K hK => ?_) ?_
    · unfold gc_o1
      go_simp
      refine Calls.mono (gcLent a V (HL.out V HR.out.1).1 HNa.out.1 HNa.out.2.1 HNa.out.2.2.1 HNa.out.2.2.2) ?_
      rintro e V' ⟨p, rfl, o1, o2, hb⟩
      dsimp only
      have new : gcP X V' p a [p] := ⟨o1.out.base (HR.out.1).size, V.heap.size, V'.heap.size, o2.out, hb.size, Nat.le_refl _, (HR.out.1).size⟩
      have HB2 := hid (bt HR.out.1 hb)
      refine hK.out _ _ ?_ (fun hHeld => ?_)
      · exact HB2.out
      clear hK K
      try go_frame
      exact F_1_6.out _ (by kernel_rfl) _ p bp (hid ⟨HB2.out, new, (HR.out.2).later hb⟩)
    refine AllReadyH.cons (o := gc_o7) rfl (fun K hK => ?_) ?_
    · unfold gc_o7
      go_simp
      have hb := alloc_later V (.cells gz6 26)
      have new := gcB.made (HR.out.1)
      have HB2 := hid (bt HR.out.1 hb)
      refine hK.out _ _ ?_ (fun hHeld => ?_)
      · exact HB2.out
      clear hK K
      try go_frame
      exact F_6_7.out _ (by kernel_rfl) _ bp V.heap.size (hid ⟨HB2.out, (HR.out.2).later hb, new, (by have := (HR.out.2).1.lt; omega)⟩)
    refine AllReadyH.cons (o := gc_o8) rfl (fun K hK => ?_) ?_
    · unfold gc_o8
      go_simp
      have hb := alloc_later V (.cells gz3 24)
      have new := gcC.made (HR.out.1)
      have HB2 := hid (bt HR.out.1 hb)
      refine hK.out _ _ ?_ (fun hHeld => ?_)
      · exact HB2.out
      clear hK K
      try go_frame
      exact F_6_8.out _ (by kernel_rfl) _ bp V.heap.size (hid ⟨HB2.out, (HR.out.2).later hb, new, (by have := (HR.out.2).1.lt; omega)⟩)
    exact AllReadyH.nil
  have F_7 : Hid (∀ listed, listed = #[true, false, true, false, true, false, false, true, false, false, false, false] → ∀ (V : World) (bq : Nat), Hid ((Below X.heap.size X V) ∧ (gcB X V bq)) → wpAnyH Tryz.prog .any gc_region_ops (NoPanic Q) (fun V : World => Below X.heap.size X V) 8 listed { tmps := (List.toArray (t0 :: t1 :: t2 :: (.pointer (some ⟨ba, 0, none⟩)) :: (.pointer (some ⟨bb, 0, none⟩)) :: (.pointer (some ⟨br, 0, none⟩)) :: t6 :: t7 :: (.pointer (some ⟨bq, 0, none⟩)) :: t9 :: t10 :: t11 :: t12 :: t13 :: t14 :: t15 :: t16 :: t17 :: t18 :: t19 :: t20 :: t21 :: t22 :: t23 :: t24 :: t25 :: t26 :: t27 :: t28 :: t29 :: t30 :: t31 :: t32 :: t33 :: t34 :: t35 :: t36 :: t37 :: t38 :: t39 :: t40 :: t41 :: t42 :: t43 :: t44 :: t45 :: t46 :: t47 :: t48 :: t49 :: t50 :: (.agg (gv a)) :: t52 :: (.agg (gv b)) :: t54 :: (.agg (fv r)) :: t56 :: rest)), defers := [] } V) := by
    rintro _ rfl V bq HR
    refine wpAnyH_ready (rs := [1, 6, 8]) (by kernel_rfl) (by simp) ?_
    refine AllReadyH.cons (o := gc_o1) rfl (fun K hK => ?_) ?_
    · unfold gc_o1
      go_simp
      refine Calls.mono (gcLent a V (HL.out V HR.out.1).1 HNa.out.1 HNa.out.2.1 HNa.out.2.2.1 HNa.out.2.2.2) ?_
      rintro e V' ⟨p, rfl, o1, o2, hb⟩
      dsimp only
      have new : gcP X V' p a [p] := ⟨o1.out.base (HR.out.1).size, V.heap.size, V'.heap.size, o2.out, hb.size, Nat.le_refl _, (HR.out.1).size⟩
      have HB2 := hid (bt HR.out.1 hb)
      refine hK.out _ _ ?_ (fun hHeld => ?_)
      · exact HB2.out
      clear hK K
      try go_frame
      exact F_1_7.out _ (by kernel_rfl) _ p bq (hid ⟨HB2.out, new, (HR.out.2).later hb⟩)
    refine AllReadyH.cons (o := gc_o6) rfl (fun K hK => ?_) ?_
    · unfold gc_o6
      go_simp
      have hb := alloc_later V (.cells gz6 26)
      have new := gcB.made (HR.out.1)
      have HB2 := hid (bt HR.out.1 hb)
      refine hK.out _ _ ?_ (fun hHeld => ?_)
      · exact HB2.out
      clear hK K
      try go_frame
      exact F_6_7.out _ (by kernel_rfl) _ V.heap.size bq (hid ⟨HB2.out, new, (HR.out.2).later hb, (by have := (HR.out.2).1.lt; omega)⟩)
    refine AllReadyH.cons (o := gc_o8) rfl (fun K hK => ?_) ?_
    · unfold gc_o8
      go_simp
      have hb := alloc_later V (.cells gz3 24)
      have new := gcC.made (HR.out.1)
      have HB2 := hid (bt HR.out.1 hb)
      refine hK.out _ _ ?_ (fun hHeld => ?_)
      · exact HB2.out
      clear hK K
      try go_frame
      exact F_7_8.out _ (by kernel_rfl) _ bq V.heap.size (hid ⟨HB2.out, (HR.out.2).later hb, new, (by have := (HR.out.2).1.lt; omega)⟩)
    exact AllReadyH.nil
  have F_8 : Hid (∀ listed, listed = #[true, false, true, false, true, false, false, false, true, false, false, false] → ∀ (V : World) (bs : Nat), Hid ((Below X.heap.size X V) ∧ (gcC X V bs)) → wpAnyH Tryz.prog .any gc_region_ops (NoPanic Q) (fun V : World => Below X.heap.size X V) 8 listed { tmps := (List.toArray (t0 :: t1 :: t2 :: (.pointer (some ⟨ba, 0, none⟩)) :: (.pointer (some ⟨bb, 0, none⟩)) :: (.pointer (some ⟨br, 0, none⟩)) :: t6 :: t7 :: t8 :: (.pointer (some ⟨bs, 0, none⟩)) :: t10 :: t11 :: t12 :: t13 :: t14 :: t15 :: t16 :: t17 :: t18 :: t19 :: t20 :: t21 :: t22 :: t23 :: t24 :: t25 :: t26 :: t27 :: t28 :: t29 :: t30 :: t31 :: t32 :: t33 :: t34 :: t35 :: t36 :: t37 :: t38 :: t39 :: t40 :: t41 :: t42 :: t43 :: t44 :: t45 :: t46 :: t47 :: t48 :: t49 :: t50 :: (.agg (gv a)) :: t52 :: (.agg (gv b)) :: t54 :: (.agg (fv r)) :: t56 :: rest)), defers := [] } V) := by
    rintro _ rfl V bs HR
    refine wpAnyH_ready (rs := [1, 6, 7]) (by kernel_rfl) (by simp) ?_
    refine AllReadyH.cons (o := gc_o1) rfl (fun K hK => ?_) ?_
    · unfold gc_o1
      go_simp
      refine Calls.mono (gcLent a V (HL.out V HR.out.1).1 HNa.out.1 HNa.out.2.1 HNa.out.2.2.1 HNa.out.2.2.2) ?_
      rintro e V' ⟨p, rfl, o1, o2, hb⟩
      dsimp only
      have new : gcP X V' p a [p] := ⟨o1.out.base (HR.out.1).size, V.heap.size, V'.heap.size, o2.out, hb.size, Nat.le_refl _, (HR.out.1).size⟩
      have HB2 := hid (bt HR.out.1 hb)
      refine hK.out _ _ ?_ (fun hHeld => ?_)
      · exact HB2.out
      clear hK K
      try go_frame
      exact F_1_8.out _ (by kernel_rfl) _ p bs (hid ⟨HB2.out, new, (HR.out.2).later hb⟩)
    refine AllReadyH.cons (o := gc_o6) rfl (fun K hK => ?_) ?_
    · unfold gc_o6
      go_simp
      have hb := alloc_later V (.cells gz6 26)
      have new := gcB.made (HR.out.1)
      have HB2 := hid (bt HR.out.1 hb)
      refine hK.out _ _ ?_ (fun hHeld => ?_)
      · exact HB2.out
      clear hK K
      try go_frame
      exact F_6_8.out _ (by kernel_rfl) _ V.heap.size bs (hid ⟨HB2.out, new, (HR.out.2).later hb, (by have := (HR.out.2).1.lt; omega)⟩)
    refine AllReadyH.cons (o := gc_o7) rfl (fun K hK => ?_) ?_
    · unfold gc_o7
      go_simp
      have hb := alloc_later V (.cells gz6 26)
      have new := gcB.made (HR.out.1)
      have HB2 := hid (bt HR.out.1 hb)
      refine hK.out _ _ ?_ (fun hHeld => ?_)
      · exact HB2.out
      clear hK K
      try go_frame
      exact F_7_8.out _ (by kernel_rfl) _ V.heap.size bs (hid ⟨HB2.out, new, (HR.out.2).later hb, (by have := (HR.out.2).1.lt; omega)⟩)
    exact AllReadyH.nil
  have F : Hid (∀ listed, listed = #[true, false, true, false, true, false, false, false, false, false, false, false] → ∀ (V : World) , Hid ((Below X.heap.size X V)) → wpAnyH Tryz.prog .any gc_region_ops (NoPanic Q) (fun V : World => Below X.heap.size X V) 9 listed { tmps := (List.toArray (t0 :: t1 :: t2 :: (.pointer (some ⟨ba, 0, none⟩)) :: (.pointer (some ⟨bb, 0, none⟩)) :: (.pointer (some ⟨br, 0, none⟩)) :: t6 :: t7 :: t8 :: t9 :: t10 :: t11 :: t12 :: t13 :: t14 :: t15 :: t16 :: t17 :: t18 :: t19 :: t20 :: t21 :: t22 :: t23 :: t24 :: t25 :: t26 :: t27 :: t28 :: t29 :: t30 :: t31 :: t32 :: t33 :: t34 :: t35 :: t36 :: t37 :: t38 :: t39 :: t40 :: t41 :: t42 :: t43 :: t44 :: t45 :: t46 :: t47 :: t48 :: t49 :: t50 :: (.agg (gv a)) :: t52 :: (.agg (gv b)) :: t54 :: (.agg (fv r)) :: t56 :: rest)), defers := [] } V) := by
    rintro _ rfl V  HR
    refine wpAnyH_ready (rs := [1, 6, 7, 8]) (by kernel_rfl) (by simp) ?_
    refine AllReadyH.cons (o := gc_o1) rfl (fun K hK => ?_) ?_
    · unfold gc_o1
      go_simp
      refine Calls.mono (gcLent a V (HL.out V HR.out).1 HNa.out.1 HNa.out.2.1 HNa.out.2.2.1 HNa.out.2.2.2) ?_
      rintro e V' ⟨p, rfl, o1, o2, hb⟩
      dsimp only
      have new : gcP X V' p a [p] := ⟨o1.out.base (HR.out).size, V.heap.size, V'.heap.size, o2.out, hb.size, Nat.le_refl _, (HR.out).size⟩
      have HB2 := hid (bt HR.out hb)
      refine hK.out _ _ ?_ (fun hHeld => ?_)
      · exact HB2.out
      clear hK K
      try go_frame
      exact F_1.out _ (by kernel_rfl) _ p (hid ⟨HB2.out, new⟩)
    refine AllReadyH.cons (o := gc_o6) rfl (fun K hK => ?_) ?_
    · unfold gc_o6
      go_simp
      have hb := alloc_later V (.cells gz6 26)
      have new := gcB.made (HR.out)
      have HB2 := hid (bt HR.out hb)
      refine hK.out _ _ ?_ (fun hHeld => ?_)
      · exact HB2.out
      clear hK K
      try go_frame
      exact F_6.out _ (by kernel_rfl) _ V.heap.size (hid ⟨HB2.out, new⟩)
    refine AllReadyH.cons (o := gc_o7) rfl (fun K hK => ?_) ?_
    · unfold gc_o7
      go_simp
      have hb := alloc_later V (.cells gz6 26)
      have new := gcB.made (HR.out)
      have HB2 := hid (bt HR.out hb)
      refine hK.out _ _ ?_ (fun hHeld => ?_)
      · exact HB2.out
      clear hK K
      try go_frame
      exact F_7.out _ (by kernel_rfl) _ V.heap.size (hid ⟨HB2.out, new⟩)
    refine AllReadyH.cons (o := gc_o8) rfl (fun K hK => ?_) ?_
    · unfold gc_o8
      go_simp
      have hb := alloc_later V (.cells gz3 24)
      have new := gcC.made (HR.out)
      have HB2 := hid (bt HR.out hb)
      refine hK.out _ _ ?_ (fun hHeld => ?_)
      · exact HB2.out
      clear hK K
      try go_frame
      exact F_8.out _ (by kernel_rfl) _ V.heap.size (hid ⟨HB2.out, new⟩)
    exact AllReadyH.nil
  refine wp_region_noPanic ?_
  refine wp_region_held_drew (S := (fun V : World => Below X.heap.size X V)) (by kernel_rfl) ?_ (fun hHeld => ?_)
  · exact (Below.drew (Below.refl _ X))
  refine wpAnyH_take (i := 0) (oi := { dst := some 51, op := Op.load 26 (Operand.tmp 3), type := 26, pos := "law.go:33", after := #[], guard := none }) (v := ?_) rfl (by kernel_rfl) (by kernel_rfl) (by kernel_rfl) (fun _ _ _ h => h) (Or.inl ⟨by rfl, ?_⟩) (by assumption) ?_
  rotate_left 1
  · intro V hSw
    obtain ⟨pa0, pa1, pa2, pa3, pa4, pa5, pb0, pb1, pb2, pb3, pb4, pb5, pr0, pr1, pr2⟩ := HK.out V hSw
    clear hSw
    go_simp
    try with_reducible rfl
  try simp only [Act.put, List.setIfInBounds_toArray, List.set_cons_zero, List.set_cons_succ]
  refine wpAnyH_take (i := 2) (oi := { dst := some 53, op := Op.load 26 (Operand.tmp 4), type := 26, pos := "law.go:33", after := #[], guard := none }) (v := ?_) rfl (by kernel_rfl) (by kernel_rfl) (by kernel_rfl) (fun _ _ _ h => h) (Or.inl ⟨by rfl, ?_⟩) (by assumption) ?_
  rotate_left 1
  · intro V hSw
    obtain ⟨pa0, pa1, pa2, pa3, pa4, pa5, pb0, pb1, pb2, pb3, pb4, pb5, pr0, pr1, pr2⟩ := HK.out V hSw
    clear hSw
    go_simp
    try with_reducible rfl
  try simp only [Act.put, List.setIfInBounds_toArray, List.set_cons_zero, List.set_cons_succ]
  refine wpAnyH_take (i := 4) (oi := { dst := some 55, op := Op.load 24 (Operand.tmp 5), type := 24, pos := "law.go:33", after := #[], guard := none }) (v := ?_) rfl (by kernel_rfl) (by kernel_rfl) (by kernel_rfl) (fun _ _ _ h => h) (Or.inl ⟨by rfl, ?_⟩) (by assumption) ?_
  rotate_left 1
  · intro V hSw
    obtain ⟨pa0, pa1, pa2, pa3, pa4, pa5, pb0, pb1, pb2, pb3, pb4, pb5, pr0, pr1, pr2⟩ := HK.out V hSw
    clear hSw
    go_simp
    try with_reducible rfl
  try simp only [Act.put, List.setIfInBounds_toArray, List.set_cons_zero, List.set_cons_succ]
  exact F.out _ (by kernel_rfl) _ (hid (Below.drew (Below.refl _ X)))
open Go.ChangeShapes Go.WideShapes Go.ChangeAt Go.RowKit Go.Joins Go.Deep
def InRow (w : World) (a : Option Addr) (len cap : Nat) (zs : List Int) : Prop :=
  (a = none ∧ len = 0 ∧ cap = 0 ∧ zs = []) ∨
  ∃ x, a = some x ∧ len ≤ cap ∧ cap ≤ maxLen ∧ zs.length = cap ∧ (∀ i, i < zs.length → w.cell? (x.add i) = some (.int .u32 (zs.getD i 0))) ∧ ∀ n ∈ zs, (Lit.int .u32 n).wf = true
theorem arr6 {cs : Array Value} (h : cs.size = 6) : ∃ c0 c1 c2 c3 c4 c5, cs = #[c0, c1, c2, c3, c4, c5] := by
  rcases cs with ⟨l⟩
  match l, h with
  | [c0, c1, c2, c3, c4, c5], _ => exact ⟨c0, c1, c2, c3, c4, c5, rfl⟩
theorem in_row {H : Type} {enc : TypeId × Value → H} {w : World} {held : Bool} {n : Nat} {v : Value} {x : DataW H × List MemPlace} (h : DataW.trod enc Tryz.prog w 0 (fun _ => true) held n 22 [v] = some x) : ∃ a len cap zs, v = .slice a len cap ∧ InRow w a len cap zs := by
  rcases open_ints Tryz.underlying22 Tryz.underlying63 (by kernel_rfl) h with ⟨hcs, _⟩ | ⟨x, l, cc, zs, hcs, _, hl, hm, hz, _, hcell, hwz⟩
  · simp at hcs
    exact ⟨none, 0, 0, [], hcs, .inl ⟨rfl, rfl, rfl, rfl⟩⟩
  · simp at hcs
    exact ⟨some x, l, cc, zs, hcs, .inr ⟨_, rfl, hl, hm, by simpa using hz, hcell, hwz⟩⟩
theorem in_ratio {H : Type} {enc : TypeId × Value → H} {w : World} {held : Bool} {n : Nat} {v0 v1 v2 : Value} {x : DataW H × List MemPlace} (h : DataW.trod enc Tryz.prog w 0 (fun _ => true) held n 24 [v0, v1, v2] = some x) :
    ∃ s a len cap zs b lem cbp ys, v0 = .bool s ∧ v1 = .slice a len cap ∧ v2 = .slice b lem cbp ∧ InRow w a len cap zs ∧ InRow w b lem cbp ys := by
  obtain ⟨y0, y1, y2, m, _, _, t0, t1, t2⟩ := trod_struct3 Tryz.underlying24 h
  have k0 : Tryz.prog.cellsOf 4 = 1 := by kernel_rfl
  have k1 : Tryz.prog.cellsOf 22 = 1 := by kernel_rfl
  simp [k0] at t0
  simp [k1] at t1 t2
  obtain ⟨s, hs, _⟩ := DataW.trod_bool Tryz.underlying4 t0
  simp at hs
  obtain ⟨a, len, cap, zs, e1, r1⟩ := in_row t1
  obtain ⟨b, lem, cbp, ys, e2, r2⟩ := in_row t2
  exact ⟨s, a, len, cap, zs, b, lem, cbp, ys, hs, e1, e2, r1, r2⟩
theorem in_gauss {H : Type} {enc : TypeId × Value → H} {w : World} {held : Bool} {n : Nat} {v0 v1 v2 v3 v4 v5 : Value} {x : DataW H × List MemPlace} (h : DataW.trod enc Tryz.prog w 0 (fun _ => true) held n 26 [v0, v1, v2, v3, v4, v5] = some x) :
    (∃ s a len cap zs b lem cbp ys, v0 = .bool s ∧ v1 = .slice a len cap ∧ v2 = .slice b lem cbp ∧ InRow w a len cap zs ∧ InRow w b lem cbp ys) ∧ (∃ s a len cap zs b lem cbp ys, v3 = .bool s ∧ v4 = .slice a len cap ∧ v5 = .slice b lem cbp ∧ InRow w a len cap zs ∧ InRow w b lem cbp ys) := by
  obtain ⟨y0, y1, m, _, _, t0, t1⟩ := trod_struct2 Tryz.underlying26 h
  have k0 : Tryz.prog.cellsOf 24 = 3 := by kernel_rfl
  simp [k0] at t0 t1
  exact ⟨in_ratio t0, in_ratio t1⟩
set_option maxHeartbeats 800000 in
theorem open_gauss {H : Type} {enc : TypeId × Value → H} {w : World} {held : Bool} {r : Reach} {b0 : Nat} {v : Value} {d : DataW H} {p : List MemPlace} (hv : Value.okWide Tryz.prog w r b0 26 v) (h : DataW.Trod enc Tryz.prog w 0 (fun _ => true) held 26 v d p) :
    ∃ (n : Bool) (a : Option Addr) (len cap : Nat) (zs : List Int) (b : Option Addr) (lem cbp : Nat) (ys : List Int) (m : Bool) (c : Option Addr) (lec cac : Nat) (us : List Int) (e : Option Addr) (lee cae : Nat) (vs : List Int),
      v = .agg #[.bool n, .slice a len cap, .slice b lem cbp, .bool m, .slice c lec cac, .slice e lee cae] ∧ InRow w a len cap zs ∧ InRow w b lem cbp ys ∧ InRow w c lec cac us ∧ InRow w e lee cae vs := by
  obtain ⟨cs, rfl, hsz⟩ := okWide_struct Tryz.underlying26 hv
  obtain ⟨c0, c1, c2, c3, c4, c5, rfl⟩ := arr6 (hsz.trans (by kernel_rfl))
  obtain ⟨fuel, hf⟩ := h
  obtain ⟨⟨n, a, len, cap, zs, b, lem, cbp, ys, e1, e2, e3, r1, r2⟩, m2, c, lec, cac, us, e, lee, cae, vs, e4, e5, e6, r3, r4⟩ := in_gauss (v0 := c0) (v1 := c1) (v2 := c2) (v3 := c3) (v4 := c4) (v5 := c5) hf
  exact ⟨n, a, len, cap, zs, b, lem, cbp, ys, m2, c, lec, cac, us, e, lee, cae, vs, by rw [e1, e2, e3, e4, e5, e6], r1, r2, r3, r4⟩
theorem GCh.le {base : Nat} {l : List G6} {t : Nat} (h : GCh base l t) : base ≤ t := by
  induction l generalizing t with
  | nil => exact h
  | cons g l ih => obtain ⟨lo, up, a, b, c, d⟩ := h; exact Nat.le_trans (ih d) (Nat.le_trans b c)
theorem GCh.cons {base : Nat} {l : List G6} {g : G6} {lo up : Nat} (h : g.In lo up) (hl : lo ≤ up) (c : GCh base l lo) : GCh base (g :: l) up := ⟨lo, up, h, hl, Nat.le_refl _, c⟩
theorem gc_al (w : World) : ∃ Y, w.alloc (.cells #[.bool false, .slice none 0 0, .slice none 0 0, .bool false, .slice none 0 0, .slice none 0 0] 26) = Y ∧ Hid (Box Y w.heap.size 26 #[.bool false, .slice none 0 0, .slice none 0 0, .bool false, .slice none 0 0, .slice none 0 0]) ∧ Hid (Below w.heap.size w Y) := ⟨_, rfl, Box.made w _ _, alloc_later _ _⟩
theorem gc_c6 {V : World} {p t : Nat} {g : G6} (h : Box V p t (gv g)) : V.cell? ⟨p, 0, none⟩ = some (.bool g.n) ∧ V.cell? ⟨p, 1, none⟩ = some (.slice g.a g.xs.length g.ca) ∧ V.cell? ⟨p, 2, none⟩ = some (.slice g.b g.ys.length g.cb) ∧ V.cell? ⟨p, 3, none⟩ = some (.bool g.m) ∧ V.cell? ⟨p, 4, none⟩ = some (.slice g.c g.us.length g.cc) ∧ V.cell? ⟨p, 5, none⟩ = some (.slice g.d g.vs.length g.cd) := ⟨h.cell 0, h.cell 1, h.cell 2, h.cell 3, h.cell 4, h.cell 5⟩
theorem gc_c3 {V : World} {p t : Nat} {g : F3} (h : Box V p t (fv g)) : V.cell? ⟨p, 0, none⟩ = some (.bool g.n) ∧ V.cell? ⟨p, 1, none⟩ = some (.slice g.a g.xs.length g.ca) ∧ V.cell? ⟨p, 2, none⟩ = some (.slice g.b g.ys.length g.cb) := ⟨h.cell 0, h.cell 1, h.cell 2⟩
def GPQ (p q a b : G6) (s r : F3) (bs : Nat) (W : World) (base : Nat) : Prop := p.Lt a W base ∧ q.Lt b W base ∧ s.Lt r W base ∧ Box W bs 24 (fv s)
theorem GPQ.later {p q a b : G6} {s r : F3} {bs : Nat} {W V : World} {base : Nat} (h : GPQ p q a b s r bs W base) (hb : Below W.heap.size W V) : GPQ p q a b s r bs V base := ⟨h.1.later hb, h.2.1.later hb, h.2.2.1.later hb, h.2.2.2.later hb h.2.2.2.lt⟩
theorem GPQ.new {p q a b : G6} {s r : F3} {bs : Nat} {W Y A : World} {base : Nat} (h : GPQ p q a b s r bs W base) (hY : Below W.heap.size W Y) (hB : ∀ p t' vs, p ≠ W.heap.size → Box Y p t' vs → Box A p t' vs) (hO : ∀ base v n xs, Y.ownsRow base 63 1 v n xs → A.ownsRow base 63 1 v n xs) : GPQ p q a b s r bs A base :=
  ⟨(h.1.later hY).put hO, (h.2.1.later hY).put hO, (h.2.2.1.later hY).put hO, hB _ _ _ (Nat.ne_of_lt h.2.2.2.lt) (h.2.2.2.later hY h.2.2.2.lt)⟩
theorem gc_fwd {s r : F3} {V : World} (h : s.As r) (g : r.Sl2 V) : Wd s.xs ∧ Wd s.ys := by
  rw [h.2.1, h.2.2]
  exact ⟨g.1.wd, g.2.wd⟩
theorem gc_few {g : G6} (h : g.xs.length ≤ 3000 ∧ g.ys.length ≤ 3000 ∧ g.us.length ≤ 3000 ∧ g.vs.length ≤ 3000) : ∀ j, j < 4 → (g.rl j).length ≤ 3000 := G6.four h.1 h.2.1 h.2.2.1 h.2.2.2
theorem gc_aslen {p g : G6} (h : p.As g) (l : g.xs.length ≤ 3000 ∧ g.ys.length ≤ 3000 ∧ g.us.length ≤ 3000 ∧ g.vs.length ≤ 3000) : p.xs.length ≤ 3000 ∧ p.ys.length ≤ 3000 ∧ p.us.length ≤ 3000 ∧ p.vs.length ≤ 3000 := by
  obtain ⟨_, e1, e2, _, e3, e4⟩ := h
  rw [e1, e2, e3, e4]
  exact l
theorem gc_tell {a b c d : Nat} (h : a ≤ 2048 ∧ b ≤ 2048 ∧ c ≤ 2048 ∧ d ≤ 2048) : a ≤ 3000 ∧ b ≤ 3000 ∧ c ≤ 3000 ∧ d ≤ 3000 := by omega
set_option maxHeartbeats 25600000 in
theorem gaussCalls_walk (a b : G6) (r : F3) (w X : World) (hX : ((w.alloc (.cells #[.bool a.n, .slice a.a a.xs.length a.ca, .slice a.b a.ys.length a.cb, .bool a.m, .slice a.c a.us.length a.cc, .slice a.d a.vs.length a.cd] 26)).alloc (.cells #[.bool b.n, .slice b.a b.xs.length b.ca, .slice b.b b.ys.length b.cb, .bool b.m, .slice b.c b.us.length b.cc, .slice b.d b.vs.length b.cd] 26)).alloc (.cells #[.bool r.n, .slice r.a r.xs.length r.ca, .slice r.b r.ys.length r.cb] 24) = X) (E1 E2 E3 E4 E5 : Int) (L1 L2 L3 L4 L5 : Prop) (u1 u2 u3 u4 u5 v1 v2 v3 v4 v5 : Rat)
    (HAB : Hid (∀ V, Below X.heap.size X V → Box V w.heap.size 26 (gv a) ∧ Box V (w.heap.size + 1) 26 (gv b) ∧ Box V (w.heap.size + 1 + 1) 24 (fv r))) (HSL : Hid (∀ V, Below X.heap.size X V → a.Sl4 V ∧ b.Sl4 V ∧ r.Sl2 V)) (HNa : Hid (a.xs.length ≤ 3000 ∧ a.ys.length ≤ 3000 ∧ a.us.length ≤ 3000 ∧ a.vs.length ≤ 3000)) (HNb : Hid (b.xs.length ≤ 3000 ∧ b.ys.length ≤ 3000 ∧ b.us.length ≤ 3000 ∧ b.vs.length ≤ 3000)) (HNr : Hid (r.xs.length ≤ 3000 ∧ r.ys.length ≤ 3000))
    (S1 : Hid (∀ V, Calls Tryz.prog 4 #[.agg #[.bool a.n, .slice a.a a.xs.length a.ca, .slice a.b a.ys.length a.cb, .bool a.m, .slice a.c a.us.length a.cc, .slice a.d a.vs.length a.cd]] V fun e w' => e = .returned (.bool false) ∧ Below V.heap.size V w')) (S2 : Hid (∀ V, Calls Tryz.prog 4 #[.agg #[.bool b.n, .slice b.a b.xs.length b.ca, .slice b.b b.ys.length b.cb, .bool b.m, .slice b.c b.us.length b.cc, .slice b.d b.vs.length b.cd]] V fun e w' => e = .returned (.bool false) ∧ Below V.heap.size V w')) (S3 : Hid (∀ V, Calls Tryz.prog 5 #[.agg #[.bool r.n, .slice r.a r.xs.length r.ca, .slice r.b r.ys.length r.cb], .int .i64 60] V fun e w' => e = .returned (.bool true) ∧ Below V.heap.size V w'))
    (FF1 : Hid (∀ p q V, G6.As p a → G6.As q b → p.Sl4 V → q.Sl4 V → Calls Tryz.prog 8 #[.agg #[.bool p.n, .slice p.a p.xs.length p.ca, .slice p.b p.ys.length p.cb, .bool p.m, .slice p.c p.us.length p.cc, .slice p.d p.vs.length p.cd], .agg #[.bool q.n, .slice q.a q.xs.length q.ca, .slice q.b q.ys.length q.cb, .bool q.m, .slice q.c q.us.length q.cc, .slice q.d q.vs.length q.cd]] V (KGq V E1 L1 u1 v1)))
    (D1 : Hid (∀ V, Below X.heap.size X V → Calls Tryz.prog 9 #[.agg #[.bool a.n, .slice a.a a.xs.length a.ca, .slice a.b a.ys.length a.cb, .bool a.m, .slice a.c a.us.length a.cc, .slice a.d a.vs.length a.cd], .agg #[.bool b.n, .slice b.a b.xs.length b.ca, .slice b.b b.ys.length b.cb, .bool b.m, .slice b.c b.us.length b.cc, .slice b.d b.vs.length b.cd]] V (DGq V E1 L1 u1 v1)))
    (FF2 : Hid (∀ p q V, G6.As p a → G6.As q b → p.Sl4 V → q.Sl4 V → Calls Tryz.prog 10 #[.agg #[.bool p.n, .slice p.a p.xs.length p.ca, .slice p.b p.ys.length p.cb, .bool p.m, .slice p.c p.us.length p.cc, .slice p.d p.vs.length p.cd], .agg #[.bool q.n, .slice q.a q.xs.length q.ca, .slice q.b q.ys.length q.cb, .bool q.m, .slice q.c q.us.length q.cc, .slice q.d q.vs.length q.cd]] V (KGq V E2 L2 u2 v2)))
    (D2 : Hid (∀ V, Below X.heap.size X V → Calls Tryz.prog 11 #[.agg #[.bool a.n, .slice a.a a.xs.length a.ca, .slice a.b a.ys.length a.cb, .bool a.m, .slice a.c a.us.length a.cc, .slice a.d a.vs.length a.cd], .agg #[.bool b.n, .slice b.a b.xs.length b.ca, .slice b.b b.ys.length b.cb, .bool b.m, .slice b.c b.us.length b.cc, .slice b.d b.vs.length b.cd]] V (DGq V E2 L2 u2 v2)))
    (FF3 : Hid (∀ p q V, G6.As p a → G6.As q b → p.Sl4 V → q.Sl4 V → Calls Tryz.prog 12 #[.agg #[.bool p.n, .slice p.a p.xs.length p.ca, .slice p.b p.ys.length p.cb, .bool p.m, .slice p.c p.us.length p.cc, .slice p.d p.vs.length p.cd], .agg #[.bool q.n, .slice q.a q.xs.length q.ca, .slice q.b q.ys.length q.cb, .bool q.m, .slice q.c q.us.length q.cc, .slice q.d q.vs.length q.cd]] V (KGq V E3 L3 u3 v3)))
    (D3 : Hid (∀ V, Below X.heap.size X V → Calls Tryz.prog 13 #[.agg #[.bool a.n, .slice a.a a.xs.length a.ca, .slice a.b a.ys.length a.cb, .bool a.m, .slice a.c a.us.length a.cc, .slice a.d a.vs.length a.cd], .agg #[.bool b.n, .slice b.a b.xs.length b.ca, .slice b.b b.ys.length b.cb, .bool b.m, .slice b.c b.us.length b.cc, .slice b.d b.vs.length b.cd]] V (DGq V E3 L3 u3 v3)))
    (FF4 : Hid (∀ p q V, G6.As p a → G6.As q b → p.Sl4 V → q.Sl4 V → Calls Tryz.prog 14 #[.agg #[.bool p.n, .slice p.a p.xs.length p.ca, .slice p.b p.ys.length p.cb, .bool p.m, .slice p.c p.us.length p.cc, .slice p.d p.vs.length p.cd], .agg #[.bool q.n, .slice q.a q.xs.length q.ca, .slice q.b q.ys.length q.cb, .bool q.m, .slice q.c q.us.length q.cc, .slice q.d q.vs.length q.cd]] V (KGq V E4 L4 u4 v4)))
    (D4 : Hid (∀ V, Below X.heap.size X V → Calls Tryz.prog 15 #[.agg #[.bool a.n, .slice a.a a.xs.length a.ca, .slice a.b a.ys.length a.cb, .bool a.m, .slice a.c a.us.length a.cc, .slice a.d a.vs.length a.cd], .agg #[.bool b.n, .slice b.a b.xs.length b.ca, .slice b.b b.ys.length b.cb, .bool b.m, .slice b.c b.us.length b.cc, .slice b.d b.vs.length b.cd]] V (DGq V E4 L4 u4 v4)))
    (FF5 : Hid (∀ s p V, F3.As s r → G6.As p a → s.Sl2 V → p.Sl4 V → Calls Tryz.prog 16 #[.agg #[.bool s.n, .slice s.a s.xs.length s.ca, .slice s.b s.ys.length s.cb], .agg #[.bool p.n, .slice p.a p.xs.length p.ca, .slice p.b p.ys.length p.cb, .bool p.m, .slice p.c p.us.length p.cc, .slice p.d p.vs.length p.cd]] V (KGq V E5 L5 u5 v5)))
    (D5 : Hid (∀ V, Below X.heap.size X V → Calls Tryz.prog 17 #[.agg #[.bool r.n, .slice r.a r.xs.length r.ca, .slice r.b r.ys.length r.cb], .agg #[.bool a.n, .slice a.a a.xs.length a.ca, .slice a.b a.ys.length a.cb, .bool a.m, .slice a.c a.us.length a.cc, .slice a.d a.vs.length a.cd]] V (DGq V E5 L5 u5 v5))) :
    Calls Tryz.prog 3 #[.agg #[.bool a.n, .slice a.a a.xs.length a.ca, .slice a.b a.ys.length a.cb, .bool a.m, .slice a.c a.us.length a.cc, .slice a.d a.vs.length a.cd], .agg #[.bool b.n, .slice b.a b.xs.length b.ca, .slice b.b b.ys.length b.cb, .bool b.m, .slice b.c b.us.length b.cc, .slice b.d b.vs.length b.cd], .agg #[.bool r.n, .slice r.a r.xs.length r.ca, .slice r.b r.ys.length r.cb]] w fun e w' => e = .returned (.bool true) ∧ Below X.heap.size X w' := by
  go_enter Tryz.func3, Tryz.ntmps3
  have HX := hid (Below.refl X.heap.size X)
  have HD := hid (S1.out X)
  obtain ⟨ka0, ka1, ka2, ka3, ka4, ka5⟩ := gc_c6 ((HAB.out X HX.out).1)
  go_wp2_with fail
  clear hX
  refine Calls.mono HD.out ?_
  rintro e w1 ⟨rfl, hb⟩
  clear HD ka0 ka1 ka2 ka3 ka4 ka5
  replace HX := hid (bt HX.out hb)
  clear hb
  have HD := hid (S2.out w1)
  obtain ⟨kb0, kb1, kb2, kb3, kb4, kb5⟩ := gc_c6 ((HAB.out w1 HX.out).2.1)
  go_wp2_with fail
  refine Calls.mono HD.out ?_
  rintro e w2 ⟨rfl, hb⟩
  clear HD kb0 kb1 kb2 kb3 kb4 kb5
  replace HX := hid (bt HX.out hb)
  clear hb
  have HD := hid (S3.out w2)
  obtain ⟨kr0, kr1, kr2⟩ := gc_c3 ((HAB.out w2 HX.out).2.2)
  go_wp2_with fail
  refine Calls.mono HD.out ?_
  rintro e w3 ⟨rfl, hb⟩
  clear HD kr0 kr1 kr2
  replace HX := hid (bt HX.out hb)
  clear hb
  clear S1 S2 S3
  go_upto_region 3 with fail
  refine gc_region w3 a b r w.heap.size (w.heap.size + 1) (w.heap.size + 1 + 1) (hid (HAB.out _ HX.out).1) (hid (HAB.out _ HX.out).2.1) (hid (HAB.out _ HX.out).2.2) (fun V hv => HSL.out V (bt HX.out hv)) HNa HNb HNr _ _ _ _ _ _ _ _ _ _ _ _ _ _ _ _ _ _ _ _ _ _ _ _ _ _ _ _ _ _ _ _ _ _ _ _ _ _ _ _ _ _ _ _ _ _ _ _ _ _ _ _ _ _ _ _ (fun p q s bp bq bs u51 u52 u53 u54 u55 u56 w4 HR => ?_)
  obtain ⟨Z, hZ⟩ : ∃ Z, w3 = Z := ⟨_, rfl⟩
  rw [hZ] at HR HX
  have ZX := hid HX.out.size
  replace HX := hid (bt HX.out HR.out.2.2.2.2.2.2)
  have HG := hid HR.out.1
  have HP : Hid (GPQ p q a b s r bs w4 Z.heap.size) := ⟨HR.out.2.2.1, HR.out.2.2.2.1, HR.out.2.2.2.2.1, HR.out.2.1⟩
  have CH := hid HR.out.2.2.2.2.2.1
  clear HR hZ
  clear w3
  have HXZ : Hid (X.heap.size ≤ Z.heap.size) := ZX.out
  have HWD : Hid (p.Wds ∧ q.Wds ∧ (Wd s.xs ∧ Wd s.ys)) := ⟨HP.out.1.1.wds (HSL.out _ HX.out).1.wds, HP.out.2.1.1.wds (HSL.out _ HX.out).2.1.wds, gc_fwd HP.out.2.2.1.1 (HSL.out _ HX.out).2.2⟩
  have HD := hid (FF1.out p q w4 HP.out.1.1 HP.out.2.1.1 (HP.out.1.ow.slw HWD.out.1) (HP.out.2.1.ow.slw HWD.out.2.1))
  obtain ⟨kp0, kp1, kp2, kp3, kp4, kp5⟩ := gc_c6 ((HG.out (bp, p) (.tail _ (.head _))).1)
  obtain ⟨kq0, kq1, kq2, kq3, kq4, kq5⟩ := gc_c6 ((HG.out (bq, q) (.head _)).1)
  go_wp2_with fail
  refine Calls.mono HD.out ?_
  rintro e w5 ⟨c, ec, rfl, ok, ik, nk, hb⟩
  clear HD kp0 kp1 kp2 kp3 kp4 kp5 kq0 kq1 kq2 kq3 kq4 kq5
  have Ic := hid ik.out
  have okb := hid (ok.out.base CH.out.le)
  clear ik ok
  have CH2 := hid (GCh.cons nk.out hb.size CH.out)
  clear nk CH
  have CH := CH2
  clear CH2
  replace HG := hid (HG.out.later hb)
  replace HP := hid (HP.out.later hb)
  replace HX := hid (bt HX.out hb)
  clear hb
  obtain ⟨Yc, hYc, NY, BY⟩ := gc_al w5
  obtain ⟨Kc0, Kc1, Kc2, Kc3, Kc4, Kc5, qKc0, qKc1, qKc2, qKc3, qKc4, qKc5, ⟨rKc0, rKc1, rKc2, rKc3, rKc4, rKc5⟩, ⟨fKc0, fKc1, fKc2, fKc3, fKc4, fKc5⟩, PP⟩ := rchain6 NY.out (by decide) (.bool c.n) (.slice c.a c.xs.length c.ca) (.slice c.b c.ys.length c.cb) (.bool c.m) (.slice c.c c.us.length c.cc) (.slice c.d c.vs.length c.cd)
  have HG2 := hid (HG.out.new (c := c) BY.out PP.out.2.1 PP.out.2.2.1 PP.out.1 okb.out)
  have HP2 := hid (HP.out.new BY.out PP.out.2.1 PP.out.2.2.1)
  have HX2 := hid (PP.out.2.2.2.1 _ _ HX.out.size (bt HX.out BY.out))
  have CH2 := hid (CH.out.mono (Nat.le_trans BY.out.size (Nat.le_of_eq PP.out.2.2.2.2.symm)))
  clear HG HP HX CH NY BY PP okb
  have HG := HG2
  have HP := HP2
  have HX := HX2
  have CH := CH2
  clear HG2 HP2 HX2 CH2
  have HD := hid (FF1.out p q Kc5 HP.out.1.1 HP.out.2.1.1 (HP.out.1.ow.slw HWD.out.1) (HP.out.2.1.ow.slw HWD.out.2.1))
  obtain ⟨kp0, kp1, kp2, kp3, kp4, kp5⟩ := gc_c6 ((HG.out (bp, p) (.tail _ (.tail _ (.head _)))).1)
  obtain ⟨kq0, kq1, kq2, kq3, kq4, kq5⟩ := gc_c6 ((HG.out (bq, q) (.tail _ (.head _))).1)
  go_wp2_with fail
  clear qKc0 qKc1 qKc2 qKc3 qKc4 qKc5 rKc0 rKc1 rKc2 rKc3 rKc4 rKc5 fKc0 fKc1 fKc2 fKc3 fKc4 fKc5 hYc
  refine Calls.mono HD.out ?_
  rintro e w6 ⟨c2, ec2, rfl, ok, ik, nk, hb⟩
  clear HD kp0 kp1 kp2 kp3 kp4 kp5 kq0 kq1 kq2 kq3 kq4 kq5
  have Ic2 := hid ik.out
  have okb := hid (ok.out.base CH.out.le)
  clear ik ok
  have CH2 := hid (GCh.cons nk.out hb.size CH.out)
  clear nk CH
  have CH := CH2
  clear CH2
  replace HG := hid (HG.out.later hb)
  replace HP := hid (HP.out.later hb)
  replace HX := hid (bt HX.out hb)
  clear hb
  obtain ⟨Yc2, hYc2, NY, BY⟩ := gc_al w6
  obtain ⟨Kc20, Kc21, Kc22, Kc23, Kc24, Kc25, qKc20, qKc21, qKc22, qKc23, qKc24, qKc25, ⟨rKc20, rKc21, rKc22, rKc23, rKc24, rKc25⟩, ⟨fKc20, fKc21, fKc22, fKc23, fKc24, fKc25⟩, PP⟩ := rchain6 NY.out (by decide) (.bool c2.n) (.slice c2.a c2.xs.length c2.ca) (.slice c2.b c2.ys.length c2.cb) (.bool c2.m) (.slice c2.c c2.us.length c2.cc) (.slice c2.d c2.vs.length c2.cd)
  have HG2 := hid (HG.out.new (c := c2) BY.out PP.out.2.1 PP.out.2.2.1 PP.out.1 okb.out)
  have HP2 := hid (HP.out.new BY.out PP.out.2.1 PP.out.2.2.1)
  have HX2 := hid (PP.out.2.2.2.1 _ _ HX.out.size (bt HX.out BY.out))
  have CH2 := hid (CH.out.mono (Nat.le_trans BY.out.size (Nat.le_of_eq PP.out.2.2.2.2.symm)))
  clear HG HP HX CH NY BY PP okb
  have HG := HG2
  have HP := HP2
  have HX := HX2
  have CH := CH2
  clear HG2 HP2 HX2 CH2
  have HD := hid (D1.out Kc25 HX.out)
  obtain ⟨ka0, ka1, ka2, ka3, ka4, ka5⟩ := gc_c6 ((HAB.out Kc25 HX.out).1)
  obtain ⟨kb0, kb1, kb2, kb3, kb4, kb5⟩ := gc_c6 ((HAB.out Kc25 HX.out).2.1)
  go_wp2_with fail
  clear qKc20 qKc21 qKc22 qKc23 qKc24 qKc25 rKc20 rKc21 rKc22 rKc23 rKc24 rKc25 fKc20 fKc21 fKc22 fKc23 fKc24 fKc25 hYc2
  refine Calls.mono HD.out ?_
  rintro e w7 ⟨c3, ec3, rfl, ok, ik, hb⟩
  clear HD ka0 ka1 ka2 ka3 ka4 ka5 kb0 kb1 kb2 kb3 kb4 kb5
  have Ic3 := hid ik.out
  have okb := hid (ok.out.base CH.out.le)
  clear ik ok
  replace HG := hid (HG.out.later hb)
  replace HP := hid (HP.out.later hb)
  replace CH := hid (CH.out.mono hb.size)
  replace HX := hid (bt HX.out hb)
  clear hb
  obtain ⟨Yc3, hYc3, NY, BY⟩ := gc_al w7
  obtain ⟨Kc30, Kc31, Kc32, Kc33, Kc34, Kc35, qKc30, qKc31, qKc32, qKc33, qKc34, qKc35, ⟨rKc30, rKc31, rKc32, rKc33, rKc34, rKc35⟩, ⟨fKc30, fKc31, fKc32, fKc33, fKc34, fKc35⟩, PP⟩ := rchain6 NY.out (by decide) (.bool c3.n) (.slice c3.a c3.xs.length c3.ca) (.slice c3.b c3.ys.length c3.cb) (.bool c3.m) (.slice c3.c c3.us.length c3.cc) (.slice c3.d c3.vs.length c3.cd)
  have HG2 := hid (HG.out.new (c := c3) BY.out PP.out.2.1 PP.out.2.2.1 PP.out.1 okb.out)
  have HP2 := hid (HP.out.new BY.out PP.out.2.1 PP.out.2.2.1)
  have HX2 := hid (PP.out.2.2.2.1 _ _ HX.out.size (bt HX.out BY.out))
  have CH2 := hid (CH.out.mono (Nat.le_trans BY.out.size (Nat.le_of_eq PP.out.2.2.2.2.symm)))
  clear HG HP HX CH NY BY PP okb
  have HG := HG2
  have HP := HP2
  have HX := HX2
  have CH := CH2
  clear HG2 HP2 HX2 CH2
  have HD := hid (FF2.out p q Kc35 HP.out.1.1 HP.out.2.1.1 (HP.out.1.ow.slw HWD.out.1) (HP.out.2.1.ow.slw HWD.out.2.1))
  obtain ⟨kp0, kp1, kp2, kp3, kp4, kp5⟩ := gc_c6 ((HG.out (bp, p) (.tail _ (.tail _ (.tail _ (.tail _ (.head _)))))).1)
  obtain ⟨kq0, kq1, kq2, kq3, kq4, kq5⟩ := gc_c6 ((HG.out (bq, q) (.tail _ (.tail _ (.tail _ (.head _))))).1)
  go_wp2_with fail
  clear qKc30 qKc31 qKc32 qKc33 qKc34 qKc35 rKc30 rKc31 rKc32 rKc33 rKc34 rKc35 fKc30 fKc31 fKc32 fKc33 fKc34 fKc35 hYc3
  refine Calls.mono HD.out ?_
  rintro e w8 ⟨d, ed, rfl, ok, ik, nk, hb⟩
  clear HD kp0 kp1 kp2 kp3 kp4 kp5 kq0 kq1 kq2 kq3 kq4 kq5
  have Id := hid ik.out
  have okb := hid (ok.out.base CH.out.le)
  clear ik ok
  have CH2 := hid (GCh.cons nk.out hb.size CH.out)
  clear nk CH
  have CH := CH2
  clear CH2
  replace HG := hid (HG.out.later hb)
  replace HP := hid (HP.out.later hb)
  replace HX := hid (bt HX.out hb)
  clear hb
  obtain ⟨Yd, hYd, NY, BY⟩ := gc_al w8
  obtain ⟨Kd0, Kd1, Kd2, Kd3, Kd4, Kd5, qKd0, qKd1, qKd2, qKd3, qKd4, qKd5, ⟨rKd0, rKd1, rKd2, rKd3, rKd4, rKd5⟩, ⟨fKd0, fKd1, fKd2, fKd3, fKd4, fKd5⟩, PP⟩ := rchain6 NY.out (by decide) (.bool d.n) (.slice d.a d.xs.length d.ca) (.slice d.b d.ys.length d.cb) (.bool d.m) (.slice d.c d.us.length d.cc) (.slice d.d d.vs.length d.cd)
  have HG2 := hid (HG.out.new (c := d) BY.out PP.out.2.1 PP.out.2.2.1 PP.out.1 okb.out)
  have HP2 := hid (HP.out.new BY.out PP.out.2.1 PP.out.2.2.1)
  have HX2 := hid (PP.out.2.2.2.1 _ _ HX.out.size (bt HX.out BY.out))
  have CH2 := hid (CH.out.mono (Nat.le_trans BY.out.size (Nat.le_of_eq PP.out.2.2.2.2.symm)))
  clear HG HP HX CH NY BY PP okb
  have HG := HG2
  have HP := HP2
  have HX := HX2
  have CH := CH2
  clear HG2 HP2 HX2 CH2
  have HD := hid (FF2.out p q Kd5 HP.out.1.1 HP.out.2.1.1 (HP.out.1.ow.slw HWD.out.1) (HP.out.2.1.ow.slw HWD.out.2.1))
  obtain ⟨kp0, kp1, kp2, kp3, kp4, kp5⟩ := gc_c6 ((HG.out (bp, p) (.tail _ (.tail _ (.tail _ (.tail _ (.tail _ (.head _))))))).1)
  obtain ⟨kq0, kq1, kq2, kq3, kq4, kq5⟩ := gc_c6 ((HG.out (bq, q) (.tail _ (.tail _ (.tail _ (.tail _ (.head _)))))).1)
  go_wp2_with fail
  clear qKd0 qKd1 qKd2 qKd3 qKd4 qKd5 rKd0 rKd1 rKd2 rKd3 rKd4 rKd5 fKd0 fKd1 fKd2 fKd3 fKd4 fKd5 hYd
  refine Calls.mono HD.out ?_
  rintro e w9 ⟨d2, ed2, rfl, ok, ik, nk, hb⟩
  clear HD kp0 kp1 kp2 kp3 kp4 kp5 kq0 kq1 kq2 kq3 kq4 kq5
  have Id2 := hid ik.out
  have okb := hid (ok.out.base CH.out.le)
  clear ik ok
  have CH2 := hid (GCh.cons nk.out hb.size CH.out)
  clear nk CH
  have CH := CH2
  clear CH2
  replace HG := hid (HG.out.later hb)
  replace HP := hid (HP.out.later hb)
  replace HX := hid (bt HX.out hb)
  clear hb
  obtain ⟨Yd2, hYd2, NY, BY⟩ := gc_al w9
  obtain ⟨Kd20, Kd21, Kd22, Kd23, Kd24, Kd25, qKd20, qKd21, qKd22, qKd23, qKd24, qKd25, ⟨rKd20, rKd21, rKd22, rKd23, rKd24, rKd25⟩, ⟨fKd20, fKd21, fKd22, fKd23, fKd24, fKd25⟩, PP⟩ := rchain6 NY.out (by decide) (.bool d2.n) (.slice d2.a d2.xs.length d2.ca) (.slice d2.b d2.ys.length d2.cb) (.bool d2.m) (.slice d2.c d2.us.length d2.cc) (.slice d2.d d2.vs.length d2.cd)
  have HG2 := hid (HG.out.new (c := d2) BY.out PP.out.2.1 PP.out.2.2.1 PP.out.1 okb.out)
  have HP2 := hid (HP.out.new BY.out PP.out.2.1 PP.out.2.2.1)
  have HX2 := hid (PP.out.2.2.2.1 _ _ HX.out.size (bt HX.out BY.out))
  have CH2 := hid (CH.out.mono (Nat.le_trans BY.out.size (Nat.le_of_eq PP.out.2.2.2.2.symm)))
  clear HG HP HX CH NY BY PP okb
  have HG := HG2
  have HP := HP2
  have HX := HX2
  have CH := CH2
  clear HG2 HP2 HX2 CH2
  have HD := hid (D2.out Kd25 HX.out)
  obtain ⟨ka0, ka1, ka2, ka3, ka4, ka5⟩ := gc_c6 ((HAB.out Kd25 HX.out).1)
  obtain ⟨kb0, kb1, kb2, kb3, kb4, kb5⟩ := gc_c6 ((HAB.out Kd25 HX.out).2.1)
  go_wp2_with fail
  clear qKd20 qKd21 qKd22 qKd23 qKd24 qKd25 rKd20 rKd21 rKd22 rKd23 rKd24 rKd25 fKd20 fKd21 fKd22 fKd23 fKd24 fKd25 hYd2
  refine Calls.mono HD.out ?_
  rintro e w10 ⟨d3, ed3, rfl, ok, ik, hb⟩
  clear HD ka0 ka1 ka2 ka3 ka4 ka5 kb0 kb1 kb2 kb3 kb4 kb5
  have Id3 := hid ik.out
  have okb := hid (ok.out.base CH.out.le)
  clear ik ok
  replace HG := hid (HG.out.later hb)
  replace HP := hid (HP.out.later hb)
  replace CH := hid (CH.out.mono hb.size)
  replace HX := hid (bt HX.out hb)
  clear hb
  obtain ⟨Yd3, hYd3, NY, BY⟩ := gc_al w10
  obtain ⟨Kd30, Kd31, Kd32, Kd33, Kd34, Kd35, qKd30, qKd31, qKd32, qKd33, qKd34, qKd35, ⟨rKd30, rKd31, rKd32, rKd33, rKd34, rKd35⟩, ⟨fKd30, fKd31, fKd32, fKd33, fKd34, fKd35⟩, PP⟩ := rchain6 NY.out (by decide) (.bool d3.n) (.slice d3.a d3.xs.length d3.ca) (.slice d3.b d3.ys.length d3.cb) (.bool d3.m) (.slice d3.c d3.us.length d3.cc) (.slice d3.d d3.vs.length d3.cd)
  have HG2 := hid (HG.out.new (c := d3) BY.out PP.out.2.1 PP.out.2.2.1 PP.out.1 okb.out)
  have HP2 := hid (HP.out.new BY.out PP.out.2.1 PP.out.2.2.1)
  have HX2 := hid (PP.out.2.2.2.1 _ _ HX.out.size (bt HX.out BY.out))
  have CH2 := hid (CH.out.mono (Nat.le_trans BY.out.size (Nat.le_of_eq PP.out.2.2.2.2.symm)))
  clear HG HP HX CH NY BY PP okb
  have HG := HG2
  have HP := HP2
  have HX := HX2
  have CH := CH2
  clear HG2 HP2 HX2 CH2
  have HD := hid (FF3.out p q Kd35 HP.out.1.1 HP.out.2.1.1 (HP.out.1.ow.slw HWD.out.1) (HP.out.2.1.ow.slw HWD.out.2.1))
  obtain ⟨kp0, kp1, kp2, kp3, kp4, kp5⟩ := gc_c6 ((HG.out (bp, p) (.tail _ (.tail _ (.tail _ (.tail _ (.tail _ (.tail _ (.tail _ (.head _))))))))).1)
  obtain ⟨kq0, kq1, kq2, kq3, kq4, kq5⟩ := gc_c6 ((HG.out (bq, q) (.tail _ (.tail _ (.tail _ (.tail _ (.tail _ (.tail _ (.head _)))))))).1)
  go_wp2_with fail
  clear qKd30 qKd31 qKd32 qKd33 qKd34 qKd35 rKd30 rKd31 rKd32 rKd33 rKd34 rKd35 fKd30 fKd31 fKd32 fKd33 fKd34 fKd35 hYd3
  refine Calls.mono HD.out ?_
  rintro e w11 ⟨m, em, rfl, ok, ik, nk, hb⟩
  clear HD kp0 kp1 kp2 kp3 kp4 kp5 kq0 kq1 kq2 kq3 kq4 kq5
  have Im := hid ik.out
  have okb := hid (ok.out.base CH.out.le)
  clear ik ok
  have CH2 := hid (GCh.cons nk.out hb.size CH.out)
  clear nk CH
  have CH := CH2
  clear CH2
  replace HG := hid (HG.out.later hb)
  replace HP := hid (HP.out.later hb)
  replace HX := hid (bt HX.out hb)
  clear hb
  obtain ⟨Ym, hYm, NY, BY⟩ := gc_al w11
  obtain ⟨Km0, Km1, Km2, Km3, Km4, Km5, qKm0, qKm1, qKm2, qKm3, qKm4, qKm5, ⟨rKm0, rKm1, rKm2, rKm3, rKm4, rKm5⟩, ⟨fKm0, fKm1, fKm2, fKm3, fKm4, fKm5⟩, PP⟩ := rchain6 NY.out (by decide) (.bool m.n) (.slice m.a m.xs.length m.ca) (.slice m.b m.ys.length m.cb) (.bool m.m) (.slice m.c m.us.length m.cc) (.slice m.d m.vs.length m.cd)
  have HG2 := hid (HG.out.new (c := m) BY.out PP.out.2.1 PP.out.2.2.1 PP.out.1 okb.out)
  have HP2 := hid (HP.out.new BY.out PP.out.2.1 PP.out.2.2.1)
  have HX2 := hid (PP.out.2.2.2.1 _ _ HX.out.size (bt HX.out BY.out))
  have CH2 := hid (CH.out.mono (Nat.le_trans BY.out.size (Nat.le_of_eq PP.out.2.2.2.2.symm)))
  clear HG HP HX CH NY BY PP okb
  have HG := HG2
  have HP := HP2
  have HX := HX2
  have CH := CH2
  clear HG2 HP2 HX2 CH2
  have HD := hid (FF3.out p q Km5 HP.out.1.1 HP.out.2.1.1 (HP.out.1.ow.slw HWD.out.1) (HP.out.2.1.ow.slw HWD.out.2.1))
  obtain ⟨kp0, kp1, kp2, kp3, kp4, kp5⟩ := gc_c6 ((HG.out (bp, p) (.tail _ (.tail _ (.tail _ (.tail _ (.tail _ (.tail _ (.tail _ (.tail _ (.head _)))))))))).1)
  obtain ⟨kq0, kq1, kq2, kq3, kq4, kq5⟩ := gc_c6 ((HG.out (bq, q) (.tail _ (.tail _ (.tail _ (.tail _ (.tail _ (.tail _ (.tail _ (.head _))))))))).1)
  go_wp2_with fail
  clear qKm0 qKm1 qKm2 qKm3 qKm4 qKm5 rKm0 rKm1 rKm2 rKm3 rKm4 rKm5 fKm0 fKm1 fKm2 fKm3 fKm4 fKm5 hYm
  refine Calls.mono HD.out ?_
  rintro e w12 ⟨m2, em2, rfl, ok, ik, nk, hb⟩
  clear HD kp0 kp1 kp2 kp3 kp4 kp5 kq0 kq1 kq2 kq3 kq4 kq5
  have Im2 := hid ik.out
  have okb := hid (ok.out.base CH.out.le)
  clear ik ok
  have CH2 := hid (GCh.cons nk.out hb.size CH.out)
  clear nk CH
  have CH := CH2
  clear CH2
  replace HG := hid (HG.out.later hb)
  replace HP := hid (HP.out.later hb)
  replace HX := hid (bt HX.out hb)
  clear hb
  obtain ⟨Ym2, hYm2, NY, BY⟩ := gc_al w12
  obtain ⟨Km20, Km21, Km22, Km23, Km24, Km25, qKm20, qKm21, qKm22, qKm23, qKm24, qKm25, ⟨rKm20, rKm21, rKm22, rKm23, rKm24, rKm25⟩, ⟨fKm20, fKm21, fKm22, fKm23, fKm24, fKm25⟩, PP⟩ := rchain6 NY.out (by decide) (.bool m2.n) (.slice m2.a m2.xs.length m2.ca) (.slice m2.b m2.ys.length m2.cb) (.bool m2.m) (.slice m2.c m2.us.length m2.cc) (.slice m2.d m2.vs.length m2.cd)
  have HG2 := hid (HG.out.new (c := m2) BY.out PP.out.2.1 PP.out.2.2.1 PP.out.1 okb.out)
  have HP2 := hid (HP.out.new BY.out PP.out.2.1 PP.out.2.2.1)
  have HX2 := hid (PP.out.2.2.2.1 _ _ HX.out.size (bt HX.out BY.out))
  have CH2 := hid (CH.out.mono (Nat.le_trans BY.out.size (Nat.le_of_eq PP.out.2.2.2.2.symm)))
  clear HG HP HX CH NY BY PP okb
  have HG := HG2
  have HP := HP2
  have HX := HX2
  have CH := CH2
  clear HG2 HP2 HX2 CH2
  have HD := hid (D3.out Km25 HX.out)
  obtain ⟨ka0, ka1, ka2, ka3, ka4, ka5⟩ := gc_c6 ((HAB.out Km25 HX.out).1)
  obtain ⟨kb0, kb1, kb2, kb3, kb4, kb5⟩ := gc_c6 ((HAB.out Km25 HX.out).2.1)
  go_wp2_with fail
  clear qKm20 qKm21 qKm22 qKm23 qKm24 qKm25 rKm20 rKm21 rKm22 rKm23 rKm24 rKm25 fKm20 fKm21 fKm22 fKm23 fKm24 fKm25 hYm2
  refine Calls.mono HD.out ?_
  rintro e w13 ⟨m3, em3, rfl, ok, ik, hb⟩
  clear HD ka0 ka1 ka2 ka3 ka4 ka5 kb0 kb1 kb2 kb3 kb4 kb5
  have Im3 := hid ik.out
  have okb := hid (ok.out.base CH.out.le)
  clear ik ok
  replace HG := hid (HG.out.later hb)
  replace HP := hid (HP.out.later hb)
  replace CH := hid (CH.out.mono hb.size)
  replace HX := hid (bt HX.out hb)
  clear hb
  obtain ⟨Ym3, hYm3, NY, BY⟩ := gc_al w13
  obtain ⟨Km30, Km31, Km32, Km33, Km34, Km35, qKm30, qKm31, qKm32, qKm33, qKm34, qKm35, ⟨rKm30, rKm31, rKm32, rKm33, rKm34, rKm35⟩, ⟨fKm30, fKm31, fKm32, fKm33, fKm34, fKm35⟩, PP⟩ := rchain6 NY.out (by decide) (.bool m3.n) (.slice m3.a m3.xs.length m3.ca) (.slice m3.b m3.ys.length m3.cb) (.bool m3.m) (.slice m3.c m3.us.length m3.cc) (.slice m3.d m3.vs.length m3.cd)
  have HG2 := hid (HG.out.new (c := m3) BY.out PP.out.2.1 PP.out.2.2.1 PP.out.1 okb.out)
  have HP2 := hid (HP.out.new BY.out PP.out.2.1 PP.out.2.2.1)
  have HX2 := hid (PP.out.2.2.2.1 _ _ HX.out.size (bt HX.out BY.out))
  have CH2 := hid (CH.out.mono (Nat.le_trans BY.out.size (Nat.le_of_eq PP.out.2.2.2.2.symm)))
  clear HG HP HX CH NY BY PP okb
  have HG := HG2
  have HP := HP2
  have HX := HX2
  have CH := CH2
  clear HG2 HP2 HX2 CH2
  have HD := hid (FF4.out p q Km35 HP.out.1.1 HP.out.2.1.1 (HP.out.1.ow.slw HWD.out.1) (HP.out.2.1.ow.slw HWD.out.2.1))
  obtain ⟨kp0, kp1, kp2, kp3, kp4, kp5⟩ := gc_c6 ((HG.out (bp, p) (.tail _ (.tail _ (.tail _ (.tail _ (.tail _ (.tail _ (.tail _ (.tail _ (.tail _ (.tail _ (.head _)))))))))))).1)
  obtain ⟨kq0, kq1, kq2, kq3, kq4, kq5⟩ := gc_c6 ((HG.out (bq, q) (.tail _ (.tail _ (.tail _ (.tail _ (.tail _ (.tail _ (.tail _ (.tail _ (.tail _ (.head _))))))))))).1)
  go_wp2_with fail
  clear qKm30 qKm31 qKm32 qKm33 qKm34 qKm35 rKm30 rKm31 rKm32 rKm33 rKm34 rKm35 fKm30 fKm31 fKm32 fKm33 fKm34 fKm35 hYm3
  refine Calls.mono HD.out ?_
  rintro e w14 ⟨x, ex, rfl, ok, ik, nk, hb⟩
  clear HD kp0 kp1 kp2 kp3 kp4 kp5 kq0 kq1 kq2 kq3 kq4 kq5
  have Ix := hid ik.out
  have okb := hid (ok.out.base CH.out.le)
  clear ik ok
  have CH2 := hid (GCh.cons nk.out hb.size CH.out)
  clear nk CH
  have CH := CH2
  clear CH2
  replace HG := hid (HG.out.later hb)
  replace HP := hid (HP.out.later hb)
  replace HX := hid (bt HX.out hb)
  clear hb
  obtain ⟨Yx, hYx, NY, BY⟩ := gc_al w14
  obtain ⟨Kx0, Kx1, Kx2, Kx3, Kx4, Kx5, qKx0, qKx1, qKx2, qKx3, qKx4, qKx5, ⟨rKx0, rKx1, rKx2, rKx3, rKx4, rKx5⟩, ⟨fKx0, fKx1, fKx2, fKx3, fKx4, fKx5⟩, PP⟩ := rchain6 NY.out (by decide) (.bool x.n) (.slice x.a x.xs.length x.ca) (.slice x.b x.ys.length x.cb) (.bool x.m) (.slice x.c x.us.length x.cc) (.slice x.d x.vs.length x.cd)
  have HG2 := hid (HG.out.new (c := x) BY.out PP.out.2.1 PP.out.2.2.1 PP.out.1 okb.out)
  have HP2 := hid (HP.out.new BY.out PP.out.2.1 PP.out.2.2.1)
  have HX2 := hid (PP.out.2.2.2.1 _ _ HX.out.size (bt HX.out BY.out))
  have CH2 := hid (CH.out.mono (Nat.le_trans BY.out.size (Nat.le_of_eq PP.out.2.2.2.2.symm)))
  clear HG HP HX CH NY BY PP okb
  have HG := HG2
  have HP := HP2
  have HX := HX2
  have CH := CH2
  clear HG2 HP2 HX2 CH2
  have HD := hid (FF4.out p q Kx5 HP.out.1.1 HP.out.2.1.1 (HP.out.1.ow.slw HWD.out.1) (HP.out.2.1.ow.slw HWD.out.2.1))
  obtain ⟨kp0, kp1, kp2, kp3, kp4, kp5⟩ := gc_c6 ((HG.out (bp, p) (.tail _ (.tail _ (.tail _ (.tail _ (.tail _ (.tail _ (.tail _ (.tail _ (.tail _ (.tail _ (.tail _ (.head _))))))))))))).1)
  obtain ⟨kq0, kq1, kq2, kq3, kq4, kq5⟩ := gc_c6 ((HG.out (bq, q) (.tail _ (.tail _ (.tail _ (.tail _ (.tail _ (.tail _ (.tail _ (.tail _ (.tail _ (.tail _ (.head _)))))))))))).1)
  go_wp2_with fail
  clear qKx0 qKx1 qKx2 qKx3 qKx4 qKx5 rKx0 rKx1 rKx2 rKx3 rKx4 rKx5 fKx0 fKx1 fKx2 fKx3 fKx4 fKx5 hYx
  refine Calls.mono HD.out ?_
  rintro e w15 ⟨x2, ex2, rfl, ok, ik, nk, hb⟩
  clear HD kp0 kp1 kp2 kp3 kp4 kp5 kq0 kq1 kq2 kq3 kq4 kq5
  have Ix2 := hid ik.out
  have okb := hid (ok.out.base CH.out.le)
  clear ik ok
  have CH2 := hid (GCh.cons nk.out hb.size CH.out)
  clear nk CH
  have CH := CH2
  clear CH2
  replace HG := hid (HG.out.later hb)
  replace HP := hid (HP.out.later hb)
  replace HX := hid (bt HX.out hb)
  clear hb
  obtain ⟨Yx2, hYx2, NY, BY⟩ := gc_al w15
  obtain ⟨Kx20, Kx21, Kx22, Kx23, Kx24, Kx25, qKx20, qKx21, qKx22, qKx23, qKx24, qKx25, ⟨rKx20, rKx21, rKx22, rKx23, rKx24, rKx25⟩, ⟨fKx20, fKx21, fKx22, fKx23, fKx24, fKx25⟩, PP⟩ := rchain6 NY.out (by decide) (.bool x2.n) (.slice x2.a x2.xs.length x2.ca) (.slice x2.b x2.ys.length x2.cb) (.bool x2.m) (.slice x2.c x2.us.length x2.cc) (.slice x2.d x2.vs.length x2.cd)
  have HG2 := hid (HG.out.new (c := x2) BY.out PP.out.2.1 PP.out.2.2.1 PP.out.1 okb.out)
  have HP2 := hid (HP.out.new BY.out PP.out.2.1 PP.out.2.2.1)
  have HX2 := hid (PP.out.2.2.2.1 _ _ HX.out.size (bt HX.out BY.out))
  have CH2 := hid (CH.out.mono (Nat.le_trans BY.out.size (Nat.le_of_eq PP.out.2.2.2.2.symm)))
  clear HG HP HX CH NY BY PP okb
  have HG := HG2
  have HP := HP2
  have HX := HX2
  have CH := CH2
  clear HG2 HP2 HX2 CH2
  have HD := hid (D4.out Kx25 HX.out)
  obtain ⟨ka0, ka1, ka2, ka3, ka4, ka5⟩ := gc_c6 ((HAB.out Kx25 HX.out).1)
  obtain ⟨kb0, kb1, kb2, kb3, kb4, kb5⟩ := gc_c6 ((HAB.out Kx25 HX.out).2.1)
  go_wp2_with fail
  clear qKx20 qKx21 qKx22 qKx23 qKx24 qKx25 rKx20 rKx21 rKx22 rKx23 rKx24 rKx25 fKx20 fKx21 fKx22 fKx23 fKx24 fKx25 hYx2
  refine Calls.mono HD.out ?_
  rintro e w16 ⟨x3, ex3, rfl, ok, ik, hb⟩
  clear HD ka0 ka1 ka2 ka3 ka4 ka5 kb0 kb1 kb2 kb3 kb4 kb5
  have Ix3 := hid ik.out
  have okb := hid (ok.out.base CH.out.le)
  clear ik ok
  replace HG := hid (HG.out.later hb)
  replace HP := hid (HP.out.later hb)
  replace CH := hid (CH.out.mono hb.size)
  replace HX := hid (bt HX.out hb)
  clear hb
  obtain ⟨Yx3, hYx3, NY, BY⟩ := gc_al w16
  obtain ⟨Kx30, Kx31, Kx32, Kx33, Kx34, Kx35, qKx30, qKx31, qKx32, qKx33, qKx34, qKx35, ⟨rKx30, rKx31, rKx32, rKx33, rKx34, rKx35⟩, ⟨fKx30, fKx31, fKx32, fKx33, fKx34, fKx35⟩, PP⟩ := rchain6 NY.out (by decide) (.bool x3.n) (.slice x3.a x3.xs.length x3.ca) (.slice x3.b x3.ys.length x3.cb) (.bool x3.m) (.slice x3.c x3.us.length x3.cc) (.slice x3.d x3.vs.length x3.cd)
  have HG2 := hid (HG.out.new (c := x3) BY.out PP.out.2.1 PP.out.2.2.1 PP.out.1 okb.out)
  have HP2 := hid (HP.out.new BY.out PP.out.2.1 PP.out.2.2.1)
  have HX2 := hid (PP.out.2.2.2.1 _ _ HX.out.size (bt HX.out BY.out))
  have CH2 := hid (CH.out.mono (Nat.le_trans BY.out.size (Nat.le_of_eq PP.out.2.2.2.2.symm)))
  clear HG HP HX CH NY BY PP okb
  have HG := HG2
  have HP := HP2
  have HX := HX2
  have CH := CH2
  clear HG2 HP2 HX2 CH2
  have HD := hid (FF5.out s p Kx35 HP.out.2.2.1.1 HP.out.1.1 (HP.out.2.2.1.ow.sl HWD.out.2.2) (HP.out.1.ow.slw HWD.out.1))
  obtain ⟨ks0, ks1, ks2⟩ := gc_c3 (HP.out.2.2.2)
  obtain ⟨kp0, kp1, kp2, kp3, kp4, kp5⟩ := gc_c6 ((HG.out (bp, p) (.tail _ (.tail _ (.tail _ (.tail _ (.tail _ (.tail _ (.tail _ (.tail _ (.tail _ (.tail _ (.tail _ (.tail _ (.tail _ (.head _))))))))))))))).1)
  go_wp2_with fail
  clear qKx30 qKx31 qKx32 qKx33 qKx34 qKx35 rKx30 rKx31 rKx32 rKx33 rKx34 rKx35 fKx30 fKx31 fKx32 fKx33 fKx34 fKx35 hYx3
  refine Calls.mono HD.out ?_
  rintro e w17 ⟨y, ey, rfl, ok, ik, nk, hb⟩
  clear HD ks0 ks1 ks2 kp0 kp1 kp2 kp3 kp4 kp5
  have Iy := hid ik.out
  have okb := hid (ok.out.base CH.out.le)
  clear ik ok
  have CH2 := hid (GCh.cons nk.out hb.size CH.out)
  clear nk CH
  have CH := CH2
  clear CH2
  replace HG := hid (HG.out.later hb)
  replace HP := hid (HP.out.later hb)
  replace HX := hid (bt HX.out hb)
  clear hb
  obtain ⟨Yy, hYy, NY, BY⟩ := gc_al w17
  obtain ⟨Ky0, Ky1, Ky2, Ky3, Ky4, Ky5, qKy0, qKy1, qKy2, qKy3, qKy4, qKy5, ⟨rKy0, rKy1, rKy2, rKy3, rKy4, rKy5⟩, ⟨fKy0, fKy1, fKy2, fKy3, fKy4, fKy5⟩, PP⟩ := rchain6 NY.out (by decide) (.bool y.n) (.slice y.a y.xs.length y.ca) (.slice y.b y.ys.length y.cb) (.bool y.m) (.slice y.c y.us.length y.cc) (.slice y.d y.vs.length y.cd)
  have HG2 := hid (HG.out.new (c := y) BY.out PP.out.2.1 PP.out.2.2.1 PP.out.1 okb.out)
  have HP2 := hid (HP.out.new BY.out PP.out.2.1 PP.out.2.2.1)
  have HX2 := hid (PP.out.2.2.2.1 _ _ HX.out.size (bt HX.out BY.out))
  have CH2 := hid (CH.out.mono (Nat.le_trans BY.out.size (Nat.le_of_eq PP.out.2.2.2.2.symm)))
  clear HG HP HX CH NY BY PP okb
  have HG := HG2
  have HP := HP2
  have HX := HX2
  have CH := CH2
  clear HG2 HP2 HX2 CH2
  have HD := hid (FF5.out s p Ky5 HP.out.2.2.1.1 HP.out.1.1 (HP.out.2.2.1.ow.sl HWD.out.2.2) (HP.out.1.ow.slw HWD.out.1))
  obtain ⟨ks0, ks1, ks2⟩ := gc_c3 (HP.out.2.2.2)
  obtain ⟨kp0, kp1, kp2, kp3, kp4, kp5⟩ := gc_c6 ((HG.out (bp, p) (.tail _ (.tail _ (.tail _ (.tail _ (.tail _ (.tail _ (.tail _ (.tail _ (.tail _ (.tail _ (.tail _ (.tail _ (.tail _ (.tail _ (.head _)))))))))))))))).1)
  go_wp2_with fail
  clear qKy0 qKy1 qKy2 qKy3 qKy4 qKy5 rKy0 rKy1 rKy2 rKy3 rKy4 rKy5 fKy0 fKy1 fKy2 fKy3 fKy4 fKy5 hYy
  refine Calls.mono HD.out ?_
  rintro e w18 ⟨y2, ey2, rfl, ok, ik, nk, hb⟩
  clear HD ks0 ks1 ks2 kp0 kp1 kp2 kp3 kp4 kp5
  have Iy2 := hid ik.out
  have okb := hid (ok.out.base CH.out.le)
  clear ik ok
  have CH2 := hid (GCh.cons nk.out hb.size CH.out)
  clear nk CH
  have CH := CH2
  clear CH2
  replace HG := hid (HG.out.later hb)
  replace HP := hid (HP.out.later hb)
  replace HX := hid (bt HX.out hb)
  clear hb
  obtain ⟨Yy2, hYy2, NY, BY⟩ := gc_al w18
  obtain ⟨Ky20, Ky21, Ky22, Ky23, Ky24, Ky25, qKy20, qKy21, qKy22, qKy23, qKy24, qKy25, ⟨rKy20, rKy21, rKy22, rKy23, rKy24, rKy25⟩, ⟨fKy20, fKy21, fKy22, fKy23, fKy24, fKy25⟩, PP⟩ := rchain6 NY.out (by decide) (.bool y2.n) (.slice y2.a y2.xs.length y2.ca) (.slice y2.b y2.ys.length y2.cb) (.bool y2.m) (.slice y2.c y2.us.length y2.cc) (.slice y2.d y2.vs.length y2.cd)
  have HG2 := hid (HG.out.new (c := y2) BY.out PP.out.2.1 PP.out.2.2.1 PP.out.1 okb.out)
  have HP2 := hid (HP.out.new BY.out PP.out.2.1 PP.out.2.2.1)
  have HX2 := hid (PP.out.2.2.2.1 _ _ HX.out.size (bt HX.out BY.out))
  have CH2 := hid (CH.out.mono (Nat.le_trans BY.out.size (Nat.le_of_eq PP.out.2.2.2.2.symm)))
  clear HG HP HX CH NY BY PP okb
  have HG := HG2
  have HP := HP2
  have HX := HX2
  have CH := CH2
  clear HG2 HP2 HX2 CH2
  have HD := hid (D5.out Ky25 HX.out)
  obtain ⟨kr0, kr1, kr2⟩ := gc_c3 ((HAB.out Ky25 HX.out).2.2)
  obtain ⟨ka0, ka1, ka2, ka3, ka4, ka5⟩ := gc_c6 ((HAB.out Ky25 HX.out).1)
  go_wp2_with fail
  clear qKy20 qKy21 qKy22 qKy23 qKy24 qKy25 rKy20 rKy21 rKy22 rKy23 rKy24 rKy25 fKy20 fKy21 fKy22 fKy23 fKy24 fKy25 hYy2
  refine Calls.mono HD.out ?_
  rintro e w19 ⟨y3, ey3, rfl, ok, ik, hb⟩
  clear HD kr0 kr1 kr2 ka0 ka1 ka2 ka3 ka4 ka5
  have Iy3 := hid ik.out
  have okb := hid (ok.out.base CH.out.le)
  clear ik ok
  replace HG := hid (HG.out.later hb)
  replace HP := hid (HP.out.later hb)
  replace CH := hid (CH.out.mono hb.size)
  replace HX := hid (bt HX.out hb)
  clear hb
  obtain ⟨Yy3, hYy3, NY, BY⟩ := gc_al w19
  obtain ⟨Ky30, Ky31, Ky32, Ky33, Ky34, Ky35, qKy30, qKy31, qKy32, qKy33, qKy34, qKy35, ⟨rKy30, rKy31, rKy32, rKy33, rKy34, rKy35⟩, ⟨fKy30, fKy31, fKy32, fKy33, fKy34, fKy35⟩, PP⟩ := rchain6 NY.out (by decide) (.bool y3.n) (.slice y3.a y3.xs.length y3.ca) (.slice y3.b y3.ys.length y3.cb) (.bool y3.m) (.slice y3.c y3.us.length y3.cc) (.slice y3.d y3.vs.length y3.cd)
  have HG2 := hid (HG.out.new (c := y3) BY.out PP.out.2.1 PP.out.2.2.1 PP.out.1 okb.out)
  have HP2 := hid (HP.out.new BY.out PP.out.2.1 PP.out.2.2.1)
  have HX2 := hid (PP.out.2.2.2.1 _ _ HX.out.size (bt HX.out BY.out))
  have CH2 := hid (CH.out.mono (Nat.le_trans BY.out.size (Nat.le_of_eq PP.out.2.2.2.2.symm)))
  clear HG HP HX CH NY BY PP okb
  have HG := HG2
  have HP := HP2
  have HX := HX2
  have CH := CH2
  clear HG2 HP2 HX2 CH2
  clear FF1 FF2 FF3 FF4 FF5 D1 D2 D3 D4 D5
  have HD := hid (gcOne c c2 c3 ec ec2 ec3 Ky35 Ic.out Ic2.out Ic3.out ((HG.out (w5.heap.size, c) (.tail _ (.tail _ (.tail _ (.tail _ (.tail _ (.tail _ (.tail _ (.tail _ (.tail _ (.tail _ (.tail _ (.tail _ (.tail _ (.tail _ (.head _)))))))))))))))).2.slw Ic.out.wd) ((HG.out (w6.heap.size, c2) (.tail _ (.tail _ (.tail _ (.tail _ (.tail _ (.tail _ (.tail _ (.tail _ (.tail _ (.tail _ (.tail _ (.tail _ (.tail _ (.head _))))))))))))))).2.slw Ic2.out.wd) ((HG.out (w7.heap.size, c3) (.tail _ (.tail _ (.tail _ (.tail _ (.tail _ (.tail _ (.tail _ (.tail _ (.tail _ (.tail _ (.tail _ (.tail _ (.head _)))))))))))))).2.slw Ic3.out.wd))
  obtain ⟨kc0, kc1, kc2, kc3, kc4, kc5⟩ := gc_c6 ((HG.out (w5.heap.size, c) (.tail _ (.tail _ (.tail _ (.tail _ (.tail _ (.tail _ (.tail _ (.tail _ (.tail _ (.tail _ (.tail _ (.tail _ (.tail _ (.tail _ (.head _)))))))))))))))).1)
  obtain ⟨kc20, kc21, kc22, kc23, kc24, kc25⟩ := gc_c6 ((HG.out (w6.heap.size, c2) (.tail _ (.tail _ (.tail _ (.tail _ (.tail _ (.tail _ (.tail _ (.tail _ (.tail _ (.tail _ (.tail _ (.tail _ (.tail _ (.head _))))))))))))))).1)
  obtain ⟨kc30, kc31, kc32, kc33, kc34, kc35⟩ := gc_c6 ((HG.out (w7.heap.size, c3) (.tail _ (.tail _ (.tail _ (.tail _ (.tail _ (.tail _ (.tail _ (.tail _ (.tail _ (.tail _ (.tail _ (.tail _ (.head _)))))))))))))).1)
  go_wp2_with fail
  clear qKy30 qKy31 qKy32 qKy33 qKy34 qKy35 rKy30 rKy31 rKy32 rKy33 rKy34 rKy35 fKy30 fKy31 fKy32 fKy33 fKy34 fKy35 hYy3
  refine Calls.mono HD.out ?_
  rintro e w20 ⟨rfl, hb⟩
  clear HD kc0 kc1 kc2 kc3 kc4 kc5 kc20 kc21 kc22 kc23 kc24 kc25 kc30 kc31 kc32 kc33 kc34 kc35
  replace HG := hid (HG.out.later hb)
  replace HP := hid (HP.out.later hb)
  replace CH := hid (CH.out.mono hb.size)
  replace HX := hid (bt HX.out hb)
  clear hb
  have HD := hid (gcOne d d2 d3 ed ed2 ed3 w20 Id.out Id2.out Id3.out ((HG.out (w8.heap.size, d) (.tail _ (.tail _ (.tail _ (.tail _ (.tail _ (.tail _ (.tail _ (.tail _ (.tail _ (.tail _ (.tail _ (.head _))))))))))))).2.slw Id.out.wd) ((HG.out (w9.heap.size, d2) (.tail _ (.tail _ (.tail _ (.tail _ (.tail _ (.tail _ (.tail _ (.tail _ (.tail _ (.tail _ (.head _)))))))))))).2.slw Id2.out.wd) ((HG.out (w10.heap.size, d3) (.tail _ (.tail _ (.tail _ (.tail _ (.tail _ (.tail _ (.tail _ (.tail _ (.tail _ (.head _))))))))))).2.slw Id3.out.wd))
  obtain ⟨kd0, kd1, kd2, kd3, kd4, kd5⟩ := gc_c6 ((HG.out (w8.heap.size, d) (.tail _ (.tail _ (.tail _ (.tail _ (.tail _ (.tail _ (.tail _ (.tail _ (.tail _ (.tail _ (.tail _ (.head _))))))))))))).1)
  obtain ⟨kd20, kd21, kd22, kd23, kd24, kd25⟩ := gc_c6 ((HG.out (w9.heap.size, d2) (.tail _ (.tail _ (.tail _ (.tail _ (.tail _ (.tail _ (.tail _ (.tail _ (.tail _ (.tail _ (.head _)))))))))))).1)
  obtain ⟨kd30, kd31, kd32, kd33, kd34, kd35⟩ := gc_c6 ((HG.out (w10.heap.size, d3) (.tail _ (.tail _ (.tail _ (.tail _ (.tail _ (.tail _ (.tail _ (.tail _ (.tail _ (.head _))))))))))).1)
  go_wp2_with fail
  refine Calls.mono HD.out ?_
  rintro e w21 ⟨rfl, hb⟩
  clear HD kd0 kd1 kd2 kd3 kd4 kd5 kd20 kd21 kd22 kd23 kd24 kd25 kd30 kd31 kd32 kd33 kd34 kd35
  replace HG := hid (HG.out.later hb)
  replace HP := hid (HP.out.later hb)
  replace CH := hid (CH.out.mono hb.size)
  replace HX := hid (bt HX.out hb)
  clear hb
  have HD := hid (gcOne m m2 m3 em em2 em3 w21 Im.out Im2.out Im3.out ((HG.out (w11.heap.size, m) (.tail _ (.tail _ (.tail _ (.tail _ (.tail _ (.tail _ (.tail _ (.tail _ (.head _)))))))))).2.slw Im.out.wd) ((HG.out (w12.heap.size, m2) (.tail _ (.tail _ (.tail _ (.tail _ (.tail _ (.tail _ (.tail _ (.head _))))))))).2.slw Im2.out.wd) ((HG.out (w13.heap.size, m3) (.tail _ (.tail _ (.tail _ (.tail _ (.tail _ (.tail _ (.head _)))))))).2.slw Im3.out.wd))
  obtain ⟨km0, km1, km2, km3, km4, km5⟩ := gc_c6 ((HG.out (w11.heap.size, m) (.tail _ (.tail _ (.tail _ (.tail _ (.tail _ (.tail _ (.tail _ (.tail _ (.head _)))))))))).1)
  obtain ⟨km20, km21, km22, km23, km24, km25⟩ := gc_c6 ((HG.out (w12.heap.size, m2) (.tail _ (.tail _ (.tail _ (.tail _ (.tail _ (.tail _ (.tail _ (.head _))))))))).1)
  obtain ⟨km30, km31, km32, km33, km34, km35⟩ := gc_c6 ((HG.out (w13.heap.size, m3) (.tail _ (.tail _ (.tail _ (.tail _ (.tail _ (.tail _ (.head _)))))))).1)
  go_wp2_with fail
  refine Calls.mono HD.out ?_
  rintro e w22 ⟨rfl, hb⟩
  clear HD km0 km1 km2 km3 km4 km5 km20 km21 km22 km23 km24 km25 km30 km31 km32 km33 km34 km35
  replace HG := hid (HG.out.later hb)
  replace HP := hid (HP.out.later hb)
  replace CH := hid (CH.out.mono hb.size)
  replace HX := hid (bt HX.out hb)
  clear hb
  have HD := hid (gcOne x x2 x3 ex ex2 ex3 w22 Ix.out Ix2.out Ix3.out ((HG.out (w14.heap.size, x) (.tail _ (.tail _ (.tail _ (.tail _ (.tail _ (.head _))))))).2.slw Ix.out.wd) ((HG.out (w15.heap.size, x2) (.tail _ (.tail _ (.tail _ (.tail _ (.head _)))))).2.slw Ix2.out.wd) ((HG.out (w16.heap.size, x3) (.tail _ (.tail _ (.tail _ (.head _))))).2.slw Ix3.out.wd))
  obtain ⟨kx0, kx1, kx2, kx3, kx4, kx5⟩ := gc_c6 ((HG.out (w14.heap.size, x) (.tail _ (.tail _ (.tail _ (.tail _ (.tail _ (.head _))))))).1)
  obtain ⟨kx20, kx21, kx22, kx23, kx24, kx25⟩ := gc_c6 ((HG.out (w15.heap.size, x2) (.tail _ (.tail _ (.tail _ (.tail _ (.head _)))))).1)
  obtain ⟨kx30, kx31, kx32, kx33, kx34, kx35⟩ := gc_c6 ((HG.out (w16.heap.size, x3) (.tail _ (.tail _ (.tail _ (.head _))))).1)
  go_wp2_with fail
  refine Calls.mono HD.out ?_
  rintro e w23 ⟨rfl, hb⟩
  clear HD kx0 kx1 kx2 kx3 kx4 kx5 kx20 kx21 kx22 kx23 kx24 kx25 kx30 kx31 kx32 kx33 kx34 kx35
  replace HG := hid (HG.out.later hb)
  replace HP := hid (HP.out.later hb)
  replace CH := hid (CH.out.mono hb.size)
  replace HX := hid (bt HX.out hb)
  clear hb
  have HD := hid (gcOne y y2 y3 ey ey2 ey3 w23 Iy.out Iy2.out Iy3.out ((HG.out (w17.heap.size, y) (.tail _ (.tail _ (.head _)))).2.slw Iy.out.wd) ((HG.out (w18.heap.size, y2) (.tail _ (.head _))).2.slw Iy2.out.wd) ((HG.out (w19.heap.size, y3) (.head _)).2.slw Iy3.out.wd))
  obtain ⟨ky0, ky1, ky2, ky3, ky4, ky5⟩ := gc_c6 ((HG.out (w17.heap.size, y) (.tail _ (.tail _ (.head _)))).1)
  obtain ⟨ky20, ky21, ky22, ky23, ky24, ky25⟩ := gc_c6 ((HG.out (w18.heap.size, y2) (.tail _ (.head _))).1)
  obtain ⟨ky30, ky31, ky32, ky33, ky34, ky35⟩ := gc_c6 ((HG.out (w19.heap.size, y3) (.head _)).1)
  go_wp2_with fail
  refine Calls.mono HD.out ?_
  rintro e w24 ⟨rfl, hb⟩
  clear HD ky0 ky1 ky2 ky3 ky4 ky5 ky20 ky21 ky22 ky23 ky24 ky25 ky30 ky31 ky32 ky33 ky34 ky35
  replace HG := hid (HG.out.later hb)
  replace HP := hid (HP.out.later hb)
  replace CH := hid (CH.out.mono hb.size)
  replace HX := hid (bt HX.out hb)
  clear hb
  have HD := hid (gcKept p a w24 Z.heap.size HP.out.1 (HSL.out _ HX.out).1 (by have := HNa.out; omega) (by have := HNa.out; omega) (by have := HNa.out; omega) (by have := HNa.out; omega))
  obtain ⟨kp0, kp1, kp2, kp3, kp4, kp5⟩ := gc_c6 ((HG.out (bp, p) (.tail _ (.tail _ (.tail _ (.tail _ (.tail _ (.tail _ (.tail _ (.tail _ (.tail _ (.tail _ (.tail _ (.tail _ (.tail _ (.tail _ (.tail _ (.tail _ (.head _)))))))))))))))))).1)
  obtain ⟨ka0, ka1, ka2, ka3, ka4, ka5⟩ := gc_c6 ((HAB.out w24 HX.out).1)
  go_wp2_with fail
  refine Calls.mono HD.out ?_
  rintro e w25 ⟨rfl, hb⟩
  clear HD kp0 kp1 kp2 kp3 kp4 kp5 ka0 ka1 ka2 ka3 ka4 ka5
  replace HG := hid (HG.out.later hb)
  replace HP := hid (HP.out.later hb)
  replace CH := hid (CH.out.mono hb.size)
  replace HX := hid (bt HX.out hb)
  clear hb
  have HD := hid (gcKept q b w25 Z.heap.size HP.out.2.1 (HSL.out _ HX.out).2.1 (by have := HNb.out; omega) (by have := HNb.out; omega) (by have := HNb.out; omega) (by have := HNb.out; omega))
  obtain ⟨kq0, kq1, kq2, kq3, kq4, kq5⟩ := gc_c6 ((HG.out (bq, q) (.tail _ (.tail _ (.tail _ (.tail _ (.tail _ (.tail _ (.tail _ (.tail _ (.tail _ (.tail _ (.tail _ (.tail _ (.tail _ (.tail _ (.tail _ (.head _))))))))))))))))).1)
  obtain ⟨kb0, kb1, kb2, kb3, kb4, kb5⟩ := gc_c6 ((HAB.out w25 HX.out).2.1)
  go_wp2_with fail
  refine Calls.mono HD.out ?_
  rintro e w26 ⟨rfl, hb⟩
  clear HD kq0 kq1 kq2 kq3 kq4 kq5 kb0 kb1 kb2 kb3 kb4 kb5
  replace HG := hid (HG.out.later hb)
  replace HP := hid (HP.out.later hb)
  replace CH := hid (CH.out.mono hb.size)
  replace HX := hid (bt HX.out hb)
  clear hb
  have HD := hid (gcKeptR s r w26 Z.heap.size HP.out.2.2.1 (HSL.out _ HX.out).2.2 (by have := HNr.out; omega) (by have := HNr.out; omega))
  obtain ⟨ks0, ks1, ks2⟩ := gc_c3 (HP.out.2.2.2)
  obtain ⟨kr0, kr1, kr2⟩ := gc_c3 ((HAB.out w26 HX.out).2.2)
  go_wp2_with fail
  refine Calls.mono HD.out ?_
  rintro e w27 ⟨rfl, hb⟩
  clear HD ks0 ks1 ks2 kr0 kr1 kr2
  replace HG := hid (HG.out.later hb)
  replace HP := hid (HP.out.later hb)
  replace CH := hid (CH.out.mono hb.size)
  replace HX := hid (bt HX.out hb)
  clear hb
  obtain ⟨U, hU⟩ : ∃ U, w27.alloc (.cells #[.bool p.n, .slice p.a p.xs.length p.ca, .slice p.b p.ys.length p.cb, .bool p.m, .slice p.c p.us.length p.cc, .slice p.d p.vs.length p.cd, .bool q.n, .slice q.a q.xs.length q.ca, .slice q.b q.ys.length q.cb, .bool q.m, .slice q.c q.us.length q.cc, .slice q.d q.vs.length q.cd, .bool c.n, .slice c.a c.xs.length c.ca, .slice c.b c.ys.length c.cb, .bool c.m, .slice c.c c.us.length c.cc, .slice c.d c.vs.length c.cd, .bool c2.n, .slice c2.a c2.xs.length c2.ca, .slice c2.b c2.ys.length c2.cb, .bool c2.m, .slice c2.c c2.us.length c2.cc, .slice c2.d c2.vs.length c2.cd, .bool d.n, .slice d.a d.xs.length d.ca, .slice d.b d.ys.length d.cb, .bool d.m, .slice d.c d.us.length d.cc, .slice d.d d.vs.length d.cd, .bool d2.n, .slice d2.a d2.xs.length d2.ca, .slice d2.b d2.ys.length d2.cb, .bool d2.m, .slice d2.c d2.us.length d2.cc, .slice d2.d d2.vs.length d2.cd, .bool m.n, .slice m.a m.xs.length m.ca, .slice m.b m.ys.length m.cb, .bool m.m, .slice m.c m.us.length m.cc, .slice m.d m.vs.length m.cd, .bool m2.n, .slice m2.a m2.xs.length m2.ca, .slice m2.b m2.ys.length m2.cb, .bool m2.m, .slice m2.c m2.us.length m2.cc, .slice m2.d m2.vs.length m2.cd, .bool x.n, .slice x.a x.xs.length x.ca, .slice x.b x.ys.length x.cb, .bool x.m, .slice x.c x.us.length x.cc, .slice x.d x.vs.length x.cd, .bool x2.n, .slice x2.a x2.xs.length x2.ca, .slice x2.b x2.ys.length x2.cb, .bool x2.m, .slice x2.c x2.us.length x2.cc, .slice x2.d x2.vs.length x2.cd, .bool y.n, .slice y.a y.xs.length y.ca, .slice y.b y.ys.length y.cb, .bool y.m, .slice y.c y.us.length y.cc, .slice y.d y.vs.length y.cd, .bool y2.n, .slice y2.a y2.xs.length y2.ca, .slice y2.b y2.ys.length y2.cb, .bool y2.m, .slice y2.c y2.us.length y2.cc, .slice y2.d y2.vs.length y2.cd] 26) = U := ⟨_, rfl⟩
  have BU : Hid (Below w27.heap.size w27 U) := by rw [← hU]; exact alloc_later _ _
  have BX : Hid (Box U w27.heap.size 26 #[.bool p.n, .slice p.a p.xs.length p.ca, .slice p.b p.ys.length p.cb, .bool p.m, .slice p.c p.us.length p.cc, .slice p.d p.vs.length p.cd, .bool q.n, .slice q.a q.xs.length q.ca, .slice q.b q.ys.length q.cb, .bool q.m, .slice q.c q.us.length q.cc, .slice q.d q.vs.length q.cd, .bool c.n, .slice c.a c.xs.length c.ca, .slice c.b c.ys.length c.cb, .bool c.m, .slice c.c c.us.length c.cc, .slice c.d c.vs.length c.cd, .bool c2.n, .slice c2.a c2.xs.length c2.ca, .slice c2.b c2.ys.length c2.cb, .bool c2.m, .slice c2.c c2.us.length c2.cc, .slice c2.d c2.vs.length c2.cd, .bool d.n, .slice d.a d.xs.length d.ca, .slice d.b d.ys.length d.cb, .bool d.m, .slice d.c d.us.length d.cc, .slice d.d d.vs.length d.cd, .bool d2.n, .slice d2.a d2.xs.length d2.ca, .slice d2.b d2.ys.length d2.cb, .bool d2.m, .slice d2.c d2.us.length d2.cc, .slice d2.d d2.vs.length d2.cd, .bool m.n, .slice m.a m.xs.length m.ca, .slice m.b m.ys.length m.cb, .bool m.m, .slice m.c m.us.length m.cc, .slice m.d m.vs.length m.cd, .bool m2.n, .slice m2.a m2.xs.length m2.ca, .slice m2.b m2.ys.length m2.cb, .bool m2.m, .slice m2.c m2.us.length m2.cc, .slice m2.d m2.vs.length m2.cd, .bool x.n, .slice x.a x.xs.length x.ca, .slice x.b x.ys.length x.cb, .bool x.m, .slice x.c x.us.length x.cc, .slice x.d x.vs.length x.cd, .bool x2.n, .slice x2.a x2.xs.length x2.ca, .slice x2.b x2.ys.length x2.cb, .bool x2.m, .slice x2.c x2.us.length x2.cc, .slice x2.d x2.vs.length x2.cd, .bool y.n, .slice y.a y.xs.length y.ca, .slice y.b y.ys.length y.cb, .bool y.m, .slice y.c y.us.length y.cc, .slice y.d y.vs.length y.cd, .bool y2.n, .slice y2.a y2.xs.length y2.ca, .slice y2.b y2.ys.length y2.cb, .bool y2.m, .slice y2.c y2.us.length y2.cc, .slice y2.d y2.vs.length y2.cd]) := by rw [← hU]; exact Box.made w27 _ _
  have HGU := hid (HG.out.later BU.out)
  have HXA : Hid (Calls Tryz.prog 21 #[.slice (some ⟨w27.heap.size, 0, none⟩) 12 12] U fun e w' => e = .returned (.bool true) ∧ Below Z.heap.size U w') := by
    obtain ⟨lo, up, i1, i2, i3, i4⟩ := GCh.funs (l := [y2, y, x2, x, m2, m, d2, d, c2, c, q, p]) CH.out
    refine gcApart Z.heap.size 12 w27.heap.size 12 (fun k => [y2, y, x2, x, m2, m, d2, d, c2, c, q, p].reverse.getD k gqZ) U (by omega) (by omega) ?_ (Nat.le_trans CH.out.le BU.out.size) (by omega) ?_ ?_ ?_ lo up i1 i2 i3
    · intro V hV j hj
      have H := BX.out.later hV BX.out.lt
      match j, hj with
      | 0, _ => exact ⟨H.cell 0, H.cell 1, H.cell 2, H.cell 3, H.cell 4, H.cell 5⟩
      | 1, _ => exact ⟨H.cell 6, H.cell 7, H.cell 8, H.cell 9, H.cell 10, H.cell 11⟩
      | 2, _ => exact ⟨H.cell 12, H.cell 13, H.cell 14, H.cell 15, H.cell 16, H.cell 17⟩
      | 3, _ => exact ⟨H.cell 18, H.cell 19, H.cell 20, H.cell 21, H.cell 22, H.cell 23⟩
      | 4, _ => exact ⟨H.cell 24, H.cell 25, H.cell 26, H.cell 27, H.cell 28, H.cell 29⟩
      | 5, _ => exact ⟨H.cell 30, H.cell 31, H.cell 32, H.cell 33, H.cell 34, H.cell 35⟩
      | 6, _ => exact ⟨H.cell 36, H.cell 37, H.cell 38, H.cell 39, H.cell 40, H.cell 41⟩
      | 7, _ => exact ⟨H.cell 42, H.cell 43, H.cell 44, H.cell 45, H.cell 46, H.cell 47⟩
      | 8, _ => exact ⟨H.cell 48, H.cell 49, H.cell 50, H.cell 51, H.cell 52, H.cell 53⟩
      | 9, _ => exact ⟨H.cell 54, H.cell 55, H.cell 56, H.cell 57, H.cell 58, H.cell 59⟩
      | 10, _ => exact ⟨H.cell 60, H.cell 61, H.cell 62, H.cell 63, H.cell 64, H.cell 65⟩
      | 11, _ => exact ⟨H.cell 66, H.cell 67, H.cell 68, H.cell 69, H.cell 70, H.cell 71⟩
    · intro j hj
      match j, hj with
      | 0, _ => exact HWD.out.1
      | 1, _ => exact HWD.out.2.1
      | 2, _ => exact Ic.out.wd
      | 3, _ => exact Ic2.out.wd
      | 4, _ => exact Id.out.wd
      | 5, _ => exact Id2.out.wd
      | 6, _ => exact Im.out.wd
      | 7, _ => exact Im2.out.wd
      | 8, _ => exact Ix.out.wd
      | 9, _ => exact Ix2.out.wd
      | 10, _ => exact Iy.out.wd
      | 11, _ => exact Iy2.out.wd
    · intro j hj
      match j, hj with
      | 0, _ => exact gc_few (gc_aslen HP.out.1.1 HNa.out)
      | 1, _ => exact gc_few (gc_aslen HP.out.2.1.1 HNb.out)
      | 2, _ => exact gc_few (gc_tell Ic.out.few)
      | 3, _ => exact gc_few (gc_tell Ic2.out.few)
      | 4, _ => exact gc_few (gc_tell Id.out.few)
      | 5, _ => exact gc_few (gc_tell Id2.out.few)
      | 6, _ => exact gc_few (gc_tell Im.out.few)
      | 7, _ => exact gc_few (gc_tell Im2.out.few)
      | 8, _ => exact gc_few (gc_tell Ix.out.few)
      | 9, _ => exact gc_few (gc_tell Ix2.out.few)
      | 10, _ => exact gc_few (gc_tell Iy.out.few)
      | 11, _ => exact gc_few (gc_tell Iy2.out.few)
    · intro j hj
      match j, hj with
      | 0, _ => exact (HGU.out (bp, p) (.tail _ (.tail _ (.tail _ (.tail _ (.tail _ (.tail _ (.tail _ (.tail _ (.tail _ (.tail _ (.tail _ (.tail _ (.tail _ (.tail _ (.tail _ (.tail _ (.head _)))))))))))))))))).2
      | 1, _ => exact (HGU.out (bq, q) (.tail _ (.tail _ (.tail _ (.tail _ (.tail _ (.tail _ (.tail _ (.tail _ (.tail _ (.tail _ (.tail _ (.tail _ (.tail _ (.tail _ (.tail _ (.head _))))))))))))))))).2
      | 2, _ => exact (HGU.out (w5.heap.size, c) (.tail _ (.tail _ (.tail _ (.tail _ (.tail _ (.tail _ (.tail _ (.tail _ (.tail _ (.tail _ (.tail _ (.tail _ (.tail _ (.tail _ (.head _)))))))))))))))).2
      | 3, _ => exact (HGU.out (w6.heap.size, c2) (.tail _ (.tail _ (.tail _ (.tail _ (.tail _ (.tail _ (.tail _ (.tail _ (.tail _ (.tail _ (.tail _ (.tail _ (.tail _ (.head _))))))))))))))).2
      | 4, _ => exact (HGU.out (w8.heap.size, d) (.tail _ (.tail _ (.tail _ (.tail _ (.tail _ (.tail _ (.tail _ (.tail _ (.tail _ (.tail _ (.tail _ (.head _))))))))))))).2
      | 5, _ => exact (HGU.out (w9.heap.size, d2) (.tail _ (.tail _ (.tail _ (.tail _ (.tail _ (.tail _ (.tail _ (.tail _ (.tail _ (.tail _ (.head _)))))))))))).2
      | 6, _ => exact (HGU.out (w11.heap.size, m) (.tail _ (.tail _ (.tail _ (.tail _ (.tail _ (.tail _ (.tail _ (.tail _ (.head _)))))))))).2
      | 7, _ => exact (HGU.out (w12.heap.size, m2) (.tail _ (.tail _ (.tail _ (.tail _ (.tail _ (.tail _ (.tail _ (.head _))))))))).2
      | 8, _ => exact (HGU.out (w14.heap.size, x) (.tail _ (.tail _ (.tail _ (.tail _ (.tail _ (.head _))))))).2
      | 9, _ => exact (HGU.out (w15.heap.size, x2) (.tail _ (.tail _ (.tail _ (.tail _ (.head _)))))).2
      | 10, _ => exact (HGU.out (w17.heap.size, y) (.tail _ (.tail _ (.head _)))).2
      | 11, _ => exact (HGU.out (w18.heap.size, y2) (.tail _ (.head _))).2
  obtain ⟨kp0, kp1, kp2, kp3, kp4, kp5⟩ := gc_c6 ((HG.out (bp, p) (.tail _ (.tail _ (.tail _ (.tail _ (.tail _ (.tail _ (.tail _ (.tail _ (.tail _ (.tail _ (.tail _ (.tail _ (.tail _ (.tail _ (.tail _ (.tail _ (.head _)))))))))))))))))).1)
  obtain ⟨kq0, kq1, kq2, kq3, kq4, kq5⟩ := gc_c6 ((HG.out (bq, q) (.tail _ (.tail _ (.tail _ (.tail _ (.tail _ (.tail _ (.tail _ (.tail _ (.tail _ (.tail _ (.tail _ (.tail _ (.tail _ (.tail _ (.tail _ (.head _))))))))))))))))).1)
  obtain ⟨kc0, kc1, kc2, kc3, kc4, kc5⟩ := gc_c6 ((HG.out (w5.heap.size, c) (.tail _ (.tail _ (.tail _ (.tail _ (.tail _ (.tail _ (.tail _ (.tail _ (.tail _ (.tail _ (.tail _ (.tail _ (.tail _ (.tail _ (.head _)))))))))))))))).1)
  obtain ⟨kc20, kc21, kc22, kc23, kc24, kc25⟩ := gc_c6 ((HG.out (w6.heap.size, c2) (.tail _ (.tail _ (.tail _ (.tail _ (.tail _ (.tail _ (.tail _ (.tail _ (.tail _ (.tail _ (.tail _ (.tail _ (.tail _ (.head _))))))))))))))).1)
  obtain ⟨kd0, kd1, kd2, kd3, kd4, kd5⟩ := gc_c6 ((HG.out (w8.heap.size, d) (.tail _ (.tail _ (.tail _ (.tail _ (.tail _ (.tail _ (.tail _ (.tail _ (.tail _ (.tail _ (.tail _ (.head _))))))))))))).1)
  obtain ⟨kd20, kd21, kd22, kd23, kd24, kd25⟩ := gc_c6 ((HG.out (w9.heap.size, d2) (.tail _ (.tail _ (.tail _ (.tail _ (.tail _ (.tail _ (.tail _ (.tail _ (.tail _ (.tail _ (.head _)))))))))))).1)
  obtain ⟨km0, km1, km2, km3, km4, km5⟩ := gc_c6 ((HG.out (w11.heap.size, m) (.tail _ (.tail _ (.tail _ (.tail _ (.tail _ (.tail _ (.tail _ (.tail _ (.head _)))))))))).1)
  obtain ⟨km20, km21, km22, km23, km24, km25⟩ := gc_c6 ((HG.out (w12.heap.size, m2) (.tail _ (.tail _ (.tail _ (.tail _ (.tail _ (.tail _ (.tail _ (.head _))))))))).1)
  obtain ⟨kx0, kx1, kx2, kx3, kx4, kx5⟩ := gc_c6 ((HG.out (w14.heap.size, x) (.tail _ (.tail _ (.tail _ (.tail _ (.tail _ (.head _))))))).1)
  obtain ⟨kx20, kx21, kx22, kx23, kx24, kx25⟩ := gc_c6 ((HG.out (w15.heap.size, x2) (.tail _ (.tail _ (.tail _ (.tail _ (.head _)))))).1)
  obtain ⟨ky0, ky1, ky2, ky3, ky4, ky5⟩ := gc_c6 ((HG.out (w17.heap.size, y) (.tail _ (.tail _ (.head _)))).1)
  obtain ⟨ky20, ky21, ky22, ky23, ky24, ky25⟩ := gc_c6 ((HG.out (w18.heap.size, y2) (.tail _ (.head _))).1)
  go_wp2_with fail
  clear hU kp0 kp1 kp2 kp3 kp4 kp5 kq0 kq1 kq2 kq3 kq4 kq5 kc0 kc1 kc2 kc3 kc4 kc5 kc20 kc21 kc22 kc23 kc24 kc25 kd0 kd1 kd2 kd3 kd4 kd5 kd20 kd21 kd22 kd23 kd24 kd25 km0 km1 km2 km3 km4 km5 km20 km21 km22 km23 km24 km25 kx0 kx1 kx2 kx3 kx4 kx5 kx20 kx21 kx22 kx23 kx24 kx25 ky0 ky1 ky2 ky3 ky4 ky5 ky20 ky21 ky22 ky23 ky24 ky25
  refine Calls.mono HXA.out ?_
  rintro e wz ⟨rfl, hb9⟩
  have HB9 := hid ((bt HX.out BU.out).trans (hb9.mono HXZ.out))
  clear hb9 HXA
  go_wp2_with fail
  go_ret
  exact ⟨rfl, HB9.out⟩
theorem gc_three (w : World) (u v : Array Value) (z : Array Value) : Box (((w.alloc (.cells u 26)).alloc (.cells v 26)).alloc (.cells z 24)) w.heap.size 26 u ∧ Box (((w.alloc (.cells u 26)).alloc (.cells v 26)).alloc (.cells z 24)) (w.heap.size + 1) 26 v ∧ Box (((w.alloc (.cells u 26)).alloc (.cells v 26)).alloc (.cells z 24)) (w.heap.size + 1 + 1) 24 z ∧ Below w.heap.size w (((w.alloc (.cells u 26)).alloc (.cells v 26)).alloc (.cells z 24)) := by
  have b1 := Box.made w 26 u
  have b2 := Box.made (w.alloc (.cells u 26)) 26 v
  have b3 := Box.made ((w.alloc (.cells u 26)).alloc (.cells v 26)) 24 z
  have l1 := b1.later (alloc_later (w.alloc (.cells u 26)) (.cells v 26)) b1.lt
  have l2 := l1.later (alloc_later ((w.alloc (.cells u 26)).alloc (.cells v 26)) (.cells z 24)) l1.lt
  have m2 := b2.later (alloc_later ((w.alloc (.cells u 26)).alloc (.cells v 26)) (.cells z 24)) b2.lt
  refine ⟨l2, ?_, ?_, bt (bt (alloc_later _ _) (alloc_later _ _)) (alloc_later _ _)⟩
  · simpa using m2
  · simpa using b3
theorem gc_kl3 {V : World} {p t : Nat} {v0 v1 v2 : Value} (h : Box V p t #[v0, v1, v2]) : V.cell? ⟨p, 0, none⟩ = some v0 ∧ V.cell? ⟨p, 1, none⟩ = some v1 ∧ V.cell? ⟨p, 2, none⟩ = some v2 := ⟨h.cell 0, h.cell 1, h.cell 2⟩
theorem gc_sm {k : Nat} (h : smH k = true) : k ≤ 3000 := by
  unfold smH at h
  simp at h
  omega
theorem gc_sm2 {a b : Nat} (h : (smH a && smH b) = true) : a ≤ 3000 ∧ b ≤ 3000 := by
  have q : smH a = true ∧ smH b = true := by simpa using h
  exact ⟨gc_sm q.1, gc_sm q.2⟩
theorem gc_sm4 {a b c d : Nat} (h : ((smH a && smH b) && (smH c && smH d)) = true) : a ≤ 3000 ∧ b ≤ 3000 ∧ c ≤ 3000 ∧ d ≤ 3000 := by
  have q : (smH a && smH b) = true ∧ (smH c && smH d) = true := by rw [Bool.and_eq_true] at h; exact h
  exact ⟨(gc_sm2 q.1).1, (gc_sm2 q.1).2, (gc_sm2 q.2).1, (gc_sm2 q.2).2⟩
theorem gc_sh {g : G6} (h : g.xs.length ≤ 3000 ∧ g.ys.length ≤ 3000 ∧ g.us.length ≤ 3000 ∧ g.vs.length ≤ 3000) : g.Sh := by
  unfold G6.Sh
  omega
theorem gc_sh3 {g : F3} (h : g.xs.length ≤ 3000 ∧ g.ys.length ≤ 3000) : g.Sh := by
  unfold F3.Sh
  omega
set_option maxHeartbeats 3200000 in
theorem gaussCalls_off (n0 : Bool) (a0 : Option Addr) (k0 ca0 : Nat) (b0 : Option Addr) (l0 cb0 : Nat) (m0 : Bool) (c0 : Option Addr) (kc0 cc0 : Nat) (d0 : Option Addr) (kd0 cd0 : Nat) (n1 : Bool) (a1 : Option Addr) (k1 ca1 : Nat) (b1 : Option Addr) (l1 cb1 : Nat) (m1 : Bool) (c1 : Option Addr) (kc1 cc1 : Nat) (d1 : Option Addr) (kd1 cd1 : Nat) (n2 : Bool) (a2 : Option Addr) (k2 ca2 : Nat) (b2 : Option Addr) (l2 cb2 : Nat) (w : World) (hq : ((smH k0 && smH l0) && (smH kc0 && smH kd0)) = false ∨ ((smH k1 && smH l1) && (smH kc1 && smH kd1)) = false ∨ (smH k2 && smH l2) = false) :
    Calls Tryz.prog 3 #[.agg #[.bool n0, .slice a0 k0 ca0, .slice b0 l0 cb0, .bool m0, .slice c0 kc0 cc0, .slice d0 kd0 cd0], .agg #[.bool n1, .slice a1 k1 ca1, .slice b1 l1 cb1, .bool m1, .slice c1 kc1 cc1, .slice d1 kd1 cd1], .agg #[.bool n2, .slice a2 k2 ca2, .slice b2 l2 cb2]] w fun e w' => e = .returned (.bool true) ∧ Below w.heap.size w w' := by
  have HX := hid (gc_three w #[.bool n0, .slice a0 k0 ca0, .slice b0 l0 cb0, .bool m0, .slice c0 kc0 cc0, .slice d0 kd0 cd0] #[.bool n1, .slice a1 k1 ca1, .slice b1 l1 cb1, .bool m1, .slice c1 kc1 cc1, .slice d1 kd1 cd1] #[.bool n2, .slice a2 k2 ca2, .slice b2 l2 cb2])
  obtain ⟨P, hP⟩ : ∃ P, ((w.alloc (.cells #[.bool n0, .slice a0 k0 ca0, .slice b0 l0 cb0, .bool m0, .slice c0 kc0 cc0, .slice d0 kd0 cd0] 26)).alloc (.cells #[.bool n1, .slice a1 k1 ca1, .slice b1 l1 cb1, .bool m1, .slice c1 kc1 cc1, .slice d1 kd1 cd1] 26)).alloc (.cells #[.bool n2, .slice a2 k2 ca2, .slice b2 l2 cb2] 24) = P := ⟨_, rfl⟩
  rw [hP] at HX
  have HS0 := hid (fun V => kheavy_any n0 a0 k0 ca0 b0 l0 cb0 m0 c0 kc0 cc0 d0 kd0 cd0 V)
  have HS1 := hid (fun V => kheavy_any n1 a1 k1 ca1 b1 l1 cb1 m1 c1 kc1 cc1 d1 kd1 cd1 V)
  have HS2 := hid (fun V => kSmall_any n2 a2 k2 ca2 b2 l2 cb2 V)
  have BB := hid (Below.refl P.heap.size P)
  cases h0 : ((smH k0 && smH l0) && (smH kc0 && smH kd0))
  · rw [h0] at HS0
    clear hq h0
    go_enter Tryz.func3, Tryz.ntmps3
    obtain ⟨e0, e1, e2, e3, e4, e5⟩ := Kl6.of HX.out.1
    go_wp2_with fail
    clear hP
    refine Calls.mono (HS0.out P) ?_
    rintro e w1 ⟨rfl, hb⟩
    replace BB := hid (bt BB.out hb)
    clear hb e0 e1 e2 e3 e4 e5
    go_wp2_with fail
    go_ret
    exact ⟨rfl, bt HX.out.2.2.2 BB.out⟩
  · cases h1 : ((smH k1 && smH l1) && (smH kc1 && smH kd1))
    · rw [h0] at HS0
      rw [h1] at HS1
      clear hq h0 h1
      go_enter Tryz.func3, Tryz.ntmps3
      obtain ⟨e0, e1, e2, e3, e4, e5⟩ := Kl6.of HX.out.1
      go_wp2_with fail
      clear hP
      refine Calls.mono (HS0.out P) ?_
      rintro e w1 ⟨rfl, hb⟩
      replace BB := hid (bt BB.out hb)
      clear hb e0 e1 e2 e3 e4 e5
      obtain ⟨e0, e1, e2, e3, e4, e5⟩ := Kl6.of (HX.out.2.1.later BB.out HX.out.2.1.lt)
      go_wp2_with fail
      refine Calls.mono (HS1.out w1) ?_
      rintro e w2 ⟨rfl, hb⟩
      replace BB := hid (bt BB.out hb)
      clear hb e0 e1 e2 e3 e4 e5
      go_wp2_with fail
      go_ret
      exact ⟨rfl, bt HX.out.2.2.2 BB.out⟩
    · have h2 : (smH k2 && smH l2) = false := by
        rcases hq with hq | hq | hq
        · rw [h0] at hq; cases hq
        · rw [h1] at hq; cases hq
        · exact hq
      rw [h0] at HS0
      rw [h1] at HS1
      rw [h2] at HS2
      clear hq h0 h1 h2
      go_enter Tryz.func3, Tryz.ntmps3
      obtain ⟨e0, e1, e2, e3, e4, e5⟩ := Kl6.of HX.out.1
      go_wp2_with fail
      clear hP
      refine Calls.mono (HS0.out P) ?_
      rintro e w1 ⟨rfl, hb⟩
      replace BB := hid (bt BB.out hb)
      clear hb e0 e1 e2 e3 e4 e5
      obtain ⟨e0, e1, e2, e3, e4, e5⟩ := Kl6.of (HX.out.2.1.later BB.out HX.out.2.1.lt)
      go_wp2_with fail
      refine Calls.mono (HS1.out w1) ?_
      rintro e w2 ⟨rfl, hb⟩
      replace BB := hid (bt BB.out hb)
      clear hb e0 e1 e2 e3 e4 e5
      obtain ⟨e0, e1, e2⟩ := gc_kl3 (HX.out.2.2.1.later BB.out HX.out.2.2.1.lt)
      go_wp2_with fail
      refine Calls.mono (HS2.out w2) ?_
      rintro e w3 ⟨rfl, hb⟩
      replace BB := hid (bt BB.out hb)
      clear hb e0 e1 e2
      go_wp2_with fail
      go_ret
      exact ⟨rfl, bt HX.out.2.2.2 BB.out⟩
set_option maxHeartbeats 1600000 in
theorem gaussCalls_good (a b : G6) (r : F3) (w : World) (sa : a.Sl4 w) (sb : b.Sl4 w) (sr : r.Sl2 w) (qa : ((smH a.xs.length && smH a.ys.length) && (smH a.us.length && smH a.vs.length)) = true) (qb : ((smH b.xs.length && smH b.ys.length) && (smH b.us.length && smH b.vs.length)) = true) (qr : (smH r.xs.length && smH r.ys.length) = true) :
    Calls Tryz.prog 3 #[.agg #[.bool a.n, .slice a.a a.xs.length a.ca, .slice a.b a.ys.length a.cb, .bool a.m, .slice a.c a.us.length a.cc, .slice a.d a.vs.length a.cd], .agg #[.bool b.n, .slice b.a b.xs.length b.ca, .slice b.b b.ys.length b.cb, .bool b.m, .slice b.c b.us.length b.cc, .slice b.d b.vs.length b.cd], .agg #[.bool r.n, .slice r.a r.xs.length r.ca, .slice r.b r.ys.length r.cb]] w fun e w' => e = .returned (.bool true) ∧ Below w.heap.size w w' := by
  have HX := gc_three w #[.bool a.n, .slice a.a a.xs.length a.ca, .slice a.b a.ys.length a.cb, .bool a.m, .slice a.c a.us.length a.cc, .slice a.d a.vs.length a.cd] #[.bool b.n, .slice b.a b.xs.length b.ca, .slice b.b b.ys.length b.cb, .bool b.m, .slice b.c b.us.length b.cc, .slice b.d b.vs.length b.cd] #[.bool r.n, .slice r.a r.xs.length r.ca, .slice r.b r.ys.length r.cb]
  have na := gc_sm4 qa
  have nb := gc_sm4 qb
  have nr := gc_sm2 qr
  refine Calls.mono (gaussCalls_walk a b r w _ rfl _ _ _ _ _ _ _ _ _ _ _ _ _ _ _ _ _ _ _ _ (fun V hv => ⟨HX.1.later hv HX.1.lt, HX.2.1.later hv HX.2.1.lt, HX.2.2.1.later hv HX.2.2.1.lt⟩) (fun V hv => ⟨sa.later (bt HX.2.2.2 hv), sb.later (bt HX.2.2.2 hv), sr.later (bt HX.2.2.2 hv)⟩) na nb nr ?_ ?_ ?_
    (fun p q V hp hq sp sq => gcAdd a b p q V hp hq sp sq) (fun V hv => d4Add_q a b V (sa.later (bt HX.2.2.2 hv)) (sb.later (bt HX.2.2.2 hv)) (gc_sh na) (gc_sh nb))
    (fun p q V hp hq sp sq => gcSub a b p q V hp hq sp sq) (fun V hv => d4Sub_q a b V (sa.later (bt HX.2.2.2 hv)) (sb.later (bt HX.2.2.2 hv)) (gc_sh na) (gc_sh nb))
    (fun p q V hp hq sp sq => gcMul a b p q V hp hq sp sq) (fun V hv => d4Mul_q a b V (sa.later (bt HX.2.2.2 hv)) (sb.later (bt HX.2.2.2 hv)) (gc_sh na) (gc_sh nb))
    (fun p q V hp hq sp sq => gcQuo a b p q V hp hq sp sq) (fun V hv => d4Quo_q a b V (sa.later (bt HX.2.2.2 hv)) (sb.later (bt HX.2.2.2 hv)) (gc_sh na) (gc_sh nb))
    (fun s p V hs hp ss sp => gcScale r s a p V hs hp ss sp) (fun V hv => d4Scale_q r a V (sr.later (bt HX.2.2.2 hv)) (sa.later (bt HX.2.2.2 hv)) (gc_sh3 nr) (gc_sh na))) ?_
  · intro V
    have q := kheavy_any a.n a.a a.xs.length a.ca a.b a.ys.length a.cb a.m a.c a.us.length a.cc a.d a.vs.length a.cd V
    rw [qa] at q
    exact q
  · intro V
    have q := kheavy_any b.n b.a b.xs.length b.ca b.b b.ys.length b.cb b.m b.c b.us.length b.cc b.d b.vs.length b.cd V
    rw [qb] at q
    exact q
  · intro V
    have q := kSmall_any r.n r.a r.xs.length r.ca r.b r.ys.length r.cb V
    rw [qr] at q
    exact q
  · rintro e w' ⟨rfl, hb⟩
    exact ⟨rfl, bt HX.2.2.2 hb⟩
theorem gaussCalls_in (n0 : Bool) (a0 : Option Addr) (k0 ca0 : Nat) (xs0 : List Int) (b0 : Option Addr) (l0 cb0 : Nat) (ys0 : List Int) (m0 : Bool) (c0 : Option Addr) (kc0 cc0 : Nat) (us0 : List Int) (d0 : Option Addr) (kd0 cd0 : Nat) (vs0 : List Int) (n1 : Bool) (a1 : Option Addr) (k1 ca1 : Nat) (xs1 : List Int) (b1 : Option Addr) (l1 cb1 : Nat) (ys1 : List Int) (m1 : Bool) (c1 : Option Addr) (kc1 cc1 : Nat) (us1 : List Int) (d1 : Option Addr) (kd1 cd1 : Nat) (vs1 : List Int) (n2 : Bool) (a2 : Option Addr) (k2 ca2 : Nat) (xs2 : List Int) (b2 : Option Addr) (l2 cb2 : Nat) (ys2 : List Int) (w : World) (h0 : Reads w w.heap.size a0 k0 ca0 xs0) (g0 : Reads w w.heap.size b0 l0 cb0 ys0) (i0 : Reads w w.heap.size c0 kc0 cc0 us0) (j0 : Reads w w.heap.size d0 kd0 cd0 vs0) (h1 : Reads w w.heap.size a1 k1 ca1 xs1) (g1 : Reads w w.heap.size b1 l1 cb1 ys1) (i1 : Reads w w.heap.size c1 kc1 cc1 us1) (j1 : Reads w w.heap.size d1 kd1 cd1 vs1) (h2 : Reads w w.heap.size a2 k2 ca2 xs2) (g2 : Reads w w.heap.size b2 l2 cb2 ys2) :
    Calls Tryz.prog 3 #[.agg #[.bool n0, .slice a0 k0 ca0, .slice b0 l0 cb0, .bool m0, .slice c0 kc0 cc0, .slice d0 kd0 cd0], .agg #[.bool n1, .slice a1 k1 ca1, .slice b1 l1 cb1, .bool m1, .slice c1 kc1 cc1, .slice d1 kd1 cd1], .agg #[.bool n2, .slice a2 k2 ca2, .slice b2 l2 cb2]] w fun e w' => e = .returned (.bool true) ∧ Below w.heap.size w w' := by
  by_cases hq : ((smH k0 && smH l0) && (smH kc0 && smH kd0)) = false ∨ ((smH k1 && smH l1) && (smH kc1 && smH kd1)) = false ∨ (smH k2 && smH l2) = false
  · exact gaussCalls_off n0 a0 k0 ca0 b0 l0 cb0 m0 c0 kc0 cc0 d0 kd0 cd0 n1 a1 k1 ca1 b1 l1 cb1 m1 c1 kc1 cc1 d1 kd1 cd1 n2 a2 k2 ca2 b2 l2 cb2 w hq
  · have q0 : ((smH k0 && smH l0) && (smH kc0 && smH kd0)) = true := by cases h : ((smH k0 && smH l0) && (smH kc0 && smH kd0)); exact absurd (.inl h) hq; rfl
    have q1 : ((smH k1 && smH l1) && (smH kc1 && smH kd1)) = true := by cases h : ((smH k1 && smH l1) && (smH kc1 && smH kd1)); exact absurd (.inr (.inl h)) hq; rfl
    have q2 : (smH k2 && smH l2) = true := by cases h : (smH k2 && smH l2); exact absurd (.inr (.inr h)) hq; rfl
    obtain rfl := h0.1
    obtain rfl := g0.1
    obtain rfl := i0.1
    obtain rfl := j0.1
    obtain rfl := h1.1
    obtain rfl := g1.1
    obtain rfl := i1.1
    obtain rfl := j1.1
    obtain rfl := h2.1
    obtain rfl := g2.1
    exact gaussCalls_good ⟨n0, a0, ca0, xs0, b0, cb0, ys0, m0, c0, cc0, us0, d0, cd0, vs0⟩ ⟨n1, a1, ca1, xs1, b1, cb1, ys1, m1, c1, cc1, us1, d1, cd1, vs1⟩ ⟨n2, a2, ca2, xs2, b2, cb2, ys2⟩ w ⟨⟨_, _, rfl, h0⟩, ⟨_, _, rfl, g0⟩, ⟨_, _, rfl, i0⟩, ⟨_, _, rfl, j0⟩⟩ ⟨⟨_, _, rfl, h1⟩, ⟨_, _, rfl, g1⟩, ⟨_, _, rfl, i1⟩, ⟨_, _, rfl, j1⟩⟩ ⟨⟨_, _, rfl, h2⟩, ⟨_, _, rfl, g2⟩⟩ q0 q1 q2
end Go.Proofs.YtlleakifnjfdkaaGreat
