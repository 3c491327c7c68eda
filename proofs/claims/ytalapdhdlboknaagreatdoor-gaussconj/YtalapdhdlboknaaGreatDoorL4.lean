/- My texts on the way to GaussConj, one behind the other: contracts of the program and of the document's answers. -/
import Derived.Test.YtalapdhdlboknaaGreatDoorL1
import Derived.Test.YtalapdhdlboknaaGreatDoorL3
import Derived.Deep.RegionHeld3
import Derived.Deep.CutRange
import Derived.WalkKit
import Derived.WalkLawsBesides
import Derived.WalkSpells
import Derived.Test.YtalapdhdlboknaaGreatDoorChecked
import Derived.Handy
import Derived.Test.YtalapdhdlboknaaGreatDoorRows
import Derived.ProofKit
import Derived.OpenShut
import Derived.ShutString
import Derived.Below
import Derived.Lib.SmallJoins
import Derived.Deep.Strs
/- Complex fractions, the steps' own: times: of any two that were looked at. -/
namespace Go.Proofs.YtalapdhdlboknaaGreatDoor
open Go.RowKit
set_option linter.unusedVariables false

/-- What stands while steps are made inside one statement that began at X. -/
structure GJ (w X : World) (p : Nat) (E : Int) (l : List (Nat × Nat × Array Value)) (V : World) : Prop where
  inv : GInv w p E l V
  gx : X.grownBy V (some p)
structure GB (w X : World) (p : Nat) (l : List (Nat × Nat × Array Value)) : Prop where
  hw : w.heap.size ≤ X.heap.size
  hp : p < w.heap.size
  hl : ∀ x ∈ l, x.1 < X.heap.size
theorem GJ.first {w X : World} {p : Nat} {E : Int} {l : List (Nat × Nat × Array Value)} (h : GInv w p E l X) : GJ w X p E l X.drew := ⟨h.drew, ⟨rfl, rfl, rfl, Nat.le_refl _, fun _ _ _ => rfl⟩⟩
theorem GJ.drew {w X V : World} {p : Nat} {E : Int} {l : List (Nat × Nat × Array Value)} (h : GJ w X p E l V) : GJ w X p E l V.drew := ⟨h.inv.drew, ⟨h.gx.os, h.gx.tape, h.gx.output, h.gx.size, h.gx.block⟩⟩
theorem GJ.start {w X : World} {p : Nat} {E : Int} {l : List (Nat × Nat × Array Value)} (h : GInv w p E l X) : GJ w X p E l X := ⟨h, ⟨rfl, rfl, rfl, Nat.le_refl _, fun _ _ _ => rfl⟩⟩
theorem GJ.alloc {w X V : World} {p : Nat} {E : Int} {l : List (Nat × Nat × Array Value)} (h : GJ w X p E l V) (ob : Obj) : GJ w X p E l (V.alloc ob) := ⟨h.inv.alloc ob, grow_trans h.gx (World.grownBy_alloc V ob (some p))⟩
theorem GJ.step {w X V V' : World} {p : Nat} {E code : Int} {l : List (Nat × Nat × Array Value)} (h : GJ w X p E l V) (hp : Box V' p 53 #[.int .i64 code]) (hg : V.grownBy V' (some p)) : GJ w X p code l V' := ⟨h.inv.step hp hg, grow_trans h.gx hg⟩
theorem GInv.put3 {w V : World} {p : Nat} {E : Int} {l : List (Nat × Nat × Array Value)} (h : GInv w p E l V) (b : Nat) (hb : w.heap.size ≤ b) (hp : p ≠ b) (hl : ∀ x ∈ l, x.1 ≠ b) (u0 u1 u2 : Value) : GInv w p E l (((V.setCell ⟨b, 0, none⟩ u0).setCell ⟨b, 1, none⟩ u1).setCell ⟨b, 2, none⟩ u2) :=
  ⟨box_far3 h.err hp _ _ _, grow_put3 h.grown b _ _ _ (.inl hb), fun x hx => ⟨box_far3 (h.box x hx).1 (hl x hx) _ _ _, (h.box x hx).2⟩⟩
theorem GJ.put3 {w X V : World} {p : Nat} {E : Int} {l : List (Nat × Nat × Array Value)} (h : GJ w X p E l V) (hB : GB w X p l) (b : Nat) (hb : X.heap.size ≤ b) (u0 u1 u2 : Value) : GJ w X p E l (((V.setCell ⟨b, 0, none⟩ u0).setCell ⟨b, 1, none⟩ u1).setCell ⟨b, 2, none⟩ u2) :=
  ⟨h.inv.put3 b (Nat.le_trans hB.hw hb) (by have := hB.hp; have := hB.hw; omega) (fun x hx => by have := hB.hl x hx; omega) _ _ _, grow_put3 h.gx b _ _ _ (.inl hb)⟩
theorem GInv.more {w V : World} {p : Nat} {E : Int} {l : List (Nat × Nat × Array Value)} (h : GInv w p E l V) {b t : Nat} {vs : Array Value} (hb : Box V b t vs) (hne : b ≠ p) : GInv w p E ((b, t, vs) :: l) V := ⟨h.err, h.grown, fun x hx => by
  cases hx with
  | head => exact ⟨hb, hne⟩
  | tail _ hx => exact h.box x hx⟩
theorem GInv.base {w X : World} {p : Nat} {E : Int} {l : List (Nat × Nat × Array Value)} (h : GInv w p E l X) (hp : p < w.heap.size) : GB w X p l := ⟨h.grown.size, hp, fun x hx => (h.box x hx).1.lt⟩
theorem some_ne {b p : Nat} (h : p < b) : some b ≠ some p := fun e => by have := Option.some.inj e; omega
/-- What one step tells, inside a statement. -/
def GStp (w X : World) (p : Nat) (l : List (Nat × Nat × Array Value)) (V : World) (e : Int) (q : Rat) (x : Ending) (w1 : World) : Prop :=
  ∃ n1 a1 k1 x1 b1 l1 y1 code, x = .returned (.agg #[.bool n1, .slice a1 (List.length x1) k1, .slice b1 (List.length y1) l1]) ∧ Hid (RTells e q n1 x1 y1 code) ∧ Hid (GJ w X p code l w1) ∧ Hid (GRow w1 X.heap.size n1 (.slice a1 (List.length x1) k1) x1 (.slice b1 (List.length y1) l1) y1) ∧ Hid (GRow w1 V.heap.size n1 (.slice a1 (List.length x1) k1) x1 (.slice b1 (List.length y1) l1) y1) ∧ Hid (V.grownBy w1 (some p)) ∧ Hid (Cut V (.slice a1 (List.length x1) k1) (.slice b1 (List.length y1) l1) w1) ∧ X.heap.size ≤ w1.heap.size
theorem gstp {w X V : World} {p : Nat} {EE e : Int} {q : Rat} {l : List (Nat × Nat × Array Value)} {k : Nat} {args : Array Value} (hv : GJ w X p EE l V) (H : Calls Tryz.prog k args V (GTell V p e q)) : Calls Tryz.prog k args V (GStp w X p l V e q) := by
  refine Calls.mono H ?_
  rintro x w1 ⟨n1, v, zs, u, ts, code, rfl, ov, ou, ht, hpb, hg, hcut⟩
  obtain ⟨av, cv, rfl⟩ := own_slice' ov
  obtain ⟨au, cu, rfl⟩ := own_slice' ou
  have hi := hv.step hpb hg
  exact ⟨n1, av, cv, zs, au, cu, ts, code, rfl, hid ht, hid hi, hid ⟨owns_base ov hv.gx.size, owns_base ou hv.gx.size⟩, hid ⟨ov, ou⟩, hid hg, hid hcut, hi.gx.size⟩
/-- Three steps of which the third joins the two ahead of it. -/
def G3 (op : Rat → Rat → Rat) (E e1 e2 : Int) (q1 q2 : Rat) (n3 : Bool) (x3 y3 : List Int) (c3 : Int) : Prop := ∃ n1 x1 y1 c1 n2 x2 y2 c2, RTells (fstE E e1) q1 n1 x1 y1 c1 ∧ RTells (fstE c1 e2) q2 n2 x2 y2 c2 ∧ RTells (fstE c2 (rboth n1 x1 y1 n2 x2 y2)) (op (rq n1 x1 y1) (rq n2 x2 y2)) n3 x3 y3 c3
/-- What the statement leaves: a box with the fraction told. -/
def GCut (w X : World) (p : Nat) (l : List (Nat × Nat × Array Value)) (op : Rat → Rat → Rat) (E e1 e2 : Int) (q1 q2 : Rat) (s : Value) (W : World) : Prop :=
  ∃ b n3 a3 k3 x3 b3 l3 y3 c3, s = .pointer (some ⟨b, 0, none⟩) ∧ X.heap.size ≤ b ∧ G3 op E e1 e2 q1 q2 n3 x3 y3 c3 ∧ GInv w p c3 ((b, 24, #[.bool n3, .slice a3 (List.length x3) k3, .slice b3 (List.length y3) l3]) :: l) W ∧ GRow W X.heap.size n3 (.slice a3 (List.length x3) k3) x3 (.slice b3 (List.length y3) l3) y3 ∧ Cut X (.slice a3 (List.length x3) k3) (.slice b3 (List.length y3) l3) W ∧ X.grownBy W (some p)
theorem gcut_put {w X : World} {p : Nat} {l : List (Nat × Nat × Array Value)} {op : Rat → Rat → Rat} {E e1 e2 : Int} {q1 q2 : Rat} {n1 n2 n3 : Bool} {x1 y1 x2 y2 x3 y3 : List Int} {c1 c2 c3 : Int} {a3 b3 : Option Addr} {k3 l3 : Nat} {w3 V3 : World} {b : Nat} (hB : GB w X p l) (t1 : RTells (fstE E e1) q1 n1 x1 y1 c1) (t2 : RTells (fstE c1 e2) q2 n2 x2 y2 c2) (t3 : RTells (fstE c2 (rboth n1 x1 y1 n2 x2 y2)) (op (rq n1 x1 y1) (rq n2 x2 y2)) n3 x3 y3 c3) (j3 : GJ w X p c3 l w3) (r3 : GRow w3 V3.heap.size n3 (.slice a3 x3.length k3) x3 (.slice b3 y3.length l3) y3) (cut3 : Cut V3 (.slice a3 x3.length k3) (.slice b3 y3.length l3) w3) (hbx : Box w3 b 24 #[.bool false, .slice none 0 0, .slice none 0 0]) (hb3 : b < V3.heap.size) (hXb : X.heap.size ≤ b) :
    GCut w X p l op E e1 e2 q1 q2 (.pointer (some ⟨b, 0, none⟩)) (((w3.setCell ⟨b, 0, none⟩ (.bool n3)).setCell ⟨b, 1, none⟩ (.slice a3 x3.length k3)).setCell ⟨b, 2, none⟩ (.slice b3 y3.length l3)) := by
  have hj := j3.put3 hB b hXb (.bool n3) (.slice a3 x3.length k3) (.slice b3 y3.length l3)
  have hXV : X.heap.size ≤ V3.heap.size := by omega
  refine ⟨b, n3, a3, k3, x3, b3, l3, y3, c3, rfl, hXb, ⟨n1, x1, y1, c1, n2, x2, y2, c2, t1, t2, t3⟩, hj.inv.more (box_put3 hbx _ _ _) (by have := hB.hp; have := hB.hw; omega), ⟨owns_base (own_put3' r3.ov b (fun g hg => by have := (r3.ov.lt g hg).1; omega) _ _ _) hXV, owns_base (own_put3' r3.ou b (fun g hg => by have := (r3.ou.lt g hg).1; omega) _ _ _) hXV⟩, cut3.up hXV (by simp [World.setCell]), hj.gx⟩
theorem gcut_new {w X : World} {p : Nat} {l : List (Nat × Nat × Array Value)} {op : Rat → Rat → Rat} {E e1 e2 : Int} {q1 q2 : Rat} {n1 n2 n3 : Bool} {x1 y1 x2 y2 x3 y3 : List Int} {c1 c2 c3 : Int} {a3 b3 : Option Addr} {k3 l3 : Nat} {w3 V3 : World} (hB : GB w X p l) (t1 : RTells (fstE E e1) q1 n1 x1 y1 c1) (t2 : RTells (fstE c1 e2) q2 n2 x2 y2 c2) (t3 : RTells (fstE c2 (rboth n1 x1 y1 n2 x2 y2)) (op (rq n1 x1 y1) (rq n2 x2 y2)) n3 x3 y3 c3) (j3 : GJ w X p c3 l w3) (r3 : GRow w3 V3.heap.size n3 (.slice a3 x3.length k3) x3 (.slice b3 y3.length l3) y3) (cut3 : Cut V3 (.slice a3 x3.length k3) (.slice b3 y3.length l3) w3) (hXV : X.heap.size ≤ V3.heap.size) :
    GCut w X p l op E e1 e2 q1 q2 (.pointer (some ⟨w3.heap.size, 0, none⟩)) (w3.alloc (.cells #[.bool n3, .slice a3 x3.length k3, .slice b3 y3.length l3] 24)) := by
  have hj := j3.alloc (.cells #[.bool n3, .slice a3 x3.length k3, .slice b3 y3.length l3] 24)
  have hX3 := j3.gx.size
  refine ⟨w3.heap.size, n3, a3, k3, x3, b3, l3, y3, c3, rfl, hX3, ⟨n1, x1, y1, c1, n2, x2, y2, c2, t1, t2, t3⟩, hj.inv.more (Box.made w3 _ _) (by have := hB.hp; have := hB.hw; omega), ⟨owns_base (owns_later r3.ov (alloc_later _ _)) hXV, owns_base (owns_later r3.ou (alloc_later _ _)) hXV⟩, cut3.up hXV (by simp), hj.gx⟩
theorem gbox_far6 {U : World} {b t b' : Nat} {vs : Array Value} (h : Box U b t vs) (hne : b ≠ b') (v0 v1 v2 v3 v4 v5 : Value) : Box ((((((U.setCell ⟨b', 0, none⟩ v0).setCell ⟨b', 1, none⟩ v1).setCell ⟨b', 2, none⟩ v2).setCell ⟨b', 3, none⟩ v3).setCell ⟨b', 4, none⟩ v4).setCell ⟨b', 5, none⟩ v5) b t vs := (((box_far3 h hne v0 v1 v2).other ⟨b', 3, none⟩ v3 hne).other ⟨b', 4, none⟩ v4 hne).other ⟨b', 5, none⟩ v5 hne
theorem grow_put6 {a c : World} {p : Nat} (h : a.grownBy c (some p)) (b : Nat) (u0 u1 u2 u3 u4 u5 : Value) (hb : a.heap.size ≤ b ∨ b = p) : a.grownBy ((((((c.setCell ⟨b, 0, none⟩ u0).setCell ⟨b, 1, none⟩ u1).setCell ⟨b, 2, none⟩ u2).setCell ⟨b, 3, none⟩ u3).setCell ⟨b, 4, none⟩ u4).setCell ⟨b, 5, none⟩ u5) (some p) :=
  grow_put (grow_put (grow_put (grow_put3 h b u0 u1 u2 hb) b 3 u3 hb) b 4 u4 hb) b 5 u5 hb
theorem box3f {W : World} {b t : Nat} {u0 u1 u2 : Value} (h : Box W b t #[u0, u1, u2]) : W.cell? ⟨b, 0, none⟩ = some u0 ∧ W.cell? ⟨b, 1, none⟩ = some u1 ∧ W.cell? ⟨b, 2, none⟩ = some u2 ∧ W.frozen? ⟨b, 0, none⟩ = false ∧ W.frozen? ⟨b, 1, none⟩ = false ∧ W.frozen? ⟨b, 2, none⟩ = false := ⟨h.cell 0, h.cell 1, h.cell 2, h.free 0, h.free 1, h.free 2⟩
/-- What times tells. -/
def GTimes (w : World) (p : Nat) (E e1 e2 e3 e4 : Int) (q1 q2 q3 q4 : Rat) (x : Ending) (w' : World) : Prop :=
  ∃ n3 a3 k3 x3 b3 l3 y3 c3 n6 a6 k6 x6 b6 l6 y6 c6, x = .returned (.agg #[.bool n3, .slice a3 (List.length x3) k3, .slice b3 (List.length y3) l3, .bool n6, .slice a6 (List.length x6) k6, .slice b6 (List.length y6) l6]) ∧ (GRow w' w.heap.size n3 (.slice a3 (List.length x3) k3) x3 (.slice b3 (List.length y3) l3) y3 ∧ GRow w' w.heap.size n6 (.slice a6 (List.length x6) k6) x6 (.slice b6 (List.length y6) l6) y6) ∧ G3 (· - ·) E e1 e2 q1 q2 n3 x3 y3 c3 ∧ G3 (· + ·) c3 e3 e4 q3 q4 n6 x6 y6 c6 ∧ Box w' p 53 #[.int .i64 c6] ∧ w.grownBy w' (some p) ∧ ∃ W1, Cut w (.slice a3 (List.length x3) k3) (.slice b3 (List.length y3) l3) W1 ∧ Cut W1 (.slice a6 (List.length x6) k6) (.slice b6 (List.length y6) l6) w'
set_option maxHeartbeats 6400000 in
set_option maxRecDepth 100000 in
theorem gtimes_any (p : Nat) (E : Int) (n : Bool) (a : Option Addr) (ca : Nat) (xs : List Int) (b : Option Addr) (cb : Nat) (ys : List Int) (m : Bool) (c : Option Addr) (cc : Nat) (us : List Int) (d : Option Addr) (cd : Nat) (vs : List Int) (n2 : Bool) (a2 : Option Addr) (ca2 : Nat) (xs2 : List Int) (b2 : Option Addr) (cb2 : Nat) (ys2 : List Int) (m2 : Bool) (c2 : Option Addr) (cc2 : Nat) (us2 : List Int) (d2 : Option Addr) (cd2 : Nat) (vs2 : List Int) (w : World) (hp : Box w p 53 #[.int .i64 E]) (HS : ∀ V, w.grownBy V (some p) → Sl V (.slice a xs.length ca) xs ∧ Sl V (.slice b ys.length cb) ys ∧ Sl V (.slice c us.length cc) us ∧ Sl V (.slice d vs.length cd) vs ∧ Sl V (.slice a2 xs2.length ca2) xs2 ∧ Sl V (.slice b2 ys2.length cb2) ys2 ∧ Sl V (.slice c2 us2.length cc2) us2 ∧ Sl V (.slice d2 vs2.length cd2) vs2) :
    Calls Tryz.prog 32 #[.pointer (some ⟨p, 0, none⟩), .agg #[.bool n, .slice a xs.length ca, .slice b ys.length cb, .bool m, .slice c us.length cc, .slice d vs.length cd], .agg #[.bool n2, .slice a2 xs2.length ca2, .slice b2 ys2.length cb2, .bool m2, .slice c2 us2.length cc2, .slice d2 vs2.length cd2]] w (GTimes w p E (rboth n xs ys n2 xs2 ys2) (rboth m us vs m2 us2 vs2) (rboth n xs ys m2 us2 vs2) (rboth m us vs n2 xs2 ys2) (rq n xs ys * rq n2 xs2 ys2) (rq m us vs * rq m2 us2 vs2) (rq n xs ys * rq m2 us2 vs2) (rq m us vs * rq n2 xs2 ys2)) := by
  have hpw : p < w.heap.size := hp.lt
  have HPW := hid hpw
  have HSS := hid HS
  have HI : Hid (GInv w p E ((w.heap.size, 26, #[.bool n, .slice a xs.length ca, .slice b ys.length cb, .bool m, .slice c us.length cc, .slice d vs.length cd]) :: (w.heap.size + 1, 26, #[.bool n2, .slice a2 xs2.length ca2, .slice b2 ys2.length cb2, .bool m2, .slice c2 us2.length cc2, .slice d2 vs2.length cd2]) :: (w.heap.size + 1 + 1, 26, #[.bool false, .slice none 0 0, .slice none 0 0, .bool false, .slice none 0 0, .slice none 0 0]) :: []) (((w.alloc (.cells #[.bool n, .slice a xs.length ca, .slice b ys.length cb, .bool m, .slice c us.length cc, .slice d vs.length cd] 26)).alloc (.cells #[.bool n2, .slice a2 xs2.length ca2, .slice b2 ys2.length cb2, .bool m2, .slice c2 us2.length cc2, .slice d2 vs2.length cd2] 26)).alloc (.cells #[.bool false, .slice none 0 0, .slice none 0 0, .bool false, .slice none 0 0, .slice none 0 0] 26))) := by
    have h3 := boxes3r w 26 #[.bool n, .slice a xs.length ca, .slice b ys.length cb, .bool m, .slice c us.length cc, .slice d vs.length cd] #[.bool n2, .slice a2 xs2.length ca2, .slice b2 ys2.length cb2, .bool m2, .slice c2 us2.length cc2, .slice d2 vs2.length cd2] #[.bool false, .slice none 0 0, .slice none 0 0, .bool false, .slice none 0 0, .slice none 0 0]
    refine hid (GInv.more (GInv.more (GInv.more ⟨hp.later h3.2.2.2 hp.lt, grow_below h3.2.2.2 _, fun x hx => by cases hx⟩ h3.2.2.1 (by omega)) h3.2.1 (by omega)) h3.1 (by omega))
  obtain ⟨X, hX⟩ : ∃ X, ((w.alloc (.cells #[.bool n, .slice a xs.length ca, .slice b ys.length cb, .bool m, .slice c us.length cc, .slice d vs.length cd] 26)).alloc (.cells #[.bool n2, .slice a2 xs2.length ca2, .slice b2 ys2.length cb2, .bool m2, .slice c2 us2.length cc2, .slice d2 vs2.length cd2] 26)).alloc (.cells #[.bool false, .slice none 0 0, .slice none 0 0, .bool false, .slice none 0 0, .slice none 0 0] 26) = X := ⟨_, rfl⟩
  rw [hX] at HI
  clear HS hp
  go_enter Tryz.func32, Tryz.ntmps32
  have HK : Hid (∀ V EE, GJ w X p EE ((w.heap.size, 26, #[.bool n, .slice a xs.length ca, .slice b ys.length cb, .bool m, .slice c us.length cc, .slice d vs.length cd]) :: (w.heap.size + 1, 26, #[.bool n2, .slice a2 xs2.length ca2, .slice b2 ys2.length cb2, .bool m2, .slice c2 us2.length cc2, .slice d2 vs2.length cd2]) :: (w.heap.size + 1 + 1, 26, #[.bool false, .slice none 0 0, .slice none 0 0, .bool false, .slice none 0 0, .slice none 0 0]) :: []) V → V.cell? ⟨w.heap.size, 0, none⟩ = some (.bool n) ∧ V.cell? ⟨w.heap.size, 1, none⟩ = some (.slice a xs.length ca) ∧ V.cell? ⟨w.heap.size, 2, none⟩ = some (.slice b ys.length cb) ∧ V.cell? ⟨w.heap.size, 3, none⟩ = some (.bool m) ∧ V.cell? ⟨w.heap.size, 4, none⟩ = some (.slice c us.length cc) ∧ V.cell? ⟨w.heap.size, 5, none⟩ = some (.slice d vs.length cd) ∧ V.cell? ⟨w.heap.size + 1, 0, none⟩ = some (.bool n2) ∧ V.cell? ⟨w.heap.size + 1, 1, none⟩ = some (.slice a2 xs2.length ca2) ∧ V.cell? ⟨w.heap.size + 1, 2, none⟩ = some (.slice b2 ys2.length cb2) ∧ V.cell? ⟨w.heap.size + 1, 3, none⟩ = some (.bool m2) ∧ V.cell? ⟨w.heap.size + 1, 4, none⟩ = some (.slice c2 us2.length cc2) ∧ V.cell? ⟨w.heap.size + 1, 5, none⟩ = some (.slice d2 vs2.length cd2)) := hid (fun V EE hv => by
    obtain ⟨g0, g1, g2, g3, g4, g5⟩ := cells6 (hv.inv.box _ (List.mem_cons_self ..)).1
    obtain ⟨i0, i1, i2, i3, i4, i5⟩ := cells6 (hv.inv.box _ (List.mem_cons_of_mem _ (List.mem_cons_self ..))).1
    exact ⟨g0, g1, g2, g3, g4, g5, i0, i1, i2, i3, i4, i5⟩)
  have H1 : Hid (∀ V EE, GJ w X p EE ((w.heap.size, 26, #[.bool n, .slice a xs.length ca, .slice b ys.length cb, .bool m, .slice c us.length cc, .slice d vs.length cd]) :: (w.heap.size + 1, 26, #[.bool n2, .slice a2 xs2.length ca2, .slice b2 ys2.length cb2, .bool m2, .slice c2 us2.length cc2, .slice d2 vs2.length cd2]) :: (w.heap.size + 1 + 1, 26, #[.bool false, .slice none 0 0, .slice none 0 0, .bool false, .slice none 0 0, .slice none 0 0]) :: []) V → Calls Tryz.prog 48 #[.pointer (some ⟨p, 0, none⟩), .agg #[.bool n, .slice a xs.length ca, .slice b ys.length cb], .agg #[.bool n2, .slice a2 xs2.length ca2, .slice b2 ys2.length cb2]] V (GStp w X p ((w.heap.size, 26, #[.bool n, .slice a xs.length ca, .slice b ys.length cb, .bool m, .slice c us.length cc, .slice d vs.length cd]) :: (w.heap.size + 1, 26, #[.bool n2, .slice a2 xs2.length ca2, .slice b2 ys2.length cb2, .bool m2, .slice c2 us2.length cc2, .slice d2 vs2.length cd2]) :: (w.heap.size + 1 + 1, 26, #[.bool false, .slice none 0 0, .slice none 0 0, .bool false, .slice none 0 0, .slice none 0 0]) :: []) V (fstE EE (rboth n xs ys n2 xs2 ys2)) (rq n xs ys * rq n2 xs2 ys2))) := hid (fun V EE hv => by
    have h := HSS.out V hv.inv.grown
    exact gstp hv (gproduct_any p EE n a ca xs b cb ys n2 a2 ca2 xs2 b2 cb2 ys2 V hv.inv.err h.1 h.2.1 h.2.2.2.2.1 h.2.2.2.2.2.1))
  have H2 : Hid (∀ V EE, GJ w X p EE ((w.heap.size, 26, #[.bool n, .slice a xs.length ca, .slice b ys.length cb, .bool m, .slice c us.length cc, .slice d vs.length cd]) :: (w.heap.size + 1, 26, #[.bool n2, .slice a2 xs2.length ca2, .slice b2 ys2.length cb2, .bool m2, .slice c2 us2.length cc2, .slice d2 vs2.length cd2]) :: (w.heap.size + 1 + 1, 26, #[.bool false, .slice none 0 0, .slice none 0 0, .bool false, .slice none 0 0, .slice none 0 0]) :: []) V → Calls Tryz.prog 48 #[.pointer (some ⟨p, 0, none⟩), .agg #[.bool m, .slice c us.length cc, .slice d vs.length cd], .agg #[.bool m2, .slice c2 us2.length cc2, .slice d2 vs2.length cd2]] V (GStp w X p ((w.heap.size, 26, #[.bool n, .slice a xs.length ca, .slice b ys.length cb, .bool m, .slice c us.length cc, .slice d vs.length cd]) :: (w.heap.size + 1, 26, #[.bool n2, .slice a2 xs2.length ca2, .slice b2 ys2.length cb2, .bool m2, .slice c2 us2.length cc2, .slice d2 vs2.length cd2]) :: (w.heap.size + 1 + 1, 26, #[.bool false, .slice none 0 0, .slice none 0 0, .bool false, .slice none 0 0, .slice none 0 0]) :: []) V (fstE EE (rboth m us vs m2 us2 vs2)) (rq m us vs * rq m2 us2 vs2))) := hid (fun V EE hv => by
    have h := HSS.out V hv.inv.grown
    exact gstp hv (gproduct_any p EE m c cc us d cd vs m2 c2 cc2 us2 d2 cd2 vs2 V hv.inv.err h.2.2.1 h.2.2.2.1 h.2.2.2.2.2.2.1 h.2.2.2.2.2.2.2))
  have H3 : Hid (∀ (V : World) (EE : Int) (n1' : Bool) (a1' : Option Addr) (k1' : Nat) (x1' : List Int) (b1' : Option Addr) (l1' : Nat) (y1' : List Int) (n2' : Bool) (a2' : Option Addr) (k2' : Nat) (x2' : List Int) (b2' : Option Addr) (l2' : Nat) (y2' : List Int), GJ w X p EE ((w.heap.size, 26, #[.bool n, .slice a xs.length ca, .slice b ys.length cb, .bool m, .slice c us.length cc, .slice d vs.length cd]) :: (w.heap.size + 1, 26, #[.bool n2, .slice a2 xs2.length ca2, .slice b2 ys2.length cb2, .bool m2, .slice c2 us2.length cc2, .slice d2 vs2.length cd2]) :: (w.heap.size + 1 + 1, 26, #[.bool false, .slice none 0 0, .slice none 0 0, .bool false, .slice none 0 0, .slice none 0 0]) :: []) V → Sl V (.slice a1' x1'.length k1') x1' ∧ Sl V (.slice b1' y1'.length l1') y1' → Sl V (.slice a2' x2'.length k2') x2' ∧ Sl V (.slice b2' y2'.length l2') y2' → Calls Tryz.prog 28 #[.pointer (some ⟨p, 0, none⟩), .agg #[.bool n1', .slice a1' x1'.length k1', .slice b1' y1'.length l1'], .agg #[.bool n2', .slice a2' x2'.length k2', .slice b2' y2'.length l2']] V (GStp w X p ((w.heap.size, 26, #[.bool n, .slice a xs.length ca, .slice b ys.length cb, .bool m, .slice c us.length cc, .slice d vs.length cd]) :: (w.heap.size + 1, 26, #[.bool n2, .slice a2 xs2.length ca2, .slice b2 ys2.length cb2, .bool m2, .slice c2 us2.length cc2, .slice d2 vs2.length cd2]) :: (w.heap.size + 1 + 1, 26, #[.bool false, .slice none 0 0, .slice none 0 0, .bool false, .slice none 0 0, .slice none 0 0]) :: []) V (fstE EE (rboth n1' x1' y1' n2' x2' y2')) (rq n1' x1' y1' - rq n2' x2' y2'))) := hid (fun V EE n1' a1' k1' x1' b1' l1' y1' n2' a2' k2' x2' b2' l2' y2' hv h1 h2 => gstp hv (gdifference_any p EE n1' a1' k1' x1' b1' l1' y1' n2' a2' k2' x2' b2' l2' y2' V hv.inv.err h1.1 h1.2 h2.1 h2.2))
  have HGB := hid (GInv.base HI.out HPW.out)
  have HD := hid (GJ.first HI.out)
  have HD0 := hid (GJ.start HI.out)
  have hs0 := HK.out _ _ HD.out
  have hwX : w.heap.size ≤ X.heap.size := HGB.out.hw
  have hpX : p < X.heap.size := Nat.lt_of_lt_of_le HPW.out hwX
  go_upto_region 1 with fail
  go_cut [7] from 9 (fun s wx => Hid (GCut w X p ((w.heap.size, 26, #[.bool n, .slice a xs.length ca, .slice b ys.length cb, .bool m, .slice c us.length cc, .slice d vs.length cd]) :: (w.heap.size + 1, 26, #[.bool n2, .slice a2 xs2.length ca2, .slice b2 ys2.length cb2, .bool m2, .slice c2 us2.length cc2, .slice d2 vs2.length cd2]) :: (w.heap.size + 1 + 1, 26, #[.bool false, .slice none 0 0, .slice none 0 0, .bool false, .slice none 0 0, .slice none 0 0]) :: []) (· - ·) E (rboth n xs ys n2 xs2 ys2) (rboth m us vs m2 us2 vs2) (rq n xs ys * rq n2 xs2 ys2) (rq m us vs * rq m2 us2 vs2) s wx))
  case first =>
    go_region_held3 (fun V : World => V.cell? ⟨w.heap.size, 0, none⟩ = some (.bool n) ∧ V.cell? ⟨w.heap.size, 1, none⟩ = some (.slice a xs.length ca) ∧ V.cell? ⟨w.heap.size, 2, none⟩ = some (.slice b ys.length cb) ∧ V.cell? ⟨w.heap.size, 3, none⟩ = some (.bool m) ∧ V.cell? ⟨w.heap.size, 4, none⟩ = some (.slice c us.length cc) ∧ V.cell? ⟨w.heap.size, 5, none⟩ = some (.slice d vs.length cd) ∧ V.cell? ⟨w.heap.size + 1, 0, none⟩ = some (.bool n2) ∧ V.cell? ⟨w.heap.size + 1, 1, none⟩ = some (.slice a2 xs2.length ca2) ∧ V.cell? ⟨w.heap.size + 1, 2, none⟩ = some (.slice b2 ys2.length cb2) ∧ V.cell? ⟨w.heap.size + 1, 3, none⟩ = some (.bool m2) ∧ V.cell? ⟨w.heap.size + 1, 4, none⟩ = some (.slice c2 us2.length cc2) ∧ V.cell? ⟨w.heap.size + 1, 5, none⟩ = some (.slice d2 vs2.length cd2)) (first | exact hs3 | exact hs2 | exact hs1 | exact hs0 | exact HK.out _ _ (j3.out.alloc _) | exact HK.out _ _ (j3.out.put3 HGB.out _ (by omega) _ _ _) | exact HK.out _ _ (j2.out.alloc _) | exact HK.out _ _ (j1.out.alloc _) | exact HK.out _ _ (HD0.out.alloc _) | exact HK.out _ _ (HD0.out.alloc _).drew | exact HK.out _ _ (HD.out.alloc _))
      (first
        | (go_at_call 48; (with_reducible refine Calls.mono (H2.out _ e1 (by first | exact j1.out | exact j1.out.alloc _)) ?_); rintro x w2 ⟨n2', a2', k2', x2', b2', l2', y2', e2, rfl, t2, j2, r2, rv2, g2, cut2, z2⟩; have hs2 := HK.out _ _ j2.out)
        | (go_at_call 48; (with_reducible refine Calls.mono (H1.out _ E (by first | exact HD.out | exact (HD0.out.alloc _).drew | exact HD.out.alloc _)) ?_); rintro x w1 ⟨n1', a1', k1', x1', b1', l1', y1', e1, rfl, t1, j1, r1, rv1, g1, cut1, z1⟩; have hs1 := HK.out _ _ j1.out)
        | (go_at_call 28; (with_reducible refine Calls.mono (H3.out _ e2 n1' a1' k1' x1' b1' l1' y1' n2' a2' k2' x2' b2' l2' y2' (by first | exact j2.out | exact j2.out.alloc _) (by first | exact (r1.out.step hpX g2.out).sl t1.out.wx t1.out.wy | exact (r1.out.step hpX (grow_trans (World.grownBy_alloc _ _ _) g2.out)).sl t1.out.wx t1.out.wy | exact (r1.out.step hpX (grow_trans g2.out (World.grownBy_alloc _ _ _))).sl t1.out.wx t1.out.wy) (by first | exact r2.out.sl t2.out.wx t2.out.wy | exact (r2.out.step hpX (World.grownBy_alloc _ _ _)).sl t2.out.wx t2.out.wy)) ?_); rintro x w3 ⟨n3, a3, k3, x3, b3, l3, y3, e3, rfl, t3, j3, r3, rv3, g3, cut3, z3⟩; have hs3 := HK.out _ _ j3.out; (first | (have HQ2 : Hid (Box w2 X.heap.size 24 #[.bool false, .slice none 0 0, .slice none 0 0]) := hid (((show Box ((X.alloc (.cells #[.bool false, .slice none 0 0, .slice none 0 0] 24)).drew) X.heap.size 24 #[.bool false, .slice none 0 0, .slice none 0 0] from Box.made X 24 #[.bool false, .slice none 0 0, .slice none 0 0]).kept' g1.out (some_ne hpX)).kept' g2.out (some_ne hpX)); have HQ := hid (HQ2.out.kept' g3.out (some_ne hpX)); obtain ⟨q0, q1, q2, f0, f1, f2⟩ := box3f HQ.out) | (have HQ2 : Hid (Box w2 w1.heap.size 24 #[.bool false, .slice none 0 0, .slice none 0 0]) := hid ((Box.made w1 24 #[.bool false, .slice none 0 0, .slice none 0 0]).kept' g2.out (some_ne (Nat.lt_of_lt_of_le hpX z1))); have HQ := hid (HQ2.out.kept' g3.out (some_ne (Nat.lt_of_lt_of_le hpX z1))); obtain ⟨q0, q1, q2, f0, f1, f2⟩ := box3f HQ.out) | (have HQ2 : Hid (Box (w2.alloc (.cells #[.bool false, .slice none 0 0, .slice none 0 0] 24)) w2.heap.size 24 #[.bool false, .slice none 0 0, .slice none 0 0]) := hid (Box.made w2 24 #[.bool false, .slice none 0 0, .slice none 0 0]); have HQ := hid (HQ2.out.kept' g3.out (some_ne (Nat.lt_of_lt_of_le hpX z2))); obtain ⟨q0, q1, q2, f0, f1, f2⟩ := box3f HQ.out) | skip)))
    all_goals
      clear hs0 hs1 hs2 hs3 H1 H2 H3 HK
      go_wp2_with fail
      go_meet
    all_goals first | with_reducible exact hid (gcut_put HGB.out t1.out t2.out t3.out j3.out rv3.out cut3.out HQ.out HQ2.out.lt (by omega)) | with_reducible exact hid (gcut_new HGB.out t1.out t2.out t3.out j3.out rv3.out cut3.out z2)
  case rest =>
    obtain ⟨g7, n3, a3, k3, x3, b3, l3, y3, c3, rfl, hg7, T3, I3, R3, C3, G3'⟩ := hcut.out
    have HT3 := hid T3; have HI3 := hid I3; have HR3 := hid R3; have HC3 := hid C3; have HG3 := hid G3'
    clear T3 I3 R3 C3 G3' hcut HK H1 H2 H3 HGB HD HD0 hs0 hwX hpX
    have HK : Hid (∀ V EE, GJ w wc p EE ((g7, 24, #[.bool n3, .slice a3 x3.length k3, .slice b3 y3.length l3]) :: (w.heap.size, 26, #[.bool n, .slice a xs.length ca, .slice b ys.length cb, .bool m, .slice c us.length cc, .slice d vs.length cd]) :: (w.heap.size + 1, 26, #[.bool n2, .slice a2 xs2.length ca2, .slice b2 ys2.length cb2, .bool m2, .slice c2 us2.length cc2, .slice d2 vs2.length cd2]) :: (w.heap.size + 1 + 1, 26, #[.bool false, .slice none 0 0, .slice none 0 0, .bool false, .slice none 0 0, .slice none 0 0]) :: []) V → V.cell? ⟨w.heap.size, 0, none⟩ = some (.bool n) ∧ V.cell? ⟨w.heap.size, 1, none⟩ = some (.slice a xs.length ca) ∧ V.cell? ⟨w.heap.size, 2, none⟩ = some (.slice b ys.length cb) ∧ V.cell? ⟨w.heap.size, 3, none⟩ = some (.bool m) ∧ V.cell? ⟨w.heap.size, 4, none⟩ = some (.slice c us.length cc) ∧ V.cell? ⟨w.heap.size, 5, none⟩ = some (.slice d vs.length cd) ∧ V.cell? ⟨w.heap.size + 1, 0, none⟩ = some (.bool n2) ∧ V.cell? ⟨w.heap.size + 1, 1, none⟩ = some (.slice a2 xs2.length ca2) ∧ V.cell? ⟨w.heap.size + 1, 2, none⟩ = some (.slice b2 ys2.length cb2) ∧ V.cell? ⟨w.heap.size + 1, 3, none⟩ = some (.bool m2) ∧ V.cell? ⟨w.heap.size + 1, 4, none⟩ = some (.slice c2 us2.length cc2) ∧ V.cell? ⟨w.heap.size + 1, 5, none⟩ = some (.slice d2 vs2.length cd2)) := hid (fun V EE hv => by
      obtain ⟨g0, g1, g2, g3, g4, g5⟩ := cells6 (hv.inv.box _ (List.mem_cons_of_mem _ (List.mem_cons_self ..))).1
      obtain ⟨i0, i1, i2, i3, i4, i5⟩ := cells6 (hv.inv.box _ (List.mem_cons_of_mem _ (List.mem_cons_of_mem _ (List.mem_cons_self ..)))).1
      exact ⟨g0, g1, g2, g3, g4, g5, i0, i1, i2, i3, i4, i5⟩)
    have H1 : Hid (∀ V EE, GJ w wc p EE ((g7, 24, #[.bool n3, .slice a3 x3.length k3, .slice b3 y3.length l3]) :: (w.heap.size, 26, #[.bool n, .slice a xs.length ca, .slice b ys.length cb, .bool m, .slice c us.length cc, .slice d vs.length cd]) :: (w.heap.size + 1, 26, #[.bool n2, .slice a2 xs2.length ca2, .slice b2 ys2.length cb2, .bool m2, .slice c2 us2.length cc2, .slice d2 vs2.length cd2]) :: (w.heap.size + 1 + 1, 26, #[.bool false, .slice none 0 0, .slice none 0 0, .bool false, .slice none 0 0, .slice none 0 0]) :: []) V → Calls Tryz.prog 48 #[.pointer (some ⟨p, 0, none⟩), .agg #[.bool n, .slice a xs.length ca, .slice b ys.length cb], .agg #[.bool m2, .slice c2 us2.length cc2, .slice d2 vs2.length cd2]] V (GStp w wc p ((g7, 24, #[.bool n3, .slice a3 x3.length k3, .slice b3 y3.length l3]) :: (w.heap.size, 26, #[.bool n, .slice a xs.length ca, .slice b ys.length cb, .bool m, .slice c us.length cc, .slice d vs.length cd]) :: (w.heap.size + 1, 26, #[.bool n2, .slice a2 xs2.length ca2, .slice b2 ys2.length cb2, .bool m2, .slice c2 us2.length cc2, .slice d2 vs2.length cd2]) :: (w.heap.size + 1 + 1, 26, #[.bool false, .slice none 0 0, .slice none 0 0, .bool false, .slice none 0 0, .slice none 0 0]) :: []) V (fstE EE (rboth n xs ys m2 us2 vs2)) (rq n xs ys * rq m2 us2 vs2))) := hid (fun V EE hv => by
      have h := HSS.out V hv.inv.grown
      exact gstp hv (gproduct_any p EE n a ca xs b cb ys m2 c2 cc2 us2 d2 cd2 vs2 V hv.inv.err h.1 h.2.1 h.2.2.2.2.2.2.1 h.2.2.2.2.2.2.2))
    have H2 : Hid (∀ V EE, GJ w wc p EE ((g7, 24, #[.bool n3, .slice a3 x3.length k3, .slice b3 y3.length l3]) :: (w.heap.size, 26, #[.bool n, .slice a xs.length ca, .slice b ys.length cb, .bool m, .slice c us.length cc, .slice d vs.length cd]) :: (w.heap.size + 1, 26, #[.bool n2, .slice a2 xs2.length ca2, .slice b2 ys2.length cb2, .bool m2, .slice c2 us2.length cc2, .slice d2 vs2.length cd2]) :: (w.heap.size + 1 + 1, 26, #[.bool false, .slice none 0 0, .slice none 0 0, .bool false, .slice none 0 0, .slice none 0 0]) :: []) V → Calls Tryz.prog 48 #[.pointer (some ⟨p, 0, none⟩), .agg #[.bool m, .slice c us.length cc, .slice d vs.length cd], .agg #[.bool n2, .slice a2 xs2.length ca2, .slice b2 ys2.length cb2]] V (GStp w wc p ((g7, 24, #[.bool n3, .slice a3 x3.length k3, .slice b3 y3.length l3]) :: (w.heap.size, 26, #[.bool n, .slice a xs.length ca, .slice b ys.length cb, .bool m, .slice c us.length cc, .slice d vs.length cd]) :: (w.heap.size + 1, 26, #[.bool n2, .slice a2 xs2.length ca2, .slice b2 ys2.length cb2, .bool m2, .slice c2 us2.length cc2, .slice d2 vs2.length cd2]) :: (w.heap.size + 1 + 1, 26, #[.bool false, .slice none 0 0, .slice none 0 0, .bool false, .slice none 0 0, .slice none 0 0]) :: []) V (fstE EE (rboth m us vs n2 xs2 ys2)) (rq m us vs * rq n2 xs2 ys2))) := hid (fun V EE hv => by
      have h := HSS.out V hv.inv.grown
      exact gstp hv (gproduct_any p EE m c cc us d cd vs n2 a2 ca2 xs2 b2 cb2 ys2 V hv.inv.err h.2.2.1 h.2.2.2.1 h.2.2.2.2.1 h.2.2.2.2.2.1))
    have H3 : Hid (∀ (V : World) (EE : Int) (n1' : Bool) (a1' : Option Addr) (k1' : Nat) (x1' : List Int) (b1' : Option Addr) (l1' : Nat) (y1' : List Int) (n2' : Bool) (a2' : Option Addr) (k2' : Nat) (x2' : List Int) (b2' : Option Addr) (l2' : Nat) (y2' : List Int), GJ w wc p EE ((g7, 24, #[.bool n3, .slice a3 x3.length k3, .slice b3 y3.length l3]) :: (w.heap.size, 26, #[.bool n, .slice a xs.length ca, .slice b ys.length cb, .bool m, .slice c us.length cc, .slice d vs.length cd]) :: (w.heap.size + 1, 26, #[.bool n2, .slice a2 xs2.length ca2, .slice b2 ys2.length cb2, .bool m2, .slice c2 us2.length cc2, .slice d2 vs2.length cd2]) :: (w.heap.size + 1 + 1, 26, #[.bool false, .slice none 0 0, .slice none 0 0, .bool false, .slice none 0 0, .slice none 0 0]) :: []) V → Sl V (.slice a1' x1'.length k1') x1' ∧ Sl V (.slice b1' y1'.length l1') y1' → Sl V (.slice a2' x2'.length k2') x2' ∧ Sl V (.slice b2' y2'.length l2') y2' → Calls Tryz.prog 44 #[.pointer (some ⟨p, 0, none⟩), .agg #[.bool n1', .slice a1' x1'.length k1', .slice b1' y1'.length l1'], .agg #[.bool n2', .slice a2' x2'.length k2', .slice b2' y2'.length l2']] V (GStp w wc p ((g7, 24, #[.bool n3, .slice a3 x3.length k3, .slice b3 y3.length l3]) :: (w.heap.size, 26, #[.bool n, .slice a xs.length ca, .slice b ys.length cb, .bool m, .slice c us.length cc, .slice d vs.length cd]) :: (w.heap.size + 1, 26, #[.bool n2, .slice a2 xs2.length ca2, .slice b2 ys2.length cb2, .bool m2, .slice c2 us2.length cc2, .slice d2 vs2.length cd2]) :: (w.heap.size + 1 + 1, 26, #[.bool false, .slice none 0 0, .slice none 0 0, .bool false, .slice none 0 0, .slice none 0 0]) :: []) V (fstE EE (rboth n1' x1' y1' n2' x2' y2')) (rq n1' x1' y1' + rq n2' x2' y2'))) := hid (fun V EE n1' a1' k1' x1' b1' l1' y1' n2' a2' k2' x2' b2' l2' y2' hv h1 h2 => gstp hv (gsum_any p EE n1' a1' k1' x1' b1' l1' y1' n2' a2' k2' x2' b2' l2' y2' V hv.inv.err h1.1 h1.2 h2.1 h2.2))
    have HGB := hid (GInv.base HI3.out HPW.out)
    have HD := hid (GJ.first HI3.out)
    have HD0 := hid (GJ.start HI3.out)
    have hs0 := HK.out _ _ HD.out
    have hwX : w.heap.size ≤ wc.heap.size := HGB.out.hw
    have hpX : p < wc.heap.size := Nat.lt_of_lt_of_le HPW.out hwX
    go_upto_region 2 with fail
    go_cut [8] from 23 (fun s wx => Hid (GCut w wc p ((g7, 24, #[.bool n3, .slice a3 x3.length k3, .slice b3 y3.length l3]) :: (w.heap.size, 26, #[.bool n, .slice a xs.length ca, .slice b ys.length cb, .bool m, .slice c us.length cc, .slice d vs.length cd]) :: (w.heap.size + 1, 26, #[.bool n2, .slice a2 xs2.length ca2, .slice b2 ys2.length cb2, .bool m2, .slice c2 us2.length cc2, .slice d2 vs2.length cd2]) :: (w.heap.size + 1 + 1, 26, #[.bool false, .slice none 0 0, .slice none 0 0, .bool false, .slice none 0 0, .slice none 0 0]) :: []) (· + ·) c3 (rboth n xs ys m2 us2 vs2) (rboth m us vs n2 xs2 ys2) (rq n xs ys * rq m2 us2 vs2) (rq m us vs * rq n2 xs2 ys2) s wx))
    case first =>
      go_region_held3 (fun V : World => V.cell? ⟨w.heap.size, 0, none⟩ = some (.bool n) ∧ V.cell? ⟨w.heap.size, 1, none⟩ = some (.slice a xs.length ca) ∧ V.cell? ⟨w.heap.size, 2, none⟩ = some (.slice b ys.length cb) ∧ V.cell? ⟨w.heap.size, 3, none⟩ = some (.bool m) ∧ V.cell? ⟨w.heap.size, 4, none⟩ = some (.slice c us.length cc) ∧ V.cell? ⟨w.heap.size, 5, none⟩ = some (.slice d vs.length cd) ∧ V.cell? ⟨w.heap.size + 1, 0, none⟩ = some (.bool n2) ∧ V.cell? ⟨w.heap.size + 1, 1, none⟩ = some (.slice a2 xs2.length ca2) ∧ V.cell? ⟨w.heap.size + 1, 2, none⟩ = some (.slice b2 ys2.length cb2) ∧ V.cell? ⟨w.heap.size + 1, 3, none⟩ = some (.bool m2) ∧ V.cell? ⟨w.heap.size + 1, 4, none⟩ = some (.slice c2 us2.length cc2) ∧ V.cell? ⟨w.heap.size + 1, 5, none⟩ = some (.slice d2 vs2.length cd2)) (first | exact hs3 | exact hs2 | exact hs1 | exact hs0 | exact HK.out _ _ (j3.out.alloc _) | exact HK.out _ _ (j3.out.put3 HGB.out _ (by omega) _ _ _) | exact HK.out _ _ (j2.out.alloc _) | exact HK.out _ _ (j1.out.alloc _) | exact HK.out _ _ (HD0.out.alloc _) | exact HK.out _ _ (HD0.out.alloc _).drew | exact HK.out _ _ (HD.out.alloc _))
        (first
          | (go_at_call 48; (with_reducible refine Calls.mono (H2.out _ e1 (by first | exact j1.out | exact j1.out.alloc _)) ?_); rintro x w2 ⟨n2', a2', k2', x2', b2', l2', y2', e2, rfl, t2, j2, r2, rv2, g2, cut2, z2⟩; have hs2 := HK.out _ _ j2.out)
          | (go_at_call 48; (with_reducible refine Calls.mono (H1.out _ c3 (by first | exact HD.out | exact (HD0.out.alloc _).drew | exact HD.out.alloc _)) ?_); rintro x w1 ⟨n1', a1', k1', x1', b1', l1', y1', e1, rfl, t1, j1, r1, rv1, g1, cut1, z1⟩; have hs1 := HK.out _ _ j1.out)
          | (go_at_call 44; (with_reducible refine Calls.mono (H3.out _ e2 n1' a1' k1' x1' b1' l1' y1' n2' a2' k2' x2' b2' l2' y2' (by first | exact j2.out | exact j2.out.alloc _) (by first | exact (r1.out.step hpX g2.out).sl t1.out.wx t1.out.wy | exact (r1.out.step hpX (grow_trans (World.grownBy_alloc _ _ _) g2.out)).sl t1.out.wx t1.out.wy | exact (r1.out.step hpX (grow_trans g2.out (World.grownBy_alloc _ _ _))).sl t1.out.wx t1.out.wy) (by first | exact r2.out.sl t2.out.wx t2.out.wy | exact (r2.out.step hpX (World.grownBy_alloc _ _ _)).sl t2.out.wx t2.out.wy)) ?_); rintro x w3 ⟨n3, a3, k3, x3, b3, l3, y3, e3, rfl, t3, j3, r3, rv3, g3, cut3, z3⟩; have hs3 := HK.out _ _ j3.out; (first | (have HQ2 : Hid (Box w2 wc.heap.size 24 #[.bool false, .slice none 0 0, .slice none 0 0]) := hid (((show Box ((wc.alloc (.cells #[.bool false, .slice none 0 0, .slice none 0 0] 24)).drew) wc.heap.size 24 #[.bool false, .slice none 0 0, .slice none 0 0] from Box.made wc 24 #[.bool false, .slice none 0 0, .slice none 0 0]).kept' g1.out (some_ne hpX)).kept' g2.out (some_ne hpX)); have HQ := hid (HQ2.out.kept' g3.out (some_ne hpX)); obtain ⟨q0, q1, q2, f0, f1, f2⟩ := box3f HQ.out) | (have HQ2 : Hid (Box w2 w1.heap.size 24 #[.bool false, .slice none 0 0, .slice none 0 0]) := hid ((Box.made w1 24 #[.bool false, .slice none 0 0, .slice none 0 0]).kept' g2.out (some_ne (Nat.lt_of_lt_of_le hpX z1))); have HQ := hid (HQ2.out.kept' g3.out (some_ne (Nat.lt_of_lt_of_le hpX z1))); obtain ⟨q0, q1, q2, f0, f1, f2⟩ := box3f HQ.out) | (have HQ2 : Hid (Box (w2.alloc (.cells #[.bool false, .slice none 0 0, .slice none 0 0] 24)) w2.heap.size 24 #[.bool false, .slice none 0 0, .slice none 0 0]) := hid (Box.made w2 24 #[.bool false, .slice none 0 0, .slice none 0 0]); have HQ := hid (HQ2.out.kept' g3.out (some_ne (Nat.lt_of_lt_of_le hpX z2))); obtain ⟨q0, q1, q2, f0, f1, f2⟩ := box3f HQ.out) | skip)))
      all_goals
        clear hs0 hs1 hs2 hs3 H1 H2 H3 HK
        go_wp2_with fail
        go_meet
      all_goals first | with_reducible exact hid (gcut_put HGB.out t1.out t2.out t3.out j3.out rv3.out cut3.out HQ.out HQ2.out.lt (by omega)) | with_reducible exact hid (gcut_new HGB.out t1.out t2.out t3.out j3.out rv3.out cut3.out z2)
    case rest =>
      obtain ⟨g8, n6, a6, k6, x6, b6, l6, y6, c6, rfl, hg8, T6, I6, R6, C6, G6⟩ := hcut.out
      have hX3 : w.heap.size + 1 + 1 < X.heap.size := (HI.out.box _ (List.mem_cons_of_mem _ (List.mem_cons_of_mem _ (List.mem_cons_self ..)))).1.lt
      have hwc := HG3.out.size
      have HRR := hid (HR3.out.step (show p < X.heap.size by omega) G6)
      have HR6 := hid R6
      have HI6 := hid I6
      have HT6 := hid T6
      have HC6 := hid C6
      have HBR := hid (I6.box _ (List.mem_cons_of_mem _ (List.mem_cons_of_mem _ (List.mem_cons_of_mem _ (List.mem_cons_of_mem _ (List.mem_cons_self ..)))))).1
      obtain ⟨s0, s1, s2, _, _, _⟩ := box3f (I6.box _ (List.mem_cons_of_mem _ (List.mem_cons_self ..))).1
      obtain ⟨t0, t1, t2, _, _, _⟩ := box3f (I6.box _ (List.mem_cons_self ..)).1
      obtain ⟨m0, m1, m2', m3, m4, m5⟩ := cells6 HBR.out
      have f0 := HBR.out.free 0
      have f1 := HBR.out.free 1
      have f2 := HBR.out.free 2
      have f3 := HBR.out.free 3
      have f4 := HBR.out.free 4
      have f5 := HBR.out.free 5
      have hg6 := G6.size
      clear T6 I6 R6 C6 G6 hcut HK H1 H2 H3 HGB HD HD0 hs0 hwX hpX hX HSS
      go_wp2_with fail
      have B1 := box_put6 HBR.out (.bool n3) (.slice a3 x3.length k3) (.slice b3 y3.length l3) (.bool n6) (.slice a6 x6.length k6) (.slice b6 y6.length l6)
      have hne : p ≠ w.heap.size + 1 + 1 := by omega
      have P1 := gbox_far6 HI6.out.err hne (.bool n3) (.slice a3 x3.length k3) (.slice b3 y3.length l3) (.bool n6) (.slice a6 x6.length k6) (.slice b6 y6.length l6)
      have V3 := own_put6 HRR.out.ov (w.heap.size + 1 + 1) (fun g hg => by have := (HRR.out.ov.lt g hg).1; omega) (.bool n3) (.slice a3 x3.length k3) (.slice b3 y3.length l3) (.bool n6) (.slice a6 x6.length k6) (.slice b6 y6.length l6)
      have U3 := own_put6 HRR.out.ou (w.heap.size + 1 + 1) (fun g hg => by have := (HRR.out.ou.lt g hg).1; omega) (.bool n3) (.slice a3 x3.length k3) (.slice b3 y3.length l3) (.bool n6) (.slice a6 x6.length k6) (.slice b6 y6.length l6)
      have V6 := own_put6 HR6.out.ov (w.heap.size + 1 + 1) (fun g hg => by have := (HR6.out.ov.lt g hg).1; omega) (.bool n3) (.slice a3 x3.length k3) (.slice b3 y3.length l3) (.bool n6) (.slice a6 x6.length k6) (.slice b6 y6.length l6)
      have U6 := own_put6 HR6.out.ou (w.heap.size + 1 + 1) (fun g hg => by have := (HR6.out.ou.lt g hg).1; omega) (.bool n3) (.slice a3 x3.length k3) (.slice b3 y3.length l3) (.bool n6) (.slice a6 x6.length k6) (.slice b6 y6.length l6)
      have G1 := grow_put6 HI6.out.grown (w.heap.size + 1 + 1) (.bool n3) (.slice a3 x3.length k3) (.slice b3 y3.length l3) (.bool n6) (.slice a6 x6.length k6) (.slice b6 y6.length l6) (.inl (by omega))
      have hwX : w.heap.size ≤ X.heap.size := by omega
      refine bodyPost_ret (results_cell_row (by rfl) _ _ (w.heap.size + 1 + 1) 26 _ (0, 0) _ (by rfl) B1 Tryz.underlying26 rfl (by kernel_rfl)) rfl ?_
      exact ⟨n3, a3, k3, x3, b3, l3, y3, c3, n6, a6, k6, x6, b6, l6, y6, c6, rfl, ⟨⟨owns_base V3 hwX, owns_base U3 hwX⟩, ⟨owns_base V6 (by omega), owns_base U6 (by omega)⟩⟩, HT3.out, HT6.out, P1, G1, _, HC3.out.up hwX (Nat.le_refl _), HC6.out.up (Nat.le_refl _) (by simp [World.setCell])⟩
end Go.Proofs.YtalapdhdlboknaaGreatDoor

/- Complex fractions: gauss.Mul: of any two, good or refused. -/
namespace Go.Proofs.YtalapdhdlboknaaGreatDoor
open Go.RowKit
set_option linter.unusedVariables false

/-- What some steps tell, E what was refused ahead, L whether something on the way is too long. -/
structure GT3 (E : Int) (L : Prop) (q : Rat) (n : Bool) (xs ys : List Int) (code : Int) : Prop where
  wx : Wd xs
  wy : Wd ys
  bad : E ≠ 0 → n = false ∧ xs = [] ∧ ys = [] ∧ code = E
  long : E = 0 → L → n = false ∧ xs = [] ∧ ys = [] ∧ code = 3
  good : E = 0 → ¬ L → code = 0 ∧ rchk n xs ys = 0 ∧ rq n xs ys = q
theorem GT3.ok {E : Int} {L : Prop} {q : Rat} {n : Bool} {xs ys : List Int} (h : GT3 E L q n xs ys 0) : E = 0 ∧ ¬ L := by
  by_cases hE : E = 0
  · refine ⟨hE, fun hl => ?_⟩
    have e := (h.long hE hl).2.2.2
    exact absurd e (by decide)
  · exact absurd (h.bad hE).2.2.2.symm hE
theorem GT3.of {E e : Int} {q : Rat} {n : Bool} {xs ys : List Int} {c : Int} (h : RTells (fstE E e) q n xs ys c) (z : E = 0 → e = 0) : GT3 E (rlong q) q n xs ys c := by
  by_cases hE : E = 0
  · subst hE
    rw [fstE_zero, z rfl] at h
    exact ⟨h.wx, h.wy, fun h' => absurd rfl h', fun _ => h.long rfl, fun _ => h.good rfl⟩
  · rw [fstE_err _ hE] at h
    exact ⟨h.wx, h.wy, fun _ => h.bad hE, fun h' => absurd h' hE, fun h' => absurd h' hE⟩
theorem GT3.then {E c1 : Int} {L1 L2 : Prop} {q1 q2 : Rat} {n1 n2 : Bool} {x1 y1 x2 y2 : List Int} {c2 : Int} (h1 : GT3 E L1 q1 n1 x1 y1 c1) (h2 : GT3 c1 L2 q2 n2 x2 y2 c2) : GT3 E (L1 ∨ L2) q2 n2 x2 y2 c2 := by
  refine ⟨h2.wx, h2.wy, fun hE => ?_, fun hE hl => ?_, fun hE hl => ?_⟩
  · have e := (h1.bad hE).2.2.2
    subst e
    exact h2.bad hE
  · by_cases l1 : L1
    · have e := (h1.long hE l1).2.2.2
      subst e
      exact h2.bad (by decide)
    · have e := (h1.good hE l1).1
      subst e
      exact h2.long rfl (hl.resolve_left l1)
  · have e := (h1.good hE (fun h => hl (.inl h))).1
    subst e
    exact h2.good rfl (fun h => hl (.inr h))
/-- Three steps of which the third joins the two ahead of it. -/
theorem g3_tells {op : Rat → Rat → Rat} {E e1 e2 : Int} {q1 q2 : Rat} {n : Bool} {x y : List Int} {c : Int} (h : G3 op E e1 e2 q1 q2 n x y c) (z1 : E = 0 → e1 = 0) (z2 : E = 0 → e2 = 0) : GT3 E ((rlong q1 ∨ rlong q2) ∨ rlong (op q1 q2)) (op q1 q2) n x y c := by
  obtain ⟨n1, x1, y1, c1, n2, x2, y2, c2, t1, t2, t3⟩ := h
  have h1 := GT3.of t1 z1
  have h2 : GT3 c1 (rlong q2) q2 n2 x2 y2 c2 := GT3.of t2 (fun h => by subst h; exact z2 h1.ok.1)
  have h12 := h1.then h2
  by_cases hc : c2 = 0
  · subst hc
    obtain ⟨hE, hl⟩ := h12.ok
    have g2 := h12.good hE hl
    have g1 := h1.good hE (fun h => hl (.inl h))
    rw [rboth0 g1.2.1 g2.2.1, fstE_zero, g1.2.2, g2.2.2] at t3
    exact h12.then ⟨t3.wx, t3.wy, fun h' => absurd rfl h', fun _ => t3.long rfl, fun _ => t3.good rfl⟩
  · rw [fstE_err _ hc] at t3
    exact h12.then ⟨t3.wx, t3.wy, fun _ => t3.bad hc, fun h' => absurd h' hc, fun h' => absurd h' hc⟩
/-- Two answers one behind the other, and what is told of them. -/
theorem gtwo' {E : Int} {L1 L2 : Prop} {q1 q2 : Rat} {n m : Bool} {xs ys us vs : List Int} {c1 c2 : Int} (h1 : GT3 E L1 q1 n xs ys c1) (h2 : GT3 c1 L2 q2 m us vs c2) :
    (c2 = 0 → GTells E (L1 ∨ L2) q1 q2 n xs ys m us vs c2) ∧ (c2 ≠ 0 → GTells E (L1 ∨ L2) q1 q2 false [] [] false [] [] c2) := by
  have w4 : Wd [] := Wd.nil
  have h12 := h1.then h2
  refine ⟨fun hc => ?_, fun hc => ?_⟩
  · subst hc
    obtain ⟨hE, hl⟩ := h12.ok
    have g2 := h12.good hE hl
    have g1 := h1.good hE (fun h => hl (.inl h))
    exact ⟨⟨h1.wx, h1.wy, h2.wx, h2.wy⟩, fun h => absurd hE h, fun _ h => absurd h hl, fun _ _ => ⟨rfl, g1.2, g2.2⟩⟩
  · refine ⟨⟨w4, w4, w4, w4⟩, fun hE => ⟨⟨rfl, rfl, rfl, rfl, rfl, rfl⟩, (h12.bad hE).2.2.2⟩, fun hE hl => ⟨⟨rfl, rfl, rfl, rfl, rfl, rfl⟩, (h12.long hE hl).2.2.2⟩, fun hE hl => absurd (h12.good hE hl).1 hc⟩

/-- Whether something on the way of a product is too long. -/
def mlong (q1 q2 r1 r2 : Rat) : Prop := ((rlong (q1 * r1) ∨ rlong (q2 * r2)) ∨ rlong (q1 * r1 - q2 * r2)) ∨ ((rlong (q1 * r2) ∨ rlong (q2 * r1)) ∨ rlong (q1 * r2 + q2 * r1))
set_option maxHeartbeats 3200000 in
set_option maxRecDepth 100000 in
theorem gMul_full (n : Bool) (a : Option Addr) (ca : Nat) (xs : List Int) (b : Option Addr) (cb : Nat) (ys : List Int) (m : Bool) (c : Option Addr) (cc : Nat) (us : List Int) (d : Option Addr) (cd : Nat) (vs : List Int) (n2 : Bool) (a2 : Option Addr) (ca2 : Nat) (xs2 : List Int) (b2' : Option Addr) (cb2 : Nat) (ys2 : List Int) (m2 : Bool) (c2 : Option Addr) (cc2 : Nat) (us2 : List Int) (d2 : Option Addr) (cd2 : Nat) (vs2 : List Int) (w : World) (sx : Sl w (.slice a xs.length ca) xs) (sy : Sl w (.slice b ys.length cb) ys) (su : Sl w (.slice c us.length cc) us) (sv : Sl w (.slice d vs.length cd) vs) (sx2 : Sl w (.slice a2 xs2.length ca2) xs2) (sy2 : Sl w (.slice b2' ys2.length cb2) ys2) (su2 : Sl w (.slice c2 us2.length cc2) us2) (sv2 : Sl w (.slice d2 vs2.length cd2) vs2) :
    Calls Tryz.prog 19 #[.agg #[.bool n, .slice a xs.length ca, .slice b ys.length cb, .bool m, .slice c us.length cc, .slice d vs.length cd], .agg #[.bool n2, .slice a2 xs2.length ca2, .slice b2' ys2.length cb2, .bool m2, .slice c2 us2.length cc2, .slice d2 vs2.length cd2]] w (GTold w (fstE (gchk n xs ys m us vs) (gchk n2 xs2 ys2 m2 us2 vs2)) (mlong (rq n xs ys) (rq m us vs) (rq n2 xs2 ys2) (rq m2 us2 vs2)) (rq n xs ys * rq n2 xs2 ys2 - rq m us vs * rq m2 us2 vs2) (rq n xs ys * rq m2 us2 vs2 + rq m us vs * rq n2 xs2 ys2)) := by
  have HX := hid (boxes3r w 26 #[.bool n, .slice a xs.length ca, .slice b ys.length cb, .bool m, .slice c us.length cc, .slice d vs.length cd] #[.bool n2, .slice a2 xs2.length ca2, .slice b2' ys2.length cb2, .bool m2, .slice c2 us2.length cc2, .slice d2 vs2.length cd2] #[.bool false, .slice none 0 0, .slice none 0 0, .bool false, .slice none 0 0, .slice none 0 0])
  obtain ⟨X, hX⟩ : ∃ X, ((w.alloc (.cells #[.bool n, .slice a xs.length ca, .slice b ys.length cb, .bool m, .slice c us.length cc, .slice d vs.length cd] 26)).alloc (.cells #[.bool n2, .slice a2 xs2.length ca2, .slice b2' ys2.length cb2, .bool m2, .slice c2 us2.length cc2, .slice d2 vs2.length cd2] 26)).alloc (.cells #[.bool false, .slice none 0 0, .slice none 0 0, .bool false, .slice none 0 0, .slice none 0 0] 26) = X := ⟨_, rfl⟩
  rw [hX] at HX
  have HY := hid (Box.made X 26 #[.bool n, .slice a xs.length ca, .slice b ys.length cb, .bool m, .slice c us.length cc, .slice d vs.length cd, .bool n2, .slice a2 xs2.length ca2, .slice b2' ys2.length cb2, .bool m2, .slice c2 us2.length cc2, .slice d2 vs2.length cd2])
  have HYB := hid (alloc_later X (.cells #[.bool n, .slice a xs.length ca, .slice b ys.length cb, .bool m, .slice c us.length cc, .slice d vs.length cd, .bool n2, .slice a2 xs2.length ca2, .slice b2' ys2.length cb2, .bool m2, .slice c2 us2.length cc2, .slice d2 vs2.length cd2] 26))
  obtain ⟨Y, hY⟩ : ∃ Y, X.alloc (.cells #[.bool n, .slice a xs.length ca, .slice b ys.length cb, .bool m, .slice c us.length cc, .slice d vs.length cd, .bool n2, .slice a2 xs2.length ca2, .slice b2' ys2.length cb2, .bool m2, .slice c2 us2.length cc2, .slice d2 vs2.length cd2] 26) = Y := ⟨_, rfl⟩
  rw [hY] at HY HYB
  have HWY := hid (bt HX.out.2.2.2 HYB.out)
  have HL := hid (glookAt2_any X.heap.size n a ca xs b cb ys m c cc us d cd vs n2 a2 ca2 xs2 b2' cb2 ys2 m2 c2 cc2 us2 d2 cd2 vs2 Y HY.out (sx.later HWY.out) (sy.later HWY.out) (su.later HWY.out) (sv.later HWY.out) (sx2.later HWY.out) (sy2.later HWY.out) (su2.later HWY.out) (sv2.later HWY.out))
  have H1 : Hid (∀ V p E, Below w.heap.size w V → w.heap.size ≤ p → Box V p 53 #[.int .i64 E] → Calls Tryz.prog 32 #[.pointer (some ⟨p, 0, none⟩), .agg #[.bool n, .slice a xs.length ca, .slice b ys.length cb, .bool m, .slice c us.length cc, .slice d vs.length cd], .agg #[.bool n2, .slice a2 xs2.length ca2, .slice b2' ys2.length cb2, .bool m2, .slice c2 us2.length cc2, .slice d2 vs2.length cd2]] V _) := hid (fun V p E hv hp hb => gtimes_any p E n a ca xs b cb ys m c cc us d cd vs n2 a2 ca2 xs2 b2' cb2 ys2 m2 c2 cc2 us2 d2 cd2 vs2 V hb (fun U hU => by
    have hw : Below w.heap.size w U := hv.grown hU hv.size (fun q hq => by have e := Option.some.inj hq; omega)
    exact ⟨sx.later hw, sy.later hw, su.later hw, sv.later hw, sx2.later hw, sy2.later hw, su2.later hw, sv2.later hw⟩))
  have HZ1 : Hid (fstE (gchk n xs ys m us vs) (gchk n2 xs2 ys2 m2 us2 vs2) = 0 → (rboth n xs ys n2 xs2 ys2 = 0 ∧ rboth m us vs m2 us2 vs2 = 0) ∧ rboth n xs ys m2 us2 vs2 = 0 ∧ rboth m us vs n2 xs2 ys2 = 0) := fun h => by
    obtain ⟨h1, h2⟩ := fstE_ok h
    exact ⟨⟨rboth0 (gchk_ok h1).1 (gchk_ok h2).1, rboth0 (gchk_ok h1).2 (gchk_ok h2).2⟩, rboth0 (gchk_ok h1).1 (gchk_ok h2).2, rboth0 (gchk_ok h1).2 (gchk_ok h2).1⟩
  generalize fstE (gchk n xs ys m us vs) (gchk n2 xs2 ys2 m2 us2 vs2) = E0 at *
  generalize rboth n xs ys n2 xs2 ys2 = e1 at *
  generalize rboth m us vs m2 us2 vs2 = e2 at *
  generalize rboth n xs ys m2 us2 vs2 = e3 at *
  generalize rboth m us vs n2 xs2 ys2 = e4 at *
  generalize rq n xs ys = r1 at *
  generalize rq m us vs = r2 at *
  generalize rq n2 xs2 ys2 = r3 at *
  generalize rq m2 us2 vs2 = r4 at *
  clear sx sy su sv sx2 sy2 su2 sv2
  have ka0 : X.cell? ⟨w.heap.size, 0, none⟩ = some (.bool n) := HX.out.1.cell 0
  have ka1 : X.cell? ⟨w.heap.size, 1, none⟩ = some (.slice a xs.length ca) := HX.out.1.cell 1
  have ka2 : X.cell? ⟨w.heap.size, 2, none⟩ = some (.slice b ys.length cb) := HX.out.1.cell 2
  have ka3 : X.cell? ⟨w.heap.size, 3, none⟩ = some (.bool m) := HX.out.1.cell 3
  have ka4 : X.cell? ⟨w.heap.size, 4, none⟩ = some (.slice c us.length cc) := HX.out.1.cell 4
  have ka5 : X.cell? ⟨w.heap.size, 5, none⟩ = some (.slice d vs.length cd) := HX.out.1.cell 5
  have kb0 : X.cell? ⟨w.heap.size + 1, 0, none⟩ = some (.bool n2) := HX.out.2.1.cell 0
  have kb1 : X.cell? ⟨w.heap.size + 1, 1, none⟩ = some (.slice a2 xs2.length ca2) := HX.out.2.1.cell 1
  have kb2 : X.cell? ⟨w.heap.size + 1, 2, none⟩ = some (.slice b2' ys2.length cb2) := HX.out.2.1.cell 2
  have kb3 : X.cell? ⟨w.heap.size + 1, 3, none⟩ = some (.bool m2) := HX.out.2.1.cell 3
  have kb4 : X.cell? ⟨w.heap.size + 1, 4, none⟩ = some (.slice c2 us2.length cc2) := HX.out.2.1.cell 4
  have kb5 : X.cell? ⟨w.heap.size + 1, 5, none⟩ = some (.slice d2 vs2.length cd2) := HX.out.2.1.cell 5
  go_enter Tryz.func19, Tryz.ntmps19
  go_wp2_with fail
  refine Calls.mono HL.out ?_
  rintro x w1 ⟨p, rfl, hpl, hpb, hb1⟩
  have HW1 := hid (bt HWY.out hb1)
  have HA1 := hid (HX.out.1.later (bt HYB.out hb1) HX.out.1.lt)
  have HB1 := hid (HX.out.2.1.later (bt HYB.out hb1) HX.out.2.1.lt)
  have HR1 := hid (HX.out.2.2.1.later (bt HYB.out hb1) HX.out.2.2.1.lt)
  have HP1 := hid hpb
  have hpX : X.heap.size < p := Nat.lt_of_lt_of_le HY.out.lt hpl
  have hrX : w.heap.size + 1 + 1 < X.heap.size := HX.out.2.2.1.lt
  clear hpb hb1 hpl HL ka0 ka1 ka2 ka3 ka4 ka5 kb0 kb1 kb2 kb3 kb4 kb5
  have ka0 : w1.cell? ⟨w.heap.size, 0, none⟩ = some (.bool n) := HA1.out.cell 0
  have ka1 : w1.cell? ⟨w.heap.size, 1, none⟩ = some (.slice a xs.length ca) := HA1.out.cell 1
  have ka2 : w1.cell? ⟨w.heap.size, 2, none⟩ = some (.slice b ys.length cb) := HA1.out.cell 2
  have ka3 : w1.cell? ⟨w.heap.size, 3, none⟩ = some (.bool m) := HA1.out.cell 3
  have ka4 : w1.cell? ⟨w.heap.size, 4, none⟩ = some (.slice c us.length cc) := HA1.out.cell 4
  have ka5 : w1.cell? ⟨w.heap.size, 5, none⟩ = some (.slice d vs.length cd) := HA1.out.cell 5
  have kb0 : w1.cell? ⟨w.heap.size + 1, 0, none⟩ = some (.bool n2) := HB1.out.cell 0
  have kb1 : w1.cell? ⟨w.heap.size + 1, 1, none⟩ = some (.slice a2 xs2.length ca2) := HB1.out.cell 1
  have kb2 : w1.cell? ⟨w.heap.size + 1, 2, none⟩ = some (.slice b2' ys2.length cb2) := HB1.out.cell 2
  have kb3 : w1.cell? ⟨w.heap.size + 1, 3, none⟩ = some (.bool m2) := HB1.out.cell 3
  have kb4 : w1.cell? ⟨w.heap.size + 1, 4, none⟩ = some (.slice c2 us2.length cc2) := HB1.out.cell 4
  have kb5 : w1.cell? ⟨w.heap.size + 1, 5, none⟩ = some (.slice d2 vs2.length cd2) := HB1.out.cell 5
  go_wp2_with fail
  refine Calls.mono (H1.out _ p E0 HW1.out (by omega) HP1.out) ?_
  rintro x w3 ⟨k1, av1, cv1, zs1, au1, cu1, ts1, c3, k2, av2, cv2, zs2, au2, cu2, ts2, code2, rfl, ⟨⟨ov1, ou1⟩, ⟨ov2, ou2⟩⟩, t3, t6, hp3, hg3, _⟩
  have hw13 : w1.heap.size ≤ w3.heap.size := hg3.size
  have hp1l : p < w1.heap.size := HP1.out.lt
  have HW3 : Hid (Below w.heap.size w w3) := HW1.out.grown hg3 HW1.out.size (fun q hq => by have e := Option.some.inj hq; omega)
  have HR3 := hid (HR1.out.kept' hg3 (by intro e; have := Option.some.inj e; omega))
  have HTO := hid (gtold_any p code2 k1 av1 zs1.length cv1 au1 ts1.length cu1 k2 av2 zs2.length cv2 au2 ts2.length cu2 w3 hp3)
  have HO3 := hid (And.intro ov1 (And.intro ou1 (And.intro ov2 ou2)))
  have h3 := g3_tells t3 (fun h => (HZ1.out h).1.1) (fun h => (HZ1.out h).1.2)
  have HTW := hid (gtwo' h3 (g3_tells t6 (fun h => by subst h; exact (HZ1.out h3.ok.1).2.1) (fun h => by subst h; exact (HZ1.out h3.ok.1).2.2)))
  clear h3 t3 t6 hp3 hg3 ov1 ou1 ov2 ou2 H1 ka0 ka1 ka2 ka3 ka4 ka5 kb0 kb1 kb2 kb3 kb4 kb5
  go_wp2_with fail
  refine Calls.mono HTO.out ?_
  rintro x w4 ⟨rfl, hb4⟩
  have HR4 := hid (HR3.out.later hb4 HR3.out.lt)
  have HW4 := hid (bt HW3.out hb4)
  have HOO := hid (And.intro (owns_later HO3.out.1 hb4) (And.intro (owns_later HO3.out.2.1 hb4) (And.intro (owns_later HO3.out.2.2.1 hb4) (owns_later HO3.out.2.2.2 hb4))))
  have hlo : w.heap.size ≤ w1.heap.size := by omega
  clear hb4
  have m0 : w4.cell? ⟨w.heap.size + 1 + 1, 0, none⟩ = some (.bool false) := HR4.out.cell 0
  have m1 : w4.cell? ⟨w.heap.size + 1 + 1, 1, none⟩ = some (.slice none 0 0) := HR4.out.cell 1
  have m2' : w4.cell? ⟨w.heap.size + 1 + 1, 2, none⟩ = some (.slice none 0 0) := HR4.out.cell 2
  have m3 : w4.cell? ⟨w.heap.size + 1 + 1, 3, none⟩ = some (.bool false) := HR4.out.cell 3
  have m4 : w4.cell? ⟨w.heap.size + 1 + 1, 4, none⟩ = some (.slice none 0 0) := HR4.out.cell 4
  have m5 : w4.cell? ⟨w.heap.size + 1 + 1, 5, none⟩ = some (.slice none 0 0) := HR4.out.cell 5
  have f0 := HR4.out.free 0
  have f1 := HR4.out.free 1
  have f2 := HR4.out.free 2
  have f3 := HR4.out.free 3
  have f4 := HR4.out.free 4
  have f5 := HR4.out.free 5
  by_cases hc2 : code2 = 0
  · rw [if_pos hc2]
    have HFIN := hid (HTW.out.1 hc2)
    clear HTW hc2
    go_wp2_with fail
    have B1 := box_put6 HR4.out (.bool k1) (.slice av1 zs1.length cv1) (.slice au1 ts1.length cu1) (.bool k2) (.slice av2 zs2.length cv2) (.slice au2 ts2.length cu2)
    have G1 := below_put6 HW4.out (w.heap.size + 1 + 1) (by omega) (.bool k1) (.slice av1 zs1.length cv1) (.slice au1 ts1.length cu1) (.bool k2) (.slice av2 zs2.length cv2) (.slice au2 ts2.length cu2)
    have hXX := HX.out.2.2.2.size
    have hput : ∀ {base k : Nat} {v : Value} {l : List Value}, w4.ownsRow base 62 1 v k l → (∀ g, v.ownBlock = some g → X.heap.size ≤ g) → ((((((w4.setCell ⟨w.heap.size + 1 + 1, 0, none⟩ (.bool k1)).setCell ⟨w.heap.size + 1 + 1, 1, none⟩ (.slice av1 zs1.length cv1)).setCell ⟨w.heap.size + 1 + 1, 2, none⟩ (.slice au1 ts1.length cu1)).setCell ⟨w.heap.size + 1 + 1, 3, none⟩ (.bool k2)).setCell ⟨w.heap.size + 1 + 1, 4, none⟩ (.slice av2 zs2.length cv2)).setCell ⟨w.heap.size + 1 + 1, 5, none⟩ (.slice au2 ts2.length cu2)).ownsRow base 62 1 v k l := fun h hb => own_put6 h _ (fun g hg => by have := hb g hg; omega) _ _ _ _ _ _
    clear m0 m1 m2' m3 m4 m5 f0 f1 f2 f3 f4 f5
    refine bodyPost_ret (gres_run (by rfl) B1 _ rfl) rfl ?_
    exact ⟨k1, av1, cv1, zs1, au1, cu1, ts1, k2, av2, cv2, zs2, au2, cu2, ts2, code2, rfl, ⟨owns_base (hput HOO.out.1 (fun g hg => by have := (HOO.out.1.lt g hg).1; omega)) hlo, owns_base (hput HOO.out.2.1 (fun g hg => by have := (HOO.out.2.1.lt g hg).1; omega)) hlo, owns_base (hput HOO.out.2.2.1 (fun g hg => by have := (HOO.out.2.2.1.lt g hg).1; omega)) hlo, owns_base (hput HOO.out.2.2.2 (fun g hg => by have := (HOO.out.2.2.2.lt g hg).1; omega)) hlo⟩, HFIN.out, G1⟩
  · rw [if_neg hc2]
    have HFIN := hid (HTW.out.2 hc2)
    clear HTW hc2
    go_wp2_with fail
    have B1 := box_put6 HR4.out (.bool false) (.slice none 0 0) (.slice none 0 0) (.bool false) (.slice none 0 0) (.slice none 0 0)
    have G1 := below_put6 HW4.out (w.heap.size + 1 + 1) (by omega) (.bool false) (.slice none 0 0) (.slice none 0 0) (.bool false) (.slice none 0 0) (.slice none 0 0)
    clear m0 m1 m2' m3 m4 m5 f0 f1 f2 f3 f4 f5
    refine bodyPost_ret (gres_run (by rfl) B1 _ rfl) rfl ?_
    exact ⟨false, none, 0, [], none, 0, [], false, none, 0, [], none, 0, [], code2, rfl, ⟨World.ownsRow_nil _ _ _ _, World.ownsRow_nil _ _ _ _, World.ownsRow_nil _ _ _ _, World.ownsRow_nil _ _ _ _⟩, HFIN.out, G1⟩

end Go.Proofs.YtalapdhdlboknaaGreatDoor

/- Complex fractions: what a quotient's steps come to; a box for a complex fraction inside a statement. -/
namespace Go.Proofs.YtalapdhdlboknaaGreatDoor
open Go.RowKit
set_option linter.unusedVariables false

theorem gsq_nonneg (x : Rat) : 0 ≤ x * x := by
  by_cases h : 0 ≤ x
  · exact Rat.mul_nonneg h h
  · have h' : 0 ≤ -x := by grind
    have := Rat.mul_nonneg h' h'
    grind
theorem gsq_ne {c d : Rat} (h : ¬ (c = 0 ∧ d = 0)) : c * c + d * d ≠ 0 := by
  intro e
  have h1 := gsq_nonneg c
  have h2 := gsq_nonneg d
  have e1 : c * c = 0 := by grind
  have e2 : d * d = 0 := by grind
  exact h ⟨(Rat.mul_eq_zero.1 e1).elim id id, (Rat.mul_eq_zero.1 e2).elim id id⟩
theorem grq_nil (n : Bool) (ys : List Int) : rq n [] ys = 0 := by
  unfold rq
  have e : wval n [] = 0 := by cases n <;> simp [wval, val_nil]
  rw [e, Rat.zero_divInt]
theorem grq_ne {n : Bool} {xs ys : List Int} (wx : Wd xs) (wy : Wd ys) (h : rchk n xs ys = 0) (h0 : xs ≠ []) : rq n xs ys ≠ 0 := by
  obtain ⟨_, _, tx, ty, y0, _, _⟩ := rchk_ok h
  intro e
  unfold rq at e
  have hy := val_pos' wy ty y0
  have hx := val_pos' wx tx (by cases xs with | nil => exact absurd rfl h0 | cons a b => simp)
  rw [← Rat.zero_divInt 1] at e
  have e := (Rat.divInt_eq_divInt_iff (by omega) (by decide)).1 e
  cases n <;> simp [wval] at e <;> omega
theorem g3_bad {op : Rat → Rat → Rat} {E e1 e2 : Int} {q1 q2 : Rat} {n : Bool} {x y : List Int} {c : Int} (h : G3 op E e1 e2 q1 q2 n x y c) (hE : E ≠ 0) (L : Prop) (q : Rat) : GT3 E L q n x y c := by
  obtain ⟨n1, x1, y1, c1, n2, x2, y2, c2, t1, t2, t3⟩ := h
  rw [fstE_err _ hE] at t1
  have h1 := (t1.bad hE).2.2.2
  subst h1
  rw [fstE_err _ hE] at t2
  have h2 := (t2.bad hE).2.2.2
  subst h2
  rw [fstE_err _ hE] at t3
  exact ⟨t3.wx, t3.wy, fun _ => t3.bad hE, fun h => absurd h hE, fun h => absurd h hE⟩
theorem rt_bad {E e : Int} {q : Rat} {n : Bool} {x y : List Int} {c : Int} (h : RTells (fstE E e) q n x y c) (hE : E ≠ 0) (L : Prop) (q' : Rat) : GT3 E L q' n x y c := by
  rw [fstE_err _ hE] at h
  exact ⟨h.wx, h.wy, fun _ => h.bad hE, fun h => absurd h hE, fun h => absurd h hE⟩
theorem gqErr_good {n m : Bool} {xs ys us vs : List Int} (h : rchk n xs ys = 0) (g : rchk m us vs = 0) (h0 : rq m us vs ≠ 0) : qErr n xs ys m us vs = 0 := by
  have h1 : us ≠ [] := fun e => h0 (by rw [e]; exact grq_nil _ _)
  unfold qErr
  rw [if_pos (rboth_good h g), if_neg (fun e => h1 (List.length_eq_zero_iff.1 e))]
/-- Whether something on the way of a quotient is too long. -/
def qlong (a b c d : Rat) : Prop := (((((rlong (c * c) ∨ rlong (d * d)) ∨ rlong (c * c + d * d)) ∨ rlong (-d)) ∨ ((rlong (a * c) ∨ rlong (b * -d)) ∨ rlong (a * c - b * -d))) ∨ ((rlong (a * -d) ∨ rlong (b * c)) ∨ rlong (a * -d + b * c))) ∨ rlong ((a * c - b * -d) / (c * c + d * d))
theorem gquo_tells {E : Int} {n m n2 m2 : Bool} {xs ys us vs xs2 ys2 us2 vs2 : List Int} {nN nO n3 n6 n9 nA : Bool} {xN yN xO yO x3 y3 x6 y6 x9 y9 xA yA : List Int} {cN cO c3 c6 c9 cA : Int}
    (z : E = 0 → (rchk n xs ys = 0 ∧ rchk m us vs = 0) ∧ (rchk n2 xs2 ys2 = 0 ∧ rchk m2 us2 vs2 = 0) ∧ ¬ (rq n2 xs2 ys2 = 0 ∧ rq m2 us2 vs2 = 0))
    (hN : G3 (· + ·) E (rboth n2 xs2 ys2 n2 xs2 ys2) (rboth m2 us2 vs2 m2 us2 vs2) (rq n2 xs2 ys2 * rq n2 xs2 ys2) (rq m2 us2 vs2 * rq m2 us2 vs2) nN xN yN cN)
    (tO : RTells (fstE cN (rchk m2 us2 vs2)) (-(rq m2 us2 vs2)) nO xO yO cO)
    (t3 : G3 (· - ·) cO (rboth n xs ys n2 xs2 ys2) (rboth m us vs nO xO yO) (rq n xs ys * rq n2 xs2 ys2) (rq m us vs * rq nO xO yO) n3 x3 y3 c3)
    (t6 : G3 (· + ·) c3 (rboth n xs ys nO xO yO) (rboth m us vs n2 xs2 ys2) (rq n xs ys * rq nO xO yO) (rq m us vs * rq n2 xs2 ys2) n6 x6 y6 c6)
    (t9 : RTells (fstE c6 (qErr n3 x3 y3 nN xN yN)) (rq n3 x3 y3 / rq nN xN yN) n9 x9 y9 c9)
    (tA : RTells (fstE c9 (qErr n6 x6 y6 nN xN yN)) (rq n6 x6 y6 / rq nN xN yN) nA xA yA cA) :
    (cA = 0 → GTells E (qlong (rq n xs ys) (rq m us vs) (rq n2 xs2 ys2) (rq m2 us2 vs2) ∨ rlong ((rq n xs ys * -(rq m2 us2 vs2) + rq m us vs * rq n2 xs2 ys2) / (rq n2 xs2 ys2 * rq n2 xs2 ys2 + rq m2 us2 vs2 * rq m2 us2 vs2))) ((rq n xs ys * rq n2 xs2 ys2 - rq m us vs * -(rq m2 us2 vs2)) / (rq n2 xs2 ys2 * rq n2 xs2 ys2 + rq m2 us2 vs2 * rq m2 us2 vs2)) ((rq n xs ys * -(rq m2 us2 vs2) + rq m us vs * rq n2 xs2 ys2) / (rq n2 xs2 ys2 * rq n2 xs2 ys2 + rq m2 us2 vs2 * rq m2 us2 vs2)) n9 x9 y9 nA xA yA cA) ∧
    (cA ≠ 0 → GTells E (qlong (rq n xs ys) (rq m us vs) (rq n2 xs2 ys2) (rq m2 us2 vs2) ∨ rlong ((rq n xs ys * -(rq m2 us2 vs2) + rq m us vs * rq n2 xs2 ys2) / (rq n2 xs2 ys2 * rq n2 xs2 ys2 + rq m2 us2 vs2 * rq m2 us2 vs2))) ((rq n xs ys * rq n2 xs2 ys2 - rq m us vs * -(rq m2 us2 vs2)) / (rq n2 xs2 ys2 * rq n2 xs2 ys2 + rq m2 us2 vs2 * rq m2 us2 vs2)) ((rq n xs ys * -(rq m2 us2 vs2) + rq m us vs * rq n2 xs2 ys2) / (rq n2 xs2 ys2 * rq n2 xs2 ys2 + rq m2 us2 vs2 * rq m2 us2 vs2)) false [] [] false [] [] cA) := by
  have hN' := g3_tells hN (fun h => rboth0 (z h).2.1.1 (z h).2.1.1) (fun h => rboth0 (z h).2.1.2 (z h).2.1.2)
  have hO : GT3 cN (rlong (-(rq m2 us2 vs2))) (-(rq m2 us2 vs2)) nO xO yO cO := GT3.of tO (fun h => by subst h; exact (z hN'.ok.1).2.1.2)
  have hNO := hN'.then hO
  have h3 : GT3 cO ((rlong (rq n xs ys * rq n2 xs2 ys2) ∨ rlong (rq m us vs * -(rq m2 us2 vs2))) ∨ rlong (rq n xs ys * rq n2 xs2 ys2 - rq m us vs * -(rq m2 us2 vs2))) (rq n xs ys * rq n2 xs2 ys2 - rq m us vs * -(rq m2 us2 vs2)) n3 x3 y3 c3 := by
    by_cases hc : cO = 0
    · subst hc
      obtain ⟨hE, hl⟩ := hNO.ok
      have g := hNO.good hE hl
      rw [g.2.2] at t3
      exact g3_tells t3 (fun _ => rboth0 (z hE).1.1 (z hE).2.1.1) (fun _ => rboth0 (z hE).1.2 g.2.1)
    · exact g3_bad t3 hc _ _
  have hN3 := hNO.then h3
  have h6 : GT3 c3 ((rlong (rq n xs ys * -(rq m2 us2 vs2)) ∨ rlong (rq m us vs * rq n2 xs2 ys2)) ∨ rlong (rq n xs ys * -(rq m2 us2 vs2) + rq m us vs * rq n2 xs2 ys2)) (rq n xs ys * -(rq m2 us2 vs2) + rq m us vs * rq n2 xs2 ys2) n6 x6 y6 c6 := by
    by_cases hc : c3 = 0
    · subst hc
      obtain ⟨hE, hl⟩ := hN3.ok
      have g := hNO.good hE (fun h => hl (.inl h))
      rw [g.2.2] at t6
      exact g3_tells t6 (fun _ => rboth0 (z hE).1.1 g.2.1) (fun _ => rboth0 (z hE).1.2 (z hE).2.1.1)
    · exact g3_bad t6 hc _ _
  have hN6 := hN3.then h6
  have h9 : GT3 c6 (rlong ((rq n xs ys * rq n2 xs2 ys2 - rq m us vs * -(rq m2 us2 vs2)) / (rq n2 xs2 ys2 * rq n2 xs2 ys2 + rq m2 us2 vs2 * rq m2 us2 vs2))) ((rq n xs ys * rq n2 xs2 ys2 - rq m us vs * -(rq m2 us2 vs2)) / (rq n2 xs2 ys2 * rq n2 xs2 ys2 + rq m2 us2 vs2 * rq m2 us2 vs2)) n9 x9 y9 c9 := by
    by_cases hc : c6 = 0
    · subst hc
      obtain ⟨hE, hl⟩ := hN6.ok
      have g := hN3.good hE (fun h => hl (.inl h))
      have gN := hN'.good hE (fun h => hl (.inl (.inl (.inl h))))
      have hne : rq nN xN yN ≠ 0 := by rw [gN.2.2]; exact gsq_ne (z hE).2.2
      have e := gqErr_good g.2.1 gN.2.1 hne
      rw [e, g.2.2, gN.2.2] at t9
      exact GT3.of t9 (fun _ => rfl)
    · exact rt_bad t9 hc _ _
  have hN9 := hN6.then h9
  have hA : GT3 c9 (rlong ((rq n xs ys * -(rq m2 us2 vs2) + rq m us vs * rq n2 xs2 ys2) / (rq n2 xs2 ys2 * rq n2 xs2 ys2 + rq m2 us2 vs2 * rq m2 us2 vs2))) ((rq n xs ys * -(rq m2 us2 vs2) + rq m us vs * rq n2 xs2 ys2) / (rq n2 xs2 ys2 * rq n2 xs2 ys2 + rq m2 us2 vs2 * rq m2 us2 vs2)) nA xA yA cA := by
    by_cases hc : c9 = 0
    · subst hc
      obtain ⟨hE, hl⟩ := hN9.ok
      have g := hN6.good hE (fun h => hl (.inl h))
      have gN := hN'.good hE (fun h => hl (.inl (.inl (.inl (.inl h)))))
      have hne : rq nN xN yN ≠ 0 := by rw [gN.2.2]; exact gsq_ne (z hE).2.2
      have e := gqErr_good g.2.1 gN.2.1 hne
      rw [e, g.2.2, gN.2.2] at tA
      exact GT3.of tA (fun _ => rfl)
    · exact rt_bad tA hc _ _
  exact gtwo' hN9 hA
end Go.Proofs.YtalapdhdlboknaaGreatDoor

/- A box of six cells that is stored into whole. -/
namespace Go.Proofs.YtalapdhdlboknaaGreatDoor
open Go.RowKit
set_option linter.unusedVariables false

theorem setRow_box {W : World} {b t : Nat} {old cs : Array Value} (h : Box W b t old) : Box (W.setRow b cs) b t cs := by
  unfold Box at *
  simp only [World.setRow, Array.getElem?_modify, if_pos, h, Option.map_some]
theorem setRow_far (W : World) (b : Nat) (cs : Array Value) {i : Nat} (hne : i ≠ b) : (W.setRow b cs).heap[i]? = W.heap[i]? := by
  simp only [World.setRow, Array.getElem?_modify, if_neg (Ne.symm hne)]
theorem put6_far (W : World) (b : Nat) (v0 v1 v2 v3 v4 v5 : Value) {i : Nat} (hne : i ≠ b) : ((((((W.setCell ⟨b, 0, none⟩ v0).setCell ⟨b, 1, none⟩ v1).setCell ⟨b, 2, none⟩ v2).setCell ⟨b, 3, none⟩ v3).setCell ⟨b, 4, none⟩ v4).setCell ⟨b, 5, none⟩ v5).heap[i]? = W.heap[i]? := by
  rw [Below.heap_setCell _ _ _ _ hne, Below.heap_setCell _ _ _ _ hne, Below.heap_setCell _ _ _ _ hne, Below.heap_setCell _ _ _ _ hne, Below.heap_setCell _ _ _ _ hne, Below.heap_setCell _ _ _ _ hne]
theorem world_eq {A B : World} (h : A.heap = B.heap) (s : ∀ H, ({ A with heap := H } : World) = { B with heap := H }) : A = B := by
  have e := s A.heap
  have e2 : ({ B with heap := A.heap } : World) = B := by rw [h]
  exact e.trans e2
theorem same_cell {A B : World} (s : ∀ H, ({ A with heap := H } : World) = { B with heap := H }) (p : Addr) (v : Value) : ∀ H, ({ A with heap := H } : World) = { B.setCell p v with heap := H } := fun H => (s H).trans rfl
theorem same_row (W : World) (b : Nat) (cs : Array Value) : ∀ H, ({ W.setRow b cs with heap := H } : World) = { W with heap := H } := fun H => rfl
theorem gput6_eq {W : World} {b t : Nat} {u0 u1 u2 u3 u4 u5 : Value} (h : Box W b t #[u0, u1, u2, u3, u4, u5]) (v0 v1 v2 v3 v4 v5 : Value) : W.setRow b #[v0, v1, v2, v3, v4, v5] = (((((W.setCell ⟨b, 0, none⟩ v0).setCell ⟨b, 1, none⟩ v1).setCell ⟨b, 2, none⟩ v2).setCell ⟨b, 3, none⟩ v3).setCell ⟨b, 4, none⟩ v4).setCell ⟨b, 5, none⟩ v5 := by
  refine world_eq ?_ (same_cell (same_cell (same_cell (same_cell (same_cell (same_cell (same_row W b _) _ _) _ _) _ _) _ _) _ _) _ _)
  apply Array.ext_getElem?
  intro i
  by_cases hi : i = b
  · subst hi
    have e1 := setRow_box (cs := #[v0, v1, v2, v3, v4, v5]) h
    have e2 := box_put6 h v0 v1 v2 v3 v4 v5
    exact Eq.trans e1 e2.symm
  · rw [setRow_far W b _ hi, put6_far W b _ _ _ _ _ _ hi]
theorem gstore6 {W : World} {b : Nat} {u0 u1 u2 u3 u4 u5 : Value} (h : Box W b 26 #[u0, u1, u2, u3, u4, u5]) (n : Bool) (a : Option Addr) (ka ca : Nat) (b' : Option Addr) (kb cb : Nat) (m : Bool) (c : Option Addr) (kc cc : Nat) (d : Option Addr) (kd cd : Nat) : (storeVar 26 ⟨b, 0, none⟩ (.agg #[.bool n, .slice a ka ca, .slice b' kb cb, .bool m, .slice c kc cc, .slice d kd cd])).run Tryz.prog W = .ok () ((((((W.setCell ⟨b, 0, none⟩ (.bool n)).setCell ⟨b, 1, none⟩ (.slice a ka ca)).setCell ⟨b, 2, none⟩ (.slice b' kb cb)).setCell ⟨b, 3, none⟩ (.bool m)).setCell ⟨b, 4, none⟩ (.slice c kc cc)).setCell ⟨b, 5, none⟩ (.slice d kd cd)) := by
  rw [← gput6_eq h]
  exact run_storeVar_row W b 26 26 _ _ h (by kernel_rfl) rfl (by simp [Value.oneCell'])
/-- A store of six cells, cell by cell, each world by its name. -/
theorem gchain6 {W : World} {b t : Nat} {u0 u1 u2 u3 u4 u5 : Value} (h : Box W b t #[u0, u1, u2, u3, u4, u5]) (v0 v1 v2 v3 v4 v5 : Value) : ∃ A0 A1 A2 A3 A4 A5, W.setCell ⟨b, 0, none⟩ v0 = A0 ∧ A0.setCell ⟨b, 1, none⟩ v1 = A1 ∧ A1.setCell ⟨b, 2, none⟩ v2 = A2 ∧ A2.setCell ⟨b, 3, none⟩ v3 = A3 ∧ A3.setCell ⟨b, 4, none⟩ v4 = A4 ∧ A4.setCell ⟨b, 5, none⟩ v5 = A5 ∧ (W.cell? ⟨b, 0, none⟩ = some u0 ∧ A0.cell? ⟨b, 1, none⟩ = some u1 ∧ A1.cell? ⟨b, 2, none⟩ = some u2 ∧ A2.cell? ⟨b, 3, none⟩ = some u3 ∧ A3.cell? ⟨b, 4, none⟩ = some u4 ∧ A4.cell? ⟨b, 5, none⟩ = some u5) ∧ (W.frozen? ⟨b, 0, none⟩ = false ∧ A0.frozen? ⟨b, 1, none⟩ = false ∧ A1.frozen? ⟨b, 2, none⟩ = false ∧ A2.frozen? ⟨b, 3, none⟩ = false ∧ A3.frozen? ⟨b, 4, none⟩ = false ∧ A4.frozen? ⟨b, 5, none⟩ = false) := by
  have h0 : Box _ b t #[v0, u1, u2, u3, u4, u5] := h.set 0 v0
  have h1 : Box _ b t #[v0, v1, u2, u3, u4, u5] := h0.set 1 v1
  have h2 : Box _ b t #[v0, v1, v2, u3, u4, u5] := h1.set 2 v2
  have h3 : Box _ b t #[v0, v1, v2, v3, u4, u5] := h2.set 3 v3
  have h4 : Box _ b t #[v0, v1, v2, v3, v4, u5] := h3.set 4 v4
  exact ⟨_, _, _, _, _, _, rfl, rfl, rfl, rfl, rfl, rfl, ⟨h.cell 0, h0.cell 1, h1.cell 2, h2.cell 3, h3.cell 4, h4.cell 5⟩, h.free 0, h0.free 1, h1.free 2, h2.free 3, h3.free 4, h4.free 5⟩
end Go.Proofs.YtalapdhdlboknaaGreatDoor

/- Complex fractions, the laws' own: (*calc).add, mul. -/
namespace Go.Proofs.YtalapdhdlboknaaGreatDoor
open Go.RowKit
set_option linter.unusedVariables false

/-- What add and mul of the laws' own tell. -/
def GCalc (w : World) (p : Nat) (bad : Bool) (E : Int) (L : Prop) (q1 q2 : Rat) (x : Ending) (w' : World) : Prop :=
  ∃ r1 ra rk rx rb rl ry r2 rc rm ru rd rn rv code, x = .returned (.agg #[.bool r1, .slice ra (List.length rx) rk, .slice rb (List.length ry) rl, .bool r2, .slice rc (List.length ru) rm, .slice rd (List.length rv) rn]) ∧ (w'.ownsRow w.heap.size 62 1 (.slice ra rx.length rk) rx.length (rx.map (Value.int .u32)) ∧ w'.ownsRow w.heap.size 62 1 (.slice rb ry.length rl) ry.length (ry.map (Value.int .u32)) ∧ w'.ownsRow w.heap.size 62 1 (.slice rc ru.length rm) ru.length (ru.map (Value.int .u32)) ∧ w'.ownsRow w.heap.size 62 1 (.slice rd rv.length rn) rv.length (rv.map (Value.int .u32))) ∧ GTells E L q1 q2 r1 rx ry r2 ru rv code ∧ Box w' p 30 #[.bool (bad || (code != 0))] ∧ w.grownBy w' (some p)

set_option maxHeartbeats 3200000 in
set_option maxRecDepth 100000 in
theorem gcalc_add (p : Nat) (bad : Bool) (n : Bool) (a : Option Addr) (ca : Nat) (xs : List Int) (b : Option Addr) (cb : Nat) (ys : List Int) (m : Bool) (c : Option Addr) (cc : Nat) (us : List Int) (d : Option Addr) (cd : Nat) (vs : List Int) (n2 : Bool) (a2 : Option Addr) (ca2 : Nat) (xs2 : List Int) (b2' : Option Addr) (cb2 : Nat) (ys2 : List Int) (m2 : Bool) (c2 : Option Addr) (cc2 : Nat) (us2 : List Int) (d2 : Option Addr) (cd2 : Nat) (vs2 : List Int) (w : World) (hp : Box w p 30 #[.bool bad]) (sx : Sl w (.slice a xs.length ca) xs) (sy : Sl w (.slice b ys.length cb) ys) (su : Sl w (.slice c us.length cc) us) (sv : Sl w (.slice d vs.length cd) vs) (sx2 : Sl w (.slice a2 xs2.length ca2) xs2) (sy2 : Sl w (.slice b2' ys2.length cb2) ys2) (su2 : Sl w (.slice c2 us2.length cc2) us2) (sv2 : Sl w (.slice d2 vs2.length cd2) vs2) :
    Calls Tryz.prog 8 #[.pointer (some ⟨p, 0, none⟩), .agg #[.bool n, .slice a xs.length ca, .slice b ys.length cb, .bool m, .slice c us.length cc, .slice d vs.length cd], .agg #[.bool n2, .slice a2 xs2.length ca2, .slice b2' ys2.length cb2, .bool m2, .slice c2 us2.length cc2, .slice d2 vs2.length cd2]] w (GCalc w p bad (fstE (gchk n xs ys m us vs) (gchk n2 xs2 ys2 m2 us2 vs2)) (rlong (rq n xs ys + rq n2 xs2 ys2) ∨ rlong (rq m us vs + rq m2 us2 vs2)) (rq n xs ys + rq n2 xs2 ys2) (rq m us vs + rq m2 us2 vs2)) := by
  have HX := hid (boxes3r w 26 #[.bool n, .slice a xs.length ca, .slice b ys.length cb, .bool m, .slice c us.length cc, .slice d vs.length cd] #[.bool n2, .slice a2 xs2.length ca2, .slice b2' ys2.length cb2, .bool m2, .slice c2 us2.length cc2, .slice d2 vs2.length cd2] #[.bool false, .slice none 0 0, .slice none 0 0, .bool false, .slice none 0 0, .slice none 0 0])
  obtain ⟨X, hX⟩ : ∃ X, ((w.alloc (.cells #[.bool n, .slice a xs.length ca, .slice b ys.length cb, .bool m, .slice c us.length cc, .slice d vs.length cd] 26)).alloc (.cells #[.bool n2, .slice a2 xs2.length ca2, .slice b2' ys2.length cb2, .bool m2, .slice c2 us2.length cc2, .slice d2 vs2.length cd2] 26)).alloc (.cells #[.bool false, .slice none 0 0, .slice none 0 0, .bool false, .slice none 0 0, .slice none 0 0] 26) = X := ⟨_, rfl⟩
  rw [hX] at HX
  have HP := hid (hp.later HX.out.2.2.2 hp.lt)
  have hpw : p < w.heap.size := hp.lt
  have hb := HX.out.2.2.2
  have H1 := hid (gAdd_full n a ca xs b cb ys m c cc us d cd vs n2 a2 ca2 xs2 b2' cb2 ys2 m2 c2 cc2 us2 d2 cd2 vs2 X (sx.later hb) (sy.later hb) (su.later hb) (sv.later hb) (sx2.later hb) (sy2.later hb) (su2.later hb) (sv2.later hb))
  generalize fstE (gchk n xs ys m us vs) (gchk n2 xs2 ys2 m2 us2 vs2) = E0 at *
  generalize (rlong (rq n xs ys + rq n2 xs2 ys2) ∨ rlong (rq m us vs + rq m2 us2 vs2)) = LL at *
  generalize (rq n xs ys + rq n2 xs2 ys2) = Q1 at *
  generalize (rq m us vs + rq m2 us2 vs2) = Q2 at *
  clear sx sy su sv sx2 sy2 su2 sv2 hb hp
  obtain ⟨ka0, ka1, ka2, ka3, ka4, ka5⟩ := cells6 HX.out.1
  obtain ⟨kb0, kb1, kb2, kb3, kb4, kb5⟩ := cells6 HX.out.2.1
  go_enter Tryz.func8, Tryz.ntmps8
  go_wp2_with fail
  refine Calls.mono H1.out ?_
  rintro x w1 ⟨r1, ra, rk, rx, rb, rl, ry, r2, rc, rm, ru, rd, rn, rv, code, rfl, oo, tt, hb1⟩
  have HOO := hid oo
  have HTT := hid tt
  have HB1 := hid hb1
  have HR1 := hid (HX.out.2.2.1.later hb1 HX.out.2.2.1.lt)
  have HP1 := hid (HP.out.later hb1 HP.out.lt)
  have hX1 : X.heap.size ≤ w1.heap.size := hb1.size
  have hrX : w.heap.size + 1 + 1 < X.heap.size := HX.out.2.2.1.lt
  have HN := hid (Box.made w1 26 #[.bool r1, .slice ra rx.length rk, .slice rb ry.length rl, .bool r2, .slice rc ru.length rm, .slice rd rv.length rn])
  have HNB := hid (alloc_later w1 (.cells #[.bool r1, .slice ra rx.length rk, .slice rb ry.length rl, .bool r2, .slice rc ru.length rm, .slice rd rv.length rn] 26))
  obtain ⟨Z, hZ⟩ : ∃ Z, w1.alloc (.cells #[.bool r1, .slice ra rx.length rk, .slice rb ry.length rl, .bool r2, .slice rc ru.length rm, .slice rd rv.length rn] 26) = Z := ⟨_, rfl⟩
  have HZ0 := hid (Box.made w1 26 #[.bool false, .slice none 0 0, .slice none 0 0, .bool false, .slice none 0 0, .slice none 0 0])
  obtain ⟨Y, hY⟩ : ∃ Y, w1.alloc (.cells #[.bool false, .slice none 0 0, .slice none 0 0, .bool false, .slice none 0 0, .slice none 0 0] 26) = Y := ⟨_, rfl⟩
  rw [hY] at HZ0
  obtain ⟨A0, A1, A2, A3, A4, A5, hA0, hA1, hA2, hA3, hA4, hA5, ⟨q0, q1, q2, q3, q4, q5⟩, f0, f1, f2, f3, f4, f5⟩ := gchain6 HZ0.out (.bool r1) (.slice ra rx.length rk) (.slice rb ry.length rl) (.bool r2) (.slice rc ru.length rm) (.slice rd rv.length rn)
  have HYB : Hid (Below w1.heap.size w1 Y) := by rw [← hY]; exact hid (alloc_later w1 _)
  have HA5 : Hid (Box A5 w1.heap.size 26 #[.bool r1, .slice ra rx.length rk, .slice rb ry.length rl, .bool r2, .slice rc ru.length rm, .slice rd rv.length rn]) := by rw [← hA5, ← hA4, ← hA3, ← hA2, ← hA1, ← hA0]; exact hid (box_put6 HZ0.out _ _ _ _ _ _)
  have HB5 : Hid (Below w1.heap.size w1 A5) := by rw [← hA5, ← hA4, ← hA3, ← hA2, ← hA1, ← hA0]; exact hid (below_put6 HYB.out w1.heap.size (Nat.le_refl _) _ _ _ _ _ _)
  have HP5 := hid (HP1.out.later HB5.out HP1.out.lt)
  have HR5 := hid (HR1.out.later HB5.out HR1.out.lt)
  have kp : A5.cell? ⟨p, 0, none⟩ = some (.bool bad) := HP5.out.cell 0
  have fp := HP5.out.free 0
  clear oo tt hb1 H1 HN HNB hZ ka0 ka1 ka2 ka3 ka4 ka5 kb0 kb1 kb2 kb3 kb4 kb5
  obtain ⟨D, hD⟩ : ∃ D, A5.setCell ⟨p, 0, none⟩ (.bool (bad || (code != 0))) = D := ⟨_, rfl⟩
  have HND : Hid (Box D w1.heap.size 26 #[.bool r1, .slice ra rx.length rk, .slice rb ry.length rl, .bool r2, .slice rc ru.length rm, .slice rd rv.length rn]) := by rw [← hD]; exact hid (HA5.out.other ⟨p, 0, none⟩ _ (by show w1.heap.size ≠ p; omega))
  have HRD : Hid (Box D (w.heap.size + 1 + 1) 26 #[.bool false, .slice none 0 0, .slice none 0 0, .bool false, .slice none 0 0, .slice none 0 0]) := by rw [← hD]; exact hid (HR5.out.other ⟨p, 0, none⟩ _ (by show w.heap.size + 1 + 1 ≠ p; omega))
  have HPD : Hid (Box D p 30 #[.bool (bad || (code != 0))]) := by rw [← hD]; exact hid (HP5.out.set 0 _)
  obtain ⟨n0, n1, n2', n3, n4, n5⟩ := cells6 HND.out
  obtain ⟨D0, D1, D2, D3, D4, D5, hD0, hD1, hD2, hD3, hD4, hD5, ⟨e0, e1, e2, e3, e4, e5⟩, g0, g1, g2, g3, g4, g5⟩ := gchain6 HRD.out (.bool r1) (.slice ra rx.length rk) (.slice rb ry.length rl) (.bool r2) (.slice rc ru.length rm) (.slice rd rv.length rn)
  have HFIN : Hid ((D5.ownsRow w.heap.size 62 1 (.slice ra rx.length rk) rx.length (rx.map (Value.int .u32)) ∧ D5.ownsRow w.heap.size 62 1 (.slice rb ry.length rl) ry.length (ry.map (Value.int .u32)) ∧ D5.ownsRow w.heap.size 62 1 (.slice rc ru.length rm) ru.length (ru.map (Value.int .u32)) ∧ D5.ownsRow w.heap.size 62 1 (.slice rd rv.length rn) rv.length (rv.map (Value.int .u32))) ∧ Box D5 p 30 #[.bool (bad || (code != 0))] ∧ Box D5 (w.heap.size + 1 + 1) 26 #[.bool r1, .slice ra rx.length rk, .slice rb ry.length rl, .bool r2, .slice rc ru.length rm, .slice rd rv.length rn] ∧ w.grownBy D5 (some p)) := by
    rw [← hD5, ← hD4, ← hD3, ← hD2, ← hD1, ← hD0]
    have hk : ∀ {v : Value} {k : Nat} {zs : List Value}, w1.ownsRow X.heap.size 62 1 v k zs → D.ownsRow X.heap.size 62 1 v k zs := fun h => by
      rw [← hD]; exact own_put1 (owns_later h HB5.out) p (fun g hg => by have := (h.lt g hg).1; omega) 0 _
    have hk6 : ∀ {v : Value} {k : Nat} {zs : List Value}, w1.ownsRow X.heap.size 62 1 v k zs → ((((((D.setCell ⟨w.heap.size + 1 + 1, 0, none⟩ (.bool r1)).setCell ⟨w.heap.size + 1 + 1, 1, none⟩ (.slice ra rx.length rk)).setCell ⟨w.heap.size + 1 + 1, 2, none⟩ (.slice rb ry.length rl)).setCell ⟨w.heap.size + 1 + 1, 3, none⟩ (.bool r2)).setCell ⟨w.heap.size + 1 + 1, 4, none⟩ (.slice rc ru.length rm)).setCell ⟨w.heap.size + 1 + 1, 5, none⟩ (.slice rd rv.length rn)).ownsRow w.heap.size 62 1 v k zs := fun h => owns_base (own_put6 (hk h) _ (fun g hg => by have := (h.lt g hg).1; omega) _ _ _ _ _ _) HX.out.2.2.2.size
    have hgD : w.grownBy D (some p) := by rw [← hD]; exact grow_put (grow_below (bt HX.out.2.2.2 (bt HB1.out HB5.out)) _) p 0 _ (.inr rfl)
    exact hid ⟨⟨hk6 HOO.out.1, hk6 HOO.out.2.1, hk6 HOO.out.2.2.1, hk6 HOO.out.2.2.2⟩, gbox_far6 HPD.out (by omega) _ _ _ _ _ _, box_put6 HRD.out _ _ _ _ _ _, grow_put6 hgD _ _ _ _ _ _ _ (.inl (by omega))⟩
  have hcases : (bad = true ∨ bad = false) := by cases bad <;> simp
  rcases hcases with hb' | hb'
  all_goals
    subst hb'
    simp only [Bool.true_or, Bool.false_or] at hD
    go_wp2_with fail
    refine bodyPost_ret (results_cell_row (by rfl) _ _ (w.heap.size + 1 + 1) 26 _ (0, 0) _ (by rfl) HFIN.out.2.2.1 Tryz.underlying26 rfl (by kernel_rfl)) rfl ?_
    exact ⟨r1, ra, rk, rx, rb, rl, ry, r2, rc, rm, ru, rd, rn, rv, code, rfl, HFIN.out.1, HTT.out, HFIN.out.2.1, HFIN.out.2.2.2⟩

set_option maxHeartbeats 3200000 in
set_option maxRecDepth 100000 in
theorem gcalc_mul (p : Nat) (bad : Bool) (n : Bool) (a : Option Addr) (ca : Nat) (xs : List Int) (b : Option Addr) (cb : Nat) (ys : List Int) (m : Bool) (c : Option Addr) (cc : Nat) (us : List Int) (d : Option Addr) (cd : Nat) (vs : List Int) (n2 : Bool) (a2 : Option Addr) (ca2 : Nat) (xs2 : List Int) (b2' : Option Addr) (cb2 : Nat) (ys2 : List Int) (m2 : Bool) (c2 : Option Addr) (cc2 : Nat) (us2 : List Int) (d2 : Option Addr) (cd2 : Nat) (vs2 : List Int) (w : World) (hp : Box w p 30 #[.bool bad]) (sx : Sl w (.slice a xs.length ca) xs) (sy : Sl w (.slice b ys.length cb) ys) (su : Sl w (.slice c us.length cc) us) (sv : Sl w (.slice d vs.length cd) vs) (sx2 : Sl w (.slice a2 xs2.length ca2) xs2) (sy2 : Sl w (.slice b2' ys2.length cb2) ys2) (su2 : Sl w (.slice c2 us2.length cc2) us2) (sv2 : Sl w (.slice d2 vs2.length cd2) vs2) :
    Calls Tryz.prog 9 #[.pointer (some ⟨p, 0, none⟩), .agg #[.bool n, .slice a xs.length ca, .slice b ys.length cb, .bool m, .slice c us.length cc, .slice d vs.length cd], .agg #[.bool n2, .slice a2 xs2.length ca2, .slice b2' ys2.length cb2, .bool m2, .slice c2 us2.length cc2, .slice d2 vs2.length cd2]] w (GCalc w p bad (fstE (gchk n xs ys m us vs) (gchk n2 xs2 ys2 m2 us2 vs2)) (mlong (rq n xs ys) (rq m us vs) (rq n2 xs2 ys2) (rq m2 us2 vs2)) (rq n xs ys * rq n2 xs2 ys2 - rq m us vs * rq m2 us2 vs2) (rq n xs ys * rq m2 us2 vs2 + rq m us vs * rq n2 xs2 ys2)) := by
  have HX := hid (boxes3r w 26 #[.bool n, .slice a xs.length ca, .slice b ys.length cb, .bool m, .slice c us.length cc, .slice d vs.length cd] #[.bool n2, .slice a2 xs2.length ca2, .slice b2' ys2.length cb2, .bool m2, .slice c2 us2.length cc2, .slice d2 vs2.length cd2] #[.bool false, .slice none 0 0, .slice none 0 0, .bool false, .slice none 0 0, .slice none 0 0])
  obtain ⟨X, hX⟩ : ∃ X, ((w.alloc (.cells #[.bool n, .slice a xs.length ca, .slice b ys.length cb, .bool m, .slice c us.length cc, .slice d vs.length cd] 26)).alloc (.cells #[.bool n2, .slice a2 xs2.length ca2, .slice b2' ys2.length cb2, .bool m2, .slice c2 us2.length cc2, .slice d2 vs2.length cd2] 26)).alloc (.cells #[.bool false, .slice none 0 0, .slice none 0 0, .bool false, .slice none 0 0, .slice none 0 0] 26) = X := ⟨_, rfl⟩
  rw [hX] at HX
  have HP := hid (hp.later HX.out.2.2.2 hp.lt)
  have hpw : p < w.heap.size := hp.lt
  have hb := HX.out.2.2.2
  have H1 := hid (gMul_full n a ca xs b cb ys m c cc us d cd vs n2 a2 ca2 xs2 b2' cb2 ys2 m2 c2 cc2 us2 d2 cd2 vs2 X (sx.later hb) (sy.later hb) (su.later hb) (sv.later hb) (sx2.later hb) (sy2.later hb) (su2.later hb) (sv2.later hb))
  generalize fstE (gchk n xs ys m us vs) (gchk n2 xs2 ys2 m2 us2 vs2) = E0 at *
  generalize (mlong (rq n xs ys) (rq m us vs) (rq n2 xs2 ys2) (rq m2 us2 vs2)) = LL at *
  generalize (rq n xs ys * rq n2 xs2 ys2 - rq m us vs * rq m2 us2 vs2) = Q1 at *
  generalize (rq n xs ys * rq m2 us2 vs2 + rq m us vs * rq n2 xs2 ys2) = Q2 at *
  clear sx sy su sv sx2 sy2 su2 sv2 hb hp
  obtain ⟨ka0, ka1, ka2, ka3, ka4, ka5⟩ := cells6 HX.out.1
  obtain ⟨kb0, kb1, kb2, kb3, kb4, kb5⟩ := cells6 HX.out.2.1
  go_enter Tryz.func9, Tryz.ntmps9
  go_wp2_with fail
  refine Calls.mono H1.out ?_
  rintro x w1 ⟨r1, ra, rk, rx, rb, rl, ry, r2, rc, rm, ru, rd, rn, rv, code, rfl, oo, tt, hb1⟩
  have HOO := hid oo
  have HTT := hid tt
  have HB1 := hid hb1
  have HR1 := hid (HX.out.2.2.1.later hb1 HX.out.2.2.1.lt)
  have HP1 := hid (HP.out.later hb1 HP.out.lt)
  have hX1 : X.heap.size ≤ w1.heap.size := hb1.size
  have hrX : w.heap.size + 1 + 1 < X.heap.size := HX.out.2.2.1.lt
  have HN := hid (Box.made w1 26 #[.bool r1, .slice ra rx.length rk, .slice rb ry.length rl, .bool r2, .slice rc ru.length rm, .slice rd rv.length rn])
  have HNB := hid (alloc_later w1 (.cells #[.bool r1, .slice ra rx.length rk, .slice rb ry.length rl, .bool r2, .slice rc ru.length rm, .slice rd rv.length rn] 26))
  obtain ⟨Z, hZ⟩ : ∃ Z, w1.alloc (.cells #[.bool r1, .slice ra rx.length rk, .slice rb ry.length rl, .bool r2, .slice rc ru.length rm, .slice rd rv.length rn] 26) = Z := ⟨_, rfl⟩
  have HZ0 := hid (Box.made w1 26 #[.bool false, .slice none 0 0, .slice none 0 0, .bool false, .slice none 0 0, .slice none 0 0])
  obtain ⟨Y, hY⟩ : ∃ Y, w1.alloc (.cells #[.bool false, .slice none 0 0, .slice none 0 0, .bool false, .slice none 0 0, .slice none 0 0] 26) = Y := ⟨_, rfl⟩
  rw [hY] at HZ0
  obtain ⟨A0, A1, A2, A3, A4, A5, hA0, hA1, hA2, hA3, hA4, hA5, ⟨q0, q1, q2, q3, q4, q5⟩, f0, f1, f2, f3, f4, f5⟩ := gchain6 HZ0.out (.bool r1) (.slice ra rx.length rk) (.slice rb ry.length rl) (.bool r2) (.slice rc ru.length rm) (.slice rd rv.length rn)
  have HYB : Hid (Below w1.heap.size w1 Y) := by rw [← hY]; exact hid (alloc_later w1 _)
  have HA5 : Hid (Box A5 w1.heap.size 26 #[.bool r1, .slice ra rx.length rk, .slice rb ry.length rl, .bool r2, .slice rc ru.length rm, .slice rd rv.length rn]) := by rw [← hA5, ← hA4, ← hA3, ← hA2, ← hA1, ← hA0]; exact hid (box_put6 HZ0.out _ _ _ _ _ _)
  have HB5 : Hid (Below w1.heap.size w1 A5) := by rw [← hA5, ← hA4, ← hA3, ← hA2, ← hA1, ← hA0]; exact hid (below_put6 HYB.out w1.heap.size (Nat.le_refl _) _ _ _ _ _ _)
  have HP5 := hid (HP1.out.later HB5.out HP1.out.lt)
  have HR5 := hid (HR1.out.later HB5.out HR1.out.lt)
  have kp : A5.cell? ⟨p, 0, none⟩ = some (.bool bad) := HP5.out.cell 0
  have fp := HP5.out.free 0
  clear oo tt hb1 H1 HN HNB hZ ka0 ka1 ka2 ka3 ka4 ka5 kb0 kb1 kb2 kb3 kb4 kb5
  obtain ⟨D, hD⟩ : ∃ D, A5.setCell ⟨p, 0, none⟩ (.bool (bad || (code != 0))) = D := ⟨_, rfl⟩
  have HND : Hid (Box D w1.heap.size 26 #[.bool r1, .slice ra rx.length rk, .slice rb ry.length rl, .bool r2, .slice rc ru.length rm, .slice rd rv.length rn]) := by rw [← hD]; exact hid (HA5.out.other ⟨p, 0, none⟩ _ (by show w1.heap.size ≠ p; omega))
  have HRD : Hid (Box D (w.heap.size + 1 + 1) 26 #[.bool false, .slice none 0 0, .slice none 0 0, .bool false, .slice none 0 0, .slice none 0 0]) := by rw [← hD]; exact hid (HR5.out.other ⟨p, 0, none⟩ _ (by show w.heap.size + 1 + 1 ≠ p; omega))
  have HPD : Hid (Box D p 30 #[.bool (bad || (code != 0))]) := by rw [← hD]; exact hid (HP5.out.set 0 _)
  obtain ⟨n0, n1, n2', n3, n4, n5⟩ := cells6 HND.out
  obtain ⟨D0, D1, D2, D3, D4, D5, hD0, hD1, hD2, hD3, hD4, hD5, ⟨e0, e1, e2, e3, e4, e5⟩, g0, g1, g2, g3, g4, g5⟩ := gchain6 HRD.out (.bool r1) (.slice ra rx.length rk) (.slice rb ry.length rl) (.bool r2) (.slice rc ru.length rm) (.slice rd rv.length rn)
  have HFIN : Hid ((D5.ownsRow w.heap.size 62 1 (.slice ra rx.length rk) rx.length (rx.map (Value.int .u32)) ∧ D5.ownsRow w.heap.size 62 1 (.slice rb ry.length rl) ry.length (ry.map (Value.int .u32)) ∧ D5.ownsRow w.heap.size 62 1 (.slice rc ru.length rm) ru.length (ru.map (Value.int .u32)) ∧ D5.ownsRow w.heap.size 62 1 (.slice rd rv.length rn) rv.length (rv.map (Value.int .u32))) ∧ Box D5 p 30 #[.bool (bad || (code != 0))] ∧ Box D5 (w.heap.size + 1 + 1) 26 #[.bool r1, .slice ra rx.length rk, .slice rb ry.length rl, .bool r2, .slice rc ru.length rm, .slice rd rv.length rn] ∧ w.grownBy D5 (some p)) := by
    rw [← hD5, ← hD4, ← hD3, ← hD2, ← hD1, ← hD0]
    have hk : ∀ {v : Value} {k : Nat} {zs : List Value}, w1.ownsRow X.heap.size 62 1 v k zs → D.ownsRow X.heap.size 62 1 v k zs := fun h => by
      rw [← hD]; exact own_put1 (owns_later h HB5.out) p (fun g hg => by have := (h.lt g hg).1; omega) 0 _
    have hk6 : ∀ {v : Value} {k : Nat} {zs : List Value}, w1.ownsRow X.heap.size 62 1 v k zs → ((((((D.setCell ⟨w.heap.size + 1 + 1, 0, none⟩ (.bool r1)).setCell ⟨w.heap.size + 1 + 1, 1, none⟩ (.slice ra rx.length rk)).setCell ⟨w.heap.size + 1 + 1, 2, none⟩ (.slice rb ry.length rl)).setCell ⟨w.heap.size + 1 + 1, 3, none⟩ (.bool r2)).setCell ⟨w.heap.size + 1 + 1, 4, none⟩ (.slice rc ru.length rm)).setCell ⟨w.heap.size + 1 + 1, 5, none⟩ (.slice rd rv.length rn)).ownsRow w.heap.size 62 1 v k zs := fun h => owns_base (own_put6 (hk h) _ (fun g hg => by have := (h.lt g hg).1; omega) _ _ _ _ _ _) HX.out.2.2.2.size
    have hgD : w.grownBy D (some p) := by rw [← hD]; exact grow_put (grow_below (bt HX.out.2.2.2 (bt HB1.out HB5.out)) _) p 0 _ (.inr rfl)
    exact hid ⟨⟨hk6 HOO.out.1, hk6 HOO.out.2.1, hk6 HOO.out.2.2.1, hk6 HOO.out.2.2.2⟩, gbox_far6 HPD.out (by omega) _ _ _ _ _ _, box_put6 HRD.out _ _ _ _ _ _, grow_put6 hgD _ _ _ _ _ _ _ (.inl (by omega))⟩
  have hcases : (bad = true ∨ bad = false) := by cases bad <;> simp
  rcases hcases with hb' | hb'
  all_goals
    subst hb'
    simp only [Bool.true_or, Bool.false_or] at hD
    go_wp2_with fail
    refine bodyPost_ret (results_cell_row (by rfl) _ _ (w.heap.size + 1 + 1) 26 _ (0, 0) _ (by rfl) HFIN.out.2.2.1 Tryz.underlying26 rfl (by kernel_rfl)) rfl ?_
    exact ⟨r1, ra, rk, rx, rb, rl, ry, r2, rc, rm, ru, rd, rn, rv, code, rfl, HFIN.out.1, HTT.out, HFIN.out.2.1, HFIN.out.2.2.2⟩

end Go.Proofs.YtalapdhdlboknaaGreatDoor

/- Complex fractions: isNought: of any. -/
namespace Go.Proofs.YtalapdhdlboknaaGreatDoor
open Go.RowKit
set_option linter.unusedVariables false

set_option maxHeartbeats 1600000 in
set_option maxRecDepth 100000 in
theorem gisNought_any (n : Bool) (a : Option Addr) (la ca : Nat) (b : Option Addr) (lb cb : Nat) (m : Bool) (c : Option Addr) (lc cc : Nat) (d : Option Addr) (ld cd : Nat) (w : World) :
    Calls Tryz.prog 30 #[.agg #[.bool n, .slice a la ca, .slice b lb cb, .bool m, .slice c lc cc, .slice d ld cd]] w fun x w' => x = .returned (.bool (la == 0 && lc == 0)) ∧ Below w.heap.size w w' := by
  have HX := hid (Box.made w 26 #[.bool n, .slice a la ca, .slice b lb cb, .bool m, .slice c lc cc, .slice d ld cd])
  have HB := hid (alloc_later w (.cells #[.bool n, .slice a la ca, .slice b lb cb, .bool m, .slice c lc cc, .slice d ld cd] 26))
  obtain ⟨X, hX⟩ : ∃ X, w.alloc (.cells #[.bool n, .slice a la ca, .slice b lb cb, .bool m, .slice c lc cc, .slice d ld cd] 26) = X := ⟨_, rfl⟩
  rw [hX] at HX HB
  have c1 : X.cell? ⟨w.heap.size, 1, none⟩ = some (.slice a la ca) := HX.out.cell 1
  have c4 : X.cell? ⟨w.heap.size, 4, none⟩ = some (.slice c lc cc) := HX.out.cell 4
  by_cases h1 : la = 0
  · subst h1
    by_cases h2 : lc = 0
    · subst h2
      go_enter Tryz.func30, Tryz.ntmps30
      go_wp2_with fail
      go_ret
      exact ⟨rfl, HB.out⟩
    · have e2 : ((lc : Int) == 0) = false := by simp; omega
      have e3 : (lc == 0) = false := by simp [h2]
      go_enter Tryz.func30, Tryz.ntmps30
      go_wp2_with fail
      go_ret
      rw [e3]
      exact ⟨rfl, HB.out⟩
  · have e1 : ((la : Int) == 0) = false := by simp; omega
    have e3 : (la == 0) = false := by simp [h1]
    go_enter Tryz.func30, Tryz.ntmps30
    go_wp2_with fail
    go_ret
    rw [e3]
    exact ⟨rfl, HB.out⟩
end Go.Proofs.YtalapdhdlboknaaGreatDoor

/- Complex fractions: gauss.Zero: of any. -/
namespace Go.Proofs.YtalapdhdlboknaaGreatDoor
open Go.RowKit
set_option linter.unusedVariables false

set_option maxHeartbeats 1600000 in
set_option maxRecDepth 100000 in
theorem gZero_any (n : Bool) (a : Option Addr) (ca : Nat) (xs : List Int) (b : Option Addr) (cb : Nat) (ys : List Int) (m : Bool) (c : Option Addr) (cc : Nat) (us : List Int) (d : Option Addr) (cd : Nat) (vs : List Int) (w : World) (sx : Sl w (.slice a xs.length ca) xs) (sy : Sl w (.slice b ys.length cb) ys) (su : Sl w (.slice c us.length cc) us) (sv : Sl w (.slice d vs.length cd) vs) :
    Calls Tryz.prog 12 #[.agg #[.bool n, .slice a xs.length ca, .slice b ys.length cb, .bool m, .slice c us.length cc, .slice d vs.length cd]] w fun x w' => x = .returned (.bool ((xs.length == 0 && us.length == 0) && (gchk n xs ys m us vs == 0))) ∧ Below w.heap.size w w' := by
  have HX := hid (Box.made w 26 #[.bool n, .slice a xs.length ca, .slice b ys.length cb, .bool m, .slice c us.length cc, .slice d vs.length cd])
  have HB := hid (alloc_later w (.cells #[.bool n, .slice a xs.length ca, .slice b ys.length cb, .bool m, .slice c us.length cc, .slice d vs.length cd] 26))
  obtain ⟨X, hX⟩ : ∃ X, w.alloc (.cells #[.bool n, .slice a xs.length ca, .slice b ys.length cb, .bool m, .slice c us.length cc, .slice d vs.length cd] 26) = X := ⟨_, rfl⟩
  rw [hX] at HX HB
  have HN := hid (gisNought_any n a xs.length ca b ys.length cb m c us.length cc d vs.length cd X)
  have HC : Hid (∀ V, Below w.heap.size w V → Calls Tryz.prog 24 #[.agg #[.bool n, .slice a xs.length ca, .slice b ys.length cb, .bool m, .slice c us.length cc, .slice d vs.length cd]] V fun e w' => e = .returned (.int .i64 (gchk n xs ys m us vs)) ∧ Below V.heap.size V w') := hid (fun V hv => gcheck_any n _ xs _ ys m _ us _ vs V (sx.later hv) (sy.later hv) (su.later hv) (sv.later hv))
  clear sx sy su sv
  generalize (xs.length == 0 && us.length == 0) = z at *
  generalize gchk n xs ys m us vs = E at *
  have c0 : X.cell? ⟨w.heap.size, 0, none⟩ = some (.bool n) := HX.out.cell 0
  have c1 : X.cell? ⟨w.heap.size, 1, none⟩ = some (.slice a xs.length ca) := HX.out.cell 1
  have c2 : X.cell? ⟨w.heap.size, 2, none⟩ = some (.slice b ys.length cb) := HX.out.cell 2
  have c3 : X.cell? ⟨w.heap.size, 3, none⟩ = some (.bool m) := HX.out.cell 3
  have c4 : X.cell? ⟨w.heap.size, 4, none⟩ = some (.slice c us.length cc) := HX.out.cell 4
  have c5 : X.cell? ⟨w.heap.size, 5, none⟩ = some (.slice d vs.length cd) := HX.out.cell 5
  go_enter Tryz.func12, Tryz.ntmps12
  go_wp2_with fail
  refine Calls.mono HN.out ?_
  rintro x w1 ⟨rfl, hb1⟩
  have HW1 := hid (bt HB.out hb1)
  have HA1 := hid (HX.out.later hb1 HX.out.lt)
  clear c0 c1 c2 c3 c4 c5 hb1 HN
  cases z with
  | false =>
    go_wp2_with fail
    go_ret
    exact ⟨rfl, HW1.out⟩
  | true =>
    have c0 : w1.cell? ⟨w.heap.size, 0, none⟩ = some (.bool n) := HA1.out.cell 0
    have c1 : w1.cell? ⟨w.heap.size, 1, none⟩ = some (.slice a xs.length ca) := HA1.out.cell 1
    have c2 : w1.cell? ⟨w.heap.size, 2, none⟩ = some (.slice b ys.length cb) := HA1.out.cell 2
    have c3 : w1.cell? ⟨w.heap.size, 3, none⟩ = some (.bool m) := HA1.out.cell 3
    have c4 : w1.cell? ⟨w.heap.size, 4, none⟩ = some (.slice c us.length cc) := HA1.out.cell 4
    have c5 : w1.cell? ⟨w.heap.size, 5, none⟩ = some (.slice d vs.length cd) := HA1.out.cell 5
    go_wp2_with fail
    refine Calls.mono (HC.out _ HW1.out) ?_
    rintro x w2 ⟨rfl, hb2⟩
    have HW2 := hid (bt HW1.out hb2)
    clear c0 c1 c2 c3 c4 c5 hb2 HC
    go_wp2_with fail
    go_ret
    exact ⟨rfl, HW2.out⟩
end Go.Proofs.YtalapdhdlboknaaGreatDoor

/- Complex fractions: gauss.Same: of any two. -/
namespace Go.Proofs.YtalapdhdlboknaaGreatDoor
open Go.RowKit
set_option linter.unusedVariables false

set_option maxHeartbeats 3200000 in
set_option maxRecDepth 100000 in
theorem gSame_any (n : Bool) (a : Option Addr) (ca : Nat) (xs : List Int) (b : Option Addr) (cb : Nat) (ys : List Int) (m : Bool) (c : Option Addr) (cc : Nat) (us : List Int) (d : Option Addr) (cd : Nat) (vs : List Int) (n2 : Bool) (a2 : Option Addr) (ca2 : Nat) (xs2 : List Int) (b2' : Option Addr) (cb2 : Nat) (ys2 : List Int) (m2 : Bool) (c2 : Option Addr) (cc2 : Nat) (us2 : List Int) (d2 : Option Addr) (cd2 : Nat) (vs2 : List Int) (w : World) (sx : Sl w (.slice a xs.length ca) xs) (sy : Sl w (.slice b ys.length cb) ys) (su : Sl w (.slice c us.length cc) us) (sv : Sl w (.slice d vs.length cd) vs) (sx2 : Sl w (.slice a2 xs2.length ca2) xs2) (sy2 : Sl w (.slice b2' ys2.length cb2) ys2) (su2 : Sl w (.slice c2 us2.length cc2) us2) (sv2 : Sl w (.slice d2 vs2.length cd2) vs2) (lxs : xs.length ≤ 281474976710656) (lys : ys.length ≤ 281474976710656) (lus : us.length ≤ 281474976710656) (lvs : vs.length ≤ 281474976710656) (lxs2 : xs2.length ≤ 281474976710656) (lys2 : ys2.length ≤ 281474976710656) (lus2 : us2.length ≤ 281474976710656) (lvs2 : vs2.length ≤ 281474976710656) :
    Calls Tryz.prog 7 #[.agg #[.bool n, .slice a xs.length ca, .slice b ys.length cb, .bool m, .slice c us.length cc, .slice d vs.length cd], .agg #[.bool n2, .slice a2 xs2.length ca2, .slice b2' ys2.length cb2, .bool m2, .slice c2 us2.length cc2, .slice d2 vs2.length cd2]] w fun x w' => x = .returned (.bool ((decide (n = n2 ∧ xs = xs2 ∧ ys = ys2) && decide (m = m2 ∧ us = us2 ∧ vs = vs2)) && (gchk n xs ys m us vs == 0))) ∧ Below w.heap.size w w' := by
  have HX := hid (boxes2r w 26 #[.bool n, .slice a xs.length ca, .slice b ys.length cb, .bool m, .slice c us.length cc, .slice d vs.length cd] #[.bool n2, .slice a2 xs2.length ca2, .slice b2' ys2.length cb2, .bool m2, .slice c2 us2.length cc2, .slice d2 vs2.length cd2])
  obtain ⟨X, hX⟩ : ∃ X, (w.alloc (.cells #[.bool n, .slice a xs.length ca, .slice b ys.length cb, .bool m, .slice c us.length cc, .slice d vs.length cd] 26)).alloc (.cells #[.bool n2, .slice a2 xs2.length ca2, .slice b2' ys2.length cb2, .bool m2, .slice c2 us2.length cc2, .slice d2 vs2.length cd2] 26) = X := ⟨_, rfl⟩
  rw [hX] at HX
  have H1 : Hid (∀ V, Below w.heap.size w V → Calls Tryz.prog 25 #[.agg #[.bool n, .slice a xs.length ca, .slice b ys.length cb], .agg #[.bool n2, .slice a2 xs2.length ca2, .slice b2' ys2.length cb2]] V fun e w' => e = .returned (.bool (decide (n = n2 ∧ xs = xs2 ∧ ys = ys2))) ∧ Below V.heap.size V w') := hid (fun V hv => rSame_any n a ca xs b cb ys n2 a2 ca2 xs2 b2' cb2 ys2 V (sx.later hv) (sy.later hv) (sx2.later hv) (sy2.later hv) lxs lys lxs2 lys2)
  have H2 : Hid (∀ V, Below w.heap.size w V → Calls Tryz.prog 25 #[.agg #[.bool m, .slice c us.length cc, .slice d vs.length cd], .agg #[.bool m2, .slice c2 us2.length cc2, .slice d2 vs2.length cd2]] V fun e w' => e = .returned (.bool (decide (m = m2 ∧ us = us2 ∧ vs = vs2))) ∧ Below V.heap.size V w') := hid (fun V hv => rSame_any m c cc us d cd vs m2 c2 cc2 us2 d2 cd2 vs2 V (su.later hv) (sv.later hv) (su2.later hv) (sv2.later hv) lus lvs lus2 lvs2)
  have HC : Hid (∀ V, Below w.heap.size w V → Calls Tryz.prog 24 #[.agg #[.bool n, .slice a xs.length ca, .slice b ys.length cb, .bool m, .slice c us.length cc, .slice d vs.length cd]] V fun e w' => e = .returned (.int .i64 (gchk n xs ys m us vs)) ∧ Below V.heap.size V w') := hid (fun V hv => gcheck_any n _ xs _ ys m _ us _ vs V (sx.later hv) (sy.later hv) (su.later hv) (sv.later hv))
  clear sx sy su sv sx2 sy2 su2 sv2 lxs lys lus lvs lxs2 lys2 lus2 lvs2
  generalize decide (n = n2 ∧ xs = xs2 ∧ ys = ys2) = z1 at *
  generalize decide (m = m2 ∧ us = us2 ∧ vs = vs2) = z2 at *
  generalize gchk n xs ys m us vs = E at *
  have ka0 : X.cell? ⟨w.heap.size, 0, none⟩ = some (.bool n) := HX.out.1.cell 0
  have ka1 : X.cell? ⟨w.heap.size, 1, none⟩ = some (.slice a xs.length ca) := HX.out.1.cell 1
  have ka2 : X.cell? ⟨w.heap.size, 2, none⟩ = some (.slice b ys.length cb) := HX.out.1.cell 2
  have ka3 : X.cell? ⟨w.heap.size, 3, none⟩ = some (.bool m) := HX.out.1.cell 3
  have ka4 : X.cell? ⟨w.heap.size, 4, none⟩ = some (.slice c us.length cc) := HX.out.1.cell 4
  have ka5 : X.cell? ⟨w.heap.size, 5, none⟩ = some (.slice d vs.length cd) := HX.out.1.cell 5
  have kb0 : X.cell? ⟨w.heap.size + 1, 0, none⟩ = some (.bool n2) := HX.out.2.1.cell 0
  have kb1 : X.cell? ⟨w.heap.size + 1, 1, none⟩ = some (.slice a2 xs2.length ca2) := HX.out.2.1.cell 1
  have kb2 : X.cell? ⟨w.heap.size + 1, 2, none⟩ = some (.slice b2' ys2.length cb2) := HX.out.2.1.cell 2
  have kb3 : X.cell? ⟨w.heap.size + 1, 3, none⟩ = some (.bool m2) := HX.out.2.1.cell 3
  have kb4 : X.cell? ⟨w.heap.size + 1, 4, none⟩ = some (.slice c2 us2.length cc2) := HX.out.2.1.cell 4
  have kb5 : X.cell? ⟨w.heap.size + 1, 5, none⟩ = some (.slice d2 vs2.length cd2) := HX.out.2.1.cell 5
  go_enter Tryz.func7, Tryz.ntmps7
  go_wp2_with fail
  refine Calls.mono (H1.out _ HX.out.2.2) ?_
  rintro x w1 ⟨rfl, hb1⟩
  have HW1 := hid (bt HX.out.2.2 hb1)
  have HA1 := hid (HX.out.1.later hb1 HX.out.1.lt)
  have HB1 := hid (HX.out.2.1.later hb1 HX.out.2.1.lt)
  clear ka0 ka1 ka2 ka3 ka4 ka5 kb0 kb1 kb2 kb3 kb4 kb5 hb1 H1
  cases z1 with
  | false =>
    go_wp2_with fail
    go_ret
    exact ⟨rfl, HW1.out⟩
  | true =>
    have ka0 : w1.cell? ⟨w.heap.size, 0, none⟩ = some (.bool n) := HA1.out.cell 0
    have ka1 : w1.cell? ⟨w.heap.size, 1, none⟩ = some (.slice a xs.length ca) := HA1.out.cell 1
    have ka2 : w1.cell? ⟨w.heap.size, 2, none⟩ = some (.slice b ys.length cb) := HA1.out.cell 2
    have ka3 : w1.cell? ⟨w.heap.size, 3, none⟩ = some (.bool m) := HA1.out.cell 3
    have ka4 : w1.cell? ⟨w.heap.size, 4, none⟩ = some (.slice c us.length cc) := HA1.out.cell 4
    have ka5 : w1.cell? ⟨w.heap.size, 5, none⟩ = some (.slice d vs.length cd) := HA1.out.cell 5
    have kb0 : w1.cell? ⟨w.heap.size + 1, 0, none⟩ = some (.bool n2) := HB1.out.cell 0
    have kb1 : w1.cell? ⟨w.heap.size + 1, 1, none⟩ = some (.slice a2 xs2.length ca2) := HB1.out.cell 1
    have kb2 : w1.cell? ⟨w.heap.size + 1, 2, none⟩ = some (.slice b2' ys2.length cb2) := HB1.out.cell 2
    have kb3 : w1.cell? ⟨w.heap.size + 1, 3, none⟩ = some (.bool m2) := HB1.out.cell 3
    have kb4 : w1.cell? ⟨w.heap.size + 1, 4, none⟩ = some (.slice c2 us2.length cc2) := HB1.out.cell 4
    have kb5 : w1.cell? ⟨w.heap.size + 1, 5, none⟩ = some (.slice d2 vs2.length cd2) := HB1.out.cell 5
    go_wp2_with fail
    refine Calls.mono (H2.out _ HW1.out) ?_
    rintro x w2 ⟨rfl, hb2⟩
    have HW2 := hid (bt HW1.out hb2)
    have HA2 := hid (HA1.out.later hb2 HA1.out.lt)
    clear ka0 ka1 ka2 ka3 ka4 ka5 kb0 kb1 kb2 kb3 kb4 kb5 hb2 H2
    cases z2 with
    | false =>
      go_wp2_with fail
      go_ret
      exact ⟨rfl, HW2.out⟩
    | true =>
      have ka0 : w2.cell? ⟨w.heap.size, 0, none⟩ = some (.bool n) := HA2.out.cell 0
      have ka1 : w2.cell? ⟨w.heap.size, 1, none⟩ = some (.slice a xs.length ca) := HA2.out.cell 1
      have ka2 : w2.cell? ⟨w.heap.size, 2, none⟩ = some (.slice b ys.length cb) := HA2.out.cell 2
      have ka3 : w2.cell? ⟨w.heap.size, 3, none⟩ = some (.bool m) := HA2.out.cell 3
      have ka4 : w2.cell? ⟨w.heap.size, 4, none⟩ = some (.slice c us.length cc) := HA2.out.cell 4
      have ka5 : w2.cell? ⟨w.heap.size, 5, none⟩ = some (.slice d vs.length cd) := HA2.out.cell 5
      go_wp2_with fail
      refine Calls.mono (HC.out _ HW2.out) ?_
      rintro x w3 ⟨rfl, hb3⟩
      have HW3 := hid (bt HW2.out hb3)
      clear ka0 ka1 ka2 ka3 ka4 ka5 hb3 HC
      go_wp2_with fail
      go_ret
      exact ⟨rfl, HW3.out⟩
end Go.Proofs.YtalapdhdlboknaaGreatDoor

/- Complex fractions: gauss.Quo: of any two, good or refused. -/
namespace Go.Proofs.YtalapdhdlboknaaGreatDoor
open Go.RowKit
set_option linter.unusedVariables false

theorem GInv.put6 {w V : World} {p : Nat} {E : Int} {l : List (Nat × Nat × Array Value)} (h : GInv w p E l V) (b : Nat) (hb : w.heap.size ≤ b) (hp : p ≠ b) (hl : ∀ x ∈ l, x.1 ≠ b) (u0 u1 u2 u3 u4 u5 : Value) : GInv w p E l ((((((V.setCell ⟨b, 0, none⟩ u0).setCell ⟨b, 1, none⟩ u1).setCell ⟨b, 2, none⟩ u2).setCell ⟨b, 3, none⟩ u3).setCell ⟨b, 4, none⟩ u4).setCell ⟨b, 5, none⟩ u5) :=
  ⟨gbox_far6 h.err hp _ _ _ _ _ _, grow_put6 h.grown b _ _ _ _ _ _ (.inl hb), fun x hx => ⟨gbox_far6 (h.box x hx).1 (hl x hx) _ _ _ _ _ _, (h.box x hx).2⟩⟩
theorem GJ.put6 {w X V : World} {p : Nat} {E : Int} {l : List (Nat × Nat × Array Value)} (h : GJ w X p E l V) (hB : GB w X p l) (b : Nat) (hb : X.heap.size ≤ b) (u0 u1 u2 u3 u4 u5 : Value) : GJ w X p E l ((((((V.setCell ⟨b, 0, none⟩ u0).setCell ⟨b, 1, none⟩ u1).setCell ⟨b, 2, none⟩ u2).setCell ⟨b, 3, none⟩ u3).setCell ⟨b, 4, none⟩ u4).setCell ⟨b, 5, none⟩ u5) :=
  ⟨h.inv.put6 b (Nat.le_trans hB.hw hb) (by have := hB.hp; have := hB.hw; omega) (fun x hx => by have := hB.hl x hx; omega) _ _ _ _ _ _, grow_put6 h.gx b _ _ _ _ _ _ (.inl hb)⟩
/-- What times tells, inside a statement. -/
def GTm (w X : World) (p : Nat) (l : List (Nat × Nat × Array Value)) (V : World) (EE e1 e2 e3 e4 : Int) (q1 q2 q3 q4 : Rat) (x : Ending) (w' : World) : Prop :=
  ∃ n3 a3 k3 x3 b3 l3 y3 c3 n6 a6 k6 x6 b6 l6 y6 c6, x = .returned (.agg #[.bool n3, .slice a3 (List.length x3) k3, .slice b3 (List.length y3) l3, .bool n6, .slice a6 (List.length x6) k6, .slice b6 (List.length y6) l6]) ∧ Hid (G3 (· - ·) EE e1 e2 q1 q2 n3 x3 y3 c3 ∧ G3 (· + ·) c3 e3 e4 q3 q4 n6 x6 y6 c6) ∧ Hid (GJ w X p c6 l w') ∧ Hid (GRow w' V.heap.size n3 (.slice a3 (List.length x3) k3) x3 (.slice b3 (List.length y3) l3) y3 ∧ GRow w' V.heap.size n6 (.slice a6 (List.length x6) k6) x6 (.slice b6 (List.length y6) l6) y6) ∧ Hid (V.grownBy w' (some p)) ∧ X.heap.size ≤ w'.heap.size
theorem gtimesJ {w X V : World} {p : Nat} {EE e1 e2 e3 e4 : Int} {q1 q2 q3 q4 : Rat} {l : List (Nat × Nat × Array Value)} {k : Nat} {args : Array Value} (hv : GJ w X p EE l V) (H : Calls Tryz.prog k args V (GTimes V p EE e1 e2 e3 e4 q1 q2 q3 q4)) : Calls Tryz.prog k args V (GTm w X p l V EE e1 e2 e3 e4 q1 q2 q3 q4) := by
  refine Calls.mono H ?_
  rintro x w1 ⟨n3, a3, k3, x3, b3, l3, y3, c3, n6, a6, k6, x6, b6, l6, y6, c6, rfl, ⟨r3, r6⟩, t3, t6, hpb, hg, _⟩
  have hi := hv.step hpb hg
  exact ⟨n3, a3, k3, x3, b3, l3, y3, c3, n6, a6, k6, x6, b6, l6, y6, c6, rfl, hid ⟨t3, t6⟩, hid hi, hid ⟨r3, r6⟩, hid hg, hi.gx.size⟩
/-- What the statement leaves: a box with the complex fraction told. -/
def GCq (w X : World) (p : Nat) (l : List (Nat × Nat × Array Value)) (E eO : Int) (qO : Rat) (F1 F2 : Bool → List Int → List Int → Int) (e1 e2 : Int) (q1 q2 : Rat) (g1 g2 : Rat → Rat) (s : Value) (W : World) : Prop :=
  ∃ b nO xO yO cO n3 a3 k3 x3 b3 l3 y3 c3 n6 a6 k6 x6 b6 l6 y6 c6, s = .pointer (some ⟨b, 0, none⟩) ∧ X.heap.size ≤ b ∧ RTells (fstE E eO) qO nO xO yO cO ∧ G3 (· - ·) cO e1 (F1 nO xO yO) q1 (g1 (rq nO xO yO)) n3 x3 y3 c3 ∧ G3 (· + ·) c3 (F2 nO xO yO) e2 (g2 (rq nO xO yO)) q2 n6 x6 y6 c6 ∧ GInv w p c6 ((b, 26, #[.bool n3, .slice a3 (List.length x3) k3, .slice b3 (List.length y3) l3, .bool n6, .slice a6 (List.length x6) k6, .slice b6 (List.length y6) l6]) :: l) W ∧ GRow W X.heap.size n3 (.slice a3 (List.length x3) k3) x3 (.slice b3 (List.length y3) l3) y3 ∧ GRow W X.heap.size n6 (.slice a6 (List.length x6) k6) x6 (.slice b6 (List.length y6) l6) y6 ∧ X.grownBy W (some p)
theorem gcq_put {w X : World} {p : Nat} {l : List (Nat × Nat × Array Value)} {E eO : Int} {qO : Rat} {F1 F2 : Bool → List Int → List Int → Int} {e1 e2 : Int} {q1 q2 : Rat} {g1 g2 : Rat → Rat} {nO n3 n6 : Bool} {xO yO x3 y3 x6 y6 : List Int} {cO c3 c6 : Int} {a3 b3 a6 b6 : Option Addr} {k3 l3 k6 l6 : Nat} {W w4 V3 : World} {b : Nat} (hB : GB w X p l) (tO : RTells (fstE E eO) qO nO xO yO cO) (tt : G3 (· - ·) cO e1 (F1 nO xO yO) q1 (g1 (rq nO xO yO)) n3 x3 y3 c3 ∧ G3 (· + ·) c3 (F2 nO xO yO) e2 (g2 (rq nO xO yO)) q2 n6 x6 y6 c6) (j : GJ w X p c6 l W) (r4 : GRow w4 V3.heap.size n3 (.slice a3 (List.length x3) k3) x3 (.slice b3 (List.length y3) l3) y3 ∧ GRow w4 V3.heap.size n6 (.slice a6 (List.length x6) k6) x6 (.slice b6 (List.length y6) l6) y6) (hW : Below w4.heap.size w4 W) (hbx : Box W b 26 #[.bool false, .slice none 0 0, .slice none 0 0, .bool false, .slice none 0 0, .slice none 0 0]) (hb3 : b < V3.heap.size ∨ w4.heap.size ≤ b) (hXb : X.heap.size ≤ b) (hXV : X.heap.size ≤ V3.heap.size) :
    GCq w X p l E eO qO F1 F2 e1 e2 q1 q2 g1 g2 (.pointer (some ⟨b, 0, none⟩)) ((((((W.setCell ⟨b, 0, none⟩ (.bool n3)).setCell ⟨b, 1, none⟩ (.slice a3 x3.length k3)).setCell ⟨b, 2, none⟩ (.slice b3 y3.length l3)).setCell ⟨b, 3, none⟩ (.bool n6)).setCell ⟨b, 4, none⟩ (.slice a6 x6.length k6)).setCell ⟨b, 5, none⟩ (.slice b6 y6.length l6)) := by
  have hj := j.put6 hB b hXb (.bool n3) (.slice a3 x3.length k3) (.slice b3 y3.length l3) (.bool n6) (.slice a6 x6.length k6) (.slice b6 y6.length l6)
  have hk : ∀ {v : Value} {k : Nat} {zs : List Value}, w4.ownsRow V3.heap.size 62 1 v k zs → ((((((W.setCell ⟨b, 0, none⟩ (.bool n3)).setCell ⟨b, 1, none⟩ (.slice a3 x3.length k3)).setCell ⟨b, 2, none⟩ (.slice b3 y3.length l3)).setCell ⟨b, 3, none⟩ (.bool n6)).setCell ⟨b, 4, none⟩ (.slice a6 x6.length k6)).setCell ⟨b, 5, none⟩ (.slice b6 y6.length l6)).ownsRow X.heap.size 62 1 v k zs := fun h => owns_base (own_put6 (owns_later h hW) b (fun g hg => by have := h.lt g hg; omega) _ _ _ _ _ _) hXV
  exact ⟨b, nO, xO, yO, cO, n3, a3, k3, x3, b3, l3, y3, c3, n6, a6, k6, x6, b6, l6, y6, c6, rfl, hXb, tO, tt.1, tt.2, hj.inv.more (box_put6 hbx _ _ _ _ _ _) (by have := hB.hp; have := hB.hw; omega), ⟨hk r4.1.ov, hk r4.1.ou⟩, ⟨hk r4.2.ov, hk r4.2.ou⟩, hj.gx⟩
theorem gchainJ {w X W A0 A1 A2 A3 A4 A5 : World} {p : Nat} {E : Int} {l : List (Nat × Nat × Array Value)} {b : Nat} {v0 v1 v2 v3 v4 v5 : Value} (h : GJ w X p E l W) (hB : GB w X p l) (hb : X.heap.size ≤ b) (h0 : W.setCell ⟨b, 0, none⟩ v0 = A0) (h1 : A0.setCell ⟨b, 1, none⟩ v1 = A1) (h2 : A1.setCell ⟨b, 2, none⟩ v2 = A2) (h3 : A2.setCell ⟨b, 3, none⟩ v3 = A3) (h4 : A3.setCell ⟨b, 4, none⟩ v4 = A4) (h5 : A4.setCell ⟨b, 5, none⟩ v5 = A5) : GJ w X p E l A5 := by
  subst h0 h1 h2 h3 h4 h5
  exact h.put6 hB b hb _ _ _ _ _ _
theorem gbox_d {Y w3 : World} {T p : Nat} {Z : Array Value} (g : ((Y.alloc (.cells Z T)).drew).grownBy w3 (some p)) (hp : p < Y.heap.size) : Box w3 Y.heap.size T Z := (show Box ((Y.alloc (.cells Z T)).drew) Y.heap.size T Z from Box.made Y T Z).kept' g (some_ne hp)
theorem gbox_a {Y w3 : World} {T p : Nat} {Z : Array Value} (g : (Y.alloc (.cells Z T)).grownBy w3 (some p)) (hp : p < Y.heap.size) : Box w3 Y.heap.size T Z := (Box.made Y T Z).kept' g (some_ne hp)
theorem gbox_k {V W : World} {b T p : Nat} {Z : Array Value} (h : Box V b T Z) (g : V.grownBy W (some p)) (hp : p < b) : Box W b T Z := h.kept' g (some_ne hp)
theorem gbox_l (Y : World) (T : Nat) (Z : Array Value) : Box (Y.alloc (.cells Z T)) Y.heap.size T Z := Box.made Y T Z
theorem G3.wd {op : Rat → Rat → Rat} {E e1 e2 : Int} {q1 q2 : Rat} {n3 : Bool} {x3 y3 : List Int} {c3 : Int} (h : G3 op E e1 e2 q1 q2 n3 x3 y3 c3) : Wd x3 ∧ Wd y3 := by
  obtain ⟨_, _, _, _, _, _, _, _, _, _, t⟩ := h
  exact ⟨t.wx, t.wy⟩
theorem box6f {W : World} {b t : Nat} {u0 u1 u2 u3 u4 u5 : Value} (h : Box W b t #[u0, u1, u2, u3, u4, u5]) : (W.cell? ⟨b, 0, none⟩ = some u0 ∧ W.cell? ⟨b, 1, none⟩ = some u1 ∧ W.cell? ⟨b, 2, none⟩ = some u2 ∧ W.cell? ⟨b, 3, none⟩ = some u3 ∧ W.cell? ⟨b, 4, none⟩ = some u4 ∧ W.cell? ⟨b, 5, none⟩ = some u5) ∧ (W.frozen? ⟨b, 0, none⟩ = false ∧ W.frozen? ⟨b, 1, none⟩ = false ∧ W.frozen? ⟨b, 2, none⟩ = false ∧ W.frozen? ⟨b, 3, none⟩ = false ∧ W.frozen? ⟨b, 4, none⟩ = false ∧ W.frozen? ⟨b, 5, none⟩ = false) := ⟨⟨h.cell 0, h.cell 1, h.cell 2, h.cell 3, h.cell 4, h.cell 5⟩, h.free 0, h.free 1, h.free 2, h.free 3, h.free 4, h.free 5⟩

theorem GInv.belowed {w V V' : World} {p : Nat} {E : Int} {l : List (Nat × Nat × Array Value)} (h : GInv w p E l V) (hb : Below V.heap.size V V') : GInv w p E l V' := ⟨h.err.later hb h.err.lt, grow_trans h.grown (grow_below hb _), fun x hx => ⟨(h.box x hx).1.later hb (h.box x hx).1.lt, (h.box x hx).2⟩⟩
set_option maxHeartbeats 6400000 in
set_option maxRecDepth 100000 in
theorem gQuo_go (n : Bool) (a : Option Addr) (ca : Nat) (xs : List Int) (b : Option Addr) (cb : Nat) (ys : List Int) (m : Bool) (c : Option Addr) (cc : Nat) (us : List Int) (d : Option Addr) (cd : Nat) (vs : List Int) (n2 : Bool) (a2 : Option Addr) (ca2 : Nat) (xs2 : List Int) (b2' : Option Addr) (cb2 : Nat) (ys2 : List Int) (m2 : Bool) (c2 : Option Addr) (cc2 : Nat) (us2 : List Int) (d2 : Option Addr) (cd2 : Nat) (vs2 : List Int) (w : World) (sx : Sl w (.slice a xs.length ca) xs) (sy : Sl w (.slice b ys.length cb) ys) (su : Sl w (.slice c us.length cc) us) (sv : Sl w (.slice d vs.length cd) vs) (sx2 : Sl w (.slice a2 xs2.length ca2) xs2) (sy2 : Sl w (.slice b2' ys2.length cb2) ys2) (su2 : Sl w (.slice c2 us2.length cc2) us2) (sv2 : Sl w (.slice d2 vs2.length cd2) vs2) (hz : ¬ (fstE (gchk n xs ys m us vs) (gchk n2 xs2 ys2 m2 us2 vs2) = 0 ∧ xs2.length = 0 ∧ us2.length = 0)) :
    Calls Tryz.prog 11 #[.agg #[.bool n, .slice a xs.length ca, .slice b ys.length cb, .bool m, .slice c us.length cc, .slice d vs.length cd], .agg #[.bool n2, .slice a2 xs2.length ca2, .slice b2' ys2.length cb2, .bool m2, .slice c2 us2.length cc2, .slice d2 vs2.length cd2]] w (GTold w (fstE (gchk n xs ys m us vs) (gchk n2 xs2 ys2 m2 us2 vs2)) (qlong (rq n xs ys) (rq m us vs) (rq n2 xs2 ys2) (rq m2 us2 vs2) ∨ rlong ((rq n xs ys * -(rq m2 us2 vs2) + rq m us vs * rq n2 xs2 ys2) / (rq n2 xs2 ys2 * rq n2 xs2 ys2 + rq m2 us2 vs2 * rq m2 us2 vs2))) ((rq n xs ys * rq n2 xs2 ys2 - rq m us vs * -(rq m2 us2 vs2)) / (rq n2 xs2 ys2 * rq n2 xs2 ys2 + rq m2 us2 vs2 * rq m2 us2 vs2)) ((rq n xs ys * -(rq m2 us2 vs2) + rq m us vs * rq n2 xs2 ys2) / (rq n2 xs2 ys2 * rq n2 xs2 ys2 + rq m2 us2 vs2 * rq m2 us2 vs2))) := by
  have HX := hid (boxes3r w 26 #[.bool n, .slice a xs.length ca, .slice b ys.length cb, .bool m, .slice c us.length cc, .slice d vs.length cd] #[.bool n2, .slice a2 xs2.length ca2, .slice b2' ys2.length cb2, .bool m2, .slice c2 us2.length cc2, .slice d2 vs2.length cd2] #[.bool false, .slice none 0 0, .slice none 0 0, .bool false, .slice none 0 0, .slice none 0 0])
  obtain ⟨X, hX⟩ : ∃ X, ((w.alloc (.cells #[.bool n, .slice a xs.length ca, .slice b ys.length cb, .bool m, .slice c us.length cc, .slice d vs.length cd] 26)).alloc (.cells #[.bool n2, .slice a2 xs2.length ca2, .slice b2' ys2.length cb2, .bool m2, .slice c2 us2.length cc2, .slice d2 vs2.length cd2] 26)).alloc (.cells #[.bool false, .slice none 0 0, .slice none 0 0, .bool false, .slice none 0 0, .slice none 0 0] 26) = X := ⟨_, rfl⟩
  rw [hX] at HX
  have HY := hid (Box.made X 26 #[.bool n, .slice a xs.length ca, .slice b ys.length cb, .bool m, .slice c us.length cc, .slice d vs.length cd, .bool n2, .slice a2 xs2.length ca2, .slice b2' ys2.length cb2, .bool m2, .slice c2 us2.length cc2, .slice d2 vs2.length cd2])
  have HYB := hid (alloc_later X (.cells #[.bool n, .slice a xs.length ca, .slice b ys.length cb, .bool m, .slice c us.length cc, .slice d vs.length cd, .bool n2, .slice a2 xs2.length ca2, .slice b2' ys2.length cb2, .bool m2, .slice c2 us2.length cc2, .slice d2 vs2.length cd2] 26))
  obtain ⟨Y, hY⟩ : ∃ Y, X.alloc (.cells #[.bool n, .slice a xs.length ca, .slice b ys.length cb, .bool m, .slice c us.length cc, .slice d vs.length cd, .bool n2, .slice a2 xs2.length ca2, .slice b2' ys2.length cb2, .bool m2, .slice c2 us2.length cc2, .slice d2 vs2.length cd2] 26) = Y := ⟨_, rfl⟩
  rw [hY] at HY HYB
  have HWY := hid (bt HX.out.2.2.2 HYB.out)
  have HL := hid (glookAt2_any X.heap.size n a ca xs b cb ys m c cc us d cd vs n2 a2 ca2 xs2 b2' cb2 ys2 m2 c2 cc2 us2 d2 cd2 vs2 Y HY.out (sx.later HWY.out) (sy.later HWY.out) (su.later HWY.out) (sv.later HWY.out) (sx2.later HWY.out) (sy2.later HWY.out) (su2.later HWY.out) (sv2.later HWY.out))
  have wx2 := sx2.wd
  have wy2 := sy2.wd
  have wu2 := su2.wd
  have wv2 := sv2.wd
  have HZ1 : Hid (fstE (gchk n xs ys m us vs) (gchk n2 xs2 ys2 m2 us2 vs2) = 0 → (rchk n xs ys = 0 ∧ rchk m us vs = 0) ∧ (rchk n2 xs2 ys2 = 0 ∧ rchk m2 us2 vs2 = 0) ∧ ¬ (rq n2 xs2 ys2 = 0 ∧ rq m2 us2 vs2 = 0)) := fun h => by
    obtain ⟨h1, h2⟩ := fstE_ok h
    refine ⟨gchk_ok h1, gchk_ok h2, fun e => hz ⟨h, ?_, ?_⟩⟩
    · exact Classical.byContradiction (fun c => grq_ne wx2 wy2 (gchk_ok h2).1 (fun e => c (by rw [e]; rfl)) e.1)
    · exact Classical.byContradiction (fun c => grq_ne wu2 wv2 (gchk_ok h2).2 (fun e => c (by rw [e]; rfl)) e.2)
  have HSS : Hid (∀ V, Below w.heap.size w V → Sl V (.slice a xs.length ca) xs ∧ Sl V (.slice b ys.length cb) ys ∧ Sl V (.slice c us.length cc) us ∧ Sl V (.slice d vs.length cd) vs ∧ Sl V (.slice a2 xs2.length ca2) xs2 ∧ Sl V (.slice b2' ys2.length cb2) ys2 ∧ Sl V (.slice c2 us2.length cc2) us2 ∧ Sl V (.slice d2 vs2.length cd2) vs2) := fun V hw => ⟨sx.later hw, sy.later hw, su.later hw, sv.later hw, sx2.later hw, sy2.later hw, su2.later hw, sv2.later hw⟩
  have hzE : fstE (gchk n xs ys m us vs) (gchk n2 xs2 ys2 m2 us2 vs2) = 0 → ¬ (xs2.length = 0 ∧ us2.length = 0) := fun h e => hz ⟨h, e⟩
  generalize fstE (gchk n xs ys m us vs) (gchk n2 xs2 ys2 m2 us2 vs2) = E0 at *
  clear sx sy su sv sx2 sy2 su2 sv2 hz wx2 wy2 wu2 wv2
  have ka0 : X.cell? ⟨w.heap.size, 0, none⟩ = some (.bool n) := HX.out.1.cell 0
  have ka1 : X.cell? ⟨w.heap.size, 1, none⟩ = some (.slice a xs.length ca) := HX.out.1.cell 1
  have ka2 : X.cell? ⟨w.heap.size, 2, none⟩ = some (.slice b ys.length cb) := HX.out.1.cell 2
  have ka3 : X.cell? ⟨w.heap.size, 3, none⟩ = some (.bool m) := HX.out.1.cell 3
  have ka4 : X.cell? ⟨w.heap.size, 4, none⟩ = some (.slice c us.length cc) := HX.out.1.cell 4
  have ka5 : X.cell? ⟨w.heap.size, 5, none⟩ = some (.slice d vs.length cd) := HX.out.1.cell 5
  have kb0 : X.cell? ⟨w.heap.size + 1, 0, none⟩ = some (.bool n2) := HX.out.2.1.cell 0
  have kb1 : X.cell? ⟨w.heap.size + 1, 1, none⟩ = some (.slice a2 xs2.length ca2) := HX.out.2.1.cell 1
  have kb2 : X.cell? ⟨w.heap.size + 1, 2, none⟩ = some (.slice b2' ys2.length cb2) := HX.out.2.1.cell 2
  have kb3 : X.cell? ⟨w.heap.size + 1, 3, none⟩ = some (.bool m2) := HX.out.2.1.cell 3
  have kb4 : X.cell? ⟨w.heap.size + 1, 4, none⟩ = some (.slice c2 us2.length cc2) := HX.out.2.1.cell 4
  have kb5 : X.cell? ⟨w.heap.size + 1, 5, none⟩ = some (.slice d2 vs2.length cd2) := HX.out.2.1.cell 5
  have HZE := hid hzE
  clear hzE
  go_enter Tryz.func11, Tryz.ntmps11
  go_wp2_with fail
  refine Calls.mono HL.out ?_
  rintro x w1 ⟨p, rfl, hpl, hpb, hb1⟩
  have HW1 := hid (bt HWY.out hb1)
  have hpX0 : X.heap.size < p := Nat.lt_of_lt_of_le HY.out.lt hpl
  have hrX : w.heap.size + 1 + 1 < X.heap.size := HX.out.2.2.1.lt
  have HI : Hid (GInv w1 p E0 ((w.heap.size, 26, #[.bool n, .slice a xs.length ca, .slice b ys.length cb, .bool m, .slice c us.length cc, .slice d vs.length cd]) :: (w.heap.size + 1, 26, #[.bool n2, .slice a2 xs2.length ca2, .slice b2' ys2.length cb2, .bool m2, .slice c2 us2.length cc2, .slice d2 vs2.length cd2]) :: (w.heap.size + 1 + 1, 26, #[.bool false, .slice none 0 0, .slice none 0 0, .bool false, .slice none 0 0, .slice none 0 0]) :: []) w1) := hid (GInv.more (GInv.more (GInv.more ⟨hpb, ⟨rfl, rfl, rfl, Nat.le_refl _, fun _ _ _ => rfl⟩, fun x hx => by cases hx⟩ (HX.out.2.2.1.later (bt HYB.out hb1) HX.out.2.2.1.lt) (by omega)) (HX.out.2.1.later (bt HYB.out hb1) HX.out.2.1.lt) (by omega)) (HX.out.1.later (bt HYB.out hb1) HX.out.1.lt) (by omega))
  have HSV : Hid (∀ V, w1.grownBy V (some p) → Sl V (.slice a xs.length ca) xs ∧ Sl V (.slice b ys.length cb) ys ∧ Sl V (.slice c us.length cc) us ∧ Sl V (.slice d vs.length cd) vs ∧ Sl V (.slice a2 xs2.length ca2) xs2 ∧ Sl V (.slice b2' ys2.length cb2) ys2 ∧ Sl V (.slice c2 us2.length cc2) us2 ∧ Sl V (.slice d2 vs2.length cd2) vs2) := hid (fun V hV => HSS.out V (HW1.out.grown hV HW1.out.size (fun q hq => by have e := Option.some.inj hq; omega)))
  have hp1 : p < w1.heap.size := hpb.lt
  have kp : w1.cell? ⟨p, 0, none⟩ = some (.int .i64 E0) := hpb.cell 0
  have HPW := hid hp1
  clear hpb hb1 hpl HL HSS ka0 ka1 ka2 ka3 ka4 ka5 kb0 kb1 kb2 kb3 kb4 kb5
  obtain ⟨kb0, kb1, kb2, kb3, kb4, kb5⟩ := cells6 (HI.out.box _ (List.mem_cons_of_mem _ (List.mem_cons_self ..))).1
  go_upto_region 2 with fail
  go_cut [23] from 15 (fun s wx => s = .bool false ∧ Hid (GInv w1 p E0 ((w.heap.size, 26, #[.bool n, .slice a xs.length ca, .slice b ys.length cb, .bool m, .slice c us.length cc, .slice d vs.length cd]) :: (w.heap.size + 1, 26, #[.bool n2, .slice a2 xs2.length ca2, .slice b2' ys2.length cb2, .bool m2, .slice c2 us2.length cc2, .slice d2 vs2.length cd2]) :: (w.heap.size + 1 + 1, 26, #[.bool false, .slice none 0 0, .slice none 0 0, .bool false, .slice none 0 0, .slice none 0 0]) :: []) wx))
  case first =>
    by_cases hE : E0 = 0
    · subst hE
      have hnn : (xs2.length == 0 && us2.length == 0) = false := by have := HZE.out rfl; simp only [Bool.and_eq_false_iff, beq_eq_false_iff_ne]; omega
      have HIS := hid (gisNought_any n2 a2 xs2.length ca2 b2' ys2.length cb2 m2 c2 us2.length cc2 d2 vs2.length cd2 w1)
      rw [hnn] at HIS
      clear hnn
      go_wp2_with fail
      refine Calls.mono HIS.out ?_
      rintro x wI ⟨rfl, hbI⟩
      have HBI := hid hbI
      clear hbI
      go_wp2_with fail
      go_meet
      exact ⟨rfl, hid (HI.out.belowed HBI.out)⟩
    · have hE' : (E0 == 0) = false := by simp [hE]
      go_wp2_with fail
      go_meet
      exact ⟨rfl, HI⟩
  case rest =>
    obtain ⟨rfl, HI0⟩ := hcut
    clear kb0 kb1 kb2 kb3 kb4 kb5 kp HI
    obtain ⟨kb0, kb1, kb2, kb3, kb4, kb5⟩ := cells6 (HI0.out.box _ (List.mem_cons_of_mem _ (List.mem_cons_self ..))).1
    have HSQ := hid (gsquare_any p E0 n2 a2 ca2 xs2 b2' cb2 ys2 m2 c2 cc2 us2 d2 cd2 vs2 wc HI0.out.err (fun U hU => by
      have h := HSV.out U (grow_trans HI0.out.grown hU)
      exact ⟨h.2.2.2.2.1, h.2.2.2.2.2.1, h.2.2.2.2.2.2.1, h.2.2.2.2.2.2.2⟩))
    go_wp2_with fail
    refine Calls.mono HSQ.out ?_
    rintro x w2 ⟨n1', x1', y1', c1', n2', x2', y2', c2', t1', t2', nN, vN, xN, uN, yN, cN, rfl, ovN, ouN, tN, hpN, hgN, _⟩
    obtain ⟨aN, kN, rfl⟩ := own_slice' ovN
    obtain ⟨bN, lN, rfl⟩ := own_slice' ouN
    have HTN : Hid (G3 (· + ·) E0 (rboth n2 xs2 ys2 n2 xs2 ys2) (rboth m2 us2 vs2 m2 us2 vs2) (rq n2 xs2 ys2 * rq n2 xs2 ys2) (rq m2 us2 vs2 * rq m2 us2 vs2) nN xN yN cN) := hid ⟨n1', x1', y1', c1', n2', x2', y2', c2', t1', t2', tN⟩
    have HWN := hid (And.intro tN.wx tN.wy)
    have HI1 : Hid (GInv w1 p cN ((w2.heap.size, 24, #[.bool nN, .slice aN xN.length kN, .slice bN yN.length lN]) :: (w.heap.size, 26, #[.bool n, .slice a xs.length ca, .slice b ys.length cb, .bool m, .slice c us.length cc, .slice d vs.length cd]) :: (w.heap.size + 1, 26, #[.bool n2, .slice a2 xs2.length ca2, .slice b2' ys2.length cb2, .bool m2, .slice c2 us2.length cc2, .slice d2 vs2.length cd2]) :: (w.heap.size + 1 + 1, 26, #[.bool false, .slice none 0 0, .slice none 0 0, .bool false, .slice none 0 0, .slice none 0 0]) :: []) (w2.alloc (.cells #[.bool nN, .slice aN xN.length kN, .slice bN yN.length lN] 24))) := hid (((HI0.out.step hpN hgN).alloc _).more (Box.made w2 _ _) (by have := (HI0.out.step hpN hgN).grown.size; omega))
    have HRN : Hid (GRow (w2.alloc (.cells #[.bool nN, .slice aN xN.length kN, .slice bN yN.length lN] 24)) w1.heap.size nN (.slice aN xN.length kN) xN (.slice bN yN.length lN) yN) := hid ((GRow.mk (owns_base ovN HI0.out.grown.size) (owns_base ouN HI0.out.grown.size)).step hp1 (World.grownBy_alloc _ _ _))
    obtain ⟨Y5, hY5⟩ : ∃ Y5, w2.alloc (.cells #[.bool nN, .slice aN xN.length kN, .slice bN yN.length lN] 24) = Y5 := ⟨_, rfl⟩
    rw [hY5] at HI1 HRN
    clear HSQ t1' t2' tN ovN ouN hpN hgN HI0 kb0 kb1 kb2 kb3 kb4 kb5
    have HK : Hid (∀ V EE, GJ w1 Y5 p EE ((w2.heap.size, 24, #[.bool nN, .slice aN xN.length kN, .slice bN yN.length lN]) :: (w.heap.size, 26, #[.bool n, .slice a xs.length ca, .slice b ys.length cb, .bool m, .slice c us.length cc, .slice d vs.length cd]) :: (w.heap.size + 1, 26, #[.bool n2, .slice a2 xs2.length ca2, .slice b2' ys2.length cb2, .bool m2, .slice c2 us2.length cc2, .slice d2 vs2.length cd2]) :: (w.heap.size + 1 + 1, 26, #[.bool false, .slice none 0 0, .slice none 0 0, .bool false, .slice none 0 0, .slice none 0 0]) :: []) V → V.cell? ⟨w.heap.size, 0, none⟩ = some (.bool n) ∧ V.cell? ⟨w.heap.size, 1, none⟩ = some (.slice a xs.length ca) ∧ V.cell? ⟨w.heap.size, 2, none⟩ = some (.slice b ys.length cb) ∧ V.cell? ⟨w.heap.size, 3, none⟩ = some (.bool m) ∧ V.cell? ⟨w.heap.size, 4, none⟩ = some (.slice c us.length cc) ∧ V.cell? ⟨w.heap.size, 5, none⟩ = some (.slice d vs.length cd) ∧ V.cell? ⟨w.heap.size + 1, 0, none⟩ = some (.bool n2) ∧ V.cell? ⟨w.heap.size + 1, 1, none⟩ = some (.slice a2 xs2.length ca2) ∧ V.cell? ⟨w.heap.size + 1, 2, none⟩ = some (.slice b2' ys2.length cb2) ∧ V.cell? ⟨w.heap.size + 1, 3, none⟩ = some (.bool m2) ∧ V.cell? ⟨w.heap.size + 1, 4, none⟩ = some (.slice c2 us2.length cc2) ∧ V.cell? ⟨w.heap.size + 1, 5, none⟩ = some (.slice d2 vs2.length cd2)) := hid (fun V EE hv => by
      obtain ⟨g0, g1, g2, g3, g4, g5⟩ := cells6 (hv.inv.box _ (List.mem_cons_of_mem _ (List.mem_cons_self ..))).1
      obtain ⟨i0, i1, i2, i3, i4, i5⟩ := cells6 (hv.inv.box _ (List.mem_cons_of_mem _ (List.mem_cons_of_mem _ (List.mem_cons_self ..)))).1
      exact ⟨g0, g1, g2, g3, g4, g5, i0, i1, i2, i3, i4, i5⟩)
    have H1 : Hid (∀ V EE, GJ w1 Y5 p EE ((w2.heap.size, 24, #[.bool nN, .slice aN xN.length kN, .slice bN yN.length lN]) :: (w.heap.size, 26, #[.bool n, .slice a xs.length ca, .slice b ys.length cb, .bool m, .slice c us.length cc, .slice d vs.length cd]) :: (w.heap.size + 1, 26, #[.bool n2, .slice a2 xs2.length ca2, .slice b2' ys2.length cb2, .bool m2, .slice c2 us2.length cc2, .slice d2 vs2.length cd2]) :: (w.heap.size + 1 + 1, 26, #[.bool false, .slice none 0 0, .slice none 0 0, .bool false, .slice none 0 0, .slice none 0 0]) :: []) V → Calls Tryz.prog 33 #[.pointer (some ⟨p, 0, none⟩), .agg #[.bool m2, .slice c2 us2.length cc2, .slice d2 vs2.length cd2]] V (GStp w1 Y5 p ((w2.heap.size, 24, #[.bool nN, .slice aN xN.length kN, .slice bN yN.length lN]) :: (w.heap.size, 26, #[.bool n, .slice a xs.length ca, .slice b ys.length cb, .bool m, .slice c us.length cc, .slice d vs.length cd]) :: (w.heap.size + 1, 26, #[.bool n2, .slice a2 xs2.length ca2, .slice b2' ys2.length cb2, .bool m2, .slice c2 us2.length cc2, .slice d2 vs2.length cd2]) :: (w.heap.size + 1 + 1, 26, #[.bool false, .slice none 0 0, .slice none 0 0, .bool false, .slice none 0 0, .slice none 0 0]) :: []) V (fstE EE (rchk m2 us2 vs2)) (-(rq m2 us2 vs2)))) := hid (fun V EE hv => by
      have h := HSV.out V hv.inv.grown
      exact gstp hv (gopposite_any p EE m2 c2 cc2 us2 d2 cd2 vs2 V hv.inv.err h.2.2.2.2.2.2.1 h.2.2.2.2.2.2.2))
    have H2 : Hid (∀ (V : World) (EE : Int) (nO : Bool) (aO : Option Addr) (kO : Nat) (xO : List Int) (bO : Option Addr) (lO : Nat) (yO : List Int), GJ w1 Y5 p EE ((w2.heap.size, 24, #[.bool nN, .slice aN xN.length kN, .slice bN yN.length lN]) :: (w.heap.size, 26, #[.bool n, .slice a xs.length ca, .slice b ys.length cb, .bool m, .slice c us.length cc, .slice d vs.length cd]) :: (w.heap.size + 1, 26, #[.bool n2, .slice a2 xs2.length ca2, .slice b2' ys2.length cb2, .bool m2, .slice c2 us2.length cc2, .slice d2 vs2.length cd2]) :: (w.heap.size + 1 + 1, 26, #[.bool false, .slice none 0 0, .slice none 0 0, .bool false, .slice none 0 0, .slice none 0 0]) :: []) V → (∀ U, V.grownBy U (some p) → Sl U (.slice aO xO.length kO) xO ∧ Sl U (.slice bO yO.length lO) yO) → Calls Tryz.prog 32 #[.pointer (some ⟨p, 0, none⟩), .agg #[.bool n, .slice a xs.length ca, .slice b ys.length cb, .bool m, .slice c us.length cc, .slice d vs.length cd], .agg #[.bool n2, .slice a2 xs2.length ca2, .slice b2' ys2.length cb2, .bool nO, .slice aO xO.length kO, .slice bO yO.length lO]] V (GTm w1 Y5 p ((w2.heap.size, 24, #[.bool nN, .slice aN xN.length kN, .slice bN yN.length lN]) :: (w.heap.size, 26, #[.bool n, .slice a xs.length ca, .slice b ys.length cb, .bool m, .slice c us.length cc, .slice d vs.length cd]) :: (w.heap.size + 1, 26, #[.bool n2, .slice a2 xs2.length ca2, .slice b2' ys2.length cb2, .bool m2, .slice c2 us2.length cc2, .slice d2 vs2.length cd2]) :: (w.heap.size + 1 + 1, 26, #[.bool false, .slice none 0 0, .slice none 0 0, .bool false, .slice none 0 0, .slice none 0 0]) :: []) V EE (rboth n xs ys n2 xs2 ys2) (rboth m us vs nO xO yO) (rboth n xs ys nO xO yO) (rboth m us vs n2 xs2 ys2) (rq n xs ys * rq n2 xs2 ys2) (rq m us vs * rq nO xO yO) (rq n xs ys * rq nO xO yO) (rq m us vs * rq n2 xs2 ys2))) := hid (fun V EE nO aO kO xO bO lO yO hv ho => gtimesJ hv (gtimes_any p EE n a ca xs b cb ys m c cc us d cd vs n2 a2 ca2 xs2 b2' cb2 ys2 nO aO kO xO bO lO yO V hv.inv.err (fun U hU => by
      have h := HSV.out U (grow_trans hv.inv.grown hU)
      exact ⟨h.1, h.2.1, h.2.2.1, h.2.2.2.1, h.2.2.2.2.1, h.2.2.2.2.2.1, (ho U hU).1, (ho U hU).2⟩)))
    have HGB := hid (GInv.base HI1.out HPW.out)
    have HD := hid (GJ.first HI1.out)
    have HD0 := hid (GJ.start HI1.out)
    have hs0 := HK.out _ _ HD.out
    have hwX : w1.heap.size ≤ Y5.heap.size := HGB.out.hw
    have hpX : p < Y5.heap.size := Nat.lt_of_lt_of_le HPW.out hwX
    go_upto_region 5 with fail
    go_cut [8] from 28 (fun s wx => Hid (GCq w1 Y5 p ((w2.heap.size, 24, #[.bool nN, .slice aN xN.length kN, .slice bN yN.length lN]) :: (w.heap.size, 26, #[.bool n, .slice a xs.length ca, .slice b ys.length cb, .bool m, .slice c us.length cc, .slice d vs.length cd]) :: (w.heap.size + 1, 26, #[.bool n2, .slice a2 xs2.length ca2, .slice b2' ys2.length cb2, .bool m2, .slice c2 us2.length cc2, .slice d2 vs2.length cd2]) :: (w.heap.size + 1 + 1, 26, #[.bool false, .slice none 0 0, .slice none 0 0, .bool false, .slice none 0 0, .slice none 0 0]) :: []) cN (rchk m2 us2 vs2) (-(rq m2 us2 vs2)) (fun nO xO yO => rboth m us vs nO xO yO) (fun nO xO yO => rboth n xs ys nO xO yO) (rboth n xs ys n2 xs2 ys2) (rboth m us vs n2 xs2 ys2) (rq n xs ys * rq n2 xs2 ys2) (rq m us vs * rq n2 xs2 ys2) (fun q => rq m us vs * q) (fun q => rq n xs ys * q) s wx))
    case first =>
      go_region_held3 (fun V : World => V.cell? ⟨w.heap.size, 0, none⟩ = some (.bool n) ∧ V.cell? ⟨w.heap.size, 1, none⟩ = some (.slice a xs.length ca) ∧ V.cell? ⟨w.heap.size, 2, none⟩ = some (.slice b ys.length cb) ∧ V.cell? ⟨w.heap.size, 3, none⟩ = some (.bool m) ∧ V.cell? ⟨w.heap.size, 4, none⟩ = some (.slice c us.length cc) ∧ V.cell? ⟨w.heap.size, 5, none⟩ = some (.slice d vs.length cd) ∧ V.cell? ⟨w.heap.size + 1, 0, none⟩ = some (.bool n2) ∧ V.cell? ⟨w.heap.size + 1, 1, none⟩ = some (.slice a2 xs2.length ca2) ∧ V.cell? ⟨w.heap.size + 1, 2, none⟩ = some (.slice b2' ys2.length cb2) ∧ V.cell? ⟨w.heap.size + 1, 3, none⟩ = some (.bool m2) ∧ V.cell? ⟨w.heap.size + 1, 4, none⟩ = some (.slice c2 us2.length cc2) ∧ V.cell? ⟨w.heap.size + 1, 5, none⟩ = some (.slice d2 vs2.length cd2)) (first | with_reducible exact hs4 | with_reducible exact hs3 | with_reducible exact hs2 | with_reducible exact hs1 | with_reducible exact hs0 | with_reducible exact HK.out _ _ (j1.out.alloc _) | with_reducible exact HK.out _ _ (HD0.out.alloc _) | with_reducible exact HK.out _ _ (HD0.out.alloc _).drew | with_reducible exact HK.out _ _ (HD.out.alloc _))
        (first
          | (go_at_call 33; (with_reducible refine Calls.mono (H1.out _ cN (by first | exact HD.out | exact (HD0.out.alloc _).drew)) ?_); rintro x w3 ⟨nO, aO, kO, xO, bO, lO, yO, cO, rfl, t1, j1, r1, rv1, g1, cut1, z1⟩; have hs1 := HK.out _ _ j1.out; clear hs0)
          | (go_at_call 32; (with_reducible refine Calls.mono (H2.out _ cO nO aO kO xO bO lO yO (by first | exact j1.out | exact j1.out.alloc _) (by first | exact fun U hU => (r1.out.step hpX hU).sl t1.out.wx t1.out.wy | exact fun U hU => (r1.out.step hpX (grow_trans (World.grownBy_alloc _ _ _) hU)).sl t1.out.wx t1.out.wy)) ?_); rintro x w4 ⟨n3, a3, k3, x3, b3, l3, y3, c3, n6, a6, k6, x6, b6, l6, y6, c6, rfl, tt, j2, r2, g2, z2⟩; have hs2 := HK.out _ _ j2.out; clear hs1; (first | (with_reducible have HQ2 := hid (gbox_d g1.out hpX); have HQ := hid (gbox_k HQ2.out g2.out hpX); obtain ⟨A0, A1, A2, A3, A4, A5, hA0, hA1, hA2, hA3, hA4, hA5, ⟨q0, q1, q2, q3, q4, q5⟩, f0, f1, f2, f3, f4, f5⟩ := gchain6 HQ.out (.bool n3) (.slice a3 x3.length k3) (.slice b3 y3.length l3) (.bool n6) (.slice a6 x6.length k6) (.slice b6 y6.length l6); have J6 := hid (gchainJ j2.out HGB.out (Nat.le_refl _) hA0 hA1 hA2 hA3 hA4 hA5); have hs4 := HK.out _ _ J6.out) | (with_reducible have HQ := hid (gbox_a g2.out (Nat.lt_of_lt_of_le hpX z1)); have HQ2 := hid (gbox_l w3 26 #[.bool false, .slice none 0 0, .slice none 0 0, .bool false, .slice none 0 0, .slice none 0 0]); obtain ⟨A0, A1, A2, A3, A4, A5, hA0, hA1, hA2, hA3, hA4, hA5, ⟨q0, q1, q2, q3, q4, q5⟩, f0, f1, f2, f3, f4, f5⟩ := gchain6 HQ.out (.bool n3) (.slice a3 x3.length k3) (.slice b3 y3.length l3) (.bool n6) (.slice a6 x6.length k6) (.slice b6 y6.length l6); have J6 := hid (gchainJ j2.out HGB.out z1 hA0 hA1 hA2 hA3 hA4 hA5); have hs4 := HK.out _ _ J6.out) | (have HQ := hid (Box.made w4 26 #[.bool false, .slice none 0 0, .slice none 0 0, .bool false, .slice none 0 0, .slice none 0 0]); have J5 := hid (j2.out.alloc (.cells #[.bool false, .slice none 0 0, .slice none 0 0, .bool false, .slice none 0 0, .slice none 0 0] 26)); have HB5 := hid (alloc_later w4 (.cells #[.bool false, .slice none 0 0, .slice none 0 0, .bool false, .slice none 0 0, .slice none 0 0] 26)); obtain ⟨W5, hW5⟩ : ∃ W5, w4.alloc (.cells #[.bool false, .slice none 0 0, .slice none 0 0, .bool false, .slice none 0 0, .slice none 0 0] 26) = W5 := ⟨_, rfl⟩; rw [hW5] at HQ J5 HB5; have hs3 := HK.out _ _ J5.out; obtain ⟨A0, A1, A2, A3, A4, A5, hA0, hA1, hA2, hA3, hA4, hA5, ⟨q0, q1, q2, q3, q4, q5⟩, f0, f1, f2, f3, f4, f5⟩ := gchain6 HQ.out (.bool n3) (.slice a3 x3.length k3) (.slice b3 y3.length l3) (.bool n6) (.slice a6 x6.length k6) (.slice b6 y6.length l6); have J6 := hid (gchainJ J5.out HGB.out z2 hA0 hA1 hA2 hA3 hA4 hA5); have hs4 := HK.out _ _ J6.out))))
      all_goals
        clear hs2 H1 H2 HK
        go_wp2_with fail
        go_meet
      all_goals (subst hA0 hA1 hA2 hA3 hA4 hA5)
      all_goals first | exact hid (gcq_put HGB.out t1.out tt.out J5.out r2.out HB5.out HQ.out (.inr (Nat.le_refl _)) z2 z1) | exact hid (gcq_put HGB.out t1.out tt.out j2.out r2.out (Below.refl _ _) HQ.out (.inl HQ2.out.lt) (Nat.le_refl _) z1) | exact hid (gcq_put HGB.out t1.out tt.out j2.out r2.out (Below.refl _ _) HQ.out (.inl HQ2.out.lt) z1 (by have := HQ2.out.lt; omega))
    case rest =>
      obtain ⟨g8, nO, xO, yO, cO, n3, a3, k3, x3, b3, l3, y3, c3, n6, a6, k6, x6, b6, l6, y6, c6, rfl, hg8, tO, t3, t6, I8, R3, R6, G8⟩ := hcut.out
      have HTO := hid tO; have HT3 := hid t3; have HT6 := hid t6; have HI8 := hid I8
      have HR3 := hid R3; have HR6 := hid R6
      have HRN8 := hid (HRN.out.step hp1 G8)
      have hp8 : p < Y5.heap.size := hpX
      clear tO t3 t6 I8 R3 R6 G8 hcut HK H1 H2 HGB HD HD0 hs0 HRN HI1 hY5 hwX hpX
      obtain ⟨s0, s1, s2, _, _, _⟩ := cells6 (HI8.out.box _ (List.mem_cons_self ..)).1
      obtain ⟨m0, m1, m2', _, _, _⟩ := box3f (HI8.out.box _ (List.mem_cons_of_mem _ (List.mem_cons_self ..))).1
      have H4 := hid (gquotient_any p c6 n3 a3 k3 x3 b3 l3 y3 nN aN kN xN bN lN yN wc HI8.out.err (HR3.out.sl (G3.wd HT3.out).1 (G3.wd HT3.out).2).1 (HR3.out.sl (G3.wd HT3.out).1 (G3.wd HT3.out).2).2 (HRN8.out.sl HWN.out.1 HWN.out.2).1 (HRN8.out.sl HWN.out.1 HWN.out.2).2)
      go_wp2_with fail
      refine Calls.mono H4.out ?_
      rintro x w5 ⟨k1, v9, zs1, u9', ts1, c9, rfl, ov9, ou9, t9, hp9, hg9, _⟩
      obtain ⟨av1, cv1, rfl⟩ := own_slice' ov9
      obtain ⟨au1, cu1, rfl⟩ := own_slice' ou9
      have HI9 : Hid (GInv w1 p c9 ((w5.heap.size, 24, #[.bool k1, .slice av1 zs1.length cv1, .slice au1 ts1.length cu1]) :: (g8, 26, #[.bool n3, .slice a3 (List.length x3) k3, .slice b3 (List.length y3) l3, .bool n6, .slice a6 (List.length x6) k6, .slice b6 (List.length y6) l6]) :: (w2.heap.size, 24, #[.bool nN, .slice aN xN.length kN, .slice bN yN.length lN]) :: (w.heap.size, 26, #[.bool n, .slice a xs.length ca, .slice b ys.length cb, .bool m, .slice c us.length cc, .slice d vs.length cd]) :: (w.heap.size + 1, 26, #[.bool n2, .slice a2 xs2.length ca2, .slice b2' ys2.length cb2, .bool m2, .slice c2 us2.length cc2, .slice d2 vs2.length cd2]) :: (w.heap.size + 1 + 1, 26, #[.bool false, .slice none 0 0, .slice none 0 0, .bool false, .slice none 0 0, .slice none 0 0]) :: []) (w5.alloc (.cells #[.bool k1, .slice av1 zs1.length cv1, .slice au1 ts1.length cu1] 24))) := hid (((HI8.out.step hp9 hg9).alloc _).more (Box.made w5 _ _) (by have := (HI8.out.step hp9 hg9).grown.size; omega))
      have hgA := grow_trans hg9 (World.grownBy_alloc w5 (.cells #[.bool k1, .slice av1 zs1.length cv1, .slice au1 ts1.length cu1] 24) (some p))
      have HR6A := hid (HR6.out.step hp8 hgA)
      have HRNA := hid (HRN8.out.step hp1 hgA)
      have HR9A := hid ((GRow.mk (n := k1) (owns_base ov9 HI8.out.grown.size) (owns_base ou9 HI8.out.grown.size)).step hp1 (World.grownBy_alloc w5 (.cells #[.bool k1, .slice av1 zs1.length cv1, .slice au1 ts1.length cu1] 24) (some p)))
      have HT9 := hid t9
      obtain ⟨Y6, hY6⟩ : ∃ Y6, w5.alloc (.cells #[.bool k1, .slice av1 zs1.length cv1, .slice au1 ts1.length cu1] 24) = Y6 := ⟨_, rfl⟩
      rw [hY6] at HI9 HR6A HRNA HR9A
      clear H4 hgA t9 ov9 ou9 hp9 hg9 s0 s1 s2 m0 m1 m2' HR6 HRN8 HI8 HR3
      obtain ⟨_, _, _, s3, s4, s5⟩ := cells6 (HI9.out.box _ (List.mem_cons_of_mem _ (List.mem_cons_self ..))).1
      obtain ⟨m0, m1, m2', _, _, _⟩ := box3f (HI9.out.box _ (List.mem_cons_of_mem _ (List.mem_cons_of_mem _ (List.mem_cons_self ..)))).1
      have H5 := hid (gquotient_any p c9 n6 a6 k6 x6 b6 l6 y6 nN aN kN xN bN lN yN Y6 HI9.out.err (HR6A.out.sl (G3.wd HT6.out).1 (G3.wd HT6.out).2).1 (HR6A.out.sl (G3.wd HT6.out).1 (G3.wd HT6.out).2).2 (HRNA.out.sl HWN.out.1 HWN.out.2).1 (HRNA.out.sl HWN.out.1 HWN.out.2).2)
      go_wp2_with fail
      refine Calls.mono H5.out ?_
      rintro x w6 ⟨k2, v9, zs2, u9', ts2, code2, rfl, ov9, ou9, t9, hp9, hg9, _⟩
      obtain ⟨av2, cv2, rfl⟩ := own_slice' ov9
      obtain ⟨au2, cu2, rfl⟩ := own_slice' ou9
      have HIA : Hid (GInv w1 p code2 ((w6.heap.size, 24, #[.bool k2, .slice av2 zs2.length cv2, .slice au2 ts2.length cu2]) :: (w5.heap.size, 24, #[.bool k1, .slice av1 zs1.length cv1, .slice au1 ts1.length cu1]) :: (g8, 26, #[.bool n3, .slice a3 (List.length x3) k3, .slice b3 (List.length y3) l3, .bool n6, .slice a6 (List.length x6) k6, .slice b6 (List.length y6) l6]) :: (w2.heap.size, 24, #[.bool nN, .slice aN xN.length kN, .slice bN yN.length lN]) :: (w.heap.size, 26, #[.bool n, .slice a xs.length ca, .slice b ys.length cb, .bool m, .slice c us.length cc, .slice d vs.length cd]) :: (w.heap.size + 1, 26, #[.bool n2, .slice a2 xs2.length ca2, .slice b2' ys2.length cb2, .bool m2, .slice c2 us2.length cc2, .slice d2 vs2.length cd2]) :: (w.heap.size + 1 + 1, 26, #[.bool false, .slice none 0 0, .slice none 0 0, .bool false, .slice none 0 0, .slice none 0 0]) :: []) (w6.alloc (.cells #[.bool k2, .slice av2 zs2.length cv2, .slice au2 ts2.length cu2] 24))) := hid (((HI9.out.step hp9 hg9).alloc _).more (Box.made w6 _ _) (by have := (HI9.out.step hp9 hg9).grown.size; omega))
      have hgA := grow_trans hg9 (World.grownBy_alloc w6 (.cells #[.bool k2, .slice av2 zs2.length cv2, .slice au2 ts2.length cu2] 24) (some p))
      have HR9 := hid (HR9A.out.step hp1 hgA)
      have HRA := hid ((GRow.mk (n := k2) (owns_base ov9 HI9.out.grown.size) (owns_base ou9 HI9.out.grown.size)).step hp1 (World.grownBy_alloc w6 (.cells #[.bool k2, .slice av2 zs2.length cv2, .slice au2 ts2.length cu2] 24) (some p)))
      have HTW := hid (gquo_tells HZ1.out HTN.out HTO.out HT3.out HT6.out HT9.out t9)
      obtain ⟨Y7, hY7⟩ : ∃ Y7, w6.alloc (.cells #[.bool k2, .slice av2 zs2.length cv2, .slice au2 ts2.length cu2] 24) = Y7 := ⟨_, rfl⟩
      rw [hY7] at HIA HR9 HRA
      clear H5 hgA t9 ov9 ou9 hp9 hg9 s3 s4 s5 m0 m1 m2' HR6A HRNA HI9 HR9A HT9 HT6 HT3 HTO HTN HZ1
      obtain ⟨s0, s1, s2, _, _, _⟩ := box3f (HIA.out.box _ (List.mem_cons_of_mem _ (List.mem_cons_self ..))).1
      obtain ⟨s3, s4, s5, _, _, _⟩ := box3f (HIA.out.box _ (List.mem_cons_self ..)).1
      have HTL := hid (gtold_any p code2 k1 av1 zs1.length cv1 au1 ts1.length cu1 k2 av2 zs2.length cv2 au2 ts2.length cu2 Y7 HIA.out.err)
      have HR3' := hid (HIA.out.box _ (List.mem_cons_of_mem _ (List.mem_cons_of_mem _ (List.mem_cons_of_mem _ (List.mem_cons_of_mem _ (List.mem_cons_of_mem _ (List.mem_cons_of_mem _ (List.mem_cons_self ..)))))))).1
      have HW3 : Hid (Below w.heap.size w Y7) := hid (HW1.out.grown HIA.out.grown HW1.out.size (fun q hq => by have e := Option.some.inj hq; omega))
      go_wp2_with fail
      refine Calls.mono HTL.out ?_
      rintro x w4 ⟨rfl, hb4⟩
      have HR4 := hid (HR3'.out.later hb4 HR3'.out.lt)
      have HW4 := hid (bt HW3.out hb4)
      have HOO := hid (And.intro (owns_later HR9.out.ov hb4) (And.intro (owns_later HR9.out.ou hb4) (And.intro (owns_later HRA.out.ov hb4) (owns_later HRA.out.ou hb4))))
      have hlo : w.heap.size ≤ w1.heap.size := by omega
      clear hb4 s0 s1 s2 s3 s4 s5
      have m0 : w4.cell? ⟨w.heap.size + 1 + 1, 0, none⟩ = some (.bool false) := HR4.out.cell 0
      have m1 : w4.cell? ⟨w.heap.size + 1 + 1, 1, none⟩ = some (.slice none 0 0) := HR4.out.cell 1
      have m2' : w4.cell? ⟨w.heap.size + 1 + 1, 2, none⟩ = some (.slice none 0 0) := HR4.out.cell 2
      have m3 : w4.cell? ⟨w.heap.size + 1 + 1, 3, none⟩ = some (.bool false) := HR4.out.cell 3
      have m4 : w4.cell? ⟨w.heap.size + 1 + 1, 4, none⟩ = some (.slice none 0 0) := HR4.out.cell 4
      have m5 : w4.cell? ⟨w.heap.size + 1 + 1, 5, none⟩ = some (.slice none 0 0) := HR4.out.cell 5
      have f0 := HR4.out.free 0
      have f1 := HR4.out.free 1
      have f2 := HR4.out.free 2
      have f3 := HR4.out.free 3
      have f4 := HR4.out.free 4
      have f5 := HR4.out.free 5
      by_cases hc2 : code2 = 0
      · rw [if_pos hc2]
        have HFIN := hid (HTW.out.1 hc2)
        clear HTW hc2
        go_wp2_with fail
        have B1 := box_put6 HR4.out (.bool k1) (.slice av1 zs1.length cv1) (.slice au1 ts1.length cu1) (.bool k2) (.slice av2 zs2.length cv2) (.slice au2 ts2.length cu2)
        have G1 := below_put6 HW4.out (w.heap.size + 1 + 1) (by omega) (.bool k1) (.slice av1 zs1.length cv1) (.slice au1 ts1.length cu1) (.bool k2) (.slice av2 zs2.length cv2) (.slice au2 ts2.length cu2)
        have hXX := HX.out.2.2.2.size
        have hput : ∀ {base k : Nat} {v : Value} {l : List Value}, w4.ownsRow base 62 1 v k l → (∀ g, v.ownBlock = some g → X.heap.size ≤ g) → ((((((w4.setCell ⟨w.heap.size + 1 + 1, 0, none⟩ (.bool k1)).setCell ⟨w.heap.size + 1 + 1, 1, none⟩ (.slice av1 zs1.length cv1)).setCell ⟨w.heap.size + 1 + 1, 2, none⟩ (.slice au1 ts1.length cu1)).setCell ⟨w.heap.size + 1 + 1, 3, none⟩ (.bool k2)).setCell ⟨w.heap.size + 1 + 1, 4, none⟩ (.slice av2 zs2.length cv2)).setCell ⟨w.heap.size + 1 + 1, 5, none⟩ (.slice au2 ts2.length cu2)).ownsRow base 62 1 v k l := fun h hb => own_put6 h _ (fun g hg => by have := hb g hg; omega) _ _ _ _ _ _
        clear m0 m1 m2' m3 m4 m5 f0 f1 f2 f3 f4 f5
        refine bodyPost_ret (gres_run (by rfl) B1 _ rfl) rfl ?_
        exact ⟨k1, av1, cv1, zs1, au1, cu1, ts1, k2, av2, cv2, zs2, au2, cu2, ts2, code2, rfl, ⟨owns_base (hput HOO.out.1 (fun g hg => by have := (HOO.out.1.lt g hg).1; omega)) hlo, owns_base (hput HOO.out.2.1 (fun g hg => by have := (HOO.out.2.1.lt g hg).1; omega)) hlo, owns_base (hput HOO.out.2.2.1 (fun g hg => by have := (HOO.out.2.2.1.lt g hg).1; omega)) hlo, owns_base (hput HOO.out.2.2.2 (fun g hg => by have := (HOO.out.2.2.2.lt g hg).1; omega)) hlo⟩, HFIN.out, G1⟩
      · rw [if_neg hc2]
        have HFIN := hid (HTW.out.2 hc2)
        clear HTW hc2
        go_wp2_with fail
        have B1 := box_put6 HR4.out (.bool false) (.slice none 0 0) (.slice none 0 0) (.bool false) (.slice none 0 0) (.slice none 0 0)
        have G1 := below_put6 HW4.out (w.heap.size + 1 + 1) (by omega) (.bool false) (.slice none 0 0) (.slice none 0 0) (.bool false) (.slice none 0 0) (.slice none 0 0)
        clear m0 m1 m2' m3 m4 m5 f0 f1 f2 f3 f4 f5
        refine bodyPost_ret (gres_run (by rfl) B1 _ rfl) rfl ?_
        exact ⟨false, none, 0, [], none, 0, [], false, none, 0, [], none, 0, [], code2, rfl, ⟨World.ownsRow_nil _ _ _ _, World.ownsRow_nil _ _ _ _, World.ownsRow_nil _ _ _ _, World.ownsRow_nil _ _ _ _⟩, HFIN.out, G1⟩
end Go.Proofs.YtalapdhdlboknaaGreatDoor

/- Complex fractions: gauss.Quo: of any two, by nought too. -/
namespace Go.Proofs.YtalapdhdlboknaaGreatDoor
open Go.RowKit
set_option linter.unusedVariables false

set_option maxHeartbeats 3200000 in
set_option maxRecDepth 100000 in
theorem gQuo_zero (n : Bool) (a : Option Addr) (ca : Nat) (xs : List Int) (b : Option Addr) (cb : Nat) (ys : List Int) (m : Bool) (c : Option Addr) (cc : Nat) (us : List Int) (d : Option Addr) (cd : Nat) (vs : List Int) (n2 : Bool) (a2 : Option Addr) (ca2 : Nat) (xs2 : List Int) (b2' : Option Addr) (cb2 : Nat) (ys2 : List Int) (m2 : Bool) (c2 : Option Addr) (cc2 : Nat) (us2 : List Int) (d2 : Option Addr) (cd2 : Nat) (vs2 : List Int) (w : World) (sx : Sl w (.slice a xs.length ca) xs) (sy : Sl w (.slice b ys.length cb) ys) (su : Sl w (.slice c us.length cc) us) (sv : Sl w (.slice d vs.length cd) vs) (sx2 : Sl w (.slice a2 xs2.length ca2) xs2) (sy2 : Sl w (.slice b2' ys2.length cb2) ys2) (su2 : Sl w (.slice c2 us2.length cc2) us2) (sv2 : Sl w (.slice d2 vs2.length cd2) vs2) (h0 : fstE (gchk n xs ys m us vs) (gchk n2 xs2 ys2 m2 us2 vs2) = 0) (hx : xs2.length = 0) (hu : us2.length = 0) :
    Calls Tryz.prog 11 #[.agg #[.bool n, .slice a xs.length ca, .slice b ys.length cb, .bool m, .slice c us.length cc, .slice d vs.length cd], .agg #[.bool n2, .slice a2 xs2.length ca2, .slice b2' ys2.length cb2, .bool m2, .slice c2 us2.length cc2, .slice d2 vs2.length cd2]] w fun x w' => x = .returned (.tuple #[.agg #[.bool false, .slice none 0 0, .slice none 0 0, .bool false, .slice none 0 0, .slice none 0 0], .int .i64 7]) ∧ Below w.heap.size w w' := by
  have HX := hid (boxes3r w 26 #[.bool n, .slice a xs.length ca, .slice b ys.length cb, .bool m, .slice c us.length cc, .slice d vs.length cd] #[.bool n2, .slice a2 xs2.length ca2, .slice b2' ys2.length cb2, .bool m2, .slice c2 us2.length cc2, .slice d2 vs2.length cd2] #[.bool false, .slice none 0 0, .slice none 0 0, .bool false, .slice none 0 0, .slice none 0 0])
  obtain ⟨X, hX⟩ : ∃ X, ((w.alloc (.cells #[.bool n, .slice a xs.length ca, .slice b ys.length cb, .bool m, .slice c us.length cc, .slice d vs.length cd] 26)).alloc (.cells #[.bool n2, .slice a2 xs2.length ca2, .slice b2' ys2.length cb2, .bool m2, .slice c2 us2.length cc2, .slice d2 vs2.length cd2] 26)).alloc (.cells #[.bool false, .slice none 0 0, .slice none 0 0, .bool false, .slice none 0 0, .slice none 0 0] 26) = X := ⟨_, rfl⟩
  rw [hX] at HX
  have HY := hid (Box.made X 26 #[.bool n, .slice a xs.length ca, .slice b ys.length cb, .bool m, .slice c us.length cc, .slice d vs.length cd, .bool n2, .slice a2 xs2.length ca2, .slice b2' ys2.length cb2, .bool m2, .slice c2 us2.length cc2, .slice d2 vs2.length cd2])
  have HYB := hid (alloc_later X (.cells #[.bool n, .slice a xs.length ca, .slice b ys.length cb, .bool m, .slice c us.length cc, .slice d vs.length cd, .bool n2, .slice a2 xs2.length ca2, .slice b2' ys2.length cb2, .bool m2, .slice c2 us2.length cc2, .slice d2 vs2.length cd2] 26))
  obtain ⟨Y, hY⟩ : ∃ Y, X.alloc (.cells #[.bool n, .slice a xs.length ca, .slice b ys.length cb, .bool m, .slice c us.length cc, .slice d vs.length cd, .bool n2, .slice a2 xs2.length ca2, .slice b2' ys2.length cb2, .bool m2, .slice c2 us2.length cc2, .slice d2 vs2.length cd2] 26) = Y := ⟨_, rfl⟩
  rw [hY] at HY HYB
  have HWY := hid (bt HX.out.2.2.2 HYB.out)
  have HL := hid (glookAt2_any X.heap.size n a ca xs b cb ys m c cc us d cd vs n2 a2 ca2 xs2 b2' cb2 ys2 m2 c2 cc2 us2 d2 cd2 vs2 Y HY.out (sx.later HWY.out) (sy.later HWY.out) (su.later HWY.out) (sv.later HWY.out) (sx2.later HWY.out) (sy2.later HWY.out) (su2.later HWY.out) (sv2.later HWY.out))
  rw [h0] at HL
  clear sx sy su sv sx2 sy2 su2 sv2 h0
  have ka0 : X.cell? ⟨w.heap.size, 0, none⟩ = some (.bool n) := HX.out.1.cell 0
  have ka1 : X.cell? ⟨w.heap.size, 1, none⟩ = some (.slice a xs.length ca) := HX.out.1.cell 1
  have ka2 : X.cell? ⟨w.heap.size, 2, none⟩ = some (.slice b ys.length cb) := HX.out.1.cell 2
  have ka3 : X.cell? ⟨w.heap.size, 3, none⟩ = some (.bool m) := HX.out.1.cell 3
  have ka4 : X.cell? ⟨w.heap.size, 4, none⟩ = some (.slice c us.length cc) := HX.out.1.cell 4
  have ka5 : X.cell? ⟨w.heap.size, 5, none⟩ = some (.slice d vs.length cd) := HX.out.1.cell 5
  have kb0 : X.cell? ⟨w.heap.size + 1, 0, none⟩ = some (.bool n2) := HX.out.2.1.cell 0
  have kb1 : X.cell? ⟨w.heap.size + 1, 1, none⟩ = some (.slice a2 xs2.length ca2) := HX.out.2.1.cell 1
  have kb2 : X.cell? ⟨w.heap.size + 1, 2, none⟩ = some (.slice b2' ys2.length cb2) := HX.out.2.1.cell 2
  have kb3 : X.cell? ⟨w.heap.size + 1, 3, none⟩ = some (.bool m2) := HX.out.2.1.cell 3
  have kb4 : X.cell? ⟨w.heap.size + 1, 4, none⟩ = some (.slice c2 us2.length cc2) := HX.out.2.1.cell 4
  have kb5 : X.cell? ⟨w.heap.size + 1, 5, none⟩ = some (.slice d2 vs2.length cd2) := HX.out.2.1.cell 5
  have HNN : Hid ((xs2.length == 0 && us2.length == 0) = true) := by show _ = _; rw [hx, hu]; rfl
  clear hx hu
  go_enter Tryz.func11, Tryz.ntmps11
  go_wp2_with fail
  refine Calls.mono HL.out ?_
  rintro x w1 ⟨p, rfl, hpl, hpb, hb1⟩
  have HW1 := hid (bt HWY.out hb1)
  have HB1 := hid (HX.out.2.1.later (bt HYB.out hb1) HX.out.2.1.lt)
  have HR1 := hid (HX.out.2.2.1.later (bt HYB.out hb1) HX.out.2.2.1.lt)
  have kp : w1.cell? ⟨p, 0, none⟩ = some (.int .i64 0) := hpb.cell 0
  clear hpb hb1 hpl HL ka0 ka1 ka2 ka3 ka4 ka5 kb0 kb1 kb2 kb3 kb4 kb5
  obtain ⟨kb0, kb1, kb2, kb3, kb4, kb5⟩ := cells6 HB1.out
  have HIS := hid (gisNought_any n2 a2 xs2.length ca2 b2' ys2.length cb2 m2 c2 us2.length cc2 d2 vs2.length cd2 w1)
  rw [HNN.out] at HIS
  go_wp2_with fail
  refine Calls.mono HIS.out ?_
  rintro x wI ⟨rfl, hbI⟩
  have HBI := hid hbI
  have HR2 := hid (HR1.out.later hbI HR1.out.lt)
  obtain ⟨A0, A1, A2, A3, A4, A5, hA0, hA1, hA2, hA3, hA4, hA5, ⟨q0, q1, q2, q3, q4, q5⟩, f0, f1, f2, f3, f4, f5⟩ := gchain6 HR2.out (.bool false) (.slice none 0 0) (.slice none 0 0) (.bool false) (.slice none 0 0) (.slice none 0 0)
  clear hbI kb0 kb1 kb2 kb3 kb4 kb5 kp HIS
  go_wp2_with fail
  subst hA0 hA1 hA2 hA3 hA4 hA5
  have B1 := box_put6 HR2.out (.bool false) (.slice none 0 0) (.slice none 0 0) (.bool false) (.slice none 0 0) (.slice none 0 0)
  have G1 := below_put6 (bt HW1.out HBI.out) (w.heap.size + 1 + 1) (by omega) (.bool false) (.slice none 0 0) (.slice none 0 0) (.bool false) (.slice none 0 0) (.slice none 0 0)
  exact bodyPost_ret (gres_run (by rfl) B1 _ rfl) rfl ⟨rfl, G1⟩

/-- Quo, of any two: nought is refused when both may be. -/
theorem gQuo_full (n : Bool) (a : Option Addr) (ca : Nat) (xs : List Int) (b : Option Addr) (cb : Nat) (ys : List Int) (m : Bool) (c : Option Addr) (cc : Nat) (us : List Int) (d : Option Addr) (cd : Nat) (vs : List Int) (n2 : Bool) (a2 : Option Addr) (ca2 : Nat) (xs2 : List Int) (b2' : Option Addr) (cb2 : Nat) (ys2 : List Int) (m2 : Bool) (c2 : Option Addr) (cc2 : Nat) (us2 : List Int) (d2 : Option Addr) (cd2 : Nat) (vs2 : List Int) (w : World) (sx : Sl w (.slice a xs.length ca) xs) (sy : Sl w (.slice b ys.length cb) ys) (su : Sl w (.slice c us.length cc) us) (sv : Sl w (.slice d vs.length cd) vs) (sx2 : Sl w (.slice a2 xs2.length ca2) xs2) (sy2 : Sl w (.slice b2' ys2.length cb2) ys2) (su2 : Sl w (.slice c2 us2.length cc2) us2) (sv2 : Sl w (.slice d2 vs2.length cd2) vs2) :
    Calls Tryz.prog 11 #[.agg #[.bool n, .slice a xs.length ca, .slice b ys.length cb, .bool m, .slice c us.length cc, .slice d vs.length cd], .agg #[.bool n2, .slice a2 xs2.length ca2, .slice b2' ys2.length cb2, .bool m2, .slice c2 us2.length cc2, .slice d2 vs2.length cd2]] w (GTold w (fstE (fstE (gchk n xs ys m us vs) (gchk n2 xs2 ys2 m2 us2 vs2)) (if xs2.length = 0 ∧ us2.length = 0 then 7 else 0)) (qlong (rq n xs ys) (rq m us vs) (rq n2 xs2 ys2) (rq m2 us2 vs2) ∨ rlong ((rq n xs ys * -(rq m2 us2 vs2) + rq m us vs * rq n2 xs2 ys2) / (rq n2 xs2 ys2 * rq n2 xs2 ys2 + rq m2 us2 vs2 * rq m2 us2 vs2))) ((rq n xs ys * rq n2 xs2 ys2 - rq m us vs * -(rq m2 us2 vs2)) / (rq n2 xs2 ys2 * rq n2 xs2 ys2 + rq m2 us2 vs2 * rq m2 us2 vs2)) ((rq n xs ys * -(rq m2 us2 vs2) + rq m us vs * rq n2 xs2 ys2) / (rq n2 xs2 ys2 * rq n2 xs2 ys2 + rq m2 us2 vs2 * rq m2 us2 vs2))) := by
  by_cases hz : fstE (gchk n xs ys m us vs) (gchk n2 xs2 ys2 m2 us2 vs2) = 0 ∧ xs2.length = 0 ∧ us2.length = 0
  · rw [hz.1, fstE_zero, if_pos hz.2]
    refine Calls.mono (gQuo_zero n a ca xs b cb ys m c cc us d cd vs n2 a2 ca2 xs2 b2' cb2 ys2 m2 c2 cc2 us2 d2 cd2 vs2 w sx sy su sv sx2 sy2 su2 sv2 hz.1 hz.2.1 hz.2.2) ?_
    rintro x w' ⟨rfl, hb⟩
    exact ⟨false, none, 0, [], none, 0, [], false, none, 0, [], none, 0, [], 7, rfl, ⟨World.ownsRow_nil _ _ _ _, World.ownsRow_nil _ _ _ _, World.ownsRow_nil _ _ _ _, World.ownsRow_nil _ _ _ _⟩, ⟨⟨Wd.nil, Wd.nil, Wd.nil, Wd.nil⟩, fun _ => ⟨⟨rfl, rfl, rfl, rfl, rfl, rfl⟩, rfl⟩, fun h => absurd h (by decide), fun h => absurd h (by decide)⟩, hb⟩
  · have e : fstE (fstE (gchk n xs ys m us vs) (gchk n2 xs2 ys2 m2 us2 vs2)) (if xs2.length = 0 ∧ us2.length = 0 then 7 else 0) = fstE (gchk n xs ys m us vs) (gchk n2 xs2 ys2 m2 us2 vs2) := by
      by_cases h : fstE (gchk n xs ys m us vs) (gchk n2 xs2 ys2 m2 us2 vs2) = 0
      · rw [h, fstE_zero, if_neg (fun h' => hz ⟨h, h'⟩)]
      · exact fstE_err _ h
    rw [e]
    exact gQuo_go n a ca xs b cb ys m c cc us d cd vs n2 a2 ca2 xs2 b2' cb2 ys2 m2 c2 cc2 us2 d2 cd2 vs2 w sx sy su sv sx2 sy2 su2 sv2 hz
end Go.Proofs.YtalapdhdlboknaaGreatDoor

/- Floats of 64 bits by their bits: which are finite, what a sum or difference of two gives, the sum of two with what was lost of it, as plain functions of the bits. Nothing here speaks of the program. -/
namespace Go.Proofs.YtalapdhdlboknaaGreatDoor

/-- Neither an infinity nor NaN: by the bits. -/
def fin (x : Nat) : Bool := x / 4503599627370496 % 2048 != 2047

theorem fin_iff (x : Nat) : fin x = true ↔ x % 9223372036854775808 < 9218868437227405312 := by
  unfold fin
  simp only [bne_iff_ne, ne_eq]
  omega

theorem dbl_sign : Ieee.double.signWeight = 9223372036854775808 := by decide
theorem dbl_inf : Ieee.double.infRung = 9218868437227405312 := by decide
theorem dbl_binade : Ieee.double.binade = 4503599627370496 := by decide

theorem read_fin {x : Nat} (h : fin x = true) : ∃ s m e, Ieee.double.read x = .number s m e := by
  rw [fin_iff] at h
  unfold Ieee.Format.read
  simp only [dbl_sign, dbl_inf, dbl_binade]
  split
  · exact ⟨_, _, _, rfl⟩
  · first | exact ⟨_, _, _, rfl⟩ | (rw [if_pos h]; exact ⟨_, _, _, rfl⟩)

theorem read_not {x : Nat} (h : fin x = false) : (∃ s, Ieee.double.read x = .infinity s) ∨ ∃ s f, Ieee.double.read x = .nan s f := by
  have h' : ¬ x % 9223372036854775808 < 9218868437227405312 := fun g => by rw [(fin_iff x).2 g] at h; exact Bool.noConfusion h
  unfold Ieee.Format.read
  simp only [dbl_sign, dbl_inf, dbl_binade]
  rw [if_neg (by omega), if_neg h']
  split
  · exact Or.inl ⟨_, rfl⟩
  · exact Or.inr ⟨_, _, rfl⟩

theorem write_inf (s : Bool) : fin (Ieee.double.write (.infinity s)) = false := by
  cases s <;> decide

theorem nan_cut (x y t : Nat) : fin (Question.cut (.nanBits .f64 x y) t) = false ∧ Question.cut (.nanBits .f64 x y) t < 18446744073709551616 := by
  simp only [Question.cut]
  have hu : (t / 2) % (2 ^ 52 - 1) < 4503599627370495 := Nat.mod_lt _ (by decide)
  have hv : t % 2 = 0 ∨ t % 2 = 1 := by omega
  generalize (t / 2) % (2 ^ 52 - 1) = u at hu ⊢
  generalize t % 2 = v at hv ⊢
  constructor
  · cases hh : fin (v * 2 ^ 63 + 0x7ff0000000000000 + 1 + u)
    · rfl
    · rw [fin_iff] at hh; rcases hv with rfl | rfl <;> omega
  · rcases hv with rfl | rfl <;> omega

/-- What the machine hands back: the bits of the answer, or, where there is none, some NaN. -/
def FR (op : BinOp) (x y r : Nat) : Prop := r < 18446744073709551616 ∧ (floatBits op .f64 x y = some r ∨ (floatBits op .f64 x y = none ∧ fin r = false))

theorem FR.det {op : BinOp} {x y r s : Nat} (h : FR op x y r) (g : floatBits op .f64 x y = some s) : r = s := by
  rcases h.2 with h | ⟨h, _⟩
  · rw [h] at g; exact Option.some.inj g
  · rw [h] at g; cases g

theorem FR.some {op : BinOp} {x y r : Nat} (h : floatBits op .f64 x y = .some r) : FR op x y r := by
  have := floatBits_wf h
  simp [Lit.wf] at this
  exact ⟨this, Or.inl h⟩
theorem FR.none {op : BinOp} {x y : Nat} (t : Nat) (h : floatBits op .f64 x y = .none) : FR op x y (Question.cut (.nanBits .f64 x y) t) :=
  ⟨(nan_cut x y t).2, Or.inr ⟨h, (nan_cut x y t).1⟩⟩

theorem sum_back {d c : Ieee.Datum} {r : Nat} (h : (d.sum c).map Ieee.double.write = .some r) (hf : fin r = true) : (∃ s m e, d = .number s m e) ∧ ∃ s m e, c = .number s m e := by
  cases d with
  | nan s f => simp [Ieee.Datum.sum] at h
  | infinity s =>
    cases c with
    | nan t f => simp [Ieee.Datum.sum] at h
    | infinity t =>
      simp only [Ieee.Datum.sum] at h
      split at h
      · cases h; rw [write_inf] at hf; cases hf
      · cases h
    | number t m e => simp only [Ieee.Datum.sum] at h; cases h; rw [write_inf] at hf; cases hf
  | number s m e =>
    cases c with
    | nan t f => simp [Ieee.Datum.sum] at h
    | infinity t => simp only [Ieee.Datum.sum] at h; cases h; rw [write_inf] at hf; cases hf
    | number t n j => exact ⟨⟨_, _, _, rfl⟩, ⟨_, _, _, rfl⟩⟩

theorem fin_of_read {x : Nat} {s : Bool} {m : Nat} {e : Int} (h : Ieee.double.read x = .number s m e) : fin x = true := by
  cases hx : fin x
  · rcases read_not hx with ⟨_, g⟩ | ⟨_, _, g⟩ <;> rw [g] at h <;> cases h
  · rfl

theorem add_back {x y r : Nat} (h : floatBits .add .f64 x y = .some r) (hf : fin r = true) : fin x = true ∧ fin y = true := by
  obtain ⟨⟨_, _, _, h1⟩, ⟨_, _, _, h2⟩⟩ := sum_back h hf
  exact ⟨fin_of_read h1, fin_of_read h2⟩
theorem sub_back {x y r : Nat} (h : floatBits .sub .f64 x y = .some r) (hf : fin r = true) : fin x = true ∧ fin y = true := by
  obtain ⟨⟨_, _, _, h1⟩, ⟨s, m, e, h2⟩⟩ := sum_back h hf
  refine ⟨fin_of_read h1, ?_⟩
  cases hy : fin y
  · rcases read_not hy with ⟨_, g⟩ | ⟨_, _, g⟩ <;> (have g' : FloatKind.f64.format.read y = _ := g; rw [g'] at h2; cases h2)
  · rfl

theorem FR.addBack {x y r : Nat} (h : FR .add x y r) (hf : fin r = true) : floatBits .add .f64 x y = .some r ∧ fin x = true ∧ fin y = true := by
  rcases h.2 with h | ⟨_, g⟩
  · exact ⟨h, add_back h hf⟩
  · rw [g] at hf; cases hf
theorem FR.subBack {x y r : Nat} (h : FR .sub x y r) (hf : fin r = true) : floatBits .sub .f64 x y = .some r ∧ fin x = true ∧ fin y = true := by
  rcases h.2 with h | ⟨_, g⟩
  · exact ⟨h, sub_back h hf⟩
  · rw [g] at hf; cases hf

theorem add_some {x y : Nat} (hx : fin x = true) (hy : fin y = true) : ∃ r, floatBits .add .f64 x y = .some r := by
  obtain ⟨s, m, e, h1⟩ := read_fin hx
  obtain ⟨t, n, j, h2⟩ := read_fin hy
  exact ⟨_, show (((Ieee.double.read x).sum (Ieee.double.read y)).map Ieee.double.write) = _ by rw [h1, h2]; rfl⟩

theorem order_self {x : Nat} (h : fin x = true) : FloatKind.f64.format.order x x = .some .eq := by
  obtain ⟨s, m, e, h1⟩ := read_fin h
  show (Ieee.double.read x).order (Ieee.double.read x) = _
  rw [h1]
  simp [Ieee.Datum.order]

theorem run_add (P : Program) (w : World) (t : TypeId) (x y : Nat) (h : floatBits .add .f64 x y = .none) :
    (binOp .add t (.float .f64 x) (.float .f64 y)).run P w = .ok (.float .f64 (Question.cut (.nanBits .f64 x y) (w.tape w.drawn (.nanBits .f64 x y)))) w.drew := by
  have h' : FloatKind.f64.format.add x y = .none := h
  simp [binOp, Op.floatArith, h', Question.forced]
theorem run_sub (P : Program) (w : World) (t : TypeId) (x y : Nat) (h : floatBits .sub .f64 x y = .none) :
    (binOp .sub t (.float .f64 x) (.float .f64 y)).run P w = .ok (.float .f64 (Question.cut (.nanBits .f64 x y) (w.tape w.drawn (.nanBits .f64 x y)))) w.drew := by
  have h' : FloatKind.f64.format.sub x y = .none := h
  simp [binOp, Op.floatArith, h', Question.forced]

/-- The sum of two finite floats and what was lost of it; nothing, where one of both is not finite. -/
def chain (a b : Nat) : Option (Nat × Nat) :=
  match floatBits .add .f64 a b with
  | .none => .none
  | .some s => if fin s then
      match floatBits .sub .f64 s a with
      | .none => .none
      | .some t =>
        match floatBits .sub .f64 s t with
        | .none => .none
        | .some d =>
          match floatBits .sub .f64 a d, floatBits .sub .f64 b t with
          | .some p, .some q =>
            match floatBits .add .f64 p q with
            | .none => .none
            | .some e => if fin e then .some (s, e) else .none
          | _, _ => .none
    else .none

/-- The steps as the machine goes them. -/
def Two (a b s e : Nat) : Prop := ∃ t d p q, FR .add a b s ∧ FR .sub s a t ∧ FR .sub s t d ∧ FR .sub a d p ∧ FR .sub b t q ∧ FR .add p q e

theorem Two.good {a b s e : Nat} (h : Two a b s e) (hs : fin s = true) (he : fin e = true) : chain a b = .some (s, e) := by
  obtain ⟨t, d, p, q, h1, h2, h3, h4, h5, h6⟩ := h
  obtain ⟨g6, fp, fq⟩ := h6.addBack he
  obtain ⟨g5, _, ft⟩ := h5.subBack fq
  obtain ⟨g4, _, fd⟩ := h4.subBack fp
  obtain ⟨g3, _, _⟩ := h3.subBack fd
  obtain ⟨g2, _, _⟩ := h2.subBack ft
  obtain ⟨g1, _, _⟩ := h1.addBack hs
  simp only [chain, g1, g2, g3, g4, g5, g6, hs, he, if_true]

theorem chain_back {a b : Nat} {u : Nat × Nat} (h : chain a b = .some u) : fin u.1 = true ∧ fin u.2 = true ∧ ∀ s e, Two a b s e → s = u.1 ∧ e = u.2 := by
  unfold chain at h
  split at h
  · cases h
  rename_i s g1
  split at h
  · rename_i hs
    split at h
    · cases h
    rename_i t g2
    split at h
    · cases h
    rename_i d g3
    split at h
    · rename_i p q g4 g5
      split at h
      · cases h
      rename_i e g6
      split at h
      · rename_i he
        cases h
        refine ⟨hs, he, fun s' e' hh => ?_⟩
        obtain ⟨t', d', p', q', h1, h2, h3, h4, h5, h6⟩ := hh
        have e1 := h1.det g1
        subst e1
        have e2 := h2.det g2
        subst e2
        have e3 := h3.det g3
        subst e3
        have e4 := h4.det g4
        subst e4
        have e5 := h5.det g5
        subst e5
        exact ⟨rfl, h6.det g6⟩
      · cases h
    · cases h
  · cases h

theorem Two.bad {a b s e : Nat} (h : Two a b s e) (hb : fin s = false ∨ fin e = false) : chain a b = .none := by
  cases hc : chain a b with
  | none => rfl
  | some u =>
    obtain ⟨h1, h2, h3⟩ := chain_back hc
    obtain ⟨e1, e2⟩ := h3 _ _ h
    rcases hb with hb | hb
    · rw [e1, h1] at hb; cases hb
    · rw [e2, h2] at hb; cases hb

/-- The first step alone. -/
theorem chain_over {a b s : Nat} (h : FR .add a b s) (hs : fin s = false) : chain a b = .none := by
  cases hc : floatBits .add .f64 a b with
  | none => simp only [chain, hc]
  | some r =>
    have := h.det hc
    subst this
    simp only [chain, hc, hs]
    rfl

/-- TwoSum: the sum, what was lost, the error. -/
def tsum (a b : Nat) : Nat × Nat × Int :=
  if fin a && fin b then
    match chain a b with
    | .some (s, e) => (s, e, 0)
    | .none => (0, 0, 9)
  else (0, 0, 8)

theorem tsum_fin (a b : Nat) : fin (tsum a b).1 = true ∧ fin (tsum a b).2.1 = true := by
  unfold tsum
  split
  · cases hc : chain a b with
    | none => exact ⟨by decide, by decide⟩
    | some u => exact ⟨(chain_back hc).1, (chain_back hc).2.1⟩
  · exact ⟨by decide, by decide⟩

theorem tsum_ok {a b s e : Nat} (ha : fin a = true) (hb : fin b = true) (h : chain a b = .some (s, e)) : tsum a b = (s, e, 0) := by
  simp only [tsum, ha, hb, h, Bool.and_true, if_true]
theorem tsum_over {a b : Nat} (ha : fin a = true) (hb : fin b = true) (h : chain a b = .none) : tsum a b = (0, 0, 9) := by
  simp only [tsum, ha, hb, h, Bool.and_true, if_true]
theorem tsum_bad {a b : Nat} (h : (fin a && fin b) = false) : tsum a b = (0, 0, 8) := by
  simp only [tsum, h]
  rfl

/-- Sum from a sum, what was lost, and a place on: the two and the fault. -/
def fsumGo : Nat → Nat → Nat → List Nat → Nat × Nat × Int × Int
  | s, c, _, [] => (s, c, 0, 0)
  | s, c, i, x :: l =>
    match chain s x with
    | .none => (0, 0, 9, (i : Int))
    | .some (t, e) =>
      match floatBits .add .f64 c e with
      | .none => (0, 0, 9, (i : Int))
      | .some d => if fin d then fsumGo t d (i + 1) l else (0, 0, 9, (i : Int))

/-- Sum: from a place on with all ahead of it finite. -/
def fsumFrom (l0 : List Nat) : Nat → List Nat → Nat × Nat × Int × Int
  | _, [] => fsumGo 0 0 0 l0
  | i, x :: l => if fin x then fsumFrom l0 (i + 1) l else (0, 0, 8, (i : Int))
def fsum (l : List Nat) : Nat × Nat × Int × Int := fsumFrom l 0 l

theorem drop_step {l : List Nat} {k : Nat} (h : k < l.length) : l.drop k = (l[k]?.getD 0) :: l.drop (k + 1) := by
  rw [List.drop_eq_getElem_cons h, List.getElem?_eq_getElem h]
  rfl

theorem fsumFrom_fin {l0 l : List Nat} {k : Nat} (h : k < l.length) (hf : fin (l[k]?.getD 0) = true) : fsumFrom l0 k (l.drop k) = fsumFrom l0 (k + 1) (l.drop (k + 1)) := by
  rw [drop_step h]
  simp only [fsumFrom, hf, if_true]
theorem fsumFrom_bad {l0 l : List Nat} {k : Nat} (h : k < l.length) (hf : fin (l[k]?.getD 0) = false) : fsumFrom l0 k (l.drop k) = (0, 0, 8, (k : Int)) := by
  rw [drop_step h]
  simp only [fsumFrom, hf]
  rfl
theorem fsumFrom_end {l0 l : List Nat} {k : Nat} (h : l.length ≤ k) : fsumFrom l0 k (l.drop k) = fsumGo 0 0 0 l0 := by
  rw [List.drop_of_length_le h]
  rfl
theorem fsumGo_end {l : List Nat} {s c k : Nat} (h : l.length ≤ k) : fsumGo s c k (l.drop k) = (s, c, 0, 0) := by
  rw [List.drop_of_length_le h]
  rfl
theorem fsumGo_none {l : List Nat} {s c k : Nat} (h : k < l.length) (g : chain s (l[k]?.getD 0) = .none) : fsumGo s c k (l.drop k) = (0, 0, 9, (k : Int)) := by
  rw [drop_step h]
  simp only [fsumGo, g]
theorem fsumGo_over {l : List Nat} {s c k t e d : Nat} (h : k < l.length) (g : chain s (l[k]?.getD 0) = .some (t, e)) (g2 : floatBits .add .f64 c e = .some d) (g3 : fin d = false) : fsumGo s c k (l.drop k) = (0, 0, 9, (k : Int)) := by
  rw [drop_step h]
  simp only [fsumGo, g, g2, g3]
  rfl
theorem fsumGo_step {l : List Nat} {s c k t e d : Nat} (h : k < l.length) (g : chain s (l[k]?.getD 0) = .some (t, e)) (g2 : floatBits .add .f64 c e = .some d) (g3 : fin d = true) : fsumGo s c k (l.drop k) = fsumGo t d (k + 1) (l.drop (k + 1)) := by
  rw [drop_step h]
  simp only [fsumGo, g, g2, g3, if_true]

/-- All of them: finite. -/
def Fins (l : List Nat) : Prop := ∀ j : Nat, fin (l[j]?.getD 0) = true

theorem fin0 : fin 0 = true := by decide

/-- A round of the program's loop. -/
theorem round_good {l : List Nat} {s c k s' e' c' : Nat} (h : k < l.length) (h2 : Two s (l[k]?.getD 0) s' e') (h3 : FR .add c e' c') (f1 : fin s' = true) (f2 : fin c' = true) :
    fsumGo s c k (l.drop k) = fsumGo s' c' (k + 1) (l.drop (k + 1)) := by
  obtain ⟨g, _, fe⟩ := h3.addBack f2
  exact fsumGo_step h (h2.good f1 fe) g f2
theorem round_bad {l : List Nat} {s c k s' e' c' : Nat} (h : k < l.length) (fc : fin c = true) (h2 : Two s (l[k]?.getD 0) s' e') (h3 : FR .add c e' c') (f : fin s' = false ∨ fin c' = false) :
    fsumGo s c k (l.drop k) = (0, 0, 9, (k : Int)) := by
  cases f1 : fin s'
  · exact fsumGo_none h (h2.bad (.inl f1))
  · cases fe : fin e'
    · exact fsumGo_none h (h2.bad (.inr fe))
    · have f2 : fin c' = false := by
        rcases f with f | f
        · rw [f1] at f; cases f
        · exact f
      obtain ⟨r, hr⟩ := add_some fc fe
      have := h3.det hr
      subst this
      exact fsumGo_over h (h2.good f1 fe) hr f2

theorem fsumGo_fin (l : List Nat) : ∀ s c i, fin s = true → fin c = true → fin (fsumGo s c i l).1 = true ∧ fin (fsumGo s c i l).2.1 = true := by
  induction l with
  | nil => intro s c i hs hc; exact ⟨hs, hc⟩
  | cons x l ih =>
    intro s c i hs hc
    simp only [fsumGo]
    split
    · exact ⟨fin0, fin0⟩
    · rename_i t e g
      split
      · exact ⟨fin0, fin0⟩
      · rename_i d g2
        split
        · rename_i hd
          exact ih t d (i + 1) (chain_back g).1 hd
        · exact ⟨fin0, fin0⟩
theorem fsumFrom_good (l0 : List Nat) (l : List Nat) : ∀ i, fin (fsumFrom l0 i l).1 = true ∧ fin (fsumFrom l0 i l).2.1 = true := by
  induction l with
  | nil => intro i; exact fsumGo_fin l0 0 0 0 (by decide) (by decide)
  | cons x l ih =>
    intro i
    simp only [fsumFrom]
    split
    · exact ih (i + 1)
    · exact ⟨fin0, fin0⟩

end Go.Proofs.YtalapdhdlboknaaGreatDoor

/- real.finite, real.twoSum, real.TwoSum and the document's Finite, TwoSum, of any floats, by their bits. -/
namespace Go.Proofs.YtalapdhdlboknaaGreatDoor
open Go.RowKit
set_option linter.unusedVariables false

theorem fin_int (x : Nat) (hx : x < 18446744073709551616) : (bits .and .u64 ((x : Int) / 4503599627370496) 2047 != 2047) = fin x := by
  have e : bits .and .u64 ((x : Int) / 4503599627370496) 2047 = ((x / 4503599627370496 % 2048 : Nat) : Int) := by
    have e0 : (x : Int) / 4503599627370496 = ((x / 4503599627370496 : Nat) : Int) := by omega
    rw [e0]
    have e1 := u64_and_nat (x / 4503599627370496) 2047 (by omega) (by omega)
    have e2 : x / 4503599627370496 &&& 2047 = x / 4503599627370496 % 2048 := Nat.and_two_pow_sub_one_eq_mod _ 11
    rw [e2] at e1
    exact e1
  rw [e]
  unfold fin
  by_cases h : x / 4503599627370496 % 2048 = 2047
  · rw [h]; rfl
  · rw [bne_iff_ne.2 h, bne_iff_ne.2 (by omega)]

/-- What the machine hands back, and the world behind it. -/
def fval (op : BinOp) (V : World) (x y : Nat) : Nat := match floatBits op .f64 x y with
  | .some r => r
  | .none => Question.cut (.nanBits .f64 x y) (V.tape V.drawn (.nanBits .f64 x y))
def fwld (op : BinOp) (V : World) (x y : Nat) : World := match floatBits op .f64 x y with
  | .some _ => V
  | .none => V.drew
theorem fval_fr (op : BinOp) (V : World) (x y : Nat) : FR op x y (fval op V x y) := by
  cases h : floatBits op .f64 x y with
  | some r => simp only [fval, h]; exact FR.some h
  | none => simp only [fval, h]; exact FR.none _ h
theorem fwld_below (op : BinOp) {B : Nat} {U V : World} (x y : Nat) (h : Below B U V) : Below B U (fwld op V x y) := by
  cases e : floatBits op .f64 x y with
  | some r => simp only [fwld, e]; exact h
  | none => simp only [fwld, e]; exact h.drew
theorem fadd_run (P : Program) (t : TypeId) (V : World) (x y : Nat) : (binOp .add t (.float .f64 x) (.float .f64 y)).run P V = .ok (.float .f64 (fval .add V x y)) (fwld .add V x y) := by
  cases h : floatBits .add .f64 x y with
  | some r => simp only [fval, fwld, h]; exact run_float_arith V _ _ _ _ _ _ h
  | none => simp only [fval, fwld, h]; exact run_add P V t x y h
theorem fsub_run (P : Program) (t : TypeId) (V : World) (x y : Nat) : (binOp .sub t (.float .f64 x) (.float .f64 y)).run P V = .ok (.float .f64 (fval .sub V x y)) (fwld .sub V x y) := by
  cases h : floatBits .sub .f64 x y with
  | some r => simp only [fval, fwld, h]; exact run_float_arith V _ _ _ _ _ _ h
  | none => simp only [fval, fwld, h]; exact run_sub P V t x y h

theorem Two.lt {a b s e : Nat} (h : Two a b s e) : s < 18446744073709551616 ∧ e < 18446744073709551616 := by
  obtain ⟨t, d, p, q, h1, h2, h3, h4, h5, h6⟩ := h
  exact ⟨h1.1, h6.1⟩

/-- What TwoSum tells. -/
def tsumV (r : Nat × Nat × Int) : Value := .tuple #[.float .f64 r.1, .float .f64 r.2.1, .int .i64 r.2.2]

end Go.Proofs.YtalapdhdlboknaaGreatDoor

/- The document's TwoSum; slackwaterkit.SameFloat, SameBits of one float twice; lists of floats: CopyFloats, LentFloats, SameFloats, KeptFloats. -/
namespace Go.Proofs.YtalapdhdlboknaaGreatDoor
open Go.RowKit
set_option linter.unusedVariables false

theorem fadd_ex (P : Program) (t : TypeId) (V : World) (x y : Nat) : ∃ r V', (binOp .add t (.float .f64 x) (.float .f64 y)).run P V = .ok (.float .f64 r) V' ∧ Hid (FR .add x y r ∧ Below V.heap.size V V') :=
  ⟨_, _, fadd_run P t V x y, fval_fr .add V x y, fwld_below .add x y (Below.refl _ _)⟩
theorem fsub_ex (P : Program) (t : TypeId) (V : World) (x y : Nat) : ∃ r V', (binOp .sub t (.float .f64 x) (.float .f64 y)).run P V = .ok (.float .f64 r) V' ∧ Hid (FR .sub x y r ∧ Below V.heap.size V V') :=
  ⟨_, _, fsub_run P t V x y, fval_fr .sub V x y, fwld_below .sub x y (Below.refl _ _)⟩
theorem b2 {a b c : World} (h : Below a.heap.size a b) (g : Below b.heap.size b c) : Below a.heap.size a c := h.trans (g.mono h.size)

/-- The slice reads as these floats. -/
def RdF (w : World) (B : Nat) (a : Option Addr) (n cap : Nat) (xs : List Nat) : Prop :=
  xs.length = n ∧ (n = 0 ∨ ∃ b o, a = some ⟨b, o, none⟩ ∧ b < B ∧ ∀ j, j < n → w.cell? ⟨b, o + j, none⟩ = some (.float .f64 (xs[j]?.getD 0))) ∧ n ≤ cap ∧ cap ≤ maxLen ∧ (a = none → cap = 0)

theorem RdF.later {w w' : World} {B B' : Nat} {a : Option Addr} {n cap : Nat} {zs : List Nat} (h : RdF w B a n cap zs) (hb : Below B w w') (hB : B ≤ B') : RdF w' B' a n cap zs := by
  obtain ⟨h1, h3, h4⟩ := h
  refine ⟨h1, h3.imp id ?_, h4⟩
  rintro ⟨b, o, rfl, hlt, hc⟩
  exact ⟨b, o, rfl, by omega, fun j hj => (hb.cell (p := ⟨b, o + j, none⟩) hlt).trans (hc j hj)⟩

theorem RdF.front {w : World} {B : Nat} {a : Option Addr} {n cap : Nat} {zs : List Nat} (h : RdF w B a n cap zs) (k : Nat) (hk : k ≤ n) : RdF w B a k cap (zs.take k) := by
  obtain ⟨h1, h3, h4, h5, h6⟩ := h
  refine ⟨by rw [List.length_take]; omega, ?_, by omega, h5, h6⟩
  rcases h3 with h3 | ⟨b, o, ha, hlt, hc⟩
  · left; omega
  · right
    refine ⟨b, o, ha, hlt, fun j hj => ?_⟩
    rw [hc j (by omega), List.getElem?_take, if_pos hj]

theorem RdF.own {w : World} {base e : Nat} {v : Value} {zs : List Nat} {n : Nat} (h : w.ownsRow base e 1 v n (zs.map (Value.float .f64))) :
    ∃ a cap, v = .slice a n cap ∧ RdF w w.heap.size a n cap zs := by
  have hl := h.1
  simp at hl
  rcases h.2 with ⟨rfl, rfl⟩ | ⟨g, cap, cur, rfl, hb, hg, hnc, hcm, hcs, ht⟩
  · exact ⟨none, 0, rfl, by omega, .inl rfl, Nat.le_refl _, Nat.zero_le _, fun _ => rfl⟩
  · refine ⟨_, cap, rfl, by omega, ?_, hnc, hcm, fun h => by simp at h⟩
    right
    refine ⟨g, 0, rfl, ?_, fun j hj => ?_⟩
    · have : w.heap[g]?.isSome := by rw [hg]; rfl
      simpa using this
    · have hc := h.cellAt j (by omega)
      rw [Nat.zero_add, hc, List.getElem?_map, List.getElem?_eq_getElem (by omega)]
      simp

theorem newsF {w : World} {B : Nat} {ad : Addr} {n cap : Nat} {zs : List Nat} (h : RdF w B (some ad) n cap zs) :
    ∀ j v, (zs.map (Value.float .f64))[j]? = some v → w.cell? (ad.add j) = some v := by
  intro j v hj
  have hj1 := (List.getElem?_eq_some_iff.1 hj).1
  have hl := h.1
  simp only [List.length_map] at hj1
  rcases h.2.1 with h0 | ⟨b, o, ha, _, hc⟩
  · omega
  · cases ha
    rw [Addr.add_lit, hc j (by omega), ← hj, List.getElem?_map, List.getElem?_eq_getElem hj1]
    rfl

theorem floats_oneCell (zs : List Nat) : ∀ u ∈ zs.map (Value.float .f64), u.oneCell' = true := by
  intro u hu
  obtain ⟨z, _, rfl⟩ := List.mem_map.1 hu
  rfl

/-- What stands behind a list of floats that is lent: 0.125, 1.125, 2.125. -/
def fmarks (k : Nat) : List Nat := [4593671619917905920, 4607745368753438720, 4611967493404098560].take k
theorem fmark_run (k : Nat) (h : k < 3) (P : Program) (t : TypeId) (V : World) : ∃ r, (binOp .add t (.float .f64 4593671619917905920) (.float .f64 (floatOfInt .f64 (k : Int)))).run P V = .ok (.float .f64 r) V ∧ fmarks (k + 1) = fmarks k ++ [r] := by
  match k, h with
  | 0, _ => exact ⟨4593671619917905920, run_float_arith V _ _ _ _ _ _ (by decide +kernel), rfl⟩
  | 1, _ => exact ⟨4607745368753438720, run_float_arith V _ _ _ _ _ _ (by decide +kernel), rfl⟩
  | 2, _ => exact ⟨4611967493404098560, run_float_arith V _ _ _ _ _ _ (by decide +kernel), rfl⟩

end Go.Proofs.YtalapdhdlboknaaGreatDoor

/- real.Sum and the document's Sum, of any list of floats. -/
namespace Go.Proofs.YtalapdhdlboknaaGreatDoor
open Go.RowKit
set_option linter.unusedVariables false

/-- A struct's memory. -/
def FBox (w : World) (b t : Nat) (vs : Array Value) : Prop := w.heap[b]? = some (.cells vs t (0, 0))
theorem FBox.cell {w : World} {b t : Nat} {vs : Array Value} (h : FBox w b t vs) (j : Nat) : w.cell? ⟨b, j, none⟩ = vs[j]? := by
  unfold FBox at h
  simp [World.cell?, h]
theorem FBox.free {w : World} {b t : Nat} {vs : Array Value} (h : FBox w b t vs) (j : Nat) : w.frozen? ⟨b, j, none⟩ = false := by
  unfold FBox at h
  simp [World.frozen?, h]
theorem FBox.later {w w' : World} {B b t : Nat} {vs : Array Value} (h : FBox w b t vs) (hb : Below B w w') (hlt : b < B) : FBox w' b t vs := by
  unfold FBox at *
  rw [hb.block b hlt]; exact h
theorem FBox.lt {w : World} {b t : Nat} {vs : Array Value} (h : FBox w b t vs) : b < w.heap.size := by
  unfold FBox at h
  have : w.heap[b]?.isSome := by rw [h]; rfl
  simpa using this
theorem FBox.made (w : World) (t : Nat) (vs : Array Value) : FBox (w.alloc (.cells vs t)) w.heap.size t vs := by
  unfold FBox
  show (w.heap.push _)[w.heap.size]? = _
  rw [Array.getElem?_push, if_pos rfl]
theorem FBox.other {w : World} {b t : Nat} {vs : Array Value} (h : FBox w b t vs) (p : Addr) (v : Value) (hne : b ≠ p.block) : FBox (w.setCell p v) b t vs := by
  unfold FBox at *
  rw [Below.heap_setCell w p v b hne]; exact h
theorem FBox.drewN {w : World} {b t : Nat} {vs : Array Value} (h : FBox w b t vs) (n : Nat) : FBox (w.drewN n) b t vs := h
theorem FBox.set {w : World} {b t : Nat} {vs : Array Value} (h : FBox w b t vs) (j : Nat) (v : Value) : FBox (w.setCell ⟨b, j, none⟩ v) b t (vs.setIfInBounds j v) := by
  unfold FBox at *
  simp only [World.setCell, Array.getElem?_modify, if_pos, h]
  simp

/-- What Sum tells. -/
def sumV (r : Nat × Nat × Int × Int) : Value := .tuple #[.float .f64 r.1, .float .f64 r.2.1, .agg #[.int .i64 r.2.2.1, .int .i64 r.2.2.2]]

/-- Each float has 64 bits. -/
def Wf (xs : List Nat) : Prop := ∀ j : Nat, xs[j]?.getD 0 < 18446744073709551616

theorem fput2 {B : Nat} {a w : World} (h : Below B a w) (b : Nat) (hb : B ≤ b) (v0 v1 : Value) : Below B a ((w.setCell ⟨b, 0, none⟩ v0).setCell ⟨b, 1, none⟩ v1) :=
  (h.setCell (p := ⟨b, 0, none⟩) hb _).setCell (p := ⟨b, 1, none⟩) hb _
theorem fbox_facts {w w' : World} {b t : Nat} {v0 v1 : Value} (h : FBox w b t #[v0, v1]) (hb : Below w.heap.size w w') : w'.cell? ⟨b, 0, none⟩ = some v0 ∧ w'.cell? ⟨b, 1, none⟩ = some v1 ∧ w'.frozen? ⟨b, 0, none⟩ = false ∧ w'.frozen? ⟨b, 1, none⟩ = false := by
  have h' := h.later hb h.lt
  exact ⟨h'.cell 0, h'.cell 1, h'.free 0, h'.free 1⟩

end Go.Proofs.YtalapdhdlboknaaGreatDoor

/- Complex fractions: gauss.Neg: of any, good or refused. -/
namespace Go.Proofs.YtalapdhdlboknaaGreatDoor
open Go.RowKit
set_option linter.unusedVariables false

set_option maxHeartbeats 3200000 in
set_option maxRecDepth 100000 in
theorem gNeg_full (n : Bool) (a : Option Addr) (ca : Nat) (xs : List Int) (b : Option Addr) (cb : Nat) (ys : List Int) (m : Bool) (c : Option Addr) (cc : Nat) (us : List Int) (d : Option Addr) (cd : Nat) (vs : List Int) (w : World) (sx : Sl w (.slice a xs.length ca) xs) (sy : Sl w (.slice b ys.length cb) ys) (su : Sl w (.slice c us.length cc) us) (sv : Sl w (.slice d vs.length cd) vs) :
    Calls Tryz.prog 14 #[.agg #[.bool n, .slice a xs.length ca, .slice b ys.length cb, .bool m, .slice c us.length cc, .slice d vs.length cd]] w (GTold w (gchk n xs ys m us vs) (rlong (-(rq n xs ys)) ∨ rlong (-(rq m us vs))) (-(rq n xs ys)) (-(rq m us vs))) := by
  have HX := hid (boxes2r w 26 #[.bool n, .slice a xs.length ca, .slice b ys.length cb, .bool m, .slice c us.length cc, .slice d vs.length cd] #[.bool false, .slice none 0 0, .slice none 0 0, .bool false, .slice none 0 0, .slice none 0 0])
  obtain ⟨X, hX⟩ : ∃ X, (w.alloc (.cells #[.bool n, .slice a xs.length ca, .slice b ys.length cb, .bool m, .slice c us.length cc, .slice d vs.length cd] 26)).alloc (.cells #[.bool false, .slice none 0 0, .slice none 0 0, .bool false, .slice none 0 0, .slice none 0 0] 26) = X := ⟨_, rfl⟩
  rw [hX] at HX
  have HY := hid (Box.made X 26 #[.bool n, .slice a xs.length ca, .slice b ys.length cb, .bool m, .slice c us.length cc, .slice d vs.length cd])
  have HYB := hid (alloc_later X (.cells #[.bool n, .slice a xs.length ca, .slice b ys.length cb, .bool m, .slice c us.length cc, .slice d vs.length cd] 26))
  obtain ⟨Y, hY⟩ : ∃ Y, X.alloc (.cells #[.bool n, .slice a xs.length ca, .slice b ys.length cb, .bool m, .slice c us.length cc, .slice d vs.length cd] 26) = Y := ⟨_, rfl⟩
  rw [hY] at HY HYB
  have HWY := hid (bt HX.out.2.2 HYB.out)
  have HL := hid (glookAt1_any X.heap.size n a ca xs b cb ys m c cc us d cd vs Y HY.out (sx.later HWY.out) (sy.later HWY.out) (su.later HWY.out) (sv.later HWY.out))
  have H1 : Hid (∀ V p E, Below w.heap.size w V → Box V p 53 #[.int .i64 E] → Calls Tryz.prog 33 #[.pointer (some ⟨p, 0, none⟩), .agg #[.bool n, .slice a xs.length ca, .slice b ys.length cb]] V (GTell V p (fstE E (rchk n xs ys)) (-(rq n xs ys)))) := fun V p E hv hb => gopposite_any p E n a ca xs b cb ys V hb (sx.later hv) (sy.later hv)
  have H2 : Hid (∀ V p E, Below w.heap.size w V → Box V p 53 #[.int .i64 E] → Calls Tryz.prog 33 #[.pointer (some ⟨p, 0, none⟩), .agg #[.bool m, .slice c us.length cc, .slice d vs.length cd]] V (GTell V p (fstE E (rchk m us vs)) (-(rq m us vs)))) := fun V p E hv hb => gopposite_any p E m c cc us d cd vs V hb (su.later hv) (sv.later hv)
  have HZ1 : Hid (gchk n xs ys m us vs = 0 → rchk n xs ys = 0 ∧ rchk m us vs = 0) := fun h => by
    exact gchk_ok h
  generalize gchk n xs ys m us vs = E0 at *
  generalize rchk n xs ys = e1 at *
  generalize rchk m us vs = e2 at *
  generalize -(rq n xs ys) = q1 at *
  generalize -(rq m us vs) = q2 at *
  clear sx sy su sv
  have ka0 : X.cell? ⟨w.heap.size, 0, none⟩ = some (.bool n) := HX.out.1.cell 0
  have ka1 : X.cell? ⟨w.heap.size, 1, none⟩ = some (.slice a xs.length ca) := HX.out.1.cell 1
  have ka2 : X.cell? ⟨w.heap.size, 2, none⟩ = some (.slice b ys.length cb) := HX.out.1.cell 2
  have ka3 : X.cell? ⟨w.heap.size, 3, none⟩ = some (.bool m) := HX.out.1.cell 3
  have ka4 : X.cell? ⟨w.heap.size, 4, none⟩ = some (.slice c us.length cc) := HX.out.1.cell 4
  have ka5 : X.cell? ⟨w.heap.size, 5, none⟩ = some (.slice d vs.length cd) := HX.out.1.cell 5
  go_enter Tryz.func14, Tryz.ntmps14
  go_wp2_with fail
  refine Calls.mono HL.out ?_
  rintro x w1 ⟨p, rfl, hpl, hpb, hb1⟩
  have HW1 := hid (bt HWY.out hb1)
  have HA1 := hid (HX.out.1.later (bt HYB.out hb1) HX.out.1.lt)
  have HR1 := hid (HX.out.2.1.later (bt HYB.out hb1) HX.out.2.1.lt)
  have HP1 := hid hpb
  have hpX : X.heap.size < p := Nat.lt_of_lt_of_le HY.out.lt hpl
  have hrX : w.heap.size + 1 < X.heap.size := HX.out.2.1.lt
  clear hpb hb1 hpl HL ka0 ka1 ka2 ka3 ka4 ka5
  have ka0 : w1.cell? ⟨w.heap.size, 0, none⟩ = some (.bool n) := HA1.out.cell 0
  have ka1 : w1.cell? ⟨w.heap.size, 1, none⟩ = some (.slice a xs.length ca) := HA1.out.cell 1
  have ka2 : w1.cell? ⟨w.heap.size, 2, none⟩ = some (.slice b ys.length cb) := HA1.out.cell 2
  go_wp2_with fail
  refine Calls.mono (H1.out _ p E0 HW1.out HP1.out) ?_
  rintro x w2 ⟨k1, v1, zs1, u1, ts1, code1, rfl, ov1, ou1, ht1, hp2, hg2, hcut1⟩
  obtain ⟨av1, cv1, rfl⟩ := own_slice' ov1
  obtain ⟨au1, cu1, rfl⟩ := own_slice' ou1
  have hw12 : w1.heap.size ≤ w2.heap.size := hg2.size
  have hp1l : p < w1.heap.size := HP1.out.lt
  have HW2 : Hid (Below w.heap.size w w2) := HW1.out.grown hg2 HW1.out.size (fun q hq => by have e := Option.some.inj hq; omega)
  have HA2 := hid (HA1.out.kept' hg2 (by intro e; have := Option.some.inj e; omega))
  have HR2 := hid (HR1.out.kept' hg2 (by intro e; have := Option.some.inj e; omega))
  have HP2 := hid hp2
  have HV1 := hid ov1
  have HU1 := hid ou1
  have HT1 := hid ht1
  have HN := hid (Box.made w2 24 #[.bool k1, .slice av1 zs1.length cv1, .slice au1 ts1.length cu1])
  have HNB := hid (alloc_later w2 (.cells #[.bool k1, .slice av1 zs1.length cv1, .slice au1 ts1.length cu1] 24))
  obtain ⟨Z, hZ⟩ : ∃ Z, w2.alloc (.cells #[.bool k1, .slice av1 zs1.length cv1, .slice au1 ts1.length cu1] 24) = Z := ⟨_, rfl⟩
  rw [hZ] at HN HNB
  have HAZ := hid (HA2.out.later HNB.out HA2.out.lt)
  clear ov1 ou1 ht1 hp2 hg2 hcut1 HW1 HA1 HR1 HP1 H1 ka0 ka1 ka2
  have ka0 : Z.cell? ⟨w.heap.size, 3, none⟩ = some (.bool m) := HAZ.out.cell 3
  have ka1 : Z.cell? ⟨w.heap.size, 4, none⟩ = some (.slice c us.length cc) := HAZ.out.cell 4
  have ka2 : Z.cell? ⟨w.heap.size, 5, none⟩ = some (.slice d vs.length cd) := HAZ.out.cell 5
  go_wp2_with fail
  refine Calls.mono (H2.out _ p code1 (bt HW2.out HNB.out) (HP2.out.later HNB.out HP2.out.lt)) ?_
  rintro x w3 ⟨k2, v2, zs2, u2, ts2, code2, rfl, ov2, ou2, ht2, hp3, hg3, hcut2⟩
  obtain ⟨av2, cv2, rfl⟩ := own_slice' ov2
  obtain ⟨au2, cu2, rfl⟩ := own_slice' ou2
  have hZ3 : Z.heap.size ≤ w3.heap.size := hg3.size
  have hw2Z : w2.heap.size < Z.heap.size := HN.out.lt
  have HW3 : Hid (Below w.heap.size w w3) := (bt HW2.out HNB.out).grown hg3 (bt HW2.out HNB.out).size (fun q hq => by have e := Option.some.inj hq; omega)
  have HR3 := hid ((HR2.out.later HNB.out HR2.out.lt).kept' hg3 (by intro e; have := Option.some.inj e; omega))
  have HN3 := hid (HN.out.kept' hg3 (by intro e; have := Option.some.inj e; omega))
  have HP3 := hid hp3
  have hk : ∀ (v : Value) (q : Nat), (∀ g, v.ownBlock = some g → q ≤ g) → p < q → v.ownBlock = none ∨ v.ownBlock ≠ some p := fun v q h1 h2 => by
    cases e : v.ownBlock with
    | none => exact .inl rfl
    | some g => right; intro h; have e2 := Option.some.inj h; have := h1 g e; omega
  have HV3 := hid (World.ownsRow.kept (owns_later HV1.out HNB.out) hg3 (hk _ w1.heap.size (fun g hg => (HV1.out.lt g hg).1) hp1l))
  have HU3 := hid (World.ownsRow.kept (owns_later HU1.out HNB.out) hg3 (hk _ w1.heap.size (fun g hg => (HU1.out.lt g hg).1) hp1l))
  have HV4 := hid ov2
  have HU4 := hid ou2
  have HT2 := hid ht2
  clear hk
  have HM := hid (Box.made w3 24 #[.bool k2, .slice av2 zs2.length cv2, .slice au2 ts2.length cu2])
  have HMB := hid (alloc_later w3 (.cells #[.bool k2, .slice av2 zs2.length cv2, .slice au2 ts2.length cu2] 24))
  obtain ⟨Q, hQ⟩ : ∃ Q, w3.alloc (.cells #[.bool k2, .slice av2 zs2.length cv2, .slice au2 ts2.length cu2] 24) = Q := ⟨_, rfl⟩
  rw [hQ] at HM HMB
  have HNQ := hid (HN3.out.later HMB.out HN3.out.lt)
  have HTO := hid (gtold_any p code2 k1 av1 zs1.length cv1 au1 ts1.length cu1 k2 av2 zs2.length cv2 au2 ts2.length cu2 Q (HP3.out.later HMB.out HP3.out.lt))
  clear ov2 ou2 ht2 hp3 hg3 hcut2 H2 ka0 ka1 ka2
  have ka0 : Q.cell? ⟨w2.heap.size, 0, none⟩ = some (.bool k1) := HNQ.out.cell 0
  have ka1 : Q.cell? ⟨w2.heap.size, 1, none⟩ = some (.slice av1 zs1.length cv1) := HNQ.out.cell 1
  have ka2 : Q.cell? ⟨w2.heap.size, 2, none⟩ = some (.slice au1 ts1.length cu1) := HNQ.out.cell 2
  have kb0 : Q.cell? ⟨w3.heap.size, 0, none⟩ = some (.bool k2) := HM.out.cell 0
  have kb1 : Q.cell? ⟨w3.heap.size, 1, none⟩ = some (.slice av2 zs2.length cv2) := HM.out.cell 1
  have kb2 : Q.cell? ⟨w3.heap.size, 2, none⟩ = some (.slice au2 ts2.length cu2) := HM.out.cell 2
  go_wp2_with fail
  refine Calls.mono HTO.out ?_
  rintro x w4 ⟨rfl, hb4⟩
  have HR4 := hid (HR3.out.later (bt HMB.out hb4) HR3.out.lt)
  have HW4 := hid (bt HW3.out (bt HMB.out hb4))
  have HOO := hid (And.intro (owns_later HV3.out (bt HMB.out hb4)) (And.intro (owns_later HU3.out (bt HMB.out hb4)) (And.intro (owns_later HV4.out (bt HMB.out hb4)) (owns_later HU4.out (bt HMB.out hb4)))))
  have hlo : w.heap.size ≤ w1.heap.size := by omega
  have hlZ : w.heap.size ≤ Z.heap.size := by omega
  clear hb4 ka0 ka1 ka2 kb0 kb1 kb2
  have m0 : w4.cell? ⟨w.heap.size + 1, 0, none⟩ = some (.bool false) := HR4.out.cell 0
  have m1 : w4.cell? ⟨w.heap.size + 1, 1, none⟩ = some (.slice none 0 0) := HR4.out.cell 1
  have m2' : w4.cell? ⟨w.heap.size + 1, 2, none⟩ = some (.slice none 0 0) := HR4.out.cell 2
  have m3 : w4.cell? ⟨w.heap.size + 1, 3, none⟩ = some (.bool false) := HR4.out.cell 3
  have m4 : w4.cell? ⟨w.heap.size + 1, 4, none⟩ = some (.slice none 0 0) := HR4.out.cell 4
  have m5 : w4.cell? ⟨w.heap.size + 1, 5, none⟩ = some (.slice none 0 0) := HR4.out.cell 5
  have f0 := HR4.out.free 0
  have f1 := HR4.out.free 1
  have f2 := HR4.out.free 2
  have f3 := HR4.out.free 3
  have f4 := HR4.out.free 4
  have f5 := HR4.out.free 5
  have HTW := hid (gtwo HT1.out HT2.out (fun h => (HZ1.out h).1) (fun h => (HZ1.out h).2))
  by_cases hc2 : code2 = 0
  · rw [if_pos hc2]
    have HFIN := hid (HTW.out.1 hc2)
    clear HTW hc2
    go_wp2_with fail
    have B1 := box_put6 HR4.out (.bool k1) (.slice av1 zs1.length cv1) (.slice au1 ts1.length cu1) (.bool k2) (.slice av2 zs2.length cv2) (.slice au2 ts2.length cu2)
    have G1 := below_put6 HW4.out (w.heap.size + 1) (by omega) (.bool k1) (.slice av1 zs1.length cv1) (.slice au1 ts1.length cu1) (.bool k2) (.slice av2 zs2.length cv2) (.slice au2 ts2.length cu2)
    have hXX := HX.out.2.2.size
    have hput : ∀ {base k : Nat} {v : Value} {l : List Value}, w4.ownsRow base 62 1 v k l → (∀ g, v.ownBlock = some g → X.heap.size ≤ g) → ((((((w4.setCell ⟨w.heap.size + 1, 0, none⟩ (.bool k1)).setCell ⟨w.heap.size + 1, 1, none⟩ (.slice av1 zs1.length cv1)).setCell ⟨w.heap.size + 1, 2, none⟩ (.slice au1 ts1.length cu1)).setCell ⟨w.heap.size + 1, 3, none⟩ (.bool k2)).setCell ⟨w.heap.size + 1, 4, none⟩ (.slice av2 zs2.length cv2)).setCell ⟨w.heap.size + 1, 5, none⟩ (.slice au2 ts2.length cu2)).ownsRow base 62 1 v k l := fun h hb => own_put6 h _ (fun g hg => by have := hb g hg; omega) _ _ _ _ _ _
    clear m0 m1 m2' m3 m4 m5 f0 f1 f2 f3 f4 f5
    refine bodyPost_ret (gres_run (by rfl) B1 _ rfl) rfl ?_
    exact ⟨k1, av1, cv1, zs1, au1, cu1, ts1, k2, av2, cv2, zs2, au2, cu2, ts2, code2, rfl, ⟨owns_base (hput HOO.out.1 (fun g hg => by have := (HOO.out.1.lt g hg).1; omega)) hlo, owns_base (hput HOO.out.2.1 (fun g hg => by have := (HOO.out.2.1.lt g hg).1; omega)) hlo, owns_base (hput HOO.out.2.2.1 (fun g hg => by have := (HOO.out.2.2.1.lt g hg).1; omega)) hlZ, owns_base (hput HOO.out.2.2.2 (fun g hg => by have := (HOO.out.2.2.2.lt g hg).1; omega)) hlZ⟩, HFIN.out, G1⟩
  · rw [if_neg hc2]
    have HFIN := hid (HTW.out.2 hc2)
    clear HTW hc2
    go_wp2_with fail
    have B1 := box_put6 HR4.out (.bool false) (.slice none 0 0) (.slice none 0 0) (.bool false) (.slice none 0 0) (.slice none 0 0)
    have G1 := below_put6 HW4.out (w.heap.size + 1) (by omega) (.bool false) (.slice none 0 0) (.slice none 0 0) (.bool false) (.slice none 0 0) (.slice none 0 0)
    clear m0 m1 m2' m3 m4 m5 f0 f1 f2 f3 f4 f5
    refine bodyPost_ret (gres_run (by rfl) B1 _ rfl) rfl ?_
    exact ⟨false, none, 0, [], none, 0, [], false, none, 0, [], none, 0, [], code2, rfl, ⟨World.ownsRow_nil _ _ _ _, World.ownsRow_nil _ _ _ _, World.ownsRow_nil _ _ _ _, World.ownsRow_nil _ _ _ _⟩, HFIN.out, G1⟩

end Go.Proofs.YtalapdhdlboknaaGreatDoor

/- Complex fractions: gauss.Norm: of any, good or refused. -/
namespace Go.Proofs.YtalapdhdlboknaaGreatDoor
open Go.RowKit
set_option linter.unusedVariables false

theorem boxes2m (w : World) (t t' : Nat) (u v : Array Value) : Box ((w.alloc (.cells u t)).alloc (.cells v t')) w.heap.size t u ∧ Box ((w.alloc (.cells u t)).alloc (.cells v t')) (w.heap.size + 1) t' v ∧ Below w.heap.size w ((w.alloc (.cells u t)).alloc (.cells v t')) := by
  have e1 : (w.alloc (.cells u t)).heap.size = w.heap.size + 1 := World.size_alloc _ _
  have a := Box.made w t u
  have b := Box.made (w.alloc (.cells u t)) t' v
  exact ⟨a.later (alloc_later _ _) a.lt, e1 ▸ b, bt (alloc_later _ _) (alloc_later _ _)⟩
/-- A fraction is read out of a box, its error out of a slot. -/
theorem gresr_run {fn : Func} {W : World} {b q u : Nat} {cs : Array Value} (hr : fn.results = #[.cell q 24, .tmp u]) (hb : Box W b 24 cs) (tmps : Array Value) (h4 : tmps.getD q undef = .pointer (some ⟨b, 0, none⟩)) (hi : (Tryz.prog.info? 24).map (·.size) = some cs.size := by kernel_rfl) : (results fn tmps).run Tryz.prog W = .ok (.tuple #[.agg cs, tmps.getD u undef]) W := by
  have h := run_loadVar_row (P := Tryz.prog) W b 24 24 cs (0, 0) _ hb Tryz.underlying24 rfl hi
  rw [results_cell_tmp hr, h4]
  simp [asAddr, h]

set_option maxHeartbeats 3200000 in
set_option maxRecDepth 100000 in
theorem gNorm_full (n : Bool) (a : Option Addr) (ca : Nat) (xs : List Int) (b : Option Addr) (cb : Nat) (ys : List Int) (m : Bool) (c : Option Addr) (cc : Nat) (us : List Int) (d : Option Addr) (cd : Nat) (vs : List Int) (w : World) (sx : Sl w (.slice a xs.length ca) xs) (sy : Sl w (.slice b ys.length cb) ys) (su : Sl w (.slice c us.length cc) us) (sv : Sl w (.slice d vs.length cd) vs) :
    Calls Tryz.prog 15 #[.agg #[.bool n, .slice a xs.length ca, .slice b ys.length cb, .bool m, .slice c us.length cc, .slice d vs.length cd]] w fun x w' => ∃ n1 x1 y1 c1 n2 x2 y2 c2, RTells (fstE (gchk n xs ys m us vs) (rboth n xs ys n xs ys)) (rq n xs ys * rq n xs ys) n1 x1 y1 c1 ∧ RTells (fstE c1 (rboth m us vs m us vs)) (rq m us vs * rq m us vs) n2 x2 y2 c2 ∧ ∃ n3 a3 k3 x3 b3 l3 y3 code, x = .returned (.tuple #[.agg #[.bool n3, .slice a3 (List.length x3) k3, .slice b3 (List.length y3) l3], .int .i64 code]) ∧ (w'.ownsRow w.heap.size 62 1 (.slice a3 (List.length x3) k3) x3.length (x3.map (Value.int .u32)) ∧ w'.ownsRow w.heap.size 62 1 (.slice b3 (List.length y3) l3) y3.length (y3.map (Value.int .u32))) ∧ RTells (fstE c2 (rboth n1 x1 y1 n2 x2 y2)) (rq n1 x1 y1 + rq n2 x2 y2) n3 x3 y3 code ∧ Below w.heap.size w w' := by
  have HX := hid (boxes2m w 26 24 #[.bool n, .slice a xs.length ca, .slice b ys.length cb, .bool m, .slice c us.length cc, .slice d vs.length cd] #[.bool false, .slice none 0 0, .slice none 0 0])
  obtain ⟨X, hX⟩ : ∃ X, (w.alloc (.cells #[.bool n, .slice a xs.length ca, .slice b ys.length cb, .bool m, .slice c us.length cc, .slice d vs.length cd] 26)).alloc (.cells #[.bool false, .slice none 0 0, .slice none 0 0] 24) = X := ⟨_, rfl⟩
  rw [hX] at HX
  have HY := hid (Box.made X 26 #[.bool n, .slice a xs.length ca, .slice b ys.length cb, .bool m, .slice c us.length cc, .slice d vs.length cd])
  have HYB := hid (alloc_later X (.cells #[.bool n, .slice a xs.length ca, .slice b ys.length cb, .bool m, .slice c us.length cc, .slice d vs.length cd] 26))
  obtain ⟨Y, hY⟩ : ∃ Y, X.alloc (.cells #[.bool n, .slice a xs.length ca, .slice b ys.length cb, .bool m, .slice c us.length cc, .slice d vs.length cd] 26) = Y := ⟨_, rfl⟩
  rw [hY] at HY HYB
  have HWY := hid (bt HX.out.2.2 HYB.out)
  have HL := hid (glookAt1_any X.heap.size n a ca xs b cb ys m c cc us d cd vs Y HY.out (sx.later HWY.out) (sy.later HWY.out) (su.later HWY.out) (sv.later HWY.out))
  have H1 : Hid (∀ V p E, Below w.heap.size w V → w.heap.size ≤ p → Box V p 53 #[.int .i64 E] → Calls Tryz.prog 31 #[.pointer (some ⟨p, 0, none⟩), .agg #[.bool n, .slice a xs.length ca, .slice b ys.length cb, .bool m, .slice c us.length cc, .slice d vs.length cd]] V _) := hid (fun V p E hv hp hb => gsquare_any p E n a ca xs b cb ys m c cc us d cd vs V hb (fun U hU => by
    have hw : Below w.heap.size w U := hv.grown hU hv.size (fun q hq => by have e := Option.some.inj hq; omega)
    exact ⟨sx.later hw, sy.later hw, su.later hw, sv.later hw⟩))
  generalize gchk n xs ys m us vs = E0 at *
  clear sx sy su sv
  have ka0 : X.cell? ⟨w.heap.size, 0, none⟩ = some (.bool n) := HX.out.1.cell 0
  have ka1 : X.cell? ⟨w.heap.size, 1, none⟩ = some (.slice a xs.length ca) := HX.out.1.cell 1
  have ka2 : X.cell? ⟨w.heap.size, 2, none⟩ = some (.slice b ys.length cb) := HX.out.1.cell 2
  have ka3 : X.cell? ⟨w.heap.size, 3, none⟩ = some (.bool m) := HX.out.1.cell 3
  have ka4 : X.cell? ⟨w.heap.size, 4, none⟩ = some (.slice c us.length cc) := HX.out.1.cell 4
  have ka5 : X.cell? ⟨w.heap.size, 5, none⟩ = some (.slice d vs.length cd) := HX.out.1.cell 5
  go_enter Tryz.func15, Tryz.ntmps15
  go_wp2_with fail
  refine Calls.mono HL.out ?_
  rintro x w1 ⟨p, rfl, hpl, hpb, hb1⟩
  have HW1 := hid (bt HWY.out hb1)
  have HA1 := hid (HX.out.1.later (bt HYB.out hb1) HX.out.1.lt)
  have HR1 := hid (HX.out.2.1.later (bt HYB.out hb1) HX.out.2.1.lt)
  have HP1 := hid hpb
  have hpX : X.heap.size < p := Nat.lt_of_lt_of_le HY.out.lt hpl
  have hrX : w.heap.size + 1 < X.heap.size := HX.out.2.1.lt
  clear hpb hb1 hpl HL ka0 ka1 ka2 ka3 ka4 ka5
  have ka0 : w1.cell? ⟨w.heap.size, 0, none⟩ = some (.bool n) := HA1.out.cell 0
  have ka1 : w1.cell? ⟨w.heap.size, 1, none⟩ = some (.slice a xs.length ca) := HA1.out.cell 1
  have ka2 : w1.cell? ⟨w.heap.size, 2, none⟩ = some (.slice b ys.length cb) := HA1.out.cell 2
  have ka3 : w1.cell? ⟨w.heap.size, 3, none⟩ = some (.bool m) := HA1.out.cell 3
  have ka4 : w1.cell? ⟨w.heap.size, 4, none⟩ = some (.slice c us.length cc) := HA1.out.cell 4
  have ka5 : w1.cell? ⟨w.heap.size, 5, none⟩ = some (.slice d vs.length cd) := HA1.out.cell 5
  go_wp2_with fail
  refine Calls.mono (H1.out _ p E0 HW1.out (by have := HX.out.2.2.size; omega) HP1.out) ?_
  rintro x w2 ⟨n1, x1, y1, c1, n2, x2, y2, c2, t1, t2, k1, v1, zs1, u1, ts1, code1, rfl, ov1, ou1, ht1, hp2, hg2, hcut1⟩
  obtain ⟨av1, cv1, rfl⟩ := own_slice' ov1
  obtain ⟨au1, cu1, rfl⟩ := own_slice' ou1
  have hw12 : w1.heap.size ≤ w2.heap.size := hg2.size
  have hp1l : p < w1.heap.size := HP1.out.lt
  have HW2 : Hid (Below w.heap.size w w2) := HW1.out.grown hg2 HW1.out.size (fun q hq => by have e := Option.some.inj hq; omega)
  have HR2 := hid (HR1.out.kept' hg2 (by intro e; have := Option.some.inj e; omega))
  have HP2 := hid hp2
  have HV1 := hid ov1
  have HU1 := hid ou1
  have HT1 := hid t1
  have HT2 := hid t2
  have HT3 := hid ht1
  have HN := hid (Box.made w2 24 #[.bool k1, .slice av1 zs1.length cv1, .slice au1 ts1.length cu1])
  have HNB := hid (alloc_later w2 (.cells #[.bool k1, .slice av1 zs1.length cv1, .slice au1 ts1.length cu1] 24))
  obtain ⟨Z, hZ⟩ : ∃ Z, w2.alloc (.cells #[.bool k1, .slice av1 zs1.length cv1, .slice au1 ts1.length cu1] 24) = Z := ⟨_, rfl⟩
  rw [hZ] at HN HNB
  have HRZ := hid (HR2.out.later HNB.out HR2.out.lt)
  have HPZ := hid (HP2.out.later HNB.out HP2.out.lt)
  clear t1 t2 ov1 ou1 ht1 hp2 hg2 hcut1 HW1 HA1 HR1 HP1 H1 ka0 ka1 ka2 ka3 ka4 ka5
  have kp : Z.cell? ⟨p, 0, none⟩ = some (.int .i64 code1) := HPZ.out.cell 0
  have ka0 : Z.cell? ⟨w2.heap.size, 0, none⟩ = some (.bool k1) := HN.out.cell 0
  have ka1 : Z.cell? ⟨w2.heap.size, 1, none⟩ = some (.slice av1 zs1.length cv1) := HN.out.cell 1
  have ka2 : Z.cell? ⟨w2.heap.size, 2, none⟩ = some (.slice au1 ts1.length cu1) := HN.out.cell 2
  have m0 : Z.cell? ⟨w.heap.size + 1, 0, none⟩ = some (.bool false) := HRZ.out.cell 0
  have m1 : Z.cell? ⟨w.heap.size + 1, 1, none⟩ = some (.slice none 0 0) := HRZ.out.cell 1
  have m2 : Z.cell? ⟨w.heap.size + 1, 2, none⟩ = some (.slice none 0 0) := HRZ.out.cell 2
  have f0 := HRZ.out.free 0
  have f1 := HRZ.out.free 1
  have f2 := HRZ.out.free 2
  go_wp2_with fail
  have hne1 : w2.heap.size ≠ w.heap.size + 1 := by omega
  have hne2 : p ≠ w.heap.size + 1 := by omega
  go_region
  all_goals
    go_wp2_with fail
    have B1 := box_put3 HRZ.out (.bool k1) (.slice av1 zs1.length cv1) (.slice au1 ts1.length cu1)
    have hv : ∀ b', (Value.slice av1 zs1.length cv1).ownBlock = some b' → b' ≠ w.heap.size + 1 := fun b' hb => by have := (HV1.out.lt b' hb).1; omega
    have hu : ∀ b', (Value.slice au1 ts1.length cu1).ownBlock = some b' → b' ≠ w.heap.size + 1 := fun b' hb => by have := (HU1.out.lt b' hb).1; omega
    have V1 := own_put3' (owns_later HV1.out HNB.out) _ hv (.bool k1) (.slice av1 zs1.length cv1) (.slice au1 ts1.length cu1)
    have U1 := own_put3' (owns_later HU1.out HNB.out) _ hu (.bool k1) (.slice av1 zs1.length cv1) (.slice au1 ts1.length cu1)
    have G1 := below_put3 (bt HW2.out HNB.out) (w.heap.size + 1) (by omega) (.bool k1) (.slice av1 zs1.length cv1) (.slice au1 ts1.length cu1)
    have hlo : w.heap.size ≤ w1.heap.size := by omega
    generalize ((Z.setCell ⟨w.heap.size + 1, 0, none⟩ (.bool k1)).setCell ⟨w.heap.size + 1, 1, none⟩ (.slice av1 zs1.length cv1)).setCell ⟨w.heap.size + 1, 2, none⟩ (.slice au1 ts1.length cu1) = U at *
    have B2 : Box U.drew (w.heap.size + 1) 24 #[.bool k1, .slice av1 zs1.length cv1, .slice au1 ts1.length cu1] := B1
    have G2 := Below.drew G1
    have V2 : U.drew.ownsRow w.heap.size 62 1 (.slice av1 zs1.length cv1) zs1.length (zs1.map (Value.int .u32)) := owns_base V1 hlo
    have U2 : U.drew.ownsRow w.heap.size 62 1 (.slice au1 ts1.length cu1) ts1.length (ts1.map (Value.int .u32)) := owns_base U1 hlo
    refine bodyPost_ret (gresr_run (by rfl) B2 _ rfl) rfl ?_
    exact ⟨n1, x1, y1, c1, n2, x2, y2, c2, HT1.out, HT2.out, k1, av1, cv1, zs1, au1, cu1, ts1, code1, rfl, ⟨V2, U2⟩, HT3.out, G2⟩
end Go.Proofs.YtalapdhdlboknaaGreatDoor

/- Complex fractions: fractionOf: of any whole number. -/
namespace Go.Proofs.YtalapdhdlboknaaGreatDoor
open Go.RowKit
set_option linter.unusedVariables false

set_option maxHeartbeats 1600000 in
set_option maxRecDepth 100000 in
theorem gfractionOf_any (x : Int) (w : World) (x0 : -9223372036854775808 ≤ x) (x1 : x ≤ 9223372036854775807) :
    Calls Tryz.prog 40 #[.int .i64 x] w fun e w' => ∃ n v xs u ys code, e = .returned (.agg #[.bool n, v, u]) ∧ w'.ownsRow w.heap.size 62 1 v xs.length (xs.map (Value.int .u32)) ∧ w'.ownsRow w.heap.size 62 1 u ys.length (ys.map (Value.int .u32)) ∧ RTells 0 (Rat.divInt x 1) n xs ys code ∧ Below w.heap.size w w' ∧ Cut w v u w' := by
  have HX := hid (Box.made w 24 #[.bool false, .slice none 0 0, .slice none 0 0])
  have HB := hid (alloc_later w (.cells #[.bool false, .slice none 0 0, .slice none 0 0] 24))
  obtain ⟨X, hX⟩ : ∃ X, w.alloc (.cells #[.bool false, .slice none 0 0, .slice none 0 0] 24) = X := ⟨_, rfl⟩
  rw [hX] at HX HB
  have HS : Hid (∀ V, Calls Tryz.prog 41 #[.int .i64 x, .int .i64 1] V (RToldA V 0 (Rat.divInt x 1))) := hid (fun V => rsmall_any x 1 V x0 x1 (by omega) (by omega))
  go_enter Tryz.func40, Tryz.ntmps40
  go_wp2_with fail
  refine Calls.mono (HS.out _) ?_
  rintro e w1 ⟨k, v, zs, u, ts, code, rfl, ov, ou, ht, hb1, hcut⟩
  obtain ⟨av, cv, rfl⟩ := own_slice' ov
  obtain ⟨au, cu, rfl⟩ := own_slice' ou
  have HM1 := hid (HX.out.later hb1 HX.out.lt)
  have HBB := hid (bt HB.out hb1)
  have HN := hid (Box.made w1 24 #[.bool k, .slice av zs.length cv, .slice au ts.length cu])
  have HNB := hid (alloc_later w1 (.cells #[.bool k, .slice av zs.length cv, .slice au ts.length cu] 24))
  obtain ⟨Z, hZ⟩ : ∃ Z, w1.alloc (.cells #[.bool k, .slice av zs.length cv, .slice au ts.length cu] 24) = Z := ⟨_, rfl⟩
  rw [hZ] at HN HNB
  have HMZ := hid (HM1.out.later HNB.out HM1.out.lt)
  have HOV := hid ov
  have HOU := hid ou
  have HTT := hid ht
  have HCC := hid hcut
  clear ov ou ht hcut hb1 HS x0 x1
  have k0 : Z.cell? ⟨w1.heap.size, 0, none⟩ = some (.bool k) := HN.out.cell 0
  have k1 : Z.cell? ⟨w1.heap.size, 1, none⟩ = some (.slice av zs.length cv) := HN.out.cell 1
  have k2 : Z.cell? ⟨w1.heap.size, 2, none⟩ = some (.slice au ts.length cu) := HN.out.cell 2
  have m0 : Z.cell? ⟨w.heap.size, 0, none⟩ = some (.bool false) := HMZ.out.cell 0
  have m1 : Z.cell? ⟨w.heap.size, 1, none⟩ = some (.slice none 0 0) := HMZ.out.cell 1
  have m2 : Z.cell? ⟨w.heap.size, 2, none⟩ = some (.slice none 0 0) := HMZ.out.cell 2
  have f0 := HMZ.out.free 0
  have f1 := HMZ.out.free 1
  have f2 := HMZ.out.free 2
  go_wp2_with fail
  have h3 := HX.out.lt
  have hZs : w1.heap.size ≤ Z.heap.size := HNB.out.size
  have hv : ∀ b', (Value.slice av zs.length cv).ownBlock = some b' → b' ≠ w.heap.size := fun b' hb => by have := (HOV.out.lt b' hb).1; omega
  have hu : ∀ b', (Value.slice au ts.length cu).ownBlock = some b' → b' ≠ w.heap.size := fun b' hb => by have := (HOU.out.lt b' hb).1; omega
  have B1 := box_put3 HMZ.out (.bool k) (.slice av zs.length cv) (.slice au ts.length cu)
  have V1 := own_put3' (owns_later HOV.out HNB.out) _ hv (.bool k) (.slice av zs.length cv) (.slice au ts.length cu)
  have U1 := own_put3' (owns_later HOU.out HNB.out) _ hu (.bool k) (.slice av zs.length cv) (.slice au ts.length cu)
  have G1 := below_put3 (bt HBB.out HNB.out) w.heap.size (Nat.le_refl _) (.bool k) (.slice av zs.length cv) (.slice au ts.length cu)
  have hXw : w.heap.size ≤ X.heap.size := by omega
  refine bodyPost_ret (results_cell_row (by rfl) _ _ w.heap.size 24 _ (0, 0) _ (by rfl) B1 Tryz.underlying24 rfl (by kernel_rfl)) rfl ?_
  exact ⟨k, _, zs, _, ts, code, rfl, owns_base V1 hXw, owns_base U1 hXw, HTT.out, G1, HCC.out.up hXw (by simp [World.setCell]; exact hZs)⟩
end Go.Proofs.YtalapdhdlboknaaGreatDoor

/- Complex fractions, the laws' own: frac; two fractions, two complex fractions with the same words. -/
namespace Go.Proofs.YtalapdhdlboknaaGreatDoor
open Go.RowKit
set_option linter.unusedVariables false

set_option maxHeartbeats 1600000 in
set_option maxRecDepth 100000 in
theorem gfrac_any (x y : Int) (w : World) (x0 : -9223372036854775808 ≤ x) (x1 : x ≤ 9223372036854775807) (y0 : -9223372036854775808 ≤ y) (y1 : y ≤ 9223372036854775807) (hy : y ≠ 0) :
    Calls Tryz.prog 21 #[.int .i64 x, .int .i64 y] w fun e w' => ∃ n v xs u ys code, e = .returned (.agg #[.bool n, v, u]) ∧ w'.ownsRow w.heap.size 62 1 v xs.length (xs.map (Value.int .u32)) ∧ w'.ownsRow w.heap.size 62 1 u ys.length (ys.map (Value.int .u32)) ∧ RTells 0 (Rat.divInt x y) n xs ys code ∧ Below w.heap.size w w' ∧ Cut w v u w' := by
  have HX := hid (Box.made w 24 #[.bool false, .slice none 0 0, .slice none 0 0])
  have HB := hid (alloc_later w (.cells #[.bool false, .slice none 0 0, .slice none 0 0] 24))
  obtain ⟨X, hX⟩ : ∃ X, w.alloc (.cells #[.bool false, .slice none 0 0, .slice none 0 0] 24) = X := ⟨_, rfl⟩
  rw [hX] at HX HB
  have HS : Hid (∀ V, Calls Tryz.prog 41 #[.int .i64 x, .int .i64 y] V (RToldA V (if y = 0 then 7 else 0) (Rat.divInt x y))) := hid (fun V => rsmall_any x y V x0 x1 y0 y1)
  rw [if_neg hy] at HS
  go_enter Tryz.func21, Tryz.ntmps21
  go_wp2_with fail
  refine Calls.mono (HS.out _) ?_
  rintro e w1 ⟨k, v, zs, u, ts, code, rfl, ov, ou, ht, hb1, hcut⟩
  obtain ⟨av, cv, rfl⟩ := own_slice' ov
  obtain ⟨au, cu, rfl⟩ := own_slice' ou
  have HM1 := hid (HX.out.later hb1 HX.out.lt)
  have HBB := hid (bt HB.out hb1)
  have HN := hid (Box.made w1 24 #[.bool k, .slice av zs.length cv, .slice au ts.length cu])
  have HNB := hid (alloc_later w1 (.cells #[.bool k, .slice av zs.length cv, .slice au ts.length cu] 24))
  obtain ⟨Z, hZ⟩ : ∃ Z, w1.alloc (.cells #[.bool k, .slice av zs.length cv, .slice au ts.length cu] 24) = Z := ⟨_, rfl⟩
  rw [hZ] at HN HNB
  have HMZ := hid (HM1.out.later HNB.out HM1.out.lt)
  have HOV := hid ov
  have HOU := hid ou
  have HTT := hid ht
  have HCC := hid hcut
  clear ov ou ht hcut hb1 HS x0 x1 y0 y1 hy
  have k0 : Z.cell? ⟨w1.heap.size, 0, none⟩ = some (.bool k) := HN.out.cell 0
  have k1 : Z.cell? ⟨w1.heap.size, 1, none⟩ = some (.slice av zs.length cv) := HN.out.cell 1
  have k2 : Z.cell? ⟨w1.heap.size, 2, none⟩ = some (.slice au ts.length cu) := HN.out.cell 2
  have m0 : Z.cell? ⟨w.heap.size, 0, none⟩ = some (.bool false) := HMZ.out.cell 0
  have m1 : Z.cell? ⟨w.heap.size, 1, none⟩ = some (.slice none 0 0) := HMZ.out.cell 1
  have m2 : Z.cell? ⟨w.heap.size, 2, none⟩ = some (.slice none 0 0) := HMZ.out.cell 2
  have f0 := HMZ.out.free 0
  have f1 := HMZ.out.free 1
  have f2 := HMZ.out.free 2
  go_wp2_with fail
  have h3 := HX.out.lt
  have hZs : w1.heap.size ≤ Z.heap.size := HNB.out.size
  have hv : ∀ b', (Value.slice av zs.length cv).ownBlock = some b' → b' ≠ w.heap.size := fun b' hb => by have := (HOV.out.lt b' hb).1; omega
  have hu : ∀ b', (Value.slice au ts.length cu).ownBlock = some b' → b' ≠ w.heap.size := fun b' hb => by have := (HOU.out.lt b' hb).1; omega
  have B1 := box_put3 HMZ.out (.bool k) (.slice av zs.length cv) (.slice au ts.length cu)
  have V1 := own_put3' (owns_later HOV.out HNB.out) _ hv (.bool k) (.slice av zs.length cv) (.slice au ts.length cu)
  have U1 := own_put3' (owns_later HOU.out HNB.out) _ hu (.bool k) (.slice av zs.length cv) (.slice au ts.length cu)
  have G1 := below_put3 (bt HBB.out HNB.out) w.heap.size (Nat.le_refl _) (.bool k) (.slice av zs.length cv) (.slice au ts.length cu)
  have hXw : w.heap.size ≤ X.heap.size := by omega
  refine bodyPost_ret (results_cell_row (by rfl) _ _ w.heap.size 24 _ (0, 0) _ (by rfl) B1 Tryz.underlying24 rfl (by kernel_rfl)) rfl ?_
  exact ⟨k, _, zs, _, ts, code, rfl, owns_base V1 hXw, owns_base U1 hXw, HTT.out, G1, HCC.out.up hXw (by simp [World.setCell]; exact hZs)⟩
set_option maxHeartbeats 1600000 in
set_option maxRecDepth 100000 in
theorem gsameRatio_eq (n : Bool) (v u v' u' : Value) (xs ys : List Int) (w : World) (h : Sl w v xs) (g : Sl w u ys) (h' : Sl w v' xs) (g' : Sl w u' ys) (lx : xs.length ≤ 281474976710656) (ly : ys.length ≤ 281474976710656) :
    Calls Tryz.prog 17 #[.agg #[.bool n, v, u], .agg #[.bool n, v', u']] w fun e w' => e = .returned (.bool true) ∧ Below w.heap.size w w' := by
  have HB : Hid (Below w.heap.size w ((w.alloc (.cells #[.bool n, v, u] 24)).alloc (.cells #[.bool n, v', u'] 24))) := bt (alloc_later _ _) (alloc_later _ _)
  have HN : Hid (Box ((w.alloc (.cells #[.bool n, v, u] 24)).alloc (.cells #[.bool n, v', u'] 24)) w.heap.size 24 #[.bool n, v, u]) := Box.later (Box.made w _ _) (alloc_later _ _) (by simp)
  have HM : Hid (Box ((w.alloc (.cells #[.bool n, v, u] 24)).alloc (.cells #[.bool n, v', u'] 24)) (w.heap.size + 1) 24 #[.bool n, v', u']) := by
    have e := Box.made (w.alloc (.cells #[.bool n, v, u] 24)) 24 #[.bool n, v', u']
    simp at e
    exact e
  have H1 := hid (same_sl v v' xs xs _ (h.later HB.out) (h'.later HB.out) lx lx)
  rw [decide_eq_true rfl] at H1
  have H2 := hid (fun ww (hb : Below _ ((w.alloc (.cells #[.bool n, v, u] 24)).alloc (.cells #[.bool n, v', u'] 24)) ww) => same_sl u u' ys ys ww ((g.later HB.out).later hb) ((g'.later HB.out).later hb) ly ly)
  rw [decide_eq_true rfl] at H2
  have hbb : (n == n) = true := by simp
  obtain ⟨a, ca, rfl, hr⟩ := h
  obtain ⟨b, cb, rfl, gr⟩ := g
  obtain ⟨a', ca', rfl, hr'⟩ := h'
  obtain ⟨b', cb', rfl, gr'⟩ := g'
  clear hr gr hr' gr'
  go_enter Tryz.func17, Tryz.ntmps17
  go_wp2_with fail
  refine Calls.mono H1.out ?_
  generalize ((w.alloc (.cells #[.bool n, .slice a xs.length ca, .slice b ys.length cb] 24)).alloc (.cells #[.bool n, .slice a' xs.length ca', .slice b' ys.length cb'] 24)) = X at *
  rintro e w1 ⟨rfl, hb1⟩
  obtain ⟨p0, p1, p2, _, _, _⟩ := res_box3 HN.out hb1
  obtain ⟨q0, q1, q2, _, _, _⟩ := res_box3 HM.out hb1
  have HC := hid (H2.out w1 hb1)
  have HB1 := hid (bt HB.out hb1)
  clear hb1 H1 H2
  go_wp2_with fail
  refine Calls.mono HC.out ?_
  rintro e w2 ⟨rfl, hb2⟩
  have HBN := hid (bt HB1.out hb2)
  clear hb2 HC
  go_wp2_with fail
  go_ret
  exact ⟨rfl, HBN.out⟩
end Go.Proofs.YtalapdhdlboknaaGreatDoor

/- Complex fractions: gauss.Int: of any two whole numbers. -/
namespace Go.Proofs.YtalapdhdlboknaaGreatDoor
open Go.RowKit
set_option linter.unusedVariables false

set_option maxHeartbeats 1600000 in
set_option maxRecDepth 100000 in
theorem gInt_any (x y : Int) (w : World) (x0 : -9223372036854775808 ≤ x) (x1 : x ≤ 9223372036854775807) (y0 : -9223372036854775808 ≤ y) (y1 : y ≤ 9223372036854775807) :
    Calls Tryz.prog 20 #[.int .i64 x, .int .i64 y] w fun e w' => ∃ n v xs u ys c1 m v' us u' vs c2, e = .returned (.agg #[.bool n, v, u, .bool m, v', u']) ∧ (w'.ownsRow w.heap.size 62 1 v xs.length (xs.map (Value.int .u32)) ∧ w'.ownsRow w.heap.size 62 1 u ys.length (ys.map (Value.int .u32)) ∧ w'.ownsRow w.heap.size 62 1 v' us.length (us.map (Value.int .u32)) ∧ w'.ownsRow w.heap.size 62 1 u' vs.length (vs.map (Value.int .u32))) ∧ RTells 0 (Rat.divInt x 1) n xs ys c1 ∧ RTells 0 (Rat.divInt y 1) m us vs c2 ∧ Below w.heap.size w w' := by
  have HX := hid (Box.made w 26 #[.bool false, .slice none 0 0, .slice none 0 0, .bool false, .slice none 0 0, .slice none 0 0])
  have HB := hid (alloc_later w (.cells #[.bool false, .slice none 0 0, .slice none 0 0, .bool false, .slice none 0 0, .slice none 0 0] 26))
  obtain ⟨X, hX⟩ : ∃ X, w.alloc (.cells #[.bool false, .slice none 0 0, .slice none 0 0, .bool false, .slice none 0 0, .slice none 0 0] 26) = X := ⟨_, rfl⟩
  rw [hX] at HX HB
  have H1 := hid (gfractionOf_any x X x0 x1)
  have H2 := hid (fun V => gfractionOf_any y V y0 y1)
  clear x0 x1 y0 y1
  go_enter Tryz.func20, Tryz.ntmps20
  go_wp2_with fail
  refine Calls.mono H1.out ?_
  rintro e w1 ⟨k1, v1, zs1, u1, ts1, code1, rfl, ov1, ou1, ht1, hb1, hcut1⟩
  obtain ⟨av1, cv1, rfl⟩ := own_slice' ov1
  obtain ⟨au1, cu1, rfl⟩ := own_slice' ou1
  have HM1 := hid (HX.out.later hb1 HX.out.lt)
  have HB1 := hid (bt HB.out hb1)
  have HXB := hid hb1.size
  have HV1 := hid ov1
  have HU1 := hid ou1
  have HT1 := hid ht1
  clear ov1 ou1 ht1 hb1 hcut1 H1
  go_wp2_with fail
  refine Calls.mono (H2.out _) ?_
  rintro e w2 ⟨k2, v2, zs2, u2, ts2, code2, rfl, ov2, ou2, ht2, hb2, hcut2⟩
  obtain ⟨av2, cv2, rfl⟩ := own_slice' ov2
  obtain ⟨au2, cu2, rfl⟩ := own_slice' ou2
  have HM2 := hid (HM1.out.later hb2 HM1.out.lt)
  have HB2 := hid (bt HB1.out hb2)
  have HV1' := hid (owns_later HV1.out hb2)
  have HU1' := hid (owns_later HU1.out hb2)
  have HV2 := hid ov2
  have HU2 := hid ou2
  have HT2 := hid ht2
  clear ov2 ou2 ht2 hb2 hcut2 H2
  have m0 : w2.cell? ⟨w.heap.size, 0, none⟩ = some (.bool false) := HM2.out.cell 0
  have f0 := HM2.out.free 0
  have m1 : w2.cell? ⟨w.heap.size, 1, none⟩ = some (.slice none 0 0) := HM2.out.cell 1
  have f1 := HM2.out.free 1
  have m2 : w2.cell? ⟨w.heap.size, 2, none⟩ = some (.slice none 0 0) := HM2.out.cell 2
  have f2 := HM2.out.free 2
  have m3 : w2.cell? ⟨w.heap.size, 3, none⟩ = some (.bool false) := HM2.out.cell 3
  have f3 := HM2.out.free 3
  have m4 : w2.cell? ⟨w.heap.size, 4, none⟩ = some (.slice none 0 0) := HM2.out.cell 4
  have f4 := HM2.out.free 4
  have m5 : w2.cell? ⟨w.heap.size, 5, none⟩ = some (.slice none 0 0) := HM2.out.cell 5
  have f5 := HM2.out.free 5
  go_wp2_with fail
  have h3 := HX.out.lt
  have h4 := HXB.out
  have B1 := box_put6 HM2.out (.bool k1) (.slice av1 zs1.length cv1) (.slice au1 ts1.length cu1) (.bool k2) (.slice av2 zs2.length cv2) (.slice au2 ts2.length cu2)
  have G1 := below_put6 HB2.out w.heap.size (Nat.le_refl _) (.bool k1) (.slice av1 zs1.length cv1) (.slice au1 ts1.length cu1) (.bool k2) (.slice av2 zs2.length cv2) (.slice au2 ts2.length cu2)
  have P1 := own_put6 HV1'.out w.heap.size (fun g hg => by have := (HV1'.out.lt g hg).1; omega) (.bool k1) (.slice av1 zs1.length cv1) (.slice au1 ts1.length cu1) (.bool k2) (.slice av2 zs2.length cv2) (.slice au2 ts2.length cu2)
  have P2 := own_put6 HU1'.out w.heap.size (fun g hg => by have := (HU1'.out.lt g hg).1; omega) (.bool k1) (.slice av1 zs1.length cv1) (.slice au1 ts1.length cu1) (.bool k2) (.slice av2 zs2.length cv2) (.slice au2 ts2.length cu2)
  have P3 := own_put6 HV2.out w.heap.size (fun g hg => by have := (HV2.out.lt g hg).1; omega) (.bool k1) (.slice av1 zs1.length cv1) (.slice au1 ts1.length cu1) (.bool k2) (.slice av2 zs2.length cv2) (.slice au2 ts2.length cu2)
  have P4 := own_put6 HU2.out w.heap.size (fun g hg => by have := (HU2.out.lt g hg).1; omega) (.bool k1) (.slice av1 zs1.length cv1) (.slice au1 ts1.length cu1) (.bool k2) (.slice av2 zs2.length cv2) (.slice au2 ts2.length cu2)
  have hX1 : w.heap.size ≤ X.heap.size := by omega
  have hX2 : w.heap.size ≤ w1.heap.size := by omega
  clear m0 m1 m2 m3 m4 m5 f0 f1 f2 f3 f4 f5
  refine bodyPost_ret (results_cell_row (by rfl) _ _ w.heap.size 26 _ (0, 0) _ (by rfl) B1 Tryz.underlying26 rfl (by kernel_rfl)) rfl ?_
  exact ⟨k1, _, zs1, _, ts1, code1, k2, _, zs2, _, ts2, code2, rfl, ⟨owns_base P1 hX1, owns_base P2 hX1, owns_base P3 hX2, owns_base P4 hX2⟩, HT1.out, HT2.out, G1⟩
end Go.Proofs.YtalapdhdlboknaaGreatDoor

/- Two complex fractions with the same words: slackwaterkit.SameGauss. -/
namespace Go.Proofs.YtalapdhdlboknaaGreatDoor
open Go.RowKit
set_option linter.unusedVariables false

set_option maxHeartbeats 1600000 in
set_option maxRecDepth 100000 in
theorem gsameGauss_eq (n : Bool) (a : Option Addr) (ca : Nat) (xs : List Int) (b : Option Addr) (cb : Nat) (ys : List Int) (m : Bool) (c : Option Addr) (cc : Nat) (us : List Int) (d : Option Addr) (cd : Nat) (vs : List Int) (a2 : Option Addr) (ca2 : Nat) (b2 : Option Addr) (cb2 : Nat) (c2 : Option Addr) (cc2 : Nat) (d2 : Option Addr) (cd2 : Nat) (w : World) (sx : Sl w (.slice a xs.length ca) xs) (sy : Sl w (.slice b ys.length cb) ys) (su : Sl w (.slice c us.length cc) us) (sv : Sl w (.slice d vs.length cd) vs) (sx2 : Sl w (.slice a2 xs.length ca2) xs) (sy2 : Sl w (.slice b2 ys.length cb2) ys) (su2 : Sl w (.slice c2 us.length cc2) us) (sv2 : Sl w (.slice d2 vs.length cd2) vs) (lx : xs.length ≤ 281474976710656) (ly : ys.length ≤ 281474976710656) (lu : us.length ≤ 281474976710656) (lv : vs.length ≤ 281474976710656) :
    Calls Tryz.prog 23 #[.agg #[.bool n, .slice a xs.length ca, .slice b ys.length cb, .bool m, .slice c us.length cc, .slice d vs.length cd], .agg #[.bool n, .slice a2 xs.length ca2, .slice b2 ys.length cb2, .bool m, .slice c2 us.length cc2, .slice d2 vs.length cd2]] w fun x w' => x = .returned (.bool true) ∧ Below w.heap.size w w' := by
  have HX := hid (boxes2m w 26 26 #[.bool n, .slice a xs.length ca, .slice b ys.length cb, .bool m, .slice c us.length cc, .slice d vs.length cd] #[.bool n, .slice a2 xs.length ca2, .slice b2 ys.length cb2, .bool m, .slice c2 us.length cc2, .slice d2 vs.length cd2])
  obtain ⟨X, hX⟩ : ∃ X, (w.alloc (.cells #[.bool n, .slice a xs.length ca, .slice b ys.length cb, .bool m, .slice c us.length cc, .slice d vs.length cd] 26)).alloc (.cells #[.bool n, .slice a2 xs.length ca2, .slice b2 ys.length cb2, .bool m, .slice c2 us.length cc2, .slice d2 vs.length cd2] 26) = X := ⟨_, rfl⟩
  rw [hX] at HX
  have H1 := hid (gsameRatio_eq n _ _ _ _ xs ys X (sx.later HX.out.2.2) (sy.later HX.out.2.2) (sx2.later HX.out.2.2) (sy2.later HX.out.2.2) lx ly)
  have H2 : Hid (∀ V, Below w.heap.size w V → Calls Tryz.prog 17 #[.agg #[.bool m, .slice c us.length cc, .slice d vs.length cd], .agg #[.bool m, .slice c2 us.length cc2, .slice d2 vs.length cd2]] V fun e w' => e = .returned (.bool true) ∧ Below V.heap.size V w') := fun V hv => gsameRatio_eq m _ _ _ _ us vs V (su.later hv) (sv.later hv) (su2.later hv) (sv2.later hv) lu lv
  clear sx sy su sv sx2 sy2 su2 sv2 lx ly lu lv
  obtain ⟨k0, k1, k2, k3, k4, k5⟩ := cells6 HX.out.1
  obtain ⟨m0, m1, m2, m3, m4, m5⟩ := cells6 HX.out.2.1
  go_enter Tryz.func23, Tryz.ntmps23
  go_wp2_with fail
  refine Calls.mono H1.out ?_
  rintro e w1 ⟨rfl, hb1⟩
  have HW1 := hid (bt HX.out.2.2 hb1)
  have HA1 := hid (HX.out.1.later hb1 HX.out.1.lt)
  have HA2 := hid (HX.out.2.1.later hb1 HX.out.2.1.lt)
  clear hb1 H1 k0 k1 k2 k3 k4 k5 m0 m1 m2 m3 m4 m5
  obtain ⟨k0, k1, k2, k3, k4, k5⟩ := cells6 HA1.out
  obtain ⟨m0, m1, m2, m3, m4, m5⟩ := cells6 HA2.out
  go_wp2_with fail
  refine Calls.mono (H2.out _ HW1.out) ?_
  rintro e w2 ⟨rfl, hb2⟩
  have HW2 := hid (bt HW1.out hb2)
  clear hb2 H2
  go_wp2_with fail
  go_ret
  exact ⟨rfl, HW2.out⟩
end Go.Proofs.YtalapdhdlboknaaGreatDoor

/- A complex fraction, a constituent, that came in is read. -/
namespace Go.Proofs.YtalapdhdlboknaaGreatDoor
open Go.ChangeShapes Go.WideShapes Go.ChangeAt Go.RowKit Go.Joins Go.Deep
set_option linter.unusedVariables false

/-- A slice of words that came in: nil, or a row of 'cap' cells. -/
def InRow (w : World) (a : Option Addr) (len cap : Nat) (zs : List Int) : Prop :=
  (a = none ∧ len = 0 ∧ cap = 0 ∧ zs = []) ∨
  ∃ x, a = some x ∧ len ≤ cap ∧ cap ≤ maxLen ∧ zs.length = cap ∧ (∀ i, i < zs.length → w.cell? (x.add i) = some (.int .u32 (zs.getD i 0))) ∧ ∀ n ∈ zs, (Lit.int .u32 n).wf = true
theorem arr6 {cs : Array Value} (h : cs.size = 6) : ∃ c0 c1 c2 c3 c4 c5, cs = #[c0, c1, c2, c3, c4, c5] := by
  rcases cs with ⟨l⟩
  match l, h with
  | [c0, c1, c2, c3, c4, c5], _ => exact ⟨c0, c1, c2, c3, c4, c5, rfl⟩
theorem arr9 {cs : Array Value} (h : cs.size = 9) : ∃ c0 c1 c2 c3 c4 c5 c6 c7 c8, cs = #[c0, c1, c2, c3, c4, c5, c6, c7, c8] := by
  rcases cs with ⟨l⟩
  match l, h with
  | [c0, c1, c2, c3, c4, c5, c6, c7, c8], _ => exact ⟨c0, c1, c2, c3, c4, c5, c6, c7, c8, rfl⟩
theorem in_row {H : Type} {enc : TypeId × Value → H} {w : World} {held : Bool} {n : Nat} {v : Value} {x : DataW H × List MemPlace} (h : DataW.trod enc Tryz.prog w 0 (fun _ => true) held n 22 [v] = some x) : ∃ a len cap zs, v = .slice a len cap ∧ InRow w a len cap zs := by
  rcases open_ints Tryz.underlying22 Tryz.underlying62 (by kernel_rfl) h with ⟨hcs, _⟩ | ⟨x, l, cc, zs, hcs, _, hl, hm, hz, _, hcell, hwz⟩
  · simp at hcs
    exact ⟨none, 0, 0, [], hcs, .inl ⟨rfl, rfl, rfl, rfl⟩⟩
  · simp at hcs
    exact ⟨some x, l, cc, zs, hcs, .inr ⟨_, rfl, hl, hm, by simpa using hz, hcell, hwz⟩⟩
theorem in_ratio {H : Type} {enc : TypeId × Value → H} {w : World} {held : Bool} {n : Nat} {v0 v1 v2 : Value} {x : DataW H × List MemPlace} (h : DataW.trod enc Tryz.prog w 0 (fun _ => true) held n 24 [v0, v1, v2] = some x) :
    ∃ s a len cap zs b lem cbp ys, v0 = .bool s ∧ v1 = .slice a len cap ∧ v2 = .slice b lem cbp ∧ InRow w a len cap zs ∧ InRow w b lem cbp ys := by
  obtain ⟨y0, y1, y2, m, _, _, t0, t1, t2⟩ := trod_struct3 Tryz.underlying24 h
  have k0 : Tryz.prog.cellsOf 4 = 1 := by kernel_rfl
  have k1 : Tryz.prog.cellsOf 22 = 1 := by kernel_rfl
  simp [k0] at t0
  simp [k1] at t1 t2
  obtain ⟨s, hs, _⟩ := DataW.trod_bool Tryz.underlying4 t0
  simp at hs
  obtain ⟨a, len, cap, zs, e1, r1⟩ := in_row t1
  obtain ⟨b, lem, cbp, ys, e2, r2⟩ := in_row t2
  exact ⟨s, a, len, cap, zs, b, lem, cbp, ys, hs, e1, e2, r1, r2⟩
theorem in_gauss {H : Type} {enc : TypeId × Value → H} {w : World} {held : Bool} {n : Nat} {v0 v1 v2 v3 v4 v5 : Value} {x : DataW H × List MemPlace} (h : DataW.trod enc Tryz.prog w 0 (fun _ => true) held n 26 [v0, v1, v2, v3, v4, v5] = some x) :
    (∃ s a len cap zs b lem cbp ys, v0 = .bool s ∧ v1 = .slice a len cap ∧ v2 = .slice b lem cbp ∧ InRow w a len cap zs ∧ InRow w b lem cbp ys) ∧ (∃ s a len cap zs b lem cbp ys, v3 = .bool s ∧ v4 = .slice a len cap ∧ v5 = .slice b lem cbp ∧ InRow w a len cap zs ∧ InRow w b lem cbp ys) := by
  obtain ⟨y0, y1, m, _, _, t0, t1⟩ := trod_struct2 Tryz.underlying26 h
  have k0 : Tryz.prog.cellsOf 24 = 3 := by kernel_rfl
  simp [k0] at t0 t1
  exact ⟨in_ratio t0, in_ratio t1⟩
set_option maxHeartbeats 800000 in
set_option maxRecDepth 100000 in
theorem open_gauss {H : Type} {enc : TypeId × Value → H} {w : World} {held : Bool} {r : Reach} {b0 : Nat} {v : Value} {d : DataW H} {p : List MemPlace} (hv : Value.okWide Tryz.prog w r b0 26 v) (h : DataW.Trod enc Tryz.prog w 0 (fun _ => true) held 26 v d p) :
    ∃ (n : Bool) (a : Option Addr) (len cap : Nat) (zs : List Int) (b : Option Addr) (lem cbp : Nat) (ys : List Int) (m : Bool) (c : Option Addr) (lec cac : Nat) (us : List Int) (e : Option Addr) (lee cae : Nat) (vs : List Int),
      v = .agg #[.bool n, .slice a len cap, .slice b lem cbp, .bool m, .slice c lec cac, .slice e lee cae] ∧ InRow w a len cap zs ∧ InRow w b lem cbp ys ∧ InRow w c lec cac us ∧ InRow w e lee cae vs := by
  obtain ⟨cs, rfl, hsz⟩ := okWide_struct Tryz.underlying26 hv
  obtain ⟨c0, c1, c2, c3, c4, c5, rfl⟩ := arr6 (hsz.trans (by kernel_rfl))
  obtain ⟨fuel, hf⟩ := h
  obtain ⟨⟨n, a, len, cap, zs, b, lem, cbp, ys, e1, e2, e3, r1, r2⟩, m2, c, lec, cac, us, e, lee, cae, vs, e4, e5, e6, r3, r4⟩ := in_gauss (v0 := c0) (v1 := c1) (v2 := c2) (v3 := c3) (v4 := c4) (v5 := c5) hf
  exact ⟨n, a, len, cap, zs, b, lem, cbp, ys, m2, c, lec, cac, us, e, lee, cae, vs, by rw [e1, e2, e3, e4, e5, e6], r1, r2, r3, r4⟩
end Go.Proofs.YtalapdhdlboknaaGreatDoor

