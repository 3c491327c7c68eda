/- My texts on the way to GaussKnown, one behind the other: contracts of the program and of the document's answers. -/
import Derived.Test.YtakeolfaamnkkaaGreatDoorJ1
import Derived.Test.YtakeolfaamnkkaaGreatDoorJ3
import Derived.Deep.RegionHeld3
import Derived.Deep.CutRange
import Derived.WalkKit
import Derived.WalkLawsBesides
import Derived.WalkSpells
import Derived.Test.YtakeolfaamnkkaaGreatDoorChecked
import Derived.Handy
/- Complex fractions: gauss.Quo: of any two, good or refused. -/
namespace Go.Proofs.YtakeolfaamnkkaaGreatDoor
open Go.RowKit
set_option linter.unusedVariables false

theorem GInv.put6 {w V : World} {p : Nat} {E : Int} {l : List (Nat × Nat × Array Value)} (h : GInv w p E l V) (b : Nat) (hb : w.heap.size ≤ b) (hp : p ≠ b) (hl : ∀ x ∈ l, x.1 ≠ b) (u0 u1 u2 u3 u4 u5 : Value) : GInv w p E l ((((((V.setCell ⟨b, 0, none⟩ u0).setCell ⟨b, 1, none⟩ u1).setCell ⟨b, 2, none⟩ u2).setCell ⟨b, 3, none⟩ u3).setCell ⟨b, 4, none⟩ u4).setCell ⟨b, 5, none⟩ u5) :=
  ⟨gbox_far6 h.err hp _ _ _ _ _ _, grow_put6 h.grown b _ _ _ _ _ _ (.inl hb), fun x hx => ⟨gbox_far6 (h.box x hx).1 (hl x hx) _ _ _ _ _ _, (h.box x hx).2⟩⟩
theorem GJ.put6 {w X V : World} {p : Nat} {E : Int} {l : List (Nat × Nat × Array Value)} (h : GJ w X p E l V) (hB : GB w X p l) (b : Nat) (hb : X.heap.size ≤ b) (u0 u1 u2 u3 u4 u5 : Value) : GJ w X p E l ((((((V.setCell ⟨b, 0, none⟩ u0).setCell ⟨b, 1, none⟩ u1).setCell ⟨b, 2, none⟩ u2).setCell ⟨b, 3, none⟩ u3).setCell ⟨b, 4, none⟩ u4).setCell ⟨b, 5, none⟩ u5) :=
  ⟨h.inv.put6 b (Nat.le_trans hB.hw hb) (by have := hB.hp; have := hB.hw; omega) (fun x hx => by have := hB.hl x hx; omega) _ _ _ _ _ _, grow_put6 h.gx b _ _ _ _ _ _ (.inl hb)⟩
/-- What times tells, inside a statement. -/
def GTm (w X : World) (p : Nat) (l : List (Nat × Nat × Array Value)) (V : World) (EE e1 e2 e3 e4 : Int) (q1 q2 q3 q4 : Rat) (x : Ending) (w' : World) : Prop :=
  ∃ n3 a3 k3 x3 b3 l3 y3 c3 n6 a6 k6 x6 b6 l6 y6 c6, x = .returned (.agg #[.bool n3, .slice a3 (List.length x3) k3, .slice b3 (List.length y3) l3, .bool n6, .slice a6 (List.length x6) k6, .slice b6 (List.length y6) l6]) ∧ Hid (G3 (· - ·) EE e1 e2 q1 q2 n3 x3 y3 c3 ∧ G3 (· + ·) c3 e3 e4 q3 q4 n6 x6 y6 c6) ∧ Hid (GJ w X p c6 l w') ∧ Hid (GRow w' V.heap.size n3 (.slice a3 (List.length x3) k3) x3 (.slice b3 (List.length y3) l3) y3 ∧ GRow w' V.heap.size n6 (.slice a6 (List.length x6) k6) x6 (.slice b6 (List.length y6) l6) y6) ∧ Hid (V.grownBy w' (some p)) ∧ X.heap.size ≤ w'.heap.size
theorem gtimesJ {w X V : World} {p : Nat} {EE e1 e2 e3 e4 : Int} {q1 q2 q3 q4 : Rat} {l : List (Nat × Nat × Array Value)} {k : Nat} {args : Array Value} (hv : GJ w X p EE l V) (H : Calls Tryz.prog k args V (GTimes V p EE e1 e2 e3 e4 q1 q2 q3 q4)) : Calls Tryz.prog k args V (GTm w X p l V EE e1 e2 e3 e4 q1 q2 q3 q4) := by
  refine Calls.mono H ?_
  rintro x w1 ⟨n3, a3, k3, x3, b3, l3, y3, c3, n6, a6, k6, x6, b6, l6, y6, c6, rfl, ⟨r3, r6⟩, t3, t6, hpb, hg, _⟩
  have hi := hv.step hpb hg
  exact ⟨n3, a3, k3, x3, b3, l3, y3, c3, n6, a6, k6, x6, b6, l6, y6, c6, rfl, hid ⟨t3, t6⟩, hid hi, hid ⟨r3, r6⟩, hid hg, hi.gx.size⟩
/-- What the statement leaves: a box with the complex fraction told. -/
def GCq (w X : World) (p : Nat) (l : List (Nat × Nat × Array Value)) (E eO : Int) (qO : Rat) (F1 F2 : Bool → List Int → List Int → Int) (e1 e2 : Int) (q1 q2 : Rat) (g1 g2 : Rat → Rat) (s : Value) (W : World) : Prop :=
  ∃ b nO xO yO cO n3 a3 k3 x3 b3 l3 y3 c3 n6 a6 k6 x6 b6 l6 y6 c6, s = .pointer (some ⟨b, 0, none⟩) ∧ X.heap.size ≤ b ∧ RTells (fstE E eO) qO nO xO yO cO ∧ G3 (· - ·) cO e1 (F1 nO xO yO) q1 (g1 (rq nO xO yO)) n3 x3 y3 c3 ∧ G3 (· + ·) c3 (F2 nO xO yO) e2 (g2 (rq nO xO yO)) q2 n6 x6 y6 c6 ∧ GInv w p c6 ((b, 26, #[.bool n3, .slice a3 (List.length x3) k3, .slice b3 (List.length y3) l3, .bool n6, .slice a6 (List.length x6) k6, .slice b6 (List.length y6) l6]) :: l) W ∧ GRow W X.heap.size n3 (.slice a3 (List.length x3) k3) x3 (.slice b3 (List.length y3) l3) y3 ∧ GRow W X.heap.size n6 (.slice a6 (List.length x6) k6) x6 (.slice b6 (List.length y6) l6) y6 ∧ X.grownBy W (some p)
theorem gcq_put {w X : World} {p : Nat} {l : List (Nat × Nat × Array Value)} {E eO : Int} {qO : Rat} {F1 F2 : Bool → List Int → List Int → Int} {e1 e2 : Int} {q1 q2 : Rat} {g1 g2 : Rat → Rat} {nO n3 n6 : Bool} {xO yO x3 y3 x6 y6 : List Int} {cO c3 c6 : Int} {a3 b3 a6 b6 : Option Addr} {k3 l3 k6 l6 : Nat} {W w4 V3 : World} {b : Nat} (hB : GB w X p l) (tO : RTells (fstE E eO) qO nO xO yO cO) (tt : G3 (· - ·) cO e1 (F1 nO xO yO) q1 (g1 (rq nO xO yO)) n3 x3 y3 c3 ∧ G3 (· + ·) c3 (F2 nO xO yO) e2 (g2 (rq nO xO yO)) q2 n6 x6 y6 c6) (j : GJ w X p c6 l W) (r4 : GRow w4 V3.heap.size n3 (.slice a3 (List.length x3) k3) x3 (.slice b3 (List.length y3) l3) y3 ∧ GRow w4 V3.heap.size n6 (.slice a6 (List.length x6) k6) x6 (.slice b6 (List.length y6) l6) y6) (hW : Below w4.heap.size w4 W) (hbx : Box W b 26 #[.bool false, .slice none 0 0, .slice none 0 0, .bool false, .slice none 0 0, .slice none 0 0]) (hb3 : b < V3.heap.size ∨ w4.heap.size ≤ b) (hXb : X.heap.size ≤ b) (hXV : X.heap.size ≤ V3.heap.size) :
    GCq w X p l E eO qO F1 F2 e1 e2 q1 q2 g1 g2 (.pointer (some ⟨b, 0, none⟩)) ((((((W.setCell ⟨b, 0, none⟩ (.bool n3)).setCell ⟨b, 1, none⟩ (.slice a3 x3.length k3)).setCell ⟨b, 2, none⟩ (.slice b3 y3.length l3)).setCell ⟨b, 3, none⟩ (.bool n6)).setCell ⟨b, 4, none⟩ (.slice a6 x6.length k6)).setCell ⟨b, 5, none⟩ (.slice b6 y6.length l6)) := by
  have hj := j.put6 hB b hXb (.bool n3) (.slice a3 x3.length k3) (.slice b3 y3.length l3) (.bool n6) (.slice a6 x6.length k6) (.slice b6 y6.length l6)
  have hk : ∀ {v : Value} {k : Nat} {zs : List Value}, w4.ownsRow V3.heap.size 35 1 v k zs → ((((((W.setCell ⟨b, 0, none⟩ (.bool n3)).setCell ⟨b, 1, none⟩ (.slice a3 x3.length k3)).setCell ⟨b, 2, none⟩ (.slice b3 y3.length l3)).setCell ⟨b, 3, none⟩ (.bool n6)).setCell ⟨b, 4, none⟩ (.slice a6 x6.length k6)).setCell ⟨b, 5, none⟩ (.slice b6 y6.length l6)).ownsRow X.heap.size 35 1 v k zs := fun h => owns_base (own_put6 (owns_later h hW) b (fun g hg => by have := h.lt g hg; omega) _ _ _ _ _ _) hXV
  exact ⟨b, nO, xO, yO, cO, n3, a3, k3, x3, b3, l3, y3, c3, n6, a6, k6, x6, b6, l6, y6, c6, rfl, hXb, tO, tt.1, tt.2, hj.inv.more (box_put6 hbx _ _ _ _ _ _) (by have := hB.hp; have := hB.hw; omega), ⟨hk r4.1.ov, hk r4.1.ou⟩, ⟨hk r4.2.ov, hk r4.2.ou⟩, hj.gx⟩
theorem gchainJ {w X W A0 A1 A2 A3 A4 A5 : World} {p : Nat} {E : Int} {l : List (Nat × Nat × Array Value)} {b : Nat} {v0 v1 v2 v3 v4 v5 : Value} (h : GJ w X p E l W) (hB : GB w X p l) (hb : X.heap.size ≤ b) (h0 : W.setCell ⟨b, 0, none⟩ v0 = A0) (h1 : A0.setCell ⟨b, 1, none⟩ v1 = A1) (h2 : A1.setCell ⟨b, 2, none⟩ v2 = A2) (h3 : A2.setCell ⟨b, 3, none⟩ v3 = A3) (h4 : A3.setCell ⟨b, 4, none⟩ v4 = A4) (h5 : A4.setCell ⟨b, 5, none⟩ v5 = A5) : GJ w X p E l A5 := by
  subst h0 h1 h2 h3 h4 h5
  exact h.put6 hB b hb _ _ _ _ _ _
theorem gbox_d {Y w3 : World} {T p : Nat} {Z : Array Value} (g : ((Y.alloc (.cells Z T)).drew).grownBy w3 (some p)) (hp : p < Y.heap.size) : Box w3 Y.heap.size T Z := (show Box ((Y.alloc (.cells Z T)).drew) Y.heap.size T Z from Box.made Y T Z).kept' g (some_ne hp)
theorem gbox_a {Y w3 : World} {T p : Nat} {Z : Array Value} (g : (Y.alloc (.cells Z T)).grownBy w3 (some p)) (hp : p < Y.heap.size) : Box w3 Y.heap.size T Z := (Box.made Y T Z).kept' g (some_ne hp)
theorem gbox_k {V W : World} {b T p : Nat} {Z : Array Value} (h : Box V b T Z) (g : V.grownBy W (some p)) (hp : p < b) : Box W b T Z := h.kept' g (some_ne hp)
theorem gbox_l (Y : World) (T : Nat) (Z : Array Value) : Box (Y.alloc (.cells Z T)) Y.heap.size T Z := Box.made Y T Z
theorem G3.wd {op : Rat → Rat → Rat} {E e1 e2 : Int} {q1 q2 : Rat} {n3 : Bool} {x3 y3 : List Int} {c3 : Int} (h : G3 op E e1 e2 q1 q2 n3 x3 y3 c3) : Wd x3 ∧ Wd y3 := by
  obtain ⟨_, _, _, _, _, _, _, _, _, _, t⟩ := h
  exact ⟨t.wx, t.wy⟩
theorem GInv.belowed {w V V' : World} {p : Nat} {E : Int} {l : List (Nat × Nat × Array Value)} (h : GInv w p E l V) (hb : Below V.heap.size V V') : GInv w p E l V' := ⟨h.err.later hb h.err.lt, grow_trans h.grown (grow_below hb _), fun x hx => ⟨(h.box x hx).1.later hb (h.box x hx).1.lt, (h.box x hx).2⟩⟩
set_option maxHeartbeats 6400000 in
set_option maxRecDepth 100000 in
theorem gQuo_go (n : Bool) (a : Option Addr) (ca : Nat) (xs : List Int) (b : Option Addr) (cb : Nat) (ys : List Int) (m : Bool) (c : Option Addr) (cc : Nat) (us : List Int) (d : Option Addr) (cd : Nat) (vs : List Int) (n2 : Bool) (a2 : Option Addr) (ca2 : Nat) (xs2 : List Int) (b2' : Option Addr) (cb2 : Nat) (ys2 : List Int) (m2 : Bool) (c2 : Option Addr) (cc2 : Nat) (us2 : List Int) (d2 : Option Addr) (cd2 : Nat) (vs2 : List Int) (w : World) (sx : Sl w (.slice a xs.length ca) xs) (sy : Sl w (.slice b ys.length cb) ys) (su : Sl w (.slice c us.length cc) us) (sv : Sl w (.slice d vs.length cd) vs) (sx2 : Sl w (.slice a2 xs2.length ca2) xs2) (sy2 : Sl w (.slice b2' ys2.length cb2) ys2) (su2 : Sl w (.slice c2 us2.length cc2) us2) (sv2 : Sl w (.slice d2 vs2.length cd2) vs2) (hz : ¬ (fstE (gchk n xs ys m us vs) (gchk n2 xs2 ys2 m2 us2 vs2) = 0 ∧ xs2.length = 0 ∧ us2.length = 0)) :
    Calls Tryz.prog 4 #[.agg #[.bool n, .slice a xs.length ca, .slice b ys.length cb, .bool m, .slice c us.length cc, .slice d vs.length cd], .agg #[.bool n2, .slice a2 xs2.length ca2, .slice b2' ys2.length cb2, .bool m2, .slice c2 us2.length cc2, .slice d2 vs2.length cd2]] w (GTold w (fstE (gchk n xs ys m us vs) (gchk n2 xs2 ys2 m2 us2 vs2)) (qlong (rq n xs ys) (rq m us vs) (rq n2 xs2 ys2) (rq m2 us2 vs2) ∨ rlong ((rq n xs ys * -(rq m2 us2 vs2) + rq m us vs * rq n2 xs2 ys2) / (rq n2 xs2 ys2 * rq n2 xs2 ys2 + rq m2 us2 vs2 * rq m2 us2 vs2))) ((rq n xs ys * rq n2 xs2 ys2 - rq m us vs * -(rq m2 us2 vs2)) / (rq n2 xs2 ys2 * rq n2 xs2 ys2 + rq m2 us2 vs2 * rq m2 us2 vs2)) ((rq n xs ys * -(rq m2 us2 vs2) + rq m us vs * rq n2 xs2 ys2) / (rq n2 xs2 ys2 * rq n2 xs2 ys2 + rq m2 us2 vs2 * rq m2 us2 vs2))) := by
  have HX := hid (boxes3r w 26 #[.bool n, .slice a xs.length ca, .slice b ys.length cb, .bool m, .slice c us.length cc, .slice d vs.length cd] #[.bool n2, .slice a2 xs2.length ca2, .slice b2' ys2.length cb2, .bool m2, .slice c2 us2.length cc2, .slice d2 vs2.length cd2] #[.bool false, .slice none 0 0, .slice none 0 0, .bool false, .slice none 0 0, .slice none 0 0])
  obtain ⟨X, hX⟩ : ∃ X, ((w.alloc (.cells #[.bool n, .slice a xs.length ca, .slice b ys.length cb, .bool m, .slice c us.length cc, .slice d vs.length cd] 26)).alloc (.cells #[.bool n2, .slice a2 xs2.length ca2, .slice b2' ys2.length cb2, .bool m2, .slice c2 us2.length cc2, .slice d2 vs2.length cd2] 26)).alloc (.cells #[.bool false, .slice none 0 0, .slice none 0 0, .bool false, .slice none 0 0, .slice none 0 0] 26) = X := ⟨_, rfl⟩
  rw [hX] at HX
  have HY := hid (Box.made X 26 #[.bool n, .slice a xs.length ca, .slice b ys.length cb, .bool m, .slice c us.length cc, .slice d vs.length cd, .bool n2, .slice a2 xs2.length ca2, .slice b2' ys2.length cb2, .bool m2, .slice c2 us2.length cc2, .slice d2 vs2.length cd2])
  have HYB := hid (alloc_later X (.cells #[.bool n, .slice a xs.length ca, .slice b ys.length cb, .bool m, .slice c us.length cc, .slice d vs.length cd, .bool n2, .slice a2 xs2.length ca2, .slice b2' ys2.length cb2, .bool m2, .slice c2 us2.length cc2, .slice d2 vs2.length cd2] 26))
  obtain ⟨Y, hY⟩ : ∃ Y, X.alloc (.cells #[.bool n, .slice a xs.length ca, .slice b ys.length cb, .bool m, .slice c us.length cc, .slice d vs.length cd, .bool n2, .slice a2 xs2.length ca2, .slice b2' ys2.length cb2, .bool m2, .slice c2 us2.length cc2, .slice d2 vs2.length cd2] 26) = Y := ⟨_, rfl⟩
  rw [hY] at HY HYB
  have HWY := hid (bt HX.out.2.2.2 HYB.out)
  have HL := hid (glookAt2_any X.heap.size n a ca xs b cb ys m c cc us d cd vs n2 a2 ca2 xs2 b2' cb2 ys2 m2 c2 cc2 us2 d2 cd2 vs2 Y HY.out (sx.later HWY.out) (sy.later HWY.out) (su.later HWY.out) (sv.later HWY.out) (sx2.later HWY.out) (sy2.later HWY.out) (su2.later HWY.out) (sv2.later HWY.out))
  have wx2 := sx2.wd
  have wy2 := sy2.wd
  have wu2 := su2.wd
  have wv2 := sv2.wd
  have HZ1 : Hid (fstE (gchk n xs ys m us vs) (gchk n2 xs2 ys2 m2 us2 vs2) = 0 → (rchk n xs ys = 0 ∧ rchk m us vs = 0) ∧ (rchk n2 xs2 ys2 = 0 ∧ rchk m2 us2 vs2 = 0) ∧ ¬ (rq n2 xs2 ys2 = 0 ∧ rq m2 us2 vs2 = 0)) := fun h => by
    obtain ⟨h1, h2⟩ := fstE_ok h
    refine ⟨gchk_ok h1, gchk_ok h2, fun e => hz ⟨h, ?_, ?_⟩⟩
    · exact Classical.byContradiction (fun c => grq_ne wx2 wy2 (gchk_ok h2).1 (fun e => c (by rw [e]; rfl)) e.1)
    · exact Classical.byContradiction (fun c => grq_ne wu2 wv2 (gchk_ok h2).2 (fun e => c (by rw [e]; rfl)) e.2)
  have HSS : Hid (∀ V, Below w.heap.size w V → Sl V (.slice a xs.length ca) xs ∧ Sl V (.slice b ys.length cb) ys ∧ Sl V (.slice c us.length cc) us ∧ Sl V (.slice d vs.length cd) vs ∧ Sl V (.slice a2 xs2.length ca2) xs2 ∧ Sl V (.slice b2' ys2.length cb2) ys2 ∧ Sl V (.slice c2 us2.length cc2) us2 ∧ Sl V (.slice d2 vs2.length cd2) vs2) := fun V hw => ⟨sx.later hw, sy.later hw, su.later hw, sv.later hw, sx2.later hw, sy2.later hw, su2.later hw, sv2.later hw⟩
  have hzE : fstE (gchk n xs ys m us vs) (gchk n2 xs2 ys2 m2 us2 vs2) = 0 → ¬ (xs2.length = 0 ∧ us2.length = 0) := fun h e => hz ⟨h, e⟩
  generalize fstE (gchk n xs ys m us vs) (gchk n2 xs2 ys2 m2 us2 vs2) = E0 at *
  clear sx sy su sv sx2 sy2 su2 sv2 hz wx2 wy2 wu2 wv2
  have ka0 : X.cell? ⟨w.heap.size, 0, none⟩ = some (.bool n) := HX.out.1.cell 0
  have ka1 : X.cell? ⟨w.heap.size, 1, none⟩ = some (.slice a xs.length ca) := HX.out.1.cell 1
  have ka2 : X.cell? ⟨w.heap.size, 2, none⟩ = some (.slice b ys.length cb) := HX.out.1.cell 2
  have ka3 : X.cell? ⟨w.heap.size, 3, none⟩ = some (.bool m) := HX.out.1.cell 3
  have ka4 : X.cell? ⟨w.heap.size, 4, none⟩ = some (.slice c us.length cc) := HX.out.1.cell 4
  have ka5 : X.cell? ⟨w.heap.size, 5, none⟩ = some (.slice d vs.length cd) := HX.out.1.cell 5
  have kb0 : X.cell? ⟨w.heap.size + 1, 0, none⟩ = some (.bool n2) := HX.out.2.1.cell 0
  have kb1 : X.cell? ⟨w.heap.size + 1, 1, none⟩ = some (.slice a2 xs2.length ca2) := HX.out.2.1.cell 1
  have kb2 : X.cell? ⟨w.heap.size + 1, 2, none⟩ = some (.slice b2' ys2.length cb2) := HX.out.2.1.cell 2
  have kb3 : X.cell? ⟨w.heap.size + 1, 3, none⟩ = some (.bool m2) := HX.out.2.1.cell 3
  have kb4 : X.cell? ⟨w.heap.size + 1, 4, none⟩ = some (.slice c2 us2.length cc2) := HX.out.2.1.cell 4
  have kb5 : X.cell? ⟨w.heap.size + 1, 5, none⟩ = some (.slice d2 vs2.length cd2) := HX.out.2.1.cell 5
  have HZE := hid hzE
  clear hzE
  go_enter Tryz.func4, Tryz.ntmps4
  go_wp2_with fail
  refine Calls.mono HL.out ?_
  rintro x w1 ⟨p, rfl, hpl, hpb, hb1⟩
  have HW1 := hid (bt HWY.out hb1)
  have hpX0 : X.heap.size < p := Nat.lt_of_lt_of_le HY.out.lt hpl
  have hrX : w.heap.size + 1 + 1 < X.heap.size := HX.out.2.2.1.lt
  have HI : Hid (GInv w1 p E0 ((w.heap.size, 26, #[.bool n, .slice a xs.length ca, .slice b ys.length cb, .bool m, .slice c us.length cc, .slice d vs.length cd]) :: (w.heap.size + 1, 26, #[.bool n2, .slice a2 xs2.length ca2, .slice b2' ys2.length cb2, .bool m2, .slice c2 us2.length cc2, .slice d2 vs2.length cd2]) :: (w.heap.size + 1 + 1, 26, #[.bool false, .slice none 0 0, .slice none 0 0, .bool false, .slice none 0 0, .slice none 0 0]) :: []) w1) := hid (GInv.more (GInv.more (GInv.more ⟨hpb, ⟨rfl, rfl, rfl, Nat.le_refl _, fun _ _ _ => rfl⟩, fun x hx => by cases hx⟩ (HX.out.2.2.1.later (bt HYB.out hb1) HX.out.2.2.1.lt) (by omega)) (HX.out.2.1.later (bt HYB.out hb1) HX.out.2.1.lt) (by omega)) (HX.out.1.later (bt HYB.out hb1) HX.out.1.lt) (by omega))
  have HSV : Hid (∀ V, w1.grownBy V (some p) → Sl V (.slice a xs.length ca) xs ∧ Sl V (.slice b ys.length cb) ys ∧ Sl V (.slice c us.length cc) us ∧ Sl V (.slice d vs.length cd) vs ∧ Sl V (.slice a2 xs2.length ca2) xs2 ∧ Sl V (.slice b2' ys2.length cb2) ys2 ∧ Sl V (.slice c2 us2.length cc2) us2 ∧ Sl V (.slice d2 vs2.length cd2) vs2) := hid (fun V hV => HSS.out V (HW1.out.grown hV HW1.out.size (fun q hq => by have e := Option.some.inj hq; omega)))
  have hp1 : p < w1.heap.size := hpb.lt
  have kp : w1.cell? ⟨p, 0, none⟩ = some (.int .i64 E0) := hpb.cell 0
  have HPW := hid hp1
  clear hpb hb1 hpl HL HSS ka0 ka1 ka2 ka3 ka4 ka5 kb0 kb1 kb2 kb3 kb4 kb5
  obtain ⟨kb0, kb1, kb2, kb3, kb4, kb5⟩ := cells6 (HI.out.box _ (List.mem_cons_of_mem _ (List.mem_cons_self ..))).1
  go_upto_region 2 with fail
  go_cut [23] from 15 (fun s wx => s = .bool false ∧ Hid (GInv w1 p E0 ((w.heap.size, 26, #[.bool n, .slice a xs.length ca, .slice b ys.length cb, .bool m, .slice c us.length cc, .slice d vs.length cd]) :: (w.heap.size + 1, 26, #[.bool n2, .slice a2 xs2.length ca2, .slice b2' ys2.length cb2, .bool m2, .slice c2 us2.length cc2, .slice d2 vs2.length cd2]) :: (w.heap.size + 1 + 1, 26, #[.bool false, .slice none 0 0, .slice none 0 0, .bool false, .slice none 0 0, .slice none 0 0]) :: []) wx))
  case first =>
    by_cases hE : E0 = 0
    · subst hE
      have hnn : (xs2.length == 0 && us2.length == 0) = false := by have := HZE.out rfl; simp only [Bool.and_eq_false_iff, beq_eq_false_iff_ne]; omega
      have HIS := hid (gisNought_any n2 a2 xs2.length ca2 b2' ys2.length cb2 m2 c2 us2.length cc2 d2 vs2.length cd2 w1)
      rw [hnn] at HIS
      clear hnn
      go_wp2_with fail
      refine Calls.mono HIS.out ?_
      rintro x wI ⟨rfl, hbI⟩
      have HBI := hid hbI
      clear hbI
      go_wp2_with fail
      go_meet
      exact ⟨rfl, hid (HI.out.belowed HBI.out)⟩
    · have hE' : (E0 == 0) = false := by simp [hE]
      go_wp2_with fail
      go_meet
      exact ⟨rfl, HI⟩
  case rest =>
    obtain ⟨rfl, HI0⟩ := hcut
    clear kb0 kb1 kb2 kb3 kb4 kb5 kp HI
    obtain ⟨kb0, kb1, kb2, kb3, kb4, kb5⟩ := cells6 (HI0.out.box _ (List.mem_cons_of_mem _ (List.mem_cons_self ..))).1
    have HSQ := hid (gsquare_any p E0 n2 a2 ca2 xs2 b2' cb2 ys2 m2 c2 cc2 us2 d2 cd2 vs2 wc HI0.out.err (fun U hU => by
      have h := HSV.out U (grow_trans HI0.out.grown hU)
      exact ⟨h.2.2.2.2.1, h.2.2.2.2.2.1, h.2.2.2.2.2.2.1, h.2.2.2.2.2.2.2⟩))
    go_wp2_with fail
    refine Calls.mono HSQ.out ?_
    rintro x w2 ⟨n1', x1', y1', c1', n2', x2', y2', c2', t1', t2', nN, vN, xN, uN, yN, cN, rfl, ovN, ouN, tN, hpN, hgN, _⟩
    obtain ⟨aN, kN, rfl⟩ := own_slice' ovN
    obtain ⟨bN, lN, rfl⟩ := own_slice' ouN
    have HTN : Hid (G3 (· + ·) E0 (rboth n2 xs2 ys2 n2 xs2 ys2) (rboth m2 us2 vs2 m2 us2 vs2) (rq n2 xs2 ys2 * rq n2 xs2 ys2) (rq m2 us2 vs2 * rq m2 us2 vs2) nN xN yN cN) := hid ⟨n1', x1', y1', c1', n2', x2', y2', c2', t1', t2', tN⟩
    have HWN := hid (And.intro tN.wx tN.wy)
    have HI1 : Hid (GInv w1 p cN ((w2.heap.size, 24, #[.bool nN, .slice aN xN.length kN, .slice bN yN.length lN]) :: (w.heap.size, 26, #[.bool n, .slice a xs.length ca, .slice b ys.length cb, .bool m, .slice c us.length cc, .slice d vs.length cd]) :: (w.heap.size + 1, 26, #[.bool n2, .slice a2 xs2.length ca2, .slice b2' ys2.length cb2, .bool m2, .slice c2 us2.length cc2, .slice d2 vs2.length cd2]) :: (w.heap.size + 1 + 1, 26, #[.bool false, .slice none 0 0, .slice none 0 0, .bool false, .slice none 0 0, .slice none 0 0]) :: []) (w2.alloc (.cells #[.bool nN, .slice aN xN.length kN, .slice bN yN.length lN] 24))) := hid (((HI0.out.step hpN hgN).alloc _).more (Box.made w2 _ _) (by have := (HI0.out.step hpN hgN).grown.size; omega))
    have HRN : Hid (GRow (w2.alloc (.cells #[.bool nN, .slice aN xN.length kN, .slice bN yN.length lN] 24)) w1.heap.size nN (.slice aN xN.length kN) xN (.slice bN yN.length lN) yN) := hid ((GRow.mk (owns_base ovN HI0.out.grown.size) (owns_base ouN HI0.out.grown.size)).step hp1 (World.grownBy_alloc _ _ _))
    obtain ⟨Y5, hY5⟩ : ∃ Y5, w2.alloc (.cells #[.bool nN, .slice aN xN.length kN, .slice bN yN.length lN] 24) = Y5 := ⟨_, rfl⟩
    rw [hY5] at HI1 HRN
    clear HSQ t1' t2' tN ovN ouN hpN hgN HI0 kb0 kb1 kb2 kb3 kb4 kb5
    have HK : Hid (∀ V EE, GJ w1 Y5 p EE ((w2.heap.size, 24, #[.bool nN, .slice aN xN.length kN, .slice bN yN.length lN]) :: (w.heap.size, 26, #[.bool n, .slice a xs.length ca, .slice b ys.length cb, .bool m, .slice c us.length cc, .slice d vs.length cd]) :: (w.heap.size + 1, 26, #[.bool n2, .slice a2 xs2.length ca2, .slice b2' ys2.length cb2, .bool m2, .slice c2 us2.length cc2, .slice d2 vs2.length cd2]) :: (w.heap.size + 1 + 1, 26, #[.bool false, .slice none 0 0, .slice none 0 0, .bool false, .slice none 0 0, .slice none 0 0]) :: []) V → V.cell? ⟨w.heap.size, 0, none⟩ = some (.bool n) ∧ V.cell? ⟨w.heap.size, 1, none⟩ = some (.slice a xs.length ca) ∧ V.cell? ⟨w.heap.size, 2, none⟩ = some (.slice b ys.length cb) ∧ V.cell? ⟨w.heap.size, 3, none⟩ = some (.bool m) ∧ V.cell? ⟨w.heap.size, 4, none⟩ = some (.slice c us.length cc) ∧ V.cell? ⟨w.heap.size, 5, none⟩ = some (.slice d vs.length cd) ∧ V.cell? ⟨w.heap.size + 1, 0, none⟩ = some (.bool n2) ∧ V.cell? ⟨w.heap.size + 1, 1, none⟩ = some (.slice a2 xs2.length ca2) ∧ V.cell? ⟨w.heap.size + 1, 2, none⟩ = some (.slice b2' ys2.length cb2) ∧ V.cell? ⟨w.heap.size + 1, 3, none⟩ = some (.bool m2) ∧ V.cell? ⟨w.heap.size + 1, 4, none⟩ = some (.slice c2 us2.length cc2) ∧ V.cell? ⟨w.heap.size + 1, 5, none⟩ = some (.slice d2 vs2.length cd2)) := hid (fun V EE hv => by
      obtain ⟨g0, g1, g2, g3, g4, g5⟩ := cells6 (hv.inv.box _ (List.mem_cons_of_mem _ (List.mem_cons_self ..))).1
      obtain ⟨i0, i1, i2, i3, i4, i5⟩ := cells6 (hv.inv.box _ (List.mem_cons_of_mem _ (List.mem_cons_of_mem _ (List.mem_cons_self ..)))).1
      exact ⟨g0, g1, g2, g3, g4, g5, i0, i1, i2, i3, i4, i5⟩)
    have H1 : Hid (∀ V EE, GJ w1 Y5 p EE ((w2.heap.size, 24, #[.bool nN, .slice aN xN.length kN, .slice bN yN.length lN]) :: (w.heap.size, 26, #[.bool n, .slice a xs.length ca, .slice b ys.length cb, .bool m, .slice c us.length cc, .slice d vs.length cd]) :: (w.heap.size + 1, 26, #[.bool n2, .slice a2 xs2.length ca2, .slice b2' ys2.length cb2, .bool m2, .slice c2 us2.length cc2, .slice d2 vs2.length cd2]) :: (w.heap.size + 1 + 1, 26, #[.bool false, .slice none 0 0, .slice none 0 0, .bool false, .slice none 0 0, .slice none 0 0]) :: []) V → Calls Tryz.prog 16 #[.pointer (some ⟨p, 0, none⟩), .agg #[.bool m2, .slice c2 us2.length cc2, .slice d2 vs2.length cd2]] V (GStp w1 Y5 p ((w2.heap.size, 24, #[.bool nN, .slice aN xN.length kN, .slice bN yN.length lN]) :: (w.heap.size, 26, #[.bool n, .slice a xs.length ca, .slice b ys.length cb, .bool m, .slice c us.length cc, .slice d vs.length cd]) :: (w.heap.size + 1, 26, #[.bool n2, .slice a2 xs2.length ca2, .slice b2' ys2.length cb2, .bool m2, .slice c2 us2.length cc2, .slice d2 vs2.length cd2]) :: (w.heap.size + 1 + 1, 26, #[.bool false, .slice none 0 0, .slice none 0 0, .bool false, .slice none 0 0, .slice none 0 0]) :: []) V (fstE EE (rchk m2 us2 vs2)) (-(rq m2 us2 vs2)))) := hid (fun V EE hv => by
      have h := HSV.out V hv.inv.grown
      exact gstp hv (gopposite_any p EE m2 c2 cc2 us2 d2 cd2 vs2 V hv.inv.err h.2.2.2.2.2.2.1 h.2.2.2.2.2.2.2))
    have H2 : Hid (∀ (V : World) (EE : Int) (nO : Bool) (aO : Option Addr) (kO : Nat) (xO : List Int) (bO : Option Addr) (lO : Nat) (yO : List Int), GJ w1 Y5 p EE ((w2.heap.size, 24, #[.bool nN, .slice aN xN.length kN, .slice bN yN.length lN]) :: (w.heap.size, 26, #[.bool n, .slice a xs.length ca, .slice b ys.length cb, .bool m, .slice c us.length cc, .slice d vs.length cd]) :: (w.heap.size + 1, 26, #[.bool n2, .slice a2 xs2.length ca2, .slice b2' ys2.length cb2, .bool m2, .slice c2 us2.length cc2, .slice d2 vs2.length cd2]) :: (w.heap.size + 1 + 1, 26, #[.bool false, .slice none 0 0, .slice none 0 0, .bool false, .slice none 0 0, .slice none 0 0]) :: []) V → (∀ U, V.grownBy U (some p) → Sl U (.slice aO xO.length kO) xO ∧ Sl U (.slice bO yO.length lO) yO) → Calls Tryz.prog 15 #[.pointer (some ⟨p, 0, none⟩), .agg #[.bool n, .slice a xs.length ca, .slice b ys.length cb, .bool m, .slice c us.length cc, .slice d vs.length cd], .agg #[.bool n2, .slice a2 xs2.length ca2, .slice b2' ys2.length cb2, .bool nO, .slice aO xO.length kO, .slice bO yO.length lO]] V (GTm w1 Y5 p ((w2.heap.size, 24, #[.bool nN, .slice aN xN.length kN, .slice bN yN.length lN]) :: (w.heap.size, 26, #[.bool n, .slice a xs.length ca, .slice b ys.length cb, .bool m, .slice c us.length cc, .slice d vs.length cd]) :: (w.heap.size + 1, 26, #[.bool n2, .slice a2 xs2.length ca2, .slice b2' ys2.length cb2, .bool m2, .slice c2 us2.length cc2, .slice d2 vs2.length cd2]) :: (w.heap.size + 1 + 1, 26, #[.bool false, .slice none 0 0, .slice none 0 0, .bool false, .slice none 0 0, .slice none 0 0]) :: []) V EE (rboth n xs ys n2 xs2 ys2) (rboth m us vs nO xO yO) (rboth n xs ys nO xO yO) (rboth m us vs n2 xs2 ys2) (rq n xs ys * rq n2 xs2 ys2) (rq m us vs * rq nO xO yO) (rq n xs ys * rq nO xO yO) (rq m us vs * rq n2 xs2 ys2))) := hid (fun V EE nO aO kO xO bO lO yO hv ho => gtimesJ hv (gtimes_any p EE n a ca xs b cb ys m c cc us d cd vs n2 a2 ca2 xs2 b2' cb2 ys2 nO aO kO xO bO lO yO V hv.inv.err (fun U hU => by
      have h := HSV.out U (grow_trans hv.inv.grown hU)
      exact ⟨h.1, h.2.1, h.2.2.1, h.2.2.2.1, h.2.2.2.2.1, h.2.2.2.2.2.1, (ho U hU).1, (ho U hU).2⟩)))
    have HGB := hid (GInv.base HI1.out HPW.out)
    have HD := hid (GJ.first HI1.out)
    have HD0 := hid (GJ.start HI1.out)
    have hs0 := HK.out _ _ HD.out
    have hwX : w1.heap.size ≤ Y5.heap.size := HGB.out.hw
    have hpX : p < Y5.heap.size := Nat.lt_of_lt_of_le HPW.out hwX
    go_upto_region 5 with fail
    go_cut [8] from 28 (fun s wx => Hid (GCq w1 Y5 p ((w2.heap.size, 24, #[.bool nN, .slice aN xN.length kN, .slice bN yN.length lN]) :: (w.heap.size, 26, #[.bool n, .slice a xs.length ca, .slice b ys.length cb, .bool m, .slice c us.length cc, .slice d vs.length cd]) :: (w.heap.size + 1, 26, #[.bool n2, .slice a2 xs2.length ca2, .slice b2' ys2.length cb2, .bool m2, .slice c2 us2.length cc2, .slice d2 vs2.length cd2]) :: (w.heap.size + 1 + 1, 26, #[.bool false, .slice none 0 0, .slice none 0 0, .bool false, .slice none 0 0, .slice none 0 0]) :: []) cN (rchk m2 us2 vs2) (-(rq m2 us2 vs2)) (fun nO xO yO => rboth m us vs nO xO yO) (fun nO xO yO => rboth n xs ys nO xO yO) (rboth n xs ys n2 xs2 ys2) (rboth m us vs n2 xs2 ys2) (rq n xs ys * rq n2 xs2 ys2) (rq m us vs * rq n2 xs2 ys2) (fun q => rq m us vs * q) (fun q => rq n xs ys * q) s wx))
    case first =>
      go_region_held3 (fun V : World => V.cell? ⟨w.heap.size, 0, none⟩ = some (.bool n) ∧ V.cell? ⟨w.heap.size, 1, none⟩ = some (.slice a xs.length ca) ∧ V.cell? ⟨w.heap.size, 2, none⟩ = some (.slice b ys.length cb) ∧ V.cell? ⟨w.heap.size, 3, none⟩ = some (.bool m) ∧ V.cell? ⟨w.heap.size, 4, none⟩ = some (.slice c us.length cc) ∧ V.cell? ⟨w.heap.size, 5, none⟩ = some (.slice d vs.length cd) ∧ V.cell? ⟨w.heap.size + 1, 0, none⟩ = some (.bool n2) ∧ V.cell? ⟨w.heap.size + 1, 1, none⟩ = some (.slice a2 xs2.length ca2) ∧ V.cell? ⟨w.heap.size + 1, 2, none⟩ = some (.slice b2' ys2.length cb2) ∧ V.cell? ⟨w.heap.size + 1, 3, none⟩ = some (.bool m2) ∧ V.cell? ⟨w.heap.size + 1, 4, none⟩ = some (.slice c2 us2.length cc2) ∧ V.cell? ⟨w.heap.size + 1, 5, none⟩ = some (.slice d2 vs2.length cd2)) (first | with_reducible exact hs4 | with_reducible exact hs3 | with_reducible exact hs2 | with_reducible exact hs1 | with_reducible exact hs0 | with_reducible exact HK.out _ _ (j1.out.alloc _) | with_reducible exact HK.out _ _ (HD0.out.alloc _) | with_reducible exact HK.out _ _ (HD0.out.alloc _).drew | with_reducible exact HK.out _ _ (HD.out.alloc _))
        (first
          | (go_at_call 16; (with_reducible refine Calls.mono (H1.out _ cN (by first | exact HD.out | exact (HD0.out.alloc _).drew)) ?_); rintro x w3 ⟨nO, aO, kO, xO, bO, lO, yO, cO, rfl, t1, j1, r1, rv1, g1, cut1, z1⟩; have hs1 := HK.out _ _ j1.out; clear hs0)
          | (go_at_call 15; (with_reducible refine Calls.mono (H2.out _ cO nO aO kO xO bO lO yO (by first | exact j1.out | exact j1.out.alloc _) (by first | exact fun U hU => (r1.out.step hpX hU).sl t1.out.wx t1.out.wy | exact fun U hU => (r1.out.step hpX (grow_trans (World.grownBy_alloc _ _ _) hU)).sl t1.out.wx t1.out.wy)) ?_); rintro x w4 ⟨n3, a3, k3, x3, b3, l3, y3, c3, n6, a6, k6, x6, b6, l6, y6, c6, rfl, tt, j2, r2, g2, z2⟩; have hs2 := HK.out _ _ j2.out; clear hs1; (first | (with_reducible have HQ2 := hid (gbox_d g1.out hpX); have HQ := hid (gbox_k HQ2.out g2.out hpX); obtain ⟨A0, A1, A2, A3, A4, A5, hA0, hA1, hA2, hA3, hA4, hA5, ⟨q0, q1, q2, q3, q4, q5⟩, f0, f1, f2, f3, f4, f5⟩ := gchain6 HQ.out (.bool n3) (.slice a3 x3.length k3) (.slice b3 y3.length l3) (.bool n6) (.slice a6 x6.length k6) (.slice b6 y6.length l6); have J6 := hid (gchainJ j2.out HGB.out (Nat.le_refl _) hA0 hA1 hA2 hA3 hA4 hA5); have hs4 := HK.out _ _ J6.out) | (with_reducible have HQ := hid (gbox_a g2.out (Nat.lt_of_lt_of_le hpX z1)); have HQ2 := hid (gbox_l w3 26 #[.bool false, .slice none 0 0, .slice none 0 0, .bool false, .slice none 0 0, .slice none 0 0]); obtain ⟨A0, A1, A2, A3, A4, A5, hA0, hA1, hA2, hA3, hA4, hA5, ⟨q0, q1, q2, q3, q4, q5⟩, f0, f1, f2, f3, f4, f5⟩ := gchain6 HQ.out (.bool n3) (.slice a3 x3.length k3) (.slice b3 y3.length l3) (.bool n6) (.slice a6 x6.length k6) (.slice b6 y6.length l6); have J6 := hid (gchainJ j2.out HGB.out z1 hA0 hA1 hA2 hA3 hA4 hA5); have hs4 := HK.out _ _ J6.out) | (have HQ := hid (Box.made w4 26 #[.bool false, .slice none 0 0, .slice none 0 0, .bool false, .slice none 0 0, .slice none 0 0]); have J5 := hid (j2.out.alloc (.cells #[.bool false, .slice none 0 0, .slice none 0 0, .bool false, .slice none 0 0, .slice none 0 0] 26)); have HB5 := hid (alloc_later w4 (.cells #[.bool false, .slice none 0 0, .slice none 0 0, .bool false, .slice none 0 0, .slice none 0 0] 26)); obtain ⟨W5, hW5⟩ : ∃ W5, w4.alloc (.cells #[.bool false, .slice none 0 0, .slice none 0 0, .bool false, .slice none 0 0, .slice none 0 0] 26) = W5 := ⟨_, rfl⟩; rw [hW5] at HQ J5 HB5; have hs3 := HK.out _ _ J5.out; obtain ⟨A0, A1, A2, A3, A4, A5, hA0, hA1, hA2, hA3, hA4, hA5, ⟨q0, q1, q2, q3, q4, q5⟩, f0, f1, f2, f3, f4, f5⟩ := gchain6 HQ.out (.bool n3) (.slice a3 x3.length k3) (.slice b3 y3.length l3) (.bool n6) (.slice a6 x6.length k6) (.slice b6 y6.length l6); have J6 := hid (gchainJ J5.out HGB.out z2 hA0 hA1 hA2 hA3 hA4 hA5); have hs4 := HK.out _ _ J6.out))))
      all_goals
        clear hs2 H1 H2 HK
        go_wp2_with fail
        go_meet
      all_goals (subst hA0 hA1 hA2 hA3 hA4 hA5)
      all_goals first | exact hid (gcq_put HGB.out t1.out tt.out J5.out r2.out HB5.out HQ.out (.inr (Nat.le_refl _)) z2 z1) | exact hid (gcq_put HGB.out t1.out tt.out j2.out r2.out (Below.refl _ _) HQ.out (.inl HQ2.out.lt) (Nat.le_refl _) z1) | exact hid (gcq_put HGB.out t1.out tt.out j2.out r2.out (Below.refl _ _) HQ.out (.inl HQ2.out.lt) z1 (by have := HQ2.out.lt; omega))
    case rest =>
      obtain ⟨g8, nO, xO, yO, cO, n3, a3, k3, x3, b3, l3, y3, c3, n6, a6, k6, x6, b6, l6, y6, c6, rfl, hg8, tO, t3, t6, I8, R3, R6, G8⟩ := hcut.out
      have HTO := hid tO; have HT3 := hid t3; have HT6 := hid t6; have HI8 := hid I8
      have HR3 := hid R3; have HR6 := hid R6
      have HRN8 := hid (HRN.out.step hp1 G8)
      have hp8 : p < Y5.heap.size := hpX
      clear tO t3 t6 I8 R3 R6 G8 hcut HK H1 H2 HGB HD HD0 hs0 HRN HI1 hY5 hwX hpX
      obtain ⟨s0, s1, s2, _, _, _⟩ := cells6 (HI8.out.box _ (List.mem_cons_self ..)).1
      obtain ⟨m0, m1, m2', _, _, _⟩ := box3f (HI8.out.box _ (List.mem_cons_of_mem _ (List.mem_cons_self ..))).1
      have H4 := hid (gquotient_any p c6 n3 a3 k3 x3 b3 l3 y3 nN aN kN xN bN lN yN wc HI8.out.err (HR3.out.sl (G3.wd HT3.out).1 (G3.wd HT3.out).2).1 (HR3.out.sl (G3.wd HT3.out).1 (G3.wd HT3.out).2).2 (HRN8.out.sl HWN.out.1 HWN.out.2).1 (HRN8.out.sl HWN.out.1 HWN.out.2).2)
      go_wp2_with fail
      refine Calls.mono H4.out ?_
      rintro x w5 ⟨k1, v9, zs1, u9', ts1, c9, rfl, ov9, ou9, t9, hp9, hg9, _⟩
      obtain ⟨av1, cv1, rfl⟩ := own_slice' ov9
      obtain ⟨au1, cu1, rfl⟩ := own_slice' ou9
      have HI9 : Hid (GInv w1 p c9 ((w5.heap.size, 24, #[.bool k1, .slice av1 zs1.length cv1, .slice au1 ts1.length cu1]) :: (g8, 26, #[.bool n3, .slice a3 (List.length x3) k3, .slice b3 (List.length y3) l3, .bool n6, .slice a6 (List.length x6) k6, .slice b6 (List.length y6) l6]) :: (w2.heap.size, 24, #[.bool nN, .slice aN xN.length kN, .slice bN yN.length lN]) :: (w.heap.size, 26, #[.bool n, .slice a xs.length ca, .slice b ys.length cb, .bool m, .slice c us.length cc, .slice d vs.length cd]) :: (w.heap.size + 1, 26, #[.bool n2, .slice a2 xs2.length ca2, .slice b2' ys2.length cb2, .bool m2, .slice c2 us2.length cc2, .slice d2 vs2.length cd2]) :: (w.heap.size + 1 + 1, 26, #[.bool false, .slice none 0 0, .slice none 0 0, .bool false, .slice none 0 0, .slice none 0 0]) :: []) (w5.alloc (.cells #[.bool k1, .slice av1 zs1.length cv1, .slice au1 ts1.length cu1] 24))) := hid (((HI8.out.step hp9 hg9).alloc _).more (Box.made w5 _ _) (by have := (HI8.out.step hp9 hg9).grown.size; omega))
      have hgA := grow_trans hg9 (World.grownBy_alloc w5 (.cells #[.bool k1, .slice av1 zs1.length cv1, .slice au1 ts1.length cu1] 24) (some p))
      have HR6A := hid (HR6.out.step hp8 hgA)
      have HRNA := hid (HRN8.out.step hp1 hgA)
      have HR9A := hid ((GRow.mk (n := k1) (owns_base ov9 HI8.out.grown.size) (owns_base ou9 HI8.out.grown.size)).step hp1 (World.grownBy_alloc w5 (.cells #[.bool k1, .slice av1 zs1.length cv1, .slice au1 ts1.length cu1] 24) (some p)))
      have HT9 := hid t9
      obtain ⟨Y6, hY6⟩ : ∃ Y6, w5.alloc (.cells #[.bool k1, .slice av1 zs1.length cv1, .slice au1 ts1.length cu1] 24) = Y6 := ⟨_, rfl⟩
      rw [hY6] at HI9 HR6A HRNA HR9A
      clear H4 hgA t9 ov9 ou9 hp9 hg9 s0 s1 s2 m0 m1 m2' HR6 HRN8 HI8 HR3
      obtain ⟨_, _, _, s3, s4, s5⟩ := cells6 (HI9.out.box _ (List.mem_cons_of_mem _ (List.mem_cons_self ..))).1
      obtain ⟨m0, m1, m2', _, _, _⟩ := box3f (HI9.out.box _ (List.mem_cons_of_mem _ (List.mem_cons_of_mem _ (List.mem_cons_self ..)))).1
      have H5 := hid (gquotient_any p c9 n6 a6 k6 x6 b6 l6 y6 nN aN kN xN bN lN yN Y6 HI9.out.err (HR6A.out.sl (G3.wd HT6.out).1 (G3.wd HT6.out).2).1 (HR6A.out.sl (G3.wd HT6.out).1 (G3.wd HT6.out).2).2 (HRNA.out.sl HWN.out.1 HWN.out.2).1 (HRNA.out.sl HWN.out.1 HWN.out.2).2)
      go_wp2_with fail
      refine Calls.mono H5.out ?_
      rintro x w6 ⟨k2, v9, zs2, u9', ts2, code2, rfl, ov9, ou9, t9, hp9, hg9, _⟩
      obtain ⟨av2, cv2, rfl⟩ := own_slice' ov9
      obtain ⟨au2, cu2, rfl⟩ := own_slice' ou9
      have HIA : Hid (GInv w1 p code2 ((w6.heap.size, 24, #[.bool k2, .slice av2 zs2.length cv2, .slice au2 ts2.length cu2]) :: (w5.heap.size, 24, #[.bool k1, .slice av1 zs1.length cv1, .slice au1 ts1.length cu1]) :: (g8, 26, #[.bool n3, .slice a3 (List.length x3) k3, .slice b3 (List.length y3) l3, .bool n6, .slice a6 (List.length x6) k6, .slice b6 (List.length y6) l6]) :: (w2.heap.size, 24, #[.bool nN, .slice aN xN.length kN, .slice bN yN.length lN]) :: (w.heap.size, 26, #[.bool n, .slice a xs.length ca, .slice b ys.length cb, .bool m, .slice c us.length cc, .slice d vs.length cd]) :: (w.heap.size + 1, 26, #[.bool n2, .slice a2 xs2.length ca2, .slice b2' ys2.length cb2, .bool m2, .slice c2 us2.length cc2, .slice d2 vs2.length cd2]) :: (w.heap.size + 1 + 1, 26, #[.bool false, .slice none 0 0, .slice none 0 0, .bool false, .slice none 0 0, .slice none 0 0]) :: []) (w6.alloc (.cells #[.bool k2, .slice av2 zs2.length cv2, .slice au2 ts2.length cu2] 24))) := hid (((HI9.out.step hp9 hg9).alloc _).more (Box.made w6 _ _) (by have := (HI9.out.step hp9 hg9).grown.size; omega))
      have hgA := grow_trans hg9 (World.grownBy_alloc w6 (.cells #[.bool k2, .slice av2 zs2.length cv2, .slice au2 ts2.length cu2] 24) (some p))
      have HR9 := hid (HR9A.out.step hp1 hgA)
      have HRA := hid ((GRow.mk (n := k2) (owns_base ov9 HI9.out.grown.size) (owns_base ou9 HI9.out.grown.size)).step hp1 (World.grownBy_alloc w6 (.cells #[.bool k2, .slice av2 zs2.length cv2, .slice au2 ts2.length cu2] 24) (some p)))
      have HTW := hid (gquo_tells HZ1.out HTN.out HTO.out HT3.out HT6.out HT9.out t9)
      obtain ⟨Y7, hY7⟩ : ∃ Y7, w6.alloc (.cells #[.bool k2, .slice av2 zs2.length cv2, .slice au2 ts2.length cu2] 24) = Y7 := ⟨_, rfl⟩
      rw [hY7] at HIA HR9 HRA
      clear H5 hgA t9 ov9 ou9 hp9 hg9 s3 s4 s5 m0 m1 m2' HR6A HRNA HI9 HR9A HT9 HT6 HT3 HTO HTN HZ1
      obtain ⟨s0, s1, s2, _, _, _⟩ := box3f (HIA.out.box _ (List.mem_cons_of_mem _ (List.mem_cons_self ..))).1
      obtain ⟨s3, s4, s5, _, _, _⟩ := box3f (HIA.out.box _ (List.mem_cons_self ..)).1
      have HTL := hid (gtold_any p code2 k1 av1 zs1.length cv1 au1 ts1.length cu1 k2 av2 zs2.length cv2 au2 ts2.length cu2 Y7 HIA.out.err)
      have HR3' := hid (HIA.out.box _ (List.mem_cons_of_mem _ (List.mem_cons_of_mem _ (List.mem_cons_of_mem _ (List.mem_cons_of_mem _ (List.mem_cons_of_mem _ (List.mem_cons_of_mem _ (List.mem_cons_self ..)))))))).1
      have HW3 : Hid (Below w.heap.size w Y7) := hid (HW1.out.grown HIA.out.grown HW1.out.size (fun q hq => by have e := Option.some.inj hq; omega))
      go_wp2_with fail
      refine Calls.mono HTL.out ?_
      rintro x w4 ⟨rfl, hb4⟩
      have HR4 := hid (HR3'.out.later hb4 HR3'.out.lt)
      have HW4 := hid (bt HW3.out hb4)
      have HOO := hid (And.intro (owns_later HR9.out.ov hb4) (And.intro (owns_later HR9.out.ou hb4) (And.intro (owns_later HRA.out.ov hb4) (owns_later HRA.out.ou hb4))))
      have hlo : w.heap.size ≤ w1.heap.size := by omega
      clear hb4 s0 s1 s2 s3 s4 s5
      have m0 : w4.cell? ⟨w.heap.size + 1 + 1, 0, none⟩ = some (.bool false) := HR4.out.cell 0
      have m1 : w4.cell? ⟨w.heap.size + 1 + 1, 1, none⟩ = some (.slice none 0 0) := HR4.out.cell 1
      have m2' : w4.cell? ⟨w.heap.size + 1 + 1, 2, none⟩ = some (.slice none 0 0) := HR4.out.cell 2
      have m3 : w4.cell? ⟨w.heap.size + 1 + 1, 3, none⟩ = some (.bool false) := HR4.out.cell 3
      have m4 : w4.cell? ⟨w.heap.size + 1 + 1, 4, none⟩ = some (.slice none 0 0) := HR4.out.cell 4
      have m5 : w4.cell? ⟨w.heap.size + 1 + 1, 5, none⟩ = some (.slice none 0 0) := HR4.out.cell 5
      have f0 := HR4.out.free 0
      have f1 := HR4.out.free 1
      have f2 := HR4.out.free 2
      have f3 := HR4.out.free 3
      have f4 := HR4.out.free 4
      have f5 := HR4.out.free 5
      by_cases hc2 : code2 = 0
      · rw [if_pos hc2]
        have HFIN := hid (HTW.out.1 hc2)
        clear HTW hc2
        go_wp2_with fail
        have B1 := box_put6 HR4.out (.bool k1) (.slice av1 zs1.length cv1) (.slice au1 ts1.length cu1) (.bool k2) (.slice av2 zs2.length cv2) (.slice au2 ts2.length cu2)
        have G1 := below_put6 HW4.out (w.heap.size + 1 + 1) (by omega) (.bool k1) (.slice av1 zs1.length cv1) (.slice au1 ts1.length cu1) (.bool k2) (.slice av2 zs2.length cv2) (.slice au2 ts2.length cu2)
        have hXX := HX.out.2.2.2.size
        have hput : ∀ {base k : Nat} {v : Value} {l : List Value}, w4.ownsRow base 35 1 v k l → (∀ g, v.ownBlock = some g → X.heap.size ≤ g) → ((((((w4.setCell ⟨w.heap.size + 1 + 1, 0, none⟩ (.bool k1)).setCell ⟨w.heap.size + 1 + 1, 1, none⟩ (.slice av1 zs1.length cv1)).setCell ⟨w.heap.size + 1 + 1, 2, none⟩ (.slice au1 ts1.length cu1)).setCell ⟨w.heap.size + 1 + 1, 3, none⟩ (.bool k2)).setCell ⟨w.heap.size + 1 + 1, 4, none⟩ (.slice av2 zs2.length cv2)).setCell ⟨w.heap.size + 1 + 1, 5, none⟩ (.slice au2 ts2.length cu2)).ownsRow base 35 1 v k l := fun h hb => own_put6 h _ (fun g hg => by have := hb g hg; omega) _ _ _ _ _ _
        clear m0 m1 m2' m3 m4 m5 f0 f1 f2 f3 f4 f5
        refine bodyPost_ret (gres_run (by rfl) B1 _ rfl) rfl ?_
        exact ⟨k1, av1, cv1, zs1, au1, cu1, ts1, k2, av2, cv2, zs2, au2, cu2, ts2, code2, rfl, ⟨owns_base (hput HOO.out.1 (fun g hg => by have := (HOO.out.1.lt g hg).1; omega)) hlo, owns_base (hput HOO.out.2.1 (fun g hg => by have := (HOO.out.2.1.lt g hg).1; omega)) hlo, owns_base (hput HOO.out.2.2.1 (fun g hg => by have := (HOO.out.2.2.1.lt g hg).1; omega)) hlo, owns_base (hput HOO.out.2.2.2 (fun g hg => by have := (HOO.out.2.2.2.lt g hg).1; omega)) hlo⟩, HFIN.out, G1⟩
      · rw [if_neg hc2]
        have HFIN := hid (HTW.out.2 hc2)
        clear HTW hc2
        go_wp2_with fail
        have B1 := box_put6 HR4.out (.bool false) (.slice none 0 0) (.slice none 0 0) (.bool false) (.slice none 0 0) (.slice none 0 0)
        have G1 := below_put6 HW4.out (w.heap.size + 1 + 1) (by omega) (.bool false) (.slice none 0 0) (.slice none 0 0) (.bool false) (.slice none 0 0) (.slice none 0 0)
        clear m0 m1 m2' m3 m4 m5 f0 f1 f2 f3 f4 f5
        refine bodyPost_ret (gres_run (by rfl) B1 _ rfl) rfl ?_
        exact ⟨false, none, 0, [], none, 0, [], false, none, 0, [], none, 0, [], code2, rfl, ⟨World.ownsRow_nil _ _ _ _, World.ownsRow_nil _ _ _ _, World.ownsRow_nil _ _ _ _, World.ownsRow_nil _ _ _ _⟩, HFIN.out, G1⟩
end Go.Proofs.YtakeolfaamnkkaaGreatDoor

/- Complex fractions: gauss.Quo: of any two, by nought too. -/
namespace Go.Proofs.YtakeolfaamnkkaaGreatDoor
open Go.RowKit
set_option linter.unusedVariables false

set_option maxHeartbeats 3200000 in
set_option maxRecDepth 100000 in
theorem gQuo_zero (n : Bool) (a : Option Addr) (ca : Nat) (xs : List Int) (b : Option Addr) (cb : Nat) (ys : List Int) (m : Bool) (c : Option Addr) (cc : Nat) (us : List Int) (d : Option Addr) (cd : Nat) (vs : List Int) (n2 : Bool) (a2 : Option Addr) (ca2 : Nat) (xs2 : List Int) (b2' : Option Addr) (cb2 : Nat) (ys2 : List Int) (m2 : Bool) (c2 : Option Addr) (cc2 : Nat) (us2 : List Int) (d2 : Option Addr) (cd2 : Nat) (vs2 : List Int) (w : World) (sx : Sl w (.slice a xs.length ca) xs) (sy : Sl w (.slice b ys.length cb) ys) (su : Sl w (.slice c us.length cc) us) (sv : Sl w (.slice d vs.length cd) vs) (sx2 : Sl w (.slice a2 xs2.length ca2) xs2) (sy2 : Sl w (.slice b2' ys2.length cb2) ys2) (su2 : Sl w (.slice c2 us2.length cc2) us2) (sv2 : Sl w (.slice d2 vs2.length cd2) vs2) (h0 : fstE (gchk n xs ys m us vs) (gchk n2 xs2 ys2 m2 us2 vs2) = 0) (hx : xs2.length = 0) (hu : us2.length = 0) :
    Calls Tryz.prog 4 #[.agg #[.bool n, .slice a xs.length ca, .slice b ys.length cb, .bool m, .slice c us.length cc, .slice d vs.length cd], .agg #[.bool n2, .slice a2 xs2.length ca2, .slice b2' ys2.length cb2, .bool m2, .slice c2 us2.length cc2, .slice d2 vs2.length cd2]] w fun x w' => x = .returned (.tuple #[.agg #[.bool false, .slice none 0 0, .slice none 0 0, .bool false, .slice none 0 0, .slice none 0 0], .int .i64 7]) ∧ Below w.heap.size w w' := by
  have HX := hid (boxes3r w 26 #[.bool n, .slice a xs.length ca, .slice b ys.length cb, .bool m, .slice c us.length cc, .slice d vs.length cd] #[.bool n2, .slice a2 xs2.length ca2, .slice b2' ys2.length cb2, .bool m2, .slice c2 us2.length cc2, .slice d2 vs2.length cd2] #[.bool false, .slice none 0 0, .slice none 0 0, .bool false, .slice none 0 0, .slice none 0 0])
  obtain ⟨X, hX⟩ : ∃ X, ((w.alloc (.cells #[.bool n, .slice a xs.length ca, .slice b ys.length cb, .bool m, .slice c us.length cc, .slice d vs.length cd] 26)).alloc (.cells #[.bool n2, .slice a2 xs2.length ca2, .slice b2' ys2.length cb2, .bool m2, .slice c2 us2.length cc2, .slice d2 vs2.length cd2] 26)).alloc (.cells #[.bool false, .slice none 0 0, .slice none 0 0, .bool false, .slice none 0 0, .slice none 0 0] 26) = X := ⟨_, rfl⟩
  rw [hX] at HX
  have HY := hid (Box.made X 26 #[.bool n, .slice a xs.length ca, .slice b ys.length cb, .bool m, .slice c us.length cc, .slice d vs.length cd, .bool n2, .slice a2 xs2.length ca2, .slice b2' ys2.length cb2, .bool m2, .slice c2 us2.length cc2, .slice d2 vs2.length cd2])
  have HYB := hid (alloc_later X (.cells #[.bool n, .slice a xs.length ca, .slice b ys.length cb, .bool m, .slice c us.length cc, .slice d vs.length cd, .bool n2, .slice a2 xs2.length ca2, .slice b2' ys2.length cb2, .bool m2, .slice c2 us2.length cc2, .slice d2 vs2.length cd2] 26))
  obtain ⟨Y, hY⟩ : ∃ Y, X.alloc (.cells #[.bool n, .slice a xs.length ca, .slice b ys.length cb, .bool m, .slice c us.length cc, .slice d vs.length cd, .bool n2, .slice a2 xs2.length ca2, .slice b2' ys2.length cb2, .bool m2, .slice c2 us2.length cc2, .slice d2 vs2.length cd2] 26) = Y := ⟨_, rfl⟩
  rw [hY] at HY HYB
  have HWY := hid (bt HX.out.2.2.2 HYB.out)
  have HL := hid (glookAt2_any X.heap.size n a ca xs b cb ys m c cc us d cd vs n2 a2 ca2 xs2 b2' cb2 ys2 m2 c2 cc2 us2 d2 cd2 vs2 Y HY.out (sx.later HWY.out) (sy.later HWY.out) (su.later HWY.out) (sv.later HWY.out) (sx2.later HWY.out) (sy2.later HWY.out) (su2.later HWY.out) (sv2.later HWY.out))
  rw [h0] at HL
  clear sx sy su sv sx2 sy2 su2 sv2 h0
  have ka0 : X.cell? ⟨w.heap.size, 0, none⟩ = some (.bool n) := HX.out.1.cell 0
  have ka1 : X.cell? ⟨w.heap.size, 1, none⟩ = some (.slice a xs.length ca) := HX.out.1.cell 1
  have ka2 : X.cell? ⟨w.heap.size, 2, none⟩ = some (.slice b ys.length cb) := HX.out.1.cell 2
  have ka3 : X.cell? ⟨w.heap.size, 3, none⟩ = some (.bool m) := HX.out.1.cell 3
  have ka4 : X.cell? ⟨w.heap.size, 4, none⟩ = some (.slice c us.length cc) := HX.out.1.cell 4
  have ka5 : X.cell? ⟨w.heap.size, 5, none⟩ = some (.slice d vs.length cd) := HX.out.1.cell 5
  have kb0 : X.cell? ⟨w.heap.size + 1, 0, none⟩ = some (.bool n2) := HX.out.2.1.cell 0
  have kb1 : X.cell? ⟨w.heap.size + 1, 1, none⟩ = some (.slice a2 xs2.length ca2) := HX.out.2.1.cell 1
  have kb2 : X.cell? ⟨w.heap.size + 1, 2, none⟩ = some (.slice b2' ys2.length cb2) := HX.out.2.1.cell 2
  have kb3 : X.cell? ⟨w.heap.size + 1, 3, none⟩ = some (.bool m2) := HX.out.2.1.cell 3
  have kb4 : X.cell? ⟨w.heap.size + 1, 4, none⟩ = some (.slice c2 us2.length cc2) := HX.out.2.1.cell 4
  have kb5 : X.cell? ⟨w.heap.size + 1, 5, none⟩ = some (.slice d2 vs2.length cd2) := HX.out.2.1.cell 5
  have HNN : Hid ((xs2.length == 0 && us2.length == 0) = true) := by show _ = _; rw [hx, hu]; rfl
  clear hx hu
  go_enter Tryz.func4, Tryz.ntmps4
  go_wp2_with fail
  refine Calls.mono HL.out ?_
  rintro x w1 ⟨p, rfl, hpl, hpb, hb1⟩
  have HW1 := hid (bt HWY.out hb1)
  have HB1 := hid (HX.out.2.1.later (bt HYB.out hb1) HX.out.2.1.lt)
  have HR1 := hid (HX.out.2.2.1.later (bt HYB.out hb1) HX.out.2.2.1.lt)
  have kp : w1.cell? ⟨p, 0, none⟩ = some (.int .i64 0) := hpb.cell 0
  clear hpb hb1 hpl HL ka0 ka1 ka2 ka3 ka4 ka5 kb0 kb1 kb2 kb3 kb4 kb5
  obtain ⟨kb0, kb1, kb2, kb3, kb4, kb5⟩ := cells6 HB1.out
  have HIS := hid (gisNought_any n2 a2 xs2.length ca2 b2' ys2.length cb2 m2 c2 us2.length cc2 d2 vs2.length cd2 w1)
  rw [HNN.out] at HIS
  go_wp2_with fail
  refine Calls.mono HIS.out ?_
  rintro x wI ⟨rfl, hbI⟩
  have HBI := hid hbI
  have HR2 := hid (HR1.out.later hbI HR1.out.lt)
  obtain ⟨A0, A1, A2, A3, A4, A5, hA0, hA1, hA2, hA3, hA4, hA5, ⟨q0, q1, q2, q3, q4, q5⟩, f0, f1, f2, f3, f4, f5⟩ := gchain6 HR2.out (.bool false) (.slice none 0 0) (.slice none 0 0) (.bool false) (.slice none 0 0) (.slice none 0 0)
  clear hbI kb0 kb1 kb2 kb3 kb4 kb5 kp HIS
  go_wp2_with fail
  subst hA0 hA1 hA2 hA3 hA4 hA5
  have B1 := box_put6 HR2.out (.bool false) (.slice none 0 0) (.slice none 0 0) (.bool false) (.slice none 0 0) (.slice none 0 0)
  have G1 := below_put6 (bt HW1.out HBI.out) (w.heap.size + 1 + 1) (by omega) (.bool false) (.slice none 0 0) (.slice none 0 0) (.bool false) (.slice none 0 0) (.slice none 0 0)
  exact bodyPost_ret (gres_run (by rfl) B1 _ rfl) rfl ⟨rfl, G1⟩

/-- Quo, of any two: nought is refused when both may be. -/
theorem gQuo_full (n : Bool) (a : Option Addr) (ca : Nat) (xs : List Int) (b : Option Addr) (cb : Nat) (ys : List Int) (m : Bool) (c : Option Addr) (cc : Nat) (us : List Int) (d : Option Addr) (cd : Nat) (vs : List Int) (n2 : Bool) (a2 : Option Addr) (ca2 : Nat) (xs2 : List Int) (b2' : Option Addr) (cb2 : Nat) (ys2 : List Int) (m2 : Bool) (c2 : Option Addr) (cc2 : Nat) (us2 : List Int) (d2 : Option Addr) (cd2 : Nat) (vs2 : List Int) (w : World) (sx : Sl w (.slice a xs.length ca) xs) (sy : Sl w (.slice b ys.length cb) ys) (su : Sl w (.slice c us.length cc) us) (sv : Sl w (.slice d vs.length cd) vs) (sx2 : Sl w (.slice a2 xs2.length ca2) xs2) (sy2 : Sl w (.slice b2' ys2.length cb2) ys2) (su2 : Sl w (.slice c2 us2.length cc2) us2) (sv2 : Sl w (.slice d2 vs2.length cd2) vs2) :
    Calls Tryz.prog 4 #[.agg #[.bool n, .slice a xs.length ca, .slice b ys.length cb, .bool m, .slice c us.length cc, .slice d vs.length cd], .agg #[.bool n2, .slice a2 xs2.length ca2, .slice b2' ys2.length cb2, .bool m2, .slice c2 us2.length cc2, .slice d2 vs2.length cd2]] w (GTold w (fstE (fstE (gchk n xs ys m us vs) (gchk n2 xs2 ys2 m2 us2 vs2)) (if xs2.length = 0 ∧ us2.length = 0 then 7 else 0)) (qlong (rq n xs ys) (rq m us vs) (rq n2 xs2 ys2) (rq m2 us2 vs2) ∨ rlong ((rq n xs ys * -(rq m2 us2 vs2) + rq m us vs * rq n2 xs2 ys2) / (rq n2 xs2 ys2 * rq n2 xs2 ys2 + rq m2 us2 vs2 * rq m2 us2 vs2))) ((rq n xs ys * rq n2 xs2 ys2 - rq m us vs * -(rq m2 us2 vs2)) / (rq n2 xs2 ys2 * rq n2 xs2 ys2 + rq m2 us2 vs2 * rq m2 us2 vs2)) ((rq n xs ys * -(rq m2 us2 vs2) + rq m us vs * rq n2 xs2 ys2) / (rq n2 xs2 ys2 * rq n2 xs2 ys2 + rq m2 us2 vs2 * rq m2 us2 vs2))) := by
  by_cases hz : fstE (gchk n xs ys m us vs) (gchk n2 xs2 ys2 m2 us2 vs2) = 0 ∧ xs2.length = 0 ∧ us2.length = 0
  · rw [hz.1, fstE_zero, if_pos hz.2]
    refine Calls.mono (gQuo_zero n a ca xs b cb ys m c cc us d cd vs n2 a2 ca2 xs2 b2' cb2 ys2 m2 c2 cc2 us2 d2 cd2 vs2 w sx sy su sv sx2 sy2 su2 sv2 hz.1 hz.2.1 hz.2.2) ?_
    rintro x w' ⟨rfl, hb⟩
    exact ⟨false, none, 0, [], none, 0, [], false, none, 0, [], none, 0, [], 7, rfl, ⟨World.ownsRow_nil _ _ _ _, World.ownsRow_nil _ _ _ _, World.ownsRow_nil _ _ _ _, World.ownsRow_nil _ _ _ _⟩, ⟨⟨Wd.nil, Wd.nil, Wd.nil, Wd.nil⟩, fun _ => ⟨⟨rfl, rfl, rfl, rfl, rfl, rfl⟩, rfl⟩, fun h => absurd h (by decide), fun h => absurd h (by decide)⟩, hb⟩
  · have e : fstE (fstE (gchk n xs ys m us vs) (gchk n2 xs2 ys2 m2 us2 vs2)) (if xs2.length = 0 ∧ us2.length = 0 then 7 else 0) = fstE (gchk n xs ys m us vs) (gchk n2 xs2 ys2 m2 us2 vs2) := by
      by_cases h : fstE (gchk n xs ys m us vs) (gchk n2 xs2 ys2 m2 us2 vs2) = 0
      · rw [h, fstE_zero, if_neg (fun h' => hz ⟨h, h'⟩)]
      · exact fstE_err _ h
    rw [e]
    exact gQuo_go n a ca xs b cb ys m c cc us d cd vs n2 a2 ca2 xs2 b2' cb2 ys2 m2 c2 cc2 us2 d2 cd2 vs2 w sx sy su sv sx2 sy2 su2 sv2 hz
end Go.Proofs.YtakeolfaamnkkaaGreatDoor

/- Complex fractions: gauss.Zero: of any. -/
namespace Go.Proofs.YtakeolfaamnkkaaGreatDoor
open Go.RowKit
set_option linter.unusedVariables false

set_option maxHeartbeats 1600000 in
set_option maxRecDepth 100000 in
theorem gZero_any (n : Bool) (a : Option Addr) (ca : Nat) (xs : List Int) (b : Option Addr) (cb : Nat) (ys : List Int) (m : Bool) (c : Option Addr) (cc : Nat) (us : List Int) (d : Option Addr) (cd : Nat) (vs : List Int) (w : World) (sx : Sl w (.slice a xs.length ca) xs) (sy : Sl w (.slice b ys.length cb) ys) (su : Sl w (.slice c us.length cc) us) (sv : Sl w (.slice d vs.length cd) vs) :
    Calls Tryz.prog 11 #[.agg #[.bool n, .slice a xs.length ca, .slice b ys.length cb, .bool m, .slice c us.length cc, .slice d vs.length cd]] w fun x w' => x = .returned (.bool ((xs.length == 0 && us.length == 0) && (gchk n xs ys m us vs == 0))) ∧ Below w.heap.size w w' := by
  have HX := hid (Box.made w 26 #[.bool n, .slice a xs.length ca, .slice b ys.length cb, .bool m, .slice c us.length cc, .slice d vs.length cd])
  have HB := hid (alloc_later w (.cells #[.bool n, .slice a xs.length ca, .slice b ys.length cb, .bool m, .slice c us.length cc, .slice d vs.length cd] 26))
  obtain ⟨X, hX⟩ : ∃ X, w.alloc (.cells #[.bool n, .slice a xs.length ca, .slice b ys.length cb, .bool m, .slice c us.length cc, .slice d vs.length cd] 26) = X := ⟨_, rfl⟩
  rw [hX] at HX HB
  have HN := hid (gisNought_any n a xs.length ca b ys.length cb m c us.length cc d vs.length cd X)
  have HC : Hid (∀ V, Below w.heap.size w V → Calls Tryz.prog 8 #[.agg #[.bool n, .slice a xs.length ca, .slice b ys.length cb, .bool m, .slice c us.length cc, .slice d vs.length cd]] V fun e w' => e = .returned (.int .i64 (gchk n xs ys m us vs)) ∧ Below V.heap.size V w') := hid (fun V hv => gcheck_any n _ xs _ ys m _ us _ vs V (sx.later hv) (sy.later hv) (su.later hv) (sv.later hv))
  clear sx sy su sv
  generalize (xs.length == 0 && us.length == 0) = z at *
  generalize gchk n xs ys m us vs = E at *
  have c0 : X.cell? ⟨w.heap.size, 0, none⟩ = some (.bool n) := HX.out.cell 0
  have c1 : X.cell? ⟨w.heap.size, 1, none⟩ = some (.slice a xs.length ca) := HX.out.cell 1
  have c2 : X.cell? ⟨w.heap.size, 2, none⟩ = some (.slice b ys.length cb) := HX.out.cell 2
  have c3 : X.cell? ⟨w.heap.size, 3, none⟩ = some (.bool m) := HX.out.cell 3
  have c4 : X.cell? ⟨w.heap.size, 4, none⟩ = some (.slice c us.length cc) := HX.out.cell 4
  have c5 : X.cell? ⟨w.heap.size, 5, none⟩ = some (.slice d vs.length cd) := HX.out.cell 5
  go_enter Tryz.func11, Tryz.ntmps11
  go_wp2_with fail
  refine Calls.mono HN.out ?_
  rintro x w1 ⟨rfl, hb1⟩
  have HW1 := hid (bt HB.out hb1)
  have HA1 := hid (HX.out.later hb1 HX.out.lt)
  clear c0 c1 c2 c3 c4 c5 hb1 HN
  cases z with
  | false =>
    go_wp2_with fail
    go_ret
    exact ⟨rfl, HW1.out⟩
  | true =>
    have c0 : w1.cell? ⟨w.heap.size, 0, none⟩ = some (.bool n) := HA1.out.cell 0
    have c1 : w1.cell? ⟨w.heap.size, 1, none⟩ = some (.slice a xs.length ca) := HA1.out.cell 1
    have c2 : w1.cell? ⟨w.heap.size, 2, none⟩ = some (.slice b ys.length cb) := HA1.out.cell 2
    have c3 : w1.cell? ⟨w.heap.size, 3, none⟩ = some (.bool m) := HA1.out.cell 3
    have c4 : w1.cell? ⟨w.heap.size, 4, none⟩ = some (.slice c us.length cc) := HA1.out.cell 4
    have c5 : w1.cell? ⟨w.heap.size, 5, none⟩ = some (.slice d vs.length cd) := HA1.out.cell 5
    go_wp2_with fail
    refine Calls.mono (HC.out _ HW1.out) ?_
    rintro x w2 ⟨rfl, hb2⟩
    have HW2 := hid (bt HW1.out hb2)
    clear c0 c1 c2 c3 c4 c5 hb2 HC
    go_wp2_with fail
    go_ret
    exact ⟨rfl, HW2.out⟩
end Go.Proofs.YtakeolfaamnkkaaGreatDoor

/- Complex fractions: fractionOf: of any whole number. -/
namespace Go.Proofs.YtakeolfaamnkkaaGreatDoor
open Go.RowKit
set_option linter.unusedVariables false

set_option maxHeartbeats 1600000 in
set_option maxRecDepth 100000 in
theorem gfractionOf_any (x : Int) (w : World) (x0 : -9223372036854775808 ≤ x) (x1 : x ≤ 9223372036854775807) :
    Calls Tryz.prog 19 #[.int .i64 x] w fun e w' => ∃ n v xs u ys code, e = .returned (.agg #[.bool n, v, u]) ∧ w'.ownsRow w.heap.size 35 1 v xs.length (xs.map (Value.int .u32)) ∧ w'.ownsRow w.heap.size 35 1 u ys.length (ys.map (Value.int .u32)) ∧ RTells 0 (Rat.divInt x 1) n xs ys code ∧ Below w.heap.size w w' ∧ Cut w v u w' := by
  have HX := hid (Box.made w 24 #[.bool false, .slice none 0 0, .slice none 0 0])
  have HB := hid (alloc_later w (.cells #[.bool false, .slice none 0 0, .slice none 0 0] 24))
  obtain ⟨X, hX⟩ : ∃ X, w.alloc (.cells #[.bool false, .slice none 0 0, .slice none 0 0] 24) = X := ⟨_, rfl⟩
  rw [hX] at HX HB
  have HS : Hid (∀ V, Calls Tryz.prog 24 #[.int .i64 x, .int .i64 1] V (RToldA V 0 (Rat.divInt x 1))) := hid (fun V => rsmall_any x 1 V x0 x1 (by omega) (by omega))
  go_enter Tryz.func19, Tryz.ntmps19
  go_wp2_with fail
  refine Calls.mono (HS.out _) ?_
  rintro e w1 ⟨k, v, zs, u, ts, code, rfl, ov, ou, ht, hb1, hcut⟩
  obtain ⟨av, cv, rfl⟩ := own_slice' ov
  obtain ⟨au, cu, rfl⟩ := own_slice' ou
  have HM1 := hid (HX.out.later hb1 HX.out.lt)
  have HBB := hid (bt HB.out hb1)
  have HN := hid (Box.made w1 24 #[.bool k, .slice av zs.length cv, .slice au ts.length cu])
  have HNB := hid (alloc_later w1 (.cells #[.bool k, .slice av zs.length cv, .slice au ts.length cu] 24))
  obtain ⟨Z, hZ⟩ : ∃ Z, w1.alloc (.cells #[.bool k, .slice av zs.length cv, .slice au ts.length cu] 24) = Z := ⟨_, rfl⟩
  rw [hZ] at HN HNB
  have HMZ := hid (HM1.out.later HNB.out HM1.out.lt)
  have HOV := hid ov
  have HOU := hid ou
  have HTT := hid ht
  have HCC := hid hcut
  clear ov ou ht hcut hb1 HS x0 x1
  have k0 : Z.cell? ⟨w1.heap.size, 0, none⟩ = some (.bool k) := HN.out.cell 0
  have k1 : Z.cell? ⟨w1.heap.size, 1, none⟩ = some (.slice av zs.length cv) := HN.out.cell 1
  have k2 : Z.cell? ⟨w1.heap.size, 2, none⟩ = some (.slice au ts.length cu) := HN.out.cell 2
  have m0 : Z.cell? ⟨w.heap.size, 0, none⟩ = some (.bool false) := HMZ.out.cell 0
  have m1 : Z.cell? ⟨w.heap.size, 1, none⟩ = some (.slice none 0 0) := HMZ.out.cell 1
  have m2 : Z.cell? ⟨w.heap.size, 2, none⟩ = some (.slice none 0 0) := HMZ.out.cell 2
  have f0 := HMZ.out.free 0
  have f1 := HMZ.out.free 1
  have f2 := HMZ.out.free 2
  go_wp2_with fail
  have h3 := HX.out.lt
  have hZs : w1.heap.size ≤ Z.heap.size := HNB.out.size
  have hv : ∀ b', (Value.slice av zs.length cv).ownBlock = some b' → b' ≠ w.heap.size := fun b' hb => by have := (HOV.out.lt b' hb).1; omega
  have hu : ∀ b', (Value.slice au ts.length cu).ownBlock = some b' → b' ≠ w.heap.size := fun b' hb => by have := (HOU.out.lt b' hb).1; omega
  have B1 := box_put3 HMZ.out (.bool k) (.slice av zs.length cv) (.slice au ts.length cu)
  have V1 := own_put3' (owns_later HOV.out HNB.out) _ hv (.bool k) (.slice av zs.length cv) (.slice au ts.length cu)
  have U1 := own_put3' (owns_later HOU.out HNB.out) _ hu (.bool k) (.slice av zs.length cv) (.slice au ts.length cu)
  have G1 := below_put3 (bt HBB.out HNB.out) w.heap.size (Nat.le_refl _) (.bool k) (.slice av zs.length cv) (.slice au ts.length cu)
  have hXw : w.heap.size ≤ X.heap.size := by omega
  refine bodyPost_ret (results_cell_row (by rfl) _ _ w.heap.size 24 _ (0, 0) _ (by rfl) B1 Tryz.underlying24 rfl (by kernel_rfl)) rfl ?_
  exact ⟨k, _, zs, _, ts, code, rfl, owns_base V1 hXw, owns_base U1 hXw, HTT.out, G1, HCC.out.up hXw (by simp [World.setCell]; exact hZs)⟩
end Go.Proofs.YtakeolfaamnkkaaGreatDoor

/- Complex fractions: gauss.Int: of any two whole numbers. -/
namespace Go.Proofs.YtakeolfaamnkkaaGreatDoor
open Go.RowKit
set_option linter.unusedVariables false

set_option maxHeartbeats 1600000 in
set_option maxRecDepth 100000 in
theorem gInt_any (x y : Int) (w : World) (x0 : -9223372036854775808 ≤ x) (x1 : x ≤ 9223372036854775807) (y0 : -9223372036854775808 ≤ y) (y1 : y ≤ 9223372036854775807) :
    Calls Tryz.prog 5 #[.int .i64 x, .int .i64 y] w fun e w' => ∃ n v xs u ys c1 m v' us u' vs c2, e = .returned (.agg #[.bool n, v, u, .bool m, v', u']) ∧ (w'.ownsRow w.heap.size 35 1 v xs.length (xs.map (Value.int .u32)) ∧ w'.ownsRow w.heap.size 35 1 u ys.length (ys.map (Value.int .u32)) ∧ w'.ownsRow w.heap.size 35 1 v' us.length (us.map (Value.int .u32)) ∧ w'.ownsRow w.heap.size 35 1 u' vs.length (vs.map (Value.int .u32))) ∧ RTells 0 (Rat.divInt x 1) n xs ys c1 ∧ RTells 0 (Rat.divInt y 1) m us vs c2 ∧ Below w.heap.size w w' := by
  have HX := hid (Box.made w 26 #[.bool false, .slice none 0 0, .slice none 0 0, .bool false, .slice none 0 0, .slice none 0 0])
  have HB := hid (alloc_later w (.cells #[.bool false, .slice none 0 0, .slice none 0 0, .bool false, .slice none 0 0, .slice none 0 0] 26))
  obtain ⟨X, hX⟩ : ∃ X, w.alloc (.cells #[.bool false, .slice none 0 0, .slice none 0 0, .bool false, .slice none 0 0, .slice none 0 0] 26) = X := ⟨_, rfl⟩
  rw [hX] at HX HB
  have H1 := hid (gfractionOf_any x X x0 x1)
  have H2 := hid (fun V => gfractionOf_any y V y0 y1)
  clear x0 x1 y0 y1
  go_enter Tryz.func5, Tryz.ntmps5
  go_wp2_with fail
  refine Calls.mono H1.out ?_
  rintro e w1 ⟨k1, v1, zs1, u1, ts1, code1, rfl, ov1, ou1, ht1, hb1, hcut1⟩
  obtain ⟨av1, cv1, rfl⟩ := own_slice' ov1
  obtain ⟨au1, cu1, rfl⟩ := own_slice' ou1
  have HM1 := hid (HX.out.later hb1 HX.out.lt)
  have HB1 := hid (bt HB.out hb1)
  have HXB := hid hb1.size
  have HV1 := hid ov1
  have HU1 := hid ou1
  have HT1 := hid ht1
  clear ov1 ou1 ht1 hb1 hcut1 H1
  go_wp2_with fail
  refine Calls.mono (H2.out _) ?_
  rintro e w2 ⟨k2, v2, zs2, u2, ts2, code2, rfl, ov2, ou2, ht2, hb2, hcut2⟩
  obtain ⟨av2, cv2, rfl⟩ := own_slice' ov2
  obtain ⟨au2, cu2, rfl⟩ := own_slice' ou2
  have HM2 := hid (HM1.out.later hb2 HM1.out.lt)
  have HB2 := hid (bt HB1.out hb2)
  have HV1' := hid (owns_later HV1.out hb2)
  have HU1' := hid (owns_later HU1.out hb2)
  have HV2 := hid ov2
  have HU2 := hid ou2
  have HT2 := hid ht2
  clear ov2 ou2 ht2 hb2 hcut2 H2
  have m0 : w2.cell? ⟨w.heap.size, 0, none⟩ = some (.bool false) := HM2.out.cell 0
  have f0 := HM2.out.free 0
  have m1 : w2.cell? ⟨w.heap.size, 1, none⟩ = some (.slice none 0 0) := HM2.out.cell 1
  have f1 := HM2.out.free 1
  have m2 : w2.cell? ⟨w.heap.size, 2, none⟩ = some (.slice none 0 0) := HM2.out.cell 2
  have f2 := HM2.out.free 2
  have m3 : w2.cell? ⟨w.heap.size, 3, none⟩ = some (.bool false) := HM2.out.cell 3
  have f3 := HM2.out.free 3
  have m4 : w2.cell? ⟨w.heap.size, 4, none⟩ = some (.slice none 0 0) := HM2.out.cell 4
  have f4 := HM2.out.free 4
  have m5 : w2.cell? ⟨w.heap.size, 5, none⟩ = some (.slice none 0 0) := HM2.out.cell 5
  have f5 := HM2.out.free 5
  go_wp2_with fail
  have h3 := HX.out.lt
  have h4 := HXB.out
  have B1 := box_put6 HM2.out (.bool k1) (.slice av1 zs1.length cv1) (.slice au1 ts1.length cu1) (.bool k2) (.slice av2 zs2.length cv2) (.slice au2 ts2.length cu2)
  have G1 := below_put6 HB2.out w.heap.size (Nat.le_refl _) (.bool k1) (.slice av1 zs1.length cv1) (.slice au1 ts1.length cu1) (.bool k2) (.slice av2 zs2.length cv2) (.slice au2 ts2.length cu2)
  have P1 := own_put6 HV1'.out w.heap.size (fun g hg => by have := (HV1'.out.lt g hg).1; omega) (.bool k1) (.slice av1 zs1.length cv1) (.slice au1 ts1.length cu1) (.bool k2) (.slice av2 zs2.length cv2) (.slice au2 ts2.length cu2)
  have P2 := own_put6 HU1'.out w.heap.size (fun g hg => by have := (HU1'.out.lt g hg).1; omega) (.bool k1) (.slice av1 zs1.length cv1) (.slice au1 ts1.length cu1) (.bool k2) (.slice av2 zs2.length cv2) (.slice au2 ts2.length cu2)
  have P3 := own_put6 HV2.out w.heap.size (fun g hg => by have := (HV2.out.lt g hg).1; omega) (.bool k1) (.slice av1 zs1.length cv1) (.slice au1 ts1.length cu1) (.bool k2) (.slice av2 zs2.length cv2) (.slice au2 ts2.length cu2)
  have P4 := own_put6 HU2.out w.heap.size (fun g hg => by have := (HU2.out.lt g hg).1; omega) (.bool k1) (.slice av1 zs1.length cv1) (.slice au1 ts1.length cu1) (.bool k2) (.slice av2 zs2.length cv2) (.slice au2 ts2.length cu2)
  have hX1 : w.heap.size ≤ X.heap.size := by omega
  have hX2 : w.heap.size ≤ w1.heap.size := by omega
  clear m0 m1 m2 m3 m4 m5 f0 f1 f2 f3 f4 f5
  refine bodyPost_ret (results_cell_row (by rfl) _ _ w.heap.size 26 _ (0, 0) _ (by rfl) B1 Tryz.underlying26 rfl (by kernel_rfl)) rfl ?_
  exact ⟨k1, _, zs1, _, ts1, code1, k2, _, zs2, _, ts2, code2, rfl, ⟨owns_base P1 hX1, owns_base P2 hX1, owns_base P3 hX2, owns_base P4 hX2⟩, HT1.out, HT2.out, G1⟩
end Go.Proofs.YtakeolfaamnkkaaGreatDoor

/- Complex fractions, the laws' own: frac; two fractions, two complex fractions with the same words. -/
namespace Go.Proofs.YtakeolfaamnkkaaGreatDoor
open Go.RowKit
set_option linter.unusedVariables false

set_option maxHeartbeats 1600000 in
set_option maxRecDepth 100000 in
theorem gfrac_any (x y : Int) (w : World) (x0 : -9223372036854775808 ≤ x) (x1 : x ≤ 9223372036854775807) (y0 : -9223372036854775808 ≤ y) (y1 : y ≤ 9223372036854775807) (hy : y ≠ 0) :
    Calls Tryz.prog 9 #[.int .i64 x, .int .i64 y] w fun e w' => ∃ n v xs u ys code, e = .returned (.agg #[.bool n, v, u]) ∧ w'.ownsRow w.heap.size 35 1 v xs.length (xs.map (Value.int .u32)) ∧ w'.ownsRow w.heap.size 35 1 u ys.length (ys.map (Value.int .u32)) ∧ RTells 0 (Rat.divInt x y) n xs ys code ∧ Below w.heap.size w w' ∧ Cut w v u w' := by
  have HX := hid (Box.made w 24 #[.bool false, .slice none 0 0, .slice none 0 0])
  have HB := hid (alloc_later w (.cells #[.bool false, .slice none 0 0, .slice none 0 0] 24))
  obtain ⟨X, hX⟩ : ∃ X, w.alloc (.cells #[.bool false, .slice none 0 0, .slice none 0 0] 24) = X := ⟨_, rfl⟩
  rw [hX] at HX HB
  have HS : Hid (∀ V, Calls Tryz.prog 24 #[.int .i64 x, .int .i64 y] V (RToldA V (if y = 0 then 7 else 0) (Rat.divInt x y))) := hid (fun V => rsmall_any x y V x0 x1 y0 y1)
  rw [if_neg hy] at HS
  go_enter Tryz.func9, Tryz.ntmps9
  go_wp2_with fail
  refine Calls.mono (HS.out _) ?_
  rintro e w1 ⟨k, v, zs, u, ts, code, rfl, ov, ou, ht, hb1, hcut⟩
  obtain ⟨av, cv, rfl⟩ := own_slice' ov
  obtain ⟨au, cu, rfl⟩ := own_slice' ou
  have HM1 := hid (HX.out.later hb1 HX.out.lt)
  have HBB := hid (bt HB.out hb1)
  have HN := hid (Box.made w1 24 #[.bool k, .slice av zs.length cv, .slice au ts.length cu])
  have HNB := hid (alloc_later w1 (.cells #[.bool k, .slice av zs.length cv, .slice au ts.length cu] 24))
  obtain ⟨Z, hZ⟩ : ∃ Z, w1.alloc (.cells #[.bool k, .slice av zs.length cv, .slice au ts.length cu] 24) = Z := ⟨_, rfl⟩
  rw [hZ] at HN HNB
  have HMZ := hid (HM1.out.later HNB.out HM1.out.lt)
  have HOV := hid ov
  have HOU := hid ou
  have HTT := hid ht
  have HCC := hid hcut
  clear ov ou ht hcut hb1 HS x0 x1 y0 y1 hy
  have k0 : Z.cell? ⟨w1.heap.size, 0, none⟩ = some (.bool k) := HN.out.cell 0
  have k1 : Z.cell? ⟨w1.heap.size, 1, none⟩ = some (.slice av zs.length cv) := HN.out.cell 1
  have k2 : Z.cell? ⟨w1.heap.size, 2, none⟩ = some (.slice au ts.length cu) := HN.out.cell 2
  have m0 : Z.cell? ⟨w.heap.size, 0, none⟩ = some (.bool false) := HMZ.out.cell 0
  have m1 : Z.cell? ⟨w.heap.size, 1, none⟩ = some (.slice none 0 0) := HMZ.out.cell 1
  have m2 : Z.cell? ⟨w.heap.size, 2, none⟩ = some (.slice none 0 0) := HMZ.out.cell 2
  have f0 := HMZ.out.free 0
  have f1 := HMZ.out.free 1
  have f2 := HMZ.out.free 2
  go_wp2_with fail
  have h3 := HX.out.lt
  have hZs : w1.heap.size ≤ Z.heap.size := HNB.out.size
  have hv : ∀ b', (Value.slice av zs.length cv).ownBlock = some b' → b' ≠ w.heap.size := fun b' hb => by have := (HOV.out.lt b' hb).1; omega
  have hu : ∀ b', (Value.slice au ts.length cu).ownBlock = some b' → b' ≠ w.heap.size := fun b' hb => by have := (HOU.out.lt b' hb).1; omega
  have B1 := box_put3 HMZ.out (.bool k) (.slice av zs.length cv) (.slice au ts.length cu)
  have V1 := own_put3' (owns_later HOV.out HNB.out) _ hv (.bool k) (.slice av zs.length cv) (.slice au ts.length cu)
  have U1 := own_put3' (owns_later HOU.out HNB.out) _ hu (.bool k) (.slice av zs.length cv) (.slice au ts.length cu)
  have G1 := below_put3 (bt HBB.out HNB.out) w.heap.size (Nat.le_refl _) (.bool k) (.slice av zs.length cv) (.slice au ts.length cu)
  have hXw : w.heap.size ≤ X.heap.size := by omega
  refine bodyPost_ret (results_cell_row (by rfl) _ _ w.heap.size 24 _ (0, 0) _ (by rfl) B1 Tryz.underlying24 rfl (by kernel_rfl)) rfl ?_
  exact ⟨k, _, zs, _, ts, code, rfl, owns_base V1 hXw, owns_base U1 hXw, HTT.out, G1, HCC.out.up hXw (by simp [World.setCell]; exact hZs)⟩
set_option maxHeartbeats 1600000 in
set_option maxRecDepth 100000 in
theorem gsameRatio_eq (n : Bool) (v u v' u' : Value) (xs ys : List Int) (w : World) (h : Sl w v xs) (g : Sl w u ys) (h' : Sl w v' xs) (g' : Sl w u' ys) (lx : xs.length ≤ 281474976710656) (ly : ys.length ≤ 281474976710656) :
    Calls Tryz.prog 22 #[.agg #[.bool n, v, u], .agg #[.bool n, v', u']] w fun e w' => e = .returned (.bool true) ∧ Below w.heap.size w w' := by
  have HB : Hid (Below w.heap.size w ((w.alloc (.cells #[.bool n, v, u] 24)).alloc (.cells #[.bool n, v', u'] 24))) := bt (alloc_later _ _) (alloc_later _ _)
  have HN : Hid (Box ((w.alloc (.cells #[.bool n, v, u] 24)).alloc (.cells #[.bool n, v', u'] 24)) w.heap.size 24 #[.bool n, v, u]) := Box.later (Box.made w _ _) (alloc_later _ _) (by simp)
  have HM : Hid (Box ((w.alloc (.cells #[.bool n, v, u] 24)).alloc (.cells #[.bool n, v', u'] 24)) (w.heap.size + 1) 24 #[.bool n, v', u']) := by
    have e := Box.made (w.alloc (.cells #[.bool n, v, u] 24)) 24 #[.bool n, v', u']
    simp at e
    exact e
  have H1 := hid (same_sl v v' xs xs _ (h.later HB.out) (h'.later HB.out) lx lx)
  rw [decide_eq_true rfl] at H1
  have H2 := hid (fun ww (hb : Below _ ((w.alloc (.cells #[.bool n, v, u] 24)).alloc (.cells #[.bool n, v', u'] 24)) ww) => same_sl u u' ys ys ww ((g.later HB.out).later hb) ((g'.later HB.out).later hb) ly ly)
  rw [decide_eq_true rfl] at H2
  have hbb : (n == n) = true := by simp
  obtain ⟨a, ca, rfl, hr⟩ := h
  obtain ⟨b, cb, rfl, gr⟩ := g
  obtain ⟨a', ca', rfl, hr'⟩ := h'
  obtain ⟨b', cb', rfl, gr'⟩ := g'
  clear hr gr hr' gr'
  go_enter Tryz.func22, Tryz.ntmps22
  go_wp2_with fail
  refine Calls.mono H1.out ?_
  generalize ((w.alloc (.cells #[.bool n, .slice a xs.length ca, .slice b ys.length cb] 24)).alloc (.cells #[.bool n, .slice a' xs.length ca', .slice b' ys.length cb'] 24)) = X at *
  rintro e w1 ⟨rfl, hb1⟩
  obtain ⟨p0, p1, p2, _, _, _⟩ := res_box3 HN.out hb1
  obtain ⟨q0, q1, q2, _, _, _⟩ := res_box3 HM.out hb1
  have HC := hid (H2.out w1 hb1)
  have HB1 := hid (bt HB.out hb1)
  clear hb1 H1 H2
  go_wp2_with fail
  refine Calls.mono HC.out ?_
  rintro e w2 ⟨rfl, hb2⟩
  have HBN := hid (bt HB1.out hb2)
  clear hb2 HC
  go_wp2_with fail
  go_ret
  exact ⟨rfl, HBN.out⟩
end Go.Proofs.YtakeolfaamnkkaaGreatDoor

/- Complex fractions: gauss.Norm: of any, good or refused. -/
namespace Go.Proofs.YtakeolfaamnkkaaGreatDoor
open Go.RowKit
set_option linter.unusedVariables false

theorem boxes2m (w : World) (t t' : Nat) (u v : Array Value) : Box ((w.alloc (.cells u t)).alloc (.cells v t')) w.heap.size t u ∧ Box ((w.alloc (.cells u t)).alloc (.cells v t')) (w.heap.size + 1) t' v ∧ Below w.heap.size w ((w.alloc (.cells u t)).alloc (.cells v t')) := by
  have e1 : (w.alloc (.cells u t)).heap.size = w.heap.size + 1 := World.size_alloc _ _
  have a := Box.made w t u
  have b := Box.made (w.alloc (.cells u t)) t' v
  exact ⟨a.later (alloc_later _ _) a.lt, e1 ▸ b, bt (alloc_later _ _) (alloc_later _ _)⟩
/-- A fraction is read out of a box, its error out of a slot. -/
theorem gresr_run {fn : Func} {W : World} {b q u : Nat} {cs : Array Value} (hr : fn.results = #[.cell q 24, .tmp u]) (hb : Box W b 24 cs) (tmps : Array Value) (h4 : tmps.getD q undef = .pointer (some ⟨b, 0, none⟩)) (hi : (Tryz.prog.info? 24).map (·.size) = some cs.size := by kernel_rfl) : (results fn tmps).run Tryz.prog W = .ok (.tuple #[.agg cs, tmps.getD u undef]) W := by
  have h := run_loadVar_row (P := Tryz.prog) W b 24 24 cs (0, 0) _ hb Tryz.underlying24 rfl hi
  rw [results_cell_tmp hr, h4]
  simp [asAddr, h]

set_option maxHeartbeats 3200000 in
set_option maxRecDepth 100000 in
theorem gNorm_full (n : Bool) (a : Option Addr) (ca : Nat) (xs : List Int) (b : Option Addr) (cb : Nat) (ys : List Int) (m : Bool) (c : Option Addr) (cc : Nat) (us : List Int) (d : Option Addr) (cd : Nat) (vs : List Int) (w : World) (sx : Sl w (.slice a xs.length ca) xs) (sy : Sl w (.slice b ys.length cb) ys) (su : Sl w (.slice c us.length cc) us) (sv : Sl w (.slice d vs.length cd) vs) :
    Calls Tryz.prog 26 #[.agg #[.bool n, .slice a xs.length ca, .slice b ys.length cb, .bool m, .slice c us.length cc, .slice d vs.length cd]] w fun x w' => ∃ n1 x1 y1 c1 n2 x2 y2 c2, RTells (fstE (gchk n xs ys m us vs) (rboth n xs ys n xs ys)) (rq n xs ys * rq n xs ys) n1 x1 y1 c1 ∧ RTells (fstE c1 (rboth m us vs m us vs)) (rq m us vs * rq m us vs) n2 x2 y2 c2 ∧ ∃ n3 a3 k3 x3 b3 l3 y3 code, x = .returned (.tuple #[.agg #[.bool n3, .slice a3 (List.length x3) k3, .slice b3 (List.length y3) l3], .int .i64 code]) ∧ (w'.ownsRow w.heap.size 35 1 (.slice a3 (List.length x3) k3) x3.length (x3.map (Value.int .u32)) ∧ w'.ownsRow w.heap.size 35 1 (.slice b3 (List.length y3) l3) y3.length (y3.map (Value.int .u32))) ∧ RTells (fstE c2 (rboth n1 x1 y1 n2 x2 y2)) (rq n1 x1 y1 + rq n2 x2 y2) n3 x3 y3 code ∧ Below w.heap.size w w' := by
  have HX := hid (boxes2m w 26 24 #[.bool n, .slice a xs.length ca, .slice b ys.length cb, .bool m, .slice c us.length cc, .slice d vs.length cd] #[.bool false, .slice none 0 0, .slice none 0 0])
  obtain ⟨X, hX⟩ : ∃ X, (w.alloc (.cells #[.bool n, .slice a xs.length ca, .slice b ys.length cb, .bool m, .slice c us.length cc, .slice d vs.length cd] 26)).alloc (.cells #[.bool false, .slice none 0 0, .slice none 0 0] 24) = X := ⟨_, rfl⟩
  rw [hX] at HX
  have HY := hid (Box.made X 26 #[.bool n, .slice a xs.length ca, .slice b ys.length cb, .bool m, .slice c us.length cc, .slice d vs.length cd])
  have HYB := hid (alloc_later X (.cells #[.bool n, .slice a xs.length ca, .slice b ys.length cb, .bool m, .slice c us.length cc, .slice d vs.length cd] 26))
  obtain ⟨Y, hY⟩ : ∃ Y, X.alloc (.cells #[.bool n, .slice a xs.length ca, .slice b ys.length cb, .bool m, .slice c us.length cc, .slice d vs.length cd] 26) = Y := ⟨_, rfl⟩
  rw [hY] at HY HYB
  have HWY := hid (bt HX.out.2.2 HYB.out)
  have HL := hid (glookAt1_any X.heap.size n a ca xs b cb ys m c cc us d cd vs Y HY.out (sx.later HWY.out) (sy.later HWY.out) (su.later HWY.out) (sv.later HWY.out))
  have H1 : Hid (∀ V p E, Below w.heap.size w V → w.heap.size ≤ p → Box V p 42 #[.int .i64 E] → Calls Tryz.prog 14 #[.pointer (some ⟨p, 0, none⟩), .agg #[.bool n, .slice a xs.length ca, .slice b ys.length cb, .bool m, .slice c us.length cc, .slice d vs.length cd]] V _) := hid (fun V p E hv hp hb => gsquare_any p E n a ca xs b cb ys m c cc us d cd vs V hb (fun U hU => by
    have hw : Below w.heap.size w U := hv.grown hU hv.size (fun q hq => by have e := Option.some.inj hq; omega)
    exact ⟨sx.later hw, sy.later hw, su.later hw, sv.later hw⟩))
  generalize gchk n xs ys m us vs = E0 at *
  clear sx sy su sv
  have ka0 : X.cell? ⟨w.heap.size, 0, none⟩ = some (.bool n) := HX.out.1.cell 0
  have ka1 : X.cell? ⟨w.heap.size, 1, none⟩ = some (.slice a xs.length ca) := HX.out.1.cell 1
  have ka2 : X.cell? ⟨w.heap.size, 2, none⟩ = some (.slice b ys.length cb) := HX.out.1.cell 2
  have ka3 : X.cell? ⟨w.heap.size, 3, none⟩ = some (.bool m) := HX.out.1.cell 3
  have ka4 : X.cell? ⟨w.heap.size, 4, none⟩ = some (.slice c us.length cc) := HX.out.1.cell 4
  have ka5 : X.cell? ⟨w.heap.size, 5, none⟩ = some (.slice d vs.length cd) := HX.out.1.cell 5
  go_enter Tryz.func26, Tryz.ntmps26
  go_wp2_with fail
  refine Calls.mono HL.out ?_
  rintro x w1 ⟨p, rfl, hpl, hpb, hb1⟩
  have HW1 := hid (bt HWY.out hb1)
  have HA1 := hid (HX.out.1.later (bt HYB.out hb1) HX.out.1.lt)
  have HR1 := hid (HX.out.2.1.later (bt HYB.out hb1) HX.out.2.1.lt)
  have HP1 := hid hpb
  have hpX : X.heap.size < p := Nat.lt_of_lt_of_le HY.out.lt hpl
  have hrX : w.heap.size + 1 < X.heap.size := HX.out.2.1.lt
  clear hpb hb1 hpl HL ka0 ka1 ka2 ka3 ka4 ka5
  have ka0 : w1.cell? ⟨w.heap.size, 0, none⟩ = some (.bool n) := HA1.out.cell 0
  have ka1 : w1.cell? ⟨w.heap.size, 1, none⟩ = some (.slice a xs.length ca) := HA1.out.cell 1
  have ka2 : w1.cell? ⟨w.heap.size, 2, none⟩ = some (.slice b ys.length cb) := HA1.out.cell 2
  have ka3 : w1.cell? ⟨w.heap.size, 3, none⟩ = some (.bool m) := HA1.out.cell 3
  have ka4 : w1.cell? ⟨w.heap.size, 4, none⟩ = some (.slice c us.length cc) := HA1.out.cell 4
  have ka5 : w1.cell? ⟨w.heap.size, 5, none⟩ = some (.slice d vs.length cd) := HA1.out.cell 5
  go_wp2_with fail
  refine Calls.mono (H1.out _ p E0 HW1.out (by have := HX.out.2.2.size; omega) HP1.out) ?_
  rintro x w2 ⟨n1, x1, y1, c1, n2, x2, y2, c2, t1, t2, k1, v1, zs1, u1, ts1, code1, rfl, ov1, ou1, ht1, hp2, hg2, hcut1⟩
  obtain ⟨av1, cv1, rfl⟩ := own_slice' ov1
  obtain ⟨au1, cu1, rfl⟩ := own_slice' ou1
  have hw12 : w1.heap.size ≤ w2.heap.size := hg2.size
  have hp1l : p < w1.heap.size := HP1.out.lt
  have HW2 : Hid (Below w.heap.size w w2) := HW1.out.grown hg2 HW1.out.size (fun q hq => by have e := Option.some.inj hq; omega)
  have HR2 := hid (HR1.out.kept' hg2 (by intro e; have := Option.some.inj e; omega))
  have HP2 := hid hp2
  have HV1 := hid ov1
  have HU1 := hid ou1
  have HT1 := hid t1
  have HT2 := hid t2
  have HT3 := hid ht1
  have HN := hid (Box.made w2 24 #[.bool k1, .slice av1 zs1.length cv1, .slice au1 ts1.length cu1])
  have HNB := hid (alloc_later w2 (.cells #[.bool k1, .slice av1 zs1.length cv1, .slice au1 ts1.length cu1] 24))
  obtain ⟨Z, hZ⟩ : ∃ Z, w2.alloc (.cells #[.bool k1, .slice av1 zs1.length cv1, .slice au1 ts1.length cu1] 24) = Z := ⟨_, rfl⟩
  rw [hZ] at HN HNB
  have HRZ := hid (HR2.out.later HNB.out HR2.out.lt)
  have HPZ := hid (HP2.out.later HNB.out HP2.out.lt)
  clear t1 t2 ov1 ou1 ht1 hp2 hg2 hcut1 HW1 HA1 HR1 HP1 H1 ka0 ka1 ka2 ka3 ka4 ka5
  have kp : Z.cell? ⟨p, 0, none⟩ = some (.int .i64 code1) := HPZ.out.cell 0
  have ka0 : Z.cell? ⟨w2.heap.size, 0, none⟩ = some (.bool k1) := HN.out.cell 0
  have ka1 : Z.cell? ⟨w2.heap.size, 1, none⟩ = some (.slice av1 zs1.length cv1) := HN.out.cell 1
  have ka2 : Z.cell? ⟨w2.heap.size, 2, none⟩ = some (.slice au1 ts1.length cu1) := HN.out.cell 2
  have m0 : Z.cell? ⟨w.heap.size + 1, 0, none⟩ = some (.bool false) := HRZ.out.cell 0
  have m1 : Z.cell? ⟨w.heap.size + 1, 1, none⟩ = some (.slice none 0 0) := HRZ.out.cell 1
  have m2 : Z.cell? ⟨w.heap.size + 1, 2, none⟩ = some (.slice none 0 0) := HRZ.out.cell 2
  have f0 := HRZ.out.free 0
  have f1 := HRZ.out.free 1
  have f2 := HRZ.out.free 2
  go_wp2_with fail
  have hne1 : w2.heap.size ≠ w.heap.size + 1 := by omega
  have hne2 : p ≠ w.heap.size + 1 := by omega
  go_region
  all_goals
    go_wp2_with fail
    have B1 := box_put3 HRZ.out (.bool k1) (.slice av1 zs1.length cv1) (.slice au1 ts1.length cu1)
    have hv : ∀ b', (Value.slice av1 zs1.length cv1).ownBlock = some b' → b' ≠ w.heap.size + 1 := fun b' hb => by have := (HV1.out.lt b' hb).1; omega
    have hu : ∀ b', (Value.slice au1 ts1.length cu1).ownBlock = some b' → b' ≠ w.heap.size + 1 := fun b' hb => by have := (HU1.out.lt b' hb).1; omega
    have V1 := own_put3' (owns_later HV1.out HNB.out) _ hv (.bool k1) (.slice av1 zs1.length cv1) (.slice au1 ts1.length cu1)
    have U1 := own_put3' (owns_later HU1.out HNB.out) _ hu (.bool k1) (.slice av1 zs1.length cv1) (.slice au1 ts1.length cu1)
    have G1 := below_put3 (bt HW2.out HNB.out) (w.heap.size + 1) (by omega) (.bool k1) (.slice av1 zs1.length cv1) (.slice au1 ts1.length cu1)
    have hlo : w.heap.size ≤ w1.heap.size := by omega
    generalize ((Z.setCell ⟨w.heap.size + 1, 0, none⟩ (.bool k1)).setCell ⟨w.heap.size + 1, 1, none⟩ (.slice av1 zs1.length cv1)).setCell ⟨w.heap.size + 1, 2, none⟩ (.slice au1 ts1.length cu1) = U at *
    have B2 : Box U.drew (w.heap.size + 1) 24 #[.bool k1, .slice av1 zs1.length cv1, .slice au1 ts1.length cu1] := B1
    have G2 := Below.drew G1
    have V2 : U.drew.ownsRow w.heap.size 35 1 (.slice av1 zs1.length cv1) zs1.length (zs1.map (Value.int .u32)) := owns_base V1 hlo
    have U2 : U.drew.ownsRow w.heap.size 35 1 (.slice au1 ts1.length cu1) ts1.length (ts1.map (Value.int .u32)) := owns_base U1 hlo
    refine bodyPost_ret (gresr_run (by rfl) B2 _ rfl) rfl ?_
    exact ⟨n1, x1, y1, c1, n2, x2, y2, c2, HT1.out, HT2.out, k1, av1, cv1, zs1, au1, cu1, ts1, code1, rfl, ⟨V2, U2⟩, HT3.out, G2⟩
end Go.Proofs.YtakeolfaamnkkaaGreatDoor

/- Two complex fractions with the same words: slackwaterkit.SameGauss. -/
namespace Go.Proofs.YtakeolfaamnkkaaGreatDoor
open Go.RowKit
set_option linter.unusedVariables false

set_option maxHeartbeats 1600000 in
set_option maxRecDepth 100000 in
theorem gsameGauss_eq (n : Bool) (a : Option Addr) (ca : Nat) (xs : List Int) (b : Option Addr) (cb : Nat) (ys : List Int) (m : Bool) (c : Option Addr) (cc : Nat) (us : List Int) (d : Option Addr) (cd : Nat) (vs : List Int) (a2 : Option Addr) (ca2 : Nat) (b2 : Option Addr) (cb2 : Nat) (c2 : Option Addr) (cc2 : Nat) (d2 : Option Addr) (cd2 : Nat) (w : World) (sx : Sl w (.slice a xs.length ca) xs) (sy : Sl w (.slice b ys.length cb) ys) (su : Sl w (.slice c us.length cc) us) (sv : Sl w (.slice d vs.length cd) vs) (sx2 : Sl w (.slice a2 xs.length ca2) xs) (sy2 : Sl w (.slice b2 ys.length cb2) ys) (su2 : Sl w (.slice c2 us.length cc2) us) (sv2 : Sl w (.slice d2 vs.length cd2) vs) (lx : xs.length ≤ 281474976710656) (ly : ys.length ≤ 281474976710656) (lu : us.length ≤ 281474976710656) (lv : vs.length ≤ 281474976710656) :
    Calls Tryz.prog 7 #[.agg #[.bool n, .slice a xs.length ca, .slice b ys.length cb, .bool m, .slice c us.length cc, .slice d vs.length cd], .agg #[.bool n, .slice a2 xs.length ca2, .slice b2 ys.length cb2, .bool m, .slice c2 us.length cc2, .slice d2 vs.length cd2]] w fun x w' => x = .returned (.bool true) ∧ Below w.heap.size w w' := by
  have HX := hid (boxes2m w 26 26 #[.bool n, .slice a xs.length ca, .slice b ys.length cb, .bool m, .slice c us.length cc, .slice d vs.length cd] #[.bool n, .slice a2 xs.length ca2, .slice b2 ys.length cb2, .bool m, .slice c2 us.length cc2, .slice d2 vs.length cd2])
  obtain ⟨X, hX⟩ : ∃ X, (w.alloc (.cells #[.bool n, .slice a xs.length ca, .slice b ys.length cb, .bool m, .slice c us.length cc, .slice d vs.length cd] 26)).alloc (.cells #[.bool n, .slice a2 xs.length ca2, .slice b2 ys.length cb2, .bool m, .slice c2 us.length cc2, .slice d2 vs.length cd2] 26) = X := ⟨_, rfl⟩
  rw [hX] at HX
  have H1 := hid (gsameRatio_eq n _ _ _ _ xs ys X (sx.later HX.out.2.2) (sy.later HX.out.2.2) (sx2.later HX.out.2.2) (sy2.later HX.out.2.2) lx ly)
  have H2 : Hid (∀ V, Below w.heap.size w V → Calls Tryz.prog 22 #[.agg #[.bool m, .slice c us.length cc, .slice d vs.length cd], .agg #[.bool m, .slice c2 us.length cc2, .slice d2 vs.length cd2]] V fun e w' => e = .returned (.bool true) ∧ Below V.heap.size V w') := fun V hv => gsameRatio_eq m _ _ _ _ us vs V (su.later hv) (sv.later hv) (su2.later hv) (sv2.later hv) lu lv
  clear sx sy su sv sx2 sy2 su2 sv2 lx ly lu lv
  obtain ⟨k0, k1, k2, k3, k4, k5⟩ := cells6 HX.out.1
  obtain ⟨m0, m1, m2, m3, m4, m5⟩ := cells6 HX.out.2.1
  go_enter Tryz.func7, Tryz.ntmps7
  go_wp2_with fail
  refine Calls.mono H1.out ?_
  rintro e w1 ⟨rfl, hb1⟩
  have HW1 := hid (bt HX.out.2.2 hb1)
  have HA1 := hid (HX.out.1.later hb1 HX.out.1.lt)
  have HA2 := hid (HX.out.2.1.later hb1 HX.out.2.1.lt)
  clear hb1 H1 k0 k1 k2 k3 k4 k5 m0 m1 m2 m3 m4 m5
  obtain ⟨k0, k1, k2, k3, k4, k5⟩ := cells6 HA1.out
  obtain ⟨m0, m1, m2, m3, m4, m5⟩ := cells6 HA2.out
  go_wp2_with fail
  refine Calls.mono (H2.out _ HW1.out) ?_
  rintro e w2 ⟨rfl, hb2⟩
  have HW2 := hid (bt HW1.out hb2)
  clear hb2 H2
  go_wp2_with fail
  go_ret
  exact ⟨rfl, HW2.out⟩
end Go.Proofs.YtakeolfaamnkkaaGreatDoor

/- Floats of 64 bits by their bits: which are finite, what a sum or difference of two gives, the sum of two with what was lost of it, as plain functions of the bits. Nothing here speaks of the program. -/
namespace Go.Proofs.YtakeolfaamnkkaaGreatDoor

/-- Neither an infinity nor NaN: by the bits. -/
def fin (x : Nat) : Bool := x / 4503599627370496 % 2048 != 2047

theorem fin_iff (x : Nat) : fin x = true ↔ x % 9223372036854775808 < 9218868437227405312 := by
  unfold fin
  simp only [bne_iff_ne, ne_eq]
  omega

theorem dbl_sign : Ieee.double.signWeight = 9223372036854775808 := by decide
theorem dbl_inf : Ieee.double.infRung = 9218868437227405312 := by decide
theorem dbl_binade : Ieee.double.binade = 4503599627370496 := by decide

theorem read_not {x : Nat} (h : fin x = false) : (∃ s, Ieee.double.read x = .infinity s) ∨ ∃ s f, Ieee.double.read x = .nan s f := by
  have h' : ¬ x % 9223372036854775808 < 9218868437227405312 := fun g => by rw [(fin_iff x).2 g] at h; exact Bool.noConfusion h
  unfold Ieee.Format.read
  simp only [dbl_sign, dbl_inf, dbl_binade]
  rw [if_neg (by omega), if_neg h']
  split
  · exact Or.inl ⟨_, rfl⟩
  · exact Or.inr ⟨_, _, rfl⟩

theorem write_inf (s : Bool) : fin (Ieee.double.write (.infinity s)) = false := by
  cases s <;> decide

theorem nan_cut (x y t : Nat) : fin (Question.cut (.nanBits .f64 x y) t) = false ∧ Question.cut (.nanBits .f64 x y) t < 18446744073709551616 := by
  simp only [Question.cut]
  have hu : (t / 2) % (2 ^ 52 - 1) < 4503599627370495 := Nat.mod_lt _ (by decide)
  have hv : t % 2 = 0 ∨ t % 2 = 1 := by omega
  generalize (t / 2) % (2 ^ 52 - 1) = u at hu ⊢
  generalize t % 2 = v at hv ⊢
  constructor
  · cases hh : fin (v * 2 ^ 63 + 0x7ff0000000000000 + 1 + u)
    · rfl
    · rw [fin_iff] at hh; rcases hv with rfl | rfl <;> omega
  · rcases hv with rfl | rfl <;> omega

/-- What the machine hands back: the bits of the answer, or, where there is none, some NaN. -/
def FR (op : BinOp) (x y r : Nat) : Prop := r < 18446744073709551616 ∧ (floatBits op .f64 x y = some r ∨ (floatBits op .f64 x y = none ∧ fin r = false))

theorem FR.det {op : BinOp} {x y r s : Nat} (h : FR op x y r) (g : floatBits op .f64 x y = some s) : r = s := by
  rcases h.2 with h | ⟨h, _⟩
  · rw [h] at g; exact Option.some.inj g
  · rw [h] at g; cases g

theorem FR.some {op : BinOp} {x y r : Nat} (h : floatBits op .f64 x y = .some r) : FR op x y r := by
  have := floatBits_wf h
  simp [Lit.wf] at this
  exact ⟨this, Or.inl h⟩
theorem FR.none {op : BinOp} {x y : Nat} (t : Nat) (h : floatBits op .f64 x y = .none) : FR op x y (Question.cut (.nanBits .f64 x y) t) :=
  ⟨(nan_cut x y t).2, Or.inr ⟨h, (nan_cut x y t).1⟩⟩

theorem sum_back {d c : Ieee.Datum} {r : Nat} (h : (d.sum c).map Ieee.double.write = .some r) (hf : fin r = true) : (∃ s m e, d = .number s m e) ∧ ∃ s m e, c = .number s m e := by
  cases d with
  | nan s f => simp [Ieee.Datum.sum] at h
  | infinity s =>
    cases c with
    | nan t f => simp [Ieee.Datum.sum] at h
    | infinity t =>
      simp only [Ieee.Datum.sum] at h
      split at h
      · cases h; rw [write_inf] at hf; cases hf
      · cases h
    | number t m e => simp only [Ieee.Datum.sum] at h; cases h; rw [write_inf] at hf; cases hf
  | number s m e =>
    cases c with
    | nan t f => simp [Ieee.Datum.sum] at h
    | infinity t => simp only [Ieee.Datum.sum] at h; cases h; rw [write_inf] at hf; cases hf
    | number t n j => exact ⟨⟨_, _, _, rfl⟩, ⟨_, _, _, rfl⟩⟩

theorem fin_of_read {x : Nat} {s : Bool} {m : Nat} {e : Int} (h : Ieee.double.read x = .number s m e) : fin x = true := by
  cases hx : fin x
  · rcases read_not hx with ⟨_, g⟩ | ⟨_, _, g⟩ <;> rw [g] at h <;> cases h
  · rfl

theorem add_back {x y r : Nat} (h : floatBits .add .f64 x y = .some r) (hf : fin r = true) : fin x = true ∧ fin y = true := by
  obtain ⟨⟨_, _, _, h1⟩, ⟨_, _, _, h2⟩⟩ := sum_back h hf
  exact ⟨fin_of_read h1, fin_of_read h2⟩
theorem sub_back {x y r : Nat} (h : floatBits .sub .f64 x y = .some r) (hf : fin r = true) : fin x = true ∧ fin y = true := by
  obtain ⟨⟨_, _, _, h1⟩, ⟨s, m, e, h2⟩⟩ := sum_back h hf
  refine ⟨fin_of_read h1, ?_⟩
  cases hy : fin y
  · rcases read_not hy with ⟨_, g⟩ | ⟨_, _, g⟩ <;> (have g' : FloatKind.f64.format.read y = _ := g; rw [g'] at h2; cases h2)
  · rfl

theorem FR.addBack {x y r : Nat} (h : FR .add x y r) (hf : fin r = true) : floatBits .add .f64 x y = .some r ∧ fin x = true ∧ fin y = true := by
  rcases h.2 with h | ⟨_, g⟩
  · exact ⟨h, add_back h hf⟩
  · rw [g] at hf; cases hf
theorem FR.subBack {x y r : Nat} (h : FR .sub x y r) (hf : fin r = true) : floatBits .sub .f64 x y = .some r ∧ fin x = true ∧ fin y = true := by
  rcases h.2 with h | ⟨_, g⟩
  · exact ⟨h, sub_back h hf⟩
  · rw [g] at hf; cases hf

/-- The sum of two finite floats and what was lost of it; nothing, where one of both is not finite. -/
def chain (a b : Nat) : Option (Nat × Nat) :=
  match floatBits .add .f64 a b with
  | .none => .none
  | .some s => if fin s then
      match floatBits .sub .f64 s a with
      | .none => .none
      | .some t =>
        match floatBits .sub .f64 s t with
        | .none => .none
        | .some d =>
          match floatBits .sub .f64 a d, floatBits .sub .f64 b t with
          | .some p, .some q =>
            match floatBits .add .f64 p q with
            | .none => .none
            | .some e => if fin e then .some (s, e) else .none
          | _, _ => .none
    else .none

/-- The steps as the machine goes them. -/
def Two (a b s e : Nat) : Prop := ∃ t d p q, FR .add a b s ∧ FR .sub s a t ∧ FR .sub s t d ∧ FR .sub a d p ∧ FR .sub b t q ∧ FR .add p q e

theorem Two.good {a b s e : Nat} (h : Two a b s e) (hs : fin s = true) (he : fin e = true) : chain a b = .some (s, e) := by
  obtain ⟨t, d, p, q, h1, h2, h3, h4, h5, h6⟩ := h
  obtain ⟨g6, fp, fq⟩ := h6.addBack he
  obtain ⟨g5, _, ft⟩ := h5.subBack fq
  obtain ⟨g4, _, fd⟩ := h4.subBack fp
  obtain ⟨g3, _, _⟩ := h3.subBack fd
  obtain ⟨g2, _, _⟩ := h2.subBack ft
  obtain ⟨g1, _, _⟩ := h1.addBack hs
  simp only [chain, g1, g2, g3, g4, g5, g6, hs, he, if_true]

theorem chain_back {a b : Nat} {u : Nat × Nat} (h : chain a b = .some u) : fin u.1 = true ∧ fin u.2 = true ∧ ∀ s e, Two a b s e → s = u.1 ∧ e = u.2 := by
  unfold chain at h
  split at h
  · cases h
  rename_i s g1
  split at h
  · rename_i hs
    split at h
    · cases h
    rename_i t g2
    split at h
    · cases h
    rename_i d g3
    split at h
    · rename_i p q g4 g5
      split at h
      · cases h
      rename_i e g6
      split at h
      · rename_i he
        cases h
        refine ⟨hs, he, fun s' e' hh => ?_⟩
        obtain ⟨t', d', p', q', h1, h2, h3, h4, h5, h6⟩ := hh
        have e1 := h1.det g1
        subst e1
        have e2 := h2.det g2
        subst e2
        have e3 := h3.det g3
        subst e3
        have e4 := h4.det g4
        subst e4
        have e5 := h5.det g5
        subst e5
        exact ⟨rfl, h6.det g6⟩
      · cases h
    · cases h
  · cases h

theorem Two.bad {a b s e : Nat} (h : Two a b s e) (hb : fin s = false ∨ fin e = false) : chain a b = .none := by
  cases hc : chain a b with
  | none => rfl
  | some u =>
    obtain ⟨h1, h2, h3⟩ := chain_back hc
    obtain ⟨e1, e2⟩ := h3 _ _ h
    rcases hb with hb | hb
    · rw [e1, h1] at hb; cases hb
    · rw [e2, h2] at hb; cases hb

end Go.Proofs.YtakeolfaamnkkaaGreatDoor

/- real.finite, real.twoSum, real.TwoSum and the document's Finite, TwoSum, of any floats, by their bits. -/
namespace Go.Proofs.YtakeolfaamnkkaaGreatDoor
open Go.RowKit
set_option linter.unusedVariables false

theorem Two.lt {a b s e : Nat} (h : Two a b s e) : s < 18446744073709551616 ∧ e < 18446744073709551616 := by
  obtain ⟨t, d, p, q, h1, h2, h3, h4, h5, h6⟩ := h
  exact ⟨h1.1, h6.1⟩

end Go.Proofs.YtakeolfaamnkkaaGreatDoor

/- The document's TwoSum; slackwaterkit.SameFloat, SameBits of one float twice; lists of floats: CopyFloats, LentFloats, SameFloats, KeptFloats. -/
namespace Go.Proofs.YtakeolfaamnkkaaGreatDoor
open Go.RowKit
set_option linter.unusedVariables false

theorem b2 {a b c : World} (h : Below a.heap.size a b) (g : Below b.heap.size b c) : Below a.heap.size a c := h.trans (g.mono h.size)

/-- The slice reads as these floats. -/
def RdF (w : World) (B : Nat) (a : Option Addr) (n cap : Nat) (xs : List Nat) : Prop :=
  xs.length = n ∧ (n = 0 ∨ ∃ b o, a = some ⟨b, o, none⟩ ∧ b < B ∧ ∀ j, j < n → w.cell? ⟨b, o + j, none⟩ = some (.float .f64 (xs[j]?.getD 0))) ∧ n ≤ cap ∧ cap ≤ maxLen ∧ (a = none → cap = 0)

theorem RdF.later {w w' : World} {B B' : Nat} {a : Option Addr} {n cap : Nat} {zs : List Nat} (h : RdF w B a n cap zs) (hb : Below B w w') (hB : B ≤ B') : RdF w' B' a n cap zs := by
  obtain ⟨h1, h3, h4⟩ := h
  refine ⟨h1, h3.imp id ?_, h4⟩
  rintro ⟨b, o, rfl, hlt, hc⟩
  exact ⟨b, o, rfl, by omega, fun j hj => (hb.cell (p := ⟨b, o + j, none⟩) hlt).trans (hc j hj)⟩

theorem RdF.own {w : World} {base e : Nat} {v : Value} {zs : List Nat} {n : Nat} (h : w.ownsRow base e 1 v n (zs.map (Value.float .f64))) :
    ∃ a cap, v = .slice a n cap ∧ RdF w w.heap.size a n cap zs := by
  have hl := h.1
  simp at hl
  rcases h.2 with ⟨rfl, rfl⟩ | ⟨g, cap, cur, rfl, hb, hg, hnc, hcm, hcs, ht⟩
  · exact ⟨none, 0, rfl, by omega, .inl rfl, Nat.le_refl _, Nat.zero_le _, fun _ => rfl⟩
  · refine ⟨_, cap, rfl, by omega, ?_, hnc, hcm, fun h => by simp at h⟩
    right
    refine ⟨g, 0, rfl, ?_, fun j hj => ?_⟩
    · have : w.heap[g]?.isSome := by rw [hg]; rfl
      simpa using this
    · have hc := h.cellAt j (by omega)
      rw [Nat.zero_add, hc, List.getElem?_map, List.getElem?_eq_getElem (by omega)]
      simp

end Go.Proofs.YtakeolfaamnkkaaGreatDoor

/- real.Sum and the document's Sum, of any list of floats. -/
namespace Go.Proofs.YtakeolfaamnkkaaGreatDoor
open Go.RowKit
set_option linter.unusedVariables false

/-- A struct's memory. -/
def FBox (w : World) (b t : Nat) (vs : Array Value) : Prop := w.heap[b]? = some (.cells vs t (0, 0))
theorem FBox.cell {w : World} {b t : Nat} {vs : Array Value} (h : FBox w b t vs) (j : Nat) : w.cell? ⟨b, j, none⟩ = vs[j]? := by
  unfold FBox at h
  simp [World.cell?, h]
theorem FBox.free {w : World} {b t : Nat} {vs : Array Value} (h : FBox w b t vs) (j : Nat) : w.frozen? ⟨b, j, none⟩ = false := by
  unfold FBox at h
  simp [World.frozen?, h]
theorem FBox.later {w w' : World} {B b t : Nat} {vs : Array Value} (h : FBox w b t vs) (hb : Below B w w') (hlt : b < B) : FBox w' b t vs := by
  unfold FBox at *
  rw [hb.block b hlt]; exact h
theorem FBox.lt {w : World} {b t : Nat} {vs : Array Value} (h : FBox w b t vs) : b < w.heap.size := by
  unfold FBox at h
  have : w.heap[b]?.isSome := by rw [h]; rfl
  simpa using this
theorem FBox.made (w : World) (t : Nat) (vs : Array Value) : FBox (w.alloc (.cells vs t)) w.heap.size t vs := by
  unfold FBox
  show (w.heap.push _)[w.heap.size]? = _
  rw [Array.getElem?_push, if_pos rfl]
theorem FBox.other {w : World} {b t : Nat} {vs : Array Value} (h : FBox w b t vs) (p : Addr) (v : Value) (hne : b ≠ p.block) : FBox (w.setCell p v) b t vs := by
  unfold FBox at *
  rw [Below.heap_setCell w p v b hne]; exact h
theorem FBox.drewN {w : World} {b t : Nat} {vs : Array Value} (h : FBox w b t vs) (n : Nat) : FBox (w.drewN n) b t vs := h
theorem FBox.set {w : World} {b t : Nat} {vs : Array Value} (h : FBox w b t vs) (j : Nat) (v : Value) : FBox (w.setCell ⟨b, j, none⟩ v) b t (vs.setIfInBounds j v) := by
  unfold FBox at *
  simp only [World.setCell, Array.getElem?_modify, if_pos, h]
  simp

end Go.Proofs.YtakeolfaamnkkaaGreatDoor

