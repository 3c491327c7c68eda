/- My texts on the way to GaussParts, one behind the other: contracts of the program and of the document's answers. -/
import Derived.Test.YtopogjfmocpeaaaGreatJ1
import Derived.Test.YtopogjfmocpeaaaGreatJ2
import Derived.Test.YtopogjfmocpeaaaGreatJ3
import Derived.Test.YtopogjfmocpeaaaGreatJ4
import Derived.Deep.RegionHeld3
import Derived.Deep.RegionLaw
import Derived.Deep.RegionWith
import Derived.Deep.Cut
/- Complex fractions, the steps' own: square: of any complex fraction that was looked at. -/
namespace Go.Proofs.YtopogjfmocpeaaaGreat
open Go.RowKit
set_option linter.unusedVariables false

theorem cells6 {W : World} {b t : Nat} {u0 u1 u2 u3 u4 u5 : Value} (h : Box W b t #[u0, u1, u2, u3, u4, u5]) : W.cell? ⟨b, 0, none⟩ = some u0 ∧ W.cell? ⟨b, 1, none⟩ = some u1 ∧ W.cell? ⟨b, 2, none⟩ = some u2 ∧ W.cell? ⟨b, 3, none⟩ = some u3 ∧ W.cell? ⟨b, 4, none⟩ = some u4 ∧ W.cell? ⟨b, 5, none⟩ = some u5 :=
  ⟨h.cell 0, h.cell 1, h.cell 2, h.cell 3, h.cell 4, h.cell 5⟩

set_option maxHeartbeats 3200000 in
set_option maxRecDepth 100000 in
theorem gsquare_any (p : Nat) (E : Int) (n : Bool) (a : Option Addr) (ca : Nat) (xs : List Int) (b : Option Addr) (cb : Nat) (ys : List Int) (m : Bool) (c : Option Addr) (cc : Nat) (us : List Int) (d : Option Addr) (cd : Nat) (vs : List Int) (w : World) (hp : Box w p 53 #[.int .i64 E]) (HS : ∀ V, w.grownBy V (some p) → Sl V (.slice a xs.length ca) xs ∧ Sl V (.slice b ys.length cb) ys ∧ Sl V (.slice c us.length cc) us ∧ Sl V (.slice d vs.length cd) vs) :
    Calls Tryz.prog 38 #[.pointer (some ⟨p, 0, none⟩), .agg #[.bool n, .slice a xs.length ca, .slice b ys.length cb, .bool m, .slice c us.length cc, .slice d vs.length cd]] w fun x w' => ∃ n1 x1 y1 c1 n2 x2 y2 c2, RTells (fstE E (rboth n xs ys n xs ys)) (rq n xs ys * rq n xs ys) n1 x1 y1 c1 ∧ RTells (fstE c1 (rboth m us vs m us vs)) (rq m us vs * rq m us vs) n2 x2 y2 c2 ∧ GTell w p (fstE c2 (rboth n1 x1 y1 n2 x2 y2)) (rq n1 x1 y1 + rq n2 x2 y2) x w' := by
  have e1 : (w.alloc (.cells #[.bool n, .slice a xs.length ca, .slice b ys.length cb, .bool m, .slice c us.length cc, .slice d vs.length cd] 26)).heap.size = w.heap.size + 1 := World.size_alloc _ _
  have hpw : p < w.heap.size := hp.lt
  have HI : Hid (GInv w p E [(w.heap.size, 26, #[.bool n, .slice a xs.length ca, .slice b ys.length cb, .bool m, .slice c us.length cc, .slice d vs.length cd]), (w.heap.size + 1, 24, #[.bool false, .slice none 0 0, .slice none 0 0])] ((w.alloc (.cells #[.bool n, .slice a xs.length ca, .slice b ys.length cb, .bool m, .slice c us.length cc, .slice d vs.length cd] 26)).alloc (.cells #[.bool false, .slice none 0 0, .slice none 0 0] 24))) := by
    have A := Box.made w 26 #[.bool n, .slice a xs.length ca, .slice b ys.length cb, .bool m, .slice c us.length cc, .slice d vs.length cd]
    have B := Box.made (w.alloc (.cells #[.bool n, .slice a xs.length ca, .slice b ys.length cb, .bool m, .slice c us.length cc, .slice d vs.length cd] 26)) 24 #[.bool false, .slice none 0 0, .slice none 0 0]
    refine ⟨(hp.later (alloc_later _ _) hp.lt).later (alloc_later _ _) (hp.later (alloc_later _ _) hp.lt).lt, grow_below (bt (alloc_later _ _) (alloc_later _ _)) _, fun x hx => ?_⟩
    cases hx with
    | head => exact ⟨A.later (alloc_later _ _) A.lt, by show w.heap.size ≠ p; omega⟩
    | tail _ hx =>
      cases hx with
      | head => exact ⟨e1 ▸ B, by show w.heap.size + 1 ≠ p; omega⟩
      | tail _ hx => cases hx
  obtain ⟨X, hX⟩ : ∃ X, (w.alloc (.cells #[.bool n, .slice a xs.length ca, .slice b ys.length cb, .bool m, .slice c us.length cc, .slice d vs.length cd] 26)).alloc (.cells #[.bool false, .slice none 0 0, .slice none 0 0] 24) = X := ⟨_, rfl⟩
  rw [hX] at HI
  have HSS := hid HS
  have HPW := hid hpw
  have H1 : Hid (∀ V EE, GInv w p EE [(w.heap.size, 26, #[.bool n, .slice a xs.length ca, .slice b ys.length cb, .bool m, .slice c us.length cc, .slice d vs.length cd]), (w.heap.size + 1, 24, #[.bool false, .slice none 0 0, .slice none 0 0])] V → Calls Tryz.prog 59 #[.pointer (some ⟨p, 0, none⟩), .agg #[.bool n, .slice a xs.length ca, .slice b ys.length cb], .agg #[.bool n, .slice a xs.length ca, .slice b ys.length cb]] V (fun x w1 => ∃ n1 a1 k1 x1 b1 l1 y1 code, x = .returned (.agg #[.bool n1, .slice a1 (List.length x1) k1, .slice b1 (List.length y1) l1]) ∧ Hid (RTells (fstE EE (rboth n xs ys n xs ys)) (rq n xs ys * rq n xs ys) n1 x1 y1 code) ∧ Hid (GInv w p code [(w.heap.size, 26, #[.bool n, .slice a xs.length ca, .slice b ys.length cb, .bool m, .slice c us.length cc, .slice d vs.length cd]), (w.heap.size + 1, 24, #[.bool false, .slice none 0 0, .slice none 0 0])] w1) ∧ Hid (GRow w1 w.heap.size n1 (.slice a1 (List.length x1) k1) x1 (.slice b1 (List.length y1) l1) y1) ∧ Hid (V.grownBy w1 (some p)) ∧ (w1.cell? ⟨w.heap.size, 0, none⟩ = some (.bool n) ∧ w1.cell? ⟨w.heap.size, 1, none⟩ = some (.slice a xs.length ca) ∧ w1.cell? ⟨w.heap.size, 2, none⟩ = some (.slice b ys.length cb) ∧ w1.cell? ⟨w.heap.size, 3, none⟩ = some (.bool m) ∧ w1.cell? ⟨w.heap.size, 4, none⟩ = some (.slice c us.length cc) ∧ w1.cell? ⟨w.heap.size, 5, none⟩ = some (.slice d vs.length cd)))) := by
    refine hid (fun V EE hv => ?_)
    obtain ⟨h1, h2, h3, h4⟩ := HSS.out V hv.grown
    refine Calls.mono (gproduct_any p EE n a ca xs b cb ys n a ca xs b cb ys V hv.err h1 h2 h1 h2) ?_
    rintro x w1 ⟨k, v, zs, u, ts, code, rfl, ov, ou, ht, hpb, hg, hcut⟩
    obtain ⟨av, cv, rfl⟩ := own_slice' ov
    obtain ⟨au, cu, rfl⟩ := own_slice' ou
    have hi := hv.step hpb hg
    exact ⟨k, av, cv, zs, au, cu, ts, code, rfl, hid ht, hid hi, hid ⟨owns_base ov hv.grown.size, owns_base ou hv.grown.size⟩, hid hg, cells6 (hi.box _ (List.mem_cons_self ..)).1⟩
  have H2 : Hid (∀ V EE, GInv w p EE [(w.heap.size, 26, #[.bool n, .slice a xs.length ca, .slice b ys.length cb, .bool m, .slice c us.length cc, .slice d vs.length cd]), (w.heap.size + 1, 24, #[.bool false, .slice none 0 0, .slice none 0 0])] V → Calls Tryz.prog 59 #[.pointer (some ⟨p, 0, none⟩), .agg #[.bool m, .slice c us.length cc, .slice d vs.length cd], .agg #[.bool m, .slice c us.length cc, .slice d vs.length cd]] V (fun x w1 => ∃ n1 a1 k1 x1 b1 l1 y1 code, x = .returned (.agg #[.bool n1, .slice a1 (List.length x1) k1, .slice b1 (List.length y1) l1]) ∧ Hid (RTells (fstE EE (rboth m us vs m us vs)) (rq m us vs * rq m us vs) n1 x1 y1 code) ∧ Hid (GInv w p code [(w.heap.size, 26, #[.bool n, .slice a xs.length ca, .slice b ys.length cb, .bool m, .slice c us.length cc, .slice d vs.length cd]), (w.heap.size + 1, 24, #[.bool false, .slice none 0 0, .slice none 0 0])] w1) ∧ Hid (GRow w1 w.heap.size n1 (.slice a1 (List.length x1) k1) x1 (.slice b1 (List.length y1) l1) y1) ∧ Hid (V.grownBy w1 (some p)) ∧ (w1.cell? ⟨w.heap.size, 0, none⟩ = some (.bool n) ∧ w1.cell? ⟨w.heap.size, 1, none⟩ = some (.slice a xs.length ca) ∧ w1.cell? ⟨w.heap.size, 2, none⟩ = some (.slice b ys.length cb) ∧ w1.cell? ⟨w.heap.size, 3, none⟩ = some (.bool m) ∧ w1.cell? ⟨w.heap.size, 4, none⟩ = some (.slice c us.length cc) ∧ w1.cell? ⟨w.heap.size, 5, none⟩ = some (.slice d vs.length cd)))) := by
    refine hid (fun V EE hv => ?_)
    obtain ⟨h1, h2, h3, h4⟩ := HSS.out V hv.grown
    refine Calls.mono (gproduct_any p EE m c cc us d cd vs m c cc us d cd vs V hv.err h3 h4 h3 h4) ?_
    rintro x w1 ⟨k, v, zs, u, ts, code, rfl, ov, ou, ht, hpb, hg, hcut⟩
    obtain ⟨av, cv, rfl⟩ := own_slice' ov
    obtain ⟨au, cu, rfl⟩ := own_slice' ou
    have hi := hv.step hpb hg
    exact ⟨k, av, cv, zs, au, cu, ts, code, rfl, hid ht, hid hi, hid ⟨owns_base ov hv.grown.size, owns_base ou hv.grown.size⟩, hid hg, cells6 (hi.box _ (List.mem_cons_self ..)).1⟩
  have H3 : Hid (∀ (V : World) (EE : Int) (n1 : Bool) (a1 : Option Addr) (k1 : Nat) (x1 : List Int) (b1 : Option Addr) (l1 : Nat) (y1 : List Int) (n2 : Bool) (a2 : Option Addr) (k2 : Nat) (x2 : List Int) (b2 : Option Addr) (l2 : Nat) (y2 : List Int), GInv w p EE [(w.heap.size, 26, #[.bool n, .slice a xs.length ca, .slice b ys.length cb, .bool m, .slice c us.length cc, .slice d vs.length cd]), (w.heap.size + 1, 24, #[.bool false, .slice none 0 0, .slice none 0 0])] V → Sl V (.slice a1 x1.length k1) x1 ∧ Sl V (.slice b1 y1.length l1) y1 → Sl V (.slice a2 x2.length k2) x2 ∧ Sl V (.slice b2 y2.length l2) y2 → Calls Tryz.prog 58 #[.pointer (some ⟨p, 0, none⟩), .agg #[.bool n1, .slice a1 x1.length k1, .slice b1 y1.length l1], .agg #[.bool n2, .slice a2 x2.length k2, .slice b2 y2.length l2]] V (fun x w1 => ∃ n3 a3 k3 x3 b3 l3 y3 code, x = .returned (.agg #[.bool n3, .slice a3 (List.length x3) k3, .slice b3 (List.length y3) l3]) ∧ Hid (RTells (fstE EE (rboth n1 x1 y1 n2 x2 y2)) (rq n1 x1 y1 + rq n2 x2 y2) n3 x3 y3 code) ∧ Hid (GInv w p code [(w.heap.size, 26, #[.bool n, .slice a xs.length ca, .slice b ys.length cb, .bool m, .slice c us.length cc, .slice d vs.length cd]), (w.heap.size + 1, 24, #[.bool false, .slice none 0 0, .slice none 0 0])] w1) ∧ Hid (w1.ownsRow V.heap.size 68 1 (.slice a3 (List.length x3) k3) x3.length (x3.map (Value.int .u32)) ∧ w1.ownsRow V.heap.size 68 1 (.slice b3 (List.length y3) l3) y3.length (y3.map (Value.int .u32))) ∧ Hid (Cut V (.slice a3 (List.length x3) k3) (.slice b3 (List.length y3) l3) w1) ∧ (w1.cell? ⟨w.heap.size + 1, 0, none⟩ = some (.bool false) ∧ w1.cell? ⟨w.heap.size + 1, 1, none⟩ = some (.slice none 0 0) ∧ w1.cell? ⟨w.heap.size + 1, 2, none⟩ = some (.slice none 0 0) ∧ w1.frozen? ⟨w.heap.size + 1, 0, none⟩ = false ∧ w1.frozen? ⟨w.heap.size + 1, 1, none⟩ = false ∧ w1.frozen? ⟨w.heap.size + 1, 2, none⟩ = false) ∧ (w1.cell? ⟨w.heap.size, 0, none⟩ = some (.bool n) ∧ w1.cell? ⟨w.heap.size, 1, none⟩ = some (.slice a xs.length ca) ∧ w1.cell? ⟨w.heap.size, 2, none⟩ = some (.slice b ys.length cb) ∧ w1.cell? ⟨w.heap.size, 3, none⟩ = some (.bool m) ∧ w1.cell? ⟨w.heap.size, 4, none⟩ = some (.slice c us.length cc) ∧ w1.cell? ⟨w.heap.size, 5, none⟩ = some (.slice d vs.length cd)))) := by
    refine hid (fun V EE n1 a1 k1 x1 b1 l1 y1 n2 a2 k2 x2 b2 l2 y2 hv h1 h2 => ?_)
    refine Calls.mono (gsum_any p EE n1 a1 k1 x1 b1 l1 y1 n2 a2 k2 x2 b2 l2 y2 V hv.err h1.1 h1.2 h2.1 h2.2) ?_
    rintro x w1 ⟨k, v, zs, u, ts, code, rfl, ov, ou, ht, hpb, hg, hcut⟩
    obtain ⟨av, cv, rfl⟩ := own_slice' ov
    obtain ⟨au, cu, rfl⟩ := own_slice' ou
    have hi := hv.step hpb hg
    have hb2 := (hi.box _ (List.mem_cons_of_mem _ (List.mem_cons_self ..))).1
    exact ⟨k, av, cv, zs, au, cu, ts, code, rfl, hid ht, hid hi, hid ⟨ov, ou⟩, hid hcut, ⟨hb2.cell 0, hb2.cell 1, hb2.cell 2, hb2.free 0, hb2.free 1, hb2.free 2⟩, cells6 (hi.box _ (List.mem_cons_self ..)).1⟩
  have hs00 := cells6 (HI.out.box _ (List.mem_cons_self ..)).1
  have HD := hid HI.out.drew
  obtain ⟨c0, c1, c2, c3, c4, c5⟩ := hs00
  clear HS HSS hp
  go_enter Tryz.func38, Tryz.ntmps38
  go_wp2_with fail
  go_region_held3 (fun V : World => V.cell? ⟨w.heap.size, 0, none⟩ = some (.bool n) ∧ V.cell? ⟨w.heap.size, 1, none⟩ = some (.slice a xs.length ca) ∧ V.cell? ⟨w.heap.size, 2, none⟩ = some (.slice b ys.length cb) ∧ V.cell? ⟨w.heap.size, 3, none⟩ = some (.bool m) ∧ V.cell? ⟨w.heap.size, 4, none⟩ = some (.slice c us.length cc) ∧ V.cell? ⟨w.heap.size, 5, none⟩ = some (.slice d vs.length cd)) (first | exact hs3 | exact cells6 (box_far3 (i3.out.box _ (List.mem_cons_self ..)).1 (by omega) _ _ _) | exact hs2 | exact hs1 | exact hs0 | exact ⟨c0, c1, c2, c3, c4, c5⟩)
    (first
      | (go_at_call 59; with_reducible refine Calls.mono (H2.out w1 e1' i1.out) ?_; rintro x w2 ⟨n2, a2, k2, x2, b2, l2, y2, e2, rfl, t2, i2, r2, g2, hs2⟩)
      | (go_at_call 59; with_reducible refine Calls.mono (H1.out _ E HD.out) ?_; rintro x w1 ⟨n1, a1, k1, x1, b1, l1, y1, e1', rfl, t1, i1, r1, g1, hs1⟩)
      | (go_at_call 58; with_reducible refine Calls.mono (H3.out w2 e2 n1 a1 k1 x1 b1 l1 y1 n2 a2 k2 x2 b2 l2 y2 i2.out ((r1.out.step HPW.out g2.out).sl t1.out.wx t1.out.wy) (r2.out.sl t2.out.wx t2.out.wy)) ?_; rintro x w3 ⟨n3, a3, k3, x3, b3, l3, y3, e3, rfl, t3, i3, r3, cut3, ⟨m0, m1, m2, f0, f1, f2⟩, hs3⟩))
  all_goals
    have hb1 : w.heap.size + 1 < w2.heap.size := (i2.out.box _ (List.mem_cons_of_mem _ (List.mem_cons_self ..))).1.lt
    have HB1 := hid hb1
    clear hs1 hs2 hs3 hb1 H1 H2 H3 HD c0 c1 c2 c3 c4 c5
    go_wp2_with fail
    have hb1 := HB1.out
    have HM := (i3.out.box _ (List.mem_cons_of_mem _ (List.mem_cons_self ..))).1
    have hv : ∀ b', (Value.slice a3 x3.length k3).ownBlock = some b' → b' ≠ w.heap.size + 1 := fun b' hb => by have := (r3.out.1.lt b' hb).1; omega
    have hu : ∀ b', (Value.slice b3 y3.length l3).ownBlock = some b' → b' ≠ w.heap.size + 1 := fun b' hb => by have := (r3.out.2.lt b' hb).1; omega
    have B1 := box_put3 HM (.bool n3) (.slice a3 x3.length k3) (.slice b3 y3.length l3)
    have P1 := box_far3 i3.out.err (show p ≠ w.heap.size + 1 by omega) (.bool n3) (.slice a3 x3.length k3) (.slice b3 y3.length l3)
    have V1 := own_put3' r3.out.1 _ hv (.bool n3) (.slice a3 x3.length k3) (.slice b3 y3.length l3)
    have U1 := own_put3' r3.out.2 _ hu (.bool n3) (.slice a3 x3.length k3) (.slice b3 y3.length l3)
    have G1 := grow_put3 i3.out.grown (w.heap.size + 1) (.bool n3) (.slice a3 x3.length k3) (.slice b3 y3.length l3) (.inl (by omega))
    have hXw : w.heap.size ≤ w2.heap.size := by omega
    refine bodyPost_ret (results_cell_row (by rfl) _ _ (w.heap.size + 1) 24 _ (0, 0) _ (by rfl) B1 Tryz.underlying24 rfl (by kernel_rfl)) rfl ?_
    exact ⟨n1, x1, y1, e1', n2, x2, y2, e2, t1.out, t2.out, n3, _, x3, _, y3, e3, rfl, owns_base V1 hXw, owns_base U1 hXw, t3.out, P1, G1, cut3.out.up hXw (by simp [World.setCell])⟩
end Go.Proofs.YtopogjfmocpeaaaGreat

/- Complex fractions: gauss.Neg: of any, good or refused. -/
namespace Go.Proofs.YtopogjfmocpeaaaGreat
open Go.RowKit
set_option linter.unusedVariables false

end Go.Proofs.YtopogjfmocpeaaaGreat

/- Complex fractions: gauss.Norm: of any, good or refused. -/
namespace Go.Proofs.YtopogjfmocpeaaaGreat
open Go.RowKit
set_option linter.unusedVariables false

theorem boxes2m (w : World) (t t' : Nat) (u v : Array Value) : Box ((w.alloc (.cells u t)).alloc (.cells v t')) w.heap.size t u ∧ Box ((w.alloc (.cells u t)).alloc (.cells v t')) (w.heap.size + 1) t' v ∧ Below w.heap.size w ((w.alloc (.cells u t)).alloc (.cells v t')) := by
  have e1 : (w.alloc (.cells u t)).heap.size = w.heap.size + 1 := World.size_alloc _ _
  have a := Box.made w t u
  have b := Box.made (w.alloc (.cells u t)) t' v
  exact ⟨a.later (alloc_later _ _) a.lt, e1 ▸ b, bt (alloc_later _ _) (alloc_later _ _)⟩
/-- A fraction is read out of a box, its error out of a slot. -/
theorem gresr_run {fn : Func} {W : World} {b q u : Nat} {cs : Array Value} (hr : fn.results = #[.cell q 24, .tmp u]) (hb : Box W b 24 cs) (tmps : Array Value) (h4 : tmps.getD q undef = .pointer (some ⟨b, 0, none⟩)) (hi : (Tryz.prog.info? 24).map (·.size) = some cs.size := by kernel_rfl) : (results fn tmps).run Tryz.prog W = .ok (.tuple #[.agg cs, tmps.getD u undef]) W := by
  have h := run_loadVar_row (P := Tryz.prog) W b 24 24 cs (0, 0) _ hb Tryz.underlying24 rfl hi
  rw [results_cell_tmp hr, h4]
  simp [asAddr, h]

end Go.Proofs.YtopogjfmocpeaaaGreat

/- The document's pair: two products and their sum, or the first less the second. (tools/mkgp4.py) -/
namespace Go.Proofs.YtopogjfmocpeaaaGreat
open Go.RowKit
set_option linter.unusedVariables false

/-- What two products and their sum (or the first less the second) tell, one error ahead of the next. -/
def PrT (less : Bool) (E e1 : Int) (q1 : Rat) (e2 : Int) (q2 : Rat) (n : Bool) (xs ys : List Int) (code : Int) : Prop :=
  ∃ n1 x1 y1 c1 n2 x2 y2 c2, RTells (fstE E e1) q1 n1 x1 y1 c1 ∧ RTells (fstE c1 e2) q2 n2 x2 y2 c2 ∧ RTells (fstE c2 (rboth n1 x1 y1 n2 x2 y2)) (if less then rq n1 x1 y1 - rq n2 x2 y2 else rq n1 x1 y1 + rq n2 x2 y2) n xs ys code
theorem PrT.one {less : Bool} {E e1 : Int} {q1 : Rat} {e2 : Int} {q2 : Rat} {n m : Bool} {xs ys us vs : List Int} {c d : Int} (h : PrT less E e1 q1 e2 q2 n xs ys c) (g : PrT less E e1 q1 e2 q2 m us vs d) : n = m ∧ xs = us ∧ ys = vs ∧ c = d := by
  obtain ⟨n1, x1, y1, c1, n2, x2, y2, c2, t1, t2, t3⟩ := h
  obtain ⟨n1', x1', y1', c1', n2', x2', y2', c2', t1', t2', t3'⟩ := g
  obtain ⟨rfl, rfl, rfl, rfl⟩ := t1.same t1'
  obtain ⟨rfl, rfl, rfl, rfl⟩ := t2.same t2'
  exact t3.same t3'
theorem PrT.err {less : Bool} {E e1 : Int} {q1 : Rat} {e2 : Int} {q2 : Rat} (h : E ≠ 0) : PrT less E e1 q1 e2 q2 false [] [] E :=
  ⟨false, [], [], E, false, [], [], E, by rw [fstE_err _ h]; exact RTells.err h, by rw [fstE_err _ h]; exact RTells.err h, by rw [fstE_err _ h]; exact RTells.err h⟩
theorem PrT.err1 {less : Bool} {e1 : Int} {q1 : Rat} {e2 : Int} {q2 : Rat} {n : Bool} {xs ys : List Int} {c : Int} (t : RTells e1 q1 n xs ys c) (h : c ≠ 0) : PrT less 0 e1 q1 e2 q2 false [] [] c :=
  ⟨n, xs, ys, c, false, [], [], c, by rw [fstE_zero]; exact t, by rw [fstE_err _ h]; exact RTells.err h, by rw [fstE_err _ h]; exact RTells.err h⟩
theorem PrT.err2 {less : Bool} {e1 : Int} {q1 : Rat} {e2 : Int} {q2 : Rat} {n m : Bool} {xs ys us vs : List Int} {c : Int} (t : RTells e1 q1 n xs ys 0) (t2 : RTells e2 q2 m us vs c) (h : c ≠ 0) : PrT less 0 e1 q1 e2 q2 false [] [] c :=
  ⟨n, xs, ys, 0, m, us, vs, c, by rw [fstE_zero]; exact t, by rw [fstE_zero]; exact t2, by rw [fstE_err _ h]; exact RTells.err h⟩
/-- What the document tells of a fraction. -/
def DRT (w : World) (t : Bool → List Int → List Int → Int → Prop) (x : Ending) (w' : World) : Prop :=
  ∃ n a ca xs b cb ys code, x = .returned (.tuple #[.agg #[.bool n, .slice a (List.length xs) ca, .slice b (List.length ys) cb], .int .i64 code]) ∧ (w'.ownsRow w.heap.size 68 1 (.slice a xs.length ca) xs.length (xs.map (Value.int .u32)) ∧ w'.ownsRow w.heap.size 68 1 (.slice b ys.length cb) ys.length (ys.map (Value.int .u32))) ∧ (Wd xs ∧ Wd ys) ∧ t n xs ys code ∧ Below w.heap.size w w'

theorem kp_len {e : Int} {q : Rat} {n : Bool} {xs ys : List Int} {c : Int} (h : RTells e q n xs ys c) : xs.length ≤ 281474976710656 := by
  by_cases he : e = 0
  · by_cases hl : rlong q
    · rw [(h.long he hl).2.1]; simp
    · have := (rchk_ok (h.good he hl).2.1).1; omega
  · rw [(h.bad he).2.1]; simp
theorem kp_len2 {e : Int} {q : Rat} {n : Bool} {xs ys : List Int} {c : Int} (h : RTells e q n xs ys c) : ys.length ≤ 281474976710656 := by
  by_cases he : e = 0
  · by_cases hl : rlong q
    · rw [(h.long he hl).2.2.1]; simp
    · have := (rchk_ok (h.good he hl).2.1).2.1; omega
  · rw [(h.bad he).2.2.1]; simp

set_option maxHeartbeats 3200000 in
set_option maxRecDepth 100000 in
theorem d4pair_more (n1 : Bool) (a1 : Option Addr) (k1 : Nat) (x1 : List Int) (o1 : Option Addr) (l1 : Nat) (y1 : List Int) (n2 : Bool) (a2 : Option Addr) (k2 : Nat) (x2 : List Int) (o2 : Option Addr) (l2 : Nat) (y2 : List Int) (n3 : Bool) (a3 : Option Addr) (k3 : Nat) (x3 : List Int) (o3 : Option Addr) (l3 : Nat) (y3 : List Int) (n4 : Bool) (a4 : Option Addr) (k4 : Nat) (x4 : List Int) (o4 : Option Addr) (l4 : Nat) (y4 : List Int) (w : World) (s1 : Sl w (.slice a1 x1.length k1) x1 ∧ Sl w (.slice o1 y1.length l1) y1) (h1 : x1.length ≤ 281474976710656 ∧ y1.length ≤ 281474976710656) (s2 : Sl w (.slice a2 x2.length k2) x2 ∧ Sl w (.slice o2 y2.length l2) y2) (h2 : x2.length ≤ 281474976710656 ∧ y2.length ≤ 281474976710656) (s3 : Sl w (.slice a3 x3.length k3) x3 ∧ Sl w (.slice o3 y3.length l3) y3) (h3 : x3.length ≤ 281474976710656 ∧ y3.length ≤ 281474976710656) (s4 : Sl w (.slice a4 x4.length k4) x4 ∧ Sl w (.slice o4 y4.length l4) y4) (h4 : x4.length ≤ 281474976710656 ∧ y4.length ≤ 281474976710656) :
    Calls Tryz.prog 39 #[.agg #[.bool n1, .slice a1 x1.length k1, .slice o1 y1.length l1], .agg #[.bool n2, .slice a2 x2.length k2, .slice o2 y2.length l2], .agg #[.bool n3, .slice a3 x3.length k3, .slice o3 y3.length l3], .agg #[.bool n4, .slice a4 x4.length k4, .slice o4 y4.length l4], .bool false] w (DRT w (PrT false 0 (rboth n1 x1 y1 n2 x2 y2) (rq n1 x1 y1 * rq n2 x2 y2) (rboth n3 x3 y3 n4 x4 y4) (rq n3 x3 y3 * rq n4 x4 y4))) := by
  obtain ⟨X, hX⟩ : ∃ X, ((((w.alloc (.cells #[.bool n1, .slice a1 x1.length k1, .slice o1 y1.length l1] 24)).alloc (.cells #[.bool n2, .slice a2 x2.length k2, .slice o2 y2.length l2] 24)).alloc (.cells #[.bool n3, .slice a3 x3.length k3, .slice o3 y3.length l3] 24)).alloc (.cells #[.bool n4, .slice a4 x4.length k4, .slice o4 y4.length l4] 24)).alloc (.cells #[.bool false, .slice none 0 0, .slice none 0 0] 24) = X := ⟨_, rfl⟩
  have b1 : Below w.heap.size w X := by rw [← hX]; exact bt (bt (bt (bt (alloc_later _ _) (alloc_later _ _)) (alloc_later _ _)) (alloc_later _ _)) (alloc_later _ _)
  have HB0 : Hid (Box X (w.heap.size) 24 #[.bool n1, .slice a1 x1.length k1, .slice o1 y1.length l1]) := by
    have h := Box.made w 24 #[.bool n1, .slice a1 x1.length k1, .slice o1 y1.length l1]
    rw [← hX]
    exact h.later (bt (bt (bt (alloc_later _ _) (alloc_later _ _)) (alloc_later _ _)) (alloc_later _ _)) h.lt
  have HB1 : Hid (Box X (w.heap.size + 1) 24 #[.bool n2, .slice a2 x2.length k2, .slice o2 y2.length l2]) := by
    have h := Box.made (w.alloc (.cells #[.bool n1, .slice a1 x1.length k1, .slice o1 y1.length l1] 24)) 24 #[.bool n2, .slice a2 x2.length k2, .slice o2 y2.length l2]
    rw [show (w.alloc (.cells #[.bool n1, .slice a1 x1.length k1, .slice o1 y1.length l1] 24)).heap.size = w.heap.size + 1 by simp] at h
    rw [← hX]
    exact h.later (bt (bt (alloc_later _ _) (alloc_later _ _)) (alloc_later _ _)) h.lt
  have HB2 : Hid (Box X (w.heap.size + 1 + 1) 24 #[.bool n3, .slice a3 x3.length k3, .slice o3 y3.length l3]) := by
    have h := Box.made ((w.alloc (.cells #[.bool n1, .slice a1 x1.length k1, .slice o1 y1.length l1] 24)).alloc (.cells #[.bool n2, .slice a2 x2.length k2, .slice o2 y2.length l2] 24)) 24 #[.bool n3, .slice a3 x3.length k3, .slice o3 y3.length l3]
    rw [show ((w.alloc (.cells #[.bool n1, .slice a1 x1.length k1, .slice o1 y1.length l1] 24)).alloc (.cells #[.bool n2, .slice a2 x2.length k2, .slice o2 y2.length l2] 24)).heap.size = w.heap.size + 1 + 1 by simp] at h
    rw [← hX]
    exact h.later (bt (alloc_later _ _) (alloc_later _ _)) h.lt
  have HB3 : Hid (Box X (w.heap.size + 1 + 1 + 1) 24 #[.bool n4, .slice a4 x4.length k4, .slice o4 y4.length l4]) := by
    have h := Box.made (((w.alloc (.cells #[.bool n1, .slice a1 x1.length k1, .slice o1 y1.length l1] 24)).alloc (.cells #[.bool n2, .slice a2 x2.length k2, .slice o2 y2.length l2] 24)).alloc (.cells #[.bool n3, .slice a3 x3.length k3, .slice o3 y3.length l3] 24)) 24 #[.bool n4, .slice a4 x4.length k4, .slice o4 y4.length l4]
    rw [show (((w.alloc (.cells #[.bool n1, .slice a1 x1.length k1, .slice o1 y1.length l1] 24)).alloc (.cells #[.bool n2, .slice a2 x2.length k2, .slice o2 y2.length l2] 24)).alloc (.cells #[.bool n3, .slice a3 x3.length k3, .slice o3 y3.length l3] 24)).heap.size = w.heap.size + 1 + 1 + 1 by simp] at h
    rw [← hX]
    exact h.later (alloc_later _ _) h.lt
  have HB4 : Hid (Box X (w.heap.size + 1 + 1 + 1 + 1) 24 #[.bool false, .slice none 0 0, .slice none 0 0]) := by
    have h := Box.made ((((w.alloc (.cells #[.bool n1, .slice a1 x1.length k1, .slice o1 y1.length l1] 24)).alloc (.cells #[.bool n2, .slice a2 x2.length k2, .slice o2 y2.length l2] 24)).alloc (.cells #[.bool n3, .slice a3 x3.length k3, .slice o3 y3.length l3] 24)).alloc (.cells #[.bool n4, .slice a4 x4.length k4, .slice o4 y4.length l4] 24)) 24 #[.bool false, .slice none 0 0, .slice none 0 0]
    rw [show ((((w.alloc (.cells #[.bool n1, .slice a1 x1.length k1, .slice o1 y1.length l1] 24)).alloc (.cells #[.bool n2, .slice a2 x2.length k2, .slice o2 y2.length l2] 24)).alloc (.cells #[.bool n3, .slice a3 x3.length k3, .slice o3 y3.length l3] 24)).alloc (.cells #[.bool n4, .slice a4 x4.length k4, .slice o4 y4.length l4] 24)).heap.size = w.heap.size + 1 + 1 + 1 + 1 by simp] at h
    rw [hX] at h
    exact h
  have HM1 : Hid (∀ V, Below X.heap.size X V → Calls Tryz.prog 60 #[.agg #[.bool n1, .slice a1 x1.length k1, .slice o1 y1.length l1], .agg #[.bool n2, .slice a2 x2.length k2, .slice o2 y2.length l2]] V (RTold V (rboth n1 x1 y1 n2 x2 y2) (rq n1 x1 y1 * rq n2 x2 y2))) := fun V hv => dMul_full n1 a1 k1 x1 o1 l1 y1 n2 a2 k2 x2 o2 l2 y2 V ((s1.1.later b1).later hv) ((s1.2.later b1).later hv) ((s2.1.later b1).later hv) ((s2.2.later b1).later hv) h1.1 h1.2 h2.1 h2.2
  have HM2 : Hid (∀ V, Below X.heap.size X V → Calls Tryz.prog 60 #[.agg #[.bool n3, .slice a3 x3.length k3, .slice o3 y3.length l3], .agg #[.bool n4, .slice a4 x4.length k4, .slice o4 y4.length l4]] V (RTold V (rboth n3 x3 y3 n4 x4 y4) (rq n3 x3 y3 * rq n4 x4 y4))) := fun V hv => dMul_full n3 a3 k3 x3 o3 l3 y3 n4 a4 k4 x4 o4 l4 y4 V ((s3.1.later b1).later hv) ((s3.2.later b1).later hv) ((s4.1.later b1).later hv) ((s4.2.later b1).later hv) h3.1 h3.2 h4.1 h4.2
  have HB := hid b1
  have hwX : w.heap.size + 1 + 1 + 1 + 1 < X.heap.size := HB4.out.lt
  clear s1 s2 s3 s4 h1 h2 h3 h4 b1
  have p0 : X.cell? ⟨w.heap.size, 0, none⟩ = some (.bool n1) := HB0.out.cell 0
  have p1 : X.cell? ⟨w.heap.size, 1, none⟩ = some (.slice a1 x1.length k1) := HB0.out.cell 1
  have p2 : X.cell? ⟨w.heap.size, 2, none⟩ = some (.slice o1 y1.length l1) := HB0.out.cell 2
  have q0 : X.cell? ⟨w.heap.size + 1, 0, none⟩ = some (.bool n2) := HB1.out.cell 0
  have q1 : X.cell? ⟨w.heap.size + 1, 1, none⟩ = some (.slice a2 x2.length k2) := HB1.out.cell 1
  have q2 : X.cell? ⟨w.heap.size + 1, 2, none⟩ = some (.slice o2 y2.length l2) := HB1.out.cell 2
  generalize rboth n1 x1 y1 n2 x2 y2 = E1 at *
  generalize rboth n3 x3 y3 n4 x4 y4 = E2 at *
  generalize (rq n1 x1 y1 * rq n2 x2 y2) = Q1 at *
  generalize (rq n3 x3 y3 * rq n4 x4 y4) = Q2 at *
  go_enter Tryz.func39, Tryz.ntmps39
  go_wp2_with fail
  clear hX
  refine Calls.mono (HM1.out X (Below.refl _ _)) ?_
  rintro x w1 ⟨m1, v, u1, u, z1, c1, rfl, ov1, ou1, ht1, hb1⟩
  obtain ⟨av1, cv1, rfl⟩ := own_slice' ov1
  obtain ⟨au1, cu1, rfl⟩ := own_slice' ou1
  have HV1 := hid ov1
  have HU1 := hid ou1
  have HT1 := hid ht1
  have HW1 := hid hb1
  clear ov1 ou1 ht1 hb1 HM1
  clear p0 p1 p2 q0 q1 q2
  have HN := hid (Box.made w1 24 #[.bool m1, .slice av1 u1.length cv1, .slice au1 z1.length cu1])
  have HNB := hid (alloc_later w1 (.cells #[.bool m1, .slice av1 u1.length cv1, .slice au1 z1.length cu1] 24))
  obtain ⟨Z, hZ⟩ : ∃ Z, w1.alloc (.cells #[.bool m1, .slice av1 u1.length cv1, .slice au1 z1.length cu1] 24) = Z := ⟨_, rfl⟩
  rw [hZ] at HN HNB
  have HWZ := hid (bt HW1.out HNB.out)
  by_cases hc1 : c1 = 0
  · subst hc1
    have p0 : Z.cell? ⟨w.heap.size + 1 + 1, 0, none⟩ = some (.bool n3) := (HB2.out.later HWZ.out HB2.out.lt).cell 0
    have p1 : Z.cell? ⟨w.heap.size + 1 + 1, 1, none⟩ = some (.slice a3 x3.length k3) := (HB2.out.later HWZ.out HB2.out.lt).cell 1
    have p2 : Z.cell? ⟨w.heap.size + 1 + 1, 2, none⟩ = some (.slice o3 y3.length l3) := (HB2.out.later HWZ.out HB2.out.lt).cell 2
    have q0 : Z.cell? ⟨w.heap.size + 1 + 1 + 1, 0, none⟩ = some (.bool n4) := (HB3.out.later HWZ.out HB3.out.lt).cell 0
    have q1 : Z.cell? ⟨w.heap.size + 1 + 1 + 1, 1, none⟩ = some (.slice a4 x4.length k4) := (HB3.out.later HWZ.out HB3.out.lt).cell 1
    have q2 : Z.cell? ⟨w.heap.size + 1 + 1 + 1, 2, none⟩ = some (.slice o4 y4.length l4) := (HB3.out.later HWZ.out HB3.out.lt).cell 2
    go_wp2_with fail
    clear hZ
    refine Calls.mono (HM2.out Z HWZ.out) ?_
    rintro x w2 ⟨m2, v, u2, u, z2, c2, rfl, ov2, ou2, ht2, hb2⟩
    obtain ⟨av2, cv2, rfl⟩ := own_slice' ov2
    obtain ⟨au2, cu2, rfl⟩ := own_slice' ou2
    have HV2 := hid ov2
    have HU2 := hid ou2
    have HT2 := hid ht2
    have HB2' := hid hb2
    have HW2 := hid (bt HWZ.out hb2)
    clear ov2 ou2 ht2 hb2 HM2
    clear p0 p1 p2 q0 q1 q2
    have HM := hid (Box.made w2 24 #[.bool m2, .slice av2 u2.length cv2, .slice au2 z2.length cu2])
    have HMB := hid (alloc_later w2 (.cells #[.bool m2, .slice av2 u2.length cv2, .slice au2 z2.length cu2] 24))
    obtain ⟨Q, hQ⟩ : ∃ Q, w2.alloc (.cells #[.bool m2, .slice av2 u2.length cv2, .slice au2 z2.length cu2] 24) = Q := ⟨_, rfl⟩
    rw [hQ] at HM HMB
    have HWQ := hid (bt HW2.out HMB.out)
    have HNQ := hid (HN.out.later (bt HB2'.out HMB.out) HN.out.lt)
    by_cases hc2 : c2 = 0
    · subst hc2
      have HO := hid (dAdd_full m1 av1 cv1 u1 au1 cu1 z1 m2 av2 cv2 u2 au2 cu2 z2 Q ((Sl.own HV1.out HT1.out.wx).later (bt HNB.out (bt HB2'.out HMB.out))) ((Sl.own HU1.out HT1.out.wy).later (bt HNB.out (bt HB2'.out HMB.out))) ((Sl.own HV2.out HT2.out.wx).later HMB.out) ((Sl.own HU2.out HT2.out.wy).later HMB.out) (kp_len HT1.out) (kp_len2 HT1.out) (kp_len HT2.out) (kp_len2 HT2.out))
      have d0 : Q.cell? ⟨w1.heap.size, 0, none⟩ = some (.bool m1) := HNQ.out.cell 0
      have d1 : Q.cell? ⟨w1.heap.size, 1, none⟩ = some (.slice av1 u1.length cv1) := HNQ.out.cell 1
      have d2 : Q.cell? ⟨w1.heap.size, 2, none⟩ = some (.slice au1 z1.length cu1) := HNQ.out.cell 2
      have e0 : Q.cell? ⟨w2.heap.size, 0, none⟩ = some (.bool m2) := HM.out.cell 0
      have e1 : Q.cell? ⟨w2.heap.size, 1, none⟩ = some (.slice av2 u2.length cv2) := HM.out.cell 1
      have e2 : Q.cell? ⟨w2.heap.size, 2, none⟩ = some (.slice au2 z2.length cu2) := HM.out.cell 2
      go_wp2_with fail
      clear hQ
      refine Calls.mono HO.out ?_
      rintro x w3 ⟨m3, v, u3, u, z3, c3, rfl, ov3, ou3, ht3, hb3⟩
      obtain ⟨av3, cv3, rfl⟩ := own_slice' ov3
      obtain ⟨au3, cu3, rfl⟩ := own_slice' ou3
      have HV3 := hid ov3
      have HU3 := hid ou3
      have HT3 := hid ht3
      have HW3 := hid (bt HWQ.out hb3)
      have hXQ : X.heap.size ≤ Q.heap.size := HWQ.out.size
      clear ov3 ou3 ht3 hb3 HO d0 d1 d2 e0 e1 e2
      have HRQ := hid (HB4.out.later HW3.out HB4.out.lt)
      have f0 := HRQ.out.free 0
      have f1 := HRQ.out.free 1
      have f2 := HRQ.out.free 2
      have r0_ : w3.cell? ⟨w.heap.size + 1 + 1 + 1 + 1, 0, none⟩ = some (.bool false) := HRQ.out.cell 0
      have r1_ : w3.cell? ⟨w.heap.size + 1 + 1 + 1 + 1, 1, none⟩ = some (.slice none 0 0) := HRQ.out.cell 1
      have r2_ : w3.cell? ⟨w.heap.size + 1 + 1 + 1 + 1, 2, none⟩ = some (.slice none 0 0) := HRQ.out.cell 2
      go_wp2_with fail
      have B1 := box_put3 HRQ.out (.bool m3) (.slice av3 u3.length cv3) (.slice au3 z3.length cu3)
      have G1 := below_put3 (bt HB.out HW3.out) (w.heap.size + 1 + 1 + 1 + 1) (by omega) (.bool m3) (.slice av3 u3.length cv3) (.slice au3 z3.length cu3)
      clear r0_ r1_ r2_ f0 f1 f2
      refine bodyPost_ret (gresr_run (by rfl) B1 _ rfl) rfl ?_
      have P1 := own_put3' HV3.out (w.heap.size + 1 + 1 + 1 + 1) (fun g hg => by have := (HV3.out.lt g hg).1; omega) (.bool m3) (.slice av3 u3.length cv3) (.slice au3 z3.length cu3)
      have P2 := own_put3' HU3.out (w.heap.size + 1 + 1 + 1 + 1) (fun g hg => by have := (HU3.out.lt g hg).1; omega) (.bool m3) (.slice av3 u3.length cv3) (.slice au3 z3.length cu3)
      exact ⟨m3, av3, cv3, u3, au3, cu3, z3, c3, rfl, ⟨owns_base P1 (by omega), owns_base P2 (by omega)⟩, ⟨HT3.out.wx, HT3.out.wy⟩, ⟨m1, u1, z1, 0, m2, u2, z2, 0, by rw [fstE_zero]; exact HT1.out, by rw [fstE_zero]; exact HT2.out, by rw [fstE_zero]; exact HT3.out⟩, G1⟩
    · have hc' : (c2 != 0) = true := by simpa using hc2
      have HC2 := hid hc2
      clear hc2
      have HRQ := hid (HB4.out.later HWQ.out HB4.out.lt)
      have f0 := HRQ.out.free 0
      have f1 := HRQ.out.free 1
      have f2 := HRQ.out.free 2
      have r0_ : Q.cell? ⟨w.heap.size + 1 + 1 + 1 + 1, 0, none⟩ = some (.bool false) := HRQ.out.cell 0
      have r1_ : Q.cell? ⟨w.heap.size + 1 + 1 + 1 + 1, 1, none⟩ = some (.slice none 0 0) := HRQ.out.cell 1
      have r2_ : Q.cell? ⟨w.heap.size + 1 + 1 + 1 + 1, 2, none⟩ = some (.slice none 0 0) := HRQ.out.cell 2
      go_wp2_with fail
      have B1 := box_put3 HRQ.out (.bool false) (.slice none 0 0) (.slice none 0 0)
      have G1 := below_put3 (bt HB.out HWQ.out) (w.heap.size + 1 + 1 + 1 + 1) (by omega) (.bool false) (.slice none 0 0) (.slice none 0 0)
      clear r0_ r1_ r2_ f0 f1 f2
      refine bodyPost_ret (gresr_run (by rfl) B1 _ rfl) rfl ?_
      exact ⟨false, none, 0, [], none, 0, [], c2, rfl, ⟨World.ownsRow_nil _ _ _ _, World.ownsRow_nil _ _ _ _⟩, ⟨Wd.nil, Wd.nil⟩, PrT.err2 HT1.out HT2.out HC2.out, G1⟩
  · have hc' : (c1 != 0) = true := by simpa using hc1
    have HC1 := hid hc1
    clear hc1
    have HRQ := hid (HB4.out.later HWZ.out HB4.out.lt)
    have f0 := HRQ.out.free 0
    have f1 := HRQ.out.free 1
    have f2 := HRQ.out.free 2
    have r0_ : Z.cell? ⟨w.heap.size + 1 + 1 + 1 + 1, 0, none⟩ = some (.bool false) := HRQ.out.cell 0
    have r1_ : Z.cell? ⟨w.heap.size + 1 + 1 + 1 + 1, 1, none⟩ = some (.slice none 0 0) := HRQ.out.cell 1
    have r2_ : Z.cell? ⟨w.heap.size + 1 + 1 + 1 + 1, 2, none⟩ = some (.slice none 0 0) := HRQ.out.cell 2
    go_wp2_with fail
    have B1 := box_put3 HRQ.out (.bool false) (.slice none 0 0) (.slice none 0 0)
    have G1 := below_put3 (bt HB.out HWZ.out) (w.heap.size + 1 + 1 + 1 + 1) (by omega) (.bool false) (.slice none 0 0) (.slice none 0 0)
    clear r0_ r1_ r2_ f0 f1 f2
    refine bodyPost_ret (gresr_run (by rfl) B1 _ rfl) rfl ?_
    exact ⟨false, none, 0, [], none, 0, [], c1, rfl, ⟨World.ownsRow_nil _ _ _ _, World.ownsRow_nil _ _ _ _⟩, ⟨Wd.nil, Wd.nil⟩, PrT.err1 HT1.out HC1.out, G1⟩

end Go.Proofs.YtopogjfmocpeaaaGreat

/- Fractions: Same, Sign; slices.Equal of words. -/
namespace Go.Proofs.YtopogjfmocpeaaaGreat
open Go.RowKit
set_option linter.unusedVariables false

set_option maxHeartbeats 800000 in
set_option maxRecDepth 100000 in
theorem slEqual_any (a : Option Addr) (n cap : Nat) (xs : List Int) (b : Option Addr) (m cap' : Nat) (ys : List Int) (w : World) (h : Reads w w.heap.size a n cap xs) (g : Reads w w.heap.size b m cap' ys) (hn : n ≤ 281474976710656) (hm : m ≤ 281474976710656) :
    Calls Tryz.prog 54 #[.slice a n cap, .slice b m cap'] w fun e w' => e = .returned (.bool (decide (xs = ys))) ∧ Below w.heap.size w w' := by
  obtain ⟨hl, hw, hc, hcap⟩ := h
  obtain ⟨gl, gw, gc, gcap⟩ := g
  by_cases hnm : n = m
  · subst hnm
    have htt : ((n : Int) != (n : Int)) = false := by simp
    rcases hc with h0 | ⟨b1, o1, rfl, hb1, hc⟩
    · subst h0
      have hx : xs = [] := List.eq_nil_of_length_eq_zero hl
      have hy : ys = [] := List.eq_nil_of_length_eq_zero gl
      subst hx; subst hy
      go_enter Tryz.func54, Tryz.ntmps54
      go_wp2
      refine wp_loop_rounds 1 ?_
      rw [rounds_succ]
      go_wp2
      go_ret
      exact ⟨rfl, Below.refl _ _⟩
    · rcases gc with g0 | ⟨b2, o2, rfl, hb2, gc⟩
      · subst g0
        have hx : xs = [] := List.eq_nil_of_length_eq_zero hl
        have hy : ys = [] := List.eq_nil_of_length_eq_zero gl
        subst hx; subst hy
        go_enter Tryz.func54, Tryz.ntmps54
        go_wp2
        refine wp_loop_rounds 1 ?_
        rw [rounds_succ]
        go_wp2
        go_ret
        exact ⟨rfl, Below.refl _ _⟩
      · have HL : Hid (xs.length = n ∧ ys.length = n) := ⟨hl, gl⟩
        clear hl gl
        go_enter Tryz.func54, Tryz.ntmps54
        go_wp2
        go_loopw [13] (fun t wr => ∃ k : Nat, k ≤ n ∧ t = .int .i64 k ∧ xs.take k = ys.take k ∧ Below w.heap.size w wr) (fun t _ => n - (intOf t).toNat)
        case atStart => exact ⟨0, Nat.zero_le _, rfl, rfl, Below.refl _ _⟩
        case round =>
          obtain ⟨k, hk, rfl, hs, hbel⟩ := hrel
          have HS : Hid (xs.take k = ys.take k) := hs
          clear hs
          by_cases hlt : k < n
          · have hcx : wr.cell? ⟨b1, o1 + k, none⟩ = some (.int .u32 (xs[k]?.getD 0)) := (hbel.cell (p := ⟨b1, o1 + k, none⟩) hb1).trans (hc k hlt)
            have hcy : wr.cell? ⟨b2, o2 + k, none⟩ = some (.int .u32 (ys[k]?.getD 0)) := (hbel.cell (p := ⟨b2, o2 + k, none⟩) hb2).trans (gc k hlt)
            by_cases he : xs[k]?.getD 0 = ys[k]?.getD 0
            · have hne : (xs[k]?.getD 0 != ys[k]?.getD 0) = false := by simp [he]
              have HE : Hid (xs[k]?.getD 0 = ys[k]?.getD 0) := he
              clear he
              go_wp2
              go_region

              all_goals go_wp2

              all_goals
                go_roundw
                case rel => exact ⟨k + 1, by omega, by go_num, take_same HS.out (by have := HL.out; omega) (by have := HL.out; omega) HE.out, hbel.drew⟩
                case measure => simp [intOf]; omega
            · have hne : (xs[k]?.getD 0 != ys[k]?.getD 0) = true := by simp [he]
              have HE : Hid (¬ xs[k]?.getD 0 = ys[k]?.getD 0) := he
              clear he
              go_wp2
              go_region
              all_goals go_wp2
              all_goals
                go_ret
                exact ⟨ret_bool (decide_eq_false fun e => HE.out (by rw [e])).symm, hbel.drew⟩
          · have hkn : k = n := by omega
            subst hkn
            go_wp2
            go_ret
            exact ⟨ret_bool (decide_eq_true (by have := HS.out; have hl := HL.out; rwa [List.take_of_length_le (by omega), List.take_of_length_le (by omega)] at this)).symm, hbel⟩
  · have hne : ((n : Int) != (m : Int)) = true := by simp; omega
    have hd : decide (xs = ys) = false := decide_eq_false fun e => hnm (by rw [← hl, ← gl, e])
    have HD : Hid (decide (xs = ys) = false) := hd
    clear hd hc gc
    go_enter Tryz.func54, Tryz.ntmps54
    go_wp2
    go_ret
    exact ⟨ret_bool HD.out.symm, Below.refl _ _⟩

theorem slEqual_sl (v u : Value) (xs ys : List Int) (w : World) (h : Sl w v xs) (g : Sl w u ys) (hn : xs.length ≤ 281474976710656) (hm : ys.length ≤ 281474976710656) :
    Calls Tryz.prog 54 #[v, u] w fun e w' => e = .returned (.bool (decide (xs = ys))) ∧ Below w.heap.size w w' := by
  obtain ⟨a, ca, rfl, hr⟩ := h
  obtain ⟨b, cb, rfl, gr⟩ := g
  exact slEqual_any a _ ca xs b _ cb ys w hr gr hn hm

set_option maxHeartbeats 1600000 in
set_option maxRecDepth 100000 in
theorem rSame_any (n : Bool) (a : Option Addr) (ca : Nat) (xs : List Int) (b : Option Addr) (cb : Nat) (ys : List Int) (m : Bool) (c : Option Addr) (cc : Nat) (us : List Int) (d : Option Addr) (cd : Nat) (vs : List Int) (w : World) (sx : Sl w (.slice a xs.length ca) xs) (sy : Sl w (.slice b ys.length cb) ys) (su : Sl w (.slice c us.length cc) us) (sv : Sl w (.slice d vs.length cd) vs) (lx : xs.length ≤ 281474976710656) (ly : ys.length ≤ 281474976710656) (lu : us.length ≤ 281474976710656) (lv : vs.length ≤ 281474976710656) :
    Calls Tryz.prog 29 #[.agg #[.bool n, .slice a xs.length ca, .slice b ys.length cb], .agg #[.bool m, .slice c us.length cc, .slice d vs.length cd]] w fun e w' => e = .returned (.bool (decide (n = m ∧ xs = us ∧ ys = vs))) ∧ Below w.heap.size w w' := by
  have HB : Hid (Below w.heap.size w ((w.alloc (.cells #[.bool n, .slice a xs.length ca, .slice b ys.length cb] 24)).alloc (.cells #[.bool m, .slice c us.length cc, .slice d vs.length cd] 24))) := bt (alloc_later _ _) (alloc_later _ _)
  have HN : Hid (Box ((w.alloc (.cells #[.bool n, .slice a xs.length ca, .slice b ys.length cb] 24)).alloc (.cells #[.bool m, .slice c us.length cc, .slice d vs.length cd] 24)) w.heap.size 24 #[.bool n, .slice a xs.length ca, .slice b ys.length cb]) := Box.later (Box.made w _ _) (alloc_later _ _) (by simp)
  have HM : Hid (Box ((w.alloc (.cells #[.bool n, .slice a xs.length ca, .slice b ys.length cb] 24)).alloc (.cells #[.bool m, .slice c us.length cc, .slice d vs.length cd] 24)) (w.heap.size + 1) 24 #[.bool m, .slice c us.length cc, .slice d vs.length cd]) := by
    have e := Box.made (w.alloc (.cells #[.bool n, .slice a xs.length ca, .slice b ys.length cb] 24)) 24 #[.bool m, .slice c us.length cc, .slice d vs.length cd]
    simp at e
    exact e
  have H1 := hid (slEqual_sl _ _ xs us ((w.alloc (.cells #[.bool n, .slice a xs.length ca, .slice b ys.length cb] 24)).alloc (.cells #[.bool m, .slice c us.length cc, .slice d vs.length cd] 24)) (sx.later HB.out) (su.later HB.out) lx lu)
  have H2 := hid (fun ww (hb : Below ((w.alloc (.cells #[.bool n, .slice a xs.length ca, .slice b ys.length cb] 24)).alloc (.cells #[.bool m, .slice c us.length cc, .slice d vs.length cd] 24)).heap.size ((w.alloc (.cells #[.bool n, .slice a xs.length ca, .slice b ys.length cb] 24)).alloc (.cells #[.bool m, .slice c us.length cc, .slice d vs.length cd] 24)) ww) => slEqual_sl _ _ ys vs ww ((sy.later HB.out).later hb) ((sv.later HB.out).later hb) ly lv)
  clear sx sy su sv
  by_cases h0 : n = m
  · subst h0
    have hbb : (n == n) = true := by simp
    by_cases h1 : xs = us
    · have HR : Hid (decide (n = n ∧ xs = us ∧ ys = vs) = decide (ys = vs)) := by show _ = _; simp [h1]
      rw [decide_eq_true h1] at H1
      rw [HR.out]
      clear h1
      go_enter Tryz.func29, Tryz.ntmps29
      go_wp2_with fail
      refine Calls.mono H1.out ?_
      generalize ((w.alloc (.cells #[.bool n, .slice a xs.length ca, .slice b ys.length cb] 24)).alloc (.cells #[.bool n, .slice c us.length cc, .slice d vs.length cd] 24)) = X at *
      rintro e w1 ⟨rfl, hb1⟩
      obtain ⟨p0, p1, p2, _⟩ := res_box3 HN.out hb1
      obtain ⟨q0, q1, q2, _⟩ := res_box3 HM.out hb1
      have HC := hid (H2.out w1 hb1)
      have HB1 := hid (bt HB.out hb1)
      clear hb1 H1 H2
      go_wp2_with fail
      refine Calls.mono HC.out ?_
      rintro e w2 ⟨rfl, hb2⟩
      have HBN := hid (bt HB1.out hb2)
      clear hb2 HC
      go_wp2_with fail
      go_ret
      exact ⟨rfl, HBN.out⟩
    · have HR : Hid (decide (n = n ∧ xs = us ∧ ys = vs) = false) := decide_eq_false (fun h => h1 h.2.1)
      rw [decide_eq_false h1] at H1
      rw [HR.out]
      clear h1
      go_enter Tryz.func29, Tryz.ntmps29
      go_wp2_with fail
      refine Calls.mono H1.out ?_
      rintro e w1 ⟨rfl, hb1⟩
      have HBN := hid (bt HB.out hb1)
      clear hb1 H1 H2
      go_wp2_with fail
      go_ret
      exact ⟨rfl, HBN.out⟩
  · have HR : Hid (decide (n = m ∧ xs = us ∧ ys = vs) = false) := decide_eq_false (fun h => h0 h.1)
    have hbb : (n == m) = false := by simp [h0]
    rw [HR.out]
    clear h0
    go_enter Tryz.func29, Tryz.ntmps29
    go_wp2_with fail
    go_ret
    exact ⟨rfl, HB.out⟩
end Go.Proofs.YtopogjfmocpeaaaGreat

/- The document's own fractions: Sign, Same. -/
namespace Go.Proofs.YtopogjfmocpeaaaGreat
open Go.RowKit
set_option linter.unusedVariables false

set_option maxHeartbeats 1600000 in
set_option maxRecDepth 100000 in
theorem dSame_any (n : Bool) (a : Option Addr) (ca : Nat) (xs : List Int) (b : Option Addr) (cb : Nat) (ys : List Int) (m : Bool) (c : Option Addr) (cc : Nat) (us : List Int) (d : Option Addr) (cd : Nat) (vs : List Int) (w : World) (sx : Sl w (.slice a xs.length ca) xs) (sy : Sl w (.slice b ys.length cb) ys) (su : Sl w (.slice c us.length cc) us) (sv : Sl w (.slice d vs.length cd) vs) (lx : xs.length ≤ 281474976710656) (ly : ys.length ≤ 281474976710656) (lu : us.length ≤ 281474976710656) (lv : vs.length ≤ 281474976710656) :
    Calls Tryz.prog 31 #[.agg #[.bool n, .slice a xs.length ca, .slice b ys.length cb], .agg #[.bool m, .slice c us.length cc, .slice d vs.length cd]] w fun e w' => e = .returned (.bool (decide (n = m ∧ xs = us ∧ ys = vs))) ∧ Below w.heap.size w w' := by
  have HB : Hid (Below w.heap.size w ((w.alloc (.cells #[.bool n, .slice a xs.length ca, .slice b ys.length cb] 24)).alloc (.cells #[.bool m, .slice c us.length cc, .slice d vs.length cd] 24))) := bt (alloc_later _ _) (alloc_later _ _)
  have HN : Hid (Box ((w.alloc (.cells #[.bool n, .slice a xs.length ca, .slice b ys.length cb] 24)).alloc (.cells #[.bool m, .slice c us.length cc, .slice d vs.length cd] 24)) w.heap.size 24 #[.bool n, .slice a xs.length ca, .slice b ys.length cb]) := Box.later (Box.made w _ _) (alloc_later _ _) (by simp)
  have HM : Hid (Box ((w.alloc (.cells #[.bool n, .slice a xs.length ca, .slice b ys.length cb] 24)).alloc (.cells #[.bool m, .slice c us.length cc, .slice d vs.length cd] 24)) (w.heap.size + 1) 24 #[.bool m, .slice c us.length cc, .slice d vs.length cd]) := by
    have e := Box.made (w.alloc (.cells #[.bool n, .slice a xs.length ca, .slice b ys.length cb] 24)) 24 #[.bool m, .slice c us.length cc, .slice d vs.length cd]
    simp at e
    exact e
  have H1 := hid (same3_sl _ _ xs us ((w.alloc (.cells #[.bool n, .slice a xs.length ca, .slice b ys.length cb] 24)).alloc (.cells #[.bool m, .slice c us.length cc, .slice d vs.length cd] 24)) (sx.later HB.out) (su.later HB.out) lx lu)
  have H2 := hid (fun ww (hb : Below ((w.alloc (.cells #[.bool n, .slice a xs.length ca, .slice b ys.length cb] 24)).alloc (.cells #[.bool m, .slice c us.length cc, .slice d vs.length cd] 24)).heap.size ((w.alloc (.cells #[.bool n, .slice a xs.length ca, .slice b ys.length cb] 24)).alloc (.cells #[.bool m, .slice c us.length cc, .slice d vs.length cd] 24)) ww) => same3_sl _ _ ys vs ww ((sy.later HB.out).later hb) ((sv.later HB.out).later hb) ly lv)
  clear sx sy su sv
  by_cases h0 : n = m
  · subst h0
    have hbb : (n == n) = true := by simp
    by_cases h1 : xs = us
    · have HR : Hid (decide (n = n ∧ xs = us ∧ ys = vs) = decide (ys = vs)) := by show _ = _; simp [h1]
      rw [decide_eq_true h1] at H1
      rw [HR.out]
      clear h1
      go_enter Tryz.func31, Tryz.ntmps31
      go_wp2_with fail
      refine Calls.mono H1.out ?_
      generalize ((w.alloc (.cells #[.bool n, .slice a xs.length ca, .slice b ys.length cb] 24)).alloc (.cells #[.bool n, .slice c us.length cc, .slice d vs.length cd] 24)) = X at *
      rintro e w1 ⟨rfl, hb1⟩
      obtain ⟨p0, p1, p2, _⟩ := res_box3 HN.out hb1
      obtain ⟨q0, q1, q2, _⟩ := res_box3 HM.out hb1
      have HC := hid (H2.out w1 hb1)
      have HB1 := hid (bt HB.out hb1)
      clear hb1 H1 H2
      go_wp2_with fail
      refine Calls.mono HC.out ?_
      rintro e w2 ⟨rfl, hb2⟩
      have HBN := hid (bt HB1.out hb2)
      clear hb2 HC
      go_wp2_with fail
      go_ret
      exact ⟨rfl, HBN.out⟩
    · have HR : Hid (decide (n = n ∧ xs = us ∧ ys = vs) = false) := decide_eq_false (fun h => h1 h.2.1)
      rw [decide_eq_false h1] at H1
      rw [HR.out]
      clear h1
      go_enter Tryz.func31, Tryz.ntmps31
      go_wp2_with fail
      refine Calls.mono H1.out ?_
      rintro e w1 ⟨rfl, hb1⟩
      have HBN := hid (bt HB.out hb1)
      clear hb1 H1 H2
      go_wp2_with fail
      go_ret
      exact ⟨rfl, HBN.out⟩
  · have HR : Hid (decide (n = m ∧ xs = us ∧ ys = vs) = false) := decide_eq_false (fun h => h0 h.1)
    have hbb : (n == m) = false := by simp [h0]
    rw [HR.out]
    clear h0
    go_enter Tryz.func31, Tryz.ntmps31
    go_wp2_with fail
    go_ret
    exact ⟨rfl, HB.out⟩
end Go.Proofs.YtopogjfmocpeaaaGreat

/- Complex fractions: isNought: of any. -/
namespace Go.Proofs.YtopogjfmocpeaaaGreat
open Go.RowKit
set_option linter.unusedVariables false

set_option maxHeartbeats 1600000 in
set_option maxRecDepth 100000 in
theorem gisNought_any (n : Bool) (a : Option Addr) (la ca : Nat) (b : Option Addr) (lb cb : Nat) (m : Bool) (c : Option Addr) (lc cc : Nat) (d : Option Addr) (ld cd : Nat) (w : World) :
    Calls Tryz.prog 32 #[.agg #[.bool n, .slice a la ca, .slice b lb cb, .bool m, .slice c lc cc, .slice d ld cd]] w fun x w' => x = .returned (.bool (la == 0 && lc == 0)) ∧ Below w.heap.size w w' := by
  have HX := hid (Box.made w 26 #[.bool n, .slice a la ca, .slice b lb cb, .bool m, .slice c lc cc, .slice d ld cd])
  have HB := hid (alloc_later w (.cells #[.bool n, .slice a la ca, .slice b lb cb, .bool m, .slice c lc cc, .slice d ld cd] 26))
  obtain ⟨X, hX⟩ : ∃ X, w.alloc (.cells #[.bool n, .slice a la ca, .slice b lb cb, .bool m, .slice c lc cc, .slice d ld cd] 26) = X := ⟨_, rfl⟩
  rw [hX] at HX HB
  have c1 : X.cell? ⟨w.heap.size, 1, none⟩ = some (.slice a la ca) := HX.out.cell 1
  have c4 : X.cell? ⟨w.heap.size, 4, none⟩ = some (.slice c lc cc) := HX.out.cell 4
  by_cases h1 : la = 0
  · subst h1
    by_cases h2 : lc = 0
    · subst h2
      go_enter Tryz.func32, Tryz.ntmps32
      go_wp2_with fail
      go_ret
      exact ⟨rfl, HB.out⟩
    · have e2 : ((lc : Int) == 0) = false := by simp; omega
      have e3 : (lc == 0) = false := by simp [h2]
      go_enter Tryz.func32, Tryz.ntmps32
      go_wp2_with fail
      go_ret
      rw [e3]
      exact ⟨rfl, HB.out⟩
  · have e1 : ((la : Int) == 0) = false := by simp; omega
    have e3 : (la == 0) = false := by simp [h1]
    go_enter Tryz.func32, Tryz.ntmps32
    go_wp2_with fail
    go_ret
    rw [e3]
    exact ⟨rfl, HB.out⟩
end Go.Proofs.YtopogjfmocpeaaaGreat

/- Complex fractions: gauss.Zero: of any. -/
namespace Go.Proofs.YtopogjfmocpeaaaGreat
open Go.RowKit
set_option linter.unusedVariables false

set_option maxHeartbeats 1600000 in
set_option maxRecDepth 100000 in
theorem gZero_any (n : Bool) (a : Option Addr) (ca : Nat) (xs : List Int) (b : Option Addr) (cb : Nat) (ys : List Int) (m : Bool) (c : Option Addr) (cc : Nat) (us : List Int) (d : Option Addr) (cd : Nat) (vs : List Int) (w : World) (sx : Sl w (.slice a xs.length ca) xs) (sy : Sl w (.slice b ys.length cb) ys) (su : Sl w (.slice c us.length cc) us) (sv : Sl w (.slice d vs.length cd) vs) :
    Calls Tryz.prog 10 #[.agg #[.bool n, .slice a xs.length ca, .slice b ys.length cb, .bool m, .slice c us.length cc, .slice d vs.length cd]] w fun x w' => x = .returned (.bool ((xs.length == 0 && us.length == 0) && (gchk n xs ys m us vs == 0))) ∧ Below w.heap.size w w' := by
  have HX := hid (Box.made w 26 #[.bool n, .slice a xs.length ca, .slice b ys.length cb, .bool m, .slice c us.length cc, .slice d vs.length cd])
  have HB := hid (alloc_later w (.cells #[.bool n, .slice a xs.length ca, .slice b ys.length cb, .bool m, .slice c us.length cc, .slice d vs.length cd] 26))
  obtain ⟨X, hX⟩ : ∃ X, w.alloc (.cells #[.bool n, .slice a xs.length ca, .slice b ys.length cb, .bool m, .slice c us.length cc, .slice d vs.length cd] 26) = X := ⟨_, rfl⟩
  rw [hX] at HX HB
  have HN := hid (gisNought_any n a xs.length ca b ys.length cb m c us.length cc d vs.length cd X)
  have HC : Hid (∀ V, Below w.heap.size w V → Calls Tryz.prog 6 #[.agg #[.bool n, .slice a xs.length ca, .slice b ys.length cb, .bool m, .slice c us.length cc, .slice d vs.length cd]] V fun e w' => e = .returned (.int .i64 (gchk n xs ys m us vs)) ∧ Below V.heap.size V w') := hid (fun V hv => gcheck_any n _ xs _ ys m _ us _ vs V (sx.later hv) (sy.later hv) (su.later hv) (sv.later hv))
  clear sx sy su sv
  generalize (xs.length == 0 && us.length == 0) = z at *
  generalize gchk n xs ys m us vs = E at *
  have c0 : X.cell? ⟨w.heap.size, 0, none⟩ = some (.bool n) := HX.out.cell 0
  have c1 : X.cell? ⟨w.heap.size, 1, none⟩ = some (.slice a xs.length ca) := HX.out.cell 1
  have c2 : X.cell? ⟨w.heap.size, 2, none⟩ = some (.slice b ys.length cb) := HX.out.cell 2
  have c3 : X.cell? ⟨w.heap.size, 3, none⟩ = some (.bool m) := HX.out.cell 3
  have c4 : X.cell? ⟨w.heap.size, 4, none⟩ = some (.slice c us.length cc) := HX.out.cell 4
  have c5 : X.cell? ⟨w.heap.size, 5, none⟩ = some (.slice d vs.length cd) := HX.out.cell 5
  go_enter Tryz.func10, Tryz.ntmps10
  go_wp2_with fail
  refine Calls.mono HN.out ?_
  rintro x w1 ⟨rfl, hb1⟩
  have HW1 := hid (bt HB.out hb1)
  have HA1 := hid (HX.out.later hb1 HX.out.lt)
  clear c0 c1 c2 c3 c4 c5 hb1 HN
  cases z with
  | false =>
    go_wp2_with fail
    go_ret
    exact ⟨rfl, HW1.out⟩
  | true =>
    have c0 : w1.cell? ⟨w.heap.size, 0, none⟩ = some (.bool n) := HA1.out.cell 0
    have c1 : w1.cell? ⟨w.heap.size, 1, none⟩ = some (.slice a xs.length ca) := HA1.out.cell 1
    have c2 : w1.cell? ⟨w.heap.size, 2, none⟩ = some (.slice b ys.length cb) := HA1.out.cell 2
    have c3 : w1.cell? ⟨w.heap.size, 3, none⟩ = some (.bool m) := HA1.out.cell 3
    have c4 : w1.cell? ⟨w.heap.size, 4, none⟩ = some (.slice c us.length cc) := HA1.out.cell 4
    have c5 : w1.cell? ⟨w.heap.size, 5, none⟩ = some (.slice d vs.length cd) := HA1.out.cell 5
    go_wp2_with fail
    refine Calls.mono (HC.out _ HW1.out) ?_
    rintro x w2 ⟨rfl, hb2⟩
    have HW2 := hid (bt HW1.out hb2)
    clear c0 c1 c2 c3 c4 c5 hb2 HC
    go_wp2_with fail
    go_ret
    exact ⟨rfl, HW2.out⟩
end Go.Proofs.YtopogjfmocpeaaaGreat

/- Complex fractions: gauss.Same: of any two. -/
namespace Go.Proofs.YtopogjfmocpeaaaGreat
open Go.RowKit
set_option linter.unusedVariables false

set_option maxHeartbeats 3200000 in
set_option maxRecDepth 100000 in
theorem gSame_any (n : Bool) (a : Option Addr) (ca : Nat) (xs : List Int) (b : Option Addr) (cb : Nat) (ys : List Int) (m : Bool) (c : Option Addr) (cc : Nat) (us : List Int) (d : Option Addr) (cd : Nat) (vs : List Int) (n2 : Bool) (a2 : Option Addr) (ca2 : Nat) (xs2 : List Int) (b2' : Option Addr) (cb2 : Nat) (ys2 : List Int) (m2 : Bool) (c2 : Option Addr) (cc2 : Nat) (us2 : List Int) (d2 : Option Addr) (cd2 : Nat) (vs2 : List Int) (w : World) (sx : Sl w (.slice a xs.length ca) xs) (sy : Sl w (.slice b ys.length cb) ys) (su : Sl w (.slice c us.length cc) us) (sv : Sl w (.slice d vs.length cd) vs) (sx2 : Sl w (.slice a2 xs2.length ca2) xs2) (sy2 : Sl w (.slice b2' ys2.length cb2) ys2) (su2 : Sl w (.slice c2 us2.length cc2) us2) (sv2 : Sl w (.slice d2 vs2.length cd2) vs2) (lxs : xs.length ≤ 281474976710656) (lys : ys.length ≤ 281474976710656) (lus : us.length ≤ 281474976710656) (lvs : vs.length ≤ 281474976710656) (lxs2 : xs2.length ≤ 281474976710656) (lys2 : ys2.length ≤ 281474976710656) (lus2 : us2.length ≤ 281474976710656) (lvs2 : vs2.length ≤ 281474976710656) :
    Calls Tryz.prog 8 #[.agg #[.bool n, .slice a xs.length ca, .slice b ys.length cb, .bool m, .slice c us.length cc, .slice d vs.length cd], .agg #[.bool n2, .slice a2 xs2.length ca2, .slice b2' ys2.length cb2, .bool m2, .slice c2 us2.length cc2, .slice d2 vs2.length cd2]] w fun x w' => x = .returned (.bool ((decide (n = n2 ∧ xs = xs2 ∧ ys = ys2) && decide (m = m2 ∧ us = us2 ∧ vs = vs2)) && (gchk n xs ys m us vs == 0))) ∧ Below w.heap.size w w' := by
  have HX := hid (boxes2r w 26 #[.bool n, .slice a xs.length ca, .slice b ys.length cb, .bool m, .slice c us.length cc, .slice d vs.length cd] #[.bool n2, .slice a2 xs2.length ca2, .slice b2' ys2.length cb2, .bool m2, .slice c2 us2.length cc2, .slice d2 vs2.length cd2])
  obtain ⟨X, hX⟩ : ∃ X, (w.alloc (.cells #[.bool n, .slice a xs.length ca, .slice b ys.length cb, .bool m, .slice c us.length cc, .slice d vs.length cd] 26)).alloc (.cells #[.bool n2, .slice a2 xs2.length ca2, .slice b2' ys2.length cb2, .bool m2, .slice c2 us2.length cc2, .slice d2 vs2.length cd2] 26) = X := ⟨_, rfl⟩
  rw [hX] at HX
  have H1 : Hid (∀ V, Below w.heap.size w V → Calls Tryz.prog 29 #[.agg #[.bool n, .slice a xs.length ca, .slice b ys.length cb], .agg #[.bool n2, .slice a2 xs2.length ca2, .slice b2' ys2.length cb2]] V fun e w' => e = .returned (.bool (decide (n = n2 ∧ xs = xs2 ∧ ys = ys2))) ∧ Below V.heap.size V w') := hid (fun V hv => rSame_any n a ca xs b cb ys n2 a2 ca2 xs2 b2' cb2 ys2 V (sx.later hv) (sy.later hv) (sx2.later hv) (sy2.later hv) lxs lys lxs2 lys2)
  have H2 : Hid (∀ V, Below w.heap.size w V → Calls Tryz.prog 29 #[.agg #[.bool m, .slice c us.length cc, .slice d vs.length cd], .agg #[.bool m2, .slice c2 us2.length cc2, .slice d2 vs2.length cd2]] V fun e w' => e = .returned (.bool (decide (m = m2 ∧ us = us2 ∧ vs = vs2))) ∧ Below V.heap.size V w') := hid (fun V hv => rSame_any m c cc us d cd vs m2 c2 cc2 us2 d2 cd2 vs2 V (su.later hv) (sv.later hv) (su2.later hv) (sv2.later hv) lus lvs lus2 lvs2)
  have HC : Hid (∀ V, Below w.heap.size w V → Calls Tryz.prog 6 #[.agg #[.bool n, .slice a xs.length ca, .slice b ys.length cb, .bool m, .slice c us.length cc, .slice d vs.length cd]] V fun e w' => e = .returned (.int .i64 (gchk n xs ys m us vs)) ∧ Below V.heap.size V w') := hid (fun V hv => gcheck_any n _ xs _ ys m _ us _ vs V (sx.later hv) (sy.later hv) (su.later hv) (sv.later hv))
  clear sx sy su sv sx2 sy2 su2 sv2 lxs lys lus lvs lxs2 lys2 lus2 lvs2
  generalize decide (n = n2 ∧ xs = xs2 ∧ ys = ys2) = z1 at *
  generalize decide (m = m2 ∧ us = us2 ∧ vs = vs2) = z2 at *
  generalize gchk n xs ys m us vs = E at *
  have ka0 : X.cell? ⟨w.heap.size, 0, none⟩ = some (.bool n) := HX.out.1.cell 0
  have ka1 : X.cell? ⟨w.heap.size, 1, none⟩ = some (.slice a xs.length ca) := HX.out.1.cell 1
  have ka2 : X.cell? ⟨w.heap.size, 2, none⟩ = some (.slice b ys.length cb) := HX.out.1.cell 2
  have ka3 : X.cell? ⟨w.heap.size, 3, none⟩ = some (.bool m) := HX.out.1.cell 3
  have ka4 : X.cell? ⟨w.heap.size, 4, none⟩ = some (.slice c us.length cc) := HX.out.1.cell 4
  have ka5 : X.cell? ⟨w.heap.size, 5, none⟩ = some (.slice d vs.length cd) := HX.out.1.cell 5
  have kb0 : X.cell? ⟨w.heap.size + 1, 0, none⟩ = some (.bool n2) := HX.out.2.1.cell 0
  have kb1 : X.cell? ⟨w.heap.size + 1, 1, none⟩ = some (.slice a2 xs2.length ca2) := HX.out.2.1.cell 1
  have kb2 : X.cell? ⟨w.heap.size + 1, 2, none⟩ = some (.slice b2' ys2.length cb2) := HX.out.2.1.cell 2
  have kb3 : X.cell? ⟨w.heap.size + 1, 3, none⟩ = some (.bool m2) := HX.out.2.1.cell 3
  have kb4 : X.cell? ⟨w.heap.size + 1, 4, none⟩ = some (.slice c2 us2.length cc2) := HX.out.2.1.cell 4
  have kb5 : X.cell? ⟨w.heap.size + 1, 5, none⟩ = some (.slice d2 vs2.length cd2) := HX.out.2.1.cell 5
  go_enter Tryz.func8, Tryz.ntmps8
  go_wp2_with fail
  refine Calls.mono (H1.out _ HX.out.2.2) ?_
  rintro x w1 ⟨rfl, hb1⟩
  have HW1 := hid (bt HX.out.2.2 hb1)
  have HA1 := hid (HX.out.1.later hb1 HX.out.1.lt)
  have HB1 := hid (HX.out.2.1.later hb1 HX.out.2.1.lt)
  clear ka0 ka1 ka2 ka3 ka4 ka5 kb0 kb1 kb2 kb3 kb4 kb5 hb1 H1
  cases z1 with
  | false =>
    go_wp2_with fail
    go_ret
    exact ⟨rfl, HW1.out⟩
  | true =>
    have ka0 : w1.cell? ⟨w.heap.size, 0, none⟩ = some (.bool n) := HA1.out.cell 0
    have ka1 : w1.cell? ⟨w.heap.size, 1, none⟩ = some (.slice a xs.length ca) := HA1.out.cell 1
    have ka2 : w1.cell? ⟨w.heap.size, 2, none⟩ = some (.slice b ys.length cb) := HA1.out.cell 2
    have ka3 : w1.cell? ⟨w.heap.size, 3, none⟩ = some (.bool m) := HA1.out.cell 3
    have ka4 : w1.cell? ⟨w.heap.size, 4, none⟩ = some (.slice c us.length cc) := HA1.out.cell 4
    have ka5 : w1.cell? ⟨w.heap.size, 5, none⟩ = some (.slice d vs.length cd) := HA1.out.cell 5
    have kb0 : w1.cell? ⟨w.heap.size + 1, 0, none⟩ = some (.bool n2) := HB1.out.cell 0
    have kb1 : w1.cell? ⟨w.heap.size + 1, 1, none⟩ = some (.slice a2 xs2.length ca2) := HB1.out.cell 1
    have kb2 : w1.cell? ⟨w.heap.size + 1, 2, none⟩ = some (.slice b2' ys2.length cb2) := HB1.out.cell 2
    have kb3 : w1.cell? ⟨w.heap.size + 1, 3, none⟩ = some (.bool m2) := HB1.out.cell 3
    have kb4 : w1.cell? ⟨w.heap.size + 1, 4, none⟩ = some (.slice c2 us2.length cc2) := HB1.out.cell 4
    have kb5 : w1.cell? ⟨w.heap.size + 1, 5, none⟩ = some (.slice d2 vs2.length cd2) := HB1.out.cell 5
    go_wp2_with fail
    refine Calls.mono (H2.out _ HW1.out) ?_
    rintro x w2 ⟨rfl, hb2⟩
    have HW2 := hid (bt HW1.out hb2)
    have HA2 := hid (HA1.out.later hb2 HA1.out.lt)
    clear ka0 ka1 ka2 ka3 ka4 ka5 kb0 kb1 kb2 kb3 kb4 kb5 hb2 H2
    cases z2 with
    | false =>
      go_wp2_with fail
      go_ret
      exact ⟨rfl, HW2.out⟩
    | true =>
      have ka0 : w2.cell? ⟨w.heap.size, 0, none⟩ = some (.bool n) := HA2.out.cell 0
      have ka1 : w2.cell? ⟨w.heap.size, 1, none⟩ = some (.slice a xs.length ca) := HA2.out.cell 1
      have ka2 : w2.cell? ⟨w.heap.size, 2, none⟩ = some (.slice b ys.length cb) := HA2.out.cell 2
      have ka3 : w2.cell? ⟨w.heap.size, 3, none⟩ = some (.bool m) := HA2.out.cell 3
      have ka4 : w2.cell? ⟨w.heap.size, 4, none⟩ = some (.slice c us.length cc) := HA2.out.cell 4
      have ka5 : w2.cell? ⟨w.heap.size, 5, none⟩ = some (.slice d vs.length cd) := HA2.out.cell 5
      go_wp2_with fail
      refine Calls.mono (HC.out _ HW2.out) ?_
      rintro x w3 ⟨rfl, hb3⟩
      have HW3 := hid (bt HW2.out hb3)
      clear ka0 ka1 ka2 ka3 ka4 ka5 hb3 HC
      go_wp2_with fail
      go_ret
      exact ⟨rfl, HW3.out⟩
end Go.Proofs.YtopogjfmocpeaaaGreat

/- Complex fractions: fractionOf: of any whole number. -/
namespace Go.Proofs.YtopogjfmocpeaaaGreat
open Go.RowKit
set_option linter.unusedVariables false

set_option maxHeartbeats 1600000 in
set_option maxRecDepth 100000 in
theorem gfractionOf_any (x : Int) (w : World) (x0 : -9223372036854775808 ≤ x) (x1 : x ≤ 9223372036854775807) :
    Calls Tryz.prog 40 #[.int .i64 x] w fun e w' => ∃ n v xs u ys code, e = .returned (.agg #[.bool n, v, u]) ∧ w'.ownsRow w.heap.size 68 1 v xs.length (xs.map (Value.int .u32)) ∧ w'.ownsRow w.heap.size 68 1 u ys.length (ys.map (Value.int .u32)) ∧ RTells 0 (Rat.divInt x 1) n xs ys code ∧ Below w.heap.size w w' ∧ Cut w v u w' := by
  have HX := hid (Box.made w 24 #[.bool false, .slice none 0 0, .slice none 0 0])
  have HB := hid (alloc_later w (.cells #[.bool false, .slice none 0 0, .slice none 0 0] 24))
  obtain ⟨X, hX⟩ : ∃ X, w.alloc (.cells #[.bool false, .slice none 0 0, .slice none 0 0] 24) = X := ⟨_, rfl⟩
  rw [hX] at HX HB
  have HS : Hid (∀ V, Calls Tryz.prog 63 #[.int .i64 x, .int .i64 1] V (RToldA V 0 (Rat.divInt x 1))) := hid (fun V => rsmall_any x 1 V x0 x1 (by omega) (by omega))
  go_enter Tryz.func40, Tryz.ntmps40
  go_wp2_with fail
  refine Calls.mono (HS.out _) ?_
  rintro e w1 ⟨k, v, zs, u, ts, code, rfl, ov, ou, ht, hb1, hcut⟩
  obtain ⟨av, cv, rfl⟩ := own_slice' ov
  obtain ⟨au, cu, rfl⟩ := own_slice' ou
  have HM1 := hid (HX.out.later hb1 HX.out.lt)
  have HBB := hid (bt HB.out hb1)
  have HN := hid (Box.made w1 24 #[.bool k, .slice av zs.length cv, .slice au ts.length cu])
  have HNB := hid (alloc_later w1 (.cells #[.bool k, .slice av zs.length cv, .slice au ts.length cu] 24))
  obtain ⟨Z, hZ⟩ : ∃ Z, w1.alloc (.cells #[.bool k, .slice av zs.length cv, .slice au ts.length cu] 24) = Z := ⟨_, rfl⟩
  rw [hZ] at HN HNB
  have HMZ := hid (HM1.out.later HNB.out HM1.out.lt)
  have HOV := hid ov
  have HOU := hid ou
  have HTT := hid ht
  have HCC := hid hcut
  clear ov ou ht hcut hb1 HS x0 x1
  have k0 : Z.cell? ⟨w1.heap.size, 0, none⟩ = some (.bool k) := HN.out.cell 0
  have k1 : Z.cell? ⟨w1.heap.size, 1, none⟩ = some (.slice av zs.length cv) := HN.out.cell 1
  have k2 : Z.cell? ⟨w1.heap.size, 2, none⟩ = some (.slice au ts.length cu) := HN.out.cell 2
  have m0 : Z.cell? ⟨w.heap.size, 0, none⟩ = some (.bool false) := HMZ.out.cell 0
  have m1 : Z.cell? ⟨w.heap.size, 1, none⟩ = some (.slice none 0 0) := HMZ.out.cell 1
  have m2 : Z.cell? ⟨w.heap.size, 2, none⟩ = some (.slice none 0 0) := HMZ.out.cell 2
  have f0 := HMZ.out.free 0
  have f1 := HMZ.out.free 1
  have f2 := HMZ.out.free 2
  go_wp2_with fail
  have h3 := HX.out.lt
  have hZs : w1.heap.size ≤ Z.heap.size := HNB.out.size
  have hv : ∀ b', (Value.slice av zs.length cv).ownBlock = some b' → b' ≠ w.heap.size := fun b' hb => by have := (HOV.out.lt b' hb).1; omega
  have hu : ∀ b', (Value.slice au ts.length cu).ownBlock = some b' → b' ≠ w.heap.size := fun b' hb => by have := (HOU.out.lt b' hb).1; omega
  have B1 := box_put3 HMZ.out (.bool k) (.slice av zs.length cv) (.slice au ts.length cu)
  have V1 := own_put3' (owns_later HOV.out HNB.out) _ hv (.bool k) (.slice av zs.length cv) (.slice au ts.length cu)
  have U1 := own_put3' (owns_later HOU.out HNB.out) _ hu (.bool k) (.slice av zs.length cv) (.slice au ts.length cu)
  have G1 := below_put3 (bt HBB.out HNB.out) w.heap.size (Nat.le_refl _) (.bool k) (.slice av zs.length cv) (.slice au ts.length cu)
  have hXw : w.heap.size ≤ X.heap.size := by omega
  refine bodyPost_ret (results_cell_row (by rfl) _ _ w.heap.size 24 _ (0, 0) _ (by rfl) B1 Tryz.underlying24 rfl (by kernel_rfl)) rfl ?_
  exact ⟨k, _, zs, _, ts, code, rfl, owns_base V1 hXw, owns_base U1 hXw, HTT.out, G1, HCC.out.up hXw (by simp [World.setCell]; exact hZs)⟩
end Go.Proofs.YtopogjfmocpeaaaGreat

/- Complex fractions: gauss.Int: of any two whole numbers. -/
namespace Go.Proofs.YtopogjfmocpeaaaGreat
open Go.RowKit
set_option linter.unusedVariables false

end Go.Proofs.YtopogjfmocpeaaaGreat

/- The document's Int, both, Same of complex fractions. (tools/mkgp3.py) -/
namespace Go.Proofs.YtopogjfmocpeaaaGreat
open Go.RowKit
set_option linter.unusedVariables false

set_option maxHeartbeats 1600000 in
set_option maxRecDepth 100000 in
theorem d4Int_any (x y : Int) (w : World) (x0 : -9223372036854775808 ≤ x) (x1 : x ≤ 9223372036854775807) (y0 : -9223372036854775808 ≤ y) (y1 : y ≤ 9223372036854775807) :
    Calls Tryz.prog 19 #[.int .i64 x, .int .i64 y] w fun e w' => ∃ n a ca xs b cb ys m c cc us d cd vs c1 c2, e = .returned (.agg #[.bool n, .slice a (List.length xs) ca, .slice b (List.length ys) cb, .bool m, .slice c (List.length us) cc, .slice d (List.length vs) cd]) ∧ (Sl w' (.slice a xs.length ca) xs ∧ Sl w' (.slice b ys.length cb) ys ∧ Sl w' (.slice c us.length cc) us ∧ Sl w' (.slice d vs.length cd) vs) ∧ RTells 0 (Rat.divInt x 1) n xs ys c1 ∧ RTells 0 (Rat.divInt y 1) m us vs c2 ∧ Below w.heap.size w w' := by
  obtain ⟨X, hX⟩ : ∃ X, w.alloc (.cells #[.bool false, .slice none 0 0, .slice none 0 0, .bool false, .slice none 0 0, .slice none 0 0] 26) = X := ⟨_, rfl⟩
  have b1 : Below w.heap.size w X := by rw [← hX]; exact alloc_later _ _
  have HB0 : Hid (Box X (w.heap.size) 26 #[.bool false, .slice none 0 0, .slice none 0 0, .bool false, .slice none 0 0, .slice none 0 0]) := by
    have h := Box.made w 26 #[.bool false, .slice none 0 0, .slice none 0 0, .bool false, .slice none 0 0, .slice none 0 0]
    rw [hX] at h
    exact h
  have H1 := hid (small3_any x 1 X x0 x1 (by decide) (by decide))
  have H2 := hid (fun V => small3_any y 1 V y0 y1 (by decide) (by decide))
  rw [if_neg (by decide)] at H1
  have H2' : Hid (∀ V, Calls Tryz.prog 41 #[.int .i64 y, .int .i64 1] V (RTold V 0 (Rat.divInt y 1))) := fun V => by
    have h := H2.out V
    rw [if_neg (by decide)] at h
    exact h
  have HB := hid b1
  have hwX : w.heap.size < X.heap.size := HB0.out.lt
  clear x0 x1 y0 y1 b1 H2
  go_enter Tryz.func19, Tryz.ntmps19
  go_wp2_with fail
  clear hX
  refine Calls.mono H1.out ?_
  rintro e w2 ⟨n1, v, xs1, u, ys1, code1, rfl, ov1, ou1, ht1, hb2⟩
  obtain ⟨av1, cv1, rfl⟩ := own_slice' ov1
  obtain ⟨au1, cu1, rfl⟩ := own_slice' ou1
  have HV1 := hid ov1
  have HU1 := hid ou1
  have HT1 := hid ht1
  have HW2 := hid hb2
  clear ov1 ou1 ht1 hb2 H1
  have HN := hid (Box.made w2 24 #[.bool n1, .slice av1 xs1.length cv1, .slice au1 ys1.length cu1])
  have HNB := hid (alloc_later w2 (.cells #[.bool n1, .slice av1 xs1.length cv1, .slice au1 ys1.length cu1] 24))
  obtain ⟨Z, hZ⟩ : ∃ Z, w2.alloc (.cells #[.bool n1, .slice av1 xs1.length cv1, .slice au1 ys1.length cu1] 24) = Z := ⟨_, rfl⟩
  rw [hZ] at HN HNB
  have HWZ := hid (bt HW2.out HNB.out)
  go_wp2_with fail
  clear hZ
  refine Calls.mono (H2'.out Z) ?_
  rintro e w3 ⟨n2, v, xs2, u, ys2, code2, rfl, ov2, ou2, ht2, hb3⟩
  obtain ⟨av2, cv2, rfl⟩ := own_slice' ov2
  obtain ⟨au2, cu2, rfl⟩ := own_slice' ou2
  have HV2 := hid ov2
  have HU2 := hid ou2
  have HT2 := hid ht2
  have HB3 := hid hb3
  have HW3 := hid (bt HWZ.out hb3)
  have h1X : X.heap.size ≤ Z.heap.size := HWZ.out.size
  clear ov2 ou2 ht2 hb3 H2'
  have HM := hid (Box.made w3 24 #[.bool n2, .slice av2 xs2.length cv2, .slice au2 ys2.length cu2])
  have HMB := hid (alloc_later w3 (.cells #[.bool n2, .slice av2 xs2.length cv2, .slice au2 ys2.length cu2] 24))
  obtain ⟨Q, hQ⟩ : ∃ Q, w3.alloc (.cells #[.bool n2, .slice av2 xs2.length cv2, .slice au2 ys2.length cu2] 24) = Q := ⟨_, rfl⟩
  rw [hQ] at HM HMB
  have HWQ := hid (bt HW3.out HMB.out)
  have HRQ := hid (HB0.out.later HWQ.out HB0.out.lt)
  have HNQ := hid (HN.out.later (bt HB3.out HMB.out) HN.out.lt)
  have e0 : Q.cell? ⟨w3.heap.size, 0, none⟩ = some (.bool n2) := HM.out.cell 0
  have e1 : Q.cell? ⟨w3.heap.size, 1, none⟩ = some (.slice av2 xs2.length cv2) := HM.out.cell 1
  have e2 : Q.cell? ⟨w3.heap.size, 2, none⟩ = some (.slice au2 ys2.length cu2) := HM.out.cell 2
  have d0 : Q.cell? ⟨w2.heap.size, 0, none⟩ = some (.bool n1) := HNQ.out.cell 0
  have d1 : Q.cell? ⟨w2.heap.size, 1, none⟩ = some (.slice av1 xs1.length cv1) := HNQ.out.cell 1
  have d2 : Q.cell? ⟨w2.heap.size, 2, none⟩ = some (.slice au1 ys1.length cu1) := HNQ.out.cell 2
  have f0 := HRQ.out.free 0
  have f1 := HRQ.out.free 1
  have f2 := HRQ.out.free 2
  have f3 := HRQ.out.free 3
  have f4 := HRQ.out.free 4
  have f5 := HRQ.out.free 5
  obtain ⟨m0, m1, m2, m3, m4, m5⟩ := Kl6.of HRQ.out
  go_wp2_with fail
  have B1 := box_put6 HRQ.out (.bool n1) (.slice av1 xs1.length cv1) (.slice au1 ys1.length cu1) (.bool n2) (.slice av2 xs2.length cv2) (.slice au2 ys2.length cu2)
  have G1 := below_put6 (bt HB.out HWQ.out) w.heap.size (Nat.le_refl _) (.bool n1) (.slice av1 xs1.length cv1) (.slice au1 ys1.length cu1) (.bool n2) (.slice av2 xs2.length cv2) (.slice au2 ys2.length cu2)
  have P3 := own_put6 (owns_later HV2.out HMB.out) w.heap.size (fun g hg => by have := (HV2.out.lt g hg).1; omega) (.bool n1) (.slice av1 xs1.length cv1) (.slice au1 ys1.length cu1) (.bool n2) (.slice av2 xs2.length cv2) (.slice au2 ys2.length cu2)
  have P4 := own_put6 (owns_later HU2.out HMB.out) w.heap.size (fun g hg => by have := (HU2.out.lt g hg).1; omega) (.bool n1) (.slice av1 xs1.length cv1) (.slice au1 ys1.length cu1) (.bool n2) (.slice av2 xs2.length cv2) (.slice au2 ys2.length cu2)
  have P1 := own_put6 (owns_later (owns_later HV1.out HNB.out) (bt HB3.out HMB.out)) w.heap.size (fun g hg => by have := (HV1.out.lt g hg).1; omega) (.bool n1) (.slice av1 xs1.length cv1) (.slice au1 ys1.length cu1) (.bool n2) (.slice av2 xs2.length cv2) (.slice au2 ys2.length cu2)
  have P2 := own_put6 (owns_later (owns_later HU1.out HNB.out) (bt HB3.out HMB.out)) w.heap.size (fun g hg => by have := (HU1.out.lt g hg).1; omega) (.bool n1) (.slice av1 xs1.length cv1) (.slice au1 ys1.length cu1) (.bool n2) (.slice av2 xs2.length cv2) (.slice au2 ys2.length cu2)
  clear m0 m1 m2 m3 m4 m5 f0 f1 f2 f3 f4 f5 e0 e1 e2 d0 d1 d2
  refine bodyPost_ret (results_cell_row (by rfl) _ _ w.heap.size 26 _ (0, 0) _ (by rfl) B1 Tryz.underlying26 rfl (by kernel_rfl)) rfl ?_
  exact ⟨n1, av1, cv1, xs1, au1, cu1, ys1, n2, av2, cv2, xs2, au2, cu2, ys2, code1, code2, rfl, ⟨Sl.own P1 HT1.out.wx, Sl.own P2 HT1.out.wy, Sl.own P3 HT2.out.wx, Sl.own P4 HT2.out.wy⟩, HT1.out, HT2.out, G1⟩

set_option maxHeartbeats 800000 in
set_option maxRecDepth 100000 in
theorem d4both_any (n : Bool) (a : Option Addr) (ca : Nat) (xs : List Int) (b : Option Addr) (cb : Nat) (ys : List Int) (m : Bool) (c : Option Addr) (cc : Nat) (us : List Int) (d : Option Addr) (cd : Nat) (vs : List Int) (w : World) (sx : Sl w (.slice a xs.length ca) xs) (sy : Sl w (.slice b ys.length cb) ys) (su : Sl w (.slice c us.length cc) us) (sv : Sl w (.slice d vs.length cd) vs) (lx : xs.length ≤ 281474976710656) (ly : ys.length ≤ 281474976710656) (lu : us.length ≤ 281474976710656) (lv : vs.length ≤ 281474976710656) (n2 : Bool) (a2 : Option Addr) (ca2 : Nat) (xs2 : List Int) (b2 : Option Addr) (cb2 : Nat) (ys2 : List Int) (m2 : Bool) (c2 : Option Addr) (cc2 : Nat) (us2 : List Int) (d2 : Option Addr) (cd2 : Nat) (vs2 : List Int) (sx2 : Sl w (.slice a2 xs2.length ca2) xs2) (sy2 : Sl w (.slice b2 ys2.length cb2) ys2) (su2 : Sl w (.slice c2 us2.length cc2) us2) (sv2 : Sl w (.slice d2 vs2.length cd2) vs2) (lx2 : xs2.length ≤ 281474976710656) (ly2 : ys2.length ≤ 281474976710656) (lu2 : us2.length ≤ 281474976710656) (lv2 : vs2.length ≤ 281474976710656) :
    Calls Tryz.prog 30 #[.agg #[.bool n, .slice a xs.length ca, .slice b ys.length cb, .bool m, .slice c us.length cc, .slice d vs.length cd], .agg #[.bool n2, .slice a2 xs2.length ca2, .slice b2 ys2.length cb2, .bool m2, .slice c2 us2.length cc2, .slice d2 vs2.length cd2]] w fun x w' => x = .returned (.int .i64 (fstE (gchk n xs ys m us vs) (gchk n2 xs2 ys2 m2 us2 vs2))) ∧ Below w.heap.size w w' := by
  obtain ⟨X, hX⟩ : ∃ X, (w.alloc (.cells #[.bool n, .slice a xs.length ca, .slice b ys.length cb, .bool m, .slice c us.length cc, .slice d vs.length cd] 26)).alloc (.cells #[.bool n2, .slice a2 xs2.length ca2, .slice b2 ys2.length cb2, .bool m2, .slice c2 us2.length cc2, .slice d2 vs2.length cd2] 26) = X := ⟨_, rfl⟩
  have b1 : Below w.heap.size w X := by rw [← hX]; exact bt (alloc_later _ _) (alloc_later _ _)
  have HB0 : Hid (Box X (w.heap.size) 26 #[.bool n, .slice a xs.length ca, .slice b ys.length cb, .bool m, .slice c us.length cc, .slice d vs.length cd]) := by
    have h := Box.made w 26 #[.bool n, .slice a xs.length ca, .slice b ys.length cb, .bool m, .slice c us.length cc, .slice d vs.length cd]
    rw [← hX]
    exact h.later (alloc_later _ _) h.lt
  have HB1 : Hid (Box X (w.heap.size + 1) 26 #[.bool n2, .slice a2 xs2.length ca2, .slice b2 ys2.length cb2, .bool m2, .slice c2 us2.length cc2, .slice d2 vs2.length cd2]) := by
    have h := Box.made (w.alloc (.cells #[.bool n, .slice a xs.length ca, .slice b ys.length cb, .bool m, .slice c us.length cc, .slice d vs.length cd] 26)) 26 #[.bool n2, .slice a2 xs2.length ca2, .slice b2 ys2.length cb2, .bool m2, .slice c2 us2.length cc2, .slice d2 vs2.length cd2]
    rw [show (w.alloc (.cells #[.bool n, .slice a xs.length ca, .slice b ys.length cb, .bool m, .slice c us.length cc, .slice d vs.length cd] 26)).heap.size = w.heap.size + 1 by simp] at h
    rw [hX] at h
    exact h
  have HC1 := hid (kpcheck_any n a ca xs b cb ys m c cc us d cd vs X (sx.later b1) (sy.later b1) (su.later b1) (sv.later b1) lx ly lu lv)
  have HC2 := hid (fun V (hv : Below X.heap.size X V) => kpcheck_any n2 a2 ca2 xs2 b2 cb2 ys2 m2 c2 cc2 us2 d2 cd2 vs2 V ((sx2.later b1).later hv) ((sy2.later b1).later hv) ((su2.later b1).later hv) ((sv2.later b1).later hv) lx2 ly2 lu2 lv2)
  have HB := hid b1
  clear sx sy su sv sx2 sy2 su2 sv2 b1 lx ly lu lv lx2 ly2 lu2 lv2
  obtain ⟨k0, k1, k2, k3, k4, k5⟩ := Kl6.of HB0.out
  generalize gchk n xs ys m us vs = r at *
  generalize gchk n2 xs2 ys2 m2 us2 vs2 = r2 at *
  by_cases hz : r = 0
  · subst hz
    rw [fstE_zero]
    go_enter Tryz.func30, Tryz.ntmps30
    go_wp2_with fail
    clear hX
    refine Calls.mono HC1.out ?_
    rintro x w1 ⟨rfl, hb1⟩
    have HD := hid (HC2.out w1 hb1)
    have HW1 := hid (bt HB.out hb1)
    clear k0 k1 k2 k3 k4 k5 HC1 HC2
    obtain ⟨k0, k1, k2, k3, k4, k5⟩ := Kl6.of (HB1.out.later hb1 HB1.out.lt)
    clear hb1
    go_wp2_with fail
    refine Calls.mono HD.out ?_
    rintro x w2 ⟨rfl, hb2⟩
    have HW2 := hid (bt HW1.out hb2)
    clear hb2 HD k0 k1 k2 k3 k4 k5
    go_wp2_with fail
    go_ret
    exact ⟨rfl, HW2.out⟩
  · rw [fstE_err _ hz]
    have hz' : (r != 0) = true := by simpa using hz
    go_enter Tryz.func30, Tryz.ntmps30
    go_wp2_with fail
    clear hX
    refine Calls.mono HC1.out ?_
    rintro x w1 ⟨rfl, hb1⟩
    have HW1 := hid (bt HB.out hb1)
    clear hb1 HC1 HC2 k0 k1 k2 k3 k4 k5
    go_wp2_with fail
    go_ret
    exact ⟨rfl, HW1.out⟩

set_option maxHeartbeats 800000 in
set_option maxRecDepth 100000 in
theorem d4Same_any (n : Bool) (a : Option Addr) (ca : Nat) (xs : List Int) (b : Option Addr) (cb : Nat) (ys : List Int) (m : Bool) (c : Option Addr) (cc : Nat) (us : List Int) (d : Option Addr) (cd : Nat) (vs : List Int) (w : World) (sx : Sl w (.slice a xs.length ca) xs) (sy : Sl w (.slice b ys.length cb) ys) (su : Sl w (.slice c us.length cc) us) (sv : Sl w (.slice d vs.length cd) vs) (lx : xs.length ≤ 281474976710656) (ly : ys.length ≤ 281474976710656) (lu : us.length ≤ 281474976710656) (lv : vs.length ≤ 281474976710656) (n2 : Bool) (a2 : Option Addr) (ca2 : Nat) (xs2 : List Int) (b2 : Option Addr) (cb2 : Nat) (ys2 : List Int) (m2 : Bool) (c2 : Option Addr) (cc2 : Nat) (us2 : List Int) (d2 : Option Addr) (cd2 : Nat) (vs2 : List Int) (sx2 : Sl w (.slice a2 xs2.length ca2) xs2) (sy2 : Sl w (.slice b2 ys2.length cb2) ys2) (su2 : Sl w (.slice c2 us2.length cc2) us2) (sv2 : Sl w (.slice d2 vs2.length cd2) vs2) (lx2 : xs2.length ≤ 281474976710656) (ly2 : ys2.length ≤ 281474976710656) (lu2 : us2.length ≤ 281474976710656) (lv2 : vs2.length ≤ 281474976710656) :
    Calls Tryz.prog 9 #[.agg #[.bool n, .slice a xs.length ca, .slice b ys.length cb, .bool m, .slice c us.length cc, .slice d vs.length cd], .agg #[.bool n2, .slice a2 xs2.length ca2, .slice b2 ys2.length cb2, .bool m2, .slice c2 us2.length cc2, .slice d2 vs2.length cd2]] w fun x w' => x = .returned (.bool ((decide (n = n2 ∧ xs = xs2 ∧ ys = ys2) && decide (m = m2 ∧ us = us2 ∧ vs = vs2)) && (gchk n xs ys m us vs == 0))) ∧ Below w.heap.size w w' := by
  obtain ⟨X, hX⟩ : ∃ X, (w.alloc (.cells #[.bool n, .slice a xs.length ca, .slice b ys.length cb, .bool m, .slice c us.length cc, .slice d vs.length cd] 26)).alloc (.cells #[.bool n2, .slice a2 xs2.length ca2, .slice b2 ys2.length cb2, .bool m2, .slice c2 us2.length cc2, .slice d2 vs2.length cd2] 26) = X := ⟨_, rfl⟩
  have b1 : Below w.heap.size w X := by rw [← hX]; exact bt (alloc_later _ _) (alloc_later _ _)
  have HB0 : Hid (Box X (w.heap.size) 26 #[.bool n, .slice a xs.length ca, .slice b ys.length cb, .bool m, .slice c us.length cc, .slice d vs.length cd]) := by
    have h := Box.made w 26 #[.bool n, .slice a xs.length ca, .slice b ys.length cb, .bool m, .slice c us.length cc, .slice d vs.length cd]
    rw [← hX]
    exact h.later (alloc_later _ _) h.lt
  have HB1 : Hid (Box X (w.heap.size + 1) 26 #[.bool n2, .slice a2 xs2.length ca2, .slice b2 ys2.length cb2, .bool m2, .slice c2 us2.length cc2, .slice d2 vs2.length cd2]) := by
    have h := Box.made (w.alloc (.cells #[.bool n, .slice a xs.length ca, .slice b ys.length cb, .bool m, .slice c us.length cc, .slice d vs.length cd] 26)) 26 #[.bool n2, .slice a2 xs2.length ca2, .slice b2 ys2.length cb2, .bool m2, .slice c2 us2.length cc2, .slice d2 vs2.length cd2]
    rw [show (w.alloc (.cells #[.bool n, .slice a xs.length ca, .slice b ys.length cb, .bool m, .slice c us.length cc, .slice d vs.length cd] 26)).heap.size = w.heap.size + 1 by simp] at h
    rw [hX] at h
    exact h
  have HC := hid (d4both_any n a ca xs b cb ys m c cc us d cd vs X (sx.later b1) (sy.later b1) (su.later b1) (sv.later b1) lx ly lu lv n2 a2 ca2 xs2 b2 cb2 ys2 m2 c2 cc2 us2 d2 cd2 vs2 (sx2.later b1) (sy2.later b1) (su2.later b1) (sv2.later b1) lx2 ly2 lu2 lv2)
  have HS1 := hid (fun V (hv : Below X.heap.size X V) => dSame_any n a ca xs b cb ys n2 a2 ca2 xs2 b2 cb2 ys2 V ((sx.later b1).later hv) ((sy.later b1).later hv) ((sx2.later b1).later hv) ((sy2.later b1).later hv) lx ly lx2 ly2)
  have HS2 := hid (fun V (hv : Below X.heap.size X V) => dSame_any m c cc us d cd vs m2 c2 cc2 us2 d2 cd2 vs2 V ((su.later b1).later hv) ((sv.later b1).later hv) ((su2.later b1).later hv) ((sv2.later b1).later hv) lu lv lu2 lv2)
  have HB := hid b1
  clear sx sy su sv sx2 sy2 su2 sv2 b1 lx ly lu lv lx2 ly2 lu2 lv2
  obtain ⟨k0, k1, k2, k3, k4, k5⟩ := Kl6.of HB0.out
  obtain ⟨i0, i1, i2, i3, i4, i5⟩ := Kl6.of HB1.out
  have HRE : Hid (∀ d1 d2 : Bool, decide (n = n2 ∧ xs = xs2 ∧ ys = ys2) = d1 → decide (m = m2 ∧ us = us2 ∧ vs = vs2) = d2 → d1 = true → d2 = true → gchk n2 xs2 ys2 m2 us2 vs2 = gchk n xs ys m us vs) := fun d1 d2 h1 h2 h3 h4 => by
    rw [h3] at h1
    rw [h4] at h2
    obtain ⟨rfl, rfl, rfl⟩ := of_decide_eq_true h1
    obtain ⟨rfl, rfl, rfl⟩ := of_decide_eq_true h2
    rfl
  have HR2 := hid (HRE.out _ _ rfl rfl)
  clear HRE
  generalize decide (n = n2 ∧ xs = xs2 ∧ ys = ys2) = d1 at *
  generalize decide (m = m2 ∧ us = us2 ∧ vs = vs2) = e1 at *
  generalize gchk n xs ys m us vs = r at *
  generalize gchk n2 xs2 ys2 m2 us2 vs2 = r2 at *
  by_cases hz : fstE r r2 = 0
  · obtain ⟨h1, h2⟩ := fstE_ok hz
    subst h1
    subst h2
    rw [hz] at HC
    rw [show ((0 : Int) == 0) = true from rfl, Bool.and_true]
    clear hz HR2
    cases d1
    · rw [Bool.false_and]
      go_enter Tryz.func9, Tryz.ntmps9
      go_wp2_with fail
      clear hX
      refine Calls.mono HC.out ?_
      rintro x w1 ⟨rfl, hb1⟩
      have HD := hid (HS1.out w1 hb1)
      have HW1 := hid (bt HB.out hb1)
      clear k0 k1 k2 k3 k4 k5 i0 i1 i2 i3 i4 i5 HC HS1 HS2
      obtain ⟨k0, k1, k2, k3, k4, k5⟩ := Kl6.of (HB0.out.later hb1 HB0.out.lt)
      obtain ⟨i0, i1, i2, i3, i4, i5⟩ := Kl6.of (HB1.out.later hb1 HB1.out.lt)
      clear hb1
      go_wp2_with fail
      refine Calls.mono HD.out ?_
      rintro x w2 ⟨rfl, hb2⟩
      have HW2 := hid (bt HW1.out hb2)
      clear hb2 HD k0 k1 k2 k3 k4 k5 i0 i1 i2 i3 i4 i5
      go_wp2_with fail
      go_ret
      exact ⟨rfl, HW2.out⟩
    · rw [Bool.true_and]
      go_enter Tryz.func9, Tryz.ntmps9
      go_wp2_with fail
      clear hX
      refine Calls.mono HC.out ?_
      rintro x w1 ⟨rfl, hb1⟩
      have HD := hid (HS1.out w1 hb1)
      have HX1 := hid hb1
      have HW1 := hid (bt HB.out hb1)
      clear k0 k1 k2 k3 k4 k5 i0 i1 i2 i3 i4 i5 HC HS1
      obtain ⟨k0, k1, k2, k3, k4, k5⟩ := Kl6.of (HB0.out.later hb1 HB0.out.lt)
      obtain ⟨i0, i1, i2, i3, i4, i5⟩ := Kl6.of (HB1.out.later hb1 HB1.out.lt)
      clear hb1
      go_wp2_with fail
      refine Calls.mono HD.out ?_
      rintro x w2 ⟨rfl, hb2⟩
      have HX2 := hid (bt HX1.out hb2)
      have HE := hid (HS2.out w2 HX2.out)
      have HW2 := hid (bt HW1.out hb2)
      clear hb2 HD HS2 k0 k1 k2 k3 k4 k5 i0 i1 i2 i3 i4 i5
      obtain ⟨k0, k1, k2, k3, k4, k5⟩ := Kl6.of (HB0.out.later HX2.out HB0.out.lt)
      obtain ⟨i0, i1, i2, i3, i4, i5⟩ := Kl6.of (HB1.out.later HX2.out HB1.out.lt)
      go_wp2_with fail
      refine Calls.mono HE.out ?_
      rintro x w3 ⟨rfl, hb3⟩
      have HW3 := hid (bt HW2.out hb3)
      clear hb3 HE k0 k1 k2 k3 k4 k5 i0 i1 i2 i3 i4 i5
      go_wp2_with fail
      go_ret
      exact ⟨rfl, HW3.out⟩
  · have hz' : (fstE r r2 == 0) = false := by simpa using hz
    have HE : Hid (((d1 && e1) && (r == 0)) = false) := by
      show _ = _
      cases h : ((d1 && e1) && (r == 0))
      · rfl
      · exfalso
        have h1 : (d1 = true ∧ e1 = true) ∧ r = 0 := by simpa using h
        have h2 := HR2.out h1.1.1 h1.1.2
        apply hz
        rw [h1.2, fstE_zero, h2, h1.2]
    rw [HE.out]
    generalize fstE r r2 = s at *
    clear hz HR2 HE HS1 HS2
    go_enter Tryz.func9, Tryz.ntmps9
    go_wp2_with fail
    clear hX
    refine Calls.mono HC.out ?_
    rintro x w1 ⟨rfl, hb1⟩
    have HW1 := hid (bt HB.out hb1)
    clear hb1 HC k0 k1 k2 k3 k4 k5 i0 i1 i2 i3 i4 i5
    go_wp2_with fail
    go_ret
    exact ⟨rfl, HW1.out⟩

end Go.Proofs.YtopogjfmocpeaaaGreat

/- Complex fractions: gauss.Neg, Int, Norm: as before, and all rows told apart. (tools/mkgp1.py) -/
namespace Go.Proofs.YtopogjfmocpeaaaGreat
open Go.RowKit
set_option linter.unusedVariables false

set_option maxHeartbeats 3200000 in
set_option maxRecDepth 100000 in
theorem gNeg_cut (n : Bool) (a : Option Addr) (ca : Nat) (xs : List Int) (b : Option Addr) (cb : Nat) (ys : List Int) (m : Bool) (c : Option Addr) (cc : Nat) (us : List Int) (d : Option Addr) (cd : Nat) (vs : List Int) (w : World) (sx : Sl w (.slice a xs.length ca) xs) (sy : Sl w (.slice b ys.length cb) ys) (su : Sl w (.slice c us.length cc) us) (sv : Sl w (.slice d vs.length cd) vs) :
    Calls Tryz.prog 14 #[.agg #[.bool n, .slice a xs.length ca, .slice b ys.length cb, .bool m, .slice c us.length cc, .slice d vs.length cd]] w (KToldC w (gchk n xs ys m us vs) (rlong (-(rq n xs ys)) ∨ rlong (-(rq m us vs))) (-(rq n xs ys)) (-(rq m us vs))) := by
  have HX := hid (boxes2r w 26 #[.bool n, .slice a xs.length ca, .slice b ys.length cb, .bool m, .slice c us.length cc, .slice d vs.length cd] #[.bool false, .slice none 0 0, .slice none 0 0, .bool false, .slice none 0 0, .slice none 0 0])
  obtain ⟨X, hX⟩ : ∃ X, (w.alloc (.cells #[.bool n, .slice a xs.length ca, .slice b ys.length cb, .bool m, .slice c us.length cc, .slice d vs.length cd] 26)).alloc (.cells #[.bool false, .slice none 0 0, .slice none 0 0, .bool false, .slice none 0 0, .slice none 0 0] 26) = X := ⟨_, rfl⟩
  rw [hX] at HX
  have HY := hid (Box.made X 26 #[.bool n, .slice a xs.length ca, .slice b ys.length cb, .bool m, .slice c us.length cc, .slice d vs.length cd])
  have HYB := hid (alloc_later X (.cells #[.bool n, .slice a xs.length ca, .slice b ys.length cb, .bool m, .slice c us.length cc, .slice d vs.length cd] 26))
  obtain ⟨Y, hY⟩ : ∃ Y, X.alloc (.cells #[.bool n, .slice a xs.length ca, .slice b ys.length cb, .bool m, .slice c us.length cc, .slice d vs.length cd] 26) = Y := ⟨_, rfl⟩
  rw [hY] at HY HYB
  have HWY := hid (bt HX.out.2.2 HYB.out)
  have HL := hid (glookAt1_any X.heap.size n a ca xs b cb ys m c cc us d cd vs Y HY.out (sx.later HWY.out) (sy.later HWY.out) (su.later HWY.out) (sv.later HWY.out))
  have H1 : Hid (∀ V p E, Below w.heap.size w V → Box V p 53 #[.int .i64 E] → Calls Tryz.prog 35 #[.pointer (some ⟨p, 0, none⟩), .agg #[.bool n, .slice a xs.length ca, .slice b ys.length cb]] V (GTell V p (fstE E (rchk n xs ys)) (-(rq n xs ys)))) := fun V p E hv hb => gopposite_any p E n a ca xs b cb ys V hb (sx.later hv) (sy.later hv)
  have H2 : Hid (∀ V p E, Below w.heap.size w V → Box V p 53 #[.int .i64 E] → Calls Tryz.prog 35 #[.pointer (some ⟨p, 0, none⟩), .agg #[.bool m, .slice c us.length cc, .slice d vs.length cd]] V (GTell V p (fstE E (rchk m us vs)) (-(rq m us vs)))) := fun V p E hv hb => gopposite_any p E m c cc us d cd vs V hb (su.later hv) (sv.later hv)
  have HZ1 : Hid (gchk n xs ys m us vs = 0 → rchk n xs ys = 0 ∧ rchk m us vs = 0) := fun h => by
    exact gchk_ok h
  generalize gchk n xs ys m us vs = E0 at *
  generalize rchk n xs ys = e1 at *
  generalize rchk m us vs = e2 at *
  generalize -(rq n xs ys) = q1 at *
  generalize -(rq m us vs) = q2 at *
  clear sx sy su sv
  have ka0 : X.cell? ⟨w.heap.size, 0, none⟩ = some (.bool n) := HX.out.1.cell 0
  have ka1 : X.cell? ⟨w.heap.size, 1, none⟩ = some (.slice a xs.length ca) := HX.out.1.cell 1
  have ka2 : X.cell? ⟨w.heap.size, 2, none⟩ = some (.slice b ys.length cb) := HX.out.1.cell 2
  have ka3 : X.cell? ⟨w.heap.size, 3, none⟩ = some (.bool m) := HX.out.1.cell 3
  have ka4 : X.cell? ⟨w.heap.size, 4, none⟩ = some (.slice c us.length cc) := HX.out.1.cell 4
  have ka5 : X.cell? ⟨w.heap.size, 5, none⟩ = some (.slice d vs.length cd) := HX.out.1.cell 5
  go_enter Tryz.func14, Tryz.ntmps14
  go_wp2_with fail
  refine Calls.mono HL.out ?_
  rintro x w1 ⟨p, rfl, hpl, hpb, hb1⟩
  have HW1 := hid (bt HWY.out hb1)
  have HA1 := hid (HX.out.1.later (bt HYB.out hb1) HX.out.1.lt)
  have HR1 := hid (HX.out.2.1.later (bt HYB.out hb1) HX.out.2.1.lt)
  have HP1 := hid hpb
  have hpX : X.heap.size < p := Nat.lt_of_lt_of_le HY.out.lt hpl
  have hrX : w.heap.size + 1 < X.heap.size := HX.out.2.1.lt
  clear hpb hb1 hpl HL ka0 ka1 ka2 ka3 ka4 ka5
  have ka0 : w1.cell? ⟨w.heap.size, 0, none⟩ = some (.bool n) := HA1.out.cell 0
  have ka1 : w1.cell? ⟨w.heap.size, 1, none⟩ = some (.slice a xs.length ca) := HA1.out.cell 1
  have ka2 : w1.cell? ⟨w.heap.size, 2, none⟩ = some (.slice b ys.length cb) := HA1.out.cell 2
  go_wp2_with fail
  refine Calls.mono (H1.out _ p E0 HW1.out HP1.out) ?_
  rintro x w2 ⟨k1, v1, zs1, u1, ts1, code1, rfl, ov1, ou1, ht1, hp2, hg2, hcut1⟩
  obtain ⟨av1, cv1, rfl⟩ := own_slice' ov1
  obtain ⟨au1, cu1, rfl⟩ := own_slice' ou1
  have hw12 : w1.heap.size ≤ w2.heap.size := hg2.size
  have hp1l : p < w1.heap.size := HP1.out.lt
  have HW2 : Hid (Below w.heap.size w w2) := HW1.out.grown hg2 HW1.out.size (fun q hq => by have e := Option.some.inj hq; omega)
  have HA2 := hid (HA1.out.kept' hg2 (by intro e; have := Option.some.inj e; omega))
  have HR2 := hid (HR1.out.kept' hg2 (by intro e; have := Option.some.inj e; omega))
  have HP2 := hid hp2
  have HV1 := hid ov1
  have HU1 := hid ou1
  have HT1 := hid ht1
  have HC1 := hid hcut1
  have HN := hid (Box.made w2 24 #[.bool k1, .slice av1 zs1.length cv1, .slice au1 ts1.length cu1])
  have HNB := hid (alloc_later w2 (.cells #[.bool k1, .slice av1 zs1.length cv1, .slice au1 ts1.length cu1] 24))
  obtain ⟨Z, hZ⟩ : ∃ Z, w2.alloc (.cells #[.bool k1, .slice av1 zs1.length cv1, .slice au1 ts1.length cu1] 24) = Z := ⟨_, rfl⟩
  rw [hZ] at HN HNB
  have HAZ := hid (HA2.out.later HNB.out HA2.out.lt)
  clear ov1 ou1 ht1 hp2 hg2 hcut1 HW1 HA1 HR1 HP1 H1 ka0 ka1 ka2
  have ka0 : Z.cell? ⟨w.heap.size, 3, none⟩ = some (.bool m) := HAZ.out.cell 3
  have ka1 : Z.cell? ⟨w.heap.size, 4, none⟩ = some (.slice c us.length cc) := HAZ.out.cell 4
  have ka2 : Z.cell? ⟨w.heap.size, 5, none⟩ = some (.slice d vs.length cd) := HAZ.out.cell 5
  go_wp2_with fail
  refine Calls.mono (H2.out _ p code1 (bt HW2.out HNB.out) (HP2.out.later HNB.out HP2.out.lt)) ?_
  rintro x w3 ⟨k2, v2, zs2, u2, ts2, code2, rfl, ov2, ou2, ht2, hp3, hg3, hcut2⟩
  obtain ⟨av2, cv2, rfl⟩ := own_slice' ov2
  obtain ⟨au2, cu2, rfl⟩ := own_slice' ou2
  have hZ3 : Z.heap.size ≤ w3.heap.size := hg3.size
  have hw2Z : w2.heap.size < Z.heap.size := HN.out.lt
  have HW3 : Hid (Below w.heap.size w w3) := (bt HW2.out HNB.out).grown hg3 (bt HW2.out HNB.out).size (fun q hq => by have e := Option.some.inj hq; omega)
  have HR3 := hid ((HR2.out.later HNB.out HR2.out.lt).kept' hg3 (by intro e; have := Option.some.inj e; omega))
  have HN3 := hid (HN.out.kept' hg3 (by intro e; have := Option.some.inj e; omega))
  have HP3 := hid hp3
  have hk : ∀ (v : Value) (q : Nat), (∀ g, v.ownBlock = some g → q ≤ g) → p < q → v.ownBlock = none ∨ v.ownBlock ≠ some p := fun v q h1 h2 => by
    cases e : v.ownBlock with
    | none => exact .inl rfl
    | some g => right; intro h; have e2 := Option.some.inj h; have := h1 g e; omega
  have HV3 := hid (World.ownsRow.kept (owns_later HV1.out HNB.out) hg3 (hk _ w1.heap.size (fun g hg => (HV1.out.lt g hg).1) hp1l))
  have HU3 := hid (World.ownsRow.kept (owns_later HU1.out HNB.out) hg3 (hk _ w1.heap.size (fun g hg => (HU1.out.lt g hg).1) hp1l))
  have HV4 := hid ov2
  have HU4 := hid ou2
  have HT2 := hid ht2
  have HC2 := hid hcut2
  clear hk
  have HM := hid (Box.made w3 24 #[.bool k2, .slice av2 zs2.length cv2, .slice au2 ts2.length cu2])
  have HMB := hid (alloc_later w3 (.cells #[.bool k2, .slice av2 zs2.length cv2, .slice au2 ts2.length cu2] 24))
  obtain ⟨Q, hQ⟩ : ∃ Q, w3.alloc (.cells #[.bool k2, .slice av2 zs2.length cv2, .slice au2 ts2.length cu2] 24) = Q := ⟨_, rfl⟩
  rw [hQ] at HM HMB
  have HNQ := hid (HN3.out.later HMB.out HN3.out.lt)
  have HTO := hid (gtold_any p code2 k1 av1 zs1.length cv1 au1 ts1.length cu1 k2 av2 zs2.length cv2 au2 ts2.length cu2 Q (HP3.out.later HMB.out HP3.out.lt))
  clear ov2 ou2 ht2 hp3 hg3 hcut2 H2 ka0 ka1 ka2
  have ka0 : Q.cell? ⟨w2.heap.size, 0, none⟩ = some (.bool k1) := HNQ.out.cell 0
  have ka1 : Q.cell? ⟨w2.heap.size, 1, none⟩ = some (.slice av1 zs1.length cv1) := HNQ.out.cell 1
  have ka2 : Q.cell? ⟨w2.heap.size, 2, none⟩ = some (.slice au1 ts1.length cu1) := HNQ.out.cell 2
  have kb0 : Q.cell? ⟨w3.heap.size, 0, none⟩ = some (.bool k2) := HM.out.cell 0
  have kb1 : Q.cell? ⟨w3.heap.size, 1, none⟩ = some (.slice av2 zs2.length cv2) := HM.out.cell 1
  have kb2 : Q.cell? ⟨w3.heap.size, 2, none⟩ = some (.slice au2 ts2.length cu2) := HM.out.cell 2
  go_wp2_with fail
  refine Calls.mono HTO.out ?_
  rintro x w4 ⟨rfl, hb4⟩
  have HW4x := hid hb4
  have HR4 := hid (HR3.out.later (bt HMB.out hb4) HR3.out.lt)
  have HW4 := hid (bt HW3.out (bt HMB.out hb4))
  have HOO := hid (And.intro (owns_later HV3.out (bt HMB.out hb4)) (And.intro (owns_later HU3.out (bt HMB.out hb4)) (And.intro (owns_later HV4.out (bt HMB.out hb4)) (owns_later HU4.out (bt HMB.out hb4)))))
  have hlo : w.heap.size ≤ w1.heap.size := by omega
  have hlZ : w.heap.size ≤ Z.heap.size := by omega
  clear hb4 ka0 ka1 ka2 kb0 kb1 kb2
  have m0 : w4.cell? ⟨w.heap.size + 1, 0, none⟩ = some (.bool false) := HR4.out.cell 0
  have m1 : w4.cell? ⟨w.heap.size + 1, 1, none⟩ = some (.slice none 0 0) := HR4.out.cell 1
  have m2' : w4.cell? ⟨w.heap.size + 1, 2, none⟩ = some (.slice none 0 0) := HR4.out.cell 2
  have m3 : w4.cell? ⟨w.heap.size + 1, 3, none⟩ = some (.bool false) := HR4.out.cell 3
  have m4 : w4.cell? ⟨w.heap.size + 1, 4, none⟩ = some (.slice none 0 0) := HR4.out.cell 4
  have m5 : w4.cell? ⟨w.heap.size + 1, 5, none⟩ = some (.slice none 0 0) := HR4.out.cell 5
  have f0 := HR4.out.free 0
  have f1 := HR4.out.free 1
  have f2 := HR4.out.free 2
  have f3 := HR4.out.free 3
  have f4 := HR4.out.free 4
  have f5 := HR4.out.free 5
  have HTW := hid (gtwo HT1.out HT2.out (fun h => (HZ1.out h).1) (fun h => (HZ1.out h).2))
  have hsQ := (bt HMB.out HW4x.out).size
  by_cases hc2 : code2 = 0
  · rw [if_pos hc2]
    have HFIN := hid (HTW.out.1 hc2)
    clear HTW hc2
    go_wp2_with fail
    have B1 := box_put6 HR4.out (.bool k1) (.slice av1 zs1.length cv1) (.slice au1 ts1.length cu1) (.bool k2) (.slice av2 zs2.length cv2) (.slice au2 ts2.length cu2)
    have G1 := below_put6 HW4.out (w.heap.size + 1) (by omega) (.bool k1) (.slice av1 zs1.length cv1) (.slice au1 ts1.length cu1) (.bool k2) (.slice av2 zs2.length cv2) (.slice au2 ts2.length cu2)
    have hXX := HX.out.2.2.size
    have hput : ∀ {base k : Nat} {v : Value} {l : List Value}, w4.ownsRow base 68 1 v k l → (∀ g, v.ownBlock = some g → X.heap.size ≤ g) → ((((((w4.setCell ⟨w.heap.size + 1, 0, none⟩ (.bool k1)).setCell ⟨w.heap.size + 1, 1, none⟩ (.slice av1 zs1.length cv1)).setCell ⟨w.heap.size + 1, 2, none⟩ (.slice au1 ts1.length cu1)).setCell ⟨w.heap.size + 1, 3, none⟩ (.bool k2)).setCell ⟨w.heap.size + 1, 4, none⟩ (.slice av2 zs2.length cv2)).setCell ⟨w.heap.size + 1, 5, none⟩ (.slice au2 ts2.length cu2)).ownsRow base 68 1 v k l := fun h hb => own_put6 h _ (fun g hg => by have := hb g hg; omega) _ _ _ _ _ _
    clear m0 m1 m2' m3 m4 m5 f0 f1 f2 f3 f4 f5
    refine bodyPost_ret (gres_run (by rfl) B1 _ rfl) rfl ?_
    exact ⟨k1, av1, cv1, zs1, au1, cu1, ts1, k2, av2, cv2, zs2, au2, cu2, ts2, code2, rfl, ⟨owns_base (hput HOO.out.1 (fun g hg => by have := (HOO.out.1.lt g hg).1; omega)) hlo, owns_base (hput HOO.out.2.1 (fun g hg => by have := (HOO.out.2.1.lt g hg).1; omega)) hlo, owns_base (hput HOO.out.2.2.1 (fun g hg => by have := (HOO.out.2.2.1.lt g hg).1; omega)) hlZ, owns_base (hput HOO.out.2.2.2 (fun g hg => by have := (HOO.out.2.2.2.lt g hg).1; omega)) hlZ⟩, HFIN.out, G1, w2, HC1.out.up hlo (Nat.le_refl _), HC2.out.up HNB.out.size (by simp [World.setCell]; omega)⟩
  · rw [if_neg hc2]
    have HFIN := hid (HTW.out.2 hc2)
    clear HTW hc2
    go_wp2_with fail
    have B1 := box_put6 HR4.out (.bool false) (.slice none 0 0) (.slice none 0 0) (.bool false) (.slice none 0 0) (.slice none 0 0)
    have G1 := below_put6 HW4.out (w.heap.size + 1) (by omega) (.bool false) (.slice none 0 0) (.slice none 0 0) (.bool false) (.slice none 0 0) (.slice none 0 0)
    clear m0 m1 m2' m3 m4 m5 f0 f1 f2 f3 f4 f5
    refine bodyPost_ret (gres_run (by rfl) B1 _ rfl) rfl ?_
    exact ⟨false, none, 0, [], none, 0, [], false, none, 0, [], none, 0, [], code2, rfl, ⟨World.ownsRow_nil _ _ _ _, World.ownsRow_nil _ _ _ _, World.ownsRow_nil _ _ _ _, World.ownsRow_nil _ _ _ _⟩, HFIN.out, G1, _, kcut_nil _ _ G1.size, kcut_nil _ _ (Nat.le_refl _)⟩

set_option maxHeartbeats 1600000 in
set_option maxRecDepth 100000 in
theorem gInt_cut (x y : Int) (w : World) (x0 : -9223372036854775808 ≤ x) (x1 : x ≤ 9223372036854775807) (y0 : -9223372036854775808 ≤ y) (y1 : y ≤ 9223372036854775807) :
    Calls Tryz.prog 18 #[.int .i64 x, .int .i64 y] w fun e w' => ∃ n v xs u ys c1 m v' us u' vs c2, e = .returned (.agg #[.bool n, v, u, .bool m, v', u']) ∧ (w'.ownsRow w.heap.size 68 1 v xs.length (xs.map (Value.int .u32)) ∧ w'.ownsRow w.heap.size 68 1 u ys.length (ys.map (Value.int .u32)) ∧ w'.ownsRow w.heap.size 68 1 v' us.length (us.map (Value.int .u32)) ∧ w'.ownsRow w.heap.size 68 1 u' vs.length (vs.map (Value.int .u32))) ∧ RTells 0 (Rat.divInt x 1) n xs ys c1 ∧ RTells 0 (Rat.divInt y 1) m us vs c2 ∧ Below w.heap.size w w' ∧ ∃ W1, Cut w v u W1 ∧ Cut W1 v' u' w' := by
  have HX := hid (Box.made w 26 #[.bool false, .slice none 0 0, .slice none 0 0, .bool false, .slice none 0 0, .slice none 0 0])
  have HB := hid (alloc_later w (.cells #[.bool false, .slice none 0 0, .slice none 0 0, .bool false, .slice none 0 0, .slice none 0 0] 26))
  obtain ⟨X, hX⟩ : ∃ X, w.alloc (.cells #[.bool false, .slice none 0 0, .slice none 0 0, .bool false, .slice none 0 0, .slice none 0 0] 26) = X := ⟨_, rfl⟩
  rw [hX] at HX HB
  have H1 := hid (gfractionOf_any x X x0 x1)
  have H2 := hid (fun V => gfractionOf_any y V y0 y1)
  clear x0 x1 y0 y1
  go_enter Tryz.func18, Tryz.ntmps18
  go_wp2_with fail
  refine Calls.mono H1.out ?_
  rintro e w1 ⟨k1, v1, zs1, u1, ts1, code1, rfl, ov1, ou1, ht1, hb1, hcut1⟩
  obtain ⟨av1, cv1, rfl⟩ := own_slice' ov1
  obtain ⟨au1, cu1, rfl⟩ := own_slice' ou1
  have HM1 := hid (HX.out.later hb1 HX.out.lt)
  have HB1 := hid (bt HB.out hb1)
  have HXB := hid hb1.size
  have HV1 := hid ov1
  have HU1 := hid ou1
  have HT1 := hid ht1
  have HC1 := hid hcut1
  clear ov1 ou1 ht1 hb1 hcut1 H1
  go_wp2_with fail
  refine Calls.mono (H2.out _) ?_
  rintro e w2 ⟨k2, v2, zs2, u2, ts2, code2, rfl, ov2, ou2, ht2, hb2, hcut2⟩
  obtain ⟨av2, cv2, rfl⟩ := own_slice' ov2
  obtain ⟨au2, cu2, rfl⟩ := own_slice' ou2
  have HM2 := hid (HM1.out.later hb2 HM1.out.lt)
  have HB2 := hid (bt HB1.out hb2)
  have HV1' := hid (owns_later HV1.out hb2)
  have HU1' := hid (owns_later HU1.out hb2)
  have HV2 := hid ov2
  have HU2 := hid ou2
  have HT2 := hid ht2
  have HC2 := hid hcut2
  clear ov2 ou2 ht2 hb2 hcut2 H2
  have m0 : w2.cell? ⟨w.heap.size, 0, none⟩ = some (.bool false) := HM2.out.cell 0
  have f0 := HM2.out.free 0
  have m1 : w2.cell? ⟨w.heap.size, 1, none⟩ = some (.slice none 0 0) := HM2.out.cell 1
  have f1 := HM2.out.free 1
  have m2 : w2.cell? ⟨w.heap.size, 2, none⟩ = some (.slice none 0 0) := HM2.out.cell 2
  have f2 := HM2.out.free 2
  have m3 : w2.cell? ⟨w.heap.size, 3, none⟩ = some (.bool false) := HM2.out.cell 3
  have f3 := HM2.out.free 3
  have m4 : w2.cell? ⟨w.heap.size, 4, none⟩ = some (.slice none 0 0) := HM2.out.cell 4
  have f4 := HM2.out.free 4
  have m5 : w2.cell? ⟨w.heap.size, 5, none⟩ = some (.slice none 0 0) := HM2.out.cell 5
  have f5 := HM2.out.free 5
  go_wp2_with fail
  have h3 := HX.out.lt
  have h4 := HXB.out
  have B1 := box_put6 HM2.out (.bool k1) (.slice av1 zs1.length cv1) (.slice au1 ts1.length cu1) (.bool k2) (.slice av2 zs2.length cv2) (.slice au2 ts2.length cu2)
  have G1 := below_put6 HB2.out w.heap.size (Nat.le_refl _) (.bool k1) (.slice av1 zs1.length cv1) (.slice au1 ts1.length cu1) (.bool k2) (.slice av2 zs2.length cv2) (.slice au2 ts2.length cu2)
  have P1 := own_put6 HV1'.out w.heap.size (fun g hg => by have := (HV1'.out.lt g hg).1; omega) (.bool k1) (.slice av1 zs1.length cv1) (.slice au1 ts1.length cu1) (.bool k2) (.slice av2 zs2.length cv2) (.slice au2 ts2.length cu2)
  have P2 := own_put6 HU1'.out w.heap.size (fun g hg => by have := (HU1'.out.lt g hg).1; omega) (.bool k1) (.slice av1 zs1.length cv1) (.slice au1 ts1.length cu1) (.bool k2) (.slice av2 zs2.length cv2) (.slice au2 ts2.length cu2)
  have P3 := own_put6 HV2.out w.heap.size (fun g hg => by have := (HV2.out.lt g hg).1; omega) (.bool k1) (.slice av1 zs1.length cv1) (.slice au1 ts1.length cu1) (.bool k2) (.slice av2 zs2.length cv2) (.slice au2 ts2.length cu2)
  have P4 := own_put6 HU2.out w.heap.size (fun g hg => by have := (HU2.out.lt g hg).1; omega) (.bool k1) (.slice av1 zs1.length cv1) (.slice au1 ts1.length cu1) (.bool k2) (.slice av2 zs2.length cv2) (.slice au2 ts2.length cu2)
  have hX1 : w.heap.size ≤ X.heap.size := by omega
  have hX2 : w.heap.size ≤ w1.heap.size := by omega
  clear m0 m1 m2 m3 m4 m5 f0 f1 f2 f3 f4 f5
  refine bodyPost_ret (results_cell_row (by rfl) _ _ w.heap.size 26 _ (0, 0) _ (by rfl) B1 Tryz.underlying26 rfl (by kernel_rfl)) rfl ?_
  exact ⟨k1, _, zs1, _, ts1, code1, k2, _, zs2, _, ts2, code2, rfl, ⟨owns_base P1 hX1, owns_base P2 hX1, owns_base P3 hX2, owns_base P4 hX2⟩, HT1.out, HT2.out, G1, w1, HC1.out.up hX1 (Nat.le_refl _), HC2.out.up (Nat.le_refl _) (by simp [World.setCell])⟩

set_option maxHeartbeats 3200000 in
set_option maxRecDepth 100000 in
theorem gNorm_cut (n : Bool) (a : Option Addr) (ca : Nat) (xs : List Int) (b : Option Addr) (cb : Nat) (ys : List Int) (m : Bool) (c : Option Addr) (cc : Nat) (us : List Int) (d : Option Addr) (cd : Nat) (vs : List Int) (w : World) (sx : Sl w (.slice a xs.length ca) xs) (sy : Sl w (.slice b ys.length cb) ys) (su : Sl w (.slice c us.length cc) us) (sv : Sl w (.slice d vs.length cd) vs) :
    Calls Tryz.prog 16 #[.agg #[.bool n, .slice a xs.length ca, .slice b ys.length cb, .bool m, .slice c us.length cc, .slice d vs.length cd]] w fun x w' => ∃ n1 x1 y1 c1 n2 x2 y2 c2, RTells (fstE (gchk n xs ys m us vs) (rboth n xs ys n xs ys)) (rq n xs ys * rq n xs ys) n1 x1 y1 c1 ∧ RTells (fstE c1 (rboth m us vs m us vs)) (rq m us vs * rq m us vs) n2 x2 y2 c2 ∧ ∃ n3 a3 k3 x3 b3 l3 y3 code, x = .returned (.tuple #[.agg #[.bool n3, .slice a3 (List.length x3) k3, .slice b3 (List.length y3) l3], .int .i64 code]) ∧ (w'.ownsRow w.heap.size 68 1 (.slice a3 (List.length x3) k3) x3.length (x3.map (Value.int .u32)) ∧ w'.ownsRow w.heap.size 68 1 (.slice b3 (List.length y3) l3) y3.length (y3.map (Value.int .u32))) ∧ RTells (fstE c2 (rboth n1 x1 y1 n2 x2 y2)) (rq n1 x1 y1 + rq n2 x2 y2) n3 x3 y3 code ∧ Below w.heap.size w w' ∧ Cut w (.slice a3 (List.length x3) k3) (.slice b3 (List.length y3) l3) w' := by
  have HX := hid (boxes2m w 26 24 #[.bool n, .slice a xs.length ca, .slice b ys.length cb, .bool m, .slice c us.length cc, .slice d vs.length cd] #[.bool false, .slice none 0 0, .slice none 0 0])
  obtain ⟨X, hX⟩ : ∃ X, (w.alloc (.cells #[.bool n, .slice a xs.length ca, .slice b ys.length cb, .bool m, .slice c us.length cc, .slice d vs.length cd] 26)).alloc (.cells #[.bool false, .slice none 0 0, .slice none 0 0] 24) = X := ⟨_, rfl⟩
  rw [hX] at HX
  have HY := hid (Box.made X 26 #[.bool n, .slice a xs.length ca, .slice b ys.length cb, .bool m, .slice c us.length cc, .slice d vs.length cd])
  have HYB := hid (alloc_later X (.cells #[.bool n, .slice a xs.length ca, .slice b ys.length cb, .bool m, .slice c us.length cc, .slice d vs.length cd] 26))
  obtain ⟨Y, hY⟩ : ∃ Y, X.alloc (.cells #[.bool n, .slice a xs.length ca, .slice b ys.length cb, .bool m, .slice c us.length cc, .slice d vs.length cd] 26) = Y := ⟨_, rfl⟩
  rw [hY] at HY HYB
  have HWY := hid (bt HX.out.2.2 HYB.out)
  have HL := hid (glookAt1_any X.heap.size n a ca xs b cb ys m c cc us d cd vs Y HY.out (sx.later HWY.out) (sy.later HWY.out) (su.later HWY.out) (sv.later HWY.out))
  have H1 : Hid (∀ V p E, Below w.heap.size w V → w.heap.size ≤ p → Box V p 53 #[.int .i64 E] → Calls Tryz.prog 38 #[.pointer (some ⟨p, 0, none⟩), .agg #[.bool n, .slice a xs.length ca, .slice b ys.length cb, .bool m, .slice c us.length cc, .slice d vs.length cd]] V _) := hid (fun V p E hv hp hb => gsquare_any p E n a ca xs b cb ys m c cc us d cd vs V hb (fun U hU => by
    have hw : Below w.heap.size w U := hv.grown hU hv.size (fun q hq => by have e := Option.some.inj hq; omega)
    exact ⟨sx.later hw, sy.later hw, su.later hw, sv.later hw⟩))
  generalize gchk n xs ys m us vs = E0 at *
  clear sx sy su sv
  have ka0 : X.cell? ⟨w.heap.size, 0, none⟩ = some (.bool n) := HX.out.1.cell 0
  have ka1 : X.cell? ⟨w.heap.size, 1, none⟩ = some (.slice a xs.length ca) := HX.out.1.cell 1
  have ka2 : X.cell? ⟨w.heap.size, 2, none⟩ = some (.slice b ys.length cb) := HX.out.1.cell 2
  have ka3 : X.cell? ⟨w.heap.size, 3, none⟩ = some (.bool m) := HX.out.1.cell 3
  have ka4 : X.cell? ⟨w.heap.size, 4, none⟩ = some (.slice c us.length cc) := HX.out.1.cell 4
  have ka5 : X.cell? ⟨w.heap.size, 5, none⟩ = some (.slice d vs.length cd) := HX.out.1.cell 5
  go_enter Tryz.func16, Tryz.ntmps16
  go_wp2_with fail
  refine Calls.mono HL.out ?_
  rintro x w1 ⟨p, rfl, hpl, hpb, hb1⟩
  have HW1 := hid (bt HWY.out hb1)
  have HA1 := hid (HX.out.1.later (bt HYB.out hb1) HX.out.1.lt)
  have HR1 := hid (HX.out.2.1.later (bt HYB.out hb1) HX.out.2.1.lt)
  have HP1 := hid hpb
  have hpX : X.heap.size < p := Nat.lt_of_lt_of_le HY.out.lt hpl
  have hrX : w.heap.size + 1 < X.heap.size := HX.out.2.1.lt
  clear hpb hb1 hpl HL ka0 ka1 ka2 ka3 ka4 ka5
  have ka0 : w1.cell? ⟨w.heap.size, 0, none⟩ = some (.bool n) := HA1.out.cell 0
  have ka1 : w1.cell? ⟨w.heap.size, 1, none⟩ = some (.slice a xs.length ca) := HA1.out.cell 1
  have ka2 : w1.cell? ⟨w.heap.size, 2, none⟩ = some (.slice b ys.length cb) := HA1.out.cell 2
  have ka3 : w1.cell? ⟨w.heap.size, 3, none⟩ = some (.bool m) := HA1.out.cell 3
  have ka4 : w1.cell? ⟨w.heap.size, 4, none⟩ = some (.slice c us.length cc) := HA1.out.cell 4
  have ka5 : w1.cell? ⟨w.heap.size, 5, none⟩ = some (.slice d vs.length cd) := HA1.out.cell 5
  go_wp2_with fail
  refine Calls.mono (H1.out _ p E0 HW1.out (by have := HX.out.2.2.size; omega) HP1.out) ?_
  rintro x w2 ⟨n1, x1, y1, c1, n2, x2, y2, c2, t1, t2, k1, v1, zs1, u1, ts1, code1, rfl, ov1, ou1, ht1, hp2, hg2, hcut1⟩
  obtain ⟨av1, cv1, rfl⟩ := own_slice' ov1
  obtain ⟨au1, cu1, rfl⟩ := own_slice' ou1
  have hw12 : w1.heap.size ≤ w2.heap.size := hg2.size
  have hp1l : p < w1.heap.size := HP1.out.lt
  have HW2 : Hid (Below w.heap.size w w2) := HW1.out.grown hg2 HW1.out.size (fun q hq => by have e := Option.some.inj hq; omega)
  have HR2 := hid (HR1.out.kept' hg2 (by intro e; have := Option.some.inj e; omega))
  have HP2 := hid hp2
  have HV1 := hid ov1
  have HU1 := hid ou1
  have HT1 := hid t1
  have HT2 := hid t2
  have HT3 := hid ht1
  have HC1 := hid hcut1
  have HN := hid (Box.made w2 24 #[.bool k1, .slice av1 zs1.length cv1, .slice au1 ts1.length cu1])
  have HNB := hid (alloc_later w2 (.cells #[.bool k1, .slice av1 zs1.length cv1, .slice au1 ts1.length cu1] 24))
  obtain ⟨Z, hZ⟩ : ∃ Z, w2.alloc (.cells #[.bool k1, .slice av1 zs1.length cv1, .slice au1 ts1.length cu1] 24) = Z := ⟨_, rfl⟩
  rw [hZ] at HN HNB
  have HRZ := hid (HR2.out.later HNB.out HR2.out.lt)
  have HPZ := hid (HP2.out.later HNB.out HP2.out.lt)
  clear t1 t2 ov1 ou1 ht1 hp2 hg2 hcut1 HW1 HA1 HR1 HP1 H1 ka0 ka1 ka2 ka3 ka4 ka5
  have kp : Z.cell? ⟨p, 0, none⟩ = some (.int .i64 code1) := HPZ.out.cell 0
  have ka0 : Z.cell? ⟨w2.heap.size, 0, none⟩ = some (.bool k1) := HN.out.cell 0
  have ka1 : Z.cell? ⟨w2.heap.size, 1, none⟩ = some (.slice av1 zs1.length cv1) := HN.out.cell 1
  have ka2 : Z.cell? ⟨w2.heap.size, 2, none⟩ = some (.slice au1 ts1.length cu1) := HN.out.cell 2
  have m0 : Z.cell? ⟨w.heap.size + 1, 0, none⟩ = some (.bool false) := HRZ.out.cell 0
  have m1 : Z.cell? ⟨w.heap.size + 1, 1, none⟩ = some (.slice none 0 0) := HRZ.out.cell 1
  have m2 : Z.cell? ⟨w.heap.size + 1, 2, none⟩ = some (.slice none 0 0) := HRZ.out.cell 2
  have f0 := HRZ.out.free 0
  have f1 := HRZ.out.free 1
  have f2 := HRZ.out.free 2
  go_wp2_with fail
  have hne1 : w2.heap.size ≠ w.heap.size + 1 := by omega
  have hne2 : p ≠ w.heap.size + 1 := by omega
  go_region
  all_goals
    go_wp2_with fail
    have B1 := box_put3 HRZ.out (.bool k1) (.slice av1 zs1.length cv1) (.slice au1 ts1.length cu1)
    have hv : ∀ b', (Value.slice av1 zs1.length cv1).ownBlock = some b' → b' ≠ w.heap.size + 1 := fun b' hb => by have := (HV1.out.lt b' hb).1; omega
    have hu : ∀ b', (Value.slice au1 ts1.length cu1).ownBlock = some b' → b' ≠ w.heap.size + 1 := fun b' hb => by have := (HU1.out.lt b' hb).1; omega
    have V1 := own_put3' (owns_later HV1.out HNB.out) _ hv (.bool k1) (.slice av1 zs1.length cv1) (.slice au1 ts1.length cu1)
    have U1 := own_put3' (owns_later HU1.out HNB.out) _ hu (.bool k1) (.slice av1 zs1.length cv1) (.slice au1 ts1.length cu1)
    have G1 := below_put3 (bt HW2.out HNB.out) (w.heap.size + 1) (by omega) (.bool k1) (.slice av1 zs1.length cv1) (.slice au1 ts1.length cu1)
    have hlo : w.heap.size ≤ w1.heap.size := by omega
    have hszU : w2.heap.size ≤ (((Z.setCell ⟨w.heap.size + 1, 0, none⟩ (.bool k1)).setCell ⟨w.heap.size + 1, 1, none⟩ (.slice av1 zs1.length cv1)).setCell ⟨w.heap.size + 1, 2, none⟩ (.slice au1 ts1.length cu1)).heap.size := by have := HNB.out.size; simp [World.setCell]; omega
    generalize ((Z.setCell ⟨w.heap.size + 1, 0, none⟩ (.bool k1)).setCell ⟨w.heap.size + 1, 1, none⟩ (.slice av1 zs1.length cv1)).setCell ⟨w.heap.size + 1, 2, none⟩ (.slice au1 ts1.length cu1) = U at *
    have B2 : Box U.drew (w.heap.size + 1) 24 #[.bool k1, .slice av1 zs1.length cv1, .slice au1 ts1.length cu1] := B1
    have G2 := Below.drew G1
    have V2 : U.drew.ownsRow w.heap.size 68 1 (.slice av1 zs1.length cv1) zs1.length (zs1.map (Value.int .u32)) := owns_base V1 hlo
    have U2 : U.drew.ownsRow w.heap.size 68 1 (.slice au1 ts1.length cu1) ts1.length (ts1.map (Value.int .u32)) := owns_base U1 hlo
    refine bodyPost_ret (gresr_run (by rfl) B2 _ rfl) rfl ?_
    exact ⟨n1, x1, y1, c1, n2, x2, y2, c2, HT1.out, HT2.out, k1, av1, cv1, zs1, au1, cu1, ts1, code1, rfl, ⟨V2, U2⟩, HT3.out, G2, HC1.out.up hlo hszU⟩
end Go.Proofs.YtopogjfmocpeaaaGreat

/- The document's Norm of complex fractions. (tools/mkgp5.py) -/
namespace Go.Proofs.YtopogjfmocpeaaaGreat
open Go.RowKit
set_option linter.unusedVariables false

theorem DRT.mono {w : World} {p q : Bool → List Int → List Int → Int → Prop} {x : Ending} {w' : World} (h : DRT w p x w') (f : ∀ n xs ys c, p n xs ys c → q n xs ys c) : DRT w q x w' := by
  obtain ⟨n, a, ca, xs, b, cb, ys, code, e, o, d, t, hb⟩ := h
  exact ⟨n, a, ca, xs, b, cb, ys, code, e, o, d, f _ _ _ _ t, hb⟩
set_option maxHeartbeats 1600000 in
set_option maxRecDepth 100000 in
theorem d4Norm_any (n : Bool) (a : Option Addr) (ca : Nat) (xs : List Int) (b : Option Addr) (cb : Nat) (ys : List Int) (m : Bool) (c : Option Addr) (cc : Nat) (us : List Int) (d : Option Addr) (cd : Nat) (vs : List Int) (w : World) (sx : Sl w (.slice a xs.length ca) xs) (sy : Sl w (.slice b ys.length cb) ys) (su : Sl w (.slice c us.length cc) us) (sv : Sl w (.slice d vs.length cd) vs) (lx : xs.length ≤ 281474976710656) (ly : ys.length ≤ 281474976710656) (lu : us.length ≤ 281474976710656) (lv : vs.length ≤ 281474976710656) :
    Calls Tryz.prog 17 #[.agg #[.bool n, .slice a xs.length ca, .slice b ys.length cb, .bool m, .slice c us.length cc, .slice d vs.length cd]] w (DRT w (PrT false (gchk n xs ys m us vs) (rboth n xs ys n xs ys) (rq n xs ys * rq n xs ys) (rboth m us vs m us vs) (rq m us vs * rq m us vs))) := by
  obtain ⟨X, hX⟩ : ∃ X, (w.alloc (.cells #[.bool n, .slice a xs.length ca, .slice b ys.length cb, .bool m, .slice c us.length cc, .slice d vs.length cd] 26)).alloc (.cells #[.bool false, .slice none 0 0, .slice none 0 0] 24) = X := ⟨_, rfl⟩
  have b1 : Below w.heap.size w X := by rw [← hX]; exact bt (alloc_later _ _) (alloc_later _ _)
  have HB0 : Hid (Box X (w.heap.size) 26 #[.bool n, .slice a xs.length ca, .slice b ys.length cb, .bool m, .slice c us.length cc, .slice d vs.length cd]) := by
    have h := Box.made w 26 #[.bool n, .slice a xs.length ca, .slice b ys.length cb, .bool m, .slice c us.length cc, .slice d vs.length cd]
    rw [← hX]
    exact h.later (alloc_later _ _) h.lt
  have HB1 : Hid (Box X (w.heap.size + 1) 24 #[.bool false, .slice none 0 0, .slice none 0 0]) := by
    have h := Box.made (w.alloc (.cells #[.bool n, .slice a xs.length ca, .slice b ys.length cb, .bool m, .slice c us.length cc, .slice d vs.length cd] 26)) 24 #[.bool false, .slice none 0 0, .slice none 0 0]
    rw [show (w.alloc (.cells #[.bool n, .slice a xs.length ca, .slice b ys.length cb, .bool m, .slice c us.length cc, .slice d vs.length cd] 26)).heap.size = w.heap.size + 1 by simp] at h
    rw [hX] at h
    exact h
  have HC := hid (kpcheck_any n a ca xs b cb ys m c cc us d cd vs X (sx.later b1) (sy.later b1) (su.later b1) (sv.later b1) lx ly lu lv)
  have HP := hid (fun V (hv : Below X.heap.size X V) => d4pair_more n a ca xs b cb ys n a ca xs b cb ys m c cc us d cd vs m c cc us d cd vs V ⟨(sx.later b1).later hv, (sy.later b1).later hv⟩ ⟨lx, ly⟩ ⟨(sx.later b1).later hv, (sy.later b1).later hv⟩ ⟨lx, ly⟩ ⟨(su.later b1).later hv, (sv.later b1).later hv⟩ ⟨lu, lv⟩ ⟨(su.later b1).later hv, (sv.later b1).later hv⟩ ⟨lu, lv⟩)
  have HB := hid b1
  have hwX : w.heap.size + 1 < X.heap.size := HB1.out.lt
  clear sx sy su sv b1 lx ly lu lv
  obtain ⟨k0, k1, k2, k3, k4, k5⟩ := Kl6.of HB0.out
  generalize rboth n xs ys n xs ys = E1 at *
  generalize rboth m us vs m us vs = E2 at *
  generalize rq n xs ys * rq n xs ys = Q1 at *
  generalize rq m us vs * rq m us vs = Q2 at *
  generalize gchk n xs ys m us vs = r at *
  by_cases hz : r = 0
  · subst hz
    go_enter Tryz.func17, Tryz.ntmps17
    go_wp2_with fail
    clear hX
    refine Calls.mono HC.out ?_
    rintro x w1 ⟨rfl, hb1⟩
    have HW1 := hid hb1
    clear hb1 HC k0 k1 k2 k3 k4 k5
    have HD := hid (HP.out w1 HW1.out)
    clear HP
    obtain ⟨k0, k1, k2, k3, k4, k5⟩ := Kl6.of (HB0.out.later HW1.out HB0.out.lt)
    go_wp2_with fail
    refine Calls.mono HD.out ?_
    rintro x w3 ⟨m3, av3, cv3, u3, au3, cu3, z3, c3, rfl, ho, hwd, ht, hb3⟩
    have HV3 := hid ho
    have HT3 := hid (And.intro hwd ht)
    have HW3 := hid (bt HW1.out hb3)
    have hXQ : X.heap.size ≤ w1.heap.size := HW1.out.size
    clear ho hwd ht hb3 HD k0 k1 k2 k3 k4 k5
    have HRQ := hid (HB1.out.later HW3.out HB1.out.lt)
    have f0 := HRQ.out.free 0
    have f1 := HRQ.out.free 1
    have f2 := HRQ.out.free 2
    have r0_ : w3.cell? ⟨w.heap.size + 1, 0, none⟩ = some (.bool false) := HRQ.out.cell 0
    have r1_ : w3.cell? ⟨w.heap.size + 1, 1, none⟩ = some (.slice none 0 0) := HRQ.out.cell 1
    have r2_ : w3.cell? ⟨w.heap.size + 1, 2, none⟩ = some (.slice none 0 0) := HRQ.out.cell 2
    go_wp2_with fail
    have B1 := box_put3 HRQ.out (.bool m3) (.slice av3 u3.length cv3) (.slice au3 z3.length cu3)
    have G1 := below_put3 (bt HB.out HW3.out) (w.heap.size + 1) (by omega) (.bool m3) (.slice av3 u3.length cv3) (.slice au3 z3.length cu3)
    clear r0_ r1_ r2_ f0 f1 f2
    refine bodyPost_ret (gresr_run (by rfl) B1 _ rfl) rfl ?_
    have P1 := own_put3' HV3.out.1 (w.heap.size + 1) (fun g hg => by have := (HV3.out.1.lt g hg).1; omega) (.bool m3) (.slice av3 u3.length cv3) (.slice au3 z3.length cu3)
    have P2 := own_put3' HV3.out.2 (w.heap.size + 1) (fun g hg => by have := (HV3.out.2.lt g hg).1; omega) (.bool m3) (.slice av3 u3.length cv3) (.slice au3 z3.length cu3)
    exact ⟨m3, av3, cv3, u3, au3, cu3, z3, c3, rfl, ⟨owns_base P1 (by omega), owns_base P2 (by omega)⟩, HT3.out.1, HT3.out.2, G1⟩
  · have hz' : (r != 0) = true := by simpa using hz
    have HZ := hid hz
    clear hz HP
    go_enter Tryz.func17, Tryz.ntmps17
    go_wp2_with fail
    clear hX
    refine Calls.mono HC.out ?_
    rintro x w1 ⟨rfl, hb1⟩
    have HW1 := hid hb1
    clear hb1 HC k0 k1 k2 k3 k4 k5
    have HRQ := hid (HB1.out.later HW1.out HB1.out.lt)
    have f0 := HRQ.out.free 0
    have f1 := HRQ.out.free 1
    have f2 := HRQ.out.free 2
    have r0_ : w1.cell? ⟨w.heap.size + 1, 0, none⟩ = some (.bool false) := HRQ.out.cell 0
    have r1_ : w1.cell? ⟨w.heap.size + 1, 1, none⟩ = some (.slice none 0 0) := HRQ.out.cell 1
    have r2_ : w1.cell? ⟨w.heap.size + 1, 2, none⟩ = some (.slice none 0 0) := HRQ.out.cell 2
    go_wp2_with fail
    have B1 := box_put3 HRQ.out (.bool false) (.slice none 0 0) (.slice none 0 0)
    have G1 := below_put3 (bt HB.out HW1.out) (w.heap.size + 1) (by omega) (.bool false) (.slice none 0 0) (.slice none 0 0)
    clear r0_ r1_ r2_ f0 f1 f2
    refine bodyPost_ret (gresr_run (by rfl) B1 _ rfl) rfl ?_
    exact ⟨false, none, 0, [], none, 0, [], r, rfl, ⟨World.ownsRow_nil _ _ _ _, World.ownsRow_nil _ _ _ _⟩, ⟨Wd.nil, Wd.nil⟩, PrT.err HZ.out, G1⟩

end Go.Proofs.YtopogjfmocpeaaaGreat

/- The kit's ApartRatios of any number of fractions. -/
namespace Go.Proofs.YtopogjfmocpeaaaGreat
open Go.RowKit
set_option linter.unusedVariables false

/-- The first of a row of lists. -/
def anRow (A : Nat → Option Addr) (L C : Nat → Nat) (n : Nat) : List Value := (List.range n).map fun j => .slice (A j) (L j) (C j)
theorem anRow_succ (A : Nat → Option Addr) (L C : Nat → Nat) (n : Nat) : anRow A L C (n + 1) = anRow A L C n ++ [.slice (A n) (L n) (C n)] := by
  unfold anRow
  rw [List.range_succ, List.map_append]
  rfl
theorem anRow_two (A : Nat → Option Addr) (L C : Nat → Nat) (k : Nat) : anRow A L C (2 * (k + 1)) = anRow A L C (2 * k) ++ [.slice (A (2 * k)) (L (2 * k)) (C (2 * k)), .slice (A (2 * k + 1)) (L (2 * k + 1)) (C (2 * k + 1))] := by
  rw [show 2 * (k + 1) = 2 * k + 1 + 1 by omega, anRow_succ, anRow_succ, List.append_assoc]
  rfl
theorem anRow_get (A : Nat → Option Addr) (L C : Nat → Nat) (n j : Nat) (hj : j < n) : (anRow A L C n)[j]? = some (.slice (A j) (L j) (C j)) := by
  unfold anRow
  rw [List.getElem?_map, List.getElem?_range hj]
  rfl

end Go.Proofs.YtopogjfmocpeaaaGreat

/- The kit's PartsOf and ApartGausses of any number of complex fractions. -/
namespace Go.Proofs.YtopogjfmocpeaaaGreat
open Go.RowKit
set_option linter.unusedVariables false

/-- The cells of the first fractions of a row. -/
def anCells (B : Nat → Bool) (A : Nat → Option Addr) (L C : Nat → Nat) : Nat → List Value
  | 0 => []
  | n + 1 => anCells B A L C n ++ [.bool (B n), .slice (A (2 * n)) (L (2 * n)) (C (2 * n)), .slice (A (2 * n + 1)) (L (2 * n + 1)) (C (2 * n + 1))]
theorem anCells_len (B : Nat → Bool) (A : Nat → Option Addr) (L C : Nat → Nat) (n : Nat) : (anCells B A L C n).length = n * 3 := by
  induction n with
  | zero => rfl
  | succ n ih =>
    show (anCells B A L C n ++ _).length = _
    rw [List.length_append, ih]
    show n * 3 + 3 = _
    omega
theorem anCells_get (B : Nat → Bool) (A : Nat → Option Addr) (L C : Nat → Nat) (n k : Nat) (hk : k < n) : (anCells B A L C n)[k * 3]? = some (.bool (B k)) ∧ (anCells B A L C n)[k * 3 + 1]? = some (.slice (A (2 * k)) (L (2 * k)) (C (2 * k))) ∧ (anCells B A L C n)[k * 3 + 2]? = some (.slice (A (2 * k + 1)) (L (2 * k + 1)) (C (2 * k + 1))) := by
  induction n with
  | zero => omega
  | succ n ih =>
    have hl := anCells_len B A L C n
    show (anCells B A L C n ++ _)[_]? = _ ∧ (anCells B A L C n ++ _)[_]? = _ ∧ (anCells B A L C n ++ _)[_]? = _
    by_cases h : k < n
    · rw [List.getElem?_append_left (by omega), List.getElem?_append_left (by omega), List.getElem?_append_left (by omega)]
      exact ih h
    · obtain rfl : k = n := by omega
      rw [List.getElem?_append_right (by omega), List.getElem?_append_right (by omega), List.getElem?_append_right (by omega), hl, show k * 3 - k * 3 = 0 by omega, show k * 3 + 1 - k * 3 = 1 by omega, show k * 3 + 2 - k * 3 = 2 by omega]
      exact ⟨rfl, rfl, rfl⟩
theorem anCells_two (B : Nat → Bool) (A : Nat → Option Addr) (L C : Nat → Nat) (k : Nat) : anCells B A L C (2 * (k + 1)) = anCells B A L C (2 * k) ++ [.bool (B (2 * k)), .slice (A (2 * (2 * k))) (L (2 * (2 * k))) (C (2 * (2 * k))), .slice (A (2 * (2 * k) + 1)) (L (2 * (2 * k) + 1)) (C (2 * (2 * k) + 1)), .bool (B (2 * k + 1)), .slice (A (2 * (2 * k + 1))) (L (2 * (2 * k + 1))) (C (2 * (2 * k + 1))), .slice (A (2 * (2 * k + 1) + 1)) (L (2 * (2 * k + 1) + 1)) (C (2 * (2 * k + 1) + 1))] := by
  rw [show 2 * (k + 1) = 2 * k + 1 + 1 by omega]
  show (anCells B A L C (2 * k) ++ _) ++ _ = _
  rw [List.append_assoc]
  rfl

set_option maxHeartbeats 1600000 in
set_option maxRecDepth 100000 in
theorem partsOfN (N g cp : Nat) (B : Nat → Bool) (A : Nat → Option Addr) (L C : Nat → Nat) (w : World) (hN : N ≤ 250)
    (hk : ∀ V, Below w.heap.size w V → ∀ k, k < N → V.cell? ⟨g, k * 6, none⟩ = some (.bool (B (2 * k))) ∧ V.cell? ⟨g, k * 6 + 1, none⟩ = some (.slice (A (2 * (2 * k))) (L (2 * (2 * k))) (C (2 * (2 * k)))) ∧ V.cell? ⟨g, k * 6 + 2, none⟩ = some (.slice (A (2 * (2 * k) + 1)) (L (2 * (2 * k) + 1)) (C (2 * (2 * k) + 1))) ∧ V.cell? ⟨g, k * 6 + 3, none⟩ = some (.bool (B (2 * k + 1))) ∧ V.cell? ⟨g, k * 6 + 4, none⟩ = some (.slice (A (2 * (2 * k + 1))) (L (2 * (2 * k + 1))) (C (2 * (2 * k + 1)))) ∧ V.cell? ⟨g, k * 6 + 5, none⟩ = some (.slice (A (2 * (2 * k + 1) + 1)) (L (2 * (2 * k + 1) + 1)) (C (2 * (2 * k + 1) + 1)))) (hcp : N ≤ cp) :
    Calls Tryz.prog 24 #[.slice (some ⟨g, 0, none⟩) N cp] w fun e w' => ∃ v, e = .returned v ∧ w'.ownsRow w.heap.size 24 3 v (2 * N) (anCells B A L C (2 * N)) ∧ Below w.heap.size w w' := by
  obtain ⟨i0, hi, hz0, hz1, hz2⟩ := info_parts Tryz.infoKg
  have HK := hid hk
  clear hk
  go_enter Tryz.func24, Tryz.ntmps24
  go_wp2_with fail
  go_loopw [3, 4] (fun v t wr => ∃ (k : Nat) (q : Option Addr) (d : Nat), k ≤ N ∧ t = .int .i64 k ∧ v = .slice q (2 * k) d ∧ Hid (wr.ownsRow w.heap.size 24 3 (.slice q (2 * k) d) (2 * k) (anCells B A L C (2 * k))) ∧ Hid (Below w.heap.size w wr)) (fun _ t _ => N - (intOf t).toNat)
  case atStart => exact ⟨0, none, 0, Nat.zero_le _, rfl, rfl, World.ownsRow_nil _ _ _ _, Below.refl _ _⟩
  case round =>
    obtain ⟨k, q, d, hkN, rfl, rfl, HO, HB⟩ := hrel
    by_cases hlt : k < N
    · have hk0 : (0 : Int) ≤ ↑k := by omega
      have hk1 : (↑k : Int) < ↑N := by omega
      obtain ⟨e0, e1, e2, e3, e4, e5⟩ := HK.out wr HB.out k hlt
      have hs0 := HK.out _ HB.out.drew k hlt
      have hbA : Below w.heap.size w (wr.alloc (.cells #[.bool (B (2 * k)), .slice (A (2 * (2 * k))) (L (2 * (2 * k))) (C (2 * (2 * k))), .slice (A (2 * (2 * k) + 1)) (L (2 * (2 * k) + 1)) (C (2 * (2 * k) + 1)), .bool (B (2 * k + 1)), .slice (A (2 * (2 * k + 1))) (L (2 * (2 * k + 1))) (C (2 * (2 * k + 1))), .slice (A (2 * (2 * k + 1) + 1)) (L (2 * (2 * k + 1) + 1)) (C (2 * (2 * k + 1) + 1))] 24)).drew := (bt HB.out (alloc_later wr _)).drew
      have HOA : Hid ((wr.alloc (.cells #[.bool (B (2 * k)), .slice (A (2 * (2 * k))) (L (2 * (2 * k))) (C (2 * (2 * k))), .slice (A (2 * (2 * k) + 1)) (L (2 * (2 * k) + 1)) (C (2 * (2 * k) + 1)), .bool (B (2 * k + 1)), .slice (A (2 * (2 * k + 1))) (L (2 * (2 * k + 1))) (C (2 * (2 * k + 1))), .slice (A (2 * (2 * k + 1) + 1)) (L (2 * (2 * k + 1) + 1)) (C (2 * (2 * k + 1) + 1))] 24)).drew.ownsRow w.heap.size 24 3 (.slice q (2 * k) d) (2 * k) (anCells B A L C (2 * k))) := kg_later3 HO.out (bt (alloc_later wr _) (Below.drew (Below.refl _ _)))
      have hsA := HK.out _ hbA k hlt
      have hsz := HB.out.size
      go_wp2_with fail
      go_region_held3 (fun V : World => V.cell? ⟨g, k * 6, none⟩ = some (.bool (B (2 * k))) ∧ V.cell? ⟨g, k * 6 + 1, none⟩ = some (.slice (A (2 * (2 * k))) (L (2 * (2 * k))) (C (2 * (2 * k)))) ∧ V.cell? ⟨g, k * 6 + 2, none⟩ = some (.slice (A (2 * (2 * k) + 1)) (L (2 * (2 * k) + 1)) (C (2 * (2 * k) + 1))) ∧ V.cell? ⟨g, k * 6 + 3, none⟩ = some (.bool (B (2 * k + 1))) ∧ V.cell? ⟨g, k * 6 + 4, none⟩ = some (.slice (A (2 * (2 * k + 1))) (L (2 * (2 * k + 1))) (C (2 * (2 * k + 1)))) ∧ V.cell? ⟨g, k * 6 + 5, none⟩ = some (.slice (A (2 * (2 * k + 1) + 1)) (L (2 * (2 * k + 1) + 1)) (C (2 * (2 * k + 1) + 1)))) (first | exact hs0 | exact hsA | exact hs1 | go_keep)
        (first | (refine step_append_own rfl (.tmp 11) (.tmp 22) 40 rfl w.heap.size 24 i0 (.agg #[.bool false, .slice none 0 0, .slice none 0 0]) 3 56 Tryz.underlying40 hi hz0 hz1 hz2 rfl (by decide) (.slice q (2 * k) d) (2 * k) (anCells B A L C (2 * k)) rfl HOA.out ⟨wr.heap.size, 0, none⟩ 2 2 [.bool (B (2 * k)), .slice (A (2 * (2 * k))) (L (2 * (2 * k))) (C (2 * (2 * k))), .slice (A (2 * (2 * k) + 1)) (L (2 * (2 * k) + 1)) (C (2 * (2 * k) + 1)), .bool (B (2 * k + 1)), .slice (A (2 * (2 * k + 1))) (L (2 * (2 * k + 1))) (C (2 * (2 * k + 1))), .slice (A (2 * (2 * k + 1) + 1)) (L (2 * (2 * k + 1) + 1)) (C (2 * (2 * k + 1) + 1))] rfl rfl (kg_six_cells wr _ _ _ _ _ _ _) (by simp [Value.oneCell']) (by unfold maxLen; omega) (by omega) hbA.size ?_; intro v1 w1 o1 gr1; have hs1 := HK.out _ (hbA.grown gr1 hbA.size (fun k hk => (HOA.out.lt k hk).1)) k hlt))
      have hb1 : Below w.heap.size w w1 := hbA.grown gr1 hbA.size (fun k hk => (HOA.out.lt k hk).1)
      obtain ⟨q1, d1, hv1⟩ := kg_slice3 o1
      subst hv1
      rw [← anCells_two] at o1
      have HO1 := hid o1
      have HB1 := hid hb1
      clear o1 gr1 hb1 HOA hbA hsA hs0 hs1 e0 e1 e2 e3 e4 e5 hsz HO HB
      go_wp2_with fail
      go_roundw
      case rel => exact ⟨k + 1, q1, d1, by omega, by go_num, rfl, HO1, HB1⟩
      case measure => simp [intOf]; omega
    · obtain rfl : k = N := by omega
      have hk1 : ¬ (↑k : Int) < ↑k := by omega
      go_wp2_with fail
      go_ret
      exact ⟨_, rfl, HO.out, HB.out⟩

end Go.Proofs.YtopogjfmocpeaaaGreat

/- ApartWords, ApartRatios of any number of fractions: what is no list of words stands as it was. (tools/mkapk.py) -/
namespace Go.Proofs.YtopogjfmocpeaaaGreat
open Go.RowKit
set_option linter.unusedVariables false

/-- The second loop: the first k lists are written over; the copies are as they were. -/
structure I2k (w : World) (base bl gw m : Nat) (V U : Nat → Value) (X : Nat → List Int) (k : Nat) (wr : World) : Prop where
  lists : ∀ j, j < m → wr.ownsRow base 68 1 (V j) (X j).length ((if j < k then compl (X j) else X j).map (Value.int .u32))
  was : ∀ j, j < m → wr.ownsRow (gw + 1) 68 1 (U j) (X j).length ((X j).map (Value.int .u32))
  low : ∀ j, j < m → ∀ g, (V j).ownBlock = some g → g < gw
  rowL : ∃ cl : Array Value, wr.heap[bl]? = some (.cells cl 22 (0, 0)) ∧ ∀ j, j < m → cl[j]? = some (V j)
  rowW : ∃ cl : Array Value, wr.heap[gw]? = some (.cells cl 22 (0, 0)) ∧ ∀ j, j < m → cl[j]? = some (U j)
  below : Below base w wr
  keep : ∀ (b : Nat) (o : Obj), w.heap[b]? = some o → (∀ (cl : Array Value) t, o ≠ Obj.cells cl 68 t) → wr.heap[b]? = some o

theorem I2k.later {w wr wa : World} {base bl gw m k : Nat} {V U : Nat → Value} {X : Nat → List Int} (h : I2k w base bl gw m V U X k wr) (hb : Below wr.heap.size wr wa) (hbs : base ≤ wr.heap.size) : I2k w base bl gw m V U X k wa where
  lists j hj := owns_later (h.lists j hj) hb
  was j hj := owns_later (h.was j hj) hb
  low := h.low
  rowL := by
    obtain ⟨cl, h1, h2⟩ := h.rowL
    exact ⟨cl, (hb.block _ (block_lt h1)).trans h1, h2⟩
  rowW := by
    obtain ⟨cl, h1, h2⟩ := h.rowW
    exact ⟨cl, (hb.block _ (block_lt h1)).trans h1, h2⟩
  below := h.below.trans (hb.mono hbs)
  keep b o h1 h2 := by
    have h3 := h.keep b o h1 h2
    exact (hb.block _ (block_lt h3)).trans h3

theorem I2k.step {w wa wb : World} {base bl gw m k : Nat} {V U : Nat → Value} {X : Nat → List Int} (h : I2k w base bl gw m V U X k wa) (hk : k < m) (hbs : base ≤ wa.heap.size)
    (ap : ∀ i j, i < m → j < m → i ≠ j → (V i).ownBlock = none ∨ (V i).ownBlock ≠ (V j).ownBlock)
    (ho : wb.ownsRow base 68 1 (V k) (X k).length ((compl (X k)).map (Value.int .u32))) (hg : wa.grownBy wb (V k).ownBlock) : I2k w base bl gw m V U X (k + 1) wb where
  lists j hj := by
    by_cases e : j = k
    · subst e; rw [if_pos (by omega)]; exact ho
    · have := (h.lists j hj).kept hg (ap j k hj hk e)
      by_cases e2 : j < k
      · rw [if_pos e2] at this; rw [if_pos (by omega)]; exact this
      · rw [if_neg e2] at this; rw [if_neg (by omega)]; exact this
  was j hj := by
    refine (h.was j hj).kept hg ?_
    cases hv : (U j).ownBlock with
    | none => exact .inl rfl
    | some g =>
      right
      intro e
      have h1 := ((h.was j hj).lt g hv).1
      have h2 := h.low k hk g e.symm
      omega
  low := h.low
  rowL := by
    obtain ⟨cl, h1, h2⟩ := h.rowL
    refine ⟨cl, ?_, h2⟩
    rw [hg.block bl (block_lt h1) (fun e => ?_)]
    · exact h1
    · rcases (h.lists k hk).2 with ⟨hv, _⟩ | ⟨g, cap, cur, hv, _, hgc, _⟩
      · rw [hv] at e; simp [Value.ownBlock] at e
      · rw [hv] at e
        simp [Value.ownBlock] at e
        subst e
        rw [h1] at hgc
        simp at hgc
  rowW := by
    obtain ⟨cl, h1, h2⟩ := h.rowW
    refine ⟨cl, ?_, h2⟩
    rw [hg.block gw (block_lt h1) (fun e => ?_)]
    · exact h1
    · have := h.low k hk gw e.symm
      omega
  below := h.below.grown hg hbs (fun g e => ((h.lists k hk).lt g e).1)
  keep b o h1 h2 := by
    have h3 := h.keep b o h1 h2
    rw [hg.block b (block_lt h3) (fun e => ?_)]
    · exact h3
    · rcases (h.lists k hk).2 with ⟨hv, _⟩ | ⟨g, cap, cur, hv, _, hgc, _⟩
      · rw [hv] at e; simp [Value.ownBlock] at e
      · rw [hv] at e
        simp [Value.ownBlock] at e
        subst e
        rw [h3] at hgc
        exact h2 _ _ (Option.some.inj hgc)

set_option maxHeartbeats 3200000 in
set_option maxRecDepth 100000 in
theorem apart_capk (base bl m cp : Nat) (V : Nat → Value) (X : Nat → List Int) (w : World) (h : Lists w base bl m V X) (hm : m ≤ 1000) (hbs : base ≤ w.heap.size) (hcp : m ≤ cp) :
    Calls Tryz.prog 45 #[.slice (some ⟨bl, 0, none⟩) m cp] w fun e w' => e = .returned (.bool true) ∧ Below base w w' ∧ (∀ (b : Nat) (o : Obj), w.heap[b]? = some o → (∀ (cl : Array Value) t, o ≠ Obj.cells cl 68 t) → w'.heap[b]? = some o) := by
  obtain ⟨i0, hi, hz0, hz1, hz2⟩ := info_parts Tryz.infoL
  obtain ⟨hwd, hlen, hown, hap, hrow⟩ := h
  have hbl : bl < w.heap.size := by obtain ⟨cl, h1, _⟩ := hrow; exact block_lt h1
  have HO := hid hown
  have HA := hid hap
  have HR := hid hrow
  have HW := hid hwd
  have HN := hid hlen
  clear hown hap hrow hwd hlen
  go_enter Tryz.func45, Tryz.ntmps45
  go_wp2_with (at_make; refine wpList_make_full _ rfl _ _ 58 rfl w.heap.size 22 i0 (.slice none 0 0) 1 Tryz.underlying58 hi hz0 hz1 _ _ _ _ m rfl rfl (by omega) (by omega) (by rw [hz2]; omega) (by unfold maxLen; omega) (Nat.le_refl _) ?_)
  intro w1 hown1 hgrow1
  have H1 : Hid (I1 w m X 0 w1) := ⟨_, by have := hown1.1; omega, row_whole hown1, fun j hj => by omega, (Below.refl _ _).grown hgrow1 (Nat.le_refl _) (fun k hk => by simp at hk)⟩
  clear hown1 hgrow1
  go_wp2_with fail
  go_loopw [4] (fun t wr => ∃ k : Nat, k ≤ m ∧ t = .int .i64 k ∧ Hid (I1 w m X k wr)) (fun t _ => m - (intOf t).toNat)
  case atStart => exact ⟨0, by omega, rfl, H1⟩
  case round =>
    obtain ⟨k, hk, rfl, HI⟩ := hrel
    by_cases hlt : k < m
    · obtain ⟨us, ul, ug, uu, ub⟩ := HI.out
      have hgw := block_lt ug
      have ubs := ub.size
      have hcl : wr.cell? ⟨bl, k, none⟩ = some (V k) := (ub.cell (p := ⟨bl, k, none⟩) hbl).trans (row_cell HR.out k hlt)
      have hsl : Sl wr (V k) (X k) := (Sl.own (HO.out k hlt) (HW.out k hlt)).later ub
      have hX := HN.out k hlt
      have HS := hid hsl
      obtain ⟨a1, c1, hv, hr⟩ := hsl
      rw [hv] at hcl
      clear uu ub hr
      go_wp2_with fail
      rw [← hv]
      refine (copyWords_sl _ (X k) _ HS.out hX).mono ?_
      rintro e w2 ⟨v, rfl, ho2, hb2⟩
      have HI2 := hid (HI.out.step hlt ho2 hb2)
      have hc2 : w2.cell? ⟨w.heap.size, k, none⟩ = some (us.toArray[k]?.getD undef) := by
        rw [cell_of_row w2 w.heap.size k us.toArray 22 (0, 0) ((hb2.block _ hgw).trans ug)]
        simp [ul, hlt]
      have hf2 : w2.frozen? ⟨w.heap.size, k, none⟩ = false := frozen_of_row w2 w.heap.size k us.toArray 22 ((hb2.block _ hgw).trans ug)
      obtain ⟨a3, c3, hv3, _⟩ := Sl.own ho2 (HW.out k hlt)
      rw [hv3] at HI2 ⊢
      clear ho2 hb2 ug
      go_wp2_with fail
      go_roundw
      case rel => exact ⟨k + 1, by omega, by go_num, HI2⟩
      case measure => simp [intOf]; omega
    · have hkm : k = m := by omega
      subst hkm
      obtain ⟨us, ul, ug, uu, ub⟩ := HI.out
      obtain ⟨w2, hw2⟩ : ∃ w2 : World, w2 = wr := ⟨_, rfl⟩
      subst hw2
      obtain ⟨gw, hgw⟩ : ∃ gw, gw = w.heap.size := ⟨_, rfl⟩
      have H2 : Hid (I2k w base bl gw k V (fun j => us[j]?.getD undef) X 0 w2) := by
        subst hgw
        refine ⟨fun j hj => ?_, fun j hj => ?_, fun j hj g e => ((HO.out j hj).lt g e).2, ?_, ⟨us.toArray, ug, fun j hj => ?_⟩, ub.mono hbs, fun b o h1 h2 => (ub.block _ (block_lt h1)).trans h1⟩
        · rw [if_neg (by omega)]; exact owns_later (HO.out j hj) ub
        · obtain ⟨u, h1, h2⟩ := uu j hj
          simp only [h1]; exact h2
        · obtain ⟨cl, h1, h2⟩ := HR.out
          exact ⟨cl, (ub.block _ (block_lt h1)).trans h1, h2⟩
        · simp [ul, hj]
      obtain ⟨U, hU⟩ : ∃ U : Nat → Value, U = fun j => us[j]?.getD undef := ⟨_, rfl⟩
      rw [← hU] at H2
      have hgwl : gw < w2.heap.size := by rw [hgw]; exact block_lt ug
      have hb2 : base ≤ w2.heap.size := by omega
      rw [← hgw]
      clear hU ug uu ub HI ul hgw HO HR H1
      go_wp2_with fail
      go_loopw [5] (fun t wr => ∃ i : Nat, i ≤ k ∧ t = .int .i64 i ∧ Hid (I2k w base bl gw k V U X i wr) ∧ w2.heap.size ≤ wr.heap.size) (fun t _ => k - (intOf t).toNat)
      case atStart => exact ⟨0, by omega, rfl, H2, Nat.le_refl _⟩
      case round =>
        obtain ⟨i, hi', rfl, HJ, hws⟩ := hrel
        by_cases hlt : i < k
        · have hcl : wr.cell? ⟨bl, i, none⟩ = some (V i) := row_cell HJ.out.rowL i hlt
          have hcw : wr.cell? ⟨gw, i, none⟩ = some (U i) := row_cell HJ.out.rowW i hlt
          have sv : Sl wr (V i) (X i) := by
            have := HJ.out.lists i hlt
            rw [if_neg (by omega)] at this
            exact Sl.own this (HW.out i hlt)
          have su : Sl wr (U i) (X i) := Sl.own (HJ.out.was i hlt) (HW.out i hlt)
          have hX := HN.out i hlt
          obtain ⟨a1, c1, hv1, hr1⟩ := sv
          obtain ⟨a2, c2, hv2, hr2⟩ := su
          rw [hv1] at hcl
          rw [hv2] at hcw
          have hcld : wr.drew.cell? ⟨bl, i, none⟩ = some (.slice a1 (X i).length c1) := hcl
          have hcwd : wr.drew.cell? ⟨gw, i, none⟩ = some (.slice a2 (X i).length c2) := hcw
          have HC := hid (same_any a1 _ c1 (X i) a2 _ c2 (X i) wr.drew hr1 hr2 (by omega) (by omega))
          clear hr1 hr2
          go_wp2_with fail
          go_region_with (go_at_call 43; refine Calls.mono HC.out ?_; rintro e wa ⟨rfl, hba⟩)
          all_goals
            have hbw : Below wr.heap.size wr wa := ((Below.refl _ wr).drew).trans hba
            have HJ2 := hid (HJ.out.later hbw (by omega))
            have hsz2 := hbw.size
            have hcl2 : wa.cell? ⟨bl, i, none⟩ = some (V i) := row_cell HJ2.out.rowL i hlt
            rw [hv1] at hcl2
            have hown : wa.ownsRow base 68 1 (V i) (X i).length ((X i).map (Value.int .u32)) := by
              have := HJ2.out.lists i hlt
              rwa [if_neg (by omega)] at this
            have HOV := hid (over_sl base _ _ (X i) wa (HW.out i hlt) hown)
            have hdd : decide (X i = X i) = true := by simp
            clear hba hbw hown hcl hcw hcld hcwd HC
            go_wp2_with fail
            rw [← hv1]
            refine Calls.mono HOV.out ?_
            rintro e wb ⟨rfl, hob, hgb⟩
            have HJ3 := hid (HJ2.out.step hlt (by omega) HA.out hob hgb)
            have hs3 := hgb.size
            rw [hv1]
            clear hob hgb
            go_wp2_with fail
            go_roundw
            case rel => exact ⟨i + 1, by omega, by go_num, HJ3, by omega⟩
            case measure => simp [intOf]; omega
        · have hik : i = k := by omega
          subst hik
          obtain ⟨w3, hw3⟩ : ∃ w3 : World, w3 = wr := ⟨_, rfl⟩
          subst hw3
          have hws3 := hws
          have facts : ∀ wr, Below w3.heap.size w3 wr → ∀ c, c < i → ∃ a1 c1 a2 c2, wr.cell? ⟨bl, c, none⟩ = some (.slice a1 (X c).length c1) ∧ wr.cell? ⟨gw, c, none⟩ = some (.slice a2 (X c).length c2) ∧
              ((X c).length = 0 ∨ ∃ b1 o1 b2 o2, a1 = some ⟨b1, o1, none⟩ ∧ a2 = some ⟨b2, o2, none⟩ ∧ (∀ j, j < (X c).length → wr.cell? ⟨b1, o1 + j, none⟩ = some (.int .u32 (4294967295 - (X c)[j]?.getD 0))) ∧
                (∀ j, j < (X c).length → wr.cell? ⟨b2, o2 + j, none⟩ = some (.int .u32 ((X c)[j]?.getD 0)))) := by
            intro wr hb c hc
            have HJ' := HJ.out.later hb (by omega)
            have hcl : wr.cell? ⟨bl, c, none⟩ = some (V c) := row_cell HJ'.rowL c hc
            have hcw : wr.cell? ⟨gw, c, none⟩ = some (U c) := row_cell HJ'.rowW c hc
            have hl := HJ'.lists c hc
            rw [if_pos hc] at hl
            obtain ⟨a1, c1, hv1, r1⟩ := Reads.own hl (HW.out c hc).compl
            obtain ⟨a2, c2, hv2, r2⟩ := Reads.own (HJ'.was c hc) (HW.out c hc)
            refine ⟨a1, c1, a2, c2, by rw [hcl, hv1], by rw [hcw, hv2], ?_⟩
            by_cases h0 : (X c).length = 0
            · exact .inl h0
            · right
              rcases r1.2.2.1 with e | ⟨b1, o1, e1, _, g1⟩
              · omega
              · rcases r2.2.2.1 with e | ⟨b2, o2, e2, _, g2⟩
                · omega
                · exact ⟨b1, o1, b2, o2, e1, e2, fun j hj => by rw [g1 j hj, compl_get _ j hj], g2⟩
          have HB := hid HJ.out.below
          have HKP := hid HJ.out.keep
          have HF := hid facts
          clear facts HJ H2 hi'
          go_wp2_with fail
          go_loopw [6] (fun t wr => ∃ c : Nat, c ≤ i ∧ t = .int .i64 c ∧ Below w3.heap.size w3 wr) (fun t _ => i - (intOf t).toNat)
          case atStart => exact ⟨0, by omega, rfl, Below.refl _ _⟩
          case round =>
            obtain ⟨c, hc, rfl, hb3⟩ := hrel
            by_cases hlt : c < i
            · obtain ⟨w4, hw4⟩ : ∃ w4 : World, w4 = wr := ⟨_, rfl⟩
              subst hw4
              have hX := HN.out c hlt
              have hwc := HW.out c hlt
              obtain ⟨n, hn⟩ : ∃ n, n = (X c).length := ⟨_, rfl⟩
              rw [← hn] at hX
              have HNN := hid hn
              clear hn
              go_wp2_with fail
              go_loopw [7] (fun t wr => ∃ k : Nat, k ≤ n ∧ t = .int .i64 k ∧ Below w3.heap.size w3 wr) (fun t _ => n - (intOf t).toNat)
              case atStart => exact ⟨0, by omega, rfl, hb3⟩
              case round =>
                obtain ⟨k, hk, rfl, hb4⟩ := hrel
                obtain ⟨a1, c1, a2, c2, f1, f2, f3⟩ := HF.out wr hb4 c hlt
                rw [← HNN.out] at f1 f2 f3
                by_cases hkn : k < n
                · rcases f3 with f3 | ⟨b1, o1, b2, o2, e1, e2, g1, g2⟩
                  · omega
                  · have x1 := g1 k hkn
                    have x2 := g2 k hkn
                    rw [e1] at f1
                    rw [e2] at f2
                    have hbd := hwc.at k
                    obtain ⟨z, hz⟩ : ∃ z, z = (X c)[k]?.getD 0 := ⟨_, rfl⟩
                    rw [← hz] at x1 x2 hbd
                    have hnot := not_u32 z hbd.1 hbd.2
                    have f1d : wr.drew.cell? ⟨bl, c, none⟩ = some (.slice (some ⟨b1, o1, none⟩) n c1) := f1
                    have f2d : wr.drew.cell? ⟨gw, c, none⟩ = some (.slice (some ⟨b2, o2, none⟩) n c2) := f2
                    have x1d : wr.drew.cell? ⟨b1, o1 + k, none⟩ = some (.int .u32 (4294967295 - z)) := x1
                    have x2d : wr.drew.cell? ⟨b2, o2 + k, none⟩ = some (.int .u32 z) := x2
                    have hne : (4294967295 - z != 4294967295 - z) = false := by simp
                    clear hz e1 e2 g1 g2
                    go_wp2
                    go_region
                    all_goals go_wp2
                    all_goals
                      go_roundw
                      case rel => exact ⟨k + 1, by omega, by go_num, hb4.drew⟩
                      case measure => simp [intOf]; omega
                · clear f3
                  go_wp2
                  go_roundw
                  case rel => exact ⟨c + 1, by omega, by go_num, hb4⟩
                  case measure => simp [intOf]; omega
            · go_wp2
              go_ret
              exact ⟨rfl, HB.out.trans (hb3.mono (by omega)), fun b o h1 h2 => (hb3.block _ (block_lt (HKP.out b o h1 h2))).trans (HKP.out b o h1 h2)⟩

set_option maxHeartbeats 1600000 in
set_option maxRecDepth 100000 in
theorem apartRatiosNk (base N g cp : Nat) (B : Nat → Bool) (A : Nat → Option Addr) (L C : Nat → Nat) (X : Nat → List Int) (w : World) (hN : N ≤ 500) (hN0 : 0 < N)
    (hk : ∀ V, Below w.heap.size w V → ∀ k, k < N → V.cell? ⟨g, k * 3, none⟩ = some (.bool (B k)) ∧ V.cell? ⟨g, k * 3 + 1, none⟩ = some (.slice (A (2 * k)) (L (2 * k)) (C (2 * k))) ∧ V.cell? ⟨g, k * 3 + 2, none⟩ = some (.slice (A (2 * k + 1)) (L (2 * k + 1)) (C (2 * k + 1))))
    (hbs : base ≤ w.heap.size) (hcp : N ≤ cp) (hwd : ∀ j, j < 2 * N → Wd (X j)) (hlen : ∀ j, j < 2 * N → (X j).length ≤ 1099511627776)
    (hown : ∀ j, j < 2 * N → w.ownsRow base 68 1 (.slice (A j) (L j) (C j)) (X j).length ((X j).map (Value.int .u32)))
    (hap : ∀ i j, i < 2 * N → j < 2 * N → i ≠ j → (Value.slice (A i) (L i) (C i)).ownBlock = none ∨ (Value.slice (A i) (L i) (C i)).ownBlock ≠ (Value.slice (A j) (L j) (C j)).ownBlock) :
    Calls Tryz.prog 23 #[.slice (some ⟨g, 0, none⟩) N cp] w fun e w' => e = .returned (.bool true) ∧ Below base w w' ∧ (∀ (b : Nat) (o : Obj), w.heap[b]? = some o → (∀ (cl : Array Value) t, o ≠ Obj.cells cl 68 t) → w'.heap[b]? = some o) := by
  obtain ⟨i0, hi, hz0, hz1, hz2⟩ := info_parts Tryz.infoL
  have HF := hid (And.intro hwd (And.intro hlen (And.intro hown hap)))
  have HK := hid hk
  have HBS := hid hbs
  clear hk hwd hlen hown hap hbs
  go_enter Tryz.func23, Tryz.ntmps23
  go_wp2_with fail
  go_loopw [3, 4] (fun v t wr => ∃ (k : Nat) (q : Option Addr) (d : Nat), k ≤ N ∧ t = .int .i64 k ∧ v = .slice q (2 * k) d ∧ Hid (wr.ownsRow w.heap.size 22 1 (.slice q (2 * k) d) (2 * k) (anRow A L C (2 * k))) ∧ Hid (Below w.heap.size w wr)) (fun _ t _ => N - (intOf t).toNat)
  case atStart => exact ⟨0, none, 0, Nat.zero_le _, rfl, rfl, World.ownsRow_nil _ _ _ _, Below.refl _ _⟩
  case round =>
    obtain ⟨k, q, d, hkN, rfl, rfl, HO, HB⟩ := hrel
    by_cases hlt : k < N
    · have hk0 : (0 : Int) ≤ ↑k := by omega
      have hk1 : (↑k : Int) < ↑N := by omega
      obtain ⟨e0, e1, e2⟩ := HK.out wr HB.out k hlt
      have hs0 := HK.out _ HB.out.drew k hlt
      have hbA : Below w.heap.size w (wr.alloc (.cells #[.slice (A (2 * k)) (L (2 * k)) (C (2 * k)), .slice (A (2 * k + 1)) (L (2 * k + 1)) (C (2 * k + 1))] 22)).drew := (bt HB.out (alloc_later wr _)).drew
      have HOA : Hid ((wr.alloc (.cells #[.slice (A (2 * k)) (L (2 * k)) (C (2 * k)), .slice (A (2 * k + 1)) (L (2 * k + 1)) (C (2 * k + 1))] 22)).drew.ownsRow w.heap.size 22 1 (.slice q (2 * k) d) (2 * k) (anRow A L C (2 * k))) := owns_later HO.out (bt (alloc_later wr _) (Below.drew (Below.refl _ _)))
      have hsA := HK.out _ hbA k hlt
      have hsz := HB.out.size
      go_wp2_with fail
      go_region_held3 (fun V : World => V.cell? ⟨g, k * 3, none⟩ = some (.bool (B k)) ∧ V.cell? ⟨g, k * 3 + 1, none⟩ = some (.slice (A (2 * k)) (L (2 * k)) (C (2 * k))) ∧ V.cell? ⟨g, k * 3 + 2, none⟩ = some (.slice (A (2 * k + 1)) (L (2 * k + 1)) (C (2 * k + 1)))) (first | exact hs0 | exact hsA | exact hs1 | go_keep)
        (first | (refine step_append_own rfl (.tmp 11) (.tmp 22) 58 rfl w.heap.size 22 i0 (.slice none 0 0) 1 24 Tryz.underlying58 hi hz0 hz1 hz2 rfl (by decide) (.slice q (2 * k) d) (2 * k) (anRow A L C (2 * k)) rfl HOA.out ⟨wr.heap.size, 0, none⟩ 2 2 [.slice (A (2 * k)) (L (2 * k)) (C (2 * k)), .slice (A (2 * k + 1)) (L (2 * k + 1)) (C (2 * k + 1))] rfl rfl (two_cells wr _ _ _) (by simp [Value.oneCell']) (by unfold maxLen; omega) (by omega) hbA.size ?_; intro v1 w1 o1 gr1; have hs1 := HK.out _ (hbA.grown gr1 hbA.size (fun k hk => (HOA.out.lt k hk).1)) k hlt))
      have hb1 : Below w.heap.size w w1 := hbA.grown gr1 hbA.size (fun k hk => (HOA.out.lt k hk).1)
      obtain ⟨q1, d1, hv1⟩ := own_slice o1
      subst hv1
      rw [← anRow_two] at o1
      have HO1 := hid o1
      have HB1 := hid hb1
      clear o1 gr1 hb1 HOA hbA hsA hs0 hs1 e0 e1 e2 hsz HO HB
      go_wp2_with fail
      go_roundw
      case rel => exact ⟨k + 1, q1, d1, by omega, by go_num, rfl, HO1, HB1⟩
      case measure => simp [intOf]; omega
    · have hkk : k = N := by omega
      subst hkk
      have hk1 : ¬ (↑k : Int) < ↑k := by omega
      obtain ⟨gl, hq, hd⟩ : ∃ gl, q = some ⟨gl, 0, none⟩ ∧ 2 * k ≤ d := by
        rcases HO.out.2 with ⟨_, h0⟩ | ⟨g', cap, cur, hv, _, _, h1, _⟩
        · omega
        · cases hv; exact ⟨g', rfl, h1⟩
      subst hq
      have HLs : Hid (Lists wr base gl (2 * k) (fun j => .slice (A j) (L j) (C j)) X) := by
        obtain ⟨cl, hg, hcl⟩ := own_row HO.out
        exact ⟨HF.out.1, HF.out.2.1, fun j hj => owns_later (HF.out.2.2.1 j hj) HB.out, HF.out.2.2.2, ⟨cl, hg, fun j hj => by rw [hcl j hj]; exact anRow_get A L C _ j hj⟩⟩
      have HAP := hid (apart_capk base gl (2 * k) d _ X wr HLs.out (by omega) (by have h1 := HB.out.size; have h2 := HBS.out; omega) hd)
      have HBB := hid (HB.out.mono HBS.out)
      have HBC := hid HB.out
      clear HO HB HLs hd HF HK
      go_wp2_with fail
      refine Calls.mono HAP.out ?_
      rintro e w2 ⟨rfl, hb2, hk2⟩
      have HK2 := hid hk2
      have HB2 := hid (HBB.out.trans hb2)
      clear HAP hb2 hk2
      go_wp2_with fail
      go_ret
      exact ⟨rfl, HB2.out, fun b o h1 h2 => HK2.out b o ((HBC.out.block _ (block_lt h1)).trans h1) h2⟩
end Go.Proofs.YtopogjfmocpeaaaGreat

/- The first statement of the law GaussParts: two copies lent, in whatever order its parts are done. (tools/mkgparts.py) -/
namespace Go.Proofs.YtopogjfmocpeaaaGreat
open Go.RowKit
set_option linter.unusedVariables false
set_option linter.unusedSimpArgs false

theorem kpq_len {e : Int} {q : Rat} {n : Bool} {xs ys : List Int} {c : Int} (h : RTells e q n xs ys c) : xs.length ≤ 2048 := by
  by_cases he : e = 0
  · by_cases hl : rlong q
    · rw [(h.long he hl).2.1]; simp
    · have := (rchk_ok (h.good he hl).2.1).1; omega
  · rw [(h.bad he).2.1]; simp
theorem kpq_len2 {e : Int} {q : Rat} {n : Bool} {xs ys : List Int} {c : Int} (h : RTells e q n xs ys c) : ys.length ≤ 2048 := by
  by_cases he : e = 0
  · by_cases hl : rlong q
    · rw [(h.long he hl).2.2.1]; simp
    · have := (rchk_ok (h.good he hl).2.1).2.1; omega
  · rw [(h.bad he).2.2.1]; simp
theorem kpq_dr {V : World} {p t : Nat} {vs : Array Value} (h : Box V p t vs) : Box V.drew p t vs := h
theorem kpq_kl3 {V : World} {p t : Nat} {v0 v1 v2 : Value} (h : Box V p t #[v0, v1, v2]) : V.cell? ⟨p, 0, none⟩ = some v0 ∧ V.cell? ⟨p, 1, none⟩ = some v1 ∧ V.cell? ⟨p, 2, none⟩ = some v2 := ⟨h.cell 0, h.cell 1, h.cell 2⟩
theorem kpq_kept {V w' : World} {b t : Nat} {vs : Array Value} (h : Box V b t vs) (ht : t ≠ 68) (hk : ∀ (b : Nat) (o : Obj), V.heap[b]? = some o → (∀ (cl : Array Value) t, o ≠ Obj.cells cl 68 t) → w'.heap[b]? = some o) : Box w' b t vs := hk b _ h (fun cl t' e => by cases e; exact ht rfl)
theorem kpq_base3 {w : World} {base base' e : Nat} {v : Value} {n : Nat} {xs : List Value} (h : w.ownsRow base e 3 v n xs) (hb : base' ≤ base) : w.ownsRow base' e 3 v n xs := by
  refine ⟨h.1, h.2.imp id ?_⟩
  rintro ⟨g, cap, cur, rfl, hbg, hr⟩
  exact ⟨g, cap, cur, rfl, by omega, hr⟩
theorem kpq_six {w : World} {g t : Nat} {u0 u1 u2 u3 u4 u5 : Value} (hb : Box w g t #[u0, u1, u2, u3, u4, u5]) : ∀ j u, [u0, u1, u2, u3, u4, u5][j]? = some u → w.cell? ((⟨g, 0, none⟩ : Addr).add j) = some u := by
  intro j u h
  match j, h with
  | 0, h => obtain rfl : u0 = u := by simpa using h
            exact hb.cell 0
  | 1, h => obtain rfl : u1 = u := by simpa using h
            exact hb.cell 1
  | 2, h => obtain rfl : u2 = u := by simpa using h
            exact hb.cell 2
  | 3, h => obtain rfl : u3 = u := by simpa using h
            exact hb.cell 3
  | 4, h => obtain rfl : u4 = u := by simpa using h
            exact hb.cell 4
  | 5, h => obtain rfl : u5 = u := by simpa using h
            exact hb.cell 5
  | n + 6, h => simp at h
/-- An append as a step of a region, guarded or not. -/
theorem step_append_g {P : Program} {ops : Array Oper} {o : Oper} {a : Act} {w : World} {K : Act → World → Prop} {Q : Exit → Act → World → Prop} {E : Prop}
    (hw : Region.wanted o (yielded ops a.tmps) = true) (s x : Operand) (t : TypeId) (hop : o.op = Op.call { callee := Callee.builtin Builtin.append, args := #[s, x], argTypes := #[t, t] })
    (base : Nat) (e : TypeId) (i : TypeInfo) (z : Value) (size bytes : Nat) (h1 : P.underlying t = some (.slice e)) (h2 : P.info? e = some i) (h3 : i.zero = some z) (h4 : i.size = size) (h5 : i.bytes = bytes) (h6 : z.cells.size = size) (h7 : 0 < size)
    (v : Value) (n : Nat) (xs : List Value) (hs : a.eval s = v) (hown : w.ownsRow base e size v n xs)
    (ad : Addr) (m c : Nat) (news : List Value) (hx : a.eval x = .slice (some ad) m c) (hn : news.length = m * size) (hc : ∀ j u, news[j]? = some u → w.cell? (ad.add j) = some u) (h1c : ∀ u ∈ news, u.oneCell' = true)
    (b1 : n + m ≤ maxLen) (b2 : (n + m) * bytes ≤ 140737488355328) (hbase : base ≤ w.heap.size)
    (hK : ∀ v' w', w'.ownsRow base e size v' (n + m) (xs ++ news) → w.grownBy w' v.ownBlock → K (a.put o.dst v') w') :
    if Region.wanted o (yielded ops a.tmps) = true then Oper.wp P o a w K Q else E := by
  rw [if_pos hw]
  obtain ⟨v', w', hrun, r1, r2, _⟩ := run_append_own (P := P) w base t o.type e i z size bytes h1 h2 h3 h4 h5 h6 h7 v n xs hown ad m c news hn hc h1c b1 b2 hbase
  unfold Oper.wp
  simp [execOp, hop, resolve, invoke, builtin, hs, hx, hrun, Result.andThen]
  exact hK v' w' r1 r2
/-- Seven groups of four lists and two of two, each in a stretch of its own. -/
theorem kp_sixteen {v : Nat → Value} (rk lo up : Nat → Nat) (hr : ∀ a, a < 9 → ∀ b, b < 9 → a ≠ b → rk a ≠ rk b) (hr9 : ∀ a, a < 9 → rk a < 9) (hlh : ∀ t, t < 9 → lo t ≤ up t) (hch : ∀ t, t < 8 → up t ≤ lo (t + 1))
    (i4 : ∀ g, g < 7 → ∀ a, a < 4 → Within (v (4 * g + a)) (lo (rk g)) (up (rk g))) (i2 : ∀ g, g < 2 → ∀ a, a < 2 → Within (v (28 + 2 * g + a)) (lo (rk (7 + g))) (up (rk (7 + g))))
    (h4 : ∀ g, g < 7 → Kp4 (v (4 * g)) (v (4 * g + 1)) (v (4 * g + 2)) (v (4 * g + 3))) (h2 : ∀ g, g < 2 → Kp (v (28 + 2 * g)) (v (28 + 2 * g + 1))) :
    ∀ i j, i < 32 → j < 32 → i ≠ j → (v i).ownBlock = none ∨ (v i).ownBlock ≠ (v j).ownBlock := by
  have far : ∀ s t, s < t → t < 9 → up s ≤ lo t := by
    intro s t
    induction t with
    | zero => omega
    | succ t ih =>
      intro h1 h2
      rcases Nat.lt_or_ge s t with h | h
      · have q1 := ih h (by omega)
        have q2 := hlh t (by omega)
        have q3 := hch t (by omega)
        omega
      · obtain rfl : s = t := by omega
        exact hch s (by omega)
  have pos : ∀ i, i < 32 → ∃ g a, g < 9 ∧ Within (v i) (lo (rk g)) (up (rk g)) ∧ ((g < 7 ∧ a < 4 ∧ i = 4 * g + a) ∨ (7 ≤ g ∧ a < 2 ∧ i = 28 + 2 * (g - 7) + a)) := by
    intro i hi
    rcases Nat.lt_or_ge i 28 with h | h
    · refine ⟨i / 4, i % 4, by omega, ?_, .inl ⟨by omega, by omega, by omega⟩⟩
      have := i4 (i / 4) (by omega) (i % 4) (by omega)
      rwa [show 4 * (i / 4) + i % 4 = i by omega] at this
    · refine ⟨7 + (i - 28) / 2, (i - 28) % 2, by omega, ?_, .inr ⟨by omega, by omega, by omega⟩⟩
      have := i2 ((i - 28) / 2) (by omega) ((i - 28) % 2) (by omega)
      rwa [show 28 + 2 * ((i - 28) / 2) + (i - 28) % 2 = i by omega] at this
  intro i j hi hj hne
  obtain ⟨g, a, hg, hw, hc⟩ := pos i hi
  obtain ⟨g', a', hg', hw', hc'⟩ := pos j hj
  by_cases e : g = g'
  · subst e
    rcases hc with ⟨c1, c2, c3⟩ | ⟨c1, c2, c3⟩
    · rcases hc' with ⟨d1, d2, d3⟩ | ⟨d1, d2, d3⟩
      · subst c3 d3
        exact kp_four (v := fun k => v (4 * g + k)) (h4 g c1) a a' c2 d2 (by omega)
      · omega
    · rcases hc' with ⟨d1, d2, d3⟩ | ⟨d1, d2, d3⟩
      · omega
      · have q := h2 (g - 7) (by omega)
        subst c3 d3
        match a, c2, a', d2 with
        | 0, _, 0, _ => omega
        | 0, _, 1, _ => exact q
        | 1, _, 0, _ => exact q.turn
        | 1, _, 1, _ => omega
  · have h := hr g hg g' hg' e
    rcases Nat.lt_or_ge (rk g) (rk g') with h' | h'
    · exact Kp.far hw hw' (.inl (far _ _ h' (hr9 _ hg')))
    · exact Kp.far hw hw' (.inr (far _ _ (by omega) (hr9 _ hg)))
theorem kp4_of_cuts {W0 W1 W2 : World} {v u p q : Value} (h1 : Cut W0 v u W1) (h2 : Cut W1 p q W2) : Kp4 v u p q := by
  obtain ⟨c, c0, c1, l0, l1⟩ := h1
  obtain ⟨d, d0, d1, m0, m1⟩ := h2
  exact ⟨Kp.far l0 l1 (.inl (Nat.le_refl _)), Kp.far m0 m1 (.inl (Nat.le_refl _)), Kp.far l0 m0 (.inl c1), Kp.far l0 m1 (.inl (by omega)), Kp.far l1 m0 (.inl (Nat.le_refl _)), Kp.far l1 m1 (.inl d0)⟩
theorem kp_of_cut {W0 W1 : World} {v u : Value} (h : Cut W0 v u W1) : Kp v u := by
  obtain ⟨c, c0, c1, l0, l1⟩ := h
  exact Kp.far l0 l1 (.inl (Nat.le_refl _))
theorem kpq_drew (V : World) : V.drew.heap.size = V.heap.size := rfl
theorem kpq_al {w V : World} {b : Nat} (h : Below b w V) (hb : b ≤ V.heap.size) (o : Obj) : Below b w (V.alloc o) := h.trans ((alloc_later V o).mono hb)
theorem kpq_alx {w V : World} (h : Below w.heap.size w V) (o : Obj) : Below w.heap.size w (V.alloc o) := bt h (alloc_later V o)
theorem kpq_rows {W : World} {b0 b : Nat} {e n1 n2 n3 n4 : Nat} {v1 v2 v3 v4 : Value} {x1 x2 x3 x4 : List Value} (h : W.ownsRow b e 1 v1 n1 x1 ∧ W.ownsRow b e 1 v2 n2 x2 ∧ W.ownsRow b e 1 v3 n3 x3 ∧ W.ownsRow b e 1 v4 n4 x4) (hb : b0 ≤ b) : W.ownsRow b0 e 1 v1 n1 x1 ∧ W.ownsRow b0 e 1 v2 n2 x2 ∧ W.ownsRow b0 e 1 v3 n3 x3 ∧ W.ownsRow b0 e 1 v4 n4 x4 := ⟨owns_base h.1 hb, owns_base h.2.1 hb, owns_base h.2.2.1 hb, owns_base h.2.2.2 hb⟩
theorem kpq_rl {W W' : World} {b : Nat} {n1 n2 n3 n4 : Nat} {v1 v2 v3 v4 : Value} {x1 x2 x3 x4 : List Value} (h : W.ownsRow b 68 1 v1 n1 x1 ∧ W.ownsRow b 68 1 v2 n2 x2 ∧ W.ownsRow b 68 1 v3 n3 x3 ∧ W.ownsRow b 68 1 v4 n4 x4) (hb : Below W.heap.size W W') : W'.ownsRow b 68 1 v1 n1 x1 ∧ W'.ownsRow b 68 1 v2 n2 x2 ∧ W'.ownsRow b 68 1 v3 n3 x3 ∧ W'.ownsRow b 68 1 v4 n4 x4 := ⟨owns_later h.1 hb, owns_later h.2.1 hb, owns_later h.2.2.1 hb, owns_later h.2.2.2 hb⟩
theorem kpq_newb {A : World} {s t : Nat} {vs : Array Value} (h : A.heap.size = s) : Box (A.alloc (.cells vs t)) s t vs := by subst h; exact Box.made A _ _
theorem kpq_newb2 {A : World} {o : Obj} {t : Nat} {vs : Array Value} : Box ((A.alloc o).alloc (.cells vs t)) (A.heap.size + 1) t vs := kpq_newb (by simp)
theorem kpq_sizes {W A0 A1 A2 A3 A4 A5 : World} {b : Nat} {v0 v1 v2 v3 v4 v5 : Value} (k0 : W.setCell ⟨b, 0, none⟩ v0 = A0) (k1 : A0.setCell ⟨b, 1, none⟩ v1 = A1) (k2 : A1.setCell ⟨b, 2, none⟩ v2 = A2) (k3 : A2.setCell ⟨b, 3, none⟩ v3 = A3) (k4 : A3.setCell ⟨b, 4, none⟩ v4 = A4) (k5 : A4.setCell ⟨b, 5, none⟩ v5 = A5) : A0.heap.size = W.heap.size ∧ A1.heap.size = W.heap.size ∧ A2.heap.size = W.heap.size ∧ A3.heap.size = W.heap.size ∧ A4.heap.size = W.heap.size ∧ A5.heap.size = W.heap.size := by
  subst k0 k1 k2 k3 k4 k5
  simp [World.setCell]
theorem kpq_new1 (V : World) : Box (V.alloc (.cells #[.bool false, .slice none 0 0, .slice none 0 0, .bool false, .slice none 0 0, .slice none 0 0] 26)) V.heap.size 26 #[.bool false, .slice none 0 0, .slice none 0 0, .bool false, .slice none 0 0, .slice none 0 0] := Box.made V _ _
theorem kpq_new2a (V : World) : Box ((V.alloc (.cells #[.bool false, .slice none 0 0, .slice none 0 0, .bool false, .slice none 0 0, .slice none 0 0] 26)).alloc (.cells #[.bool false, .slice none 0 0, .slice none 0 0, .bool false, .slice none 0 0, .slice none 0 0] 26)) V.heap.size 26 #[.bool false, .slice none 0 0, .slice none 0 0, .bool false, .slice none 0 0, .slice none 0 0] := (Box.made V _ _).later (alloc_later _ _) (Box.made V _ _).lt
theorem kpq_new2b (V : World) : Box ((V.alloc (.cells #[.bool false, .slice none 0 0, .slice none 0 0, .bool false, .slice none 0 0, .slice none 0 0] 26)).alloc (.cells #[.bool false, .slice none 0 0, .slice none 0 0, .bool false, .slice none 0 0, .slice none 0 0] 26)) (V.heap.size + 1) 26 #[.bool false, .slice none 0 0, .slice none 0 0, .bool false, .slice none 0 0, .slice none 0 0] := by
  have h := Box.made (V.alloc (.cells #[.bool false, .slice none 0 0, .slice none 0 0, .bool false, .slice none 0 0, .slice none 0 0] 26)) 26 #[.bool false, .slice none 0 0, .slice none 0 0, .bool false, .slice none 0 0, .slice none 0 0]
  rw [show (V.alloc (.cells #[.bool false, .slice none 0 0, .slice none 0 0, .bool false, .slice none 0 0, .slice none 0 0] 26)).heap.size = V.heap.size + 1 by simp] at h
  exact h
theorem kpq_made1 (V : World) : Box (V.alloc (.cells #[.bool false, .slice none 0 0, .slice none 0 0, .bool false, .slice none 0 0, .slice none 0 0] 26)).drew V.heap.size 26 #[.bool false, .slice none 0 0, .slice none 0 0, .bool false, .slice none 0 0, .slice none 0 0] := kpq_new1 V
theorem kpq_made2a (V : World) : Box ((V.alloc (.cells #[.bool false, .slice none 0 0, .slice none 0 0, .bool false, .slice none 0 0, .slice none 0 0] 26)).alloc (.cells #[.bool false, .slice none 0 0, .slice none 0 0, .bool false, .slice none 0 0, .slice none 0 0] 26)).drew V.heap.size 26 #[.bool false, .slice none 0 0, .slice none 0 0, .bool false, .slice none 0 0, .slice none 0 0] := kpq_new2a V
theorem kpq_made2b (V : World) : Box ((V.alloc (.cells #[.bool false, .slice none 0 0, .slice none 0 0, .bool false, .slice none 0 0, .slice none 0 0] 26)).alloc (.cells #[.bool false, .slice none 0 0, .slice none 0 0, .bool false, .slice none 0 0, .slice none 0 0] 26)).drew (V.heap.size + 1) 26 #[.bool false, .slice none 0 0, .slice none 0 0, .bool false, .slice none 0 0, .slice none 0 0] := kpq_new2b V
/-- Two complex fractions lent in one statement, in their boxes. -/
def PQ (n m n2 m2 : Bool) (xs ys us vs xs2 ys2 us2 vs2 : List Int) (W0 : World) (s9 s10 : Value) (W : World) : Prop := ∃ p q g1 cg1 g2 cg2 g3 cg3 g4 cg4 h1 ch1 h2 ch2 h3 ch3 h4 ch4, s9 = .pointer (some ⟨p, 0, none⟩) ∧ s10 = .pointer (some ⟨q, 0, none⟩) ∧ Hid (Box W p 26 #[.bool n, .slice (some ⟨g1, 0, none⟩) xs.length cg1, .slice (some ⟨g2, 0, none⟩) ys.length cg2, .bool m, .slice (some ⟨g3, 0, none⟩) us.length cg3, .slice (some ⟨g4, 0, none⟩) vs.length cg4]) ∧ Hid (Box W q 26 #[.bool n2, .slice (some ⟨h1, 0, none⟩) xs2.length ch1, .slice (some ⟨h2, 0, none⟩) ys2.length ch2, .bool m2, .slice (some ⟨h3, 0, none⟩) us2.length ch3, .slice (some ⟨h4, 0, none⟩) vs2.length ch4]) ∧ Hid ((W.ownsRow W0.heap.size 68 1 (.slice (some ⟨g1, 0, none⟩) (xs.length + 3) cg1) (xs.length + 3) ((xs ++ marks 3).map (Value.int .u32)) ∧ W.ownsRow W0.heap.size 68 1 (.slice (some ⟨g2, 0, none⟩) (ys.length + 3) cg2) (ys.length + 3) ((ys ++ marks 3).map (Value.int .u32)) ∧ W.ownsRow W0.heap.size 68 1 (.slice (some ⟨g3, 0, none⟩) (us.length + 3) cg3) (us.length + 3) ((us ++ marks 3).map (Value.int .u32)) ∧ W.ownsRow W0.heap.size 68 1 (.slice (some ⟨g4, 0, none⟩) (vs.length + 3) cg4) (vs.length + 3) ((vs ++ marks 3).map (Value.int .u32))) ∧ (W.ownsRow W0.heap.size 68 1 (.slice (some ⟨h1, 0, none⟩) (xs2.length + 3) ch1) (xs2.length + 3) ((xs2 ++ marks 3).map (Value.int .u32)) ∧ W.ownsRow W0.heap.size 68 1 (.slice (some ⟨h2, 0, none⟩) (ys2.length + 3) ch2) (ys2.length + 3) ((ys2 ++ marks 3).map (Value.int .u32)) ∧ W.ownsRow W0.heap.size 68 1 (.slice (some ⟨h3, 0, none⟩) (us2.length + 3) ch3) (us2.length + 3) ((us2 ++ marks 3).map (Value.int .u32)) ∧ W.ownsRow W0.heap.size 68 1 (.slice (some ⟨h4, 0, none⟩) (vs2.length + 3) ch4) (vs2.length + 3) ((vs2 ++ marks 3).map (Value.int .u32)))) ∧ Hid (W0.heap.size ≤ g1 ∧ g1 < g2 ∧ g2 < g3 ∧ g3 < g4 ∧ g4 < h1 ∧ h1 < h2 ∧ h2 < h3 ∧ h3 < h4 ∧ h4 < W.heap.size) ∧ Hid (Below W0.heap.size W0 W)
theorem kpq_fin {n m n2 m2 : Bool} {xs ys us vs xs2 ys2 us2 vs2 : List Int} {W0 U W : World} {p q : Nat} {g1 cg1 g2 cg2 g3 cg3 g4 cg4 h1 ch1 h2 ch2 h3 ch3 h4 ch4 : Nat} (hp : Box W p 26 #[.bool n, .slice (some ⟨g1, 0, none⟩) xs.length cg1, .slice (some ⟨g2, 0, none⟩) ys.length cg2, .bool m, .slice (some ⟨g3, 0, none⟩) us.length cg3, .slice (some ⟨g4, 0, none⟩) vs.length cg4]) (hq : Box W q 26 #[.bool n2, .slice (some ⟨h1, 0, none⟩) xs2.length ch1, .slice (some ⟨h2, 0, none⟩) ys2.length ch2, .bool m2, .slice (some ⟨h3, 0, none⟩) us2.length ch3, .slice (some ⟨h4, 0, none⟩) vs2.length ch4]) (tr : ∀ b v k l, U.ownsRow b 68 1 v k l → W.ownsRow b 68 1 v k l) (HR : Hid ((U.ownsRow W0.heap.size 68 1 (.slice (some ⟨g1, 0, none⟩) (xs.length + 3) cg1) (xs.length + 3) ((xs ++ marks 3).map (Value.int .u32)) ∧ U.ownsRow W0.heap.size 68 1 (.slice (some ⟨g2, 0, none⟩) (ys.length + 3) cg2) (ys.length + 3) ((ys ++ marks 3).map (Value.int .u32)) ∧ U.ownsRow W0.heap.size 68 1 (.slice (some ⟨g3, 0, none⟩) (us.length + 3) cg3) (us.length + 3) ((us ++ marks 3).map (Value.int .u32)) ∧ U.ownsRow W0.heap.size 68 1 (.slice (some ⟨g4, 0, none⟩) (vs.length + 3) cg4) (vs.length + 3) ((vs ++ marks 3).map (Value.int .u32))) ∧ (U.ownsRow W0.heap.size 68 1 (.slice (some ⟨h1, 0, none⟩) (xs2.length + 3) ch1) (xs2.length + 3) ((xs2 ++ marks 3).map (Value.int .u32)) ∧ U.ownsRow W0.heap.size 68 1 (.slice (some ⟨h2, 0, none⟩) (ys2.length + 3) ch2) (ys2.length + 3) ((ys2 ++ marks 3).map (Value.int .u32)) ∧ U.ownsRow W0.heap.size 68 1 (.slice (some ⟨h3, 0, none⟩) (us2.length + 3) ch3) (us2.length + 3) ((us2 ++ marks 3).map (Value.int .u32)) ∧ U.ownsRow W0.heap.size 68 1 (.slice (some ⟨h4, 0, none⟩) (vs2.length + 3) ch4) (vs2.length + 3) ((vs2 ++ marks 3).map (Value.int .u32))))) (HO : Hid (W0.heap.size ≤ g1 ∧ g1 < g2 ∧ g2 < g3 ∧ g3 < g4 ∧ g4 < h1 ∧ h1 < h2 ∧ h2 < h3 ∧ h3 < h4 ∧ h4 < U.heap.size)) (hs : U.heap.size ≤ W.heap.size) (hb : Below W0.heap.size W0 W) : PQ n m n2 m2 xs ys us vs xs2 ys2 us2 vs2 W0 (.pointer (some ⟨p, 0, none⟩)) (.pointer (some ⟨q, 0, none⟩)) W :=
  ⟨p, q, g1, cg1, g2, cg2, g3, cg3, g4, cg4, h1, ch1, h2, ch2, h3, ch3, h4, ch4, rfl, rfl, hp, hq, ⟨⟨tr _ _ _ _ HR.out.1.1, tr _ _ _ _ HR.out.1.2.1, tr _ _ _ _ HR.out.1.2.2.1, tr _ _ _ _ HR.out.1.2.2.2⟩, ⟨tr _ _ _ _ HR.out.2.1, tr _ _ _ _ HR.out.2.2.1, tr _ _ _ _ HR.out.2.2.2.1, tr _ _ _ _ HR.out.2.2.2.2⟩⟩, ⟨HO.out.1, HO.out.2.1, HO.out.2.2.1, HO.out.2.2.2.1, HO.out.2.2.2.2.1, HO.out.2.2.2.2.2.1, HO.out.2.2.2.2.2.2.1, HO.out.2.2.2.2.2.2.2.1, Nat.lt_of_lt_of_le HO.out.2.2.2.2.2.2.2.2 hs⟩, hb⟩
set_option maxHeartbeats 6400000 in
set_option maxRecDepth 100000 in
theorem gparts_region (n : Bool) (a : Option Addr) (ca : Nat) (xs : List Int) (b : Option Addr) (cb : Nat) (ys : List Int) (m : Bool) (c : Option Addr) (cc : Nat) (us : List Int) (d : Option Addr) (cd : Nat) (vs : List Int) (n2 : Bool) (a2 : Option Addr) (ca2 : Nat) (xs2 : List Int) (b2 : Option Addr) (cb2 : Nat) (ys2 : List Int) (m2 : Bool) (c2 : Option Addr) (cc2 : Nat) (us2 : List Int) (d2 : Option Addr) (cd2 : Nat) (vs2 : List Int) (w w2 : World) (HK : Hid (∀ V, Below w2.heap.size w2 V → (V.cell? ⟨w.heap.size, 0, none⟩ = some (.bool n) ∧ V.cell? ⟨w.heap.size, 1, none⟩ = some (.slice a xs.length ca) ∧ V.cell? ⟨w.heap.size, 2, none⟩ = some (.slice b ys.length cb) ∧ V.cell? ⟨w.heap.size, 3, none⟩ = some (.bool m) ∧ V.cell? ⟨w.heap.size, 4, none⟩ = some (.slice c us.length cc) ∧ V.cell? ⟨w.heap.size, 5, none⟩ = some (.slice d vs.length cd)) ∧ (V.cell? ⟨w.heap.size + 1, 0, none⟩ = some (.bool n2) ∧ V.cell? ⟨w.heap.size + 1, 1, none⟩ = some (.slice a2 xs2.length ca2) ∧ V.cell? ⟨w.heap.size + 1, 2, none⟩ = some (.slice b2 ys2.length cb2) ∧ V.cell? ⟨w.heap.size + 1, 3, none⟩ = some (.bool m2) ∧ V.cell? ⟨w.heap.size + 1, 4, none⟩ = some (.slice c2 us2.length cc2) ∧ V.cell? ⟨w.heap.size + 1, 5, none⟩ = some (.slice d2 vs2.length cd2)))) (HL1 : Hid (∀ V, Below w2.heap.size w2 V → Calls Tryz.prog 5 #[.agg #[.bool n, .slice a xs.length ca, .slice b ys.length cb, .bool m, .slice c us.length cc, .slice d vs.length cd]] V fun e V' => ∃ g1 cg1 g2 cg2 g3 cg3 g4 cg4, e = .returned (.agg #[.bool n, .slice (some ⟨g1, 0, none⟩) xs.length cg1, .slice (some ⟨g2, 0, none⟩) ys.length cg2, .bool m, .slice (some ⟨g3, 0, none⟩) us.length cg3, .slice (some ⟨g4, 0, none⟩) vs.length cg4]) ∧ Hid ((V'.ownsRow V.heap.size 68 1 (.slice (some ⟨g1, 0, none⟩) (xs.length + 3) cg1) (xs.length + 3) ((xs ++ marks 3).map (Value.int .u32)) ∧ V'.ownsRow V.heap.size 68 1 (.slice (some ⟨g2, 0, none⟩) (ys.length + 3) cg2) (ys.length + 3) ((ys ++ marks 3).map (Value.int .u32)) ∧ V'.ownsRow V.heap.size 68 1 (.slice (some ⟨g3, 0, none⟩) (us.length + 3) cg3) (us.length + 3) ((us ++ marks 3).map (Value.int .u32)) ∧ V'.ownsRow V.heap.size 68 1 (.slice (some ⟨g4, 0, none⟩) (vs.length + 3) cg4) (vs.length + 3) ((vs ++ marks 3).map (Value.int .u32))) ∧ (g1 < g2 ∧ g2 < g3 ∧ g3 < g4) ∧ V.heap.size ≤ g1 ∧ g4 < V'.heap.size) ∧ Hid (Below V.heap.size V V') ∧ V.heap.size < V'.heap.size ∧ ((V'.cell? ⟨w.heap.size, 0, none⟩ = some (.bool n) ∧ V'.cell? ⟨w.heap.size, 1, none⟩ = some (.slice a xs.length ca) ∧ V'.cell? ⟨w.heap.size, 2, none⟩ = some (.slice b ys.length cb) ∧ V'.cell? ⟨w.heap.size, 3, none⟩ = some (.bool m) ∧ V'.cell? ⟨w.heap.size, 4, none⟩ = some (.slice c us.length cc) ∧ V'.cell? ⟨w.heap.size, 5, none⟩ = some (.slice d vs.length cd)) ∧ (V'.cell? ⟨w.heap.size + 1, 0, none⟩ = some (.bool n2) ∧ V'.cell? ⟨w.heap.size + 1, 1, none⟩ = some (.slice a2 xs2.length ca2) ∧ V'.cell? ⟨w.heap.size + 1, 2, none⟩ = some (.slice b2 ys2.length cb2) ∧ V'.cell? ⟨w.heap.size + 1, 3, none⟩ = some (.bool m2) ∧ V'.cell? ⟨w.heap.size + 1, 4, none⟩ = some (.slice c2 us2.length cc2) ∧ V'.cell? ⟨w.heap.size + 1, 5, none⟩ = some (.slice d2 vs2.length cd2))))) (HL2 : Hid (∀ V, Below w2.heap.size w2 V → Calls Tryz.prog 5 #[.agg #[.bool n2, .slice a2 xs2.length ca2, .slice b2 ys2.length cb2, .bool m2, .slice c2 us2.length cc2, .slice d2 vs2.length cd2]] V fun e V' => ∃ h1 ch1 h2 ch2 h3 ch3 h4 ch4, e = .returned (.agg #[.bool n2, .slice (some ⟨h1, 0, none⟩) xs2.length ch1, .slice (some ⟨h2, 0, none⟩) ys2.length ch2, .bool m2, .slice (some ⟨h3, 0, none⟩) us2.length ch3, .slice (some ⟨h4, 0, none⟩) vs2.length ch4]) ∧ Hid ((V'.ownsRow V.heap.size 68 1 (.slice (some ⟨h1, 0, none⟩) (xs2.length + 3) ch1) (xs2.length + 3) ((xs2 ++ marks 3).map (Value.int .u32)) ∧ V'.ownsRow V.heap.size 68 1 (.slice (some ⟨h2, 0, none⟩) (ys2.length + 3) ch2) (ys2.length + 3) ((ys2 ++ marks 3).map (Value.int .u32)) ∧ V'.ownsRow V.heap.size 68 1 (.slice (some ⟨h3, 0, none⟩) (us2.length + 3) ch3) (us2.length + 3) ((us2 ++ marks 3).map (Value.int .u32)) ∧ V'.ownsRow V.heap.size 68 1 (.slice (some ⟨h4, 0, none⟩) (vs2.length + 3) ch4) (vs2.length + 3) ((vs2 ++ marks 3).map (Value.int .u32))) ∧ (h1 < h2 ∧ h2 < h3 ∧ h3 < h4) ∧ V.heap.size ≤ h1 ∧ h4 < V'.heap.size) ∧ Hid (Below V.heap.size V V') ∧ V.heap.size < V'.heap.size ∧ ((V'.cell? ⟨w.heap.size, 0, none⟩ = some (.bool n) ∧ V'.cell? ⟨w.heap.size, 1, none⟩ = some (.slice a xs.length ca) ∧ V'.cell? ⟨w.heap.size, 2, none⟩ = some (.slice b ys.length cb) ∧ V'.cell? ⟨w.heap.size, 3, none⟩ = some (.bool m) ∧ V'.cell? ⟨w.heap.size, 4, none⟩ = some (.slice c us.length cc) ∧ V'.cell? ⟨w.heap.size, 5, none⟩ = some (.slice d vs.length cd)) ∧ (V'.cell? ⟨w.heap.size + 1, 0, none⟩ = some (.bool n2) ∧ V'.cell? ⟨w.heap.size + 1, 1, none⟩ = some (.slice a2 xs2.length ca2) ∧ V'.cell? ⟨w.heap.size + 1, 2, none⟩ = some (.slice b2 ys2.length cb2) ∧ V'.cell? ⟨w.heap.size + 1, 3, none⟩ = some (.bool m2) ∧ V'.cell? ⟨w.heap.size + 1, 4, none⟩ = some (.slice c2 us2.length cc2) ∧ V'.cell? ⟨w.heap.size + 1, 5, none⟩ = some (.slice d2 vs2.length cd2))))) (t0 t1 t2 t3 t6 t7 t8 t9 t10 t11 t12 t13 t14 t15 t16 t17 t18 t19 t20 t21 t22 t23 t24 t25 t26 t27 t28 t29 t30 t31 t32 t33 t34 t35 t36 t37 t38 t39 t40 t41 t42 : Value) (rest : List Value) (Q : Exit → Act → World → Prop)
    (hQ : ∀ s9 s10 u39 u40 u41 u42 wc, Hid (PQ n m n2 m2 xs ys us vs xs2 ys2 us2 vs2 w2 s9 s10 wc) → Q .normal { tmps := List.toArray (t0 :: t1 :: t2 :: t3 :: (.pointer (some ⟨w.heap.size, 0, none⟩)) :: (.pointer (some ⟨w.heap.size + 1, 0, none⟩)) :: t6 :: t7 :: t8 :: s9 :: s10 :: t11 :: t12 :: t13 :: t14 :: t15 :: t16 :: t17 :: t18 :: t19 :: t20 :: t21 :: t22 :: t23 :: t24 :: t25 :: t26 :: t27 :: t28 :: t29 :: t30 :: t31 :: t32 :: t33 :: t34 :: t35 :: t36 :: t37 :: t38 :: u39 :: u40 :: u41 :: u42 :: rest), defers := [] } wc) :
    Code.wp Tryz.prog (Code.region 3 #[{ dst := some 39, op := Op.load 26 (Operand.tmp 4), type := 26, pos := "law.go:63", after := #[], guard := none }, { dst := some 40, op := Op.call { callee := Callee.value (Operand.func 5), args := #[Operand.tmp 39], argTypes := #[26] }, type := 26, pos := "law.go:63", after := #[{ on := 0, ground := Ground.data }], guard := none }, { dst := some 41, op := Op.load 26 (Operand.tmp 5), type := 26, pos := "law.go:63", after := #[], guard := none }, { dst := some 42, op := Op.call { callee := Callee.value (Operand.func 5), args := #[Operand.tmp 41], argTypes := #[26] }, type := 26, pos := "law.go:63", after := #[{ on := 2, ground := Ground.data }, { on := 1, ground := Ground.chain }], guard := none }, { dst := some 9, op := Op.alloc 26, type := 0, pos := "law.go:63", after := #[], guard := none }, { dst := some 10, op := Op.alloc 26, type := 0, pos := "law.go:63", after := #[], guard := none }, { dst := none, op := Op.store 26 (Operand.tmp 9) (Operand.tmp 40), type := 0, pos := "law.go:63", after := #[{ on := 4, ground := Ground.data }, { on := 1, ground := Ground.data }, { on := 3, ground := Ground.chain }, { on := 0, ground := Ground.phase }, { on := 1, ground := Ground.phase }, { on := 2, ground := Ground.textOnly Departure.lateStores }, { on := 3, ground := Ground.textOnly Departure.lateStoresUnsure }, { on := 4, ground := Ground.phase }, { on := 5, ground := Ground.phase }], guard := none }, { dst := none, op := Op.store 26 (Operand.tmp 10) (Operand.tmp 42), type := 0, pos := "law.go:63", after := #[{ on := 5, ground := Ground.data }, { on := 3, ground := Ground.data }, { on := 6, ground := Ground.chain }, { on := 0, ground := Ground.phase }, { on := 1, ground := Ground.phase }, { on := 2, ground := Ground.phase }, { on := 3, ground := Ground.phase }, { on := 4, ground := Ground.phase }, { on := 5, ground := Ground.phase }, { on := 6, ground := Ground.phase }], guard := none }] true) Q { tmps := List.toArray (t0 :: t1 :: t2 :: t3 :: (.pointer (some ⟨w.heap.size, 0, none⟩)) :: (.pointer (some ⟨w.heap.size + 1, 0, none⟩)) :: t6 :: t7 :: t8 :: t9 :: t10 :: t11 :: t12 :: t13 :: t14 :: t15 :: t16 :: t17 :: t18 :: t19 :: t20 :: t21 :: t22 :: t23 :: t24 :: t25 :: t26 :: t27 :: t28 :: t29 :: t30 :: t31 :: t32 :: t33 :: t34 :: t35 :: t36 :: t37 :: t38 :: t39 :: t40 :: t41 :: t42 :: rest), defers := [] } w2 := by
  have HQ := hid hQ
  clear hQ
  have hs0 := HK.out _ (Below.refl w2.heap.size w2).drew
  have hd0 := hid (Below.refl w2.heap.size w2).drew
  have hd1 := hid (alloc_later w2 (.cells #[.bool false, .slice none 0 0, .slice none 0 0, .bool false, .slice none 0 0, .slice none 0 0] 26)).drew
  have hd2 := hid (bt (alloc_later w2 (.cells #[.bool false, .slice none 0 0, .slice none 0 0, .bool false, .slice none 0 0, .slice none 0 0] 26)) (alloc_later (w2.alloc (.cells #[.bool false, .slice none 0 0, .slice none 0 0, .bool false, .slice none 0 0, .slice none 0 0] 26)) (.cells #[.bool false, .slice none 0 0, .slice none 0 0, .bool false, .slice none 0 0, .slice none 0 0] 26))).drew
  have hk1 := HK.out _ hd1.out
  have hk2 := HK.out _ hd2.out
  go_region_held3 (fun V : World => (V.cell? ⟨w.heap.size, 0, none⟩ = some (.bool n) ∧ V.cell? ⟨w.heap.size, 1, none⟩ = some (.slice a xs.length ca) ∧ V.cell? ⟨w.heap.size, 2, none⟩ = some (.slice b ys.length cb) ∧ V.cell? ⟨w.heap.size, 3, none⟩ = some (.bool m) ∧ V.cell? ⟨w.heap.size, 4, none⟩ = some (.slice c us.length cc) ∧ V.cell? ⟨w.heap.size, 5, none⟩ = some (.slice d vs.length cd)) ∧ (V.cell? ⟨w.heap.size + 1, 0, none⟩ = some (.bool n2) ∧ V.cell? ⟨w.heap.size + 1, 1, none⟩ = some (.slice a2 xs2.length ca2) ∧ V.cell? ⟨w.heap.size + 1, 2, none⟩ = some (.slice b2 ys2.length cb2) ∧ V.cell? ⟨w.heap.size + 1, 3, none⟩ = some (.bool m2) ∧ V.cell? ⟨w.heap.size + 1, 4, none⟩ = some (.slice c2 us2.length cc2) ∧ V.cell? ⟨w.heap.size + 1, 5, none⟩ = some (.slice d2 vs2.length cd2))) (first | exact hs0 | exact hk1 | exact hk2 | exact hs1 | exact hs2 | exact hs1a | exact hs1b | exact HK.out _ (by repeat' first | exact HD2.out | exact AT.out | exact BT.out | exact CT.out | exact DT.out | refine kpq_alx ?_ _) | go_keep)
    (first
      | (go_at_call 5; (with_reducible refine Calls.mono (HL2.out _ (by first | exact HC1.out | exact kpq_al HC1.out HC1.out.size _ | exact kpq_al (kpq_al HC1.out HC1.out.size _) (kpq_al HC1.out HC1.out.size _).size _)) ?_); rintro e u2 ⟨h1, ch1, h2, ch2, h3, ch3, h4, ch4, rfl, HE2, hb2, hlt2, hs2⟩; have hq2 := hlt2; (try simp only [World.size_alloc] at hq2); (try have Y0 : Hid (Box u2 u1.heap.size 26 #[.bool false, .slice none 0 0, .slice none 0 0, .bool false, .slice none 0 0, .slice none 0 0]) := (by first | exact (kpq_new1 u1).later hb2.out (kpq_new1 u1).lt | exact (kpq_new2a u1).later hb2.out (kpq_new2a u1).lt)); (try have Y1 : Hid (Box u2 (u1.heap.size + 1) 26 #[.bool false, .slice none 0 0, .slice none 0 0, .bool false, .slice none 0 0, .slice none 0 0]) := (kpq_new2b u1).later hb2.out (kpq_new2b u1).lt); have HC2 : Hid (Below u1.heap.size u1 u2) := (by first | exact hb2.out | exact bt (alloc_later u1 _) hb2.out | exact bt (bt (alloc_later u1 _) (alloc_later _ _)) hb2.out); have HD2 : Hid (Below w2.heap.size w2 u2) := bt HC1.out HC2.out; have HR2 : Hid ((u2.ownsRow w2.heap.size 68 1 (.slice (some ⟨g1, 0, none⟩) (xs.length + 3) cg1) (xs.length + 3) ((xs ++ marks 3).map (Value.int .u32)) ∧ u2.ownsRow w2.heap.size 68 1 (.slice (some ⟨g2, 0, none⟩) (ys.length + 3) cg2) (ys.length + 3) ((ys ++ marks 3).map (Value.int .u32)) ∧ u2.ownsRow w2.heap.size 68 1 (.slice (some ⟨g3, 0, none⟩) (us.length + 3) cg3) (us.length + 3) ((us ++ marks 3).map (Value.int .u32)) ∧ u2.ownsRow w2.heap.size 68 1 (.slice (some ⟨g4, 0, none⟩) (vs.length + 3) cg4) (vs.length + 3) ((vs ++ marks 3).map (Value.int .u32))) ∧ (u2.ownsRow w2.heap.size 68 1 (.slice (some ⟨h1, 0, none⟩) (xs2.length + 3) ch1) (xs2.length + 3) ((xs2 ++ marks 3).map (Value.int .u32)) ∧ u2.ownsRow w2.heap.size 68 1 (.slice (some ⟨h2, 0, none⟩) (ys2.length + 3) ch2) (ys2.length + 3) ((ys2 ++ marks 3).map (Value.int .u32)) ∧ u2.ownsRow w2.heap.size 68 1 (.slice (some ⟨h3, 0, none⟩) (us2.length + 3) ch3) (us2.length + 3) ((us2 ++ marks 3).map (Value.int .u32)) ∧ u2.ownsRow w2.heap.size 68 1 (.slice (some ⟨h4, 0, none⟩) (vs2.length + 3) ch4) (vs2.length + 3) ((vs2 ++ marks 3).map (Value.int .u32)))) := (by first | exact ⟨kpq_rl HR1.out HC2.out, kpq_rows HE2.out.1 HC1.out.size⟩ | exact ⟨kpq_rl HR1.out HC2.out, kpq_rows HE2.out.1 (kpq_alx HC1.out _).size⟩ | exact ⟨kpq_rl HR1.out HC2.out, kpq_rows HE2.out.1 (kpq_alx (kpq_alx HC1.out _) _).size⟩); have HO2 : Hid (w2.heap.size ≤ g1 ∧ g1 < g2 ∧ g2 < g3 ∧ g3 < g4 ∧ g4 < h1 ∧ h1 < h2 ∧ h2 < h3 ∧ h3 < h4 ∧ h4 < u2.heap.size) := (by have q1 := HO1.out; have q2 := HE2.out.2; (try simp only [World.size_alloc] at q2); refine ⟨?_, ?_, ?_, ?_, ?_, ?_, ?_, ?_, ?_⟩ <;> omega); (try have X0 : Hid (Box u2 w2.heap.size 26 #[.bool false, .slice none 0 0, .slice none 0 0, .bool false, .slice none 0 0, .slice none 0 0]) := Z10.out.later HC2.out Z10.out.lt); (try have X1 : Hid (Box u2 (w2.heap.size + 1) 26 #[.bool false, .slice none 0 0, .slice none 0 0, .bool false, .slice none 0 0, .slice none 0 0]) := Z11.out.later HC2.out Z11.out.lt); (first | (revert X0 X1; intro X0 X1; obtain ⟨A0, A1, A2, A3, A4, A5, kA0, kA1, kA2, kA3, kA4, kA5, ⟨rA0, rA1, rA2, rA3, rA4, rA5⟩, ⟨fA0, fA1, fA2, fA3, fA4, fA5⟩, AH⟩ := kgchain6 X0.out (by decide) (.bool n) (.slice (some ⟨g1, 0, none⟩) xs.length cg1) (.slice (some ⟨g2, 0, none⟩) ys.length cg2) (.bool m) (.slice (some ⟨g3, 0, none⟩) us.length cg3) (.slice (some ⟨g4, 0, none⟩) vs.length cg4); obtain ⟨sA0, sA1, sA2, sA3, sA4, sA5⟩ := kpq_sizes kA0 kA1 kA2 kA3 kA4 kA5; have AT : Hid (Below w2.heap.size w2 A5) := AH.out.2.2.2 _ _ (by omega) HD2.out; obtain ⟨B0, B1, B2, B3, B4, B5, kB0, kB1, kB2, kB3, kB4, kB5, ⟨rB0, rB1, rB2, rB3, rB4, rB5⟩, ⟨fB0, fB1, fB2, fB3, fB4, fB5⟩, BH⟩ := kgchain6 (AH.out.2.1 _ _ _ (by omega) X1.out) (by decide) (.bool n2) (.slice (some ⟨h1, 0, none⟩) xs2.length ch1) (.slice (some ⟨h2, 0, none⟩) ys2.length ch2) (.bool m2) (.slice (some ⟨h3, 0, none⟩) us2.length ch3) (.slice (some ⟨h4, 0, none⟩) vs2.length ch4); obtain ⟨sB0, sB1, sB2, sB3, sB4, sB5⟩ := kpq_sizes kB0 kB1 kB2 kB3 kB4 kB5; have BT : Hid (Below w2.heap.size w2 B5) := BH.out.2.2.2 _ _ (by omega) AT.out; obtain ⟨C0, C1, C2, C3, C4, C5, kC0, kC1, kC2, kC3, kC4, kC5, ⟨rC0, rC1, rC2, rC3, rC4, rC5⟩, ⟨fC0, fC1, fC2, fC3, fC4, fC5⟩, CH⟩ := kgchain6 X1.out (by decide) (.bool n) (.slice (some ⟨g1, 0, none⟩) xs.length cg1) (.slice (some ⟨g2, 0, none⟩) ys.length cg2) (.bool m) (.slice (some ⟨g3, 0, none⟩) us.length cg3) (.slice (some ⟨g4, 0, none⟩) vs.length cg4); obtain ⟨sC0, sC1, sC2, sC3, sC4, sC5⟩ := kpq_sizes kC0 kC1 kC2 kC3 kC4 kC5; have CT : Hid (Below w2.heap.size w2 C5) := CH.out.2.2.2 _ _ (by omega) HD2.out; obtain ⟨D0, D1, D2, D3, D4, D5, kD0, kD1, kD2, kD3, kD4, kD5, ⟨rD0, rD1, rD2, rD3, rD4, rD5⟩, ⟨fD0, fD1, fD2, fD3, fD4, fD5⟩, DH⟩ := kgchain6 (CH.out.2.1 _ _ _ (by omega) X0.out) (by decide) (.bool n2) (.slice (some ⟨h1, 0, none⟩) xs2.length ch1) (.slice (some ⟨h2, 0, none⟩) ys2.length ch2) (.bool m2) (.slice (some ⟨h3, 0, none⟩) us2.length ch3) (.slice (some ⟨h4, 0, none⟩) vs2.length ch4); obtain ⟨sD0, sD1, sD2, sD3, sD4, sD5⟩ := kpq_sizes kD0 kD1 kD2 kD3 kD4 kD5; have DT : Hid (Below w2.heap.size w2 D5) := DH.out.2.2.2 _ _ (by omega) CT.out) | (revert X0 Y0; intro X0 Y0; obtain ⟨A0, A1, A2, A3, A4, A5, kA0, kA1, kA2, kA3, kA4, kA5, ⟨rA0, rA1, rA2, rA3, rA4, rA5⟩, ⟨fA0, fA1, fA2, fA3, fA4, fA5⟩, AH⟩ := kgchain6 X0.out (by decide) (.bool n) (.slice (some ⟨g1, 0, none⟩) xs.length cg1) (.slice (some ⟨g2, 0, none⟩) ys.length cg2) (.bool m) (.slice (some ⟨g3, 0, none⟩) us.length cg3) (.slice (some ⟨g4, 0, none⟩) vs.length cg4); obtain ⟨sA0, sA1, sA2, sA3, sA4, sA5⟩ := kpq_sizes kA0 kA1 kA2 kA3 kA4 kA5; have AT : Hid (Below w2.heap.size w2 A5) := AH.out.2.2.2 _ _ (by omega) HD2.out; obtain ⟨B0, B1, B2, B3, B4, B5, kB0, kB1, kB2, kB3, kB4, kB5, ⟨rB0, rB1, rB2, rB3, rB4, rB5⟩, ⟨fB0, fB1, fB2, fB3, fB4, fB5⟩, BH⟩ := kgchain6 (AH.out.2.1 _ _ _ (by omega) Y0.out) (by decide) (.bool n2) (.slice (some ⟨h1, 0, none⟩) xs2.length ch1) (.slice (some ⟨h2, 0, none⟩) ys2.length ch2) (.bool m2) (.slice (some ⟨h3, 0, none⟩) us2.length ch3) (.slice (some ⟨h4, 0, none⟩) vs2.length ch4); obtain ⟨sB0, sB1, sB2, sB3, sB4, sB5⟩ := kpq_sizes kB0 kB1 kB2 kB3 kB4 kB5; have BT : Hid (Below w2.heap.size w2 B5) := BH.out.2.2.2 _ _ (by omega) AT.out; obtain ⟨C0, C1, C2, C3, C4, C5, kC0, kC1, kC2, kC3, kC4, kC5, ⟨rC0, rC1, rC2, rC3, rC4, rC5⟩, ⟨fC0, fC1, fC2, fC3, fC4, fC5⟩, CH⟩ := kgchain6 Y0.out (by decide) (.bool n) (.slice (some ⟨g1, 0, none⟩) xs.length cg1) (.slice (some ⟨g2, 0, none⟩) ys.length cg2) (.bool m) (.slice (some ⟨g3, 0, none⟩) us.length cg3) (.slice (some ⟨g4, 0, none⟩) vs.length cg4); obtain ⟨sC0, sC1, sC2, sC3, sC4, sC5⟩ := kpq_sizes kC0 kC1 kC2 kC3 kC4 kC5; have CT : Hid (Below w2.heap.size w2 C5) := CH.out.2.2.2 _ _ (by omega) HD2.out; obtain ⟨D0, D1, D2, D3, D4, D5, kD0, kD1, kD2, kD3, kD4, kD5, ⟨rD0, rD1, rD2, rD3, rD4, rD5⟩, ⟨fD0, fD1, fD2, fD3, fD4, fD5⟩, DH⟩ := kgchain6 (CH.out.2.1 _ _ _ (by omega) X0.out) (by decide) (.bool n2) (.slice (some ⟨h1, 0, none⟩) xs2.length ch1) (.slice (some ⟨h2, 0, none⟩) ys2.length ch2) (.bool m2) (.slice (some ⟨h3, 0, none⟩) us2.length ch3) (.slice (some ⟨h4, 0, none⟩) vs2.length ch4); obtain ⟨sD0, sD1, sD2, sD3, sD4, sD5⟩ := kpq_sizes kD0 kD1 kD2 kD3 kD4 kD5; have DT : Hid (Below w2.heap.size w2 D5) := DH.out.2.2.2 _ _ (by omega) CT.out) | (revert Y0 Y1; intro Y0 Y1; obtain ⟨A0, A1, A2, A3, A4, A5, kA0, kA1, kA2, kA3, kA4, kA5, ⟨rA0, rA1, rA2, rA3, rA4, rA5⟩, ⟨fA0, fA1, fA2, fA3, fA4, fA5⟩, AH⟩ := kgchain6 Y0.out (by decide) (.bool n) (.slice (some ⟨g1, 0, none⟩) xs.length cg1) (.slice (some ⟨g2, 0, none⟩) ys.length cg2) (.bool m) (.slice (some ⟨g3, 0, none⟩) us.length cg3) (.slice (some ⟨g4, 0, none⟩) vs.length cg4); obtain ⟨sA0, sA1, sA2, sA3, sA4, sA5⟩ := kpq_sizes kA0 kA1 kA2 kA3 kA4 kA5; have AT : Hid (Below w2.heap.size w2 A5) := AH.out.2.2.2 _ _ (by omega) HD2.out; obtain ⟨B0, B1, B2, B3, B4, B5, kB0, kB1, kB2, kB3, kB4, kB5, ⟨rB0, rB1, rB2, rB3, rB4, rB5⟩, ⟨fB0, fB1, fB2, fB3, fB4, fB5⟩, BH⟩ := kgchain6 (AH.out.2.1 _ _ _ (by omega) Y1.out) (by decide) (.bool n2) (.slice (some ⟨h1, 0, none⟩) xs2.length ch1) (.slice (some ⟨h2, 0, none⟩) ys2.length ch2) (.bool m2) (.slice (some ⟨h3, 0, none⟩) us2.length ch3) (.slice (some ⟨h4, 0, none⟩) vs2.length ch4); obtain ⟨sB0, sB1, sB2, sB3, sB4, sB5⟩ := kpq_sizes kB0 kB1 kB2 kB3 kB4 kB5; have BT : Hid (Below w2.heap.size w2 B5) := BH.out.2.2.2 _ _ (by omega) AT.out; obtain ⟨C0, C1, C2, C3, C4, C5, kC0, kC1, kC2, kC3, kC4, kC5, ⟨rC0, rC1, rC2, rC3, rC4, rC5⟩, ⟨fC0, fC1, fC2, fC3, fC4, fC5⟩, CH⟩ := kgchain6 Y1.out (by decide) (.bool n) (.slice (some ⟨g1, 0, none⟩) xs.length cg1) (.slice (some ⟨g2, 0, none⟩) ys.length cg2) (.bool m) (.slice (some ⟨g3, 0, none⟩) us.length cg3) (.slice (some ⟨g4, 0, none⟩) vs.length cg4); obtain ⟨sC0, sC1, sC2, sC3, sC4, sC5⟩ := kpq_sizes kC0 kC1 kC2 kC3 kC4 kC5; have CT : Hid (Below w2.heap.size w2 C5) := CH.out.2.2.2 _ _ (by omega) HD2.out; obtain ⟨D0, D1, D2, D3, D4, D5, kD0, kD1, kD2, kD3, kD4, kD5, ⟨rD0, rD1, rD2, rD3, rD4, rD5⟩, ⟨fD0, fD1, fD2, fD3, fD4, fD5⟩, DH⟩ := kgchain6 (CH.out.2.1 _ _ _ (by omega) Y0.out) (by decide) (.bool n2) (.slice (some ⟨h1, 0, none⟩) xs2.length ch1) (.slice (some ⟨h2, 0, none⟩) ys2.length ch2) (.bool m2) (.slice (some ⟨h3, 0, none⟩) us2.length ch3) (.slice (some ⟨h4, 0, none⟩) vs2.length ch4); obtain ⟨sD0, sD1, sD2, sD3, sD4, sD5⟩ := kpq_sizes kD0 kD1 kD2 kD3 kD4 kD5; have DT : Hid (Below w2.heap.size w2 D5) := DH.out.2.2.2 _ _ (by omega) CT.out) | (revert X0; intro X0; obtain ⟨A0, A1, A2, A3, A4, A5, kA0, kA1, kA2, kA3, kA4, kA5, ⟨rA0, rA1, rA2, rA3, rA4, rA5⟩, ⟨fA0, fA1, fA2, fA3, fA4, fA5⟩, AH⟩ := kgchain6 X0.out (by decide) (.bool n) (.slice (some ⟨g1, 0, none⟩) xs.length cg1) (.slice (some ⟨g2, 0, none⟩) ys.length cg2) (.bool m) (.slice (some ⟨g3, 0, none⟩) us.length cg3) (.slice (some ⟨g4, 0, none⟩) vs.length cg4); obtain ⟨sA0, sA1, sA2, sA3, sA4, sA5⟩ := kpq_sizes kA0 kA1 kA2 kA3 kA4 kA5; have AT : Hid (Below w2.heap.size w2 A5) := AH.out.2.2.2 _ _ (by omega) HD2.out; obtain ⟨C0, C1, C2, C3, C4, C5, kC0, kC1, kC2, kC3, kC4, kC5, ⟨rC0, rC1, rC2, rC3, rC4, rC5⟩, ⟨fC0, fC1, fC2, fC3, fC4, fC5⟩, CH⟩ := kgchain6 X0.out (by decide) (.bool n2) (.slice (some ⟨h1, 0, none⟩) xs2.length ch1) (.slice (some ⟨h2, 0, none⟩) ys2.length ch2) (.bool m2) (.slice (some ⟨h3, 0, none⟩) us2.length ch3) (.slice (some ⟨h4, 0, none⟩) vs2.length ch4); obtain ⟨sC0, sC1, sC2, sC3, sC4, sC5⟩ := kpq_sizes kC0 kC1 kC2 kC3 kC4 kC5; have CT : Hid (Below w2.heap.size w2 C5) := CH.out.2.2.2 _ _ (by omega) HD2.out; have nb : w2.heap.size ≠ u2.heap.size := (by omega); have lb : w2.heap.size < u2.heap.size := (by omega)) | (revert Y0; intro Y0; obtain ⟨A0, A1, A2, A3, A4, A5, kA0, kA1, kA2, kA3, kA4, kA5, ⟨rA0, rA1, rA2, rA3, rA4, rA5⟩, ⟨fA0, fA1, fA2, fA3, fA4, fA5⟩, AH⟩ := kgchain6 Y0.out (by decide) (.bool n) (.slice (some ⟨g1, 0, none⟩) xs.length cg1) (.slice (some ⟨g2, 0, none⟩) ys.length cg2) (.bool m) (.slice (some ⟨g3, 0, none⟩) us.length cg3) (.slice (some ⟨g4, 0, none⟩) vs.length cg4); obtain ⟨sA0, sA1, sA2, sA3, sA4, sA5⟩ := kpq_sizes kA0 kA1 kA2 kA3 kA4 kA5; have AT : Hid (Below w2.heap.size w2 A5) := AH.out.2.2.2 _ _ (by omega) HD2.out; obtain ⟨C0, C1, C2, C3, C4, C5, kC0, kC1, kC2, kC3, kC4, kC5, ⟨rC0, rC1, rC2, rC3, rC4, rC5⟩, ⟨fC0, fC1, fC2, fC3, fC4, fC5⟩, CH⟩ := kgchain6 Y0.out (by decide) (.bool n2) (.slice (some ⟨h1, 0, none⟩) xs2.length ch1) (.slice (some ⟨h2, 0, none⟩) ys2.length ch2) (.bool m2) (.slice (some ⟨h3, 0, none⟩) us2.length ch3) (.slice (some ⟨h4, 0, none⟩) vs2.length ch4); obtain ⟨sC0, sC1, sC2, sC3, sC4, sC5⟩ := kpq_sizes kC0 kC1 kC2 kC3 kC4 kC5; have CT : Hid (Below w2.heap.size w2 C5) := CH.out.2.2.2 _ _ (by omega) HD2.out; have nb : u1.heap.size ≠ u2.heap.size := (by omega); have lb : u1.heap.size < u2.heap.size := (by omega)) | skip))
      | (go_at_call 5; (with_reducible refine Calls.mono (HL1.out _ (by first | exact hd0.out | exact hd1.out | exact hd2.out)) ?_); rintro e u1 ⟨g1, cg1, g2, cg2, g3, cg3, g4, cg4, rfl, HE1, hb1, hlt1, hs1⟩; have HC1 : Hid (Below w2.heap.size w2 u1) := (by first | exact bt hd0.out hb1.out | exact bt hd1.out hb1.out | exact bt hd2.out hb1.out); have hs1a := HK.out _ (kpq_al HC1.out HC1.out.size (.cells #[.bool false, .slice none 0 0, .slice none 0 0, .bool false, .slice none 0 0, .slice none 0 0] 26)); have hs1b := HK.out _ (kpq_al (kpq_al HC1.out HC1.out.size (.cells #[.bool false, .slice none 0 0, .slice none 0 0, .bool false, .slice none 0 0, .slice none 0 0] 26)) (kpq_al HC1.out HC1.out.size (.cells #[.bool false, .slice none 0 0, .slice none 0 0, .bool false, .slice none 0 0, .slice none 0 0] 26)).size (.cells #[.bool false, .slice none 0 0, .slice none 0 0, .bool false, .slice none 0 0, .slice none 0 0] 26)); have hq1 := hlt1; (try simp only [kpq_drew, World.size_alloc] at hq1); have hx1 : w2.heap.size ≤ u1.heap.size := HC1.out.size; have HR1 : Hid (u1.ownsRow w2.heap.size 68 1 (.slice (some ⟨g1, 0, none⟩) (xs.length + 3) cg1) (xs.length + 3) ((xs ++ marks 3).map (Value.int .u32)) ∧ u1.ownsRow w2.heap.size 68 1 (.slice (some ⟨g2, 0, none⟩) (ys.length + 3) cg2) (ys.length + 3) ((ys ++ marks 3).map (Value.int .u32)) ∧ u1.ownsRow w2.heap.size 68 1 (.slice (some ⟨g3, 0, none⟩) (us.length + 3) cg3) (us.length + 3) ((us ++ marks 3).map (Value.int .u32)) ∧ u1.ownsRow w2.heap.size 68 1 (.slice (some ⟨g4, 0, none⟩) (vs.length + 3) cg4) (vs.length + 3) ((vs ++ marks 3).map (Value.int .u32))) := (by first | exact kpq_rows HE1.out.1 hd0.out.size | exact kpq_rows HE1.out.1 hd1.out.size | exact kpq_rows HE1.out.1 hd2.out.size); have HO1 : Hid (w2.heap.size ≤ g1 ∧ g1 < g2 ∧ g2 < g3 ∧ g3 < g4 ∧ g4 < u1.heap.size) := (by have q1 := HE1.out.2; (try simp only [kpq_drew, World.size_alloc] at q1); refine ⟨?_, ?_, ?_, ?_, ?_⟩ <;> omega); (try have Z10 : Hid (Box u1 w2.heap.size 26 #[.bool false, .slice none 0 0, .slice none 0 0, .bool false, .slice none 0 0, .slice none 0 0]) := (by first | exact (kpq_made1 w2).later hb1.out (kpq_made1 w2).lt | exact (kpq_made2a w2).later hb1.out (kpq_made2a w2).lt)); (try have Z11 : Hid (Box u1 (w2.heap.size + 1) 26 #[.bool false, .slice none 0 0, .slice none 0 0, .bool false, .slice none 0 0, .slice none 0 0]) := (kpq_made2b w2).later hb1.out (kpq_made2b w2).lt)))
  all_goals refine HQ.out _ _ _ _ _ _ _ ?_
  all_goals first | exact hid (kpq_fin (BH.out.2.1 _ _ _ (by omega) AH.out.1) BH.out.1 (fun _ _ _ _ h => BH.out.2.2.1 _ _ _ _ (AH.out.2.2.1 _ _ _ _ h)) HR2 HO2 (by omega) BT.out) | exact hid (kpq_fin (DH.out.2.1 _ _ _ (by omega) CH.out.1) DH.out.1 (fun _ _ _ _ h => DH.out.2.2.1 _ _ _ _ (CH.out.2.2.1 _ _ _ _ h)) HR2 HO2 (by omega) DT.out) | exact hid (kpq_fin (AH.out.1.later (alloc_later _ _) AH.out.1.lt) (kpq_newb sA5) (fun _ _ _ _ h => owns_later (AH.out.2.2.1 _ _ _ _ h) (alloc_later _ _)) HR2 HO2 (by simp only [World.size_alloc]; omega) (kpq_alx AT.out _)) | exact hid (kpq_fin (kpq_newb sC5) (CH.out.1.later (alloc_later _ _) CH.out.1.lt) (fun _ _ _ _ h => owns_later (CH.out.2.2.1 _ _ _ _ h) (alloc_later _ _)) HR2 HO2 (by simp only [World.size_alloc]; omega) (kpq_alx CT.out _)) | exact hid (kpq_fin (Box.later (Box.made u2 _ _) (alloc_later _ _) (Box.made u2 _ _).lt) kpq_newb2 (fun _ _ _ _ h => owns_later (owns_later h (alloc_later _ _)) (alloc_later _ _)) HR2 HO2 (by simp only [World.size_alloc]; omega) (kpq_alx (kpq_alx HD2.out _) _)) | exact hid (kpq_fin kpq_newb2 (Box.later (Box.made u2 _ _) (alloc_later _ _) (Box.made u2 _ _).lt) (fun _ _ _ _ h => owns_later (owns_later h (alloc_later _ _)) (alloc_later _ _)) HR2 HO2 (by simp only [World.size_alloc]; omega) (kpq_alx (kpq_alx HD2.out _) _))
end Go.Proofs.YtopogjfmocpeaaaGreat

