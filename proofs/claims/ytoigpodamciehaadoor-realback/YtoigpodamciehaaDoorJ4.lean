/- My texts on the way to RealBack, one behind the other: contracts of the program and of the document's answers. -/
import Derived.Test.YtoigpodamciehaaDoorJ1
import Derived.Test.YtoigpodamciehaaDoorJ2
import Derived.Test.YtoigpodamciehaaDoorJ3
import Derived.Deep.Cut
import Derived.Deep.RegionHeld3
import Derived.Lib.LaidTab
/- Fractions: ratio.add: sums of fractions that may be; what is told is new memory, Num and Den apart. -/
namespace Go.Proofs.YtoigpodamciehaaDoor
open Go.RowKit
set_option linter.unusedVariables false

theorem bel_al {a w : World} (h : Below a.heap.size a w) (o : Obj) : Below a.heap.size a (w.alloc o) := h.alloc h.size o
theorem bel_undrew {w V : World} (hb : Below w.drew.heap.size w.drew V) : Below w.heap.size w V := bt (Below.drew (Below.refl _ w)) hb
theorem bel_unal {w V : World} {o : Obj} (hb : Below (w.alloc o).heap.size (w.alloc o) V) : Below w.heap.size w V := bt (alloc_later _ _) hb
theorem zbw {w V : World} (hb : Below (w.alloc (.cells #[.bool false, .slice none 0 0] 81)).heap.size (w.alloc (.cells #[.bool false, .slice none 0 0] 81)) V) : Box V w.heap.size 81 #[.bool false, .slice none 0 0] := (Box.made w 81 _).later hb (by simp)
theorem new_ne' {w : World} {g t : Nat} {vs : Array Value} (h : Box w g t vs) : g < w.heap.size ∧ ¬ w.heap.size = g := by
  have := h.lt
  omega
theorem nes3 {p q : Nat} (h : p + 1 + 1 < q) : ¬ p = q ∧ ¬ q = p ∧ ¬ p + 1 = q ∧ ¬ q = p + 1 := by omega
/-- A whole number in a box, behind what was there. -/
def Num (X U F : World) (p : Nat) (k : Bool) (a : Option Addr) (c : Nat) (z : List Int) (T : Int) : Prop := Box F p 81 #[.bool k, .slice a z.length c] ∧ One X F (.slice a z.length c) z T ∧ Below U.heap.size U F
theorem num_old {X U W : World} {p : Nat} {k : Bool} {a : Option Addr} {c : Nat} {z : List Int} {T : Int} (o : One X W (.slice a z.length c) z T) (hb : Below U.heap.size U W) (h : Box W p 81 #[.bool false, .slice none 0 0]) (lp : U.heap.size ≤ p) : Num X U ((W.setCell ⟨p, 0, none⟩ (.bool k)).setCell ⟨p, 1, none⟩ (.slice a z.length c)) p k a c z T :=
  ⟨h.put2 _ _, ⟨own_put2 o.1 p (own_ne_box o.1 h (by decide)) _ _, o.2⟩, below_put2 hb p lp _ _⟩
theorem num_new {X U W : World} {k : Bool} {a : Option Addr} {c : Nat} {z : List Int} {T : Int} (o : One X W (.slice a z.length c) z T) (hb : Below U.heap.size U W) : Num X U (W.alloc (.cells #[.bool k, .slice a z.length c] 81)) W.heap.size k a c z T :=
  ⟨Box.made W _ _, o.later (alloc_later _ _), bt hb (alloc_later _ _)⟩

theorem lies_low {v : Value} {lo lo' hi : Nat} (h : Lies v lo hi) (hl : lo' ≤ lo) : Lies v lo' hi := fun g hg => ⟨Nat.le_trans hl (h g hg).1, (h g hg).2⟩
theorem sum_4097 {k n m : Bool} {T p1 p2 : Int} (h : sg k T = sg n p1 + sg m p2) (h0 : 0 ≤ T) (q0 : 0 ≤ p1) (q1 : p1 < 4294967296 ^ 4096) (r0 : 0 ≤ p2) (r1 : p2 < 4294967296 ^ 4096) : T < 4294967296 ^ 4097 := by
  have e : (4294967296 : Int) ^ 4097 = 4294967296 ^ 4096 * 4294967296 := Int.pow_succ _ 4096
  rw [e]
  generalize (4294967296 : Int) ^ 4096 = Y at *
  cases k <;> cases n <;> cases m <;> simp [sg] at h <;> omega
theorem at7 {X w7 ww : World} {f : Nat} {args : Array Value} {t : Int} {S : World → Prop} (hS : ∀ V, Below w7.heap.size w7 V → S V) (hw : Below w7.heap.size w7 ww) (C : Calls Tryd.prog f args ww (fun e w' => ∃ a2 zs c2, e = .returned (.slice a2 (List.length zs) c2) ∧ Hid (One X w' (.slice a2 (List.length zs) c2) zs t ∧ Lies (.slice a2 (List.length zs) c2) ww.heap.size w'.heap.size) ∧ True ∧ Below X.heap.size X w' ∧ Hid (Below ww.heap.size ww w'))) :
    Calls Tryd.prog f args ww fun e w' => ∃ a2 zs c2, e = .returned (.slice a2 (List.length zs) c2) ∧ Hid (One X w' (.slice a2 (List.length zs) c2) zs t ∧ Lies (.slice a2 (List.length zs) c2) ww.heap.size w'.heap.size ∧ True ∧ Below w7.heap.size w7 w') ∧ S w' ∧ Hid (Below ww.heap.size ww w') :=
  Calls.mono C fun e w' ⟨a2, zs, c2, h1, h2, _, _, h5⟩ => ⟨a2, zs, c2, h1, ⟨h2.out.1, h2.out.2, trivial, bt hw h5.out⟩, hS w' (bt hw h5.out), h5⟩
theorem rtold_cut2 {U ww : World} {n : Bool} {a : Option Addr} {ca : Nat} {zs : List Int} {b : Option Addr} {cb : Nat} {ds : List Int} {s t : Int} {q : Rat} (hb : Below U.heap.size U ww) (h1 : One U ww (.slice a zs.length ca) zs s) (h2 : One U ww (.slice b ds.length cb) ds t) (hc : Cut U (.slice a zs.length ca) (.slice b ds.length cb) ww) (hd : 0 < t) (hg : gcdI s t = 1) (hq : Rat.divInt (sg n s) t = q) :
    Calls Tryd.prog 55 #[.bool n, .slice a zs.length ca, .slice b ds.length cb] ww fun e w' => ∃ k a8 z8 c8 a9 z9 c9 code, e = .returned (.tuple #[.agg #[.bool k, .slice a8 (List.length z8) c8, .slice a9 (List.length z9) c9], .int .i64 code]) ∧ Hid (w'.ownsRow U.heap.size 63 1 (.slice a8 (List.length z8) c8) z8.length (z8.map (Value.int .u32)) ∧ w'.ownsRow U.heap.size 63 1 (.slice a9 (List.length z9) c9) z9.length (z9.map (Value.int .u32)) ∧ RTells 0 q k z8 z9 code ∧ Cut U (.slice a8 (List.length z8) c8) (.slice a9 (List.length z9) c9) w') ∧ Below U.heap.size U w' ∧ Hid (Below ww.heap.size ww w') := by
  obtain ⟨o1, w1, t1, v1⟩ := h1
  obtain ⟨o2, w2, t2, v2⟩ := h2
  obtain ⟨k, us, vs, c, e1, e2, e3, r⟩ := rtells_of (n := n) w1 t1 w2 t2 (by rw [v2]; exact hd) (by rw [v1, v2]; exact hg)
  rw [v1, v2, hq] at r
  refine Calls.mono (rtold_any n a zs.length ca b ds.length cb ww) fun e w' h => ?_
  obtain ⟨rfl, hb2⟩ := h
  rw [e1]
  by_cases z : c = 0
  · rw [if_pos z] at e2 e3
    subst e2; subst e3
    refine ⟨k, a, us, ca, b, vs, cb, c, by rw [if_pos z, if_pos z], ⟨owns_later o1 hb2, owns_later o2 hb2, r, hc.up (Nat.le_refl _) hb2.size⟩, bt hb hb2, hb2⟩
  · rw [if_neg z] at e2 e3
    subst e2; subst e3
    exact ⟨k, none, [], 0, none, [], 0, c, by rw [if_neg z, if_neg z]; rfl, ⟨World.ownsRow_nil _ _ _ _, World.ownsRow_nil _ _ _ _, r, ⟨U.heap.size, Nat.le_refl _, (bt hb hb2).size, fun g hg => by simp [Value.ownBlock] at hg, fun g hg => by simp [Value.ownBlock] at hg⟩⟩, bt hb hb2, hb2⟩

set_option maxHeartbeats 6400000 in
set_option maxRecDepth 100000 in
theorem radd_any (n : Bool) (a : Option Addr) (ca : Nat) (xs : List Int) (b : Option Addr) (cb : Nat) (ys : List Int) (m : Bool) (c : Option Addr) (cc : Nat) (us : List Int) (d : Option Addr) (cd : Nat) (vs : List Int) (w : World)
    (sx : Sl w (.slice a xs.length ca) xs) (sy : Sl w (.slice b ys.length cb) ys) (su : Sl w (.slice c us.length cc) us) (sv : Sl w (.slice d vs.length cd) vs) (lx : xs.length ≤ 2048) (ly : ys.length ≤ 2048) (lu : us.length ≤ 2048) (lv : vs.length ≤ 2048) (tx : Trimmed xs) (ty : Trimmed ys) (tu : Trimmed us) (tv : Trimmed vs) (hy : 0 < val ys) (hv : 0 < val vs) (h1 : gcdI (val xs) (val ys) = 1) (h2 : gcdI (val us) (val vs) = 1) :
    Calls Tryd.prog 50 #[.agg #[.bool n, .slice a xs.length ca, .slice b ys.length cb], .agg #[.bool m, .slice c us.length cc, .slice d vs.length cd]] w (RToldA w 0 (rq n xs ys + rq m us vs)) := by
  have wx := sx.wd
  have wy := sy.wd
  have wu := su.wd
  have wv := sv.wd
  have HB : Hid (Below w.heap.size w (((w.alloc (.cells #[.bool n, .slice a xs.length ca, .slice b ys.length cb] 25)).alloc (.cells #[.bool m, .slice c us.length cc, .slice d vs.length cd] 25)).alloc (.cells #[.bool false, .slice none 0 0, .slice none 0 0] 25))) := bt (bt (alloc_later _ _) (alloc_later _ _)) (alloc_later _ _)
  have HZ : Hid (Box (((w.alloc (.cells #[.bool n, .slice a xs.length ca, .slice b ys.length cb] 25)).alloc (.cells #[.bool m, .slice c us.length cc, .slice d vs.length cd] 25)).alloc (.cells #[.bool false, .slice none 0 0, .slice none 0 0] 25)) (w.heap.size + 1 + 1) 25 #[.bool false, .slice none 0 0, .slice none 0 0]) := by
    have e := Box.made ((w.alloc (.cells #[.bool n, .slice a xs.length ca, .slice b ys.length cb] 25)).alloc (.cells #[.bool m, .slice c us.length cc, .slice d vs.length cd] 25)) 25 #[.bool false, .slice none 0 0, .slice none 0 0]
    simp at e
    exact e
  have HN : Hid (Box (((w.alloc (.cells #[.bool n, .slice a xs.length ca, .slice b ys.length cb] 25)).alloc (.cells #[.bool m, .slice c us.length cc, .slice d vs.length cd] 25)).alloc (.cells #[.bool false, .slice none 0 0, .slice none 0 0] 25)) w.heap.size 25 #[.bool n, .slice a xs.length ca, .slice b ys.length cb]) := Box.later (Box.made w _ _) (bt (alloc_later _ _) (alloc_later _ _)) (by simp)
  have HM : Hid (Box (((w.alloc (.cells #[.bool n, .slice a xs.length ca, .slice b ys.length cb] 25)).alloc (.cells #[.bool m, .slice c us.length cc, .slice d vs.length cd] 25)).alloc (.cells #[.bool false, .slice none 0 0, .slice none 0 0] 25)) (w.heap.size + 1) 25 #[.bool m, .slice c us.length cc, .slice d vs.length cd]) := by
    have e := Box.later (Box.made (w.alloc (.cells #[.bool n, .slice a xs.length ca, .slice b ys.length cb] 25)) 25 #[.bool m, .slice c us.length cc, .slice d vs.length cd]) (alloc_later ((w.alloc (.cells #[.bool n, .slice a xs.length ca, .slice b ys.length cb] 25)).alloc (.cells #[.bool m, .slice c us.length cc, .slice d vs.length cd] 25)) (.cells #[.bool false, .slice none 0 0, .slice none 0 0] 25)) (by simp)
    simp at e
    exact e
  have HXS : Hid (w.heap.size + 1 + 1 < (((w.alloc (.cells #[.bool n, .slice a xs.length ca, .slice b ys.length cb] 25)).alloc (.cells #[.bool m, .slice c us.length cc, .slice d vs.length cd] 25)).alloc (.cells #[.bool false, .slice none 0 0, .slice none 0 0] 25)).heap.size) := HZ.out.lt
  have HSL := hid (And.intro (sx.later HB.out) (And.intro (sy.later HB.out) (And.intro (su.later HB.out) (sv.later HB.out))))
  have HP := hid (And.intro hy (And.intro hv (And.intro h1 h2)))
  have HTT := hid (And.intro tx (And.intro ty (And.intro tu tv)))
  have HF0 : Hid (0 < gcdI (val ys) (val vs) ∧ gcdI (val ys) (val vs) ≤ val vs) := ⟨gcd_pos_right hv, gcd_le_right hv⟩
  have HL : Hid (val xs < 4294967296 ^ 2048 ∧ val ys < 4294967296 ^ 2048 ∧ val us < 4294967296 ^ 2048 ∧ val vs < 4294967296 ^ 2048) := ⟨below2048 wx lx, below2048 wy ly, below2048 wu lu, below2048 wv lv⟩
  have HNN : Hid (0 ≤ val xs ∧ 0 ≤ val us ∧ 0 ≤ val ys ∧ 0 ≤ val vs) := ⟨val_nonneg wx, val_nonneg wu, val_nonneg wy, val_nonneg wv⟩
  have HD : Hid (val ys / gcdI (val ys) (val vs) < 4294967296 ^ 2048 ∧ val vs / gcdI (val ys) (val vs) < 4294967296 ^ 2048 ∧ 0 ≤ val ys / gcdI (val ys) (val vs) ∧ 0 ≤ val vs / gcdI (val ys) (val vs)) := by
    have q3 := Int.ediv_le_self (a := val ys) (gcdI (val ys) (val vs)) (by omega)
    have q4 := Int.ediv_le_self (a := val vs) (gcdI (val ys) (val vs)) (by omega)
    have q5 := HF0.out
    have := HL.out
    exact ⟨by omega, by omega, Int.ediv_nonneg (by omega) (by omega), Int.ediv_nonneg (by omega) (by omega)⟩
  have HPL : Hid (val xs * (val vs / gcdI (val ys) (val vs)) < 4294967296 ^ 4096 ∧ val us * (val ys / gcdI (val ys) (val vs)) < 4294967296 ^ 4096) := ⟨mul_4096 HNN.out.1 HL.out.1 HD.out.2.2.2 HD.out.2.1, mul_4096 HNN.out.2.1 HL.out.2.2.1 HD.out.2.2.1 HD.out.1⟩
  have HC1 := hid (rcommon_any _ _ ys vs (((w.alloc (.cells #[.bool n, .slice a xs.length ca, .slice b ys.length cb] 25)).alloc (.cells #[.bool m, .slice c us.length cc, .slice d vs.length cd] 25)).alloc (.cells #[.bool false, .slice none 0 0, .slice none 0 0] 25)) HSL.out.2.1 HSL.out.2.2.2 (by omega) (by omega) ty tv)
  obtain ⟨G, hG⟩ : ∃ G, G = gcdI (val ys) (val vs) := ⟨_, rfl⟩
  rw [← hG] at HC1 HF0 HD HPL
  obtain ⟨rA, hA⟩ : ∃ rA, rA = val ys / G := ⟨_, rfl⟩
  obtain ⟨rB, hB⟩ : ∃ rB, rB = val vs / G := ⟨_, rfl⟩
  rw [← hA, ← hB] at HD HPL
  have HEQ := hid (And.intro hG (And.intro hA hB))
  clear sx sy su sv tx ty tu tv hy hv h1 h2 wx wy wu wv hG hA hB
  go_enter Tryd.func50, Tryd.ntmps50
  go_wp2_with fail
  refine Calls.mono HC1.out ?_
  generalize (((w.alloc (.cells #[.bool n, .slice a xs.length ca, .slice b ys.length cb] 25)).alloc (.cells #[.bool m, .slice c us.length cc, .slice d vs.length cd] 25)).alloc (.cells #[.bool false, .slice none 0 0, .slice none 0 0] 25)) = X at *
  rintro e w1 ⟨v1, z1, rfl, o1, wd1, t1, hv1, hb1⟩
  obtain ⟨a1, c1, hs1⟩ := own_slice' o1
  subst hs1
  have HK : Hid (∀ V, Below X.heap.size X V → V.cell? ⟨w.heap.size, 0, none⟩ = some (.bool n) ∧ V.cell? ⟨w.heap.size, 1, none⟩ = some (.slice a xs.length ca) ∧ V.cell? ⟨w.heap.size, 2, none⟩ = some (.slice b ys.length cb) ∧ V.cell? ⟨w.heap.size + 1, 0, none⟩ = some (.bool m) ∧ V.cell? ⟨w.heap.size + 1, 1, none⟩ = some (.slice c us.length cc) ∧ V.cell? ⟨w.heap.size + 1, 2, none⟩ = some (.slice d vs.length cd)) := fun V hb => by
    obtain ⟨p0, p1, p2, _⟩ := res_box3 HN.out hb
    obtain ⟨q0, q1, q2, _⟩ := res_box3 HM.out hb
    exact ⟨p0, p1, p2, q0, q1, q2⟩
  have HO1 : Hid (One X w1.drew (.slice a1 z1.length c1) z1 G) := One.later ⟨o1, wd1, t1, hv1⟩ (Below.drew (Below.refl _ w1))
  have hb1d : Below X.heap.size X w1.drew := hb1.drew
  have hs0 := HK.out _ hb1d
  clear o1 wd1 t1 hv1 hb1 HC1
  have HQY := hid (fun ww (hv' : Below X.heap.size X ww) (h : One X ww (.slice a1 z1.length c1) z1 G) => quot_in _ HK.out hv' (HSL.out.2.1.later hv') (by omega) HTT.out.2.1 h HF0.out.1 (by have := HF0.out; have := HL.out; omega))
  have HQV := hid (fun ww (hv' : Below X.heap.size X ww) (h : One X ww (.slice a1 z1.length c1) z1 G) => quot_in _ HK.out hv' (HSL.out.2.2.2.later hv') (by omega) HTT.out.2.2.2 h HF0.out.1 (by have := HF0.out; have := HL.out; omega))
  rw [← HEQ.out.2.1] at HQY
  rw [← HEQ.out.2.2] at HQV
  go_wp2_with fail
  go_region_held3 (fun V : World => V.cell? ⟨w.heap.size, 0, none⟩ = some (.bool n) ∧ V.cell? ⟨w.heap.size, 1, none⟩ = some (.slice a xs.length ca) ∧ V.cell? ⟨w.heap.size, 2, none⟩ = some (.slice b ys.length cb) ∧ V.cell? ⟨w.heap.size + 1, 0, none⟩ = some (.bool m) ∧ V.cell? ⟨w.heap.size + 1, 1, none⟩ = some (.slice c us.length cc) ∧ V.cell? ⟨w.heap.size + 1, 2, none⟩ = some (.slice d vs.length cd)) (first | exact hs3 | exact hs2 | exact hs0)
    (first
      | (go_at_call 56; with_reducible refine Calls.mono (HQV.out _ hb2 (HO1.out.later HS2.out)) ?_; rintro e w3 ⟨a3, z3, c3, rfl, HE3, hs3, hb3, HS3⟩)
      | (go_at_call 56; with_reducible refine Calls.mono (HQY.out _ hb1d HO1.out) ?_; rintro e w2 ⟨a2, z2, c2, rfl, HE2, hs2, hb2, HS2⟩))
  have HO3 := hid (And.intro ((HO1.out.later HS2.out).later HS3.out) (And.intro (HE2.out.1.later HS3.out) HE3.out.1))
  have HB3 := hid hb3
  clear hs0 hs2 hs3 hb1d hb2 hb3 HE2 HE3 HS2 HS3 HO1 HQY HQV
  go_upto_region 5 with fail
  have HU : Hid (∀ V, Below w3.heap.size w3 V → Below X.heap.size X V) := fun V hb => bt HB3.out hb
  have HBR := hid (Below.refl w3.heap.size w3)
  have HP1 : Hid (∀ V, Below w3.heap.size w3 V → Calls Tryd.prog 42 #[.slice a xs.length ca, .slice a3 z3.length c3] V fun e V' => ∃ a2 zs c2, e = .returned (.slice a2 (List.length zs) c2) ∧ Hid (One X V' (.slice a2 (List.length zs) c2) zs (val xs * rB) ∧ Below V.heap.size V V' ∧ Below w3.heap.size w3 V') ∧ V'.cell? ⟨w.heap.size, 0, none⟩ = some (.bool n) ∧ V'.cell? ⟨w.heap.size, 1, none⟩ = some (.slice a xs.length ca) ∧ V'.cell? ⟨w.heap.size, 2, none⟩ = some (.slice b ys.length cb) ∧ V'.cell? ⟨w.heap.size + 1, 0, none⟩ = some (.bool m) ∧ V'.cell? ⟨w.heap.size + 1, 1, none⟩ = some (.slice c us.length cc) ∧ V'.cell? ⟨w.heap.size + 1, 2, none⟩ = some (.slice d vs.length cd)) := fun V hb => by
    have hx := HU.out V hb
    have on := HO3.out.2.2.later hb
    have e := rprod_any _ _ xs z3 V (HSL.out.1.later hx) on.sl (by have := own_len on HD.out.2.1; omega) HTT.out.1 on.2.2.1
    rw [on.2.2.2] at e
    refine Calls.mono e ?_
    rintro e V' ⟨v2, zs, rfl, o2, wd2, t2, hv2, hb2⟩
    obtain ⟨a2, c2, hs2⟩ := own_slice' o2
    subst hs2
    exact ⟨a2, zs, c2, rfl, ⟨⟨owns_base o2 hx.size, wd2, t2, hv2⟩, hb2, bt hb hb2⟩, HK.out V' (bt hx hb2)⟩
  have HP2 : Hid (∀ V, Below w3.heap.size w3 V → Calls Tryd.prog 42 #[.slice c us.length cc, .slice a2 z2.length c2] V fun e V' => ∃ a2 zs c2, e = .returned (.slice a2 (List.length zs) c2) ∧ Hid (One X V' (.slice a2 (List.length zs) c2) zs (val us * rA) ∧ Below V.heap.size V V' ∧ Below w3.heap.size w3 V') ∧ V'.cell? ⟨w.heap.size, 0, none⟩ = some (.bool n) ∧ V'.cell? ⟨w.heap.size, 1, none⟩ = some (.slice a xs.length ca) ∧ V'.cell? ⟨w.heap.size, 2, none⟩ = some (.slice b ys.length cb) ∧ V'.cell? ⟨w.heap.size + 1, 0, none⟩ = some (.bool m) ∧ V'.cell? ⟨w.heap.size + 1, 1, none⟩ = some (.slice c us.length cc) ∧ V'.cell? ⟨w.heap.size + 1, 2, none⟩ = some (.slice d vs.length cd)) := fun V hb => by
    have hx := HU.out V hb
    have on := HO3.out.2.1.later hb
    have e := rprod_any _ _ us z2 V (HSL.out.2.2.1.later hx) on.sl (by have := own_len on HD.out.1; omega) HTT.out.2.2.1 on.2.2.1
    rw [on.2.2.2] at e
    refine Calls.mono e ?_
    rintro e V' ⟨v2, zs, rfl, o2, wd2, t2, hv2, hb2⟩
    obtain ⟨a2, c2, hs2⟩ := own_slice' o2
    subst hs2
    exact ⟨a2, zs, c2, rfl, ⟨⟨owns_base o2 hx.size, wd2, t2, hv2⟩, hb2, bt hb hb2⟩, HK.out V' (bt hx hb2)⟩
  have HSG : Hid (∀ V, Below w3.heap.size w3 V → ∀ a4 z4 c4 a5 z5 c5, One X V (.slice a4 (List.length z4) c4) z4 (val xs * rB) → One X V (.slice a5 (List.length z5) c5) z5 (val us * rA) → Calls Tryd.prog 63 #[.agg #[.bool n, .slice a4 z4.length c4], .agg #[.bool m, .slice a5 z5.length c5]] V fun e V' => ∃ k a2 zs c2, e = .returned (.agg #[.bool k, .slice a2 (List.length zs) c2]) ∧ Hid ((∃ T, One X V' (.slice a2 (List.length zs) c2) zs T ∧ sg k T = (sg n (val xs * rB) + sg m (val us * rA))) ∧ Below V.heap.size V V' ∧ Below w3.heap.size w3 V') ∧ V'.cell? ⟨w.heap.size, 0, none⟩ = some (.bool n) ∧ V'.cell? ⟨w.heap.size, 1, none⟩ = some (.slice a xs.length ca) ∧ V'.cell? ⟨w.heap.size, 2, none⟩ = some (.slice b ys.length cb) ∧ V'.cell? ⟨w.heap.size + 1, 0, none⟩ = some (.bool m) ∧ V'.cell? ⟨w.heap.size + 1, 1, none⟩ = some (.slice c us.length cc) ∧ V'.cell? ⟨w.heap.size + 1, 2, none⟩ = some (.slice d vs.length cd)) := fun V hb a4 z4 c4 a5 z5 c5 h4 h5 => by
    have hx := HU.out V hb
    have e := rsigned_any n _ z4 m _ z5 V h4.sl h5.sl (by have := own_len h4 HPL.out.1; omega) (by have := own_len h5 HPL.out.2; omega) h4.2.2.1 h5.2.2.1
    rw [show wval n z4 = sg n (val z4) from rfl, show wval m z5 = sg m (val z5) from rfl, h4.2.2.2, h5.2.2.2] at e
    refine Calls.mono e ?_
    rintro e V' ⟨k, v, zs, rfl, o, h1, h2, h3, hb2⟩
    obtain ⟨a2, c2, hs2⟩ := own_slice' o
    subst hs2
    exact ⟨k, a2, zs, c2, rfl, ⟨⟨val zs, ⟨owns_base o hx.size, h1, h2, rfl⟩, h3⟩, hb2, bt hb hb2⟩, HK.out V' (bt hx hb2)⟩
  have HW2 := hid (Nat.lt_of_lt_of_le HXS.out HB3.out.size)
  obtain ⟨m1, m2, m3, m4⟩ := nes3 HW2.out
  go_cut [9] from 11 (fun s9 wx => ∃ p k a6 c6 z6 T, s9 = .pointer (some ⟨p, 0, none⟩) ∧ Hid (Num X w3 wx p k a6 c6 z6 T ∧ sg k T = sg n (val xs * rB) + sg m (val us * rA) ∧ w3.heap.size ≤ p))
  case first =>
    have hs0 := HK.out _ (HU.out _ HBR.out.drew)
    go_region_held3 (fun V : World => V.cell? ⟨w.heap.size, 0, none⟩ = some (.bool n) ∧ V.cell? ⟨w.heap.size, 1, none⟩ = some (.slice a xs.length ca) ∧ V.cell? ⟨w.heap.size, 2, none⟩ = some (.slice b ys.length cb) ∧ V.cell? ⟨w.heap.size + 1, 0, none⟩ = some (.bool m) ∧ V.cell? ⟨w.heap.size + 1, 1, none⟩ = some (.slice c us.length cc) ∧ V.cell? ⟨w.heap.size + 1, 2, none⟩ = some (.slice d vs.length cd)) (first | exact hs6 | exact hs5 | exact hs4 | exact hs0 | with_reducible exact HK.out _ (HU.out _ (bel_al HE6.out.2.2 _)) | with_reducible exact HK.out _ (HU.out _ (bel_al HE5.out.2.2 _)) | with_reducible exact HK.out _ (HU.out _ (bel_al HE4.out.2.2 _)) | with_reducible exact HK.out _ (HU.out _ (bel_al HBR.out _).drew) | with_reducible exact HK.out _ (HU.out _ (below_put2 HE6.out.2.2 _ (by omega) _ _)) | go_keep)
      (first
        | (go_at_call 63; with_reducible refine Calls.mono (HSG.out _ (by first | exact HE5.out.2.2 | exact bel_al HE5.out.2.2 _) _ _ _ _ _ _ (by first | exact HE4.out.1.later HL5.out | exact (HE4.out.1.later HL5.out).later (alloc_later _ _)) (by first | exact HE5.out.1 | exact HE5.out.1.later (alloc_later _ _))) ?_; rintro e w6 ⟨k6, a6, z6, c6, rfl, HE6, hs6⟩; (first | (have HL6 := hid (bel_unal (w := w5) HE6.out.2.1)) | (have HL6 := hid HE6.out.2.1)); (first | (have HY1 := hid ((HZ1.out.later HL5.out HZ1.out.lt).later HL6.out (HZ1.out.later HL5.out HZ1.out.lt).lt); clear y0 y1 y2 y3; obtain ⟨j0, j1, j2, j3⟩ := HY1.out.c2; obtain ⟨j4, j5⟩ := new_ne' HY1.out) | skip); (first | (have HY2 := hid (HZ2.out.later HL6.out HZ2.out.lt); clear u0 u1 u2 u3; obtain ⟨j0, j1, j2, j3⟩ := HY2.out.c2; obtain ⟨j4, j5⟩ := new_ne' HY2.out) | skip); (first | (have HY3 := hid (zbw HE6.out.2.1); obtain ⟨j0, j1, j2, j3⟩ := HY3.out.c2; obtain ⟨j4, j5⟩ := new_ne' HY3.out) | skip))
        | (go_at_call 42; with_reducible refine Calls.mono (HP2.out _ (by first | exact HE4.out.2.2 | exact bel_al HE4.out.2.2 _)) ?_; rintro e w5 ⟨a5, z5, c5, rfl, HE5, hs5⟩; have hz5 := HE5.out.2.2.size; (first | (have HL5 := hid (bel_unal (w := w4) HE5.out.2.1)) | (have HL5 := hid HE5.out.2.1)); (first | (have HZ2 := hid (zbw HE5.out.2.1); obtain ⟨u0, u1, u2, u3⟩ := HZ2.out.c2; obtain ⟨u4, u5⟩ := new_ne' HZ2.out) | skip))
        | (go_at_call 42; with_reducible refine Calls.mono (HP1.out _ (by first | exact HBR.out.drew | exact (bel_al HBR.out _).drew)) ?_; rintro e w4 ⟨a4, z4, c4, rfl, HE4, hs4⟩; have hz4 := HE4.out.2.2.size; obtain ⟨l1, l2, l3, l4⟩ := nes3 (Nat.lt_of_lt_of_le HW2.out HE4.out.2.2.size); (first | (have HZ1 := hid (zbw (bel_undrew HE4.out.2.1)); obtain ⟨y0, y1, y2, y3⟩ := HZ1.out.c2; obtain ⟨y4, y5⟩ := new_ne' HZ1.out) | skip)))
    all_goals
      have hz6 := HE6.out.2.2.size
      have hz45 := HL5.out.size
      obtain ⟨T, oT, hT⟩ := HE6.out.1
      have HOT := hid oT
      have HHT := hid hT
      clear oT hT
      go_wp2_with fail
      go_meet
    all_goals (first | with_reducible exact ⟨_, k6, a6, c6, z6, T, rfl, hid (And.intro (num_old HOT.out HE6.out.2.2 HY1.out (by omega)) (And.intro HHT.out (by omega)))⟩ | with_reducible exact ⟨_, k6, a6, c6, z6, T, rfl, hid (And.intro (num_old HOT.out HE6.out.2.2 HY2.out (by omega)) (And.intro HHT.out (by omega)))⟩ | with_reducible exact ⟨_, k6, a6, c6, z6, T, rfl, hid (And.intro (num_old HOT.out HE6.out.2.2 HY3.out (by omega)) (And.intro HHT.out (by omega)))⟩ | with_reducible exact ⟨_, k6, a6, c6, z6, T, rfl, hid (And.intro (num_new HOT.out HE6.out.2.2) (And.intro HHT.out (by omega)))⟩)
  case rest =>
    obtain ⟨p, k6, a6, c6, z6, T, rfl, HNm⟩ := hcut
    have HBc := hid (bt HB3.out HNm.out.1.2.2)
    have HOc := hid (And.intro (HO3.out.1.later HNm.out.1.2.2) (And.intro (HO3.out.2.1.later HNm.out.1.2.2) HNm.out.1.2.1))
    have HBX := hid HNm.out.1.1
    have HTS := hid HNm.out.2.1
    have HPW := hid (Nat.lt_of_lt_of_le (Nat.lt_of_lt_of_le HXS.out HB3.out.size) HNm.out.2.2)
    have HT0 : Hid (0 ≤ T) := by rw [← HOc.out.2.2.2.2.2]; exact val_nonneg HOc.out.2.2.2.1
    have HTL : Hid (T < 4294967296 ^ 4097) := sum_4097 HTS.out HT0.out (Int.mul_nonneg HNN.out.1 HD.out.2.2.2) HPL.out.1 (Int.mul_nonneg HNN.out.2.1 HD.out.2.2.1) HPL.out.2
    have l6 : z6.length ≤ 4097 := own_len HOc.out.2.2 HTL.out
    have l1 : z1.length ≤ 2048 := own_len HOc.out.1 (by have := HF0.out; have := HL.out; omega)
    have l2 : z2.length ≤ 2048 := own_len HOc.out.2.1 HD.out.1
    have HC4 := hid (rcommon_any _ _ z6 z1 wc HOc.out.2.2.sl HOc.out.1.sl (by omega) (by omega) HOc.out.2.2.2.2.1 HOc.out.1.2.2.1)
    rw [HOc.out.2.2.2.2.2, HOc.out.1.2.2.2] at HC4
    have HSS : Hid (0 < gcdI T G ∧ gcdI T G ≤ G ∧ G < 4294967296 ^ 2048) := ⟨gcd_pos_right HF0.out.1, gcd_le_right HF0.out.1, by have := HF0.out; have := HL.out; omega⟩
    have HAP := hid (add_parts (n := n) (m := m) (nn := k6) (xs := xs) (ys := ys) (us := us) (vs := vs) HP.out.1 HP.out.2.1 HP.out.2.2.1 HP.out.2.2.2 HEQ.out.1 HEQ.out.2.1 HEQ.out.2.2 rfl rfl HTS.out (s := gcdI T G) rfl (q1 := T / gcdI T G) rfl (e := val vs / gcdI T G) rfl (den := rA * (val vs / gcdI T G)) rfl)
    clear HNm HP1 HP2 HSG HU HBR HB3 HO3 m1 m2 m3 m4 HW2
    obtain ⟨p0, p1, _, _⟩ := HBX.out.c2
    go_wp2_with fail
    refine Calls.mono HC4.out ?_
    rintro e w7 ⟨v7, z7, rfl, o7, wd7, t7, hv7, hb7⟩
    obtain ⟨a7, c7, hs7⟩ := own_slice' o7
    subst hs7
    have HB7 := hid (bt HBc.out hb7)
    have HBX7 := hid (HBX.out.later hb7 HBX.out.lt)
    have HO7 : Hid (One X w7.drew (.slice a7 z7.length c7) z7 (gcdI T G) ∧ One X w7.drew (.slice a2 z2.length c2) z2 rA ∧ One X w7.drew (.slice a6 z6.length c6) z6 T) := ⟨One.later ⟨owns_base o7 HBc.out.size, wd7, t7, hv7⟩ (Below.drew (Below.refl _ w7)), (HOc.out.2.1.later hb7).later (Below.drew (Below.refl _ w7)), (HOc.out.2.2.later hb7).later (Below.drew (Below.refl _ w7))⟩
    have hb7d : Below X.heap.size X w7.drew := HB7.out.drew
    clear o7 wd7 t7 hv7 hb7 HC4 p0 p1 HOc
    obtain ⟨SP, hSP⟩ : ∃ SP : World → Prop, SP = fun V => (V.cell? ⟨w.heap.size, 0, none⟩ = some (.bool n) ∧ V.cell? ⟨w.heap.size, 1, none⟩ = some (.slice a xs.length ca) ∧ V.cell? ⟨w.heap.size, 2, none⟩ = some (.slice b ys.length cb) ∧ V.cell? ⟨w.heap.size + 1, 0, none⟩ = some (.bool m) ∧ V.cell? ⟨w.heap.size + 1, 1, none⟩ = some (.slice c us.length cc) ∧ V.cell? ⟨w.heap.size + 1, 2, none⟩ = some (.slice d vs.length cd)) ∧ V.cell? ⟨p, 0, none⟩ = some (.bool k6) ∧ V.cell? ⟨p, 1, none⟩ = some (.slice a6 z6.length c6) := ⟨_, rfl⟩
    have HK7 : Hid (∀ V, Below w7.heap.size w7 V → (V.cell? ⟨w.heap.size, 0, none⟩ = some (.bool n) ∧ V.cell? ⟨w.heap.size, 1, none⟩ = some (.slice a xs.length ca) ∧ V.cell? ⟨w.heap.size, 2, none⟩ = some (.slice b ys.length cb) ∧ V.cell? ⟨w.heap.size + 1, 0, none⟩ = some (.bool m) ∧ V.cell? ⟨w.heap.size + 1, 1, none⟩ = some (.slice c us.length cc) ∧ V.cell? ⟨w.heap.size + 1, 2, none⟩ = some (.slice d vs.length cd)) ∧ V.cell? ⟨p, 0, none⟩ = some (.bool k6) ∧ V.cell? ⟨p, 1, none⟩ = some (.slice a6 z6.length c6)) := fun V hb => by
      obtain ⟨q0, q1, _, _⟩ := (HBX7.out.later hb HBX7.out.lt).c2
      exact ⟨HK.out V (bt HB7.out hb), q0, q1⟩
    clear hSP SP
    have HBR := hid (Below.refl w7.heap.size w7)
    have hs0 := HK7.out _ HBR.out.drew
    have HQ6 := hid (fun (ww : World) (hw : Below w7.heap.size w7 ww) (h : One X ww (.slice a7 z7.length c7) z7 (gcdI T G)) (h6 : One X ww (.slice a6 z6.length c6) z6 T) => (by have e := quot_in (U := X) (fun _ => True) (fun _ _ => trivial) (bt HB7.out hw) h6.sl (by omega) h6.2.2.1 h HSS.out.1 (by have := HSS.out; omega); rw [h6.2.2.2] at e; exact at7 HK7.out hw e : Calls Tryd.prog 56 #[.slice a6 z6.length c6, .slice a7 z7.length c7] ww _))
    have HQV := hid (fun (ww : World) (hw : Below w7.heap.size w7 ww) (h : One X ww (.slice a7 z7.length c7) z7 (gcdI T G)) => (by have e := quot_in (U := X) (fun _ => True) (fun _ _ => trivial) (bt HB7.out hw) (HSL.out.2.2.2.later (bt HB7.out hw)) (by omega) HTT.out.2.2.2 h HSS.out.1 (by have := HSS.out; omega); exact at7 HK7.out hw e : Calls Tryd.prog 56 #[.slice d vs.length cd, .slice a7 z7.length c7] ww _))
    have HPR := hid (fun (ww : World) (hw : Below w7.heap.size w7 ww) (a9 : Option Addr) (z9 : List Int) (c9 : Nat) (h2 : One X ww (.slice a2 z2.length c2) z2 rA) (h9 : One X ww (.slice a9 z9.length c9) z9 (val vs / gcdI T G)) => (by have e := told1_in (U := X) (fun _ => True) (fun _ _ => trivial) ww (bt HB7.out hw) (rprod_any _ _ z2 z9 ww h2.sl h9.sl (by have := own_len h9 (L := 2048) (by have q := Int.ediv_le_self (a := val vs) (gcdI T G) HNN.out.2.2.2; have := HL.out; omega); omega) h2.2.2.1 h9.2.2.1); rw [h2.2.2.2, h9.2.2.2] at e; exact at7 HK7.out hw e : Calls Tryd.prog 42 #[.slice a2 z2.length c2, .slice a9 z9.length c9] ww _))
    have HTL2 := hid (fun (ww : World) (hb : Below X.heap.size X ww) (a8 : Option Addr) (z8 : List Int) (c8 : Nat) (a10 : Option Addr) (z10 : List Int) (c10 : Nat) (g1 : One X ww (.slice a8 z8.length c8) z8 (T / gcdI T G)) (g2 : One X ww (.slice a10 z10.length c10) z10 (rA * (val vs / gcdI T G))) (hc : Cut X (.slice a8 z8.length c8) (.slice a10 z10.length c10) ww) => rtold_cut2 (n := k6) (q := rq n xs ys + rq m us vs) hb g1 g2 hc HAP.out.1 HAP.out.2.1 HAP.out.2.2)
    have hq0 : w.heap.size + 1 + 1 ≠ w.heap.size := by omega
    have hq2 : ¬ w.heap.size + 1 + 1 = p := by have := HPW.out; omega
    go_wp2_with fail
    go_region_held3 (fun V : World => (V.cell? ⟨w.heap.size, 0, none⟩ = some (.bool n) ∧ V.cell? ⟨w.heap.size, 1, none⟩ = some (.slice a xs.length ca) ∧ V.cell? ⟨w.heap.size, 2, none⟩ = some (.slice b ys.length cb) ∧ V.cell? ⟨w.heap.size + 1, 0, none⟩ = some (.bool m) ∧ V.cell? ⟨w.heap.size + 1, 1, none⟩ = some (.slice c us.length cc) ∧ V.cell? ⟨w.heap.size + 1, 2, none⟩ = some (.slice d vs.length cd)) ∧ V.cell? ⟨p, 0, none⟩ = some (.bool k6) ∧ V.cell? ⟨p, 1, none⟩ = some (.slice a6 z6.length c6)) (first | exact hs11 | exact hs10 | exact hs9 | exact hs8 | exact hs0 | (simp [hs11, World.cell?_setCell_far, hq0, hq2]))
      (first
        | (go_at_call 55; with_reducible refine Calls.mono (HTL2.out _ (bt HB7.out HE10.out.2.2.2) _ _ _ _ _ _ ((HE8.out.1.later HS9.out).later HS10.out) HE10.out.1 (cut_two hb7d.size HS8.out.size (Nat.le_trans HS9.out.size HS10.out.size) HE8.out.2.1 (lies_low HE10.out.2.1 HS9.out.size))) ?_; rintro e w11 ⟨k9, a11, z11, c11, a12, z12, c12, code, rfl, HE11, hb11, HS11⟩; obtain ⟨y0, y1, y2, f0, f1, f2⟩ := res_box3 HZ.out hb11; have hs11 := HK7.out w11 (bt HE10.out.2.2.2 HS11.out))
        | (go_at_call 42; with_reducible refine Calls.mono (HPR.out _ HE9.out.2.2.2 _ _ _ ((HO7.out.2.1.later HS8.out).later HS9.out) HE9.out.1) ?_; rintro e w10 ⟨a10, z10, c10, rfl, HE10, hs10, HS10⟩)
        | (go_at_call 56; with_reducible refine Calls.mono (HQV.out _ HE8.out.2.2.2 (HO7.out.1.later HS8.out)) ?_; rintro e w9 ⟨a9, z9, c9, rfl, HE9, hs9, HS9⟩)
        | (go_at_call 56; with_reducible refine Calls.mono (HQ6.out _ HBR.out.drew HO7.out.1 HO7.out.2.2) ?_; rintro e w8 ⟨a8, z8, c8, rfl, HE8, hs8, HS8⟩))
    all_goals
      have HBW := hid (bt HB.out hb11)
      have HR := hid HE11.out
      clear HK HK7 HQ6 HQV HPR HTL2 HE8 HE9 HE10 HE11 HS8 HS9 HS10 HS11 HO7 hs0 hs8 hs9 hs10 hs11 hb7d hb11 HAP HBX HBX7 HBR HB7 HBc
      go_wp2_with fail
      refine bodyPost_ret (v := .tuple #[.agg #[.bool k9, .slice a11 z11.length c11, .slice a12 z12.length c12], .int .i64 code]) (by simp [results, Tryd.results50, go_sem, y0, y1, y2]) rfl ?_
      exact RToldA.put HR.out (w.heap.size + 1 + 1) HXS.out (by omega) HBW.out _ _ _
end Go.Proofs.YtoigpodamciehaaDoor

/- Fractions: ratio.Add, Mul, Sub: of any fractions, good or refused; what is told is new memory. -/
namespace Go.Proofs.YtoigpodamciehaaDoor
open Go.RowKit
set_option linter.unusedVariables false

theorem rq_less {n m : Bool} {xs ys us vs : List Int} : rq n xs ys + rq (!m) us vs = rq n xs ys - rq m us vs := by
  rw [Rat.sub_eq_add_neg]
  congr 1
  unfold rq
  rw [Rat.neg_divInt]
  congr 1
  cases m <;> simp [wval]

set_option maxHeartbeats 3200000 in
set_option maxRecDepth 100000 in
theorem rAdd_err (n : Bool) (a : Option Addr) (ca : Nat) (xs : List Int) (b : Option Addr) (cb : Nat) (ys : List Int) (m : Bool) (c : Option Addr) (cc : Nat) (us : List Int) (d : Option Addr) (cd : Nat) (vs : List Int) (w : World) (sx : Sl w (.slice a xs.length ca) xs) (sy : Sl w (.slice b ys.length cb) ys) (su : Sl w (.slice c us.length cc) us) (sv : Sl w (.slice d vs.length cd) vs) (he : rboth n xs ys m us vs ≠ 0) (q : Rat) :
    Calls Tryd.prog 40 #[.agg #[.bool n, .slice a xs.length ca, .slice b ys.length cb], .agg #[.bool m, .slice c us.length cc, .slice d vs.length cd]] w (RToldA w (rboth n xs ys m us vs) q) := by
  have HB : Hid (Below w.heap.size w (((w.alloc (.cells #[.bool n, .slice a xs.length ca, .slice b ys.length cb] 25)).alloc (.cells #[.bool m, .slice c us.length cc, .slice d vs.length cd] 25)).alloc (.cells #[.bool false, .slice none 0 0, .slice none 0 0] 25))) := bt (bt (alloc_later _ _) (alloc_later _ _)) (alloc_later _ _)
  have HZ : Hid (Box (((w.alloc (.cells #[.bool n, .slice a xs.length ca, .slice b ys.length cb] 25)).alloc (.cells #[.bool m, .slice c us.length cc, .slice d vs.length cd] 25)).alloc (.cells #[.bool false, .slice none 0 0, .slice none 0 0] 25)) (w.heap.size + 1 + 1) 25 #[.bool false, .slice none 0 0, .slice none 0 0]) := by
    have e := Box.made ((w.alloc (.cells #[.bool n, .slice a xs.length ca, .slice b ys.length cb] 25)).alloc (.cells #[.bool m, .slice c us.length cc, .slice d vs.length cd] 25)) 25 #[.bool false, .slice none 0 0, .slice none 0 0]
    simp at e
    exact e
  have HN : Hid (Box (((w.alloc (.cells #[.bool n, .slice a xs.length ca, .slice b ys.length cb] 25)).alloc (.cells #[.bool m, .slice c us.length cc, .slice d vs.length cd] 25)).alloc (.cells #[.bool false, .slice none 0 0, .slice none 0 0] 25)) w.heap.size 25 #[.bool n, .slice a xs.length ca, .slice b ys.length cb]) := Box.later (Box.made w _ _) (bt (alloc_later _ _) (alloc_later _ _)) (by simp)
  have HM : Hid (Box (((w.alloc (.cells #[.bool n, .slice a xs.length ca, .slice b ys.length cb] 25)).alloc (.cells #[.bool m, .slice c us.length cc, .slice d vs.length cd] 25)).alloc (.cells #[.bool false, .slice none 0 0, .slice none 0 0] 25)) (w.heap.size + 1) 25 #[.bool m, .slice c us.length cc, .slice d vs.length cd]) := by
    have e := Box.later (Box.made (w.alloc (.cells #[.bool n, .slice a xs.length ca, .slice b ys.length cb] 25)) 25 #[.bool m, .slice c us.length cc, .slice d vs.length cd]) (alloc_later ((w.alloc (.cells #[.bool n, .slice a xs.length ca, .slice b ys.length cb] 25)).alloc (.cells #[.bool m, .slice c us.length cc, .slice d vs.length cd] 25)) (.cells #[.bool false, .slice none 0 0, .slice none 0 0] 25)) (by simp)
    simp at e
    exact e
  have HXS : Hid (w.heap.size + 1 + 1 < (((w.alloc (.cells #[.bool n, .slice a xs.length ca, .slice b ys.length cb] 25)).alloc (.cells #[.bool m, .slice c us.length cc, .slice d vs.length cd] 25)).alloc (.cells #[.bool false, .slice none 0 0, .slice none 0 0] 25)).heap.size) := HZ.out.lt
  have HSL := hid (And.intro (sx.later HB.out) (And.intro (sy.later HB.out) (And.intro (su.later HB.out) (sv.later HB.out))))
  have HC := hid (rcheckBoth_any n _ xs _ ys m _ us _ vs (((w.alloc (.cells #[.bool n, .slice a xs.length ca, .slice b ys.length cb] 25)).alloc (.cells #[.bool m, .slice c us.length cc, .slice d vs.length cd] 25)).alloc (.cells #[.bool false, .slice none 0 0, .slice none 0 0] 25)) HSL.out.1 HSL.out.2.1 HSL.out.2.2.1 HSL.out.2.2.2)
  obtain ⟨E, hE⟩ : ∃ E, rboth n xs ys m us vs = E := ⟨_, rfl⟩
  rw [hE] at HC he ⊢
  have he' : (E == 0) = false := beq_eq_false_iff_ne.2 he
  have HE := hid he
  clear he hE sx sy su sv
  go_enter Tryd.func40, Tryd.ntmps40
  go_wp2_with fail
  refine Calls.mono HC.out ?_
  generalize (((w.alloc (.cells #[.bool n, .slice a xs.length ca, .slice b ys.length cb] 25)).alloc (.cells #[.bool m, .slice c us.length cc, .slice d vs.length cd] 25)).alloc (.cells #[.bool false, .slice none 0 0, .slice none 0 0] 25)) = X at *
  rintro e w1 ⟨rfl, hb1⟩
  obtain ⟨y0, y1, y2, f0, f1, f2⟩ := res_box3 HZ.out hb1
  have HBN := hid (below_put3 (bt HB.out hb1) (w.heap.size + 1 + 1) (by omega) (.bool false) (.slice none 0 0) (.slice none 0 0))
  clear hb1 HC HN HM HZ HSL
  go_wp2_with fail
  refine bodyPost_ret (v := .tuple #[.agg #[.bool false, .slice none 0 0, .slice none 0 0], .int .i64 E]) (by simp [results, Tryd.results40, go_sem, y0, y1, y2]) rfl ?_
  exact ⟨false, _, [], _, [], _, rfl, World.ownsRow_nil _ _ _ _, World.ownsRow_nil _ _ _ _, RTells.err HE.out, HBN.out, ⟨w.heap.size, Nat.le_refl _, HBN.out.size, fun g hg => by simp [Value.ownBlock] at hg, fun g hg => by simp [Value.ownBlock] at hg⟩⟩

set_option maxHeartbeats 3200000 in
set_option maxRecDepth 100000 in
theorem rAdd_ok (n : Bool) (a : Option Addr) (ca : Nat) (xs : List Int) (b : Option Addr) (cb : Nat) (ys : List Int) (m : Bool) (c : Option Addr) (cc : Nat) (us : List Int) (d : Option Addr) (cd : Nat) (vs : List Int) (w : World) (sx : Sl w (.slice a xs.length ca) xs) (sy : Sl w (.slice b ys.length cb) ys) (su : Sl w (.slice c us.length cc) us) (sv : Sl w (.slice d vs.length cd) vs) (hx : rchk n xs ys = 0) (hy : rchk m us vs = 0) :
    Calls Tryd.prog 40 #[.agg #[.bool n, .slice a xs.length ca, .slice b ys.length cb], .agg #[.bool m, .slice c us.length cc, .slice d vs.length cd]] w (RToldA w 0 (rq n xs ys + rq m us vs)) := by
  obtain ⟨lx, ly, tx, ty, y0', _, g1⟩ := rchk_ok hx
  obtain ⟨lu, lv, tu, tv, v0', _, g2⟩ := rchk_ok hy
  have py := val_pos' sy.wd ty y0'
  have pv := val_pos' sv.wd tv v0'
  have HB : Hid (Below w.heap.size w (((w.alloc (.cells #[.bool n, .slice a xs.length ca, .slice b ys.length cb] 25)).alloc (.cells #[.bool m, .slice c us.length cc, .slice d vs.length cd] 25)).alloc (.cells #[.bool false, .slice none 0 0, .slice none 0 0] 25))) := bt (bt (alloc_later _ _) (alloc_later _ _)) (alloc_later _ _)
  have HZ : Hid (Box (((w.alloc (.cells #[.bool n, .slice a xs.length ca, .slice b ys.length cb] 25)).alloc (.cells #[.bool m, .slice c us.length cc, .slice d vs.length cd] 25)).alloc (.cells #[.bool false, .slice none 0 0, .slice none 0 0] 25)) (w.heap.size + 1 + 1) 25 #[.bool false, .slice none 0 0, .slice none 0 0]) := by
    have e := Box.made ((w.alloc (.cells #[.bool n, .slice a xs.length ca, .slice b ys.length cb] 25)).alloc (.cells #[.bool m, .slice c us.length cc, .slice d vs.length cd] 25)) 25 #[.bool false, .slice none 0 0, .slice none 0 0]
    simp at e
    exact e
  have HN : Hid (Box (((w.alloc (.cells #[.bool n, .slice a xs.length ca, .slice b ys.length cb] 25)).alloc (.cells #[.bool m, .slice c us.length cc, .slice d vs.length cd] 25)).alloc (.cells #[.bool false, .slice none 0 0, .slice none 0 0] 25)) w.heap.size 25 #[.bool n, .slice a xs.length ca, .slice b ys.length cb]) := Box.later (Box.made w _ _) (bt (alloc_later _ _) (alloc_later _ _)) (by simp)
  have HM : Hid (Box (((w.alloc (.cells #[.bool n, .slice a xs.length ca, .slice b ys.length cb] 25)).alloc (.cells #[.bool m, .slice c us.length cc, .slice d vs.length cd] 25)).alloc (.cells #[.bool false, .slice none 0 0, .slice none 0 0] 25)) (w.heap.size + 1) 25 #[.bool m, .slice c us.length cc, .slice d vs.length cd]) := by
    have e := Box.later (Box.made (w.alloc (.cells #[.bool n, .slice a xs.length ca, .slice b ys.length cb] 25)) 25 #[.bool m, .slice c us.length cc, .slice d vs.length cd]) (alloc_later ((w.alloc (.cells #[.bool n, .slice a xs.length ca, .slice b ys.length cb] 25)).alloc (.cells #[.bool m, .slice c us.length cc, .slice d vs.length cd] 25)) (.cells #[.bool false, .slice none 0 0, .slice none 0 0] 25)) (by simp)
    simp at e
    exact e
  have HXS : Hid (w.heap.size + 1 + 1 < (((w.alloc (.cells #[.bool n, .slice a xs.length ca, .slice b ys.length cb] 25)).alloc (.cells #[.bool m, .slice c us.length cc, .slice d vs.length cd] 25)).alloc (.cells #[.bool false, .slice none 0 0, .slice none 0 0] 25)).heap.size) := HZ.out.lt
  have HSL := hid (And.intro (sx.later HB.out) (And.intro (sy.later HB.out) (And.intro (su.later HB.out) (sv.later HB.out))))
  have HC := hid (rcheckBoth_any n _ xs _ ys m _ us _ vs (((w.alloc (.cells #[.bool n, .slice a xs.length ca, .slice b ys.length cb] 25)).alloc (.cells #[.bool m, .slice c us.length cc, .slice d vs.length cd] 25)).alloc (.cells #[.bool false, .slice none 0 0, .slice none 0 0] 25)) HSL.out.1 HSL.out.2.1 HSL.out.2.2.1 HSL.out.2.2.2)
  rw [rboth_good hx hy] at HC
  have HA := hid (fun ww (hb : Below (((w.alloc (.cells #[.bool n, .slice a xs.length ca, .slice b ys.length cb] 25)).alloc (.cells #[.bool m, .slice c us.length cc, .slice d vs.length cd] 25)).alloc (.cells #[.bool false, .slice none 0 0, .slice none 0 0] 25)).heap.size (((w.alloc (.cells #[.bool n, .slice a xs.length ca, .slice b ys.length cb] 25)).alloc (.cells #[.bool m, .slice c us.length cc, .slice d vs.length cd] 25)).alloc (.cells #[.bool false, .slice none 0 0, .slice none 0 0] 25)) ww) => radd_any n a ca xs b cb ys m c cc us d cd vs ww (HSL.out.1.later hb) (HSL.out.2.1.later hb) (HSL.out.2.2.1.later hb) (HSL.out.2.2.2.later hb) lx ly lu lv tx ty tu tv (by omega) (by omega) g1 g2)
  clear sx sy su sv hx hy tx ty tu tv g1 g2 py pv
  go_enter Tryd.func40, Tryd.ntmps40
  go_wp2_with fail
  refine Calls.mono HC.out ?_
  generalize (((w.alloc (.cells #[.bool n, .slice a xs.length ca, .slice b ys.length cb] 25)).alloc (.cells #[.bool m, .slice c us.length cc, .slice d vs.length cd] 25)).alloc (.cells #[.bool false, .slice none 0 0, .slice none 0 0] 25)) = X at *
  rintro e w1 ⟨rfl, hb1⟩
  have HCA := hid (HA.out w1 hb1)
  obtain ⟨p0, p1, p2, _⟩ := res_box3 HN.out hb1
  obtain ⟨q0, q1, q2, _⟩ := res_box3 HM.out hb1
  have HB1 := hid hb1
  clear hb1 HC HA
  go_wp2_with fail
  refine Calls.mono HCA.out ?_
  rintro e w2 ⟨k2, v2, z2, u2, r2, code, rfl, o2, o3, t2, hb2, hc2⟩
  obtain ⟨a2, c2, hs2⟩ := own_slice' o2
  subst hs2
  obtain ⟨a3, c3, hs3⟩ := own_slice' o3
  subst hs3
  have HR := hid (And.intro o2 (And.intro o3 (And.intro t2 hc2)))
  obtain ⟨y0, y1, y2, f0, f1, f2⟩ := res_box3 HZ.out (bt HB1.out hb2)
  have HBW := hid (bt HB.out (bt HB1.out hb2))
  have HLT : Hid (w.heap.size + 1 + 1 < w1.heap.size) := Nat.lt_of_lt_of_le HXS.out HB1.out.size
  clear o2 o3 t2 hb2 hc2 HCA p0 p1 p2 q0 q1 q2
  go_wp2_with fail
  refine bodyPost_ret (v := .tuple #[.agg #[.bool k2, .slice a2 z2.length c2, .slice a3 r2.length c3], .int .i64 code]) (by simp [results, Tryd.results40, go_sem, y0, y1, y2]) rfl ?_
  exact RToldA.put HR.out (w.heap.size + 1 + 1) HLT.out (by omega) HBW.out _ _ _
theorem rAdd_full (n : Bool) (a : Option Addr) (ca : Nat) (xs : List Int) (b : Option Addr) (cb : Nat) (ys : List Int) (m : Bool) (c : Option Addr) (cc : Nat) (us : List Int) (d : Option Addr) (cd : Nat) (vs : List Int) (w : World) (sx : Sl w (.slice a xs.length ca) xs) (sy : Sl w (.slice b ys.length cb) ys) (su : Sl w (.slice c us.length cc) us) (sv : Sl w (.slice d vs.length cd) vs) :
    Calls Tryd.prog 40 #[.agg #[.bool n, .slice a xs.length ca, .slice b ys.length cb], .agg #[.bool m, .slice c us.length cc, .slice d vs.length cd]] w (RToldA w (rboth n xs ys m us vs) (rq n xs ys + rq m us vs)) := by
  by_cases he : rboth n xs ys m us vs = 0
  · rw [he]
    exact rAdd_ok n a ca xs b cb ys m c cc us d cd vs w sx sy su sv (rboth_ok he).1 (rboth_ok he).2
  · exact rAdd_err n a ca xs b cb ys m c cc us d cd vs w sx sy su sv he _

set_option maxHeartbeats 3200000 in
set_option maxRecDepth 100000 in
theorem rSub_err (n : Bool) (a : Option Addr) (ca : Nat) (xs : List Int) (b : Option Addr) (cb : Nat) (ys : List Int) (m : Bool) (c : Option Addr) (cc : Nat) (us : List Int) (d : Option Addr) (cd : Nat) (vs : List Int) (w : World) (sx : Sl w (.slice a xs.length ca) xs) (sy : Sl w (.slice b ys.length cb) ys) (su : Sl w (.slice c us.length cc) us) (sv : Sl w (.slice d vs.length cd) vs) (he : rboth n xs ys m us vs ≠ 0) (q : Rat) :
    Calls Tryd.prog 39 #[.agg #[.bool n, .slice a xs.length ca, .slice b ys.length cb], .agg #[.bool m, .slice c us.length cc, .slice d vs.length cd]] w (RToldA w (rboth n xs ys m us vs) q) := by
  have HB : Hid (Below w.heap.size w (((w.alloc (.cells #[.bool n, .slice a xs.length ca, .slice b ys.length cb] 25)).alloc (.cells #[.bool m, .slice c us.length cc, .slice d vs.length cd] 25)).alloc (.cells #[.bool false, .slice none 0 0, .slice none 0 0] 25))) := bt (bt (alloc_later _ _) (alloc_later _ _)) (alloc_later _ _)
  have HZ : Hid (Box (((w.alloc (.cells #[.bool n, .slice a xs.length ca, .slice b ys.length cb] 25)).alloc (.cells #[.bool m, .slice c us.length cc, .slice d vs.length cd] 25)).alloc (.cells #[.bool false, .slice none 0 0, .slice none 0 0] 25)) (w.heap.size + 1 + 1) 25 #[.bool false, .slice none 0 0, .slice none 0 0]) := by
    have e := Box.made ((w.alloc (.cells #[.bool n, .slice a xs.length ca, .slice b ys.length cb] 25)).alloc (.cells #[.bool m, .slice c us.length cc, .slice d vs.length cd] 25)) 25 #[.bool false, .slice none 0 0, .slice none 0 0]
    simp at e
    exact e
  have HN : Hid (Box (((w.alloc (.cells #[.bool n, .slice a xs.length ca, .slice b ys.length cb] 25)).alloc (.cells #[.bool m, .slice c us.length cc, .slice d vs.length cd] 25)).alloc (.cells #[.bool false, .slice none 0 0, .slice none 0 0] 25)) w.heap.size 25 #[.bool n, .slice a xs.length ca, .slice b ys.length cb]) := Box.later (Box.made w _ _) (bt (alloc_later _ _) (alloc_later _ _)) (by simp)
  have HM : Hid (Box (((w.alloc (.cells #[.bool n, .slice a xs.length ca, .slice b ys.length cb] 25)).alloc (.cells #[.bool m, .slice c us.length cc, .slice d vs.length cd] 25)).alloc (.cells #[.bool false, .slice none 0 0, .slice none 0 0] 25)) (w.heap.size + 1) 25 #[.bool m, .slice c us.length cc, .slice d vs.length cd]) := by
    have e := Box.later (Box.made (w.alloc (.cells #[.bool n, .slice a xs.length ca, .slice b ys.length cb] 25)) 25 #[.bool m, .slice c us.length cc, .slice d vs.length cd]) (alloc_later ((w.alloc (.cells #[.bool n, .slice a xs.length ca, .slice b ys.length cb] 25)).alloc (.cells #[.bool m, .slice c us.length cc, .slice d vs.length cd] 25)) (.cells #[.bool false, .slice none 0 0, .slice none 0 0] 25)) (by simp)
    simp at e
    exact e
  have HXS : Hid (w.heap.size + 1 + 1 < (((w.alloc (.cells #[.bool n, .slice a xs.length ca, .slice b ys.length cb] 25)).alloc (.cells #[.bool m, .slice c us.length cc, .slice d vs.length cd] 25)).alloc (.cells #[.bool false, .slice none 0 0, .slice none 0 0] 25)).heap.size) := HZ.out.lt
  have HSL := hid (And.intro (sx.later HB.out) (And.intro (sy.later HB.out) (And.intro (su.later HB.out) (sv.later HB.out))))
  have HC := hid (rcheckBoth_any n _ xs _ ys m _ us _ vs (((w.alloc (.cells #[.bool n, .slice a xs.length ca, .slice b ys.length cb] 25)).alloc (.cells #[.bool m, .slice c us.length cc, .slice d vs.length cd] 25)).alloc (.cells #[.bool false, .slice none 0 0, .slice none 0 0] 25)) HSL.out.1 HSL.out.2.1 HSL.out.2.2.1 HSL.out.2.2.2)
  obtain ⟨E, hE⟩ : ∃ E, rboth n xs ys m us vs = E := ⟨_, rfl⟩
  rw [hE] at HC he ⊢
  have he' : (E == 0) = false := beq_eq_false_iff_ne.2 he
  have HE := hid he
  clear he hE sx sy su sv
  go_enter Tryd.func39, Tryd.ntmps39
  go_wp2_with fail
  refine Calls.mono HC.out ?_
  generalize (((w.alloc (.cells #[.bool n, .slice a xs.length ca, .slice b ys.length cb] 25)).alloc (.cells #[.bool m, .slice c us.length cc, .slice d vs.length cd] 25)).alloc (.cells #[.bool false, .slice none 0 0, .slice none 0 0] 25)) = X at *
  rintro e w1 ⟨rfl, hb1⟩
  obtain ⟨y0, y1, y2, f0, f1, f2⟩ := res_box3 HZ.out hb1
  have HBN := hid (below_put3 (bt HB.out hb1) (w.heap.size + 1 + 1) (by omega) (.bool false) (.slice none 0 0) (.slice none 0 0))
  clear hb1 HC HN HM HZ HSL
  go_wp2_with fail
  refine bodyPost_ret (v := .tuple #[.agg #[.bool false, .slice none 0 0, .slice none 0 0], .int .i64 E]) (by simp [results, Tryd.results39, go_sem, y0, y1, y2]) rfl ?_
  exact ⟨false, _, [], _, [], _, rfl, World.ownsRow_nil _ _ _ _, World.ownsRow_nil _ _ _ _, RTells.err HE.out, HBN.out, ⟨w.heap.size, Nat.le_refl _, HBN.out.size, fun g hg => by simp [Value.ownBlock] at hg, fun g hg => by simp [Value.ownBlock] at hg⟩⟩

set_option maxHeartbeats 3200000 in
set_option maxRecDepth 100000 in
theorem rSub_ok (n : Bool) (a : Option Addr) (ca : Nat) (xs : List Int) (b : Option Addr) (cb : Nat) (ys : List Int) (m : Bool) (c : Option Addr) (cc : Nat) (us : List Int) (d : Option Addr) (cd : Nat) (vs : List Int) (w : World) (sx : Sl w (.slice a xs.length ca) xs) (sy : Sl w (.slice b ys.length cb) ys) (su : Sl w (.slice c us.length cc) us) (sv : Sl w (.slice d vs.length cd) vs) (hx : rchk n xs ys = 0) (hy : rchk m us vs = 0) :
    Calls Tryd.prog 39 #[.agg #[.bool n, .slice a xs.length ca, .slice b ys.length cb], .agg #[.bool m, .slice c us.length cc, .slice d vs.length cd]] w (RToldA w 0 (rq n xs ys - rq m us vs)) := by
  obtain ⟨lx, ly, tx, ty, y0', _, g1⟩ := rchk_ok hx
  obtain ⟨lu, lv, tu, tv, v0', _, g2⟩ := rchk_ok hy
  have py := val_pos' sy.wd ty y0'
  have pv := val_pos' sv.wd tv v0'
  have HB : Hid (Below w.heap.size w (((w.alloc (.cells #[.bool n, .slice a xs.length ca, .slice b ys.length cb] 25)).alloc (.cells #[.bool m, .slice c us.length cc, .slice d vs.length cd] 25)).alloc (.cells #[.bool false, .slice none 0 0, .slice none 0 0] 25))) := bt (bt (alloc_later _ _) (alloc_later _ _)) (alloc_later _ _)
  have HZ : Hid (Box (((w.alloc (.cells #[.bool n, .slice a xs.length ca, .slice b ys.length cb] 25)).alloc (.cells #[.bool m, .slice c us.length cc, .slice d vs.length cd] 25)).alloc (.cells #[.bool false, .slice none 0 0, .slice none 0 0] 25)) (w.heap.size + 1 + 1) 25 #[.bool false, .slice none 0 0, .slice none 0 0]) := by
    have e := Box.made ((w.alloc (.cells #[.bool n, .slice a xs.length ca, .slice b ys.length cb] 25)).alloc (.cells #[.bool m, .slice c us.length cc, .slice d vs.length cd] 25)) 25 #[.bool false, .slice none 0 0, .slice none 0 0]
    simp at e
    exact e
  have HN : Hid (Box (((w.alloc (.cells #[.bool n, .slice a xs.length ca, .slice b ys.length cb] 25)).alloc (.cells #[.bool m, .slice c us.length cc, .slice d vs.length cd] 25)).alloc (.cells #[.bool false, .slice none 0 0, .slice none 0 0] 25)) w.heap.size 25 #[.bool n, .slice a xs.length ca, .slice b ys.length cb]) := Box.later (Box.made w _ _) (bt (alloc_later _ _) (alloc_later _ _)) (by simp)
  have HM : Hid (Box (((w.alloc (.cells #[.bool n, .slice a xs.length ca, .slice b ys.length cb] 25)).alloc (.cells #[.bool m, .slice c us.length cc, .slice d vs.length cd] 25)).alloc (.cells #[.bool false, .slice none 0 0, .slice none 0 0] 25)) (w.heap.size + 1) 25 #[.bool m, .slice c us.length cc, .slice d vs.length cd]) := by
    have e := Box.later (Box.made (w.alloc (.cells #[.bool n, .slice a xs.length ca, .slice b ys.length cb] 25)) 25 #[.bool m, .slice c us.length cc, .slice d vs.length cd]) (alloc_later ((w.alloc (.cells #[.bool n, .slice a xs.length ca, .slice b ys.length cb] 25)).alloc (.cells #[.bool m, .slice c us.length cc, .slice d vs.length cd] 25)) (.cells #[.bool false, .slice none 0 0, .slice none 0 0] 25)) (by simp)
    simp at e
    exact e
  have HXS : Hid (w.heap.size + 1 + 1 < (((w.alloc (.cells #[.bool n, .slice a xs.length ca, .slice b ys.length cb] 25)).alloc (.cells #[.bool m, .slice c us.length cc, .slice d vs.length cd] 25)).alloc (.cells #[.bool false, .slice none 0 0, .slice none 0 0] 25)).heap.size) := HZ.out.lt
  have HSL := hid (And.intro (sx.later HB.out) (And.intro (sy.later HB.out) (And.intro (su.later HB.out) (sv.later HB.out))))
  have HC := hid (rcheckBoth_any n _ xs _ ys m _ us _ vs (((w.alloc (.cells #[.bool n, .slice a xs.length ca, .slice b ys.length cb] 25)).alloc (.cells #[.bool m, .slice c us.length cc, .slice d vs.length cd] 25)).alloc (.cells #[.bool false, .slice none 0 0, .slice none 0 0] 25)) HSL.out.1 HSL.out.2.1 HSL.out.2.2.1 HSL.out.2.2.2)
  rw [rboth_good hx hy] at HC
  have HT := hid (And.intro lx (And.intro ly (And.intro lu (And.intro lv (And.intro tx (And.intro ty (And.intro tu (And.intro tv (And.intro g1 g2)))))))))
  have HS0 := hid (And.intro sx (And.intro sy (And.intro su sv)))
  have HPY := hid (And.intro py pv)
  clear sx sy su sv hx hy tx ty tu tv g1 g2 py pv lx ly lu lv
  go_enter Tryd.func39, Tryd.ntmps39
  go_wp2_with fail
  refine Calls.mono HC.out ?_
  generalize (((w.alloc (.cells #[.bool n, .slice a xs.length ca, .slice b ys.length cb] 25)).alloc (.cells #[.bool m, .slice c us.length cc, .slice d vs.length cd] 25)).alloc (.cells #[.bool false, .slice none 0 0, .slice none 0 0] 25)) = X at *
  rintro e w1 ⟨rfl, hb1⟩
  have HB1 := hid (bt HB.out hb1)
  have HN1 := hid (HN.out.later hb1 HN.out.lt)
  have HM1 := hid (HM.out.later hb1 HM.out.lt)
  have HZ1 := hid (HZ.out.later hb1 HZ.out.lt)
  have HL1 : Hid (w.heap.size + 1 + 1 < w1.heap.size) := Nat.lt_of_lt_of_le HXS.out hb1.size
  have HMp := hid (HM1.out.set 0 (.bool (!m)))
  have HNp := hid (HN1.out.other ⟨w.heap.size + 1, 0, none⟩ (.bool (!m)) (by simp))
  have HZp := hid (HZ1.out.other ⟨w.heap.size + 1, 0, none⟩ (.bool (!m)) (by simp))
  have HBs : Hid (Below w.heap.size w (w1.setCell ⟨w.heap.size + 1, 0, none⟩ (.bool (!m)))) := HB1.out.setCell (p := ⟨w.heap.size + 1, 0, none⟩) (by simp) _
  have HLs : Hid (w.heap.size + 1 + 1 < (w1.setCell ⟨w.heap.size + 1, 0, none⟩ (.bool (!m))).heap.size) := HZp.out.lt
  have HCA := hid (radd_any n a ca xs b cb ys (!m) c cc us d cd vs (w1.setCell ⟨w.heap.size + 1, 0, none⟩ (.bool (!m))) (HS0.out.1.later HBs.out) (HS0.out.2.1.later HBs.out) (HS0.out.2.2.1.later HBs.out) (HS0.out.2.2.2.later HBs.out) HT.out.1 HT.out.2.1 HT.out.2.2.1 HT.out.2.2.2.1 HT.out.2.2.2.2.1 HT.out.2.2.2.2.2.1 HT.out.2.2.2.2.2.2.1 HT.out.2.2.2.2.2.2.2.1 (by have := HPY.out; omega) (by have := HPY.out; omega) HT.out.2.2.2.2.2.2.2.2.1 HT.out.2.2.2.2.2.2.2.2.2)
  rw [rq_less] at HCA
  obtain ⟨p0, p1, p2, _⟩ := res_box3 HN1.out (Below.refl _ w1)
  obtain ⟨q0, q1, q2, g0, g1, g2⟩ := res_box3 HM1.out (Below.refl _ w1)
  have r0 : (w1.setCell ⟨w.heap.size + 1, 0, none⟩ (.bool (!m))).cell? ⟨w.heap.size, 0, none⟩ = some (.bool n) := HNp.out.cell 0
  have r1 : (w1.setCell ⟨w.heap.size + 1, 0, none⟩ (.bool (!m))).cell? ⟨w.heap.size, 1, none⟩ = some (.slice a xs.length ca) := HNp.out.cell 1
  have r2 : (w1.setCell ⟨w.heap.size + 1, 0, none⟩ (.bool (!m))).cell? ⟨w.heap.size, 2, none⟩ = some (.slice b ys.length cb) := HNp.out.cell 2
  have t0 : (w1.setCell ⟨w.heap.size + 1, 0, none⟩ (.bool (!m))).cell? ⟨w.heap.size + 1, 0, none⟩ = some (.bool (!m)) := HMp.out.cell 0
  have t1 : (w1.setCell ⟨w.heap.size + 1, 0, none⟩ (.bool (!m))).cell? ⟨w.heap.size + 1, 1, none⟩ = some (.slice c us.length cc) := HMp.out.cell 1
  have t2 : (w1.setCell ⟨w.heap.size + 1, 0, none⟩ (.bool (!m))).cell? ⟨w.heap.size + 1, 2, none⟩ = some (.slice d vs.length cd) := HMp.out.cell 2
  clear hb1 HC
  go_wp2_with fail
  refine Calls.mono HCA.out ?_
  generalize w1.setCell ⟨w.heap.size + 1, 0, none⟩ (.bool (!m)) = V at *
  rintro e w2 ⟨k2, v2, z2, u2, r2', code, rfl, o2, o3, tt2, hb2, hc2⟩
  obtain ⟨a2, c2, hs2⟩ := own_slice' o2
  subst hs2
  obtain ⟨a3, c3, hs3⟩ := own_slice' o3
  subst hs3
  have HR := hid (And.intro o2 (And.intro o3 (And.intro tt2 hc2)))
  obtain ⟨y0, y1, y2, f0, f1, f2⟩ := res_box3 HZp.out hb2
  have HBW := hid (bt HBs.out hb2)
  clear o2 o3 tt2 hb2 hc2 HCA p0 p1 p2 q0 q1 q2 g0 g1 g2 r0 r1 r2 t0 t1 t2
  go_wp2_with fail
  refine bodyPost_ret (v := .tuple #[.agg #[.bool k2, .slice a2 z2.length c2, .slice a3 r2'.length c3], .int .i64 code]) (by simp [results, Tryd.results39, go_sem, y0, y1, y2]) rfl ?_
  exact RToldA.put HR.out (w.heap.size + 1 + 1) HLs.out (by omega) HBW.out _ _ _
theorem rSub_full (n : Bool) (a : Option Addr) (ca : Nat) (xs : List Int) (b : Option Addr) (cb : Nat) (ys : List Int) (m : Bool) (c : Option Addr) (cc : Nat) (us : List Int) (d : Option Addr) (cd : Nat) (vs : List Int) (w : World) (sx : Sl w (.slice a xs.length ca) xs) (sy : Sl w (.slice b ys.length cb) ys) (su : Sl w (.slice c us.length cc) us) (sv : Sl w (.slice d vs.length cd) vs) :
    Calls Tryd.prog 39 #[.agg #[.bool n, .slice a xs.length ca, .slice b ys.length cb], .agg #[.bool m, .slice c us.length cc, .slice d vs.length cd]] w (RToldA w (rboth n xs ys m us vs) (rq n xs ys - rq m us vs)) := by
  by_cases he : rboth n xs ys m us vs = 0
  · rw [he]
    exact rSub_ok n a ca xs b cb ys m c cc us d cd vs w sx sy su sv (rboth_ok he).1 (rboth_ok he).2
  · exact rSub_err n a ca xs b cb ys m c cc us d cd vs w sx sy su sv he _
end Go.Proofs.YtoigpodamciehaaDoor

/- Fractions: ratio.Quo, Neg, Sign: of any fractions, good or refused; what is told is new memory. -/
namespace Go.Proofs.YtoigpodamciehaaDoor
open Go.RowKit
set_option linter.unusedVariables false

theorem gcd_comm' (x y : Int) : gcdI x y = gcdI y x := by unfold gcdI; rw [Int.gcd_comm]
theorem rq_over {n m : Bool} {xs ys us vs : List Int} : rq n xs ys * rq m vs us = rq n xs ys / rq m us vs := by
  rw [Rat.div_def]
  congr 1
  unfold rq
  rw [Rat.inv_divInt]
  cases m
  · rfl
  · show Rat.divInt (-(val vs)) (val us) = Rat.divInt (val vs) (-(val us))
    rw [Rat.divInt_neg']

/-- The error of Quo. -/
def qErr (n : Bool) (xs ys : List Int) (m : Bool) (us vs : List Int) : Int := if rboth n xs ys m us vs = 0 then (if us.length = 0 then 7 else 0) else rboth n xs ys m us vs
end Go.Proofs.YtoigpodamciehaaDoor

/- Fractions: ratio.Neg, Sign: of any fraction, good or refused. -/
namespace Go.Proofs.YtoigpodamciehaaDoor
open Go.RowKit
set_option linter.unusedVariables false

theorem trim1_any (v : Value) (xs : List Int) (w : World) (h : Sl w v xs) (hn : xs.length ≤ 1099511627776) : Calls Tryd.prog 68 #[v] w (Told1 w (val xs)) := by
  have wx := h.wd
  refine Calls.mono (trim_sl v xs w h hn) ?_
  rintro e w' ⟨v', rfl, o, hb⟩
  exact ⟨v', trimmed xs, rfl, owns_len o, wx.trimmed, Trimmed.trimmed _, val_trimmed xs, hb⟩
theorem rq_neg {n : Bool} {xs ys : List Int} : Rat.divInt (sg (!n) (val xs)) (val ys) = -(rq n xs ys) := by
  unfold rq
  rw [Rat.neg_divInt]
  congr 1
  cases n <;> simp [sg, wval]

end Go.Proofs.YtoigpodamciehaaDoor

/- Fractions: Same, Sign; slices.Equal of words. -/
namespace Go.Proofs.YtoigpodamciehaaDoor
open Go.RowKit
set_option linter.unusedVariables false

set_option maxHeartbeats 800000 in
set_option maxRecDepth 100000 in
theorem slEqual_any (a : Option Addr) (n cap : Nat) (xs : List Int) (b : Option Addr) (m cap' : Nat) (ys : List Int) (w : World) (h : Reads w w.heap.size a n cap xs) (g : Reads w w.heap.size b m cap' ys) (hn : n ≤ 281474976710656) (hm : m ≤ 281474976710656) :
    Calls Tryd.prog 28 #[.slice a n cap, .slice b m cap'] w fun e w' => e = .returned (.bool (decide (xs = ys))) ∧ Below w.heap.size w w' := by
  obtain ⟨hl, hw, hc, hcap⟩ := h
  obtain ⟨gl, gw, gc, gcap⟩ := g
  by_cases hnm : n = m
  · subst hnm
    have htt : ((n : Int) != (n : Int)) = false := by simp
    rcases hc with h0 | ⟨b1, o1, rfl, hb1, hc⟩
    · subst h0
      have hx : xs = [] := List.eq_nil_of_length_eq_zero hl
      have hy : ys = [] := List.eq_nil_of_length_eq_zero gl
      subst hx; subst hy
      go_enter Tryd.func28, Tryd.ntmps28
      go_wp2
      refine wp_loop_rounds 1 ?_
      rw [rounds_succ]
      go_wp2
      go_ret
      exact ⟨rfl, Below.refl _ _⟩
    · rcases gc with g0 | ⟨b2, o2, rfl, hb2, gc⟩
      · subst g0
        have hx : xs = [] := List.eq_nil_of_length_eq_zero hl
        have hy : ys = [] := List.eq_nil_of_length_eq_zero gl
        subst hx; subst hy
        go_enter Tryd.func28, Tryd.ntmps28
        go_wp2
        refine wp_loop_rounds 1 ?_
        rw [rounds_succ]
        go_wp2
        go_ret
        exact ⟨rfl, Below.refl _ _⟩
      · have HL : Hid (xs.length = n ∧ ys.length = n) := ⟨hl, gl⟩
        clear hl gl
        go_enter Tryd.func28, Tryd.ntmps28
        go_wp2
        go_loopw [13] (fun t wr => ∃ k : Nat, k ≤ n ∧ t = .int .i64 k ∧ xs.take k = ys.take k ∧ Below w.heap.size w wr) (fun t _ => n - (intOf t).toNat)
        case atStart => exact ⟨0, Nat.zero_le _, rfl, rfl, Below.refl _ _⟩
        case round =>
          obtain ⟨k, hk, rfl, hs, hbel⟩ := hrel
          have HS : Hid (xs.take k = ys.take k) := hs
          clear hs
          by_cases hlt : k < n
          · have hcx : wr.cell? ⟨b1, o1 + k, none⟩ = some (.int .u32 (xs[k]?.getD 0)) := (hbel.cell (p := ⟨b1, o1 + k, none⟩) hb1).trans (hc k hlt)
            have hcy : wr.cell? ⟨b2, o2 + k, none⟩ = some (.int .u32 (ys[k]?.getD 0)) := (hbel.cell (p := ⟨b2, o2 + k, none⟩) hb2).trans (gc k hlt)
            by_cases he : xs[k]?.getD 0 = ys[k]?.getD 0
            · have hne : (xs[k]?.getD 0 != ys[k]?.getD 0) = false := by simp [he]
              have HE : Hid (xs[k]?.getD 0 = ys[k]?.getD 0) := he
              clear he
              go_wp2
              go_region

              all_goals go_wp2

              all_goals
                go_roundw
                case rel => exact ⟨k + 1, by omega, by go_num, take_same HS.out (by have := HL.out; omega) (by have := HL.out; omega) HE.out, hbel.drew⟩
                case measure => simp [intOf]; omega
            · have hne : (xs[k]?.getD 0 != ys[k]?.getD 0) = true := by simp [he]
              have HE : Hid (¬ xs[k]?.getD 0 = ys[k]?.getD 0) := he
              clear he
              go_wp2
              go_region
              all_goals go_wp2
              all_goals
                go_ret
                exact ⟨ret_bool (decide_eq_false fun e => HE.out (by rw [e])).symm, hbel.drew⟩
          · have hkn : k = n := by omega
            subst hkn
            go_wp2
            go_ret
            exact ⟨ret_bool (decide_eq_true (by have := HS.out; have hl := HL.out; rwa [List.take_of_length_le (by omega), List.take_of_length_le (by omega)] at this)).symm, hbel⟩
  · have hne : ((n : Int) != (m : Int)) = true := by simp; omega
    have hd : decide (xs = ys) = false := decide_eq_false fun e => hnm (by rw [← hl, ← gl, e])
    have HD : Hid (decide (xs = ys) = false) := hd
    clear hd hc gc
    go_enter Tryd.func28, Tryd.ntmps28
    go_wp2
    go_ret
    exact ⟨ret_bool HD.out.symm, Below.refl _ _⟩

/-- What Sign tells. -/
def rsgn (n : Bool) (xs ys : List Int) : Int := if rchk n xs ys = 0 then (if xs.length = 0 then 0 else if n then -1 else 1) else 0

theorem slEqual_sl (v u : Value) (xs ys : List Int) (w : World) (h : Sl w v xs) (g : Sl w u ys) (hn : xs.length ≤ 281474976710656) (hm : ys.length ≤ 281474976710656) :
    Calls Tryd.prog 28 #[v, u] w fun e w' => e = .returned (.bool (decide (xs = ys))) ∧ Below w.heap.size w w' := by
  obtain ⟨a, ca, rfl, hr⟩ := h
  obtain ⟨b, cb, rfl, gr⟩ := g
  exact slEqual_any a _ ca xs b _ cb ys w hr gr hn hm

set_option maxHeartbeats 1600000 in
set_option maxRecDepth 100000 in
theorem rSame_any (n : Bool) (a : Option Addr) (ca : Nat) (xs : List Int) (b : Option Addr) (cb : Nat) (ys : List Int) (m : Bool) (c : Option Addr) (cc : Nat) (us : List Int) (d : Option Addr) (cd : Nat) (vs : List Int) (w : World) (sx : Sl w (.slice a xs.length ca) xs) (sy : Sl w (.slice b ys.length cb) ys) (su : Sl w (.slice c us.length cc) us) (sv : Sl w (.slice d vs.length cd) vs) (lx : xs.length ≤ 281474976710656) (ly : ys.length ≤ 281474976710656) (lu : us.length ≤ 281474976710656) (lv : vs.length ≤ 281474976710656) :
    Calls Tryd.prog 15 #[.agg #[.bool n, .slice a xs.length ca, .slice b ys.length cb], .agg #[.bool m, .slice c us.length cc, .slice d vs.length cd]] w fun e w' => e = .returned (.bool (decide (n = m ∧ xs = us ∧ ys = vs))) ∧ Below w.heap.size w w' := by
  have HB : Hid (Below w.heap.size w ((w.alloc (.cells #[.bool n, .slice a xs.length ca, .slice b ys.length cb] 25)).alloc (.cells #[.bool m, .slice c us.length cc, .slice d vs.length cd] 25))) := bt (alloc_later _ _) (alloc_later _ _)
  have HN : Hid (Box ((w.alloc (.cells #[.bool n, .slice a xs.length ca, .slice b ys.length cb] 25)).alloc (.cells #[.bool m, .slice c us.length cc, .slice d vs.length cd] 25)) w.heap.size 25 #[.bool n, .slice a xs.length ca, .slice b ys.length cb]) := Box.later (Box.made w _ _) (alloc_later _ _) (by simp)
  have HM : Hid (Box ((w.alloc (.cells #[.bool n, .slice a xs.length ca, .slice b ys.length cb] 25)).alloc (.cells #[.bool m, .slice c us.length cc, .slice d vs.length cd] 25)) (w.heap.size + 1) 25 #[.bool m, .slice c us.length cc, .slice d vs.length cd]) := by
    have e := Box.made (w.alloc (.cells #[.bool n, .slice a xs.length ca, .slice b ys.length cb] 25)) 25 #[.bool m, .slice c us.length cc, .slice d vs.length cd]
    simp at e
    exact e
  have H1 := hid (slEqual_sl _ _ xs us ((w.alloc (.cells #[.bool n, .slice a xs.length ca, .slice b ys.length cb] 25)).alloc (.cells #[.bool m, .slice c us.length cc, .slice d vs.length cd] 25)) (sx.later HB.out) (su.later HB.out) lx lu)
  have H2 := hid (fun ww (hb : Below ((w.alloc (.cells #[.bool n, .slice a xs.length ca, .slice b ys.length cb] 25)).alloc (.cells #[.bool m, .slice c us.length cc, .slice d vs.length cd] 25)).heap.size ((w.alloc (.cells #[.bool n, .slice a xs.length ca, .slice b ys.length cb] 25)).alloc (.cells #[.bool m, .slice c us.length cc, .slice d vs.length cd] 25)) ww) => slEqual_sl _ _ ys vs ww ((sy.later HB.out).later hb) ((sv.later HB.out).later hb) ly lv)
  clear sx sy su sv
  by_cases h0 : n = m
  · subst h0
    have hbb : (n == n) = true := by simp
    by_cases h1 : xs = us
    · have HR : Hid (decide (n = n ∧ xs = us ∧ ys = vs) = decide (ys = vs)) := by show _ = _; simp [h1]
      rw [decide_eq_true h1] at H1
      rw [HR.out]
      clear h1
      go_enter Tryd.func15, Tryd.ntmps15
      go_wp2_with fail
      refine Calls.mono H1.out ?_
      generalize ((w.alloc (.cells #[.bool n, .slice a xs.length ca, .slice b ys.length cb] 25)).alloc (.cells #[.bool n, .slice c us.length cc, .slice d vs.length cd] 25)) = X at *
      rintro e w1 ⟨rfl, hb1⟩
      obtain ⟨p0, p1, p2, _⟩ := res_box3 HN.out hb1
      obtain ⟨q0, q1, q2, _⟩ := res_box3 HM.out hb1
      have HC := hid (H2.out w1 hb1)
      have HB1 := hid (bt HB.out hb1)
      clear hb1 H1 H2
      go_wp2_with fail
      refine Calls.mono HC.out ?_
      rintro e w2 ⟨rfl, hb2⟩
      have HBN := hid (bt HB1.out hb2)
      clear hb2 HC
      go_wp2_with fail
      go_ret
      exact ⟨rfl, HBN.out⟩
    · have HR : Hid (decide (n = n ∧ xs = us ∧ ys = vs) = false) := decide_eq_false (fun h => h1 h.2.1)
      rw [decide_eq_false h1] at H1
      rw [HR.out]
      clear h1
      go_enter Tryd.func15, Tryd.ntmps15
      go_wp2_with fail
      refine Calls.mono H1.out ?_
      rintro e w1 ⟨rfl, hb1⟩
      have HBN := hid (bt HB.out hb1)
      clear hb1 H1 H2
      go_wp2_with fail
      go_ret
      exact ⟨rfl, HBN.out⟩
  · have HR : Hid (decide (n = m ∧ xs = us ∧ ys = vs) = false) := decide_eq_false (fun h => h0 h.1)
    have hbb : (n == m) = false := by simp [h0]
    rw [HR.out]
    clear h0
    go_enter Tryd.func15, Tryd.ntmps15
    go_wp2_with fail
    go_ret
    exact ⟨rfl, HB.out⟩
end Go.Proofs.YtoigpodamciehaaDoor

/- Fractions: ratio.compareSizes, Compare: of any fractions, good or refused. -/
namespace Go.Proofs.YtoigpodamciehaaDoor
open Go.RowKit
set_option linter.unusedVariables false

theorem cmp_negs (x y : Int) : cmpI y x = cmpI (-x) (-y) := by
  by_cases h1 : y < x
  · rw [cmpI_lt h1, cmpI_lt (by omega)]
  · by_cases h2 : x < y
    · rw [cmpI_gt h2, cmpI_gt (by omega)]
    · obtain rfl : x = y := by omega
      unfold cmpI
      simp

set_option maxHeartbeats 3200000 in
set_option maxRecDepth 100000 in
theorem rsizes_any (n : Bool) (a : Option Addr) (ca : Nat) (xs : List Int) (b : Option Addr) (cb : Nat) (ys : List Int) (m : Bool) (c : Option Addr) (cc : Nat) (us : List Int) (d : Option Addr) (cd : Nat) (vs : List Int) (w : World) (sx : Sl w (.slice a xs.length ca) xs) (sy : Sl w (.slice b ys.length cb) ys) (su : Sl w (.slice c us.length cc) us) (sv : Sl w (.slice d vs.length cd) vs) (lx : xs.length ≤ 2048) (ly : ys.length ≤ 2048) (lu : us.length ≤ 2048) (lv : vs.length ≤ 2048) (tx : Trimmed xs) (ty : Trimmed ys) (tu : Trimmed us) (tv : Trimmed vs) :
    Calls Tryd.prog 25 #[.agg #[.bool n, .slice a xs.length ca, .slice b ys.length cb], .agg #[.bool m, .slice c us.length cc, .slice d vs.length cd]] w fun e w' => e = .returned (.int .i64 (cmpI (val xs * val vs) (val us * val ys))) ∧ Below w.heap.size w w' := by
  have wx := sx.wd
  have wy := sy.wd
  have wu := su.wd
  have wv := sv.wd
  have HB : Hid (Below w.heap.size w ((w.alloc (.cells #[.bool n, .slice a xs.length ca, .slice b ys.length cb] 25)).alloc (.cells #[.bool m, .slice c us.length cc, .slice d vs.length cd] 25))) := bt (alloc_later _ _) (alloc_later _ _)
  have HN : Hid (Box ((w.alloc (.cells #[.bool n, .slice a xs.length ca, .slice b ys.length cb] 25)).alloc (.cells #[.bool m, .slice c us.length cc, .slice d vs.length cd] 25)) w.heap.size 25 #[.bool n, .slice a xs.length ca, .slice b ys.length cb]) := Box.later (Box.made w _ _) (alloc_later _ _) (by simp)
  have HM : Hid (Box ((w.alloc (.cells #[.bool n, .slice a xs.length ca, .slice b ys.length cb] 25)).alloc (.cells #[.bool m, .slice c us.length cc, .slice d vs.length cd] 25)) (w.heap.size + 1) 25 #[.bool m, .slice c us.length cc, .slice d vs.length cd]) := by
    have e := Box.made (w.alloc (.cells #[.bool n, .slice a xs.length ca, .slice b ys.length cb] 25)) 25 #[.bool m, .slice c us.length cc, .slice d vs.length cd]
    simp at e
    exact e
  have HSL := hid (And.intro (sx.later HB.out) (And.intro (sy.later HB.out) (And.intro (su.later HB.out) (sv.later HB.out))))
  have HL : Hid (val xs * val vs < 4294967296 ^ 4096 ∧ val us * val ys < 4294967296 ^ 4096) := ⟨mul_4096 (val_nonneg wx) (below2048 wx lx) (val_nonneg wv) (below2048 wv lv), mul_4096 (val_nonneg wu) (below2048 wu lu) (val_nonneg wy) (below2048 wy ly)⟩
  have HTT := hid (And.intro tx (And.intro ty (And.intro tu tv)))
  obtain ⟨R, hR⟩ : ∃ R, cmpI (val xs * val vs) (val us * val ys) = R := ⟨_, rfl⟩
  rw [hR]
  have HR := hid hR
  clear sx sy su sv tx ty tu tv wx wy wu wv hR
  go_enter Tryd.func25, Tryd.ntmps25
  go_wp2_with fail
  generalize ((w.alloc (.cells #[.bool n, .slice a xs.length ca, .slice b ys.length cb] 25)).alloc (.cells #[.bool m, .slice c us.length cc, .slice d vs.length cd] 25)) = X at *
  have HK : Hid (∀ V, Below X.heap.size X V → V.cell? ⟨w.heap.size, 0, none⟩ = some (.bool n) ∧ V.cell? ⟨w.heap.size, 1, none⟩ = some (.slice a xs.length ca) ∧ V.cell? ⟨w.heap.size, 2, none⟩ = some (.slice b ys.length cb) ∧ V.cell? ⟨w.heap.size + 1, 0, none⟩ = some (.bool m) ∧ V.cell? ⟨w.heap.size + 1, 1, none⟩ = some (.slice c us.length cc) ∧ V.cell? ⟨w.heap.size + 1, 2, none⟩ = some (.slice d vs.length cd)) := fun V hb => by
    obtain ⟨p0, p1, p2, _⟩ := res_box3 HN.out hb
    obtain ⟨q0, q1, q2, _⟩ := res_box3 HM.out hb
    exact ⟨p0, p1, p2, q0, q1, q2⟩
  have hs0 := HK.out _ (Below.drew (Below.refl _ X))
  have HBR := hid (Below.drew (Below.refl X.heap.size X))
  have H1 := hid (fun ww (hv : Below X.heap.size X ww) => told1_in _ HK.out ww hv (rprod_any _ _ xs vs ww (HSL.out.1.later hv) (HSL.out.2.2.2.later hv) (by omega) HTT.out.1 HTT.out.2.2.2))
  have H2 := hid (fun ww (hv : Below X.heap.size X ww) => told1_in _ HK.out ww hv (rprod_any _ _ us ys ww (HSL.out.2.2.1.later hv) (HSL.out.2.1.later hv) (by omega) HTT.out.2.2.1 HTT.out.2.1))
  have H3 : Hid (∀ ww, Below X.heap.size X ww → ∀ a4 z4 c4 a5 z5 c5, One X ww (.slice a4 (List.length z4) c4) z4 (val xs * val vs) → One X ww (.slice a5 (List.length z5) c5) z5 (val us * val ys) → Calls Tryd.prog 41 #[.slice a4 z4.length c4, .slice a5 z5.length c5] ww fun e w' => e = .returned (.int .i64 R) ∧ Hid (Below X.heap.size X w') ∧ w'.cell? ⟨w.heap.size, 0, none⟩ = some (.bool n) ∧ w'.cell? ⟨w.heap.size, 1, none⟩ = some (.slice a xs.length ca) ∧ w'.cell? ⟨w.heap.size, 2, none⟩ = some (.slice b ys.length cb) ∧ w'.cell? ⟨w.heap.size + 1, 0, none⟩ = some (.bool m) ∧ w'.cell? ⟨w.heap.size + 1, 1, none⟩ = some (.slice c us.length cc) ∧ w'.cell? ⟨w.heap.size + 1, 2, none⟩ = some (.slice d vs.length cd)) := fun ww hv a4 z4 c4 a5 z5 c5 h4 h5 => by
    have e := compare_sl _ _ z4 z5 ww h4.sl h5.sl (by have := own_len h4 HL.out.1; omega) (by have := own_len h5 HL.out.2; omega)
    rw [h4.2.2.2, h5.2.2.2, HR.out] at e
    refine Calls.mono e ?_
    rintro e w' ⟨rfl, hb⟩
    exact ⟨rfl, (bt hv hb), HK.out w' (bt hv hb)⟩
  clear HSL HTT HL HR
  go_region_held3 (fun V : World => V.cell? ⟨w.heap.size, 0, none⟩ = some (.bool n) ∧ V.cell? ⟨w.heap.size, 1, none⟩ = some (.slice a xs.length ca) ∧ V.cell? ⟨w.heap.size, 2, none⟩ = some (.slice b ys.length cb) ∧ V.cell? ⟨w.heap.size + 1, 0, none⟩ = some (.bool m) ∧ V.cell? ⟨w.heap.size + 1, 1, none⟩ = some (.slice c us.length cc) ∧ V.cell? ⟨w.heap.size + 1, 2, none⟩ = some (.slice d vs.length cd)) (first | exact hs9 | exact hs5 | exact hs4 | exact hs0)
    (first
      | (go_at_call 41; with_reducible refine Calls.mono (H3.out _ hb5 _ _ _ _ _ _ (HE4.out.1.later HS5.out) HE5.out.1) ?_; rintro e w9 ⟨rfl, HE9, hs9⟩)
      | (go_at_call 42; with_reducible refine Calls.mono (H2.out _ hb4) ?_; rintro e w5 ⟨a5, z5, c5, rfl, HE5, hs5, hb5, HS5⟩)
      | (go_at_call 42; with_reducible refine Calls.mono (H1.out _ HBR.out) ?_; rintro e w4 ⟨a4, z4, c4, rfl, HE4, hs4, hb4, HS4⟩))
  all_goals
    have HBN := hid (bt HB.out HE9.out)
    clear HK H1 H2 H3 HE4 HE5 HE9 HS4 HS5 hs0 hs4 hs5 hs9 hb4 hb5 HBR
    go_wp2_with fail
    go_ret
    exact ⟨rfl, HBN.out⟩
/-- What Compare tells. -/
def rcmp (n : Bool) (xs ys : List Int) (m : Bool) (us vs : List Int) : Int := if rboth n xs ys m us vs = 0 then cmpI (wval n xs * val vs) (wval m us * val ys) else 0

set_option maxHeartbeats 3200000 in
set_option maxRecDepth 100000 in
theorem rCompare_ff (a : Option Addr) (ca : Nat) (xs : List Int) (b : Option Addr) (cb : Nat) (ys : List Int) (c : Option Addr) (cc : Nat) (us : List Int) (d : Option Addr) (cd : Nat) (vs : List Int) (w : World) (sx : Sl w (.slice a xs.length ca) xs) (sy : Sl w (.slice b ys.length cb) ys) (su : Sl w (.slice c us.length cc) us) (sv : Sl w (.slice d vs.length cd) vs) (hx : rchk false xs ys = 0) (hy : rchk false us vs = 0) :
    Calls Tryd.prog 12 #[.agg #[.bool false, .slice a xs.length ca, .slice b ys.length cb], .agg #[.bool false, .slice c us.length cc, .slice d vs.length cd]] w fun e w' => e = .returned (.tuple #[.int .i64 (cmpI (wval false xs * val vs) (wval false us * val ys)), .int .i64 0]) ∧ Below w.heap.size w w' := by
  obtain ⟨lx, ly, tx, ty, y0, nx, _⟩ := rchk_ok hx
  obtain ⟨lu, lv, tu, tv, v0, nu, _⟩ := rchk_ok hy
  have wx := sx.wd
  have wu := su.wd
  have py := val_pos' sy.wd ty y0
  have pv := val_pos' sv.wd tv v0
  have HB : Hid (Below w.heap.size w ((w.alloc (.cells #[.bool false, .slice a xs.length ca, .slice b ys.length cb] 25)).alloc (.cells #[.bool false, .slice c us.length cc, .slice d vs.length cd] 25))) := bt (alloc_later _ _) (alloc_later _ _)
  have HN : Hid (Box ((w.alloc (.cells #[.bool false, .slice a xs.length ca, .slice b ys.length cb] 25)).alloc (.cells #[.bool false, .slice c us.length cc, .slice d vs.length cd] 25)) w.heap.size 25 #[.bool false, .slice a xs.length ca, .slice b ys.length cb]) := Box.later (Box.made w _ _) (alloc_later _ _) (by simp)
  have HM : Hid (Box ((w.alloc (.cells #[.bool false, .slice a xs.length ca, .slice b ys.length cb] 25)).alloc (.cells #[.bool false, .slice c us.length cc, .slice d vs.length cd] 25)) (w.heap.size + 1) 25 #[.bool false, .slice c us.length cc, .slice d vs.length cd]) := by
    have e := Box.made (w.alloc (.cells #[.bool false, .slice a xs.length ca, .slice b ys.length cb] 25)) 25 #[.bool false, .slice c us.length cc, .slice d vs.length cd]
    simp at e
    exact e
  have HSL := hid (And.intro (sx.later HB.out) (And.intro (sy.later HB.out) (And.intro (su.later HB.out) (sv.later HB.out))))
  have HC := hid (rcheckBoth_any false _ xs _ ys false _ us _ vs ((w.alloc (.cells #[.bool false, .slice a xs.length ca, .slice b ys.length cb] 25)).alloc (.cells #[.bool false, .slice c us.length cc, .slice d vs.length cd] 25)) HSL.out.1 HSL.out.2.1 HSL.out.2.2.1 HSL.out.2.2.2)
  rw [rboth_good hx hy] at HC
  have HA := hid (fun ww (hb : Below ((w.alloc (.cells #[.bool false, .slice a xs.length ca, .slice b ys.length cb] 25)).alloc (.cells #[.bool false, .slice c us.length cc, .slice d vs.length cd] 25)).heap.size ((w.alloc (.cells #[.bool false, .slice a xs.length ca, .slice b ys.length cb] 25)).alloc (.cells #[.bool false, .slice c us.length cc, .slice d vs.length cd] 25)) ww) => rsizes_any false a ca xs b cb ys false c cc us d cd vs ww (HSL.out.1.later hb) (HSL.out.2.1.later hb) (HSL.out.2.2.1.later hb) (HSL.out.2.2.2.later hb) lx ly lu lv tx ty tu tv)
  have heq : cmpI (val xs * val vs) (val us * val ys) = cmpI (wval false xs * val vs) (wval false us * val ys) := rfl
  rw [heq] at HA
  obtain ⟨R, hR⟩ : ∃ R, cmpI (wval false xs * val vs) (wval false us * val ys) = R := ⟨_, rfl⟩
  rw [hR] at HA ⊢
  clear sx sy su sv hx hy tx ty tu tv wx wu py pv heq hR lx ly lu lv y0 v0 nx nu
  go_enter Tryd.func12, Tryd.ntmps12
  go_wp2_with fail
  refine Calls.mono HC.out ?_
  generalize ((w.alloc (.cells #[.bool false, .slice a xs.length ca, .slice b ys.length cb] 25)).alloc (.cells #[.bool false, .slice c us.length cc, .slice d vs.length cd] 25)) = X at *
  rintro e w1 ⟨rfl, hb1⟩
  obtain ⟨p0, p1, p2, _⟩ := res_box3 HN.out hb1
  obtain ⟨q0, q1, q2, _⟩ := res_box3 HM.out hb1
  have HCA := hid (HA.out w1 hb1)
  have HB1 := hid (bt HB.out hb1)
  clear hb1 HC HA
  go_wp2_with fail
  refine Calls.mono HCA.out ?_
  rintro e w2 ⟨rfl, hb2⟩
  have HBN := hid (bt HB1.out hb2)
  clear hb2 HCA
  go_wp2_with fail
  go_ret2
  exact ⟨rfl, HBN.out⟩

set_option maxHeartbeats 3200000 in
set_option maxRecDepth 100000 in
theorem rCompare_tt (a : Option Addr) (ca : Nat) (xs : List Int) (b : Option Addr) (cb : Nat) (ys : List Int) (c : Option Addr) (cc : Nat) (us : List Int) (d : Option Addr) (cd : Nat) (vs : List Int) (w : World) (sx : Sl w (.slice a xs.length ca) xs) (sy : Sl w (.slice b ys.length cb) ys) (su : Sl w (.slice c us.length cc) us) (sv : Sl w (.slice d vs.length cd) vs) (hx : rchk true xs ys = 0) (hy : rchk true us vs = 0) :
    Calls Tryd.prog 12 #[.agg #[.bool true, .slice a xs.length ca, .slice b ys.length cb], .agg #[.bool true, .slice c us.length cc, .slice d vs.length cd]] w fun e w' => e = .returned (.tuple #[.int .i64 (cmpI (wval true xs * val vs) (wval true us * val ys)), .int .i64 0]) ∧ Below w.heap.size w w' := by
  obtain ⟨lx, ly, tx, ty, y0, nx, _⟩ := rchk_ok hx
  obtain ⟨lu, lv, tu, tv, v0, nu, _⟩ := rchk_ok hy
  have wx := sx.wd
  have wu := su.wd
  have py := val_pos' sy.wd ty y0
  have pv := val_pos' sv.wd tv v0
  have HB : Hid (Below w.heap.size w ((w.alloc (.cells #[.bool true, .slice a xs.length ca, .slice b ys.length cb] 25)).alloc (.cells #[.bool true, .slice c us.length cc, .slice d vs.length cd] 25))) := bt (alloc_later _ _) (alloc_later _ _)
  have HN : Hid (Box ((w.alloc (.cells #[.bool true, .slice a xs.length ca, .slice b ys.length cb] 25)).alloc (.cells #[.bool true, .slice c us.length cc, .slice d vs.length cd] 25)) w.heap.size 25 #[.bool true, .slice a xs.length ca, .slice b ys.length cb]) := Box.later (Box.made w _ _) (alloc_later _ _) (by simp)
  have HM : Hid (Box ((w.alloc (.cells #[.bool true, .slice a xs.length ca, .slice b ys.length cb] 25)).alloc (.cells #[.bool true, .slice c us.length cc, .slice d vs.length cd] 25)) (w.heap.size + 1) 25 #[.bool true, .slice c us.length cc, .slice d vs.length cd]) := by
    have e := Box.made (w.alloc (.cells #[.bool true, .slice a xs.length ca, .slice b ys.length cb] 25)) 25 #[.bool true, .slice c us.length cc, .slice d vs.length cd]
    simp at e
    exact e
  have HSL := hid (And.intro (sx.later HB.out) (And.intro (sy.later HB.out) (And.intro (su.later HB.out) (sv.later HB.out))))
  have HC := hid (rcheckBoth_any true _ xs _ ys true _ us _ vs ((w.alloc (.cells #[.bool true, .slice a xs.length ca, .slice b ys.length cb] 25)).alloc (.cells #[.bool true, .slice c us.length cc, .slice d vs.length cd] 25)) HSL.out.1 HSL.out.2.1 HSL.out.2.2.1 HSL.out.2.2.2)
  rw [rboth_good hx hy] at HC
  have HA := hid (fun ww (hb : Below ((w.alloc (.cells #[.bool true, .slice a xs.length ca, .slice b ys.length cb] 25)).alloc (.cells #[.bool true, .slice c us.length cc, .slice d vs.length cd] 25)).heap.size ((w.alloc (.cells #[.bool true, .slice a xs.length ca, .slice b ys.length cb] 25)).alloc (.cells #[.bool true, .slice c us.length cc, .slice d vs.length cd] 25)) ww) => rsizes_any true c cc us d cd vs true a ca xs b cb ys ww (HSL.out.2.2.1.later hb) (HSL.out.2.2.2.later hb) (HSL.out.1.later hb) (HSL.out.2.1.later hb) lu lv lx ly tu tv tx ty)
  have heq : cmpI (val us * val ys) (val xs * val vs) = cmpI (wval true xs * val vs) (wval true us * val ys) := by
    show _ = cmpI (-(val xs) * val vs) (-(val us) * val ys)
    rw [Int.neg_mul, Int.neg_mul]
    exact cmp_negs _ _
  rw [heq] at HA
  obtain ⟨R, hR⟩ : ∃ R, cmpI (wval true xs * val vs) (wval true us * val ys) = R := ⟨_, rfl⟩
  rw [hR] at HA ⊢
  clear sx sy su sv hx hy tx ty tu tv wx wu py pv heq hR lx ly lu lv y0 v0 nx nu
  go_enter Tryd.func12, Tryd.ntmps12
  go_wp2_with fail
  refine Calls.mono HC.out ?_
  generalize ((w.alloc (.cells #[.bool true, .slice a xs.length ca, .slice b ys.length cb] 25)).alloc (.cells #[.bool true, .slice c us.length cc, .slice d vs.length cd] 25)) = X at *
  rintro e w1 ⟨rfl, hb1⟩
  obtain ⟨p0, p1, p2, _⟩ := res_box3 HN.out hb1
  obtain ⟨q0, q1, q2, _⟩ := res_box3 HM.out hb1
  have HCA := hid (HA.out w1 hb1)
  have HB1 := hid (bt HB.out hb1)
  clear hb1 HC HA
  go_wp2_with fail
  refine Calls.mono HCA.out ?_
  rintro e w2 ⟨rfl, hb2⟩
  have HBN := hid (bt HB1.out hb2)
  clear hb2 HCA
  go_wp2_with fail
  go_ret2
  exact ⟨rfl, HBN.out⟩

set_option maxHeartbeats 3200000 in
set_option maxRecDepth 100000 in
theorem rCompare_tf (a : Option Addr) (ca : Nat) (xs : List Int) (b : Option Addr) (cb : Nat) (ys : List Int) (c : Option Addr) (cc : Nat) (us : List Int) (d : Option Addr) (cd : Nat) (vs : List Int) (w : World) (sx : Sl w (.slice a xs.length ca) xs) (sy : Sl w (.slice b ys.length cb) ys) (su : Sl w (.slice c us.length cc) us) (sv : Sl w (.slice d vs.length cd) vs) (hx : rchk true xs ys = 0) (hy : rchk false us vs = 0) :
    Calls Tryd.prog 12 #[.agg #[.bool true, .slice a xs.length ca, .slice b ys.length cb], .agg #[.bool false, .slice c us.length cc, .slice d vs.length cd]] w fun e w' => e = .returned (.tuple #[.int .i64 (cmpI (wval true xs * val vs) (wval false us * val ys)), .int .i64 0]) ∧ Below w.heap.size w w' := by
  obtain ⟨lx, ly, tx, ty, y0, nx, _⟩ := rchk_ok hx
  obtain ⟨lu, lv, tu, tv, v0, nu, _⟩ := rchk_ok hy
  have wx := sx.wd
  have wu := su.wd
  have py := val_pos' sy.wd ty y0
  have pv := val_pos' sv.wd tv v0
  have HB : Hid (Below w.heap.size w ((w.alloc (.cells #[.bool true, .slice a xs.length ca, .slice b ys.length cb] 25)).alloc (.cells #[.bool false, .slice c us.length cc, .slice d vs.length cd] 25))) := bt (alloc_later _ _) (alloc_later _ _)
  have HN : Hid (Box ((w.alloc (.cells #[.bool true, .slice a xs.length ca, .slice b ys.length cb] 25)).alloc (.cells #[.bool false, .slice c us.length cc, .slice d vs.length cd] 25)) w.heap.size 25 #[.bool true, .slice a xs.length ca, .slice b ys.length cb]) := Box.later (Box.made w _ _) (alloc_later _ _) (by simp)
  have HM : Hid (Box ((w.alloc (.cells #[.bool true, .slice a xs.length ca, .slice b ys.length cb] 25)).alloc (.cells #[.bool false, .slice c us.length cc, .slice d vs.length cd] 25)) (w.heap.size + 1) 25 #[.bool false, .slice c us.length cc, .slice d vs.length cd]) := by
    have e := Box.made (w.alloc (.cells #[.bool true, .slice a xs.length ca, .slice b ys.length cb] 25)) 25 #[.bool false, .slice c us.length cc, .slice d vs.length cd]
    simp at e
    exact e
  have HSL := hid (And.intro (sx.later HB.out) (And.intro (sy.later HB.out) (And.intro (su.later HB.out) (sv.later HB.out))))
  have HC := hid (rcheckBoth_any true _ xs _ ys false _ us _ vs ((w.alloc (.cells #[.bool true, .slice a xs.length ca, .slice b ys.length cb] 25)).alloc (.cells #[.bool false, .slice c us.length cc, .slice d vs.length cd] 25)) HSL.out.1 HSL.out.2.1 HSL.out.2.2.1 HSL.out.2.2.2)
  rw [rboth_good hx hy] at HC
  have hR : cmpI (wval true xs * val vs) (wval false us * val ys) = -1 := by
    have h1 := val_pos' wx tx (nx.elim (fun e => by cases e) id)
    have h2 := val_nonneg wu
    have h3 := Int.mul_pos (a := val xs) (b := val vs) (by omega) (by omega)
    have h4 := Int.mul_nonneg h2 (show 0 ≤ val ys by omega)
    show cmpI (-(val xs) * val vs) (val us * val ys) = -1
    rw [Int.neg_mul]
    exact cmpI_lt (by omega)
  rw [hR]
  clear sx sy su sv hx hy tx ty tu tv wx wu py pv hR lx ly lu lv y0 v0 nx nu
  go_enter Tryd.func12, Tryd.ntmps12
  go_wp2_with fail
  refine Calls.mono HC.out ?_
  generalize ((w.alloc (.cells #[.bool true, .slice a xs.length ca, .slice b ys.length cb] 25)).alloc (.cells #[.bool false, .slice c us.length cc, .slice d vs.length cd] 25)) = X at *
  rintro e w1 ⟨rfl, hb1⟩
  obtain ⟨p0, p1, p2, _⟩ := res_box3 HN.out hb1
  obtain ⟨q0, q1, q2, _⟩ := res_box3 HM.out hb1
  have HBN := hid (bt HB.out hb1)
  clear hb1 HC
  go_wp2_with fail
  go_ret2
  exact ⟨rfl, HBN.out⟩

set_option maxHeartbeats 3200000 in
set_option maxRecDepth 100000 in
theorem rCompare_ft (a : Option Addr) (ca : Nat) (xs : List Int) (b : Option Addr) (cb : Nat) (ys : List Int) (c : Option Addr) (cc : Nat) (us : List Int) (d : Option Addr) (cd : Nat) (vs : List Int) (w : World) (sx : Sl w (.slice a xs.length ca) xs) (sy : Sl w (.slice b ys.length cb) ys) (su : Sl w (.slice c us.length cc) us) (sv : Sl w (.slice d vs.length cd) vs) (hx : rchk false xs ys = 0) (hy : rchk true us vs = 0) :
    Calls Tryd.prog 12 #[.agg #[.bool false, .slice a xs.length ca, .slice b ys.length cb], .agg #[.bool true, .slice c us.length cc, .slice d vs.length cd]] w fun e w' => e = .returned (.tuple #[.int .i64 (cmpI (wval false xs * val vs) (wval true us * val ys)), .int .i64 0]) ∧ Below w.heap.size w w' := by
  obtain ⟨lx, ly, tx, ty, y0, nx, _⟩ := rchk_ok hx
  obtain ⟨lu, lv, tu, tv, v0, nu, _⟩ := rchk_ok hy
  have wx := sx.wd
  have wu := su.wd
  have py := val_pos' sy.wd ty y0
  have pv := val_pos' sv.wd tv v0
  have HB : Hid (Below w.heap.size w ((w.alloc (.cells #[.bool false, .slice a xs.length ca, .slice b ys.length cb] 25)).alloc (.cells #[.bool true, .slice c us.length cc, .slice d vs.length cd] 25))) := bt (alloc_later _ _) (alloc_later _ _)
  have HN : Hid (Box ((w.alloc (.cells #[.bool false, .slice a xs.length ca, .slice b ys.length cb] 25)).alloc (.cells #[.bool true, .slice c us.length cc, .slice d vs.length cd] 25)) w.heap.size 25 #[.bool false, .slice a xs.length ca, .slice b ys.length cb]) := Box.later (Box.made w _ _) (alloc_later _ _) (by simp)
  have HM : Hid (Box ((w.alloc (.cells #[.bool false, .slice a xs.length ca, .slice b ys.length cb] 25)).alloc (.cells #[.bool true, .slice c us.length cc, .slice d vs.length cd] 25)) (w.heap.size + 1) 25 #[.bool true, .slice c us.length cc, .slice d vs.length cd]) := by
    have e := Box.made (w.alloc (.cells #[.bool false, .slice a xs.length ca, .slice b ys.length cb] 25)) 25 #[.bool true, .slice c us.length cc, .slice d vs.length cd]
    simp at e
    exact e
  have HSL := hid (And.intro (sx.later HB.out) (And.intro (sy.later HB.out) (And.intro (su.later HB.out) (sv.later HB.out))))
  have HC := hid (rcheckBoth_any false _ xs _ ys true _ us _ vs ((w.alloc (.cells #[.bool false, .slice a xs.length ca, .slice b ys.length cb] 25)).alloc (.cells #[.bool true, .slice c us.length cc, .slice d vs.length cd] 25)) HSL.out.1 HSL.out.2.1 HSL.out.2.2.1 HSL.out.2.2.2)
  rw [rboth_good hx hy] at HC
  have hR : cmpI (wval false xs * val vs) (wval true us * val ys) = 1 := by
    have h1 := val_pos' wu tu (nu.elim (fun e => by cases e) id)
    have h2 := val_nonneg wx
    have h3 := Int.mul_pos (a := val us) (b := val ys) (by omega) (by omega)
    have h4 := Int.mul_nonneg h2 (show 0 ≤ val vs by omega)
    show cmpI (val xs * val vs) (-(val us) * val ys) = 1
    rw [Int.neg_mul]
    exact cmpI_gt (by omega)
  rw [hR]
  clear sx sy su sv hx hy tx ty tu tv wx wu py pv hR lx ly lu lv y0 v0 nx nu
  go_enter Tryd.func12, Tryd.ntmps12
  go_wp2_with fail
  refine Calls.mono HC.out ?_
  generalize ((w.alloc (.cells #[.bool false, .slice a xs.length ca, .slice b ys.length cb] 25)).alloc (.cells #[.bool true, .slice c us.length cc, .slice d vs.length cd] 25)) = X at *
  rintro e w1 ⟨rfl, hb1⟩
  obtain ⟨p0, p1, p2, _⟩ := res_box3 HN.out hb1
  obtain ⟨q0, q1, q2, _⟩ := res_box3 HM.out hb1
  have HBN := hid (bt HB.out hb1)
  clear hb1 HC
  go_wp2_with fail
  go_ret2
  exact ⟨rfl, HBN.out⟩

set_option maxHeartbeats 1600000 in
set_option maxRecDepth 100000 in
theorem rCompare_err (n : Bool) (a : Option Addr) (ca : Nat) (xs : List Int) (b : Option Addr) (cb : Nat) (ys : List Int) (m : Bool) (c : Option Addr) (cc : Nat) (us : List Int) (d : Option Addr) (cd : Nat) (vs : List Int) (w : World) (sx : Sl w (.slice a xs.length ca) xs) (sy : Sl w (.slice b ys.length cb) ys) (su : Sl w (.slice c us.length cc) us) (sv : Sl w (.slice d vs.length cd) vs) (he : rboth n xs ys m us vs ≠ 0) :
    Calls Tryd.prog 12 #[.agg #[.bool n, .slice a xs.length ca, .slice b ys.length cb], .agg #[.bool m, .slice c us.length cc, .slice d vs.length cd]] w fun e w' => e = .returned (.tuple #[.int .i64 0, .int .i64 (rboth n xs ys m us vs)]) ∧ Below w.heap.size w w' := by
  have HB : Hid (Below w.heap.size w ((w.alloc (.cells #[.bool n, .slice a xs.length ca, .slice b ys.length cb] 25)).alloc (.cells #[.bool m, .slice c us.length cc, .slice d vs.length cd] 25))) := bt (alloc_later _ _) (alloc_later _ _)
  have HN : Hid (Box ((w.alloc (.cells #[.bool n, .slice a xs.length ca, .slice b ys.length cb] 25)).alloc (.cells #[.bool m, .slice c us.length cc, .slice d vs.length cd] 25)) w.heap.size 25 #[.bool n, .slice a xs.length ca, .slice b ys.length cb]) := Box.later (Box.made w _ _) (alloc_later _ _) (by simp)
  have HM : Hid (Box ((w.alloc (.cells #[.bool n, .slice a xs.length ca, .slice b ys.length cb] 25)).alloc (.cells #[.bool m, .slice c us.length cc, .slice d vs.length cd] 25)) (w.heap.size + 1) 25 #[.bool m, .slice c us.length cc, .slice d vs.length cd]) := by
    have e := Box.made (w.alloc (.cells #[.bool n, .slice a xs.length ca, .slice b ys.length cb] 25)) 25 #[.bool m, .slice c us.length cc, .slice d vs.length cd]
    simp at e
    exact e
  have HSL := hid (And.intro (sx.later HB.out) (And.intro (sy.later HB.out) (And.intro (su.later HB.out) (sv.later HB.out))))
  have HC := hid (rcheckBoth_any n _ xs _ ys m _ us _ vs ((w.alloc (.cells #[.bool n, .slice a xs.length ca, .slice b ys.length cb] 25)).alloc (.cells #[.bool m, .slice c us.length cc, .slice d vs.length cd] 25)) HSL.out.1 HSL.out.2.1 HSL.out.2.2.1 HSL.out.2.2.2)
  obtain ⟨E, hE⟩ : ∃ E, rboth n xs ys m us vs = E := ⟨_, rfl⟩
  rw [hE] at HC he ⊢
  have he' : (E == 0) = false := beq_eq_false_iff_ne.2 he
  clear he hE sx sy su sv
  go_enter Tryd.func12, Tryd.ntmps12
  go_wp2_with fail
  refine Calls.mono HC.out ?_
  rintro e w1 ⟨rfl, hb1⟩
  have HBN := hid (bt HB.out hb1)
  clear hb1 HC HN HM HSL
  go_wp2_with fail
  go_ret2
  exact ⟨rfl, HBN.out⟩
theorem rCompare_full (n : Bool) (a : Option Addr) (ca : Nat) (xs : List Int) (b : Option Addr) (cb : Nat) (ys : List Int) (m : Bool) (c : Option Addr) (cc : Nat) (us : List Int) (d : Option Addr) (cd : Nat) (vs : List Int) (w : World) (sx : Sl w (.slice a xs.length ca) xs) (sy : Sl w (.slice b ys.length cb) ys) (su : Sl w (.slice c us.length cc) us) (sv : Sl w (.slice d vs.length cd) vs) :
    Calls Tryd.prog 12 #[.agg #[.bool n, .slice a xs.length ca, .slice b ys.length cb], .agg #[.bool m, .slice c us.length cc, .slice d vs.length cd]] w fun e w' => e = .returned (.tuple #[.int .i64 (rcmp n xs ys m us vs), .int .i64 (rboth n xs ys m us vs)]) ∧ Below w.heap.size w w' := by
  unfold rcmp
  by_cases he : rboth n xs ys m us vs = 0
  · rw [if_pos he, he]
    obtain ⟨hx, hy⟩ := rboth_ok he
    cases n <;> cases m
    · exact rCompare_ff a ca xs b cb ys c cc us d cd vs w sx sy su sv hx hy
    · exact rCompare_ft a ca xs b cb ys c cc us d cd vs w sx sy su sv hx hy
    · exact rCompare_tf a ca xs b cb ys c cc us d cd vs w sx sy su sv hx hy
    · exact rCompare_tt a ca xs b cb ys c cc us d cd vs w sx sy su sv hx hy
  · rw [if_neg he]
    exact rCompare_err n a ca xs b cb ys m c cc us d cd vs w sx sy su sv he
end Go.Proofs.YtoigpodamciehaaDoor

/- The nearest float: of a fraction that is a float it is that float; it keeps the order of fractions. The next float: no float lies between. -/
namespace Go.Proofs.YtoigpodamciehaaDoor
open Go.RowKit
set_option linter.unusedVariables false

theorem Mid.mono {A1 D1 s1 A2 D2 s2 : Nat} (h1 : Mid A1 D1 s1) (h2 : Mid A2 D2 s2) (p1 : 0 < D1) (p2 : 0 < D2) (h : A1 * D2 ≤ A2 * D1) : s1 ≤ s2 := by
  rcases Nat.lt_or_ge s2 s1 with g | g
  · exfalso
    have t1 := h1.top
    have d := h1.down (by omega)
    have u := h2.up (by omega)
    have v1 : rungVal s2 ≤ rungVal (s1 - 1) := rungVal_le (by omega)
    have v2 : rungVal (s2 + 1) ≤ rungVal s1 := rungVal_le (by omega)
    have e1 : (rungVal (s1 - 1) + rungVal s1) * D1 * D2 ≤ 2 * A1 * D2 := Nat.mul_le_mul_right _ d
    have e2 : 2 * A2 * D1 ≤ (rungVal s2 + rungVal (s2 + 1)) * D2 * D1 := Nat.mul_le_mul_right _ u
    have e3 : (rungVal s2 + rungVal (s2 + 1)) * (D1 * D2) ≤ (rungVal (s1 - 1) + rungVal s1) * (D1 * D2) := Nat.mul_le_mul_right _ (by omega)
    have pp : 0 < D1 * D2 := Nat.mul_pos p1 p2
    rw [Nat.mul_assoc] at e1
    rw [Nat.mul_assoc (rungVal s2 + rungVal (s2 + 1)), Nat.mul_comm D2 D1] at e2
    rw [Nat.mul_assoc 2] at e1 e2
    have e4 : (rungVal s2 + rungVal (s2 + 1)) * (D1 * D2) = (rungVal (s1 - 1) + rungVal s1) * (D1 * D2) := by omega
    have e5 := Nat.eq_of_mul_eq_mul_right pp e4
    have e6 : s2 + 1 = s1 := by
      rcases Nat.lt_or_ge (s2 + 1) s1 with q | q
      · have := rungVal_lt (r := s2) (s := s1 - 1) (by omega)
        omega
      · omega
    subst e6
    have f1 : (rungVal (s2 + 1 - 1) + rungVal (s2 + 1)) * D1 = 2 * A1 := by
      refine Nat.le_antisymm d ?_
      refine Nat.le_of_mul_le_mul_right (c := D2) ?_ p2
      rw [Nat.mul_assoc, Nat.mul_assoc]
      omega
    have f2 : 2 * A2 = (rungVal s2 + rungVal (s2 + 1)) * D2 := by
      refine Nat.le_antisymm u ?_
      refine Nat.le_of_mul_le_mul_right (c := D1) ?_ p1
      rw [Nat.mul_assoc, Nat.mul_assoc, Nat.mul_comm D2 D1]
      omega
    have p := h1.tieDown (by omega) f1
    have q := h2.tieUp (by omega) f2
    omega
  · exact g
theorem mid_exact {D t : Nat} (hD : 0 < D) (ht : t < 9218868437227405312) : Mid (rungVal t * D) D t := by
  have hs : rungVal t < rungVal (t + 1) := rungVal_lt (by omega)
  have e0 : 2 * (rungVal t * D) = (rungVal t + rungVal t) * D := by rw [Nat.add_mul]; omega
  refine ⟨by omega, fun _ => ?_, fun h => ?_, fun _ e => ?_, fun h e => ?_⟩
  · rw [e0]; exact Nat.mul_le_mul_right _ (by omega)
  · have hd : rungVal (t - 1) < rungVal t := rungVal_lt (by omega)
    rw [e0]; exact Nat.mul_le_mul_right _ (by omega)
  · rw [e0] at e
    have := Nat.eq_of_mul_eq_mul_right hD e
    omega
  · have hd : rungVal (t - 1) < rungVal t := rungVal_lt (by omega)
    rw [e0] at e
    have := Nat.eq_of_mul_eq_mul_right hD e
    omega

/-- What Nearest's float is, where nothing is refused. -/
theorem nr_sv {n : Bool} {xs ys : List Int} {x : Nat} {code : Int} (h : NrT n xs ys x code) (hc : code = 0) :
    rchk n xs ys = 0 ∧ ∃ X Y s : Nat, val xs = X ∧ val ys = Y ∧ 0 < Y ∧ Mid (X * 2 ^ zP) Y s ∧ s < 9218868437227405312 ∧ Fi x ∧ sv x = sg n (rungVal s : Int) := by
  rcases h with ⟨h0, _, h1⟩ | ⟨h0, X, Y, s, hX, hY, hp, hm, h⟩
  · exact absurd (h1.symm.trans hc) h0
  · refine ⟨h0, X, Y, s, hX, hY, hp, hm, ?_⟩
    rcases h with ⟨_, _, h1⟩ | ⟨hs, _, hx⟩
    · rw [hc] at h1; exact absurd h1 (by decide)
    · refine ⟨hs, ?_⟩
      by_cases hn : n = true ∧ 0 < s
      · rw [if_pos hn] at hx
        rw [hx, hn.1, Nat.add_comm s, sv_high (by omega)]
        exact ⟨⟨by omega, by omega⟩, rfl⟩
      · rw [if_neg hn] at hx
        rw [hx, sv_low (by omega)]
        refine ⟨⟨by omega, by omega⟩, ?_⟩
        cases n
        · rfl
        · have : s = 0 := by
            rcases Nat.eq_zero_or_pos s with g | g
            · exact g
            · exact absurd ⟨rfl, g⟩ hn
          subst this
          decide
theorem wval_sg (n : Bool) (xs : List Int) : wval n xs = sg n (val xs) := rfl

theorem sg_mul' (n : Bool) (x y : Int) : sg n (x * y) = sg n x * y := sg_mul n x y
theorem sg_inj {n : Bool} {x y : Int} (h : sg n x = sg n y) : x = y := by
  cases n
  · exact h
  · have h' : -x = -y := h; omega
theorem nabs_two (k : Nat) : ((2 : Int) ^ k).natAbs = 2 ^ k := by rw [Int.natAbs_pow]; rfl
theorem ncast_two (X k : Nat) : ((X * 2 ^ k : Nat) : Int) = (X : Int) * 2 ^ k := by rw [Int.natCast_mul, Int.natCast_pow]; rfl
/-- A fraction that is a float has that float. -/
theorem nr_exact {n : Bool} {xs ys : List Int} {x v : Nat} {code : Int} (h : NrT n xs ys x code) (hc : code = 0) (hv : Fi v) (e : wval n xs * 2 ^ zP = sv v * val ys) : Fi x ∧ sv x = sv v := by
  obtain ⟨h0, X, Y, s, hX, hY, hp, hm, hs, hf, hsv⟩ := nr_sv h hc
  refine ⟨hf, ?_⟩
  rw [wval_sg, hX, hY] at e
  have e1 : (sg n (X : Int) * 2 ^ zP).natAbs = X * 2 ^ zP := by
    rw [Int.natAbs_mul]
    have a1 : (sg n (X : Int)).natAbs = X := by cases n <;> simp [sg]
    have a2 : ((2 : Int) ^ zP).natAbs = 2 ^ zP := nabs_two zP
    rw [a1, a2]
  have e2 : (sv v * (Y : Int)).natAbs = rungVal (v % 9223372036854775808) * Y := by
    rw [Int.natAbs_mul, sv_abs]; rfl
  have e3 : X * 2 ^ zP = rungVal (v % 9223372036854775808) * Y := by rw [← e1, e, e2]
  rw [e3] at hm
  have e4 := hm.unique hp (mid_exact hp hv.2)
  rw [hsv, e4]
  have e5 : sg n (rungVal (v % 9223372036854775808) : Int) * (Y : Int) = sv v * (Y : Int) := by
    have e7 : (rungVal (v % 9223372036854775808) : Int) * (Y : Int) = (X : Int) * 2 ^ zP := by rw [← ncast_two, e3, Int.natCast_mul]
    rw [← e, ← sg_mul', ← sg_mul', e7]
  exact Int.eq_of_mul_eq_mul_right (by omega) e5
theorem mid_nil {Y s : Nat} (hp : 0 < Y) (h : Mid (0 * 2 ^ zP) Y s) : s = 0 := h.unique hp (mid_nought hp)
/-- The order of fractions is kept. -/
theorem nr_mono {n : Bool} {xs ys : List Int} {x : Nat} {m : Bool} {us vs : List Int} {y : Nat} {c d : Int} (h : NrT n xs ys x c) (hc : c = 0) (g : NrT m us vs y d) (hd : d = 0) (hle : wval n xs * val vs ≤ wval m us * val ys) : Fi x ∧ Fi y ∧ sv x ≤ sv y := by
  obtain ⟨_, X, Y, s, hX, hY, hp, hm, hs, hf, hsv⟩ := nr_sv h hc
  obtain ⟨_, U, V, t, hU, hV, hq, hk, ht, hg, htv⟩ := nr_sv g hd
  refine ⟨hf, hg, ?_⟩
  rw [hsv, htv]
  rw [wval_sg, wval_sg, hX, hY, hU, hV] at hle
  have mono : ∀ {a b c d : Nat}, a * b ≤ c * d → a * 2 ^ zP * b ≤ c * 2 ^ zP * d := fun {a b c d} h => by
    rw [Nat.mul_right_comm, Nat.mul_right_comm c]; exact Nat.mul_le_mul_right _ h
  cases n <;> cases m
  · have h' : (X : Int) * (V : Int) ≤ (U : Int) * (Y : Int) := hle
    have hn : X * V ≤ U * Y := by rw [← Int.ofNat_le, Int.natCast_mul, Int.natCast_mul]; exact h'
    have := rungVal_le (hm.mono hk hp hq (mono hn))
    show (rungVal s : Int) ≤ (rungVal t : Int)
    omega
  · have h' : (X : Int) * (V : Int) ≤ -(U : Int) * (Y : Int) := hle
    rw [Int.neg_mul] at h'
    have p1 : 0 ≤ (X : Int) * (V : Int) := Int.mul_nonneg (by omega) (by omega)
    have p2 : 0 ≤ (U : Int) * (Y : Int) := Int.mul_nonneg (by omega) (by omega)
    have x0 : X = 0 := by
      have : (X : Int) * (V : Int) = 0 := by omega
      rcases Int.mul_eq_zero.1 this with h | h <;> omega
    have u0 : U = 0 := by
      have : (U : Int) * (Y : Int) = 0 := by omega
      rcases Int.mul_eq_zero.1 this with h | h <;> omega
    subst x0; subst u0
    rw [mid_nil hp hm, mid_nil hq hk]
    decide
  · show -(rungVal s : Int) ≤ (rungVal t : Int)
    omega
  · have h' : -(X : Int) * (V : Int) ≤ -(U : Int) * (Y : Int) := hle
    rw [Int.neg_mul, Int.neg_mul] at h'
    have hn : U * Y ≤ X * V := by rw [← Int.ofNat_le, Int.natCast_mul, Int.natCast_mul]; omega
    have := rungVal_le (hk.mono hm hq hp (mono hn))
    show -(rungVal s : Int) ≤ -(rungVal t : Int)
    omega

/-- The order of finite floats is that of their numbers. -/
theorem ocmp_scale (u v : Int) {p : Nat} (hp : 0 < p) : compare (u * (p : Int)) (v * (p : Int)) = compare u v := by
  have hp' : (0 : Int) < (p : Int) := by omega
  rcases Int.lt_trichotomy u v with h | rfl | h
  · rw [Int.compare_eq_lt.2 h, Int.compare_eq_lt.2 (Int.mul_lt_mul_of_pos_right h hp')]
  · simp
  · rw [Int.compare_eq_gt.2 h, Int.compare_eq_gt.2 (Int.mul_lt_mul_of_pos_right h hp')]
theorem ordsv {x y : Nat} (hx : Fi x) (hy : Fi y) : FloatKind.f64.format.order x y = some (compare (sv x) (sv y)) := by
  show (Ieee.double.read x).order (Ieee.double.read y) = _
  obtain ⟨m, a, e1, v1⟩ := read_num hx.2
  obtain ⟨n, b, e2, v2⟩ := read_num hy.2
  generalize hs : (x / 9223372036854775808 % 2 == 1) = s at e1
  generalize ht : (y / 9223372036854775808 % 2 == 1) = t at e2
  have t1 : (-1074 + (a : Int) - min (-1074 + (a : Int)) (-1074 + (b : Int))).toNat = a - min a b := by omega
  have t2 : (-1074 + (b : Int) - min (-1074 + (a : Int)) (-1074 + (b : Int))).toNat = b - min a b := by omega
  rw [e1, e2]
  simp only [Ieee.Datum.order, t1, t2]
  rw [← ocmp_scale _ _ (Nat.two_pow_pos (min a b)), signed_pow s m a _ (Nat.min_le_left ..), signed_pow t n b _ (Nat.min_le_right ..), v1, v2, sv_sign hs, sv_sign ht]
theorem RN.only {A : Int} {D v : Nat} (h : RN A 1 D) (f : Fi v) (e : A = sv v) : sv D = A ∧ Fi D := by
  obtain ⟨neg, s, rfl, n1, n2, m⟩ := h
  have hv := sv_abs v
  rw [← e] at hv
  have h1 := m.le (by decide) (r := v % 9223372036854775808) (by rw [← hv]; omega)
  have h2 := m.ge (by decide) (r := v % 9223372036854775808) (by have := f.2; omega) (by rw [← hv]; omega)
  have hs : s = v % 9223372036854775808 := by omega
  subst hs
  refine ⟨?_, word_fi _ f.2⟩
  rw [sv_word _ _ (by have := f.2; omega), ← hv]
  cases neg
  · simp only [Bool.false_eq_true, if_false]
    by_cases hz : A < 0
    · cases n1 hz
    · omega
  · simp only [if_true]
    by_cases hz : 0 < A
    · cases n2 hz
    · omega

theorem ord_gt {x y : Nat} (hx : Fi x) (hy : Fi y) : (FloatKind.f64.format.order x y == some .gt) = decide (sv y < sv x) := by
  rw [ordsv hx hy]
  rcases Int.lt_trichotomy (sv x) (sv y) with h | h | h
  · rw [show compare (sv x) (sv y) = .lt from Int.compare_eq_lt.2 h, decide_eq_false (by omega)]; rfl
  · rw [show compare (sv x) (sv y) = .eq from Int.compare_eq_eq.2 h, decide_eq_false (by omega)]; rfl
  · rw [show compare (sv x) (sv y) = .gt from Int.compare_eq_gt.2 h, decide_eq_true h]; rfl
theorem ord_lt {x y : Nat} (hx : Fi x) (hy : Fi y) : (FloatKind.f64.format.order x y == some .lt) = decide (sv x < sv y) := by
  rw [ordsv hx hy]
  rcases Int.lt_trichotomy (sv x) (sv y) with h | h | h
  · rw [show compare (sv x) (sv y) = .lt from Int.compare_eq_lt.2 h, decide_eq_true h]; rfl
  · rw [show compare (sv x) (sv y) = .eq from Int.compare_eq_eq.2 h, decide_eq_false (by omega)]; rfl
  · rw [show compare (sv x) (sv y) = .gt from Int.compare_eq_gt.2 h, decide_eq_false (by omega)]; rfl
theorem ord_eq {x y : Nat} (hx : Fi x) (hy : Fi y) : (FloatKind.f64.format.order x y == some .eq) = decide (sv x = sv y) := by
  rw [ordsv hx hy]
  rcases Int.lt_trichotomy (sv x) (sv y) with h | h | h
  · rw [show compare (sv x) (sv y) = .lt from Int.compare_eq_lt.2 h, decide_eq_false (by omega)]; rfl
  · rw [show compare (sv x) (sv y) = .eq from Int.compare_eq_eq.2 h, decide_eq_true h]; rfl
  · rw [show compare (sv x) (sv y) = .gt from Int.compare_eq_gt.2 h, decide_eq_false (by omega)]; rfl
/-- Of what is not finite: never between two finite ones. -/
theorem ord_between {a m b : Nat} (ha : Fi a) (hb : Fi b) (hm : m < 18446744073709551616) (hno : ∀ c, Fi c → ¬ (sv a < sv c ∧ sv c < sv b)) : ((FloatKind.f64.format.order m a == some .gt) && (FloatKind.f64.format.order m b == some .lt)) = false := by
  by_cases hf : Fi m
  · rw [ord_gt hf ha, ord_lt hf hb]
    by_cases h1 : sv a < sv m
    · by_cases h2 : sv m < sv b
      · exact absurd ⟨h1, h2⟩ (hno m hf)
      · rw [decide_eq_false h2, Bool.and_false]
    · rw [decide_eq_false h1, Bool.false_and]
  · by_cases hn : isnan m = true
    · rw [order_nan_l hn]; rfl
    · have hi : m = 9218868437227405312 ∨ m = 18442240474082181120 := by
        have : ¬ 9218868437227405312 < m % 9223372036854775808 := fun h => hn ((isnan_iff m).2 h)
        have h2 : ¬ m % 9223372036854775808 < 9218868437227405312 := fun h => hf ⟨hm, h⟩
        omega
      obtain ⟨k, p, ea, _⟩ := read_num ha.2
      obtain ⟨l, q, eb, _⟩ := read_num hb.2
      rcases hi with rfl | rfl
      · have e : Ieee.double.read 9218868437227405312 = .infinity false := by decide
        have : FloatKind.f64.format.order 9218868437227405312 b = some .gt := by
          show (Ieee.double.read 9218868437227405312).order (Ieee.double.read b) = _
          rw [e, eb]; rfl
        rw [this]; simp
      · have e : Ieee.double.read 18442240474082181120 = .infinity true := by decide
        have : FloatKind.f64.format.order 18442240474082181120 a = some .lt := by
          show (Ieee.double.read 18442240474082181120).order (Ieee.double.read a) = _
          rw [e, ea]; rfl
        rw [this]; rfl
/-- What Next tells. -/
def nxt (x : Nat) : Nat × Int := if fin x then (if x = 9218868437227405311 then (0, 9) else if 9223372036854775808 < x then ((if x = 9223372036854775809 then 0 else x - 1), 0) else (x % 9223372036854775808 + 1, 0)) else (0, 8)
theorem fi_fin {x : Nat} (h : x < 18446744073709551616) : fin x = true ↔ Fi x := ⟨fun g => ⟨h, (fin_iff x).1 g⟩, fun g => (fin_iff x).2 g.2⟩
theorem sv_at {x : Nat} (h : x < 18446744073709551616) : (x < 9223372036854775808 ∧ sv x = (rungVal x : Int)) ∨ (∃ t, x = 9223372036854775808 + t ∧ t < 9223372036854775808 ∧ sv x = -(rungVal t : Int)) := by
  rcases Nat.lt_or_ge x 9223372036854775808 with g | g
  · exact .inl ⟨g, sv_low g⟩
  · exact .inr ⟨x - 9223372036854775808, by omega, by omega, by
      have e := sv_high (x := x - 9223372036854775808) (by omega)
      rw [show 9223372036854775808 + (x - 9223372036854775808) = x by omega] at e
      exact e⟩
/-- The next float: above, and none between. -/
theorem nxt_next {x y : Nat} (hx : Fi x) (h : nxt x = (y, 0)) : Fi y ∧ sv x < sv y ∧ ∀ c, Fi c → ¬ (sv x < sv c ∧ sv c < sv y) := by
  unfold nxt at h
  rw [if_pos ((fi_fin hx.1).2 hx)] at h
  by_cases hm : x = 9218868437227405311
  · rw [if_pos hm] at h; simp at h
  rw [if_neg hm] at h
  have hx2 := hx.2
  have hx1 := hx.1
  by_cases hn : 9223372036854775808 < x
  · rw [if_pos hn] at h
    have hy : y = if x = 9223372036854775809 then 0 else x - 1 := by simpa using h.symm
    obtain ⟨s, rfl⟩ : ∃ s, x = 9223372036854775808 + (s + 1) := ⟨x - 9223372036854775809, by omega⟩
    have hs : s + 1 < 9218868437227405312 := by omega
    have ey : Fi y ∧ sv y = -(rungVal s : Int) := by
      by_cases h1 : s = 0
      · subst h1
        rw [if_pos rfl] at hy
        rw [hy]; exact ⟨⟨by decide, by decide⟩, by decide⟩
      · rw [if_neg (by omega)] at hy
        rw [hy, show 9223372036854775808 + (s + 1) - 1 = 9223372036854775808 + s by omega, sv_high (by omega)]
        exact ⟨⟨by omega, by omega⟩, rfl⟩
    have ex : sv (9223372036854775808 + (s + 1)) = -(rungVal (s + 1) : Int) := sv_high (by omega)
    have hl : rungVal s < rungVal (s + 1) := rungVal_lt (by omega)
    rw [ex, ey.2]
    refine ⟨ey.1, by omega, fun c hc hcc => ?_⟩
    rcases sv_at hc.1 with ⟨_, e⟩ | ⟨t, _, _, e⟩
    · rw [e] at hcc; omega
    · rw [e] at hcc
      rcases Nat.lt_or_ge t (s + 1) with g | g
      · have := rungVal_le (r := t) (s := s) (by omega); omega
      · have := rungVal_le g; omega
  · rw [if_neg hn] at h
    have hy : y = x % 9223372036854775808 + 1 := by simpa using h.symm
    have ex : sv x = (rungVal (x % 9223372036854775808) : Int) := by
      rcases sv_at hx.1 with ⟨g, e⟩ | ⟨t, g, _, e⟩
      · rw [e, Nat.mod_eq_of_lt g]
      · have : t = 0 := by omega
        subst this
        rw [e, g]
        decide
    have hs : x % 9223372036854775808 + 1 < 9218868437227405312 := by omega
    generalize x % 9223372036854775808 = s at *
    have hl : rungVal s < rungVal (s + 1) := rungVal_lt (by omega)
    have ey : Fi y ∧ sv y = (rungVal (s + 1) : Int) := by
      rw [hy, sv_low (by omega)]; exact ⟨⟨by omega, by omega⟩, rfl⟩
    rw [ex, ey.2]
    refine ⟨ey.1, by omega, fun c hc hcc => ?_⟩
    rcases sv_at hc.1 with ⟨_, e⟩ | ⟨t, _, _, e⟩
    · rw [e] at hcc
      rcases Nat.lt_or_ge c (s + 1) with g | g
      · have := rungVal_le (r := c) (s := s) (by omega); omega
      · have := rungVal_le g; omega
    · rw [e] at hcc; omega

end Go.Proofs.YtoigpodamciehaaDoor

/- real.Exact of finite floats beside their numbers; real.Next; whether a float lies between two. -/
namespace Go.Proofs.YtoigpodamciehaaDoor
open Go.RowKit
set_option linter.unusedVariables false

theorem rtells_ok {q : Rat} {n : Bool} {xs ys : List Int} (h : RTells 0 q n xs ys 0) : rchk n xs ys = 0 ∧ rq n xs ys = q := by
  by_cases hl : rlong q
  · exact absurd (h.long rfl hl).2.2.2 (by decide)
  · exact (h.good rfl hl).2
theorem rung_count (x : Nat) : rungVal (x % 9223372036854775808) = fcount x * 2 ^ (funit x + 1074).toNat := by
  unfold rungVal fcount funit
  by_cases h : x / 4503599627370496 % 2048 = 0
  · rw [if_pos h, if_pos h, if_pos (by omega), show ((-1074 : Int) + 1074).toNat = 0 by decide, Nat.pow_zero]
    omega
  · rw [if_neg h, if_neg h, if_neg (by omega)]
    have e1 : x % 9223372036854775808 % 4503599627370496 = x % 4503599627370496 := by omega
    have e2 : x % 9223372036854775808 / 4503599627370496 - 1 = (-1074 + ((x / 4503599627370496 % 2048 : Nat) : Int) - 1 + 1074).toNat := by omega
    rw [e1, e2]
theorem sv_sg {x : Nat} (h : x < 18446744073709551616) : sv x = sg (x / 9223372036854775808 == 1) (rungVal (x % 9223372036854775808) : Int) := by
  rcases sv_at h with ⟨g, e⟩ | ⟨t, g, g2, e⟩
  · rw [e, Nat.mod_eq_of_lt g, Nat.div_eq_of_lt g]; rfl
  · subst g
    rw [e, show (9223372036854775808 + t) / 9223372036854775808 = 1 by omega, show (9223372036854775808 + t) % 9223372036854775808 = t by omega]
    rfl
theorem pow_units (u : Int) (h : -1074 ≤ u) (Z : Nat) (hZ : Z = 1074) : (2 : Int) ^ u.toNat * 2 ^ Z = 2 ^ (u + 1074).toNat * 2 ^ (-u).toNat := by
  rw [← Int.pow_add, ← Int.pow_add, show u.toNat + Z = (u + 1074).toNat + (-u).toNat by omega]
/-- The fraction that a finite float is, beside its number. -/
def ExT (x : Nat) (n : Bool) (xs ys : List Int) : Prop := rchk n xs ys = 0 ∧ wval n xs * 2 ^ zP = sv x * val ys ∧ rq n xs ys = fq x
theorem ext_arith {w v s m P U Z D W : Int} (h : w * D = s * (m * P) * v) (hu : P * Z = U * D) (hD : 0 < D) : w * Z = s * (m * U) * v := by
  have e : w * Z * D = s * (m * U) * v * D := by
    have e1 : w * Z * D = (w * D) * Z := by grind
    have e2 : s * (m * U) * v * D = s * m * v * (U * D) := by grind
    rw [e1, h, e2, ← hu]
    grind
  exact Int.eq_of_mul_eq_mul_right (by omega) e
theorem sg_one (n : Bool) (t : Int) : sg n t = (if n then -1 else 1) * t := by cases n <;> simp [sg]
theorem ext_of {x : Nat} {n : Bool} {xs ys : List Int} (hx : x < 18446744073709551616) (wy : Wd ys) (h : RTells 0 (fq x) n xs ys 0) : ExT x n xs ys := by
  obtain ⟨h0, hq⟩ := rtells_ok h
  refine ⟨h0, ?_, hq⟩
  obtain ⟨_, _, _, ty, hy0, _, _⟩ := rchk_ok h0
  have hY : 0 < val ys := by
    have e : 0 < sz ys := by rw [show sz ys = ys.length from ty]; exact hy0
    have h := (bits_bounds wy e).2.1
    have := two_pos (bitsOf ys - 1)
    omega
  have hu := funit_le x
  have hD := two_pos (-(funit x)).toNat
  have e := hq
  unfold rq fq at e
  rw [Rat.divInt_eq_divInt_iff (by omega) (by omega)] at e
  have hP := pow_units (funit x) hu.1 zP rfl
  rw [sg_one] at e
  have hc : ((rungVal (x % 9223372036854775808) : Nat) : Int) = (fcount x : Int) * 2 ^ (funit x + 1074).toNat := by
    rw [rung_count]; exact ncast_two _ _
  rw [sv_sg hx, sg_one, hc]
  exact ext_arith (W := 0) e hP hD

set_option maxHeartbeats 400000 in
set_option maxRecDepth 100000 in
theorem exact_fin (x : Nat) (w : World) (hx : Fi x) (hT : TabB w) :
    Calls Tryd.prog 6 #[.float .f64 x] w fun e w' => ∃ n a ca b cb xs ys, e = .returned (.tuple #[.agg #[.bool n, .slice a (List.length xs) ca, .slice b (List.length ys) cb], .int .i64 0]) ∧ w'.ownsRow w.heap.size 63 1 (.slice a xs.length ca) xs.length (xs.map (Value.int .u32)) ∧ w'.ownsRow w.heap.size 63 1 (.slice b ys.length cb) ys.length (ys.map (Value.int .u32)) ∧ Wd xs ∧ Wd ys ∧ ExT x n xs ys ∧ Below w.heap.size w w' := by
  have hf := (fi_fin hx.1).2 hx
  by_cases h0 : fcount x = 0
  · refine Calls.mono (exact_zero x w hx.1 hf h0) ?_
    rintro e w' ⟨g, rfl, o, hb⟩
    exact ⟨false, none, 0, some ⟨g, 0, none⟩, 1, [], [1], rfl, World.ownsRow_nil _ _ _ _, o, Wd.nil, Wd.one (by omega), ext_of hx.1 (Wd.one (by omega)) (zero_good h0), hb⟩
  · refine Calls.mono (exact_nz x w hx.1 hf h0 hT) ?_
    rintro e w' ⟨a, ca, b, cb, zs, ds, rfl, o, vz, vd, hb⟩
    exact ⟨_, a, ca, b, cb, zs, ds, rfl, o.1, o.2.1, o.2.2.1, o.2.2.2.2.1, ext_of hx.1 o.2.2.2.2.1 (frac_good h0 o.2.2.1 o.2.2.2.1 o.2.2.2.2.1 o.2.2.2.2.2.1 vz vd), hb⟩

theorem sub_zero_from {s : Nat} (h : s < 9218868437227405312) : floatBits .sub .f64 0 s = some (if s = 0 then 0 else 9223372036854775808 + s) := by
  by_cases h0 : s = 0
  · subst h0; decide +kernel
  · rw [if_neg h0]
    have hs : Fi s := ⟨by omega, by omega⟩
    have f0 : Fi 0 := ⟨by decide, by decide⟩
    have e : floatBits .sub .f64 0 s = floatBits .add .f64 0 (fopp s) := by
      show (((Ieee.double.read 0).sum (Ieee.double.read s).opposite).map Ieee.double.write) = (((Ieee.double.read 0).sum (Ieee.double.read (fopp s))).map Ieee.double.write)
      rw [read_fopp (by omega)]
    obtain ⟨r, hr⟩ := add_some (x := 0) (y := fopp s) (by decide) ((fi_fin hs.opp.1).2 hs.opp)
    rw [e, hr]
    have rn := sub_rn f0 hs (FN.some (by rw [e, hr]))
    have hv : sv (9223372036854775808 + s) = -(rungVal s : Int) := sv_high (by omega)
    have hz : sv 0 = 0 := by decide
    have hl : sv s = (rungVal s : Int) := sv_low (by omega)
    obtain ⟨h1, h2⟩ := rn.only (v := 9223372036854775808 + s) ⟨by omega, by omega⟩ (by rw [hv, hz, hl]; omega)
    have hp : 0 < rungVal s := by
      rcases Nat.eq_zero_or_pos (rungVal s) with g | g
      · exact absurd (rungVal_zero.1 g) h0
      · exact g
    rw [hz, hl] at h1
    rcases sv_at h2.1 with ⟨_, e2⟩ | ⟨t, rfl, _, e2⟩
    · rw [e2] at h1; omega
    · rw [e2] at h1
      have : t = s := by
        rcases Nat.lt_trichotomy t s with g | g | g
        · have := rungVal_lt g; omega
        · exact g
        · have := rungVal_lt g; omega
      rw [this]

set_option maxHeartbeats 1600000 in
set_option maxRecDepth 100000 in
theorem next_any (x : Nat) (w : World) (hx : x < 18446744073709551616) :
    Calls Tryd.prog 10 #[.float .f64 x] w fun e w' => e = .returned (.tuple #[.float .f64 (nxt x).1, .int .i64 (nxt x).2]) ∧ Below w.heap.size w w' := by
  have HF := hid (finite_any x w hx)
  have hneg : ∀ x, Op.unary .neg (.float .f64 x) = pure (.float .f64 (fneg x)) := fun _ => rfl
  by_cases hf : fin x = true
  · rw [hf] at HF
    have hfi := (fi_fin hx).1 hf
    have hmx : Fi 9218868437227405311 := ⟨by decide, by decide⟩
    have h0 : Fi 0 := ⟨by decide, by decide⟩
    have q1 := ord_eq hfi hmx
    have q2 := ord_lt hfi h0
    have hz : sv 0 = 0 := by decide
    by_cases hm : x = 9218868437227405311
    · have e : nxt x = (0, 9) := by unfold nxt; rw [if_pos hf, if_pos hm]
      rw [decide_eq_true (by rw [hm])] at q1
      rw [e]
      clear e hm hfi hmx h0 q2 hz hf hx hneg
      go_enter Tryd.func10, Tryd.ntmps10
      go_wp2_with fail
      refine Calls.mono HF.out ?_
      rintro e w1 ⟨rfl, rfl⟩
      go_wp2_with fail
      go_returns
      exact ⟨rfl, Below.refl _ _⟩
    · have hne : sv x ≠ sv 9218868437227405311 := by
        have e1 : sv 9218868437227405311 = (rungVal 9218868437227405311 : Int) := sv_low (by decide)
        have hp : 0 < rungVal 9218868437227405311 := by
          rcases Nat.eq_zero_or_pos (rungVal 9218868437227405311) with g | g
          · exact absurd (rungVal_zero.1 g) (by decide)
          · exact g
        rw [e1]
        rcases sv_at hx with ⟨g, e⟩ | ⟨t, _, _, e⟩
        · rw [e]
          have hlt : x < 9218868437227405311 := by have := hfi.2; omega
          have := rungVal_lt hlt
          omega
        · rw [e]; omega
      rw [decide_eq_false hne] at q1
      by_cases hn : 9223372036854775808 < x
      · obtain ⟨s, rfl⟩ : ∃ s, x = 9223372036854775808 + (s + 1) := ⟨x - 9223372036854775809, by omega⟩
        have hs : s + 1 < 9218868437227405312 := by have := hfi.2; omega
        have hlt : sv (9223372036854775808 + (s + 1)) < sv 0 := by
          rw [hz, sv_high (by omega)]
          have := rungVal_lt (r := 0) (s := s + 1) (by omega)
          omega
        rw [decide_eq_true hlt] at q2
        have e : nxt (9223372036854775808 + (s + 1)) = ((if s = 0 then 0 else 9223372036854775808 + s), 0) := by
          unfold nxt
          rw [if_pos hf, if_neg hm, if_pos hn]
          by_cases g : s = 0
          · subst g; rfl
          · rw [if_neg (by omega), if_neg g]; rfl
        have hfn : fneg (9223372036854775808 + (s + 1)) = s + 1 := by
          have e2 : fneg (9223372036854775808 + (s + 1)) = fopp (9223372036854775808 + (s + 1)) := rfl
          rw [e2, fopp_high (by omega) (by omega)]; omega
        have HB := fun V => bits_run (s + 1) V
        have HR := fun V => from_run s V
        have hsub := sub_zero_from (s := s) (by omega)
        have hc : ((s + 1 : Nat) : Int) - 1 = (s : Int) := by omega
        have hcast : ((s + 1 : Nat) : Int) = (s : Int) + 1 := by omega
        rw [e]
        obtain ⟨r, hr⟩ : ∃ r, (if s = 0 then 0 else 9223372036854775808 + s) = r := ⟨_, rfl⟩
        rw [hr] at hsub ⊢
        have hs2 : (s : Int) < 9218868437227405312 := by omega
        have hsr : ∀ P t V, (binOp .sub t (.float .f64 0) (.float .f64 s)).run P V = .ok (.float .f64 r) V := fun P t V => by
          rw [fsub_run]; unfold fval fwld; rw [hsub]
        rw [hcast] at HB
        generalize 9223372036854775808 + (s + 1) = X at *
        clear e hr hm hn hlt hne hf hfi hmx h0 hz hx hs hc hcast
        go_enter Tryd.func10, Tryd.ntmps10
        go_wp2_with fail
        refine Calls.mono HF.out ?_
        rintro e w1 ⟨rfl, rfl⟩
        go_wp2_with fail
        go_returns
        exact ⟨rfl, Below.refl _ _⟩
      · have hge : ¬ sv x < sv 0 := by
          rw [hz]
          rcases sv_at hx with ⟨_, e⟩ | ⟨t, g, _, e⟩
          · rw [e]; omega
          · have : t = 0 := by omega
            subst this
            rw [e]; decide
        rw [decide_eq_false hge] at q2
        have e : nxt x = (x % 9223372036854775808 + 1, 0) := by unfold nxt; rw [if_pos hf, if_neg hm, if_neg hn]
        have HA := hid (mAbs_any x w hx)
        have hs : x % 9223372036854775808 < 9218868437227405312 := hfi.2
        rw [e]
        generalize x % 9223372036854775808 = s at *
        have HB := fun V => bits_run s V
        have HR := fun V => from_run (s + 1) V
        have hcast : ((s + 1 : Nat) : Int) = (s : Int) + 1 := by omega
        rw [hcast] at HR
        have hs2 : (s : Int) < 9218868437227405312 := by omega
        clear e hm hn hge hne hf hfi hmx h0 hz hx hcast hs hneg
        go_enter Tryd.func10, Tryd.ntmps10
        go_wp2_with fail
        refine Calls.mono HF.out ?_
        rintro e w1 ⟨rfl, rfl⟩
        go_wp2_with fail
        refine Calls.mono HA.out ?_
        rintro e w2 ⟨rfl, rfl⟩
        go_wp2_with fail
        go_returns
        exact ⟨rfl, Below.refl _ _⟩
  · obtain hf' : fin x = false := by cases h : fin x <;> simp_all
    rw [hf'] at HF
    have e : nxt x = (0, 8) := by unfold nxt; rw [if_neg hf]
    rw [e]
    clear e hf hf' hx hneg
    go_enter Tryd.func10, Tryd.ntmps10
    go_wp2_with fail
    refine Calls.mono HF.out ?_
    rintro e w1 ⟨rfl, rfl⟩
    go_wp2_with fail
    go_returns
    exact ⟨rfl, Below.refl _ _⟩

end Go.Proofs.YtoigpodamciehaaDoor

/- Fractions: ratio.Make, ratio.Small. -/
namespace Go.Proofs.YtoigpodamciehaaDoor
open Go.RowKit
set_option linter.unusedVariables false

set_option maxHeartbeats 3200000 in
set_option maxRecDepth 100000 in
theorem rmake_e1 (n : Bool) (a : Option Addr) (ca : Nat) (xs : List Int) (m : Bool) (b : Option Addr) (cb : Nat) (ys : List Int) (w : World) (h : Sl w (.slice a xs.length ca) xs) (g : Sl w (.slice b ys.length cb) ys) (lx : xs.length ≤ 281474976710656) (ly : ys.length ≤ 281474976710656) (hx : wchk n xs ≠ 0) (q : Rat) :
    Calls Tryd.prog 43 #[.agg #[.bool n, .slice a xs.length ca], .agg #[.bool m, .slice b ys.length cb]] w (RToldA w (wchk n xs) q) := by
  have HB : Hid (Below w.heap.size w (((w.alloc (.cells #[.bool n, .slice a xs.length ca] 81)).alloc (.cells #[.bool m, .slice b ys.length cb] 81)).alloc (.cells #[.bool false, .slice none 0 0, .slice none 0 0] 25))) := bt (bt (alloc_later _ _) (alloc_later _ _)) (alloc_later _ _)
  have HZ : Hid (Box (((w.alloc (.cells #[.bool n, .slice a xs.length ca] 81)).alloc (.cells #[.bool m, .slice b ys.length cb] 81)).alloc (.cells #[.bool false, .slice none 0 0, .slice none 0 0] 25)) (w.heap.size + 1 + 1) 25 #[.bool false, .slice none 0 0, .slice none 0 0]) := by
    have e := Box.made ((w.alloc (.cells #[.bool n, .slice a xs.length ca] 81)).alloc (.cells #[.bool m, .slice b ys.length cb] 81)) 25 #[.bool false, .slice none 0 0, .slice none 0 0]
    simp at e
    exact e
  have HN : Hid (Box (((w.alloc (.cells #[.bool n, .slice a xs.length ca] 81)).alloc (.cells #[.bool m, .slice b ys.length cb] 81)).alloc (.cells #[.bool false, .slice none 0 0, .slice none 0 0] 25)) w.heap.size 81 #[.bool n, .slice a xs.length ca]) := Box.later (Box.later (Box.made w _ _) (alloc_later _ _) (by simp)) (alloc_later _ _) (by simp; omega)
  have HM : Hid (Box (((w.alloc (.cells #[.bool n, .slice a xs.length ca] 81)).alloc (.cells #[.bool m, .slice b ys.length cb] 81)).alloc (.cells #[.bool false, .slice none 0 0, .slice none 0 0] 25)) (w.heap.size + 1) 81 #[.bool m, .slice b ys.length cb]) := by
    have e := Box.later (Box.made (w.alloc (.cells #[.bool n, .slice a xs.length ca] 81)) 81 #[.bool m, .slice b ys.length cb]) (alloc_later ((w.alloc (.cells #[.bool n, .slice a xs.length ca] 81)).alloc (.cells #[.bool m, .slice b ys.length cb] 81)) (.cells #[.bool false, .slice none 0 0, .slice none 0 0] 25)) (by simp)
    simp at e
    exact e
  have HS := hid (And.intro (h.later HB.out) (g.later HB.out))
  have HXS : Hid (w.heap.size + 1 + 1 < (((w.alloc (.cells #[.bool n, .slice a xs.length ca] 81)).alloc (.cells #[.bool m, .slice b ys.length cb] 81)).alloc (.cells #[.bool false, .slice none 0 0, .slice none 0 0] 25)).heap.size) := HZ.out.lt
  have HC1 := hid (wcheck_any n _ xs _ HS.out.1 lx)
  obtain ⟨e1, he1⟩ : ∃ e1, wchk n xs = e1 := ⟨_, rfl⟩
  rw [he1] at HC1 hx ⊢
  have hx' : (e1 == 0) = false := beq_eq_false_iff_ne.2 hx
  have HE := hid hx
  clear he1 hx
  clear h g
  go_enter Tryd.func43, Tryd.ntmps43
  go_wp2_with fail
  refine Calls.mono HC1.out ?_
  generalize (((w.alloc (.cells #[.bool n, .slice a xs.length ca] 81)).alloc (.cells #[.bool m, .slice b ys.length cb] 81)).alloc (.cells #[.bool false, .slice none 0 0, .slice none 0 0] 25)) = X at *
  rintro e w1 ⟨rfl, hb1⟩
  have HB1 := hid hb1
  clear hb1 HC1
  obtain ⟨y0, y1, y2, f0, f1, f2⟩ := res_box3 HZ.out HB1.out
  have HBN := hid (below_put3 (bt HB.out HB1.out) (w.heap.size + 1 + 1) (by omega) (.bool false) (.slice none 0 0) (.slice none 0 0))
  clear HN HM HZ HS
  go_wp2_with fail
  refine bodyPost_ret (v := .tuple #[.agg #[.bool false, .slice none 0 0, .slice none 0 0], .int .i64 e1]) (by simp [results, Tryd.results43, go_sem, y0, y1, y2]) rfl ?_
  exact ⟨false, _, [], _, [], _, rfl, World.ownsRow_nil _ _ _ _, World.ownsRow_nil _ _ _ _, RTells.err HE.out, HBN.out, ⟨w.heap.size, Nat.le_refl _, HBN.out.size, fun g hg => by simp [Value.ownBlock] at hg, fun g hg => by simp [Value.ownBlock] at hg⟩⟩

set_option maxHeartbeats 3200000 in
set_option maxRecDepth 100000 in
theorem rmake_e2 (n : Bool) (a : Option Addr) (ca : Nat) (xs : List Int) (m : Bool) (b : Option Addr) (cb : Nat) (ys : List Int) (w : World) (h : Sl w (.slice a xs.length ca) xs) (g : Sl w (.slice b ys.length cb) ys) (lx : xs.length ≤ 281474976710656) (ly : ys.length ≤ 281474976710656) (hx : wchk n xs = 0) (hy : wchk m ys ≠ 0) (q : Rat) :
    Calls Tryd.prog 43 #[.agg #[.bool n, .slice a xs.length ca], .agg #[.bool m, .slice b ys.length cb]] w (RToldA w (wchk m ys) q) := by
  have HB : Hid (Below w.heap.size w (((w.alloc (.cells #[.bool n, .slice a xs.length ca] 81)).alloc (.cells #[.bool m, .slice b ys.length cb] 81)).alloc (.cells #[.bool false, .slice none 0 0, .slice none 0 0] 25))) := bt (bt (alloc_later _ _) (alloc_later _ _)) (alloc_later _ _)
  have HZ : Hid (Box (((w.alloc (.cells #[.bool n, .slice a xs.length ca] 81)).alloc (.cells #[.bool m, .slice b ys.length cb] 81)).alloc (.cells #[.bool false, .slice none 0 0, .slice none 0 0] 25)) (w.heap.size + 1 + 1) 25 #[.bool false, .slice none 0 0, .slice none 0 0]) := by
    have e := Box.made ((w.alloc (.cells #[.bool n, .slice a xs.length ca] 81)).alloc (.cells #[.bool m, .slice b ys.length cb] 81)) 25 #[.bool false, .slice none 0 0, .slice none 0 0]
    simp at e
    exact e
  have HN : Hid (Box (((w.alloc (.cells #[.bool n, .slice a xs.length ca] 81)).alloc (.cells #[.bool m, .slice b ys.length cb] 81)).alloc (.cells #[.bool false, .slice none 0 0, .slice none 0 0] 25)) w.heap.size 81 #[.bool n, .slice a xs.length ca]) := Box.later (Box.later (Box.made w _ _) (alloc_later _ _) (by simp)) (alloc_later _ _) (by simp; omega)
  have HM : Hid (Box (((w.alloc (.cells #[.bool n, .slice a xs.length ca] 81)).alloc (.cells #[.bool m, .slice b ys.length cb] 81)).alloc (.cells #[.bool false, .slice none 0 0, .slice none 0 0] 25)) (w.heap.size + 1) 81 #[.bool m, .slice b ys.length cb]) := by
    have e := Box.later (Box.made (w.alloc (.cells #[.bool n, .slice a xs.length ca] 81)) 81 #[.bool m, .slice b ys.length cb]) (alloc_later ((w.alloc (.cells #[.bool n, .slice a xs.length ca] 81)).alloc (.cells #[.bool m, .slice b ys.length cb] 81)) (.cells #[.bool false, .slice none 0 0, .slice none 0 0] 25)) (by simp)
    simp at e
    exact e
  have HS := hid (And.intro (h.later HB.out) (g.later HB.out))
  have HXS : Hid (w.heap.size + 1 + 1 < (((w.alloc (.cells #[.bool n, .slice a xs.length ca] 81)).alloc (.cells #[.bool m, .slice b ys.length cb] 81)).alloc (.cells #[.bool false, .slice none 0 0, .slice none 0 0] 25)).heap.size) := HZ.out.lt
  have HC1 := hid (wcheck_any n _ xs _ HS.out.1 lx)
  rw [hx] at HC1
  obtain ⟨e1, he1⟩ : ∃ e1, wchk m ys = e1 := ⟨_, rfl⟩
  have HC2 := hid (fun ww (hb : Below _ (((w.alloc (.cells #[.bool n, .slice a xs.length ca] 81)).alloc (.cells #[.bool m, .slice b ys.length cb] 81)).alloc (.cells #[.bool false, .slice none 0 0, .slice none 0 0] 25)) ww) => wcheck_any m _ ys ww (HS.out.2.later hb) ly)
  rw [he1] at HC2 hy ⊢
  have hy' : (e1 == 0) = false := beq_eq_false_iff_ne.2 hy
  have HE := hid hy
  clear he1 hy hx
  clear h g
  go_enter Tryd.func43, Tryd.ntmps43
  go_wp2_with fail
  refine Calls.mono HC1.out ?_
  generalize (((w.alloc (.cells #[.bool n, .slice a xs.length ca] 81)).alloc (.cells #[.bool m, .slice b ys.length cb] 81)).alloc (.cells #[.bool false, .slice none 0 0, .slice none 0 0] 25)) = X at *
  rintro e w1 ⟨rfl, hb1⟩
  have HB1 := hid hb1
  clear hb1 HC1
  have HC := hid (HC2.out w1 HB1.out)
  obtain ⟨q0, q1, _, _⟩ := (HM.out.later HB1.out HM.out.lt).c2
  clear HC2
  go_wp2_with fail
  refine Calls.mono HC.out ?_
  rintro e w2 ⟨rfl, hb2⟩
  have HB2 := hid (bt HB1.out hb2)
  clear hb2 HC q0 q1
  obtain ⟨y0, y1, y2, f0, f1, f2⟩ := res_box3 HZ.out HB2.out
  have HBN := hid (below_put3 (bt HB.out HB2.out) (w.heap.size + 1 + 1) (by omega) (.bool false) (.slice none 0 0) (.slice none 0 0))
  clear HN HM HZ HS
  go_wp2_with fail
  refine bodyPost_ret (v := .tuple #[.agg #[.bool false, .slice none 0 0, .slice none 0 0], .int .i64 e1]) (by simp [results, Tryd.results43, go_sem, y0, y1, y2]) rfl ?_
  exact ⟨false, _, [], _, [], _, rfl, World.ownsRow_nil _ _ _ _, World.ownsRow_nil _ _ _ _, RTells.err HE.out, HBN.out, ⟨w.heap.size, Nat.le_refl _, HBN.out.size, fun g hg => by simp [Value.ownBlock] at hg, fun g hg => by simp [Value.ownBlock] at hg⟩⟩

set_option maxHeartbeats 3200000 in
set_option maxRecDepth 100000 in
theorem rmake_z (n : Bool) (a : Option Addr) (ca : Nat) (xs : List Int) (m : Bool) (b : Option Addr) (cb : Nat) (ys : List Int) (w : World) (h : Sl w (.slice a xs.length ca) xs) (g : Sl w (.slice b ys.length cb) ys) (lx : xs.length ≤ 281474976710656) (ly : ys.length ≤ 281474976710656) (hx : wchk n xs = 0) (hy : wchk m ys = 0) (h0 : ys.length = 0) (q : Rat) :
    Calls Tryd.prog 43 #[.agg #[.bool n, .slice a xs.length ca], .agg #[.bool m, .slice b ys.length cb]] w (RToldA w 7 q) := by
  have HB : Hid (Below w.heap.size w (((w.alloc (.cells #[.bool n, .slice a xs.length ca] 81)).alloc (.cells #[.bool m, .slice b ys.length cb] 81)).alloc (.cells #[.bool false, .slice none 0 0, .slice none 0 0] 25))) := bt (bt (alloc_later _ _) (alloc_later _ _)) (alloc_later _ _)
  have HZ : Hid (Box (((w.alloc (.cells #[.bool n, .slice a xs.length ca] 81)).alloc (.cells #[.bool m, .slice b ys.length cb] 81)).alloc (.cells #[.bool false, .slice none 0 0, .slice none 0 0] 25)) (w.heap.size + 1 + 1) 25 #[.bool false, .slice none 0 0, .slice none 0 0]) := by
    have e := Box.made ((w.alloc (.cells #[.bool n, .slice a xs.length ca] 81)).alloc (.cells #[.bool m, .slice b ys.length cb] 81)) 25 #[.bool false, .slice none 0 0, .slice none 0 0]
    simp at e
    exact e
  have HN : Hid (Box (((w.alloc (.cells #[.bool n, .slice a xs.length ca] 81)).alloc (.cells #[.bool m, .slice b ys.length cb] 81)).alloc (.cells #[.bool false, .slice none 0 0, .slice none 0 0] 25)) w.heap.size 81 #[.bool n, .slice a xs.length ca]) := Box.later (Box.later (Box.made w _ _) (alloc_later _ _) (by simp)) (alloc_later _ _) (by simp; omega)
  have HM : Hid (Box (((w.alloc (.cells #[.bool n, .slice a xs.length ca] 81)).alloc (.cells #[.bool m, .slice b ys.length cb] 81)).alloc (.cells #[.bool false, .slice none 0 0, .slice none 0 0] 25)) (w.heap.size + 1) 81 #[.bool m, .slice b ys.length cb]) := by
    have e := Box.later (Box.made (w.alloc (.cells #[.bool n, .slice a xs.length ca] 81)) 81 #[.bool m, .slice b ys.length cb]) (alloc_later ((w.alloc (.cells #[.bool n, .slice a xs.length ca] 81)).alloc (.cells #[.bool m, .slice b ys.length cb] 81)) (.cells #[.bool false, .slice none 0 0, .slice none 0 0] 25)) (by simp)
    simp at e
    exact e
  have HS := hid (And.intro (h.later HB.out) (g.later HB.out))
  have HXS : Hid (w.heap.size + 1 + 1 < (((w.alloc (.cells #[.bool n, .slice a xs.length ca] 81)).alloc (.cells #[.bool m, .slice b ys.length cb] 81)).alloc (.cells #[.bool false, .slice none 0 0, .slice none 0 0] 25)).heap.size) := HZ.out.lt
  have HC1 := hid (wcheck_any n _ xs _ HS.out.1 lx)
  rw [hx] at HC1
  have HC2 := hid (fun ww (hb : Below _ (((w.alloc (.cells #[.bool n, .slice a xs.length ca] 81)).alloc (.cells #[.bool m, .slice b ys.length cb] 81)).alloc (.cells #[.bool false, .slice none 0 0, .slice none 0 0] 25)) ww) => wcheck_any m _ ys ww (HS.out.2.later hb) ly)
  rw [hy] at HC2
  have h0' : ((ys.length : Int) == 0) = true := by rw [h0]; rfl
  have HE : Hid ((7 : Int) ≠ 0) := by show _ ≠ _; omega
  clear hx hy h0
  clear h g
  go_enter Tryd.func43, Tryd.ntmps43
  go_wp2_with fail
  refine Calls.mono HC1.out ?_
  generalize (((w.alloc (.cells #[.bool n, .slice a xs.length ca] 81)).alloc (.cells #[.bool m, .slice b ys.length cb] 81)).alloc (.cells #[.bool false, .slice none 0 0, .slice none 0 0] 25)) = X at *
  rintro e w1 ⟨rfl, hb1⟩
  have HB1 := hid hb1
  clear hb1 HC1
  have HC := hid (HC2.out w1 HB1.out)
  obtain ⟨q0, q1, _, _⟩ := (HM.out.later HB1.out HM.out.lt).c2
  clear HC2
  go_wp2_with fail
  refine Calls.mono HC.out ?_
  rintro e w2 ⟨rfl, hb2⟩
  have HB2 := hid (bt HB1.out hb2)
  clear hb2 HC q0 q1
  obtain ⟨q0, q1, _, _⟩ := (HM.out.later HB2.out HM.out.lt).c2
  obtain ⟨y0, y1, y2, f0, f1, f2⟩ := res_box3 HZ.out HB2.out
  have HBN := hid (below_put3 (bt HB.out HB2.out) (w.heap.size + 1 + 1) (by omega) (.bool false) (.slice none 0 0) (.slice none 0 0))
  clear HN HM HZ HS
  go_wp2_with fail
  refine bodyPost_ret (v := .tuple #[.agg #[.bool false, .slice none 0 0, .slice none 0 0], .int .i64 7]) (by simp [results, Tryd.results43, go_sem, y0, y1, y2]) rfl ?_
  exact ⟨false, _, [], _, [], _, rfl, World.ownsRow_nil _ _ _ _, World.ownsRow_nil _ _ _ _, RTells.err HE.out, HBN.out, ⟨w.heap.size, Nat.le_refl _, HBN.out.size, fun g hg => by simp [Value.ownBlock] at hg, fun g hg => by simp [Value.ownBlock] at hg⟩⟩

set_option maxHeartbeats 6400000 in
set_option maxRecDepth 100000 in
theorem rmake_ok (n : Bool) (a : Option Addr) (ca : Nat) (xs : List Int) (m : Bool) (b : Option Addr) (cb : Nat) (ys : List Int) (w : World) (h : Sl w (.slice a xs.length ca) xs) (g : Sl w (.slice b ys.length cb) ys) (lx : xs.length ≤ 281474976710656) (ly : ys.length ≤ 281474976710656) (hx : wchk n xs = 0) (hy : wchk m ys = 0) (h0 : 0 < ys.length) :
    Calls Tryd.prog 43 #[.agg #[.bool n, .slice a xs.length ca], .agg #[.bool m, .slice b ys.length cb]] w (RToldA w 0 (Rat.divInt (wval n xs) (wval m ys))) := by
  obtain ⟨kx, tx, _⟩ := wchk_ok hx
  obtain ⟨ky, ty, _⟩ := wchk_ok hy
  have wx := h.wd
  have wy := g.wd
  have HB : Hid (Below w.heap.size w (((w.alloc (.cells #[.bool n, .slice a xs.length ca] 81)).alloc (.cells #[.bool m, .slice b ys.length cb] 81)).alloc (.cells #[.bool false, .slice none 0 0, .slice none 0 0] 25))) := bt (bt (alloc_later _ _) (alloc_later _ _)) (alloc_later _ _)
  have HZ : Hid (Box (((w.alloc (.cells #[.bool n, .slice a xs.length ca] 81)).alloc (.cells #[.bool m, .slice b ys.length cb] 81)).alloc (.cells #[.bool false, .slice none 0 0, .slice none 0 0] 25)) (w.heap.size + 1 + 1) 25 #[.bool false, .slice none 0 0, .slice none 0 0]) := by
    have e := Box.made ((w.alloc (.cells #[.bool n, .slice a xs.length ca] 81)).alloc (.cells #[.bool m, .slice b ys.length cb] 81)) 25 #[.bool false, .slice none 0 0, .slice none 0 0]
    simp at e
    exact e
  have HN : Hid (Box (((w.alloc (.cells #[.bool n, .slice a xs.length ca] 81)).alloc (.cells #[.bool m, .slice b ys.length cb] 81)).alloc (.cells #[.bool false, .slice none 0 0, .slice none 0 0] 25)) w.heap.size 81 #[.bool n, .slice a xs.length ca]) := Box.later (Box.later (Box.made w _ _) (alloc_later _ _) (by simp)) (alloc_later _ _) (by simp; omega)
  have HM : Hid (Box (((w.alloc (.cells #[.bool n, .slice a xs.length ca] 81)).alloc (.cells #[.bool m, .slice b ys.length cb] 81)).alloc (.cells #[.bool false, .slice none 0 0, .slice none 0 0] 25)) (w.heap.size + 1) 81 #[.bool m, .slice b ys.length cb]) := by
    have e := Box.later (Box.made (w.alloc (.cells #[.bool n, .slice a xs.length ca] 81)) 81 #[.bool m, .slice b ys.length cb]) (alloc_later ((w.alloc (.cells #[.bool n, .slice a xs.length ca] 81)).alloc (.cells #[.bool m, .slice b ys.length cb] 81)) (.cells #[.bool false, .slice none 0 0, .slice none 0 0] 25)) (by simp)
    simp at e
    exact e
  have HS := hid (And.intro (h.later HB.out) (g.later HB.out))
  have HXS : Hid (w.heap.size + 1 + 1 < (((w.alloc (.cells #[.bool n, .slice a xs.length ca] 81)).alloc (.cells #[.bool m, .slice b ys.length cb] 81)).alloc (.cells #[.bool false, .slice none 0 0, .slice none 0 0] 25)).heap.size) := HZ.out.lt
  have HC1 := hid (wcheck_any n _ xs _ HS.out.1 lx)
  rw [hx] at HC1
  have HC2 := hid (fun ww (hb : Below _ (((w.alloc (.cells #[.bool n, .slice a xs.length ca] 81)).alloc (.cells #[.bool m, .slice b ys.length cb] 81)).alloc (.cells #[.bool false, .slice none 0 0, .slice none 0 0] 25)) ww) => wcheck_any m _ ys ww (HS.out.2.later hb) ly)
  rw [hy] at HC2
  have h0' : ((ys.length : Int) == 0) = false := beq_eq_false_iff_ne.2 (by omega)
  have HPY : Hid (0 < val ys) := by have := val_pos' wy ty h0; show _ < _; omega
  have HG : Hid (0 < gcdI (val xs) (val ys) ∧ gcdI (val xs) (val ys) ≤ val ys ∧ val ys < 4294967296 ^ 2048) := ⟨gcd_pos_right HPY.out, gcd_le_right HPY.out, below2048 wy ky⟩
  have HMP := hid (make_parts (n := n) (m := m) (val_nonneg wx) HPY.out)
  have HTT := hid (And.intro tx ty)
  obtain ⟨s, hs⟩ : ∃ s, (!(n == m)) = s := ⟨_, rfl⟩
  have HSG := hid (show (n != m) = s from hs)
  clear h g hx hy h0 tx ty
  go_enter Tryd.func43, Tryd.ntmps43
  go_wp2_with fail
  refine Calls.mono HC1.out ?_
  generalize (((w.alloc (.cells #[.bool n, .slice a xs.length ca] 81)).alloc (.cells #[.bool m, .slice b ys.length cb] 81)).alloc (.cells #[.bool false, .slice none 0 0, .slice none 0 0] 25)) = X at *
  rintro e w1 ⟨rfl, hb1⟩
  have HB1 := hid hb1
  clear hb1 HC1
  have HC := hid (HC2.out w1 HB1.out)
  obtain ⟨q0, q1, _, _⟩ := (HM.out.later HB1.out HM.out.lt).c2
  clear HC2
  go_wp2_with fail
  refine Calls.mono HC.out ?_
  rintro e w2 ⟨rfl, hb2⟩
  have HB2 := hid (bt HB1.out hb2)
  clear hb2 HC q0 q1
  have HK : Hid (∀ V, Below X.heap.size X V → V.cell? ⟨w.heap.size, 0, none⟩ = some (.bool n) ∧ V.cell? ⟨w.heap.size, 1, none⟩ = some (.slice a xs.length ca) ∧ V.cell? ⟨w.heap.size + 1, 0, none⟩ = some (.bool m) ∧ V.cell? ⟨w.heap.size + 1, 1, none⟩ = some (.slice b ys.length cb)) := fun V hb => by
    obtain ⟨p0, p1, _, _⟩ := (HN.out.later hb HN.out.lt).c2
    obtain ⟨q0, q1, _, _⟩ := (HM.out.later hb HM.out.lt).c2
    exact ⟨p0, p1, q0, q1⟩
  have HCM := hid (told1_at _ HK.out w2 HB2.out (rcommon_any _ _ xs ys w2 (HS.out.1.later HB2.out) (HS.out.2.later HB2.out) (by omega) (by omega) HTT.out.1 HTT.out.2))
  obtain ⟨p0, p1, q0, q1⟩ := HK.out w2 HB2.out
  go_wp2_with fail
  refine Calls.mono HCM.out ?_
  rintro e w3 ⟨a3, z3, c3, rfl, HE3, _, hb3, HS3⟩
  have hb3d := hb3.drew
  have HO3 := hid (HE3.out.later (Below.drew (Below.refl _ w3)))
  clear HCM HE3 HS3 p0 p1 q0 q1
  have hs0 := HK.out _ hb3d
  have HQX := hid (fun ww (hv' : Below X.heap.size X ww) (h : One X ww (.slice a3 z3.length c3) z3 (gcdI (val xs) (val ys))) => quot_in _ HK.out hv' (HS.out.1.later hv') (by omega) HTT.out.1 h HG.out.1 (by have := HG.out; omega))
  have HQY := hid (fun ww (hv' : Below X.heap.size X ww) (h : One X ww (.slice a3 z3.length c3) z3 (gcdI (val xs) (val ys))) => quot_in _ HK.out hv' (HS.out.2.later hv') (by omega) HTT.out.2 h HG.out.1 (by have := HG.out; omega))
  have HTL := hid (fun (ww : World) (hb : Below X.heap.size X ww) (a4 : Option Addr) (z4 : List Int) (c4 : Nat) (a5 : Option Addr) (z5 : List Int) (c5 : Nat) (g1 : One X ww (.slice a4 z4.length c4) z4 (val xs / gcdI (val xs) (val ys))) (g2 : One X ww (.slice a5 z5.length c5) z5 (val ys / gcdI (val xs) (val ys))) (hc : Cut X (.slice a4 z4.length c4) (.slice a5 z5.length c5) ww) => rtold_cut (n := s) (q := Rat.divInt (wval n xs) (wval m ys)) _ HK.out hb g1 g2 hc HMP.out.1 HMP.out.2.1 (by rw [← HSG.out]; exact HMP.out.2.2))
  have hq0 : w.heap.size + 1 + 1 ≠ w.heap.size := by omega
  have hq1 : w.heap.size + 1 + 1 ≠ w.heap.size + 1 := by omega
  clear HTT HG HPY
  go_wp2_with fail
  go_region_held3 (fun V : World => V.cell? ⟨w.heap.size, 0, none⟩ = some (.bool n) ∧ V.cell? ⟨w.heap.size, 1, none⟩ = some (.slice a xs.length ca) ∧ V.cell? ⟨w.heap.size + 1, 0, none⟩ = some (.bool m) ∧ V.cell? ⟨w.heap.size + 1, 1, none⟩ = some (.slice b ys.length cb)) (first | exact hs9 | exact hs5 | exact hs4 | exact hs0 | (simp [hs9, World.cell?_setCell_far, hq0]))
    (first
      | (go_at_call 55; with_reducible refine Calls.mono (HTL.out _ hb5 _ _ _ _ _ _ (HE4.out.1.later HS5.out) HE5.out.1 (cut_two hb3d.size HS4.out.size HS5.out.size HE4.out.2 HE5.out.2)) ?_; rintro e w9 ⟨k9, a8, z8, c8, a9, z9, c9, code, rfl, HE9, hs9, hb9⟩; obtain ⟨y0, y1, y2, f0, f1, f2⟩ := res_box3 HZ.out hb9)
      | (go_at_call 56; with_reducible refine Calls.mono (HQY.out _ hb4 (HO3.out.later HS4.out)) ?_; rintro e w5 ⟨a5, z5, c5, rfl, HE5, hs5, hb5, HS5⟩)
      | (go_at_call 56; with_reducible refine Calls.mono (HQX.out _ hb3d HO3.out) ?_; rintro e w4 ⟨a4, z4, c4, rfl, HE4, hs4, hb4, HS4⟩))
  all_goals
    have HBW := hid (bt HB.out hb9)
    have HR := hid HE9.out
    clear HK HQX HQY HTL HE4 HE5 HE9 HS4 HS5 HO3 hs0 hs4 hs5 hs9 hb3 hb3d hb4 hb5 hb9 HMP HSG
    go_wp2_with fail
    refine bodyPost_ret (v := .tuple #[.agg #[.bool k9, .slice a8 z8.length c8, .slice a9 z9.length c9], .int .i64 code]) (by simp [results, Tryd.results43, go_sem, y0, y1, y2]) rfl ?_
    exact RToldA.put HR.out (w.heap.size + 1 + 1) HXS.out (by omega) HBW.out _ _ _

theorem rmake_any (n : Bool) (a : Option Addr) (ca : Nat) (xs : List Int) (m : Bool) (b : Option Addr) (cb : Nat) (ys : List Int) (w : World) (h : Sl w (.slice a xs.length ca) xs) (g : Sl w (.slice b ys.length cb) ys) (lx : xs.length ≤ 281474976710656) (ly : ys.length ≤ 281474976710656) :
    Calls Tryd.prog 43 #[.agg #[.bool n, .slice a xs.length ca], .agg #[.bool m, .slice b ys.length cb]] w (RToldA w (mkErr n xs m ys) (Rat.divInt (wval n xs) (wval m ys))) := by
  unfold mkErr
  by_cases hb : wboth n xs m ys = 0
  · obtain ⟨hx, hy⟩ := wboth_ok hb
    rw [if_pos hb]
    by_cases h0 : ys.length = 0
    · rw [if_pos h0]
      exact rmake_z n a ca xs m b cb ys w h g lx ly hx hy h0 _
    · rw [if_neg h0]
      exact rmake_ok n a ca xs m b cb ys w h g lx ly hx hy (by omega)
  · rw [if_neg hb]
    unfold wboth at hb ⊢
    by_cases hx : wchk n xs = 0
    · rw [if_pos hx] at hb ⊢
      exact rmake_e2 n a ca xs m b cb ys w h g lx ly hx hb _
    · rw [if_neg hx]
      exact rmake_e1 n a ca xs m b cb ys w h g lx ly hx _
end Go.Proofs.YtoigpodamciehaaDoor

/- Fractions: ratio.Small. -/
namespace Go.Proofs.YtoigpodamciehaaDoor
open Go.RowKit
set_option linter.unusedVariables false

theorem small_err {n m : Bool} {zs us : List Int} {y : Int} (l1 : zs.length ≤ 2) (t1 : Trimmed zs) (s1 : n = false ∨ 0 < zs.length) (w2 : Wd us) (l2 : us.length ≤ 2) (t2 : Trimmed us) (s2 : m = false ∨ 0 < us.length) (v2 : wval m us = y) : mkErr n zs m us = if y = 0 then 7 else 0 := by
  unfold mkErr
  rw [wboth_good (wchk_good (by omega) t1 s1) (wchk_good (by omega) t2 s2), if_pos rfl]
  by_cases c : us.length = 0
  · have e0 : val us = 0 := trimmed_zero' c
    have : y = 0 := by rw [← v2]; cases m <;> simp [wval, e0]
    rw [if_pos c, if_pos this]
  · have e0 := val_pos' w2 t2 (by omega)
    have : ¬ y = 0 := by rw [← v2]; cases m <;> simp [wval] <;> omega
    rw [if_neg c, if_neg this]

set_option maxHeartbeats 1600000 in
set_option maxRecDepth 100000 in
theorem rsmall_any (x y : Int) (w : World) (x0 : -9223372036854775808 ≤ x) (x1 : x ≤ 9223372036854775807) (y0 : -9223372036854775808 ≤ y) (y1 : y ≤ 9223372036854775807) :
    Calls Tryd.prog 26 #[.int .i64 x, .int .i64 y] w (RToldA w (if y = 0 then 7 else 0) (Rat.divInt x y)) := by
  have HB : Hid (Below w.heap.size w (w.alloc (.cells #[.bool false, .slice none 0 0, .slice none 0 0] 25))) := alloc_later _ _
  have HZ : Hid (Box (w.alloc (.cells #[.bool false, .slice none 0 0, .slice none 0 0] 25)) w.heap.size 25 #[.bool false, .slice none 0 0, .slice none 0 0]) := Box.made w _ _
  have HO1 := hid (wof_any x (w.alloc (.cells #[.bool false, .slice none 0 0, .slice none 0 0] 25)) x0 x1)
  obtain ⟨E, hE⟩ : ∃ E : Int, (if y = 0 then (7 : Int) else 0) = E := ⟨_, rfl⟩
  rw [hE]
  have HE := hid hE
  clear hE
  go_enter Tryd.func26, Tryd.ntmps26
  go_wp2_with fail
  refine Calls.mono HO1.out ?_
  generalize (w.alloc (.cells #[.bool false, .slice none 0 0, .slice none 0 0] 25)) = X at *
  rintro e w1 ⟨n1, v1, z1, rfl, o1, wd1, t1, l1, s1, hv1, hb1⟩
  obtain ⟨a1, c1, hs1⟩ := own_slice' o1
  subst hs1
  have HO2 := hid (wof_any y w1 y0 y1)
  have HS1 := hid (Sl.own o1 wd1)
  have HV1 := hid (And.intro t1 (And.intro s1 hv1))
  have HB1 := hid hb1
  clear o1 wd1 t1 s1 hv1 hb1 HO1
  go_wp2_with fail
  refine Calls.mono HO2.out ?_
  rintro e w2 ⟨n2, v2, z2, rfl, o2, wd2, t2, l2, s2, hv2, hb2⟩
  obtain ⟨a2, c2, hs2⟩ := own_slice' o2
  subst hs2
  have HM := hid (rmake_any n1 a1 c1 z1 n2 a2 c2 z2 w2 (HS1.out.later hb2) (Sl.own o2 wd2) (by omega) (by omega))
  rw [small_err l1 HV1.out.1 HV1.out.2.1 wd2 l2 t2 s2 hv2, HE.out, HV1.out.2.2, hv2] at HM
  have HB2 := hid (bt HB1.out hb2)
  clear o2 wd2 t2 s2 hv2 hb2 HO2 HS1 HV1
  go_wp2_with fail
  refine Calls.mono HM.out ?_
  rintro e w3 ⟨k3, v3, z3, u3, r3, code, rfl, o3, o4, t3, hb3, hc3⟩
  obtain ⟨a3, c3, hs3⟩ := own_slice' o3
  subst hs3
  obtain ⟨a4, c4, hs4⟩ := own_slice' o4
  subst hs4
  have HR := hid (And.intro o3 (And.intro o4 (And.intro t3 hc3)))
  obtain ⟨y0', y1', y2', f0, f1, f2⟩ := res_box3 HZ.out (bt HB2.out hb3)
  have HBW := hid (bt HB.out (bt HB2.out hb3))
  have HLT : Hid (w.heap.size < w2.heap.size) := Nat.lt_of_lt_of_le HZ.out.lt HB2.out.size
  clear o3 o4 t3 hb3 hc3 HM
  go_wp2_with fail
  refine bodyPost_ret (v := .tuple #[.agg #[.bool k3, .slice a3 z3.length c3, .slice a4 r3.length c4], .int .i64 code]) (by simp [results, Tryd.results26, go_sem, y0', y1', y2']) rfl ?_
  exact RToldA.put HR.out w.heap.size HLT.out (Nat.le_refl _) HBW.out _ _ _
end Go.Proofs.YtoigpodamciehaaDoor

/- The laws' small; no float between a float and the next; real.Compare and real.Within of a float and the fraction that it is. -/
namespace Go.Proofs.YtoigpodamciehaaDoor
open Go.RowKit
set_option linter.unusedVariables false

/-- A fraction told alone. -/
def RVal6 (w : World) (e : Int) (q : Rat) (x : Ending) (w' : World) : Prop :=
  ∃ n v xs u ys code, x = .returned (.agg #[.bool n, v, u]) ∧ w'.ownsRow w.heap.size 63 1 v xs.length (xs.map (Value.int .u32)) ∧ w'.ownsRow w.heap.size 63 1 u ys.length (ys.map (Value.int .u32)) ∧ RTells e q n xs ys code ∧ Below w.heap.size w w'
theorem RVal6.put {w U w3 : World} {e : Int} {q : Rat} {k : Bool} {v u : Value} {zs ds : List Int} {code : Int} (h : w3.ownsRow U.heap.size 63 1 v zs.length (zs.map (Value.int .u32)) ∧ w3.ownsRow U.heap.size 63 1 u ds.length (ds.map (Value.int .u32)) ∧ RTells e q k zs ds code) (b : Nat) (hb : b < U.heap.size) (hw : w.heap.size ≤ b) (hbw : Below w.heap.size w w3) (x y z : Value) :
    RVal6 w e q (.returned (.agg #[.bool k, v, u])) (((w3.setCell ⟨b, 0, none⟩ x).setCell ⟨b, 1, none⟩ y).setCell ⟨b, 2, none⟩ z) :=
  ⟨k, v, zs, u, ds, code, rfl, owns_base (own_put3 h.1 b (fun g hg => by have := (World.ownsRow.lt h.1 g hg).1; omega) _ _ _) (by omega), owns_base (own_put3 h.2.1 b (fun g hg => by have := (World.ownsRow.lt h.2.1 g hg).1; omega) _ _ _) (by omega), h.2.2, below_put3 hbw b hw _ _ _⟩
set_option maxHeartbeats 1600000 in
set_option maxRecDepth 100000 in
theorem small6_any (x y : Int) (w : World) (x0 : -9223372036854775808 ≤ x) (x1 : x ≤ 9223372036854775807) (y0 : -9223372036854775808 ≤ y) (y1 : y ≤ 9223372036854775807) :
    Calls Tryd.prog 13 #[.int .i64 x, .int .i64 y] w (RVal6 w (if y = 0 then 7 else 0) (Rat.divInt x y)) := by
  have HB := hid (alloc_later w (.cells #[.bool false, .slice none 0 0, .slice none 0 0] 25))
  have HZ := hid (Box.made w 25 #[.bool false, .slice none 0 0, .slice none 0 0])
  have HLT : Hid (w.heap.size < (w.alloc (.cells #[.bool false, .slice none 0 0, .slice none 0 0] 25)).heap.size) := by show _ < _; simp
  have HR := hid (rsmall_any x y (w.alloc (.cells #[.bool false, .slice none 0 0, .slice none 0 0] 25)) x0 x1 y0 y1)
  clear x0 x1 y0 y1
  generalize (if y = 0 then (7 : Int) else 0) = ee at *
  generalize Rat.divInt x y = q at *
  go_enter Tryd.func13, Tryd.ntmps13
  go_wp2_with fail
  refine Calls.mono HR.out ?_
  generalize (w.alloc (.cells #[.bool false, .slice none 0 0, .slice none 0 0] 25)) = X at *
  rintro e w1 ⟨n, v, xs, u, ys, code, rfl, o1, o2, t, hb1, hcut⟩
  obtain ⟨a1, c1, hv⟩ := own_slice' o1
  subst hv
  obtain ⟨a2, c2, hv⟩ := own_slice' o2
  subst hv
  have hb4 := bt hb1 (alloc_later w1 (.cells #[.bool n, .slice a1 xs.length c1, .slice a2 ys.length c2] 25))
  obtain ⟨r0, r1, r2, f0, f1, f2⟩ := res_box3 HZ.out hb4
  have HE := hid (And.intro (owns_later o1 (alloc_later w1 (.cells #[.bool n, .slice a1 xs.length c1, .slice a2 ys.length c2] 25))) (And.intro (owns_later o2 (alloc_later w1 (.cells #[.bool n, .slice a1 xs.length c1, .slice a2 ys.length c2] 25))) t))
  have HW := hid (bt HB.out hb4)
  have hne : w1.heap.size ≠ w.heap.size := by have := hb1.size; have := HLT.out; omega
  clear o1 o2 t hcut hb1 hb4 HR
  go_wp2_with fail
  refine bodyPost_ret (v := .agg #[.bool n, .slice a1 xs.length c1, .slice a2 ys.length c2]) (by simp [results, Tryd.results13, go_sem, r0, r1, r2]) rfl ?_
  exact RVal6.put HE.out w.heap.size HLT.out (Nat.le_refl _) HW.out _ _ _

set_option maxHeartbeats 800000 in
set_option maxRecDepth 100000 in
theorem real64_no (a b : Nat) (w : World) (hno : ∀ m, m < 18446744073709551616 → ((FloatKind.f64.format.order m a == some .gt) && (FloatKind.f64.format.order m b == some .lt)) = false) :
    Calls Tryd.prog 11 #[.float .f64 a, .float .f64 b] w fun e w' => e = .returned (.bool false) ∧ Below w.heap.size w w' := by
  have rA := fadd_run Tryd.prog 27
  have rM := fmul_run Tryd.prog 27
  obtain ⟨p, hp⟩ : ∃ p, fval .mul w a 4602678819172646912 = p := ⟨_, rfl⟩
  obtain ⟨W1, hW1⟩ : ∃ W1, fwld .mul w a 4602678819172646912 = W1 := ⟨_, rfl⟩
  obtain ⟨q, hq⟩ : ∃ q, fval .mul W1 b 4602678819172646912 = q := ⟨_, rfl⟩
  obtain ⟨W2, hW2⟩ : ∃ W2, fwld .mul W1 b 4602678819172646912 = W2 := ⟨_, rfl⟩
  obtain ⟨m, hm⟩ : ∃ m, fval .add W2 p q = m := ⟨_, rfl⟩
  obtain ⟨W3, hW3⟩ : ∃ W3, fwld .add W2 p q = W3 := ⟨_, rfl⟩
  have HB : Hid (Below w.heap.size w W3) := by
    show Below _ _ _
    rw [← hW3, ← hW2, ← hW1]
    repeat refine fwld_below _ _ _ ?_
    exact Below.refl _ _
  have hlt : m < 18446744073709551616 := by rw [← hm]; exact (fval_fn .add W2 p q).1
  have h := hno m hlt
  clear hno hlt
  cases h1 : (FloatKind.f64.format.order m a == some .gt)
  · go_enter Tryd.func11, Tryd.ntmps11
    go_wp2
    go_ret
    exact ⟨rfl, HB.out⟩
  · have h2 : (FloatKind.f64.format.order m b == some .lt) = false := by rw [h1, Bool.true_and] at h; exact h
    clear h
    go_enter Tryd.func11, Tryd.ntmps11
    go_wp2
    go_ret
    exact ⟨rfl, HB.out⟩

theorem ext_same {x : Nat} {n m : Bool} {xs ys us vs : List Int} (wx : Wd xs) (wy : Wd ys) (wu : Wd us) (wv : Wd vs) (h : ExT x n xs ys) (g : ExT x m us vs) : n = m ∧ xs = us ∧ ys = vs := by
  have t1 := rtells_self wx wy h.1
  have t2 := rtells_self wu wv g.1
  rw [h.2.2] at t1
  rw [g.2.2] at t2
  obtain ⟨a, b, c, _⟩ := t1.same t2
  exact ⟨a, b, c⟩
theorem rcmp_self {n : Bool} {xs ys : List Int} (h : rchk n xs ys = 0) : rcmp n xs ys n xs ys = 0 ∧ rboth n xs ys n xs ys = 0 := by
  have hb := rboth_good h h
  unfold rcmp
  rw [if_pos hb]
  exact ⟨cmpI_eq rfl, hb⟩

set_option maxHeartbeats 800000 in
set_option maxRecDepth 100000 in
theorem compare_self (x : Nat) (n : Bool) (a : Option Addr) (ca : Nat) (xs : List Int) (b : Option Addr) (cb : Nat) (ys : List Int) (w : World) (hx : Fi x) (hT : TabB w) (sx : Sl w (.slice a xs.length ca) xs) (sy : Sl w (.slice b ys.length cb) ys) (he : ExT x n xs ys) :
    Calls Tryd.prog 8 #[.float .f64 x, .agg #[.bool n, .slice a xs.length ca, .slice b ys.length cb]] w fun e w' => e = .returned (.tuple #[.int .i64 0, .int .i64 0]) ∧ Below w.heap.size w w' := by
  obtain ⟨X, hX⟩ : ∃ X, w.alloc (.cells #[.bool n, .slice a xs.length ca, .slice b ys.length cb] 25) = X := ⟨_, rfl⟩
  have b1 : Below w.heap.size w X := by rw [← hX]; exact alloc_later _ _
  have HBX : Hid (Box X w.heap.size 25 #[.bool n, .slice a xs.length ca, .slice b ys.length cb]) := by rw [← hX]; exact Box.made w _ _
  have HE := hid (exact_fin x X hx (hT.later b1))
  have HSX := hid (sx.later b1)
  have HSY := hid (sy.later b1)
  have HB1 := hid b1
  have HEX := hid he
  clear sx sy b1 he hT hx
  go_enter Tryd.func8, Tryd.ntmps8
  go_wp2_with fail
  clear hX
  refine Calls.mono HE.out ?_
  rintro e w2 ⟨n', a', ca', b', cb', xs', ys', rfl, o1, o2, wx, wy, he', b2⟩
  obtain ⟨rfl, rfl, rfl⟩ := ext_same wx wy HSX.out.wd HSY.out.wd he' HEX.out
  obtain ⟨Y, hY⟩ : ∃ Y, w2.alloc (.cells #[.bool n', .slice a' xs'.length ca', .slice b' ys'.length cb'] 25) = Y := ⟨_, rfl⟩
  have b3 : Below w2.heap.size w2 Y := by rw [← hY]; exact alloc_later _ _
  have hBY : Box Y w2.heap.size 25 #[.bool n', .slice a' xs'.length ca', .slice b' ys'.length cb'] := by rw [← hY]; exact Box.made w2 _ _
  have hBX := HBX.out.later (bt b2 b3) HBX.out.lt
  have HC := hid (rCompare_full n' a' ca' xs' b' cb' ys' n' a ca xs' b cb ys' Y (Sl.own (owns_later o1 b3) wx) (Sl.own (owns_later o2 b3) wy) ((HSX.out.later b2).later b3) ((HSY.out.later b2).later b3))
  rw [(rcmp_self HEX.out.1).1, (rcmp_self HEX.out.1).2] at HC
  have HBB := hid (bt HB1.out (bt b2 b3))
  have c0 : Y.cell? ⟨w2.heap.size, 0, none⟩ = some (.bool n') := hBY.cell 0
  have c1 : Y.cell? ⟨w2.heap.size, 1, none⟩ = some (.slice a' xs'.length ca') := hBY.cell 1
  have c2 : Y.cell? ⟨w2.heap.size, 2, none⟩ = some (.slice b' ys'.length cb') := hBY.cell 2
  have d0 : Y.cell? ⟨w.heap.size, 0, none⟩ = some (.bool n') := hBX.cell 0
  have d1 : Y.cell? ⟨w.heap.size, 1, none⟩ = some (.slice a xs'.length ca) := hBX.cell 1
  have d2 : Y.cell? ⟨w.heap.size, 2, none⟩ = some (.slice b ys'.length cb) := hBX.cell 2
  clear HE o1 o2 wx wy he' b2 b3 hBX hBY HSX HSY HB1
  go_wp2_with fail
  refine Calls.mono HC.out ?_
  rintro e w3 ⟨rfl, b4⟩
  have HB4 := hid (bt HBB.out b4)
  clear HC b4 c0 c1 c2 d0 d1 d2 hY
  go_wp2_with fail
  go_returns
  exact ⟨rfl, HB4.out⟩

end Go.Proofs.YtoigpodamciehaaDoor

/- real.Within of a float, the fraction that it is, and nothing for the bound. -/
namespace Go.Proofs.YtoigpodamciehaaDoor
open Go.RowKit
set_option linter.unusedVariables false

theorem fq_zero : fq 0 = 0 := by
  unfold fq
  have e : fcount 0 = 0 := by decide
  rw [e]
  simp [sg, Rat.zero_divInt]
theorem rat_less0 (q : Rat) : q - 0 = q := by grind
theorem rat_more0 (q : Rat) : q + 0 = q := by grind
/-- What is told of a fraction is the fraction that was told before. -/
theorem told_same {q : Rat} {n m : Bool} {xs ys us vs : List Int} {c : Int} (wx : Wd xs) (wy : Wd ys) (h : rchk n xs ys = 0) (hq : rq n xs ys = q) (g : RTells 0 q m us vs c) : m = n ∧ us = xs ∧ vs = ys ∧ c = 0 := by
  have t := rtells_self wx wy h
  rw [hq] at t
  exact g.same t
/-- Three cells of a box written: its own, another box, rows, what was there. -/
theorem put3_box {W : World} {b t : Nat} {u0 u1 u2 : Value} (h : Box W b t #[u0, u1, u2]) (v0 v1 v2 : Value) : Box (((W.setCell ⟨b, 0, none⟩ v0).setCell ⟨b, 1, none⟩ v1).setCell ⟨b, 2, none⟩ v2) b t #[v0, v1, v2] := ((h.set 0 v0).set 1 v1).set 2 v2
theorem put3_far {W : World} {b t b' : Nat} {vs : Array Value} (h : Box W b t vs) (hne : b ≠ b') (v0 v1 v2 : Value) : Box (((W.setCell ⟨b', 0, none⟩ v0).setCell ⟨b', 1, none⟩ v1).setCell ⟨b', 2, none⟩ v2) b t vs := ((h.other ⟨b', 0, none⟩ v0 hne).other ⟨b', 1, none⟩ v1 hne).other ⟨b', 2, none⟩ v2 hne
theorem put3_row {W : World} {base n b t : Nat} {v : Value} {xs : List Value} {vs : Array Value} (h : W.ownsRow base 63 1 v n xs) (hb : Box W b t vs) (hne : 63 ≠ t) (v0 v1 v2 : Value) : (((W.setCell ⟨b, 0, none⟩ v0).setCell ⟨b, 1, none⟩ v1).setCell ⟨b, 2, none⟩ v2).ownsRow base 63 1 v n xs := own_put3 h b (fun g hg => own_ne_box h hb hne g hg) v0 v1 v2

set_option maxHeartbeats 1600000 in
set_option maxRecDepth 100000 in
theorem ends_self (x : Nat) (w : World) (hx : Fi x) (hT : TabB w) (n : Bool) (xs ys : List Int) (wx : Wd xs) (wy : Wd ys) (he : ExT x n xs ys) :
    Calls Tryd.prog 22 #[.float .f64 x, .float .f64 0] w fun e w' => ∃ a ca b cb c cc d cd, e = .returned (.tuple #[.agg #[.bool n, .slice a xs.length ca, .slice b ys.length cb], .agg #[.bool n, .slice c xs.length cc, .slice d ys.length cd], .int .i64 0]) ∧ Sl w' (.slice a xs.length ca) xs ∧ Sl w' (.slice b ys.length cb) ys ∧ Sl w' (.slice c xs.length cc) xs ∧ Sl w' (.slice d ys.length cd) ys ∧ Below w.heap.size w w' := by
  obtain ⟨X, hX⟩ : ∃ X, (w.alloc (.cells #[.bool false, .slice none 0 0, .slice none 0 0] 25)).alloc (.cells #[.bool false, .slice none 0 0, .slice none 0 0] 25) = X := ⟨_, rfl⟩
  have b1 : Below w.heap.size w X := by rw [← hX]; exact bt (alloc_later _ _) (alloc_later _ _)
  have HP : Hid (Box X w.heap.size 25 #[.bool false, .slice none 0 0, .slice none 0 0]) := by rw [← hX]; exact (Box.made w _ _).later (alloc_later _ _) (Box.made w _ _).lt
  have HQ : Hid (Box X (w.heap.size + 1) 25 #[.bool false, .slice none 0 0, .slice none 0 0]) := by
    have h := Box.made (w.alloc (.cells #[.bool false, .slice none 0 0, .slice none 0 0] 25)) 25 #[.bool false, .slice none 0 0, .slice none 0 0]
    rw [show (w.alloc (.cells #[.bool false, .slice none 0 0, .slice none 0 0] 25)).heap.size = w.heap.size + 1 by simp, hX] at h
    exact h
  have HE := hid (exact_fin x X hx (hT.later b1))
  have HB1 := hid b1
  have HT1 := hid (hT.later b1)
  have HEX := hid he
  have HW := hid (And.intro wx wy)
  have H0 : Hid (Fi 0) := ⟨by decide, by decide⟩
  clear b1 he hT hx wx wy
  go_enter Tryd.func22, Tryd.ntmps22
  go_wp2_with fail
  clear hX
  refine Calls.mono HE.out ?_
  rintro e w2 ⟨n', a1, ca1, b1', cb1, xs', ys', rfl, o1, o2, wx', wy', he', b2⟩
  obtain ⟨rfl, rfl, rfl⟩ := ext_same wx' wy' HW.out.1 HW.out.2 he' HEX.out
  obtain ⟨Y, hY⟩ : ∃ Y, w2.alloc (.cells #[.bool n', .slice a1 xs'.length ca1, .slice b1' ys'.length cb1] 25) = Y := ⟨_, rfl⟩
  have b3 : Below w2.heap.size w2 Y := by rw [← hY]; exact alloc_later _ _
  have HBY : Hid (Box Y w2.heap.size 25 #[.bool n', .slice a1 xs'.length ca1, .slice b1' ys'.length cb1]) := by rw [← hY]; exact Box.made w2 _ _
  have HO1 := hid (owns_later o1 b3)
  have HO2 := hid (owns_later o2 b3)
  have HE0 := hid (exact_fin 0 Y H0.out (HT1.out.later (bt b2 b3)))
  have HBB := hid (bt b2 b3)
  have hsz : X.heap.size ≤ w2.heap.size := b2.size
  clear HE o1 o2 wx' wy' he' b2 b3
  go_wp2_with fail
  clear hY
  refine Calls.mono HE0.out ?_
  rintro e w4 ⟨m, a2, ca2, b2', cb2, us, vs, rfl, p1, p2, wu, wv, he0, b4⟩
  obtain ⟨Z, hZ⟩ : ∃ Z, w4.alloc (.cells #[.bool m, .slice a2 us.length ca2, .slice b2' vs.length cb2] 25) = Z := ⟨_, rfl⟩
  have b5 : Below w4.heap.size w4 Z := by rw [← hZ]; exact alloc_later _ _
  have hBZ : Box Z w4.heap.size 25 #[.bool m, .slice a2 us.length ca2, .slice b2' vs.length cb2] := by rw [← hZ]; exact Box.made w4 _ _
  have b45 := bt b4 b5
  have hBY := HBY.out.later b45 HBY.out.lt
  have s1 := Sl.own (owns_later HO1.out b45) HW.out.1
  have s2 := Sl.own (owns_later HO2.out b45) HW.out.2
  have s3 := Sl.own (owns_later p1 b5) wu
  have s4 := Sl.own (owns_later p2 b5) wv
  have hq : rq n' xs' ys' - rq m us vs = fq x := by rw [HEX.out.2.2, he0.2.2, fq_zero]; exact rat_less0 _
  have hq2 : rq n' xs' ys' + rq m us vs = fq x := by rw [HEX.out.2.2, he0.2.2, fq_zero]; exact rat_more0 _
  have HS := hid (rSub_ok n' a1 ca1 xs' b1' cb1 ys' m a2 ca2 us b2' cb2 vs Z s1 s2 s3 s4 HEX.out.1 he0.1)
  rw [hq] at HS
  have HA : Hid (∀ V, V.ownsRow X.heap.size 63 1 (.slice a1 xs'.length ca1) xs'.length (xs'.map (Value.int .u32)) → V.ownsRow X.heap.size 63 1 (.slice b1' ys'.length cb1) ys'.length (ys'.map (Value.int .u32)) → V.ownsRow Y.heap.size 63 1 (.slice a2 us.length ca2) us.length (us.map (Value.int .u32)) → V.ownsRow Y.heap.size 63 1 (.slice b2' vs.length cb2) vs.length (vs.map (Value.int .u32)) → Calls Tryd.prog 40 #[.agg #[.bool n', .slice a1 xs'.length ca1, .slice b1' ys'.length cb1], .agg #[.bool m, .slice a2 us.length ca2, .slice b2' vs.length cb2]] V (RToldA V 0 (fq x))) := fun V q1 q2 q3 q4 => by
    rw [← hq2]
    exact rAdd_ok n' a1 ca1 xs' b1' cb1 ys' m a2 ca2 us b2' cb2 vs V (Sl.own q1 HW.out.1) (Sl.own q2 HW.out.2) (Sl.own q3 wu) (Sl.own q4 wv) HEX.out.1 he0.1
  have HRW := hid (And.intro (owns_later HO1.out b45) (And.intro (owns_later HO2.out b45) (And.intro (owns_later p1 b5) (owns_later p2 b5))))
  have y0 : Z.cell? ⟨w2.heap.size, 0, none⟩ = some (.bool n') := hBY.cell 0
  have y1 : Z.cell? ⟨w2.heap.size, 1, none⟩ = some (.slice a1 xs'.length ca1) := hBY.cell 1
  have y2 : Z.cell? ⟨w2.heap.size, 2, none⟩ = some (.slice b1' ys'.length cb1) := hBY.cell 2
  have z0 : Z.cell? ⟨w4.heap.size, 0, none⟩ = some (.bool m) := hBZ.cell 0
  have z1 : Z.cell? ⟨w4.heap.size, 1, none⟩ = some (.slice a2 us.length ca2) := hBZ.cell 1
  have z2 : Z.cell? ⟨w4.heap.size, 2, none⟩ = some (.slice b2' vs.length cb2) := hBZ.cell 2
  have HXZ := hid (bt HBB.out b45)
  have HYZ := hid hBY
  have HZZ := hid hBZ
  have hs4 : w2.heap.size < w4.heap.size := Nat.lt_of_lt_of_le HBY.out.lt b4.size
  clear HE0 HBY HO1 HO2 p1 p2 wu wv he0 b4 b5 b45 hBY hBZ s1 s2 s3 s4 hq hq2 HBB
  go_wp2_with fail
  clear hZ
  refine Calls.mono HS.out ?_
  rintro e w5 ⟨k1, v1, xs1, u1, ys1, code1, rfl, r1, r2, t1, b6, _⟩
  obtain ⟨rfl, rfl, rfl, rfl⟩ := told_same HW.out.1 HW.out.2 HEX.out.1 HEX.out.2.2 t1
  obtain ⟨a3, c3, rfl⟩ := own_slice' r1
  obtain ⟨a4, c4, rfl⟩ := own_slice' r2
  have hP5 := HP.out.later (bt HXZ.out b6) HP.out.lt
  have hQ5 := HQ.out.later (bt HXZ.out b6) HQ.out.lt
  have hY5 := HYZ.out.later b6 HYZ.out.lt
  have hZ5 := HZZ.out.later b6 HZZ.out.lt
  obtain ⟨V5, hV5⟩ : ∃ V5, ((w5.setCell ⟨w.heap.size, 0, none⟩ (.bool k1)).setCell ⟨w.heap.size, 1, none⟩ (.slice a3 xs1.length c3)).setCell ⟨w.heap.size, 2, none⟩ (.slice a4 ys1.length c4) = V5 := ⟨_, rfl⟩
  have hsX : w.heap.size + 1 < X.heap.size := HQ.out.lt
  have hne1 : w.heap.size + 1 ≠ w.heap.size := by omega
  have P5 : Box V5 w.heap.size 25 #[.bool k1, .slice a3 xs1.length c3, .slice a4 ys1.length c4] := by rw [← hV5]; exact put3_box hP5 _ _ _
  have Q5 : Box V5 (w.heap.size + 1) 25 #[.bool false, .slice none 0 0, .slice none 0 0] := by rw [← hV5]; exact put3_far hQ5 hne1 _ _ _
  have Y5 : Box V5 w2.heap.size 25 #[.bool k1, .slice a1 xs1.length ca1, .slice b1' ys1.length cb1] := by rw [← hV5]; exact put3_far hY5 (by omega) _ _ _
  have Z5 : Box V5 w4.heap.size 25 #[.bool m, .slice a2 us.length ca2, .slice b2' vs.length cb2] := by rw [← hV5]; exact put3_far hZ5 (by omega) _ _ _
  have r1' : V5.ownsRow Z.heap.size 63 1 (.slice a3 xs1.length c3) xs1.length (xs1.map (Value.int .u32)) := by rw [← hV5]; exact put3_row r1 hP5 (by decide) _ _ _
  have r2' : V5.ownsRow Z.heap.size 63 1 (.slice a4 ys1.length c4) ys1.length (ys1.map (Value.int .u32)) := by rw [← hV5]; exact put3_row r2 hP5 (by decide) _ _ _
  have HA5 := hid (HA.out V5 (by rw [← hV5]; exact put3_row (owns_later HRW.out.1 b6) hP5 (by decide) _ _ _) (by rw [← hV5]; exact put3_row (owns_later HRW.out.2.1 b6) hP5 (by decide) _ _ _) (by rw [← hV5]; exact put3_row (owns_later HRW.out.2.2.1 b6) hP5 (by decide) _ _ _) (by rw [← hV5]; exact put3_row (owns_later HRW.out.2.2.2 b6) hP5 (by decide) _ _ _))
  have HB5 : Hid (Below w.heap.size w V5) := by rw [← hV5]; exact below_put3 (bt HB1.out (bt HXZ.out b6)) w.heap.size (Nat.le_refl _) _ _ _
  have f0 := hP5.free 0
  have f1 := hP5.free 1
  have f2 := hP5.free 2
  have g0 : w5.cell? ⟨w.heap.size, 0, none⟩ = some (.bool false) := hP5.cell 0
  have g1 : w5.cell? ⟨w.heap.size, 1, none⟩ = some (.slice none 0 0) := hP5.cell 1
  have g2 : w5.cell? ⟨w.heap.size, 2, none⟩ = some (.slice none 0 0) := hP5.cell 2
  have y0' : V5.cell? ⟨w2.heap.size, 0, none⟩ = some (.bool k1) := Y5.cell 0
  have y1' : V5.cell? ⟨w2.heap.size, 1, none⟩ = some (.slice a1 xs1.length ca1) := Y5.cell 1
  have y2' : V5.cell? ⟨w2.heap.size, 2, none⟩ = some (.slice b1' ys1.length cb1) := Y5.cell 2
  have z0' : V5.cell? ⟨w4.heap.size, 0, none⟩ = some (.bool m) := Z5.cell 0
  have z1' : V5.cell? ⟨w4.heap.size, 1, none⟩ = some (.slice a2 us.length ca2) := Z5.cell 1
  have z2' : V5.cell? ⟨w4.heap.size, 2, none⟩ = some (.slice b2' vs.length cb2) := Z5.cell 2
  have HPQ := hid (And.intro P5 (And.intro Q5 (And.intro r1' r2')))
  clear HS HA HRW hP5 hQ5 hY5 hZ5 P5 Q5 Y5 Z5 r1 r2 r1' r2' t1 b6 y0 y1 y2 z0 z1 z2 HP HQ HXZ HYZ HZZ hsz hs4
  go_wp2_with fail
  clear hV5 g0 g1 g2 f0 f1 f2
  refine Calls.mono HA5.out ?_
  rintro e w6 ⟨k2, v2, xs2, u2, ys2, code2, rfl, r3, r4, t2, b7, _⟩
  obtain ⟨rfl, rfl, rfl, rfl⟩ := told_same HW.out.1 HW.out.2 HEX.out.1 HEX.out.2.2 t2
  obtain ⟨a5, c5, rfl⟩ := own_slice' r3
  obtain ⟨a6, c6, rfl⟩ := own_slice' r4
  have hP6 := HPQ.out.1.later b7 HPQ.out.1.lt
  have hQ6 := HPQ.out.2.1.later b7 HPQ.out.2.1.lt
  obtain ⟨V6, hV6⟩ : ∃ V6, ((w6.setCell ⟨w.heap.size + 1, 0, none⟩ (.bool k2)).setCell ⟨w.heap.size + 1, 1, none⟩ (.slice a5 xs2.length c5)).setCell ⟨w.heap.size + 1, 2, none⟩ (.slice a6 ys2.length c6) = V6 := ⟨_, rfl⟩
  have P6 : Box V6 w.heap.size 25 #[.bool k2, .slice a3 xs2.length c3, .slice a4 ys2.length c4] := by rw [← hV6]; exact put3_far hP6 (by omega) _ _ _
  have Q6 : Box V6 (w.heap.size + 1) 25 #[.bool k2, .slice a5 xs2.length c5, .slice a6 ys2.length c6] := by rw [← hV6]; exact put3_box hQ6 _ _ _
  have HF : Hid (Sl V6 (.slice a3 xs2.length c3) xs2 ∧ Sl V6 (.slice a4 ys2.length c4) ys2 ∧ Sl V6 (.slice a5 xs2.length c5) xs2 ∧ Sl V6 (.slice a6 ys2.length c6) ys2) := by
    rw [← hV6]
    exact ⟨Sl.own (put3_row (owns_later HPQ.out.2.2.1 b7) hQ6 (by decide) _ _ _) HW.out.1, Sl.own (put3_row (owns_later HPQ.out.2.2.2 b7) hQ6 (by decide) _ _ _) HW.out.2, Sl.own (put3_row r3 hQ6 (by decide) _ _ _) HW.out.1, Sl.own (put3_row r4 hQ6 (by decide) _ _ _) HW.out.2⟩
  have HB6 : Hid (Below w.heap.size w V6) := by rw [← hV6]; exact below_put3 (bt HB5.out b7) (w.heap.size + 1) (by omega) _ _ _
  have f0 := hQ6.free 0
  have f1 := hQ6.free 1
  have f2 := hQ6.free 2
  have g0 : w6.cell? ⟨w.heap.size + 1, 0, none⟩ = some (.bool false) := hQ6.cell 0
  have g1 : w6.cell? ⟨w.heap.size + 1, 1, none⟩ = some (.slice none 0 0) := hQ6.cell 1
  have g2 : w6.cell? ⟨w.heap.size + 1, 2, none⟩ = some (.slice none 0 0) := hQ6.cell 2
  have p0 : V6.cell? ⟨w.heap.size, 0, none⟩ = some (.bool k2) := P6.cell 0
  have p1 : V6.cell? ⟨w.heap.size, 1, none⟩ = some (.slice a3 xs2.length c3) := P6.cell 1
  have p2 : V6.cell? ⟨w.heap.size, 2, none⟩ = some (.slice a4 ys2.length c4) := P6.cell 2
  have q0 : V6.cell? ⟨w.heap.size + 1, 0, none⟩ = some (.bool k2) := Q6.cell 0
  have q1 : V6.cell? ⟨w.heap.size + 1, 1, none⟩ = some (.slice a5 xs2.length c5) := Q6.cell 1
  have q2 : V6.cell? ⟨w.heap.size + 1, 2, none⟩ = some (.slice a6 ys2.length c6) := Q6.cell 2
  have j0 := P6.free 0
  have j1 := P6.free 1
  have j2 := P6.free 2
  have i0 := Q6.free 0
  have i1 := Q6.free 1
  have i2 := Q6.free 2
  have HPB := hid (And.intro P6 Q6)
  clear HA5 r3 r4 t2 b7 hP6 hQ6 P6 Q6 HPQ y0' y1' y2' z0' z1' z2'
  go_wp2_with fail
  clear hV6 g0 g1 g2 f0 f1 f2
  have D6 : Box V6.drew w.heap.size 25 #[.bool k2, .slice a3 xs2.length c3, .slice a4 ys2.length c4] := HPB.out.1
  have E6 : Box V6.drew (w.heap.size + 1) 25 #[.bool k2, .slice a5 xs2.length c5, .slice a6 ys2.length c6] := HPB.out.2
  have m0 : V6.drew.setCell ⟨w.heap.size, 0, none⟩ (.bool k2) = V6.drew := D6.same rfl
  have m1 : V6.drew.setCell ⟨w.heap.size, 1, none⟩ (.slice a3 xs2.length c3) = V6.drew := D6.same rfl
  have m2 : V6.drew.setCell ⟨w.heap.size, 2, none⟩ (.slice a4 ys2.length c4) = V6.drew := D6.same rfl
  have m3 : V6.drew.setCell ⟨w.heap.size + 1, 0, none⟩ (.bool k2) = V6.drew := E6.same rfl
  have m4 : V6.drew.setCell ⟨w.heap.size + 1, 1, none⟩ (.slice a5 xs2.length c5) = V6.drew := E6.same rfl
  have m5 : V6.drew.setCell ⟨w.heap.size + 1, 2, none⟩ (.slice a6 ys2.length c6) = V6.drew := E6.same rfl
  go_region
  all_goals
    go_wp2_with fail
    refine bodyPost_ret (v := .tuple #[.agg #[.bool k2, .slice a3 xs2.length c3, .slice a4 ys2.length c4], .agg #[.bool k2, .slice a5 xs2.length c5, .slice a6 ys2.length c6], .int .i64 0]) (by simp [results, Tryd.results22, go_sem, p0, p1, p2, q0, q1, q2]) rfl ?_
    have hbd := Below.drew (Below.refl V6.heap.size V6)
    exact ⟨a3, c3, a4, c4, a5, c5, a6, c6, rfl, HF.out.1.later hbd, HF.out.2.1.later hbd, HF.out.2.2.1.later hbd, HF.out.2.2.2.later hbd, bt HB6.out hbd⟩

set_option maxHeartbeats 1600000 in
set_option maxRecDepth 100000 in
theorem within_self (x : Nat) (n : Bool) (a : Option Addr) (ca : Nat) (xs : List Int) (b : Option Addr) (cb : Nat) (ys : List Int) (w : World) (hx : Fi x) (hT : TabB w) (sx : Sl w (.slice a xs.length ca) xs) (sy : Sl w (.slice b ys.length cb) ys) (he : ExT x n xs ys) :
    Calls Tryd.prog 9 #[.float .f64 x, .agg #[.bool n, .slice a xs.length ca, .slice b ys.length cb], .float .f64 0] w fun e w' => e = .returned (.tuple #[.bool true, .int .i64 0]) ∧ Below w.heap.size w w' := by
  obtain ⟨X, hX⟩ : ∃ X, w.alloc (.cells #[.bool n, .slice a xs.length ca, .slice b ys.length cb] 25) = X := ⟨_, rfl⟩
  have b1 : Below w.heap.size w X := by rw [← hX]; exact alloc_later _ _
  have HBX : Hid (Box X w.heap.size 25 #[.bool n, .slice a xs.length ca, .slice b ys.length cb]) := by rw [← hX]; exact Box.made w _ _
  have HE := hid (ends_self x X hx (hT.later b1) n xs ys sx.wd sy.wd he)
  have HSX := hid (sx.later b1)
  have HSY := hid (sy.later b1)
  have HB1 := hid b1
  have HEX := hid he
  clear sx sy b1 he hT hx
  go_enter Tryd.func9, Tryd.ntmps9
  go_wp2_with fail
  clear hX
  refine Calls.mono HE.out ?_
  rintro e w2 ⟨a1, c1, a2, c2, a3, c3, a4, c4, rfl, s1, s2, s3, s4, b2⟩
  obtain ⟨Y, hY⟩ : ∃ Y, (w2.alloc (.cells #[.bool n, .slice a1 xs.length c1, .slice a2 ys.length c2] 25)).alloc (.cells #[.bool n, .slice a3 xs.length c3, .slice a4 ys.length c4] 25) = Y := ⟨_, rfl⟩
  have b3 : Below w2.heap.size w2 Y := by rw [← hY]; exact bt (alloc_later _ _) (alloc_later _ _)
  have hP : Box Y w2.heap.size 25 #[.bool n, .slice a1 xs.length c1, .slice a2 ys.length c2] := by rw [← hY]; exact (Box.made w2 _ _).later (alloc_later _ _) (Box.made w2 _ _).lt
  have hQ : Box Y (w2.heap.size + 1) 25 #[.bool n, .slice a3 xs.length c3, .slice a4 ys.length c4] := by
    have h := Box.made (w2.alloc (.cells #[.bool n, .slice a1 xs.length c1, .slice a2 ys.length c2] 25)) 25 #[.bool n, .slice a3 xs.length c3, .slice a4 ys.length c4]
    rw [show (w2.alloc (.cells #[.bool n, .slice a1 xs.length c1, .slice a2 ys.length c2] 25)).heap.size = w2.heap.size + 1 by simp, hY] at h
    exact h
  have hBX := HBX.out.later (bt b2 b3) HBX.out.lt
  have HC1 := hid (rCompare_full n a1 c1 xs a2 c2 ys n a ca xs b cb ys Y (s1.later b3) (s2.later b3) ((HSX.out.later b2).later b3) ((HSY.out.later b2).later b3))
  rw [(rcmp_self HEX.out.1).1, (rcmp_self HEX.out.1).2] at HC1
  have HC2 : Hid (∀ V, Below Y.heap.size Y V → Calls Tryd.prog 12 #[.agg #[.bool n, .slice a xs.length ca, .slice b ys.length cb], .agg #[.bool n, .slice a3 xs.length c3, .slice a4 ys.length c4]] V fun e w' => e = .returned (.tuple #[.int .i64 0, .int .i64 0]) ∧ Below V.heap.size V w') := fun V hv => by
    have h := rCompare_full n a ca xs b cb ys n a3 c3 xs a4 c4 ys V ((HSX.out.later b2).later (bt b3 hv)) ((HSY.out.later b2).later (bt b3 hv)) (s3.later (bt b3 hv)) (s4.later (bt b3 hv))
    rw [(rcmp_self HEX.out.1).1, (rcmp_self HEX.out.1).2] at h
    exact h
  have HBB := hid (bt HB1.out (bt b2 b3))
  have p0 : Y.cell? ⟨w2.heap.size, 0, none⟩ = some (.bool n) := hP.cell 0
  have p1 : Y.cell? ⟨w2.heap.size, 1, none⟩ = some (.slice a1 xs.length c1) := hP.cell 1
  have p2 : Y.cell? ⟨w2.heap.size, 2, none⟩ = some (.slice a2 ys.length c2) := hP.cell 2
  have d0 : Y.cell? ⟨w.heap.size, 0, none⟩ = some (.bool n) := hBX.cell 0
  have d1 : Y.cell? ⟨w.heap.size, 1, none⟩ = some (.slice a xs.length ca) := hBX.cell 1
  have d2 : Y.cell? ⟨w.heap.size, 2, none⟩ = some (.slice b ys.length cb) := hBX.cell 2
  have HBQ := hid (And.intro hBX hQ)
  clear HE s1 s2 s3 s4 b2 b3 hBX hP hQ HSX HSY HB1
  go_wp2_with fail
  clear hY
  refine Calls.mono HC1.out ?_
  rintro e w3 ⟨rfl, b4⟩
  have hx3 := HBQ.out.1.later b4 HBQ.out.1.lt
  have hq3 := HBQ.out.2.later b4 HBQ.out.2.lt
  have HC3 := hid (HC2.out w3 b4)
  have HB4 := hid (bt HBB.out b4)
  have d0' : w3.cell? ⟨w.heap.size, 0, none⟩ = some (.bool n) := hx3.cell 0
  have d1' : w3.cell? ⟨w.heap.size, 1, none⟩ = some (.slice a xs.length ca) := hx3.cell 1
  have d2' : w3.cell? ⟨w.heap.size, 2, none⟩ = some (.slice b ys.length cb) := hx3.cell 2
  have q0' : w3.cell? ⟨w2.heap.size + 1, 0, none⟩ = some (.bool n) := hq3.cell 0
  have q1' : w3.cell? ⟨w2.heap.size + 1, 1, none⟩ = some (.slice a3 xs.length c3) := hq3.cell 1
  have q2' : w3.cell? ⟨w2.heap.size + 1, 2, none⟩ = some (.slice a4 ys.length c4) := hq3.cell 2
  clear HC1 HC2 b4 p0 p1 p2 d0 d1 d2 hx3 hq3
  go_wp2_with fail
  refine Calls.mono HC3.out ?_
  rintro e w5 ⟨rfl, b5⟩
  have HB5 := hid (bt HB4.out b5)
  clear HC3 b5 d0' d1' d2' q0' q1' q2'
  go_wp2_with fail
  go_returns
  exact ⟨rfl, HB5.out⟩

end Go.Proofs.YtoigpodamciehaaDoor

/- The laws' awake: what the document's examples say. -/
namespace Go.Proofs.YtoigpodamciehaaDoor
open Go.RowKit
set_option linter.unusedVariables false

theorem wd1 (k : Int) (h : 0 ≤ k ∧ k ≤ 4294967295) : Wd [k] := Wd.one h
theorem third_chk : rchk false [1] [3] = 0 := by decide
theorem half_chk : rchk false [1] [2] = 0 := by decide
theorem third_q : rq false [1] [3] = Rat.divInt 1 3 := by
  show Rat.divInt (wval false [1]) (val [3]) = _
  rw [show wval false [1] = 1 by decide, show val [3] = 3 by decide]
theorem half_q : rq false [1] [2] = Rat.divInt 1 2 := by
  show Rat.divInt (wval false [1]) (val [2]) = _
  rw [show wval false [1] = 1 by decide, show val [2] = 2 by decide]
theorem half_fq : fq 4602678819172646912 = Rat.divInt 1 2 := by
  have h : RTells 0 (fq 4602678819172646912) false [1] [2] 0 := frac_good (by decide) (wd1 1 (by omega)) (show sz _ = _ by decide) (wd1 2 (by omega)) (show sz _ = _ by decide) (by decide +kernel) (by decide +kernel)
  rw [← half_q, ← (rtells_ok h).2]
theorem third_known {n : Bool} {xs ys : List Int} {c : Int} (h : RTells 0 (Rat.divInt 1 3) n xs ys c) : n = false ∧ xs = [1] ∧ ys = [3] := by
  obtain ⟨a, b, d, _⟩ := told_same (wd1 1 (by omega)) (wd1 3 (by omega)) third_chk third_q h
  exact ⟨a, b, d⟩
theorem half_known {n : Bool} {xs ys : List Int} {c : Int} (h : RTells 0 (Rat.divInt 1 2) n xs ys c) : n = false ∧ xs = [1] ∧ ys = [2] := by
  obtain ⟨a, b, d, _⟩ := told_same (wd1 1 (by omega)) (wd1 2 (by omega)) half_chk half_q h
  exact ⟨a, b, d⟩
theorem third_mid : Mid (1 * 2 ^ zP) 3 4599676419421066581 := ⟨by decide, fun _ => by decide +kernel, fun _ => by decide +kernel, fun _ => by decide +kernel, fun _ => by decide +kernel⟩
theorem third_near {x : Nat} {c : Int} (h : NrT false [1] [3] x c) : x = 4599676419421066581 ∧ c = 0 := by
  rcases h with ⟨h0, _⟩ | ⟨_, X, Y, s, hX, hY, hp, hm, h⟩
  · exact absurd third_chk h0
  · have eX : X = 1 := by have : val [1] = 1 := by decide
                          omega
    have eY : Y = 3 := by have : val [3] = 3 := by decide
                          omega
    subst eX; subst eY
    have := hm.unique hp third_mid
    subst this
    rcases h with ⟨h, _⟩ | ⟨_, hc, hx⟩
    · exact absurd h (by decide)
    · exact ⟨by rw [hx]; rfl, hc⟩
theorem one_next : nxt 4607182418800017408 = (4607182418800017409, 0) := by decide +kernel
theorem one_two : tsum 4607182418800017408 4336966441157787648 = (4607182418800017408, 4336966441157787648, 0) := by decide +kernel

set_option maxHeartbeats 1600000 in
set_option maxRecDepth 100000 in
theorem awake6_any (w : World) (hT : TabB w) :
    Calls Tryd.prog 4 #[] w fun e w' => e = .returned (.bool true) ∧ Below w.heap.size w w' := by
  have HE := hid (exact_fin 4602678819172646912 w ⟨by decide, by decide⟩ hT)
  clear hT
  go_enter Tryd.func4, Tryd.ntmps4
  go_wp2_with fail
  refine Calls.mono HE.out ?_
  rintro e w1 ⟨n, a, ca, b, cb, xs, ys, rfl, o1, o2, wx, wy, he, b1⟩
  obtain ⟨rfl, rfl, rfl⟩ := ext_same wx wy (wd1 1 (by omega)) (wd1 2 (by omega)) he ⟨half_chk, by decide +kernel, by rw [half_fq]; exact half_q⟩
  have l1 : ([1] : List Int).length = 1 := rfl
  have l2 : ([2] : List Int).length = 1 := rfl
  rw [l1] at o1 ⊢
  rw [l2] at o2 ⊢
  obtain ⟨X, hX⟩ : ∃ X, w1.alloc (.cells #[.bool false, .slice a 1 ca, .slice b 1 cb] 25) = X := ⟨_, rfl⟩
  have b2 : Below w1.heap.size w1 X := by rw [← hX]; exact alloc_later _ _
  have HBX : Hid (Box X w1.heap.size 25 #[.bool false, .slice a 1 ca, .slice b 1 cb]) := by rw [← hX]; exact Box.made w1 _ _
  have HS := hid (small6_any 1 3 X (by omega) (by omega) (by omega) (by omega))
  rw [if_neg (by decide)] at HS
  have HR := hid (And.intro (owns_later o1 b2) (owns_later o2 b2))
  have HB := hid (bt b1 b2)
  clear HE o1 o2 wx wy he b1 b2
  go_wp2_with fail
  clear hX
  refine Calls.mono HS.out ?_
  rintro e w2 ⟨n3, v3, xs3, u3, ys3, c3, rfl, p1, p2, t3, b3⟩
  obtain ⟨rfl, rfl, rfl⟩ := third_known t3
  have HN := hid (nearest_any false v3 [1] u3 [3] w2 (Sl.own p1 (wd1 1 (by omega))) (Sl.own p2 (wd1 3 (by omega))))
  have HB3 := hid b3
  clear HS p1 p2 t3 b3
  go_wp2_with fail
  refine Calls.mono HN.out ?_
  rintro e w3 ⟨x, code, rfl, hnt, b4⟩
  obtain ⟨rfl, rfl⟩ := third_near hnt
  have HX := hid (next_any 4607182418800017408 w3 (by decide))
  rw [one_next] at HX
  have HB4 := hid (bt HB3.out b4)
  clear HN hnt b4 HB3
  go_wp2_with fail
  refine Calls.mono HX.out ?_
  rintro e w4 ⟨rfl, b5⟩
  have HW := hid (TwoSum_any 4607182418800017408 4336966441157787648 w4 (by decide) (by decide))
  rw [one_two, show tsumV (4607182418800017408, 4336966441157787648, 0) = .tuple #[.float .f64 4607182418800017408, .float .f64 4336966441157787648, .int .i64 0] from rfl] at HW
  have HB5 := hid (bt HB4.out b5)
  clear HX b5 HB4
  go_wp2_with fail
  refine Calls.mono HW.out ?_
  rintro e w5 ⟨rfl, b6⟩
  have HB6 := hid (bt HB5.out b6)
  have HX5 := hid (HBX.out.later HB6.out HBX.out.lt)
  have HR5 := hid (And.intro (owns_later HR.out.1 HB6.out) (owns_later HR.out.2 HB6.out))
  have HBW := hid (bt HB.out HB6.out)
  have HK : Hid (∀ V, Below w5.heap.size w5 V → V.cell? ⟨w1.heap.size, 0, none⟩ = some (.bool false) ∧ V.cell? ⟨w1.heap.size, 1, none⟩ = some (.slice a 1 ca) ∧ V.cell? ⟨w1.heap.size, 2, none⟩ = some (.slice b 1 cb)) := fun V hv => by
    have h := HX5.out.later hv HX5.out.lt
    exact ⟨h.cell 0, h.cell 1, h.cell 2⟩
  have HD := hid (Below.drew (Below.refl w5.heap.size w5))
  have hs0 := HK.out _ HD.out
  have HS2 : Hid (∀ V, Below w5.heap.size w5 V → Calls Tryd.prog 13 #[.int .i64 1, .int .i64 2] V fun e w' => ∃ a' c' b' d', e = .returned (.agg #[.bool false, .slice a' 1 c', .slice b' 1 d']) ∧ (w'.cell? ⟨w1.heap.size, 0, none⟩ = some (.bool false) ∧ w'.cell? ⟨w1.heap.size, 1, none⟩ = some (.slice a 1 ca) ∧ w'.cell? ⟨w1.heap.size, 2, none⟩ = some (.slice b 1 cb)) ∧ Hid (Sl w' (.slice a' 1 c') [1] ∧ Sl w' (.slice b' 1 d') [2]) ∧ Hid (Below w5.heap.size w5 w')) := fun V hv => by
    have h := small6_any 1 2 V (by omega) (by omega) (by omega) (by omega)
    rw [if_neg (by decide)] at h
    refine Calls.mono h ?_
    rintro e w' ⟨n, v, xs, u, ys, c, rfl, q1, q2, t, hb⟩
    obtain ⟨rfl, rfl, rfl⟩ := half_known t
    obtain ⟨a', c', rfl⟩ := own_slice' q1
    obtain ⟨b', d', rfl⟩ := own_slice' q2
    exact ⟨a', c', b', d', rfl, HK.out w' (bt hv hb), ⟨Sl.own q1 (wd1 1 (by omega)), Sl.own q2 (wd1 2 (by omega))⟩, bt hv hb⟩
  have HSM : Hid (∀ V a' c' b' d', Below w5.heap.size w5 V → Sl V (.slice a' 1 c') [1] → Sl V (.slice b' 1 d') [2] → Calls Tryd.prog 15 #[.agg #[.bool false, .slice a 1 ca, .slice b 1 cb], .agg #[.bool false, .slice a' 1 c', .slice b' 1 d']] V fun e w' => e = .returned (.bool true) ∧ (w'.cell? ⟨w1.heap.size, 0, none⟩ = some (.bool false) ∧ w'.cell? ⟨w1.heap.size, 1, none⟩ = some (.slice a 1 ca) ∧ w'.cell? ⟨w1.heap.size, 2, none⟩ = some (.slice b 1 cb)) ∧ Hid (Below w5.heap.size w5 w')) := fun V a' c' b' d' hv s1 s2 => by
    have h := rSame_any false a ca [1] b cb [2] false a' c' [1] b' d' [2] V (Sl.own (owns_later HR5.out.1 hv) (wd1 1 (by omega))) (Sl.own (owns_later HR5.out.2 hv) (wd1 2 (by omega))) s1 s2 (by decide) (by decide) (by decide) (by decide)
    rw [decide_eq_true ⟨rfl, rfl, rfl⟩] at h
    refine Calls.mono h ?_
    rintro e w' ⟨rfl, hb⟩
    exact ⟨rfl, HK.out w' (bt hv hb), bt hv hb⟩
  have q1 : (FloatKind.f64.format.order 4607182418800017409 4607182418800017409 == some .eq) = true := by decide +kernel
  have q2 : (FloatKind.f64.format.order 4607182418800017408 4607182418800017408 == some .eq) = true := by decide +kernel
  have q3 : (FloatKind.f64.format.order 4336966441157787648 4336966441157787648 == some .eq) = true := by decide +kernel
  have HBT := fun V => bits_run 4599676419421066581 V
  have hc : ((4599676419421066581 : Nat) : Int) = 4599676419421066581 := rfl
  rw [hc] at HBT
  clear HW b6 HB5 HBX HR HB HX5 HR5 hc
  go_wp2_with fail
  go_region_held3 (fun V : World => V.cell? ⟨w1.heap.size, 0, none⟩ = some (.bool false) ∧ V.cell? ⟨w1.heap.size, 1, none⟩ = some (.slice a 1 ca) ∧ V.cell? ⟨w1.heap.size, 2, none⟩ = some (.slice b 1 cb)) (first | exact hsB | exact hsA | exact hs0)
    (first
      | (go_at_call 13; (with_reducible refine Calls.mono (HS2.out _ HD.out) ?_); rintro e w6 ⟨a', c', b', d', rfl, hsA, HSA, HBA⟩)
      | (go_at_call 15; (with_reducible refine Calls.mono (HSM.out _ a' c' b' d' HBA.out HSA.out.1 HSA.out.2) ?_); rintro e w7 ⟨rfl, hsB, HBB⟩))
  all_goals
    go_wp2_with fail
    go_ret
    exact ⟨rfl, bt HBW.out HBB.out⟩

end Go.Proofs.YtoigpodamciehaaDoor

/- The table of places, from what the card lays. -/
namespace Go.Proofs.YtoigpodamciehaaDoor
open Go.RowKit
set_option linter.unusedVariables false

theorem tabB_of {W : World} {cs : List Value} (hv : W.var? Tryd.prog "math/bits.deBruijn64tab" = some cs.toArray) (e1 : Tryd.prog.globalNamed "math/bits.deBruijn64tab" = some 1) (hcs : cs = (Lib.deBruijn64tab.map fun (n : Nat) => (n : Int)).map fun z => Value.int .u8 z) : TabB W := fun j hj => by
  unfold World.var? at hv
  rw [e1] at hv
  simp only [Option.bind_some] at hv
  unfold World.cell?
  cases hh : W.heap[(1 : Nat)]? with
  | none => rw [hh] at hv; cases hv
  | some o =>
    rw [hh] at hv
    cases o with
    | cells c t m =>
      simp only [Option.some.injEq] at hv
      subst hv
      rw [hcs]
      have hl : j < Lib.deBruijn64tab.length := hj
      simp [List.getElem?_eq_getElem hl, List.getD_eq_getElem?_getD]
    | _ => simp at hv

end Go.Proofs.YtoigpodamciehaaDoor

/- RealBack: Nearest of Exact is the float; between a float and the next one there is none; the order of fractions is kept. -/
namespace Go.Proofs.YtoigpodamciehaaDoor
open Go.RowKit
set_option linter.unusedVariables false

theorem nr_of_ext {x : Nat} {n : Bool} {xs ys : List Int} {y : Nat} {c : Int} (hx : Fi x) (h : ExT x n xs ys) (g : NrT n xs ys y c) : c = 0 ∧ Fi y ∧ sv y = sv x := by
  have hc : c = 0 := by
    rcases g with ⟨h0, _⟩ | ⟨_, X, Y, s, hX, hY, hp, hm, h1⟩
    · exact absurd h.1 h0
    · rcases h1 with ⟨hs, _, _⟩ | ⟨_, hc, _⟩
      · exfalso
        have e := h.2.1
        rw [wval_sg, hX, hY] at e
        have e1 : (sg n (X : Int) * 2 ^ zP).natAbs = X * 2 ^ zP := by
          rw [Int.natAbs_mul]
          have a1 : (sg n (X : Int)).natAbs = X := by cases n <;> simp [sg]
          rw [a1, nabs_two zP]
        have e2 : (sv x * (Y : Int)).natAbs = rungVal (x % 9223372036854775808) * Y := by
          rw [Int.natAbs_mul, sv_abs]; rfl
        have e3 : X * 2 ^ zP = rungVal (x % 9223372036854775808) * Y := by rw [← e1, e, e2]
        rw [e3] at hm
        have e4 := hm.unique hp (mid_exact hp hx.2)
        have := hx.2
        omega
      · exact hc
  exact ⟨hc, nr_exact g hc hx h.2.1⟩
theorem nxt_code {x : Nat} (h : fin x = true) : (nxt x).2 = 0 ∨ (nxt x).2 = 9 := by
  unfold nxt
  rw [if_pos h]
  split
  · exact .inr rfl
  · split <;> exact .inl rfl
theorem cmpI_cases (a b : Int) : (cmpI a b = -1 ∧ a < b) ∨ (cmpI a b = 0 ∧ a = b) ∨ (cmpI a b = 1 ∧ b < a) := by
  rcases Int.lt_trichotomy a b with h | h | h
  · exact .inl ⟨cmpI_lt h, h⟩
  · exact .inr (.inl ⟨cmpI_eq h, h⟩)
  · exact .inr (.inr ⟨cmpI_gt h, h⟩)

set_option maxHeartbeats 3200000 in
set_option maxRecDepth 100000 in
theorem realBack_any (x : Nat) (hx : x < 18446744073709551616) (n : Bool) (a : Option Addr) (ca : Nat) (xs : List Int) (b : Option Addr) (cb : Nat) (ys : List Int) (m : Bool) (c : Option Addr) (cc : Nat) (us : List Int) (d : Option Addr) (cd : Nat) (vs : List Int) (w : World) (sx : Sl w (.slice a xs.length ca) xs) (sy : Sl w (.slice b ys.length cb) ys) (su : Sl w (.slice c us.length cc) us) (sw : Sl w (.slice d vs.length cd) vs) (hT : TabB w) :
    Calls Tryd.prog 3 #[.int .u64 (x : Int), .agg #[.bool n, .slice a xs.length ca, .slice b ys.length cb], .agg #[.bool m, .slice c us.length cc, .slice d vs.length cd]] w fun e w' => e = .returned (.bool true) ∧ Below w.heap.size w w' := by
  obtain ⟨X, hX⟩ : ∃ X, (w.alloc (.cells #[.bool n, .slice a xs.length ca, .slice b ys.length cb] 25)).alloc (.cells #[.bool m, .slice c us.length cc, .slice d vs.length cd] 25) = X := ⟨_, rfl⟩
  have b1 : Below w.heap.size w X := by rw [← hX]; exact bt (alloc_later _ _) (alloc_later _ _)
  have HP : Hid (Box X w.heap.size 25 #[.bool n, .slice a xs.length ca, .slice b ys.length cb]) := by rw [← hX]; exact (Box.made w _ _).later (alloc_later _ _) (Box.made w _ _).lt
  have HQ : Hid (Box X (w.heap.size + 1) 25 #[.bool m, .slice c us.length cc, .slice d vs.length cd]) := by
    have h := Box.made (w.alloc (.cells #[.bool n, .slice a xs.length ca, .slice b ys.length cb] 25)) 25 #[.bool m, .slice c us.length cc, .slice d vs.length cd]
    rw [show (w.alloc (.cells #[.bool n, .slice a xs.length ca, .slice b ys.length cb] 25)).heap.size = w.heap.size + 1 by simp, hX] at h
    exact h
  have HAW := hid (awake6_any X (hT.later b1))
  have HFR := fun V => from_run x V
  have HB1 := hid b1
  have HT1 := hid (hT.later b1)
  have HSL := hid (And.intro (sx.later b1) (And.intro (sy.later b1) (And.intro (su.later b1) (sw.later b1))))
  have HCMP : Hid (∀ V, Below X.heap.size X V → Calls Tryd.prog 12 #[.agg #[.bool n, .slice a xs.length ca, .slice b ys.length cb], .agg #[.bool m, .slice c us.length cc, .slice d vs.length cd]] V fun e w' => e = .returned (.tuple #[.int .i64 (rcmp n xs ys m us vs), .int .i64 (rboth n xs ys m us vs)]) ∧ Below V.heap.size V w') := fun V hv => rCompare_full n a ca xs b cb ys m c cc us d cd vs V (HSL.out.1.later hv) (HSL.out.2.1.later hv) (HSL.out.2.2.1.later hv) (HSL.out.2.2.2.later hv)
  have HNA : Hid (∀ V, Below X.heap.size X V → Calls Tryd.prog 7 #[.agg #[.bool n, .slice a xs.length ca, .slice b ys.length cb]] V fun e w' => ∃ x code, e = .returned (.tuple #[.float .f64 x, .int .i64 code]) ∧ Hid (NrT n xs ys x code) ∧ Below V.heap.size V w') := fun V hv => nearest_any n _ xs _ ys V (HSL.out.1.later hv) (HSL.out.2.1.later hv)
  have HNB : Hid (∀ V, Below X.heap.size X V → Calls Tryd.prog 7 #[.agg #[.bool m, .slice c us.length cc, .slice d vs.length cd]] V fun e w' => ∃ x code, e = .returned (.tuple #[.float .f64 x, .int .i64 code]) ∧ Hid (NrT m us vs x code) ∧ Below V.heap.size V w') := fun V hv => nearest_any m _ us _ vs V (HSL.out.2.2.1.later hv) (HSL.out.2.2.2.later hv)
  have HCL : Hid (∀ V, Below X.heap.size X V → V.cell? ⟨w.heap.size, 0, none⟩ = some (.bool n) ∧ V.cell? ⟨w.heap.size, 1, none⟩ = some (.slice a xs.length ca) ∧ V.cell? ⟨w.heap.size, 2, none⟩ = some (.slice b ys.length cb) ∧ V.cell? ⟨w.heap.size + 1, 0, none⟩ = some (.bool m) ∧ V.cell? ⟨w.heap.size + 1, 1, none⟩ = some (.slice c us.length cc) ∧ V.cell? ⟨w.heap.size + 1, 2, none⟩ = some (.slice d vs.length cd)) := fun V hv => by
    have h := HP.out.later hv HP.out.lt
    have g := HQ.out.later hv HQ.out.lt
    exact ⟨h.cell 0, h.cell 1, h.cell 2, g.cell 0, g.cell 1, g.cell 2⟩
  obtain ⟨C, hC⟩ : ∃ C, rcmp n xs ys m us vs = C := ⟨_, rfl⟩
  obtain ⟨E, hE⟩ : ∃ E, rboth n xs ys m us vs = E := ⟨_, rfl⟩
  have HCV : Hid (E = 0 → (C = -1 ∧ wval n xs * val vs ≤ wval m us * val ys) ∨ (C = 0 ∧ wval n xs * val vs = wval m us * val ys) ∨ (C = 1 ∧ wval m us * val ys ≤ wval n xs * val vs)) := fun h0 => by
    have e := hC
    unfold rcmp at e
    rw [if_pos (hE.trans h0)] at e
    rcases cmpI_cases (wval n xs * val vs) (wval m us * val ys) with ⟨h, g⟩ | ⟨h, g⟩ | ⟨h, g⟩
    · exact .inl ⟨e.symm.trans h, Int.le_of_lt g⟩
    · exact .inr (.inl ⟨e.symm.trans h, g⟩)
    · exact .inr (.inr ⟨e.symm.trans h, Int.le_of_lt g⟩)
  rw [hC, hE] at HCMP
  clear sx sy su sw b1 hT HSL hC hE HP HQ
  by_cases hf : fin x = true
  · have hfi := (fi_fin hx).1 hf
    have HFI := hid hfi
    have HND := hid (fun V => next_any x V hx)
    obtain ⟨Y, hY⟩ : ∃ Y, (nxt x).1 = Y := ⟨_, rfl⟩
    obtain ⟨K, hK⟩ : ∃ K, (nxt x).2 = K := ⟨_, rfl⟩
    rw [hY, hK] at HND
    have HNX : Hid (K = 0 → Fi Y ∧ sv x < sv Y ∧ ∀ c, Fi c → ¬ (sv x < sv c ∧ sv c < sv Y)) := fun h0 => nxt_next hfi (by rw [← hY, ← h0, ← hK])
    clear hfi hf hx hY hK
    go_enter Tryd.func3, Tryd.ntmps3
    go_wp2_with fail
    clear hX
    refine Calls.mono HAW.out ?_
    rintro e w1 ⟨rfl, b1⟩
    have HE := hid (exact_fin x w1 HFI.out (HT1.out.later b1))
    have HB2 := hid b1
    clear HAW b1
    go_wp2_with fail
    refine Calls.mono HE.out ?_
    rintro e w2 ⟨n0, a0, c0, b0, d0, zs, ds, rfl, o1, o2, wz, wd, he, b2⟩
    obtain ⟨Z, hZ⟩ : ∃ Z, w2.alloc (.cells #[.bool n0, .slice a0 zs.length c0, .slice b0 ds.length d0] 25) = Z := ⟨_, rfl⟩
    have b3 : Below w2.heap.size w2 Z := by rw [← hZ]; exact alloc_later _ _
    have HZ : Hid (Box Z w2.heap.size 25 #[.bool n0, .slice a0 zs.length c0, .slice b0 ds.length d0]) := by rw [← hZ]; exact Box.made w2 _ _
    have HR := hid (And.intro (owns_later o1 b3) (owns_later o2 b3))
    have HXZ := hid (bt HB2.out (bt b2 b3))
    have HWD := hid (And.intro wz wd)
    have HEX := hid he
    have HTZ := hid (HT1.out.later HXZ.out)
    have HN := hid (nearest_any n0 _ zs _ ds Z (Sl.own HR.out.1 wz) (Sl.own HR.out.2 wd))
    have z0 : Z.cell? ⟨w2.heap.size, 0, none⟩ = some (.bool n0) := HZ.out.cell 0
    have z1 : Z.cell? ⟨w2.heap.size, 1, none⟩ = some (.slice a0 zs.length c0) := HZ.out.cell 1
    have z2 : Z.cell? ⟨w2.heap.size, 2, none⟩ = some (.slice b0 ds.length d0) := HZ.out.cell 2
    clear HE o1 o2 wz wd he b2 b3 HB2
    go_wp2_with fail
    clear hZ
    refine Calls.mono HN.out ?_
    rintro e w3 ⟨bk, g, rfl, hnt, b4⟩
    obtain ⟨rfl, hbf, hbs⟩ := nr_of_ext HFI.out HEX.out hnt
    have q0 : (FloatKind.f64.format.order bk x == some .eq) = true := by rw [ord_eq hbf HFI.out]; exact decide_eq_true hbs
    have q0' : (FloatKind.f64.format.order bk x != some .eq) = false := by unfold bne; rw [q0]; rfl
    have HZ3 := hid (HZ.out.later b4 HZ.out.lt)
    have HCS := hid (compare_self x n0 a0 c0 zs b0 d0 ds w3 HFI.out (HTZ.out.later b4) (Sl.own (owns_later HR.out.1 b4) HWD.out.1) (Sl.own (owns_later HR.out.2 b4) HWD.out.2) HEX.out)
    have y0 : w3.cell? ⟨w2.heap.size, 0, none⟩ = some (.bool n0) := HZ3.out.cell 0
    have y1 : w3.cell? ⟨w2.heap.size, 1, none⟩ = some (.slice a0 zs.length c0) := HZ3.out.cell 1
    have y2 : w3.cell? ⟨w2.heap.size, 2, none⟩ = some (.slice b0 ds.length d0) := HZ3.out.cell 2
    have HB3 := hid b4
    clear HN hnt b4 z0 z1 z2 hbf hbs
    go_wp2_with fail
    refine Calls.mono HCS.out ?_
    rintro e w4 ⟨rfl, b5⟩
    have HB4 := hid (bt HB3.out b5)
    have HZ4 := hid (HZ3.out.later b5 HZ3.out.lt)
    have HWS := hid (within_self x n0 a0 c0 zs b0 d0 ds w4 HFI.out (HTZ.out.later HB4.out) (Sl.own (owns_later HR.out.1 HB4.out) HWD.out.1) (Sl.own (owns_later HR.out.2 HB4.out) HWD.out.2) HEX.out)
    have y0' : w4.cell? ⟨w2.heap.size, 0, none⟩ = some (.bool n0) := HZ4.out.cell 0
    have y1' : w4.cell? ⟨w2.heap.size, 1, none⟩ = some (.slice a0 zs.length c0) := HZ4.out.cell 1
    have y2' : w4.cell? ⟨w2.heap.size, 2, none⟩ = some (.slice b0 ds.length d0) := HZ4.out.cell 2
    clear HCS b5 y0 y1 y2 HB3 HZ3
    go_wp2_with fail
    refine Calls.mono HWS.out ?_
    rintro e w5 ⟨rfl, b6⟩
    have HX5 := hid (bt HXZ.out (bt HB4.out b6))
    have HN5 := hid (HND.out w5)
    clear HWS b6 y0' y1' y2' HZ4 HB4 HZ HR HXZ HWD HEX HTZ HND
    go_wp2_with fail
    refine Calls.mono HN5.out ?_
    rintro e w6 ⟨rfl, b7⟩
    have HX6 := hid (bt HX5.out b7)
    clear HN5 b7 HX5
    by_cases hk : K = 0
    · obtain ⟨hYf, hlt, hno⟩ := HNX.out hk
      have q1 : (FloatKind.f64.format.order Y x == some .lt) = false := by rw [ord_lt hYf HFI.out]; exact decide_eq_false (by omega)
      have q2 : (FloatKind.f64.format.order Y x == some .eq) = false := by rw [ord_eq hYf HFI.out]; exact decide_eq_false (by omega)
      have H64 := hid (real64_no x Y w6 (fun m hm => ord_between HFI.out hYf hm hno))
      subst hk
      clear HNX hYf hlt hno
      go_wp2_with fail
      refine Calls.mono H64.out ?_
      rintro e w7 ⟨rfl, b8⟩
      have HX7 := hid (bt HX6.out b8)
      clear H64 b8 HX6 q1 q2
      obtain ⟨e0, e1, e2, e3, e4, e5⟩ := HCL.out _ HX7.out
      have HC1 := hid (HCMP.out _ HX7.out)
      go_wp2_with fail
      refine Calls.mono HC1.out ?_
      rintro e wA ⟨rfl, bA⟩
      have HXA := hid (bt HX7.out bA)
      have HN1 := hid (HNA.out _ HXA.out)
      clear HC1 HCMP HNA bA e0 e1 e2 e3 e4 e5 HX7
      obtain ⟨e0, e1, e2, e3, e4, e5⟩ := HCL.out _ HXA.out
      go_wp2_with fail
      refine Calls.mono HN1.out ?_
      rintro e wB ⟨p, h, rfl, HNP, bB⟩
      have HXB := hid (bt HXA.out bB)
      have HN2 := hid (HNB.out _ HXB.out)
      clear HN1 HNB bB e0 e1 e2 e3 e4 e5 HXA
      obtain ⟨e0, e1, e2, e3, e4, e5⟩ := HCL.out _ HXB.out
      go_wp2_with fail
      refine Calls.mono HN2.out ?_
      rintro e wC ⟨q, k, rfl, HNQ, bC⟩
      have HBC := hid (bt HB1.out (bt HXB.out bC))
      clear HN2 bC e0 e1 e2 e3 e4 e5 HXB HCL
      by_cases hE : E = 0
      · by_cases hh : h = 0
        · by_cases hkk : k = 0
          · rcases HCV.out hE with ⟨hC, hle⟩ | ⟨hC, hle⟩ | ⟨hC, hle⟩
            · obtain ⟨f1, f2, f3⟩ := nr_mono HNP.out hh HNQ.out hkk hle
              have j1 : (FloatKind.f64.format.order p q == some .gt) = false := by rw [ord_gt f1 f2]; exact decide_eq_false (by omega)
              subst hE; subst hh; subst hkk; subst hC
              clear HCV HNP HNQ hle f1 f2 f3
              go_wp2_with fail
              go_ret
              exact ⟨rfl, HBC.out⟩
            · obtain ⟨f1, f2, f3⟩ := nr_mono HNP.out hh HNQ.out hkk (Int.le_of_eq hle)
              obtain ⟨_, _, f4⟩ := nr_mono HNQ.out hkk HNP.out hh (Int.le_of_eq hle.symm)
              have j1 : (FloatKind.f64.format.order p q == some .gt) = false := by rw [ord_gt f1 f2]; exact decide_eq_false (by omega)
              have j2 : (FloatKind.f64.format.order p q == some .lt) = false := by rw [ord_lt f1 f2]; exact decide_eq_false (by omega)
              subst hE; subst hh; subst hkk; subst hC
              clear HCV HNP HNQ hle f1 f2 f3 f4
              go_wp2_with fail
              go_ret
              exact ⟨rfl, HBC.out⟩
            · obtain ⟨f1, f2, f3⟩ := nr_mono HNQ.out hkk HNP.out hh hle
              have j2 : (FloatKind.f64.format.order p q == some .lt) = false := by rw [ord_lt f2 f1]; exact decide_eq_false (by omega)
              subst hE; subst hh; subst hkk; subst hC
              clear HCV HNP HNQ hle f1 f2 f3
              go_wp2_with fail
              go_ret
              exact ⟨rfl, HBC.out⟩
          · have hkk' : (k == 0) = false := by simp [hkk]
            subst hE; subst hh
            clear HCV HNP HNQ hkk
            go_wp2_with fail
            go_ret
            exact ⟨rfl, HBC.out⟩
        · have hh' : (h == 0) = false := by simp [hh]
          subst hE
          clear HCV HNP HNQ hh
          go_wp2_with fail
          go_ret
          exact ⟨rfl, HBC.out⟩
      · have hE' : (E == 0) = false := by simp [hE]
        clear HCV HNP HNQ hE
        go_wp2_with fail
        go_ret
        exact ⟨rfl, HBC.out⟩
    · have hk' : (K == 0) = false := by simp [hk]
      clear HNX hk
      obtain ⟨e0, e1, e2, e3, e4, e5⟩ := HCL.out _ HX6.out
      have HC1 := hid (HCMP.out _ HX6.out)
      go_wp2_with fail
      refine Calls.mono HC1.out ?_
      rintro e wA ⟨rfl, bA⟩
      have HXA := hid (bt HX6.out bA)
      have HN1 := hid (HNA.out _ HXA.out)
      clear HC1 HCMP HNA bA e0 e1 e2 e3 e4 e5 HX6
      obtain ⟨e0, e1, e2, e3, e4, e5⟩ := HCL.out _ HXA.out
      go_wp2_with fail
      refine Calls.mono HN1.out ?_
      rintro e wB ⟨p, h, rfl, HNP, bB⟩
      have HXB := hid (bt HXA.out bB)
      have HN2 := hid (HNB.out _ HXB.out)
      clear HN1 HNB bB e0 e1 e2 e3 e4 e5 HXA
      obtain ⟨e0, e1, e2, e3, e4, e5⟩ := HCL.out _ HXB.out
      go_wp2_with fail
      refine Calls.mono HN2.out ?_
      rintro e wC ⟨q, k, rfl, HNQ, bC⟩
      have HBC := hid (bt HB1.out (bt HXB.out bC))
      clear HN2 bC e0 e1 e2 e3 e4 e5 HXB HCL
      by_cases hE : E = 0
      · by_cases hh : h = 0
        · by_cases hkk : k = 0
          · rcases HCV.out hE with ⟨hC, hle⟩ | ⟨hC, hle⟩ | ⟨hC, hle⟩
            · obtain ⟨f1, f2, f3⟩ := nr_mono HNP.out hh HNQ.out hkk hle
              have j1 : (FloatKind.f64.format.order p q == some .gt) = false := by rw [ord_gt f1 f2]; exact decide_eq_false (by omega)
              subst hE; subst hh; subst hkk; subst hC
              clear HCV HNP HNQ hle f1 f2 f3
              go_wp2_with fail
              go_ret
              exact ⟨rfl, HBC.out⟩
            · obtain ⟨f1, f2, f3⟩ := nr_mono HNP.out hh HNQ.out hkk (Int.le_of_eq hle)
              obtain ⟨_, _, f4⟩ := nr_mono HNQ.out hkk HNP.out hh (Int.le_of_eq hle.symm)
              have j1 : (FloatKind.f64.format.order p q == some .gt) = false := by rw [ord_gt f1 f2]; exact decide_eq_false (by omega)
              have j2 : (FloatKind.f64.format.order p q == some .lt) = false := by rw [ord_lt f1 f2]; exact decide_eq_false (by omega)
              subst hE; subst hh; subst hkk; subst hC
              clear HCV HNP HNQ hle f1 f2 f3 f4
              go_wp2_with fail
              go_ret
              exact ⟨rfl, HBC.out⟩
            · obtain ⟨f1, f2, f3⟩ := nr_mono HNQ.out hkk HNP.out hh hle
              have j2 : (FloatKind.f64.format.order p q == some .lt) = false := by rw [ord_lt f2 f1]; exact decide_eq_false (by omega)
              subst hE; subst hh; subst hkk; subst hC
              clear HCV HNP HNQ hle f1 f2 f3
              go_wp2_with fail
              go_ret
              exact ⟨rfl, HBC.out⟩
          · have hkk' : (k == 0) = false := by simp [hkk]
            subst hE; subst hh
            clear HCV HNP HNQ hkk
            go_wp2_with fail
            go_ret
            exact ⟨rfl, HBC.out⟩
        · have hh' : (h == 0) = false := by simp [hh]
          subst hE
          clear HCV HNP HNQ hh
          go_wp2_with fail
          go_ret
          exact ⟨rfl, HBC.out⟩
      · have hE' : (E == 0) = false := by simp [hE]
        clear HCV HNP HNQ hE
        go_wp2_with fail
        go_ret
        exact ⟨rfl, HBC.out⟩
  · obtain hf' : fin x = false := by cases h : fin x <;> simp_all
    have HXB := hid (fun V => exact_bad x V hx hf')
    clear hf hf' hx
    go_enter Tryd.func3, Tryd.ntmps3
    go_wp2_with fail
    clear hX
    refine Calls.mono HAW.out ?_
    rintro e w1 ⟨rfl, b1⟩
    have HE := hid (HXB.out w1)
    have HB2 := hid b1
    clear HAW b1 HXB
    go_wp2_with fail
    refine Calls.mono HE.out ?_
    rintro e w2 ⟨rfl, b2⟩
    obtain ⟨Z, hZ⟩ : ∃ Z, w2.alloc (.cells #[.bool false, .slice none 0 0, .slice none 0 0] 25) = Z := ⟨_, rfl⟩
    have b3 : Below w2.heap.size w2 Z := by rw [← hZ]; exact alloc_later _ _
    have hZb : Box Z w2.heap.size 25 #[.bool false, .slice none 0 0, .slice none 0 0] := by rw [← hZ]; exact Box.made w2 _ _
    have z0 : Z.cell? ⟨w2.heap.size, 0, none⟩ = some (.bool false) := hZb.cell 0
    have z1 : Z.cell? ⟨w2.heap.size, 1, none⟩ = some (.slice none 0 0) := hZb.cell 1
    have z2 : Z.cell? ⟨w2.heap.size, 2, none⟩ = some (.slice none 0 0) := hZb.cell 2
    have i0 := hZb.free 0
    have i1 := hZb.free 1
    have i2 := hZb.free 2
    have m0 : Z.setCell ⟨w2.heap.size, 0, none⟩ (.bool false) = Z := hZb.same rfl
    have m1 : Z.setCell ⟨w2.heap.size, 1, none⟩ (.slice none 0 0) = Z := hZb.same rfl
    have m2 : Z.setCell ⟨w2.heap.size, 2, none⟩ (.slice none 0 0) = Z := hZb.same rfl
    have HX7 := hid (bt HB2.out (bt b2 b3))
    clear HE b2 b3 HB2 hZb
    obtain ⟨e0, e1, e2, e3, e4, e5⟩ := HCL.out _ HX7.out
    have HC1 := hid (HCMP.out _ HX7.out)
    go_wp2_with fail
    refine Calls.mono HC1.out ?_
    rintro e wA ⟨rfl, bA⟩
    have HXA := hid (bt HX7.out bA)
    have HN1 := hid (HNA.out _ HXA.out)
    clear HC1 HCMP HNA bA e0 e1 e2 e3 e4 e5 HX7
    obtain ⟨e0, e1, e2, e3, e4, e5⟩ := HCL.out _ HXA.out
    go_wp2_with fail
    refine Calls.mono HN1.out ?_
    rintro e wB ⟨p, h, rfl, HNP, bB⟩
    have HXB := hid (bt HXA.out bB)
    have HN2 := hid (HNB.out _ HXB.out)
    clear HN1 HNB bB e0 e1 e2 e3 e4 e5 HXA
    obtain ⟨e0, e1, e2, e3, e4, e5⟩ := HCL.out _ HXB.out
    go_wp2_with fail
    refine Calls.mono HN2.out ?_
    rintro e wC ⟨q, k, rfl, HNQ, bC⟩
    have HBC := hid (bt HB1.out (bt HXB.out bC))
    clear HN2 bC e0 e1 e2 e3 e4 e5 HXB HCL
    by_cases hE : E = 0
    · by_cases hh : h = 0
      · by_cases hkk : k = 0
        · rcases HCV.out hE with ⟨hC, hle⟩ | ⟨hC, hle⟩ | ⟨hC, hle⟩
          · obtain ⟨f1, f2, f3⟩ := nr_mono HNP.out hh HNQ.out hkk hle
            have j1 : (FloatKind.f64.format.order p q == some .gt) = false := by rw [ord_gt f1 f2]; exact decide_eq_false (by omega)
            subst hE; subst hh; subst hkk; subst hC
            clear HCV HNP HNQ hle f1 f2 f3
            go_wp2_with fail
            go_ret
            exact ⟨rfl, HBC.out⟩
          · obtain ⟨f1, f2, f3⟩ := nr_mono HNP.out hh HNQ.out hkk (Int.le_of_eq hle)
            obtain ⟨_, _, f4⟩ := nr_mono HNQ.out hkk HNP.out hh (Int.le_of_eq hle.symm)
            have j1 : (FloatKind.f64.format.order p q == some .gt) = false := by rw [ord_gt f1 f2]; exact decide_eq_false (by omega)
            have j2 : (FloatKind.f64.format.order p q == some .lt) = false := by rw [ord_lt f1 f2]; exact decide_eq_false (by omega)
            subst hE; subst hh; subst hkk; subst hC
            clear HCV HNP HNQ hle f1 f2 f3 f4
            go_wp2_with fail
            go_ret
            exact ⟨rfl, HBC.out⟩
          · obtain ⟨f1, f2, f3⟩ := nr_mono HNQ.out hkk HNP.out hh hle
            have j2 : (FloatKind.f64.format.order p q == some .lt) = false := by rw [ord_lt f2 f1]; exact decide_eq_false (by omega)
            subst hE; subst hh; subst hkk; subst hC
            clear HCV HNP HNQ hle f1 f2 f3
            go_wp2_with fail
            go_ret
            exact ⟨rfl, HBC.out⟩
        · have hkk' : (k == 0) = false := by simp [hkk]
          subst hE; subst hh
          clear HCV HNP HNQ hkk
          go_wp2_with fail
          go_ret
          exact ⟨rfl, HBC.out⟩
      · have hh' : (h == 0) = false := by simp [hh]
        subst hE
        clear HCV HNP HNQ hh
        go_wp2_with fail
        go_ret
        exact ⟨rfl, HBC.out⟩
    · have hE' : (E == 0) = false := by simp [hE]
      clear HCV HNP HNQ hE
      go_wp2_with fail
      go_ret
      exact ⟨rfl, HBC.out⟩

theorem sl_of {w : World} {a : Option Addr} {c : Nat} {xs : List Int} (h : Reads w w.heap.size a xs.length c xs) : Sl w (.slice a xs.length c) xs := ⟨a, c, rfl, h⟩
theorem realBack_in (X : Int) (h0 : 0 ≤ X) (h1 : X ≤ 18446744073709551615) (n : Bool) (a : Option Addr) (ka ca : Nat) (xs : List Int) (b : Option Addr) (kb cb : Nat) (ys : List Int) (m : Bool) (c : Option Addr) (kc cc : Nat) (us : List Int) (d : Option Addr) (kd cd : Nat) (vs : List Int) (w : World) (ha : Reads w w.heap.size a ka ca xs) (hb : Reads w w.heap.size b kb cb ys) (hc : Reads w w.heap.size c kc cc us) (hd : Reads w w.heap.size d kd cd vs) (hT : TabB w) :
    Calls Tryd.prog 3 #[.int .u64 X, .agg #[.bool n, .slice a ka ca, .slice b kb cb], .agg #[.bool m, .slice c kc cc, .slice d kd cd]] w fun e w' => e = .returned (.bool true) ∧ Below w.heap.size w w' := by
  obtain ⟨x, rfl⟩ := Int.eq_ofNat_of_zero_le h0
  have ea := ha.1
  subst ea
  have eb := hb.1
  subst eb
  have ec := hc.1
  subst ec
  have ed := hd.1
  subst ed
  exact realBack_any x (by omega) n a ca xs b cb ys m c cc us d cd vs w (sl_of ha) (sl_of hb) (sl_of hc) (sl_of hd) hT

end Go.Proofs.YtoigpodamciehaaDoor

