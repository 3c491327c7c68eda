/- My texts on the way to RealNearest, one behind the other: contracts of the program and of the document's answers. -/
import Derived.Test.YtoigpodamciehaaGreatDoorJ1
import Derived.Test.YtoigpodamciehaaGreatDoorJ2
import Derived.Test.YtoigpodamciehaaGreatDoorJ3
import Derived.Deep.Cut
import Derived.Deep.RegionHeld3
import Derived.Lib.LaidTab
/- Fractions: ratio.add: sums of fractions that may be; what is told is new memory, Num and Den apart. -/
namespace Go.Proofs.YtoigpodamciehaaGreatDoor
open Go.RowKit
set_option linter.unusedVariables false

theorem bel_al {a w : World} (h : Below a.heap.size a w) (o : Obj) : Below a.heap.size a (w.alloc o) := h.alloc h.size o
theorem bel_undrew {w V : World} (hb : Below w.drew.heap.size w.drew V) : Below w.heap.size w V := bt (Below.drew (Below.refl _ w)) hb
theorem bel_unal {w V : World} {o : Obj} (hb : Below (w.alloc o).heap.size (w.alloc o) V) : Below w.heap.size w V := bt (alloc_later _ _) hb
theorem zbw {w V : World} (hb : Below (w.alloc (.cells #[.bool false, .slice none 0 0] 79)).heap.size (w.alloc (.cells #[.bool false, .slice none 0 0] 79)) V) : Box V w.heap.size 79 #[.bool false, .slice none 0 0] := (Box.made w 79 _).later hb (by simp)
theorem new_ne' {w : World} {g t : Nat} {vs : Array Value} (h : Box w g t vs) : g < w.heap.size ∧ ¬ w.heap.size = g := by
  have := h.lt
  omega
theorem nes3 {p q : Nat} (h : p + 1 + 1 < q) : ¬ p = q ∧ ¬ q = p ∧ ¬ p + 1 = q ∧ ¬ q = p + 1 := by omega
/-- A whole number in a box, behind what was there. -/
def Num (X U F : World) (p : Nat) (k : Bool) (a : Option Addr) (c : Nat) (z : List Int) (T : Int) : Prop := Box F p 79 #[.bool k, .slice a z.length c] ∧ One X F (.slice a z.length c) z T ∧ Below U.heap.size U F
theorem num_old {X U W : World} {p : Nat} {k : Bool} {a : Option Addr} {c : Nat} {z : List Int} {T : Int} (o : One X W (.slice a z.length c) z T) (hb : Below U.heap.size U W) (h : Box W p 79 #[.bool false, .slice none 0 0]) (lp : U.heap.size ≤ p) : Num X U ((W.setCell ⟨p, 0, none⟩ (.bool k)).setCell ⟨p, 1, none⟩ (.slice a z.length c)) p k a c z T :=
  ⟨h.put2 _ _, ⟨own_put2 o.1 p (own_ne_box o.1 h (by decide)) _ _, o.2⟩, below_put2 hb p lp _ _⟩
theorem num_new {X U W : World} {k : Bool} {a : Option Addr} {c : Nat} {z : List Int} {T : Int} (o : One X W (.slice a z.length c) z T) (hb : Below U.heap.size U W) : Num X U (W.alloc (.cells #[.bool k, .slice a z.length c] 79)) W.heap.size k a c z T :=
  ⟨Box.made W _ _, o.later (alloc_later _ _), bt hb (alloc_later _ _)⟩

theorem lies_low {v : Value} {lo lo' hi : Nat} (h : Lies v lo hi) (hl : lo' ≤ lo) : Lies v lo' hi := fun g hg => ⟨Nat.le_trans hl (h g hg).1, (h g hg).2⟩
theorem sum_4097 {k n m : Bool} {T p1 p2 : Int} (h : sg k T = sg n p1 + sg m p2) (h0 : 0 ≤ T) (q0 : 0 ≤ p1) (q1 : p1 < 4294967296 ^ 4096) (r0 : 0 ≤ p2) (r1 : p2 < 4294967296 ^ 4096) : T < 4294967296 ^ 4097 := by
  have e : (4294967296 : Int) ^ 4097 = 4294967296 ^ 4096 * 4294967296 := Int.pow_succ _ 4096
  rw [e]
  generalize (4294967296 : Int) ^ 4096 = Y at *
  cases k <;> cases n <;> cases m <;> simp [sg] at h <;> omega
theorem at7 {X w7 ww : World} {f : Nat} {args : Array Value} {t : Int} {S : World → Prop} (hS : ∀ V, Below w7.heap.size w7 V → S V) (hw : Below w7.heap.size w7 ww) (C : Calls Tryz.prog f args ww (fun e w' => ∃ a2 zs c2, e = .returned (.slice a2 (List.length zs) c2) ∧ Hid (One X w' (.slice a2 (List.length zs) c2) zs t ∧ Lies (.slice a2 (List.length zs) c2) ww.heap.size w'.heap.size) ∧ True ∧ Below X.heap.size X w' ∧ Hid (Below ww.heap.size ww w'))) :
    Calls Tryz.prog f args ww fun e w' => ∃ a2 zs c2, e = .returned (.slice a2 (List.length zs) c2) ∧ Hid (One X w' (.slice a2 (List.length zs) c2) zs t ∧ Lies (.slice a2 (List.length zs) c2) ww.heap.size w'.heap.size ∧ True ∧ Below w7.heap.size w7 w') ∧ S w' ∧ Hid (Below ww.heap.size ww w') :=
  Calls.mono C fun e w' ⟨a2, zs, c2, h1, h2, _, _, h5⟩ => ⟨a2, zs, c2, h1, ⟨h2.out.1, h2.out.2, trivial, bt hw h5.out⟩, hS w' (bt hw h5.out), h5⟩
theorem rtold_cut2 {U ww : World} {n : Bool} {a : Option Addr} {ca : Nat} {zs : List Int} {b : Option Addr} {cb : Nat} {ds : List Int} {s t : Int} {q : Rat} (hb : Below U.heap.size U ww) (h1 : One U ww (.slice a zs.length ca) zs s) (h2 : One U ww (.slice b ds.length cb) ds t) (hc : Cut U (.slice a zs.length ca) (.slice b ds.length cb) ww) (hd : 0 < t) (hg : gcdI s t = 1) (hq : Rat.divInt (sg n s) t = q) :
    Calls Tryz.prog 43 #[.bool n, .slice a zs.length ca, .slice b ds.length cb] ww fun e w' => ∃ k a8 z8 c8 a9 z9 c9 code, e = .returned (.tuple #[.agg #[.bool k, .slice a8 (List.length z8) c8, .slice a9 (List.length z9) c9], .int .i64 code]) ∧ Hid (w'.ownsRow U.heap.size 63 1 (.slice a8 (List.length z8) c8) z8.length (z8.map (Value.int .u32)) ∧ w'.ownsRow U.heap.size 63 1 (.slice a9 (List.length z9) c9) z9.length (z9.map (Value.int .u32)) ∧ RTells 0 q k z8 z9 code ∧ Cut U (.slice a8 (List.length z8) c8) (.slice a9 (List.length z9) c9) w') ∧ Below U.heap.size U w' ∧ Hid (Below ww.heap.size ww w') := by
  obtain ⟨o1, w1, t1, v1⟩ := h1
  obtain ⟨o2, w2, t2, v2⟩ := h2
  obtain ⟨k, us, vs, c, e1, e2, e3, r⟩ := rtells_of (n := n) w1 t1 w2 t2 (by rw [v2]; exact hd) (by rw [v1, v2]; exact hg)
  rw [v1, v2, hq] at r
  refine Calls.mono (rtold_any n a zs.length ca b ds.length cb ww) fun e w' h => ?_
  obtain ⟨rfl, hb2⟩ := h
  rw [e1]
  by_cases z : c = 0
  · rw [if_pos z] at e2 e3
    subst e2; subst e3
    refine ⟨k, a, us, ca, b, vs, cb, c, by rw [if_pos z, if_pos z], ⟨owns_later o1 hb2, owns_later o2 hb2, r, hc.up (Nat.le_refl _) hb2.size⟩, bt hb hb2, hb2⟩
  · rw [if_neg z] at e2 e3
    subst e2; subst e3
    exact ⟨k, none, [], 0, none, [], 0, c, by rw [if_neg z, if_neg z]; rfl, ⟨World.ownsRow_nil _ _ _ _, World.ownsRow_nil _ _ _ _, r, ⟨U.heap.size, Nat.le_refl _, (bt hb hb2).size, fun g hg => by simp [Value.ownBlock] at hg, fun g hg => by simp [Value.ownBlock] at hg⟩⟩, bt hb hb2, hb2⟩

set_option maxHeartbeats 6400000 in
set_option maxRecDepth 100000 in
theorem radd_any (n : Bool) (a : Option Addr) (ca : Nat) (xs : List Int) (b : Option Addr) (cb : Nat) (ys : List Int) (m : Bool) (c : Option Addr) (cc : Nat) (us : List Int) (d : Option Addr) (cd : Nat) (vs : List Int) (w : World)
    (sx : Sl w (.slice a xs.length ca) xs) (sy : Sl w (.slice b ys.length cb) ys) (su : Sl w (.slice c us.length cc) us) (sv : Sl w (.slice d vs.length cd) vs) (lx : xs.length ≤ 2048) (ly : ys.length ≤ 2048) (lu : us.length ≤ 2048) (lv : vs.length ≤ 2048) (tx : Trimmed xs) (ty : Trimmed ys) (tu : Trimmed us) (tv : Trimmed vs) (hy : 0 < val ys) (hv : 0 < val vs) (h1 : gcdI (val xs) (val ys) = 1) (h2 : gcdI (val us) (val vs) = 1) :
    Calls Tryz.prog 28 #[.agg #[.bool n, .slice a xs.length ca, .slice b ys.length cb], .agg #[.bool m, .slice c us.length cc, .slice d vs.length cd]] w (RToldA w 0 (rq n xs ys + rq m us vs)) := by
  have wx := sx.wd
  have wy := sy.wd
  have wu := su.wd
  have wv := sv.wd
  have HB : Hid (Below w.heap.size w (((w.alloc (.cells #[.bool n, .slice a xs.length ca, .slice b ys.length cb] 24)).alloc (.cells #[.bool m, .slice c us.length cc, .slice d vs.length cd] 24)).alloc (.cells #[.bool false, .slice none 0 0, .slice none 0 0] 24))) := bt (bt (alloc_later _ _) (alloc_later _ _)) (alloc_later _ _)
  have HZ : Hid (Box (((w.alloc (.cells #[.bool n, .slice a xs.length ca, .slice b ys.length cb] 24)).alloc (.cells #[.bool m, .slice c us.length cc, .slice d vs.length cd] 24)).alloc (.cells #[.bool false, .slice none 0 0, .slice none 0 0] 24)) (w.heap.size + 1 + 1) 24 #[.bool false, .slice none 0 0, .slice none 0 0]) := by
    have e := Box.made ((w.alloc (.cells #[.bool n, .slice a xs.length ca, .slice b ys.length cb] 24)).alloc (.cells #[.bool m, .slice c us.length cc, .slice d vs.length cd] 24)) 24 #[.bool false, .slice none 0 0, .slice none 0 0]
    simp at e
    exact e
  have HN : Hid (Box (((w.alloc (.cells #[.bool n, .slice a xs.length ca, .slice b ys.length cb] 24)).alloc (.cells #[.bool m, .slice c us.length cc, .slice d vs.length cd] 24)).alloc (.cells #[.bool false, .slice none 0 0, .slice none 0 0] 24)) w.heap.size 24 #[.bool n, .slice a xs.length ca, .slice b ys.length cb]) := Box.later (Box.made w _ _) (bt (alloc_later _ _) (alloc_later _ _)) (by simp)
  have HM : Hid (Box (((w.alloc (.cells #[.bool n, .slice a xs.length ca, .slice b ys.length cb] 24)).alloc (.cells #[.bool m, .slice c us.length cc, .slice d vs.length cd] 24)).alloc (.cells #[.bool false, .slice none 0 0, .slice none 0 0] 24)) (w.heap.size + 1) 24 #[.bool m, .slice c us.length cc, .slice d vs.length cd]) := by
    have e := Box.later (Box.made (w.alloc (.cells #[.bool n, .slice a xs.length ca, .slice b ys.length cb] 24)) 24 #[.bool m, .slice c us.length cc, .slice d vs.length cd]) (alloc_later ((w.alloc (.cells #[.bool n, .slice a xs.length ca, .slice b ys.length cb] 24)).alloc (.cells #[.bool m, .slice c us.length cc, .slice d vs.length cd] 24)) (.cells #[.bool false, .slice none 0 0, .slice none 0 0] 24)) (by simp)
    simp at e
    exact e
  have HXS : Hid (w.heap.size + 1 + 1 < (((w.alloc (.cells #[.bool n, .slice a xs.length ca, .slice b ys.length cb] 24)).alloc (.cells #[.bool m, .slice c us.length cc, .slice d vs.length cd] 24)).alloc (.cells #[.bool false, .slice none 0 0, .slice none 0 0] 24)).heap.size) := HZ.out.lt
  have HSL := hid (And.intro (sx.later HB.out) (And.intro (sy.later HB.out) (And.intro (su.later HB.out) (sv.later HB.out))))
  have HP := hid (And.intro hy (And.intro hv (And.intro h1 h2)))
  have HTT := hid (And.intro tx (And.intro ty (And.intro tu tv)))
  have HF0 : Hid (0 < gcdI (val ys) (val vs) ∧ gcdI (val ys) (val vs) ≤ val vs) := ⟨gcd_pos_right hv, gcd_le_right hv⟩
  have HL : Hid (val xs < 4294967296 ^ 2048 ∧ val ys < 4294967296 ^ 2048 ∧ val us < 4294967296 ^ 2048 ∧ val vs < 4294967296 ^ 2048) := ⟨below2048 wx lx, below2048 wy ly, below2048 wu lu, below2048 wv lv⟩
  have HNN : Hid (0 ≤ val xs ∧ 0 ≤ val us ∧ 0 ≤ val ys ∧ 0 ≤ val vs) := ⟨val_nonneg wx, val_nonneg wu, val_nonneg wy, val_nonneg wv⟩
  have HD : Hid (val ys / gcdI (val ys) (val vs) < 4294967296 ^ 2048 ∧ val vs / gcdI (val ys) (val vs) < 4294967296 ^ 2048 ∧ 0 ≤ val ys / gcdI (val ys) (val vs) ∧ 0 ≤ val vs / gcdI (val ys) (val vs)) := by
    have q3 := Int.ediv_le_self (a := val ys) (gcdI (val ys) (val vs)) (by omega)
    have q4 := Int.ediv_le_self (a := val vs) (gcdI (val ys) (val vs)) (by omega)
    have q5 := HF0.out
    have := HL.out
    exact ⟨by omega, by omega, Int.ediv_nonneg (by omega) (by omega), Int.ediv_nonneg (by omega) (by omega)⟩
  have HPL : Hid (val xs * (val vs / gcdI (val ys) (val vs)) < 4294967296 ^ 4096 ∧ val us * (val ys / gcdI (val ys) (val vs)) < 4294967296 ^ 4096) := ⟨mul_4096 HNN.out.1 HL.out.1 HD.out.2.2.2 HD.out.2.1, mul_4096 HNN.out.2.1 HL.out.2.2.1 HD.out.2.2.1 HD.out.1⟩
  have HC1 := hid (rcommon_any _ _ ys vs (((w.alloc (.cells #[.bool n, .slice a xs.length ca, .slice b ys.length cb] 24)).alloc (.cells #[.bool m, .slice c us.length cc, .slice d vs.length cd] 24)).alloc (.cells #[.bool false, .slice none 0 0, .slice none 0 0] 24)) HSL.out.2.1 HSL.out.2.2.2 (by omega) (by omega) ty tv)
  obtain ⟨G, hG⟩ : ∃ G, G = gcdI (val ys) (val vs) := ⟨_, rfl⟩
  rw [← hG] at HC1 HF0 HD HPL
  obtain ⟨rA, hA⟩ : ∃ rA, rA = val ys / G := ⟨_, rfl⟩
  obtain ⟨rB, hB⟩ : ∃ rB, rB = val vs / G := ⟨_, rfl⟩
  rw [← hA, ← hB] at HD HPL
  have HEQ := hid (And.intro hG (And.intro hA hB))
  clear sx sy su sv tx ty tu tv hy hv h1 h2 wx wy wu wv hG hA hB
  go_enter Tryz.func28, Tryz.ntmps28
  go_wp2_with fail
  refine Calls.mono HC1.out ?_
  generalize (((w.alloc (.cells #[.bool n, .slice a xs.length ca, .slice b ys.length cb] 24)).alloc (.cells #[.bool m, .slice c us.length cc, .slice d vs.length cd] 24)).alloc (.cells #[.bool false, .slice none 0 0, .slice none 0 0] 24)) = X at *
  rintro e w1 ⟨v1, z1, rfl, o1, wd1, t1, hv1, hb1⟩
  obtain ⟨a1, c1, hs1⟩ := own_slice' o1
  subst hs1
  have HK : Hid (∀ V, Below X.heap.size X V → V.cell? ⟨w.heap.size, 0, none⟩ = some (.bool n) ∧ V.cell? ⟨w.heap.size, 1, none⟩ = some (.slice a xs.length ca) ∧ V.cell? ⟨w.heap.size, 2, none⟩ = some (.slice b ys.length cb) ∧ V.cell? ⟨w.heap.size + 1, 0, none⟩ = some (.bool m) ∧ V.cell? ⟨w.heap.size + 1, 1, none⟩ = some (.slice c us.length cc) ∧ V.cell? ⟨w.heap.size + 1, 2, none⟩ = some (.slice d vs.length cd)) := fun V hb => by
    obtain ⟨p0, p1, p2, _⟩ := res_box3 HN.out hb
    obtain ⟨q0, q1, q2, _⟩ := res_box3 HM.out hb
    exact ⟨p0, p1, p2, q0, q1, q2⟩
  have HO1 : Hid (One X w1.drew (.slice a1 z1.length c1) z1 G) := One.later ⟨o1, wd1, t1, hv1⟩ (Below.drew (Below.refl _ w1))
  have hb1d : Below X.heap.size X w1.drew := hb1.drew
  have hs0 := HK.out _ hb1d
  clear o1 wd1 t1 hv1 hb1 HC1
  have HQY := hid (fun ww (hv' : Below X.heap.size X ww) (h : One X ww (.slice a1 z1.length c1) z1 G) => quot_in _ HK.out hv' (HSL.out.2.1.later hv') (by omega) HTT.out.2.1 h HF0.out.1 (by have := HF0.out; have := HL.out; omega))
  have HQV := hid (fun ww (hv' : Below X.heap.size X ww) (h : One X ww (.slice a1 z1.length c1) z1 G) => quot_in _ HK.out hv' (HSL.out.2.2.2.later hv') (by omega) HTT.out.2.2.2 h HF0.out.1 (by have := HF0.out; have := HL.out; omega))
  rw [← HEQ.out.2.1] at HQY
  rw [← HEQ.out.2.2] at HQV
  go_wp2_with fail
  go_region_held3 (fun V : World => V.cell? ⟨w.heap.size, 0, none⟩ = some (.bool n) ∧ V.cell? ⟨w.heap.size, 1, none⟩ = some (.slice a xs.length ca) ∧ V.cell? ⟨w.heap.size, 2, none⟩ = some (.slice b ys.length cb) ∧ V.cell? ⟨w.heap.size + 1, 0, none⟩ = some (.bool m) ∧ V.cell? ⟨w.heap.size + 1, 1, none⟩ = some (.slice c us.length cc) ∧ V.cell? ⟨w.heap.size + 1, 2, none⟩ = some (.slice d vs.length cd)) (first | exact hs3 | exact hs2 | exact hs0)
    (first
      | (go_at_call 48; with_reducible refine Calls.mono (HQV.out _ hb2 (HO1.out.later HS2.out)) ?_; rintro e w3 ⟨a3, z3, c3, rfl, HE3, hs3, hb3, HS3⟩)
      | (go_at_call 48; with_reducible refine Calls.mono (HQY.out _ hb1d HO1.out) ?_; rintro e w2 ⟨a2, z2, c2, rfl, HE2, hs2, hb2, HS2⟩))
  have HO3 := hid (And.intro ((HO1.out.later HS2.out).later HS3.out) (And.intro (HE2.out.1.later HS3.out) HE3.out.1))
  have HB3 := hid hb3
  clear hs0 hs2 hs3 hb1d hb2 hb3 HE2 HE3 HS2 HS3 HO1 HQY HQV
  go_upto_region 5 with fail
  have HU : Hid (∀ V, Below w3.heap.size w3 V → Below X.heap.size X V) := fun V hb => bt HB3.out hb
  have HBR := hid (Below.refl w3.heap.size w3)
  have HP1 : Hid (∀ V, Below w3.heap.size w3 V → Calls Tryz.prog 50 #[.slice a xs.length ca, .slice a3 z3.length c3] V fun e V' => ∃ a2 zs c2, e = .returned (.slice a2 (List.length zs) c2) ∧ Hid (One X V' (.slice a2 (List.length zs) c2) zs (val xs * rB) ∧ Below V.heap.size V V' ∧ Below w3.heap.size w3 V') ∧ V'.cell? ⟨w.heap.size, 0, none⟩ = some (.bool n) ∧ V'.cell? ⟨w.heap.size, 1, none⟩ = some (.slice a xs.length ca) ∧ V'.cell? ⟨w.heap.size, 2, none⟩ = some (.slice b ys.length cb) ∧ V'.cell? ⟨w.heap.size + 1, 0, none⟩ = some (.bool m) ∧ V'.cell? ⟨w.heap.size + 1, 1, none⟩ = some (.slice c us.length cc) ∧ V'.cell? ⟨w.heap.size + 1, 2, none⟩ = some (.slice d vs.length cd)) := fun V hb => by
    have hx := HU.out V hb
    have on := HO3.out.2.2.later hb
    have e := rprod_any _ _ xs z3 V (HSL.out.1.later hx) on.sl (by have := own_len on HD.out.2.1; omega) HTT.out.1 on.2.2.1
    rw [on.2.2.2] at e
    refine Calls.mono e ?_
    rintro e V' ⟨v2, zs, rfl, o2, wd2, t2, hv2, hb2⟩
    obtain ⟨a2, c2, hs2⟩ := own_slice' o2
    subst hs2
    exact ⟨a2, zs, c2, rfl, ⟨⟨owns_base o2 hx.size, wd2, t2, hv2⟩, hb2, bt hb hb2⟩, HK.out V' (bt hx hb2)⟩
  have HP2 : Hid (∀ V, Below w3.heap.size w3 V → Calls Tryz.prog 50 #[.slice c us.length cc, .slice a2 z2.length c2] V fun e V' => ∃ a2 zs c2, e = .returned (.slice a2 (List.length zs) c2) ∧ Hid (One X V' (.slice a2 (List.length zs) c2) zs (val us * rA) ∧ Below V.heap.size V V' ∧ Below w3.heap.size w3 V') ∧ V'.cell? ⟨w.heap.size, 0, none⟩ = some (.bool n) ∧ V'.cell? ⟨w.heap.size, 1, none⟩ = some (.slice a xs.length ca) ∧ V'.cell? ⟨w.heap.size, 2, none⟩ = some (.slice b ys.length cb) ∧ V'.cell? ⟨w.heap.size + 1, 0, none⟩ = some (.bool m) ∧ V'.cell? ⟨w.heap.size + 1, 1, none⟩ = some (.slice c us.length cc) ∧ V'.cell? ⟨w.heap.size + 1, 2, none⟩ = some (.slice d vs.length cd)) := fun V hb => by
    have hx := HU.out V hb
    have on := HO3.out.2.1.later hb
    have e := rprod_any _ _ us z2 V (HSL.out.2.2.1.later hx) on.sl (by have := own_len on HD.out.1; omega) HTT.out.2.2.1 on.2.2.1
    rw [on.2.2.2] at e
    refine Calls.mono e ?_
    rintro e V' ⟨v2, zs, rfl, o2, wd2, t2, hv2, hb2⟩
    obtain ⟨a2, c2, hs2⟩ := own_slice' o2
    subst hs2
    exact ⟨a2, zs, c2, rfl, ⟨⟨owns_base o2 hx.size, wd2, t2, hv2⟩, hb2, bt hb hb2⟩, HK.out V' (bt hx hb2)⟩
  have HSG : Hid (∀ V, Below w3.heap.size w3 V → ∀ a4 z4 c4 a5 z5 c5, One X V (.slice a4 (List.length z4) c4) z4 (val xs * rB) → One X V (.slice a5 (List.length z5) c5) z5 (val us * rA) → Calls Tryz.prog 49 #[.agg #[.bool n, .slice a4 z4.length c4], .agg #[.bool m, .slice a5 z5.length c5]] V fun e V' => ∃ k a2 zs c2, e = .returned (.agg #[.bool k, .slice a2 (List.length zs) c2]) ∧ Hid ((∃ T, One X V' (.slice a2 (List.length zs) c2) zs T ∧ sg k T = (sg n (val xs * rB) + sg m (val us * rA))) ∧ Below V.heap.size V V' ∧ Below w3.heap.size w3 V') ∧ V'.cell? ⟨w.heap.size, 0, none⟩ = some (.bool n) ∧ V'.cell? ⟨w.heap.size, 1, none⟩ = some (.slice a xs.length ca) ∧ V'.cell? ⟨w.heap.size, 2, none⟩ = some (.slice b ys.length cb) ∧ V'.cell? ⟨w.heap.size + 1, 0, none⟩ = some (.bool m) ∧ V'.cell? ⟨w.heap.size + 1, 1, none⟩ = some (.slice c us.length cc) ∧ V'.cell? ⟨w.heap.size + 1, 2, none⟩ = some (.slice d vs.length cd)) := fun V hb a4 z4 c4 a5 z5 c5 h4 h5 => by
    have hx := HU.out V hb
    have e := rsigned_any n _ z4 m _ z5 V h4.sl h5.sl (by have := own_len h4 HPL.out.1; omega) (by have := own_len h5 HPL.out.2; omega) h4.2.2.1 h5.2.2.1
    rw [show wval n z4 = sg n (val z4) from rfl, show wval m z5 = sg m (val z5) from rfl, h4.2.2.2, h5.2.2.2] at e
    refine Calls.mono e ?_
    rintro e V' ⟨k, v, zs, rfl, o, h1, h2, h3, hb2⟩
    obtain ⟨a2, c2, hs2⟩ := own_slice' o
    subst hs2
    exact ⟨k, a2, zs, c2, rfl, ⟨⟨val zs, ⟨owns_base o hx.size, h1, h2, rfl⟩, h3⟩, hb2, bt hb hb2⟩, HK.out V' (bt hx hb2)⟩
  have HW2 := hid (Nat.lt_of_lt_of_le HXS.out HB3.out.size)
  obtain ⟨m1, m2, m3, m4⟩ := nes3 HW2.out
  go_cut [9] from 11 (fun s9 wx => ∃ p k a6 c6 z6 T, s9 = .pointer (some ⟨p, 0, none⟩) ∧ Hid (Num X w3 wx p k a6 c6 z6 T ∧ sg k T = sg n (val xs * rB) + sg m (val us * rA) ∧ w3.heap.size ≤ p))
  case first =>
    have hs0 := HK.out _ (HU.out _ HBR.out.drew)
    go_region_held3 (fun V : World => V.cell? ⟨w.heap.size, 0, none⟩ = some (.bool n) ∧ V.cell? ⟨w.heap.size, 1, none⟩ = some (.slice a xs.length ca) ∧ V.cell? ⟨w.heap.size, 2, none⟩ = some (.slice b ys.length cb) ∧ V.cell? ⟨w.heap.size + 1, 0, none⟩ = some (.bool m) ∧ V.cell? ⟨w.heap.size + 1, 1, none⟩ = some (.slice c us.length cc) ∧ V.cell? ⟨w.heap.size + 1, 2, none⟩ = some (.slice d vs.length cd)) (first | exact hs6 | exact hs5 | exact hs4 | exact hs0 | with_reducible exact HK.out _ (HU.out _ (bel_al HE6.out.2.2 _)) | with_reducible exact HK.out _ (HU.out _ (bel_al HE5.out.2.2 _)) | with_reducible exact HK.out _ (HU.out _ (bel_al HE4.out.2.2 _)) | with_reducible exact HK.out _ (HU.out _ (bel_al HBR.out _).drew) | with_reducible exact HK.out _ (HU.out _ (below_put2 HE6.out.2.2 _ (by omega) _ _)) | go_keep)
      (first
        | (go_at_call 49; with_reducible refine Calls.mono (HSG.out _ (by first | exact HE5.out.2.2 | exact bel_al HE5.out.2.2 _) _ _ _ _ _ _ (by first | exact HE4.out.1.later HL5.out | exact (HE4.out.1.later HL5.out).later (alloc_later _ _)) (by first | exact HE5.out.1 | exact HE5.out.1.later (alloc_later _ _))) ?_; rintro e w6 ⟨k6, a6, z6, c6, rfl, HE6, hs6⟩; (first | (have HL6 := hid (bel_unal (w := w5) HE6.out.2.1)) | (have HL6 := hid HE6.out.2.1)); (first | (have HY1 := hid ((HZ1.out.later HL5.out HZ1.out.lt).later HL6.out (HZ1.out.later HL5.out HZ1.out.lt).lt); clear y0 y1 y2 y3; obtain ⟨j0, j1, j2, j3⟩ := HY1.out.c2; obtain ⟨j4, j5⟩ := new_ne' HY1.out) | skip); (first | (have HY2 := hid (HZ2.out.later HL6.out HZ2.out.lt); clear u0 u1 u2 u3; obtain ⟨j0, j1, j2, j3⟩ := HY2.out.c2; obtain ⟨j4, j5⟩ := new_ne' HY2.out) | skip); (first | (have HY3 := hid (zbw HE6.out.2.1); obtain ⟨j0, j1, j2, j3⟩ := HY3.out.c2; obtain ⟨j4, j5⟩ := new_ne' HY3.out) | skip))
        | (go_at_call 50; with_reducible refine Calls.mono (HP2.out _ (by first | exact HE4.out.2.2 | exact bel_al HE4.out.2.2 _)) ?_; rintro e w5 ⟨a5, z5, c5, rfl, HE5, hs5⟩; have hz5 := HE5.out.2.2.size; (first | (have HL5 := hid (bel_unal (w := w4) HE5.out.2.1)) | (have HL5 := hid HE5.out.2.1)); (first | (have HZ2 := hid (zbw HE5.out.2.1); obtain ⟨u0, u1, u2, u3⟩ := HZ2.out.c2; obtain ⟨u4, u5⟩ := new_ne' HZ2.out) | skip))
        | (go_at_call 50; with_reducible refine Calls.mono (HP1.out _ (by first | exact HBR.out.drew | exact (bel_al HBR.out _).drew)) ?_; rintro e w4 ⟨a4, z4, c4, rfl, HE4, hs4⟩; have hz4 := HE4.out.2.2.size; obtain ⟨l1, l2, l3, l4⟩ := nes3 (Nat.lt_of_lt_of_le HW2.out HE4.out.2.2.size); (first | (have HZ1 := hid (zbw (bel_undrew HE4.out.2.1)); obtain ⟨y0, y1, y2, y3⟩ := HZ1.out.c2; obtain ⟨y4, y5⟩ := new_ne' HZ1.out) | skip)))
    all_goals
      have hz6 := HE6.out.2.2.size
      have hz45 := HL5.out.size
      obtain ⟨T, oT, hT⟩ := HE6.out.1
      have HOT := hid oT
      have HHT := hid hT
      clear oT hT
      go_wp2_with fail
      go_meet
    all_goals (first | with_reducible exact ⟨_, k6, a6, c6, z6, T, rfl, hid (And.intro (num_old HOT.out HE6.out.2.2 HY1.out (by omega)) (And.intro HHT.out (by omega)))⟩ | with_reducible exact ⟨_, k6, a6, c6, z6, T, rfl, hid (And.intro (num_old HOT.out HE6.out.2.2 HY2.out (by omega)) (And.intro HHT.out (by omega)))⟩ | with_reducible exact ⟨_, k6, a6, c6, z6, T, rfl, hid (And.intro (num_old HOT.out HE6.out.2.2 HY3.out (by omega)) (And.intro HHT.out (by omega)))⟩ | with_reducible exact ⟨_, k6, a6, c6, z6, T, rfl, hid (And.intro (num_new HOT.out HE6.out.2.2) (And.intro HHT.out (by omega)))⟩)
  case rest =>
    obtain ⟨p, k6, a6, c6, z6, T, rfl, HNm⟩ := hcut
    have HBc := hid (bt HB3.out HNm.out.1.2.2)
    have HOc := hid (And.intro (HO3.out.1.later HNm.out.1.2.2) (And.intro (HO3.out.2.1.later HNm.out.1.2.2) HNm.out.1.2.1))
    have HBX := hid HNm.out.1.1
    have HTS := hid HNm.out.2.1
    have HPW := hid (Nat.lt_of_lt_of_le (Nat.lt_of_lt_of_le HXS.out HB3.out.size) HNm.out.2.2)
    have HT0 : Hid (0 ≤ T) := by rw [← HOc.out.2.2.2.2.2]; exact val_nonneg HOc.out.2.2.2.1
    have HTL : Hid (T < 4294967296 ^ 4097) := sum_4097 HTS.out HT0.out (Int.mul_nonneg HNN.out.1 HD.out.2.2.2) HPL.out.1 (Int.mul_nonneg HNN.out.2.1 HD.out.2.2.1) HPL.out.2
    have l6 : z6.length ≤ 4097 := own_len HOc.out.2.2 HTL.out
    have l1 : z1.length ≤ 2048 := own_len HOc.out.1 (by have := HF0.out; have := HL.out; omega)
    have l2 : z2.length ≤ 2048 := own_len HOc.out.2.1 HD.out.1
    have HC4 := hid (rcommon_any _ _ z6 z1 wc HOc.out.2.2.sl HOc.out.1.sl (by omega) (by omega) HOc.out.2.2.2.2.1 HOc.out.1.2.2.1)
    rw [HOc.out.2.2.2.2.2, HOc.out.1.2.2.2] at HC4
    have HSS : Hid (0 < gcdI T G ∧ gcdI T G ≤ G ∧ G < 4294967296 ^ 2048) := ⟨gcd_pos_right HF0.out.1, gcd_le_right HF0.out.1, by have := HF0.out; have := HL.out; omega⟩
    have HAP := hid (add_parts (n := n) (m := m) (nn := k6) (xs := xs) (ys := ys) (us := us) (vs := vs) HP.out.1 HP.out.2.1 HP.out.2.2.1 HP.out.2.2.2 HEQ.out.1 HEQ.out.2.1 HEQ.out.2.2 rfl rfl HTS.out (s := gcdI T G) rfl (q1 := T / gcdI T G) rfl (e := val vs / gcdI T G) rfl (den := rA * (val vs / gcdI T G)) rfl)
    clear HNm HP1 HP2 HSG HU HBR HB3 HO3 m1 m2 m3 m4 HW2
    obtain ⟨p0, p1, _, _⟩ := HBX.out.c2
    go_wp2_with fail
    refine Calls.mono HC4.out ?_
    rintro e w7 ⟨v7, z7, rfl, o7, wd7, t7, hv7, hb7⟩
    obtain ⟨a7, c7, hs7⟩ := own_slice' o7
    subst hs7
    have HB7 := hid (bt HBc.out hb7)
    have HBX7 := hid (HBX.out.later hb7 HBX.out.lt)
    have HO7 : Hid (One X w7.drew (.slice a7 z7.length c7) z7 (gcdI T G) ∧ One X w7.drew (.slice a2 z2.length c2) z2 rA ∧ One X w7.drew (.slice a6 z6.length c6) z6 T) := ⟨One.later ⟨owns_base o7 HBc.out.size, wd7, t7, hv7⟩ (Below.drew (Below.refl _ w7)), (HOc.out.2.1.later hb7).later (Below.drew (Below.refl _ w7)), (HOc.out.2.2.later hb7).later (Below.drew (Below.refl _ w7))⟩
    have hb7d : Below X.heap.size X w7.drew := HB7.out.drew
    clear o7 wd7 t7 hv7 hb7 HC4 p0 p1 HOc
    obtain ⟨SP, hSP⟩ : ∃ SP : World → Prop, SP = fun V => (V.cell? ⟨w.heap.size, 0, none⟩ = some (.bool n) ∧ V.cell? ⟨w.heap.size, 1, none⟩ = some (.slice a xs.length ca) ∧ V.cell? ⟨w.heap.size, 2, none⟩ = some (.slice b ys.length cb) ∧ V.cell? ⟨w.heap.size + 1, 0, none⟩ = some (.bool m) ∧ V.cell? ⟨w.heap.size + 1, 1, none⟩ = some (.slice c us.length cc) ∧ V.cell? ⟨w.heap.size + 1, 2, none⟩ = some (.slice d vs.length cd)) ∧ V.cell? ⟨p, 0, none⟩ = some (.bool k6) ∧ V.cell? ⟨p, 1, none⟩ = some (.slice a6 z6.length c6) := ⟨_, rfl⟩
    have HK7 : Hid (∀ V, Below w7.heap.size w7 V → (V.cell? ⟨w.heap.size, 0, none⟩ = some (.bool n) ∧ V.cell? ⟨w.heap.size, 1, none⟩ = some (.slice a xs.length ca) ∧ V.cell? ⟨w.heap.size, 2, none⟩ = some (.slice b ys.length cb) ∧ V.cell? ⟨w.heap.size + 1, 0, none⟩ = some (.bool m) ∧ V.cell? ⟨w.heap.size + 1, 1, none⟩ = some (.slice c us.length cc) ∧ V.cell? ⟨w.heap.size + 1, 2, none⟩ = some (.slice d vs.length cd)) ∧ V.cell? ⟨p, 0, none⟩ = some (.bool k6) ∧ V.cell? ⟨p, 1, none⟩ = some (.slice a6 z6.length c6)) := fun V hb => by
      obtain ⟨q0, q1, _, _⟩ := (HBX7.out.later hb HBX7.out.lt).c2
      exact ⟨HK.out V (bt HB7.out hb), q0, q1⟩
    clear hSP SP
    have HBR := hid (Below.refl w7.heap.size w7)
    have hs0 := HK7.out _ HBR.out.drew
    have HQ6 := hid (fun (ww : World) (hw : Below w7.heap.size w7 ww) (h : One X ww (.slice a7 z7.length c7) z7 (gcdI T G)) (h6 : One X ww (.slice a6 z6.length c6) z6 T) => (by have e := quot_in (U := X) (fun _ => True) (fun _ _ => trivial) (bt HB7.out hw) h6.sl (by omega) h6.2.2.1 h HSS.out.1 (by have := HSS.out; omega); rw [h6.2.2.2] at e; exact at7 HK7.out hw e : Calls Tryz.prog 48 #[.slice a6 z6.length c6, .slice a7 z7.length c7] ww _))
    have HQV := hid (fun (ww : World) (hw : Below w7.heap.size w7 ww) (h : One X ww (.slice a7 z7.length c7) z7 (gcdI T G)) => (by have e := quot_in (U := X) (fun _ => True) (fun _ _ => trivial) (bt HB7.out hw) (HSL.out.2.2.2.later (bt HB7.out hw)) (by omega) HTT.out.2.2.2 h HSS.out.1 (by have := HSS.out; omega); exact at7 HK7.out hw e : Calls Tryz.prog 48 #[.slice d vs.length cd, .slice a7 z7.length c7] ww _))
    have HPR := hid (fun (ww : World) (hw : Below w7.heap.size w7 ww) (a9 : Option Addr) (z9 : List Int) (c9 : Nat) (h2 : One X ww (.slice a2 z2.length c2) z2 rA) (h9 : One X ww (.slice a9 z9.length c9) z9 (val vs / gcdI T G)) => (by have e := told1_in (U := X) (fun _ => True) (fun _ _ => trivial) ww (bt HB7.out hw) (rprod_any _ _ z2 z9 ww h2.sl h9.sl (by have := own_len h9 (L := 2048) (by have q := Int.ediv_le_self (a := val vs) (gcdI T G) HNN.out.2.2.2; have := HL.out; omega); omega) h2.2.2.1 h9.2.2.1); rw [h2.2.2.2, h9.2.2.2] at e; exact at7 HK7.out hw e : Calls Tryz.prog 50 #[.slice a2 z2.length c2, .slice a9 z9.length c9] ww _))
    have HTL2 := hid (fun (ww : World) (hb : Below X.heap.size X ww) (a8 : Option Addr) (z8 : List Int) (c8 : Nat) (a10 : Option Addr) (z10 : List Int) (c10 : Nat) (g1 : One X ww (.slice a8 z8.length c8) z8 (T / gcdI T G)) (g2 : One X ww (.slice a10 z10.length c10) z10 (rA * (val vs / gcdI T G))) (hc : Cut X (.slice a8 z8.length c8) (.slice a10 z10.length c10) ww) => rtold_cut2 (n := k6) (q := rq n xs ys + rq m us vs) hb g1 g2 hc HAP.out.1 HAP.out.2.1 HAP.out.2.2)
    have hq0 : w.heap.size + 1 + 1 ≠ w.heap.size := by omega
    have hq2 : ¬ w.heap.size + 1 + 1 = p := by have := HPW.out; omega
    go_wp2_with fail
    go_region_held3 (fun V : World => (V.cell? ⟨w.heap.size, 0, none⟩ = some (.bool n) ∧ V.cell? ⟨w.heap.size, 1, none⟩ = some (.slice a xs.length ca) ∧ V.cell? ⟨w.heap.size, 2, none⟩ = some (.slice b ys.length cb) ∧ V.cell? ⟨w.heap.size + 1, 0, none⟩ = some (.bool m) ∧ V.cell? ⟨w.heap.size + 1, 1, none⟩ = some (.slice c us.length cc) ∧ V.cell? ⟨w.heap.size + 1, 2, none⟩ = some (.slice d vs.length cd)) ∧ V.cell? ⟨p, 0, none⟩ = some (.bool k6) ∧ V.cell? ⟨p, 1, none⟩ = some (.slice a6 z6.length c6)) (first | exact hs11 | exact hs10 | exact hs9 | exact hs8 | exact hs0 | (simp [hs11, World.cell?_setCell_far, hq0, hq2]))
      (first
        | (go_at_call 43; with_reducible refine Calls.mono (HTL2.out _ (bt HB7.out HE10.out.2.2.2) _ _ _ _ _ _ ((HE8.out.1.later HS9.out).later HS10.out) HE10.out.1 (cut_two hb7d.size HS8.out.size (Nat.le_trans HS9.out.size HS10.out.size) HE8.out.2.1 (lies_low HE10.out.2.1 HS9.out.size))) ?_; rintro e w11 ⟨k9, a11, z11, c11, a12, z12, c12, code, rfl, HE11, hb11, HS11⟩; obtain ⟨y0, y1, y2, f0, f1, f2⟩ := res_box3 HZ.out hb11; have hs11 := HK7.out w11 (bt HE10.out.2.2.2 HS11.out))
        | (go_at_call 50; with_reducible refine Calls.mono (HPR.out _ HE9.out.2.2.2 _ _ _ ((HO7.out.2.1.later HS8.out).later HS9.out) HE9.out.1) ?_; rintro e w10 ⟨a10, z10, c10, rfl, HE10, hs10, HS10⟩)
        | (go_at_call 48; with_reducible refine Calls.mono (HQV.out _ HE8.out.2.2.2 (HO7.out.1.later HS8.out)) ?_; rintro e w9 ⟨a9, z9, c9, rfl, HE9, hs9, HS9⟩)
        | (go_at_call 48; with_reducible refine Calls.mono (HQ6.out _ HBR.out.drew HO7.out.1 HO7.out.2.2) ?_; rintro e w8 ⟨a8, z8, c8, rfl, HE8, hs8, HS8⟩))
    all_goals
      have HBW := hid (bt HB.out hb11)
      have HR := hid HE11.out
      clear HK HK7 HQ6 HQV HPR HTL2 HE8 HE9 HE10 HE11 HS8 HS9 HS10 HS11 HO7 hs0 hs8 hs9 hs10 hs11 hb7d hb11 HAP HBX HBX7 HBR HB7 HBc
      go_wp2_with fail
      refine bodyPost_ret (v := .tuple #[.agg #[.bool k9, .slice a11 z11.length c11, .slice a12 z12.length c12], .int .i64 code]) (by simp [results, Tryz.results28, go_sem, y0, y1, y2]) rfl ?_
      exact RToldA.put HR.out (w.heap.size + 1 + 1) HXS.out (by omega) HBW.out _ _ _
end Go.Proofs.YtoigpodamciehaaGreatDoor

/- Fractions: ratio.Add, Mul, Sub: of any fractions, good or refused; what is told is new memory. -/
namespace Go.Proofs.YtoigpodamciehaaGreatDoor
open Go.RowKit
set_option linter.unusedVariables false

theorem rq_less {n m : Bool} {xs ys us vs : List Int} : rq n xs ys + rq (!m) us vs = rq n xs ys - rq m us vs := by
  rw [Rat.sub_eq_add_neg]
  congr 1
  unfold rq
  rw [Rat.neg_divInt]
  congr 1
  cases m <;> simp [wval]

set_option maxHeartbeats 3200000 in
set_option maxRecDepth 100000 in
theorem rAdd_err (n : Bool) (a : Option Addr) (ca : Nat) (xs : List Int) (b : Option Addr) (cb : Nat) (ys : List Int) (m : Bool) (c : Option Addr) (cc : Nat) (us : List Int) (d : Option Addr) (cd : Nat) (vs : List Int) (w : World) (sx : Sl w (.slice a xs.length ca) xs) (sy : Sl w (.slice b ys.length cb) ys) (su : Sl w (.slice c us.length cc) us) (sv : Sl w (.slice d vs.length cd) vs) (he : rboth n xs ys m us vs ≠ 0) (q : Rat) :
    Calls Tryz.prog 9 #[.agg #[.bool n, .slice a xs.length ca, .slice b ys.length cb], .agg #[.bool m, .slice c us.length cc, .slice d vs.length cd]] w (RToldA w (rboth n xs ys m us vs) q) := by
  have HB : Hid (Below w.heap.size w (((w.alloc (.cells #[.bool n, .slice a xs.length ca, .slice b ys.length cb] 24)).alloc (.cells #[.bool m, .slice c us.length cc, .slice d vs.length cd] 24)).alloc (.cells #[.bool false, .slice none 0 0, .slice none 0 0] 24))) := bt (bt (alloc_later _ _) (alloc_later _ _)) (alloc_later _ _)
  have HZ : Hid (Box (((w.alloc (.cells #[.bool n, .slice a xs.length ca, .slice b ys.length cb] 24)).alloc (.cells #[.bool m, .slice c us.length cc, .slice d vs.length cd] 24)).alloc (.cells #[.bool false, .slice none 0 0, .slice none 0 0] 24)) (w.heap.size + 1 + 1) 24 #[.bool false, .slice none 0 0, .slice none 0 0]) := by
    have e := Box.made ((w.alloc (.cells #[.bool n, .slice a xs.length ca, .slice b ys.length cb] 24)).alloc (.cells #[.bool m, .slice c us.length cc, .slice d vs.length cd] 24)) 24 #[.bool false, .slice none 0 0, .slice none 0 0]
    simp at e
    exact e
  have HN : Hid (Box (((w.alloc (.cells #[.bool n, .slice a xs.length ca, .slice b ys.length cb] 24)).alloc (.cells #[.bool m, .slice c us.length cc, .slice d vs.length cd] 24)).alloc (.cells #[.bool false, .slice none 0 0, .slice none 0 0] 24)) w.heap.size 24 #[.bool n, .slice a xs.length ca, .slice b ys.length cb]) := Box.later (Box.made w _ _) (bt (alloc_later _ _) (alloc_later _ _)) (by simp)
  have HM : Hid (Box (((w.alloc (.cells #[.bool n, .slice a xs.length ca, .slice b ys.length cb] 24)).alloc (.cells #[.bool m, .slice c us.length cc, .slice d vs.length cd] 24)).alloc (.cells #[.bool false, .slice none 0 0, .slice none 0 0] 24)) (w.heap.size + 1) 24 #[.bool m, .slice c us.length cc, .slice d vs.length cd]) := by
    have e := Box.later (Box.made (w.alloc (.cells #[.bool n, .slice a xs.length ca, .slice b ys.length cb] 24)) 24 #[.bool m, .slice c us.length cc, .slice d vs.length cd]) (alloc_later ((w.alloc (.cells #[.bool n, .slice a xs.length ca, .slice b ys.length cb] 24)).alloc (.cells #[.bool m, .slice c us.length cc, .slice d vs.length cd] 24)) (.cells #[.bool false, .slice none 0 0, .slice none 0 0] 24)) (by simp)
    simp at e
    exact e
  have HXS : Hid (w.heap.size + 1 + 1 < (((w.alloc (.cells #[.bool n, .slice a xs.length ca, .slice b ys.length cb] 24)).alloc (.cells #[.bool m, .slice c us.length cc, .slice d vs.length cd] 24)).alloc (.cells #[.bool false, .slice none 0 0, .slice none 0 0] 24)).heap.size) := HZ.out.lt
  have HSL := hid (And.intro (sx.later HB.out) (And.intro (sy.later HB.out) (And.intro (su.later HB.out) (sv.later HB.out))))
  have HC := hid (rcheckBoth_any n _ xs _ ys m _ us _ vs (((w.alloc (.cells #[.bool n, .slice a xs.length ca, .slice b ys.length cb] 24)).alloc (.cells #[.bool m, .slice c us.length cc, .slice d vs.length cd] 24)).alloc (.cells #[.bool false, .slice none 0 0, .slice none 0 0] 24)) HSL.out.1 HSL.out.2.1 HSL.out.2.2.1 HSL.out.2.2.2)
  obtain ⟨E, hE⟩ : ∃ E, rboth n xs ys m us vs = E := ⟨_, rfl⟩
  rw [hE] at HC he ⊢
  have he' : (E == 0) = false := beq_eq_false_iff_ne.2 he
  have HE := hid he
  clear he hE sx sy su sv
  go_enter Tryz.func9, Tryz.ntmps9
  go_wp2_with fail
  refine Calls.mono HC.out ?_
  generalize (((w.alloc (.cells #[.bool n, .slice a xs.length ca, .slice b ys.length cb] 24)).alloc (.cells #[.bool m, .slice c us.length cc, .slice d vs.length cd] 24)).alloc (.cells #[.bool false, .slice none 0 0, .slice none 0 0] 24)) = X at *
  rintro e w1 ⟨rfl, hb1⟩
  obtain ⟨y0, y1, y2, f0, f1, f2⟩ := res_box3 HZ.out hb1
  have HBN := hid (below_put3 (bt HB.out hb1) (w.heap.size + 1 + 1) (by omega) (.bool false) (.slice none 0 0) (.slice none 0 0))
  clear hb1 HC HN HM HZ HSL
  go_wp2_with fail
  refine bodyPost_ret (v := .tuple #[.agg #[.bool false, .slice none 0 0, .slice none 0 0], .int .i64 E]) (by simp [results, Tryz.results9, go_sem, y0, y1, y2]) rfl ?_
  exact ⟨false, _, [], _, [], _, rfl, World.ownsRow_nil _ _ _ _, World.ownsRow_nil _ _ _ _, RTells.err HE.out, HBN.out, ⟨w.heap.size, Nat.le_refl _, HBN.out.size, fun g hg => by simp [Value.ownBlock] at hg, fun g hg => by simp [Value.ownBlock] at hg⟩⟩

set_option maxHeartbeats 3200000 in
set_option maxRecDepth 100000 in
theorem rAdd_ok (n : Bool) (a : Option Addr) (ca : Nat) (xs : List Int) (b : Option Addr) (cb : Nat) (ys : List Int) (m : Bool) (c : Option Addr) (cc : Nat) (us : List Int) (d : Option Addr) (cd : Nat) (vs : List Int) (w : World) (sx : Sl w (.slice a xs.length ca) xs) (sy : Sl w (.slice b ys.length cb) ys) (su : Sl w (.slice c us.length cc) us) (sv : Sl w (.slice d vs.length cd) vs) (hx : rchk n xs ys = 0) (hy : rchk m us vs = 0) :
    Calls Tryz.prog 9 #[.agg #[.bool n, .slice a xs.length ca, .slice b ys.length cb], .agg #[.bool m, .slice c us.length cc, .slice d vs.length cd]] w (RToldA w 0 (rq n xs ys + rq m us vs)) := by
  obtain ⟨lx, ly, tx, ty, y0', _, g1⟩ := rchk_ok hx
  obtain ⟨lu, lv, tu, tv, v0', _, g2⟩ := rchk_ok hy
  have py := val_pos' sy.wd ty y0'
  have pv := val_pos' sv.wd tv v0'
  have HB : Hid (Below w.heap.size w (((w.alloc (.cells #[.bool n, .slice a xs.length ca, .slice b ys.length cb] 24)).alloc (.cells #[.bool m, .slice c us.length cc, .slice d vs.length cd] 24)).alloc (.cells #[.bool false, .slice none 0 0, .slice none 0 0] 24))) := bt (bt (alloc_later _ _) (alloc_later _ _)) (alloc_later _ _)
  have HZ : Hid (Box (((w.alloc (.cells #[.bool n, .slice a xs.length ca, .slice b ys.length cb] 24)).alloc (.cells #[.bool m, .slice c us.length cc, .slice d vs.length cd] 24)).alloc (.cells #[.bool false, .slice none 0 0, .slice none 0 0] 24)) (w.heap.size + 1 + 1) 24 #[.bool false, .slice none 0 0, .slice none 0 0]) := by
    have e := Box.made ((w.alloc (.cells #[.bool n, .slice a xs.length ca, .slice b ys.length cb] 24)).alloc (.cells #[.bool m, .slice c us.length cc, .slice d vs.length cd] 24)) 24 #[.bool false, .slice none 0 0, .slice none 0 0]
    simp at e
    exact e
  have HN : Hid (Box (((w.alloc (.cells #[.bool n, .slice a xs.length ca, .slice b ys.length cb] 24)).alloc (.cells #[.bool m, .slice c us.length cc, .slice d vs.length cd] 24)).alloc (.cells #[.bool false, .slice none 0 0, .slice none 0 0] 24)) w.heap.size 24 #[.bool n, .slice a xs.length ca, .slice b ys.length cb]) := Box.later (Box.made w _ _) (bt (alloc_later _ _) (alloc_later _ _)) (by simp)
  have HM : Hid (Box (((w.alloc (.cells #[.bool n, .slice a xs.length ca, .slice b ys.length cb] 24)).alloc (.cells #[.bool m, .slice c us.length cc, .slice d vs.length cd] 24)).alloc (.cells #[.bool false, .slice none 0 0, .slice none 0 0] 24)) (w.heap.size + 1) 24 #[.bool m, .slice c us.length cc, .slice d vs.length cd]) := by
    have e := Box.later (Box.made (w.alloc (.cells #[.bool n, .slice a xs.length ca, .slice b ys.length cb] 24)) 24 #[.bool m, .slice c us.length cc, .slice d vs.length cd]) (alloc_later ((w.alloc (.cells #[.bool n, .slice a xs.length ca, .slice b ys.length cb] 24)).alloc (.cells #[.bool m, .slice c us.length cc, .slice d vs.length cd] 24)) (.cells #[.bool false, .slice none 0 0, .slice none 0 0] 24)) (by simp)
    simp at e
    exact e
  have HXS : Hid (w.heap.size + 1 + 1 < (((w.alloc (.cells #[.bool n, .slice a xs.length ca, .slice b ys.length cb] 24)).alloc (.cells #[.bool m, .slice c us.length cc, .slice d vs.length cd] 24)).alloc (.cells #[.bool false, .slice none 0 0, .slice none 0 0] 24)).heap.size) := HZ.out.lt
  have HSL := hid (And.intro (sx.later HB.out) (And.intro (sy.later HB.out) (And.intro (su.later HB.out) (sv.later HB.out))))
  have HC := hid (rcheckBoth_any n _ xs _ ys m _ us _ vs (((w.alloc (.cells #[.bool n, .slice a xs.length ca, .slice b ys.length cb] 24)).alloc (.cells #[.bool m, .slice c us.length cc, .slice d vs.length cd] 24)).alloc (.cells #[.bool false, .slice none 0 0, .slice none 0 0] 24)) HSL.out.1 HSL.out.2.1 HSL.out.2.2.1 HSL.out.2.2.2)
  rw [rboth_good hx hy] at HC
  have HA := hid (fun ww (hb : Below (((w.alloc (.cells #[.bool n, .slice a xs.length ca, .slice b ys.length cb] 24)).alloc (.cells #[.bool m, .slice c us.length cc, .slice d vs.length cd] 24)).alloc (.cells #[.bool false, .slice none 0 0, .slice none 0 0] 24)).heap.size (((w.alloc (.cells #[.bool n, .slice a xs.length ca, .slice b ys.length cb] 24)).alloc (.cells #[.bool m, .slice c us.length cc, .slice d vs.length cd] 24)).alloc (.cells #[.bool false, .slice none 0 0, .slice none 0 0] 24)) ww) => radd_any n a ca xs b cb ys m c cc us d cd vs ww (HSL.out.1.later hb) (HSL.out.2.1.later hb) (HSL.out.2.2.1.later hb) (HSL.out.2.2.2.later hb) lx ly lu lv tx ty tu tv (by omega) (by omega) g1 g2)
  clear sx sy su sv hx hy tx ty tu tv g1 g2 py pv
  go_enter Tryz.func9, Tryz.ntmps9
  go_wp2_with fail
  refine Calls.mono HC.out ?_
  generalize (((w.alloc (.cells #[.bool n, .slice a xs.length ca, .slice b ys.length cb] 24)).alloc (.cells #[.bool m, .slice c us.length cc, .slice d vs.length cd] 24)).alloc (.cells #[.bool false, .slice none 0 0, .slice none 0 0] 24)) = X at *
  rintro e w1 ⟨rfl, hb1⟩
  have HCA := hid (HA.out w1 hb1)
  obtain ⟨p0, p1, p2, _⟩ := res_box3 HN.out hb1
  obtain ⟨q0, q1, q2, _⟩ := res_box3 HM.out hb1
  have HB1 := hid hb1
  clear hb1 HC HA
  go_wp2_with fail
  refine Calls.mono HCA.out ?_
  rintro e w2 ⟨k2, v2, z2, u2, r2, code, rfl, o2, o3, t2, hb2, hc2⟩
  obtain ⟨a2, c2, hs2⟩ := own_slice' o2
  subst hs2
  obtain ⟨a3, c3, hs3⟩ := own_slice' o3
  subst hs3
  have HR := hid (And.intro o2 (And.intro o3 (And.intro t2 hc2)))
  obtain ⟨y0, y1, y2, f0, f1, f2⟩ := res_box3 HZ.out (bt HB1.out hb2)
  have HBW := hid (bt HB.out (bt HB1.out hb2))
  have HLT : Hid (w.heap.size + 1 + 1 < w1.heap.size) := Nat.lt_of_lt_of_le HXS.out HB1.out.size
  clear o2 o3 t2 hb2 hc2 HCA p0 p1 p2 q0 q1 q2
  go_wp2_with fail
  refine bodyPost_ret (v := .tuple #[.agg #[.bool k2, .slice a2 z2.length c2, .slice a3 r2.length c3], .int .i64 code]) (by simp [results, Tryz.results9, go_sem, y0, y1, y2]) rfl ?_
  exact RToldA.put HR.out (w.heap.size + 1 + 1) HLT.out (by omega) HBW.out _ _ _
theorem rAdd_full (n : Bool) (a : Option Addr) (ca : Nat) (xs : List Int) (b : Option Addr) (cb : Nat) (ys : List Int) (m : Bool) (c : Option Addr) (cc : Nat) (us : List Int) (d : Option Addr) (cd : Nat) (vs : List Int) (w : World) (sx : Sl w (.slice a xs.length ca) xs) (sy : Sl w (.slice b ys.length cb) ys) (su : Sl w (.slice c us.length cc) us) (sv : Sl w (.slice d vs.length cd) vs) :
    Calls Tryz.prog 9 #[.agg #[.bool n, .slice a xs.length ca, .slice b ys.length cb], .agg #[.bool m, .slice c us.length cc, .slice d vs.length cd]] w (RToldA w (rboth n xs ys m us vs) (rq n xs ys + rq m us vs)) := by
  by_cases he : rboth n xs ys m us vs = 0
  · rw [he]
    exact rAdd_ok n a ca xs b cb ys m c cc us d cd vs w sx sy su sv (rboth_ok he).1 (rboth_ok he).2
  · exact rAdd_err n a ca xs b cb ys m c cc us d cd vs w sx sy su sv he _

set_option maxHeartbeats 3200000 in
set_option maxRecDepth 100000 in
theorem rSub_err (n : Bool) (a : Option Addr) (ca : Nat) (xs : List Int) (b : Option Addr) (cb : Nat) (ys : List Int) (m : Bool) (c : Option Addr) (cc : Nat) (us : List Int) (d : Option Addr) (cd : Nat) (vs : List Int) (w : World) (sx : Sl w (.slice a xs.length ca) xs) (sy : Sl w (.slice b ys.length cb) ys) (su : Sl w (.slice c us.length cc) us) (sv : Sl w (.slice d vs.length cd) vs) (he : rboth n xs ys m us vs ≠ 0) (q : Rat) :
    Calls Tryz.prog 23 #[.agg #[.bool n, .slice a xs.length ca, .slice b ys.length cb], .agg #[.bool m, .slice c us.length cc, .slice d vs.length cd]] w (RToldA w (rboth n xs ys m us vs) q) := by
  have HB : Hid (Below w.heap.size w (((w.alloc (.cells #[.bool n, .slice a xs.length ca, .slice b ys.length cb] 24)).alloc (.cells #[.bool m, .slice c us.length cc, .slice d vs.length cd] 24)).alloc (.cells #[.bool false, .slice none 0 0, .slice none 0 0] 24))) := bt (bt (alloc_later _ _) (alloc_later _ _)) (alloc_later _ _)
  have HZ : Hid (Box (((w.alloc (.cells #[.bool n, .slice a xs.length ca, .slice b ys.length cb] 24)).alloc (.cells #[.bool m, .slice c us.length cc, .slice d vs.length cd] 24)).alloc (.cells #[.bool false, .slice none 0 0, .slice none 0 0] 24)) (w.heap.size + 1 + 1) 24 #[.bool false, .slice none 0 0, .slice none 0 0]) := by
    have e := Box.made ((w.alloc (.cells #[.bool n, .slice a xs.length ca, .slice b ys.length cb] 24)).alloc (.cells #[.bool m, .slice c us.length cc, .slice d vs.length cd] 24)) 24 #[.bool false, .slice none 0 0, .slice none 0 0]
    simp at e
    exact e
  have HN : Hid (Box (((w.alloc (.cells #[.bool n, .slice a xs.length ca, .slice b ys.length cb] 24)).alloc (.cells #[.bool m, .slice c us.length cc, .slice d vs.length cd] 24)).alloc (.cells #[.bool false, .slice none 0 0, .slice none 0 0] 24)) w.heap.size 24 #[.bool n, .slice a xs.length ca, .slice b ys.length cb]) := Box.later (Box.made w _ _) (bt (alloc_later _ _) (alloc_later _ _)) (by simp)
  have HM : Hid (Box (((w.alloc (.cells #[.bool n, .slice a xs.length ca, .slice b ys.length cb] 24)).alloc (.cells #[.bool m, .slice c us.length cc, .slice d vs.length cd] 24)).alloc (.cells #[.bool false, .slice none 0 0, .slice none 0 0] 24)) (w.heap.size + 1) 24 #[.bool m, .slice c us.length cc, .slice d vs.length cd]) := by
    have e := Box.later (Box.made (w.alloc (.cells #[.bool n, .slice a xs.length ca, .slice b ys.length cb] 24)) 24 #[.bool m, .slice c us.length cc, .slice d vs.length cd]) (alloc_later ((w.alloc (.cells #[.bool n, .slice a xs.length ca, .slice b ys.length cb] 24)).alloc (.cells #[.bool m, .slice c us.length cc, .slice d vs.length cd] 24)) (.cells #[.bool false, .slice none 0 0, .slice none 0 0] 24)) (by simp)
    simp at e
    exact e
  have HXS : Hid (w.heap.size + 1 + 1 < (((w.alloc (.cells #[.bool n, .slice a xs.length ca, .slice b ys.length cb] 24)).alloc (.cells #[.bool m, .slice c us.length cc, .slice d vs.length cd] 24)).alloc (.cells #[.bool false, .slice none 0 0, .slice none 0 0] 24)).heap.size) := HZ.out.lt
  have HSL := hid (And.intro (sx.later HB.out) (And.intro (sy.later HB.out) (And.intro (su.later HB.out) (sv.later HB.out))))
  have HC := hid (rcheckBoth_any n _ xs _ ys m _ us _ vs (((w.alloc (.cells #[.bool n, .slice a xs.length ca, .slice b ys.length cb] 24)).alloc (.cells #[.bool m, .slice c us.length cc, .slice d vs.length cd] 24)).alloc (.cells #[.bool false, .slice none 0 0, .slice none 0 0] 24)) HSL.out.1 HSL.out.2.1 HSL.out.2.2.1 HSL.out.2.2.2)
  obtain ⟨E, hE⟩ : ∃ E, rboth n xs ys m us vs = E := ⟨_, rfl⟩
  rw [hE] at HC he ⊢
  have he' : (E == 0) = false := beq_eq_false_iff_ne.2 he
  have HE := hid he
  clear he hE sx sy su sv
  go_enter Tryz.func23, Tryz.ntmps23
  go_wp2_with fail
  refine Calls.mono HC.out ?_
  generalize (((w.alloc (.cells #[.bool n, .slice a xs.length ca, .slice b ys.length cb] 24)).alloc (.cells #[.bool m, .slice c us.length cc, .slice d vs.length cd] 24)).alloc (.cells #[.bool false, .slice none 0 0, .slice none 0 0] 24)) = X at *
  rintro e w1 ⟨rfl, hb1⟩
  obtain ⟨y0, y1, y2, f0, f1, f2⟩ := res_box3 HZ.out hb1
  have HBN := hid (below_put3 (bt HB.out hb1) (w.heap.size + 1 + 1) (by omega) (.bool false) (.slice none 0 0) (.slice none 0 0))
  clear hb1 HC HN HM HZ HSL
  go_wp2_with fail
  refine bodyPost_ret (v := .tuple #[.agg #[.bool false, .slice none 0 0, .slice none 0 0], .int .i64 E]) (by simp [results, Tryz.results23, go_sem, y0, y1, y2]) rfl ?_
  exact ⟨false, _, [], _, [], _, rfl, World.ownsRow_nil _ _ _ _, World.ownsRow_nil _ _ _ _, RTells.err HE.out, HBN.out, ⟨w.heap.size, Nat.le_refl _, HBN.out.size, fun g hg => by simp [Value.ownBlock] at hg, fun g hg => by simp [Value.ownBlock] at hg⟩⟩

set_option maxHeartbeats 3200000 in
set_option maxRecDepth 100000 in
theorem rSub_ok (n : Bool) (a : Option Addr) (ca : Nat) (xs : List Int) (b : Option Addr) (cb : Nat) (ys : List Int) (m : Bool) (c : Option Addr) (cc : Nat) (us : List Int) (d : Option Addr) (cd : Nat) (vs : List Int) (w : World) (sx : Sl w (.slice a xs.length ca) xs) (sy : Sl w (.slice b ys.length cb) ys) (su : Sl w (.slice c us.length cc) us) (sv : Sl w (.slice d vs.length cd) vs) (hx : rchk n xs ys = 0) (hy : rchk m us vs = 0) :
    Calls Tryz.prog 23 #[.agg #[.bool n, .slice a xs.length ca, .slice b ys.length cb], .agg #[.bool m, .slice c us.length cc, .slice d vs.length cd]] w (RToldA w 0 (rq n xs ys - rq m us vs)) := by
  obtain ⟨lx, ly, tx, ty, y0', _, g1⟩ := rchk_ok hx
  obtain ⟨lu, lv, tu, tv, v0', _, g2⟩ := rchk_ok hy
  have py := val_pos' sy.wd ty y0'
  have pv := val_pos' sv.wd tv v0'
  have HB : Hid (Below w.heap.size w (((w.alloc (.cells #[.bool n, .slice a xs.length ca, .slice b ys.length cb] 24)).alloc (.cells #[.bool m, .slice c us.length cc, .slice d vs.length cd] 24)).alloc (.cells #[.bool false, .slice none 0 0, .slice none 0 0] 24))) := bt (bt (alloc_later _ _) (alloc_later _ _)) (alloc_later _ _)
  have HZ : Hid (Box (((w.alloc (.cells #[.bool n, .slice a xs.length ca, .slice b ys.length cb] 24)).alloc (.cells #[.bool m, .slice c us.length cc, .slice d vs.length cd] 24)).alloc (.cells #[.bool false, .slice none 0 0, .slice none 0 0] 24)) (w.heap.size + 1 + 1) 24 #[.bool false, .slice none 0 0, .slice none 0 0]) := by
    have e := Box.made ((w.alloc (.cells #[.bool n, .slice a xs.length ca, .slice b ys.length cb] 24)).alloc (.cells #[.bool m, .slice c us.length cc, .slice d vs.length cd] 24)) 24 #[.bool false, .slice none 0 0, .slice none 0 0]
    simp at e
    exact e
  have HN : Hid (Box (((w.alloc (.cells #[.bool n, .slice a xs.length ca, .slice b ys.length cb] 24)).alloc (.cells #[.bool m, .slice c us.length cc, .slice d vs.length cd] 24)).alloc (.cells #[.bool false, .slice none 0 0, .slice none 0 0] 24)) w.heap.size 24 #[.bool n, .slice a xs.length ca, .slice b ys.length cb]) := Box.later (Box.made w _ _) (bt (alloc_later _ _) (alloc_later _ _)) (by simp)
  have HM : Hid (Box (((w.alloc (.cells #[.bool n, .slice a xs.length ca, .slice b ys.length cb] 24)).alloc (.cells #[.bool m, .slice c us.length cc, .slice d vs.length cd] 24)).alloc (.cells #[.bool false, .slice none 0 0, .slice none 0 0] 24)) (w.heap.size + 1) 24 #[.bool m, .slice c us.length cc, .slice d vs.length cd]) := by
    have e := Box.later (Box.made (w.alloc (.cells #[.bool n, .slice a xs.length ca, .slice b ys.length cb] 24)) 24 #[.bool m, .slice c us.length cc, .slice d vs.length cd]) (alloc_later ((w.alloc (.cells #[.bool n, .slice a xs.length ca, .slice b ys.length cb] 24)).alloc (.cells #[.bool m, .slice c us.length cc, .slice d vs.length cd] 24)) (.cells #[.bool false, .slice none 0 0, .slice none 0 0] 24)) (by simp)
    simp at e
    exact e
  have HXS : Hid (w.heap.size + 1 + 1 < (((w.alloc (.cells #[.bool n, .slice a xs.length ca, .slice b ys.length cb] 24)).alloc (.cells #[.bool m, .slice c us.length cc, .slice d vs.length cd] 24)).alloc (.cells #[.bool false, .slice none 0 0, .slice none 0 0] 24)).heap.size) := HZ.out.lt
  have HSL := hid (And.intro (sx.later HB.out) (And.intro (sy.later HB.out) (And.intro (su.later HB.out) (sv.later HB.out))))
  have HC := hid (rcheckBoth_any n _ xs _ ys m _ us _ vs (((w.alloc (.cells #[.bool n, .slice a xs.length ca, .slice b ys.length cb] 24)).alloc (.cells #[.bool m, .slice c us.length cc, .slice d vs.length cd] 24)).alloc (.cells #[.bool false, .slice none 0 0, .slice none 0 0] 24)) HSL.out.1 HSL.out.2.1 HSL.out.2.2.1 HSL.out.2.2.2)
  rw [rboth_good hx hy] at HC
  have HT := hid (And.intro lx (And.intro ly (And.intro lu (And.intro lv (And.intro tx (And.intro ty (And.intro tu (And.intro tv (And.intro g1 g2)))))))))
  have HS0 := hid (And.intro sx (And.intro sy (And.intro su sv)))
  have HPY := hid (And.intro py pv)
  clear sx sy su sv hx hy tx ty tu tv g1 g2 py pv lx ly lu lv
  go_enter Tryz.func23, Tryz.ntmps23
  go_wp2_with fail
  refine Calls.mono HC.out ?_
  generalize (((w.alloc (.cells #[.bool n, .slice a xs.length ca, .slice b ys.length cb] 24)).alloc (.cells #[.bool m, .slice c us.length cc, .slice d vs.length cd] 24)).alloc (.cells #[.bool false, .slice none 0 0, .slice none 0 0] 24)) = X at *
  rintro e w1 ⟨rfl, hb1⟩
  have HB1 := hid (bt HB.out hb1)
  have HN1 := hid (HN.out.later hb1 HN.out.lt)
  have HM1 := hid (HM.out.later hb1 HM.out.lt)
  have HZ1 := hid (HZ.out.later hb1 HZ.out.lt)
  have HL1 : Hid (w.heap.size + 1 + 1 < w1.heap.size) := Nat.lt_of_lt_of_le HXS.out hb1.size
  have HMp := hid (HM1.out.set 0 (.bool (!m)))
  have HNp := hid (HN1.out.other ⟨w.heap.size + 1, 0, none⟩ (.bool (!m)) (by simp))
  have HZp := hid (HZ1.out.other ⟨w.heap.size + 1, 0, none⟩ (.bool (!m)) (by simp))
  have HBs : Hid (Below w.heap.size w (w1.setCell ⟨w.heap.size + 1, 0, none⟩ (.bool (!m)))) := HB1.out.setCell (p := ⟨w.heap.size + 1, 0, none⟩) (by simp) _
  have HLs : Hid (w.heap.size + 1 + 1 < (w1.setCell ⟨w.heap.size + 1, 0, none⟩ (.bool (!m))).heap.size) := HZp.out.lt
  have HCA := hid (radd_any n a ca xs b cb ys (!m) c cc us d cd vs (w1.setCell ⟨w.heap.size + 1, 0, none⟩ (.bool (!m))) (HS0.out.1.later HBs.out) (HS0.out.2.1.later HBs.out) (HS0.out.2.2.1.later HBs.out) (HS0.out.2.2.2.later HBs.out) HT.out.1 HT.out.2.1 HT.out.2.2.1 HT.out.2.2.2.1 HT.out.2.2.2.2.1 HT.out.2.2.2.2.2.1 HT.out.2.2.2.2.2.2.1 HT.out.2.2.2.2.2.2.2.1 (by have := HPY.out; omega) (by have := HPY.out; omega) HT.out.2.2.2.2.2.2.2.2.1 HT.out.2.2.2.2.2.2.2.2.2)
  rw [rq_less] at HCA
  obtain ⟨p0, p1, p2, _⟩ := res_box3 HN1.out (Below.refl _ w1)
  obtain ⟨q0, q1, q2, g0, g1, g2⟩ := res_box3 HM1.out (Below.refl _ w1)
  have r0 : (w1.setCell ⟨w.heap.size + 1, 0, none⟩ (.bool (!m))).cell? ⟨w.heap.size, 0, none⟩ = some (.bool n) := HNp.out.cell 0
  have r1 : (w1.setCell ⟨w.heap.size + 1, 0, none⟩ (.bool (!m))).cell? ⟨w.heap.size, 1, none⟩ = some (.slice a xs.length ca) := HNp.out.cell 1
  have r2 : (w1.setCell ⟨w.heap.size + 1, 0, none⟩ (.bool (!m))).cell? ⟨w.heap.size, 2, none⟩ = some (.slice b ys.length cb) := HNp.out.cell 2
  have t0 : (w1.setCell ⟨w.heap.size + 1, 0, none⟩ (.bool (!m))).cell? ⟨w.heap.size + 1, 0, none⟩ = some (.bool (!m)) := HMp.out.cell 0
  have t1 : (w1.setCell ⟨w.heap.size + 1, 0, none⟩ (.bool (!m))).cell? ⟨w.heap.size + 1, 1, none⟩ = some (.slice c us.length cc) := HMp.out.cell 1
  have t2 : (w1.setCell ⟨w.heap.size + 1, 0, none⟩ (.bool (!m))).cell? ⟨w.heap.size + 1, 2, none⟩ = some (.slice d vs.length cd) := HMp.out.cell 2
  clear hb1 HC
  go_wp2_with fail
  refine Calls.mono HCA.out ?_
  generalize w1.setCell ⟨w.heap.size + 1, 0, none⟩ (.bool (!m)) = V at *
  rintro e w2 ⟨k2, v2, z2, u2, r2', code, rfl, o2, o3, tt2, hb2, hc2⟩
  obtain ⟨a2, c2, hs2⟩ := own_slice' o2
  subst hs2
  obtain ⟨a3, c3, hs3⟩ := own_slice' o3
  subst hs3
  have HR := hid (And.intro o2 (And.intro o3 (And.intro tt2 hc2)))
  obtain ⟨y0, y1, y2, f0, f1, f2⟩ := res_box3 HZp.out hb2
  have HBW := hid (bt HBs.out hb2)
  clear o2 o3 tt2 hb2 hc2 HCA p0 p1 p2 q0 q1 q2 g0 g1 g2 r0 r1 r2 t0 t1 t2
  go_wp2_with fail
  refine bodyPost_ret (v := .tuple #[.agg #[.bool k2, .slice a2 z2.length c2, .slice a3 r2'.length c3], .int .i64 code]) (by simp [results, Tryz.results23, go_sem, y0, y1, y2]) rfl ?_
  exact RToldA.put HR.out (w.heap.size + 1 + 1) HLs.out (by omega) HBW.out _ _ _
theorem rSub_full (n : Bool) (a : Option Addr) (ca : Nat) (xs : List Int) (b : Option Addr) (cb : Nat) (ys : List Int) (m : Bool) (c : Option Addr) (cc : Nat) (us : List Int) (d : Option Addr) (cd : Nat) (vs : List Int) (w : World) (sx : Sl w (.slice a xs.length ca) xs) (sy : Sl w (.slice b ys.length cb) ys) (su : Sl w (.slice c us.length cc) us) (sv : Sl w (.slice d vs.length cd) vs) :
    Calls Tryz.prog 23 #[.agg #[.bool n, .slice a xs.length ca, .slice b ys.length cb], .agg #[.bool m, .slice c us.length cc, .slice d vs.length cd]] w (RToldA w (rboth n xs ys m us vs) (rq n xs ys - rq m us vs)) := by
  by_cases he : rboth n xs ys m us vs = 0
  · rw [he]
    exact rSub_ok n a ca xs b cb ys m c cc us d cd vs w sx sy su sv (rboth_ok he).1 (rboth_ok he).2
  · exact rSub_err n a ca xs b cb ys m c cc us d cd vs w sx sy su sv he _
end Go.Proofs.YtoigpodamciehaaGreatDoor

/- Fractions: ratio.Quo, Neg, Sign: of any fractions, good or refused; what is told is new memory. -/
namespace Go.Proofs.YtoigpodamciehaaGreatDoor
open Go.RowKit
set_option linter.unusedVariables false

theorem gcd_comm' (x y : Int) : gcdI x y = gcdI y x := by unfold gcdI; rw [Int.gcd_comm]
theorem rq_over {n m : Bool} {xs ys us vs : List Int} : rq n xs ys * rq m vs us = rq n xs ys / rq m us vs := by
  rw [Rat.div_def]
  congr 1
  unfold rq
  rw [Rat.inv_divInt]
  cases m
  · rfl
  · show Rat.divInt (-(val vs)) (val us) = Rat.divInt (val vs) (-(val us))
    rw [Rat.divInt_neg']

/-- The error of Quo. -/
def qErr (n : Bool) (xs ys : List Int) (m : Bool) (us vs : List Int) : Int := if rboth n xs ys m us vs = 0 then (if us.length = 0 then 7 else 0) else rboth n xs ys m us vs
end Go.Proofs.YtoigpodamciehaaGreatDoor

/- Fractions: ratio.Neg, Sign: of any fraction, good or refused. -/
namespace Go.Proofs.YtoigpodamciehaaGreatDoor
open Go.RowKit
set_option linter.unusedVariables false

theorem trim1_any (v : Value) (xs : List Int) (w : World) (h : Sl w v xs) (hn : xs.length ≤ 1099511627776) : Calls Tryz.prog 44 #[v] w (Told1 w (val xs)) := by
  have wx := h.wd
  refine Calls.mono (trim_sl v xs w h hn) ?_
  rintro e w' ⟨v', rfl, o, hb⟩
  exact ⟨v', trimmed xs, rfl, owns_len o, wx.trimmed, Trimmed.trimmed _, val_trimmed xs, hb⟩
theorem rq_neg {n : Bool} {xs ys : List Int} : Rat.divInt (sg (!n) (val xs)) (val ys) = -(rq n xs ys) := by
  unfold rq
  rw [Rat.neg_divInt]
  congr 1
  cases n <;> simp [sg, wval]

set_option maxHeartbeats 3200000 in
set_option maxRecDepth 100000 in
theorem rNeg_err (n : Bool) (a : Option Addr) (ca : Nat) (xs : List Int) (b : Option Addr) (cb : Nat) (ys : List Int) (w : World) (sx : Sl w (.slice a xs.length ca) xs) (sy : Sl w (.slice b ys.length cb) ys) (he : rchk n xs ys ≠ 0) (q : Rat) :
    Calls Tryz.prog 24 #[.agg #[.bool n, .slice a xs.length ca, .slice b ys.length cb]] w (RToldA w (rchk n xs ys) q) := by
  have HB : Hid (Below w.heap.size w ((w.alloc (.cells #[.bool n, .slice a xs.length ca, .slice b ys.length cb] 24)).alloc (.cells #[.bool false, .slice none 0 0, .slice none 0 0] 24))) := bt (alloc_later _ _) (alloc_later _ _)
  have HZ : Hid (Box ((w.alloc (.cells #[.bool n, .slice a xs.length ca, .slice b ys.length cb] 24)).alloc (.cells #[.bool false, .slice none 0 0, .slice none 0 0] 24)) (w.heap.size + 1) 24 #[.bool false, .slice none 0 0, .slice none 0 0]) := by
    have e := Box.made (w.alloc (.cells #[.bool n, .slice a xs.length ca, .slice b ys.length cb] 24)) 24 #[.bool false, .slice none 0 0, .slice none 0 0]
    simp at e
    exact e
  have HC := hid (rcheck_any n _ xs _ ys ((w.alloc (.cells #[.bool n, .slice a xs.length ca, .slice b ys.length cb] 24)).alloc (.cells #[.bool false, .slice none 0 0, .slice none 0 0] 24)) (sx.later HB.out) (sy.later HB.out))
  obtain ⟨E, hE⟩ : ∃ E, rchk n xs ys = E := ⟨_, rfl⟩
  rw [hE] at HC he ⊢
  have he' : (E == 0) = false := beq_eq_false_iff_ne.2 he
  have HE := hid he
  clear he hE sx sy
  go_enter Tryz.func24, Tryz.ntmps24
  go_wp2_with fail
  refine Calls.mono HC.out ?_
  generalize ((w.alloc (.cells #[.bool n, .slice a xs.length ca, .slice b ys.length cb] 24)).alloc (.cells #[.bool false, .slice none 0 0, .slice none 0 0] 24)) = X at *
  rintro e w1 ⟨rfl, hb1⟩
  obtain ⟨y0, y1, y2, f0, f1, f2⟩ := res_box3 HZ.out hb1
  have HBN := hid (below_put3 (bt HB.out hb1) (w.heap.size + 1) (by omega) (.bool false) (.slice none 0 0) (.slice none 0 0))
  clear hb1 HC HZ
  go_wp2_with fail
  refine bodyPost_ret (v := .tuple #[.agg #[.bool false, .slice none 0 0, .slice none 0 0], .int .i64 E]) (by simp [results, Tryz.results24, go_sem, y0, y1, y2]) rfl ?_
  exact ⟨false, _, [], _, [], _, rfl, World.ownsRow_nil _ _ _ _, World.ownsRow_nil _ _ _ _, RTells.err HE.out, HBN.out, ⟨w.heap.size, Nat.le_refl _, HBN.out.size, fun g hg => by simp [Value.ownBlock] at hg, fun g hg => by simp [Value.ownBlock] at hg⟩⟩

set_option maxHeartbeats 3200000 in
set_option maxRecDepth 100000 in
theorem rNeg_ok (n : Bool) (a : Option Addr) (ca : Nat) (xs : List Int) (b : Option Addr) (cb : Nat) (ys : List Int) (w : World) (sx : Sl w (.slice a xs.length ca) xs) (sy : Sl w (.slice b ys.length cb) ys) (hx : rchk n xs ys = 0) :
    Calls Tryz.prog 24 #[.agg #[.bool n, .slice a xs.length ca, .slice b ys.length cb]] w (RToldA w 0 (-(rq n xs ys))) := by
  obtain ⟨lx, ly, tx, ty, y0', _, g1⟩ := rchk_ok hx
  have py := val_pos' sy.wd ty y0'
  have HB : Hid (Below w.heap.size w ((w.alloc (.cells #[.bool n, .slice a xs.length ca, .slice b ys.length cb] 24)).alloc (.cells #[.bool false, .slice none 0 0, .slice none 0 0] 24))) := bt (alloc_later _ _) (alloc_later _ _)
  have HZ : Hid (Box ((w.alloc (.cells #[.bool n, .slice a xs.length ca, .slice b ys.length cb] 24)).alloc (.cells #[.bool false, .slice none 0 0, .slice none 0 0] 24)) (w.heap.size + 1) 24 #[.bool false, .slice none 0 0, .slice none 0 0]) := by
    have e := Box.made (w.alloc (.cells #[.bool n, .slice a xs.length ca, .slice b ys.length cb] 24)) 24 #[.bool false, .slice none 0 0, .slice none 0 0]
    simp at e
    exact e
  have HN : Hid (Box ((w.alloc (.cells #[.bool n, .slice a xs.length ca, .slice b ys.length cb] 24)).alloc (.cells #[.bool false, .slice none 0 0, .slice none 0 0] 24)) w.heap.size 24 #[.bool n, .slice a xs.length ca, .slice b ys.length cb]) := Box.later (Box.made w _ _) (alloc_later _ _) (by simp)
  have HXS : Hid (w.heap.size + 1 < ((w.alloc (.cells #[.bool n, .slice a xs.length ca, .slice b ys.length cb] 24)).alloc (.cells #[.bool false, .slice none 0 0, .slice none 0 0] 24)).heap.size) := HZ.out.lt
  have HSL := hid (And.intro (sx.later HB.out) (sy.later HB.out))
  have HC := hid (rcheck_any n _ xs _ ys ((w.alloc (.cells #[.bool n, .slice a xs.length ca, .slice b ys.length cb] 24)).alloc (.cells #[.bool false, .slice none 0 0, .slice none 0 0] 24)) HSL.out.1 HSL.out.2)
  rw [hx] at HC
  have HP : Hid (0 < val ys ∧ gcdI (val xs) (val ys) = 1) := ⟨by omega, g1⟩
  clear sx sy hx tx ty g1 py
  go_enter Tryz.func24, Tryz.ntmps24
  go_wp2_with fail
  refine Calls.mono HC.out ?_
  generalize ((w.alloc (.cells #[.bool n, .slice a xs.length ca, .slice b ys.length cb] 24)).alloc (.cells #[.bool false, .slice none 0 0, .slice none 0 0] 24)) = X at *
  rintro e w1 ⟨rfl, hb1⟩
  have HB1 := hid hb1
  have hb1d : Below X.heap.size X w1.drew := hb1.drew
  have HK : Hid (∀ V, Below X.heap.size X V → V.cell? ⟨w.heap.size, 0, none⟩ = some (.bool n) ∧ V.cell? ⟨w.heap.size, 1, none⟩ = some (.slice a xs.length ca) ∧ V.cell? ⟨w.heap.size, 2, none⟩ = some (.slice b ys.length cb)) := fun V hb => by
    obtain ⟨p0, p1, p2, _⟩ := res_box3 HN.out hb
    exact ⟨p0, p1, p2⟩
  have hs0 := HK.out _ hb1d
  have H1 := hid (fun ww (hv : Below X.heap.size X ww) => told1_in _ HK.out ww hv (trim1_any _ xs ww (HSL.out.1.later hv) (by omega)))
  have H2 := hid (fun ww (hv : Below X.heap.size X ww) => told1_in _ HK.out ww hv (trim1_any _ ys ww (HSL.out.2.later hv) (by omega)))
  have HTL := hid (fun (ww : World) (hb : Below X.heap.size X ww) (a4 : Option Addr) (z4 : List Int) (c4 : Nat) (a5 : Option Addr) (z5 : List Int) (c5 : Nat) (g1 : One X ww (.slice a4 z4.length c4) z4 (val xs)) (g2 : One X ww (.slice a5 z5.length c5) z5 (val ys)) (hc : Cut X (.slice a4 z4.length c4) (.slice a5 z5.length c5) ww) => rtold_cut (n := !n) (q := -(rq n xs ys)) _ HK.out hb g1 g2 hc HP.out.1 HP.out.2 rq_neg)
  have hq0 : w.heap.size + 1 ≠ w.heap.size := by omega
  clear hb1 HC
  go_wp2_with fail
  go_region_held3 (fun V : World => V.cell? ⟨w.heap.size, 0, none⟩ = some (.bool n) ∧ V.cell? ⟨w.heap.size, 1, none⟩ = some (.slice a xs.length ca) ∧ V.cell? ⟨w.heap.size, 2, none⟩ = some (.slice b ys.length cb)) (first | exact hs9 | exact hs5 | exact hs4 | exact hs0 | (simp [hs9, World.cell?_setCell_far]))
    (first
      | (go_at_call 43; with_reducible refine Calls.mono (HTL.out _ hb5 _ _ _ _ _ _ (HE4.out.1.later HS5.out) HE5.out.1 (cut_two hb1d.size HS4.out.size HS5.out.size HE4.out.2 HE5.out.2)) ?_; rintro e w9 ⟨k9, a8, z8, c8, a9, z9, c9, code, rfl, HE9, hs9, hb9⟩; obtain ⟨y0, y1, y2, f0, f1, f2⟩ := res_box3 HZ.out hb9)
      | (go_at_call 44; with_reducible refine Calls.mono (H2.out _ hb4) ?_; rintro e w5 ⟨a5, z5, c5, rfl, HE5, hs5, hb5, HS5⟩)
      | (go_at_call 44; with_reducible refine Calls.mono (H1.out _ hb1d) ?_; rintro e w4 ⟨a4, z4, c4, rfl, HE4, hs4, hb4, HS4⟩))
  all_goals
    have HBW := hid (bt HB.out hb9)
    have HR := hid HE9.out
    clear HK H1 H2 HTL HE4 HE5 HE9 HS4 HS5 hs0 hs4 hs5 hs9 hb1d hb4 hb5 hb9 HP
    go_wp2_with fail
    refine bodyPost_ret (v := .tuple #[.agg #[.bool k9, .slice a8 z8.length c8, .slice a9 z9.length c9], .int .i64 code]) (by simp [results, Tryz.results24, go_sem, y0, y1, y2]) rfl ?_
    exact RToldA.put HR.out (w.heap.size + 1) HXS.out (by omega) HBW.out _ _ _
theorem rNeg_full (n : Bool) (a : Option Addr) (ca : Nat) (xs : List Int) (b : Option Addr) (cb : Nat) (ys : List Int) (w : World) (sx : Sl w (.slice a xs.length ca) xs) (sy : Sl w (.slice b ys.length cb) ys) :
    Calls Tryz.prog 24 #[.agg #[.bool n, .slice a xs.length ca, .slice b ys.length cb]] w (RToldA w (rchk n xs ys) (-(rq n xs ys))) := by
  by_cases he : rchk n xs ys = 0
  · rw [he]; exact rNeg_ok n a ca xs b cb ys w sx sy he
  · exact rNeg_err n a ca xs b cb ys w sx sy he _
end Go.Proofs.YtoigpodamciehaaGreatDoor

/- Fractions: Same, Sign; slices.Equal of words. -/
namespace Go.Proofs.YtoigpodamciehaaGreatDoor
open Go.RowKit
set_option linter.unusedVariables false

set_option maxHeartbeats 800000 in
set_option maxRecDepth 100000 in
theorem slEqual_any (a : Option Addr) (n cap : Nat) (xs : List Int) (b : Option Addr) (m cap' : Nat) (ys : List Int) (w : World) (h : Reads w w.heap.size a n cap xs) (g : Reads w w.heap.size b m cap' ys) (hn : n ≤ 281474976710656) (hm : m ≤ 281474976710656) :
    Calls Tryz.prog 35 #[.slice a n cap, .slice b m cap'] w fun e w' => e = .returned (.bool (decide (xs = ys))) ∧ Below w.heap.size w w' := by
  obtain ⟨hl, hw, hc, hcap⟩ := h
  obtain ⟨gl, gw, gc, gcap⟩ := g
  by_cases hnm : n = m
  · subst hnm
    have htt : ((n : Int) != (n : Int)) = false := by simp
    rcases hc with h0 | ⟨b1, o1, rfl, hb1, hc⟩
    · subst h0
      have hx : xs = [] := List.eq_nil_of_length_eq_zero hl
      have hy : ys = [] := List.eq_nil_of_length_eq_zero gl
      subst hx; subst hy
      go_enter Tryz.func35, Tryz.ntmps35
      go_wp2
      refine wp_loop_rounds 1 ?_
      rw [rounds_succ]
      go_wp2
      go_ret
      exact ⟨rfl, Below.refl _ _⟩
    · rcases gc with g0 | ⟨b2, o2, rfl, hb2, gc⟩
      · subst g0
        have hx : xs = [] := List.eq_nil_of_length_eq_zero hl
        have hy : ys = [] := List.eq_nil_of_length_eq_zero gl
        subst hx; subst hy
        go_enter Tryz.func35, Tryz.ntmps35
        go_wp2
        refine wp_loop_rounds 1 ?_
        rw [rounds_succ]
        go_wp2
        go_ret
        exact ⟨rfl, Below.refl _ _⟩
      · have HL : Hid (xs.length = n ∧ ys.length = n) := ⟨hl, gl⟩
        clear hl gl
        go_enter Tryz.func35, Tryz.ntmps35
        go_wp2
        go_loopw [13] (fun t wr => ∃ k : Nat, k ≤ n ∧ t = .int .i64 k ∧ xs.take k = ys.take k ∧ Below w.heap.size w wr) (fun t _ => n - (intOf t).toNat)
        case atStart => exact ⟨0, Nat.zero_le _, rfl, rfl, Below.refl _ _⟩
        case round =>
          obtain ⟨k, hk, rfl, hs, hbel⟩ := hrel
          have HS : Hid (xs.take k = ys.take k) := hs
          clear hs
          by_cases hlt : k < n
          · have hcx : wr.cell? ⟨b1, o1 + k, none⟩ = some (.int .u32 (xs[k]?.getD 0)) := (hbel.cell (p := ⟨b1, o1 + k, none⟩) hb1).trans (hc k hlt)
            have hcy : wr.cell? ⟨b2, o2 + k, none⟩ = some (.int .u32 (ys[k]?.getD 0)) := (hbel.cell (p := ⟨b2, o2 + k, none⟩) hb2).trans (gc k hlt)
            by_cases he : xs[k]?.getD 0 = ys[k]?.getD 0
            · have hne : (xs[k]?.getD 0 != ys[k]?.getD 0) = false := by simp [he]
              have HE : Hid (xs[k]?.getD 0 = ys[k]?.getD 0) := he
              clear he
              go_wp2
              go_region

              all_goals go_wp2

              all_goals
                go_roundw
                case rel => exact ⟨k + 1, by omega, by go_num, take_same HS.out (by have := HL.out; omega) (by have := HL.out; omega) HE.out, hbel.drew⟩
                case measure => simp [intOf]; omega
            · have hne : (xs[k]?.getD 0 != ys[k]?.getD 0) = true := by simp [he]
              have HE : Hid (¬ xs[k]?.getD 0 = ys[k]?.getD 0) := he
              clear he
              go_wp2
              go_region
              all_goals go_wp2
              all_goals
                go_ret
                exact ⟨ret_bool (decide_eq_false fun e => HE.out (by rw [e])).symm, hbel.drew⟩
          · have hkn : k = n := by omega
            subst hkn
            go_wp2
            go_ret
            exact ⟨ret_bool (decide_eq_true (by have := HS.out; have hl := HL.out; rwa [List.take_of_length_le (by omega), List.take_of_length_le (by omega)] at this)).symm, hbel⟩
  · have hne : ((n : Int) != (m : Int)) = true := by simp; omega
    have hd : decide (xs = ys) = false := decide_eq_false fun e => hnm (by rw [← hl, ← gl, e])
    have HD : Hid (decide (xs = ys) = false) := hd
    clear hd hc gc
    go_enter Tryz.func35, Tryz.ntmps35
    go_wp2
    go_ret
    exact ⟨ret_bool HD.out.symm, Below.refl _ _⟩

/-- What Sign tells. -/
def rsgn (n : Bool) (xs ys : List Int) : Int := if rchk n xs ys = 0 then (if xs.length = 0 then 0 else if n then -1 else 1) else 0

set_option maxHeartbeats 1600000 in
set_option maxRecDepth 100000 in
theorem rSign_any (n : Bool) (a : Option Addr) (ca : Nat) (xs : List Int) (b : Option Addr) (cb : Nat) (ys : List Int) (w : World) (sx : Sl w (.slice a xs.length ca) xs) (sy : Sl w (.slice b ys.length cb) ys) :
    Calls Tryz.prog 13 #[.agg #[.bool n, .slice a xs.length ca, .slice b ys.length cb]] w fun e w' => e = .returned (.int .i64 (rsgn n xs ys)) ∧ Below w.heap.size w w' := by
  have HB := hid (alloc_later w (.cells #[.bool n, .slice a xs.length ca, .slice b ys.length cb] 24))
  have HN := hid (Box.made w 24 #[.bool n, .slice a xs.length ca, .slice b ys.length cb])
  have HC := hid (rcheck_any n _ xs _ ys _ (sx.later HB.out) (sy.later HB.out))
  clear sx sy
  by_cases he : rchk n xs ys = 0
  · rw [he] at HC
    by_cases h0 : xs.length = 0
    · have HW : Hid (rsgn n xs ys = 0) := by show _ = _; unfold rsgn; rw [if_pos he, if_pos h0]
      rw [HW.out]
      have h0' : ((xs.length : Int) == 0) = true := by rw [h0]; rfl
      clear he h0
      go_enter Tryz.func13, Tryz.ntmps13
      go_wp2_with fail
      refine Calls.mono HC.out ?_
      rintro e w1 ⟨rfl, hb1⟩
      obtain ⟨p0, p1, p2, _⟩ := res_box3 HN.out hb1
      have HBN := hid (bt HB.out hb1)
      clear hb1
      go_wp2_with fail
      go_ret
      exact ⟨rfl, HBN.out⟩
    · have h0' : ((xs.length : Int) == 0) = false := beq_eq_false_iff_ne.2 (by omega)
      cases n with
      | false =>
        have HW : Hid (rsgn false xs ys = 1) := by show _ = _; unfold rsgn; rw [if_pos he, if_neg h0]; rfl
        rw [HW.out]
        clear he h0
        go_enter Tryz.func13, Tryz.ntmps13
        go_wp2_with fail
        refine Calls.mono HC.out ?_
        rintro e w1 ⟨rfl, hb1⟩
        obtain ⟨p0, p1, p2, _⟩ := res_box3 HN.out hb1
        have HBN := hid (bt HB.out hb1)
        clear hb1
        go_wp2_with fail
        go_ret
        exact ⟨rfl, HBN.out⟩
      | true =>
        have HW : Hid (rsgn true xs ys = -1) := by show _ = _; unfold rsgn; rw [if_pos he, if_neg h0]; rfl
        rw [HW.out]
        clear he h0
        go_enter Tryz.func13, Tryz.ntmps13
        go_wp2_with fail
        refine Calls.mono HC.out ?_
        rintro e w1 ⟨rfl, hb1⟩
        obtain ⟨p0, p1, p2, _⟩ := res_box3 HN.out hb1
        have HBN := hid (bt HB.out hb1)
        clear hb1
        go_wp2_with fail
        go_ret
        exact ⟨rfl, HBN.out⟩
  · have HW : Hid (rsgn n xs ys = 0) := by show _ = _; unfold rsgn; rw [if_neg he]
    rw [HW.out]
    obtain ⟨E, hE⟩ : ∃ E, rchk n xs ys = E := ⟨_, rfl⟩
    rw [hE] at HC he
    have he' : (E == 0) = false := beq_eq_false_iff_ne.2 he
    clear he hE
    go_enter Tryz.func13, Tryz.ntmps13
    go_wp2_with fail
    refine Calls.mono HC.out ?_
    rintro e w1 ⟨rfl, hb1⟩
    have HBN := hid (bt HB.out hb1)
    clear hb1
    go_wp2_with fail
    go_ret
    exact ⟨rfl, HBN.out⟩

theorem slEqual_sl (v u : Value) (xs ys : List Int) (w : World) (h : Sl w v xs) (g : Sl w u ys) (hn : xs.length ≤ 281474976710656) (hm : ys.length ≤ 281474976710656) :
    Calls Tryz.prog 35 #[v, u] w fun e w' => e = .returned (.bool (decide (xs = ys))) ∧ Below w.heap.size w w' := by
  obtain ⟨a, ca, rfl, hr⟩ := h
  obtain ⟨b, cb, rfl, gr⟩ := g
  exact slEqual_any a _ ca xs b _ cb ys w hr gr hn hm

set_option maxHeartbeats 1600000 in
set_option maxRecDepth 100000 in
theorem rSame_any (n : Bool) (a : Option Addr) (ca : Nat) (xs : List Int) (b : Option Addr) (cb : Nat) (ys : List Int) (m : Bool) (c : Option Addr) (cc : Nat) (us : List Int) (d : Option Addr) (cd : Nat) (vs : List Int) (w : World) (sx : Sl w (.slice a xs.length ca) xs) (sy : Sl w (.slice b ys.length cb) ys) (su : Sl w (.slice c us.length cc) us) (sv : Sl w (.slice d vs.length cd) vs) (lx : xs.length ≤ 281474976710656) (ly : ys.length ≤ 281474976710656) (lu : us.length ≤ 281474976710656) (lv : vs.length ≤ 281474976710656) :
    Calls Tryz.prog 17 #[.agg #[.bool n, .slice a xs.length ca, .slice b ys.length cb], .agg #[.bool m, .slice c us.length cc, .slice d vs.length cd]] w fun e w' => e = .returned (.bool (decide (n = m ∧ xs = us ∧ ys = vs))) ∧ Below w.heap.size w w' := by
  have HB : Hid (Below w.heap.size w ((w.alloc (.cells #[.bool n, .slice a xs.length ca, .slice b ys.length cb] 24)).alloc (.cells #[.bool m, .slice c us.length cc, .slice d vs.length cd] 24))) := bt (alloc_later _ _) (alloc_later _ _)
  have HN : Hid (Box ((w.alloc (.cells #[.bool n, .slice a xs.length ca, .slice b ys.length cb] 24)).alloc (.cells #[.bool m, .slice c us.length cc, .slice d vs.length cd] 24)) w.heap.size 24 #[.bool n, .slice a xs.length ca, .slice b ys.length cb]) := Box.later (Box.made w _ _) (alloc_later _ _) (by simp)
  have HM : Hid (Box ((w.alloc (.cells #[.bool n, .slice a xs.length ca, .slice b ys.length cb] 24)).alloc (.cells #[.bool m, .slice c us.length cc, .slice d vs.length cd] 24)) (w.heap.size + 1) 24 #[.bool m, .slice c us.length cc, .slice d vs.length cd]) := by
    have e := Box.made (w.alloc (.cells #[.bool n, .slice a xs.length ca, .slice b ys.length cb] 24)) 24 #[.bool m, .slice c us.length cc, .slice d vs.length cd]
    simp at e
    exact e
  have H1 := hid (slEqual_sl _ _ xs us ((w.alloc (.cells #[.bool n, .slice a xs.length ca, .slice b ys.length cb] 24)).alloc (.cells #[.bool m, .slice c us.length cc, .slice d vs.length cd] 24)) (sx.later HB.out) (su.later HB.out) lx lu)
  have H2 := hid (fun ww (hb : Below ((w.alloc (.cells #[.bool n, .slice a xs.length ca, .slice b ys.length cb] 24)).alloc (.cells #[.bool m, .slice c us.length cc, .slice d vs.length cd] 24)).heap.size ((w.alloc (.cells #[.bool n, .slice a xs.length ca, .slice b ys.length cb] 24)).alloc (.cells #[.bool m, .slice c us.length cc, .slice d vs.length cd] 24)) ww) => slEqual_sl _ _ ys vs ww ((sy.later HB.out).later hb) ((sv.later HB.out).later hb) ly lv)
  clear sx sy su sv
  by_cases h0 : n = m
  · subst h0
    have hbb : (n == n) = true := by simp
    by_cases h1 : xs = us
    · have HR : Hid (decide (n = n ∧ xs = us ∧ ys = vs) = decide (ys = vs)) := by show _ = _; simp [h1]
      rw [decide_eq_true h1] at H1
      rw [HR.out]
      clear h1
      go_enter Tryz.func17, Tryz.ntmps17
      go_wp2_with fail
      refine Calls.mono H1.out ?_
      generalize ((w.alloc (.cells #[.bool n, .slice a xs.length ca, .slice b ys.length cb] 24)).alloc (.cells #[.bool n, .slice c us.length cc, .slice d vs.length cd] 24)) = X at *
      rintro e w1 ⟨rfl, hb1⟩
      obtain ⟨p0, p1, p2, _⟩ := res_box3 HN.out hb1
      obtain ⟨q0, q1, q2, _⟩ := res_box3 HM.out hb1
      have HC := hid (H2.out w1 hb1)
      have HB1 := hid (bt HB.out hb1)
      clear hb1 H1 H2
      go_wp2_with fail
      refine Calls.mono HC.out ?_
      rintro e w2 ⟨rfl, hb2⟩
      have HBN := hid (bt HB1.out hb2)
      clear hb2 HC
      go_wp2_with fail
      go_ret
      exact ⟨rfl, HBN.out⟩
    · have HR : Hid (decide (n = n ∧ xs = us ∧ ys = vs) = false) := decide_eq_false (fun h => h1 h.2.1)
      rw [decide_eq_false h1] at H1
      rw [HR.out]
      clear h1
      go_enter Tryz.func17, Tryz.ntmps17
      go_wp2_with fail
      refine Calls.mono H1.out ?_
      rintro e w1 ⟨rfl, hb1⟩
      have HBN := hid (bt HB.out hb1)
      clear hb1 H1 H2
      go_wp2_with fail
      go_ret
      exact ⟨rfl, HBN.out⟩
  · have HR : Hid (decide (n = m ∧ xs = us ∧ ys = vs) = false) := decide_eq_false (fun h => h0 h.1)
    have hbb : (n == m) = false := by simp [h0]
    rw [HR.out]
    clear h0
    go_enter Tryz.func17, Tryz.ntmps17
    go_wp2_with fail
    go_ret
    exact ⟨rfl, HB.out⟩
end Go.Proofs.YtoigpodamciehaaGreatDoor

/- Fractions: ratio.compareSizes, Compare: of any fractions, good or refused. -/
namespace Go.Proofs.YtoigpodamciehaaGreatDoor
open Go.RowKit
set_option linter.unusedVariables false

theorem cmp_negs (x y : Int) : cmpI y x = cmpI (-x) (-y) := by
  by_cases h1 : y < x
  · rw [cmpI_lt h1, cmpI_lt (by omega)]
  · by_cases h2 : x < y
    · rw [cmpI_gt h2, cmpI_gt (by omega)]
    · obtain rfl : x = y := by omega
      unfold cmpI
      simp

set_option maxHeartbeats 3200000 in
set_option maxRecDepth 100000 in
theorem rsizes_any (n : Bool) (a : Option Addr) (ca : Nat) (xs : List Int) (b : Option Addr) (cb : Nat) (ys : List Int) (m : Bool) (c : Option Addr) (cc : Nat) (us : List Int) (d : Option Addr) (cd : Nat) (vs : List Int) (w : World) (sx : Sl w (.slice a xs.length ca) xs) (sy : Sl w (.slice b ys.length cb) ys) (su : Sl w (.slice c us.length cc) us) (sv : Sl w (.slice d vs.length cd) vs) (lx : xs.length ≤ 2048) (ly : ys.length ≤ 2048) (lu : us.length ≤ 2048) (lv : vs.length ≤ 2048) (tx : Trimmed xs) (ty : Trimmed ys) (tu : Trimmed us) (tv : Trimmed vs) :
    Calls Tryz.prog 51 #[.agg #[.bool n, .slice a xs.length ca, .slice b ys.length cb], .agg #[.bool m, .slice c us.length cc, .slice d vs.length cd]] w fun e w' => e = .returned (.int .i64 (cmpI (val xs * val vs) (val us * val ys))) ∧ Below w.heap.size w w' := by
  have wx := sx.wd
  have wy := sy.wd
  have wu := su.wd
  have wv := sv.wd
  have HB : Hid (Below w.heap.size w ((w.alloc (.cells #[.bool n, .slice a xs.length ca, .slice b ys.length cb] 24)).alloc (.cells #[.bool m, .slice c us.length cc, .slice d vs.length cd] 24))) := bt (alloc_later _ _) (alloc_later _ _)
  have HN : Hid (Box ((w.alloc (.cells #[.bool n, .slice a xs.length ca, .slice b ys.length cb] 24)).alloc (.cells #[.bool m, .slice c us.length cc, .slice d vs.length cd] 24)) w.heap.size 24 #[.bool n, .slice a xs.length ca, .slice b ys.length cb]) := Box.later (Box.made w _ _) (alloc_later _ _) (by simp)
  have HM : Hid (Box ((w.alloc (.cells #[.bool n, .slice a xs.length ca, .slice b ys.length cb] 24)).alloc (.cells #[.bool m, .slice c us.length cc, .slice d vs.length cd] 24)) (w.heap.size + 1) 24 #[.bool m, .slice c us.length cc, .slice d vs.length cd]) := by
    have e := Box.made (w.alloc (.cells #[.bool n, .slice a xs.length ca, .slice b ys.length cb] 24)) 24 #[.bool m, .slice c us.length cc, .slice d vs.length cd]
    simp at e
    exact e
  have HSL := hid (And.intro (sx.later HB.out) (And.intro (sy.later HB.out) (And.intro (su.later HB.out) (sv.later HB.out))))
  have HL : Hid (val xs * val vs < 4294967296 ^ 4096 ∧ val us * val ys < 4294967296 ^ 4096) := ⟨mul_4096 (val_nonneg wx) (below2048 wx lx) (val_nonneg wv) (below2048 wv lv), mul_4096 (val_nonneg wu) (below2048 wu lu) (val_nonneg wy) (below2048 wy ly)⟩
  have HTT := hid (And.intro tx (And.intro ty (And.intro tu tv)))
  obtain ⟨R, hR⟩ : ∃ R, cmpI (val xs * val vs) (val us * val ys) = R := ⟨_, rfl⟩
  rw [hR]
  have HR := hid hR
  clear sx sy su sv tx ty tu tv wx wy wu wv hR
  go_enter Tryz.func51, Tryz.ntmps51
  go_wp2_with fail
  generalize ((w.alloc (.cells #[.bool n, .slice a xs.length ca, .slice b ys.length cb] 24)).alloc (.cells #[.bool m, .slice c us.length cc, .slice d vs.length cd] 24)) = X at *
  have HK : Hid (∀ V, Below X.heap.size X V → V.cell? ⟨w.heap.size, 0, none⟩ = some (.bool n) ∧ V.cell? ⟨w.heap.size, 1, none⟩ = some (.slice a xs.length ca) ∧ V.cell? ⟨w.heap.size, 2, none⟩ = some (.slice b ys.length cb) ∧ V.cell? ⟨w.heap.size + 1, 0, none⟩ = some (.bool m) ∧ V.cell? ⟨w.heap.size + 1, 1, none⟩ = some (.slice c us.length cc) ∧ V.cell? ⟨w.heap.size + 1, 2, none⟩ = some (.slice d vs.length cd)) := fun V hb => by
    obtain ⟨p0, p1, p2, _⟩ := res_box3 HN.out hb
    obtain ⟨q0, q1, q2, _⟩ := res_box3 HM.out hb
    exact ⟨p0, p1, p2, q0, q1, q2⟩
  have hs0 := HK.out _ (Below.drew (Below.refl _ X))
  have HBR := hid (Below.drew (Below.refl X.heap.size X))
  have H1 := hid (fun ww (hv : Below X.heap.size X ww) => told1_in _ HK.out ww hv (rprod_any _ _ xs vs ww (HSL.out.1.later hv) (HSL.out.2.2.2.later hv) (by omega) HTT.out.1 HTT.out.2.2.2))
  have H2 := hid (fun ww (hv : Below X.heap.size X ww) => told1_in _ HK.out ww hv (rprod_any _ _ us ys ww (HSL.out.2.2.1.later hv) (HSL.out.2.1.later hv) (by omega) HTT.out.2.2.1 HTT.out.2.1))
  have H3 : Hid (∀ ww, Below X.heap.size X ww → ∀ a4 z4 c4 a5 z5 c5, One X ww (.slice a4 (List.length z4) c4) z4 (val xs * val vs) → One X ww (.slice a5 (List.length z5) c5) z5 (val us * val ys) → Calls Tryz.prog 69 #[.slice a4 z4.length c4, .slice a5 z5.length c5] ww fun e w' => e = .returned (.int .i64 R) ∧ Hid (Below X.heap.size X w') ∧ w'.cell? ⟨w.heap.size, 0, none⟩ = some (.bool n) ∧ w'.cell? ⟨w.heap.size, 1, none⟩ = some (.slice a xs.length ca) ∧ w'.cell? ⟨w.heap.size, 2, none⟩ = some (.slice b ys.length cb) ∧ w'.cell? ⟨w.heap.size + 1, 0, none⟩ = some (.bool m) ∧ w'.cell? ⟨w.heap.size + 1, 1, none⟩ = some (.slice c us.length cc) ∧ w'.cell? ⟨w.heap.size + 1, 2, none⟩ = some (.slice d vs.length cd)) := fun ww hv a4 z4 c4 a5 z5 c5 h4 h5 => by
    have e := compare_sl _ _ z4 z5 ww h4.sl h5.sl (by have := own_len h4 HL.out.1; omega) (by have := own_len h5 HL.out.2; omega)
    rw [h4.2.2.2, h5.2.2.2, HR.out] at e
    refine Calls.mono e ?_
    rintro e w' ⟨rfl, hb⟩
    exact ⟨rfl, (bt hv hb), HK.out w' (bt hv hb)⟩
  clear HSL HTT HL HR
  go_region_held3 (fun V : World => V.cell? ⟨w.heap.size, 0, none⟩ = some (.bool n) ∧ V.cell? ⟨w.heap.size, 1, none⟩ = some (.slice a xs.length ca) ∧ V.cell? ⟨w.heap.size, 2, none⟩ = some (.slice b ys.length cb) ∧ V.cell? ⟨w.heap.size + 1, 0, none⟩ = some (.bool m) ∧ V.cell? ⟨w.heap.size + 1, 1, none⟩ = some (.slice c us.length cc) ∧ V.cell? ⟨w.heap.size + 1, 2, none⟩ = some (.slice d vs.length cd)) (first | exact hs9 | exact hs5 | exact hs4 | exact hs0)
    (first
      | (go_at_call 69; with_reducible refine Calls.mono (H3.out _ hb5 _ _ _ _ _ _ (HE4.out.1.later HS5.out) HE5.out.1) ?_; rintro e w9 ⟨rfl, HE9, hs9⟩)
      | (go_at_call 50; with_reducible refine Calls.mono (H2.out _ hb4) ?_; rintro e w5 ⟨a5, z5, c5, rfl, HE5, hs5, hb5, HS5⟩)
      | (go_at_call 50; with_reducible refine Calls.mono (H1.out _ HBR.out) ?_; rintro e w4 ⟨a4, z4, c4, rfl, HE4, hs4, hb4, HS4⟩))
  all_goals
    have HBN := hid (bt HB.out HE9.out)
    clear HK H1 H2 H3 HE4 HE5 HE9 HS4 HS5 hs0 hs4 hs5 hs9 hb4 hb5 HBR
    go_wp2_with fail
    go_ret
    exact ⟨rfl, HBN.out⟩
/-- What Compare tells. -/
def rcmp (n : Bool) (xs ys : List Int) (m : Bool) (us vs : List Int) : Int := if rboth n xs ys m us vs = 0 then cmpI (wval n xs * val vs) (wval m us * val ys) else 0

set_option maxHeartbeats 3200000 in
set_option maxRecDepth 100000 in
theorem rCompare_ff (a : Option Addr) (ca : Nat) (xs : List Int) (b : Option Addr) (cb : Nat) (ys : List Int) (c : Option Addr) (cc : Nat) (us : List Int) (d : Option Addr) (cd : Nat) (vs : List Int) (w : World) (sx : Sl w (.slice a xs.length ca) xs) (sy : Sl w (.slice b ys.length cb) ys) (su : Sl w (.slice c us.length cc) us) (sv : Sl w (.slice d vs.length cd) vs) (hx : rchk false xs ys = 0) (hy : rchk false us vs = 0) :
    Calls Tryz.prog 29 #[.agg #[.bool false, .slice a xs.length ca, .slice b ys.length cb], .agg #[.bool false, .slice c us.length cc, .slice d vs.length cd]] w fun e w' => e = .returned (.tuple #[.int .i64 (cmpI (wval false xs * val vs) (wval false us * val ys)), .int .i64 0]) ∧ Below w.heap.size w w' := by
  obtain ⟨lx, ly, tx, ty, y0, nx, _⟩ := rchk_ok hx
  obtain ⟨lu, lv, tu, tv, v0, nu, _⟩ := rchk_ok hy
  have wx := sx.wd
  have wu := su.wd
  have py := val_pos' sy.wd ty y0
  have pv := val_pos' sv.wd tv v0
  have HB : Hid (Below w.heap.size w ((w.alloc (.cells #[.bool false, .slice a xs.length ca, .slice b ys.length cb] 24)).alloc (.cells #[.bool false, .slice c us.length cc, .slice d vs.length cd] 24))) := bt (alloc_later _ _) (alloc_later _ _)
  have HN : Hid (Box ((w.alloc (.cells #[.bool false, .slice a xs.length ca, .slice b ys.length cb] 24)).alloc (.cells #[.bool false, .slice c us.length cc, .slice d vs.length cd] 24)) w.heap.size 24 #[.bool false, .slice a xs.length ca, .slice b ys.length cb]) := Box.later (Box.made w _ _) (alloc_later _ _) (by simp)
  have HM : Hid (Box ((w.alloc (.cells #[.bool false, .slice a xs.length ca, .slice b ys.length cb] 24)).alloc (.cells #[.bool false, .slice c us.length cc, .slice d vs.length cd] 24)) (w.heap.size + 1) 24 #[.bool false, .slice c us.length cc, .slice d vs.length cd]) := by
    have e := Box.made (w.alloc (.cells #[.bool false, .slice a xs.length ca, .slice b ys.length cb] 24)) 24 #[.bool false, .slice c us.length cc, .slice d vs.length cd]
    simp at e
    exact e
  have HSL := hid (And.intro (sx.later HB.out) (And.intro (sy.later HB.out) (And.intro (su.later HB.out) (sv.later HB.out))))
  have HC := hid (rcheckBoth_any false _ xs _ ys false _ us _ vs ((w.alloc (.cells #[.bool false, .slice a xs.length ca, .slice b ys.length cb] 24)).alloc (.cells #[.bool false, .slice c us.length cc, .slice d vs.length cd] 24)) HSL.out.1 HSL.out.2.1 HSL.out.2.2.1 HSL.out.2.2.2)
  rw [rboth_good hx hy] at HC
  have HA := hid (fun ww (hb : Below ((w.alloc (.cells #[.bool false, .slice a xs.length ca, .slice b ys.length cb] 24)).alloc (.cells #[.bool false, .slice c us.length cc, .slice d vs.length cd] 24)).heap.size ((w.alloc (.cells #[.bool false, .slice a xs.length ca, .slice b ys.length cb] 24)).alloc (.cells #[.bool false, .slice c us.length cc, .slice d vs.length cd] 24)) ww) => rsizes_any false a ca xs b cb ys false c cc us d cd vs ww (HSL.out.1.later hb) (HSL.out.2.1.later hb) (HSL.out.2.2.1.later hb) (HSL.out.2.2.2.later hb) lx ly lu lv tx ty tu tv)
  have heq : cmpI (val xs * val vs) (val us * val ys) = cmpI (wval false xs * val vs) (wval false us * val ys) := rfl
  rw [heq] at HA
  obtain ⟨R, hR⟩ : ∃ R, cmpI (wval false xs * val vs) (wval false us * val ys) = R := ⟨_, rfl⟩
  rw [hR] at HA ⊢
  clear sx sy su sv hx hy tx ty tu tv wx wu py pv heq hR lx ly lu lv y0 v0 nx nu
  go_enter Tryz.func29, Tryz.ntmps29
  go_wp2_with fail
  refine Calls.mono HC.out ?_
  generalize ((w.alloc (.cells #[.bool false, .slice a xs.length ca, .slice b ys.length cb] 24)).alloc (.cells #[.bool false, .slice c us.length cc, .slice d vs.length cd] 24)) = X at *
  rintro e w1 ⟨rfl, hb1⟩
  obtain ⟨p0, p1, p2, _⟩ := res_box3 HN.out hb1
  obtain ⟨q0, q1, q2, _⟩ := res_box3 HM.out hb1
  have HCA := hid (HA.out w1 hb1)
  have HB1 := hid (bt HB.out hb1)
  clear hb1 HC HA
  go_wp2_with fail
  refine Calls.mono HCA.out ?_
  rintro e w2 ⟨rfl, hb2⟩
  have HBN := hid (bt HB1.out hb2)
  clear hb2 HCA
  go_wp2_with fail
  go_ret2
  exact ⟨rfl, HBN.out⟩

set_option maxHeartbeats 3200000 in
set_option maxRecDepth 100000 in
theorem rCompare_tt (a : Option Addr) (ca : Nat) (xs : List Int) (b : Option Addr) (cb : Nat) (ys : List Int) (c : Option Addr) (cc : Nat) (us : List Int) (d : Option Addr) (cd : Nat) (vs : List Int) (w : World) (sx : Sl w (.slice a xs.length ca) xs) (sy : Sl w (.slice b ys.length cb) ys) (su : Sl w (.slice c us.length cc) us) (sv : Sl w (.slice d vs.length cd) vs) (hx : rchk true xs ys = 0) (hy : rchk true us vs = 0) :
    Calls Tryz.prog 29 #[.agg #[.bool true, .slice a xs.length ca, .slice b ys.length cb], .agg #[.bool true, .slice c us.length cc, .slice d vs.length cd]] w fun e w' => e = .returned (.tuple #[.int .i64 (cmpI (wval true xs * val vs) (wval true us * val ys)), .int .i64 0]) ∧ Below w.heap.size w w' := by
  obtain ⟨lx, ly, tx, ty, y0, nx, _⟩ := rchk_ok hx
  obtain ⟨lu, lv, tu, tv, v0, nu, _⟩ := rchk_ok hy
  have wx := sx.wd
  have wu := su.wd
  have py := val_pos' sy.wd ty y0
  have pv := val_pos' sv.wd tv v0
  have HB : Hid (Below w.heap.size w ((w.alloc (.cells #[.bool true, .slice a xs.length ca, .slice b ys.length cb] 24)).alloc (.cells #[.bool true, .slice c us.length cc, .slice d vs.length cd] 24))) := bt (alloc_later _ _) (alloc_later _ _)
  have HN : Hid (Box ((w.alloc (.cells #[.bool true, .slice a xs.length ca, .slice b ys.length cb] 24)).alloc (.cells #[.bool true, .slice c us.length cc, .slice d vs.length cd] 24)) w.heap.size 24 #[.bool true, .slice a xs.length ca, .slice b ys.length cb]) := Box.later (Box.made w _ _) (alloc_later _ _) (by simp)
  have HM : Hid (Box ((w.alloc (.cells #[.bool true, .slice a xs.length ca, .slice b ys.length cb] 24)).alloc (.cells #[.bool true, .slice c us.length cc, .slice d vs.length cd] 24)) (w.heap.size + 1) 24 #[.bool true, .slice c us.length cc, .slice d vs.length cd]) := by
    have e := Box.made (w.alloc (.cells #[.bool true, .slice a xs.length ca, .slice b ys.length cb] 24)) 24 #[.bool true, .slice c us.length cc, .slice d vs.length cd]
    simp at e
    exact e
  have HSL := hid (And.intro (sx.later HB.out) (And.intro (sy.later HB.out) (And.intro (su.later HB.out) (sv.later HB.out))))
  have HC := hid (rcheckBoth_any true _ xs _ ys true _ us _ vs ((w.alloc (.cells #[.bool true, .slice a xs.length ca, .slice b ys.length cb] 24)).alloc (.cells #[.bool true, .slice c us.length cc, .slice d vs.length cd] 24)) HSL.out.1 HSL.out.2.1 HSL.out.2.2.1 HSL.out.2.2.2)
  rw [rboth_good hx hy] at HC
  have HA := hid (fun ww (hb : Below ((w.alloc (.cells #[.bool true, .slice a xs.length ca, .slice b ys.length cb] 24)).alloc (.cells #[.bool true, .slice c us.length cc, .slice d vs.length cd] 24)).heap.size ((w.alloc (.cells #[.bool true, .slice a xs.length ca, .slice b ys.length cb] 24)).alloc (.cells #[.bool true, .slice c us.length cc, .slice d vs.length cd] 24)) ww) => rsizes_any true c cc us d cd vs true a ca xs b cb ys ww (HSL.out.2.2.1.later hb) (HSL.out.2.2.2.later hb) (HSL.out.1.later hb) (HSL.out.2.1.later hb) lu lv lx ly tu tv tx ty)
  have heq : cmpI (val us * val ys) (val xs * val vs) = cmpI (wval true xs * val vs) (wval true us * val ys) := by
    show _ = cmpI (-(val xs) * val vs) (-(val us) * val ys)
    rw [Int.neg_mul, Int.neg_mul]
    exact cmp_negs _ _
  rw [heq] at HA
  obtain ⟨R, hR⟩ : ∃ R, cmpI (wval true xs * val vs) (wval true us * val ys) = R := ⟨_, rfl⟩
  rw [hR] at HA ⊢
  clear sx sy su sv hx hy tx ty tu tv wx wu py pv heq hR lx ly lu lv y0 v0 nx nu
  go_enter Tryz.func29, Tryz.ntmps29
  go_wp2_with fail
  refine Calls.mono HC.out ?_
  generalize ((w.alloc (.cells #[.bool true, .slice a xs.length ca, .slice b ys.length cb] 24)).alloc (.cells #[.bool true, .slice c us.length cc, .slice d vs.length cd] 24)) = X at *
  rintro e w1 ⟨rfl, hb1⟩
  obtain ⟨p0, p1, p2, _⟩ := res_box3 HN.out hb1
  obtain ⟨q0, q1, q2, _⟩ := res_box3 HM.out hb1
  have HCA := hid (HA.out w1 hb1)
  have HB1 := hid (bt HB.out hb1)
  clear hb1 HC HA
  go_wp2_with fail
  refine Calls.mono HCA.out ?_
  rintro e w2 ⟨rfl, hb2⟩
  have HBN := hid (bt HB1.out hb2)
  clear hb2 HCA
  go_wp2_with fail
  go_ret2
  exact ⟨rfl, HBN.out⟩

set_option maxHeartbeats 3200000 in
set_option maxRecDepth 100000 in
theorem rCompare_tf (a : Option Addr) (ca : Nat) (xs : List Int) (b : Option Addr) (cb : Nat) (ys : List Int) (c : Option Addr) (cc : Nat) (us : List Int) (d : Option Addr) (cd : Nat) (vs : List Int) (w : World) (sx : Sl w (.slice a xs.length ca) xs) (sy : Sl w (.slice b ys.length cb) ys) (su : Sl w (.slice c us.length cc) us) (sv : Sl w (.slice d vs.length cd) vs) (hx : rchk true xs ys = 0) (hy : rchk false us vs = 0) :
    Calls Tryz.prog 29 #[.agg #[.bool true, .slice a xs.length ca, .slice b ys.length cb], .agg #[.bool false, .slice c us.length cc, .slice d vs.length cd]] w fun e w' => e = .returned (.tuple #[.int .i64 (cmpI (wval true xs * val vs) (wval false us * val ys)), .int .i64 0]) ∧ Below w.heap.size w w' := by
  obtain ⟨lx, ly, tx, ty, y0, nx, _⟩ := rchk_ok hx
  obtain ⟨lu, lv, tu, tv, v0, nu, _⟩ := rchk_ok hy
  have wx := sx.wd
  have wu := su.wd
  have py := val_pos' sy.wd ty y0
  have pv := val_pos' sv.wd tv v0
  have HB : Hid (Below w.heap.size w ((w.alloc (.cells #[.bool true, .slice a xs.length ca, .slice b ys.length cb] 24)).alloc (.cells #[.bool false, .slice c us.length cc, .slice d vs.length cd] 24))) := bt (alloc_later _ _) (alloc_later _ _)
  have HN : Hid (Box ((w.alloc (.cells #[.bool true, .slice a xs.length ca, .slice b ys.length cb] 24)).alloc (.cells #[.bool false, .slice c us.length cc, .slice d vs.length cd] 24)) w.heap.size 24 #[.bool true, .slice a xs.length ca, .slice b ys.length cb]) := Box.later (Box.made w _ _) (alloc_later _ _) (by simp)
  have HM : Hid (Box ((w.alloc (.cells #[.bool true, .slice a xs.length ca, .slice b ys.length cb] 24)).alloc (.cells #[.bool false, .slice c us.length cc, .slice d vs.length cd] 24)) (w.heap.size + 1) 24 #[.bool false, .slice c us.length cc, .slice d vs.length cd]) := by
    have e := Box.made (w.alloc (.cells #[.bool true, .slice a xs.length ca, .slice b ys.length cb] 24)) 24 #[.bool false, .slice c us.length cc, .slice d vs.length cd]
    simp at e
    exact e
  have HSL := hid (And.intro (sx.later HB.out) (And.intro (sy.later HB.out) (And.intro (su.later HB.out) (sv.later HB.out))))
  have HC := hid (rcheckBoth_any true _ xs _ ys false _ us _ vs ((w.alloc (.cells #[.bool true, .slice a xs.length ca, .slice b ys.length cb] 24)).alloc (.cells #[.bool false, .slice c us.length cc, .slice d vs.length cd] 24)) HSL.out.1 HSL.out.2.1 HSL.out.2.2.1 HSL.out.2.2.2)
  rw [rboth_good hx hy] at HC
  have hR : cmpI (wval true xs * val vs) (wval false us * val ys) = -1 := by
    have h1 := val_pos' wx tx (nx.elim (fun e => by cases e) id)
    have h2 := val_nonneg wu
    have h3 := Int.mul_pos (a := val xs) (b := val vs) (by omega) (by omega)
    have h4 := Int.mul_nonneg h2 (show 0 ≤ val ys by omega)
    show cmpI (-(val xs) * val vs) (val us * val ys) = -1
    rw [Int.neg_mul]
    exact cmpI_lt (by omega)
  rw [hR]
  clear sx sy su sv hx hy tx ty tu tv wx wu py pv hR lx ly lu lv y0 v0 nx nu
  go_enter Tryz.func29, Tryz.ntmps29
  go_wp2_with fail
  refine Calls.mono HC.out ?_
  generalize ((w.alloc (.cells #[.bool true, .slice a xs.length ca, .slice b ys.length cb] 24)).alloc (.cells #[.bool false, .slice c us.length cc, .slice d vs.length cd] 24)) = X at *
  rintro e w1 ⟨rfl, hb1⟩
  obtain ⟨p0, p1, p2, _⟩ := res_box3 HN.out hb1
  obtain ⟨q0, q1, q2, _⟩ := res_box3 HM.out hb1
  have HBN := hid (bt HB.out hb1)
  clear hb1 HC
  go_wp2_with fail
  go_ret2
  exact ⟨rfl, HBN.out⟩

set_option maxHeartbeats 3200000 in
set_option maxRecDepth 100000 in
theorem rCompare_ft (a : Option Addr) (ca : Nat) (xs : List Int) (b : Option Addr) (cb : Nat) (ys : List Int) (c : Option Addr) (cc : Nat) (us : List Int) (d : Option Addr) (cd : Nat) (vs : List Int) (w : World) (sx : Sl w (.slice a xs.length ca) xs) (sy : Sl w (.slice b ys.length cb) ys) (su : Sl w (.slice c us.length cc) us) (sv : Sl w (.slice d vs.length cd) vs) (hx : rchk false xs ys = 0) (hy : rchk true us vs = 0) :
    Calls Tryz.prog 29 #[.agg #[.bool false, .slice a xs.length ca, .slice b ys.length cb], .agg #[.bool true, .slice c us.length cc, .slice d vs.length cd]] w fun e w' => e = .returned (.tuple #[.int .i64 (cmpI (wval false xs * val vs) (wval true us * val ys)), .int .i64 0]) ∧ Below w.heap.size w w' := by
  obtain ⟨lx, ly, tx, ty, y0, nx, _⟩ := rchk_ok hx
  obtain ⟨lu, lv, tu, tv, v0, nu, _⟩ := rchk_ok hy
  have wx := sx.wd
  have wu := su.wd
  have py := val_pos' sy.wd ty y0
  have pv := val_pos' sv.wd tv v0
  have HB : Hid (Below w.heap.size w ((w.alloc (.cells #[.bool false, .slice a xs.length ca, .slice b ys.length cb] 24)).alloc (.cells #[.bool true, .slice c us.length cc, .slice d vs.length cd] 24))) := bt (alloc_later _ _) (alloc_later _ _)
  have HN : Hid (Box ((w.alloc (.cells #[.bool false, .slice a xs.length ca, .slice b ys.length cb] 24)).alloc (.cells #[.bool true, .slice c us.length cc, .slice d vs.length cd] 24)) w.heap.size 24 #[.bool false, .slice a xs.length ca, .slice b ys.length cb]) := Box.later (Box.made w _ _) (alloc_later _ _) (by simp)
  have HM : Hid (Box ((w.alloc (.cells #[.bool false, .slice a xs.length ca, .slice b ys.length cb] 24)).alloc (.cells #[.bool true, .slice c us.length cc, .slice d vs.length cd] 24)) (w.heap.size + 1) 24 #[.bool true, .slice c us.length cc, .slice d vs.length cd]) := by
    have e := Box.made (w.alloc (.cells #[.bool false, .slice a xs.length ca, .slice b ys.length cb] 24)) 24 #[.bool true, .slice c us.length cc, .slice d vs.length cd]
    simp at e
    exact e
  have HSL := hid (And.intro (sx.later HB.out) (And.intro (sy.later HB.out) (And.intro (su.later HB.out) (sv.later HB.out))))
  have HC := hid (rcheckBoth_any false _ xs _ ys true _ us _ vs ((w.alloc (.cells #[.bool false, .slice a xs.length ca, .slice b ys.length cb] 24)).alloc (.cells #[.bool true, .slice c us.length cc, .slice d vs.length cd] 24)) HSL.out.1 HSL.out.2.1 HSL.out.2.2.1 HSL.out.2.2.2)
  rw [rboth_good hx hy] at HC
  have hR : cmpI (wval false xs * val vs) (wval true us * val ys) = 1 := by
    have h1 := val_pos' wu tu (nu.elim (fun e => by cases e) id)
    have h2 := val_nonneg wx
    have h3 := Int.mul_pos (a := val us) (b := val ys) (by omega) (by omega)
    have h4 := Int.mul_nonneg h2 (show 0 ≤ val vs by omega)
    show cmpI (val xs * val vs) (-(val us) * val ys) = 1
    rw [Int.neg_mul]
    exact cmpI_gt (by omega)
  rw [hR]
  clear sx sy su sv hx hy tx ty tu tv wx wu py pv hR lx ly lu lv y0 v0 nx nu
  go_enter Tryz.func29, Tryz.ntmps29
  go_wp2_with fail
  refine Calls.mono HC.out ?_
  generalize ((w.alloc (.cells #[.bool false, .slice a xs.length ca, .slice b ys.length cb] 24)).alloc (.cells #[.bool true, .slice c us.length cc, .slice d vs.length cd] 24)) = X at *
  rintro e w1 ⟨rfl, hb1⟩
  obtain ⟨p0, p1, p2, _⟩ := res_box3 HN.out hb1
  obtain ⟨q0, q1, q2, _⟩ := res_box3 HM.out hb1
  have HBN := hid (bt HB.out hb1)
  clear hb1 HC
  go_wp2_with fail
  go_ret2
  exact ⟨rfl, HBN.out⟩

set_option maxHeartbeats 1600000 in
set_option maxRecDepth 100000 in
theorem rCompare_err (n : Bool) (a : Option Addr) (ca : Nat) (xs : List Int) (b : Option Addr) (cb : Nat) (ys : List Int) (m : Bool) (c : Option Addr) (cc : Nat) (us : List Int) (d : Option Addr) (cd : Nat) (vs : List Int) (w : World) (sx : Sl w (.slice a xs.length ca) xs) (sy : Sl w (.slice b ys.length cb) ys) (su : Sl w (.slice c us.length cc) us) (sv : Sl w (.slice d vs.length cd) vs) (he : rboth n xs ys m us vs ≠ 0) :
    Calls Tryz.prog 29 #[.agg #[.bool n, .slice a xs.length ca, .slice b ys.length cb], .agg #[.bool m, .slice c us.length cc, .slice d vs.length cd]] w fun e w' => e = .returned (.tuple #[.int .i64 0, .int .i64 (rboth n xs ys m us vs)]) ∧ Below w.heap.size w w' := by
  have HB : Hid (Below w.heap.size w ((w.alloc (.cells #[.bool n, .slice a xs.length ca, .slice b ys.length cb] 24)).alloc (.cells #[.bool m, .slice c us.length cc, .slice d vs.length cd] 24))) := bt (alloc_later _ _) (alloc_later _ _)
  have HN : Hid (Box ((w.alloc (.cells #[.bool n, .slice a xs.length ca, .slice b ys.length cb] 24)).alloc (.cells #[.bool m, .slice c us.length cc, .slice d vs.length cd] 24)) w.heap.size 24 #[.bool n, .slice a xs.length ca, .slice b ys.length cb]) := Box.later (Box.made w _ _) (alloc_later _ _) (by simp)
  have HM : Hid (Box ((w.alloc (.cells #[.bool n, .slice a xs.length ca, .slice b ys.length cb] 24)).alloc (.cells #[.bool m, .slice c us.length cc, .slice d vs.length cd] 24)) (w.heap.size + 1) 24 #[.bool m, .slice c us.length cc, .slice d vs.length cd]) := by
    have e := Box.made (w.alloc (.cells #[.bool n, .slice a xs.length ca, .slice b ys.length cb] 24)) 24 #[.bool m, .slice c us.length cc, .slice d vs.length cd]
    simp at e
    exact e
  have HSL := hid (And.intro (sx.later HB.out) (And.intro (sy.later HB.out) (And.intro (su.later HB.out) (sv.later HB.out))))
  have HC := hid (rcheckBoth_any n _ xs _ ys m _ us _ vs ((w.alloc (.cells #[.bool n, .slice a xs.length ca, .slice b ys.length cb] 24)).alloc (.cells #[.bool m, .slice c us.length cc, .slice d vs.length cd] 24)) HSL.out.1 HSL.out.2.1 HSL.out.2.2.1 HSL.out.2.2.2)
  obtain ⟨E, hE⟩ : ∃ E, rboth n xs ys m us vs = E := ⟨_, rfl⟩
  rw [hE] at HC he ⊢
  have he' : (E == 0) = false := beq_eq_false_iff_ne.2 he
  clear he hE sx sy su sv
  go_enter Tryz.func29, Tryz.ntmps29
  go_wp2_with fail
  refine Calls.mono HC.out ?_
  rintro e w1 ⟨rfl, hb1⟩
  have HBN := hid (bt HB.out hb1)
  clear hb1 HC HN HM HSL
  go_wp2_with fail
  go_ret2
  exact ⟨rfl, HBN.out⟩
theorem rCompare_full (n : Bool) (a : Option Addr) (ca : Nat) (xs : List Int) (b : Option Addr) (cb : Nat) (ys : List Int) (m : Bool) (c : Option Addr) (cc : Nat) (us : List Int) (d : Option Addr) (cd : Nat) (vs : List Int) (w : World) (sx : Sl w (.slice a xs.length ca) xs) (sy : Sl w (.slice b ys.length cb) ys) (su : Sl w (.slice c us.length cc) us) (sv : Sl w (.slice d vs.length cd) vs) :
    Calls Tryz.prog 29 #[.agg #[.bool n, .slice a xs.length ca, .slice b ys.length cb], .agg #[.bool m, .slice c us.length cc, .slice d vs.length cd]] w fun e w' => e = .returned (.tuple #[.int .i64 (rcmp n xs ys m us vs), .int .i64 (rboth n xs ys m us vs)]) ∧ Below w.heap.size w w' := by
  unfold rcmp
  by_cases he : rboth n xs ys m us vs = 0
  · rw [if_pos he, he]
    obtain ⟨hx, hy⟩ := rboth_ok he
    cases n <;> cases m
    · exact rCompare_ff a ca xs b cb ys c cc us d cd vs w sx sy su sv hx hy
    · exact rCompare_ft a ca xs b cb ys c cc us d cd vs w sx sy su sv hx hy
    · exact rCompare_tf a ca xs b cb ys c cc us d cd vs w sx sy su sv hx hy
    · exact rCompare_tt a ca xs b cb ys c cc us d cd vs w sx sy su sv hx hy
  · rw [if_neg he]
    exact rCompare_err n a ca xs b cb ys m c cc us d cd vs w sx sy su sv he
end Go.Proofs.YtoigpodamciehaaGreatDoor

/- The nearest float: of a fraction that is a float it is that float; it keeps the order of fractions. The next float: no float lies between. -/
namespace Go.Proofs.YtoigpodamciehaaGreatDoor
open Go.RowKit
set_option linter.unusedVariables false

theorem Mid.mono {A1 D1 s1 A2 D2 s2 : Nat} (h1 : Mid A1 D1 s1) (h2 : Mid A2 D2 s2) (p1 : 0 < D1) (p2 : 0 < D2) (h : A1 * D2 ≤ A2 * D1) : s1 ≤ s2 := by
  rcases Nat.lt_or_ge s2 s1 with g | g
  · exfalso
    have t1 := h1.top
    have d := h1.down (by omega)
    have u := h2.up (by omega)
    have v1 : rungVal s2 ≤ rungVal (s1 - 1) := rungVal_le (by omega)
    have v2 : rungVal (s2 + 1) ≤ rungVal s1 := rungVal_le (by omega)
    have e1 : (rungVal (s1 - 1) + rungVal s1) * D1 * D2 ≤ 2 * A1 * D2 := Nat.mul_le_mul_right _ d
    have e2 : 2 * A2 * D1 ≤ (rungVal s2 + rungVal (s2 + 1)) * D2 * D1 := Nat.mul_le_mul_right _ u
    have e3 : (rungVal s2 + rungVal (s2 + 1)) * (D1 * D2) ≤ (rungVal (s1 - 1) + rungVal s1) * (D1 * D2) := Nat.mul_le_mul_right _ (by omega)
    have pp : 0 < D1 * D2 := Nat.mul_pos p1 p2
    rw [Nat.mul_assoc] at e1
    rw [Nat.mul_assoc (rungVal s2 + rungVal (s2 + 1)), Nat.mul_comm D2 D1] at e2
    rw [Nat.mul_assoc 2] at e1 e2
    have e4 : (rungVal s2 + rungVal (s2 + 1)) * (D1 * D2) = (rungVal (s1 - 1) + rungVal s1) * (D1 * D2) := by omega
    have e5 := Nat.eq_of_mul_eq_mul_right pp e4
    have e6 : s2 + 1 = s1 := by
      rcases Nat.lt_or_ge (s2 + 1) s1 with q | q
      · have := rungVal_lt (r := s2) (s := s1 - 1) (by omega)
        omega
      · omega
    subst e6
    have f1 : (rungVal (s2 + 1 - 1) + rungVal (s2 + 1)) * D1 = 2 * A1 := by
      refine Nat.le_antisymm d ?_
      refine Nat.le_of_mul_le_mul_right (c := D2) ?_ p2
      rw [Nat.mul_assoc, Nat.mul_assoc]
      omega
    have f2 : 2 * A2 = (rungVal s2 + rungVal (s2 + 1)) * D2 := by
      refine Nat.le_antisymm u ?_
      refine Nat.le_of_mul_le_mul_right (c := D1) ?_ p1
      rw [Nat.mul_assoc, Nat.mul_assoc, Nat.mul_comm D2 D1]
      omega
    have p := h1.tieDown (by omega) f1
    have q := h2.tieUp (by omega) f2
    omega
  · exact g
theorem mid_exact {D t : Nat} (hD : 0 < D) (ht : t < 9218868437227405312) : Mid (rungVal t * D) D t := by
  have hs : rungVal t < rungVal (t + 1) := rungVal_lt (by omega)
  have e0 : 2 * (rungVal t * D) = (rungVal t + rungVal t) * D := by rw [Nat.add_mul]; omega
  refine ⟨by omega, fun _ => ?_, fun h => ?_, fun _ e => ?_, fun h e => ?_⟩
  · rw [e0]; exact Nat.mul_le_mul_right _ (by omega)
  · have hd : rungVal (t - 1) < rungVal t := rungVal_lt (by omega)
    rw [e0]; exact Nat.mul_le_mul_right _ (by omega)
  · rw [e0] at e
    have := Nat.eq_of_mul_eq_mul_right hD e
    omega
  · have hd : rungVal (t - 1) < rungVal t := rungVal_lt (by omega)
    rw [e0] at e
    have := Nat.eq_of_mul_eq_mul_right hD e
    omega

/-- What Nearest's float is, where nothing is refused. -/
theorem nr_sv {n : Bool} {xs ys : List Int} {x : Nat} {code : Int} (h : NrT n xs ys x code) (hc : code = 0) :
    rchk n xs ys = 0 ∧ ∃ X Y s : Nat, val xs = X ∧ val ys = Y ∧ 0 < Y ∧ Mid (X * 2 ^ zP) Y s ∧ s < 9218868437227405312 ∧ Fi x ∧ sv x = sg n (rungVal s : Int) := by
  rcases h with ⟨h0, _, h1⟩ | ⟨h0, X, Y, s, hX, hY, hp, hm, h⟩
  · exact absurd (h1.symm.trans hc) h0
  · refine ⟨h0, X, Y, s, hX, hY, hp, hm, ?_⟩
    rcases h with ⟨_, _, h1⟩ | ⟨hs, _, hx⟩
    · rw [hc] at h1; exact absurd h1 (by decide)
    · refine ⟨hs, ?_⟩
      by_cases hn : n = true ∧ 0 < s
      · rw [if_pos hn] at hx
        rw [hx, hn.1, Nat.add_comm s, sv_high (by omega)]
        exact ⟨⟨by omega, by omega⟩, rfl⟩
      · rw [if_neg hn] at hx
        rw [hx, sv_low (by omega)]
        refine ⟨⟨by omega, by omega⟩, ?_⟩
        cases n
        · rfl
        · have : s = 0 := by
            rcases Nat.eq_zero_or_pos s with g | g
            · exact g
            · exact absurd ⟨rfl, g⟩ hn
          subst this
          decide
theorem wval_sg (n : Bool) (xs : List Int) : wval n xs = sg n (val xs) := rfl

theorem sg_mul' (n : Bool) (x y : Int) : sg n (x * y) = sg n x * y := sg_mul n x y
theorem sg_inj {n : Bool} {x y : Int} (h : sg n x = sg n y) : x = y := by
  cases n
  · exact h
  · have h' : -x = -y := h; omega
theorem nabs_two (k : Nat) : ((2 : Int) ^ k).natAbs = 2 ^ k := by rw [Int.natAbs_pow]; rfl
theorem ncast_two (X k : Nat) : ((X * 2 ^ k : Nat) : Int) = (X : Int) * 2 ^ k := by rw [Int.natCast_mul, Int.natCast_pow]; rfl
/-- A fraction that is a float has that float. -/
theorem nr_exact {n : Bool} {xs ys : List Int} {x v : Nat} {code : Int} (h : NrT n xs ys x code) (hc : code = 0) (hv : Fi v) (e : wval n xs * 2 ^ zP = sv v * val ys) : Fi x ∧ sv x = sv v := by
  obtain ⟨h0, X, Y, s, hX, hY, hp, hm, hs, hf, hsv⟩ := nr_sv h hc
  refine ⟨hf, ?_⟩
  rw [wval_sg, hX, hY] at e
  have e1 : (sg n (X : Int) * 2 ^ zP).natAbs = X * 2 ^ zP := by
    rw [Int.natAbs_mul]
    have a1 : (sg n (X : Int)).natAbs = X := by cases n <;> simp [sg]
    have a2 : ((2 : Int) ^ zP).natAbs = 2 ^ zP := nabs_two zP
    rw [a1, a2]
  have e2 : (sv v * (Y : Int)).natAbs = rungVal (v % 9223372036854775808) * Y := by
    rw [Int.natAbs_mul, sv_abs]; rfl
  have e3 : X * 2 ^ zP = rungVal (v % 9223372036854775808) * Y := by rw [← e1, e, e2]
  rw [e3] at hm
  have e4 := hm.unique hp (mid_exact hp hv.2)
  rw [hsv, e4]
  have e5 : sg n (rungVal (v % 9223372036854775808) : Int) * (Y : Int) = sv v * (Y : Int) := by
    have e7 : (rungVal (v % 9223372036854775808) : Int) * (Y : Int) = (X : Int) * 2 ^ zP := by rw [← ncast_two, e3, Int.natCast_mul]
    rw [← e, ← sg_mul', ← sg_mul', e7]
  exact Int.eq_of_mul_eq_mul_right (by omega) e5
theorem mid_nil {Y s : Nat} (hp : 0 < Y) (h : Mid (0 * 2 ^ zP) Y s) : s = 0 := h.unique hp (mid_nought hp)
/-- The order of fractions is kept. -/
theorem nr_mono {n : Bool} {xs ys : List Int} {x : Nat} {m : Bool} {us vs : List Int} {y : Nat} {c d : Int} (h : NrT n xs ys x c) (hc : c = 0) (g : NrT m us vs y d) (hd : d = 0) (hle : wval n xs * val vs ≤ wval m us * val ys) : Fi x ∧ Fi y ∧ sv x ≤ sv y := by
  obtain ⟨_, X, Y, s, hX, hY, hp, hm, hs, hf, hsv⟩ := nr_sv h hc
  obtain ⟨_, U, V, t, hU, hV, hq, hk, ht, hg, htv⟩ := nr_sv g hd
  refine ⟨hf, hg, ?_⟩
  rw [hsv, htv]
  rw [wval_sg, wval_sg, hX, hY, hU, hV] at hle
  have mono : ∀ {a b c d : Nat}, a * b ≤ c * d → a * 2 ^ zP * b ≤ c * 2 ^ zP * d := fun {a b c d} h => by
    rw [Nat.mul_right_comm, Nat.mul_right_comm c]; exact Nat.mul_le_mul_right _ h
  cases n <;> cases m
  · have h' : (X : Int) * (V : Int) ≤ (U : Int) * (Y : Int) := hle
    have hn : X * V ≤ U * Y := by rw [← Int.ofNat_le, Int.natCast_mul, Int.natCast_mul]; exact h'
    have := rungVal_le (hm.mono hk hp hq (mono hn))
    show (rungVal s : Int) ≤ (rungVal t : Int)
    omega
  · have h' : (X : Int) * (V : Int) ≤ -(U : Int) * (Y : Int) := hle
    rw [Int.neg_mul] at h'
    have p1 : 0 ≤ (X : Int) * (V : Int) := Int.mul_nonneg (by omega) (by omega)
    have p2 : 0 ≤ (U : Int) * (Y : Int) := Int.mul_nonneg (by omega) (by omega)
    have x0 : X = 0 := by
      have : (X : Int) * (V : Int) = 0 := by omega
      rcases Int.mul_eq_zero.1 this with h | h <;> omega
    have u0 : U = 0 := by
      have : (U : Int) * (Y : Int) = 0 := by omega
      rcases Int.mul_eq_zero.1 this with h | h <;> omega
    subst x0; subst u0
    rw [mid_nil hp hm, mid_nil hq hk]
    decide
  · show -(rungVal s : Int) ≤ (rungVal t : Int)
    omega
  · have h' : -(X : Int) * (V : Int) ≤ -(U : Int) * (Y : Int) := hle
    rw [Int.neg_mul, Int.neg_mul] at h'
    have hn : U * Y ≤ X * V := by rw [← Int.ofNat_le, Int.natCast_mul, Int.natCast_mul]; omega
    have := rungVal_le (hk.mono hm hq hp (mono hn))
    show -(rungVal s : Int) ≤ -(rungVal t : Int)
    omega

/-- The order of finite floats is that of their numbers. -/
theorem ocmp_scale (u v : Int) {p : Nat} (hp : 0 < p) : compare (u * (p : Int)) (v * (p : Int)) = compare u v := by
  have hp' : (0 : Int) < (p : Int) := by omega
  rcases Int.lt_trichotomy u v with h | rfl | h
  · rw [Int.compare_eq_lt.2 h, Int.compare_eq_lt.2 (Int.mul_lt_mul_of_pos_right h hp')]
  · simp
  · rw [Int.compare_eq_gt.2 h, Int.compare_eq_gt.2 (Int.mul_lt_mul_of_pos_right h hp')]
theorem ordsv {x y : Nat} (hx : Fi x) (hy : Fi y) : FloatKind.f64.format.order x y = some (compare (sv x) (sv y)) := by
  show (Ieee.double.read x).order (Ieee.double.read y) = _
  obtain ⟨m, a, e1, v1⟩ := read_num hx.2
  obtain ⟨n, b, e2, v2⟩ := read_num hy.2
  generalize hs : (x / 9223372036854775808 % 2 == 1) = s at e1
  generalize ht : (y / 9223372036854775808 % 2 == 1) = t at e2
  have t1 : (-1074 + (a : Int) - min (-1074 + (a : Int)) (-1074 + (b : Int))).toNat = a - min a b := by omega
  have t2 : (-1074 + (b : Int) - min (-1074 + (a : Int)) (-1074 + (b : Int))).toNat = b - min a b := by omega
  rw [e1, e2]
  simp only [Ieee.Datum.order, t1, t2]
  rw [← ocmp_scale _ _ (Nat.two_pow_pos (min a b)), signed_pow s m a _ (Nat.min_le_left ..), signed_pow t n b _ (Nat.min_le_right ..), v1, v2, sv_sign hs, sv_sign ht]
theorem RN.only {A : Int} {D v : Nat} (h : RN A 1 D) (f : Fi v) (e : A = sv v) : sv D = A ∧ Fi D := by
  obtain ⟨neg, s, rfl, n1, n2, m⟩ := h
  have hv := sv_abs v
  rw [← e] at hv
  have h1 := m.le (by decide) (r := v % 9223372036854775808) (by rw [← hv]; omega)
  have h2 := m.ge (by decide) (r := v % 9223372036854775808) (by have := f.2; omega) (by rw [← hv]; omega)
  have hs : s = v % 9223372036854775808 := by omega
  subst hs
  refine ⟨?_, word_fi _ f.2⟩
  rw [sv_word _ _ (by have := f.2; omega), ← hv]
  cases neg
  · simp only [Bool.false_eq_true, if_false]
    by_cases hz : A < 0
    · cases n1 hz
    · omega
  · simp only [if_true]
    by_cases hz : 0 < A
    · cases n2 hz
    · omega

theorem ord_gt {x y : Nat} (hx : Fi x) (hy : Fi y) : (FloatKind.f64.format.order x y == some .gt) = decide (sv y < sv x) := by
  rw [ordsv hx hy]
  rcases Int.lt_trichotomy (sv x) (sv y) with h | h | h
  · rw [show compare (sv x) (sv y) = .lt from Int.compare_eq_lt.2 h, decide_eq_false (by omega)]; rfl
  · rw [show compare (sv x) (sv y) = .eq from Int.compare_eq_eq.2 h, decide_eq_false (by omega)]; rfl
  · rw [show compare (sv x) (sv y) = .gt from Int.compare_eq_gt.2 h, decide_eq_true h]; rfl
theorem ord_lt {x y : Nat} (hx : Fi x) (hy : Fi y) : (FloatKind.f64.format.order x y == some .lt) = decide (sv x < sv y) := by
  rw [ordsv hx hy]
  rcases Int.lt_trichotomy (sv x) (sv y) with h | h | h
  · rw [show compare (sv x) (sv y) = .lt from Int.compare_eq_lt.2 h, decide_eq_true h]; rfl
  · rw [show compare (sv x) (sv y) = .eq from Int.compare_eq_eq.2 h, decide_eq_false (by omega)]; rfl
  · rw [show compare (sv x) (sv y) = .gt from Int.compare_eq_gt.2 h, decide_eq_false (by omega)]; rfl
theorem ord_eq {x y : Nat} (hx : Fi x) (hy : Fi y) : (FloatKind.f64.format.order x y == some .eq) = decide (sv x = sv y) := by
  rw [ordsv hx hy]
  rcases Int.lt_trichotomy (sv x) (sv y) with h | h | h
  · rw [show compare (sv x) (sv y) = .lt from Int.compare_eq_lt.2 h, decide_eq_false (by omega)]; rfl
  · rw [show compare (sv x) (sv y) = .eq from Int.compare_eq_eq.2 h, decide_eq_true h]; rfl
  · rw [show compare (sv x) (sv y) = .gt from Int.compare_eq_gt.2 h, decide_eq_false (by omega)]; rfl
/-- Of what is not finite: never between two finite ones. -/
theorem ord_between {a m b : Nat} (ha : Fi a) (hb : Fi b) (hm : m < 18446744073709551616) (hno : ∀ c, Fi c → ¬ (sv a < sv c ∧ sv c < sv b)) : ((FloatKind.f64.format.order m a == some .gt) && (FloatKind.f64.format.order m b == some .lt)) = false := by
  by_cases hf : Fi m
  · rw [ord_gt hf ha, ord_lt hf hb]
    by_cases h1 : sv a < sv m
    · by_cases h2 : sv m < sv b
      · exact absurd ⟨h1, h2⟩ (hno m hf)
      · rw [decide_eq_false h2, Bool.and_false]
    · rw [decide_eq_false h1, Bool.false_and]
  · by_cases hn : isnan m = true
    · rw [order_nan_l hn]; rfl
    · have hi : m = 9218868437227405312 ∨ m = 18442240474082181120 := by
        have : ¬ 9218868437227405312 < m % 9223372036854775808 := fun h => hn ((isnan_iff m).2 h)
        have h2 : ¬ m % 9223372036854775808 < 9218868437227405312 := fun h => hf ⟨hm, h⟩
        omega
      obtain ⟨k, p, ea, _⟩ := read_num ha.2
      obtain ⟨l, q, eb, _⟩ := read_num hb.2
      rcases hi with rfl | rfl
      · have e : Ieee.double.read 9218868437227405312 = .infinity false := by decide
        have : FloatKind.f64.format.order 9218868437227405312 b = some .gt := by
          show (Ieee.double.read 9218868437227405312).order (Ieee.double.read b) = _
          rw [e, eb]; rfl
        rw [this]; simp
      · have e : Ieee.double.read 18442240474082181120 = .infinity true := by decide
        have : FloatKind.f64.format.order 18442240474082181120 a = some .lt := by
          show (Ieee.double.read 18442240474082181120).order (Ieee.double.read a) = _
          rw [e, ea]; rfl
        rw [this]; rfl
/-- What Next tells. -/
def nxt (x : Nat) : Nat × Int := if fin x then (if x = 9218868437227405311 then (0, 9) else if 9223372036854775808 < x then ((if x = 9223372036854775809 then 0 else x - 1), 0) else (x % 9223372036854775808 + 1, 0)) else (0, 8)
theorem fi_fin {x : Nat} (h : x < 18446744073709551616) : fin x = true ↔ Fi x := ⟨fun g => ⟨h, (fin_iff x).1 g⟩, fun g => (fin_iff x).2 g.2⟩
theorem sv_at {x : Nat} (h : x < 18446744073709551616) : (x < 9223372036854775808 ∧ sv x = (rungVal x : Int)) ∨ (∃ t, x = 9223372036854775808 + t ∧ t < 9223372036854775808 ∧ sv x = -(rungVal t : Int)) := by
  rcases Nat.lt_or_ge x 9223372036854775808 with g | g
  · exact .inl ⟨g, sv_low g⟩
  · exact .inr ⟨x - 9223372036854775808, by omega, by omega, by
      have e := sv_high (x := x - 9223372036854775808) (by omega)
      rw [show 9223372036854775808 + (x - 9223372036854775808) = x by omega] at e
      exact e⟩
/-- The next float: above, and none between. -/
theorem nxt_next {x y : Nat} (hx : Fi x) (h : nxt x = (y, 0)) : Fi y ∧ sv x < sv y ∧ ∀ c, Fi c → ¬ (sv x < sv c ∧ sv c < sv y) := by
  unfold nxt at h
  rw [if_pos ((fi_fin hx.1).2 hx)] at h
  by_cases hm : x = 9218868437227405311
  · rw [if_pos hm] at h; simp at h
  rw [if_neg hm] at h
  have hx2 := hx.2
  have hx1 := hx.1
  by_cases hn : 9223372036854775808 < x
  · rw [if_pos hn] at h
    have hy : y = if x = 9223372036854775809 then 0 else x - 1 := by simpa using h.symm
    obtain ⟨s, rfl⟩ : ∃ s, x = 9223372036854775808 + (s + 1) := ⟨x - 9223372036854775809, by omega⟩
    have hs : s + 1 < 9218868437227405312 := by omega
    have ey : Fi y ∧ sv y = -(rungVal s : Int) := by
      by_cases h1 : s = 0
      · subst h1
        rw [if_pos rfl] at hy
        rw [hy]; exact ⟨⟨by decide, by decide⟩, by decide⟩
      · rw [if_neg (by omega)] at hy
        rw [hy, show 9223372036854775808 + (s + 1) - 1 = 9223372036854775808 + s by omega, sv_high (by omega)]
        exact ⟨⟨by omega, by omega⟩, rfl⟩
    have ex : sv (9223372036854775808 + (s + 1)) = -(rungVal (s + 1) : Int) := sv_high (by omega)
    have hl : rungVal s < rungVal (s + 1) := rungVal_lt (by omega)
    rw [ex, ey.2]
    refine ⟨ey.1, by omega, fun c hc hcc => ?_⟩
    rcases sv_at hc.1 with ⟨_, e⟩ | ⟨t, _, _, e⟩
    · rw [e] at hcc; omega
    · rw [e] at hcc
      rcases Nat.lt_or_ge t (s + 1) with g | g
      · have := rungVal_le (r := t) (s := s) (by omega); omega
      · have := rungVal_le g; omega
  · rw [if_neg hn] at h
    have hy : y = x % 9223372036854775808 + 1 := by simpa using h.symm
    have ex : sv x = (rungVal (x % 9223372036854775808) : Int) := by
      rcases sv_at hx.1 with ⟨g, e⟩ | ⟨t, g, _, e⟩
      · rw [e, Nat.mod_eq_of_lt g]
      · have : t = 0 := by omega
        subst this
        rw [e, g]
        decide
    have hs : x % 9223372036854775808 + 1 < 9218868437227405312 := by omega
    generalize x % 9223372036854775808 = s at *
    have hl : rungVal s < rungVal (s + 1) := rungVal_lt (by omega)
    have ey : Fi y ∧ sv y = (rungVal (s + 1) : Int) := by
      rw [hy, sv_low (by omega)]; exact ⟨⟨by omega, by omega⟩, rfl⟩
    rw [ex, ey.2]
    refine ⟨ey.1, by omega, fun c hc hcc => ?_⟩
    rcases sv_at hc.1 with ⟨_, e⟩ | ⟨t, _, _, e⟩
    · rw [e] at hcc
      rcases Nat.lt_or_ge c (s + 1) with g | g
      · have := rungVal_le (r := c) (s := s) (by omega); omega
      · have := rungVal_le g; omega
    · rw [e] at hcc; omega

end Go.Proofs.YtoigpodamciehaaGreatDoor

/- real.Exact of finite floats beside their numbers; real.Next; whether a float lies between two. -/
namespace Go.Proofs.YtoigpodamciehaaGreatDoor
open Go.RowKit
set_option linter.unusedVariables false

theorem rtells_ok {q : Rat} {n : Bool} {xs ys : List Int} (h : RTells 0 q n xs ys 0) : rchk n xs ys = 0 ∧ rq n xs ys = q := by
  by_cases hl : rlong q
  · exact absurd (h.long rfl hl).2.2.2 (by decide)
  · exact (h.good rfl hl).2
theorem rung_count (x : Nat) : rungVal (x % 9223372036854775808) = fcount x * 2 ^ (funit x + 1074).toNat := by
  unfold rungVal fcount funit
  by_cases h : x / 4503599627370496 % 2048 = 0
  · rw [if_pos h, if_pos h, if_pos (by omega), show ((-1074 : Int) + 1074).toNat = 0 by decide, Nat.pow_zero]
    omega
  · rw [if_neg h, if_neg h, if_neg (by omega)]
    have e1 : x % 9223372036854775808 % 4503599627370496 = x % 4503599627370496 := by omega
    have e2 : x % 9223372036854775808 / 4503599627370496 - 1 = (-1074 + ((x / 4503599627370496 % 2048 : Nat) : Int) - 1 + 1074).toNat := by omega
    rw [e1, e2]
theorem sv_sg {x : Nat} (h : x < 18446744073709551616) : sv x = sg (x / 9223372036854775808 == 1) (rungVal (x % 9223372036854775808) : Int) := by
  rcases sv_at h with ⟨g, e⟩ | ⟨t, g, g2, e⟩
  · rw [e, Nat.mod_eq_of_lt g, Nat.div_eq_of_lt g]; rfl
  · subst g
    rw [e, show (9223372036854775808 + t) / 9223372036854775808 = 1 by omega, show (9223372036854775808 + t) % 9223372036854775808 = t by omega]
    rfl
theorem pow_units (u : Int) (h : -1074 ≤ u) (Z : Nat) (hZ : Z = 1074) : (2 : Int) ^ u.toNat * 2 ^ Z = 2 ^ (u + 1074).toNat * 2 ^ (-u).toNat := by
  rw [← Int.pow_add, ← Int.pow_add, show u.toNat + Z = (u + 1074).toNat + (-u).toNat by omega]
/-- The fraction that a finite float is, beside its number. -/
def ExT (x : Nat) (n : Bool) (xs ys : List Int) : Prop := rchk n xs ys = 0 ∧ wval n xs * 2 ^ zP = sv x * val ys ∧ rq n xs ys = fq x
theorem ext_arith {w v s m P U Z D W : Int} (h : w * D = s * (m * P) * v) (hu : P * Z = U * D) (hD : 0 < D) : w * Z = s * (m * U) * v := by
  have e : w * Z * D = s * (m * U) * v * D := by
    have e1 : w * Z * D = (w * D) * Z := by grind
    have e2 : s * (m * U) * v * D = s * m * v * (U * D) := by grind
    rw [e1, h, e2, ← hu]
    grind
  exact Int.eq_of_mul_eq_mul_right (by omega) e
theorem sg_one (n : Bool) (t : Int) : sg n t = (if n then -1 else 1) * t := by cases n <;> simp [sg]
theorem ext_of {x : Nat} {n : Bool} {xs ys : List Int} (hx : x < 18446744073709551616) (wy : Wd ys) (h : RTells 0 (fq x) n xs ys 0) : ExT x n xs ys := by
  obtain ⟨h0, hq⟩ := rtells_ok h
  refine ⟨h0, ?_, hq⟩
  obtain ⟨_, _, _, ty, hy0, _, _⟩ := rchk_ok h0
  have hY : 0 < val ys := by
    have e : 0 < sz ys := by rw [show sz ys = ys.length from ty]; exact hy0
    have h := (bits_bounds wy e).2.1
    have := two_pos (bitsOf ys - 1)
    omega
  have hu := funit_le x
  have hD := two_pos (-(funit x)).toNat
  have e := hq
  unfold rq fq at e
  rw [Rat.divInt_eq_divInt_iff (by omega) (by omega)] at e
  have hP := pow_units (funit x) hu.1 zP rfl
  rw [sg_one] at e
  have hc : ((rungVal (x % 9223372036854775808) : Nat) : Int) = (fcount x : Int) * 2 ^ (funit x + 1074).toNat := by
    rw [rung_count]; exact ncast_two _ _
  rw [sv_sg hx, sg_one, hc]
  exact ext_arith (W := 0) e hP hD

set_option maxHeartbeats 400000 in
set_option maxRecDepth 100000 in
theorem exact_fin (x : Nat) (w : World) (hx : Fi x) (hT : TabB w) :
    Calls Tryz.prog 14 #[.float .f64 x] w fun e w' => ∃ n a ca b cb xs ys, e = .returned (.tuple #[.agg #[.bool n, .slice a (List.length xs) ca, .slice b (List.length ys) cb], .int .i64 0]) ∧ w'.ownsRow w.heap.size 63 1 (.slice a xs.length ca) xs.length (xs.map (Value.int .u32)) ∧ w'.ownsRow w.heap.size 63 1 (.slice b ys.length cb) ys.length (ys.map (Value.int .u32)) ∧ Wd xs ∧ Wd ys ∧ ExT x n xs ys ∧ Below w.heap.size w w' := by
  have hf := (fi_fin hx.1).2 hx
  by_cases h0 : fcount x = 0
  · refine Calls.mono (exact_zero x w hx.1 hf h0) ?_
    rintro e w' ⟨g, rfl, o, hb⟩
    exact ⟨false, none, 0, some ⟨g, 0, none⟩, 1, [], [1], rfl, World.ownsRow_nil _ _ _ _, o, Wd.nil, Wd.one (by omega), ext_of hx.1 (Wd.one (by omega)) (zero_good h0), hb⟩
  · refine Calls.mono (exact_nz x w hx.1 hf h0 hT) ?_
    rintro e w' ⟨a, ca, b, cb, zs, ds, rfl, o, vz, vd, hb⟩
    exact ⟨_, a, ca, b, cb, zs, ds, rfl, o.1, o.2.1, o.2.2.1, o.2.2.2.2.1, ext_of hx.1 o.2.2.2.2.1 (frac_good h0 o.2.2.1 o.2.2.2.1 o.2.2.2.2.1 o.2.2.2.2.2.1 vz vd), hb⟩

theorem sub_zero_from {s : Nat} (h : s < 9218868437227405312) : floatBits .sub .f64 0 s = some (if s = 0 then 0 else 9223372036854775808 + s) := by
  by_cases h0 : s = 0
  · subst h0; decide +kernel
  · rw [if_neg h0]
    have hs : Fi s := ⟨by omega, by omega⟩
    have f0 : Fi 0 := ⟨by decide, by decide⟩
    have e : floatBits .sub .f64 0 s = floatBits .add .f64 0 (fopp s) := by
      show (((Ieee.double.read 0).sum (Ieee.double.read s).opposite).map Ieee.double.write) = (((Ieee.double.read 0).sum (Ieee.double.read (fopp s))).map Ieee.double.write)
      rw [read_fopp (by omega)]
    obtain ⟨r, hr⟩ := add_some (x := 0) (y := fopp s) (by decide) ((fi_fin hs.opp.1).2 hs.opp)
    rw [e, hr]
    have rn := sub_rn f0 hs (FN.some (by rw [e, hr]))
    have hv : sv (9223372036854775808 + s) = -(rungVal s : Int) := sv_high (by omega)
    have hz : sv 0 = 0 := by decide
    have hl : sv s = (rungVal s : Int) := sv_low (by omega)
    obtain ⟨h1, h2⟩ := rn.only (v := 9223372036854775808 + s) ⟨by omega, by omega⟩ (by rw [hv, hz, hl]; omega)
    have hp : 0 < rungVal s := by
      rcases Nat.eq_zero_or_pos (rungVal s) with g | g
      · exact absurd (rungVal_zero.1 g) h0
      · exact g
    rw [hz, hl] at h1
    rcases sv_at h2.1 with ⟨_, e2⟩ | ⟨t, rfl, _, e2⟩
    · rw [e2] at h1; omega
    · rw [e2] at h1
      have : t = s := by
        rcases Nat.lt_trichotomy t s with g | g | g
        · have := rungVal_lt g; omega
        · exact g
        · have := rungVal_lt g; omega
      rw [this]

set_option maxHeartbeats 1600000 in
set_option maxRecDepth 100000 in
theorem next_any (x : Nat) (w : World) (hx : x < 18446744073709551616) :
    Calls Tryz.prog 12 #[.float .f64 x] w fun e w' => e = .returned (.tuple #[.float .f64 (nxt x).1, .int .i64 (nxt x).2]) ∧ Below w.heap.size w w' := by
  have HF := hid (finite_any x w hx)
  have hneg : ∀ x, Op.unary .neg (.float .f64 x) = pure (.float .f64 (fneg x)) := fun _ => rfl
  by_cases hf : fin x = true
  · rw [hf] at HF
    have hfi := (fi_fin hx).1 hf
    have hmx : Fi 9218868437227405311 := ⟨by decide, by decide⟩
    have h0 : Fi 0 := ⟨by decide, by decide⟩
    have q1 := ord_eq hfi hmx
    have q2 := ord_lt hfi h0
    have hz : sv 0 = 0 := by decide
    by_cases hm : x = 9218868437227405311
    · have e : nxt x = (0, 9) := by unfold nxt; rw [if_pos hf, if_pos hm]
      rw [decide_eq_true (by rw [hm])] at q1
      rw [e]
      clear e hm hfi hmx h0 q2 hz hf hx hneg
      go_enter Tryz.func12, Tryz.ntmps12
      go_wp2_with fail
      refine Calls.mono HF.out ?_
      rintro e w1 ⟨rfl, rfl⟩
      go_wp2_with fail
      go_returns
      exact ⟨rfl, Below.refl _ _⟩
    · have hne : sv x ≠ sv 9218868437227405311 := by
        have e1 : sv 9218868437227405311 = (rungVal 9218868437227405311 : Int) := sv_low (by decide)
        have hp : 0 < rungVal 9218868437227405311 := by
          rcases Nat.eq_zero_or_pos (rungVal 9218868437227405311) with g | g
          · exact absurd (rungVal_zero.1 g) (by decide)
          · exact g
        rw [e1]
        rcases sv_at hx with ⟨g, e⟩ | ⟨t, _, _, e⟩
        · rw [e]
          have hlt : x < 9218868437227405311 := by have := hfi.2; omega
          have := rungVal_lt hlt
          omega
        · rw [e]; omega
      rw [decide_eq_false hne] at q1
      by_cases hn : 9223372036854775808 < x
      · obtain ⟨s, rfl⟩ : ∃ s, x = 9223372036854775808 + (s + 1) := ⟨x - 9223372036854775809, by omega⟩
        have hs : s + 1 < 9218868437227405312 := by have := hfi.2; omega
        have hlt : sv (9223372036854775808 + (s + 1)) < sv 0 := by
          rw [hz, sv_high (by omega)]
          have := rungVal_lt (r := 0) (s := s + 1) (by omega)
          omega
        rw [decide_eq_true hlt] at q2
        have e : nxt (9223372036854775808 + (s + 1)) = ((if s = 0 then 0 else 9223372036854775808 + s), 0) := by
          unfold nxt
          rw [if_pos hf, if_neg hm, if_pos hn]
          by_cases g : s = 0
          · subst g; rfl
          · rw [if_neg (by omega), if_neg g]; rfl
        have hfn : fneg (9223372036854775808 + (s + 1)) = s + 1 := by
          have e2 : fneg (9223372036854775808 + (s + 1)) = fopp (9223372036854775808 + (s + 1)) := rfl
          rw [e2, fopp_high (by omega) (by omega)]; omega
        have HB := fun V => bits_run (s + 1) V
        have HR := fun V => from_run s V
        have hsub := sub_zero_from (s := s) (by omega)
        have hc : ((s + 1 : Nat) : Int) - 1 = (s : Int) := by omega
        have hcast : ((s + 1 : Nat) : Int) = (s : Int) + 1 := by omega
        rw [e]
        obtain ⟨r, hr⟩ : ∃ r, (if s = 0 then 0 else 9223372036854775808 + s) = r := ⟨_, rfl⟩
        rw [hr] at hsub ⊢
        have hs2 : (s : Int) < 9218868437227405312 := by omega
        have hsr : ∀ P t V, (binOp .sub t (.float .f64 0) (.float .f64 s)).run P V = .ok (.float .f64 r) V := fun P t V => by
          rw [fsub_run]; unfold fval fwld; rw [hsub]
        rw [hcast] at HB
        generalize 9223372036854775808 + (s + 1) = X at *
        clear e hr hm hn hlt hne hf hfi hmx h0 hz hx hs hc hcast
        go_enter Tryz.func12, Tryz.ntmps12
        go_wp2_with fail
        refine Calls.mono HF.out ?_
        rintro e w1 ⟨rfl, rfl⟩
        go_wp2_with fail
        go_returns
        exact ⟨rfl, Below.refl _ _⟩
      · have hge : ¬ sv x < sv 0 := by
          rw [hz]
          rcases sv_at hx with ⟨_, e⟩ | ⟨t, g, _, e⟩
          · rw [e]; omega
          · have : t = 0 := by omega
            subst this
            rw [e]; decide
        rw [decide_eq_false hge] at q2
        have e : nxt x = (x % 9223372036854775808 + 1, 0) := by unfold nxt; rw [if_pos hf, if_neg hm, if_neg hn]
        have HA := hid (mAbs_any x w hx)
        have hs : x % 9223372036854775808 < 9218868437227405312 := hfi.2
        rw [e]
        generalize x % 9223372036854775808 = s at *
        have HB := fun V => bits_run s V
        have HR := fun V => from_run (s + 1) V
        have hcast : ((s + 1 : Nat) : Int) = (s : Int) + 1 := by omega
        rw [hcast] at HR
        have hs2 : (s : Int) < 9218868437227405312 := by omega
        clear e hm hn hge hne hf hfi hmx h0 hz hx hcast hs hneg
        go_enter Tryz.func12, Tryz.ntmps12
        go_wp2_with fail
        refine Calls.mono HF.out ?_
        rintro e w1 ⟨rfl, rfl⟩
        go_wp2_with fail
        refine Calls.mono HA.out ?_
        rintro e w2 ⟨rfl, rfl⟩
        go_wp2_with fail
        go_returns
        exact ⟨rfl, Below.refl _ _⟩
  · obtain hf' : fin x = false := by cases h : fin x <;> simp_all
    rw [hf'] at HF
    have e : nxt x = (0, 8) := by unfold nxt; rw [if_neg hf]
    rw [e]
    clear e hf hf' hx hneg
    go_enter Tryz.func12, Tryz.ntmps12
    go_wp2_with fail
    refine Calls.mono HF.out ?_
    rintro e w1 ⟨rfl, rfl⟩
    go_wp2_with fail
    go_returns
    exact ⟨rfl, Below.refl _ _⟩

end Go.Proofs.YtoigpodamciehaaGreatDoor

/- Fractions: ratio.Make, ratio.Small. -/
namespace Go.Proofs.YtoigpodamciehaaGreatDoor
open Go.RowKit
set_option linter.unusedVariables false

set_option maxHeartbeats 3200000 in
set_option maxRecDepth 100000 in
theorem rmake_e1 (n : Bool) (a : Option Addr) (ca : Nat) (xs : List Int) (m : Bool) (b : Option Addr) (cb : Nat) (ys : List Int) (w : World) (h : Sl w (.slice a xs.length ca) xs) (g : Sl w (.slice b ys.length cb) ys) (lx : xs.length ≤ 281474976710656) (ly : ys.length ≤ 281474976710656) (hx : wchk n xs ≠ 0) (q : Rat) :
    Calls Tryz.prog 55 #[.agg #[.bool n, .slice a xs.length ca], .agg #[.bool m, .slice b ys.length cb]] w (RToldA w (wchk n xs) q) := by
  have HB : Hid (Below w.heap.size w (((w.alloc (.cells #[.bool n, .slice a xs.length ca] 79)).alloc (.cells #[.bool m, .slice b ys.length cb] 79)).alloc (.cells #[.bool false, .slice none 0 0, .slice none 0 0] 24))) := bt (bt (alloc_later _ _) (alloc_later _ _)) (alloc_later _ _)
  have HZ : Hid (Box (((w.alloc (.cells #[.bool n, .slice a xs.length ca] 79)).alloc (.cells #[.bool m, .slice b ys.length cb] 79)).alloc (.cells #[.bool false, .slice none 0 0, .slice none 0 0] 24)) (w.heap.size + 1 + 1) 24 #[.bool false, .slice none 0 0, .slice none 0 0]) := by
    have e := Box.made ((w.alloc (.cells #[.bool n, .slice a xs.length ca] 79)).alloc (.cells #[.bool m, .slice b ys.length cb] 79)) 24 #[.bool false, .slice none 0 0, .slice none 0 0]
    simp at e
    exact e
  have HN : Hid (Box (((w.alloc (.cells #[.bool n, .slice a xs.length ca] 79)).alloc (.cells #[.bool m, .slice b ys.length cb] 79)).alloc (.cells #[.bool false, .slice none 0 0, .slice none 0 0] 24)) w.heap.size 79 #[.bool n, .slice a xs.length ca]) := Box.later (Box.later (Box.made w _ _) (alloc_later _ _) (by simp)) (alloc_later _ _) (by simp; omega)
  have HM : Hid (Box (((w.alloc (.cells #[.bool n, .slice a xs.length ca] 79)).alloc (.cells #[.bool m, .slice b ys.length cb] 79)).alloc (.cells #[.bool false, .slice none 0 0, .slice none 0 0] 24)) (w.heap.size + 1) 79 #[.bool m, .slice b ys.length cb]) := by
    have e := Box.later (Box.made (w.alloc (.cells #[.bool n, .slice a xs.length ca] 79)) 79 #[.bool m, .slice b ys.length cb]) (alloc_later ((w.alloc (.cells #[.bool n, .slice a xs.length ca] 79)).alloc (.cells #[.bool m, .slice b ys.length cb] 79)) (.cells #[.bool false, .slice none 0 0, .slice none 0 0] 24)) (by simp)
    simp at e
    exact e
  have HS := hid (And.intro (h.later HB.out) (g.later HB.out))
  have HXS : Hid (w.heap.size + 1 + 1 < (((w.alloc (.cells #[.bool n, .slice a xs.length ca] 79)).alloc (.cells #[.bool m, .slice b ys.length cb] 79)).alloc (.cells #[.bool false, .slice none 0 0, .slice none 0 0] 24)).heap.size) := HZ.out.lt
  have HC1 := hid (wcheck_any n _ xs _ HS.out.1 lx)
  obtain ⟨e1, he1⟩ : ∃ e1, wchk n xs = e1 := ⟨_, rfl⟩
  rw [he1] at HC1 hx ⊢
  have hx' : (e1 == 0) = false := beq_eq_false_iff_ne.2 hx
  have HE := hid hx
  clear he1 hx
  clear h g
  go_enter Tryz.func55, Tryz.ntmps55
  go_wp2_with fail
  refine Calls.mono HC1.out ?_
  generalize (((w.alloc (.cells #[.bool n, .slice a xs.length ca] 79)).alloc (.cells #[.bool m, .slice b ys.length cb] 79)).alloc (.cells #[.bool false, .slice none 0 0, .slice none 0 0] 24)) = X at *
  rintro e w1 ⟨rfl, hb1⟩
  have HB1 := hid hb1
  clear hb1 HC1
  obtain ⟨y0, y1, y2, f0, f1, f2⟩ := res_box3 HZ.out HB1.out
  have HBN := hid (below_put3 (bt HB.out HB1.out) (w.heap.size + 1 + 1) (by omega) (.bool false) (.slice none 0 0) (.slice none 0 0))
  clear HN HM HZ HS
  go_wp2_with fail
  refine bodyPost_ret (v := .tuple #[.agg #[.bool false, .slice none 0 0, .slice none 0 0], .int .i64 e1]) (by simp [results, Tryz.results55, go_sem, y0, y1, y2]) rfl ?_
  exact ⟨false, _, [], _, [], _, rfl, World.ownsRow_nil _ _ _ _, World.ownsRow_nil _ _ _ _, RTells.err HE.out, HBN.out, ⟨w.heap.size, Nat.le_refl _, HBN.out.size, fun g hg => by simp [Value.ownBlock] at hg, fun g hg => by simp [Value.ownBlock] at hg⟩⟩

set_option maxHeartbeats 3200000 in
set_option maxRecDepth 100000 in
theorem rmake_e2 (n : Bool) (a : Option Addr) (ca : Nat) (xs : List Int) (m : Bool) (b : Option Addr) (cb : Nat) (ys : List Int) (w : World) (h : Sl w (.slice a xs.length ca) xs) (g : Sl w (.slice b ys.length cb) ys) (lx : xs.length ≤ 281474976710656) (ly : ys.length ≤ 281474976710656) (hx : wchk n xs = 0) (hy : wchk m ys ≠ 0) (q : Rat) :
    Calls Tryz.prog 55 #[.agg #[.bool n, .slice a xs.length ca], .agg #[.bool m, .slice b ys.length cb]] w (RToldA w (wchk m ys) q) := by
  have HB : Hid (Below w.heap.size w (((w.alloc (.cells #[.bool n, .slice a xs.length ca] 79)).alloc (.cells #[.bool m, .slice b ys.length cb] 79)).alloc (.cells #[.bool false, .slice none 0 0, .slice none 0 0] 24))) := bt (bt (alloc_later _ _) (alloc_later _ _)) (alloc_later _ _)
  have HZ : Hid (Box (((w.alloc (.cells #[.bool n, .slice a xs.length ca] 79)).alloc (.cells #[.bool m, .slice b ys.length cb] 79)).alloc (.cells #[.bool false, .slice none 0 0, .slice none 0 0] 24)) (w.heap.size + 1 + 1) 24 #[.bool false, .slice none 0 0, .slice none 0 0]) := by
    have e := Box.made ((w.alloc (.cells #[.bool n, .slice a xs.length ca] 79)).alloc (.cells #[.bool m, .slice b ys.length cb] 79)) 24 #[.bool false, .slice none 0 0, .slice none 0 0]
    simp at e
    exact e
  have HN : Hid (Box (((w.alloc (.cells #[.bool n, .slice a xs.length ca] 79)).alloc (.cells #[.bool m, .slice b ys.length cb] 79)).alloc (.cells #[.bool false, .slice none 0 0, .slice none 0 0] 24)) w.heap.size 79 #[.bool n, .slice a xs.length ca]) := Box.later (Box.later (Box.made w _ _) (alloc_later _ _) (by simp)) (alloc_later _ _) (by simp; omega)
  have HM : Hid (Box (((w.alloc (.cells #[.bool n, .slice a xs.length ca] 79)).alloc (.cells #[.bool m, .slice b ys.length cb] 79)).alloc (.cells #[.bool false, .slice none 0 0, .slice none 0 0] 24)) (w.heap.size + 1) 79 #[.bool m, .slice b ys.length cb]) := by
    have e := Box.later (Box.made (w.alloc (.cells #[.bool n, .slice a xs.length ca] 79)) 79 #[.bool m, .slice b ys.length cb]) (alloc_later ((w.alloc (.cells #[.bool n, .slice a xs.length ca] 79)).alloc (.cells #[.bool m, .slice b ys.length cb] 79)) (.cells #[.bool false, .slice none 0 0, .slice none 0 0] 24)) (by simp)
    simp at e
    exact e
  have HS := hid (And.intro (h.later HB.out) (g.later HB.out))
  have HXS : Hid (w.heap.size + 1 + 1 < (((w.alloc (.cells #[.bool n, .slice a xs.length ca] 79)).alloc (.cells #[.bool m, .slice b ys.length cb] 79)).alloc (.cells #[.bool false, .slice none 0 0, .slice none 0 0] 24)).heap.size) := HZ.out.lt
  have HC1 := hid (wcheck_any n _ xs _ HS.out.1 lx)
  rw [hx] at HC1
  obtain ⟨e1, he1⟩ : ∃ e1, wchk m ys = e1 := ⟨_, rfl⟩
  have HC2 := hid (fun ww (hb : Below _ (((w.alloc (.cells #[.bool n, .slice a xs.length ca] 79)).alloc (.cells #[.bool m, .slice b ys.length cb] 79)).alloc (.cells #[.bool false, .slice none 0 0, .slice none 0 0] 24)) ww) => wcheck_any m _ ys ww (HS.out.2.later hb) ly)
  rw [he1] at HC2 hy ⊢
  have hy' : (e1 == 0) = false := beq_eq_false_iff_ne.2 hy
  have HE := hid hy
  clear he1 hy hx
  clear h g
  go_enter Tryz.func55, Tryz.ntmps55
  go_wp2_with fail
  refine Calls.mono HC1.out ?_
  generalize (((w.alloc (.cells #[.bool n, .slice a xs.length ca] 79)).alloc (.cells #[.bool m, .slice b ys.length cb] 79)).alloc (.cells #[.bool false, .slice none 0 0, .slice none 0 0] 24)) = X at *
  rintro e w1 ⟨rfl, hb1⟩
  have HB1 := hid hb1
  clear hb1 HC1
  have HC := hid (HC2.out w1 HB1.out)
  obtain ⟨q0, q1, _, _⟩ := (HM.out.later HB1.out HM.out.lt).c2
  clear HC2
  go_wp2_with fail
  refine Calls.mono HC.out ?_
  rintro e w2 ⟨rfl, hb2⟩
  have HB2 := hid (bt HB1.out hb2)
  clear hb2 HC q0 q1
  obtain ⟨y0, y1, y2, f0, f1, f2⟩ := res_box3 HZ.out HB2.out
  have HBN := hid (below_put3 (bt HB.out HB2.out) (w.heap.size + 1 + 1) (by omega) (.bool false) (.slice none 0 0) (.slice none 0 0))
  clear HN HM HZ HS
  go_wp2_with fail
  refine bodyPost_ret (v := .tuple #[.agg #[.bool false, .slice none 0 0, .slice none 0 0], .int .i64 e1]) (by simp [results, Tryz.results55, go_sem, y0, y1, y2]) rfl ?_
  exact ⟨false, _, [], _, [], _, rfl, World.ownsRow_nil _ _ _ _, World.ownsRow_nil _ _ _ _, RTells.err HE.out, HBN.out, ⟨w.heap.size, Nat.le_refl _, HBN.out.size, fun g hg => by simp [Value.ownBlock] at hg, fun g hg => by simp [Value.ownBlock] at hg⟩⟩

set_option maxHeartbeats 3200000 in
set_option maxRecDepth 100000 in
theorem rmake_z (n : Bool) (a : Option Addr) (ca : Nat) (xs : List Int) (m : Bool) (b : Option Addr) (cb : Nat) (ys : List Int) (w : World) (h : Sl w (.slice a xs.length ca) xs) (g : Sl w (.slice b ys.length cb) ys) (lx : xs.length ≤ 281474976710656) (ly : ys.length ≤ 281474976710656) (hx : wchk n xs = 0) (hy : wchk m ys = 0) (h0 : ys.length = 0) (q : Rat) :
    Calls Tryz.prog 55 #[.agg #[.bool n, .slice a xs.length ca], .agg #[.bool m, .slice b ys.length cb]] w (RToldA w 7 q) := by
  have HB : Hid (Below w.heap.size w (((w.alloc (.cells #[.bool n, .slice a xs.length ca] 79)).alloc (.cells #[.bool m, .slice b ys.length cb] 79)).alloc (.cells #[.bool false, .slice none 0 0, .slice none 0 0] 24))) := bt (bt (alloc_later _ _) (alloc_later _ _)) (alloc_later _ _)
  have HZ : Hid (Box (((w.alloc (.cells #[.bool n, .slice a xs.length ca] 79)).alloc (.cells #[.bool m, .slice b ys.length cb] 79)).alloc (.cells #[.bool false, .slice none 0 0, .slice none 0 0] 24)) (w.heap.size + 1 + 1) 24 #[.bool false, .slice none 0 0, .slice none 0 0]) := by
    have e := Box.made ((w.alloc (.cells #[.bool n, .slice a xs.length ca] 79)).alloc (.cells #[.bool m, .slice b ys.length cb] 79)) 24 #[.bool false, .slice none 0 0, .slice none 0 0]
    simp at e
    exact e
  have HN : Hid (Box (((w.alloc (.cells #[.bool n, .slice a xs.length ca] 79)).alloc (.cells #[.bool m, .slice b ys.length cb] 79)).alloc (.cells #[.bool false, .slice none 0 0, .slice none 0 0] 24)) w.heap.size 79 #[.bool n, .slice a xs.length ca]) := Box.later (Box.later (Box.made w _ _) (alloc_later _ _) (by simp)) (alloc_later _ _) (by simp; omega)
  have HM : Hid (Box (((w.alloc (.cells #[.bool n, .slice a xs.length ca] 79)).alloc (.cells #[.bool m, .slice b ys.length cb] 79)).alloc (.cells #[.bool false, .slice none 0 0, .slice none 0 0] 24)) (w.heap.size + 1) 79 #[.bool m, .slice b ys.length cb]) := by
    have e := Box.later (Box.made (w.alloc (.cells #[.bool n, .slice a xs.length ca] 79)) 79 #[.bool m, .slice b ys.length cb]) (alloc_later ((w.alloc (.cells #[.bool n, .slice a xs.length ca] 79)).alloc (.cells #[.bool m, .slice b ys.length cb] 79)) (.cells #[.bool false, .slice none 0 0, .slice none 0 0] 24)) (by simp)
    simp at e
    exact e
  have HS := hid (And.intro (h.later HB.out) (g.later HB.out))
  have HXS : Hid (w.heap.size + 1 + 1 < (((w.alloc (.cells #[.bool n, .slice a xs.length ca] 79)).alloc (.cells #[.bool m, .slice b ys.length cb] 79)).alloc (.cells #[.bool false, .slice none 0 0, .slice none 0 0] 24)).heap.size) := HZ.out.lt
  have HC1 := hid (wcheck_any n _ xs _ HS.out.1 lx)
  rw [hx] at HC1
  have HC2 := hid (fun ww (hb : Below _ (((w.alloc (.cells #[.bool n, .slice a xs.length ca] 79)).alloc (.cells #[.bool m, .slice b ys.length cb] 79)).alloc (.cells #[.bool false, .slice none 0 0, .slice none 0 0] 24)) ww) => wcheck_any m _ ys ww (HS.out.2.later hb) ly)
  rw [hy] at HC2
  have h0' : ((ys.length : Int) == 0) = true := by rw [h0]; rfl
  have HE : Hid ((7 : Int) ≠ 0) := by show _ ≠ _; omega
  clear hx hy h0
  clear h g
  go_enter Tryz.func55, Tryz.ntmps55
  go_wp2_with fail
  refine Calls.mono HC1.out ?_
  generalize (((w.alloc (.cells #[.bool n, .slice a xs.length ca] 79)).alloc (.cells #[.bool m, .slice b ys.length cb] 79)).alloc (.cells #[.bool false, .slice none 0 0, .slice none 0 0] 24)) = X at *
  rintro e w1 ⟨rfl, hb1⟩
  have HB1 := hid hb1
  clear hb1 HC1
  have HC := hid (HC2.out w1 HB1.out)
  obtain ⟨q0, q1, _, _⟩ := (HM.out.later HB1.out HM.out.lt).c2
  clear HC2
  go_wp2_with fail
  refine Calls.mono HC.out ?_
  rintro e w2 ⟨rfl, hb2⟩
  have HB2 := hid (bt HB1.out hb2)
  clear hb2 HC q0 q1
  obtain ⟨q0, q1, _, _⟩ := (HM.out.later HB2.out HM.out.lt).c2
  obtain ⟨y0, y1, y2, f0, f1, f2⟩ := res_box3 HZ.out HB2.out
  have HBN := hid (below_put3 (bt HB.out HB2.out) (w.heap.size + 1 + 1) (by omega) (.bool false) (.slice none 0 0) (.slice none 0 0))
  clear HN HM HZ HS
  go_wp2_with fail
  refine bodyPost_ret (v := .tuple #[.agg #[.bool false, .slice none 0 0, .slice none 0 0], .int .i64 7]) (by simp [results, Tryz.results55, go_sem, y0, y1, y2]) rfl ?_
  exact ⟨false, _, [], _, [], _, rfl, World.ownsRow_nil _ _ _ _, World.ownsRow_nil _ _ _ _, RTells.err HE.out, HBN.out, ⟨w.heap.size, Nat.le_refl _, HBN.out.size, fun g hg => by simp [Value.ownBlock] at hg, fun g hg => by simp [Value.ownBlock] at hg⟩⟩

set_option maxHeartbeats 6400000 in
set_option maxRecDepth 100000 in
theorem rmake_ok (n : Bool) (a : Option Addr) (ca : Nat) (xs : List Int) (m : Bool) (b : Option Addr) (cb : Nat) (ys : List Int) (w : World) (h : Sl w (.slice a xs.length ca) xs) (g : Sl w (.slice b ys.length cb) ys) (lx : xs.length ≤ 281474976710656) (ly : ys.length ≤ 281474976710656) (hx : wchk n xs = 0) (hy : wchk m ys = 0) (h0 : 0 < ys.length) :
    Calls Tryz.prog 55 #[.agg #[.bool n, .slice a xs.length ca], .agg #[.bool m, .slice b ys.length cb]] w (RToldA w 0 (Rat.divInt (wval n xs) (wval m ys))) := by
  obtain ⟨kx, tx, _⟩ := wchk_ok hx
  obtain ⟨ky, ty, _⟩ := wchk_ok hy
  have wx := h.wd
  have wy := g.wd
  have HB : Hid (Below w.heap.size w (((w.alloc (.cells #[.bool n, .slice a xs.length ca] 79)).alloc (.cells #[.bool m, .slice b ys.length cb] 79)).alloc (.cells #[.bool false, .slice none 0 0, .slice none 0 0] 24))) := bt (bt (alloc_later _ _) (alloc_later _ _)) (alloc_later _ _)
  have HZ : Hid (Box (((w.alloc (.cells #[.bool n, .slice a xs.length ca] 79)).alloc (.cells #[.bool m, .slice b ys.length cb] 79)).alloc (.cells #[.bool false, .slice none 0 0, .slice none 0 0] 24)) (w.heap.size + 1 + 1) 24 #[.bool false, .slice none 0 0, .slice none 0 0]) := by
    have e := Box.made ((w.alloc (.cells #[.bool n, .slice a xs.length ca] 79)).alloc (.cells #[.bool m, .slice b ys.length cb] 79)) 24 #[.bool false, .slice none 0 0, .slice none 0 0]
    simp at e
    exact e
  have HN : Hid (Box (((w.alloc (.cells #[.bool n, .slice a xs.length ca] 79)).alloc (.cells #[.bool m, .slice b ys.length cb] 79)).alloc (.cells #[.bool false, .slice none 0 0, .slice none 0 0] 24)) w.heap.size 79 #[.bool n, .slice a xs.length ca]) := Box.later (Box.later (Box.made w _ _) (alloc_later _ _) (by simp)) (alloc_later _ _) (by simp; omega)
  have HM : Hid (Box (((w.alloc (.cells #[.bool n, .slice a xs.length ca] 79)).alloc (.cells #[.bool m, .slice b ys.length cb] 79)).alloc (.cells #[.bool false, .slice none 0 0, .slice none 0 0] 24)) (w.heap.size + 1) 79 #[.bool m, .slice b ys.length cb]) := by
    have e := Box.later (Box.made (w.alloc (.cells #[.bool n, .slice a xs.length ca] 79)) 79 #[.bool m, .slice b ys.length cb]) (alloc_later ((w.alloc (.cells #[.bool n, .slice a xs.length ca] 79)).alloc (.cells #[.bool m, .slice b ys.length cb] 79)) (.cells #[.bool false, .slice none 0 0, .slice none 0 0] 24)) (by simp)
    simp at e
    exact e
  have HS := hid (And.intro (h.later HB.out) (g.later HB.out))
  have HXS : Hid (w.heap.size + 1 + 1 < (((w.alloc (.cells #[.bool n, .slice a xs.length ca] 79)).alloc (.cells #[.bool m, .slice b ys.length cb] 79)).alloc (.cells #[.bool false, .slice none 0 0, .slice none 0 0] 24)).heap.size) := HZ.out.lt
  have HC1 := hid (wcheck_any n _ xs _ HS.out.1 lx)
  rw [hx] at HC1
  have HC2 := hid (fun ww (hb : Below _ (((w.alloc (.cells #[.bool n, .slice a xs.length ca] 79)).alloc (.cells #[.bool m, .slice b ys.length cb] 79)).alloc (.cells #[.bool false, .slice none 0 0, .slice none 0 0] 24)) ww) => wcheck_any m _ ys ww (HS.out.2.later hb) ly)
  rw [hy] at HC2
  have h0' : ((ys.length : Int) == 0) = false := beq_eq_false_iff_ne.2 (by omega)
  have HPY : Hid (0 < val ys) := by have := val_pos' wy ty h0; show _ < _; omega
  have HG : Hid (0 < gcdI (val xs) (val ys) ∧ gcdI (val xs) (val ys) ≤ val ys ∧ val ys < 4294967296 ^ 2048) := ⟨gcd_pos_right HPY.out, gcd_le_right HPY.out, below2048 wy ky⟩
  have HMP := hid (make_parts (n := n) (m := m) (val_nonneg wx) HPY.out)
  have HTT := hid (And.intro tx ty)
  obtain ⟨s, hs⟩ : ∃ s, (!(n == m)) = s := ⟨_, rfl⟩
  have HSG := hid (show (n != m) = s from hs)
  clear h g hx hy h0 tx ty
  go_enter Tryz.func55, Tryz.ntmps55
  go_wp2_with fail
  refine Calls.mono HC1.out ?_
  generalize (((w.alloc (.cells #[.bool n, .slice a xs.length ca] 79)).alloc (.cells #[.bool m, .slice b ys.length cb] 79)).alloc (.cells #[.bool false, .slice none 0 0, .slice none 0 0] 24)) = X at *
  rintro e w1 ⟨rfl, hb1⟩
  have HB1 := hid hb1
  clear hb1 HC1
  have HC := hid (HC2.out w1 HB1.out)
  obtain ⟨q0, q1, _, _⟩ := (HM.out.later HB1.out HM.out.lt).c2
  clear HC2
  go_wp2_with fail
  refine Calls.mono HC.out ?_
  rintro e w2 ⟨rfl, hb2⟩
  have HB2 := hid (bt HB1.out hb2)
  clear hb2 HC q0 q1
  have HK : Hid (∀ V, Below X.heap.size X V → V.cell? ⟨w.heap.size, 0, none⟩ = some (.bool n) ∧ V.cell? ⟨w.heap.size, 1, none⟩ = some (.slice a xs.length ca) ∧ V.cell? ⟨w.heap.size + 1, 0, none⟩ = some (.bool m) ∧ V.cell? ⟨w.heap.size + 1, 1, none⟩ = some (.slice b ys.length cb)) := fun V hb => by
    obtain ⟨p0, p1, _, _⟩ := (HN.out.later hb HN.out.lt).c2
    obtain ⟨q0, q1, _, _⟩ := (HM.out.later hb HM.out.lt).c2
    exact ⟨p0, p1, q0, q1⟩
  have HCM := hid (told1_at _ HK.out w2 HB2.out (rcommon_any _ _ xs ys w2 (HS.out.1.later HB2.out) (HS.out.2.later HB2.out) (by omega) (by omega) HTT.out.1 HTT.out.2))
  obtain ⟨p0, p1, q0, q1⟩ := HK.out w2 HB2.out
  go_wp2_with fail
  refine Calls.mono HCM.out ?_
  rintro e w3 ⟨a3, z3, c3, rfl, HE3, _, hb3, HS3⟩
  have hb3d := hb3.drew
  have HO3 := hid (HE3.out.later (Below.drew (Below.refl _ w3)))
  clear HCM HE3 HS3 p0 p1 q0 q1
  have hs0 := HK.out _ hb3d
  have HQX := hid (fun ww (hv' : Below X.heap.size X ww) (h : One X ww (.slice a3 z3.length c3) z3 (gcdI (val xs) (val ys))) => quot_in _ HK.out hv' (HS.out.1.later hv') (by omega) HTT.out.1 h HG.out.1 (by have := HG.out; omega))
  have HQY := hid (fun ww (hv' : Below X.heap.size X ww) (h : One X ww (.slice a3 z3.length c3) z3 (gcdI (val xs) (val ys))) => quot_in _ HK.out hv' (HS.out.2.later hv') (by omega) HTT.out.2 h HG.out.1 (by have := HG.out; omega))
  have HTL := hid (fun (ww : World) (hb : Below X.heap.size X ww) (a4 : Option Addr) (z4 : List Int) (c4 : Nat) (a5 : Option Addr) (z5 : List Int) (c5 : Nat) (g1 : One X ww (.slice a4 z4.length c4) z4 (val xs / gcdI (val xs) (val ys))) (g2 : One X ww (.slice a5 z5.length c5) z5 (val ys / gcdI (val xs) (val ys))) (hc : Cut X (.slice a4 z4.length c4) (.slice a5 z5.length c5) ww) => rtold_cut (n := s) (q := Rat.divInt (wval n xs) (wval m ys)) _ HK.out hb g1 g2 hc HMP.out.1 HMP.out.2.1 (by rw [← HSG.out]; exact HMP.out.2.2))
  have hq0 : w.heap.size + 1 + 1 ≠ w.heap.size := by omega
  have hq1 : w.heap.size + 1 + 1 ≠ w.heap.size + 1 := by omega
  clear HTT HG HPY
  go_wp2_with fail
  go_region_held3 (fun V : World => V.cell? ⟨w.heap.size, 0, none⟩ = some (.bool n) ∧ V.cell? ⟨w.heap.size, 1, none⟩ = some (.slice a xs.length ca) ∧ V.cell? ⟨w.heap.size + 1, 0, none⟩ = some (.bool m) ∧ V.cell? ⟨w.heap.size + 1, 1, none⟩ = some (.slice b ys.length cb)) (first | exact hs9 | exact hs5 | exact hs4 | exact hs0 | (simp [hs9, World.cell?_setCell_far, hq0]))
    (first
      | (go_at_call 43; with_reducible refine Calls.mono (HTL.out _ hb5 _ _ _ _ _ _ (HE4.out.1.later HS5.out) HE5.out.1 (cut_two hb3d.size HS4.out.size HS5.out.size HE4.out.2 HE5.out.2)) ?_; rintro e w9 ⟨k9, a8, z8, c8, a9, z9, c9, code, rfl, HE9, hs9, hb9⟩; obtain ⟨y0, y1, y2, f0, f1, f2⟩ := res_box3 HZ.out hb9)
      | (go_at_call 48; with_reducible refine Calls.mono (HQY.out _ hb4 (HO3.out.later HS4.out)) ?_; rintro e w5 ⟨a5, z5, c5, rfl, HE5, hs5, hb5, HS5⟩)
      | (go_at_call 48; with_reducible refine Calls.mono (HQX.out _ hb3d HO3.out) ?_; rintro e w4 ⟨a4, z4, c4, rfl, HE4, hs4, hb4, HS4⟩))
  all_goals
    have HBW := hid (bt HB.out hb9)
    have HR := hid HE9.out
    clear HK HQX HQY HTL HE4 HE5 HE9 HS4 HS5 HO3 hs0 hs4 hs5 hs9 hb3 hb3d hb4 hb5 hb9 HMP HSG
    go_wp2_with fail
    refine bodyPost_ret (v := .tuple #[.agg #[.bool k9, .slice a8 z8.length c8, .slice a9 z9.length c9], .int .i64 code]) (by simp [results, Tryz.results55, go_sem, y0, y1, y2]) rfl ?_
    exact RToldA.put HR.out (w.heap.size + 1 + 1) HXS.out (by omega) HBW.out _ _ _

theorem rmake_any (n : Bool) (a : Option Addr) (ca : Nat) (xs : List Int) (m : Bool) (b : Option Addr) (cb : Nat) (ys : List Int) (w : World) (h : Sl w (.slice a xs.length ca) xs) (g : Sl w (.slice b ys.length cb) ys) (lx : xs.length ≤ 281474976710656) (ly : ys.length ≤ 281474976710656) :
    Calls Tryz.prog 55 #[.agg #[.bool n, .slice a xs.length ca], .agg #[.bool m, .slice b ys.length cb]] w (RToldA w (mkErr n xs m ys) (Rat.divInt (wval n xs) (wval m ys))) := by
  unfold mkErr
  by_cases hb : wboth n xs m ys = 0
  · obtain ⟨hx, hy⟩ := wboth_ok hb
    rw [if_pos hb]
    by_cases h0 : ys.length = 0
    · rw [if_pos h0]
      exact rmake_z n a ca xs m b cb ys w h g lx ly hx hy h0 _
    · rw [if_neg h0]
      exact rmake_ok n a ca xs m b cb ys w h g lx ly hx hy (by omega)
  · rw [if_neg hb]
    unfold wboth at hb ⊢
    by_cases hx : wchk n xs = 0
    · rw [if_pos hx] at hb ⊢
      exact rmake_e2 n a ca xs m b cb ys w h g lx ly hx hb _
    · rw [if_neg hx]
      exact rmake_e1 n a ca xs m b cb ys w h g lx ly hx _
end Go.Proofs.YtoigpodamciehaaGreatDoor

/- Fractions: ratio.Small. -/
namespace Go.Proofs.YtoigpodamciehaaGreatDoor
open Go.RowKit
set_option linter.unusedVariables false

theorem small_err {n m : Bool} {zs us : List Int} {y : Int} (l1 : zs.length ≤ 2) (t1 : Trimmed zs) (s1 : n = false ∨ 0 < zs.length) (w2 : Wd us) (l2 : us.length ≤ 2) (t2 : Trimmed us) (s2 : m = false ∨ 0 < us.length) (v2 : wval m us = y) : mkErr n zs m us = if y = 0 then 7 else 0 := by
  unfold mkErr
  rw [wboth_good (wchk_good (by omega) t1 s1) (wchk_good (by omega) t2 s2), if_pos rfl]
  by_cases c : us.length = 0
  · have e0 : val us = 0 := trimmed_zero' c
    have : y = 0 := by rw [← v2]; cases m <;> simp [wval, e0]
    rw [if_pos c, if_pos this]
  · have e0 := val_pos' w2 t2 (by omega)
    have : ¬ y = 0 := by rw [← v2]; cases m <;> simp [wval] <;> omega
    rw [if_neg c, if_neg this]

set_option maxHeartbeats 1600000 in
set_option maxRecDepth 100000 in
theorem rsmall_any (x y : Int) (w : World) (x0 : -9223372036854775808 ≤ x) (x1 : x ≤ 9223372036854775807) (y0 : -9223372036854775808 ≤ y) (y1 : y ≤ 9223372036854775807) :
    Calls Tryz.prog 33 #[.int .i64 x, .int .i64 y] w (RToldA w (if y = 0 then 7 else 0) (Rat.divInt x y)) := by
  have HB : Hid (Below w.heap.size w (w.alloc (.cells #[.bool false, .slice none 0 0, .slice none 0 0] 24))) := alloc_later _ _
  have HZ : Hid (Box (w.alloc (.cells #[.bool false, .slice none 0 0, .slice none 0 0] 24)) w.heap.size 24 #[.bool false, .slice none 0 0, .slice none 0 0]) := Box.made w _ _
  have HO1 := hid (wof_any x (w.alloc (.cells #[.bool false, .slice none 0 0, .slice none 0 0] 24)) x0 x1)
  obtain ⟨E, hE⟩ : ∃ E : Int, (if y = 0 then (7 : Int) else 0) = E := ⟨_, rfl⟩
  rw [hE]
  have HE := hid hE
  clear hE
  go_enter Tryz.func33, Tryz.ntmps33
  go_wp2_with fail
  refine Calls.mono HO1.out ?_
  generalize (w.alloc (.cells #[.bool false, .slice none 0 0, .slice none 0 0] 24)) = X at *
  rintro e w1 ⟨n1, v1, z1, rfl, o1, wd1, t1, l1, s1, hv1, hb1⟩
  obtain ⟨a1, c1, hs1⟩ := own_slice' o1
  subst hs1
  have HO2 := hid (wof_any y w1 y0 y1)
  have HS1 := hid (Sl.own o1 wd1)
  have HV1 := hid (And.intro t1 (And.intro s1 hv1))
  have HB1 := hid hb1
  clear o1 wd1 t1 s1 hv1 hb1 HO1
  go_wp2_with fail
  refine Calls.mono HO2.out ?_
  rintro e w2 ⟨n2, v2, z2, rfl, o2, wd2, t2, l2, s2, hv2, hb2⟩
  obtain ⟨a2, c2, hs2⟩ := own_slice' o2
  subst hs2
  have HM := hid (rmake_any n1 a1 c1 z1 n2 a2 c2 z2 w2 (HS1.out.later hb2) (Sl.own o2 wd2) (by omega) (by omega))
  rw [small_err l1 HV1.out.1 HV1.out.2.1 wd2 l2 t2 s2 hv2, HE.out, HV1.out.2.2, hv2] at HM
  have HB2 := hid (bt HB1.out hb2)
  clear o2 wd2 t2 s2 hv2 hb2 HO2 HS1 HV1
  go_wp2_with fail
  refine Calls.mono HM.out ?_
  rintro e w3 ⟨k3, v3, z3, u3, r3, code, rfl, o3, o4, t3, hb3, hc3⟩
  obtain ⟨a3, c3, hs3⟩ := own_slice' o3
  subst hs3
  obtain ⟨a4, c4, hs4⟩ := own_slice' o4
  subst hs4
  have HR := hid (And.intro o3 (And.intro o4 (And.intro t3 hc3)))
  obtain ⟨y0', y1', y2', f0, f1, f2⟩ := res_box3 HZ.out (bt HB2.out hb3)
  have HBW := hid (bt HB.out (bt HB2.out hb3))
  have HLT : Hid (w.heap.size < w2.heap.size) := Nat.lt_of_lt_of_le HZ.out.lt HB2.out.size
  clear o3 o4 t3 hb3 hc3 HM
  go_wp2_with fail
  refine bodyPost_ret (v := .tuple #[.agg #[.bool k3, .slice a3 z3.length c3, .slice a4 r3.length c4], .int .i64 code]) (by simp [results, Tryz.results33, go_sem, y0', y1', y2']) rfl ?_
  exact RToldA.put HR.out w.heap.size HLT.out (Nat.le_refl _) HBW.out _ _ _
end Go.Proofs.YtoigpodamciehaaGreatDoor

/- The laws' small; no float between a float and the next; real.Compare and real.Within of a float and the fraction that it is. -/
namespace Go.Proofs.YtoigpodamciehaaGreatDoor
open Go.RowKit
set_option linter.unusedVariables false

/-- A fraction told alone. -/
def RVal6 (w : World) (e : Int) (q : Rat) (x : Ending) (w' : World) : Prop :=
  ∃ n v xs u ys code, x = .returned (.agg #[.bool n, v, u]) ∧ w'.ownsRow w.heap.size 63 1 v xs.length (xs.map (Value.int .u32)) ∧ w'.ownsRow w.heap.size 63 1 u ys.length (ys.map (Value.int .u32)) ∧ RTells e q n xs ys code ∧ Below w.heap.size w w'
theorem RVal6.put {w U w3 : World} {e : Int} {q : Rat} {k : Bool} {v u : Value} {zs ds : List Int} {code : Int} (h : w3.ownsRow U.heap.size 63 1 v zs.length (zs.map (Value.int .u32)) ∧ w3.ownsRow U.heap.size 63 1 u ds.length (ds.map (Value.int .u32)) ∧ RTells e q k zs ds code) (b : Nat) (hb : b < U.heap.size) (hw : w.heap.size ≤ b) (hbw : Below w.heap.size w w3) (x y z : Value) :
    RVal6 w e q (.returned (.agg #[.bool k, v, u])) (((w3.setCell ⟨b, 0, none⟩ x).setCell ⟨b, 1, none⟩ y).setCell ⟨b, 2, none⟩ z) :=
  ⟨k, v, zs, u, ds, code, rfl, owns_base (own_put3 h.1 b (fun g hg => by have := (World.ownsRow.lt h.1 g hg).1; omega) _ _ _) (by omega), owns_base (own_put3 h.2.1 b (fun g hg => by have := (World.ownsRow.lt h.2.1 g hg).1; omega) _ _ _) (by omega), h.2.2, below_put3 hbw b hw _ _ _⟩
set_option maxHeartbeats 1600000 in
set_option maxRecDepth 100000 in
theorem small6_any (x y : Int) (w : World) (x0 : -9223372036854775808 ≤ x) (x1 : x ≤ 9223372036854775807) (y0 : -9223372036854775808 ≤ y) (y1 : y ≤ 9223372036854775807) :
    Calls Tryz.prog 15 #[.int .i64 x, .int .i64 y] w (RVal6 w (if y = 0 then 7 else 0) (Rat.divInt x y)) := by
  have HB := hid (alloc_later w (.cells #[.bool false, .slice none 0 0, .slice none 0 0] 24))
  have HZ := hid (Box.made w 24 #[.bool false, .slice none 0 0, .slice none 0 0])
  have HLT : Hid (w.heap.size < (w.alloc (.cells #[.bool false, .slice none 0 0, .slice none 0 0] 24)).heap.size) := by show _ < _; simp
  have HR := hid (rsmall_any x y (w.alloc (.cells #[.bool false, .slice none 0 0, .slice none 0 0] 24)) x0 x1 y0 y1)
  clear x0 x1 y0 y1
  generalize (if y = 0 then (7 : Int) else 0) = ee at *
  generalize Rat.divInt x y = q at *
  go_enter Tryz.func15, Tryz.ntmps15
  go_wp2_with fail
  refine Calls.mono HR.out ?_
  generalize (w.alloc (.cells #[.bool false, .slice none 0 0, .slice none 0 0] 24)) = X at *
  rintro e w1 ⟨n, v, xs, u, ys, code, rfl, o1, o2, t, hb1, hcut⟩
  obtain ⟨a1, c1, hv⟩ := own_slice' o1
  subst hv
  obtain ⟨a2, c2, hv⟩ := own_slice' o2
  subst hv
  have hb4 := bt hb1 (alloc_later w1 (.cells #[.bool n, .slice a1 xs.length c1, .slice a2 ys.length c2] 24))
  obtain ⟨r0, r1, r2, f0, f1, f2⟩ := res_box3 HZ.out hb4
  have HE := hid (And.intro (owns_later o1 (alloc_later w1 (.cells #[.bool n, .slice a1 xs.length c1, .slice a2 ys.length c2] 24))) (And.intro (owns_later o2 (alloc_later w1 (.cells #[.bool n, .slice a1 xs.length c1, .slice a2 ys.length c2] 24))) t))
  have HW := hid (bt HB.out hb4)
  have hne : w1.heap.size ≠ w.heap.size := by have := hb1.size; have := HLT.out; omega
  clear o1 o2 t hcut hb1 hb4 HR
  go_wp2_with fail
  refine bodyPost_ret (v := .agg #[.bool n, .slice a1 xs.length c1, .slice a2 ys.length c2]) (by simp [results, Tryz.results15, go_sem, r0, r1, r2]) rfl ?_
  exact RVal6.put HE.out w.heap.size HLT.out (Nat.le_refl _) HW.out _ _ _

theorem ext_same {x : Nat} {n m : Bool} {xs ys us vs : List Int} (wx : Wd xs) (wy : Wd ys) (wu : Wd us) (wv : Wd vs) (h : ExT x n xs ys) (g : ExT x m us vs) : n = m ∧ xs = us ∧ ys = vs := by
  have t1 := rtells_self wx wy h.1
  have t2 := rtells_self wu wv g.1
  rw [h.2.2] at t1
  rw [g.2.2] at t2
  obtain ⟨a, b, c, _⟩ := t1.same t2
  exact ⟨a, b, c⟩
theorem rcmp_self {n : Bool} {xs ys : List Int} (h : rchk n xs ys = 0) : rcmp n xs ys n xs ys = 0 ∧ rboth n xs ys n xs ys = 0 := by
  have hb := rboth_good h h
  unfold rcmp
  rw [if_pos hb]
  exact ⟨cmpI_eq rfl, hb⟩

end Go.Proofs.YtoigpodamciehaaGreatDoor

/- real.Within of a float, the fraction that it is, and nothing for the bound. -/
namespace Go.Proofs.YtoigpodamciehaaGreatDoor
open Go.RowKit
set_option linter.unusedVariables false

theorem fq_zero : fq 0 = 0 := by
  unfold fq
  have e : fcount 0 = 0 := by decide
  rw [e]
  simp [sg, Rat.zero_divInt]
theorem rat_less0 (q : Rat) : q - 0 = q := by grind
theorem rat_more0 (q : Rat) : q + 0 = q := by grind
/-- What is told of a fraction is the fraction that was told before. -/
theorem told_same {q : Rat} {n m : Bool} {xs ys us vs : List Int} {c : Int} (wx : Wd xs) (wy : Wd ys) (h : rchk n xs ys = 0) (hq : rq n xs ys = q) (g : RTells 0 q m us vs c) : m = n ∧ us = xs ∧ vs = ys ∧ c = 0 := by
  have t := rtells_self wx wy h
  rw [hq] at t
  exact g.same t
/-- Three cells of a box written: its own, another box, rows, what was there. -/
theorem put3_box {W : World} {b t : Nat} {u0 u1 u2 : Value} (h : Box W b t #[u0, u1, u2]) (v0 v1 v2 : Value) : Box (((W.setCell ⟨b, 0, none⟩ v0).setCell ⟨b, 1, none⟩ v1).setCell ⟨b, 2, none⟩ v2) b t #[v0, v1, v2] := ((h.set 0 v0).set 1 v1).set 2 v2
theorem put3_far {W : World} {b t b' : Nat} {vs : Array Value} (h : Box W b t vs) (hne : b ≠ b') (v0 v1 v2 : Value) : Box (((W.setCell ⟨b', 0, none⟩ v0).setCell ⟨b', 1, none⟩ v1).setCell ⟨b', 2, none⟩ v2) b t vs := ((h.other ⟨b', 0, none⟩ v0 hne).other ⟨b', 1, none⟩ v1 hne).other ⟨b', 2, none⟩ v2 hne
theorem put3_row {W : World} {base n b t : Nat} {v : Value} {xs : List Value} {vs : Array Value} (h : W.ownsRow base 63 1 v n xs) (hb : Box W b t vs) (hne : 63 ≠ t) (v0 v1 v2 : Value) : (((W.setCell ⟨b, 0, none⟩ v0).setCell ⟨b, 1, none⟩ v1).setCell ⟨b, 2, none⟩ v2).ownsRow base 63 1 v n xs := own_put3 h b (fun g hg => own_ne_box h hb hne g hg) v0 v1 v2

end Go.Proofs.YtoigpodamciehaaGreatDoor

/- The laws' awake: what the document's examples say. -/
namespace Go.Proofs.YtoigpodamciehaaGreatDoor
open Go.RowKit
set_option linter.unusedVariables false

theorem wd1 (k : Int) (h : 0 ≤ k ∧ k ≤ 4294967295) : Wd [k] := Wd.one h
theorem third_chk : rchk false [1] [3] = 0 := by decide
theorem half_chk : rchk false [1] [2] = 0 := by decide
theorem third_q : rq false [1] [3] = Rat.divInt 1 3 := by
  show Rat.divInt (wval false [1]) (val [3]) = _
  rw [show wval false [1] = 1 by decide, show val [3] = 3 by decide]
theorem half_q : rq false [1] [2] = Rat.divInt 1 2 := by
  show Rat.divInt (wval false [1]) (val [2]) = _
  rw [show wval false [1] = 1 by decide, show val [2] = 2 by decide]
theorem half_fq : fq 4602678819172646912 = Rat.divInt 1 2 := by
  have h : RTells 0 (fq 4602678819172646912) false [1] [2] 0 := frac_good (by decide) (wd1 1 (by omega)) (show sz _ = _ by decide) (wd1 2 (by omega)) (show sz _ = _ by decide) (by decide +kernel) (by decide +kernel)
  rw [← half_q, ← (rtells_ok h).2]
theorem third_known {n : Bool} {xs ys : List Int} {c : Int} (h : RTells 0 (Rat.divInt 1 3) n xs ys c) : n = false ∧ xs = [1] ∧ ys = [3] := by
  obtain ⟨a, b, d, _⟩ := told_same (wd1 1 (by omega)) (wd1 3 (by omega)) third_chk third_q h
  exact ⟨a, b, d⟩
theorem half_known {n : Bool} {xs ys : List Int} {c : Int} (h : RTells 0 (Rat.divInt 1 2) n xs ys c) : n = false ∧ xs = [1] ∧ ys = [2] := by
  obtain ⟨a, b, d, _⟩ := told_same (wd1 1 (by omega)) (wd1 2 (by omega)) half_chk half_q h
  exact ⟨a, b, d⟩
theorem third_mid : Mid (1 * 2 ^ zP) 3 4599676419421066581 := ⟨by decide, fun _ => by decide +kernel, fun _ => by decide +kernel, fun _ => by decide +kernel, fun _ => by decide +kernel⟩
theorem third_near {x : Nat} {c : Int} (h : NrT false [1] [3] x c) : x = 4599676419421066581 ∧ c = 0 := by
  rcases h with ⟨h0, _⟩ | ⟨_, X, Y, s, hX, hY, hp, hm, h⟩
  · exact absurd third_chk h0
  · have eX : X = 1 := by have : val [1] = 1 := by decide
                          omega
    have eY : Y = 3 := by have : val [3] = 3 := by decide
                          omega
    subst eX; subst eY
    have := hm.unique hp third_mid
    subst this
    rcases h with ⟨h, _⟩ | ⟨_, hc, hx⟩
    · exact absurd h (by decide)
    · exact ⟨by rw [hx]; rfl, hc⟩
theorem one_next : nxt 4607182418800017408 = (4607182418800017409, 0) := by decide +kernel
theorem one_two : tsum 4607182418800017408 4336966441157787648 = (4607182418800017408, 4336966441157787648, 0) := by decide +kernel

set_option maxHeartbeats 1600000 in
set_option maxRecDepth 100000 in
theorem awake6_any (w : World) (hT : TabB w) :
    Calls Tryz.prog 4 #[] w fun e w' => e = .returned (.bool true) ∧ Below w.heap.size w w' := by
  have HE := hid (exact_fin 4602678819172646912 w ⟨by decide, by decide⟩ hT)
  clear hT
  go_enter Tryz.func4, Tryz.ntmps4
  go_wp2_with fail
  refine Calls.mono HE.out ?_
  rintro e w1 ⟨n, a, ca, b, cb, xs, ys, rfl, o1, o2, wx, wy, he, b1⟩
  obtain ⟨rfl, rfl, rfl⟩ := ext_same wx wy (wd1 1 (by omega)) (wd1 2 (by omega)) he ⟨half_chk, by decide +kernel, by rw [half_fq]; exact half_q⟩
  have l1 : ([1] : List Int).length = 1 := rfl
  have l2 : ([2] : List Int).length = 1 := rfl
  rw [l1] at o1 ⊢
  rw [l2] at o2 ⊢
  obtain ⟨X, hX⟩ : ∃ X, w1.alloc (.cells #[.bool false, .slice a 1 ca, .slice b 1 cb] 24) = X := ⟨_, rfl⟩
  have b2 : Below w1.heap.size w1 X := by rw [← hX]; exact alloc_later _ _
  have HBX : Hid (Box X w1.heap.size 24 #[.bool false, .slice a 1 ca, .slice b 1 cb]) := by rw [← hX]; exact Box.made w1 _ _
  have HS := hid (small6_any 1 3 X (by omega) (by omega) (by omega) (by omega))
  rw [if_neg (by decide)] at HS
  have HR := hid (And.intro (owns_later o1 b2) (owns_later o2 b2))
  have HB := hid (bt b1 b2)
  clear HE o1 o2 wx wy he b1 b2
  go_wp2_with fail
  clear hX
  refine Calls.mono HS.out ?_
  rintro e w2 ⟨n3, v3, xs3, u3, ys3, c3, rfl, p1, p2, t3, b3⟩
  obtain ⟨rfl, rfl, rfl⟩ := third_known t3
  have HN := hid (nearest_any false v3 [1] u3 [3] w2 (Sl.own p1 (wd1 1 (by omega))) (Sl.own p2 (wd1 3 (by omega))))
  have HB3 := hid b3
  clear HS p1 p2 t3 b3
  go_wp2_with fail
  refine Calls.mono HN.out ?_
  rintro e w3 ⟨x, code, rfl, hnt, b4⟩
  obtain ⟨rfl, rfl⟩ := third_near hnt
  have HX := hid (next_any 4607182418800017408 w3 (by decide))
  rw [one_next] at HX
  have HB4 := hid (bt HB3.out b4)
  clear HN hnt b4 HB3
  go_wp2_with fail
  refine Calls.mono HX.out ?_
  rintro e w4 ⟨rfl, b5⟩
  have HW := hid (TwoSum_any 4607182418800017408 4336966441157787648 w4 (by decide) (by decide))
  rw [one_two, show tsumV (4607182418800017408, 4336966441157787648, 0) = .tuple #[.float .f64 4607182418800017408, .float .f64 4336966441157787648, .int .i64 0] from rfl] at HW
  have HB5 := hid (bt HB4.out b5)
  clear HX b5 HB4
  go_wp2_with fail
  refine Calls.mono HW.out ?_
  rintro e w5 ⟨rfl, b6⟩
  have HB6 := hid (bt HB5.out b6)
  have HX5 := hid (HBX.out.later HB6.out HBX.out.lt)
  have HR5 := hid (And.intro (owns_later HR.out.1 HB6.out) (owns_later HR.out.2 HB6.out))
  have HBW := hid (bt HB.out HB6.out)
  have HK : Hid (∀ V, Below w5.heap.size w5 V → V.cell? ⟨w1.heap.size, 0, none⟩ = some (.bool false) ∧ V.cell? ⟨w1.heap.size, 1, none⟩ = some (.slice a 1 ca) ∧ V.cell? ⟨w1.heap.size, 2, none⟩ = some (.slice b 1 cb)) := fun V hv => by
    have h := HX5.out.later hv HX5.out.lt
    exact ⟨h.cell 0, h.cell 1, h.cell 2⟩
  have HD := hid (Below.drew (Below.refl w5.heap.size w5))
  have hs0 := HK.out _ HD.out
  have HS2 : Hid (∀ V, Below w5.heap.size w5 V → Calls Tryz.prog 15 #[.int .i64 1, .int .i64 2] V fun e w' => ∃ a' c' b' d', e = .returned (.agg #[.bool false, .slice a' 1 c', .slice b' 1 d']) ∧ (w'.cell? ⟨w1.heap.size, 0, none⟩ = some (.bool false) ∧ w'.cell? ⟨w1.heap.size, 1, none⟩ = some (.slice a 1 ca) ∧ w'.cell? ⟨w1.heap.size, 2, none⟩ = some (.slice b 1 cb)) ∧ Hid (Sl w' (.slice a' 1 c') [1] ∧ Sl w' (.slice b' 1 d') [2]) ∧ Hid (Below w5.heap.size w5 w')) := fun V hv => by
    have h := small6_any 1 2 V (by omega) (by omega) (by omega) (by omega)
    rw [if_neg (by decide)] at h
    refine Calls.mono h ?_
    rintro e w' ⟨n, v, xs, u, ys, c, rfl, q1, q2, t, hb⟩
    obtain ⟨rfl, rfl, rfl⟩ := half_known t
    obtain ⟨a', c', rfl⟩ := own_slice' q1
    obtain ⟨b', d', rfl⟩ := own_slice' q2
    exact ⟨a', c', b', d', rfl, HK.out w' (bt hv hb), ⟨Sl.own q1 (wd1 1 (by omega)), Sl.own q2 (wd1 2 (by omega))⟩, bt hv hb⟩
  have HSM : Hid (∀ V a' c' b' d', Below w5.heap.size w5 V → Sl V (.slice a' 1 c') [1] → Sl V (.slice b' 1 d') [2] → Calls Tryz.prog 17 #[.agg #[.bool false, .slice a 1 ca, .slice b 1 cb], .agg #[.bool false, .slice a' 1 c', .slice b' 1 d']] V fun e w' => e = .returned (.bool true) ∧ (w'.cell? ⟨w1.heap.size, 0, none⟩ = some (.bool false) ∧ w'.cell? ⟨w1.heap.size, 1, none⟩ = some (.slice a 1 ca) ∧ w'.cell? ⟨w1.heap.size, 2, none⟩ = some (.slice b 1 cb)) ∧ Hid (Below w5.heap.size w5 w')) := fun V a' c' b' d' hv s1 s2 => by
    have h := rSame_any false a ca [1] b cb [2] false a' c' [1] b' d' [2] V (Sl.own (owns_later HR5.out.1 hv) (wd1 1 (by omega))) (Sl.own (owns_later HR5.out.2 hv) (wd1 2 (by omega))) s1 s2 (by decide) (by decide) (by decide) (by decide)
    rw [decide_eq_true ⟨rfl, rfl, rfl⟩] at h
    refine Calls.mono h ?_
    rintro e w' ⟨rfl, hb⟩
    exact ⟨rfl, HK.out w' (bt hv hb), bt hv hb⟩
  have q1 : (FloatKind.f64.format.order 4607182418800017409 4607182418800017409 == some .eq) = true := by decide +kernel
  have q2 : (FloatKind.f64.format.order 4607182418800017408 4607182418800017408 == some .eq) = true := by decide +kernel
  have q3 : (FloatKind.f64.format.order 4336966441157787648 4336966441157787648 == some .eq) = true := by decide +kernel
  have HBT := fun V => bits_run 4599676419421066581 V
  have hc : ((4599676419421066581 : Nat) : Int) = 4599676419421066581 := rfl
  rw [hc] at HBT
  clear HW b6 HB5 HBX HR HB HX5 HR5 hc
  go_wp2_with fail
  go_region_held3 (fun V : World => V.cell? ⟨w1.heap.size, 0, none⟩ = some (.bool false) ∧ V.cell? ⟨w1.heap.size, 1, none⟩ = some (.slice a 1 ca) ∧ V.cell? ⟨w1.heap.size, 2, none⟩ = some (.slice b 1 cb)) (first | exact hsB | exact hsA | exact hs0)
    (first
      | (go_at_call 15; (with_reducible refine Calls.mono (HS2.out _ HD.out) ?_); rintro e w6 ⟨a', c', b', d', rfl, hsA, HSA, HBA⟩)
      | (go_at_call 17; (with_reducible refine Calls.mono (HSM.out _ a' c' b' d' HBA.out HSA.out.1 HSA.out.2) ?_); rintro e w7 ⟨rfl, hsB, HBB⟩))
  all_goals
    go_wp2_with fail
    go_ret
    exact ⟨rfl, bt HBW.out HBB.out⟩

end Go.Proofs.YtoigpodamciehaaGreatDoor

/- No float is nearer than the nearest one, and it is at most half a gap away. Nothing here speaks of the program. -/
namespace Go.Proofs.YtoigpodamciehaaGreatDoor
open Go.RowKit
set_option linter.unusedVariables false

theorem near_best_pos {A Y s : Nat} (hm : Mid A Y s) (hs : s < 9218868437227405312) (t : Nat) :
    ((rungVal s : Int) * (Y : Int) - (A : Int)).natAbs ≤ ((rungVal t : Int) * (Y : Int) - (A : Int)).natAbs := by
  have c : ∀ r : Nat, (rungVal r : Int) * (Y : Int) = ((rungVal r * Y : Nat) : Int) := fun r => (Int.natCast_mul _ _).symm
  rw [c s, c t]
  rcases Nat.lt_trichotomy t s with h | h | h
  · have d := hm.down (by omega)
    rw [Nat.add_mul] at d
    have m1 : rungVal t * Y ≤ rungVal (s - 1) * Y := Nat.mul_le_mul_right _ (rungVal_le (by omega))
    have m2 : rungVal (s - 1) * Y ≤ rungVal s * Y := Nat.mul_le_mul_right _ (rungVal_le (by omega))
    generalize rungVal t * Y = Pt at *
    generalize rungVal (s - 1) * Y = P1 at *
    generalize rungVal s * Y = P at *
    omega
  · subst h; exact Nat.le_refl _
  · have d := hm.up hs
    rw [Nat.add_mul] at d
    have m1 : rungVal (s + 1) * Y ≤ rungVal t * Y := Nat.mul_le_mul_right _ (rungVal_le (by omega))
    have m2 : rungVal s * Y ≤ rungVal (s + 1) * Y := Nat.mul_le_mul_right _ (rungVal_le (by omega))
    generalize rungVal t * Y = Pt at *
    generalize rungVal (s + 1) * Y = P1 at *
    generalize rungVal s * Y = P at *
    omega
theorem sg_natAbs (n : Bool) (t : Int) : (sg n t).natAbs = t.natAbs := by cases n <;> simp [sg]
theorem sg_sub (n : Bool) (a b : Int) : sg n a - sg n b = sg n (a - b) := by cases n <;> simp [sg]; omega
theorem wval_pow {n : Bool} {xs : List Int} {X : Nat} (hX : val xs = X) (k : Nat) : wval n xs * 2 ^ k = sg n ((X * 2 ^ k : Nat) : Int) := by
  rw [wval_sg, hX, ← sg_mul', ncast_two]
theorem best_a {P T A : Int} (h0 : (P - A).natAbs ≤ (0 - A).natAbs) (hA : 0 ≤ A) (hT : 0 ≤ T) : (P - A).natAbs ≤ (-T - A).natAbs := by omega
theorem best_b {P T A : Int} (h0 : (P - A).natAbs ≤ (0 - A).natAbs) (hA : 0 ≤ A) (hT : 0 ≤ T) : (P - A).natAbs ≤ (T - -A).natAbs := by omega
theorem best_c {P T A : Int} (h0 : (P - A).natAbs ≤ (T - A).natAbs) : (P - A).natAbs ≤ (-T - -A).natAbs := by omega
theorem sg_f (t : Int) : sg false t = t := rfl
theorem sg_t (t : Int) : sg true t = -t := rfl
theorem sv_pm {y : Nat} (hy : y < 18446744073709551616) : sv y = (rungVal (y % 9223372036854775808) : Int) ∨ sv y = -(rungVal (y % 9223372036854775808) : Int) := by
  rw [sv_sg hy]
  cases (y / 9223372036854775808 == 1)
  · exact .inl (sg_f _)
  · exact .inr (sg_t _)
theorem rung_none : rungVal 0 = 0 := rungVal_zero.2 rfl
theorem near_best_sg {n : Bool} {A Y s t : Nat} {z : Int} (hm : Mid A Y s) (hs : s < 9218868437227405312) (hz : z = (rungVal t : Int) ∨ z = -(rungVal t : Int)) :
    (sg n (rungVal s : Int) * (Y : Int) - sg n (A : Int)).natAbs ≤ (z * (Y : Int) - sg n (A : Int)).natAbs := by
  rw [← sg_mul', sg_sub, sg_natAbs]
  have h0 := near_best_pos hm hs 0
  have ht := near_best_pos hm hs t
  rw [rung_none, Int.natCast_zero, Int.zero_mul] at h0
  have hn : 0 ≤ (rungVal t : Int) * (Y : Int) := Int.mul_nonneg (Int.natCast_nonneg _) (Int.natCast_nonneg _)
  have hA : 0 ≤ (A : Int) := Int.natCast_nonneg _
  cases n
  · rw [sg_f]
    rcases hz with e | e
    · rw [e]; exact ht
    · rw [e, Int.neg_mul]; exact best_a h0 hA hn
  · rw [sg_t]
    rcases hz with e | e
    · rw [e]; exact best_b h0 hA hn
    · rw [e, Int.neg_mul]; exact best_c ht
/-- Nothing is nearer. -/
theorem near_best {n : Bool} {xs ys : List Int} {x : Nat} {code : Int} (h : NrT n xs ys x code) (hc : code = 0) (y : Nat) (hy : Fi y) :
    (sv x * val ys - wval n xs * 2 ^ zP).natAbs ≤ (sv y * val ys - wval n xs * 2 ^ zP).natAbs := by
  obtain ⟨_, X, Y, s, hX, hY, hp, hm, hs, hf, hsv⟩ := nr_sv h hc
  rw [hsv, hY, wval_pow hX]
  exact near_best_sg hm hs (sv_pm hy.1)
theorem rung_gap (s : Nat) : rungVal (s + 1) = rungVal s + 2 ^ (s / 4503599627370496 - 1) := by
  rcases Nat.lt_or_ge s 4503599627370496 with h | h
  · have e1 : s / 4503599627370496 - 1 = 0 := by omega
    have a := rungVal_count (E := 0) (K := s) (by omega) (fun g => by omega)
    have b := rungVal_count (E := 0) (K := s + 1) (by omega) (fun g => by omega)
    rw [Nat.zero_mul, Nat.zero_add, Nat.pow_zero, Nat.mul_one] at a b
    rw [e1, a, b]
  · have a := rungVal_count (E := s / 4503599627370496 - 1) (K := 4503599627370496 + s % 4503599627370496) (by omega) (fun g => by omega)
    have b := rungVal_count (E := s / 4503599627370496 - 1) (K := 4503599627370496 + s % 4503599627370496 + 1) (by omega) (fun g => by omega)
    rw [show (s / 4503599627370496 - 1) * 4503599627370496 + (4503599627370496 + s % 4503599627370496) = s by omega] at a
    rw [show (s / 4503599627370496 - 1) * 4503599627370496 + (4503599627370496 + s % 4503599627370496 + 1) = s + 1 by omega] at b
    rw [a, b, Nat.add_mul _ 1, Nat.one_mul]
theorem unit_rung (x : Nat) : (funit x + 1074).toNat = x % 9223372036854775808 / 4503599627370496 - 1 := by
  unfold funit
  by_cases h : x / 4503599627370496 % 2048 = 0
  · rw [if_pos h]; omega
  · rw [if_neg h]; omega
theorem nr_mod {n : Bool} {xs ys : List Int} {x : Nat} {code : Int} (h : NrT n xs ys x code) (hc : code = 0) : ∃ X Y s : Nat, val xs = X ∧ val ys = Y ∧ 0 < Y ∧ Mid (X * 2 ^ zP) Y s ∧ s < 9218868437227405312 ∧ x % 9223372036854775808 = s ∧ sv x = sg n (rungVal s : Int) := by
  obtain ⟨_, X, Y, s, hX, hY, hp, hm, hs, hf, hsv⟩ := nr_sv h hc
  refine ⟨X, Y, s, hX, hY, hp, hm, hs, ?_, hsv⟩
  have e := congrArg Int.natAbs hsv
  rw [sv_abs, sg_natAbs] at e
  have e' : rungVal (x % 9223372036854775808) = rungVal s := by rw [e]; rfl
  rcases Nat.lt_trichotomy (x % 9223372036854775808) s with g | g | g
  · have := rungVal_lt g; omega
  · exact g
  · have := rungVal_lt g; omega
/-- It is within half a gap. -/
theorem near_gap {n : Bool} {xs ys : List Int} {x : Nat} {code : Int} (h : NrT n xs ys x code) (hc : code = 0) :
    2 * (sv x * val ys - wval n xs * 2 ^ zP).natAbs ≤ 2 ^ (funit x + 1074).toNat * (val ys).natAbs := by
  obtain ⟨X, Y, s, hX, hY, hp, hm, hs, hx, hsv⟩ := nr_mod h hc
  rw [hsv, hY, wval_pow hX, unit_rung, hx]
  generalize X * 2 ^ zP = A at *
  rw [← sg_mul', sg_sub, sg_natAbs, ← Int.natCast_mul]
  have u := hm.up hs
  rw [rung_gap s, Nat.add_mul, Nat.add_mul] at u
  rw [show ((Y : Int)).natAbs = Y from rfl]
  by_cases h0 : s = 0
  · subst h0
    have r0 : rungVal 0 = 0 := by decide
    rw [r0] at u ⊢
    rw [Nat.zero_mul] at u ⊢
    generalize 2 ^ (0 / 4503599627370496 - 1) * Y = G at *
    omega
  · have d := hm.down (by omega)
    have g1 := rung_gap (s - 1)
    rw [show s - 1 + 1 = s by omega] at g1
    have g2 : 2 ^ ((s - 1) / 4503599627370496 - 1) ≤ 2 ^ (s / 4503599627370496 - 1) := Nat.pow_le_pow_right (by decide) (by omega)
    have g3 : rungVal s * Y ≤ rungVal (s - 1) * Y + 2 ^ (s / 4503599627370496 - 1) * Y := by
      rw [← Nat.add_mul]; exact Nat.mul_le_mul_right _ (by omega)
    rw [Nat.add_mul] at d
    generalize 2 ^ (s / 4503599627370496 - 1) * Y = G at *
    generalize rungVal (s - 1) * Y = P1 at *
    generalize rungVal s * Y = P at *
    omega
/-- A finite float's fraction is its number over 2^zP. -/
theorem fq_sv {x : Nat} (hx : x < 18446744073709551616) : fq x = Rat.divInt (sv x) (2 ^ zP) := by
  have hu := funit_le x
  have hD := two_pos (-(funit x)).toNat
  have hZ := two_pos zP
  have hP := pow_units (funit x) hu.1 zP rfl
  have hc : ((rungVal (x % 9223372036854775808) : Nat) : Int) = (fcount x : Int) * 2 ^ (funit x + 1074).toNat := by
    rw [rung_count]; exact ncast_two _ _
  unfold fq
  rw [Rat.divInt_eq_divInt_iff (by omega) (by omega), sv_sg hx, hc, sg_one, sg_one]
  generalize (2 : Int) ^ zP = Z at *
  generalize (2 : Int) ^ (funit x).toNat = P at *
  generalize (2 : Int) ^ (funit x + 1074).toNat = U at *
  generalize (2 : Int) ^ (-(funit x)).toNat = D at *
  generalize (if (x / 9223372036854775808 == 1) = true then (-1 : Int) else 1) = s
  generalize (fcount x : Int) = m
  have e1 : s * (m * P) * Z = s * m * (P * Z) := by grind
  have e2 : s * (m * U) * D = s * m * (U * D) := by grind
  rw [e1, e2, hP]
/-- The difference of a float and a fraction. -/
theorem away_rat {x : Nat} {n : Bool} {xs ys : List Int} (hx : x < 18446744073709551616) (hY : 0 < val ys) : fq x - rq n xs ys = Rat.divInt (sv x * val ys - wval n xs * 2 ^ zP) (2 ^ zP * val ys) := by
  have hZ := two_pos zP
  rw [fq_sv hx]
  show Rat.divInt (sv x) (2 ^ zP) - Rat.divInt (wval n xs) (val ys) = _
  rw [Rat.divInt_sub_divInt _ _ (by omega) (by omega)]
/-- Fractions over the same number. -/
theorem over_le {n m : Bool} {xs ys us vs : List Int} {P Q M : Int} (hy : 0 < val ys) (hv : 0 < val vs) (hM : 0 < M) (h : rq n xs ys = Rat.divInt P M) (g : rq m us vs = Rat.divInt Q M) (hPQ : P ≤ Q) : wval n xs * val vs ≤ wval m us * val ys := by
  unfold rq at h g
  rw [Rat.divInt_eq_divInt_iff (by omega) (by omega)] at h g
  have e1 : wval n xs * val vs * M = P * (val ys * val vs) := by
    have : wval n xs * val vs * M = (wval n xs * M) * val vs := by grind
    rw [this, h]; grind
  have e2 : wval m us * val ys * M = Q * (val ys * val vs) := by
    have : wval m us * val ys * M = (wval m us * M) * val ys := by grind
    rw [this, g]; grind
  have e3 : P * (val ys * val vs) ≤ Q * (val ys * val vs) := Int.mul_le_mul_of_nonneg_right hPQ (Int.le_of_lt (Int.mul_pos hy hv))
  rw [← e1, ← e2] at e3
  exact Int.le_of_mul_le_mul_right e3 hM
/-- Its sign. -/
theorem over_sign {n : Bool} {xs ys : List Int} {P M : Int} (hy : 0 < val ys) (hM : 0 < M) (h : rq n xs ys = Rat.divInt P M) : (0 ≤ wval n xs → 0 ≤ P) ∧ (wval n xs ≤ 0 → P ≤ 0) := by
  unfold rq at h
  rw [Rat.divInt_eq_divInt_iff (by omega) (by omega)] at h
  constructor
  · intro h0
    have : 0 ≤ P * val ys := by rw [← h]; exact Int.mul_nonneg h0 (Int.le_of_lt hM)
    rcases Int.lt_or_le P 0 with g | g
    · have := Int.mul_neg_of_neg_of_pos g hy; omega
    · exact g
  · intro h0
    have : P * val ys ≤ 0 := by rw [← h]; exact Int.mul_nonpos_of_nonpos_of_nonneg h0 (Int.le_of_lt hM)
    rcases Int.lt_or_le 0 P with g | g
    · have := Int.mul_pos g hy; omega
    · exact g

end Go.Proofs.YtoigpodamciehaaGreatDoor

/- The laws' exact, nearer, away: a float's fraction, sizes held against each other, how far a float is from a fraction. -/
namespace Go.Proofs.YtoigpodamciehaaGreatDoor
open Go.RowKit
set_option linter.unusedVariables false

set_option maxHeartbeats 1600000 in
set_option maxRecDepth 100000 in
theorem exact6_fin (x : Nat) (w : World) (hx : Fi x) (hT : TabB w) :
    Calls Tryz.prog 11 #[.float .f64 x] w fun e w' => ∃ n a ca b cb xs ys, e = .returned (.agg #[.bool n, .slice a (List.length xs) ca, .slice b (List.length ys) cb]) ∧ w'.ownsRow w.heap.size 63 1 (.slice a xs.length ca) xs.length (xs.map (Value.int .u32)) ∧ w'.ownsRow w.heap.size 63 1 (.slice b ys.length cb) ys.length (ys.map (Value.int .u32)) ∧ Wd xs ∧ Wd ys ∧ ExT x n xs ys ∧ Below w.heap.size w w' := by
  obtain ⟨X, hX⟩ : ∃ X, w.alloc (.cells #[.bool false, .slice none 0 0, .slice none 0 0] 24) = X := ⟨_, rfl⟩
  have b1 : Below w.heap.size w X := by rw [← hX]; exact alloc_later _ _
  have HBX : Hid (Box X w.heap.size 24 #[.bool false, .slice none 0 0, .slice none 0 0]) := by rw [← hX]; exact Box.made w _ _
  have HE := hid (exact_fin x X hx (hT.later b1))
  have HB1 := hid b1
  clear b1 hT hx
  go_enter Tryz.func11, Tryz.ntmps11
  go_wp2_with fail
  clear hX
  refine Calls.mono HE.out ?_
  rintro e w2 ⟨n, a, ca, b, cb, xs, ys, rfl, o1, o2, wx, wy, he, b2⟩
  obtain ⟨Y, hY⟩ : ∃ Y, w2.alloc (.cells #[.bool n, .slice a xs.length ca, .slice b ys.length cb] 24) = Y := ⟨_, rfl⟩
  have b3 : Below w2.heap.size w2 Y := by rw [← hY]; exact alloc_later _ _
  have hBY : Box Y w2.heap.size 24 #[.bool n, .slice a xs.length ca, .slice b ys.length cb] := by rw [← hY]; exact Box.made w2 _ _
  have hBX := HBX.out.later (bt b2 b3) HBX.out.lt
  have HF := hid (And.intro (put3_row (owns_later o1 b3) hBX (by decide) (.bool n) (.slice a xs.length ca) (.slice b ys.length cb)) (And.intro (put3_row (owns_later o2 b3) hBX (by decide) (.bool n) (.slice a xs.length ca) (.slice b ys.length cb)) (And.intro (put3_box hBX (.bool n) (.slice a xs.length ca) (.slice b ys.length cb)) (below_put3 (bt HB1.out (bt b2 b3)) w.heap.size (Nat.le_refl _) (.bool n) (.slice a xs.length ca) (.slice b ys.length cb)))))
  have HW := hid (And.intro wx (And.intro wy he))
  have c0 : Y.cell? ⟨w2.heap.size, 0, none⟩ = some (.bool n) := hBY.cell 0
  have c1 : Y.cell? ⟨w2.heap.size, 1, none⟩ = some (.slice a xs.length ca) := hBY.cell 1
  have c2 : Y.cell? ⟨w2.heap.size, 2, none⟩ = some (.slice b ys.length cb) := hBY.cell 2
  have d0 : Y.cell? ⟨w.heap.size, 0, none⟩ = some (.bool false) := hBX.cell 0
  have d1 : Y.cell? ⟨w.heap.size, 1, none⟩ = some (.slice none 0 0) := hBX.cell 1
  have d2 : Y.cell? ⟨w.heap.size, 2, none⟩ = some (.slice none 0 0) := hBX.cell 2
  have f0 := hBX.free 0
  have f1 := hBX.free 1
  have f2 := hBX.free 2
  have hsz : w.heap.size ≤ X.heap.size := HB1.out.size
  clear HE o1 o2 wx wy he b2 b3 hBX hBY HB1 HBX
  go_wp2_with fail
  refine bodyPost_ret (results_cell_row (by rfl) _ _ w.heap.size 24 _ (0, 0) _ (by rfl) HF.out.2.2.1 Tryz.underlying24 rfl (by kernel_rfl)) rfl ?_
  exact ⟨n, a, ca, b, cb, xs, ys, rfl, owns_base HF.out.1 hsz, owns_base HF.out.2.1 hsz, HW.out.1, HW.out.2.1, HW.out.2.2, HF.out.2.2.2⟩

set_option maxHeartbeats 1600000 in
set_option maxRecDepth 100000 in
theorem nearer_yes (n : Bool) (a : Option Addr) (ca : Nat) (xs : List Int) (b : Option Addr) (cb : Nat) (ys : List Int) (m : Bool) (c : Option Addr) (cc : Nat) (us : List Int) (d : Option Addr) (cd : Nat) (vs : List Int) (w : World) (sx : Sl w (.slice a xs.length ca) xs) (sy : Sl w (.slice b ys.length cb) ys) (su : Sl w (.slice c us.length cc) us) (sw : Sl w (.slice d vs.length cd) vs) (h1 : rchk n xs ys = 0) (h2 : rchk m us vs = 0) (hle : wval n xs * val vs ≤ wval m us * val ys) :
    Calls Tryz.prog 10 #[.agg #[.bool n, .slice a xs.length ca, .slice b ys.length cb], .agg #[.bool m, .slice c us.length cc, .slice d vs.length cd]] w fun e w' => e = .returned (.bool true) ∧ Below w.heap.size w w' := by
  obtain ⟨X, hX⟩ : ∃ X, (w.alloc (.cells #[.bool n, .slice a xs.length ca, .slice b ys.length cb] 24)).alloc (.cells #[.bool m, .slice c us.length cc, .slice d vs.length cd] 24) = X := ⟨_, rfl⟩
  have b1 : Below w.heap.size w X := by rw [← hX]; exact bt (alloc_later _ _) (alloc_later _ _)
  have hP : Box X w.heap.size 24 #[.bool n, .slice a xs.length ca, .slice b ys.length cb] := by rw [← hX]; exact (Box.made w _ _).later (alloc_later _ _) (Box.made w _ _).lt
  have hQ : Box X (w.heap.size + 1) 24 #[.bool m, .slice c us.length cc, .slice d vs.length cd] := by
    have h := Box.made (w.alloc (.cells #[.bool n, .slice a xs.length ca, .slice b ys.length cb] 24)) 24 #[.bool m, .slice c us.length cc, .slice d vs.length cd]
    rw [show (w.alloc (.cells #[.bool n, .slice a xs.length ca, .slice b ys.length cb] 24)).heap.size = w.heap.size + 1 by simp, hX] at h
    exact h
  have HC := hid (rCompare_full n a ca xs b cb ys m c cc us d cd vs X (sx.later b1) (sy.later b1) (su.later b1) (sw.later b1))
  have hb := rboth_good h1 h2
  have hcv : rcmp n xs ys m us vs ≤ 0 := by
    unfold rcmp
    rw [if_pos hb]
    unfold cmpI
    split
    · omega
    · split <;> omega
  rw [hb] at HC
  generalize rcmp n xs ys m us vs = C at *
  have p0 : X.cell? ⟨w.heap.size, 0, none⟩ = some (.bool n) := hP.cell 0
  have p1 : X.cell? ⟨w.heap.size, 1, none⟩ = some (.slice a xs.length ca) := hP.cell 1
  have p2 : X.cell? ⟨w.heap.size, 2, none⟩ = some (.slice b ys.length cb) := hP.cell 2
  have q0 : X.cell? ⟨w.heap.size + 1, 0, none⟩ = some (.bool m) := hQ.cell 0
  have q1 : X.cell? ⟨w.heap.size + 1, 1, none⟩ = some (.slice c us.length cc) := hQ.cell 1
  have q2 : X.cell? ⟨w.heap.size + 1, 2, none⟩ = some (.slice d vs.length cd) := hQ.cell 2
  have HB1 := hid b1
  clear sx sy su sw b1 hP hQ h1 h2 hle hb
  go_enter Tryz.func10, Tryz.ntmps10
  go_wp2_with fail
  clear hX
  refine Calls.mono HC.out ?_
  rintro e w2 ⟨rfl, b2⟩
  have HB2 := hid (bt HB1.out b2)
  clear HC b2 p0 p1 p2 q0 q1 q2
  go_wp2_with fail
  go_ret
  exact ⟨rfl, HB2.out⟩

end Go.Proofs.YtoigpodamciehaaGreatDoor

/- The laws' away: how far a float is from a fraction. -/
namespace Go.Proofs.YtoigpodamciehaaGreatDoor
open Go.RowKit
set_option linter.unusedVariables false

/-- What away tells: the size of the difference, or that it is refused. -/
def AwT (w : World) (D M : Int) (x : Ending) (w' : World) : Prop :=
  ∃ n a ca b cb xs ys fine, x = .returned (.tuple #[.agg #[.bool n, .slice a (List.length xs) ca, .slice b (List.length ys) cb], .bool fine]) ∧ Sl w' (.slice a xs.length ca) xs ∧ Sl w' (.slice b ys.length cb) ys ∧ (fine = true → rchk n xs ys = 0 ∧ rq n xs ys = Rat.divInt D.natAbs M) ∧ Below w.heap.size w w'
/-- What stands behind the difference. -/
structure AwCut (w : World) (q : Rat) (n : Bool) (a : Option Addr) (ca : Nat) (xs : List Int) (b : Option Addr) (cb : Nat) (ys : List Int) (s s7 : Value) (wx : World) : Prop where
  ex : ∃ (pb : Nat) (k : Bool) (a1 : Option Addr) (c1 : Nat) (us : List Int) (b1 : Option Addr) (d1 : Nat) (vs : List Int) (code : Int), s = .pointer (some ⟨pb, 0, none⟩) ∧ s7 = .int .i64 code ∧ Box wx pb 24 #[.bool k, .slice a1 us.length c1, .slice b1 vs.length d1] ∧ wx.ownsRow w.heap.size 63 1 (.slice a1 us.length c1) us.length (us.map (Value.int .u32)) ∧ wx.ownsRow w.heap.size 63 1 (.slice b1 vs.length d1) vs.length (vs.map (Value.int .u32)) ∧ RTells 0 q k us vs code ∧ w.heap.size + 1 < pb
  res : Box wx (w.heap.size + 1) 24 #[.bool false, .slice none 0 0, .slice none 0 0]
  bel : Below w.heap.size w wx

theorem aw_new {w X w2 : World} {q : Rat} {n : Bool} {a : Option Addr} {ca : Nat} {xs : List Int} {b : Option Addr} {cb : Nat} {ys : List Int} {k : Bool} {a1 : Option Addr} {c1 : Nat} {us : List Int} {b1 : Option Addr} {d1 : Nat} {vs : List Int} {code : Int}
    (hw : Below w.heap.size w X) (hr : Box X (w.heap.size + 1) 24 #[.bool false, .slice none 0 0, .slice none 0 0]) (h2 : Below X.heap.size X w2) (o1 : w2.ownsRow X.heap.size 63 1 (.slice a1 us.length c1) us.length (us.map (Value.int .u32))) (o2 : w2.ownsRow X.heap.size 63 1 (.slice b1 vs.length d1) vs.length (vs.map (Value.int .u32))) (t : RTells 0 q k us vs code) :
    AwCut w q n a ca xs b cb ys (.pointer (some ⟨w2.heap.size, 0, none⟩)) (.int .i64 code) (w2.alloc (.cells #[.bool k, .slice a1 us.length c1, .slice b1 vs.length d1] 24)) := by
  have hb := alloc_later w2 (.cells #[.bool k, .slice a1 us.length c1, .slice b1 vs.length d1] 24)
  have l := hr.lt
  have s1 := hw.size
  have s2 := h2.size
  exact ⟨⟨_, k, a1, c1, us, b1, d1, vs, code, rfl, rfl, Box.made w2 _ _, owns_base (owns_later o1 hb) s1, owns_base (owns_later o2 hb) s1, t, by omega⟩, hr.later (bt h2 hb) l, bt hw (bt h2 hb)⟩
theorem aw_old {w X w2 : World} {q : Rat} {n : Bool} {a : Option Addr} {ca : Nat} {xs : List Int} {b : Option Addr} {cb : Nat} {ys : List Int} {k : Bool} {a1 : Option Addr} {c1 : Nat} {us : List Int} {b1 : Option Addr} {d1 : Nat} {vs : List Int} {code : Int} {pb : Nat} {v0 v1 v2 : Value}
    (hw : Below w.heap.size w X) (hr : Box X (w.heap.size + 1) 24 #[.bool false, .slice none 0 0, .slice none 0 0]) (h2 : Below X.heap.size X w2) (o1 : w2.ownsRow X.heap.size 63 1 (.slice a1 us.length c1) us.length (us.map (Value.int .u32))) (o2 : w2.ownsRow X.heap.size 63 1 (.slice b1 vs.length d1) vs.length (vs.map (Value.int .u32))) (t : RTells 0 q k us vs code) (hp : Box w2 pb 24 #[v0, v1, v2]) (hl : X.heap.size ≤ pb) :
    AwCut w q n a ca xs b cb ys (.pointer (some ⟨pb, 0, none⟩)) (.int .i64 code) (((w2.setCell ⟨pb, 0, none⟩ (.bool k)).setCell ⟨pb, 1, none⟩ (.slice a1 us.length c1)).setCell ⟨pb, 2, none⟩ (.slice b1 vs.length d1)) := by
  have l := hr.lt
  have s1 := hw.size
  have s2 := h2.size
  exact ⟨⟨_, k, a1, c1, us, b1, d1, vs, code, rfl, rfl, put3_box hp _ _ _, owns_base (put3_row o1 hp (by decide) _ _ _) s1, owns_base (put3_row o2 hp (by decide) _ _ _) s1, t, by omega⟩, put3_far (hr.later h2 l) (by omega) _ _ _, below_put3 (bt hw h2) pb (by omega) _ _ _⟩
/-- The three cells of the fraction that was handed in. -/
def Aw3 (w : World) (n : Bool) (v u : Value) (V : World) : Prop := V.cell? ⟨w.heap.size, 0, none⟩ = some (.bool n) ∧ V.cell? ⟨w.heap.size, 1, none⟩ = some v ∧ V.cell? ⟨w.heap.size, 2, none⟩ = some u
theorem Aw3.alloc {w V : World} {n : Bool} {v u : Value} (h : Aw3 w n v u V) (o : Obj) : Aw3 w n v u (V.alloc o) := ⟨cell_alloc h.1 o, cell_alloc h.2.1 o, cell_alloc h.2.2 o⟩
theorem Aw3.far {w V : World} {n : Bool} {v u : Value} {b : Nat} (h : Aw3 w n v u V) (hne : w.heap.size ≠ b) (v0 v1 v2 : Value) : Aw3 w n v u (((V.setCell ⟨b, 0, none⟩ v0).setCell ⟨b, 1, none⟩ v1).setCell ⟨b, 2, none⟩ v2) := ⟨cell_far3 h.1 hne _ _ _, cell_far3 h.2.1 hne _ _ _, cell_far3 h.2.2 hne _ _ _⟩
theorem rat_neg (D M : Int) (h : D ≤ 0) : -(Rat.divInt D M) = Rat.divInt D.natAbs M := by
  rw [Rat.neg_divInt]
  congr 1
  omega

end Go.Proofs.YtoigpodamciehaaGreatDoor

/- The laws' away, walked. -/
namespace Go.Proofs.YtoigpodamciehaaGreatDoor
open Go.RowKit
set_option linter.unusedVariables false

theorem aw3_alloc {w V : World} {n : Bool} {v u : Value} (h : V.cell? ⟨w.heap.size, 0, none⟩ = some (.bool n) ∧ V.cell? ⟨w.heap.size, 1, none⟩ = some v ∧ V.cell? ⟨w.heap.size, 2, none⟩ = some u) (o : Obj) : (V.alloc o).cell? ⟨w.heap.size, 0, none⟩ = some (.bool n) ∧ (V.alloc o).cell? ⟨w.heap.size, 1, none⟩ = some v ∧ (V.alloc o).cell? ⟨w.heap.size, 2, none⟩ = some u := Aw3.alloc h o
theorem aw3_far {w V : World} {n : Bool} {v u : Value} {b : Nat} (h : V.cell? ⟨w.heap.size, 0, none⟩ = some (.bool n) ∧ V.cell? ⟨w.heap.size, 1, none⟩ = some v ∧ V.cell? ⟨w.heap.size, 2, none⟩ = some u) (hne : w.heap.size ≠ b) (v0 v1 v2 : Value) : (((V.setCell ⟨b, 0, none⟩ v0).setCell ⟨b, 1, none⟩ v1).setCell ⟨b, 2, none⟩ v2).cell? ⟨w.heap.size, 0, none⟩ = some (.bool n) ∧ (((V.setCell ⟨b, 0, none⟩ v0).setCell ⟨b, 1, none⟩ v1).setCell ⟨b, 2, none⟩ v2).cell? ⟨w.heap.size, 1, none⟩ = some v ∧ (((V.setCell ⟨b, 0, none⟩ v0).setCell ⟨b, 1, none⟩ v1).setCell ⟨b, 2, none⟩ v2).cell? ⟨w.heap.size, 2, none⟩ = some u := Aw3.far h hne v0 v1 v2

set_option maxHeartbeats 3200000 in
set_option maxRecDepth 100000 in
theorem away_any (x : Nat) (n : Bool) (a : Option Addr) (ca : Nat) (xs : List Int) (b : Option Addr) (cb : Nat) (ys : List Int) (w : World) (hx : Fi x) (hT : TabB w) (sx : Sl w (.slice a xs.length ca) xs) (sy : Sl w (.slice b ys.length cb) ys) (hk : rchk n xs ys = 0) (hY : 0 < val ys) :
    Calls Tryz.prog 7 #[.float .f64 x, .agg #[.bool n, .slice a xs.length ca, .slice b ys.length cb]] w (AwT w (sv x * val ys - wval n xs * 2 ^ zP) (2 ^ zP * val ys)) := by
  have hq := away_rat (n := n) (xs := xs) hx.1 hY
  have hM : 0 < (2 : Int) ^ zP * val ys := Int.mul_pos (two_pos zP) hY
  generalize sv x * val ys - wval n xs * 2 ^ zP = D at *
  generalize (2 : Int) ^ zP * val ys = M at *
  obtain ⟨X, hX⟩ : ∃ X, (w.alloc (.cells #[.bool n, .slice a xs.length ca, .slice b ys.length cb] 24)).alloc (.cells #[.bool false, .slice none 0 0, .slice none 0 0] 24) = X := ⟨_, rfl⟩
  have b1 : Below w.heap.size w X := by rw [← hX]; exact bt (alloc_later _ _) (alloc_later _ _)
  have HP : Hid (Box X w.heap.size 24 #[.bool n, .slice a xs.length ca, .slice b ys.length cb]) := by rw [← hX]; exact (Box.made w _ _).later (alloc_later _ _) (Box.made w _ _).lt
  have HQ : Hid (Box X (w.heap.size + 1) 24 #[.bool false, .slice none 0 0, .slice none 0 0]) := by
    have h := Box.made (w.alloc (.cells #[.bool n, .slice a xs.length ca, .slice b ys.length cb] 24)) 24 #[.bool false, .slice none 0 0, .slice none 0 0]
    rw [show (w.alloc (.cells #[.bool n, .slice a xs.length ca, .slice b ys.length cb] 24)).heap.size = w.heap.size + 1 by simp, hX] at h
    exact h
  have HB1 := hid b1
  have hlX : w.heap.size + 1 < X.heap.size := HQ.out.lt
  have n0 : w.heap.size ≠ X.heap.size := by omega
  have HS3 : Hid (∀ V, Below X.heap.size X V → V.cell? ⟨w.heap.size, 0, none⟩ = some (.bool n) ∧ V.cell? ⟨w.heap.size, 1, none⟩ = some (.slice a xs.length ca) ∧ V.cell? ⟨w.heap.size, 2, none⟩ = some (.slice b ys.length cb)) := fun V hv => by
    have h := HP.out.later hv HP.out.lt
    exact ⟨h.cell 0, h.cell 1, h.cell 2⟩
  have HEX : Hid (∀ V, Below X.heap.size X V → Calls Tryz.prog 11 #[.float .f64 x] V fun e w' => ∃ n a ca b cb xs ys, e = .returned (.agg #[.bool n, .slice a (List.length xs) ca, .slice b (List.length ys) cb]) ∧ Below X.heap.size X w' ∧ Below V.heap.size V w' ∧ Hid (w'.ownsRow X.heap.size 63 1 (.slice a xs.length ca) xs.length (xs.map (Value.int .u32)) ∧ w'.ownsRow X.heap.size 63 1 (.slice b ys.length cb) ys.length (ys.map (Value.int .u32)) ∧ Wd xs ∧ Wd ys ∧ ExT x n xs ys)) := fun V hv => by
    refine Calls.mono (exact6_fin x V hx ((hT.later b1).later hv)) ?_
    rintro e w' ⟨n, a, ca, b, cb, xs, ys, rfl, o1, o2, wx, wy, he, hb⟩
    exact ⟨n, a, ca, b, cb, xs, ys, rfl, bt hv hb, hb, owns_base o1 hv.size, owns_base o2 hv.size, wx, wy, he⟩
  have HSB : Hid (∀ V n0 a0 c0 (zs : List Int) b0 d0 (ds : List Int), Below X.heap.size X V → (V.ownsRow X.heap.size 63 1 (.slice a0 zs.length c0) zs.length (zs.map (Value.int .u32)) ∧ V.ownsRow X.heap.size 63 1 (.slice b0 ds.length d0) ds.length (ds.map (Value.int .u32))) → (Wd zs ∧ Wd ds ∧ ExT x n0 zs ds) → Calls Tryz.prog 23 #[.agg #[.bool n0, .slice a0 zs.length c0, .slice b0 ds.length d0], .agg #[.bool n, .slice a xs.length ca, .slice b ys.length cb]] V fun e w' => ∃ k a1 c1 us b1 d1 vs code, e = .returned (.tuple #[.agg #[.bool k, .slice a1 (List.length us) c1, .slice b1 (List.length vs) d1], .int .i64 code]) ∧ Below X.heap.size X w' ∧ Below V.heap.size V w' ∧ Hid (w'.ownsRow X.heap.size 63 1 (.slice a1 us.length c1) us.length (us.map (Value.int .u32)) ∧ w'.ownsRow X.heap.size 63 1 (.slice b1 vs.length d1) vs.length (vs.map (Value.int .u32)) ∧ RTells 0 (fq x - rq n xs ys) k us vs code)) := fun V n0 a0 c0 zs b0 d0 ds hv ho he => by
    have h := rSub_ok n0 a0 c0 zs b0 d0 ds n a ca xs b cb ys V (Sl.own ho.1 he.1) (Sl.own ho.2 he.2.1) ((sx.later b1).later hv) ((sy.later b1).later hv) he.2.2.1 hk
    rw [he.2.2.2.2] at h
    refine Calls.mono h ?_
    rintro e w' ⟨k, v1, us, u1, vs, code, rfl, r1, r2, t, hb, _⟩
    obtain ⟨a1, c1, rfl⟩ := own_slice' r1
    obtain ⟨b1, d1, rfl⟩ := own_slice' r2
    exact ⟨k, a1, c1, us, b1, d1, vs, code, rfl, bt hv hb, hb, owns_base r1 hv.size, owns_base r2 hv.size, t⟩
  rw [hq] at HSB
  have HD0 := hid (Below.drew (Below.refl X.heap.size X))
  have hs0 := HS3.out _ HD0.out
  clear sx sy b1 hx hT hk hY hq HP
  go_enter Tryz.func7, Tryz.ntmps7
  go_upto_region 1 with fail
  clear hX
  go_cut [6, 7] from 8 (fun s s7 wx => Hid (AwCut w (Rat.divInt D M) n a ca xs b cb ys s s7 wx))
  case first =>
    go_region_held3 (fun V : World => V.cell? ⟨w.heap.size, 0, none⟩ = some (.bool n) ∧ V.cell? ⟨w.heap.size, 1, none⟩ = some (.slice a xs.length ca) ∧ V.cell? ⟨w.heap.size, 2, none⟩ = some (.slice b ys.length cb)) (first | with_reducible exact hs2 | with_reducible exact hs1 | with_reducible exact hs0 | with_reducible exact aw3_far hs2 n0 _ _ _ | with_reducible exact aw3_far hs2 n1 _ _ _ | with_reducible exact aw3_alloc hs2 _ | with_reducible exact aw3_alloc hs1 _ | with_reducible exact aw3_alloc hs0 _ | with_reducible exact HS3.out _ (Below.drew (below_alloc1 (Below.refl _ _) _)))
      (first
        | (go_at_call 11; (with_reducible refine Calls.mono (HEX.out _ (by first | exact HD0.out | exact below_alloc1 HD0.out _ | exact Below.drew (below_alloc1 (Below.refl _ _) _))) ?_); rintro e w1 ⟨m0, a0, c0, b0, d0, zs, ds, rfl, hb1, hv1, HE1⟩; obtain ⟨fa1, fa2, fa3⟩ := Far.of hv1; have hs1 := HS3.out w1 hb1; have n1 : w.heap.size ≠ w1.heap.size := Nat.ne_of_lt (Nat.lt_of_lt_of_le (Nat.lt_trans (Nat.lt_succ_self _) hlX) hb1.size))
        | (go_at_call 23; (with_reducible refine Calls.mono (HSB.out _ m0 a0 c0 zs b0 d0 ds (by first | exact hb1 | exact below_alloc1 hb1 _) (by first | exact ⟨HE1.out.1, HE1.out.2.1⟩ | exact ⟨owns_later HE1.out.1 (alloc_later _ _), owns_later HE1.out.2.1 (alloc_later _ _)⟩) HE1.out.2.2) ?_); rintro e w2 ⟨k, a1, c1, us, b1, d1, vs, code, rfl, hb2, hv2, HE2⟩; obtain ⟨fb1, fb2, fb3⟩ := Far.of hv2; have hs2 := HS3.out w2 hb2))
    all_goals
      clear HEX HSB HS3 hs0 hs1 hs2 fa1 fa2 fa3 fb1 fb2 fb3
      go_wp2_with fail
      go_meet
    all_goals first | with_reducible exact hid (aw_new HB1.out HQ.out hb2 HE2.out.1 HE2.out.2.1 HE2.out.2.2) | with_reducible exact hid (aw_old HB1.out HQ.out hb2 HE2.out.1 HE2.out.2.1 HE2.out.2.2 ((Box.made w1 _ _).later hv2 (Box.made w1 _ _).lt) hb1.size) | exact hid (aw_old HB1.out HQ.out hb2 HE2.out.1 HE2.out.2.1 HE2.out.2.2 (((box_made_drew X _ _).later hv1 (box_made_drew X _ _).lt).later hv2 ((box_made_drew X _ _).later hv1 (box_made_drew X _ _).lt).lt) (Nat.le_refl _))
  case rest =>
    obtain ⟨pb, k, a1, c1, us, b1', d1, vs, code, rfl, rfl, hpb, o1, o2, t, hl⟩ := hcut.out.ex
    have hres := hcut.out.res
    have HBL := hid hcut.out.bel
    have HRES := hid hres
    have HPB := hid hpb
    have HO := hid (And.intro o1 o2)
    have HWU := hid (And.intro t.wx t.wy)
    have x0 : wc.cell? ⟨pb, 0, none⟩ = some (.bool k) := hpb.cell 0
    have x1 : wc.cell? ⟨pb, 1, none⟩ = some (.slice a1 us.length c1) := hpb.cell 1
    have x2 : wc.cell? ⟨pb, 2, none⟩ = some (.slice b1' vs.length d1) := hpb.cell 2
    have hlp : pb < wc.heap.size := hpb.lt
    have hne : w.heap.size + 1 ≠ pb := by omega
    have hle : w.heap.size ≤ pb := by omega
    clear hcut HEX HSB HS3 hs0 HD0 HQ HB1 hlX n0 hl
    by_cases hc : code = 0
    · subst hc
      obtain ⟨h1, h2⟩ := rtells_ok t
      obtain ⟨_, _, _, tv, hv0, hsn, _⟩ := rchk_ok h1
      have hV : 0 < val vs := by
        have e : 0 < sz vs := by rw [show sz vs = vs.length from tv]; exact hv0
        have h := (bits_bounds t.wy e).2.1
        have := two_pos (bitsOf vs - 1)
        omega
      have hsg := over_sign hV hM h2
      have hwv := val_nonneg t.wx
      have HSG := hid (rSign_any k a1 c1 us b1' d1 vs wc (Sl.own o1 t.wx) (Sl.own o2 t.wy))
      by_cases hneg : k = true ∧ 0 < us.length
      · have hr : rsgn k us vs = -1 := by
          unfold rsgn
          rw [if_pos h1, if_neg (by omega), if_pos hneg.1]
        rw [hr] at HSG
        have hD : D ≤ 0 := hsg.2 (by rw [wval_sg, hneg.1, sg_t]; omega)
        have HNG : Hid (∀ V, Below wc.heap.size wc V → Calls Tryz.prog 24 #[.agg #[.bool k, .slice a1 us.length c1, .slice b1' vs.length d1]] V (RToldA V 0 (-(rq k us vs)))) := fun V hv => rNeg_ok k a1 c1 us b1' d1 vs V ((Sl.own o1 t.wx).later hv) ((Sl.own o2 t.wy).later hv) h1
        rw [h2, rat_neg D M hD] at HNG
        clear hr hD h1 h2 tv hv0 hsn hV hsg hwv t o1 o2 hpb hres hM hneg
        go_wp2_with fail
        refine Calls.mono HSG.out ?_
        rintro e w3 ⟨rfl, b3⟩
        have hp3 := HPB.out.later b3 hlp
        have HN3 := hid (HNG.out w3 b3)
        have HB3 := hid (bt HBL.out b3)
        have HR3 := hid (HRES.out.later b3 HRES.out.lt)
        have HP3 := hid hp3
        have x0' : w3.cell? ⟨pb, 0, none⟩ = some (.bool k) := hp3.cell 0
        have x1' : w3.cell? ⟨pb, 1, none⟩ = some (.slice a1 us.length c1) := hp3.cell 1
        have x2' : w3.cell? ⟨pb, 2, none⟩ = some (.slice b1' vs.length d1) := hp3.cell 2
        clear HSG HNG b3 hp3 x0 x1 x2
        go_wp2_with fail
        refine Calls.mono HN3.out ?_
        rintro e w4 ⟨k2, v2, us2, u2, vs2, code2, rfl, r1, r2, t2, b4, _⟩
        obtain ⟨a3, c3, rfl⟩ := own_slice' r1
        obtain ⟨a4, c4, rfl⟩ := own_slice' r2
        have hp4 := HP3.out.later b4 HP3.out.lt
        have hr4 := HR3.out.later b4 HR3.out.lt
        have y0 : w4.cell? ⟨pb, 0, none⟩ = some (.bool k) := hp4.cell 0
        have y1 : w4.cell? ⟨pb, 1, none⟩ = some (.slice a1 us.length c1) := hp4.cell 1
        have y2 : w4.cell? ⟨pb, 2, none⟩ = some (.slice b1' vs.length d1) := hp4.cell 2
        have g0 := hp4.free 0
        have g1 := hp4.free 1
        have g2 := hp4.free 2
        obtain ⟨V5, hV5⟩ : ∃ V5, ((w4.setCell ⟨pb, 0, none⟩ (.bool k2)).setCell ⟨pb, 1, none⟩ (.slice a3 us2.length c3)).setCell ⟨pb, 2, none⟩ (.slice a4 vs2.length c4) = V5 := ⟨_, rfl⟩
        have P5 : Box V5 pb 24 #[.bool k2, .slice a3 us2.length c3, .slice a4 vs2.length c4] := by rw [← hV5]; exact put3_box hp4 _ _ _
        have R5 : Box V5 (w.heap.size + 1) 24 #[.bool false, .slice none 0 0, .slice none 0 0] := by rw [← hV5]; exact put3_far hr4 hne _ _ _
        have q1 : V5.ownsRow w3.heap.size 63 1 (.slice a3 us2.length c3) us2.length (us2.map (Value.int .u32)) := by rw [← hV5]; exact put3_row r1 hp4 (by decide) _ _ _
        have q2 : V5.ownsRow w3.heap.size 63 1 (.slice a4 vs2.length c4) vs2.length (vs2.map (Value.int .u32)) := by rw [← hV5]; exact put3_row r2 hp4 (by decide) _ _ _
        have HB5 : Hid (Below w.heap.size w V5) := by rw [← hV5]; exact below_put3 (bt HB3.out b4) pb hle _ _ _
        have HF := hid (And.intro (put3_box R5 (.bool k2) (.slice a3 us2.length c3) (.slice a4 vs2.length c4)) (And.intro (Sl.own (put3_row q1 R5 (by decide) (.bool k2) (.slice a3 us2.length c3) (.slice a4 vs2.length c4)) t2.wx) (And.intro (Sl.own (put3_row q2 R5 (by decide) (.bool k2) (.slice a3 us2.length c3) (.slice a4 vs2.length c4)) t2.wy) (below_put3 HB5.out (w.heap.size + 1) (by omega) (.bool k2) (.slice a3 us2.length c3) (.slice a4 vs2.length c4)))))
        have HT2 := hid t2
        obtain ⟨W6, hW6⟩ : ∃ W6, ((V5.setCell ⟨w.heap.size + 1, 0, none⟩ (.bool k2)).setCell ⟨w.heap.size + 1, 1, none⟩ (.slice a3 us2.length c3)).setCell ⟨w.heap.size + 1, 2, none⟩ (.slice a4 vs2.length c4) = W6 := ⟨_, rfl⟩
        rw [hW6] at HF
        have e0' : W6.cell? ⟨w.heap.size + 1, 0, none⟩ = some (.bool k2) := HF.out.1.cell 0
        have e1' : W6.cell? ⟨w.heap.size + 1, 1, none⟩ = some (.slice a3 us2.length c3) := HF.out.1.cell 1
        have e2' : W6.cell? ⟨w.heap.size + 1, 2, none⟩ = some (.slice a4 vs2.length c4) := HF.out.1.cell 2
        have z0 : V5.cell? ⟨pb, 0, none⟩ = some (.bool k2) := P5.cell 0
        have z1 : V5.cell? ⟨pb, 1, none⟩ = some (.slice a3 us2.length c3) := P5.cell 1
        have z2 : V5.cell? ⟨pb, 2, none⟩ = some (.slice a4 vs2.length c4) := P5.cell 2
        have m0 : V5.cell? ⟨w.heap.size + 1, 0, none⟩ = some (.bool false) := R5.cell 0
        have m1 : V5.cell? ⟨w.heap.size + 1, 1, none⟩ = some (.slice none 0 0) := R5.cell 1
        have m2 : V5.cell? ⟨w.heap.size + 1, 2, none⟩ = some (.slice none 0 0) := R5.cell 2
        have f0 := R5.free 0
        have f1 := R5.free 1
        have f2 := R5.free 2
        clear HN3 r1 r2 t2 b4 hp4 hr4 P5 R5 q1 q2 x0' x1' x2'
        go_wp2_with fail
        refine bodyPost_ret (v := .tuple #[.agg #[.bool k2, .slice a3 us2.length c3, .slice a4 vs2.length c4], .bool (code2 == 0)]) (by simp [results, Tryz.results7, go_sem, e0', e1', e2']) rfl ?_
        refine ⟨k2, a3, c3, a4, c4, us2, vs2, (code2 == 0), rfl, HF.out.2.1, HF.out.2.2.1, fun hfine => ?_, HF.out.2.2.2⟩
        have e0 : code2 = 0 := by simpa using hfine
        subst e0
        exact rtells_ok HT2.out
      · have hr : 0 ≤ rsgn k us vs := by
          unfold rsgn
          rw [if_pos h1]
          by_cases hu : us.length = 0
          · rw [if_pos hu]; omega
          · rw [if_neg hu, if_neg (fun hk => hneg ⟨hk, by omega⟩)]; omega
        generalize rsgn k us vs = S at *
        have hD : 0 ≤ D := hsg.1 (by
          rw [wval_sg]
          by_cases hk : k = true
          · have : us = [] := List.eq_nil_of_length_eq_zero (by
              rcases Nat.eq_zero_or_pos us.length with g | g
              · exact g
              · exact absurd ⟨hk, g⟩ hneg)
            rw [this, val_nil, hk]; decide
          · obtain rfl : k = false := by cases k <;> simp_all
            rw [sg_f]; exact hwv)
        have HFIN : Hid (rchk k us vs = 0 ∧ rq k us vs = Rat.divInt D.natAbs M) := ⟨h1, by rw [h2, Int.natAbs_of_nonneg hD]⟩
        clear hD h1 h2 tv hv0 hsn hV hsg hwv t o1 o2 hpb hres hM hneg
        go_wp2_with fail
        refine Calls.mono HSG.out ?_
        rintro e w3 ⟨rfl, b3⟩
        have hp3 := HPB.out.later b3 hlp
        have hr3 := HRES.out.later b3 HRES.out.lt
        have x0' : w3.cell? ⟨pb, 0, none⟩ = some (.bool k) := hp3.cell 0
        have x1' : w3.cell? ⟨pb, 1, none⟩ = some (.slice a1 us.length c1) := hp3.cell 1
        have x2' : w3.cell? ⟨pb, 2, none⟩ = some (.slice b1' vs.length d1) := hp3.cell 2
        have m0 : w3.cell? ⟨w.heap.size + 1, 0, none⟩ = some (.bool false) := hr3.cell 0
        have m1 : w3.cell? ⟨w.heap.size + 1, 1, none⟩ = some (.slice none 0 0) := hr3.cell 1
        have m2 : w3.cell? ⟨w.heap.size + 1, 2, none⟩ = some (.slice none 0 0) := hr3.cell 2
        have f0 := hr3.free 0
        have f1 := hr3.free 1
        have f2 := hr3.free 2
        have HF := hid (And.intro (put3_box hr3 (.bool k) (.slice a1 us.length c1) (.slice b1' vs.length d1)) (And.intro (Sl.own (put3_row (owns_later HO.out.1 b3) hr3 (by decide) (.bool k) (.slice a1 us.length c1) (.slice b1' vs.length d1)) HWU.out.1) (And.intro (Sl.own (put3_row (owns_later HO.out.2 b3) hr3 (by decide) (.bool k) (.slice a1 us.length c1) (.slice b1' vs.length d1)) HWU.out.2) (below_put3 (bt HBL.out b3) (w.heap.size + 1) (by omega) (.bool k) (.slice a1 us.length c1) (.slice b1' vs.length d1)))))
        obtain ⟨W6, hW6⟩ : ∃ W6, ((w3.setCell ⟨w.heap.size + 1, 0, none⟩ (.bool k)).setCell ⟨w.heap.size + 1, 1, none⟩ (.slice a1 us.length c1)).setCell ⟨w.heap.size + 1, 2, none⟩ (.slice b1' vs.length d1) = W6 := ⟨_, rfl⟩
        rw [hW6] at HF
        have e0' : W6.cell? ⟨w.heap.size + 1, 0, none⟩ = some (.bool k) := HF.out.1.cell 0
        have e1' : W6.cell? ⟨w.heap.size + 1, 1, none⟩ = some (.slice a1 us.length c1) := HF.out.1.cell 1
        have e2' : W6.cell? ⟨w.heap.size + 1, 2, none⟩ = some (.slice b1' vs.length d1) := HF.out.1.cell 2
        clear HSG b3 hp3 hr3 x0 x1 x2
        go_wp2_with fail
        refine bodyPost_ret (v := .tuple #[.agg #[.bool k, .slice a1 us.length c1, .slice b1' vs.length d1], .bool true]) (by simp [results, Tryz.results7, go_sem, e0', e1', e2']) rfl ?_
        exact ⟨k, a1, c1, b1', d1, us, vs, true, rfl, HF.out.2.1, HF.out.2.2.1, fun _ => HFIN.out, HF.out.2.2.2⟩
    · have hc' : (code == 0) = false := by simp [hc]
      have hc2 : (code != 0) = true := by simp [hc]
      have m0 : wc.setCell ⟨w.heap.size + 1, 0, none⟩ (.bool false) = wc := hres.same rfl
      have m1 : wc.setCell ⟨w.heap.size + 1, 1, none⟩ (.slice none 0 0) = wc := hres.same rfl
      have m2 : wc.setCell ⟨w.heap.size + 1, 2, none⟩ (.slice none 0 0) = wc := hres.same rfl
      have j0 : wc.cell? ⟨w.heap.size + 1, 0, none⟩ = some (.bool false) := hres.cell 0
      have j1 : wc.cell? ⟨w.heap.size + 1, 1, none⟩ = some (.slice none 0 0) := hres.cell 1
      have j2 : wc.cell? ⟨w.heap.size + 1, 2, none⟩ = some (.slice none 0 0) := hres.cell 2
      have f0 := hres.free 0
      have f1 := hres.free 1
      have f2 := hres.free 2
      clear hc t o1 o2 hpb hres hM
      go_wp2_with fail
      refine bodyPost_ret (v := .tuple #[.agg #[.bool false, .slice none 0 0, .slice none 0 0], .bool false]) (by simp [results, Tryz.results7, go_sem, j0, j1, j2]) rfl ?_
      have hnil : wc.ownsRow wc.heap.size 63 1 (.slice none 0 0) 0 (([] : List Int).map (Value.int .u32)) := World.ownsRow_nil _ _ _ _
      have hsl : Sl wc (.slice none 0 0) [] := Sl.own hnil Wd.nil
      exact ⟨false, none, 0, none, 0, [], [], false, rfl, hsl, hsl, fun h => (by cases h), HBL.out⟩

end Go.Proofs.YtoigpodamciehaaGreatDoor

/- math.Ldexp of 1; real.Gap. -/
namespace Go.Proofs.YtoigpodamciehaaGreatDoor
open Go.RowKit
set_option linter.unusedVariables false

theorem mul_small : ∀ k : _root_.Fin 52, floatBits .mul .f64 4368491638549381120 ((k.val + 2) * 4503599627370496) = some (2 ^ k.val) := by decide +kernel
theorem mul_some {x y : Nat} (hx : fin x = true) (hy : fin y = true) : ∃ r, floatBits .mul .f64 x y = .some r := by
  obtain ⟨s, m, e, h1⟩ := read_fin hx
  obtain ⟨t, n, j, h2⟩ := read_fin hy
  exact ⟨_, show (((Ieee.double.read x).product (Ieee.double.read y)).map Ieee.double.write) = _ by rw [h1, h2]; rfl⟩
theorem one_sv (E : Nat) (hE : E = 1074) : sv 4607182418800017408 = ((2 ^ E : Nat) : Int) := by
  subst hE; decide +kernel
theorem mul_one_fl {y : Nat} (hy : y < 9218868437227405312) (h0 : 0 < y) : floatBits .mul .f64 4607182418800017408 y = some y := by
  have f1 : Fi 4607182418800017408 := ⟨by decide, by decide⟩
  have fy : Fi y := ⟨by omega, by omega⟩
  obtain ⟨r, hr⟩ := mul_some (x := 4607182418800017408) (y := y) (by decide) ((fi_fin fy.1).2 fy)
  rw [hr]
  obtain ⟨E, hE⟩ : ∃ E, E = 1074 := ⟨_, rfl⟩
  obtain ⟨neg, s, e1, n1, n2, hm⟩ := mul_rn E hE f1 fy (FN.some hr)
  have hl : sv y = (rungVal y : Int) := sv_low (by omega)
  have hp : 0 < rungVal y := by
    rcases Nat.eq_zero_or_pos (rungVal y) with g | g
    · exact absurd (rungVal_zero.1 g) (by omega)
    · exact g
  rw [one_sv E hE, hl, ← Int.natCast_mul] at n1 n2 hm
  have hD := Nat.two_pow_pos E
  have hpos : 0 < 2 ^ E * rungVal y := Nat.mul_pos hD hp
  have hneg : neg = false := n2 (by omega)
  have hab : ((2 ^ E * rungVal y : Nat) : Int).natAbs = rungVal y * 2 ^ E := by rw [Int.natAbs_natCast, Nat.mul_comm]
  rw [hab] at hm
  have hs := hm.unique hD (mid_exact hD hy)
  rw [e1, hneg, hs]
  congr 1

/-- The float that is 2 to the power e, e from -1074 to 1023. -/
def pow2 (e : Int) : Nat := if e < -1022 then 2 ^ (e + 1074).toNat else (e + 1023).toNat * 4503599627370496
theorem pow2_sv {e : Int} (h1 : -1074 ≤ e) (h2 : e ≤ 1000) : Fi (pow2 e) ∧ sv (pow2 e) = ((2 ^ (e + 1074).toNat : Nat) : Int) := by
  unfold pow2
  by_cases h : e < -1022
  · rw [if_pos h]
    have hk : (e + 1074).toNat < 52 := by omega
    generalize (e + 1074).toNat = k at *
    have hb : 2 ^ k < 2 ^ 52 := Nat.pow_lt_pow_right (by decide) hk
    have e52 : (2 : Nat) ^ 52 = 4503599627370496 := by decide
    rw [e52] at hb
    have hr := rungVal_count (E := 0) (K := 2 ^ k) (by omega) (fun g => by omega)
    rw [Nat.zero_mul, Nat.zero_add, Nat.pow_zero, Nat.mul_one] at hr
    rw [sv_low (by omega), hr]
    exact ⟨⟨by omega, by omega⟩, rfl⟩
  · rw [if_neg h]
    obtain ⟨j, hj⟩ : ∃ j : Nat, (e + 1023).toNat = j + 1 := ⟨(e + 1022).toNat, by omega⟩
    have hj2 : (e + 1074).toNat = 52 + j := by omega
    have hjl : j ≤ 2022 := by omega
    rw [hj, hj2]
    have hr := rungVal_count (E := j) (K := 4503599627370496) (by omega) (fun g => by omega)
    have e52 : (4503599627370496 : Nat) = 2 ^ 52 := by decide
    rw [show j * 4503599627370496 + 4503599627370496 = (j + 1) * 4503599627370496 by omega] at hr
    have hp : 4503599627370496 * 2 ^ j = 2 ^ (52 + j) := by rw [Nat.pow_add, ← e52]
    rw [hp] at hr
    rw [sv_low (by omega), hr]
    exact ⟨⟨by omega, by omega⟩, rfl⟩

set_option maxHeartbeats 800000 in
set_option maxRecDepth 100000 in
theorem normalize_one (w : World) :
    Calls Tryz.prog 65 #[.float .f64 4607182418800017408] w fun e w' => e = .returned (.tuple #[.float .f64 4607182418800017408, .int .i64 0]) ∧ w' = w := by
  have HA := hid (mAbs_any 4607182418800017408 w (by decide))
  rw [show 4607182418800017408 % 9223372036854775808 = 4607182418800017408 from rfl] at HA
  have q : (FloatKind.f64.format.order 4607182418800017408 4503599627370496 == some .lt) = false := by decide +kernel
  go_enter Tryz.func65, Tryz.ntmps65
  go_wp2_with fail
  refine Calls.mono HA.out ?_
  rintro e w1 ⟨rfl, rfl⟩
  go_wp2_with fail
  go_returns
  exact ⟨rfl, rfl⟩

theorem or_none (N : Nat) (h : N < 18446744073709551616) : bits .or .u64 0 (N : Int) = (N : Int) := by
  have h := u64_or_nat 0 N (by omega) h
  rw [Nat.zero_or] at h
  exact h
set_option maxHeartbeats 1600000 in
set_option maxRecDepth 100000 in
theorem ldexp_low (e f g : Int) (N R : Nat) (w : World) (h1 : -1074 ≤ e) (h2 : e ≤ 1000) (hd : e < -1022) (he1 : e + 53 = f) (he2 : f + 1023 = g) (he3 : g * 4503599627370496 = (N : Int)) (g0 : 0 ≤ g) (g1 : g ≤ 2046) (hN : N < 18446744073709551616) (hmul : floatBits .mul .f64 4368491638549381120 N = some R)
    (HI : Hid (Calls Tryz.prog 63 #[.float .f64 4607182418800017408, .int .i64 0] w fun x w' => x = .returned (.bool false) ∧ w' = w)) (HN : Hid (Calls Tryz.prog 64 #[.float .f64 4607182418800017408] w fun x w' => x = .returned (.bool false) ∧ w' = w)) (HB : ∀ V, (callFunc 18 #[.float .f64 4607182418800017408]).run Tryz.prog V = .ok (.value (.int .u64 4607182418800017408)) V) (ha : bits .and .i64 1023 2047 = 1023) (hn : bits .andNot .u64 4607182418800017408 9218868437227405312 = 0) (q0 : (FloatKind.f64.format.order 4607182418800017408 0 == some .eq) = false) :
    Calls Tryz.prog 46 #[.float .f64 4607182418800017408, .int .i64 e] w fun x w' => x = .returned (.float .f64 R) ∧ w' = w := by
  have HZ := hid (normalize_one w)
  have hmr : ∀ P t V, (binOp .mul t (.float .f64 4368491638549381120) (.float .f64 N)).run P V = .ok (.float .f64 R) V := fun P t V => by
    rw [fmul_run]; unfold fval fwld; rw [hmul]
  have HR := fun V => from_run N V
  have hor := or_none N hN
  clear hmul hN
  go_enter Tryz.func46, Tryz.ntmps46
  go_wp2_with fail
  refine Calls.mono HI.out ?_
  rintro e w1 ⟨rfl, rfl⟩
  go_wp2_with fail
  refine Calls.mono HN.out ?_
  rintro e w1 ⟨rfl, rfl⟩
  go_wp2_with fail
  refine Calls.mono HZ.out ?_
  rintro e w1 ⟨rfl, rfl⟩
  go_wp2_with fail
  go_ret
  exact ⟨rfl, rfl⟩

set_option maxHeartbeats 1600000 in
set_option maxRecDepth 100000 in
theorem ldexp_high (e  g : Int) (N R : Nat) (w : World) (h1 : -1074 ≤ e) (h2 : e ≤ 1000) (hd : ¬ e < -1022) (he2 : e + 1023 = g) (he3 : g * 4503599627370496 = (N : Int)) (g0 : 0 ≤ g) (g1 : g ≤ 2046) (hN : N < 18446744073709551616) (hmul : floatBits .mul .f64 4607182418800017408 N = some R)
    (HI : Hid (Calls Tryz.prog 63 #[.float .f64 4607182418800017408, .int .i64 0] w fun x w' => x = .returned (.bool false) ∧ w' = w)) (HN : Hid (Calls Tryz.prog 64 #[.float .f64 4607182418800017408] w fun x w' => x = .returned (.bool false) ∧ w' = w)) (HB : ∀ V, (callFunc 18 #[.float .f64 4607182418800017408]).run Tryz.prog V = .ok (.value (.int .u64 4607182418800017408)) V) (ha : bits .and .i64 1023 2047 = 1023) (hn : bits .andNot .u64 4607182418800017408 9218868437227405312 = 0) (q0 : (FloatKind.f64.format.order 4607182418800017408 0 == some .eq) = false) :
    Calls Tryz.prog 46 #[.float .f64 4607182418800017408, .int .i64 e] w fun x w' => x = .returned (.float .f64 R) ∧ w' = w := by
  have HZ := hid (normalize_one w)
  have hmr : ∀ P t V, (binOp .mul t (.float .f64 4607182418800017408) (.float .f64 N)).run P V = .ok (.float .f64 R) V := fun P t V => by
    rw [fmul_run]; unfold fval fwld; rw [hmul]
  have HR := fun V => from_run N V
  have hor := or_none N hN
  clear hmul hN
  go_enter Tryz.func46, Tryz.ntmps46
  go_wp2_with fail
  refine Calls.mono HI.out ?_
  rintro e w1 ⟨rfl, rfl⟩
  go_wp2_with fail
  refine Calls.mono HN.out ?_
  rintro e w1 ⟨rfl, rfl⟩
  go_wp2_with fail
  refine Calls.mono HZ.out ?_
  rintro e w1 ⟨rfl, rfl⟩
  go_wp2_with fail
  go_ret
  exact ⟨rfl, rfl⟩

theorem one_inf : isinf (4607182418800017408 % 9223372036854775808) = false := by decide
theorem one_nan : isnan 4607182418800017408 = false := by decide
theorem ldexp_one (e : Int) (w : World) (h1 : -1074 ≤ e) (h2 : e ≤ 1000) :
    Calls Tryz.prog 46 #[.float .f64 4607182418800017408, .int .i64 e] w fun x w' => x = .returned (.float .f64 (pow2 e)) ∧ w' = w := by
  have HI := mIsInf0_any 4607182418800017408 w (by decide)
  rw [one_inf] at HI
  have HN := mIsNaN_any 4607182418800017408 w
  rw [one_nan] at HN
  have q0 : (FloatKind.f64.format.order 4607182418800017408 0 == some .eq) = false := by decide +kernel
  have HB : ∀ V, (callFunc 18 #[.float .f64 4607182418800017408]).run Tryz.prog V = .ok (.value (.int .u64 4607182418800017408)) V := fun V => bits_run 4607182418800017408 V
  have ha : bits .and .i64 1023 2047 = 1023 := by decide
  have hn : bits .andNot .u64 4607182418800017408 9218868437227405312 = 0 := by decide
  by_cases hd : e < -1022
  · obtain ⟨k, hk⟩ : ∃ k : Nat, (e + 1074).toNat = k := ⟨_, rfl⟩
    have hk52 : k < 52 := by omega
    have hpw : pow2 e = 2 ^ k := by unfold pow2; rw [if_pos hd, hk]
    have hmul := mul_small ⟨k, hk52⟩
    rw [hpw]
    exact ldexp_low e (e + 53) (e + 53 + 1023) ((k + 2) * 4503599627370496) (2 ^ k) w h1 h2 hd rfl rfl (by omega) (by omega) (by omega) (by omega) hmul (hid HI) (hid HN) HB ha hn q0
  · have hpw : pow2 e = (e + 1023).toNat * 4503599627370496 := by unfold pow2; rw [if_neg hd]
    rw [hpw]
    exact ldexp_high e (e + 1023) ((e + 1023).toNat * 4503599627370496) _ w h1 h2 hd rfl (by omega) (by omega) (by omega) (by omega) (mul_one_fl (by omega) (by omega)) (hid HI) (hid HN) HB ha hn q0

set_option maxHeartbeats 800000 in
set_option maxRecDepth 100000 in
theorem Ldexp_one (e : Int) (w : World) (h1 : -1074 ≤ e) (h2 : e ≤ 1000) :
    Calls Tryz.prog 25 #[.float .f64 4607182418800017408, .int .i64 e] w fun x w' => x = .returned (.float .f64 (pow2 e)) ∧ w' = w := by
  have H := hid (ldexp_one e w h1 h2)
  clear h1 h2
  generalize pow2 e = R at *
  go_enter Tryz.func25, Tryz.ntmps25
  go_wp2_with fail
  refine Calls.mono H.out ?_
  rintro e w1 ⟨rfl, rfl⟩
  go_wp2_with fail
  go_ret
  exact ⟨rfl, rfl⟩

theorem field_two (s : Bool) (m u : Int) (V : World) : (Instr.field 51 (.agg #[.bool s, .int .u64 m, .int .i64 u]) 2).run Tryz.prog V = .ok (.int .i64 u) V := by kernel_rfl
set_option maxHeartbeats 800000 in
set_option maxRecDepth 100000 in
theorem gap_any (x : Nat) (w : World) (hx : Fi x) :
    Calls Tryz.prog 8 #[.float .f64 x] w fun e w' => ∃ G, e = .returned (.tuple #[.float .f64 G, .int .i64 0]) ∧ Fi G ∧ sv G = ((2 ^ (funit x + 1074).toNat : Nat) : Int) ∧ Below w.heap.size w w' := by
  have hu := funit_le x
  have hu2 : funit x ≤ 1000 := by omega
  have HF := hid (finite_any x w hx.1)
  rw [(fi_fin hx.1).2 hx] at HF
  have HT := hid (takeApart_any x w hx.1)
  have HL := hid (fun V => Ldexp_one (funit x) V hu.1 hu2)
  have HP := hid (pow2_sv hu.1 hu2)
  generalize pow2 (funit x) = G at *
  clear hx hu2
  go_enter Tryz.func8, Tryz.ntmps8
  go_wp2_with fail
  refine Calls.mono HF.out ?_
  rintro e w1 ⟨rfl, rfl⟩
  go_wp2_with fail
  refine Calls.mono HT.out ?_
  rintro e w2 ⟨rfl, b2⟩
  have HB2 := hid b2
  have HL2 := hid (HL.out w2)
  have hfl : ∀ V, (Instr.field 51 (.agg #[.bool (x / 9223372036854775808 == 1), .int .u64 (fcount x : Int), .int .i64 (funit x)]) 2).run Tryz.prog V = .ok (.int .i64 (funit x)) V := fun V => field_two _ _ _ V
  clear HT HL b2 HF
  go_wp2_with fail
  refine Calls.mono HL2.out ?_
  rintro e w3 ⟨rfl, rfl⟩
  go_wp2_with fail
  go_returns
  exact ⟨G, rfl, HP.out.1, HP.out.2, HB2.out⟩

end Go.Proofs.YtoigpodamciehaaGreatDoor

/- The table of places, from what the card lays. -/
namespace Go.Proofs.YtoigpodamciehaaGreatDoor
open Go.RowKit
set_option linter.unusedVariables false

theorem tabB_of {W : World} {cs : List Value} (hv : W.var? Tryz.prog "math/bits.deBruijn64tab" = some cs.toArray) (e1 : Tryz.prog.globalNamed "math/bits.deBruijn64tab" = some 1) (hcs : cs = (Lib.deBruijn64tab.map fun (n : Nat) => (n : Int)).map fun z => Value.int .u8 z) : TabB W := fun j hj => by
  unfold World.var? at hv
  rw [e1] at hv
  simp only [Option.bind_some] at hv
  unfold World.cell?
  cases hh : W.heap[(1 : Nat)]? with
  | none => rw [hh] at hv; cases hv
  | some o =>
    rw [hh] at hv
    cases o with
    | cells c t m =>
      simp only [Option.some.injEq] at hv
      subst hv
      rw [hcs]
      have hl : j < Lib.deBruijn64tab.length := hj
      simp [List.getElem?_eq_getElem hl, List.getD_eq_getElem?_getD]
    | _ => simp at hv

end Go.Proofs.YtoigpodamciehaaGreatDoor

