/- My texts on the way to RatioNames, one behind the other: contracts of the program and of the document's answers. -/
import Derived.Test.YtmncfbjoplfikaaGreatDoorJ1
import Derived.Test.YtmncfbjoplfikaaGreatDoorJ2
import Derived.Deep.Cut
import Derived.Deep.LoopGhost
import Derived.Deep.RegionHeld3
import Derived.Laws.ResultCell
/- Fractions: ratio.add: sums of fractions that may be; what is told is new memory, Num and Den apart. -/
namespace Go.Proofs.YtmncfbjoplfikaaGreatDoor
open Go.RowKit
set_option linter.unusedVariables false

theorem bel_al {a w : World} (h : Below a.heap.size a w) (o : Obj) : Below a.heap.size a (w.alloc o) := h.alloc h.size o
theorem bel_undrew {w V : World} (hb : Below w.drew.heap.size w.drew V) : Below w.heap.size w V := bt (Below.drew (Below.refl _ w)) hb
theorem bel_unal {w V : World} {o : Obj} (hb : Below (w.alloc o).heap.size (w.alloc o) V) : Below w.heap.size w V := bt (alloc_later _ _) hb
theorem zbw {w V : World} (hb : Below (w.alloc (.cells #[.bool false, .slice none 0 0] 41)).heap.size (w.alloc (.cells #[.bool false, .slice none 0 0] 41)) V) : Box V w.heap.size 41 #[.bool false, .slice none 0 0] := (Box.made w 41 _).later hb (by simp)
theorem new_ne' {w : World} {g t : Nat} {vs : Array Value} (h : Box w g t vs) : g < w.heap.size ∧ ¬ w.heap.size = g := by
  have := h.lt
  omega
theorem nes3 {p q : Nat} (h : p + 1 + 1 < q) : ¬ p = q ∧ ¬ q = p ∧ ¬ p + 1 = q ∧ ¬ q = p + 1 := by omega
/-- A whole number in a box, behind what was there. -/
def Num (X U F : World) (p : Nat) (k : Bool) (a : Option Addr) (c : Nat) (z : List Int) (T : Int) : Prop := Box F p 41 #[.bool k, .slice a z.length c] ∧ One X F (.slice a z.length c) z T ∧ Below U.heap.size U F
theorem num_old {X U W : World} {p : Nat} {k : Bool} {a : Option Addr} {c : Nat} {z : List Int} {T : Int} (o : One X W (.slice a z.length c) z T) (hb : Below U.heap.size U W) (h : Box W p 41 #[.bool false, .slice none 0 0]) (lp : U.heap.size ≤ p) : Num X U ((W.setCell ⟨p, 0, none⟩ (.bool k)).setCell ⟨p, 1, none⟩ (.slice a z.length c)) p k a c z T :=
  ⟨h.put2 _ _, ⟨own_put2 o.1 p (own_ne_box o.1 h (by decide)) _ _, o.2⟩, below_put2 hb p lp _ _⟩
theorem num_new {X U W : World} {k : Bool} {a : Option Addr} {c : Nat} {z : List Int} {T : Int} (o : One X W (.slice a z.length c) z T) (hb : Below U.heap.size U W) : Num X U (W.alloc (.cells #[.bool k, .slice a z.length c] 41)) W.heap.size k a c z T :=
  ⟨Box.made W _ _, o.later (alloc_later _ _), bt hb (alloc_later _ _)⟩

theorem lies_low {v : Value} {lo lo' hi : Nat} (h : Lies v lo hi) (hl : lo' ≤ lo) : Lies v lo' hi := fun g hg => ⟨Nat.le_trans hl (h g hg).1, (h g hg).2⟩
theorem sum_4097 {k n m : Bool} {T p1 p2 : Int} (h : sg k T = sg n p1 + sg m p2) (h0 : 0 ≤ T) (q0 : 0 ≤ p1) (q1 : p1 < 4294967296 ^ 4096) (r0 : 0 ≤ p2) (r1 : p2 < 4294967296 ^ 4096) : T < 4294967296 ^ 4097 := by
  have e : (4294967296 : Int) ^ 4097 = 4294967296 ^ 4096 * 4294967296 := Int.pow_succ _ 4096
  rw [e]
  generalize (4294967296 : Int) ^ 4096 = Y at *
  cases k <;> cases n <;> cases m <;> simp [sg] at h <;> omega
theorem at7 {X w7 ww : World} {f : Nat} {args : Array Value} {t : Int} {S : World → Prop} (hS : ∀ V, Below w7.heap.size w7 V → S V) (hw : Below w7.heap.size w7 ww) (C : Calls Tryz.prog f args ww (fun e w' => ∃ a2 zs c2, e = .returned (.slice a2 (List.length zs) c2) ∧ Hid (One X w' (.slice a2 (List.length zs) c2) zs t ∧ Lies (.slice a2 (List.length zs) c2) ww.heap.size w'.heap.size) ∧ True ∧ Below X.heap.size X w' ∧ Hid (Below ww.heap.size ww w'))) :
    Calls Tryz.prog f args ww fun e w' => ∃ a2 zs c2, e = .returned (.slice a2 (List.length zs) c2) ∧ Hid (One X w' (.slice a2 (List.length zs) c2) zs t ∧ Lies (.slice a2 (List.length zs) c2) ww.heap.size w'.heap.size ∧ True ∧ Below w7.heap.size w7 w') ∧ S w' ∧ Hid (Below ww.heap.size ww w') :=
  Calls.mono C fun e w' ⟨a2, zs, c2, h1, h2, _, _, h5⟩ => ⟨a2, zs, c2, h1, ⟨h2.out.1, h2.out.2, trivial, bt hw h5.out⟩, hS w' (bt hw h5.out), h5⟩
theorem rtold_cut2 {U ww : World} {n : Bool} {a : Option Addr} {ca : Nat} {zs : List Int} {b : Option Addr} {cb : Nat} {ds : List Int} {s t : Int} {q : Rat} (hb : Below U.heap.size U ww) (h1 : One U ww (.slice a zs.length ca) zs s) (h2 : One U ww (.slice b ds.length cb) ds t) (hc : Cut U (.slice a zs.length ca) (.slice b ds.length cb) ww) (hd : 0 < t) (hg : gcdI s t = 1) (hq : Rat.divInt (sg n s) t = q) :
    Calls Tryz.prog 24 #[.bool n, .slice a zs.length ca, .slice b ds.length cb] ww fun e w' => ∃ k a8 z8 c8 a9 z9 c9 code, e = .returned (.tuple #[.agg #[.bool k, .slice a8 (List.length z8) c8, .slice a9 (List.length z9) c9], .int .i64 code]) ∧ Hid (w'.ownsRow U.heap.size 30 1 (.slice a8 (List.length z8) c8) z8.length (z8.map (Value.int .u32)) ∧ w'.ownsRow U.heap.size 30 1 (.slice a9 (List.length z9) c9) z9.length (z9.map (Value.int .u32)) ∧ RTells 0 q k z8 z9 code ∧ Cut U (.slice a8 (List.length z8) c8) (.slice a9 (List.length z9) c9) w') ∧ Below U.heap.size U w' ∧ Hid (Below ww.heap.size ww w') := by
  obtain ⟨o1, w1, t1, v1⟩ := h1
  obtain ⟨o2, w2, t2, v2⟩ := h2
  obtain ⟨k, us, vs, c, e1, e2, e3, r⟩ := rtells_of (n := n) w1 t1 w2 t2 (by rw [v2]; exact hd) (by rw [v1, v2]; exact hg)
  rw [v1, v2, hq] at r
  refine Calls.mono (rtold_any n a zs.length ca b ds.length cb ww) fun e w' h => ?_
  obtain ⟨rfl, hb2⟩ := h
  rw [e1]
  by_cases z : c = 0
  · rw [if_pos z] at e2 e3
    subst e2; subst e3
    refine ⟨k, a, us, ca, b, vs, cb, c, by rw [if_pos z, if_pos z], ⟨owns_later o1 hb2, owns_later o2 hb2, r, hc.up (Nat.le_refl _) hb2.size⟩, bt hb hb2, hb2⟩
  · rw [if_neg z] at e2 e3
    subst e2; subst e3
    exact ⟨k, none, [], 0, none, [], 0, c, by rw [if_neg z, if_neg z]; rfl, ⟨World.ownsRow_nil _ _ _ _, World.ownsRow_nil _ _ _ _, r, ⟨U.heap.size, Nat.le_refl _, (bt hb hb2).size, fun g hg => by simp [Value.ownBlock] at hg, fun g hg => by simp [Value.ownBlock] at hg⟩⟩, bt hb hb2, hb2⟩

set_option maxHeartbeats 6400000 in
set_option maxRecDepth 100000 in
theorem radd_any (n : Bool) (a : Option Addr) (ca : Nat) (xs : List Int) (b : Option Addr) (cb : Nat) (ys : List Int) (m : Bool) (c : Option Addr) (cc : Nat) (us : List Int) (d : Option Addr) (cd : Nat) (vs : List Int) (w : World)
    (sx : Sl w (.slice a xs.length ca) xs) (sy : Sl w (.slice b ys.length cb) ys) (su : Sl w (.slice c us.length cc) us) (sv : Sl w (.slice d vs.length cd) vs) (lx : xs.length ≤ 2048) (ly : ys.length ≤ 2048) (lu : us.length ≤ 2048) (lv : vs.length ≤ 2048) (tx : Trimmed xs) (ty : Trimmed ys) (tu : Trimmed us) (tv : Trimmed vs) (hy : 0 < val ys) (hv : 0 < val vs) (h1 : gcdI (val xs) (val ys) = 1) (h2 : gcdI (val us) (val vs) = 1) :
    Calls Tryz.prog 19 #[.agg #[.bool n, .slice a xs.length ca, .slice b ys.length cb], .agg #[.bool m, .slice c us.length cc, .slice d vs.length cd]] w (RToldA w 0 (rq n xs ys + rq m us vs)) := by
  have wx := sx.wd
  have wy := sy.wd
  have wu := su.wd
  have wv := sv.wd
  have HB : Hid (Below w.heap.size w (((w.alloc (.cells #[.bool n, .slice a xs.length ca, .slice b ys.length cb] 24)).alloc (.cells #[.bool m, .slice c us.length cc, .slice d vs.length cd] 24)).alloc (.cells #[.bool false, .slice none 0 0, .slice none 0 0] 24))) := bt (bt (alloc_later _ _) (alloc_later _ _)) (alloc_later _ _)
  have HZ : Hid (Box (((w.alloc (.cells #[.bool n, .slice a xs.length ca, .slice b ys.length cb] 24)).alloc (.cells #[.bool m, .slice c us.length cc, .slice d vs.length cd] 24)).alloc (.cells #[.bool false, .slice none 0 0, .slice none 0 0] 24)) (w.heap.size + 1 + 1) 24 #[.bool false, .slice none 0 0, .slice none 0 0]) := by
    have e := Box.made ((w.alloc (.cells #[.bool n, .slice a xs.length ca, .slice b ys.length cb] 24)).alloc (.cells #[.bool m, .slice c us.length cc, .slice d vs.length cd] 24)) 24 #[.bool false, .slice none 0 0, .slice none 0 0]
    simp at e
    exact e
  have HN : Hid (Box (((w.alloc (.cells #[.bool n, .slice a xs.length ca, .slice b ys.length cb] 24)).alloc (.cells #[.bool m, .slice c us.length cc, .slice d vs.length cd] 24)).alloc (.cells #[.bool false, .slice none 0 0, .slice none 0 0] 24)) w.heap.size 24 #[.bool n, .slice a xs.length ca, .slice b ys.length cb]) := Box.later (Box.made w _ _) (bt (alloc_later _ _) (alloc_later _ _)) (by simp)
  have HM : Hid (Box (((w.alloc (.cells #[.bool n, .slice a xs.length ca, .slice b ys.length cb] 24)).alloc (.cells #[.bool m, .slice c us.length cc, .slice d vs.length cd] 24)).alloc (.cells #[.bool false, .slice none 0 0, .slice none 0 0] 24)) (w.heap.size + 1) 24 #[.bool m, .slice c us.length cc, .slice d vs.length cd]) := by
    have e := Box.later (Box.made (w.alloc (.cells #[.bool n, .slice a xs.length ca, .slice b ys.length cb] 24)) 24 #[.bool m, .slice c us.length cc, .slice d vs.length cd]) (alloc_later ((w.alloc (.cells #[.bool n, .slice a xs.length ca, .slice b ys.length cb] 24)).alloc (.cells #[.bool m, .slice c us.length cc, .slice d vs.length cd] 24)) (.cells #[.bool false, .slice none 0 0, .slice none 0 0] 24)) (by simp)
    simp at e
    exact e
  have HXS : Hid (w.heap.size + 1 + 1 < (((w.alloc (.cells #[.bool n, .slice a xs.length ca, .slice b ys.length cb] 24)).alloc (.cells #[.bool m, .slice c us.length cc, .slice d vs.length cd] 24)).alloc (.cells #[.bool false, .slice none 0 0, .slice none 0 0] 24)).heap.size) := HZ.out.lt
  have HSL := hid (And.intro (sx.later HB.out) (And.intro (sy.later HB.out) (And.intro (su.later HB.out) (sv.later HB.out))))
  have HP := hid (And.intro hy (And.intro hv (And.intro h1 h2)))
  have HTT := hid (And.intro tx (And.intro ty (And.intro tu tv)))
  have HF0 : Hid (0 < gcdI (val ys) (val vs) ∧ gcdI (val ys) (val vs) ≤ val vs) := ⟨gcd_pos_right hv, gcd_le_right hv⟩
  have HL : Hid (val xs < 4294967296 ^ 2048 ∧ val ys < 4294967296 ^ 2048 ∧ val us < 4294967296 ^ 2048 ∧ val vs < 4294967296 ^ 2048) := ⟨below2048 wx lx, below2048 wy ly, below2048 wu lu, below2048 wv lv⟩
  have HNN : Hid (0 ≤ val xs ∧ 0 ≤ val us ∧ 0 ≤ val ys ∧ 0 ≤ val vs) := ⟨val_nonneg wx, val_nonneg wu, val_nonneg wy, val_nonneg wv⟩
  have HD : Hid (val ys / gcdI (val ys) (val vs) < 4294967296 ^ 2048 ∧ val vs / gcdI (val ys) (val vs) < 4294967296 ^ 2048 ∧ 0 ≤ val ys / gcdI (val ys) (val vs) ∧ 0 ≤ val vs / gcdI (val ys) (val vs)) := by
    have q3 := Int.ediv_le_self (a := val ys) (gcdI (val ys) (val vs)) (by omega)
    have q4 := Int.ediv_le_self (a := val vs) (gcdI (val ys) (val vs)) (by omega)
    have q5 := HF0.out
    have := HL.out
    exact ⟨by omega, by omega, Int.ediv_nonneg (by omega) (by omega), Int.ediv_nonneg (by omega) (by omega)⟩
  have HPL : Hid (val xs * (val vs / gcdI (val ys) (val vs)) < 4294967296 ^ 4096 ∧ val us * (val ys / gcdI (val ys) (val vs)) < 4294967296 ^ 4096) := ⟨mul_4096 HNN.out.1 HL.out.1 HD.out.2.2.2 HD.out.2.1, mul_4096 HNN.out.2.1 HL.out.2.2.1 HD.out.2.2.1 HD.out.1⟩
  have HC1 := hid (rcommon_any _ _ ys vs (((w.alloc (.cells #[.bool n, .slice a xs.length ca, .slice b ys.length cb] 24)).alloc (.cells #[.bool m, .slice c us.length cc, .slice d vs.length cd] 24)).alloc (.cells #[.bool false, .slice none 0 0, .slice none 0 0] 24)) HSL.out.2.1 HSL.out.2.2.2 (by omega) (by omega) ty tv)
  obtain ⟨G, hG⟩ : ∃ G, G = gcdI (val ys) (val vs) := ⟨_, rfl⟩
  rw [← hG] at HC1 HF0 HD HPL
  obtain ⟨rA, hA⟩ : ∃ rA, rA = val ys / G := ⟨_, rfl⟩
  obtain ⟨rB, hB⟩ : ∃ rB, rB = val vs / G := ⟨_, rfl⟩
  rw [← hA, ← hB] at HD HPL
  have HEQ := hid (And.intro hG (And.intro hA hB))
  clear sx sy su sv tx ty tu tv hy hv h1 h2 wx wy wu wv hG hA hB
  go_enter Tryz.func19, Tryz.ntmps19
  go_wp2_with fail
  refine Calls.mono HC1.out ?_
  generalize (((w.alloc (.cells #[.bool n, .slice a xs.length ca, .slice b ys.length cb] 24)).alloc (.cells #[.bool m, .slice c us.length cc, .slice d vs.length cd] 24)).alloc (.cells #[.bool false, .slice none 0 0, .slice none 0 0] 24)) = X at *
  rintro e w1 ⟨v1, z1, rfl, o1, wd1, t1, hv1, hb1⟩
  obtain ⟨a1, c1, hs1⟩ := own_slice' o1
  subst hs1
  have HK : Hid (∀ V, Below X.heap.size X V → V.cell? ⟨w.heap.size, 0, none⟩ = some (.bool n) ∧ V.cell? ⟨w.heap.size, 1, none⟩ = some (.slice a xs.length ca) ∧ V.cell? ⟨w.heap.size, 2, none⟩ = some (.slice b ys.length cb) ∧ V.cell? ⟨w.heap.size + 1, 0, none⟩ = some (.bool m) ∧ V.cell? ⟨w.heap.size + 1, 1, none⟩ = some (.slice c us.length cc) ∧ V.cell? ⟨w.heap.size + 1, 2, none⟩ = some (.slice d vs.length cd)) := fun V hb => by
    obtain ⟨p0, p1, p2, _⟩ := res_box3 HN.out hb
    obtain ⟨q0, q1, q2, _⟩ := res_box3 HM.out hb
    exact ⟨p0, p1, p2, q0, q1, q2⟩
  have HO1 : Hid (One X w1.drew (.slice a1 z1.length c1) z1 G) := One.later ⟨o1, wd1, t1, hv1⟩ (Below.drew (Below.refl _ w1))
  have hb1d : Below X.heap.size X w1.drew := hb1.drew
  have hs0 := HK.out _ hb1d
  clear o1 wd1 t1 hv1 hb1 HC1
  have HQY := hid (fun ww (hv' : Below X.heap.size X ww) (h : One X ww (.slice a1 z1.length c1) z1 G) => quot_in _ HK.out hv' (HSL.out.2.1.later hv') (by omega) HTT.out.2.1 h HF0.out.1 (by have := HF0.out; have := HL.out; omega))
  have HQV := hid (fun ww (hv' : Below X.heap.size X ww) (h : One X ww (.slice a1 z1.length c1) z1 G) => quot_in _ HK.out hv' (HSL.out.2.2.2.later hv') (by omega) HTT.out.2.2.2 h HF0.out.1 (by have := HF0.out; have := HL.out; omega))
  rw [← HEQ.out.2.1] at HQY
  rw [← HEQ.out.2.2] at HQV
  go_wp2_with fail
  go_region_held3 (fun V : World => V.cell? ⟨w.heap.size, 0, none⟩ = some (.bool n) ∧ V.cell? ⟨w.heap.size, 1, none⟩ = some (.slice a xs.length ca) ∧ V.cell? ⟨w.heap.size, 2, none⟩ = some (.slice b ys.length cb) ∧ V.cell? ⟨w.heap.size + 1, 0, none⟩ = some (.bool m) ∧ V.cell? ⟨w.heap.size + 1, 1, none⟩ = some (.slice c us.length cc) ∧ V.cell? ⟨w.heap.size + 1, 2, none⟩ = some (.slice d vs.length cd)) (first | exact hs3 | exact hs2 | exact hs0)
    (first
      | (go_at_call 30; with_reducible refine Calls.mono (HQV.out _ hb2 (HO1.out.later HS2.out)) ?_; rintro e w3 ⟨a3, z3, c3, rfl, HE3, hs3, hb3, HS3⟩)
      | (go_at_call 30; with_reducible refine Calls.mono (HQY.out _ hb1d HO1.out) ?_; rintro e w2 ⟨a2, z2, c2, rfl, HE2, hs2, hb2, HS2⟩))
  have HO3 := hid (And.intro ((HO1.out.later HS2.out).later HS3.out) (And.intro (HE2.out.1.later HS3.out) HE3.out.1))
  have HB3 := hid hb3
  clear hs0 hs2 hs3 hb1d hb2 hb3 HE2 HE3 HS2 HS3 HO1 HQY HQV
  go_upto_region 5 with fail
  have HU : Hid (∀ V, Below w3.heap.size w3 V → Below X.heap.size X V) := fun V hb => bt HB3.out hb
  have HBR := hid (Below.refl w3.heap.size w3)
  have HP1 : Hid (∀ V, Below w3.heap.size w3 V → Calls Tryz.prog 35 #[.slice a xs.length ca, .slice a3 z3.length c3] V fun e V' => ∃ a2 zs c2, e = .returned (.slice a2 (List.length zs) c2) ∧ Hid (One X V' (.slice a2 (List.length zs) c2) zs (val xs * rB) ∧ Below V.heap.size V V' ∧ Below w3.heap.size w3 V') ∧ V'.cell? ⟨w.heap.size, 0, none⟩ = some (.bool n) ∧ V'.cell? ⟨w.heap.size, 1, none⟩ = some (.slice a xs.length ca) ∧ V'.cell? ⟨w.heap.size, 2, none⟩ = some (.slice b ys.length cb) ∧ V'.cell? ⟨w.heap.size + 1, 0, none⟩ = some (.bool m) ∧ V'.cell? ⟨w.heap.size + 1, 1, none⟩ = some (.slice c us.length cc) ∧ V'.cell? ⟨w.heap.size + 1, 2, none⟩ = some (.slice d vs.length cd)) := fun V hb => by
    have hx := HU.out V hb
    have on := HO3.out.2.2.later hb
    have e := rprod_any _ _ xs z3 V (HSL.out.1.later hx) on.sl (by have := own_len on HD.out.2.1; omega) HTT.out.1 on.2.2.1
    rw [on.2.2.2] at e
    refine Calls.mono e ?_
    rintro e V' ⟨v2, zs, rfl, o2, wd2, t2, hv2, hb2⟩
    obtain ⟨a2, c2, hs2⟩ := own_slice' o2
    subst hs2
    exact ⟨a2, zs, c2, rfl, ⟨⟨owns_base o2 hx.size, wd2, t2, hv2⟩, hb2, bt hb hb2⟩, HK.out V' (bt hx hb2)⟩
  have HP2 : Hid (∀ V, Below w3.heap.size w3 V → Calls Tryz.prog 35 #[.slice c us.length cc, .slice a2 z2.length c2] V fun e V' => ∃ a2 zs c2, e = .returned (.slice a2 (List.length zs) c2) ∧ Hid (One X V' (.slice a2 (List.length zs) c2) zs (val us * rA) ∧ Below V.heap.size V V' ∧ Below w3.heap.size w3 V') ∧ V'.cell? ⟨w.heap.size, 0, none⟩ = some (.bool n) ∧ V'.cell? ⟨w.heap.size, 1, none⟩ = some (.slice a xs.length ca) ∧ V'.cell? ⟨w.heap.size, 2, none⟩ = some (.slice b ys.length cb) ∧ V'.cell? ⟨w.heap.size + 1, 0, none⟩ = some (.bool m) ∧ V'.cell? ⟨w.heap.size + 1, 1, none⟩ = some (.slice c us.length cc) ∧ V'.cell? ⟨w.heap.size + 1, 2, none⟩ = some (.slice d vs.length cd)) := fun V hb => by
    have hx := HU.out V hb
    have on := HO3.out.2.1.later hb
    have e := rprod_any _ _ us z2 V (HSL.out.2.2.1.later hx) on.sl (by have := own_len on HD.out.1; omega) HTT.out.2.2.1 on.2.2.1
    rw [on.2.2.2] at e
    refine Calls.mono e ?_
    rintro e V' ⟨v2, zs, rfl, o2, wd2, t2, hv2, hb2⟩
    obtain ⟨a2, c2, hs2⟩ := own_slice' o2
    subst hs2
    exact ⟨a2, zs, c2, rfl, ⟨⟨owns_base o2 hx.size, wd2, t2, hv2⟩, hb2, bt hb hb2⟩, HK.out V' (bt hx hb2)⟩
  have HSG : Hid (∀ V, Below w3.heap.size w3 V → ∀ a4 z4 c4 a5 z5 c5, One X V (.slice a4 (List.length z4) c4) z4 (val xs * rB) → One X V (.slice a5 (List.length z5) c5) z5 (val us * rA) → Calls Tryz.prog 34 #[.agg #[.bool n, .slice a4 z4.length c4], .agg #[.bool m, .slice a5 z5.length c5]] V fun e V' => ∃ k a2 zs c2, e = .returned (.agg #[.bool k, .slice a2 (List.length zs) c2]) ∧ Hid ((∃ T, One X V' (.slice a2 (List.length zs) c2) zs T ∧ sg k T = (sg n (val xs * rB) + sg m (val us * rA))) ∧ Below V.heap.size V V' ∧ Below w3.heap.size w3 V') ∧ V'.cell? ⟨w.heap.size, 0, none⟩ = some (.bool n) ∧ V'.cell? ⟨w.heap.size, 1, none⟩ = some (.slice a xs.length ca) ∧ V'.cell? ⟨w.heap.size, 2, none⟩ = some (.slice b ys.length cb) ∧ V'.cell? ⟨w.heap.size + 1, 0, none⟩ = some (.bool m) ∧ V'.cell? ⟨w.heap.size + 1, 1, none⟩ = some (.slice c us.length cc) ∧ V'.cell? ⟨w.heap.size + 1, 2, none⟩ = some (.slice d vs.length cd)) := fun V hb a4 z4 c4 a5 z5 c5 h4 h5 => by
    have hx := HU.out V hb
    have e := rsigned_any n _ z4 m _ z5 V h4.sl h5.sl (by have := own_len h4 HPL.out.1; omega) (by have := own_len h5 HPL.out.2; omega) h4.2.2.1 h5.2.2.1
    rw [show wval n z4 = sg n (val z4) from rfl, show wval m z5 = sg m (val z5) from rfl, h4.2.2.2, h5.2.2.2] at e
    refine Calls.mono e ?_
    rintro e V' ⟨k, v, zs, rfl, o, h1, h2, h3, hb2⟩
    obtain ⟨a2, c2, hs2⟩ := own_slice' o
    subst hs2
    exact ⟨k, a2, zs, c2, rfl, ⟨⟨val zs, ⟨owns_base o hx.size, h1, h2, rfl⟩, h3⟩, hb2, bt hb hb2⟩, HK.out V' (bt hx hb2)⟩
  have HW2 := hid (Nat.lt_of_lt_of_le HXS.out HB3.out.size)
  obtain ⟨m1, m2, m3, m4⟩ := nes3 HW2.out
  go_cut [9] from 11 (fun s9 wx => ∃ p k a6 c6 z6 T, s9 = .pointer (some ⟨p, 0, none⟩) ∧ Hid (Num X w3 wx p k a6 c6 z6 T ∧ sg k T = sg n (val xs * rB) + sg m (val us * rA) ∧ w3.heap.size ≤ p))
  case first =>
    have hs0 := HK.out _ (HU.out _ HBR.out.drew)
    go_region_held3 (fun V : World => V.cell? ⟨w.heap.size, 0, none⟩ = some (.bool n) ∧ V.cell? ⟨w.heap.size, 1, none⟩ = some (.slice a xs.length ca) ∧ V.cell? ⟨w.heap.size, 2, none⟩ = some (.slice b ys.length cb) ∧ V.cell? ⟨w.heap.size + 1, 0, none⟩ = some (.bool m) ∧ V.cell? ⟨w.heap.size + 1, 1, none⟩ = some (.slice c us.length cc) ∧ V.cell? ⟨w.heap.size + 1, 2, none⟩ = some (.slice d vs.length cd)) (first | exact hs6 | exact hs5 | exact hs4 | exact hs0 | with_reducible exact HK.out _ (HU.out _ (bel_al HE6.out.2.2 _)) | with_reducible exact HK.out _ (HU.out _ (bel_al HE5.out.2.2 _)) | with_reducible exact HK.out _ (HU.out _ (bel_al HE4.out.2.2 _)) | with_reducible exact HK.out _ (HU.out _ (bel_al HBR.out _).drew) | with_reducible exact HK.out _ (HU.out _ (below_put2 HE6.out.2.2 _ (by omega) _ _)) | go_keep)
      (first
        | (go_at_call 34; with_reducible refine Calls.mono (HSG.out _ (by first | exact HE5.out.2.2 | exact bel_al HE5.out.2.2 _) _ _ _ _ _ _ (by first | exact HE4.out.1.later HL5.out | exact (HE4.out.1.later HL5.out).later (alloc_later _ _)) (by first | exact HE5.out.1 | exact HE5.out.1.later (alloc_later _ _))) ?_; rintro e w6 ⟨k6, a6, z6, c6, rfl, HE6, hs6⟩; (first | (have HL6 := hid (bel_unal (w := w5) HE6.out.2.1)) | (have HL6 := hid HE6.out.2.1)); (first | (have HY1 := hid ((HZ1.out.later HL5.out HZ1.out.lt).later HL6.out (HZ1.out.later HL5.out HZ1.out.lt).lt); clear y0 y1 y2 y3; obtain ⟨j0, j1, j2, j3⟩ := HY1.out.c2; obtain ⟨j4, j5⟩ := new_ne' HY1.out) | skip); (first | (have HY2 := hid (HZ2.out.later HL6.out HZ2.out.lt); clear u0 u1 u2 u3; obtain ⟨j0, j1, j2, j3⟩ := HY2.out.c2; obtain ⟨j4, j5⟩ := new_ne' HY2.out) | skip); (first | (have HY3 := hid (zbw HE6.out.2.1); obtain ⟨j0, j1, j2, j3⟩ := HY3.out.c2; obtain ⟨j4, j5⟩ := new_ne' HY3.out) | skip))
        | (go_at_call 35; with_reducible refine Calls.mono (HP2.out _ (by first | exact HE4.out.2.2 | exact bel_al HE4.out.2.2 _)) ?_; rintro e w5 ⟨a5, z5, c5, rfl, HE5, hs5⟩; have hz5 := HE5.out.2.2.size; (first | (have HL5 := hid (bel_unal (w := w4) HE5.out.2.1)) | (have HL5 := hid HE5.out.2.1)); (first | (have HZ2 := hid (zbw HE5.out.2.1); obtain ⟨u0, u1, u2, u3⟩ := HZ2.out.c2; obtain ⟨u4, u5⟩ := new_ne' HZ2.out) | skip))
        | (go_at_call 35; with_reducible refine Calls.mono (HP1.out _ (by first | exact HBR.out.drew | exact (bel_al HBR.out _).drew)) ?_; rintro e w4 ⟨a4, z4, c4, rfl, HE4, hs4⟩; have hz4 := HE4.out.2.2.size; obtain ⟨l1, l2, l3, l4⟩ := nes3 (Nat.lt_of_lt_of_le HW2.out HE4.out.2.2.size); (first | (have HZ1 := hid (zbw (bel_undrew HE4.out.2.1)); obtain ⟨y0, y1, y2, y3⟩ := HZ1.out.c2; obtain ⟨y4, y5⟩ := new_ne' HZ1.out) | skip)))
    all_goals
      have hz6 := HE6.out.2.2.size
      have hz45 := HL5.out.size
      obtain ⟨T, oT, hT⟩ := HE6.out.1
      have HOT := hid oT
      have HHT := hid hT
      clear oT hT
      go_wp2_with fail
      go_meet
    all_goals (first | with_reducible exact ⟨_, k6, a6, c6, z6, T, rfl, hid (And.intro (num_old HOT.out HE6.out.2.2 HY1.out (by omega)) (And.intro HHT.out (by omega)))⟩ | with_reducible exact ⟨_, k6, a6, c6, z6, T, rfl, hid (And.intro (num_old HOT.out HE6.out.2.2 HY2.out (by omega)) (And.intro HHT.out (by omega)))⟩ | with_reducible exact ⟨_, k6, a6, c6, z6, T, rfl, hid (And.intro (num_old HOT.out HE6.out.2.2 HY3.out (by omega)) (And.intro HHT.out (by omega)))⟩ | with_reducible exact ⟨_, k6, a6, c6, z6, T, rfl, hid (And.intro (num_new HOT.out HE6.out.2.2) (And.intro HHT.out (by omega)))⟩)
  case rest =>
    obtain ⟨p, k6, a6, c6, z6, T, rfl, HNm⟩ := hcut
    have HBc := hid (bt HB3.out HNm.out.1.2.2)
    have HOc := hid (And.intro (HO3.out.1.later HNm.out.1.2.2) (And.intro (HO3.out.2.1.later HNm.out.1.2.2) HNm.out.1.2.1))
    have HBX := hid HNm.out.1.1
    have HTS := hid HNm.out.2.1
    have HPW := hid (Nat.lt_of_lt_of_le (Nat.lt_of_lt_of_le HXS.out HB3.out.size) HNm.out.2.2)
    have HT0 : Hid (0 ≤ T) := by rw [← HOc.out.2.2.2.2.2]; exact val_nonneg HOc.out.2.2.2.1
    have HTL : Hid (T < 4294967296 ^ 4097) := sum_4097 HTS.out HT0.out (Int.mul_nonneg HNN.out.1 HD.out.2.2.2) HPL.out.1 (Int.mul_nonneg HNN.out.2.1 HD.out.2.2.1) HPL.out.2
    have l6 : z6.length ≤ 4097 := own_len HOc.out.2.2 HTL.out
    have l1 : z1.length ≤ 2048 := own_len HOc.out.1 (by have := HF0.out; have := HL.out; omega)
    have l2 : z2.length ≤ 2048 := own_len HOc.out.2.1 HD.out.1
    have HC4 := hid (rcommon_any _ _ z6 z1 wc HOc.out.2.2.sl HOc.out.1.sl (by omega) (by omega) HOc.out.2.2.2.2.1 HOc.out.1.2.2.1)
    rw [HOc.out.2.2.2.2.2, HOc.out.1.2.2.2] at HC4
    have HSS : Hid (0 < gcdI T G ∧ gcdI T G ≤ G ∧ G < 4294967296 ^ 2048) := ⟨gcd_pos_right HF0.out.1, gcd_le_right HF0.out.1, by have := HF0.out; have := HL.out; omega⟩
    have HAP := hid (add_parts (n := n) (m := m) (nn := k6) (xs := xs) (ys := ys) (us := us) (vs := vs) HP.out.1 HP.out.2.1 HP.out.2.2.1 HP.out.2.2.2 HEQ.out.1 HEQ.out.2.1 HEQ.out.2.2 rfl rfl HTS.out (s := gcdI T G) rfl (q1 := T / gcdI T G) rfl (e := val vs / gcdI T G) rfl (den := rA * (val vs / gcdI T G)) rfl)
    clear HNm HP1 HP2 HSG HU HBR HB3 HO3 m1 m2 m3 m4 HW2
    obtain ⟨p0, p1, _, _⟩ := HBX.out.c2
    go_wp2_with fail
    refine Calls.mono HC4.out ?_
    rintro e w7 ⟨v7, z7, rfl, o7, wd7, t7, hv7, hb7⟩
    obtain ⟨a7, c7, hs7⟩ := own_slice' o7
    subst hs7
    have HB7 := hid (bt HBc.out hb7)
    have HBX7 := hid (HBX.out.later hb7 HBX.out.lt)
    have HO7 : Hid (One X w7.drew (.slice a7 z7.length c7) z7 (gcdI T G) ∧ One X w7.drew (.slice a2 z2.length c2) z2 rA ∧ One X w7.drew (.slice a6 z6.length c6) z6 T) := ⟨One.later ⟨owns_base o7 HBc.out.size, wd7, t7, hv7⟩ (Below.drew (Below.refl _ w7)), (HOc.out.2.1.later hb7).later (Below.drew (Below.refl _ w7)), (HOc.out.2.2.later hb7).later (Below.drew (Below.refl _ w7))⟩
    have hb7d : Below X.heap.size X w7.drew := HB7.out.drew
    clear o7 wd7 t7 hv7 hb7 HC4 p0 p1 HOc
    obtain ⟨SP, hSP⟩ : ∃ SP : World → Prop, SP = fun V => (V.cell? ⟨w.heap.size, 0, none⟩ = some (.bool n) ∧ V.cell? ⟨w.heap.size, 1, none⟩ = some (.slice a xs.length ca) ∧ V.cell? ⟨w.heap.size, 2, none⟩ = some (.slice b ys.length cb) ∧ V.cell? ⟨w.heap.size + 1, 0, none⟩ = some (.bool m) ∧ V.cell? ⟨w.heap.size + 1, 1, none⟩ = some (.slice c us.length cc) ∧ V.cell? ⟨w.heap.size + 1, 2, none⟩ = some (.slice d vs.length cd)) ∧ V.cell? ⟨p, 0, none⟩ = some (.bool k6) ∧ V.cell? ⟨p, 1, none⟩ = some (.slice a6 z6.length c6) := ⟨_, rfl⟩
    have HK7 : Hid (∀ V, Below w7.heap.size w7 V → (V.cell? ⟨w.heap.size, 0, none⟩ = some (.bool n) ∧ V.cell? ⟨w.heap.size, 1, none⟩ = some (.slice a xs.length ca) ∧ V.cell? ⟨w.heap.size, 2, none⟩ = some (.slice b ys.length cb) ∧ V.cell? ⟨w.heap.size + 1, 0, none⟩ = some (.bool m) ∧ V.cell? ⟨w.heap.size + 1, 1, none⟩ = some (.slice c us.length cc) ∧ V.cell? ⟨w.heap.size + 1, 2, none⟩ = some (.slice d vs.length cd)) ∧ V.cell? ⟨p, 0, none⟩ = some (.bool k6) ∧ V.cell? ⟨p, 1, none⟩ = some (.slice a6 z6.length c6)) := fun V hb => by
      obtain ⟨q0, q1, _, _⟩ := (HBX7.out.later hb HBX7.out.lt).c2
      exact ⟨HK.out V (bt HB7.out hb), q0, q1⟩
    clear hSP SP
    have HBR := hid (Below.refl w7.heap.size w7)
    have hs0 := HK7.out _ HBR.out.drew
    have HQ6 := hid (fun (ww : World) (hw : Below w7.heap.size w7 ww) (h : One X ww (.slice a7 z7.length c7) z7 (gcdI T G)) (h6 : One X ww (.slice a6 z6.length c6) z6 T) => (by have e := quot_in (U := X) (fun _ => True) (fun _ _ => trivial) (bt HB7.out hw) h6.sl (by omega) h6.2.2.1 h HSS.out.1 (by have := HSS.out; omega); rw [h6.2.2.2] at e; exact at7 HK7.out hw e : Calls Tryz.prog 30 #[.slice a6 z6.length c6, .slice a7 z7.length c7] ww _))
    have HQV := hid (fun (ww : World) (hw : Below w7.heap.size w7 ww) (h : One X ww (.slice a7 z7.length c7) z7 (gcdI T G)) => (by have e := quot_in (U := X) (fun _ => True) (fun _ _ => trivial) (bt HB7.out hw) (HSL.out.2.2.2.later (bt HB7.out hw)) (by omega) HTT.out.2.2.2 h HSS.out.1 (by have := HSS.out; omega); exact at7 HK7.out hw e : Calls Tryz.prog 30 #[.slice d vs.length cd, .slice a7 z7.length c7] ww _))
    have HPR := hid (fun (ww : World) (hw : Below w7.heap.size w7 ww) (a9 : Option Addr) (z9 : List Int) (c9 : Nat) (h2 : One X ww (.slice a2 z2.length c2) z2 rA) (h9 : One X ww (.slice a9 z9.length c9) z9 (val vs / gcdI T G)) => (by have e := told1_in (U := X) (fun _ => True) (fun _ _ => trivial) ww (bt HB7.out hw) (rprod_any _ _ z2 z9 ww h2.sl h9.sl (by have := own_len h9 (L := 2048) (by have q := Int.ediv_le_self (a := val vs) (gcdI T G) HNN.out.2.2.2; have := HL.out; omega); omega) h2.2.2.1 h9.2.2.1); rw [h2.2.2.2, h9.2.2.2] at e; exact at7 HK7.out hw e : Calls Tryz.prog 35 #[.slice a2 z2.length c2, .slice a9 z9.length c9] ww _))
    have HTL2 := hid (fun (ww : World) (hb : Below X.heap.size X ww) (a8 : Option Addr) (z8 : List Int) (c8 : Nat) (a10 : Option Addr) (z10 : List Int) (c10 : Nat) (g1 : One X ww (.slice a8 z8.length c8) z8 (T / gcdI T G)) (g2 : One X ww (.slice a10 z10.length c10) z10 (rA * (val vs / gcdI T G))) (hc : Cut X (.slice a8 z8.length c8) (.slice a10 z10.length c10) ww) => rtold_cut2 (n := k6) (q := rq n xs ys + rq m us vs) hb g1 g2 hc HAP.out.1 HAP.out.2.1 HAP.out.2.2)
    have hq0 : w.heap.size + 1 + 1 ≠ w.heap.size := by omega
    have hq2 : ¬ w.heap.size + 1 + 1 = p := by have := HPW.out; omega
    go_wp2_with fail
    go_region_held3 (fun V : World => (V.cell? ⟨w.heap.size, 0, none⟩ = some (.bool n) ∧ V.cell? ⟨w.heap.size, 1, none⟩ = some (.slice a xs.length ca) ∧ V.cell? ⟨w.heap.size, 2, none⟩ = some (.slice b ys.length cb) ∧ V.cell? ⟨w.heap.size + 1, 0, none⟩ = some (.bool m) ∧ V.cell? ⟨w.heap.size + 1, 1, none⟩ = some (.slice c us.length cc) ∧ V.cell? ⟨w.heap.size + 1, 2, none⟩ = some (.slice d vs.length cd)) ∧ V.cell? ⟨p, 0, none⟩ = some (.bool k6) ∧ V.cell? ⟨p, 1, none⟩ = some (.slice a6 z6.length c6)) (first | exact hs11 | exact hs10 | exact hs9 | exact hs8 | exact hs0 | (simp [hs11, World.cell?_setCell_far, hq0, hq2]))
      (first
        | (go_at_call 24; with_reducible refine Calls.mono (HTL2.out _ (bt HB7.out HE10.out.2.2.2) _ _ _ _ _ _ ((HE8.out.1.later HS9.out).later HS10.out) HE10.out.1 (cut_two hb7d.size HS8.out.size (Nat.le_trans HS9.out.size HS10.out.size) HE8.out.2.1 (lies_low HE10.out.2.1 HS9.out.size))) ?_; rintro e w11 ⟨k9, a11, z11, c11, a12, z12, c12, code, rfl, HE11, hb11, HS11⟩; obtain ⟨y0, y1, y2, f0, f1, f2⟩ := res_box3 HZ.out hb11; have hs11 := HK7.out w11 (bt HE10.out.2.2.2 HS11.out))
        | (go_at_call 35; with_reducible refine Calls.mono (HPR.out _ HE9.out.2.2.2 _ _ _ ((HO7.out.2.1.later HS8.out).later HS9.out) HE9.out.1) ?_; rintro e w10 ⟨a10, z10, c10, rfl, HE10, hs10, HS10⟩)
        | (go_at_call 30; with_reducible refine Calls.mono (HQV.out _ HE8.out.2.2.2 (HO7.out.1.later HS8.out)) ?_; rintro e w9 ⟨a9, z9, c9, rfl, HE9, hs9, HS9⟩)
        | (go_at_call 30; with_reducible refine Calls.mono (HQ6.out _ HBR.out.drew HO7.out.1 HO7.out.2.2) ?_; rintro e w8 ⟨a8, z8, c8, rfl, HE8, hs8, HS8⟩))
    all_goals
      have HBW := hid (bt HB.out hb11)
      have HR := hid HE11.out
      clear HK HK7 HQ6 HQV HPR HTL2 HE8 HE9 HE10 HE11 HS8 HS9 HS10 HS11 HO7 hs0 hs8 hs9 hs10 hs11 hb7d hb11 HAP HBX HBX7 HBR HB7 HBc
      go_wp2_with fail
      refine bodyPost_ret (v := .tuple #[.agg #[.bool k9, .slice a11 z11.length c11, .slice a12 z12.length c12], .int .i64 code]) (by simp [results, Tryz.results19, go_sem, y0, y1, y2]) rfl ?_
      exact RToldA.put HR.out (w.heap.size + 1 + 1) HXS.out (by omega) HBW.out _ _ _
end Go.Proofs.YtmncfbjoplfikaaGreatDoor

/- Fractions: ratio.multiply as in Ra5, and besides: Num and Den of what is told lie apart. -/
namespace Go.Proofs.YtmncfbjoplfikaaGreatDoor
open Go.RowKit
set_option linter.unusedVariables false

set_option maxHeartbeats 6400000 in
set_option maxRecDepth 100000 in
theorem rmultiply_cut (n : Bool) (a : Option Addr) (ca : Nat) (xs : List Int) (b : Option Addr) (cb : Nat) (ys : List Int) (m : Bool) (c : Option Addr) (cc : Nat) (us : List Int) (d : Option Addr) (cd : Nat) (vs : List Int) (w : World)
    (sx : Sl w (.slice a xs.length ca) xs) (sy : Sl w (.slice b ys.length cb) ys) (su : Sl w (.slice c us.length cc) us) (sv : Sl w (.slice d vs.length cd) vs) (lx : xs.length ≤ 2048) (ly : ys.length ≤ 2048) (lu : us.length ≤ 2048) (lv : vs.length ≤ 2048) (tx : Trimmed xs) (ty : Trimmed ys) (tu : Trimmed us) (tv : Trimmed vs) (hy : 0 < val ys) (hv : 0 < val vs) (h1 : gcdI (val xs) (val ys) = 1) (h2 : gcdI (val us) (val vs) = 1) :
    Calls Tryz.prog 20 #[.agg #[.bool n, .slice a xs.length ca, .slice b ys.length cb], .agg #[.bool m, .slice c us.length cc, .slice d vs.length cd]] w (RToldA w 0 (rq n xs ys * rq m us vs)) := by
  have wx := sx.wd
  have wy := sy.wd
  have wu := su.wd
  have wv := sv.wd
  have HB : Hid (Below w.heap.size w (((w.alloc (.cells #[.bool n, .slice a xs.length ca, .slice b ys.length cb] 24)).alloc (.cells #[.bool m, .slice c us.length cc, .slice d vs.length cd] 24)).alloc (.cells #[.bool false, .slice none 0 0, .slice none 0 0] 24))) := bt (bt (alloc_later _ _) (alloc_later _ _)) (alloc_later _ _)
  have HZ : Hid (Box (((w.alloc (.cells #[.bool n, .slice a xs.length ca, .slice b ys.length cb] 24)).alloc (.cells #[.bool m, .slice c us.length cc, .slice d vs.length cd] 24)).alloc (.cells #[.bool false, .slice none 0 0, .slice none 0 0] 24)) (w.heap.size + 1 + 1) 24 #[.bool false, .slice none 0 0, .slice none 0 0]) := by
    have e := Box.made ((w.alloc (.cells #[.bool n, .slice a xs.length ca, .slice b ys.length cb] 24)).alloc (.cells #[.bool m, .slice c us.length cc, .slice d vs.length cd] 24)) 24 #[.bool false, .slice none 0 0, .slice none 0 0]
    simp at e
    exact e
  have HK : Hid (∀ w', Below (((w.alloc (.cells #[.bool n, .slice a xs.length ca, .slice b ys.length cb] 24)).alloc (.cells #[.bool m, .slice c us.length cc, .slice d vs.length cd] 24)).alloc (.cells #[.bool false, .slice none 0 0, .slice none 0 0] 24)).heap.size (((w.alloc (.cells #[.bool n, .slice a xs.length ca, .slice b ys.length cb] 24)).alloc (.cells #[.bool m, .slice c us.length cc, .slice d vs.length cd] 24)).alloc (.cells #[.bool false, .slice none 0 0, .slice none 0 0] 24)) w' → w'.cell? ⟨w.heap.size, 0, none⟩ = some (.bool n) ∧ w'.cell? ⟨w.heap.size, 1, none⟩ = some (.slice a xs.length ca) ∧ w'.cell? ⟨w.heap.size, 2, none⟩ = some (.slice b ys.length cb) ∧ w'.cell? ⟨w.heap.size + 1, 0, none⟩ = some (.bool m) ∧ w'.cell? ⟨w.heap.size + 1, 1, none⟩ = some (.slice c us.length cc) ∧ w'.cell? ⟨w.heap.size + 1, 2, none⟩ = some (.slice d vs.length cd)) := fun w' hx => by
    have hA : Box (((w.alloc (.cells #[.bool n, .slice a xs.length ca, .slice b ys.length cb] 24)).alloc (.cells #[.bool m, .slice c us.length cc, .slice d vs.length cd] 24)).alloc (.cells #[.bool false, .slice none 0 0, .slice none 0 0] 24)) w.heap.size 24 #[.bool n, .slice a xs.length ca, .slice b ys.length cb] := Box.later (Box.made w _ _) (bt (alloc_later _ _) (alloc_later _ _)) (by simp)
    have hB : Box (((w.alloc (.cells #[.bool n, .slice a xs.length ca, .slice b ys.length cb] 24)).alloc (.cells #[.bool m, .slice c us.length cc, .slice d vs.length cd] 24)).alloc (.cells #[.bool false, .slice none 0 0, .slice none 0 0] 24)) (w.heap.size + 1) 24 #[.bool m, .slice c us.length cc, .slice d vs.length cd] := by
      have e := Box.later (Box.made (w.alloc (.cells #[.bool n, .slice a xs.length ca, .slice b ys.length cb] 24)) 24 #[.bool m, .slice c us.length cc, .slice d vs.length cd]) (alloc_later ((w.alloc (.cells #[.bool n, .slice a xs.length ca, .slice b ys.length cb] 24)).alloc (.cells #[.bool m, .slice c us.length cc, .slice d vs.length cd] 24)) (.cells #[.bool false, .slice none 0 0, .slice none 0 0] 24)) (by simp)
      simp at e
      exact e
    obtain ⟨p0, p1, p2, _⟩ := res_box3 hA hx
    obtain ⟨q0, q1, q2, _⟩ := res_box3 hB hx
    exact ⟨p0, p1, p2, q0, q1, q2⟩
  have HXS : Hid (w.heap.size + 1 + 1 < (((w.alloc (.cells #[.bool n, .slice a xs.length ca, .slice b ys.length cb] 24)).alloc (.cells #[.bool m, .slice c us.length cc, .slice d vs.length cd] 24)).alloc (.cells #[.bool false, .slice none 0 0, .slice none 0 0] 24)).heap.size) := HZ.out.lt
  have HSL := hid (And.intro (sx.later HB.out) (And.intro (sy.later HB.out) (And.intro (su.later HB.out) (sv.later HB.out))))
  have HP := hid (And.intro hy (And.intro hv (And.intro h1 h2)))
  clear sx sy su sv
  have HF0 : Hid (0 < gcdI (val xs) (val vs) ∧ gcdI (val xs) (val vs) ≤ val vs ∧ 0 < gcdI (val us) (val ys) ∧ gcdI (val us) (val ys) ≤ val ys) := ⟨gcd_pos_right hv, gcd_le_right hv, gcd_pos_right hy, gcd_le_right hy⟩
  have HL : Hid (val xs < 4294967296 ^ 2048 ∧ val ys < 4294967296 ^ 2048 ∧ val us < 4294967296 ^ 2048 ∧ val vs < 4294967296 ^ 2048) := ⟨below2048 wx lx, below2048 wy ly, below2048 wu lu, below2048 wv lv⟩
  have HNN : Hid (0 ≤ val xs ∧ 0 ≤ val us) := ⟨val_nonneg wx, val_nonneg wu⟩
  have HC1 := hid (fun ww (hb : Below (((w.alloc (.cells #[.bool n, .slice a xs.length ca, .slice b ys.length cb] 24)).alloc (.cells #[.bool m, .slice c us.length cc, .slice d vs.length cd] 24)).alloc (.cells #[.bool false, .slice none 0 0, .slice none 0 0] 24)).heap.size (((w.alloc (.cells #[.bool n, .slice a xs.length ca, .slice b ys.length cb] 24)).alloc (.cells #[.bool m, .slice c us.length cc, .slice d vs.length cd] 24)).alloc (.cells #[.bool false, .slice none 0 0, .slice none 0 0] 24)) ww) => told1_at _ HK.out ww hb (rcommon_any _ _ xs vs ww (HSL.out.1.later hb) (HSL.out.2.2.2.later hb) (by omega) (by omega) tx tv))
  have HC2 := hid (fun ww (hb : Below (((w.alloc (.cells #[.bool n, .slice a xs.length ca, .slice b ys.length cb] 24)).alloc (.cells #[.bool m, .slice c us.length cc, .slice d vs.length cd] 24)).alloc (.cells #[.bool false, .slice none 0 0, .slice none 0 0] 24)).heap.size (((w.alloc (.cells #[.bool n, .slice a xs.length ca, .slice b ys.length cb] 24)).alloc (.cells #[.bool m, .slice c us.length cc, .slice d vs.length cd] 24)).alloc (.cells #[.bool false, .slice none 0 0, .slice none 0 0] 24)) ww) => told1_at _ HK.out ww hb (rcommon_any _ _ us ys ww (HSL.out.2.2.1.later hb) (HSL.out.2.1.later hb) (by omega) (by omega) tu ty))
  -- quotients by what was found, at each world behind it
  have HQX := hid (fun ww (hv' : Below (((w.alloc (.cells #[.bool n, .slice a xs.length ca, .slice b ys.length cb] 24)).alloc (.cells #[.bool m, .slice c us.length cc, .slice d vs.length cd] 24)).alloc (.cells #[.bool false, .slice none 0 0, .slice none 0 0] 24)).heap.size (((w.alloc (.cells #[.bool n, .slice a xs.length ca, .slice b ys.length cb] 24)).alloc (.cells #[.bool m, .slice c us.length cc, .slice d vs.length cd] 24)).alloc (.cells #[.bool false, .slice none 0 0, .slice none 0 0] 24)) ww) (a1 : Option Addr) (z1 : List Int) (c1 : Nat) (h : One (((w.alloc (.cells #[.bool n, .slice a xs.length ca, .slice b ys.length cb] 24)).alloc (.cells #[.bool m, .slice c us.length cc, .slice d vs.length cd] 24)).alloc (.cells #[.bool false, .slice none 0 0, .slice none 0 0] 24)) ww (.slice a1 z1.length c1) z1 (gcdI (val xs) (val vs))) => quot_by _ HK.out hv' (HSL.out.1.later hv') (by omega) tx h HF0.out.1 (by have := HF0.out; have := HL.out; omega))
  have HQV := hid (fun ww (hv' : Below (((w.alloc (.cells #[.bool n, .slice a xs.length ca, .slice b ys.length cb] 24)).alloc (.cells #[.bool m, .slice c us.length cc, .slice d vs.length cd] 24)).alloc (.cells #[.bool false, .slice none 0 0, .slice none 0 0] 24)).heap.size (((w.alloc (.cells #[.bool n, .slice a xs.length ca, .slice b ys.length cb] 24)).alloc (.cells #[.bool m, .slice c us.length cc, .slice d vs.length cd] 24)).alloc (.cells #[.bool false, .slice none 0 0, .slice none 0 0] 24)) ww) (a1 : Option Addr) (z1 : List Int) (c1 : Nat) (h : One (((w.alloc (.cells #[.bool n, .slice a xs.length ca, .slice b ys.length cb] 24)).alloc (.cells #[.bool m, .slice c us.length cc, .slice d vs.length cd] 24)).alloc (.cells #[.bool false, .slice none 0 0, .slice none 0 0] 24)) ww (.slice a1 z1.length c1) z1 (gcdI (val xs) (val vs))) => quot_by _ HK.out hv' (HSL.out.2.2.2.later hv') (by omega) tv h HF0.out.1 (by have := HF0.out; have := HL.out; omega))
  have HQU := hid (fun ww (hv' : Below (((w.alloc (.cells #[.bool n, .slice a xs.length ca, .slice b ys.length cb] 24)).alloc (.cells #[.bool m, .slice c us.length cc, .slice d vs.length cd] 24)).alloc (.cells #[.bool false, .slice none 0 0, .slice none 0 0] 24)).heap.size (((w.alloc (.cells #[.bool n, .slice a xs.length ca, .slice b ys.length cb] 24)).alloc (.cells #[.bool m, .slice c us.length cc, .slice d vs.length cd] 24)).alloc (.cells #[.bool false, .slice none 0 0, .slice none 0 0] 24)) ww) (a1 : Option Addr) (z1 : List Int) (c1 : Nat) (h : One (((w.alloc (.cells #[.bool n, .slice a xs.length ca, .slice b ys.length cb] 24)).alloc (.cells #[.bool m, .slice c us.length cc, .slice d vs.length cd] 24)).alloc (.cells #[.bool false, .slice none 0 0, .slice none 0 0] 24)) ww (.slice a1 z1.length c1) z1 (gcdI (val us) (val ys))) => quot_by _ HK.out hv' (HSL.out.2.2.1.later hv') (by omega) tu h HF0.out.2.2.1 (by have := HF0.out; have := HL.out; omega))
  have HQY := hid (fun ww (hv' : Below (((w.alloc (.cells #[.bool n, .slice a xs.length ca, .slice b ys.length cb] 24)).alloc (.cells #[.bool m, .slice c us.length cc, .slice d vs.length cd] 24)).alloc (.cells #[.bool false, .slice none 0 0, .slice none 0 0] 24)).heap.size (((w.alloc (.cells #[.bool n, .slice a xs.length ca, .slice b ys.length cb] 24)).alloc (.cells #[.bool m, .slice c us.length cc, .slice d vs.length cd] 24)).alloc (.cells #[.bool false, .slice none 0 0, .slice none 0 0] 24)) ww) (a1 : Option Addr) (z1 : List Int) (c1 : Nat) (h : One (((w.alloc (.cells #[.bool n, .slice a xs.length ca, .slice b ys.length cb] 24)).alloc (.cells #[.bool m, .slice c us.length cc, .slice d vs.length cd] 24)).alloc (.cells #[.bool false, .slice none 0 0, .slice none 0 0] 24)) ww (.slice a1 z1.length c1) z1 (gcdI (val us) (val ys))) => quot_by _ HK.out hv' (HSL.out.2.1.later hv') (by omega) ty h HF0.out.2.2.1 (by have := HF0.out; have := HL.out; omega))
  have HPR := hid (fun ww (hv' : Below (((w.alloc (.cells #[.bool n, .slice a xs.length ca, .slice b ys.length cb] 24)).alloc (.cells #[.bool m, .slice c us.length cc, .slice d vs.length cd] 24)).alloc (.cells #[.bool false, .slice none 0 0, .slice none 0 0] 24)).heap.size (((w.alloc (.cells #[.bool n, .slice a xs.length ca, .slice b ys.length cb] 24)).alloc (.cells #[.bool m, .slice c us.length cc, .slice d vs.length cd] 24)).alloc (.cells #[.bool false, .slice none 0 0, .slice none 0 0] 24)) ww) (a1 : Option Addr) (z1 : List Int) (c1 : Nat) (s1 : Int) (h : One (((w.alloc (.cells #[.bool n, .slice a xs.length ca, .slice b ys.length cb] 24)).alloc (.cells #[.bool m, .slice c us.length cc, .slice d vs.length cd] 24)).alloc (.cells #[.bool false, .slice none 0 0, .slice none 0 0] 24)) ww (.slice a1 z1.length c1) z1 s1) (a2 : Option Addr) (z2 : List Int) (c2 : Nat) (s2 : Int) (g : One (((w.alloc (.cells #[.bool n, .slice a xs.length ca, .slice b ys.length cb] 24)).alloc (.cells #[.bool m, .slice c us.length cc, .slice d vs.length cd] 24)).alloc (.cells #[.bool false, .slice none 0 0, .slice none 0 0] 24)) ww (.slice a2 z2.length c2) z2 s2) (k1 : s1 < 4294967296 ^ 2048) (k2 : s2 < 4294967296 ^ 2048) => told1_in _ HK.out ww hv' (show Calls Tryz.prog 35 #[.slice a1 z1.length c1, .slice a2 z2.length c2] ww (Told1 ww (s1 * s2)) by
    have e := rprod_any _ _ z1 z2 ww h.sl g.sl (by have := own_len h k1; have := own_len g k2; omega) h.2.2.1 g.2.2.1
    rw [h.2.2.2, g.2.2.2] at e
    exact e))
  have HD : Hid (val xs / gcdI (val xs) (val vs) < 4294967296 ^ 2048 ∧ val us / gcdI (val us) (val ys) < 4294967296 ^ 2048 ∧ val ys / gcdI (val us) (val ys) < 4294967296 ^ 2048 ∧ val vs / gcdI (val xs) (val vs) < 4294967296 ^ 2048) := by
    have q1 := Int.ediv_le_self (gcdI (val xs) (val vs)) HNN.out.1
    have q2 := Int.ediv_le_self (gcdI (val us) (val ys)) HNN.out.2
    have q3 := Int.ediv_le_self (a := val ys) (gcdI (val us) (val ys)) (by omega)
    have q4 := Int.ediv_le_self (a := val vs) (gcdI (val xs) (val vs)) (by omega)
    have := HL.out
    refine ⟨?_, ?_, ?_, ?_⟩ <;> omega
  have hs0 := HK.out _ (Below.drew (Below.refl _ (((w.alloc (.cells #[.bool n, .slice a xs.length ca, .slice b ys.length cb] 24)).alloc (.cells #[.bool m, .slice c us.length cc, .slice d vs.length cd] 24)).alloc (.cells #[.bool false, .slice none 0 0, .slice none 0 0] 24))))
  go_enter Tryz.func20, Tryz.ntmps20
  go_wp2_with fail
  go_region_held3 (fun w' : World => w'.cell? ⟨w.heap.size, 0, none⟩ = some (.bool n) ∧ w'.cell? ⟨w.heap.size, 1, none⟩ = some (.slice a xs.length ca) ∧ w'.cell? ⟨w.heap.size, 2, none⟩ = some (.slice b ys.length cb) ∧ w'.cell? ⟨w.heap.size + 1, 0, none⟩ = some (.bool m) ∧ w'.cell? ⟨w.heap.size + 1, 1, none⟩ = some (.slice c us.length cc) ∧ w'.cell? ⟨w.heap.size + 1, 2, none⟩ = some (.slice d vs.length cd)) (first | exact hs2 | exact hs1 | exact hs0)
    (first
      | (go_at_call 29; with_reducible refine Calls.mono (HC2.out _ hb1) ?_; rintro e w2 ⟨a2, z2, c2, rfl, HE2, hs2, hb2, HS2⟩)
      | (go_at_call 29; with_reducible refine Calls.mono (HC1.out _ (Below.drew (Below.refl _ _))) ?_; rintro e w1 ⟨a1, z1, c1, rfl, HE1, hs1, hb1, HS1⟩))
  have hb2d := hb2.drew
  have HO1 := hid ((HE1.out.later HS2.out).later (Below.drew (Below.refl _ w2)))
  have HO2 := hid (HE2.out.later (Below.drew (Below.refl _ w2)))
  have hs0 := HK.out _ hb2d
  clear hs1 hs2 hb1 HC1 HC2 HE1 HE2 HS1 HS2
  go_wp2_with fail
  go_region_held3 (fun w' : World => w'.cell? ⟨w.heap.size, 0, none⟩ = some (.bool n) ∧ w'.cell? ⟨w.heap.size, 1, none⟩ = some (.slice a xs.length ca) ∧ w'.cell? ⟨w.heap.size, 2, none⟩ = some (.slice b ys.length cb) ∧ w'.cell? ⟨w.heap.size + 1, 0, none⟩ = some (.bool m) ∧ w'.cell? ⟨w.heap.size + 1, 1, none⟩ = some (.slice c us.length cc) ∧ w'.cell? ⟨w.heap.size + 1, 2, none⟩ = some (.slice d vs.length cd)) (first | exact hs5 | exact hs4 | exact hs3 | exact hs0)
    (first
      | (go_at_call 35; with_reducible refine Calls.mono (HPR.out _ hb4 _ _ _ _ (HE3.out.later HS4.out) _ _ _ _ HE4.out HD.out.1 HD.out.2.1) ?_; rintro e w5 ⟨a5, z5, c5, rfl, HE5, hs5, hb5, HS5⟩)
      | (go_at_call 30; with_reducible refine Calls.mono (HQU.out _ hb3 _ _ _ (HO2.out.later HS3.out)) ?_; rintro e w4 ⟨a4, z4, c4, rfl, HE4, hs4, hb4, HS4⟩)
      | (go_at_call 30; with_reducible refine Calls.mono (HQX.out _ hb2d _ _ _ HO1.out) ?_; rintro e w3 ⟨a3, z3, c3, rfl, HE3, hs3, hb3, HS3⟩))
  have hb5d := hb5.drew
  have HO1' := hid ((((HO1.out.later HS3.out).later HS4.out).later HS5.out).later (Below.drew (Below.refl _ w5)))
  have HO2' := hid ((((HO2.out.later HS3.out).later HS4.out).later HS5.out).later (Below.drew (Below.refl _ w5)))
  have HO5 := hid (HE5.out.1.later (Below.drew (Below.refl _ w5)))
  have HC5 := hid (And.intro hb4.size (And.intro HS5.out.size HE5.out.2))
  clear hs0 hs3 hs4 hs5 HO1 HO2 hb3 hb4 hb2 hb2d HE3 HE4 HE5 HS3 HS4 HS5
  have hs0 := HK.out _ hb5d
  go_wp2_with fail
  go_region_held3 (fun w' : World => w'.cell? ⟨w.heap.size, 0, none⟩ = some (.bool n) ∧ w'.cell? ⟨w.heap.size, 1, none⟩ = some (.slice a xs.length ca) ∧ w'.cell? ⟨w.heap.size, 2, none⟩ = some (.slice b ys.length cb) ∧ w'.cell? ⟨w.heap.size + 1, 0, none⟩ = some (.bool m) ∧ w'.cell? ⟨w.heap.size + 1, 1, none⟩ = some (.slice c us.length cc) ∧ w'.cell? ⟨w.heap.size + 1, 2, none⟩ = some (.slice d vs.length cd)) (first | exact hs8 | exact hs7 | exact hs6 | exact hs0)
    (first
      | (go_at_call 35; with_reducible refine Calls.mono (HPR.out _ hb7 _ _ _ _ (HE6.out.later HS7.out) _ _ _ _ HE7.out HD.out.2.2.1 HD.out.2.2.2) ?_; rintro e w8 ⟨a8, z8, c8, rfl, HE8, hs8, hb8, HS8⟩)
      | (go_at_call 30; with_reducible refine Calls.mono (HQV.out _ hb6 _ _ _ (HO1'.out.later HS6.out)) ?_; rintro e w7 ⟨a7, z7, c7, rfl, HE7, hs7, hb7, HS7⟩)
      | (go_at_call 30; with_reducible refine Calls.mono (HQY.out _ hb5d _ _ _ HO2'.out) ?_; rintro e w6 ⟨a6, z6, c6, rfl, HE6, hs6, hb6, HS6⟩))
  have HN := hid (((HO5.out.later HS6.out).later HS7.out).later HS8.out)
  have HC8 := hid (cut_two (u := w4) (V := w5) (W := w8) HC5.out.1 HC5.out.2.1 (Nat.le_trans (show w5.heap.size ≤ w6.heap.size from HS6.out.size) (Nat.le_trans HS7.out.size HS8.out.size)) HC5.out.2.2 (lies_low HE8.out.2 (Nat.le_trans (show w5.heap.size ≤ w6.heap.size from HS6.out.size) HS7.out.size)))
  have hmp := mul_parts (n := n) (m := m) HP.out.1 HP.out.2.1 HP.out.2.2.1 HP.out.2.2.2 rfl rfl rfl rfl
  have HT := hid (fun ww (hb : Below (((w.alloc (.cells #[.bool n, .slice a xs.length ca, .slice b ys.length cb] 24)).alloc (.cells #[.bool m, .slice c us.length cc, .slice d vs.length cd] 24)).alloc (.cells #[.bool false, .slice none 0 0, .slice none 0 0] 24)).heap.size (((w.alloc (.cells #[.bool n, .slice a xs.length ca, .slice b ys.length cb] 24)).alloc (.cells #[.bool m, .slice c us.length cc, .slice d vs.length cd] 24)).alloc (.cells #[.bool false, .slice none 0 0, .slice none 0 0] 24)) ww) (g1 : One (((w.alloc (.cells #[.bool n, .slice a xs.length ca, .slice b ys.length cb] 24)).alloc (.cells #[.bool m, .slice c us.length cc, .slice d vs.length cd] 24)).alloc (.cells #[.bool false, .slice none 0 0, .slice none 0 0] 24)) ww (.slice a5 z5.length c5) z5 _) (g2 : One (((w.alloc (.cells #[.bool n, .slice a xs.length ca, .slice b ys.length cb] 24)).alloc (.cells #[.bool m, .slice c us.length cc, .slice d vs.length cd] 24)).alloc (.cells #[.bool false, .slice none 0 0, .slice none 0 0] 24)) ww (.slice a8 z8.length c8) z8 _) (hc : Cut (((w.alloc (.cells #[.bool n, .slice a xs.length ca, .slice b ys.length cb] 24)).alloc (.cells #[.bool m, .slice c us.length cc, .slice d vs.length cd] 24)).alloc (.cells #[.bool false, .slice none 0 0, .slice none 0 0] 24)) (.slice a5 z5.length c5) (.slice a8 z8.length c8) ww) => rtold_cut _ HK.out hb g1 g2 hc hmp.1 hmp.2.1 hmp.2.2)
  obtain ⟨g0, g1, g2, g3, g4, g5⟩ := hs8
  have HBX := hid hb8
  have HE8' := hid HE8.out.1
  clear hs0 hs6 hs7 hb5 hb5d hb6 hb7 hb8 HO1' HO2' HO5 HE6 HE7 HE8 HS6 HS7 HS8 hmp HQX HQV HQU HQY HPR
  go_wp2_with fail
  refine Calls.mono (HT.out _ HBX.out HN.out HE8'.out HC8.out) ?_
  rintro e w9 ⟨k9, a9, z9, c9, aA, zA, cA, code, rfl, HR, _, hb9⟩
  obtain ⟨y0, y1, y2, f0, f1, f2⟩ := res_box3 HZ.out hb9
  have HBW := hid (bt HB.out hb9)
  clear hb9 g0 g1 g2 g3 g4 g5 HT HN HE8'
  go_wp2_with fail
  refine bodyPost_ret (v := .tuple #[.agg #[.bool k9, .slice a9 z9.length c9, .slice aA zA.length cA], .int .i64 code]) (by simp [results, Tryz.results20, go_sem, y0, y1, y2]) rfl ?_
  exact RToldA.put HR.out (w.heap.size + 1 + 1) HXS.out (by omega) HBW.out _ _ _
end Go.Proofs.YtmncfbjoplfikaaGreatDoor

/- Fractions: ratio.Add, Mul, Sub: of any fractions, good or refused; what is told is new memory. -/
namespace Go.Proofs.YtmncfbjoplfikaaGreatDoor
open Go.RowKit
set_option linter.unusedVariables false

theorem rq_less {n m : Bool} {xs ys us vs : List Int} : rq n xs ys + rq (!m) us vs = rq n xs ys - rq m us vs := by
  rw [Rat.sub_eq_add_neg]
  congr 1
  unfold rq
  rw [Rat.neg_divInt]
  congr 1
  cases m <;> simp [wval]

set_option maxHeartbeats 3200000 in
set_option maxRecDepth 100000 in
theorem rAdd_err (n : Bool) (a : Option Addr) (ca : Nat) (xs : List Int) (b : Option Addr) (cb : Nat) (ys : List Int) (m : Bool) (c : Option Addr) (cc : Nat) (us : List Int) (d : Option Addr) (cd : Nat) (vs : List Int) (w : World) (sx : Sl w (.slice a xs.length ca) xs) (sy : Sl w (.slice b ys.length cb) ys) (su : Sl w (.slice c us.length cc) us) (sv : Sl w (.slice d vs.length cd) vs) (he : rboth n xs ys m us vs ≠ 0) (q : Rat) :
    Calls Tryz.prog 9 #[.agg #[.bool n, .slice a xs.length ca, .slice b ys.length cb], .agg #[.bool m, .slice c us.length cc, .slice d vs.length cd]] w (RToldA w (rboth n xs ys m us vs) q) := by
  have HB : Hid (Below w.heap.size w (((w.alloc (.cells #[.bool n, .slice a xs.length ca, .slice b ys.length cb] 24)).alloc (.cells #[.bool m, .slice c us.length cc, .slice d vs.length cd] 24)).alloc (.cells #[.bool false, .slice none 0 0, .slice none 0 0] 24))) := bt (bt (alloc_later _ _) (alloc_later _ _)) (alloc_later _ _)
  have HZ : Hid (Box (((w.alloc (.cells #[.bool n, .slice a xs.length ca, .slice b ys.length cb] 24)).alloc (.cells #[.bool m, .slice c us.length cc, .slice d vs.length cd] 24)).alloc (.cells #[.bool false, .slice none 0 0, .slice none 0 0] 24)) (w.heap.size + 1 + 1) 24 #[.bool false, .slice none 0 0, .slice none 0 0]) := by
    have e := Box.made ((w.alloc (.cells #[.bool n, .slice a xs.length ca, .slice b ys.length cb] 24)).alloc (.cells #[.bool m, .slice c us.length cc, .slice d vs.length cd] 24)) 24 #[.bool false, .slice none 0 0, .slice none 0 0]
    simp at e
    exact e
  have HN : Hid (Box (((w.alloc (.cells #[.bool n, .slice a xs.length ca, .slice b ys.length cb] 24)).alloc (.cells #[.bool m, .slice c us.length cc, .slice d vs.length cd] 24)).alloc (.cells #[.bool false, .slice none 0 0, .slice none 0 0] 24)) w.heap.size 24 #[.bool n, .slice a xs.length ca, .slice b ys.length cb]) := Box.later (Box.made w _ _) (bt (alloc_later _ _) (alloc_later _ _)) (by simp)
  have HM : Hid (Box (((w.alloc (.cells #[.bool n, .slice a xs.length ca, .slice b ys.length cb] 24)).alloc (.cells #[.bool m, .slice c us.length cc, .slice d vs.length cd] 24)).alloc (.cells #[.bool false, .slice none 0 0, .slice none 0 0] 24)) (w.heap.size + 1) 24 #[.bool m, .slice c us.length cc, .slice d vs.length cd]) := by
    have e := Box.later (Box.made (w.alloc (.cells #[.bool n, .slice a xs.length ca, .slice b ys.length cb] 24)) 24 #[.bool m, .slice c us.length cc, .slice d vs.length cd]) (alloc_later ((w.alloc (.cells #[.bool n, .slice a xs.length ca, .slice b ys.length cb] 24)).alloc (.cells #[.bool m, .slice c us.length cc, .slice d vs.length cd] 24)) (.cells #[.bool false, .slice none 0 0, .slice none 0 0] 24)) (by simp)
    simp at e
    exact e
  have HXS : Hid (w.heap.size + 1 + 1 < (((w.alloc (.cells #[.bool n, .slice a xs.length ca, .slice b ys.length cb] 24)).alloc (.cells #[.bool m, .slice c us.length cc, .slice d vs.length cd] 24)).alloc (.cells #[.bool false, .slice none 0 0, .slice none 0 0] 24)).heap.size) := HZ.out.lt
  have HSL := hid (And.intro (sx.later HB.out) (And.intro (sy.later HB.out) (And.intro (su.later HB.out) (sv.later HB.out))))
  have HC := hid (rcheckBoth_any n _ xs _ ys m _ us _ vs (((w.alloc (.cells #[.bool n, .slice a xs.length ca, .slice b ys.length cb] 24)).alloc (.cells #[.bool m, .slice c us.length cc, .slice d vs.length cd] 24)).alloc (.cells #[.bool false, .slice none 0 0, .slice none 0 0] 24)) HSL.out.1 HSL.out.2.1 HSL.out.2.2.1 HSL.out.2.2.2)
  obtain ⟨E, hE⟩ : ∃ E, rboth n xs ys m us vs = E := ⟨_, rfl⟩
  rw [hE] at HC he ⊢
  have he' : (E == 0) = false := beq_eq_false_iff_ne.2 he
  have HE := hid he
  clear he hE sx sy su sv
  go_enter Tryz.func9, Tryz.ntmps9
  go_wp2_with fail
  refine Calls.mono HC.out ?_
  generalize (((w.alloc (.cells #[.bool n, .slice a xs.length ca, .slice b ys.length cb] 24)).alloc (.cells #[.bool m, .slice c us.length cc, .slice d vs.length cd] 24)).alloc (.cells #[.bool false, .slice none 0 0, .slice none 0 0] 24)) = X at *
  rintro e w1 ⟨rfl, hb1⟩
  obtain ⟨y0, y1, y2, f0, f1, f2⟩ := res_box3 HZ.out hb1
  have HBN := hid (below_put3 (bt HB.out hb1) (w.heap.size + 1 + 1) (by omega) (.bool false) (.slice none 0 0) (.slice none 0 0))
  clear hb1 HC HN HM HZ HSL
  go_wp2_with fail
  refine bodyPost_ret (v := .tuple #[.agg #[.bool false, .slice none 0 0, .slice none 0 0], .int .i64 E]) (by simp [results, Tryz.results9, go_sem, y0, y1, y2]) rfl ?_
  exact ⟨false, _, [], _, [], _, rfl, World.ownsRow_nil _ _ _ _, World.ownsRow_nil _ _ _ _, RTells.err HE.out, HBN.out, ⟨w.heap.size, Nat.le_refl _, HBN.out.size, fun g hg => by simp [Value.ownBlock] at hg, fun g hg => by simp [Value.ownBlock] at hg⟩⟩

set_option maxHeartbeats 3200000 in
set_option maxRecDepth 100000 in
theorem rAdd_ok (n : Bool) (a : Option Addr) (ca : Nat) (xs : List Int) (b : Option Addr) (cb : Nat) (ys : List Int) (m : Bool) (c : Option Addr) (cc : Nat) (us : List Int) (d : Option Addr) (cd : Nat) (vs : List Int) (w : World) (sx : Sl w (.slice a xs.length ca) xs) (sy : Sl w (.slice b ys.length cb) ys) (su : Sl w (.slice c us.length cc) us) (sv : Sl w (.slice d vs.length cd) vs) (hx : rchk n xs ys = 0) (hy : rchk m us vs = 0) :
    Calls Tryz.prog 9 #[.agg #[.bool n, .slice a xs.length ca, .slice b ys.length cb], .agg #[.bool m, .slice c us.length cc, .slice d vs.length cd]] w (RToldA w 0 (rq n xs ys + rq m us vs)) := by
  obtain ⟨lx, ly, tx, ty, y0', _, g1⟩ := rchk_ok hx
  obtain ⟨lu, lv, tu, tv, v0', _, g2⟩ := rchk_ok hy
  have py := val_pos' sy.wd ty y0'
  have pv := val_pos' sv.wd tv v0'
  have HB : Hid (Below w.heap.size w (((w.alloc (.cells #[.bool n, .slice a xs.length ca, .slice b ys.length cb] 24)).alloc (.cells #[.bool m, .slice c us.length cc, .slice d vs.length cd] 24)).alloc (.cells #[.bool false, .slice none 0 0, .slice none 0 0] 24))) := bt (bt (alloc_later _ _) (alloc_later _ _)) (alloc_later _ _)
  have HZ : Hid (Box (((w.alloc (.cells #[.bool n, .slice a xs.length ca, .slice b ys.length cb] 24)).alloc (.cells #[.bool m, .slice c us.length cc, .slice d vs.length cd] 24)).alloc (.cells #[.bool false, .slice none 0 0, .slice none 0 0] 24)) (w.heap.size + 1 + 1) 24 #[.bool false, .slice none 0 0, .slice none 0 0]) := by
    have e := Box.made ((w.alloc (.cells #[.bool n, .slice a xs.length ca, .slice b ys.length cb] 24)).alloc (.cells #[.bool m, .slice c us.length cc, .slice d vs.length cd] 24)) 24 #[.bool false, .slice none 0 0, .slice none 0 0]
    simp at e
    exact e
  have HN : Hid (Box (((w.alloc (.cells #[.bool n, .slice a xs.length ca, .slice b ys.length cb] 24)).alloc (.cells #[.bool m, .slice c us.length cc, .slice d vs.length cd] 24)).alloc (.cells #[.bool false, .slice none 0 0, .slice none 0 0] 24)) w.heap.size 24 #[.bool n, .slice a xs.length ca, .slice b ys.length cb]) := Box.later (Box.made w _ _) (bt (alloc_later _ _) (alloc_later _ _)) (by simp)
  have HM : Hid (Box (((w.alloc (.cells #[.bool n, .slice a xs.length ca, .slice b ys.length cb] 24)).alloc (.cells #[.bool m, .slice c us.length cc, .slice d vs.length cd] 24)).alloc (.cells #[.bool false, .slice none 0 0, .slice none 0 0] 24)) (w.heap.size + 1) 24 #[.bool m, .slice c us.length cc, .slice d vs.length cd]) := by
    have e := Box.later (Box.made (w.alloc (.cells #[.bool n, .slice a xs.length ca, .slice b ys.length cb] 24)) 24 #[.bool m, .slice c us.length cc, .slice d vs.length cd]) (alloc_later ((w.alloc (.cells #[.bool n, .slice a xs.length ca, .slice b ys.length cb] 24)).alloc (.cells #[.bool m, .slice c us.length cc, .slice d vs.length cd] 24)) (.cells #[.bool false, .slice none 0 0, .slice none 0 0] 24)) (by simp)
    simp at e
    exact e
  have HXS : Hid (w.heap.size + 1 + 1 < (((w.alloc (.cells #[.bool n, .slice a xs.length ca, .slice b ys.length cb] 24)).alloc (.cells #[.bool m, .slice c us.length cc, .slice d vs.length cd] 24)).alloc (.cells #[.bool false, .slice none 0 0, .slice none 0 0] 24)).heap.size) := HZ.out.lt
  have HSL := hid (And.intro (sx.later HB.out) (And.intro (sy.later HB.out) (And.intro (su.later HB.out) (sv.later HB.out))))
  have HC := hid (rcheckBoth_any n _ xs _ ys m _ us _ vs (((w.alloc (.cells #[.bool n, .slice a xs.length ca, .slice b ys.length cb] 24)).alloc (.cells #[.bool m, .slice c us.length cc, .slice d vs.length cd] 24)).alloc (.cells #[.bool false, .slice none 0 0, .slice none 0 0] 24)) HSL.out.1 HSL.out.2.1 HSL.out.2.2.1 HSL.out.2.2.2)
  rw [rboth_good hx hy] at HC
  have HA := hid (fun ww (hb : Below (((w.alloc (.cells #[.bool n, .slice a xs.length ca, .slice b ys.length cb] 24)).alloc (.cells #[.bool m, .slice c us.length cc, .slice d vs.length cd] 24)).alloc (.cells #[.bool false, .slice none 0 0, .slice none 0 0] 24)).heap.size (((w.alloc (.cells #[.bool n, .slice a xs.length ca, .slice b ys.length cb] 24)).alloc (.cells #[.bool m, .slice c us.length cc, .slice d vs.length cd] 24)).alloc (.cells #[.bool false, .slice none 0 0, .slice none 0 0] 24)) ww) => radd_any n a ca xs b cb ys m c cc us d cd vs ww (HSL.out.1.later hb) (HSL.out.2.1.later hb) (HSL.out.2.2.1.later hb) (HSL.out.2.2.2.later hb) lx ly lu lv tx ty tu tv (by omega) (by omega) g1 g2)
  clear sx sy su sv hx hy tx ty tu tv g1 g2 py pv
  go_enter Tryz.func9, Tryz.ntmps9
  go_wp2_with fail
  refine Calls.mono HC.out ?_
  generalize (((w.alloc (.cells #[.bool n, .slice a xs.length ca, .slice b ys.length cb] 24)).alloc (.cells #[.bool m, .slice c us.length cc, .slice d vs.length cd] 24)).alloc (.cells #[.bool false, .slice none 0 0, .slice none 0 0] 24)) = X at *
  rintro e w1 ⟨rfl, hb1⟩
  have HCA := hid (HA.out w1 hb1)
  obtain ⟨p0, p1, p2, _⟩ := res_box3 HN.out hb1
  obtain ⟨q0, q1, q2, _⟩ := res_box3 HM.out hb1
  have HB1 := hid hb1
  clear hb1 HC HA
  go_wp2_with fail
  refine Calls.mono HCA.out ?_
  rintro e w2 ⟨k2, v2, z2, u2, r2, code, rfl, o2, o3, t2, hb2, hc2⟩
  obtain ⟨a2, c2, hs2⟩ := own_slice' o2
  subst hs2
  obtain ⟨a3, c3, hs3⟩ := own_slice' o3
  subst hs3
  have HR := hid (And.intro o2 (And.intro o3 (And.intro t2 hc2)))
  obtain ⟨y0, y1, y2, f0, f1, f2⟩ := res_box3 HZ.out (bt HB1.out hb2)
  have HBW := hid (bt HB.out (bt HB1.out hb2))
  have HLT : Hid (w.heap.size + 1 + 1 < w1.heap.size) := Nat.lt_of_lt_of_le HXS.out HB1.out.size
  clear o2 o3 t2 hb2 hc2 HCA p0 p1 p2 q0 q1 q2
  go_wp2_with fail
  refine bodyPost_ret (v := .tuple #[.agg #[.bool k2, .slice a2 z2.length c2, .slice a3 r2.length c3], .int .i64 code]) (by simp [results, Tryz.results9, go_sem, y0, y1, y2]) rfl ?_
  exact RToldA.put HR.out (w.heap.size + 1 + 1) HLT.out (by omega) HBW.out _ _ _
theorem rAdd_full (n : Bool) (a : Option Addr) (ca : Nat) (xs : List Int) (b : Option Addr) (cb : Nat) (ys : List Int) (m : Bool) (c : Option Addr) (cc : Nat) (us : List Int) (d : Option Addr) (cd : Nat) (vs : List Int) (w : World) (sx : Sl w (.slice a xs.length ca) xs) (sy : Sl w (.slice b ys.length cb) ys) (su : Sl w (.slice c us.length cc) us) (sv : Sl w (.slice d vs.length cd) vs) :
    Calls Tryz.prog 9 #[.agg #[.bool n, .slice a xs.length ca, .slice b ys.length cb], .agg #[.bool m, .slice c us.length cc, .slice d vs.length cd]] w (RToldA w (rboth n xs ys m us vs) (rq n xs ys + rq m us vs)) := by
  by_cases he : rboth n xs ys m us vs = 0
  · rw [he]
    exact rAdd_ok n a ca xs b cb ys m c cc us d cd vs w sx sy su sv (rboth_ok he).1 (rboth_ok he).2
  · exact rAdd_err n a ca xs b cb ys m c cc us d cd vs w sx sy su sv he _

set_option maxHeartbeats 3200000 in
set_option maxRecDepth 100000 in
theorem rMul_err (n : Bool) (a : Option Addr) (ca : Nat) (xs : List Int) (b : Option Addr) (cb : Nat) (ys : List Int) (m : Bool) (c : Option Addr) (cc : Nat) (us : List Int) (d : Option Addr) (cd : Nat) (vs : List Int) (w : World) (sx : Sl w (.slice a xs.length ca) xs) (sy : Sl w (.slice b ys.length cb) ys) (su : Sl w (.slice c us.length cc) us) (sv : Sl w (.slice d vs.length cd) vs) (he : rboth n xs ys m us vs ≠ 0) (q : Rat) :
    Calls Tryz.prog 7 #[.agg #[.bool n, .slice a xs.length ca, .slice b ys.length cb], .agg #[.bool m, .slice c us.length cc, .slice d vs.length cd]] w (RToldA w (rboth n xs ys m us vs) q) := by
  have HB : Hid (Below w.heap.size w (((w.alloc (.cells #[.bool n, .slice a xs.length ca, .slice b ys.length cb] 24)).alloc (.cells #[.bool m, .slice c us.length cc, .slice d vs.length cd] 24)).alloc (.cells #[.bool false, .slice none 0 0, .slice none 0 0] 24))) := bt (bt (alloc_later _ _) (alloc_later _ _)) (alloc_later _ _)
  have HZ : Hid (Box (((w.alloc (.cells #[.bool n, .slice a xs.length ca, .slice b ys.length cb] 24)).alloc (.cells #[.bool m, .slice c us.length cc, .slice d vs.length cd] 24)).alloc (.cells #[.bool false, .slice none 0 0, .slice none 0 0] 24)) (w.heap.size + 1 + 1) 24 #[.bool false, .slice none 0 0, .slice none 0 0]) := by
    have e := Box.made ((w.alloc (.cells #[.bool n, .slice a xs.length ca, .slice b ys.length cb] 24)).alloc (.cells #[.bool m, .slice c us.length cc, .slice d vs.length cd] 24)) 24 #[.bool false, .slice none 0 0, .slice none 0 0]
    simp at e
    exact e
  have HN : Hid (Box (((w.alloc (.cells #[.bool n, .slice a xs.length ca, .slice b ys.length cb] 24)).alloc (.cells #[.bool m, .slice c us.length cc, .slice d vs.length cd] 24)).alloc (.cells #[.bool false, .slice none 0 0, .slice none 0 0] 24)) w.heap.size 24 #[.bool n, .slice a xs.length ca, .slice b ys.length cb]) := Box.later (Box.made w _ _) (bt (alloc_later _ _) (alloc_later _ _)) (by simp)
  have HM : Hid (Box (((w.alloc (.cells #[.bool n, .slice a xs.length ca, .slice b ys.length cb] 24)).alloc (.cells #[.bool m, .slice c us.length cc, .slice d vs.length cd] 24)).alloc (.cells #[.bool false, .slice none 0 0, .slice none 0 0] 24)) (w.heap.size + 1) 24 #[.bool m, .slice c us.length cc, .slice d vs.length cd]) := by
    have e := Box.later (Box.made (w.alloc (.cells #[.bool n, .slice a xs.length ca, .slice b ys.length cb] 24)) 24 #[.bool m, .slice c us.length cc, .slice d vs.length cd]) (alloc_later ((w.alloc (.cells #[.bool n, .slice a xs.length ca, .slice b ys.length cb] 24)).alloc (.cells #[.bool m, .slice c us.length cc, .slice d vs.length cd] 24)) (.cells #[.bool false, .slice none 0 0, .slice none 0 0] 24)) (by simp)
    simp at e
    exact e
  have HXS : Hid (w.heap.size + 1 + 1 < (((w.alloc (.cells #[.bool n, .slice a xs.length ca, .slice b ys.length cb] 24)).alloc (.cells #[.bool m, .slice c us.length cc, .slice d vs.length cd] 24)).alloc (.cells #[.bool false, .slice none 0 0, .slice none 0 0] 24)).heap.size) := HZ.out.lt
  have HSL := hid (And.intro (sx.later HB.out) (And.intro (sy.later HB.out) (And.intro (su.later HB.out) (sv.later HB.out))))
  have HC := hid (rcheckBoth_any n _ xs _ ys m _ us _ vs (((w.alloc (.cells #[.bool n, .slice a xs.length ca, .slice b ys.length cb] 24)).alloc (.cells #[.bool m, .slice c us.length cc, .slice d vs.length cd] 24)).alloc (.cells #[.bool false, .slice none 0 0, .slice none 0 0] 24)) HSL.out.1 HSL.out.2.1 HSL.out.2.2.1 HSL.out.2.2.2)
  obtain ⟨E, hE⟩ : ∃ E, rboth n xs ys m us vs = E := ⟨_, rfl⟩
  rw [hE] at HC he ⊢
  have he' : (E == 0) = false := beq_eq_false_iff_ne.2 he
  have HE := hid he
  clear he hE sx sy su sv
  go_enter Tryz.func7, Tryz.ntmps7
  go_wp2_with fail
  refine Calls.mono HC.out ?_
  generalize (((w.alloc (.cells #[.bool n, .slice a xs.length ca, .slice b ys.length cb] 24)).alloc (.cells #[.bool m, .slice c us.length cc, .slice d vs.length cd] 24)).alloc (.cells #[.bool false, .slice none 0 0, .slice none 0 0] 24)) = X at *
  rintro e w1 ⟨rfl, hb1⟩
  obtain ⟨y0, y1, y2, f0, f1, f2⟩ := res_box3 HZ.out hb1
  have HBN := hid (below_put3 (bt HB.out hb1) (w.heap.size + 1 + 1) (by omega) (.bool false) (.slice none 0 0) (.slice none 0 0))
  clear hb1 HC HN HM HZ HSL
  go_wp2_with fail
  refine bodyPost_ret (v := .tuple #[.agg #[.bool false, .slice none 0 0, .slice none 0 0], .int .i64 E]) (by simp [results, Tryz.results7, go_sem, y0, y1, y2]) rfl ?_
  exact ⟨false, _, [], _, [], _, rfl, World.ownsRow_nil _ _ _ _, World.ownsRow_nil _ _ _ _, RTells.err HE.out, HBN.out, ⟨w.heap.size, Nat.le_refl _, HBN.out.size, fun g hg => by simp [Value.ownBlock] at hg, fun g hg => by simp [Value.ownBlock] at hg⟩⟩

set_option maxHeartbeats 3200000 in
set_option maxRecDepth 100000 in
theorem rMul_ok (n : Bool) (a : Option Addr) (ca : Nat) (xs : List Int) (b : Option Addr) (cb : Nat) (ys : List Int) (m : Bool) (c : Option Addr) (cc : Nat) (us : List Int) (d : Option Addr) (cd : Nat) (vs : List Int) (w : World) (sx : Sl w (.slice a xs.length ca) xs) (sy : Sl w (.slice b ys.length cb) ys) (su : Sl w (.slice c us.length cc) us) (sv : Sl w (.slice d vs.length cd) vs) (hx : rchk n xs ys = 0) (hy : rchk m us vs = 0) :
    Calls Tryz.prog 7 #[.agg #[.bool n, .slice a xs.length ca, .slice b ys.length cb], .agg #[.bool m, .slice c us.length cc, .slice d vs.length cd]] w (RToldA w 0 (rq n xs ys * rq m us vs)) := by
  obtain ⟨lx, ly, tx, ty, y0', _, g1⟩ := rchk_ok hx
  obtain ⟨lu, lv, tu, tv, v0', _, g2⟩ := rchk_ok hy
  have py := val_pos' sy.wd ty y0'
  have pv := val_pos' sv.wd tv v0'
  have HB : Hid (Below w.heap.size w (((w.alloc (.cells #[.bool n, .slice a xs.length ca, .slice b ys.length cb] 24)).alloc (.cells #[.bool m, .slice c us.length cc, .slice d vs.length cd] 24)).alloc (.cells #[.bool false, .slice none 0 0, .slice none 0 0] 24))) := bt (bt (alloc_later _ _) (alloc_later _ _)) (alloc_later _ _)
  have HZ : Hid (Box (((w.alloc (.cells #[.bool n, .slice a xs.length ca, .slice b ys.length cb] 24)).alloc (.cells #[.bool m, .slice c us.length cc, .slice d vs.length cd] 24)).alloc (.cells #[.bool false, .slice none 0 0, .slice none 0 0] 24)) (w.heap.size + 1 + 1) 24 #[.bool false, .slice none 0 0, .slice none 0 0]) := by
    have e := Box.made ((w.alloc (.cells #[.bool n, .slice a xs.length ca, .slice b ys.length cb] 24)).alloc (.cells #[.bool m, .slice c us.length cc, .slice d vs.length cd] 24)) 24 #[.bool false, .slice none 0 0, .slice none 0 0]
    simp at e
    exact e
  have HN : Hid (Box (((w.alloc (.cells #[.bool n, .slice a xs.length ca, .slice b ys.length cb] 24)).alloc (.cells #[.bool m, .slice c us.length cc, .slice d vs.length cd] 24)).alloc (.cells #[.bool false, .slice none 0 0, .slice none 0 0] 24)) w.heap.size 24 #[.bool n, .slice a xs.length ca, .slice b ys.length cb]) := Box.later (Box.made w _ _) (bt (alloc_later _ _) (alloc_later _ _)) (by simp)
  have HM : Hid (Box (((w.alloc (.cells #[.bool n, .slice a xs.length ca, .slice b ys.length cb] 24)).alloc (.cells #[.bool m, .slice c us.length cc, .slice d vs.length cd] 24)).alloc (.cells #[.bool false, .slice none 0 0, .slice none 0 0] 24)) (w.heap.size + 1) 24 #[.bool m, .slice c us.length cc, .slice d vs.length cd]) := by
    have e := Box.later (Box.made (w.alloc (.cells #[.bool n, .slice a xs.length ca, .slice b ys.length cb] 24)) 24 #[.bool m, .slice c us.length cc, .slice d vs.length cd]) (alloc_later ((w.alloc (.cells #[.bool n, .slice a xs.length ca, .slice b ys.length cb] 24)).alloc (.cells #[.bool m, .slice c us.length cc, .slice d vs.length cd] 24)) (.cells #[.bool false, .slice none 0 0, .slice none 0 0] 24)) (by simp)
    simp at e
    exact e
  have HXS : Hid (w.heap.size + 1 + 1 < (((w.alloc (.cells #[.bool n, .slice a xs.length ca, .slice b ys.length cb] 24)).alloc (.cells #[.bool m, .slice c us.length cc, .slice d vs.length cd] 24)).alloc (.cells #[.bool false, .slice none 0 0, .slice none 0 0] 24)).heap.size) := HZ.out.lt
  have HSL := hid (And.intro (sx.later HB.out) (And.intro (sy.later HB.out) (And.intro (su.later HB.out) (sv.later HB.out))))
  have HC := hid (rcheckBoth_any n _ xs _ ys m _ us _ vs (((w.alloc (.cells #[.bool n, .slice a xs.length ca, .slice b ys.length cb] 24)).alloc (.cells #[.bool m, .slice c us.length cc, .slice d vs.length cd] 24)).alloc (.cells #[.bool false, .slice none 0 0, .slice none 0 0] 24)) HSL.out.1 HSL.out.2.1 HSL.out.2.2.1 HSL.out.2.2.2)
  rw [rboth_good hx hy] at HC
  have HA := hid (fun ww (hb : Below (((w.alloc (.cells #[.bool n, .slice a xs.length ca, .slice b ys.length cb] 24)).alloc (.cells #[.bool m, .slice c us.length cc, .slice d vs.length cd] 24)).alloc (.cells #[.bool false, .slice none 0 0, .slice none 0 0] 24)).heap.size (((w.alloc (.cells #[.bool n, .slice a xs.length ca, .slice b ys.length cb] 24)).alloc (.cells #[.bool m, .slice c us.length cc, .slice d vs.length cd] 24)).alloc (.cells #[.bool false, .slice none 0 0, .slice none 0 0] 24)) ww) => rmultiply_cut n a ca xs b cb ys m c cc us d cd vs ww (HSL.out.1.later hb) (HSL.out.2.1.later hb) (HSL.out.2.2.1.later hb) (HSL.out.2.2.2.later hb) lx ly lu lv tx ty tu tv (by omega) (by omega) g1 g2)
  clear sx sy su sv hx hy tx ty tu tv g1 g2 py pv
  go_enter Tryz.func7, Tryz.ntmps7
  go_wp2_with fail
  refine Calls.mono HC.out ?_
  generalize (((w.alloc (.cells #[.bool n, .slice a xs.length ca, .slice b ys.length cb] 24)).alloc (.cells #[.bool m, .slice c us.length cc, .slice d vs.length cd] 24)).alloc (.cells #[.bool false, .slice none 0 0, .slice none 0 0] 24)) = X at *
  rintro e w1 ⟨rfl, hb1⟩
  have HCA := hid (HA.out w1 hb1)
  obtain ⟨p0, p1, p2, _⟩ := res_box3 HN.out hb1
  obtain ⟨q0, q1, q2, _⟩ := res_box3 HM.out hb1
  have HB1 := hid hb1
  clear hb1 HC HA
  go_wp2_with fail
  refine Calls.mono HCA.out ?_
  rintro e w2 ⟨k2, v2, z2, u2, r2, code, rfl, o2, o3, t2, hb2, hc2⟩
  obtain ⟨a2, c2, hs2⟩ := own_slice' o2
  subst hs2
  obtain ⟨a3, c3, hs3⟩ := own_slice' o3
  subst hs3
  have HR := hid (And.intro o2 (And.intro o3 (And.intro t2 hc2)))
  obtain ⟨y0, y1, y2, f0, f1, f2⟩ := res_box3 HZ.out (bt HB1.out hb2)
  have HBW := hid (bt HB.out (bt HB1.out hb2))
  have HLT : Hid (w.heap.size + 1 + 1 < w1.heap.size) := Nat.lt_of_lt_of_le HXS.out HB1.out.size
  clear o2 o3 t2 hb2 hc2 HCA p0 p1 p2 q0 q1 q2
  go_wp2_with fail
  refine bodyPost_ret (v := .tuple #[.agg #[.bool k2, .slice a2 z2.length c2, .slice a3 r2.length c3], .int .i64 code]) (by simp [results, Tryz.results7, go_sem, y0, y1, y2]) rfl ?_
  exact RToldA.put HR.out (w.heap.size + 1 + 1) HLT.out (by omega) HBW.out _ _ _
theorem rMul_full (n : Bool) (a : Option Addr) (ca : Nat) (xs : List Int) (b : Option Addr) (cb : Nat) (ys : List Int) (m : Bool) (c : Option Addr) (cc : Nat) (us : List Int) (d : Option Addr) (cd : Nat) (vs : List Int) (w : World) (sx : Sl w (.slice a xs.length ca) xs) (sy : Sl w (.slice b ys.length cb) ys) (su : Sl w (.slice c us.length cc) us) (sv : Sl w (.slice d vs.length cd) vs) :
    Calls Tryz.prog 7 #[.agg #[.bool n, .slice a xs.length ca, .slice b ys.length cb], .agg #[.bool m, .slice c us.length cc, .slice d vs.length cd]] w (RToldA w (rboth n xs ys m us vs) (rq n xs ys * rq m us vs)) := by
  by_cases he : rboth n xs ys m us vs = 0
  · rw [he]
    exact rMul_ok n a ca xs b cb ys m c cc us d cd vs w sx sy su sv (rboth_ok he).1 (rboth_ok he).2
  · exact rMul_err n a ca xs b cb ys m c cc us d cd vs w sx sy su sv he _

set_option maxHeartbeats 3200000 in
set_option maxRecDepth 100000 in
theorem rSub_err (n : Bool) (a : Option Addr) (ca : Nat) (xs : List Int) (b : Option Addr) (cb : Nat) (ys : List Int) (m : Bool) (c : Option Addr) (cc : Nat) (us : List Int) (d : Option Addr) (cd : Nat) (vs : List Int) (w : World) (sx : Sl w (.slice a xs.length ca) xs) (sy : Sl w (.slice b ys.length cb) ys) (su : Sl w (.slice c us.length cc) us) (sv : Sl w (.slice d vs.length cd) vs) (he : rboth n xs ys m us vs ≠ 0) (q : Rat) :
    Calls Tryz.prog 5 #[.agg #[.bool n, .slice a xs.length ca, .slice b ys.length cb], .agg #[.bool m, .slice c us.length cc, .slice d vs.length cd]] w (RToldA w (rboth n xs ys m us vs) q) := by
  have HB : Hid (Below w.heap.size w (((w.alloc (.cells #[.bool n, .slice a xs.length ca, .slice b ys.length cb] 24)).alloc (.cells #[.bool m, .slice c us.length cc, .slice d vs.length cd] 24)).alloc (.cells #[.bool false, .slice none 0 0, .slice none 0 0] 24))) := bt (bt (alloc_later _ _) (alloc_later _ _)) (alloc_later _ _)
  have HZ : Hid (Box (((w.alloc (.cells #[.bool n, .slice a xs.length ca, .slice b ys.length cb] 24)).alloc (.cells #[.bool m, .slice c us.length cc, .slice d vs.length cd] 24)).alloc (.cells #[.bool false, .slice none 0 0, .slice none 0 0] 24)) (w.heap.size + 1 + 1) 24 #[.bool false, .slice none 0 0, .slice none 0 0]) := by
    have e := Box.made ((w.alloc (.cells #[.bool n, .slice a xs.length ca, .slice b ys.length cb] 24)).alloc (.cells #[.bool m, .slice c us.length cc, .slice d vs.length cd] 24)) 24 #[.bool false, .slice none 0 0, .slice none 0 0]
    simp at e
    exact e
  have HN : Hid (Box (((w.alloc (.cells #[.bool n, .slice a xs.length ca, .slice b ys.length cb] 24)).alloc (.cells #[.bool m, .slice c us.length cc, .slice d vs.length cd] 24)).alloc (.cells #[.bool false, .slice none 0 0, .slice none 0 0] 24)) w.heap.size 24 #[.bool n, .slice a xs.length ca, .slice b ys.length cb]) := Box.later (Box.made w _ _) (bt (alloc_later _ _) (alloc_later _ _)) (by simp)
  have HM : Hid (Box (((w.alloc (.cells #[.bool n, .slice a xs.length ca, .slice b ys.length cb] 24)).alloc (.cells #[.bool m, .slice c us.length cc, .slice d vs.length cd] 24)).alloc (.cells #[.bool false, .slice none 0 0, .slice none 0 0] 24)) (w.heap.size + 1) 24 #[.bool m, .slice c us.length cc, .slice d vs.length cd]) := by
    have e := Box.later (Box.made (w.alloc (.cells #[.bool n, .slice a xs.length ca, .slice b ys.length cb] 24)) 24 #[.bool m, .slice c us.length cc, .slice d vs.length cd]) (alloc_later ((w.alloc (.cells #[.bool n, .slice a xs.length ca, .slice b ys.length cb] 24)).alloc (.cells #[.bool m, .slice c us.length cc, .slice d vs.length cd] 24)) (.cells #[.bool false, .slice none 0 0, .slice none 0 0] 24)) (by simp)
    simp at e
    exact e
  have HXS : Hid (w.heap.size + 1 + 1 < (((w.alloc (.cells #[.bool n, .slice a xs.length ca, .slice b ys.length cb] 24)).alloc (.cells #[.bool m, .slice c us.length cc, .slice d vs.length cd] 24)).alloc (.cells #[.bool false, .slice none 0 0, .slice none 0 0] 24)).heap.size) := HZ.out.lt
  have HSL := hid (And.intro (sx.later HB.out) (And.intro (sy.later HB.out) (And.intro (su.later HB.out) (sv.later HB.out))))
  have HC := hid (rcheckBoth_any n _ xs _ ys m _ us _ vs (((w.alloc (.cells #[.bool n, .slice a xs.length ca, .slice b ys.length cb] 24)).alloc (.cells #[.bool m, .slice c us.length cc, .slice d vs.length cd] 24)).alloc (.cells #[.bool false, .slice none 0 0, .slice none 0 0] 24)) HSL.out.1 HSL.out.2.1 HSL.out.2.2.1 HSL.out.2.2.2)
  obtain ⟨E, hE⟩ : ∃ E, rboth n xs ys m us vs = E := ⟨_, rfl⟩
  rw [hE] at HC he ⊢
  have he' : (E == 0) = false := beq_eq_false_iff_ne.2 he
  have HE := hid he
  clear he hE sx sy su sv
  go_enter Tryz.func5, Tryz.ntmps5
  go_wp2_with fail
  refine Calls.mono HC.out ?_
  generalize (((w.alloc (.cells #[.bool n, .slice a xs.length ca, .slice b ys.length cb] 24)).alloc (.cells #[.bool m, .slice c us.length cc, .slice d vs.length cd] 24)).alloc (.cells #[.bool false, .slice none 0 0, .slice none 0 0] 24)) = X at *
  rintro e w1 ⟨rfl, hb1⟩
  obtain ⟨y0, y1, y2, f0, f1, f2⟩ := res_box3 HZ.out hb1
  have HBN := hid (below_put3 (bt HB.out hb1) (w.heap.size + 1 + 1) (by omega) (.bool false) (.slice none 0 0) (.slice none 0 0))
  clear hb1 HC HN HM HZ HSL
  go_wp2_with fail
  refine bodyPost_ret (v := .tuple #[.agg #[.bool false, .slice none 0 0, .slice none 0 0], .int .i64 E]) (by simp [results, Tryz.results5, go_sem, y0, y1, y2]) rfl ?_
  exact ⟨false, _, [], _, [], _, rfl, World.ownsRow_nil _ _ _ _, World.ownsRow_nil _ _ _ _, RTells.err HE.out, HBN.out, ⟨w.heap.size, Nat.le_refl _, HBN.out.size, fun g hg => by simp [Value.ownBlock] at hg, fun g hg => by simp [Value.ownBlock] at hg⟩⟩

set_option maxHeartbeats 3200000 in
set_option maxRecDepth 100000 in
theorem rSub_ok (n : Bool) (a : Option Addr) (ca : Nat) (xs : List Int) (b : Option Addr) (cb : Nat) (ys : List Int) (m : Bool) (c : Option Addr) (cc : Nat) (us : List Int) (d : Option Addr) (cd : Nat) (vs : List Int) (w : World) (sx : Sl w (.slice a xs.length ca) xs) (sy : Sl w (.slice b ys.length cb) ys) (su : Sl w (.slice c us.length cc) us) (sv : Sl w (.slice d vs.length cd) vs) (hx : rchk n xs ys = 0) (hy : rchk m us vs = 0) :
    Calls Tryz.prog 5 #[.agg #[.bool n, .slice a xs.length ca, .slice b ys.length cb], .agg #[.bool m, .slice c us.length cc, .slice d vs.length cd]] w (RToldA w 0 (rq n xs ys - rq m us vs)) := by
  obtain ⟨lx, ly, tx, ty, y0', _, g1⟩ := rchk_ok hx
  obtain ⟨lu, lv, tu, tv, v0', _, g2⟩ := rchk_ok hy
  have py := val_pos' sy.wd ty y0'
  have pv := val_pos' sv.wd tv v0'
  have HB : Hid (Below w.heap.size w (((w.alloc (.cells #[.bool n, .slice a xs.length ca, .slice b ys.length cb] 24)).alloc (.cells #[.bool m, .slice c us.length cc, .slice d vs.length cd] 24)).alloc (.cells #[.bool false, .slice none 0 0, .slice none 0 0] 24))) := bt (bt (alloc_later _ _) (alloc_later _ _)) (alloc_later _ _)
  have HZ : Hid (Box (((w.alloc (.cells #[.bool n, .slice a xs.length ca, .slice b ys.length cb] 24)).alloc (.cells #[.bool m, .slice c us.length cc, .slice d vs.length cd] 24)).alloc (.cells #[.bool false, .slice none 0 0, .slice none 0 0] 24)) (w.heap.size + 1 + 1) 24 #[.bool false, .slice none 0 0, .slice none 0 0]) := by
    have e := Box.made ((w.alloc (.cells #[.bool n, .slice a xs.length ca, .slice b ys.length cb] 24)).alloc (.cells #[.bool m, .slice c us.length cc, .slice d vs.length cd] 24)) 24 #[.bool false, .slice none 0 0, .slice none 0 0]
    simp at e
    exact e
  have HN : Hid (Box (((w.alloc (.cells #[.bool n, .slice a xs.length ca, .slice b ys.length cb] 24)).alloc (.cells #[.bool m, .slice c us.length cc, .slice d vs.length cd] 24)).alloc (.cells #[.bool false, .slice none 0 0, .slice none 0 0] 24)) w.heap.size 24 #[.bool n, .slice a xs.length ca, .slice b ys.length cb]) := Box.later (Box.made w _ _) (bt (alloc_later _ _) (alloc_later _ _)) (by simp)
  have HM : Hid (Box (((w.alloc (.cells #[.bool n, .slice a xs.length ca, .slice b ys.length cb] 24)).alloc (.cells #[.bool m, .slice c us.length cc, .slice d vs.length cd] 24)).alloc (.cells #[.bool false, .slice none 0 0, .slice none 0 0] 24)) (w.heap.size + 1) 24 #[.bool m, .slice c us.length cc, .slice d vs.length cd]) := by
    have e := Box.later (Box.made (w.alloc (.cells #[.bool n, .slice a xs.length ca, .slice b ys.length cb] 24)) 24 #[.bool m, .slice c us.length cc, .slice d vs.length cd]) (alloc_later ((w.alloc (.cells #[.bool n, .slice a xs.length ca, .slice b ys.length cb] 24)).alloc (.cells #[.bool m, .slice c us.length cc, .slice d vs.length cd] 24)) (.cells #[.bool false, .slice none 0 0, .slice none 0 0] 24)) (by simp)
    simp at e
    exact e
  have HXS : Hid (w.heap.size + 1 + 1 < (((w.alloc (.cells #[.bool n, .slice a xs.length ca, .slice b ys.length cb] 24)).alloc (.cells #[.bool m, .slice c us.length cc, .slice d vs.length cd] 24)).alloc (.cells #[.bool false, .slice none 0 0, .slice none 0 0] 24)).heap.size) := HZ.out.lt
  have HSL := hid (And.intro (sx.later HB.out) (And.intro (sy.later HB.out) (And.intro (su.later HB.out) (sv.later HB.out))))
  have HC := hid (rcheckBoth_any n _ xs _ ys m _ us _ vs (((w.alloc (.cells #[.bool n, .slice a xs.length ca, .slice b ys.length cb] 24)).alloc (.cells #[.bool m, .slice c us.length cc, .slice d vs.length cd] 24)).alloc (.cells #[.bool false, .slice none 0 0, .slice none 0 0] 24)) HSL.out.1 HSL.out.2.1 HSL.out.2.2.1 HSL.out.2.2.2)
  rw [rboth_good hx hy] at HC
  have HT := hid (And.intro lx (And.intro ly (And.intro lu (And.intro lv (And.intro tx (And.intro ty (And.intro tu (And.intro tv (And.intro g1 g2)))))))))
  have HS0 := hid (And.intro sx (And.intro sy (And.intro su sv)))
  have HPY := hid (And.intro py pv)
  clear sx sy su sv hx hy tx ty tu tv g1 g2 py pv lx ly lu lv
  go_enter Tryz.func5, Tryz.ntmps5
  go_wp2_with fail
  refine Calls.mono HC.out ?_
  generalize (((w.alloc (.cells #[.bool n, .slice a xs.length ca, .slice b ys.length cb] 24)).alloc (.cells #[.bool m, .slice c us.length cc, .slice d vs.length cd] 24)).alloc (.cells #[.bool false, .slice none 0 0, .slice none 0 0] 24)) = X at *
  rintro e w1 ⟨rfl, hb1⟩
  have HB1 := hid (bt HB.out hb1)
  have HN1 := hid (HN.out.later hb1 HN.out.lt)
  have HM1 := hid (HM.out.later hb1 HM.out.lt)
  have HZ1 := hid (HZ.out.later hb1 HZ.out.lt)
  have HL1 : Hid (w.heap.size + 1 + 1 < w1.heap.size) := Nat.lt_of_lt_of_le HXS.out hb1.size
  have HMp := hid (HM1.out.set 0 (.bool (!m)))
  have HNp := hid (HN1.out.other ⟨w.heap.size + 1, 0, none⟩ (.bool (!m)) (by simp))
  have HZp := hid (HZ1.out.other ⟨w.heap.size + 1, 0, none⟩ (.bool (!m)) (by simp))
  have HBs : Hid (Below w.heap.size w (w1.setCell ⟨w.heap.size + 1, 0, none⟩ (.bool (!m)))) := HB1.out.setCell (p := ⟨w.heap.size + 1, 0, none⟩) (by simp) _
  have HLs : Hid (w.heap.size + 1 + 1 < (w1.setCell ⟨w.heap.size + 1, 0, none⟩ (.bool (!m))).heap.size) := HZp.out.lt
  have HCA := hid (radd_any n a ca xs b cb ys (!m) c cc us d cd vs (w1.setCell ⟨w.heap.size + 1, 0, none⟩ (.bool (!m))) (HS0.out.1.later HBs.out) (HS0.out.2.1.later HBs.out) (HS0.out.2.2.1.later HBs.out) (HS0.out.2.2.2.later HBs.out) HT.out.1 HT.out.2.1 HT.out.2.2.1 HT.out.2.2.2.1 HT.out.2.2.2.2.1 HT.out.2.2.2.2.2.1 HT.out.2.2.2.2.2.2.1 HT.out.2.2.2.2.2.2.2.1 (by have := HPY.out; omega) (by have := HPY.out; omega) HT.out.2.2.2.2.2.2.2.2.1 HT.out.2.2.2.2.2.2.2.2.2)
  rw [rq_less] at HCA
  obtain ⟨p0, p1, p2, _⟩ := res_box3 HN1.out (Below.refl _ w1)
  obtain ⟨q0, q1, q2, g0, g1, g2⟩ := res_box3 HM1.out (Below.refl _ w1)
  have r0 : (w1.setCell ⟨w.heap.size + 1, 0, none⟩ (.bool (!m))).cell? ⟨w.heap.size, 0, none⟩ = some (.bool n) := HNp.out.cell 0
  have r1 : (w1.setCell ⟨w.heap.size + 1, 0, none⟩ (.bool (!m))).cell? ⟨w.heap.size, 1, none⟩ = some (.slice a xs.length ca) := HNp.out.cell 1
  have r2 : (w1.setCell ⟨w.heap.size + 1, 0, none⟩ (.bool (!m))).cell? ⟨w.heap.size, 2, none⟩ = some (.slice b ys.length cb) := HNp.out.cell 2
  have t0 : (w1.setCell ⟨w.heap.size + 1, 0, none⟩ (.bool (!m))).cell? ⟨w.heap.size + 1, 0, none⟩ = some (.bool (!m)) := HMp.out.cell 0
  have t1 : (w1.setCell ⟨w.heap.size + 1, 0, none⟩ (.bool (!m))).cell? ⟨w.heap.size + 1, 1, none⟩ = some (.slice c us.length cc) := HMp.out.cell 1
  have t2 : (w1.setCell ⟨w.heap.size + 1, 0, none⟩ (.bool (!m))).cell? ⟨w.heap.size + 1, 2, none⟩ = some (.slice d vs.length cd) := HMp.out.cell 2
  clear hb1 HC
  go_wp2_with fail
  refine Calls.mono HCA.out ?_
  generalize w1.setCell ⟨w.heap.size + 1, 0, none⟩ (.bool (!m)) = V at *
  rintro e w2 ⟨k2, v2, z2, u2, r2', code, rfl, o2, o3, tt2, hb2, hc2⟩
  obtain ⟨a2, c2, hs2⟩ := own_slice' o2
  subst hs2
  obtain ⟨a3, c3, hs3⟩ := own_slice' o3
  subst hs3
  have HR := hid (And.intro o2 (And.intro o3 (And.intro tt2 hc2)))
  obtain ⟨y0, y1, y2, f0, f1, f2⟩ := res_box3 HZp.out hb2
  have HBW := hid (bt HBs.out hb2)
  clear o2 o3 tt2 hb2 hc2 HCA p0 p1 p2 q0 q1 q2 g0 g1 g2 r0 r1 r2 t0 t1 t2
  go_wp2_with fail
  refine bodyPost_ret (v := .tuple #[.agg #[.bool k2, .slice a2 z2.length c2, .slice a3 r2'.length c3], .int .i64 code]) (by simp [results, Tryz.results5, go_sem, y0, y1, y2]) rfl ?_
  exact RToldA.put HR.out (w.heap.size + 1 + 1) HLs.out (by omega) HBW.out _ _ _
theorem rSub_full (n : Bool) (a : Option Addr) (ca : Nat) (xs : List Int) (b : Option Addr) (cb : Nat) (ys : List Int) (m : Bool) (c : Option Addr) (cc : Nat) (us : List Int) (d : Option Addr) (cd : Nat) (vs : List Int) (w : World) (sx : Sl w (.slice a xs.length ca) xs) (sy : Sl w (.slice b ys.length cb) ys) (su : Sl w (.slice c us.length cc) us) (sv : Sl w (.slice d vs.length cd) vs) :
    Calls Tryz.prog 5 #[.agg #[.bool n, .slice a xs.length ca, .slice b ys.length cb], .agg #[.bool m, .slice c us.length cc, .slice d vs.length cd]] w (RToldA w (rboth n xs ys m us vs) (rq n xs ys - rq m us vs)) := by
  by_cases he : rboth n xs ys m us vs = 0
  · rw [he]
    exact rSub_ok n a ca xs b cb ys m c cc us d cd vs w sx sy su sv (rboth_ok he).1 (rboth_ok he).2
  · exact rSub_err n a ca xs b cb ys m c cc us d cd vs w sx sy su sv he _
end Go.Proofs.YtmncfbjoplfikaaGreatDoor

/- Fractions: ratio.Quo, Neg, Sign: of any fractions, good or refused; what is told is new memory. -/
namespace Go.Proofs.YtmncfbjoplfikaaGreatDoor
open Go.RowKit
set_option linter.unusedVariables false

theorem gcd_comm' (x y : Int) : gcdI x y = gcdI y x := by unfold gcdI; rw [Int.gcd_comm]
theorem rq_over {n m : Bool} {xs ys us vs : List Int} : rq n xs ys * rq m vs us = rq n xs ys / rq m us vs := by
  rw [Rat.div_def]
  congr 1
  unfold rq
  rw [Rat.inv_divInt]
  cases m
  · rfl
  · show Rat.divInt (-(val vs)) (val us) = Rat.divInt (val vs) (-(val us))
    rw [Rat.divInt_neg']

set_option maxHeartbeats 3200000 in
set_option maxRecDepth 100000 in
theorem rQuo_err (n : Bool) (a : Option Addr) (ca : Nat) (xs : List Int) (b : Option Addr) (cb : Nat) (ys : List Int) (m : Bool) (c : Option Addr) (cc : Nat) (us : List Int) (d : Option Addr) (cd : Nat) (vs : List Int) (w : World) (sx : Sl w (.slice a xs.length ca) xs) (sy : Sl w (.slice b ys.length cb) ys) (su : Sl w (.slice c us.length cc) us) (sv : Sl w (.slice d vs.length cd) vs) (he : rboth n xs ys m us vs ≠ 0) (q : Rat) :
    Calls Tryz.prog 8 #[.agg #[.bool n, .slice a xs.length ca, .slice b ys.length cb], .agg #[.bool m, .slice c us.length cc, .slice d vs.length cd]] w (RToldA w (rboth n xs ys m us vs) q) := by
  have HB : Hid (Below w.heap.size w (((w.alloc (.cells #[.bool n, .slice a xs.length ca, .slice b ys.length cb] 24)).alloc (.cells #[.bool m, .slice c us.length cc, .slice d vs.length cd] 24)).alloc (.cells #[.bool false, .slice none 0 0, .slice none 0 0] 24))) := bt (bt (alloc_later _ _) (alloc_later _ _)) (alloc_later _ _)
  have HZ : Hid (Box (((w.alloc (.cells #[.bool n, .slice a xs.length ca, .slice b ys.length cb] 24)).alloc (.cells #[.bool m, .slice c us.length cc, .slice d vs.length cd] 24)).alloc (.cells #[.bool false, .slice none 0 0, .slice none 0 0] 24)) (w.heap.size + 1 + 1) 24 #[.bool false, .slice none 0 0, .slice none 0 0]) := by
    have e := Box.made ((w.alloc (.cells #[.bool n, .slice a xs.length ca, .slice b ys.length cb] 24)).alloc (.cells #[.bool m, .slice c us.length cc, .slice d vs.length cd] 24)) 24 #[.bool false, .slice none 0 0, .slice none 0 0]
    simp at e
    exact e
  have HN : Hid (Box (((w.alloc (.cells #[.bool n, .slice a xs.length ca, .slice b ys.length cb] 24)).alloc (.cells #[.bool m, .slice c us.length cc, .slice d vs.length cd] 24)).alloc (.cells #[.bool false, .slice none 0 0, .slice none 0 0] 24)) w.heap.size 24 #[.bool n, .slice a xs.length ca, .slice b ys.length cb]) := Box.later (Box.made w _ _) (bt (alloc_later _ _) (alloc_later _ _)) (by simp)
  have HM : Hid (Box (((w.alloc (.cells #[.bool n, .slice a xs.length ca, .slice b ys.length cb] 24)).alloc (.cells #[.bool m, .slice c us.length cc, .slice d vs.length cd] 24)).alloc (.cells #[.bool false, .slice none 0 0, .slice none 0 0] 24)) (w.heap.size + 1) 24 #[.bool m, .slice c us.length cc, .slice d vs.length cd]) := by
    have e := Box.later (Box.made (w.alloc (.cells #[.bool n, .slice a xs.length ca, .slice b ys.length cb] 24)) 24 #[.bool m, .slice c us.length cc, .slice d vs.length cd]) (alloc_later ((w.alloc (.cells #[.bool n, .slice a xs.length ca, .slice b ys.length cb] 24)).alloc (.cells #[.bool m, .slice c us.length cc, .slice d vs.length cd] 24)) (.cells #[.bool false, .slice none 0 0, .slice none 0 0] 24)) (by simp)
    simp at e
    exact e
  have HXS : Hid (w.heap.size + 1 + 1 < (((w.alloc (.cells #[.bool n, .slice a xs.length ca, .slice b ys.length cb] 24)).alloc (.cells #[.bool m, .slice c us.length cc, .slice d vs.length cd] 24)).alloc (.cells #[.bool false, .slice none 0 0, .slice none 0 0] 24)).heap.size) := HZ.out.lt
  have HSL := hid (And.intro (sx.later HB.out) (And.intro (sy.later HB.out) (And.intro (su.later HB.out) (sv.later HB.out))))
  have HC := hid (rcheckBoth_any n _ xs _ ys m _ us _ vs (((w.alloc (.cells #[.bool n, .slice a xs.length ca, .slice b ys.length cb] 24)).alloc (.cells #[.bool m, .slice c us.length cc, .slice d vs.length cd] 24)).alloc (.cells #[.bool false, .slice none 0 0, .slice none 0 0] 24)) HSL.out.1 HSL.out.2.1 HSL.out.2.2.1 HSL.out.2.2.2)
  obtain ⟨E, hE⟩ : ∃ E, rboth n xs ys m us vs = E := ⟨_, rfl⟩
  rw [hE] at HC he ⊢
  have he' : (E == 0) = false := beq_eq_false_iff_ne.2 he
  have HE := hid he
  clear he hE sx sy su sv
  go_enter Tryz.func8, Tryz.ntmps8
  go_wp2_with fail
  refine Calls.mono HC.out ?_
  generalize (((w.alloc (.cells #[.bool n, .slice a xs.length ca, .slice b ys.length cb] 24)).alloc (.cells #[.bool m, .slice c us.length cc, .slice d vs.length cd] 24)).alloc (.cells #[.bool false, .slice none 0 0, .slice none 0 0] 24)) = X at *
  rintro e w1 ⟨rfl, hb1⟩
  obtain ⟨y0, y1, y2, f0, f1, f2⟩ := res_box3 HZ.out hb1
  have HBN := hid (below_put3 (bt HB.out hb1) (w.heap.size + 1 + 1) (by omega) (.bool false) (.slice none 0 0) (.slice none 0 0))
  clear hb1 HC HN HM HZ HSL
  go_wp2_with fail
  refine bodyPost_ret (v := .tuple #[.agg #[.bool false, .slice none 0 0, .slice none 0 0], .int .i64 E]) (by simp [results, Tryz.results8, go_sem, y0, y1, y2]) rfl ?_
  exact ⟨false, _, [], _, [], _, rfl, World.ownsRow_nil _ _ _ _, World.ownsRow_nil _ _ _ _, RTells.err HE.out, HBN.out, ⟨w.heap.size, Nat.le_refl _, HBN.out.size, fun g hg => by simp [Value.ownBlock] at hg, fun g hg => by simp [Value.ownBlock] at hg⟩⟩

set_option maxHeartbeats 3200000 in
set_option maxRecDepth 100000 in
theorem rQuo_z (n : Bool) (a : Option Addr) (ca : Nat) (xs : List Int) (b : Option Addr) (cb : Nat) (ys : List Int) (m : Bool) (c : Option Addr) (cc : Nat) (us : List Int) (d : Option Addr) (cd : Nat) (vs : List Int) (w : World) (sx : Sl w (.slice a xs.length ca) xs) (sy : Sl w (.slice b ys.length cb) ys) (su : Sl w (.slice c us.length cc) us) (sv : Sl w (.slice d vs.length cd) vs) (hx : rchk n xs ys = 0) (hy : rchk m us vs = 0) (h0 : us.length = 0) (q : Rat) :
    Calls Tryz.prog 8 #[.agg #[.bool n, .slice a xs.length ca, .slice b ys.length cb], .agg #[.bool m, .slice c us.length cc, .slice d vs.length cd]] w (RToldA w 7 q) := by
  have HB : Hid (Below w.heap.size w (((w.alloc (.cells #[.bool n, .slice a xs.length ca, .slice b ys.length cb] 24)).alloc (.cells #[.bool m, .slice c us.length cc, .slice d vs.length cd] 24)).alloc (.cells #[.bool false, .slice none 0 0, .slice none 0 0] 24))) := bt (bt (alloc_later _ _) (alloc_later _ _)) (alloc_later _ _)
  have HZ : Hid (Box (((w.alloc (.cells #[.bool n, .slice a xs.length ca, .slice b ys.length cb] 24)).alloc (.cells #[.bool m, .slice c us.length cc, .slice d vs.length cd] 24)).alloc (.cells #[.bool false, .slice none 0 0, .slice none 0 0] 24)) (w.heap.size + 1 + 1) 24 #[.bool false, .slice none 0 0, .slice none 0 0]) := by
    have e := Box.made ((w.alloc (.cells #[.bool n, .slice a xs.length ca, .slice b ys.length cb] 24)).alloc (.cells #[.bool m, .slice c us.length cc, .slice d vs.length cd] 24)) 24 #[.bool false, .slice none 0 0, .slice none 0 0]
    simp at e
    exact e
  have HN : Hid (Box (((w.alloc (.cells #[.bool n, .slice a xs.length ca, .slice b ys.length cb] 24)).alloc (.cells #[.bool m, .slice c us.length cc, .slice d vs.length cd] 24)).alloc (.cells #[.bool false, .slice none 0 0, .slice none 0 0] 24)) w.heap.size 24 #[.bool n, .slice a xs.length ca, .slice b ys.length cb]) := Box.later (Box.made w _ _) (bt (alloc_later _ _) (alloc_later _ _)) (by simp)
  have HM : Hid (Box (((w.alloc (.cells #[.bool n, .slice a xs.length ca, .slice b ys.length cb] 24)).alloc (.cells #[.bool m, .slice c us.length cc, .slice d vs.length cd] 24)).alloc (.cells #[.bool false, .slice none 0 0, .slice none 0 0] 24)) (w.heap.size + 1) 24 #[.bool m, .slice c us.length cc, .slice d vs.length cd]) := by
    have e := Box.later (Box.made (w.alloc (.cells #[.bool n, .slice a xs.length ca, .slice b ys.length cb] 24)) 24 #[.bool m, .slice c us.length cc, .slice d vs.length cd]) (alloc_later ((w.alloc (.cells #[.bool n, .slice a xs.length ca, .slice b ys.length cb] 24)).alloc (.cells #[.bool m, .slice c us.length cc, .slice d vs.length cd] 24)) (.cells #[.bool false, .slice none 0 0, .slice none 0 0] 24)) (by simp)
    simp at e
    exact e
  have HXS : Hid (w.heap.size + 1 + 1 < (((w.alloc (.cells #[.bool n, .slice a xs.length ca, .slice b ys.length cb] 24)).alloc (.cells #[.bool m, .slice c us.length cc, .slice d vs.length cd] 24)).alloc (.cells #[.bool false, .slice none 0 0, .slice none 0 0] 24)).heap.size) := HZ.out.lt
  have HSL := hid (And.intro (sx.later HB.out) (And.intro (sy.later HB.out) (And.intro (su.later HB.out) (sv.later HB.out))))
  have HC := hid (rcheckBoth_any n _ xs _ ys m _ us _ vs (((w.alloc (.cells #[.bool n, .slice a xs.length ca, .slice b ys.length cb] 24)).alloc (.cells #[.bool m, .slice c us.length cc, .slice d vs.length cd] 24)).alloc (.cells #[.bool false, .slice none 0 0, .slice none 0 0] 24)) HSL.out.1 HSL.out.2.1 HSL.out.2.2.1 HSL.out.2.2.2)
  rw [rboth_good hx hy] at HC
  have HE : Hid ((7 : Int) ≠ 0) := by show _ ≠ _; omega
  have h0' : ((us.length : Int) == 0) = true := by rw [h0]; rfl
  clear h0 hx hy sx sy su sv
  go_enter Tryz.func8, Tryz.ntmps8
  go_wp2_with fail
  refine Calls.mono HC.out ?_
  generalize (((w.alloc (.cells #[.bool n, .slice a xs.length ca, .slice b ys.length cb] 24)).alloc (.cells #[.bool m, .slice c us.length cc, .slice d vs.length cd] 24)).alloc (.cells #[.bool false, .slice none 0 0, .slice none 0 0] 24)) = X at *
  rintro e w1 ⟨rfl, hb1⟩
  obtain ⟨q0, q1, q2, _⟩ := res_box3 HM.out hb1
  obtain ⟨y0, y1, y2, f0, f1, f2⟩ := res_box3 HZ.out hb1
  have HBN := hid (below_put3 (bt HB.out hb1) (w.heap.size + 1 + 1) (by omega) (.bool false) (.slice none 0 0) (.slice none 0 0))
  clear hb1 HC HN HM HZ HSL
  go_wp2_with fail
  refine bodyPost_ret (v := .tuple #[.agg #[.bool false, .slice none 0 0, .slice none 0 0], .int .i64 7]) (by simp [results, Tryz.results8, go_sem, y0, y1, y2]) rfl ?_
  exact ⟨false, _, [], _, [], _, rfl, World.ownsRow_nil _ _ _ _, World.ownsRow_nil _ _ _ _, RTells.err HE.out, HBN.out, ⟨w.heap.size, Nat.le_refl _, HBN.out.size, fun g hg => by simp [Value.ownBlock] at hg, fun g hg => by simp [Value.ownBlock] at hg⟩⟩

set_option maxHeartbeats 3200000 in
set_option maxRecDepth 100000 in
theorem rQuo_ok (n : Bool) (a : Option Addr) (ca : Nat) (xs : List Int) (b : Option Addr) (cb : Nat) (ys : List Int) (m : Bool) (c : Option Addr) (cc : Nat) (us : List Int) (d : Option Addr) (cd : Nat) (vs : List Int) (w : World) (sx : Sl w (.slice a xs.length ca) xs) (sy : Sl w (.slice b ys.length cb) ys) (su : Sl w (.slice c us.length cc) us) (sv : Sl w (.slice d vs.length cd) vs) (hx : rchk n xs ys = 0) (hy : rchk m us vs = 0) (h0 : 0 < us.length) :
    Calls Tryz.prog 8 #[.agg #[.bool n, .slice a xs.length ca, .slice b ys.length cb], .agg #[.bool m, .slice c us.length cc, .slice d vs.length cd]] w (RToldA w 0 (rq n xs ys / rq m us vs)) := by
  obtain ⟨lx, ly, tx, ty, y0', _, g1⟩ := rchk_ok hx
  obtain ⟨lu, lv, tu, tv, v0', _, g2⟩ := rchk_ok hy
  have py := val_pos' sy.wd ty y0'
  have pu := val_pos' su.wd tu h0
  rw [gcd_comm'] at g2
  have HB : Hid (Below w.heap.size w (((w.alloc (.cells #[.bool n, .slice a xs.length ca, .slice b ys.length cb] 24)).alloc (.cells #[.bool m, .slice c us.length cc, .slice d vs.length cd] 24)).alloc (.cells #[.bool false, .slice none 0 0, .slice none 0 0] 24))) := bt (bt (alloc_later _ _) (alloc_later _ _)) (alloc_later _ _)
  have HZ : Hid (Box (((w.alloc (.cells #[.bool n, .slice a xs.length ca, .slice b ys.length cb] 24)).alloc (.cells #[.bool m, .slice c us.length cc, .slice d vs.length cd] 24)).alloc (.cells #[.bool false, .slice none 0 0, .slice none 0 0] 24)) (w.heap.size + 1 + 1) 24 #[.bool false, .slice none 0 0, .slice none 0 0]) := by
    have e := Box.made ((w.alloc (.cells #[.bool n, .slice a xs.length ca, .slice b ys.length cb] 24)).alloc (.cells #[.bool m, .slice c us.length cc, .slice d vs.length cd] 24)) 24 #[.bool false, .slice none 0 0, .slice none 0 0]
    simp at e
    exact e
  have HN : Hid (Box (((w.alloc (.cells #[.bool n, .slice a xs.length ca, .slice b ys.length cb] 24)).alloc (.cells #[.bool m, .slice c us.length cc, .slice d vs.length cd] 24)).alloc (.cells #[.bool false, .slice none 0 0, .slice none 0 0] 24)) w.heap.size 24 #[.bool n, .slice a xs.length ca, .slice b ys.length cb]) := Box.later (Box.made w _ _) (bt (alloc_later _ _) (alloc_later _ _)) (by simp)
  have HM : Hid (Box (((w.alloc (.cells #[.bool n, .slice a xs.length ca, .slice b ys.length cb] 24)).alloc (.cells #[.bool m, .slice c us.length cc, .slice d vs.length cd] 24)).alloc (.cells #[.bool false, .slice none 0 0, .slice none 0 0] 24)) (w.heap.size + 1) 24 #[.bool m, .slice c us.length cc, .slice d vs.length cd]) := by
    have e := Box.later (Box.made (w.alloc (.cells #[.bool n, .slice a xs.length ca, .slice b ys.length cb] 24)) 24 #[.bool m, .slice c us.length cc, .slice d vs.length cd]) (alloc_later ((w.alloc (.cells #[.bool n, .slice a xs.length ca, .slice b ys.length cb] 24)).alloc (.cells #[.bool m, .slice c us.length cc, .slice d vs.length cd] 24)) (.cells #[.bool false, .slice none 0 0, .slice none 0 0] 24)) (by simp)
    simp at e
    exact e
  have HXS : Hid (w.heap.size + 1 + 1 < (((w.alloc (.cells #[.bool n, .slice a xs.length ca, .slice b ys.length cb] 24)).alloc (.cells #[.bool m, .slice c us.length cc, .slice d vs.length cd] 24)).alloc (.cells #[.bool false, .slice none 0 0, .slice none 0 0] 24)).heap.size) := HZ.out.lt
  have HSL := hid (And.intro (sx.later HB.out) (And.intro (sy.later HB.out) (And.intro (su.later HB.out) (sv.later HB.out))))
  have HC := hid (rcheckBoth_any n _ xs _ ys m _ us _ vs (((w.alloc (.cells #[.bool n, .slice a xs.length ca, .slice b ys.length cb] 24)).alloc (.cells #[.bool m, .slice c us.length cc, .slice d vs.length cd] 24)).alloc (.cells #[.bool false, .slice none 0 0, .slice none 0 0] 24)) HSL.out.1 HSL.out.2.1 HSL.out.2.2.1 HSL.out.2.2.2)
  rw [rboth_good hx hy] at HC
  have HT := hid (And.intro lx (And.intro ly (And.intro lu (And.intro lv (And.intro tx (And.intro ty (And.intro tu (And.intro tv (And.intro g1 g2)))))))))
  have HS0 := hid (And.intro sx (And.intro sy (And.intro su sv)))
  have HPY := hid (And.intro py pu)
  have h0' : ((us.length : Int) == 0) = false := beq_eq_false_iff_ne.2 (by omega)
  clear sx sy su sv hx hy tx ty tu tv g1 g2 py pu lx ly lu lv
  go_enter Tryz.func8, Tryz.ntmps8
  go_wp2_with fail
  refine Calls.mono HC.out ?_
  generalize (((w.alloc (.cells #[.bool n, .slice a xs.length ca, .slice b ys.length cb] 24)).alloc (.cells #[.bool m, .slice c us.length cc, .slice d vs.length cd] 24)).alloc (.cells #[.bool false, .slice none 0 0, .slice none 0 0] 24)) = X at *
  rintro e w1 ⟨rfl, hb1⟩
  have HB1 := hid (bt HB.out hb1)
  have HN1 := hid (HN.out.later hb1 HN.out.lt)
  have HM1 := hid (HM.out.later hb1 HM.out.lt)
  have HZ1 := hid (HZ.out.later hb1 HZ.out.lt)
  have HMp := hid ((HM1.out.set 1 (.slice d vs.length cd)).set 2 (.slice c us.length cc))
  have HNp := hid ((HN1.out.other ⟨w.heap.size + 1, 1, none⟩ (.slice d vs.length cd) (by simp)).other ⟨w.heap.size + 1, 2, none⟩ (.slice c us.length cc) (by simp))
  have HZp := hid ((HZ1.out.other ⟨w.heap.size + 1, 1, none⟩ (.slice d vs.length cd) (by simp)).other ⟨w.heap.size + 1, 2, none⟩ (.slice c us.length cc) (by simp))
  have HBs : Hid (Below w.heap.size w ((w1.setCell ⟨w.heap.size + 1, 1, none⟩ (.slice d vs.length cd)).setCell ⟨w.heap.size + 1, 2, none⟩ (.slice c us.length cc))) := (HB1.out.setCell (p := ⟨w.heap.size + 1, 1, none⟩) (by simp) _).setCell (p := ⟨w.heap.size + 1, 2, none⟩) (by simp) _
  have HLs : Hid (w.heap.size + 1 + 1 < ((w1.setCell ⟨w.heap.size + 1, 1, none⟩ (.slice d vs.length cd)).setCell ⟨w.heap.size + 1, 2, none⟩ (.slice c us.length cc)).heap.size) := HZp.out.lt
  have HCA := hid (fun ww (hb : Below ((w1.setCell ⟨w.heap.size + 1, 1, none⟩ (.slice d vs.length cd)).setCell ⟨w.heap.size + 1, 2, none⟩ (.slice c us.length cc)).heap.size ((w1.setCell ⟨w.heap.size + 1, 1, none⟩ (.slice d vs.length cd)).setCell ⟨w.heap.size + 1, 2, none⟩ (.slice c us.length cc)) ww) => rmultiply_cut n a ca xs b cb ys m d cd vs c cc us ww (HS0.out.1.later (bt HBs.out hb)) (HS0.out.2.1.later (bt HBs.out hb)) (HS0.out.2.2.2.later (bt HBs.out hb)) (HS0.out.2.2.1.later (bt HBs.out hb)) HT.out.1 HT.out.2.1 HT.out.2.2.2.1 HT.out.2.2.1 HT.out.2.2.2.2.1 HT.out.2.2.2.2.2.1 HT.out.2.2.2.2.2.2.2.1 HT.out.2.2.2.2.2.2.1 (by have := HPY.out; omega) (by have := HPY.out; omega) HT.out.2.2.2.2.2.2.2.2.1 HT.out.2.2.2.2.2.2.2.2.2)
  rw [rq_over] at HCA
  obtain ⟨p0, p1, p2, _⟩ := res_box3 HN1.out (Below.refl _ w1)
  obtain ⟨q0, q1, q2, g0, g1, g2⟩ := res_box3 HM1.out (Below.refl _ w1)
  clear hb1 HC
  have r0 : ((w1.setCell ⟨w.heap.size + 1, 1, none⟩ (.slice d vs.length cd)).setCell ⟨w.heap.size + 1, 2, none⟩ (.slice c us.length cc)).cell? ⟨w.heap.size, 0, none⟩ = some (.bool n) := HNp.out.cell 0
  have r1 : ((w1.setCell ⟨w.heap.size + 1, 1, none⟩ (.slice d vs.length cd)).setCell ⟨w.heap.size + 1, 2, none⟩ (.slice c us.length cc)).cell? ⟨w.heap.size, 1, none⟩ = some (.slice a xs.length ca) := HNp.out.cell 1
  have r2 : ((w1.setCell ⟨w.heap.size + 1, 1, none⟩ (.slice d vs.length cd)).setCell ⟨w.heap.size + 1, 2, none⟩ (.slice c us.length cc)).cell? ⟨w.heap.size, 2, none⟩ = some (.slice b ys.length cb) := HNp.out.cell 2
  have t0 : ((w1.setCell ⟨w.heap.size + 1, 1, none⟩ (.slice d vs.length cd)).setCell ⟨w.heap.size + 1, 2, none⟩ (.slice c us.length cc)).cell? ⟨w.heap.size + 1, 0, none⟩ = some (.bool m) := HMp.out.cell 0
  have t1 : ((w1.setCell ⟨w.heap.size + 1, 1, none⟩ (.slice d vs.length cd)).setCell ⟨w.heap.size + 1, 2, none⟩ (.slice c us.length cc)).cell? ⟨w.heap.size + 1, 1, none⟩ = some (.slice d vs.length cd) := HMp.out.cell 1
  have t2 : ((w1.setCell ⟨w.heap.size + 1, 1, none⟩ (.slice d vs.length cd)).setCell ⟨w.heap.size + 1, 2, none⟩ (.slice c us.length cc)).cell? ⟨w.heap.size + 1, 2, none⟩ = some (.slice c us.length cc) := HMp.out.cell 2
  go_wp2_with fail
  refine Calls.mono (HCA.out _ (by first | exact Below.drew (Below.refl _ _) | exact Below.refl _ _)) ?_
  generalize ((w1.setCell ⟨w.heap.size + 1, 1, none⟩ (.slice d vs.length cd)).setCell ⟨w.heap.size + 1, 2, none⟩ (.slice c us.length cc)) = V at *
  rintro e w2 ⟨k2, v2, z2, u2, r2', code, rfl, o2, o3, tt2, hb2, hc2⟩
  obtain ⟨a2, c2, hs2⟩ := own_slice' o2
  subst hs2
  obtain ⟨a3, c3, hs3⟩ := own_slice' o3
  subst hs3
  have HR := hid (And.intro o2 (And.intro o3 (And.intro tt2 hc2)))
  have hbV : Below V.heap.size V w2 := bt (by first | exact Below.drew (Below.refl _ V) | exact Below.refl _ V) hb2
  obtain ⟨y0, y1, y2, f0, f1, f2⟩ := res_box3 HZp.out hbV
  have HBW := hid (bt HBs.out hbV)
  clear o2 o3 tt2 hb2 hbV hc2 HCA r0 r1 r2 t0 t1 t2 p0 p1 p2 q0 q1 q2 g0 g1 g2
  go_wp2_with fail
  refine bodyPost_ret (v := .tuple #[.agg #[.bool k2, .slice a2 z2.length c2, .slice a3 r2'.length c3], .int .i64 code]) (by simp [results, Tryz.results8, go_sem, y0, y1, y2]) rfl ?_
  exact RToldA.put HR.out (w.heap.size + 1 + 1) (by simpa using HLs.out) (by omega) HBW.out _ _ _
/-- The error of Quo. -/
def qErr (n : Bool) (xs ys : List Int) (m : Bool) (us vs : List Int) : Int := if rboth n xs ys m us vs = 0 then (if us.length = 0 then 7 else 0) else rboth n xs ys m us vs
theorem rQuo_full (n : Bool) (a : Option Addr) (ca : Nat) (xs : List Int) (b : Option Addr) (cb : Nat) (ys : List Int) (m : Bool) (c : Option Addr) (cc : Nat) (us : List Int) (d : Option Addr) (cd : Nat) (vs : List Int) (w : World) (sx : Sl w (.slice a xs.length ca) xs) (sy : Sl w (.slice b ys.length cb) ys) (su : Sl w (.slice c us.length cc) us) (sv : Sl w (.slice d vs.length cd) vs) :
    Calls Tryz.prog 8 #[.agg #[.bool n, .slice a xs.length ca, .slice b ys.length cb], .agg #[.bool m, .slice c us.length cc, .slice d vs.length cd]] w (RToldA w (qErr n xs ys m us vs) (rq n xs ys / rq m us vs)) := by
  unfold qErr
  by_cases he : rboth n xs ys m us vs = 0
  · rw [if_pos he]
    by_cases h0 : us.length = 0
    · rw [if_pos h0]
      exact rQuo_z n a ca xs b cb ys m c cc us d cd vs w sx sy su sv (rboth_ok he).1 (rboth_ok he).2 h0 _
    · rw [if_neg h0]
      exact rQuo_ok n a ca xs b cb ys m c cc us d cd vs w sx sy su sv (rboth_ok he).1 (rboth_ok he).2 (by omega)
  · rw [if_neg he]
    exact rQuo_err n a ca xs b cb ys m c cc us d cd vs w sx sy su sv he _
end Go.Proofs.YtmncfbjoplfikaaGreatDoor

/- Fractions: ratio.Neg, Sign: of any fraction, good or refused. -/
namespace Go.Proofs.YtmncfbjoplfikaaGreatDoor
open Go.RowKit
set_option linter.unusedVariables false

theorem trim1_any (v : Value) (xs : List Int) (w : World) (h : Sl w v xs) (hn : xs.length ≤ 1099511627776) : Calls Tryz.prog 44 #[v] w (Told1 w (val xs)) := by
  have wx := h.wd
  refine Calls.mono (trim_sl v xs w h hn) ?_
  rintro e w' ⟨v', rfl, o, hb⟩
  exact ⟨v', trimmed xs, rfl, owns_len o, wx.trimmed, Trimmed.trimmed _, val_trimmed xs, hb⟩
theorem rq_neg {n : Bool} {xs ys : List Int} : Rat.divInt (sg (!n) (val xs)) (val ys) = -(rq n xs ys) := by
  unfold rq
  rw [Rat.neg_divInt]
  congr 1
  cases n <;> simp [sg, wval]

end Go.Proofs.YtmncfbjoplfikaaGreatDoor

/- Fractions: Same, Sign; slices.Equal of words. -/
namespace Go.Proofs.YtmncfbjoplfikaaGreatDoor
open Go.RowKit
set_option linter.unusedVariables false

set_option maxHeartbeats 800000 in
set_option maxRecDepth 100000 in
theorem slEqual_any (a : Option Addr) (n cap : Nat) (xs : List Int) (b : Option Addr) (m cap' : Nat) (ys : List Int) (w : World) (h : Reads w w.heap.size a n cap xs) (g : Reads w w.heap.size b m cap' ys) (hn : n ≤ 281474976710656) (hm : m ≤ 281474976710656) :
    Calls Tryz.prog 50 #[.slice a n cap, .slice b m cap'] w fun e w' => e = .returned (.bool (decide (xs = ys))) ∧ Below w.heap.size w w' := by
  obtain ⟨hl, hw, hc, hcap⟩ := h
  obtain ⟨gl, gw, gc, gcap⟩ := g
  by_cases hnm : n = m
  · subst hnm
    have htt : ((n : Int) != (n : Int)) = false := by simp
    rcases hc with h0 | ⟨b1, o1, rfl, hb1, hc⟩
    · subst h0
      have hx : xs = [] := List.eq_nil_of_length_eq_zero hl
      have hy : ys = [] := List.eq_nil_of_length_eq_zero gl
      subst hx; subst hy
      go_enter Tryz.func50, Tryz.ntmps50
      go_wp2
      refine wp_loop_rounds 1 ?_
      rw [rounds_succ]
      go_wp2
      go_ret
      exact ⟨rfl, Below.refl _ _⟩
    · rcases gc with g0 | ⟨b2, o2, rfl, hb2, gc⟩
      · subst g0
        have hx : xs = [] := List.eq_nil_of_length_eq_zero hl
        have hy : ys = [] := List.eq_nil_of_length_eq_zero gl
        subst hx; subst hy
        go_enter Tryz.func50, Tryz.ntmps50
        go_wp2
        refine wp_loop_rounds 1 ?_
        rw [rounds_succ]
        go_wp2
        go_ret
        exact ⟨rfl, Below.refl _ _⟩
      · have HL : Hid (xs.length = n ∧ ys.length = n) := ⟨hl, gl⟩
        clear hl gl
        go_enter Tryz.func50, Tryz.ntmps50
        go_wp2
        go_loopw [13] (fun t wr => ∃ k : Nat, k ≤ n ∧ t = .int .i64 k ∧ xs.take k = ys.take k ∧ Below w.heap.size w wr) (fun t _ => n - (intOf t).toNat)
        case atStart => exact ⟨0, Nat.zero_le _, rfl, rfl, Below.refl _ _⟩
        case round =>
          obtain ⟨k, hk, rfl, hs, hbel⟩ := hrel
          have HS : Hid (xs.take k = ys.take k) := hs
          clear hs
          by_cases hlt : k < n
          · have hcx : wr.cell? ⟨b1, o1 + k, none⟩ = some (.int .u32 (xs[k]?.getD 0)) := (hbel.cell (p := ⟨b1, o1 + k, none⟩) hb1).trans (hc k hlt)
            have hcy : wr.cell? ⟨b2, o2 + k, none⟩ = some (.int .u32 (ys[k]?.getD 0)) := (hbel.cell (p := ⟨b2, o2 + k, none⟩) hb2).trans (gc k hlt)
            by_cases he : xs[k]?.getD 0 = ys[k]?.getD 0
            · have hne : (xs[k]?.getD 0 != ys[k]?.getD 0) = false := by simp [he]
              have HE : Hid (xs[k]?.getD 0 = ys[k]?.getD 0) := he
              clear he
              go_wp2
              go_region

              all_goals go_wp2

              all_goals
                go_roundw
                case rel => exact ⟨k + 1, by omega, by go_num, take_same HS.out (by have := HL.out; omega) (by have := HL.out; omega) HE.out, hbel.drew⟩
                case measure => simp [intOf]; omega
            · have hne : (xs[k]?.getD 0 != ys[k]?.getD 0) = true := by simp [he]
              have HE : Hid (¬ xs[k]?.getD 0 = ys[k]?.getD 0) := he
              clear he
              go_wp2
              go_region
              all_goals go_wp2
              all_goals
                go_ret
                exact ⟨ret_bool (decide_eq_false fun e => HE.out (by rw [e])).symm, hbel.drew⟩
          · have hkn : k = n := by omega
            subst hkn
            go_wp2
            go_ret
            exact ⟨ret_bool (decide_eq_true (by have := HS.out; have hl := HL.out; rwa [List.take_of_length_le (by omega), List.take_of_length_le (by omega)] at this)).symm, hbel⟩
  · have hne : ((n : Int) != (m : Int)) = true := by simp; omega
    have hd : decide (xs = ys) = false := decide_eq_false fun e => hnm (by rw [← hl, ← gl, e])
    have HD : Hid (decide (xs = ys) = false) := hd
    clear hd hc gc
    go_enter Tryz.func50, Tryz.ntmps50
    go_wp2
    go_ret
    exact ⟨ret_bool HD.out.symm, Below.refl _ _⟩

/-- What Sign tells. -/
def rsgn (n : Bool) (xs ys : List Int) : Int := if rchk n xs ys = 0 then (if xs.length = 0 then 0 else if n then -1 else 1) else 0

theorem slEqual_sl (v u : Value) (xs ys : List Int) (w : World) (h : Sl w v xs) (g : Sl w u ys) (hn : xs.length ≤ 281474976710656) (hm : ys.length ≤ 281474976710656) :
    Calls Tryz.prog 50 #[v, u] w fun e w' => e = .returned (.bool (decide (xs = ys))) ∧ Below w.heap.size w w' := by
  obtain ⟨a, ca, rfl, hr⟩ := h
  obtain ⟨b, cb, rfl, gr⟩ := g
  exact slEqual_any a _ ca xs b _ cb ys w hr gr hn hm

set_option maxHeartbeats 1600000 in
set_option maxRecDepth 100000 in
theorem rSame_any (n : Bool) (a : Option Addr) (ca : Nat) (xs : List Int) (b : Option Addr) (cb : Nat) (ys : List Int) (m : Bool) (c : Option Addr) (cc : Nat) (us : List Int) (d : Option Addr) (cd : Nat) (vs : List Int) (w : World) (sx : Sl w (.slice a xs.length ca) xs) (sy : Sl w (.slice b ys.length cb) ys) (su : Sl w (.slice c us.length cc) us) (sv : Sl w (.slice d vs.length cd) vs) (lx : xs.length ≤ 281474976710656) (ly : ys.length ≤ 281474976710656) (lu : us.length ≤ 281474976710656) (lv : vs.length ≤ 281474976710656) :
    Calls Tryz.prog 32 #[.agg #[.bool n, .slice a xs.length ca, .slice b ys.length cb], .agg #[.bool m, .slice c us.length cc, .slice d vs.length cd]] w fun e w' => e = .returned (.bool (decide (n = m ∧ xs = us ∧ ys = vs))) ∧ Below w.heap.size w w' := by
  have HB : Hid (Below w.heap.size w ((w.alloc (.cells #[.bool n, .slice a xs.length ca, .slice b ys.length cb] 24)).alloc (.cells #[.bool m, .slice c us.length cc, .slice d vs.length cd] 24))) := bt (alloc_later _ _) (alloc_later _ _)
  have HN : Hid (Box ((w.alloc (.cells #[.bool n, .slice a xs.length ca, .slice b ys.length cb] 24)).alloc (.cells #[.bool m, .slice c us.length cc, .slice d vs.length cd] 24)) w.heap.size 24 #[.bool n, .slice a xs.length ca, .slice b ys.length cb]) := Box.later (Box.made w _ _) (alloc_later _ _) (by simp)
  have HM : Hid (Box ((w.alloc (.cells #[.bool n, .slice a xs.length ca, .slice b ys.length cb] 24)).alloc (.cells #[.bool m, .slice c us.length cc, .slice d vs.length cd] 24)) (w.heap.size + 1) 24 #[.bool m, .slice c us.length cc, .slice d vs.length cd]) := by
    have e := Box.made (w.alloc (.cells #[.bool n, .slice a xs.length ca, .slice b ys.length cb] 24)) 24 #[.bool m, .slice c us.length cc, .slice d vs.length cd]
    simp at e
    exact e
  have H1 := hid (slEqual_sl _ _ xs us ((w.alloc (.cells #[.bool n, .slice a xs.length ca, .slice b ys.length cb] 24)).alloc (.cells #[.bool m, .slice c us.length cc, .slice d vs.length cd] 24)) (sx.later HB.out) (su.later HB.out) lx lu)
  have H2 := hid (fun ww (hb : Below ((w.alloc (.cells #[.bool n, .slice a xs.length ca, .slice b ys.length cb] 24)).alloc (.cells #[.bool m, .slice c us.length cc, .slice d vs.length cd] 24)).heap.size ((w.alloc (.cells #[.bool n, .slice a xs.length ca, .slice b ys.length cb] 24)).alloc (.cells #[.bool m, .slice c us.length cc, .slice d vs.length cd] 24)) ww) => slEqual_sl _ _ ys vs ww ((sy.later HB.out).later hb) ((sv.later HB.out).later hb) ly lv)
  clear sx sy su sv
  by_cases h0 : n = m
  · subst h0
    have hbb : (n == n) = true := by simp
    by_cases h1 : xs = us
    · have HR : Hid (decide (n = n ∧ xs = us ∧ ys = vs) = decide (ys = vs)) := by show _ = _; simp [h1]
      rw [decide_eq_true h1] at H1
      rw [HR.out]
      clear h1
      go_enter Tryz.func32, Tryz.ntmps32
      go_wp2_with fail
      refine Calls.mono H1.out ?_
      generalize ((w.alloc (.cells #[.bool n, .slice a xs.length ca, .slice b ys.length cb] 24)).alloc (.cells #[.bool n, .slice c us.length cc, .slice d vs.length cd] 24)) = X at *
      rintro e w1 ⟨rfl, hb1⟩
      obtain ⟨p0, p1, p2, _⟩ := res_box3 HN.out hb1
      obtain ⟨q0, q1, q2, _⟩ := res_box3 HM.out hb1
      have HC := hid (H2.out w1 hb1)
      have HB1 := hid (bt HB.out hb1)
      clear hb1 H1 H2
      go_wp2_with fail
      refine Calls.mono HC.out ?_
      rintro e w2 ⟨rfl, hb2⟩
      have HBN := hid (bt HB1.out hb2)
      clear hb2 HC
      go_wp2_with fail
      go_ret
      exact ⟨rfl, HBN.out⟩
    · have HR : Hid (decide (n = n ∧ xs = us ∧ ys = vs) = false) := decide_eq_false (fun h => h1 h.2.1)
      rw [decide_eq_false h1] at H1
      rw [HR.out]
      clear h1
      go_enter Tryz.func32, Tryz.ntmps32
      go_wp2_with fail
      refine Calls.mono H1.out ?_
      rintro e w1 ⟨rfl, hb1⟩
      have HBN := hid (bt HB.out hb1)
      clear hb1 H1 H2
      go_wp2_with fail
      go_ret
      exact ⟨rfl, HBN.out⟩
  · have HR : Hid (decide (n = m ∧ xs = us ∧ ys = vs) = false) := decide_eq_false (fun h => h0 h.1)
    have hbb : (n == m) = false := by simp [h0]
    rw [HR.out]
    clear h0
    go_enter Tryz.func32, Tryz.ntmps32
    go_wp2_with fail
    go_ret
    exact ⟨rfl, HB.out⟩
end Go.Proofs.YtmncfbjoplfikaaGreatDoor

/- Fractions: ratio.compareSizes, Compare: of any fractions, good or refused. -/
namespace Go.Proofs.YtmncfbjoplfikaaGreatDoor
open Go.RowKit
set_option linter.unusedVariables false

theorem cmp_negs (x y : Int) : cmpI y x = cmpI (-x) (-y) := by
  by_cases h1 : y < x
  · rw [cmpI_lt h1, cmpI_lt (by omega)]
  · by_cases h2 : x < y
    · rw [cmpI_gt h2, cmpI_gt (by omega)]
    · obtain rfl : x = y := by omega
      unfold cmpI
      simp

/-- What Compare tells. -/
def rcmp (n : Bool) (xs ys : List Int) (m : Bool) (us vs : List Int) : Int := if rboth n xs ys m us vs = 0 then cmpI (wval n xs * val vs) (wval m us * val ys) else 0

end Go.Proofs.YtmncfbjoplfikaaGreatDoor

/- The laws of layer 2: lives (two of the chapter's examples hold); the document's own made, Of. -/
namespace Go.Proofs.YtmncfbjoplfikaaGreatDoor
open Go.RowKit
set_option linter.unusedVariables false

theorem wlim_big : (18446744073709551616 : Int) ≤ wlim := by
  have : (4294967296 : Int) ^ 2 ≤ 4294967296 ^ 2048 := pw_le (by omega)
  unfold wlim
  have e : (4294967296 : Int) ^ 2 = 18446744073709551616 := by decide
  rw [e] at this
  exact this
theorem WTells.num {t : Int} {n : Bool} {zs : List Int} {code : Int} (h : WTells 0 t n zs code) (h0 : -18446744073709551616 < t) (h1 : t < 18446744073709551616) : code = 0 ∧ wval n zs = t := by
  have := wlim_big
  exact h.good rfl (by omega) (by omega)
theorem wval_pos {n : Bool} {zs : List Int} (hw : Wd zs) (h : 0 < wval n zs) : n = false ∧ val zs = wval n zs := by
  have := val_nonneg hw
  cases n with
  | false => exact ⟨rfl, rfl⟩
  | true => have e : wval true zs = -(val zs) := rfl; omega

end Go.Proofs.YtmncfbjoplfikaaGreatDoor

/- Whole numbers: whole.power, Power: powers of every number, or the error. -/
namespace Go.Proofs.YtmncfbjoplfikaaGreatDoor
open Go.RowKit
set_option linter.unusedVariables false

theorem natAbs_ge {x y : Int} (h : wlim ≤ x ∨ x ≤ -wlim) (hy : y ≠ 0) : wlim ≤ x * y ∨ x * y ≤ -wlim := by
  have hp := wlim_pos
  have h1 : wlim ≤ (x.natAbs : Int) := by omega
  have h2 : 1 ≤ (y.natAbs : Int) := by omega
  have h3 : (x.natAbs : Int) * 1 ≤ (x.natAbs : Int) * (y.natAbs : Int) := Int.mul_le_mul_of_nonneg_left h2 (by omega)
  have h4 : ((x * y).natAbs : Int) = (x.natAbs : Int) * (y.natAbs : Int) := by rw [Int.natAbs_mul, Int.natCast_mul]
  omega
theorem pow_ne {x : Int} (h : x ≠ 0) (k : Nat) : x ^ k ≠ 0 := by
  induction k with
  | zero => simp
  | succ k ih => rw [Int.pow_succ]; exact Int.mul_ne_zero ih h
theorem pow_half (a : Int) (m : Nat) : a ^ m = (if m % 2 = 1 then a else 1) * (a * a) ^ (m / 2) := by
  have e : (a * a) ^ (m / 2) = a ^ (2 * (m / 2)) := by rw [Int.pow_mul, Int.pow_succ, Int.pow_succ, Int.pow_zero, Int.one_mul]
  rw [e]
  by_cases h : m % 2 = 1
  · rw [if_pos h, Int.mul_comm, ← Int.pow_succ]
    congr 1
    omega
  · rw [if_neg h, Int.one_mul]
    congr 1
    omega
theorem WTells.ok0 {t : Int} {n : Bool} {zs : List Int} {c : Int} (h : WTells 0 t n zs c) (hc : c = 0) : wval n zs = t ∧ wchk n zs = 0 := by
  have hk := wchk_good h.len h.trim h.sign
  by_cases h1 : wlim ≤ t ∨ t ≤ -wlim
  · have := (h.long rfl h1).2.2; omega
  · exact ⟨(h.good rfl (by omega) (by omega)).2, hk⟩
theorem WTells.bad0 {t : Int} {n : Bool} {zs : List Int} {c : Int} (h : WTells 0 t n zs c) (hc : c ≠ 0) : c = 3 ∧ (wlim ≤ t ∨ t ≤ -wlim) := by
  by_cases h1 : wlim ≤ t ∨ t ≤ -wlim
  · exact ⟨(h.long rfl h1).2.2, h1⟩
  · have := (h.good rfl (by omega) (by omega)).1; omega
theorem WTells.tooLong {t : Int} (h : wlim ≤ t ∨ t ≤ -wlim) : WTells 0 t false [] 3 := ⟨Wd.nil, Trimmed.nil, .inl rfl, by simp, fun h' => absurd rfl h', fun _ _ => ⟨rfl, rfl, rfl⟩, fun _ h1 h2 => by rcases h with h | h <;> omega⟩
theorem WTells.is {t : Int} {n : Bool} {zs : List Int} (hw : Wd zs) (hk : wchk n zs = 0) (hv : wval n zs = t) : WTells 0 t n zs 0 := by
  obtain ⟨l, tt, s⟩ := wchk_ok hk
  have hb := below2048 hw l
  have h0 := val_nonneg hw
  refine ⟨hw, tt, s, l, fun h' => absurd rfl h', fun _ h1 => ?_, fun _ _ _ => ⟨rfl, hv⟩⟩
  exfalso
  rw [← hv] at h1
  cases n <;> simp [wval] at h1 <;> omega

/-- The error of a power. -/
def pwErr (n : Bool) (xs : List Int) (N : Int) : Int := if wchk n xs = 0 then (if N < 0 ∨ 4096 < N then 2 else 0) else wchk n xs

end Go.Proofs.YtmncfbjoplfikaaGreatDoor

/- Fractions: ratio.Floor: of any fraction, good or refused. -/
namespace Go.Proofs.YtmncfbjoplfikaaGreatDoor
open Go.RowKit
set_option linter.unusedVariables false

theorem floor_of {X Y q r : Int} (hY : 0 < Y) (h : X = q * Y + r) (r0 : 0 ≤ r) (r1 : r < (Y.natAbs : Int)) : q = X / Y := by
  have e := (Int.ediv_emod_unique hY (a := X) (r := r) (q := q)).2 ⟨by rw [Int.mul_comm Y]; omega, r0, by omega⟩
  exact e.1.symm

set_option maxHeartbeats 1600000 in
set_option maxRecDepth 100000 in
theorem rFloor_err (n : Bool) (a : Option Addr) (ca : Nat) (xs : List Int) (b : Option Addr) (cb : Nat) (ys : List Int) (w : World) (sx : Sl w (.slice a xs.length ca) xs) (sy : Sl w (.slice b ys.length cb) ys) (he : rchk n xs ys ≠ 0) (t : Int) :
    Calls Tryz.prog 13 #[.agg #[.bool n, .slice a xs.length ca, .slice b ys.length cb]] w (WTold w (rchk n xs ys) t) := by
  have HB : Hid (Below w.heap.size w ((w.alloc (.cells #[.bool n, .slice a xs.length ca, .slice b ys.length cb] 24)).alloc (.cells #[.bool false, .slice none 0 0] 41))) := bt (alloc_later _ _) (alloc_later _ _)
  have HZ : Hid (Box ((w.alloc (.cells #[.bool n, .slice a xs.length ca, .slice b ys.length cb] 24)).alloc (.cells #[.bool false, .slice none 0 0] 41)) (w.heap.size + 1) 41 #[.bool false, .slice none 0 0]) := by
    have e := Box.made (w.alloc (.cells #[.bool n, .slice a xs.length ca, .slice b ys.length cb] 24)) 41 #[.bool false, .slice none 0 0]
    simp at e
    exact e
  have HC := hid (rcheck_any n _ xs _ ys ((w.alloc (.cells #[.bool n, .slice a xs.length ca, .slice b ys.length cb] 24)).alloc (.cells #[.bool false, .slice none 0 0] 41)) (sx.later HB.out) (sy.later HB.out))
  obtain ⟨E, hE⟩ : ∃ E, rchk n xs ys = E := ⟨_, rfl⟩
  rw [hE] at HC he ⊢
  have he' : (E == 0) = false := beq_eq_false_iff_ne.2 he
  have HE := hid he
  clear he hE sx sy
  go_enter Tryz.func13, Tryz.ntmps13
  go_wp2_with fail
  refine Calls.mono HC.out ?_
  generalize ((w.alloc (.cells #[.bool n, .slice a xs.length ca, .slice b ys.length cb] 24)).alloc (.cells #[.bool false, .slice none 0 0] 41)) = X at *
  rintro e w1 ⟨rfl, hb1⟩
  obtain ⟨y0, y1, f0, f1⟩ := (HZ.out.later hb1 HZ.out.lt).c2
  have HBN := hid (below_put2 (bt HB.out hb1) (w.heap.size + 1) (by omega) (.bool false) (.slice none 0 0))
  clear hb1 HC HZ
  go_wp2_with fail
  refine bodyPost_ret (v := .tuple #[.agg #[.bool false, .slice none 0 0], .int .i64 E]) (by simp [results, Tryz.results13, go_sem, y0, y1]) rfl ?_
  exact ⟨false, _, [], E, rfl, World.ownsRow_nil _ _ _ _, WTells.err HE.out, HBN.out⟩

set_option maxHeartbeats 3200000 in
set_option maxRecDepth 100000 in
theorem rFloor_ok (n : Bool) (a : Option Addr) (ca : Nat) (xs : List Int) (b : Option Addr) (cb : Nat) (ys : List Int) (w : World) (sx : Sl w (.slice a xs.length ca) xs) (sy : Sl w (.slice b ys.length cb) ys) (hx : rchk n xs ys = 0) :
    Calls Tryz.prog 13 #[.agg #[.bool n, .slice a xs.length ca, .slice b ys.length cb]] w (WTold w 0 (wval n xs / val ys)) := by
  obtain ⟨lx, ly, tx, ty, y0', nx, g1⟩ := rchk_ok hx
  have py := val_pos' sy.wd ty y0'
  have HB : Hid (Below w.heap.size w ((w.alloc (.cells #[.bool n, .slice a xs.length ca, .slice b ys.length cb] 24)).alloc (.cells #[.bool false, .slice none 0 0] 41))) := bt (alloc_later _ _) (alloc_later _ _)
  have HZ : Hid (Box ((w.alloc (.cells #[.bool n, .slice a xs.length ca, .slice b ys.length cb] 24)).alloc (.cells #[.bool false, .slice none 0 0] 41)) (w.heap.size + 1) 41 #[.bool false, .slice none 0 0]) := by
    have e := Box.made (w.alloc (.cells #[.bool n, .slice a xs.length ca, .slice b ys.length cb] 24)) 41 #[.bool false, .slice none 0 0]
    simp at e
    exact e
  have HN : Hid (Box ((w.alloc (.cells #[.bool n, .slice a xs.length ca, .slice b ys.length cb] 24)).alloc (.cells #[.bool false, .slice none 0 0] 41)) w.heap.size 24 #[.bool n, .slice a xs.length ca, .slice b ys.length cb]) := Box.later (Box.made w _ _) (alloc_later _ _) (by simp)
  have HC := hid (rcheck_any n _ xs _ ys ((w.alloc (.cells #[.bool n, .slice a xs.length ca, .slice b ys.length cb] 24)).alloc (.cells #[.bool false, .slice none 0 0] 41)) (sx.later HB.out) (sy.later HB.out))
  rw [hx] at HC
  have HD := hid (fun ww (hb : Below ((w.alloc (.cells #[.bool n, .slice a xs.length ca, .slice b ys.length cb] 24)).alloc (.cells #[.bool false, .slice none 0 0] 41)).heap.size ((w.alloc (.cells #[.bool n, .slice a xs.length ca, .slice b ys.length cb] 24)).alloc (.cells #[.bool false, .slice none 0 0] 41)) ww) => wdivMod_any n _ xs false _ ys ww ((sx.later HB.out).later hb) ((sy.later HB.out).later hb) (wchk_good lx tx nx) (wchk_good ly ty (.inl rfl)) y0')
  have HPY : Hid (0 < val ys) := by show _ < _; omega
  clear sx sy hx tx ty g1 py lx ly nx y0'
  go_enter Tryz.func13, Tryz.ntmps13
  go_wp2_with fail
  refine Calls.mono HC.out ?_
  generalize ((w.alloc (.cells #[.bool n, .slice a xs.length ca, .slice b ys.length cb] 24)).alloc (.cells #[.bool false, .slice none 0 0] 41)) = X at *
  rintro e w1 ⟨rfl, hb1⟩
  have HCD := hid (HD.out w1 hb1)
  obtain ⟨p0, p1, p2, _⟩ := res_box3 HN.out hb1
  have HB1 := hid hb1
  clear hb1 HC HD
  go_wp2_with fail
  refine Calls.mono HCD.out ?_
  rintro e w2 ⟨nq, vq, zq, vr, zr, rfl, oq, orr, wq, wr, tq, tr, lq, lr, sq, hX, hY, hb2⟩
  obtain ⟨aq, kq, hs⟩ := own_slice' oq
  subst hs
  obtain ⟨ar, kr, hs⟩ := own_slice' orr
  subst hs
  have HT := hid (WTells.is wq (wchk_good lq tq sq) (floor_of (Y := val ys) HPY.out hX (val_nonneg wr) hY))
  have HZ2 := hid (HZ.out.later (bt HB1.out hb2) HZ.out.lt)
  obtain ⟨y0, y1, f0, f1⟩ := HZ2.out.c2
  have hlt : w.heap.size + 1 < w2.heap.size := HZ2.out.lt
  have hlt2 : w.heap.size < w2.heap.size := by omega
  have HO := hid (own_put2 (owns_base oq (Nat.le_trans HB.out.size HB1.out.size)) (w.heap.size + 1) (own_ne_box oq HZ2.out (by decide)) (.bool nq) (.slice aq zq.length kq))
  have HBN := hid (below_put2 (bt HB.out (bt HB1.out hb2)) (w.heap.size + 1) (by omega) (.bool nq) (.slice aq zq.length kq))
  clear oq orr wq wr tq tr lq lr sq hX hY hb2 HCD p0 p1 p2 HZ HN HB HB1 HPY HZ2
  go_wp2_with fail
  refine bodyPost_ret (v := .tuple #[.agg #[.bool nq, .slice aq zq.length kq], .int .i64 0]) (by simp [results, Tryz.results13, go_sem, y0, y1, hlt, hlt2]) rfl ?_
  exact ⟨nq, _, zq, 0, rfl, owns_later (owns_later HO.out (alloc_later _ _)) (alloc_later _ _), HT.out, bt (bt HBN.out (alloc_later _ _)) (alloc_later _ _)⟩
theorem rFloor_full (n : Bool) (a : Option Addr) (ca : Nat) (xs : List Int) (b : Option Addr) (cb : Nat) (ys : List Int) (w : World) (sx : Sl w (.slice a xs.length ca) xs) (sy : Sl w (.slice b ys.length cb) ys) :
    Calls Tryz.prog 13 #[.agg #[.bool n, .slice a xs.length ca, .slice b ys.length cb]] w (WTold w (rchk n xs ys) (wval n xs / val ys)) := by
  by_cases he : rchk n xs ys = 0
  · rw [he]; exact rFloor_ok n a ca xs b cb ys w sx sy he
  · exact rFloor_err n a ca xs b cb ys w sx sy he _
end Go.Proofs.YtmncfbjoplfikaaGreatDoor

/- Whole numbers: whole.Compare, Abs: of every two numbers whose words can be read. -/
namespace Go.Proofs.YtmncfbjoplfikaaGreatDoor
open Go.RowKit
set_option linter.unusedVariables false

theorem cmp_neg (x y : Int) : cmpI (-x) (-y) = cmpI y x := by
  unfold cmpI
  by_cases h1 : y < x
  · rw [if_pos (by omega), if_pos h1]
  · rw [if_neg (by omega), if_neg h1]
    by_cases h2 : x < y
    · rw [if_pos (by omega), if_pos h2]
    · rw [if_neg (by omega), if_neg (by omega)]
theorem ret_cmp {a b c d : Int} (h : a = b) (g : c = d) : Ending.returned (.tuple #[.int .i64 a, .int .i64 c]) = .returned (.tuple #[.int .i64 b, .int .i64 d]) := by rw [h, g]

end Go.Proofs.YtmncfbjoplfikaaGreatDoor

/- Whole numbers: whole.Sub; slackwaterlaw02.add, mul, same: of numbers that may be. -/
namespace Go.Proofs.YtmncfbjoplfikaaGreatDoor
open Go.RowKit
set_option linter.unusedVariables false

theorem wval_neg (m : Bool) (ys : List Int) (h : m = false ∨ 0 < ys.length) : wval (!m && decide (0 < ys.length)) ys = -(wval m ys) := by
  by_cases c : 0 < ys.length
  · cases m <;> simp [wval, c]
  · have e0 : val ys = 0 := trimmed_zero' (by omega)
    cases m <;> simp [wval, c, e0]

/-- A whole number that may be, and true. -/
def WOk (w : World) (t : Int) (x : Ending) (w' : World) : Prop := ∃ n v zs, x = .returned (.tuple #[.agg #[.bool n, v], .bool true]) ∧ w'.ownsRow w.heap.size 30 1 v zs.length (zs.map (Value.int .u32)) ∧ Wd zs ∧ wchk n zs = 0 ∧ wval n zs = t ∧ Below w.heap.size w w'

theorem wsame' {n m : Bool} {xs ys : List Int} (wx : Wd xs) (wy : Wd ys) (tx : Trimmed xs) (ty : Trimmed ys) (nx : n = false ∨ 0 < xs.length) (ny : m = false ∨ 0 < ys.length) (h : wval n xs = wval m ys) : n = m ∧ xs = ys := by
  have x0 := val_nonneg wx
  have y0 := val_nonneg wy
  cases n <;> cases m
  · exact ⟨rfl, trimmed_eq wx wy tx ty h⟩
  · have e : val xs = -(val ys) := h
    have := val_pos' wy ty (ny.elim (fun e => by cases e) id)
    omega
  · have e : -(val xs) = val ys := h
    have := val_pos' wx tx (nx.elim (fun e => by cases e) id)
    omega
  · have e : -(val xs) = -(val ys) := h
    exact ⟨rfl, trimmed_eq wx wy tx ty (by omega)⟩

end Go.Proofs.YtmncfbjoplfikaaGreatDoor

/- nat.split tells a number's pieces of nine digits, the lowest first, in new memory. -/
namespace Go.Proofs.YtmncfbjoplfikaaGreatDoor
open Go.RowKit
set_option linter.unusedVariables false

/-- The value of pieces of nine digits. -/
def pval : List Int → Int
  | [] => 0
  | p :: ps => p + pval ps * 1000000000
theorem pval_snoc : ∀ (ps : List Int) (p : Int), pval (ps ++ [p]) = pval ps + p * 1000000000 ^ ps.length
  | [], p => by simp [pval]
  | q :: ps, p => by
    show q + pval (ps ++ [p]) * 1000000000 = q + pval ps * 1000000000 + p * 1000000000 ^ (ps.length + 1)
    rw [pval_snoc ps p, Int.add_mul, Int.pow_succ, ← Int.mul_assoc, Int.add_assoc]
/-- Each number is a piece of nine digits. -/
def Pc (ps : List Int) : Prop := ∀ p ∈ ps, 0 ≤ p ∧ p < 1000000000
theorem Pc.snoc {ps : List Int} (h : Pc ps) {p : Int} (h0 : 0 ≤ p ∧ p < 1000000000) : Pc (ps ++ [p]) := fun q hq => by
  rcases List.mem_append.1 hq with hq | hq
  · exact h q hq
  · simp at hq; rw [hq]; exact h0
theorem Pc.at {ps : List Int} (h : Pc ps) (j : Nat) : 0 ≤ ps[j]?.getD 0 ∧ ps[j]?.getD 0 < 1000000000 := by
  by_cases hj : j < ps.length
  · rw [List.getElem?_eq_getElem hj]; exact h _ (List.getElem_mem hj)
  · rw [List.getElem?_eq_none (by omega)]; exact ⟨by decide, by decide⟩
theorem pval_nonneg {ps : List Int} (h : Pc ps) : 0 ≤ pval ps := by
  induction ps with
  | nil => exact Int.le_refl _
  | cons p ps ih =>
    have h1 := h p List.mem_cons_self
    have h2 := ih (fun q hq => h q (List.mem_cons_of_mem _ hq))
    show 0 ≤ p + pval ps * 1000000000
    omega

/-- So many pieces a number of at most 8,192 words has. -/
theorem pieces_few (xs ps : List Int) (v : Int) (K : Nat) (hx : Wd xs) (hl : xs.length ≤ K) (hp : Pc ps) (hv : 1 ≤ v) (h : val xs = pval ps + v * 1000000000 ^ ps.length) : 29 * ps.length < 32 * K := by
  have h1 := val_lt hx
  have h2 : (4294967296 : Int) ^ xs.length ≤ 4294967296 ^ K := pw_le hl
  have h3 := pval_nonneg hp
  have h4 : (0 : Int) < 1000000000 ^ ps.length := Int.pow_pos (by decide)
  have h5 : 1 * (1000000000 : Int) ^ ps.length ≤ v * 1000000000 ^ ps.length := Int.mul_le_mul_of_nonneg_right hv (Int.le_of_lt h4)
  have h6 : (1000000000 : Int) ^ ps.length < 4294967296 ^ K := by omega
  have h7 : (1000000000 : Nat) ^ ps.length < 4294967296 ^ K := by
    refine Int.ofNat_lt.1 ?_
    rw [Int.natCast_pow, Int.natCast_pow]
    exact h6
  have h8 : (2 ^ 29 : Nat) ^ ps.length ≤ 1000000000 ^ ps.length := Nat.pow_le_pow_left (by decide) _
  have h9 : (4294967296 : Nat) ^ K = 2 ^ (32 * K) := by rw [show (4294967296 : Nat) = 2 ^ 32 by decide, ← Nat.pow_mul]
  rw [h9] at h7
  rw [← Nat.pow_mul] at h8
  have h10 : 2 ^ (29 * ps.length) < 2 ^ (32 * K) := Nat.lt_of_le_of_lt h8 h7
  exact (Nat.pow_lt_pow_iff_right (a := 2) (by decide)).1 h10

theorem trimmed_zero {us : List Int} (hw : Wd us) (ht : Trimmed us) : us.length = 0 ↔ val us = 0 := by
  constructor
  · intro h
    rw [List.eq_nil_of_length_eq_zero h]; rfl
  · intro h
    have := trimmed_eq hw Wd.nil ht Trimmed.nil (by rw [h, val_nil])
    rw [this]; rfl

set_option maxHeartbeats 3200000 in
set_option maxRecDepth 100000 in
theorem split_any (v : Value) (xs : List Int) (w : World) (h : Sl w v xs) (hn : xs.length ≤ 8192) (hx : Trimmed xs) (hpos : 0 < xs.length) :
    Calls Tryz.prog 55 #[v] w fun e w' => ∃ (vp : Value) (ps : List Int), e = .returned vp ∧ w'.ownsRow w.heap.size 30 1 vp ps.length (ps.map (Value.int .u32)) ∧ Pc ps ∧ pval ps = val xs ∧ 0 < ps.length ∧ ps.length ≤ 9040 ∧ 0 < ps[ps.length - 1]?.getD 0 ∧ Below w.heap.size w w' := by
  obtain ⟨i0, hi, hz0, hz1, hz2⟩ := info_parts Tryz.infoW
  have wx := h.wd
  have HX := hid hx
  clear hx
  go_enter Tryz.func55, Tryz.ntmps55
  go_wp2_with fail
  refine (trim_sl v xs w h (by omega)).mono ?_
  rintro e w1 ⟨vt, rfl, ot, hb1⟩
  rw [show sz xs = xs.length from HX.out, trimmed_of HX.out] at ot
  obtain ⟨gl, cl, hvl, hcl1, hcl2⟩ := own_shape' ot hpos
  rw [hvl] at ot ⊢
  have hgl := ot.lt gl rfl
  have hcl3 : cl ≤ 9223372036854775807 := by unfold maxLen at hcl2; omega
  clear hcl2 hvl h
  go_wp2_with fail
  go_loopg [3, 4] (val xs).toNat (fun k l p wr => ∃ (n : Nat) (us ps : List Int), l = .slice (some ⟨gl, 0, none⟩) n cl ∧ n ≤ xs.length ∧ OwnC wr w.heap.size gl n cl us ∧ Wd us ∧ Trimmed us ∧ Hid ((k : Int) = val us) ∧
    wr.ownsRow (gl + 1) 30 1 p ps.length (ps.map (Value.int .u32)) ∧ Pc ps ∧ Hid (val xs = pval ps + val us * 1000000000 ^ ps.length) ∧ ps.length ≤ 9040 ∧ Hid (n = 0 → 0 < ps.length ∧ 0 < ps[ps.length - 1]?.getD 0) ∧ Below w.heap.size w wr)
  case atStart => exact ⟨xs.length, xs, [], rfl, Nat.le_refl _, ot, wx, HX.out, show _ = _ by have := val_nonneg wx; omega, World.ownsRow_nil _ _ _ _, fun _ h => by simp at h, show _ = _ by simp [pval], by simp, fun e => by omega, hb1⟩
  case round =>
    obtain ⟨n, us, ps, rfl, hnx, ho, hwu, htu, HKK, hop, hpc, HV, hpl, HL, hb⟩ := hrel
    have hlu := ho.len
    rcases n with _ | n
    · have hu0 : us = [] := List.eq_nil_of_length_eq_zero hlu
      have HV' : Hid (pval ps = val xs) := by show _ = _; rw [HV.out, hu0, val_nil]; simp
      have HL' := hid (HL.out rfl)
      have HO' := hid (owns_base (base' := w.heap.size) hop (by omega))
      clear HV HL hop ho hu0 hlu HKK
      go_wp2_with fail
      go_ret
      exact ⟨_, ps, rfl, HO'.out, hpc, HV'.out, HL'.out.1, hpl, HL'.out.2, hb⟩
    · have hv1 : 1 ≤ val us := by
        have h0 := val_nonneg hwu
        have h1 := (trimmed_zero hwu htu)
        have : ¬ val us = 0 := fun e => by have := h1.2 e; omega
        omega
      have hfew : ps.length ≤ 9039 := by have := pieces_few xs ps (val us) 8192 wx hn hpc hv1 HV.out; omega
      have HW1 := hid hv1
      have HLU := hid hlu
      clear hv1 hlu
      go_wp2_with fail
      refine (divideByWord_any _ _ _ _ us 1000000000 wr ho hwu (by omega) ⟨by omega, by omega⟩).mono ?_
      rintro e w2 ⟨r, qs, rfl, r0, r1, oq, hwq, hvq, hg2⟩
      have hop2 := hop.kept hg2 (by
        cases e : u4.ownBlock with
        | none => exact .inl rfl
        | some g => right; intro e2; have := hop.lt g e; simp at e2; omega)
      have hgs := hg2.size
      have hgl2 : gl < w2.heap.size := (World.ownsRow.lt oq gl rfl).2
      have hbs := hb.size
      have hb2 : Below w.heap.size w w2 := hb.grown hg2 (by omega) (fun k hk => by simp at hk; omega)
      obtain ⟨R, hR⟩ : ∃ R, R = ps.map (Value.int .u32) := ⟨_, rfl⟩
      have HM : Hid ((ps ++ [r]).map (Value.int .u32) = R ++ [.int .u32 r]) := by show _ = _; rw [hR]; simp
      rw [← hR] at hop2
      have HOQ := hid oq
      have HVQ := hid hvq
      clear hR hop ho hg2 hb oq hvq
      go_wp2_with (at_builtin; refine wpList_append_own _ rfl _ _ 22 rfl (gl + 1) 30 i0 (.int .u32 0) 1 4 Tryz.underlying22 hi hz0 hz1 hz2 rfl (by decide) _ _ _ rfl (hop2.alloc _) ⟨w2.heap.size, 0, none⟩ 1 1 [.int .u32 r] rfl rfl (cell_one_new _ _ _) (by simp [Value.oneCell']) (by unfold maxLen; omega) (by omega) (by simp; omega) ?_)
      intro v3 w3 op3 hg3 _
      have hb3 : Below w.heap.size w w3 := (hb2.alloc (by omega) _).grown hg3 (by simp; omega) (fun g hg => by have := hop2.lt g hg; omega)
      have oq3 : OwnC w3 w.heap.size gl (n + 1) cl qs := by
        have := World.ownsRow.kept (World.ownsRow.alloc HOQ.out (.cells #[.int .u32 r] 30)) hg3 (by
          right
          intro e
          have := hop2.lt gl e.symm
          omega)
        exact this
      have sx := sz_le qs
      rw [oq3.len] at sx
      have hr3 : Reads w3 w3.heap.size (some ⟨gl, 0, none⟩) (n + 1) cl qs := by
        obtain ⟨a, cap, hv, hr⟩ := Reads.own oq3 hwq
        simp only [Value.slice.injEq] at hv
        obtain ⟨rfl, _, rfl⟩ := hv
        exact hr
      have HQ3 := hid (oq3.take (sz qs) sx)
      have HP3 := hid op3
      have HR3 := hid hr3
      have hc3 := oq3.cap
      have hc4 : cl ≤ 9223372036854775807 := hcl3
      clear hg3 op3 oq3 hr3 hop2 hc3
      go_wp2_with fail
      refine (size_any _ _ _ qs _ _ HR3.out (by omega)).mono ?_
      rintro e w4 ⟨rfl, rfl⟩
      have e1 : val us = val qs * 1000000000 + r := HVQ.out
      have HKK' : Hid (((val qs).toNat : Int) = val (trimmed qs)) := by show _ = _; rw [val_trimmed]; have := val_nonneg hwq; omega
      have HV' : Hid (val xs = pval (ps ++ [r]) + val (trimmed qs) * 1000000000 ^ (ps ++ [r]).length) := by
        show _ = _
        rw [val_trimmed, pval_snoc, HV.out, e1, List.length_append, List.length_singleton, Int.pow_succ, Int.add_mul, Int.mul_assoc, Int.mul_comm 1000000000 (1000000000 ^ ps.length), ← Int.mul_assoc]
        omega
      have HL' : Hid (sz qs = 0 → 0 < (ps ++ [r]).length ∧ 0 < (ps ++ [r])[(ps ++ [r]).length - 1]?.getD 0) := fun e0 => by
        refine ⟨by simp, ?_⟩
        have e2 : val qs = 0 := by rw [val_sz, e0]; rfl
        have := HW1.out
        simp
        omega
      have hless : (val qs).toNat < gk := by have := HKK.out; have := HW1.out; have := val_nonneg hwq; omega
      have HLS := hid hless
      have HPL : Hid ((ps ++ [r]).length ≤ 9040) := by show _ ≤ _; simp; omega
      have HPP : Hid (w3.ownsRow (gl + 1) 30 1 v3 (ps ++ [r]).length ((ps ++ [r]).map (Value.int .u32))) := by
        show World.ownsRow _ _ _ _ _ _ _
        rw [HM.out, List.length_append, List.length_singleton]
        exact HP3.out
      clear e1 hless HP3
      go_wp2_with fail
      go_roundg (val qs).toNat
      case measure => exact HLS.out
      case rel => exact ⟨sz qs, trimmed qs, ps ++ [r], rfl, by omega, HQ3.out, hwq.trimmed, Trimmed.trimmed _, HKK', HPP.out, hpc.snoc ⟨r0, r1⟩, HV', HPL.out, HL', hb3⟩
end Go.Proofs.YtmncfbjoplfikaaGreatDoor

/- Boxes of fractions, rows of the call's own and one box of a flag, in a bundle that is moved along. -/
namespace Go.Proofs.YtmncfbjoplfikaaGreatDoor
open Go.RowKit
set_option linter.unusedVariables false

theorem Box.same {w : World} {b t : Nat} {vs : Array Value} (h : Box w b t vs) {j : Nat} {v : Value} (hv : vs[j]? = some v) : w.setCell ⟨b, j, none⟩ v = w := by
  have e : (w.setCell ⟨b, j, none⟩ v).heap = w.heap := by
    have h' : w.heap[b]? = some (.cells vs t (0, 0)) := h
    have hs : vs.setIfInBounds j v = vs := by
      apply Array.ext_getElem?
      intro k
      rw [Array.getElem?_setIfInBounds]
      by_cases c : j = k
      · subst c
        obtain ⟨hk, _⟩ := Array.getElem?_eq_some_iff.1 hv
        rw [if_pos rfl, if_pos hk, hv]
      · rw [if_neg c]
    unfold World.setCell
    apply Array.ext_getElem?
    intro k
    simp only [Array.getElem?_modify]
    by_cases c : b = k
    · subst c
      rw [if_pos rfl, h']
      simp [hs]
    · rw [if_neg c]
  cases w
  simp only [World.setCell] at e ⊢
  rw [e]
theorem own_put1 {w : World} {base e n : Nat} {v : Value} {xs : List Value} (h : w.ownsRow base e 1 v n xs) (b : Nat) (hb : ∀ g, v.ownBlock = some g → g ≠ b) (j : Nat) (v0 : Value) : (w.setCell ⟨b, j, none⟩ v0).ownsRow base e 1 v n xs := by
  have hne : v.ownBlock = none ∨ v.ownBlock ≠ some b := by
    cases hv : v.ownBlock with
    | none => exact .inl rfl
    | some g => right; intro e; exact hb g hv (Option.some.inj e)
  exact World.ownsRow.kept h (grown_set w ⟨b, j, none⟩ v0) hne
/-- Boxes that hold fractions. -/
def Bxs3 (W : World) (l : List (Nat × Array Value)) : Prop := ∀ p ∈ l, Box W p.1 24 p.2
def Rws (W : World) (l : List (Nat × Value × List Int)) : Prop := ∀ p ∈ l, W.ownsRow p.1 30 1 p.2.1 p.2.2.length (p.2.2.map (Value.int .u32))
/-- What is known of a world: boxes of fractions, rows of the call's own, what was there. -/
structure St (w W : World) (l : List (Nat × Array Value)) (r : List (Nat × Value × List Int)) : Prop where
  box : Bxs3 W l
  row : Rws W r
  bel : Below w.heap.size w W
theorem St.later {w W W' : World} {l : List (Nat × Array Value)} {r : List (Nat × Value × List Int)} (h : St w W l r) (hb : Below W.heap.size W W') : St w W' l r :=
  ⟨fun p hp => (h.box p hp).later hb (h.box p hp).lt, fun p hp => owns_later (h.row p hp) hb, bt h.bel hb⟩
theorem St.more {w W : World} {l : List (Nat × Array Value)} {r : List (Nat × Value × List Int)} (h : St w W l r) {base : Nat} {v : Value} {zs : List Int} (o : W.ownsRow base 30 1 v zs.length (zs.map (Value.int .u32))) : St w W l ((base, v, zs) :: r) :=
  ⟨h.box, fun p hp => by
    cases hp with
    | head => exact o
    | tail _ hp => exact h.row p hp, h.bel⟩
theorem St.put {w W : World} {l : List (Nat × Array Value)} {r : List (Nat × Value × List Int)} (h : St w W l r) (n : Bool) (v u : Value) : St w (W.alloc (.cells #[.bool n, v, u] 24)) ((W.heap.size, #[.bool n, v, u]) :: l) r :=
  ⟨fun p hp => by
    cases hp with
    | head => exact Box.made W _ _
    | tail _ hp => exact (h.box p hp).later (alloc_later _ _) (h.box p hp).lt, (h.later (alloc_later _ _)).row, (h.later (alloc_later _ _)).bel⟩
theorem St.get {w W : World} {l : List (Nat × Array Value)} {r : List (Nat × Value × List Int)} (h : St w W l r) {g : Nat} {n : Bool} {v u : Value} (hm : (g, #[.bool n, v, u]) ∈ l) : W.cell? ⟨g, 0, none⟩ = some (.bool n) ∧ W.cell? ⟨g, 1, none⟩ = some v ∧ W.cell? ⟨g, 2, none⟩ = some u := ⟨(h.box _ hm).cell 0, (h.box _ hm).cell 1, (h.box _ hm).cell 2⟩
theorem St.free {w W : World} {l : List (Nat × Array Value)} {r : List (Nat × Value × List Int)} (h : St w W l r) {g : Nat} {n : Bool} {v u : Value} (hm : (g, #[.bool n, v, u]) ∈ l) : W.frozen? ⟨g, 0, none⟩ = false ∧ W.frozen? ⟨g, 1, none⟩ = false ∧ W.frozen? ⟨g, 2, none⟩ = false := ⟨(h.box _ hm).free 0, (h.box _ hm).free 1, (h.box _ hm).free 2⟩
theorem St.same {w W : World} {l : List (Nat × Array Value)} {r : List (Nat × Value × List Int)} (h : St w W l r) {g : Nat} {n : Bool} {v u : Value} (hm : (g, #[.bool n, v, u]) ∈ l) : W.setCell ⟨g, 0, none⟩ (.bool n) = W ∧ W.setCell ⟨g, 1, none⟩ v = W ∧ W.setCell ⟨g, 2, none⟩ u = W := ⟨(h.box _ hm).same rfl, (h.box _ hm).same rfl, (h.box _ hm).same rfl⟩
theorem St.sl {w W : World} {l : List (Nat × Array Value)} {r : List (Nat × Value × List Int)} (h : St w W l r) {base : Nat} {v : Value} {zs : List Int} (wd : Wd zs) (hm : (base, v, zs) ∈ r) : Sl W v zs := Sl.own (h.row _ hm) wd
/-- A store into a box of another type. -/
theorem St.flag {w W : World} {l : List (Nat × Array Value)} {r : List (Nat × Value × List Int)} (h : St w W l r) {g t : Nat} {vs : Array Value} (b : Box W g t vs) (hg : w.heap.size ≤ g) (h1 : t ≠ 24) (h2 : t ≠ 30) (j : Nat) (v : Value) : St w (W.setCell ⟨g, j, none⟩ v) l r := by
  refine ⟨fun p hp => (h.box p hp).other _ _ (fun e => ?_), fun p hp => own_put1 (h.row p hp) g (own_ne_box (h.row p hp) b (Ne.symm h2)) _ _, h.bel.setCell (p := ⟨g, j, none⟩) hg _⟩
  · have e1 := h.box p hp
    rw [e] at e1
    have e2 : some (Obj.cells p.2 24 (0, 0)) = some (.cells vs t (0, 0)) := e1.symm.trans b
    injection e2 with e3
    injection e3 with _ e4 _
    exact h1 e4.symm
end Go.Proofs.YtmncfbjoplfikaaGreatDoor

/- Fractions: ratio.Make, ratio.Small. -/
namespace Go.Proofs.YtmncfbjoplfikaaGreatDoor
open Go.RowKit
set_option linter.unusedVariables false

set_option maxHeartbeats 3200000 in
set_option maxRecDepth 100000 in
theorem rmake_e1 (n : Bool) (a : Option Addr) (ca : Nat) (xs : List Int) (m : Bool) (b : Option Addr) (cb : Nat) (ys : List Int) (w : World) (h : Sl w (.slice a xs.length ca) xs) (g : Sl w (.slice b ys.length cb) ys) (lx : xs.length ≤ 281474976710656) (ly : ys.length ≤ 281474976710656) (hx : wchk n xs ≠ 0) (q : Rat) :
    Calls Tryz.prog 14 #[.agg #[.bool n, .slice a xs.length ca], .agg #[.bool m, .slice b ys.length cb]] w (RToldA w (wchk n xs) q) := by
  have HB : Hid (Below w.heap.size w (((w.alloc (.cells #[.bool n, .slice a xs.length ca] 41)).alloc (.cells #[.bool m, .slice b ys.length cb] 41)).alloc (.cells #[.bool false, .slice none 0 0, .slice none 0 0] 24))) := bt (bt (alloc_later _ _) (alloc_later _ _)) (alloc_later _ _)
  have HZ : Hid (Box (((w.alloc (.cells #[.bool n, .slice a xs.length ca] 41)).alloc (.cells #[.bool m, .slice b ys.length cb] 41)).alloc (.cells #[.bool false, .slice none 0 0, .slice none 0 0] 24)) (w.heap.size + 1 + 1) 24 #[.bool false, .slice none 0 0, .slice none 0 0]) := by
    have e := Box.made ((w.alloc (.cells #[.bool n, .slice a xs.length ca] 41)).alloc (.cells #[.bool m, .slice b ys.length cb] 41)) 24 #[.bool false, .slice none 0 0, .slice none 0 0]
    simp at e
    exact e
  have HN : Hid (Box (((w.alloc (.cells #[.bool n, .slice a xs.length ca] 41)).alloc (.cells #[.bool m, .slice b ys.length cb] 41)).alloc (.cells #[.bool false, .slice none 0 0, .slice none 0 0] 24)) w.heap.size 41 #[.bool n, .slice a xs.length ca]) := Box.later (Box.later (Box.made w _ _) (alloc_later _ _) (by simp)) (alloc_later _ _) (by simp; omega)
  have HM : Hid (Box (((w.alloc (.cells #[.bool n, .slice a xs.length ca] 41)).alloc (.cells #[.bool m, .slice b ys.length cb] 41)).alloc (.cells #[.bool false, .slice none 0 0, .slice none 0 0] 24)) (w.heap.size + 1) 41 #[.bool m, .slice b ys.length cb]) := by
    have e := Box.later (Box.made (w.alloc (.cells #[.bool n, .slice a xs.length ca] 41)) 41 #[.bool m, .slice b ys.length cb]) (alloc_later ((w.alloc (.cells #[.bool n, .slice a xs.length ca] 41)).alloc (.cells #[.bool m, .slice b ys.length cb] 41)) (.cells #[.bool false, .slice none 0 0, .slice none 0 0] 24)) (by simp)
    simp at e
    exact e
  have HS := hid (And.intro (h.later HB.out) (g.later HB.out))
  have HXS : Hid (w.heap.size + 1 + 1 < (((w.alloc (.cells #[.bool n, .slice a xs.length ca] 41)).alloc (.cells #[.bool m, .slice b ys.length cb] 41)).alloc (.cells #[.bool false, .slice none 0 0, .slice none 0 0] 24)).heap.size) := HZ.out.lt
  have HC1 := hid (wcheck_any n _ xs _ HS.out.1 lx)
  obtain ⟨e1, he1⟩ : ∃ e1, wchk n xs = e1 := ⟨_, rfl⟩
  rw [he1] at HC1 hx ⊢
  have hx' : (e1 == 0) = false := beq_eq_false_iff_ne.2 hx
  have HE := hid hx
  clear he1 hx
  clear h g
  go_enter Tryz.func14, Tryz.ntmps14
  go_wp2_with fail
  refine Calls.mono HC1.out ?_
  generalize (((w.alloc (.cells #[.bool n, .slice a xs.length ca] 41)).alloc (.cells #[.bool m, .slice b ys.length cb] 41)).alloc (.cells #[.bool false, .slice none 0 0, .slice none 0 0] 24)) = X at *
  rintro e w1 ⟨rfl, hb1⟩
  have HB1 := hid hb1
  clear hb1 HC1
  obtain ⟨y0, y1, y2, f0, f1, f2⟩ := res_box3 HZ.out HB1.out
  have HBN := hid (below_put3 (bt HB.out HB1.out) (w.heap.size + 1 + 1) (by omega) (.bool false) (.slice none 0 0) (.slice none 0 0))
  clear HN HM HZ HS
  go_wp2_with fail
  refine bodyPost_ret (v := .tuple #[.agg #[.bool false, .slice none 0 0, .slice none 0 0], .int .i64 e1]) (by simp [results, Tryz.results14, go_sem, y0, y1, y2]) rfl ?_
  exact ⟨false, _, [], _, [], _, rfl, World.ownsRow_nil _ _ _ _, World.ownsRow_nil _ _ _ _, RTells.err HE.out, HBN.out, ⟨w.heap.size, Nat.le_refl _, HBN.out.size, fun g hg => by simp [Value.ownBlock] at hg, fun g hg => by simp [Value.ownBlock] at hg⟩⟩

set_option maxHeartbeats 3200000 in
set_option maxRecDepth 100000 in
theorem rmake_e2 (n : Bool) (a : Option Addr) (ca : Nat) (xs : List Int) (m : Bool) (b : Option Addr) (cb : Nat) (ys : List Int) (w : World) (h : Sl w (.slice a xs.length ca) xs) (g : Sl w (.slice b ys.length cb) ys) (lx : xs.length ≤ 281474976710656) (ly : ys.length ≤ 281474976710656) (hx : wchk n xs = 0) (hy : wchk m ys ≠ 0) (q : Rat) :
    Calls Tryz.prog 14 #[.agg #[.bool n, .slice a xs.length ca], .agg #[.bool m, .slice b ys.length cb]] w (RToldA w (wchk m ys) q) := by
  have HB : Hid (Below w.heap.size w (((w.alloc (.cells #[.bool n, .slice a xs.length ca] 41)).alloc (.cells #[.bool m, .slice b ys.length cb] 41)).alloc (.cells #[.bool false, .slice none 0 0, .slice none 0 0] 24))) := bt (bt (alloc_later _ _) (alloc_later _ _)) (alloc_later _ _)
  have HZ : Hid (Box (((w.alloc (.cells #[.bool n, .slice a xs.length ca] 41)).alloc (.cells #[.bool m, .slice b ys.length cb] 41)).alloc (.cells #[.bool false, .slice none 0 0, .slice none 0 0] 24)) (w.heap.size + 1 + 1) 24 #[.bool false, .slice none 0 0, .slice none 0 0]) := by
    have e := Box.made ((w.alloc (.cells #[.bool n, .slice a xs.length ca] 41)).alloc (.cells #[.bool m, .slice b ys.length cb] 41)) 24 #[.bool false, .slice none 0 0, .slice none 0 0]
    simp at e
    exact e
  have HN : Hid (Box (((w.alloc (.cells #[.bool n, .slice a xs.length ca] 41)).alloc (.cells #[.bool m, .slice b ys.length cb] 41)).alloc (.cells #[.bool false, .slice none 0 0, .slice none 0 0] 24)) w.heap.size 41 #[.bool n, .slice a xs.length ca]) := Box.later (Box.later (Box.made w _ _) (alloc_later _ _) (by simp)) (alloc_later _ _) (by simp; omega)
  have HM : Hid (Box (((w.alloc (.cells #[.bool n, .slice a xs.length ca] 41)).alloc (.cells #[.bool m, .slice b ys.length cb] 41)).alloc (.cells #[.bool false, .slice none 0 0, .slice none 0 0] 24)) (w.heap.size + 1) 41 #[.bool m, .slice b ys.length cb]) := by
    have e := Box.later (Box.made (w.alloc (.cells #[.bool n, .slice a xs.length ca] 41)) 41 #[.bool m, .slice b ys.length cb]) (alloc_later ((w.alloc (.cells #[.bool n, .slice a xs.length ca] 41)).alloc (.cells #[.bool m, .slice b ys.length cb] 41)) (.cells #[.bool false, .slice none 0 0, .slice none 0 0] 24)) (by simp)
    simp at e
    exact e
  have HS := hid (And.intro (h.later HB.out) (g.later HB.out))
  have HXS : Hid (w.heap.size + 1 + 1 < (((w.alloc (.cells #[.bool n, .slice a xs.length ca] 41)).alloc (.cells #[.bool m, .slice b ys.length cb] 41)).alloc (.cells #[.bool false, .slice none 0 0, .slice none 0 0] 24)).heap.size) := HZ.out.lt
  have HC1 := hid (wcheck_any n _ xs _ HS.out.1 lx)
  rw [hx] at HC1
  obtain ⟨e1, he1⟩ : ∃ e1, wchk m ys = e1 := ⟨_, rfl⟩
  have HC2 := hid (fun ww (hb : Below _ (((w.alloc (.cells #[.bool n, .slice a xs.length ca] 41)).alloc (.cells #[.bool m, .slice b ys.length cb] 41)).alloc (.cells #[.bool false, .slice none 0 0, .slice none 0 0] 24)) ww) => wcheck_any m _ ys ww (HS.out.2.later hb) ly)
  rw [he1] at HC2 hy ⊢
  have hy' : (e1 == 0) = false := beq_eq_false_iff_ne.2 hy
  have HE := hid hy
  clear he1 hy hx
  clear h g
  go_enter Tryz.func14, Tryz.ntmps14
  go_wp2_with fail
  refine Calls.mono HC1.out ?_
  generalize (((w.alloc (.cells #[.bool n, .slice a xs.length ca] 41)).alloc (.cells #[.bool m, .slice b ys.length cb] 41)).alloc (.cells #[.bool false, .slice none 0 0, .slice none 0 0] 24)) = X at *
  rintro e w1 ⟨rfl, hb1⟩
  have HB1 := hid hb1
  clear hb1 HC1
  have HC := hid (HC2.out w1 HB1.out)
  obtain ⟨q0, q1, _, _⟩ := (HM.out.later HB1.out HM.out.lt).c2
  clear HC2
  go_wp2_with fail
  refine Calls.mono HC.out ?_
  rintro e w2 ⟨rfl, hb2⟩
  have HB2 := hid (bt HB1.out hb2)
  clear hb2 HC q0 q1
  obtain ⟨y0, y1, y2, f0, f1, f2⟩ := res_box3 HZ.out HB2.out
  have HBN := hid (below_put3 (bt HB.out HB2.out) (w.heap.size + 1 + 1) (by omega) (.bool false) (.slice none 0 0) (.slice none 0 0))
  clear HN HM HZ HS
  go_wp2_with fail
  refine bodyPost_ret (v := .tuple #[.agg #[.bool false, .slice none 0 0, .slice none 0 0], .int .i64 e1]) (by simp [results, Tryz.results14, go_sem, y0, y1, y2]) rfl ?_
  exact ⟨false, _, [], _, [], _, rfl, World.ownsRow_nil _ _ _ _, World.ownsRow_nil _ _ _ _, RTells.err HE.out, HBN.out, ⟨w.heap.size, Nat.le_refl _, HBN.out.size, fun g hg => by simp [Value.ownBlock] at hg, fun g hg => by simp [Value.ownBlock] at hg⟩⟩

set_option maxHeartbeats 3200000 in
set_option maxRecDepth 100000 in
theorem rmake_z (n : Bool) (a : Option Addr) (ca : Nat) (xs : List Int) (m : Bool) (b : Option Addr) (cb : Nat) (ys : List Int) (w : World) (h : Sl w (.slice a xs.length ca) xs) (g : Sl w (.slice b ys.length cb) ys) (lx : xs.length ≤ 281474976710656) (ly : ys.length ≤ 281474976710656) (hx : wchk n xs = 0) (hy : wchk m ys = 0) (h0 : ys.length = 0) (q : Rat) :
    Calls Tryz.prog 14 #[.agg #[.bool n, .slice a xs.length ca], .agg #[.bool m, .slice b ys.length cb]] w (RToldA w 7 q) := by
  have HB : Hid (Below w.heap.size w (((w.alloc (.cells #[.bool n, .slice a xs.length ca] 41)).alloc (.cells #[.bool m, .slice b ys.length cb] 41)).alloc (.cells #[.bool false, .slice none 0 0, .slice none 0 0] 24))) := bt (bt (alloc_later _ _) (alloc_later _ _)) (alloc_later _ _)
  have HZ : Hid (Box (((w.alloc (.cells #[.bool n, .slice a xs.length ca] 41)).alloc (.cells #[.bool m, .slice b ys.length cb] 41)).alloc (.cells #[.bool false, .slice none 0 0, .slice none 0 0] 24)) (w.heap.size + 1 + 1) 24 #[.bool false, .slice none 0 0, .slice none 0 0]) := by
    have e := Box.made ((w.alloc (.cells #[.bool n, .slice a xs.length ca] 41)).alloc (.cells #[.bool m, .slice b ys.length cb] 41)) 24 #[.bool false, .slice none 0 0, .slice none 0 0]
    simp at e
    exact e
  have HN : Hid (Box (((w.alloc (.cells #[.bool n, .slice a xs.length ca] 41)).alloc (.cells #[.bool m, .slice b ys.length cb] 41)).alloc (.cells #[.bool false, .slice none 0 0, .slice none 0 0] 24)) w.heap.size 41 #[.bool n, .slice a xs.length ca]) := Box.later (Box.later (Box.made w _ _) (alloc_later _ _) (by simp)) (alloc_later _ _) (by simp; omega)
  have HM : Hid (Box (((w.alloc (.cells #[.bool n, .slice a xs.length ca] 41)).alloc (.cells #[.bool m, .slice b ys.length cb] 41)).alloc (.cells #[.bool false, .slice none 0 0, .slice none 0 0] 24)) (w.heap.size + 1) 41 #[.bool m, .slice b ys.length cb]) := by
    have e := Box.later (Box.made (w.alloc (.cells #[.bool n, .slice a xs.length ca] 41)) 41 #[.bool m, .slice b ys.length cb]) (alloc_later ((w.alloc (.cells #[.bool n, .slice a xs.length ca] 41)).alloc (.cells #[.bool m, .slice b ys.length cb] 41)) (.cells #[.bool false, .slice none 0 0, .slice none 0 0] 24)) (by simp)
    simp at e
    exact e
  have HS := hid (And.intro (h.later HB.out) (g.later HB.out))
  have HXS : Hid (w.heap.size + 1 + 1 < (((w.alloc (.cells #[.bool n, .slice a xs.length ca] 41)).alloc (.cells #[.bool m, .slice b ys.length cb] 41)).alloc (.cells #[.bool false, .slice none 0 0, .slice none 0 0] 24)).heap.size) := HZ.out.lt
  have HC1 := hid (wcheck_any n _ xs _ HS.out.1 lx)
  rw [hx] at HC1
  have HC2 := hid (fun ww (hb : Below _ (((w.alloc (.cells #[.bool n, .slice a xs.length ca] 41)).alloc (.cells #[.bool m, .slice b ys.length cb] 41)).alloc (.cells #[.bool false, .slice none 0 0, .slice none 0 0] 24)) ww) => wcheck_any m _ ys ww (HS.out.2.later hb) ly)
  rw [hy] at HC2
  have h0' : ((ys.length : Int) == 0) = true := by rw [h0]; rfl
  have HE : Hid ((7 : Int) ≠ 0) := by show _ ≠ _; omega
  clear hx hy h0
  clear h g
  go_enter Tryz.func14, Tryz.ntmps14
  go_wp2_with fail
  refine Calls.mono HC1.out ?_
  generalize (((w.alloc (.cells #[.bool n, .slice a xs.length ca] 41)).alloc (.cells #[.bool m, .slice b ys.length cb] 41)).alloc (.cells #[.bool false, .slice none 0 0, .slice none 0 0] 24)) = X at *
  rintro e w1 ⟨rfl, hb1⟩
  have HB1 := hid hb1
  clear hb1 HC1
  have HC := hid (HC2.out w1 HB1.out)
  obtain ⟨q0, q1, _, _⟩ := (HM.out.later HB1.out HM.out.lt).c2
  clear HC2
  go_wp2_with fail
  refine Calls.mono HC.out ?_
  rintro e w2 ⟨rfl, hb2⟩
  have HB2 := hid (bt HB1.out hb2)
  clear hb2 HC q0 q1
  obtain ⟨q0, q1, _, _⟩ := (HM.out.later HB2.out HM.out.lt).c2
  obtain ⟨y0, y1, y2, f0, f1, f2⟩ := res_box3 HZ.out HB2.out
  have HBN := hid (below_put3 (bt HB.out HB2.out) (w.heap.size + 1 + 1) (by omega) (.bool false) (.slice none 0 0) (.slice none 0 0))
  clear HN HM HZ HS
  go_wp2_with fail
  refine bodyPost_ret (v := .tuple #[.agg #[.bool false, .slice none 0 0, .slice none 0 0], .int .i64 7]) (by simp [results, Tryz.results14, go_sem, y0, y1, y2]) rfl ?_
  exact ⟨false, _, [], _, [], _, rfl, World.ownsRow_nil _ _ _ _, World.ownsRow_nil _ _ _ _, RTells.err HE.out, HBN.out, ⟨w.heap.size, Nat.le_refl _, HBN.out.size, fun g hg => by simp [Value.ownBlock] at hg, fun g hg => by simp [Value.ownBlock] at hg⟩⟩

set_option maxHeartbeats 6400000 in
set_option maxRecDepth 100000 in
theorem rmake_ok (n : Bool) (a : Option Addr) (ca : Nat) (xs : List Int) (m : Bool) (b : Option Addr) (cb : Nat) (ys : List Int) (w : World) (h : Sl w (.slice a xs.length ca) xs) (g : Sl w (.slice b ys.length cb) ys) (lx : xs.length ≤ 281474976710656) (ly : ys.length ≤ 281474976710656) (hx : wchk n xs = 0) (hy : wchk m ys = 0) (h0 : 0 < ys.length) :
    Calls Tryz.prog 14 #[.agg #[.bool n, .slice a xs.length ca], .agg #[.bool m, .slice b ys.length cb]] w (RToldA w 0 (Rat.divInt (wval n xs) (wval m ys))) := by
  obtain ⟨kx, tx, _⟩ := wchk_ok hx
  obtain ⟨ky, ty, _⟩ := wchk_ok hy
  have wx := h.wd
  have wy := g.wd
  have HB : Hid (Below w.heap.size w (((w.alloc (.cells #[.bool n, .slice a xs.length ca] 41)).alloc (.cells #[.bool m, .slice b ys.length cb] 41)).alloc (.cells #[.bool false, .slice none 0 0, .slice none 0 0] 24))) := bt (bt (alloc_later _ _) (alloc_later _ _)) (alloc_later _ _)
  have HZ : Hid (Box (((w.alloc (.cells #[.bool n, .slice a xs.length ca] 41)).alloc (.cells #[.bool m, .slice b ys.length cb] 41)).alloc (.cells #[.bool false, .slice none 0 0, .slice none 0 0] 24)) (w.heap.size + 1 + 1) 24 #[.bool false, .slice none 0 0, .slice none 0 0]) := by
    have e := Box.made ((w.alloc (.cells #[.bool n, .slice a xs.length ca] 41)).alloc (.cells #[.bool m, .slice b ys.length cb] 41)) 24 #[.bool false, .slice none 0 0, .slice none 0 0]
    simp at e
    exact e
  have HN : Hid (Box (((w.alloc (.cells #[.bool n, .slice a xs.length ca] 41)).alloc (.cells #[.bool m, .slice b ys.length cb] 41)).alloc (.cells #[.bool false, .slice none 0 0, .slice none 0 0] 24)) w.heap.size 41 #[.bool n, .slice a xs.length ca]) := Box.later (Box.later (Box.made w _ _) (alloc_later _ _) (by simp)) (alloc_later _ _) (by simp; omega)
  have HM : Hid (Box (((w.alloc (.cells #[.bool n, .slice a xs.length ca] 41)).alloc (.cells #[.bool m, .slice b ys.length cb] 41)).alloc (.cells #[.bool false, .slice none 0 0, .slice none 0 0] 24)) (w.heap.size + 1) 41 #[.bool m, .slice b ys.length cb]) := by
    have e := Box.later (Box.made (w.alloc (.cells #[.bool n, .slice a xs.length ca] 41)) 41 #[.bool m, .slice b ys.length cb]) (alloc_later ((w.alloc (.cells #[.bool n, .slice a xs.length ca] 41)).alloc (.cells #[.bool m, .slice b ys.length cb] 41)) (.cells #[.bool false, .slice none 0 0, .slice none 0 0] 24)) (by simp)
    simp at e
    exact e
  have HS := hid (And.intro (h.later HB.out) (g.later HB.out))
  have HXS : Hid (w.heap.size + 1 + 1 < (((w.alloc (.cells #[.bool n, .slice a xs.length ca] 41)).alloc (.cells #[.bool m, .slice b ys.length cb] 41)).alloc (.cells #[.bool false, .slice none 0 0, .slice none 0 0] 24)).heap.size) := HZ.out.lt
  have HC1 := hid (wcheck_any n _ xs _ HS.out.1 lx)
  rw [hx] at HC1
  have HC2 := hid (fun ww (hb : Below _ (((w.alloc (.cells #[.bool n, .slice a xs.length ca] 41)).alloc (.cells #[.bool m, .slice b ys.length cb] 41)).alloc (.cells #[.bool false, .slice none 0 0, .slice none 0 0] 24)) ww) => wcheck_any m _ ys ww (HS.out.2.later hb) ly)
  rw [hy] at HC2
  have h0' : ((ys.length : Int) == 0) = false := beq_eq_false_iff_ne.2 (by omega)
  have HPY : Hid (0 < val ys) := by have := val_pos' wy ty h0; show _ < _; omega
  have HG : Hid (0 < gcdI (val xs) (val ys) ∧ gcdI (val xs) (val ys) ≤ val ys ∧ val ys < 4294967296 ^ 2048) := ⟨gcd_pos_right HPY.out, gcd_le_right HPY.out, below2048 wy ky⟩
  have HMP := hid (make_parts (n := n) (m := m) (val_nonneg wx) HPY.out)
  have HTT := hid (And.intro tx ty)
  obtain ⟨s, hs⟩ : ∃ s, (!(n == m)) = s := ⟨_, rfl⟩
  have HSG := hid (show (n != m) = s from hs)
  clear h g hx hy h0 tx ty
  go_enter Tryz.func14, Tryz.ntmps14
  go_wp2_with fail
  refine Calls.mono HC1.out ?_
  generalize (((w.alloc (.cells #[.bool n, .slice a xs.length ca] 41)).alloc (.cells #[.bool m, .slice b ys.length cb] 41)).alloc (.cells #[.bool false, .slice none 0 0, .slice none 0 0] 24)) = X at *
  rintro e w1 ⟨rfl, hb1⟩
  have HB1 := hid hb1
  clear hb1 HC1
  have HC := hid (HC2.out w1 HB1.out)
  obtain ⟨q0, q1, _, _⟩ := (HM.out.later HB1.out HM.out.lt).c2
  clear HC2
  go_wp2_with fail
  refine Calls.mono HC.out ?_
  rintro e w2 ⟨rfl, hb2⟩
  have HB2 := hid (bt HB1.out hb2)
  clear hb2 HC q0 q1
  have HK : Hid (∀ V, Below X.heap.size X V → V.cell? ⟨w.heap.size, 0, none⟩ = some (.bool n) ∧ V.cell? ⟨w.heap.size, 1, none⟩ = some (.slice a xs.length ca) ∧ V.cell? ⟨w.heap.size + 1, 0, none⟩ = some (.bool m) ∧ V.cell? ⟨w.heap.size + 1, 1, none⟩ = some (.slice b ys.length cb)) := fun V hb => by
    obtain ⟨p0, p1, _, _⟩ := (HN.out.later hb HN.out.lt).c2
    obtain ⟨q0, q1, _, _⟩ := (HM.out.later hb HM.out.lt).c2
    exact ⟨p0, p1, q0, q1⟩
  have HCM := hid (told1_at _ HK.out w2 HB2.out (rcommon_any _ _ xs ys w2 (HS.out.1.later HB2.out) (HS.out.2.later HB2.out) (by omega) (by omega) HTT.out.1 HTT.out.2))
  obtain ⟨p0, p1, q0, q1⟩ := HK.out w2 HB2.out
  go_wp2_with fail
  refine Calls.mono HCM.out ?_
  rintro e w3 ⟨a3, z3, c3, rfl, HE3, _, hb3, HS3⟩
  have hb3d := hb3.drew
  have HO3 := hid (HE3.out.later (Below.drew (Below.refl _ w3)))
  clear HCM HE3 HS3 p0 p1 q0 q1
  have hs0 := HK.out _ hb3d
  have HQX := hid (fun ww (hv' : Below X.heap.size X ww) (h : One X ww (.slice a3 z3.length c3) z3 (gcdI (val xs) (val ys))) => quot_in _ HK.out hv' (HS.out.1.later hv') (by omega) HTT.out.1 h HG.out.1 (by have := HG.out; omega))
  have HQY := hid (fun ww (hv' : Below X.heap.size X ww) (h : One X ww (.slice a3 z3.length c3) z3 (gcdI (val xs) (val ys))) => quot_in _ HK.out hv' (HS.out.2.later hv') (by omega) HTT.out.2 h HG.out.1 (by have := HG.out; omega))
  have HTL := hid (fun (ww : World) (hb : Below X.heap.size X ww) (a4 : Option Addr) (z4 : List Int) (c4 : Nat) (a5 : Option Addr) (z5 : List Int) (c5 : Nat) (g1 : One X ww (.slice a4 z4.length c4) z4 (val xs / gcdI (val xs) (val ys))) (g2 : One X ww (.slice a5 z5.length c5) z5 (val ys / gcdI (val xs) (val ys))) (hc : Cut X (.slice a4 z4.length c4) (.slice a5 z5.length c5) ww) => rtold_cut (n := s) (q := Rat.divInt (wval n xs) (wval m ys)) _ HK.out hb g1 g2 hc HMP.out.1 HMP.out.2.1 (by rw [← HSG.out]; exact HMP.out.2.2))
  have hq0 : w.heap.size + 1 + 1 ≠ w.heap.size := by omega
  have hq1 : w.heap.size + 1 + 1 ≠ w.heap.size + 1 := by omega
  clear HTT HG HPY
  go_wp2_with fail
  go_region_held3 (fun V : World => V.cell? ⟨w.heap.size, 0, none⟩ = some (.bool n) ∧ V.cell? ⟨w.heap.size, 1, none⟩ = some (.slice a xs.length ca) ∧ V.cell? ⟨w.heap.size + 1, 0, none⟩ = some (.bool m) ∧ V.cell? ⟨w.heap.size + 1, 1, none⟩ = some (.slice b ys.length cb)) (first | exact hs9 | exact hs5 | exact hs4 | exact hs0 | (simp [hs9, World.cell?_setCell_far, hq0]))
    (first
      | (go_at_call 24; with_reducible refine Calls.mono (HTL.out _ hb5 _ _ _ _ _ _ (HE4.out.1.later HS5.out) HE5.out.1 (cut_two hb3d.size HS4.out.size HS5.out.size HE4.out.2 HE5.out.2)) ?_; rintro e w9 ⟨k9, a8, z8, c8, a9, z9, c9, code, rfl, HE9, hs9, hb9⟩; obtain ⟨y0, y1, y2, f0, f1, f2⟩ := res_box3 HZ.out hb9)
      | (go_at_call 30; with_reducible refine Calls.mono (HQY.out _ hb4 (HO3.out.later HS4.out)) ?_; rintro e w5 ⟨a5, z5, c5, rfl, HE5, hs5, hb5, HS5⟩)
      | (go_at_call 30; with_reducible refine Calls.mono (HQX.out _ hb3d HO3.out) ?_; rintro e w4 ⟨a4, z4, c4, rfl, HE4, hs4, hb4, HS4⟩))
  all_goals
    have HBW := hid (bt HB.out hb9)
    have HR := hid HE9.out
    clear HK HQX HQY HTL HE4 HE5 HE9 HS4 HS5 HO3 hs0 hs4 hs5 hs9 hb3 hb3d hb4 hb5 hb9 HMP HSG
    go_wp2_with fail
    refine bodyPost_ret (v := .tuple #[.agg #[.bool k9, .slice a8 z8.length c8, .slice a9 z9.length c9], .int .i64 code]) (by simp [results, Tryz.results14, go_sem, y0, y1, y2]) rfl ?_
    exact RToldA.put HR.out (w.heap.size + 1 + 1) HXS.out (by omega) HBW.out _ _ _

theorem rmake_any (n : Bool) (a : Option Addr) (ca : Nat) (xs : List Int) (m : Bool) (b : Option Addr) (cb : Nat) (ys : List Int) (w : World) (h : Sl w (.slice a xs.length ca) xs) (g : Sl w (.slice b ys.length cb) ys) (lx : xs.length ≤ 281474976710656) (ly : ys.length ≤ 281474976710656) :
    Calls Tryz.prog 14 #[.agg #[.bool n, .slice a xs.length ca], .agg #[.bool m, .slice b ys.length cb]] w (RToldA w (mkErr n xs m ys) (Rat.divInt (wval n xs) (wval m ys))) := by
  unfold mkErr
  by_cases hb : wboth n xs m ys = 0
  · obtain ⟨hx, hy⟩ := wboth_ok hb
    rw [if_pos hb]
    by_cases h0 : ys.length = 0
    · rw [if_pos h0]
      exact rmake_z n a ca xs m b cb ys w h g lx ly hx hy h0 _
    · rw [if_neg h0]
      exact rmake_ok n a ca xs m b cb ys w h g lx ly hx hy (by omega)
  · rw [if_neg hb]
    unfold wboth at hb ⊢
    by_cases hx : wchk n xs = 0
    · rw [if_pos hx] at hb ⊢
      exact rmake_e2 n a ca xs m b cb ys w h g lx ly hx hb _
    · rw [if_neg hx]
      exact rmake_e1 n a ca xs m b cb ys w h g lx ly hx _
end Go.Proofs.YtmncfbjoplfikaaGreatDoor

/- Fractions: ratio.Small. -/
namespace Go.Proofs.YtmncfbjoplfikaaGreatDoor
open Go.RowKit
set_option linter.unusedVariables false

theorem small_err {n m : Bool} {zs us : List Int} {y : Int} (l1 : zs.length ≤ 2) (t1 : Trimmed zs) (s1 : n = false ∨ 0 < zs.length) (w2 : Wd us) (l2 : us.length ≤ 2) (t2 : Trimmed us) (s2 : m = false ∨ 0 < us.length) (v2 : wval m us = y) : mkErr n zs m us = if y = 0 then 7 else 0 := by
  unfold mkErr
  rw [wboth_good (wchk_good (by omega) t1 s1) (wchk_good (by omega) t2 s2), if_pos rfl]
  by_cases c : us.length = 0
  · have e0 : val us = 0 := trimmed_zero' c
    have : y = 0 := by rw [← v2]; cases m <;> simp [wval, e0]
    rw [if_pos c, if_pos this]
  · have e0 := val_pos' w2 t2 (by omega)
    have : ¬ y = 0 := by rw [← v2]; cases m <;> simp [wval] <;> omega
    rw [if_neg c, if_neg this]

set_option maxHeartbeats 1600000 in
set_option maxRecDepth 100000 in
theorem rsmall_any (x y : Int) (w : World) (x0 : -9223372036854775808 ≤ x) (x1 : x ≤ 9223372036854775807) (y0 : -9223372036854775808 ≤ y) (y1 : y ≤ 9223372036854775807) :
    Calls Tryz.prog 4 #[.int .i64 x, .int .i64 y] w (RToldA w (if y = 0 then 7 else 0) (Rat.divInt x y)) := by
  have HB : Hid (Below w.heap.size w (w.alloc (.cells #[.bool false, .slice none 0 0, .slice none 0 0] 24))) := alloc_later _ _
  have HZ : Hid (Box (w.alloc (.cells #[.bool false, .slice none 0 0, .slice none 0 0] 24)) w.heap.size 24 #[.bool false, .slice none 0 0, .slice none 0 0]) := Box.made w _ _
  have HO1 := hid (wof_any x (w.alloc (.cells #[.bool false, .slice none 0 0, .slice none 0 0] 24)) x0 x1)
  obtain ⟨E, hE⟩ : ∃ E : Int, (if y = 0 then (7 : Int) else 0) = E := ⟨_, rfl⟩
  rw [hE]
  have HE := hid hE
  clear hE
  go_enter Tryz.func4, Tryz.ntmps4
  go_wp2_with fail
  refine Calls.mono HO1.out ?_
  generalize (w.alloc (.cells #[.bool false, .slice none 0 0, .slice none 0 0] 24)) = X at *
  rintro e w1 ⟨n1, v1, z1, rfl, o1, wd1, t1, l1, s1, hv1, hb1⟩
  obtain ⟨a1, c1, hs1⟩ := own_slice' o1
  subst hs1
  have HO2 := hid (wof_any y w1 y0 y1)
  have HS1 := hid (Sl.own o1 wd1)
  have HV1 := hid (And.intro t1 (And.intro s1 hv1))
  have HB1 := hid hb1
  clear o1 wd1 t1 s1 hv1 hb1 HO1
  go_wp2_with fail
  refine Calls.mono HO2.out ?_
  rintro e w2 ⟨n2, v2, z2, rfl, o2, wd2, t2, l2, s2, hv2, hb2⟩
  obtain ⟨a2, c2, hs2⟩ := own_slice' o2
  subst hs2
  have HM := hid (rmake_any n1 a1 c1 z1 n2 a2 c2 z2 w2 (HS1.out.later hb2) (Sl.own o2 wd2) (by omega) (by omega))
  rw [small_err l1 HV1.out.1 HV1.out.2.1 wd2 l2 t2 s2 hv2, HE.out, HV1.out.2.2, hv2] at HM
  have HB2 := hid (bt HB1.out hb2)
  clear o2 wd2 t2 s2 hv2 hb2 HO2 HS1 HV1
  go_wp2_with fail
  refine Calls.mono HM.out ?_
  rintro e w3 ⟨k3, v3, z3, u3, r3, code, rfl, o3, o4, t3, hb3, hc3⟩
  obtain ⟨a3, c3, hs3⟩ := own_slice' o3
  subst hs3
  obtain ⟨a4, c4, hs4⟩ := own_slice' o4
  subst hs4
  have HR := hid (And.intro o3 (And.intro o4 (And.intro t3 hc3)))
  obtain ⟨y0', y1', y2', f0, f1, f2⟩ := res_box3 HZ.out (bt HB2.out hb3)
  have HBW := hid (bt HB.out (bt HB2.out hb3))
  have HLT : Hid (w.heap.size < w2.heap.size) := Nat.lt_of_lt_of_le HZ.out.lt HB2.out.size
  clear o3 o4 t3 hb3 hc3 HM
  go_wp2_with fail
  refine bodyPost_ret (v := .tuple #[.agg #[.bool k3, .slice a3 z3.length c3, .slice a4 r3.length c4], .int .i64 code]) (by simp [results, Tryz.results4, go_sem, y0', y1', y2']) rfl ?_
  exact RToldA.put HR.out w.heap.size HLT.out (Nat.le_refl _) HBW.out _ _ _
end Go.Proofs.YtmncfbjoplfikaaGreatDoor

/- Sums of lists of fractions: what is told, as plain data; a list of fractions in memory. -/
namespace Go.Proofs.YtmncfbjoplfikaaGreatDoor
open Go.RowKit
set_option linter.unusedVariables false

/-- What Sum tells of m fractions whose errors are E and whose sums from 0 on are q. -/
def RSum (m : Nat) (E : Nat → Int) (q : Nat → Rat) (n : Bool) (xs ys : List Int) (err loc : Int) : Prop :=
  Wd xs ∧ Wd ys ∧
  ((∃ j : Nat, j < m ∧ (∀ i, i < j → E i = 0) ∧ E j ≠ 0 ∧ n = false ∧ xs = [] ∧ ys = [] ∧ err = E j ∧ loc = (j : Int)) ∨
   ((∀ i, i < m → E i = 0) ∧ ∃ k : Nat, k < m ∧ (∀ i, i < k → ¬ rlong (q (i + 1))) ∧ rlong (q (k + 1)) ∧ n = false ∧ xs = [] ∧ ys = [] ∧ err = 3 ∧ loc = (k : Int)) ∨
   ((∀ i, i < m → E i = 0) ∧ (∀ i, i < m → ¬ rlong (q (i + 1))) ∧ rchk n xs ys = 0 ∧ rq n xs ys = q m ∧ err = 0 ∧ loc = 0))

theorem rsame_good {n n' : Bool} {xs ys xs' ys' : List Int} (wx : Wd xs) (wy : Wd ys) (wx' : Wd xs') (wy' : Wd ys') (h : rchk n xs ys = 0) (h' : rchk n' xs' ys' = 0) (e : rq n xs ys = rq n' xs' ys') : n = n' ∧ xs = xs' ∧ ys = ys' := by
  obtain ⟨_, _, tx, ty, y0, sx, gx⟩ := rchk_ok h
  obtain ⟨_, _, tu, tv, v0, su, gu⟩ := rchk_ok h'
  have py := val_pos' wy ty y0
  have pv := val_pos' wy' tv v0
  have e1 := fr_inj (x := wval n xs) (d := val ys) (y := wval n' xs') (e := val ys') (by omega) (by rw [show wval n xs = sg n (val xs) from rfl, gcd_sg]; exact gx) (by omega) (by rw [show wval n' xs' = sg n' (val xs') from rfl, gcd_sg]; exact gu) e
  have e2 : n = n' ∧ xs = xs' := by
    have x0 := val_nonneg wx
    have u0 := val_nonneg wx'
    have e3 := e1.1
    cases n <;> cases n'
    · exact ⟨rfl, trimmed_eq wx wx' tx tu e3⟩
    · have e4 : val xs = -(val xs') := e3
      have := val_pos' wx' tu (su.elim (fun e => by cases e) id)
      omega
    · have e4 : -(val xs) = val xs' := e3
      have := val_pos' wx tx (sx.elim (fun e => by cases e) id)
      omega
    · have e4 : -(val xs) = -(val xs') := e3
      exact ⟨rfl, trimmed_eq wx wx' tx tu (by omega)⟩
  exact ⟨e2.1, e2.2, trimmed_eq wy wy' ty tv e1.2⟩

theorem RSum.same {m : Nat} {E : Nat → Int} {q : Nat → Rat} {n n' : Bool} {xs ys xs' ys' : List Int} {e l e' l' : Int} (h : RSum m E q n xs ys e l) (g : RSum m E q n' xs' ys' e' l') : n = n' ∧ xs = xs' ∧ ys = ys' ∧ e = e' ∧ l = l' := by
  obtain ⟨wx, wy, h⟩ := h
  obtain ⟨wx', wy', g⟩ := g
  rcases h with ⟨j, hj, h1, h2, rfl, rfl, rfl, rfl, rfl⟩ | ⟨hE, k, hk, h1, h2, rfl, rfl, rfl, rfl, rfl⟩ | ⟨hE, hL, hc, hq, rfl, rfl⟩
  · rcases g with ⟨j', hj', g1, g2, rfl, rfl, rfl, rfl, rfl⟩ | ⟨gE, _⟩ | ⟨gE, _⟩
    · have : j = j' := by
        rcases Nat.lt_trichotomy j j' with c | c | c
        · exact absurd (g1 j c) h2
        · exact c
        · exact absurd (h1 j' c) g2
      subst this
      exact ⟨rfl, rfl, rfl, rfl, rfl⟩
    · exact absurd (gE j hj) h2
    · exact absurd (gE j hj) h2
  · rcases g with ⟨j', hj', g1, g2, _⟩ | ⟨gE, k', hk', g1, g2, rfl, rfl, rfl, rfl, rfl⟩ | ⟨gE, gL, _⟩
    · exact absurd (hE j' hj') g2
    · have : k = k' := by
        rcases Nat.lt_trichotomy k k' with c | c | c
        · exact absurd h2 (g1 k c)
        · exact c
        · exact absurd g2 (h1 k' c)
      subst this
      exact ⟨rfl, rfl, rfl, rfl, rfl⟩
    · exact absurd h2 (gL k hk)
  · rcases g with ⟨j', hj', g1, g2, _⟩ | ⟨gE, k', hk', g1, g2, _⟩ | ⟨gE, gL, gc, gq, rfl, rfl⟩
    · exact absurd (hE j' hj') g2
    · exact absurd g2 (hL k' hk')
    · obtain ⟨r1, r2, r3⟩ := rsame_good wx wy wx' wy' hc gc (hq.trans gq.symm)
      exact ⟨r1, r2, r3, rfl, rfl⟩

/-- A list of m fractions in memory: the j-th has the sign N j, the numerator X j, the denominator Y j. -/
structure FrL (w : World) (g o m : Nat) (N : Nat → Bool) (A : Nat → Option Addr) (C : Nat → Nat) (X : Nat → List Int) (B : Nat → Option Addr) (D : Nat → Nat) (Y : Nat → List Int) : Prop where
  lt : g < w.heap.size
  cell : ∀ j, j < m → w.cell? ⟨g, o + j * 3, none⟩ = some (.bool (N j)) ∧ w.cell? ⟨g, o + j * 3 + 1, none⟩ = some (.slice (A j) (X j).length (C j)) ∧ w.cell? ⟨g, o + j * 3 + 2, none⟩ = some (.slice (B j) (Y j).length (D j))
  slx : ∀ j, j < m → Sl w (.slice (A j) (X j).length (C j)) (X j)
  sly : ∀ j, j < m → Sl w (.slice (B j) (Y j).length (D j)) (Y j)
theorem FrL.later {w w' : World} {g o m : Nat} {N : Nat → Bool} {A : Nat → Option Addr} {C : Nat → Nat} {X : Nat → List Int} {B : Nat → Option Addr} {D : Nat → Nat} {Y : Nat → List Int} (h : FrL w g o m N A C X B D Y) (hb : Below w.heap.size w w') : FrL w' g o m N A C X B D Y :=
  ⟨Nat.lt_of_lt_of_le h.lt hb.size, fun j hj => ⟨(hb.cell (p := ⟨g, o + j * 3, none⟩) h.lt).trans (h.cell j hj).1, (hb.cell (p := ⟨g, o + j * 3 + 1, none⟩) h.lt).trans (h.cell j hj).2.1, (hb.cell (p := ⟨g, o + j * 3 + 2, none⟩) h.lt).trans (h.cell j hj).2.2⟩, fun j hj => (h.slx j hj).later hb, fun j hj => (h.sly j hj).later hb⟩
/-- The same, or no fraction at all. -/
def FrM (w : World) (a : Option Addr) (g o m : Nat) (N : Nat → Bool) (A : Nat → Option Addr) (C : Nat → Nat) (X : Nat → List Int) (B : Nat → Option Addr) (D : Nat → Nat) (Y : Nat → List Int) : Prop := m = 0 ∨ (a = some ⟨g, o, none⟩ ∧ FrL w g o m N A C X B D Y)
theorem FrM.later {w w' : World} {a : Option Addr} {g o m : Nat} {N : Nat → Bool} {A : Nat → Option Addr} {C : Nat → Nat} {X : Nat → List Int} {B : Nat → Option Addr} {D : Nat → Nat} {Y : Nat → List Int} (h : FrM w a g o m N A C X B D Y) (hb : Below w.heap.size w w') : FrM w' a g o m N A C X B D Y := h.imp id (fun ⟨h1, h2⟩ => ⟨h1, h2.later hb⟩)
theorem FrM.of {w : World} {a : Option Addr} {g o m : Nat} {N : Nat → Bool} {A : Nat → Option Addr} {C : Nat → Nat} {X : Nat → List Int} {B : Nat → Option Addr} {D : Nat → Nat} {Y : Nat → List Int} (h : FrM w a g o m N A C X B D Y) {k : Nat} (hk : k < m) : a = some ⟨g, o, none⟩ ∧ FrL w g o m N A C X B D Y := h.resolve_left (by omega)
/-- The sum of the first k. -/
def rsums (N : Nat → Bool) (X Y : Nat → List Int) : Nat → Rat
  | 0 => 0
  | k + 1 => rsums N X Y k + rq (N k) (X k) (Y k)

end Go.Proofs.YtmncfbjoplfikaaGreatDoor

/- ratio.Sum of any list of fractions. -/
namespace Go.Proofs.YtmncfbjoplfikaaGreatDoor
open Go.RowKit
set_option linter.unusedVariables false

/-- The total in its box, after j of them. -/
def Tot (bb : Bool) (w : World) (N : Nat → Bool) (U Y : Nat → List Int) (tb j : Nat) (wq : World) : Prop :=
  ∃ n qa za ka qb zb kb, Box wq tb 24 #[.bool n, .slice qa (List.length za) ka, .slice qb (List.length zb) kb] ∧ wq.ownsRow w.heap.size 30 1 (.slice qa za.length ka) za.length (za.map (Value.int .u32)) ∧ wq.ownsRow w.heap.size 30 1 (.slice qb zb.length kb) zb.length (zb.map (Value.int .u32)) ∧ Wd za ∧ Wd zb ∧ rchk n za zb = 0 ∧ rq n za zb = rsums N U Y j ∧ (∀ i, i < j → ¬ rlong (rsums N U Y (i + 1))) ∧ (bb = true → ((Value.slice qa za.length ka).ownBlock = none ∨ (Value.slice qa za.length ka).ownBlock ≠ (Value.slice qb zb.length kb).ownBlock))
theorem cut_apart {w w' : World} {v u : Value} (h : Cut w v u w') : v.ownBlock = none ∨ v.ownBlock ≠ u.ownBlock := by
  obtain ⟨c, _, _, h1, h2⟩ := h
  cases e1 : v.ownBlock with
  | none => exact .inl rfl
  | some x =>
    right
    intro e
    have a := h1 x e1
    have b := h2 x e.symm
    omega
theorem rchk_zero : rchk false [] [1] = 0 := by
  refine rchk_good (by simp) (by simp) Trimmed.nil (show Trimmed [1] by unfold Trimmed; decide) (by simp) (.inl rfl) ?_
  decide
theorem rsq_zero : rq false [] [1] = 0 := by
  simp [rq, wval, val, valTo]

set_option maxHeartbeats 3200000 in
set_option maxRecDepth 100000 in
theorem rSum_any (g o m cp : Nat) (N : Nat → Bool) (A : Nat → Option Addr) (C : Nat → Nat) (U : Nat → List Int) (B : Nat → Option Addr) (D : Nat → Nat) (Y : Nat → List Int) (w : World) (sa : Option Addr) (h : FrM w sa g o m N A C U B D Y) (hm : m ≤ 1000) (hcp : m ≤ cp) :
    Calls Tryz.prog 12 #[.slice sa m cp] w fun x w' => ∃ n v xs u ys err loc, x = .returned (.tuple #[.agg #[.bool n, v, u], .agg #[.int .i64 err, .int .i64 loc]]) ∧ w'.ownsRow w.heap.size 30 1 v xs.length (xs.map (Value.int .u32)) ∧ w'.ownsRow w.heap.size 30 1 u ys.length (ys.map (Value.int .u32)) ∧ RSum m (fun j => rchk (N j) (U j) (Y j)) (rsums N U Y) n xs ys err loc ∧ Below w.heap.size w w' ∧ Hid (v.ownBlock = none ∨ v.ownBlock ≠ u.ownBlock) := by
  have HBX : Hid (Below w.heap.size w ((w.alloc (.cells #[.bool false, .slice none 0 0, .slice none 0 0] 24)).alloc (.cells #[.int .i64 0, .int .i64 0] 35))) := bt (alloc_later _ _) (alloc_later _ _)
  have HZ : Hid (Box ((w.alloc (.cells #[.bool false, .slice none 0 0, .slice none 0 0] 24)).alloc (.cells #[.int .i64 0, .int .i64 0] 35)) w.heap.size 24 #[.bool false, .slice none 0 0, .slice none 0 0]) := (Box.made w _ _).later (alloc_later _ _) (by simp)
  have HF : Hid (Box ((w.alloc (.cells #[.bool false, .slice none 0 0, .slice none 0 0] 24)).alloc (.cells #[.int .i64 0, .int .i64 0] 35)) (w.heap.size + 1) 35 #[.int .i64 0, .int .i64 0]) := by
    have e := Box.made (w.alloc (.cells #[.bool false, .slice none 0 0, .slice none 0 0] 24)) 35 #[.int .i64 0, .int .i64 0]
    simp at e
    exact e
  have HL := hid (h.later HBX.out)
  clear h
  go_enter Tryz.func12, Tryz.ntmps12
  go_wp2_with fail
  generalize ((w.alloc (.cells #[.bool false, .slice none 0 0, .slice none 0 0] 24)).alloc (.cells #[.int .i64 0, .int .i64 0] 35)) = X at *
  go_loopw [13] (fun t wr => ∃ k : Nat, k ≤ m ∧ t = .int .i64 k ∧ Hid ((∀ i, i < k → rchk (N i) (U i) (Y i) = 0) ∧ Below X.heap.size X wr)) (fun t _ => m - (intOf t).toNat)
  case atStart => exact ⟨0, Nat.zero_le _, rfl, fun i hi => absurd hi (Nat.not_lt_zero _), Below.refl _ _⟩
  case round =>
    obtain ⟨k, hk, rfl, HI⟩ := hrel
    by_cases hlt : k < m
    · obtain ⟨hsa, hLL⟩ := (HL.out.later HI.out.2).of hlt
      subst hsa
      have HLw := hid hLL
      clear hLL
      obtain ⟨e0, e1, e2⟩ := HLw.out.cell k hlt
      have HSx := hid (HLw.out.slx k hlt)
      have HSy := hid (HLw.out.sly k hlt)
      obtain ⟨er, her⟩ : ∃ e, rchk (N k) (U k) (Y k) = e := ⟨_, rfl⟩
      have HER := hid her
      have hal := alloc_later wr (.cells #[.bool (N k), .slice (A k) (U k).length (C k), .slice (B k) (Y k).length (D k)] 24)
      have HC := hid (rcheck_any (N k) _ (U k) _ (Y k) (wr.alloc (.cells #[.bool (N k), .slice (A k) (U k).length (C k), .slice (B k) (Y k).length (D k)] 24)) (HSx.out.later hal) (HSy.out.later hal))
      rw [her] at HC
      have HB1 := hid (bt HI.out.2 hal)
      have hk0 : (0 : Int) ≤ ↑k := by omega
      have hk1 : (↑k : Int) < ↑m := by omega
      clear hal her HLw HSx HSy
      by_cases hz : er = 0
      · subst hz
        go_wp2_with fail
        refine Calls.mono HC.out ?_
        generalize wr.alloc (.cells #[.bool (N k), .slice (A k) (U k).length (C k), .slice (B k) (Y k).length (D k)] 24) = V at *
        rintro e w1 ⟨rfl, hb1⟩
        have HR : Hid ((∀ i, i < k + 1 → rchk (N i) (U i) (Y i) = 0) ∧ Below X.heap.size X w1) := ⟨fun i hi => by
          by_cases c : i = k
          · subst c; exact HER.out
          · exact HI.out.1 i (by omega), bt HB1.out hb1⟩
        clear hb1 HC e0 e1 e2
        go_wp2_with fail
        go_roundw
        case rel => exact ⟨k + 1, by omega, by go_num, HR⟩
        case measure => simp [intOf]; omega
      · have h1 : (er != 0) = true := bne_iff_ne.2 hz
        have h2 : (er == 0) = false := beq_eq_false_iff_ne.2 hz
        have HNZ := hid hz
        clear hz
        go_wp2_with fail
        refine Calls.mono HC.out ?_
        generalize wr.alloc (.cells #[.bool (N k), .slice (A k) (U k).length (C k), .slice (B k) (Y k).length (D k)] 24) = V at *
        rintro e w1 ⟨rfl, hb1⟩
        have HBW := hid (bt HB1.out hb1)
        obtain ⟨r0, r1, r2, f0, f1, f2⟩ := res_box3 HZ.out HBW.out
        have HFw := hid (HF.out.later HBW.out HF.out.lt)
        have q0 := HFw.out.cell 0
        have q1 := HFw.out.cell 1
        have y0 := HFw.out.free 0
        have y1 := HFw.out.free 1
        have HBN := hid (bt HBX.out HBW.out)
        clear hb1 HC e0 e1 e2
        go_wp2_with fail
        refine bodyPost_ret (v := .tuple #[.agg #[.bool false, .slice none 0 0, .slice none 0 0], .agg #[.int .i64 er, .int .i64 (k : Int)]]) (by simp [results, Tryz.results12, go_sem, r0, r1, r2, q0, q1]) rfl ?_
        exact ⟨false, _, [], _, [], er, (k : Int), rfl, World.ownsRow_nil _ _ _ _, World.ownsRow_nil _ _ _ _, ⟨Wd.nil, Wd.nil, .inl ⟨k, hlt, HI.out.1, (fun e => HNZ.out (HER.out.symm.trans e)), rfl, rfl, rfl, HER.out.symm, rfl⟩⟩, below_put2 (below_put3 HBN.out _ (Nat.le_refl _) _ _ _) _ (Nat.le_succ _) _ _, hid (.inl rfl)⟩
    · have hkm : k = m := by omega
      subst hkm
      have HEA := hid HI.out.1
      have HBI := hid HI.out.2
      clear HI hlt hk
      have HO := of_any 1 wr (by omega) (by omega)
      rw [show sz [(1 : Int) % 4294967296, 1 / 4294967296] = 1 from by decide, show trimmed [(1 : Int) % 4294967296, 1 / 4294967296] = [1] from by decide] at HO
      have HOO := hid HO
      clear HO
      go_wp2_with fail
      refine Calls.mono HOO.out ?_
      clear HOO
      rintro e w1 ⟨v1, rfl, ho1, hb1⟩
      obtain ⟨q1, d1, hs⟩ := own_slice' ho1
      subst hs
      have HO1 := hid ho1
      have HB1 := hid hb1
      clear ho1 hb1
      go_wp2_with fail
      have HT0 : Hid (Tot true w N U Y w1.heap.size 0 (w1.alloc (.cells #[.bool false, .slice none 0 0, .slice q1 1 d1] 24))) := ⟨false, none, [], 0, q1, [1], d1, Box.made w1 _ _, World.ownsRow_nil _ _ _ _, owns_later (owns_base HO1.out (bt HBX.out HBI.out).size) (alloc_later _ _), Wd.nil, Wd.one (by decide), rchk_zero, rsq_zero, fun i hi => absurd hi (Nat.not_lt_zero _), fun _ => .inl rfl⟩
      have HBA : Hid (Below w1.heap.size w1 (w1.alloc (.cells #[.bool false, .slice none 0 0, .slice q1 1 d1] 24))) := alloc_later _ _
      have HLw := hid (HL.out.later (bt HBI.out HB1.out))
      have HZw := hid (HZ.out.later (bt HBI.out HB1.out) HZ.out.lt)
      have HFw := hid (HF.out.later (bt HBI.out HB1.out) HF.out.lt)
      have HBW := hid (bt HBX.out (bt HBI.out HB1.out))
      clear HO1 HB1 HBI HBX HL HZ HF
      generalize (w1.alloc (.cells #[.bool false, .slice none 0 0, .slice q1 1 d1] 24)) = V1 at *
      go_loopw [31] (fun t wq => ∃ j : Nat, j ≤ k ∧ t = .int .i64 j ∧ Hid (Tot true w N U Y w1.heap.size j wq ∧ Below w1.heap.size w1 wq)) (fun t _ => k - (intOf t).toNat)
      case atStart => exact ⟨0, Nat.zero_le _, rfl, HT0.out, HBA.out⟩
      case round =>
        obtain ⟨j, hj, rfl, HI⟩ := hrel
        obtain ⟨n, qa, za, ka, qb, zb, kb, bx, oa, ob, wa, wb, hck, hq, hnl, hap⟩ := HI.out.1
        have HAP := hid (hap rfl)
        clear hap
        have HBQ := hid HI.out.2
        have HQQ := hid (And.intro hck (And.intro hq hnl))
        have HWW := hid (And.intro wa wb)
        by_cases hlt : j < k
        · obtain ⟨hsa, hLL⟩ := (HLw.out.later HBQ.out).of hlt
          subst hsa
          have HLq := hid hLL
          clear hLL
          obtain ⟨e0, e1, e2⟩ := HLq.out.cell j hlt
          have hal := alloc_later wr (.cells #[.bool (N j), .slice (A j) (U j).length (C j), .slice (B j) (Y j).length (D j)] 24)
          have HBx := hid (bx.later hal bx.lt)
          obtain ⟨t0, t1, t2, tf0, tf1, tf2⟩ := res_box3 HBx.out (Below.refl _ _)
          obtain ⟨la, lb, ta, tb, zb0, _, ga⟩ := rchk_ok hck
          obtain ⟨lu, lv, tu, tv, yv0, _, gu⟩ := rchk_ok (HEA.out j hlt)
          have wu := (HLq.out.slx j hlt).wd
          have wv := (HLq.out.sly j hlt).wd
          have HC := radd_any n qa ka za qb kb zb (N j) (A j) (C j) (U j) (B j) (D j) (Y j) (wr.alloc (.cells #[.bool (N j), .slice (A j) (U j).length (C j), .slice (B j) (Y j).length (D j)] 24)) ((Sl.own oa wa).later hal) ((Sl.own ob wb).later hal) ((HLq.out.slx j hlt).later hal) ((HLq.out.sly j hlt).later hal) la lb lu lv ta tb tu tv (val_pos' wb tb zb0) (val_pos' wv tv yv0) ga gu
          rw [hq, show rsums N U Y j + rq (N j) (U j) (Y j) = rsums N U Y (j + 1) from rfl] at HC
          have HCC := hid HC
          have HB1 := hid (bt HBQ.out hal)
          have hk0 : (0 : Int) ≤ ↑j := by omega
          have hk1 : (↑j : Int) < ↑k := by omega
          clear HC hal la lb ta tb zb0 ga lu lv tu tv yv0 gu wu wv bx oa ob wa wb hck hq hnl HLq HI
          go_wp2_with fail
          refine Calls.mono HCC.out ?_
          clear HCC
          generalize (wr.alloc (.cells #[.bool (N j), .slice (A j) (U j).length (C j), .slice (B j) (Y j).length (D j)] 24)) = V at *
          rintro e w2 ⟨n', v', xs', u', ys', code, rfl, o', p', tt, hb, hct⟩
          obtain ⟨a', c', hs⟩ := own_slice' o'
          subst hs
          obtain ⟨b', d', hs⟩ := own_slice' p'
          subst hs
          have HBy := hid (HBx.out.later hb HBx.out.lt)
          have HB2 := hid (bt HB1.out hb)
          have HOO := hid (And.intro (owns_base o' (bt HBW.out HB1.out).size) (owns_base p' (bt HBW.out HB1.out).size))
          have HTT := hid tt
          have HCT := hid (cut_apart hct)
          clear hct
          clear t0 t1 t2 tf0 tf1 tf2 e0 e1 e2
          obtain ⟨t0, t1, t2, tf0, tf1, tf2⟩ := res_box3 HBy.out (Below.refl _ _)
          clear o' p' tt hb HBx HB1
          by_cases hlg : rlong (rsums N U Y (j + 1))
          · obtain ⟨rfl, rfl, rfl, rfl⟩ := HTT.out.long rfl hlg
            have HLG := hid hlg
            clear hlg
            obtain ⟨r0, r1, r2, f0, f1, f2⟩ := res_box3 HZw.out HB2.out
            have HFq := hid (HFw.out.later HB2.out HFw.out.lt)
            have s0 := HFq.out.cell 0
            have s1 := HFq.out.cell 1
            have y0 := HFq.out.free 0
            have y1 := HFq.out.free 1
            have m1 : w.heap.size ≠ w1.heap.size := by have := HZw.out.lt; omega
            have m2 : w.heap.size + 1 ≠ w1.heap.size := by have := HFw.out.lt; omega
            have m3 : w1.heap.size ≠ w.heap.size := fun e => m1 e.symm
            have m4 : w1.heap.size ≠ w.heap.size + 1 := fun e => m2 e.symm
            have HBN := hid (bt HBW.out HB2.out)
            have hw1 := HBW.out.size
            go_wp2_with fail
            refine bodyPost_ret (v := .tuple #[.agg #[.bool false, .slice none 0 0, .slice none 0 0], .agg #[.int .i64 3, .int .i64 (j : Int)]]) (by simp [results, Tryz.results12, go_sem, r0, r1, r2, s0, s1]) rfl ?_
            exact ⟨false, _, [], _, [], 3, (j : Int), rfl, World.ownsRow_nil _ _ _ _, World.ownsRow_nil _ _ _ _, ⟨Wd.nil, Wd.nil, .inr (.inl ⟨HEA.out, j, hlt, HQQ.out.2.2, HLG.out, rfl, rfl, rfl, rfl, rfl⟩)⟩, below_put2 (below_put3 (below_put3 HBN.out _ hw1 _ _ _) _ (Nat.le_refl _) _ _ _) _ (Nat.le_succ _) _ _, hid (.inl rfl)⟩
          · obtain ⟨hc0, hck', hq'⟩ := HTT.out.good rfl hlg
            subst hc0
            have HR : Hid (Tot true w N U Y w1.heap.size (j + 1) (((w2.setCell ⟨w1.heap.size, 0, none⟩ (.bool n')).setCell ⟨w1.heap.size, 1, none⟩ (.slice a' xs'.length c')).setCell ⟨w1.heap.size, 2, none⟩ (.slice b' ys'.length d')) ∧ Below w1.heap.size w1 (((w2.setCell ⟨w1.heap.size, 0, none⟩ (.bool n')).setCell ⟨w1.heap.size, 1, none⟩ (.slice a' xs'.length c')).setCell ⟨w1.heap.size, 2, none⟩ (.slice b' ys'.length d'))) := by
              refine ⟨⟨n', a', xs', c', b', ys', d', ((HBy.out.set 0 _).set 1 _).set 2 _, own_put3 HOO.out.1 _ (own_ne_box HOO.out.1 HBy.out (by decide)) _ _ _, own_put3 HOO.out.2 _ (own_ne_box HOO.out.2 HBy.out (by decide)) _ _ _, HTT.out.wx, HTT.out.wy, hck', hq', fun i hi => ?_, fun _ => HCT.out⟩, below_put3 HB2.out _ (Nat.le_refl _) _ _ _⟩
              by_cases c : i = j
              · subst c; exact hlg
              · exact HQQ.out.2.2 i (by omega)
            clear hlg hck' hq' HTT HOO HBy HB2
            go_wp2_with fail
            go_roundw
            case rel => exact ⟨j + 1, by omega, by go_num, HR⟩
            case measure => simp [intOf]; omega
        · have hjk : j = k := by omega
          subst hjk
          obtain ⟨t0, t1, t2, tf0, tf1, tf2⟩ := res_box3 bx (Below.refl _ _)
          have hzq := HZw.out.later HBQ.out HZw.out.lt
          have hfq := HFw.out.later HBQ.out HFw.out.lt
          obtain ⟨r0, r1, r2, f0, f1, f2⟩ := res_box3 hzq (Below.refl _ _)
          have s0 := hfq.cell 0
          have s1 := hfq.cell 1
          have y0 := hfq.free 0
          have y1 := hfq.free 1
          have HOA := hid (own_put3 oa _ (own_ne_box oa hzq (by decide)) (.bool n) (.slice qa za.length ka) (.slice qb zb.length kb))
          have HOB := hid (own_put3 ob _ (own_ne_box ob hzq (by decide)) (.bool n) (.slice qa za.length ka) (.slice qb zb.length kb))
          have hfq2 := ((hfq.other ⟨w.heap.size, 0, none⟩ (.bool n) (by simp)).other ⟨w.heap.size, 1, none⟩ (.slice qa za.length ka) (by simp)).other ⟨w.heap.size, 2, none⟩ (.slice qb zb.length kb) (by simp)
          have HOA2 := hid (own_put2 HOA.out _ (own_ne_box HOA.out hfq2 (by decide)) (.int .i64 0) (.int .i64 0))
          have HOB2 := hid (own_put2 HOB.out _ (own_ne_box HOB.out hfq2 (by decide)) (.int .i64 0) (.int .i64 0))
          have HBN := hid (bt HBW.out HBQ.out)
          clear hzq hfq hfq2 HOA HOB oa ob bx
          go_wp2_with fail
          refine bodyPost_ret (v := .tuple #[.agg #[.bool n, .slice qa za.length ka, .slice qb zb.length kb], .agg #[.int .i64 0, .int .i64 0]]) (by simp [results, Tryz.results12, go_sem, r0, r1, r2, s0, s1]) rfl ?_
          exact ⟨n, _, za, _, zb, 0, 0, rfl, HOA2.out, HOB2.out, ⟨HWW.out.1, HWW.out.2, .inr (.inr ⟨HEA.out, HQQ.out.2.2, HQQ.out.1, HQQ.out.2.1, rfl, rfl⟩)⟩, below_put2 (below_put3 HBN.out _ (Nat.le_refl _) _ _ _) _ (Nat.le_succ _) _ _, HAP⟩

end Go.Proofs.YtmncfbjoplfikaaGreatDoor

/- Complex fractions: gauss.Check; the steps' own: look, next. -/
namespace Go.Proofs.YtmncfbjoplfikaaGreatDoor
open Go.RowKit
set_option linter.unusedVariables false

/-- The first error, else the second. -/
def fstE (E e : Int) : Int := if E = 0 then e else E
theorem fstE_zero (e : Int) : fstE 0 e = e := if_pos rfl
theorem fstE_err {E : Int} (e : Int) (h : E ≠ 0) : fstE E e = E := if_neg h
theorem grow_trans {a b c : World} {row : Option Nat} (h : a.grownBy b row) (g : b.grownBy c row) : a.grownBy c row :=
  ⟨g.os.trans h.os, g.tape.trans h.tape, g.output.trans h.output, Nat.le_trans h.size g.size, fun k hk hne => (g.block k (Nat.lt_of_lt_of_le hk h.size) hne).trans (h.block k hk hne)⟩
theorem grow_below {a b : World} (h : Below a.heap.size a b) (row : Option Nat) : a.grownBy b row := ⟨h.os, h.tape, h.output, h.size, fun k hk _ => h.block k hk⟩
theorem grow_set (w : World) (b j : Nat) (v : Value) : w.grownBy (w.setCell ⟨b, j, none⟩ v) (some b) := ⟨rfl, rfl, rfl, by simp [World.setCell], fun k _ hne => Below.heap_setCell _ _ _ _ (fun e => hne (by rw [e]))⟩
theorem Box.kept' {W W' : World} {row : Option Nat} {b t : Nat} {vs : Array Value} (h : Box W b t vs) (hg : W.grownBy W' row) (hne : some b ≠ row) : Box W' b t vs := (hg.block b h.lt hne).trans h

/-- What Check tells of two parts. -/
def gchk (n : Bool) (xs ys : List Int) (m : Bool) (us vs : List Int) : Int := fstE (rchk n xs ys) (rchk m us vs)

theorem boxes3r (w : World) (t : Nat) (u v z : Array Value) : Box (((w.alloc (.cells u t)).alloc (.cells v t)).alloc (.cells z t)) w.heap.size t u ∧ Box (((w.alloc (.cells u t)).alloc (.cells v t)).alloc (.cells z t)) (w.heap.size + 1) t v ∧ Box (((w.alloc (.cells u t)).alloc (.cells v t)).alloc (.cells z t)) (w.heap.size + 1 + 1) t z ∧ Below w.heap.size w (((w.alloc (.cells u t)).alloc (.cells v t)).alloc (.cells z t)) := by
  have e1 : (w.alloc (.cells u t)).heap.size = w.heap.size + 1 := World.size_alloc _ _
  have e2 : ((w.alloc (.cells u t)).alloc (.cells v t)).heap.size = w.heap.size + 1 + 1 := by rw [World.size_alloc, World.size_alloc]
  have a := Box.made w t u
  have b := Box.made (w.alloc (.cells u t)) t v
  have c := Box.made ((w.alloc (.cells u t)).alloc (.cells v t)) t z
  have a2 := a.later (alloc_later (w.alloc (.cells u t)) (.cells v t)) a.lt
  exact ⟨a2.later (alloc_later _ _) a2.lt, e1 ▸ (b.later (alloc_later _ _) b.lt), e2 ▸ c, bt (alloc_later _ _) (bt (alloc_later _ _) (alloc_later _ _))⟩

theorem grow_put {a c : World} {p : Nat} (h : a.grownBy c (some p)) (b j : Nat) (v : Value) (hb : a.heap.size ≤ b ∨ b = p) : a.grownBy (c.setCell ⟨b, j, none⟩ v) (some p) :=
  ⟨h.os, h.tape, h.output, by simpa [World.setCell] using h.size, fun k hk hne => (Below.heap_setCell c ⟨b, j, none⟩ v k (fun e => by
    have e' : k = b := e
    rcases hb with hb | hb
    · omega
    · exact hne (by rw [e', hb]))).trans (h.block k hk hne)⟩
theorem grow_put3 {a c : World} {p : Nat} (h : a.grownBy c (some p)) (b : Nat) (u0 u1 u2 : Value) (hb : a.heap.size ≤ b ∨ b = p) : a.grownBy (((c.setCell ⟨b, 0, none⟩ u0).setCell ⟨b, 1, none⟩ u1).setCell ⟨b, 2, none⟩ u2) (some p) :=
  grow_put (grow_put (grow_put h b 0 u0 hb) b 1 u1 hb) b 2 u2 hb
theorem own_put3' {w : World} {base e n : Nat} {v : Value} {xs : List Value} (h : w.ownsRow base e 1 v n xs) (b : Nat) (hb : ∀ g, v.ownBlock = some g → g ≠ b) (u0 u1 u2 : Value) : (((w.setCell ⟨b, 0, none⟩ u0).setCell ⟨b, 1, none⟩ u1).setCell ⟨b, 2, none⟩ u2).ownsRow base e 1 v n xs :=
  own_put1 (own_put1 (own_put1 h b hb 0 u0) b hb 1 u1) b hb 2 u2
theorem box_put3 {U : World} {b t : Nat} {u0 u1 u2 : Value} (h : Box U b t #[u0, u1, u2]) (v0 v1 v2 : Value) : Box (((U.setCell ⟨b, 0, none⟩ v0).setCell ⟨b, 1, none⟩ v1).setCell ⟨b, 2, none⟩ v2) b t #[v0, v1, v2] := ((h.set 0 v0).set 1 v1).set 2 v2
theorem box_far3 {U : World} {b t b' : Nat} {vs : Array Value} (h : Box U b t vs) (hne : b ≠ b') (v0 v1 v2 : Value) : Box (((U.setCell ⟨b', 0, none⟩ v0).setCell ⟨b', 1, none⟩ v1).setCell ⟨b', 2, none⟩ v2) b t vs := ((h.other ⟨b', 0, none⟩ v0 hne).other ⟨b', 1, none⟩ v1 hne).other ⟨b', 2, none⟩ v2 hne

end Go.Proofs.YtmncfbjoplfikaaGreatDoor

/- Complex fractions, the steps' own: opposite, look, told. -/
namespace Go.Proofs.YtmncfbjoplfikaaGreatDoor
open Go.RowKit
set_option linter.unusedVariables false

theorem boxes2r (w : World) (t : Nat) (u v : Array Value) : Box ((w.alloc (.cells u t)).alloc (.cells v t)) w.heap.size t u ∧ Box ((w.alloc (.cells u t)).alloc (.cells v t)) (w.heap.size + 1) t v ∧ Below w.heap.size w ((w.alloc (.cells u t)).alloc (.cells v t)) := by
  have e1 : (w.alloc (.cells u t)).heap.size = w.heap.size + 1 := World.size_alloc _ _
  have a := Box.made w t u
  have b := Box.made (w.alloc (.cells u t)) t v
  exact ⟨a.later (alloc_later _ _) a.lt, e1 ▸ b, bt (alloc_later _ _) (alloc_later _ _)⟩

end Go.Proofs.YtmncfbjoplfikaaGreatDoor

/- Complex fractions, the steps' own: told. -/
namespace Go.Proofs.YtmncfbjoplfikaaGreatDoor
open Go.RowKit
set_option linter.unusedVariables false

theorem box_put6 {U : World} {b t : Nat} {u0 u1 u2 u3 u4 u5 : Value} (h : Box U b t #[u0, u1, u2, u3, u4, u5]) (v0 v1 v2 v3 v4 v5 : Value) : Box ((((((U.setCell ⟨b, 0, none⟩ v0).setCell ⟨b, 1, none⟩ v1).setCell ⟨b, 2, none⟩ v2).setCell ⟨b, 3, none⟩ v3).setCell ⟨b, 4, none⟩ v4).setCell ⟨b, 5, none⟩ v5) b t #[v0, v1, v2, v3, v4, v5] := (((((h.set 0 v0).set 1 v1).set 2 v2).set 3 v3).set 4 v4).set 5 v5
theorem below_put6 {B : Nat} {x U : World} (h : Below B x U) (b : Nat) (hb : B ≤ b) (v0 v1 v2 v3 v4 v5 : Value) : Below B x ((((((U.setCell ⟨b, 0, none⟩ v0).setCell ⟨b, 1, none⟩ v1).setCell ⟨b, 2, none⟩ v2).setCell ⟨b, 3, none⟩ v3).setCell ⟨b, 4, none⟩ v4).setCell ⟨b, 5, none⟩ v5) :=
  (((((h.setCell (p := ⟨b, 0, none⟩) hb _).setCell (p := ⟨b, 1, none⟩) hb _).setCell (p := ⟨b, 2, none⟩) hb _).setCell (p := ⟨b, 3, none⟩) hb _).setCell (p := ⟨b, 4, none⟩) hb _).setCell (p := ⟨b, 5, none⟩) hb _
end Go.Proofs.YtmncfbjoplfikaaGreatDoor

/- Complex fractions: gauss.Add, Sub: of any two, good or refused. -/
namespace Go.Proofs.YtmncfbjoplfikaaGreatDoor
open Go.RowKit
set_option linter.unusedVariables false

/-- What a call tells that tells a complex fraction: E what was refused ahead, L whether something on the way is too long. -/
structure GTells (E : Int) (L : Prop) (q1 q2 : Rat) (n : Bool) (xs ys : List Int) (m : Bool) (us vs : List Int) (code : Int) : Prop where
  wd : Wd xs ∧ Wd ys ∧ Wd us ∧ Wd vs
  bad : E ≠ 0 → (n = false ∧ xs = [] ∧ ys = [] ∧ m = false ∧ us = [] ∧ vs = []) ∧ code = E
  long : E = 0 → L → (n = false ∧ xs = [] ∧ ys = [] ∧ m = false ∧ us = [] ∧ vs = []) ∧ code = 3
  good : E = 0 → ¬ L → code = 0 ∧ (rchk n xs ys = 0 ∧ rq n xs ys = q1) ∧ rchk m us vs = 0 ∧ rq m us vs = q2
def GTold (w : World) (E : Int) (L : Prop) (q1 q2 : Rat) (x : Ending) (w' : World) : Prop :=
  ∃ n a ca xs b cb ys m c cc us d cd vs code, x = .returned (.tuple #[.agg #[.bool n, .slice a (List.length xs) ca, .slice b (List.length ys) cb, .bool m, .slice c (List.length us) cc, .slice d (List.length vs) cd], .int .i64 code]) ∧ (w'.ownsRow w.heap.size 30 1 (.slice a xs.length ca) xs.length (xs.map (Value.int .u32)) ∧ w'.ownsRow w.heap.size 30 1 (.slice b ys.length cb) ys.length (ys.map (Value.int .u32)) ∧ w'.ownsRow w.heap.size 30 1 (.slice c us.length cc) us.length (us.map (Value.int .u32)) ∧ w'.ownsRow w.heap.size 30 1 (.slice d vs.length cd) vs.length (vs.map (Value.int .u32))) ∧ GTells E L q1 q2 n xs ys m us vs code ∧ Below w.heap.size w w'

theorem gchk_ok {n m : Bool} {xs ys us vs : List Int} (h : gchk n xs ys m us vs = 0) : rchk n xs ys = 0 ∧ rchk m us vs = 0 := by
  unfold gchk fstE at h
  by_cases e : rchk n xs ys = 0
  · rw [if_pos e] at h; exact ⟨e, h⟩
  · rw [if_neg e] at h; exact absurd h e
theorem fstE_ok {E e : Int} (h : fstE E e = 0) : E = 0 ∧ e = 0 := by
  unfold fstE at h
  by_cases c : E = 0
  · rw [if_pos c] at h; exact ⟨c, h⟩
  · rw [if_neg c] at h; exact absurd h c

theorem own_put6 {w : World} {base e n : Nat} {v : Value} {xs : List Value} (h : w.ownsRow base e 1 v n xs) (b : Nat) (hb : ∀ g, v.ownBlock = some g → g ≠ b) (u0 u1 u2 u3 u4 u5 : Value) : ((((((w.setCell ⟨b, 0, none⟩ u0).setCell ⟨b, 1, none⟩ u1).setCell ⟨b, 2, none⟩ u2).setCell ⟨b, 3, none⟩ u3).setCell ⟨b, 4, none⟩ u4).setCell ⟨b, 5, none⟩ u5).ownsRow base e 1 v n xs :=
  own_put1 (own_put1 (own_put1 (own_put3' h b hb u0 u1 u2) b hb 3 u3) b hb 4 u4) b hb 5 u5
/-- Two steps, and what is told of them. -/
theorem gtwo {E e1 e2 : Int} {q1 q2 : Rat} {n m : Bool} {xs ys us vs : List Int} {c1 c2 : Int} (h1 : RTells (fstE E e1) q1 n xs ys c1) (h2 : RTells (fstE c1 e2) q2 m us vs c2) (z1 : E = 0 → e1 = 0) (z2 : E = 0 → e2 = 0) :
    (c2 = 0 → GTells E (rlong q1 ∨ rlong q2) q1 q2 n xs ys m us vs c2) ∧ (c2 ≠ 0 → GTells E (rlong q1 ∨ rlong q2) q1 q2 false [] [] false [] [] c2) := by
  have w4 : Wd [] := Wd.nil
  by_cases hE : E = 0
  · subst hE
    rw [fstE_zero, z1 rfl] at h1
    rw [z2 rfl] at h2
    by_cases l1 : rlong q1
    · obtain ⟨_, _, _, hc⟩ := h1.long rfl l1
      subst hc
      rw [fstE_err 0 (by decide)] at h2
      obtain ⟨_, _, _, hc2⟩ := h2.bad (by decide)
      subst hc2
      exact ⟨fun h => absurd h (by decide), fun _ => ⟨⟨w4, w4, w4, w4⟩, fun h => absurd rfl h, fun _ _ => ⟨⟨rfl, rfl, rfl, rfl, rfl, rfl⟩, rfl⟩, fun _ h => absurd (.inl l1) h⟩⟩
    · obtain ⟨hc, hk1, hv1⟩ := h1.good rfl l1
      subst hc
      rw [fstE_zero] at h2
      by_cases l2 : rlong q2
      · obtain ⟨_, _, _, hc2⟩ := h2.long rfl l2
        subst hc2
        exact ⟨fun h => absurd h (by decide), fun _ => ⟨⟨w4, w4, w4, w4⟩, fun h => absurd rfl h, fun _ _ => ⟨⟨rfl, rfl, rfl, rfl, rfl, rfl⟩, rfl⟩, fun _ h => absurd (.inr l2) h⟩⟩
      · obtain ⟨hc2, hk2, hv2⟩ := h2.good rfl l2
        subst hc2
        exact ⟨fun _ => ⟨⟨h1.wx, h1.wy, h2.wx, h2.wy⟩, fun h => absurd rfl h, fun _ h => absurd h (by rintro (h | h); exact l1 h; exact l2 h), fun _ _ => ⟨rfl, ⟨hk1, hv1⟩, hk2, hv2⟩⟩, fun h => absurd rfl h⟩
  · rw [fstE_err _ hE] at h1
    obtain ⟨_, _, _, hc⟩ := h1.bad hE
    subst hc
    rw [fstE_err _ hE] at h2
    obtain ⟨_, _, _, hc2⟩ := h2.bad hE
    subst hc2
    exact ⟨fun h => absurd h hE, fun _ => ⟨⟨w4, w4, w4, w4⟩, fun _ => ⟨⟨rfl, rfl, rfl, rfl, rfl, rfl⟩, rfl⟩, fun h => absurd h hE, fun h => absurd h hE⟩⟩
theorem rboth0 {n m : Bool} {xs ys us vs : List Int} (h : rchk n xs ys = 0) (g : rchk m us vs = 0) : rboth n xs ys m us vs = 0 := rboth_good h g

end Go.Proofs.YtmncfbjoplfikaaGreatDoor

/- Complex fractions: what stands while steps are made one behind the other (for square, times). -/
namespace Go.Proofs.YtmncfbjoplfikaaGreatDoor
open Go.RowKit
set_option linter.unusedVariables false

/-- A fraction that a step told, still there. -/
structure GRow (V : World) (base : Nat) (n : Bool) (v : Value) (xs : List Int) (u : Value) (ys : List Int) : Prop where
  ov : V.ownsRow base 30 1 v xs.length (xs.map (Value.int .u32))
  ou : V.ownsRow base 30 1 u ys.length (ys.map (Value.int .u32))
theorem GRow.step {V V' : World} {base p : Nat} {n : Bool} {v u : Value} {xs ys : List Int} (h : GRow V base n v xs u ys) (hp : p < base) (hg : V.grownBy V' (some p)) : GRow V' base n v xs u ys := by
  have hk : ∀ (x : Value), (∀ g, x.ownBlock = some g → base ≤ g) → x.ownBlock = none ∨ x.ownBlock ≠ some p := fun x h1 => by
    cases e : x.ownBlock with
    | none => exact .inl rfl
    | some g => right; intro h; have e2 := Option.some.inj h; have := h1 g e; omega
  exact ⟨World.ownsRow.kept h.ov hg (hk _ (fun g hg => (h.ov.lt g hg).1)), World.ownsRow.kept h.ou hg (hk _ (fun g hg => (h.ou.lt g hg).1))⟩
theorem GRow.sl {V : World} {base : Nat} {n : Bool} {v u : Value} {xs ys : List Int} (h : GRow V base n v xs u ys) (wx : Wd xs) (wy : Wd ys) : Sl V v xs ∧ Sl V u ys := ⟨Sl.own h.ov wx, Sl.own h.ou wy⟩
theorem Sl.kept {V V' : World} {v : Value} {xs : List Int} {p : Nat} (h : Sl V v xs) (hg : V.grownBy V' (some p)) (hne : ∀ a k c, v = .slice (some a) k c → a.block ≠ p) : Sl V' v xs := by
  obtain ⟨a, cap, hv, h1, h2, h3, h4, h5, h6⟩ := h
  refine ⟨a, cap, hv, h1, h2, ?_, h4, h5, h6⟩
  rcases h3 with h3 | ⟨b, off, ha, hb, hc⟩
  · exact .inl h3
  · have hbp : b ≠ p := by subst ha; exact hne _ _ _ hv
    have hs := hg.size
    exact .inr ⟨b, off, ha, by omega, fun j hj => hg.cell (a := ⟨b, off + j, none⟩) (hc j hj) (fun e => hbp (Option.some.inj e))⟩
end Go.Proofs.YtmncfbjoplfikaaGreatDoor

/- Complex fractions, the steps' own: square: of any complex fraction that was looked at. -/
namespace Go.Proofs.YtmncfbjoplfikaaGreatDoor
open Go.RowKit
set_option linter.unusedVariables false

theorem cells6 {W : World} {b t : Nat} {u0 u1 u2 u3 u4 u5 : Value} (h : Box W b t #[u0, u1, u2, u3, u4, u5]) : W.cell? ⟨b, 0, none⟩ = some u0 ∧ W.cell? ⟨b, 1, none⟩ = some u1 ∧ W.cell? ⟨b, 2, none⟩ = some u2 ∧ W.cell? ⟨b, 3, none⟩ = some u3 ∧ W.cell? ⟨b, 4, none⟩ = some u4 ∧ W.cell? ⟨b, 5, none⟩ = some u5 :=
  ⟨h.cell 0, h.cell 1, h.cell 2, h.cell 3, h.cell 4, h.cell 5⟩

end Go.Proofs.YtmncfbjoplfikaaGreatDoor

/- A box of six cells that is stored into whole. -/
namespace Go.Proofs.YtmncfbjoplfikaaGreatDoor
open Go.RowKit
set_option linter.unusedVariables false

theorem setRow_box {W : World} {b t : Nat} {old cs : Array Value} (h : Box W b t old) : Box (W.setRow b cs) b t cs := by
  unfold Box at *
  simp only [World.setRow, Array.getElem?_modify, if_pos, h, Option.map_some]
theorem setRow_far (W : World) (b : Nat) (cs : Array Value) {i : Nat} (hne : i ≠ b) : (W.setRow b cs).heap[i]? = W.heap[i]? := by
  simp only [World.setRow, Array.getElem?_modify, if_neg (Ne.symm hne)]
theorem put6_far (W : World) (b : Nat) (v0 v1 v2 v3 v4 v5 : Value) {i : Nat} (hne : i ≠ b) : ((((((W.setCell ⟨b, 0, none⟩ v0).setCell ⟨b, 1, none⟩ v1).setCell ⟨b, 2, none⟩ v2).setCell ⟨b, 3, none⟩ v3).setCell ⟨b, 4, none⟩ v4).setCell ⟨b, 5, none⟩ v5).heap[i]? = W.heap[i]? := by
  rw [Below.heap_setCell _ _ _ _ hne, Below.heap_setCell _ _ _ _ hne, Below.heap_setCell _ _ _ _ hne, Below.heap_setCell _ _ _ _ hne, Below.heap_setCell _ _ _ _ hne, Below.heap_setCell _ _ _ _ hne]
theorem world_eq {A B : World} (h : A.heap = B.heap) (s : ∀ H, ({ A with heap := H } : World) = { B with heap := H }) : A = B := by
  have e := s A.heap
  have e2 : ({ B with heap := A.heap } : World) = B := by rw [h]
  exact e.trans e2
theorem same_cell {A B : World} (s : ∀ H, ({ A with heap := H } : World) = { B with heap := H }) (p : Addr) (v : Value) : ∀ H, ({ A with heap := H } : World) = { B.setCell p v with heap := H } := fun H => (s H).trans rfl
theorem same_row (W : World) (b : Nat) (cs : Array Value) : ∀ H, ({ W.setRow b cs with heap := H } : World) = { W with heap := H } := fun H => rfl
theorem gput6_eq {W : World} {b t : Nat} {u0 u1 u2 u3 u4 u5 : Value} (h : Box W b t #[u0, u1, u2, u3, u4, u5]) (v0 v1 v2 v3 v4 v5 : Value) : W.setRow b #[v0, v1, v2, v3, v4, v5] = (((((W.setCell ⟨b, 0, none⟩ v0).setCell ⟨b, 1, none⟩ v1).setCell ⟨b, 2, none⟩ v2).setCell ⟨b, 3, none⟩ v3).setCell ⟨b, 4, none⟩ v4).setCell ⟨b, 5, none⟩ v5 := by
  refine world_eq ?_ (same_cell (same_cell (same_cell (same_cell (same_cell (same_cell (same_row W b _) _ _) _ _) _ _) _ _) _ _) _ _)
  apply Array.ext_getElem?
  intro i
  by_cases hi : i = b
  · subst hi
    have e1 := setRow_box (cs := #[v0, v1, v2, v3, v4, v5]) h
    have e2 := box_put6 h v0 v1 v2 v3 v4 v5
    exact Eq.trans e1 e2.symm
  · rw [setRow_far W b _ hi, put6_far W b _ _ _ _ _ _ hi]
/-- A store of six cells, cell by cell, each world by its name. -/
theorem gchain6 {W : World} {b t : Nat} {u0 u1 u2 u3 u4 u5 : Value} (h : Box W b t #[u0, u1, u2, u3, u4, u5]) (v0 v1 v2 v3 v4 v5 : Value) : ∃ A0 A1 A2 A3 A4 A5, W.setCell ⟨b, 0, none⟩ v0 = A0 ∧ A0.setCell ⟨b, 1, none⟩ v1 = A1 ∧ A1.setCell ⟨b, 2, none⟩ v2 = A2 ∧ A2.setCell ⟨b, 3, none⟩ v3 = A3 ∧ A3.setCell ⟨b, 4, none⟩ v4 = A4 ∧ A4.setCell ⟨b, 5, none⟩ v5 = A5 ∧ (W.cell? ⟨b, 0, none⟩ = some u0 ∧ A0.cell? ⟨b, 1, none⟩ = some u1 ∧ A1.cell? ⟨b, 2, none⟩ = some u2 ∧ A2.cell? ⟨b, 3, none⟩ = some u3 ∧ A3.cell? ⟨b, 4, none⟩ = some u4 ∧ A4.cell? ⟨b, 5, none⟩ = some u5) ∧ (W.frozen? ⟨b, 0, none⟩ = false ∧ A0.frozen? ⟨b, 1, none⟩ = false ∧ A1.frozen? ⟨b, 2, none⟩ = false ∧ A2.frozen? ⟨b, 3, none⟩ = false ∧ A3.frozen? ⟨b, 4, none⟩ = false ∧ A4.frozen? ⟨b, 5, none⟩ = false) := by
  have h0 : Box _ b t #[v0, u1, u2, u3, u4, u5] := h.set 0 v0
  have h1 : Box _ b t #[v0, v1, u2, u3, u4, u5] := h0.set 1 v1
  have h2 : Box _ b t #[v0, v1, v2, u3, u4, u5] := h1.set 2 v2
  have h3 : Box _ b t #[v0, v1, v2, v3, u4, u5] := h2.set 3 v3
  have h4 : Box _ b t #[v0, v1, v2, v3, v4, u5] := h3.set 4 v4
  exact ⟨_, _, _, _, _, _, rfl, rfl, rfl, rfl, rfl, rfl, ⟨h.cell 0, h0.cell 1, h1.cell 2, h2.cell 3, h3.cell 4, h4.cell 5⟩, h.free 0, h0.free 1, h1.free 2, h2.free 3, h3.free 4, h4.free 5⟩
end Go.Proofs.YtmncfbjoplfikaaGreatDoor

/- Complex fractions, the laws' own: frac; two fractions, two complex fractions with the same words. -/
namespace Go.Proofs.YtmncfbjoplfikaaGreatDoor
open Go.RowKit
set_option linter.unusedVariables false

set_option maxHeartbeats 1600000 in
set_option maxRecDepth 100000 in
theorem gsameRatio_eq (n : Bool) (v u v' u' : Value) (xs ys : List Int) (w : World) (h : Sl w v xs) (g : Sl w u ys) (h' : Sl w v' xs) (g' : Sl w u' ys) (lx : xs.length ≤ 281474976710656) (ly : ys.length ≤ 281474976710656) :
    Calls Tryz.prog 15 #[.agg #[.bool n, v, u], .agg #[.bool n, v', u']] w fun e w' => e = .returned (.bool true) ∧ Below w.heap.size w w' := by
  have HB : Hid (Below w.heap.size w ((w.alloc (.cells #[.bool n, v, u] 24)).alloc (.cells #[.bool n, v', u'] 24))) := bt (alloc_later _ _) (alloc_later _ _)
  have HN : Hid (Box ((w.alloc (.cells #[.bool n, v, u] 24)).alloc (.cells #[.bool n, v', u'] 24)) w.heap.size 24 #[.bool n, v, u]) := Box.later (Box.made w _ _) (alloc_later _ _) (by simp)
  have HM : Hid (Box ((w.alloc (.cells #[.bool n, v, u] 24)).alloc (.cells #[.bool n, v', u'] 24)) (w.heap.size + 1) 24 #[.bool n, v', u']) := by
    have e := Box.made (w.alloc (.cells #[.bool n, v, u] 24)) 24 #[.bool n, v', u']
    simp at e
    exact e
  have H1 := hid (same_sl v v' xs xs _ (h.later HB.out) (h'.later HB.out) lx lx)
  rw [decide_eq_true rfl] at H1
  have H2 := hid (fun ww (hb : Below _ ((w.alloc (.cells #[.bool n, v, u] 24)).alloc (.cells #[.bool n, v', u'] 24)) ww) => same_sl u u' ys ys ww ((g.later HB.out).later hb) ((g'.later HB.out).later hb) ly ly)
  rw [decide_eq_true rfl] at H2
  have hbb : (n == n) = true := by simp
  obtain ⟨a, ca, rfl, hr⟩ := h
  obtain ⟨b, cb, rfl, gr⟩ := g
  obtain ⟨a', ca', rfl, hr'⟩ := h'
  obtain ⟨b', cb', rfl, gr'⟩ := g'
  clear hr gr hr' gr'
  go_enter Tryz.func15, Tryz.ntmps15
  go_wp2_with fail
  refine Calls.mono H1.out ?_
  generalize ((w.alloc (.cells #[.bool n, .slice a xs.length ca, .slice b ys.length cb] 24)).alloc (.cells #[.bool n, .slice a' xs.length ca', .slice b' ys.length cb'] 24)) = X at *
  rintro e w1 ⟨rfl, hb1⟩
  obtain ⟨p0, p1, p2, _, _, _⟩ := res_box3 HN.out hb1
  obtain ⟨q0, q1, q2, _, _, _⟩ := res_box3 HM.out hb1
  have HC := hid (H2.out w1 hb1)
  have HB1 := hid (bt HB.out hb1)
  clear hb1 H1 H2
  go_wp2_with fail
  refine Calls.mono HC.out ?_
  rintro e w2 ⟨rfl, hb2⟩
  have HBN := hid (bt HB1.out hb2)
  clear hb2 HC
  go_wp2_with fail
  go_ret
  exact ⟨rfl, HBN.out⟩
end Go.Proofs.YtmncfbjoplfikaaGreatDoor

