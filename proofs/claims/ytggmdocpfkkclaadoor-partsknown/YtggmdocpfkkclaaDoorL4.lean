/- My texts on the way to PartsKnown, one behind the other: contracts of the program and of the document's answers. -/
import Derived.Test.YtggmdocpfkkclaaDoorL1
import Derived.Test.YtggmdocpfkkclaaDoorL2
import Derived.Test.YtggmdocpfkkclaaDoorL3
import Derived.Deep.Cut
import Derived.Lib.LaidTab
import Derived.Deep.RegionHeld3
/- Fractions: ratio.add: sums of fractions that may be; what is told is new memory, Num and Den apart. -/
namespace Go.Proofs.YtggmdocpfkkclaaDoor
open Go.RowKit
set_option linter.unusedVariables false

theorem bel_al {a w : World} (h : Below a.heap.size a w) (o : Obj) : Below a.heap.size a (w.alloc o) := h.alloc h.size o
theorem bel_undrew {w V : World} (hb : Below w.drew.heap.size w.drew V) : Below w.heap.size w V := bt (Below.drew (Below.refl _ w)) hb
theorem bel_unal {w V : World} {o : Obj} (hb : Below (w.alloc o).heap.size (w.alloc o) V) : Below w.heap.size w V := bt (alloc_later _ _) hb
theorem zbw {w V : World} (hb : Below (w.alloc (.cells #[.bool false, .slice none 0 0] 71)).heap.size (w.alloc (.cells #[.bool false, .slice none 0 0] 71)) V) : Box V w.heap.size 71 #[.bool false, .slice none 0 0] := (Box.made w 71 _).later hb (by simp)
theorem new_ne' {w : World} {g t : Nat} {vs : Array Value} (h : Box w g t vs) : g < w.heap.size ∧ ¬ w.heap.size = g := by
  have := h.lt
  omega
theorem nes3 {p q : Nat} (h : p + 1 + 1 < q) : ¬ p = q ∧ ¬ q = p ∧ ¬ p + 1 = q ∧ ¬ q = p + 1 := by omega
/-- A whole number in a box, behind what was there. -/
def Num (X U F : World) (p : Nat) (k : Bool) (a : Option Addr) (c : Nat) (z : List Int) (T : Int) : Prop := Box F p 71 #[.bool k, .slice a z.length c] ∧ One X F (.slice a z.length c) z T ∧ Below U.heap.size U F
theorem num_old {X U W : World} {p : Nat} {k : Bool} {a : Option Addr} {c : Nat} {z : List Int} {T : Int} (o : One X W (.slice a z.length c) z T) (hb : Below U.heap.size U W) (h : Box W p 71 #[.bool false, .slice none 0 0]) (lp : U.heap.size ≤ p) : Num X U ((W.setCell ⟨p, 0, none⟩ (.bool k)).setCell ⟨p, 1, none⟩ (.slice a z.length c)) p k a c z T :=
  ⟨h.put2 _ _, ⟨own_put2 o.1 p (own_ne_box o.1 h (by decide)) _ _, o.2⟩, below_put2 hb p lp _ _⟩
theorem num_new {X U W : World} {k : Bool} {a : Option Addr} {c : Nat} {z : List Int} {T : Int} (o : One X W (.slice a z.length c) z T) (hb : Below U.heap.size U W) : Num X U (W.alloc (.cells #[.bool k, .slice a z.length c] 71)) W.heap.size k a c z T :=
  ⟨Box.made W _ _, o.later (alloc_later _ _), bt hb (alloc_later _ _)⟩

theorem lies_low {v : Value} {lo lo' hi : Nat} (h : Lies v lo hi) (hl : lo' ≤ lo) : Lies v lo' hi := fun g hg => ⟨Nat.le_trans hl (h g hg).1, (h g hg).2⟩
theorem sum_4097 {k n m : Bool} {T p1 p2 : Int} (h : sg k T = sg n p1 + sg m p2) (h0 : 0 ≤ T) (q0 : 0 ≤ p1) (q1 : p1 < 4294967296 ^ 4096) (r0 : 0 ≤ p2) (r1 : p2 < 4294967296 ^ 4096) : T < 4294967296 ^ 4097 := by
  have e : (4294967296 : Int) ^ 4097 = 4294967296 ^ 4096 * 4294967296 := Int.pow_succ _ 4096
  rw [e]
  generalize (4294967296 : Int) ^ 4096 = Y at *
  cases k <;> cases n <;> cases m <;> simp [sg] at h <;> omega
theorem at7 {X w7 ww : World} {f : Nat} {args : Array Value} {t : Int} {S : World → Prop} (hS : ∀ V, Below w7.heap.size w7 V → S V) (hw : Below w7.heap.size w7 ww) (C : Calls Tryd.prog f args ww (fun e w' => ∃ a2 zs c2, e = .returned (.slice a2 (List.length zs) c2) ∧ Hid (One X w' (.slice a2 (List.length zs) c2) zs t ∧ Lies (.slice a2 (List.length zs) c2) ww.heap.size w'.heap.size) ∧ True ∧ Below X.heap.size X w' ∧ Hid (Below ww.heap.size ww w'))) :
    Calls Tryd.prog f args ww fun e w' => ∃ a2 zs c2, e = .returned (.slice a2 (List.length zs) c2) ∧ Hid (One X w' (.slice a2 (List.length zs) c2) zs t ∧ Lies (.slice a2 (List.length zs) c2) ww.heap.size w'.heap.size ∧ True ∧ Below w7.heap.size w7 w') ∧ S w' ∧ Hid (Below ww.heap.size ww w') :=
  Calls.mono C fun e w' ⟨a2, zs, c2, h1, h2, _, _, h5⟩ => ⟨a2, zs, c2, h1, ⟨h2.out.1, h2.out.2, trivial, bt hw h5.out⟩, hS w' (bt hw h5.out), h5⟩
theorem rtold_cut2 {U ww : World} {n : Bool} {a : Option Addr} {ca : Nat} {zs : List Int} {b : Option Addr} {cb : Nat} {ds : List Int} {s t : Int} {q : Rat} (hb : Below U.heap.size U ww) (h1 : One U ww (.slice a zs.length ca) zs s) (h2 : One U ww (.slice b ds.length cb) ds t) (hc : Cut U (.slice a zs.length ca) (.slice b ds.length cb) ww) (hd : 0 < t) (hg : gcdI s t = 1) (hq : Rat.divInt (sg n s) t = q) :
    Calls Tryd.prog 52 #[.bool n, .slice a zs.length ca, .slice b ds.length cb] ww fun e w' => ∃ k a8 z8 c8 a9 z9 c9 code, e = .returned (.tuple #[.agg #[.bool k, .slice a8 (List.length z8) c8, .slice a9 (List.length z9) c9], .int .i64 code]) ∧ Hid (w'.ownsRow U.heap.size 53 1 (.slice a8 (List.length z8) c8) z8.length (z8.map (Value.int .u32)) ∧ w'.ownsRow U.heap.size 53 1 (.slice a9 (List.length z9) c9) z9.length (z9.map (Value.int .u32)) ∧ RTells 0 q k z8 z9 code ∧ Cut U (.slice a8 (List.length z8) c8) (.slice a9 (List.length z9) c9) w') ∧ Below U.heap.size U w' ∧ Hid (Below ww.heap.size ww w') := by
  obtain ⟨o1, w1, t1, v1⟩ := h1
  obtain ⟨o2, w2, t2, v2⟩ := h2
  obtain ⟨k, us, vs, c, e1, e2, e3, r⟩ := rtells_of (n := n) w1 t1 w2 t2 (by rw [v2]; exact hd) (by rw [v1, v2]; exact hg)
  rw [v1, v2, hq] at r
  refine Calls.mono (rtold_any n a zs.length ca b ds.length cb ww) fun e w' h => ?_
  obtain ⟨rfl, hb2⟩ := h
  rw [e1]
  by_cases z : c = 0
  · rw [if_pos z] at e2 e3
    subst e2; subst e3
    refine ⟨k, a, us, ca, b, vs, cb, c, by rw [if_pos z, if_pos z], ⟨owns_later o1 hb2, owns_later o2 hb2, r, hc.up (Nat.le_refl _) hb2.size⟩, bt hb hb2, hb2⟩
  · rw [if_neg z] at e2 e3
    subst e2; subst e3
    exact ⟨k, none, [], 0, none, [], 0, c, by rw [if_neg z, if_neg z]; rfl, ⟨World.ownsRow_nil _ _ _ _, World.ownsRow_nil _ _ _ _, r, ⟨U.heap.size, Nat.le_refl _, (bt hb hb2).size, fun g hg => by simp [Value.ownBlock] at hg, fun g hg => by simp [Value.ownBlock] at hg⟩⟩, bt hb hb2, hb2⟩

set_option maxHeartbeats 6400000 in
set_option maxRecDepth 100000 in
theorem radd_any (n : Bool) (a : Option Addr) (ca : Nat) (xs : List Int) (b : Option Addr) (cb : Nat) (ys : List Int) (m : Bool) (c : Option Addr) (cc : Nat) (us : List Int) (d : Option Addr) (cd : Nat) (vs : List Int) (w : World)
    (sx : Sl w (.slice a xs.length ca) xs) (sy : Sl w (.slice b ys.length cb) ys) (su : Sl w (.slice c us.length cc) us) (sv : Sl w (.slice d vs.length cd) vs) (lx : xs.length ≤ 2048) (ly : ys.length ≤ 2048) (lu : us.length ≤ 2048) (lv : vs.length ≤ 2048) (tx : Trimmed xs) (ty : Trimmed ys) (tu : Trimmed us) (tv : Trimmed vs) (hy : 0 < val ys) (hv : 0 < val vs) (h1 : gcdI (val xs) (val ys) = 1) (h2 : gcdI (val us) (val vs) = 1) :
    Calls Tryd.prog 65 #[.agg #[.bool n, .slice a xs.length ca, .slice b ys.length cb], .agg #[.bool m, .slice c us.length cc, .slice d vs.length cd]] w (RToldA w 0 (rq n xs ys + rq m us vs)) := by
  have wx := sx.wd
  have wy := sy.wd
  have wu := su.wd
  have wv := sv.wd
  have HB : Hid (Below w.heap.size w (((w.alloc (.cells #[.bool n, .slice a xs.length ca, .slice b ys.length cb] 27)).alloc (.cells #[.bool m, .slice c us.length cc, .slice d vs.length cd] 27)).alloc (.cells #[.bool false, .slice none 0 0, .slice none 0 0] 27))) := bt (bt (alloc_later _ _) (alloc_later _ _)) (alloc_later _ _)
  have HZ : Hid (Box (((w.alloc (.cells #[.bool n, .slice a xs.length ca, .slice b ys.length cb] 27)).alloc (.cells #[.bool m, .slice c us.length cc, .slice d vs.length cd] 27)).alloc (.cells #[.bool false, .slice none 0 0, .slice none 0 0] 27)) (w.heap.size + 1 + 1) 27 #[.bool false, .slice none 0 0, .slice none 0 0]) := by
    have e := Box.made ((w.alloc (.cells #[.bool n, .slice a xs.length ca, .slice b ys.length cb] 27)).alloc (.cells #[.bool m, .slice c us.length cc, .slice d vs.length cd] 27)) 27 #[.bool false, .slice none 0 0, .slice none 0 0]
    simp at e
    exact e
  have HN : Hid (Box (((w.alloc (.cells #[.bool n, .slice a xs.length ca, .slice b ys.length cb] 27)).alloc (.cells #[.bool m, .slice c us.length cc, .slice d vs.length cd] 27)).alloc (.cells #[.bool false, .slice none 0 0, .slice none 0 0] 27)) w.heap.size 27 #[.bool n, .slice a xs.length ca, .slice b ys.length cb]) := Box.later (Box.made w _ _) (bt (alloc_later _ _) (alloc_later _ _)) (by simp)
  have HM : Hid (Box (((w.alloc (.cells #[.bool n, .slice a xs.length ca, .slice b ys.length cb] 27)).alloc (.cells #[.bool m, .slice c us.length cc, .slice d vs.length cd] 27)).alloc (.cells #[.bool false, .slice none 0 0, .slice none 0 0] 27)) (w.heap.size + 1) 27 #[.bool m, .slice c us.length cc, .slice d vs.length cd]) := by
    have e := Box.later (Box.made (w.alloc (.cells #[.bool n, .slice a xs.length ca, .slice b ys.length cb] 27)) 27 #[.bool m, .slice c us.length cc, .slice d vs.length cd]) (alloc_later ((w.alloc (.cells #[.bool n, .slice a xs.length ca, .slice b ys.length cb] 27)).alloc (.cells #[.bool m, .slice c us.length cc, .slice d vs.length cd] 27)) (.cells #[.bool false, .slice none 0 0, .slice none 0 0] 27)) (by simp)
    simp at e
    exact e
  have HXS : Hid (w.heap.size + 1 + 1 < (((w.alloc (.cells #[.bool n, .slice a xs.length ca, .slice b ys.length cb] 27)).alloc (.cells #[.bool m, .slice c us.length cc, .slice d vs.length cd] 27)).alloc (.cells #[.bool false, .slice none 0 0, .slice none 0 0] 27)).heap.size) := HZ.out.lt
  have HSL := hid (And.intro (sx.later HB.out) (And.intro (sy.later HB.out) (And.intro (su.later HB.out) (sv.later HB.out))))
  have HP := hid (And.intro hy (And.intro hv (And.intro h1 h2)))
  have HTT := hid (And.intro tx (And.intro ty (And.intro tu tv)))
  have HF0 : Hid (0 < gcdI (val ys) (val vs) ∧ gcdI (val ys) (val vs) ≤ val vs) := ⟨gcd_pos_right hv, gcd_le_right hv⟩
  have HL : Hid (val xs < 4294967296 ^ 2048 ∧ val ys < 4294967296 ^ 2048 ∧ val us < 4294967296 ^ 2048 ∧ val vs < 4294967296 ^ 2048) := ⟨below2048 wx lx, below2048 wy ly, below2048 wu lu, below2048 wv lv⟩
  have HNN : Hid (0 ≤ val xs ∧ 0 ≤ val us ∧ 0 ≤ val ys ∧ 0 ≤ val vs) := ⟨val_nonneg wx, val_nonneg wu, val_nonneg wy, val_nonneg wv⟩
  have HD : Hid (val ys / gcdI (val ys) (val vs) < 4294967296 ^ 2048 ∧ val vs / gcdI (val ys) (val vs) < 4294967296 ^ 2048 ∧ 0 ≤ val ys / gcdI (val ys) (val vs) ∧ 0 ≤ val vs / gcdI (val ys) (val vs)) := by
    have q3 := Int.ediv_le_self (a := val ys) (gcdI (val ys) (val vs)) (by omega)
    have q4 := Int.ediv_le_self (a := val vs) (gcdI (val ys) (val vs)) (by omega)
    have q5 := HF0.out
    have := HL.out
    exact ⟨by omega, by omega, Int.ediv_nonneg (by omega) (by omega), Int.ediv_nonneg (by omega) (by omega)⟩
  have HPL : Hid (val xs * (val vs / gcdI (val ys) (val vs)) < 4294967296 ^ 4096 ∧ val us * (val ys / gcdI (val ys) (val vs)) < 4294967296 ^ 4096) := ⟨mul_4096 HNN.out.1 HL.out.1 HD.out.2.2.2 HD.out.2.1, mul_4096 HNN.out.2.1 HL.out.2.2.1 HD.out.2.2.1 HD.out.1⟩
  have HC1 := hid (rcommon_any _ _ ys vs (((w.alloc (.cells #[.bool n, .slice a xs.length ca, .slice b ys.length cb] 27)).alloc (.cells #[.bool m, .slice c us.length cc, .slice d vs.length cd] 27)).alloc (.cells #[.bool false, .slice none 0 0, .slice none 0 0] 27)) HSL.out.2.1 HSL.out.2.2.2 (by omega) (by omega) ty tv)
  obtain ⟨G, hG⟩ : ∃ G, G = gcdI (val ys) (val vs) := ⟨_, rfl⟩
  rw [← hG] at HC1 HF0 HD HPL
  obtain ⟨rA, hA⟩ : ∃ rA, rA = val ys / G := ⟨_, rfl⟩
  obtain ⟨rB, hB⟩ : ∃ rB, rB = val vs / G := ⟨_, rfl⟩
  rw [← hA, ← hB] at HD HPL
  have HEQ := hid (And.intro hG (And.intro hA hB))
  clear sx sy su sv tx ty tu tv hy hv h1 h2 wx wy wu wv hG hA hB
  go_enter Tryd.func65, Tryd.ntmps65
  go_wp2_with fail
  refine Calls.mono HC1.out ?_
  generalize (((w.alloc (.cells #[.bool n, .slice a xs.length ca, .slice b ys.length cb] 27)).alloc (.cells #[.bool m, .slice c us.length cc, .slice d vs.length cd] 27)).alloc (.cells #[.bool false, .slice none 0 0, .slice none 0 0] 27)) = X at *
  rintro e w1 ⟨v1, z1, rfl, o1, wd1, t1, hv1, hb1⟩
  obtain ⟨a1, c1, hs1⟩ := own_slice' o1
  subst hs1
  have HK : Hid (∀ V, Below X.heap.size X V → V.cell? ⟨w.heap.size, 0, none⟩ = some (.bool n) ∧ V.cell? ⟨w.heap.size, 1, none⟩ = some (.slice a xs.length ca) ∧ V.cell? ⟨w.heap.size, 2, none⟩ = some (.slice b ys.length cb) ∧ V.cell? ⟨w.heap.size + 1, 0, none⟩ = some (.bool m) ∧ V.cell? ⟨w.heap.size + 1, 1, none⟩ = some (.slice c us.length cc) ∧ V.cell? ⟨w.heap.size + 1, 2, none⟩ = some (.slice d vs.length cd)) := fun V hb => by
    obtain ⟨p0, p1, p2, _⟩ := res_box3 HN.out hb
    obtain ⟨q0, q1, q2, _⟩ := res_box3 HM.out hb
    exact ⟨p0, p1, p2, q0, q1, q2⟩
  have HO1 : Hid (One X w1.drew (.slice a1 z1.length c1) z1 G) := One.later ⟨o1, wd1, t1, hv1⟩ (Below.drew (Below.refl _ w1))
  have hb1d : Below X.heap.size X w1.drew := hb1.drew
  have hs0 := HK.out _ hb1d
  clear o1 wd1 t1 hv1 hb1 HC1
  have HQY := hid (fun ww (hv' : Below X.heap.size X ww) (h : One X ww (.slice a1 z1.length c1) z1 G) => quot_in _ HK.out hv' (HSL.out.2.1.later hv') (by omega) HTT.out.2.1 h HF0.out.1 (by have := HF0.out; have := HL.out; omega))
  have HQV := hid (fun ww (hv' : Below X.heap.size X ww) (h : One X ww (.slice a1 z1.length c1) z1 G) => quot_in _ HK.out hv' (HSL.out.2.2.2.later hv') (by omega) HTT.out.2.2.2 h HF0.out.1 (by have := HF0.out; have := HL.out; omega))
  rw [← HEQ.out.2.1] at HQY
  rw [← HEQ.out.2.2] at HQV
  go_wp2_with fail
  go_region_held3 (fun V : World => V.cell? ⟨w.heap.size, 0, none⟩ = some (.bool n) ∧ V.cell? ⟨w.heap.size, 1, none⟩ = some (.slice a xs.length ca) ∧ V.cell? ⟨w.heap.size, 2, none⟩ = some (.slice b ys.length cb) ∧ V.cell? ⟨w.heap.size + 1, 0, none⟩ = some (.bool m) ∧ V.cell? ⟨w.heap.size + 1, 1, none⟩ = some (.slice c us.length cc) ∧ V.cell? ⟨w.heap.size + 1, 2, none⟩ = some (.slice d vs.length cd)) (first | exact hs3 | exact hs2 | exact hs0)
    (first
      | (go_at_call 53; with_reducible refine Calls.mono (HQV.out _ hb2 (HO1.out.later HS2.out)) ?_; rintro e w3 ⟨a3, z3, c3, rfl, HE3, hs3, hb3, HS3⟩)
      | (go_at_call 53; with_reducible refine Calls.mono (HQY.out _ hb1d HO1.out) ?_; rintro e w2 ⟨a2, z2, c2, rfl, HE2, hs2, hb2, HS2⟩))
  have HO3 := hid (And.intro ((HO1.out.later HS2.out).later HS3.out) (And.intro (HE2.out.1.later HS3.out) HE3.out.1))
  have HB3 := hid hb3
  clear hs0 hs2 hs3 hb1d hb2 hb3 HE2 HE3 HS2 HS3 HO1 HQY HQV
  go_upto_region 5 with fail
  have HU : Hid (∀ V, Below w3.heap.size w3 V → Below X.heap.size X V) := fun V hb => bt HB3.out hb
  have HBR := hid (Below.refl w3.heap.size w3)
  have HP1 : Hid (∀ V, Below w3.heap.size w3 V → Calls Tryd.prog 67 #[.slice a xs.length ca, .slice a3 z3.length c3] V fun e V' => ∃ a2 zs c2, e = .returned (.slice a2 (List.length zs) c2) ∧ Hid (One X V' (.slice a2 (List.length zs) c2) zs (val xs * rB) ∧ Below V.heap.size V V' ∧ Below w3.heap.size w3 V') ∧ V'.cell? ⟨w.heap.size, 0, none⟩ = some (.bool n) ∧ V'.cell? ⟨w.heap.size, 1, none⟩ = some (.slice a xs.length ca) ∧ V'.cell? ⟨w.heap.size, 2, none⟩ = some (.slice b ys.length cb) ∧ V'.cell? ⟨w.heap.size + 1, 0, none⟩ = some (.bool m) ∧ V'.cell? ⟨w.heap.size + 1, 1, none⟩ = some (.slice c us.length cc) ∧ V'.cell? ⟨w.heap.size + 1, 2, none⟩ = some (.slice d vs.length cd)) := fun V hb => by
    have hx := HU.out V hb
    have on := HO3.out.2.2.later hb
    have e := rprod_any _ _ xs z3 V (HSL.out.1.later hx) on.sl (by have := own_len on HD.out.2.1; omega) HTT.out.1 on.2.2.1
    rw [on.2.2.2] at e
    refine Calls.mono e ?_
    rintro e V' ⟨v2, zs, rfl, o2, wd2, t2, hv2, hb2⟩
    obtain ⟨a2, c2, hs2⟩ := own_slice' o2
    subst hs2
    exact ⟨a2, zs, c2, rfl, ⟨⟨owns_base o2 hx.size, wd2, t2, hv2⟩, hb2, bt hb hb2⟩, HK.out V' (bt hx hb2)⟩
  have HP2 : Hid (∀ V, Below w3.heap.size w3 V → Calls Tryd.prog 67 #[.slice c us.length cc, .slice a2 z2.length c2] V fun e V' => ∃ a2 zs c2, e = .returned (.slice a2 (List.length zs) c2) ∧ Hid (One X V' (.slice a2 (List.length zs) c2) zs (val us * rA) ∧ Below V.heap.size V V' ∧ Below w3.heap.size w3 V') ∧ V'.cell? ⟨w.heap.size, 0, none⟩ = some (.bool n) ∧ V'.cell? ⟨w.heap.size, 1, none⟩ = some (.slice a xs.length ca) ∧ V'.cell? ⟨w.heap.size, 2, none⟩ = some (.slice b ys.length cb) ∧ V'.cell? ⟨w.heap.size + 1, 0, none⟩ = some (.bool m) ∧ V'.cell? ⟨w.heap.size + 1, 1, none⟩ = some (.slice c us.length cc) ∧ V'.cell? ⟨w.heap.size + 1, 2, none⟩ = some (.slice d vs.length cd)) := fun V hb => by
    have hx := HU.out V hb
    have on := HO3.out.2.1.later hb
    have e := rprod_any _ _ us z2 V (HSL.out.2.2.1.later hx) on.sl (by have := own_len on HD.out.1; omega) HTT.out.2.2.1 on.2.2.1
    rw [on.2.2.2] at e
    refine Calls.mono e ?_
    rintro e V' ⟨v2, zs, rfl, o2, wd2, t2, hv2, hb2⟩
    obtain ⟨a2, c2, hs2⟩ := own_slice' o2
    subst hs2
    exact ⟨a2, zs, c2, rfl, ⟨⟨owns_base o2 hx.size, wd2, t2, hv2⟩, hb2, bt hb hb2⟩, HK.out V' (bt hx hb2)⟩
  have HSG : Hid (∀ V, Below w3.heap.size w3 V → ∀ a4 z4 c4 a5 z5 c5, One X V (.slice a4 (List.length z4) c4) z4 (val xs * rB) → One X V (.slice a5 (List.length z5) c5) z5 (val us * rA) → Calls Tryd.prog 76 #[.agg #[.bool n, .slice a4 z4.length c4], .agg #[.bool m, .slice a5 z5.length c5]] V fun e V' => ∃ k a2 zs c2, e = .returned (.agg #[.bool k, .slice a2 (List.length zs) c2]) ∧ Hid ((∃ T, One X V' (.slice a2 (List.length zs) c2) zs T ∧ sg k T = (sg n (val xs * rB) + sg m (val us * rA))) ∧ Below V.heap.size V V' ∧ Below w3.heap.size w3 V') ∧ V'.cell? ⟨w.heap.size, 0, none⟩ = some (.bool n) ∧ V'.cell? ⟨w.heap.size, 1, none⟩ = some (.slice a xs.length ca) ∧ V'.cell? ⟨w.heap.size, 2, none⟩ = some (.slice b ys.length cb) ∧ V'.cell? ⟨w.heap.size + 1, 0, none⟩ = some (.bool m) ∧ V'.cell? ⟨w.heap.size + 1, 1, none⟩ = some (.slice c us.length cc) ∧ V'.cell? ⟨w.heap.size + 1, 2, none⟩ = some (.slice d vs.length cd)) := fun V hb a4 z4 c4 a5 z5 c5 h4 h5 => by
    have hx := HU.out V hb
    have e := rsigned_any n _ z4 m _ z5 V h4.sl h5.sl (by have := own_len h4 HPL.out.1; omega) (by have := own_len h5 HPL.out.2; omega) h4.2.2.1 h5.2.2.1
    rw [show wval n z4 = sg n (val z4) from rfl, show wval m z5 = sg m (val z5) from rfl, h4.2.2.2, h5.2.2.2] at e
    refine Calls.mono e ?_
    rintro e V' ⟨k, v, zs, rfl, o, h1, h2, h3, hb2⟩
    obtain ⟨a2, c2, hs2⟩ := own_slice' o
    subst hs2
    exact ⟨k, a2, zs, c2, rfl, ⟨⟨val zs, ⟨owns_base o hx.size, h1, h2, rfl⟩, h3⟩, hb2, bt hb hb2⟩, HK.out V' (bt hx hb2)⟩
  have HW2 := hid (Nat.lt_of_lt_of_le HXS.out HB3.out.size)
  obtain ⟨m1, m2, m3, m4⟩ := nes3 HW2.out
  go_cut [9] from 11 (fun s9 wx => ∃ p k a6 c6 z6 T, s9 = .pointer (some ⟨p, 0, none⟩) ∧ Hid (Num X w3 wx p k a6 c6 z6 T ∧ sg k T = sg n (val xs * rB) + sg m (val us * rA) ∧ w3.heap.size ≤ p))
  case first =>
    have hs0 := HK.out _ (HU.out _ HBR.out.drew)
    go_region_held3 (fun V : World => V.cell? ⟨w.heap.size, 0, none⟩ = some (.bool n) ∧ V.cell? ⟨w.heap.size, 1, none⟩ = some (.slice a xs.length ca) ∧ V.cell? ⟨w.heap.size, 2, none⟩ = some (.slice b ys.length cb) ∧ V.cell? ⟨w.heap.size + 1, 0, none⟩ = some (.bool m) ∧ V.cell? ⟨w.heap.size + 1, 1, none⟩ = some (.slice c us.length cc) ∧ V.cell? ⟨w.heap.size + 1, 2, none⟩ = some (.slice d vs.length cd)) (first | exact hs6 | exact hs5 | exact hs4 | exact hs0 | with_reducible exact HK.out _ (HU.out _ (bel_al HE6.out.2.2 _)) | with_reducible exact HK.out _ (HU.out _ (bel_al HE5.out.2.2 _)) | with_reducible exact HK.out _ (HU.out _ (bel_al HE4.out.2.2 _)) | with_reducible exact HK.out _ (HU.out _ (bel_al HBR.out _).drew) | with_reducible exact HK.out _ (HU.out _ (below_put2 HE6.out.2.2 _ (by omega) _ _)) | go_keep)
      (first
        | (go_at_call 76; with_reducible refine Calls.mono (HSG.out _ (by first | exact HE5.out.2.2 | exact bel_al HE5.out.2.2 _) _ _ _ _ _ _ (by first | exact HE4.out.1.later HL5.out | exact (HE4.out.1.later HL5.out).later (alloc_later _ _)) (by first | exact HE5.out.1 | exact HE5.out.1.later (alloc_later _ _))) ?_; rintro e w6 ⟨k6, a6, z6, c6, rfl, HE6, hs6⟩; (first | (have HL6 := hid (bel_unal (w := w5) HE6.out.2.1)) | (have HL6 := hid HE6.out.2.1)); (first | (have HY1 := hid ((HZ1.out.later HL5.out HZ1.out.lt).later HL6.out (HZ1.out.later HL5.out HZ1.out.lt).lt); clear y0 y1 y2 y3; obtain ⟨j0, j1, j2, j3⟩ := HY1.out.c2; obtain ⟨j4, j5⟩ := new_ne' HY1.out) | skip); (first | (have HY2 := hid (HZ2.out.later HL6.out HZ2.out.lt); clear u0 u1 u2 u3; obtain ⟨j0, j1, j2, j3⟩ := HY2.out.c2; obtain ⟨j4, j5⟩ := new_ne' HY2.out) | skip); (first | (have HY3 := hid (zbw HE6.out.2.1); obtain ⟨j0, j1, j2, j3⟩ := HY3.out.c2; obtain ⟨j4, j5⟩ := new_ne' HY3.out) | skip))
        | (go_at_call 67; with_reducible refine Calls.mono (HP2.out _ (by first | exact HE4.out.2.2 | exact bel_al HE4.out.2.2 _)) ?_; rintro e w5 ⟨a5, z5, c5, rfl, HE5, hs5⟩; have hz5 := HE5.out.2.2.size; (first | (have HL5 := hid (bel_unal (w := w4) HE5.out.2.1)) | (have HL5 := hid HE5.out.2.1)); (first | (have HZ2 := hid (zbw HE5.out.2.1); obtain ⟨u0, u1, u2, u3⟩ := HZ2.out.c2; obtain ⟨u4, u5⟩ := new_ne' HZ2.out) | skip))
        | (go_at_call 67; with_reducible refine Calls.mono (HP1.out _ (by first | exact HBR.out.drew | exact (bel_al HBR.out _).drew)) ?_; rintro e w4 ⟨a4, z4, c4, rfl, HE4, hs4⟩; have hz4 := HE4.out.2.2.size; obtain ⟨l1, l2, l3, l4⟩ := nes3 (Nat.lt_of_lt_of_le HW2.out HE4.out.2.2.size); (first | (have HZ1 := hid (zbw (bel_undrew HE4.out.2.1)); obtain ⟨y0, y1, y2, y3⟩ := HZ1.out.c2; obtain ⟨y4, y5⟩ := new_ne' HZ1.out) | skip)))
    all_goals
      have hz6 := HE6.out.2.2.size
      have hz45 := HL5.out.size
      obtain ⟨T, oT, hT⟩ := HE6.out.1
      have HOT := hid oT
      have HHT := hid hT
      clear oT hT
      go_wp2_with fail
      go_meet
    all_goals (first | with_reducible exact ⟨_, k6, a6, c6, z6, T, rfl, hid (And.intro (num_old HOT.out HE6.out.2.2 HY1.out (by omega)) (And.intro HHT.out (by omega)))⟩ | with_reducible exact ⟨_, k6, a6, c6, z6, T, rfl, hid (And.intro (num_old HOT.out HE6.out.2.2 HY2.out (by omega)) (And.intro HHT.out (by omega)))⟩ | with_reducible exact ⟨_, k6, a6, c6, z6, T, rfl, hid (And.intro (num_old HOT.out HE6.out.2.2 HY3.out (by omega)) (And.intro HHT.out (by omega)))⟩ | with_reducible exact ⟨_, k6, a6, c6, z6, T, rfl, hid (And.intro (num_new HOT.out HE6.out.2.2) (And.intro HHT.out (by omega)))⟩)
  case rest =>
    obtain ⟨p, k6, a6, c6, z6, T, rfl, HNm⟩ := hcut
    have HBc := hid (bt HB3.out HNm.out.1.2.2)
    have HOc := hid (And.intro (HO3.out.1.later HNm.out.1.2.2) (And.intro (HO3.out.2.1.later HNm.out.1.2.2) HNm.out.1.2.1))
    have HBX := hid HNm.out.1.1
    have HTS := hid HNm.out.2.1
    have HPW := hid (Nat.lt_of_lt_of_le (Nat.lt_of_lt_of_le HXS.out HB3.out.size) HNm.out.2.2)
    have HT0 : Hid (0 ≤ T) := by rw [← HOc.out.2.2.2.2.2]; exact val_nonneg HOc.out.2.2.2.1
    have HTL : Hid (T < 4294967296 ^ 4097) := sum_4097 HTS.out HT0.out (Int.mul_nonneg HNN.out.1 HD.out.2.2.2) HPL.out.1 (Int.mul_nonneg HNN.out.2.1 HD.out.2.2.1) HPL.out.2
    have l6 : z6.length ≤ 4097 := own_len HOc.out.2.2 HTL.out
    have l1 : z1.length ≤ 2048 := own_len HOc.out.1 (by have := HF0.out; have := HL.out; omega)
    have l2 : z2.length ≤ 2048 := own_len HOc.out.2.1 HD.out.1
    have HC4 := hid (rcommon_any _ _ z6 z1 wc HOc.out.2.2.sl HOc.out.1.sl (by omega) (by omega) HOc.out.2.2.2.2.1 HOc.out.1.2.2.1)
    rw [HOc.out.2.2.2.2.2, HOc.out.1.2.2.2] at HC4
    have HSS : Hid (0 < gcdI T G ∧ gcdI T G ≤ G ∧ G < 4294967296 ^ 2048) := ⟨gcd_pos_right HF0.out.1, gcd_le_right HF0.out.1, by have := HF0.out; have := HL.out; omega⟩
    have HAP := hid (add_parts (n := n) (m := m) (nn := k6) (xs := xs) (ys := ys) (us := us) (vs := vs) HP.out.1 HP.out.2.1 HP.out.2.2.1 HP.out.2.2.2 HEQ.out.1 HEQ.out.2.1 HEQ.out.2.2 rfl rfl HTS.out (s := gcdI T G) rfl (q1 := T / gcdI T G) rfl (e := val vs / gcdI T G) rfl (den := rA * (val vs / gcdI T G)) rfl)
    clear HNm HP1 HP2 HSG HU HBR HB3 HO3 m1 m2 m3 m4 HW2
    obtain ⟨p0, p1, _, _⟩ := HBX.out.c2
    go_wp2_with fail
    refine Calls.mono HC4.out ?_
    rintro e w7 ⟨v7, z7, rfl, o7, wd7, t7, hv7, hb7⟩
    obtain ⟨a7, c7, hs7⟩ := own_slice' o7
    subst hs7
    have HB7 := hid (bt HBc.out hb7)
    have HBX7 := hid (HBX.out.later hb7 HBX.out.lt)
    have HO7 : Hid (One X w7.drew (.slice a7 z7.length c7) z7 (gcdI T G) ∧ One X w7.drew (.slice a2 z2.length c2) z2 rA ∧ One X w7.drew (.slice a6 z6.length c6) z6 T) := ⟨One.later ⟨owns_base o7 HBc.out.size, wd7, t7, hv7⟩ (Below.drew (Below.refl _ w7)), (HOc.out.2.1.later hb7).later (Below.drew (Below.refl _ w7)), (HOc.out.2.2.later hb7).later (Below.drew (Below.refl _ w7))⟩
    have hb7d : Below X.heap.size X w7.drew := HB7.out.drew
    clear o7 wd7 t7 hv7 hb7 HC4 p0 p1 HOc
    obtain ⟨SP, hSP⟩ : ∃ SP : World → Prop, SP = fun V => (V.cell? ⟨w.heap.size, 0, none⟩ = some (.bool n) ∧ V.cell? ⟨w.heap.size, 1, none⟩ = some (.slice a xs.length ca) ∧ V.cell? ⟨w.heap.size, 2, none⟩ = some (.slice b ys.length cb) ∧ V.cell? ⟨w.heap.size + 1, 0, none⟩ = some (.bool m) ∧ V.cell? ⟨w.heap.size + 1, 1, none⟩ = some (.slice c us.length cc) ∧ V.cell? ⟨w.heap.size + 1, 2, none⟩ = some (.slice d vs.length cd)) ∧ V.cell? ⟨p, 0, none⟩ = some (.bool k6) ∧ V.cell? ⟨p, 1, none⟩ = some (.slice a6 z6.length c6) := ⟨_, rfl⟩
    have HK7 : Hid (∀ V, Below w7.heap.size w7 V → (V.cell? ⟨w.heap.size, 0, none⟩ = some (.bool n) ∧ V.cell? ⟨w.heap.size, 1, none⟩ = some (.slice a xs.length ca) ∧ V.cell? ⟨w.heap.size, 2, none⟩ = some (.slice b ys.length cb) ∧ V.cell? ⟨w.heap.size + 1, 0, none⟩ = some (.bool m) ∧ V.cell? ⟨w.heap.size + 1, 1, none⟩ = some (.slice c us.length cc) ∧ V.cell? ⟨w.heap.size + 1, 2, none⟩ = some (.slice d vs.length cd)) ∧ V.cell? ⟨p, 0, none⟩ = some (.bool k6) ∧ V.cell? ⟨p, 1, none⟩ = some (.slice a6 z6.length c6)) := fun V hb => by
      obtain ⟨q0, q1, _, _⟩ := (HBX7.out.later hb HBX7.out.lt).c2
      exact ⟨HK.out V (bt HB7.out hb), q0, q1⟩
    clear hSP SP
    have HBR := hid (Below.refl w7.heap.size w7)
    have hs0 := HK7.out _ HBR.out.drew
    have HQ6 := hid (fun (ww : World) (hw : Below w7.heap.size w7 ww) (h : One X ww (.slice a7 z7.length c7) z7 (gcdI T G)) (h6 : One X ww (.slice a6 z6.length c6) z6 T) => (by have e := quot_in (U := X) (fun _ => True) (fun _ _ => trivial) (bt HB7.out hw) h6.sl (by omega) h6.2.2.1 h HSS.out.1 (by have := HSS.out; omega); rw [h6.2.2.2] at e; exact at7 HK7.out hw e : Calls Tryd.prog 53 #[.slice a6 z6.length c6, .slice a7 z7.length c7] ww _))
    have HQV := hid (fun (ww : World) (hw : Below w7.heap.size w7 ww) (h : One X ww (.slice a7 z7.length c7) z7 (gcdI T G)) => (by have e := quot_in (U := X) (fun _ => True) (fun _ _ => trivial) (bt HB7.out hw) (HSL.out.2.2.2.later (bt HB7.out hw)) (by omega) HTT.out.2.2.2 h HSS.out.1 (by have := HSS.out; omega); exact at7 HK7.out hw e : Calls Tryd.prog 53 #[.slice d vs.length cd, .slice a7 z7.length c7] ww _))
    have HPR := hid (fun (ww : World) (hw : Below w7.heap.size w7 ww) (a9 : Option Addr) (z9 : List Int) (c9 : Nat) (h2 : One X ww (.slice a2 z2.length c2) z2 rA) (h9 : One X ww (.slice a9 z9.length c9) z9 (val vs / gcdI T G)) => (by have e := told1_in (U := X) (fun _ => True) (fun _ _ => trivial) ww (bt HB7.out hw) (rprod_any _ _ z2 z9 ww h2.sl h9.sl (by have := own_len h9 (L := 2048) (by have q := Int.ediv_le_self (a := val vs) (gcdI T G) HNN.out.2.2.2; have := HL.out; omega); omega) h2.2.2.1 h9.2.2.1); rw [h2.2.2.2, h9.2.2.2] at e; exact at7 HK7.out hw e : Calls Tryd.prog 67 #[.slice a2 z2.length c2, .slice a9 z9.length c9] ww _))
    have HTL2 := hid (fun (ww : World) (hb : Below X.heap.size X ww) (a8 : Option Addr) (z8 : List Int) (c8 : Nat) (a10 : Option Addr) (z10 : List Int) (c10 : Nat) (g1 : One X ww (.slice a8 z8.length c8) z8 (T / gcdI T G)) (g2 : One X ww (.slice a10 z10.length c10) z10 (rA * (val vs / gcdI T G))) (hc : Cut X (.slice a8 z8.length c8) (.slice a10 z10.length c10) ww) => rtold_cut2 (n := k6) (q := rq n xs ys + rq m us vs) hb g1 g2 hc HAP.out.1 HAP.out.2.1 HAP.out.2.2)
    have hq0 : w.heap.size + 1 + 1 ≠ w.heap.size := by omega
    have hq2 : ¬ w.heap.size + 1 + 1 = p := by have := HPW.out; omega
    go_wp2_with fail
    go_region_held3 (fun V : World => (V.cell? ⟨w.heap.size, 0, none⟩ = some (.bool n) ∧ V.cell? ⟨w.heap.size, 1, none⟩ = some (.slice a xs.length ca) ∧ V.cell? ⟨w.heap.size, 2, none⟩ = some (.slice b ys.length cb) ∧ V.cell? ⟨w.heap.size + 1, 0, none⟩ = some (.bool m) ∧ V.cell? ⟨w.heap.size + 1, 1, none⟩ = some (.slice c us.length cc) ∧ V.cell? ⟨w.heap.size + 1, 2, none⟩ = some (.slice d vs.length cd)) ∧ V.cell? ⟨p, 0, none⟩ = some (.bool k6) ∧ V.cell? ⟨p, 1, none⟩ = some (.slice a6 z6.length c6)) (first | exact hs11 | exact hs10 | exact hs9 | exact hs8 | exact hs0 | (simp [hs11, World.cell?_setCell_far, hq0, hq2]))
      (first
        | (go_at_call 52; with_reducible refine Calls.mono (HTL2.out _ (bt HB7.out HE10.out.2.2.2) _ _ _ _ _ _ ((HE8.out.1.later HS9.out).later HS10.out) HE10.out.1 (cut_two hb7d.size HS8.out.size (Nat.le_trans HS9.out.size HS10.out.size) HE8.out.2.1 (lies_low HE10.out.2.1 HS9.out.size))) ?_; rintro e w11 ⟨k9, a11, z11, c11, a12, z12, c12, code, rfl, HE11, hb11, HS11⟩; obtain ⟨y0, y1, y2, f0, f1, f2⟩ := res_box3 HZ.out hb11; have hs11 := HK7.out w11 (bt HE10.out.2.2.2 HS11.out))
        | (go_at_call 67; with_reducible refine Calls.mono (HPR.out _ HE9.out.2.2.2 _ _ _ ((HO7.out.2.1.later HS8.out).later HS9.out) HE9.out.1) ?_; rintro e w10 ⟨a10, z10, c10, rfl, HE10, hs10, HS10⟩)
        | (go_at_call 53; with_reducible refine Calls.mono (HQV.out _ HE8.out.2.2.2 (HO7.out.1.later HS8.out)) ?_; rintro e w9 ⟨a9, z9, c9, rfl, HE9, hs9, HS9⟩)
        | (go_at_call 53; with_reducible refine Calls.mono (HQ6.out _ HBR.out.drew HO7.out.1 HO7.out.2.2) ?_; rintro e w8 ⟨a8, z8, c8, rfl, HE8, hs8, HS8⟩))
    all_goals
      have HBW := hid (bt HB.out hb11)
      have HR := hid HE11.out
      clear HK HK7 HQ6 HQV HPR HTL2 HE8 HE9 HE10 HE11 HS8 HS9 HS10 HS11 HO7 hs0 hs8 hs9 hs10 hs11 hb7d hb11 HAP HBX HBX7 HBR HB7 HBc
      go_wp2_with fail
      refine bodyPost_ret (v := .tuple #[.agg #[.bool k9, .slice a11 z11.length c11, .slice a12 z12.length c12], .int .i64 code]) (by simp [results, Tryd.results65, go_sem, y0, y1, y2]) rfl ?_
      exact RToldA.put HR.out (w.heap.size + 1 + 1) HXS.out (by omega) HBW.out _ _ _
end Go.Proofs.YtggmdocpfkkclaaDoor

/- Fractions: ratio.Add, Mul, Sub: of any fractions, good or refused; what is told is new memory. -/
namespace Go.Proofs.YtggmdocpfkkclaaDoor
open Go.RowKit
set_option linter.unusedVariables false

theorem rq_less {n m : Bool} {xs ys us vs : List Int} : rq n xs ys + rq (!m) us vs = rq n xs ys - rq m us vs := by
  rw [Rat.sub_eq_add_neg]
  congr 1
  unfold rq
  rw [Rat.neg_divInt]
  congr 1
  cases m <;> simp [wval]

set_option maxHeartbeats 3200000 in
set_option maxRecDepth 100000 in
theorem rSub_err (n : Bool) (a : Option Addr) (ca : Nat) (xs : List Int) (b : Option Addr) (cb : Nat) (ys : List Int) (m : Bool) (c : Option Addr) (cc : Nat) (us : List Int) (d : Option Addr) (cd : Nat) (vs : List Int) (w : World) (sx : Sl w (.slice a xs.length ca) xs) (sy : Sl w (.slice b ys.length cb) ys) (su : Sl w (.slice c us.length cc) us) (sv : Sl w (.slice d vs.length cd) vs) (he : rboth n xs ys m us vs ≠ 0) (q : Rat) :
    Calls Tryd.prog 45 #[.agg #[.bool n, .slice a xs.length ca, .slice b ys.length cb], .agg #[.bool m, .slice c us.length cc, .slice d vs.length cd]] w (RToldA w (rboth n xs ys m us vs) q) := by
  have HB : Hid (Below w.heap.size w (((w.alloc (.cells #[.bool n, .slice a xs.length ca, .slice b ys.length cb] 27)).alloc (.cells #[.bool m, .slice c us.length cc, .slice d vs.length cd] 27)).alloc (.cells #[.bool false, .slice none 0 0, .slice none 0 0] 27))) := bt (bt (alloc_later _ _) (alloc_later _ _)) (alloc_later _ _)
  have HZ : Hid (Box (((w.alloc (.cells #[.bool n, .slice a xs.length ca, .slice b ys.length cb] 27)).alloc (.cells #[.bool m, .slice c us.length cc, .slice d vs.length cd] 27)).alloc (.cells #[.bool false, .slice none 0 0, .slice none 0 0] 27)) (w.heap.size + 1 + 1) 27 #[.bool false, .slice none 0 0, .slice none 0 0]) := by
    have e := Box.made ((w.alloc (.cells #[.bool n, .slice a xs.length ca, .slice b ys.length cb] 27)).alloc (.cells #[.bool m, .slice c us.length cc, .slice d vs.length cd] 27)) 27 #[.bool false, .slice none 0 0, .slice none 0 0]
    simp at e
    exact e
  have HN : Hid (Box (((w.alloc (.cells #[.bool n, .slice a xs.length ca, .slice b ys.length cb] 27)).alloc (.cells #[.bool m, .slice c us.length cc, .slice d vs.length cd] 27)).alloc (.cells #[.bool false, .slice none 0 0, .slice none 0 0] 27)) w.heap.size 27 #[.bool n, .slice a xs.length ca, .slice b ys.length cb]) := Box.later (Box.made w _ _) (bt (alloc_later _ _) (alloc_later _ _)) (by simp)
  have HM : Hid (Box (((w.alloc (.cells #[.bool n, .slice a xs.length ca, .slice b ys.length cb] 27)).alloc (.cells #[.bool m, .slice c us.length cc, .slice d vs.length cd] 27)).alloc (.cells #[.bool false, .slice none 0 0, .slice none 0 0] 27)) (w.heap.size + 1) 27 #[.bool m, .slice c us.length cc, .slice d vs.length cd]) := by
    have e := Box.later (Box.made (w.alloc (.cells #[.bool n, .slice a xs.length ca, .slice b ys.length cb] 27)) 27 #[.bool m, .slice c us.length cc, .slice d vs.length cd]) (alloc_later ((w.alloc (.cells #[.bool n, .slice a xs.length ca, .slice b ys.length cb] 27)).alloc (.cells #[.bool m, .slice c us.length cc, .slice d vs.length cd] 27)) (.cells #[.bool false, .slice none 0 0, .slice none 0 0] 27)) (by simp)
    simp at e
    exact e
  have HXS : Hid (w.heap.size + 1 + 1 < (((w.alloc (.cells #[.bool n, .slice a xs.length ca, .slice b ys.length cb] 27)).alloc (.cells #[.bool m, .slice c us.length cc, .slice d vs.length cd] 27)).alloc (.cells #[.bool false, .slice none 0 0, .slice none 0 0] 27)).heap.size) := HZ.out.lt
  have HSL := hid (And.intro (sx.later HB.out) (And.intro (sy.later HB.out) (And.intro (su.later HB.out) (sv.later HB.out))))
  have HC := hid (rcheckBoth_any n _ xs _ ys m _ us _ vs (((w.alloc (.cells #[.bool n, .slice a xs.length ca, .slice b ys.length cb] 27)).alloc (.cells #[.bool m, .slice c us.length cc, .slice d vs.length cd] 27)).alloc (.cells #[.bool false, .slice none 0 0, .slice none 0 0] 27)) HSL.out.1 HSL.out.2.1 HSL.out.2.2.1 HSL.out.2.2.2)
  obtain ⟨E, hE⟩ : ∃ E, rboth n xs ys m us vs = E := ⟨_, rfl⟩
  rw [hE] at HC he ⊢
  have he' : (E == 0) = false := beq_eq_false_iff_ne.2 he
  have HE := hid he
  clear he hE sx sy su sv
  go_enter Tryd.func45, Tryd.ntmps45
  go_wp2_with fail
  refine Calls.mono HC.out ?_
  generalize (((w.alloc (.cells #[.bool n, .slice a xs.length ca, .slice b ys.length cb] 27)).alloc (.cells #[.bool m, .slice c us.length cc, .slice d vs.length cd] 27)).alloc (.cells #[.bool false, .slice none 0 0, .slice none 0 0] 27)) = X at *
  rintro e w1 ⟨rfl, hb1⟩
  obtain ⟨y0, y1, y2, f0, f1, f2⟩ := res_box3 HZ.out hb1
  have HBN := hid (below_put3 (bt HB.out hb1) (w.heap.size + 1 + 1) (by omega) (.bool false) (.slice none 0 0) (.slice none 0 0))
  clear hb1 HC HN HM HZ HSL
  go_wp2_with fail
  refine bodyPost_ret (v := .tuple #[.agg #[.bool false, .slice none 0 0, .slice none 0 0], .int .i64 E]) (by simp [results, Tryd.results45, go_sem, y0, y1, y2]) rfl ?_
  exact ⟨false, _, [], _, [], _, rfl, World.ownsRow_nil _ _ _ _, World.ownsRow_nil _ _ _ _, RTells.err HE.out, HBN.out, ⟨w.heap.size, Nat.le_refl _, HBN.out.size, fun g hg => by simp [Value.ownBlock] at hg, fun g hg => by simp [Value.ownBlock] at hg⟩⟩

set_option maxHeartbeats 3200000 in
set_option maxRecDepth 100000 in
theorem rSub_ok (n : Bool) (a : Option Addr) (ca : Nat) (xs : List Int) (b : Option Addr) (cb : Nat) (ys : List Int) (m : Bool) (c : Option Addr) (cc : Nat) (us : List Int) (d : Option Addr) (cd : Nat) (vs : List Int) (w : World) (sx : Sl w (.slice a xs.length ca) xs) (sy : Sl w (.slice b ys.length cb) ys) (su : Sl w (.slice c us.length cc) us) (sv : Sl w (.slice d vs.length cd) vs) (hx : rchk n xs ys = 0) (hy : rchk m us vs = 0) :
    Calls Tryd.prog 45 #[.agg #[.bool n, .slice a xs.length ca, .slice b ys.length cb], .agg #[.bool m, .slice c us.length cc, .slice d vs.length cd]] w (RToldA w 0 (rq n xs ys - rq m us vs)) := by
  obtain ⟨lx, ly, tx, ty, y0', _, g1⟩ := rchk_ok hx
  obtain ⟨lu, lv, tu, tv, v0', _, g2⟩ := rchk_ok hy
  have py := val_pos' sy.wd ty y0'
  have pv := val_pos' sv.wd tv v0'
  have HB : Hid (Below w.heap.size w (((w.alloc (.cells #[.bool n, .slice a xs.length ca, .slice b ys.length cb] 27)).alloc (.cells #[.bool m, .slice c us.length cc, .slice d vs.length cd] 27)).alloc (.cells #[.bool false, .slice none 0 0, .slice none 0 0] 27))) := bt (bt (alloc_later _ _) (alloc_later _ _)) (alloc_later _ _)
  have HZ : Hid (Box (((w.alloc (.cells #[.bool n, .slice a xs.length ca, .slice b ys.length cb] 27)).alloc (.cells #[.bool m, .slice c us.length cc, .slice d vs.length cd] 27)).alloc (.cells #[.bool false, .slice none 0 0, .slice none 0 0] 27)) (w.heap.size + 1 + 1) 27 #[.bool false, .slice none 0 0, .slice none 0 0]) := by
    have e := Box.made ((w.alloc (.cells #[.bool n, .slice a xs.length ca, .slice b ys.length cb] 27)).alloc (.cells #[.bool m, .slice c us.length cc, .slice d vs.length cd] 27)) 27 #[.bool false, .slice none 0 0, .slice none 0 0]
    simp at e
    exact e
  have HN : Hid (Box (((w.alloc (.cells #[.bool n, .slice a xs.length ca, .slice b ys.length cb] 27)).alloc (.cells #[.bool m, .slice c us.length cc, .slice d vs.length cd] 27)).alloc (.cells #[.bool false, .slice none 0 0, .slice none 0 0] 27)) w.heap.size 27 #[.bool n, .slice a xs.length ca, .slice b ys.length cb]) := Box.later (Box.made w _ _) (bt (alloc_later _ _) (alloc_later _ _)) (by simp)
  have HM : Hid (Box (((w.alloc (.cells #[.bool n, .slice a xs.length ca, .slice b ys.length cb] 27)).alloc (.cells #[.bool m, .slice c us.length cc, .slice d vs.length cd] 27)).alloc (.cells #[.bool false, .slice none 0 0, .slice none 0 0] 27)) (w.heap.size + 1) 27 #[.bool m, .slice c us.length cc, .slice d vs.length cd]) := by
    have e := Box.later (Box.made (w.alloc (.cells #[.bool n, .slice a xs.length ca, .slice b ys.length cb] 27)) 27 #[.bool m, .slice c us.length cc, .slice d vs.length cd]) (alloc_later ((w.alloc (.cells #[.bool n, .slice a xs.length ca, .slice b ys.length cb] 27)).alloc (.cells #[.bool m, .slice c us.length cc, .slice d vs.length cd] 27)) (.cells #[.bool false, .slice none 0 0, .slice none 0 0] 27)) (by simp)
    simp at e
    exact e
  have HXS : Hid (w.heap.size + 1 + 1 < (((w.alloc (.cells #[.bool n, .slice a xs.length ca, .slice b ys.length cb] 27)).alloc (.cells #[.bool m, .slice c us.length cc, .slice d vs.length cd] 27)).alloc (.cells #[.bool false, .slice none 0 0, .slice none 0 0] 27)).heap.size) := HZ.out.lt
  have HSL := hid (And.intro (sx.later HB.out) (And.intro (sy.later HB.out) (And.intro (su.later HB.out) (sv.later HB.out))))
  have HC := hid (rcheckBoth_any n _ xs _ ys m _ us _ vs (((w.alloc (.cells #[.bool n, .slice a xs.length ca, .slice b ys.length cb] 27)).alloc (.cells #[.bool m, .slice c us.length cc, .slice d vs.length cd] 27)).alloc (.cells #[.bool false, .slice none 0 0, .slice none 0 0] 27)) HSL.out.1 HSL.out.2.1 HSL.out.2.2.1 HSL.out.2.2.2)
  rw [rboth_good hx hy] at HC
  have HT := hid (And.intro lx (And.intro ly (And.intro lu (And.intro lv (And.intro tx (And.intro ty (And.intro tu (And.intro tv (And.intro g1 g2)))))))))
  have HS0 := hid (And.intro sx (And.intro sy (And.intro su sv)))
  have HPY := hid (And.intro py pv)
  clear sx sy su sv hx hy tx ty tu tv g1 g2 py pv lx ly lu lv
  go_enter Tryd.func45, Tryd.ntmps45
  go_wp2_with fail
  refine Calls.mono HC.out ?_
  generalize (((w.alloc (.cells #[.bool n, .slice a xs.length ca, .slice b ys.length cb] 27)).alloc (.cells #[.bool m, .slice c us.length cc, .slice d vs.length cd] 27)).alloc (.cells #[.bool false, .slice none 0 0, .slice none 0 0] 27)) = X at *
  rintro e w1 ⟨rfl, hb1⟩
  have HB1 := hid (bt HB.out hb1)
  have HN1 := hid (HN.out.later hb1 HN.out.lt)
  have HM1 := hid (HM.out.later hb1 HM.out.lt)
  have HZ1 := hid (HZ.out.later hb1 HZ.out.lt)
  have HL1 : Hid (w.heap.size + 1 + 1 < w1.heap.size) := Nat.lt_of_lt_of_le HXS.out hb1.size
  have HMp := hid (HM1.out.set 0 (.bool (!m)))
  have HNp := hid (HN1.out.other ⟨w.heap.size + 1, 0, none⟩ (.bool (!m)) (by simp))
  have HZp := hid (HZ1.out.other ⟨w.heap.size + 1, 0, none⟩ (.bool (!m)) (by simp))
  have HBs : Hid (Below w.heap.size w (w1.setCell ⟨w.heap.size + 1, 0, none⟩ (.bool (!m)))) := HB1.out.setCell (p := ⟨w.heap.size + 1, 0, none⟩) (by simp) _
  have HLs : Hid (w.heap.size + 1 + 1 < (w1.setCell ⟨w.heap.size + 1, 0, none⟩ (.bool (!m))).heap.size) := HZp.out.lt
  have HCA := hid (radd_any n a ca xs b cb ys (!m) c cc us d cd vs (w1.setCell ⟨w.heap.size + 1, 0, none⟩ (.bool (!m))) (HS0.out.1.later HBs.out) (HS0.out.2.1.later HBs.out) (HS0.out.2.2.1.later HBs.out) (HS0.out.2.2.2.later HBs.out) HT.out.1 HT.out.2.1 HT.out.2.2.1 HT.out.2.2.2.1 HT.out.2.2.2.2.1 HT.out.2.2.2.2.2.1 HT.out.2.2.2.2.2.2.1 HT.out.2.2.2.2.2.2.2.1 (by have := HPY.out; omega) (by have := HPY.out; omega) HT.out.2.2.2.2.2.2.2.2.1 HT.out.2.2.2.2.2.2.2.2.2)
  rw [rq_less] at HCA
  obtain ⟨p0, p1, p2, _⟩ := res_box3 HN1.out (Below.refl _ w1)
  obtain ⟨q0, q1, q2, g0, g1, g2⟩ := res_box3 HM1.out (Below.refl _ w1)
  have r0 : (w1.setCell ⟨w.heap.size + 1, 0, none⟩ (.bool (!m))).cell? ⟨w.heap.size, 0, none⟩ = some (.bool n) := HNp.out.cell 0
  have r1 : (w1.setCell ⟨w.heap.size + 1, 0, none⟩ (.bool (!m))).cell? ⟨w.heap.size, 1, none⟩ = some (.slice a xs.length ca) := HNp.out.cell 1
  have r2 : (w1.setCell ⟨w.heap.size + 1, 0, none⟩ (.bool (!m))).cell? ⟨w.heap.size, 2, none⟩ = some (.slice b ys.length cb) := HNp.out.cell 2
  have t0 : (w1.setCell ⟨w.heap.size + 1, 0, none⟩ (.bool (!m))).cell? ⟨w.heap.size + 1, 0, none⟩ = some (.bool (!m)) := HMp.out.cell 0
  have t1 : (w1.setCell ⟨w.heap.size + 1, 0, none⟩ (.bool (!m))).cell? ⟨w.heap.size + 1, 1, none⟩ = some (.slice c us.length cc) := HMp.out.cell 1
  have t2 : (w1.setCell ⟨w.heap.size + 1, 0, none⟩ (.bool (!m))).cell? ⟨w.heap.size + 1, 2, none⟩ = some (.slice d vs.length cd) := HMp.out.cell 2
  clear hb1 HC
  go_wp2_with fail
  refine Calls.mono HCA.out ?_
  generalize w1.setCell ⟨w.heap.size + 1, 0, none⟩ (.bool (!m)) = V at *
  rintro e w2 ⟨k2, v2, z2, u2, r2', code, rfl, o2, o3, tt2, hb2, hc2⟩
  obtain ⟨a2, c2, hs2⟩ := own_slice' o2
  subst hs2
  obtain ⟨a3, c3, hs3⟩ := own_slice' o3
  subst hs3
  have HR := hid (And.intro o2 (And.intro o3 (And.intro tt2 hc2)))
  obtain ⟨y0, y1, y2, f0, f1, f2⟩ := res_box3 HZp.out hb2
  have HBW := hid (bt HBs.out hb2)
  clear o2 o3 tt2 hb2 hc2 HCA p0 p1 p2 q0 q1 q2 g0 g1 g2 r0 r1 r2 t0 t1 t2
  go_wp2_with fail
  refine bodyPost_ret (v := .tuple #[.agg #[.bool k2, .slice a2 z2.length c2, .slice a3 r2'.length c3], .int .i64 code]) (by simp [results, Tryd.results45, go_sem, y0, y1, y2]) rfl ?_
  exact RToldA.put HR.out (w.heap.size + 1 + 1) HLs.out (by omega) HBW.out _ _ _
theorem rSub_full (n : Bool) (a : Option Addr) (ca : Nat) (xs : List Int) (b : Option Addr) (cb : Nat) (ys : List Int) (m : Bool) (c : Option Addr) (cc : Nat) (us : List Int) (d : Option Addr) (cd : Nat) (vs : List Int) (w : World) (sx : Sl w (.slice a xs.length ca) xs) (sy : Sl w (.slice b ys.length cb) ys) (su : Sl w (.slice c us.length cc) us) (sv : Sl w (.slice d vs.length cd) vs) :
    Calls Tryd.prog 45 #[.agg #[.bool n, .slice a xs.length ca, .slice b ys.length cb], .agg #[.bool m, .slice c us.length cc, .slice d vs.length cd]] w (RToldA w (rboth n xs ys m us vs) (rq n xs ys - rq m us vs)) := by
  by_cases he : rboth n xs ys m us vs = 0
  · rw [he]
    exact rSub_ok n a ca xs b cb ys m c cc us d cd vs w sx sy su sv (rboth_ok he).1 (rboth_ok he).2
  · exact rSub_err n a ca xs b cb ys m c cc us d cd vs w sx sy su sv he _
end Go.Proofs.YtggmdocpfkkclaaDoor

/- Fractions: ratio.Quo, Neg, Sign: of any fractions, good or refused; what is told is new memory. -/
namespace Go.Proofs.YtggmdocpfkkclaaDoor
open Go.RowKit
set_option linter.unusedVariables false

theorem gcd_comm' (x y : Int) : gcdI x y = gcdI y x := by unfold gcdI; rw [Int.gcd_comm]
theorem rq_over {n m : Bool} {xs ys us vs : List Int} : rq n xs ys * rq m vs us = rq n xs ys / rq m us vs := by
  rw [Rat.div_def]
  congr 1
  unfold rq
  rw [Rat.inv_divInt]
  cases m
  · rfl
  · show Rat.divInt (-(val vs)) (val us) = Rat.divInt (val vs) (-(val us))
    rw [Rat.divInt_neg']

/-- The error of Quo. -/
def qErr (n : Bool) (xs ys : List Int) (m : Bool) (us vs : List Int) : Int := if rboth n xs ys m us vs = 0 then (if us.length = 0 then 7 else 0) else rboth n xs ys m us vs
end Go.Proofs.YtggmdocpfkkclaaDoor

/- Fractions: ratio.Neg, Sign: of any fraction, good or refused. -/
namespace Go.Proofs.YtggmdocpfkkclaaDoor
open Go.RowKit
set_option linter.unusedVariables false

theorem trim1_any (v : Value) (xs : List Int) (w : World) (h : Sl w v xs) (hn : xs.length ≤ 1099511627776) : Calls Tryd.prog 71 #[v] w (Told1 w (val xs)) := by
  have wx := h.wd
  refine Calls.mono (trim_sl v xs w h hn) ?_
  rintro e w' ⟨v', rfl, o, hb⟩
  exact ⟨v', trimmed xs, rfl, owns_len o, wx.trimmed, Trimmed.trimmed _, val_trimmed xs, hb⟩
theorem rq_neg {n : Bool} {xs ys : List Int} : Rat.divInt (sg (!n) (val xs)) (val ys) = -(rq n xs ys) := by
  unfold rq
  rw [Rat.neg_divInt]
  congr 1
  cases n <;> simp [sg, wval]

end Go.Proofs.YtggmdocpfkkclaaDoor

/- Fractions: Same, Sign; slices.Equal of words. -/
namespace Go.Proofs.YtggmdocpfkkclaaDoor
open Go.RowKit
set_option linter.unusedVariables false

/-- What Sign tells. -/
def rsgn (n : Bool) (xs ys : List Int) : Int := if rchk n xs ys = 0 then (if xs.length = 0 then 0 else if n then -1 else 1) else 0

end Go.Proofs.YtggmdocpfkkclaaDoor

/- Fractions: ratio.compareSizes, Compare: of any fractions, good or refused. -/
namespace Go.Proofs.YtggmdocpfkkclaaDoor
open Go.RowKit
set_option linter.unusedVariables false

theorem cmp_negs (x y : Int) : cmpI y x = cmpI (-x) (-y) := by
  by_cases h1 : y < x
  · rw [cmpI_lt h1, cmpI_lt (by omega)]
  · by_cases h2 : x < y
    · rw [cmpI_gt h2, cmpI_gt (by omega)]
    · obtain rfl : x = y := by omega
      unfold cmpI
      simp

set_option maxHeartbeats 3200000 in
set_option maxRecDepth 100000 in
theorem rsizes_any (n : Bool) (a : Option Addr) (ca : Nat) (xs : List Int) (b : Option Addr) (cb : Nat) (ys : List Int) (m : Bool) (c : Option Addr) (cc : Nat) (us : List Int) (d : Option Addr) (cd : Nat) (vs : List Int) (w : World) (sx : Sl w (.slice a xs.length ca) xs) (sy : Sl w (.slice b ys.length cb) ys) (su : Sl w (.slice c us.length cc) us) (sv : Sl w (.slice d vs.length cd) vs) (lx : xs.length ≤ 2048) (ly : ys.length ≤ 2048) (lu : us.length ≤ 2048) (lv : vs.length ≤ 2048) (tx : Trimmed xs) (ty : Trimmed ys) (tu : Trimmed us) (tv : Trimmed vs) :
    Calls Tryd.prog 48 #[.agg #[.bool n, .slice a xs.length ca, .slice b ys.length cb], .agg #[.bool m, .slice c us.length cc, .slice d vs.length cd]] w fun e w' => e = .returned (.int .i64 (cmpI (val xs * val vs) (val us * val ys))) ∧ Below w.heap.size w w' := by
  have wx := sx.wd
  have wy := sy.wd
  have wu := su.wd
  have wv := sv.wd
  have HB : Hid (Below w.heap.size w ((w.alloc (.cells #[.bool n, .slice a xs.length ca, .slice b ys.length cb] 27)).alloc (.cells #[.bool m, .slice c us.length cc, .slice d vs.length cd] 27))) := bt (alloc_later _ _) (alloc_later _ _)
  have HN : Hid (Box ((w.alloc (.cells #[.bool n, .slice a xs.length ca, .slice b ys.length cb] 27)).alloc (.cells #[.bool m, .slice c us.length cc, .slice d vs.length cd] 27)) w.heap.size 27 #[.bool n, .slice a xs.length ca, .slice b ys.length cb]) := Box.later (Box.made w _ _) (alloc_later _ _) (by simp)
  have HM : Hid (Box ((w.alloc (.cells #[.bool n, .slice a xs.length ca, .slice b ys.length cb] 27)).alloc (.cells #[.bool m, .slice c us.length cc, .slice d vs.length cd] 27)) (w.heap.size + 1) 27 #[.bool m, .slice c us.length cc, .slice d vs.length cd]) := by
    have e := Box.made (w.alloc (.cells #[.bool n, .slice a xs.length ca, .slice b ys.length cb] 27)) 27 #[.bool m, .slice c us.length cc, .slice d vs.length cd]
    simp at e
    exact e
  have HSL := hid (And.intro (sx.later HB.out) (And.intro (sy.later HB.out) (And.intro (su.later HB.out) (sv.later HB.out))))
  have HL : Hid (val xs * val vs < 4294967296 ^ 4096 ∧ val us * val ys < 4294967296 ^ 4096) := ⟨mul_4096 (val_nonneg wx) (below2048 wx lx) (val_nonneg wv) (below2048 wv lv), mul_4096 (val_nonneg wu) (below2048 wu lu) (val_nonneg wy) (below2048 wy ly)⟩
  have HTT := hid (And.intro tx (And.intro ty (And.intro tu tv)))
  obtain ⟨R, hR⟩ : ∃ R, cmpI (val xs * val vs) (val us * val ys) = R := ⟨_, rfl⟩
  rw [hR]
  have HR := hid hR
  clear sx sy su sv tx ty tu tv wx wy wu wv hR
  go_enter Tryd.func48, Tryd.ntmps48
  go_wp2_with fail
  generalize ((w.alloc (.cells #[.bool n, .slice a xs.length ca, .slice b ys.length cb] 27)).alloc (.cells #[.bool m, .slice c us.length cc, .slice d vs.length cd] 27)) = X at *
  have HK : Hid (∀ V, Below X.heap.size X V → V.cell? ⟨w.heap.size, 0, none⟩ = some (.bool n) ∧ V.cell? ⟨w.heap.size, 1, none⟩ = some (.slice a xs.length ca) ∧ V.cell? ⟨w.heap.size, 2, none⟩ = some (.slice b ys.length cb) ∧ V.cell? ⟨w.heap.size + 1, 0, none⟩ = some (.bool m) ∧ V.cell? ⟨w.heap.size + 1, 1, none⟩ = some (.slice c us.length cc) ∧ V.cell? ⟨w.heap.size + 1, 2, none⟩ = some (.slice d vs.length cd)) := fun V hb => by
    obtain ⟨p0, p1, p2, _⟩ := res_box3 HN.out hb
    obtain ⟨q0, q1, q2, _⟩ := res_box3 HM.out hb
    exact ⟨p0, p1, p2, q0, q1, q2⟩
  have hs0 := HK.out _ (Below.drew (Below.refl _ X))
  have HBR := hid (Below.drew (Below.refl X.heap.size X))
  have H1 := hid (fun ww (hv : Below X.heap.size X ww) => told1_in _ HK.out ww hv (rprod_any _ _ xs vs ww (HSL.out.1.later hv) (HSL.out.2.2.2.later hv) (by omega) HTT.out.1 HTT.out.2.2.2))
  have H2 := hid (fun ww (hv : Below X.heap.size X ww) => told1_in _ HK.out ww hv (rprod_any _ _ us ys ww (HSL.out.2.2.1.later hv) (HSL.out.2.1.later hv) (by omega) HTT.out.2.2.1 HTT.out.2.1))
  have H3 : Hid (∀ ww, Below X.heap.size X ww → ∀ a4 z4 c4 a5 z5 c5, One X ww (.slice a4 (List.length z4) c4) z4 (val xs * val vs) → One X ww (.slice a5 (List.length z5) c5) z5 (val us * val ys) → Calls Tryd.prog 66 #[.slice a4 z4.length c4, .slice a5 z5.length c5] ww fun e w' => e = .returned (.int .i64 R) ∧ Hid (Below X.heap.size X w') ∧ w'.cell? ⟨w.heap.size, 0, none⟩ = some (.bool n) ∧ w'.cell? ⟨w.heap.size, 1, none⟩ = some (.slice a xs.length ca) ∧ w'.cell? ⟨w.heap.size, 2, none⟩ = some (.slice b ys.length cb) ∧ w'.cell? ⟨w.heap.size + 1, 0, none⟩ = some (.bool m) ∧ w'.cell? ⟨w.heap.size + 1, 1, none⟩ = some (.slice c us.length cc) ∧ w'.cell? ⟨w.heap.size + 1, 2, none⟩ = some (.slice d vs.length cd)) := fun ww hv a4 z4 c4 a5 z5 c5 h4 h5 => by
    have e := compare_sl _ _ z4 z5 ww h4.sl h5.sl (by have := own_len h4 HL.out.1; omega) (by have := own_len h5 HL.out.2; omega)
    rw [h4.2.2.2, h5.2.2.2, HR.out] at e
    refine Calls.mono e ?_
    rintro e w' ⟨rfl, hb⟩
    exact ⟨rfl, (bt hv hb), HK.out w' (bt hv hb)⟩
  clear HSL HTT HL HR
  go_region_held3 (fun V : World => V.cell? ⟨w.heap.size, 0, none⟩ = some (.bool n) ∧ V.cell? ⟨w.heap.size, 1, none⟩ = some (.slice a xs.length ca) ∧ V.cell? ⟨w.heap.size, 2, none⟩ = some (.slice b ys.length cb) ∧ V.cell? ⟨w.heap.size + 1, 0, none⟩ = some (.bool m) ∧ V.cell? ⟨w.heap.size + 1, 1, none⟩ = some (.slice c us.length cc) ∧ V.cell? ⟨w.heap.size + 1, 2, none⟩ = some (.slice d vs.length cd)) (first | exact hs9 | exact hs5 | exact hs4 | exact hs0)
    (first
      | (go_at_call 66; with_reducible refine Calls.mono (H3.out _ hb5 _ _ _ _ _ _ (HE4.out.1.later HS5.out) HE5.out.1) ?_; rintro e w9 ⟨rfl, HE9, hs9⟩)
      | (go_at_call 67; with_reducible refine Calls.mono (H2.out _ hb4) ?_; rintro e w5 ⟨a5, z5, c5, rfl, HE5, hs5, hb5, HS5⟩)
      | (go_at_call 67; with_reducible refine Calls.mono (H1.out _ HBR.out) ?_; rintro e w4 ⟨a4, z4, c4, rfl, HE4, hs4, hb4, HS4⟩))
  all_goals
    have HBN := hid (bt HB.out HE9.out)
    clear HK H1 H2 H3 HE4 HE5 HE9 HS4 HS5 hs0 hs4 hs5 hs9 hb4 hb5 HBR
    go_wp2_with fail
    go_ret
    exact ⟨rfl, HBN.out⟩
/-- What Compare tells. -/
def rcmp (n : Bool) (xs ys : List Int) (m : Bool) (us vs : List Int) : Int := if rboth n xs ys m us vs = 0 then cmpI (wval n xs * val vs) (wval m us * val ys) else 0

set_option maxHeartbeats 3200000 in
set_option maxRecDepth 100000 in
theorem rCompare_ff (a : Option Addr) (ca : Nat) (xs : List Int) (b : Option Addr) (cb : Nat) (ys : List Int) (c : Option Addr) (cc : Nat) (us : List Int) (d : Option Addr) (cd : Nat) (vs : List Int) (w : World) (sx : Sl w (.slice a xs.length ca) xs) (sy : Sl w (.slice b ys.length cb) ys) (su : Sl w (.slice c us.length cc) us) (sv : Sl w (.slice d vs.length cd) vs) (hx : rchk false xs ys = 0) (hy : rchk false us vs = 0) :
    Calls Tryd.prog 34 #[.agg #[.bool false, .slice a xs.length ca, .slice b ys.length cb], .agg #[.bool false, .slice c us.length cc, .slice d vs.length cd]] w fun e w' => e = .returned (.tuple #[.int .i64 (cmpI (wval false xs * val vs) (wval false us * val ys)), .int .i64 0]) ∧ Below w.heap.size w w' := by
  obtain ⟨lx, ly, tx, ty, y0, nx, _⟩ := rchk_ok hx
  obtain ⟨lu, lv, tu, tv, v0, nu, _⟩ := rchk_ok hy
  have wx := sx.wd
  have wu := su.wd
  have py := val_pos' sy.wd ty y0
  have pv := val_pos' sv.wd tv v0
  have HB : Hid (Below w.heap.size w ((w.alloc (.cells #[.bool false, .slice a xs.length ca, .slice b ys.length cb] 27)).alloc (.cells #[.bool false, .slice c us.length cc, .slice d vs.length cd] 27))) := bt (alloc_later _ _) (alloc_later _ _)
  have HN : Hid (Box ((w.alloc (.cells #[.bool false, .slice a xs.length ca, .slice b ys.length cb] 27)).alloc (.cells #[.bool false, .slice c us.length cc, .slice d vs.length cd] 27)) w.heap.size 27 #[.bool false, .slice a xs.length ca, .slice b ys.length cb]) := Box.later (Box.made w _ _) (alloc_later _ _) (by simp)
  have HM : Hid (Box ((w.alloc (.cells #[.bool false, .slice a xs.length ca, .slice b ys.length cb] 27)).alloc (.cells #[.bool false, .slice c us.length cc, .slice d vs.length cd] 27)) (w.heap.size + 1) 27 #[.bool false, .slice c us.length cc, .slice d vs.length cd]) := by
    have e := Box.made (w.alloc (.cells #[.bool false, .slice a xs.length ca, .slice b ys.length cb] 27)) 27 #[.bool false, .slice c us.length cc, .slice d vs.length cd]
    simp at e
    exact e
  have HSL := hid (And.intro (sx.later HB.out) (And.intro (sy.later HB.out) (And.intro (su.later HB.out) (sv.later HB.out))))
  have HC := hid (rcheckBoth_any false _ xs _ ys false _ us _ vs ((w.alloc (.cells #[.bool false, .slice a xs.length ca, .slice b ys.length cb] 27)).alloc (.cells #[.bool false, .slice c us.length cc, .slice d vs.length cd] 27)) HSL.out.1 HSL.out.2.1 HSL.out.2.2.1 HSL.out.2.2.2)
  rw [rboth_good hx hy] at HC
  have HA := hid (fun ww (hb : Below ((w.alloc (.cells #[.bool false, .slice a xs.length ca, .slice b ys.length cb] 27)).alloc (.cells #[.bool false, .slice c us.length cc, .slice d vs.length cd] 27)).heap.size ((w.alloc (.cells #[.bool false, .slice a xs.length ca, .slice b ys.length cb] 27)).alloc (.cells #[.bool false, .slice c us.length cc, .slice d vs.length cd] 27)) ww) => rsizes_any false a ca xs b cb ys false c cc us d cd vs ww (HSL.out.1.later hb) (HSL.out.2.1.later hb) (HSL.out.2.2.1.later hb) (HSL.out.2.2.2.later hb) lx ly lu lv tx ty tu tv)
  have heq : cmpI (val xs * val vs) (val us * val ys) = cmpI (wval false xs * val vs) (wval false us * val ys) := rfl
  rw [heq] at HA
  obtain ⟨R, hR⟩ : ∃ R, cmpI (wval false xs * val vs) (wval false us * val ys) = R := ⟨_, rfl⟩
  rw [hR] at HA ⊢
  clear sx sy su sv hx hy tx ty tu tv wx wu py pv heq hR lx ly lu lv y0 v0 nx nu
  go_enter Tryd.func34, Tryd.ntmps34
  go_wp2_with fail
  refine Calls.mono HC.out ?_
  generalize ((w.alloc (.cells #[.bool false, .slice a xs.length ca, .slice b ys.length cb] 27)).alloc (.cells #[.bool false, .slice c us.length cc, .slice d vs.length cd] 27)) = X at *
  rintro e w1 ⟨rfl, hb1⟩
  obtain ⟨p0, p1, p2, _⟩ := res_box3 HN.out hb1
  obtain ⟨q0, q1, q2, _⟩ := res_box3 HM.out hb1
  have HCA := hid (HA.out w1 hb1)
  have HB1 := hid (bt HB.out hb1)
  clear hb1 HC HA
  go_wp2_with fail
  refine Calls.mono HCA.out ?_
  rintro e w2 ⟨rfl, hb2⟩
  have HBN := hid (bt HB1.out hb2)
  clear hb2 HCA
  go_wp2_with fail
  go_ret2
  exact ⟨rfl, HBN.out⟩

set_option maxHeartbeats 3200000 in
set_option maxRecDepth 100000 in
theorem rCompare_tt (a : Option Addr) (ca : Nat) (xs : List Int) (b : Option Addr) (cb : Nat) (ys : List Int) (c : Option Addr) (cc : Nat) (us : List Int) (d : Option Addr) (cd : Nat) (vs : List Int) (w : World) (sx : Sl w (.slice a xs.length ca) xs) (sy : Sl w (.slice b ys.length cb) ys) (su : Sl w (.slice c us.length cc) us) (sv : Sl w (.slice d vs.length cd) vs) (hx : rchk true xs ys = 0) (hy : rchk true us vs = 0) :
    Calls Tryd.prog 34 #[.agg #[.bool true, .slice a xs.length ca, .slice b ys.length cb], .agg #[.bool true, .slice c us.length cc, .slice d vs.length cd]] w fun e w' => e = .returned (.tuple #[.int .i64 (cmpI (wval true xs * val vs) (wval true us * val ys)), .int .i64 0]) ∧ Below w.heap.size w w' := by
  obtain ⟨lx, ly, tx, ty, y0, nx, _⟩ := rchk_ok hx
  obtain ⟨lu, lv, tu, tv, v0, nu, _⟩ := rchk_ok hy
  have wx := sx.wd
  have wu := su.wd
  have py := val_pos' sy.wd ty y0
  have pv := val_pos' sv.wd tv v0
  have HB : Hid (Below w.heap.size w ((w.alloc (.cells #[.bool true, .slice a xs.length ca, .slice b ys.length cb] 27)).alloc (.cells #[.bool true, .slice c us.length cc, .slice d vs.length cd] 27))) := bt (alloc_later _ _) (alloc_later _ _)
  have HN : Hid (Box ((w.alloc (.cells #[.bool true, .slice a xs.length ca, .slice b ys.length cb] 27)).alloc (.cells #[.bool true, .slice c us.length cc, .slice d vs.length cd] 27)) w.heap.size 27 #[.bool true, .slice a xs.length ca, .slice b ys.length cb]) := Box.later (Box.made w _ _) (alloc_later _ _) (by simp)
  have HM : Hid (Box ((w.alloc (.cells #[.bool true, .slice a xs.length ca, .slice b ys.length cb] 27)).alloc (.cells #[.bool true, .slice c us.length cc, .slice d vs.length cd] 27)) (w.heap.size + 1) 27 #[.bool true, .slice c us.length cc, .slice d vs.length cd]) := by
    have e := Box.made (w.alloc (.cells #[.bool true, .slice a xs.length ca, .slice b ys.length cb] 27)) 27 #[.bool true, .slice c us.length cc, .slice d vs.length cd]
    simp at e
    exact e
  have HSL := hid (And.intro (sx.later HB.out) (And.intro (sy.later HB.out) (And.intro (su.later HB.out) (sv.later HB.out))))
  have HC := hid (rcheckBoth_any true _ xs _ ys true _ us _ vs ((w.alloc (.cells #[.bool true, .slice a xs.length ca, .slice b ys.length cb] 27)).alloc (.cells #[.bool true, .slice c us.length cc, .slice d vs.length cd] 27)) HSL.out.1 HSL.out.2.1 HSL.out.2.2.1 HSL.out.2.2.2)
  rw [rboth_good hx hy] at HC
  have HA := hid (fun ww (hb : Below ((w.alloc (.cells #[.bool true, .slice a xs.length ca, .slice b ys.length cb] 27)).alloc (.cells #[.bool true, .slice c us.length cc, .slice d vs.length cd] 27)).heap.size ((w.alloc (.cells #[.bool true, .slice a xs.length ca, .slice b ys.length cb] 27)).alloc (.cells #[.bool true, .slice c us.length cc, .slice d vs.length cd] 27)) ww) => rsizes_any true c cc us d cd vs true a ca xs b cb ys ww (HSL.out.2.2.1.later hb) (HSL.out.2.2.2.later hb) (HSL.out.1.later hb) (HSL.out.2.1.later hb) lu lv lx ly tu tv tx ty)
  have heq : cmpI (val us * val ys) (val xs * val vs) = cmpI (wval true xs * val vs) (wval true us * val ys) := by
    show _ = cmpI (-(val xs) * val vs) (-(val us) * val ys)
    rw [Int.neg_mul, Int.neg_mul]
    exact cmp_negs _ _
  rw [heq] at HA
  obtain ⟨R, hR⟩ : ∃ R, cmpI (wval true xs * val vs) (wval true us * val ys) = R := ⟨_, rfl⟩
  rw [hR] at HA ⊢
  clear sx sy su sv hx hy tx ty tu tv wx wu py pv heq hR lx ly lu lv y0 v0 nx nu
  go_enter Tryd.func34, Tryd.ntmps34
  go_wp2_with fail
  refine Calls.mono HC.out ?_
  generalize ((w.alloc (.cells #[.bool true, .slice a xs.length ca, .slice b ys.length cb] 27)).alloc (.cells #[.bool true, .slice c us.length cc, .slice d vs.length cd] 27)) = X at *
  rintro e w1 ⟨rfl, hb1⟩
  obtain ⟨p0, p1, p2, _⟩ := res_box3 HN.out hb1
  obtain ⟨q0, q1, q2, _⟩ := res_box3 HM.out hb1
  have HCA := hid (HA.out w1 hb1)
  have HB1 := hid (bt HB.out hb1)
  clear hb1 HC HA
  go_wp2_with fail
  refine Calls.mono HCA.out ?_
  rintro e w2 ⟨rfl, hb2⟩
  have HBN := hid (bt HB1.out hb2)
  clear hb2 HCA
  go_wp2_with fail
  go_ret2
  exact ⟨rfl, HBN.out⟩

set_option maxHeartbeats 3200000 in
set_option maxRecDepth 100000 in
theorem rCompare_tf (a : Option Addr) (ca : Nat) (xs : List Int) (b : Option Addr) (cb : Nat) (ys : List Int) (c : Option Addr) (cc : Nat) (us : List Int) (d : Option Addr) (cd : Nat) (vs : List Int) (w : World) (sx : Sl w (.slice a xs.length ca) xs) (sy : Sl w (.slice b ys.length cb) ys) (su : Sl w (.slice c us.length cc) us) (sv : Sl w (.slice d vs.length cd) vs) (hx : rchk true xs ys = 0) (hy : rchk false us vs = 0) :
    Calls Tryd.prog 34 #[.agg #[.bool true, .slice a xs.length ca, .slice b ys.length cb], .agg #[.bool false, .slice c us.length cc, .slice d vs.length cd]] w fun e w' => e = .returned (.tuple #[.int .i64 (cmpI (wval true xs * val vs) (wval false us * val ys)), .int .i64 0]) ∧ Below w.heap.size w w' := by
  obtain ⟨lx, ly, tx, ty, y0, nx, _⟩ := rchk_ok hx
  obtain ⟨lu, lv, tu, tv, v0, nu, _⟩ := rchk_ok hy
  have wx := sx.wd
  have wu := su.wd
  have py := val_pos' sy.wd ty y0
  have pv := val_pos' sv.wd tv v0
  have HB : Hid (Below w.heap.size w ((w.alloc (.cells #[.bool true, .slice a xs.length ca, .slice b ys.length cb] 27)).alloc (.cells #[.bool false, .slice c us.length cc, .slice d vs.length cd] 27))) := bt (alloc_later _ _) (alloc_later _ _)
  have HN : Hid (Box ((w.alloc (.cells #[.bool true, .slice a xs.length ca, .slice b ys.length cb] 27)).alloc (.cells #[.bool false, .slice c us.length cc, .slice d vs.length cd] 27)) w.heap.size 27 #[.bool true, .slice a xs.length ca, .slice b ys.length cb]) := Box.later (Box.made w _ _) (alloc_later _ _) (by simp)
  have HM : Hid (Box ((w.alloc (.cells #[.bool true, .slice a xs.length ca, .slice b ys.length cb] 27)).alloc (.cells #[.bool false, .slice c us.length cc, .slice d vs.length cd] 27)) (w.heap.size + 1) 27 #[.bool false, .slice c us.length cc, .slice d vs.length cd]) := by
    have e := Box.made (w.alloc (.cells #[.bool true, .slice a xs.length ca, .slice b ys.length cb] 27)) 27 #[.bool false, .slice c us.length cc, .slice d vs.length cd]
    simp at e
    exact e
  have HSL := hid (And.intro (sx.later HB.out) (And.intro (sy.later HB.out) (And.intro (su.later HB.out) (sv.later HB.out))))
  have HC := hid (rcheckBoth_any true _ xs _ ys false _ us _ vs ((w.alloc (.cells #[.bool true, .slice a xs.length ca, .slice b ys.length cb] 27)).alloc (.cells #[.bool false, .slice c us.length cc, .slice d vs.length cd] 27)) HSL.out.1 HSL.out.2.1 HSL.out.2.2.1 HSL.out.2.2.2)
  rw [rboth_good hx hy] at HC
  have hR : cmpI (wval true xs * val vs) (wval false us * val ys) = -1 := by
    have h1 := val_pos' wx tx (nx.elim (fun e => by cases e) id)
    have h2 := val_nonneg wu
    have h3 := Int.mul_pos (a := val xs) (b := val vs) (by omega) (by omega)
    have h4 := Int.mul_nonneg h2 (show 0 ≤ val ys by omega)
    show cmpI (-(val xs) * val vs) (val us * val ys) = -1
    rw [Int.neg_mul]
    exact cmpI_lt (by omega)
  rw [hR]
  clear sx sy su sv hx hy tx ty tu tv wx wu py pv hR lx ly lu lv y0 v0 nx nu
  go_enter Tryd.func34, Tryd.ntmps34
  go_wp2_with fail
  refine Calls.mono HC.out ?_
  generalize ((w.alloc (.cells #[.bool true, .slice a xs.length ca, .slice b ys.length cb] 27)).alloc (.cells #[.bool false, .slice c us.length cc, .slice d vs.length cd] 27)) = X at *
  rintro e w1 ⟨rfl, hb1⟩
  obtain ⟨p0, p1, p2, _⟩ := res_box3 HN.out hb1
  obtain ⟨q0, q1, q2, _⟩ := res_box3 HM.out hb1
  have HBN := hid (bt HB.out hb1)
  clear hb1 HC
  go_wp2_with fail
  go_ret2
  exact ⟨rfl, HBN.out⟩

set_option maxHeartbeats 3200000 in
set_option maxRecDepth 100000 in
theorem rCompare_ft (a : Option Addr) (ca : Nat) (xs : List Int) (b : Option Addr) (cb : Nat) (ys : List Int) (c : Option Addr) (cc : Nat) (us : List Int) (d : Option Addr) (cd : Nat) (vs : List Int) (w : World) (sx : Sl w (.slice a xs.length ca) xs) (sy : Sl w (.slice b ys.length cb) ys) (su : Sl w (.slice c us.length cc) us) (sv : Sl w (.slice d vs.length cd) vs) (hx : rchk false xs ys = 0) (hy : rchk true us vs = 0) :
    Calls Tryd.prog 34 #[.agg #[.bool false, .slice a xs.length ca, .slice b ys.length cb], .agg #[.bool true, .slice c us.length cc, .slice d vs.length cd]] w fun e w' => e = .returned (.tuple #[.int .i64 (cmpI (wval false xs * val vs) (wval true us * val ys)), .int .i64 0]) ∧ Below w.heap.size w w' := by
  obtain ⟨lx, ly, tx, ty, y0, nx, _⟩ := rchk_ok hx
  obtain ⟨lu, lv, tu, tv, v0, nu, _⟩ := rchk_ok hy
  have wx := sx.wd
  have wu := su.wd
  have py := val_pos' sy.wd ty y0
  have pv := val_pos' sv.wd tv v0
  have HB : Hid (Below w.heap.size w ((w.alloc (.cells #[.bool false, .slice a xs.length ca, .slice b ys.length cb] 27)).alloc (.cells #[.bool true, .slice c us.length cc, .slice d vs.length cd] 27))) := bt (alloc_later _ _) (alloc_later _ _)
  have HN : Hid (Box ((w.alloc (.cells #[.bool false, .slice a xs.length ca, .slice b ys.length cb] 27)).alloc (.cells #[.bool true, .slice c us.length cc, .slice d vs.length cd] 27)) w.heap.size 27 #[.bool false, .slice a xs.length ca, .slice b ys.length cb]) := Box.later (Box.made w _ _) (alloc_later _ _) (by simp)
  have HM : Hid (Box ((w.alloc (.cells #[.bool false, .slice a xs.length ca, .slice b ys.length cb] 27)).alloc (.cells #[.bool true, .slice c us.length cc, .slice d vs.length cd] 27)) (w.heap.size + 1) 27 #[.bool true, .slice c us.length cc, .slice d vs.length cd]) := by
    have e := Box.made (w.alloc (.cells #[.bool false, .slice a xs.length ca, .slice b ys.length cb] 27)) 27 #[.bool true, .slice c us.length cc, .slice d vs.length cd]
    simp at e
    exact e
  have HSL := hid (And.intro (sx.later HB.out) (And.intro (sy.later HB.out) (And.intro (su.later HB.out) (sv.later HB.out))))
  have HC := hid (rcheckBoth_any false _ xs _ ys true _ us _ vs ((w.alloc (.cells #[.bool false, .slice a xs.length ca, .slice b ys.length cb] 27)).alloc (.cells #[.bool true, .slice c us.length cc, .slice d vs.length cd] 27)) HSL.out.1 HSL.out.2.1 HSL.out.2.2.1 HSL.out.2.2.2)
  rw [rboth_good hx hy] at HC
  have hR : cmpI (wval false xs * val vs) (wval true us * val ys) = 1 := by
    have h1 := val_pos' wu tu (nu.elim (fun e => by cases e) id)
    have h2 := val_nonneg wx
    have h3 := Int.mul_pos (a := val us) (b := val ys) (by omega) (by omega)
    have h4 := Int.mul_nonneg h2 (show 0 ≤ val vs by omega)
    show cmpI (val xs * val vs) (-(val us) * val ys) = 1
    rw [Int.neg_mul]
    exact cmpI_gt (by omega)
  rw [hR]
  clear sx sy su sv hx hy tx ty tu tv wx wu py pv hR lx ly lu lv y0 v0 nx nu
  go_enter Tryd.func34, Tryd.ntmps34
  go_wp2_with fail
  refine Calls.mono HC.out ?_
  generalize ((w.alloc (.cells #[.bool false, .slice a xs.length ca, .slice b ys.length cb] 27)).alloc (.cells #[.bool true, .slice c us.length cc, .slice d vs.length cd] 27)) = X at *
  rintro e w1 ⟨rfl, hb1⟩
  obtain ⟨p0, p1, p2, _⟩ := res_box3 HN.out hb1
  obtain ⟨q0, q1, q2, _⟩ := res_box3 HM.out hb1
  have HBN := hid (bt HB.out hb1)
  clear hb1 HC
  go_wp2_with fail
  go_ret2
  exact ⟨rfl, HBN.out⟩

set_option maxHeartbeats 1600000 in
set_option maxRecDepth 100000 in
theorem rCompare_err (n : Bool) (a : Option Addr) (ca : Nat) (xs : List Int) (b : Option Addr) (cb : Nat) (ys : List Int) (m : Bool) (c : Option Addr) (cc : Nat) (us : List Int) (d : Option Addr) (cd : Nat) (vs : List Int) (w : World) (sx : Sl w (.slice a xs.length ca) xs) (sy : Sl w (.slice b ys.length cb) ys) (su : Sl w (.slice c us.length cc) us) (sv : Sl w (.slice d vs.length cd) vs) (he : rboth n xs ys m us vs ≠ 0) :
    Calls Tryd.prog 34 #[.agg #[.bool n, .slice a xs.length ca, .slice b ys.length cb], .agg #[.bool m, .slice c us.length cc, .slice d vs.length cd]] w fun e w' => e = .returned (.tuple #[.int .i64 0, .int .i64 (rboth n xs ys m us vs)]) ∧ Below w.heap.size w w' := by
  have HB : Hid (Below w.heap.size w ((w.alloc (.cells #[.bool n, .slice a xs.length ca, .slice b ys.length cb] 27)).alloc (.cells #[.bool m, .slice c us.length cc, .slice d vs.length cd] 27))) := bt (alloc_later _ _) (alloc_later _ _)
  have HN : Hid (Box ((w.alloc (.cells #[.bool n, .slice a xs.length ca, .slice b ys.length cb] 27)).alloc (.cells #[.bool m, .slice c us.length cc, .slice d vs.length cd] 27)) w.heap.size 27 #[.bool n, .slice a xs.length ca, .slice b ys.length cb]) := Box.later (Box.made w _ _) (alloc_later _ _) (by simp)
  have HM : Hid (Box ((w.alloc (.cells #[.bool n, .slice a xs.length ca, .slice b ys.length cb] 27)).alloc (.cells #[.bool m, .slice c us.length cc, .slice d vs.length cd] 27)) (w.heap.size + 1) 27 #[.bool m, .slice c us.length cc, .slice d vs.length cd]) := by
    have e := Box.made (w.alloc (.cells #[.bool n, .slice a xs.length ca, .slice b ys.length cb] 27)) 27 #[.bool m, .slice c us.length cc, .slice d vs.length cd]
    simp at e
    exact e
  have HSL := hid (And.intro (sx.later HB.out) (And.intro (sy.later HB.out) (And.intro (su.later HB.out) (sv.later HB.out))))
  have HC := hid (rcheckBoth_any n _ xs _ ys m _ us _ vs ((w.alloc (.cells #[.bool n, .slice a xs.length ca, .slice b ys.length cb] 27)).alloc (.cells #[.bool m, .slice c us.length cc, .slice d vs.length cd] 27)) HSL.out.1 HSL.out.2.1 HSL.out.2.2.1 HSL.out.2.2.2)
  obtain ⟨E, hE⟩ : ∃ E, rboth n xs ys m us vs = E := ⟨_, rfl⟩
  rw [hE] at HC he ⊢
  have he' : (E == 0) = false := beq_eq_false_iff_ne.2 he
  clear he hE sx sy su sv
  go_enter Tryd.func34, Tryd.ntmps34
  go_wp2_with fail
  refine Calls.mono HC.out ?_
  rintro e w1 ⟨rfl, hb1⟩
  have HBN := hid (bt HB.out hb1)
  clear hb1 HC HN HM HSL
  go_wp2_with fail
  go_ret2
  exact ⟨rfl, HBN.out⟩
theorem rCompare_full (n : Bool) (a : Option Addr) (ca : Nat) (xs : List Int) (b : Option Addr) (cb : Nat) (ys : List Int) (m : Bool) (c : Option Addr) (cc : Nat) (us : List Int) (d : Option Addr) (cd : Nat) (vs : List Int) (w : World) (sx : Sl w (.slice a xs.length ca) xs) (sy : Sl w (.slice b ys.length cb) ys) (su : Sl w (.slice c us.length cc) us) (sv : Sl w (.slice d vs.length cd) vs) :
    Calls Tryd.prog 34 #[.agg #[.bool n, .slice a xs.length ca, .slice b ys.length cb], .agg #[.bool m, .slice c us.length cc, .slice d vs.length cd]] w fun e w' => e = .returned (.tuple #[.int .i64 (rcmp n xs ys m us vs), .int .i64 (rboth n xs ys m us vs)]) ∧ Below w.heap.size w w' := by
  unfold rcmp
  by_cases he : rboth n xs ys m us vs = 0
  · rw [if_pos he, he]
    obtain ⟨hx, hy⟩ := rboth_ok he
    cases n <;> cases m
    · exact rCompare_ff a ca xs b cb ys c cc us d cd vs w sx sy su sv hx hy
    · exact rCompare_ft a ca xs b cb ys c cc us d cd vs w sx sy su sv hx hy
    · exact rCompare_tf a ca xs b cb ys c cc us d cd vs w sx sy su sv hx hy
    · exact rCompare_tt a ca xs b cb ys c cc us d cd vs w sx sy su sv hx hy
  · rw [if_neg he]
    exact rCompare_err n a ca xs b cb ys m c cc us d cd vs w sx sy su sv he
end Go.Proofs.YtggmdocpfkkclaaDoor

/- The nearest float: of a fraction that is a float it is that float; it keeps the order of fractions. The next float: no float lies between. -/
namespace Go.Proofs.YtggmdocpfkkclaaDoor
open Go.RowKit
set_option linter.unusedVariables false

theorem Mid.mono {A1 D1 s1 A2 D2 s2 : Nat} (h1 : Mid A1 D1 s1) (h2 : Mid A2 D2 s2) (p1 : 0 < D1) (p2 : 0 < D2) (h : A1 * D2 ≤ A2 * D1) : s1 ≤ s2 := by
  rcases Nat.lt_or_ge s2 s1 with g | g
  · exfalso
    have t1 := h1.top
    have d := h1.down (by omega)
    have u := h2.up (by omega)
    have v1 : rungVal s2 ≤ rungVal (s1 - 1) := rungVal_le (by omega)
    have v2 : rungVal (s2 + 1) ≤ rungVal s1 := rungVal_le (by omega)
    have e1 : (rungVal (s1 - 1) + rungVal s1) * D1 * D2 ≤ 2 * A1 * D2 := Nat.mul_le_mul_right _ d
    have e2 : 2 * A2 * D1 ≤ (rungVal s2 + rungVal (s2 + 1)) * D2 * D1 := Nat.mul_le_mul_right _ u
    have e3 : (rungVal s2 + rungVal (s2 + 1)) * (D1 * D2) ≤ (rungVal (s1 - 1) + rungVal s1) * (D1 * D2) := Nat.mul_le_mul_right _ (by omega)
    have pp : 0 < D1 * D2 := Nat.mul_pos p1 p2
    rw [Nat.mul_assoc] at e1
    rw [Nat.mul_assoc (rungVal s2 + rungVal (s2 + 1)), Nat.mul_comm D2 D1] at e2
    rw [Nat.mul_assoc 2] at e1 e2
    have e4 : (rungVal s2 + rungVal (s2 + 1)) * (D1 * D2) = (rungVal (s1 - 1) + rungVal s1) * (D1 * D2) := by omega
    have e5 := Nat.eq_of_mul_eq_mul_right pp e4
    have e6 : s2 + 1 = s1 := by
      rcases Nat.lt_or_ge (s2 + 1) s1 with q | q
      · have := rungVal_lt (r := s2) (s := s1 - 1) (by omega)
        omega
      · omega
    subst e6
    have f1 : (rungVal (s2 + 1 - 1) + rungVal (s2 + 1)) * D1 = 2 * A1 := by
      refine Nat.le_antisymm d ?_
      refine Nat.le_of_mul_le_mul_right (c := D2) ?_ p2
      rw [Nat.mul_assoc, Nat.mul_assoc]
      omega
    have f2 : 2 * A2 = (rungVal s2 + rungVal (s2 + 1)) * D2 := by
      refine Nat.le_antisymm u ?_
      refine Nat.le_of_mul_le_mul_right (c := D1) ?_ p1
      rw [Nat.mul_assoc, Nat.mul_assoc, Nat.mul_comm D2 D1]
      omega
    have p := h1.tieDown (by omega) f1
    have q := h2.tieUp (by omega) f2
    omega
  · exact g
theorem mid_exact {D t : Nat} (hD : 0 < D) (ht : t < 9218868437227405312) : Mid (rungVal t * D) D t := by
  have hs : rungVal t < rungVal (t + 1) := rungVal_lt (by omega)
  have e0 : 2 * (rungVal t * D) = (rungVal t + rungVal t) * D := by rw [Nat.add_mul]; omega
  refine ⟨by omega, fun _ => ?_, fun h => ?_, fun _ e => ?_, fun h e => ?_⟩
  · rw [e0]; exact Nat.mul_le_mul_right _ (by omega)
  · have hd : rungVal (t - 1) < rungVal t := rungVal_lt (by omega)
    rw [e0]; exact Nat.mul_le_mul_right _ (by omega)
  · rw [e0] at e
    have := Nat.eq_of_mul_eq_mul_right hD e
    omega
  · have hd : rungVal (t - 1) < rungVal t := rungVal_lt (by omega)
    rw [e0] at e
    have := Nat.eq_of_mul_eq_mul_right hD e
    omega

/-- What Nearest's float is, where nothing is refused. -/
theorem nr_sv {n : Bool} {xs ys : List Int} {x : Nat} {code : Int} (h : NrT n xs ys x code) (hc : code = 0) :
    rchk n xs ys = 0 ∧ ∃ X Y s : Nat, val xs = X ∧ val ys = Y ∧ 0 < Y ∧ Mid (X * 2 ^ zP) Y s ∧ s < 9218868437227405312 ∧ Fi x ∧ sv x = sg n (rungVal s : Int) := by
  rcases h with ⟨h0, _, h1⟩ | ⟨h0, X, Y, s, hX, hY, hp, hm, h⟩
  · exact absurd (h1.symm.trans hc) h0
  · refine ⟨h0, X, Y, s, hX, hY, hp, hm, ?_⟩
    rcases h with ⟨_, _, h1⟩ | ⟨hs, _, hx⟩
    · rw [hc] at h1; exact absurd h1 (by decide)
    · refine ⟨hs, ?_⟩
      by_cases hn : n = true ∧ 0 < s
      · rw [if_pos hn] at hx
        rw [hx, hn.1, Nat.add_comm s, sv_high (by omega)]
        exact ⟨⟨by omega, by omega⟩, rfl⟩
      · rw [if_neg hn] at hx
        rw [hx, sv_low (by omega)]
        refine ⟨⟨by omega, by omega⟩, ?_⟩
        cases n
        · rfl
        · have : s = 0 := by
            rcases Nat.eq_zero_or_pos s with g | g
            · exact g
            · exact absurd ⟨rfl, g⟩ hn
          subst this
          decide
theorem wval_sg (n : Bool) (xs : List Int) : wval n xs = sg n (val xs) := rfl

theorem sg_mul' (n : Bool) (x y : Int) : sg n (x * y) = sg n x * y := sg_mul n x y
theorem sg_inj {n : Bool} {x y : Int} (h : sg n x = sg n y) : x = y := by
  cases n
  · exact h
  · have h' : -x = -y := h; omega
theorem nabs_two (k : Nat) : ((2 : Int) ^ k).natAbs = 2 ^ k := by rw [Int.natAbs_pow]; rfl
theorem ncast_two (X k : Nat) : ((X * 2 ^ k : Nat) : Int) = (X : Int) * 2 ^ k := by rw [Int.natCast_mul, Int.natCast_pow]; rfl
/-- A fraction that is a float has that float. -/
theorem nr_exact {n : Bool} {xs ys : List Int} {x v : Nat} {code : Int} (h : NrT n xs ys x code) (hc : code = 0) (hv : Fi v) (e : wval n xs * 2 ^ zP = sv v * val ys) : Fi x ∧ sv x = sv v := by
  obtain ⟨h0, X, Y, s, hX, hY, hp, hm, hs, hf, hsv⟩ := nr_sv h hc
  refine ⟨hf, ?_⟩
  rw [wval_sg, hX, hY] at e
  have e1 : (sg n (X : Int) * 2 ^ zP).natAbs = X * 2 ^ zP := by
    rw [Int.natAbs_mul]
    have a1 : (sg n (X : Int)).natAbs = X := by cases n <;> simp [sg]
    have a2 : ((2 : Int) ^ zP).natAbs = 2 ^ zP := nabs_two zP
    rw [a1, a2]
  have e2 : (sv v * (Y : Int)).natAbs = rungVal (v % 9223372036854775808) * Y := by
    rw [Int.natAbs_mul, sv_abs]; rfl
  have e3 : X * 2 ^ zP = rungVal (v % 9223372036854775808) * Y := by rw [← e1, e, e2]
  rw [e3] at hm
  have e4 := hm.unique hp (mid_exact hp hv.2)
  rw [hsv, e4]
  have e5 : sg n (rungVal (v % 9223372036854775808) : Int) * (Y : Int) = sv v * (Y : Int) := by
    have e7 : (rungVal (v % 9223372036854775808) : Int) * (Y : Int) = (X : Int) * 2 ^ zP := by rw [← ncast_two, e3, Int.natCast_mul]
    rw [← e, ← sg_mul', ← sg_mul', e7]
  exact Int.eq_of_mul_eq_mul_right (by omega) e5
theorem mid_nil {Y s : Nat} (hp : 0 < Y) (h : Mid (0 * 2 ^ zP) Y s) : s = 0 := h.unique hp (mid_nought hp)
/-- The order of fractions is kept. -/
theorem nr_mono {n : Bool} {xs ys : List Int} {x : Nat} {m : Bool} {us vs : List Int} {y : Nat} {c d : Int} (h : NrT n xs ys x c) (hc : c = 0) (g : NrT m us vs y d) (hd : d = 0) (hle : wval n xs * val vs ≤ wval m us * val ys) : Fi x ∧ Fi y ∧ sv x ≤ sv y := by
  obtain ⟨_, X, Y, s, hX, hY, hp, hm, hs, hf, hsv⟩ := nr_sv h hc
  obtain ⟨_, U, V, t, hU, hV, hq, hk, ht, hg, htv⟩ := nr_sv g hd
  refine ⟨hf, hg, ?_⟩
  rw [hsv, htv]
  rw [wval_sg, wval_sg, hX, hY, hU, hV] at hle
  have mono : ∀ {a b c d : Nat}, a * b ≤ c * d → a * 2 ^ zP * b ≤ c * 2 ^ zP * d := fun {a b c d} h => by
    rw [Nat.mul_right_comm, Nat.mul_right_comm c]; exact Nat.mul_le_mul_right _ h
  cases n <;> cases m
  · have h' : (X : Int) * (V : Int) ≤ (U : Int) * (Y : Int) := hle
    have hn : X * V ≤ U * Y := by rw [← Int.ofNat_le, Int.natCast_mul, Int.natCast_mul]; exact h'
    have := rungVal_le (hm.mono hk hp hq (mono hn))
    show (rungVal s : Int) ≤ (rungVal t : Int)
    omega
  · have h' : (X : Int) * (V : Int) ≤ -(U : Int) * (Y : Int) := hle
    rw [Int.neg_mul] at h'
    have p1 : 0 ≤ (X : Int) * (V : Int) := Int.mul_nonneg (by omega) (by omega)
    have p2 : 0 ≤ (U : Int) * (Y : Int) := Int.mul_nonneg (by omega) (by omega)
    have x0 : X = 0 := by
      have : (X : Int) * (V : Int) = 0 := by omega
      rcases Int.mul_eq_zero.1 this with h | h <;> omega
    have u0 : U = 0 := by
      have : (U : Int) * (Y : Int) = 0 := by omega
      rcases Int.mul_eq_zero.1 this with h | h <;> omega
    subst x0; subst u0
    rw [mid_nil hp hm, mid_nil hq hk]
    decide
  · show -(rungVal s : Int) ≤ (rungVal t : Int)
    omega
  · have h' : -(X : Int) * (V : Int) ≤ -(U : Int) * (Y : Int) := hle
    rw [Int.neg_mul, Int.neg_mul] at h'
    have hn : U * Y ≤ X * V := by rw [← Int.ofNat_le, Int.natCast_mul, Int.natCast_mul]; omega
    have := rungVal_le (hk.mono hm hq hp (mono hn))
    show -(rungVal s : Int) ≤ -(rungVal t : Int)
    omega

/-- The order of finite floats is that of their numbers. -/
theorem ocmp_scale (u v : Int) {p : Nat} (hp : 0 < p) : compare (u * (p : Int)) (v * (p : Int)) = compare u v := by
  have hp' : (0 : Int) < (p : Int) := by omega
  rcases Int.lt_trichotomy u v with h | rfl | h
  · rw [Int.compare_eq_lt.2 h, Int.compare_eq_lt.2 (Int.mul_lt_mul_of_pos_right h hp')]
  · simp
  · rw [Int.compare_eq_gt.2 h, Int.compare_eq_gt.2 (Int.mul_lt_mul_of_pos_right h hp')]
theorem ordsv {x y : Nat} (hx : Fi x) (hy : Fi y) : FloatKind.f64.format.order x y = some (compare (sv x) (sv y)) := by
  show (Ieee.double.read x).order (Ieee.double.read y) = _
  obtain ⟨m, a, e1, v1⟩ := read_num hx.2
  obtain ⟨n, b, e2, v2⟩ := read_num hy.2
  generalize hs : (x / 9223372036854775808 % 2 == 1) = s at e1
  generalize ht : (y / 9223372036854775808 % 2 == 1) = t at e2
  have t1 : (-1074 + (a : Int) - min (-1074 + (a : Int)) (-1074 + (b : Int))).toNat = a - min a b := by omega
  have t2 : (-1074 + (b : Int) - min (-1074 + (a : Int)) (-1074 + (b : Int))).toNat = b - min a b := by omega
  rw [e1, e2]
  simp only [Ieee.Datum.order, t1, t2]
  rw [← ocmp_scale _ _ (Nat.two_pow_pos (min a b)), signed_pow s m a _ (Nat.min_le_left ..), signed_pow t n b _ (Nat.min_le_right ..), v1, v2, sv_sign hs, sv_sign ht]
theorem RN.only {A : Int} {D v : Nat} (h : RN A 1 D) (f : Fi v) (e : A = sv v) : sv D = A ∧ Fi D := by
  obtain ⟨neg, s, rfl, n1, n2, m⟩ := h
  have hv := sv_abs v
  rw [← e] at hv
  have h1 := m.le (by decide) (r := v % 9223372036854775808) (by rw [← hv]; omega)
  have h2 := m.ge (by decide) (r := v % 9223372036854775808) (by have := f.2; omega) (by rw [← hv]; omega)
  have hs : s = v % 9223372036854775808 := by omega
  subst hs
  refine ⟨?_, word_fi _ f.2⟩
  rw [sv_word _ _ (by have := f.2; omega), ← hv]
  cases neg
  · simp only [Bool.false_eq_true, if_false]
    by_cases hz : A < 0
    · cases n1 hz
    · omega
  · simp only [if_true]
    by_cases hz : 0 < A
    · cases n2 hz
    · omega

theorem ord_gt {x y : Nat} (hx : Fi x) (hy : Fi y) : (FloatKind.f64.format.order x y == some .gt) = decide (sv y < sv x) := by
  rw [ordsv hx hy]
  rcases Int.lt_trichotomy (sv x) (sv y) with h | h | h
  · rw [show compare (sv x) (sv y) = .lt from Int.compare_eq_lt.2 h, decide_eq_false (by omega)]; rfl
  · rw [show compare (sv x) (sv y) = .eq from Int.compare_eq_eq.2 h, decide_eq_false (by omega)]; rfl
  · rw [show compare (sv x) (sv y) = .gt from Int.compare_eq_gt.2 h, decide_eq_true h]; rfl
theorem ord_lt {x y : Nat} (hx : Fi x) (hy : Fi y) : (FloatKind.f64.format.order x y == some .lt) = decide (sv x < sv y) := by
  rw [ordsv hx hy]
  rcases Int.lt_trichotomy (sv x) (sv y) with h | h | h
  · rw [show compare (sv x) (sv y) = .lt from Int.compare_eq_lt.2 h, decide_eq_true h]; rfl
  · rw [show compare (sv x) (sv y) = .eq from Int.compare_eq_eq.2 h, decide_eq_false (by omega)]; rfl
  · rw [show compare (sv x) (sv y) = .gt from Int.compare_eq_gt.2 h, decide_eq_false (by omega)]; rfl
theorem ord_eq {x y : Nat} (hx : Fi x) (hy : Fi y) : (FloatKind.f64.format.order x y == some .eq) = decide (sv x = sv y) := by
  rw [ordsv hx hy]
  rcases Int.lt_trichotomy (sv x) (sv y) with h | h | h
  · rw [show compare (sv x) (sv y) = .lt from Int.compare_eq_lt.2 h, decide_eq_false (by omega)]; rfl
  · rw [show compare (sv x) (sv y) = .eq from Int.compare_eq_eq.2 h, decide_eq_true h]; rfl
  · rw [show compare (sv x) (sv y) = .gt from Int.compare_eq_gt.2 h, decide_eq_false (by omega)]; rfl
/-- Of what is not finite: never between two finite ones. -/
theorem ord_between {a m b : Nat} (ha : Fi a) (hb : Fi b) (hm : m < 18446744073709551616) (hno : ∀ c, Fi c → ¬ (sv a < sv c ∧ sv c < sv b)) : ((FloatKind.f64.format.order m a == some .gt) && (FloatKind.f64.format.order m b == some .lt)) = false := by
  by_cases hf : Fi m
  · rw [ord_gt hf ha, ord_lt hf hb]
    by_cases h1 : sv a < sv m
    · by_cases h2 : sv m < sv b
      · exact absurd ⟨h1, h2⟩ (hno m hf)
      · rw [decide_eq_false h2, Bool.and_false]
    · rw [decide_eq_false h1, Bool.false_and]
  · by_cases hn : isnan m = true
    · rw [order_nan_l hn]; rfl
    · have hi : m = 9218868437227405312 ∨ m = 18442240474082181120 := by
        have : ¬ 9218868437227405312 < m % 9223372036854775808 := fun h => hn ((isnan_iff m).2 h)
        have h2 : ¬ m % 9223372036854775808 < 9218868437227405312 := fun h => hf ⟨hm, h⟩
        omega
      obtain ⟨k, p, ea, _⟩ := read_num ha.2
      obtain ⟨l, q, eb, _⟩ := read_num hb.2
      rcases hi with rfl | rfl
      · have e : Ieee.double.read 9218868437227405312 = .infinity false := by decide
        have : FloatKind.f64.format.order 9218868437227405312 b = some .gt := by
          show (Ieee.double.read 9218868437227405312).order (Ieee.double.read b) = _
          rw [e, eb]; rfl
        rw [this]; simp
      · have e : Ieee.double.read 18442240474082181120 = .infinity true := by decide
        have : FloatKind.f64.format.order 18442240474082181120 a = some .lt := by
          show (Ieee.double.read 18442240474082181120).order (Ieee.double.read a) = _
          rw [e, ea]; rfl
        rw [this]; rfl
/-- What Next tells. -/
def nxt (x : Nat) : Nat × Int := if fin x then (if x = 9218868437227405311 then (0, 9) else if 9223372036854775808 < x then ((if x = 9223372036854775809 then 0 else x - 1), 0) else (x % 9223372036854775808 + 1, 0)) else (0, 8)
theorem fi_fin {x : Nat} (h : x < 18446744073709551616) : fin x = true ↔ Fi x := ⟨fun g => ⟨h, (fin_iff x).1 g⟩, fun g => (fin_iff x).2 g.2⟩
theorem sv_at {x : Nat} (h : x < 18446744073709551616) : (x < 9223372036854775808 ∧ sv x = (rungVal x : Int)) ∨ (∃ t, x = 9223372036854775808 + t ∧ t < 9223372036854775808 ∧ sv x = -(rungVal t : Int)) := by
  rcases Nat.lt_or_ge x 9223372036854775808 with g | g
  · exact .inl ⟨g, sv_low g⟩
  · exact .inr ⟨x - 9223372036854775808, by omega, by omega, by
      have e := sv_high (x := x - 9223372036854775808) (by omega)
      rw [show 9223372036854775808 + (x - 9223372036854775808) = x by omega] at e
      exact e⟩
/-- The next float: above, and none between. -/
theorem nxt_next {x y : Nat} (hx : Fi x) (h : nxt x = (y, 0)) : Fi y ∧ sv x < sv y ∧ ∀ c, Fi c → ¬ (sv x < sv c ∧ sv c < sv y) := by
  unfold nxt at h
  rw [if_pos ((fi_fin hx.1).2 hx)] at h
  by_cases hm : x = 9218868437227405311
  · rw [if_pos hm] at h; simp at h
  rw [if_neg hm] at h
  have hx2 := hx.2
  have hx1 := hx.1
  by_cases hn : 9223372036854775808 < x
  · rw [if_pos hn] at h
    have hy : y = if x = 9223372036854775809 then 0 else x - 1 := by simpa using h.symm
    obtain ⟨s, rfl⟩ : ∃ s, x = 9223372036854775808 + (s + 1) := ⟨x - 9223372036854775809, by omega⟩
    have hs : s + 1 < 9218868437227405312 := by omega
    have ey : Fi y ∧ sv y = -(rungVal s : Int) := by
      by_cases h1 : s = 0
      · subst h1
        rw [if_pos rfl] at hy
        rw [hy]; exact ⟨⟨by decide, by decide⟩, by decide⟩
      · rw [if_neg (by omega)] at hy
        rw [hy, show 9223372036854775808 + (s + 1) - 1 = 9223372036854775808 + s by omega, sv_high (by omega)]
        exact ⟨⟨by omega, by omega⟩, rfl⟩
    have ex : sv (9223372036854775808 + (s + 1)) = -(rungVal (s + 1) : Int) := sv_high (by omega)
    have hl : rungVal s < rungVal (s + 1) := rungVal_lt (by omega)
    rw [ex, ey.2]
    refine ⟨ey.1, by omega, fun c hc hcc => ?_⟩
    rcases sv_at hc.1 with ⟨_, e⟩ | ⟨t, _, _, e⟩
    · rw [e] at hcc; omega
    · rw [e] at hcc
      rcases Nat.lt_or_ge t (s + 1) with g | g
      · have := rungVal_le (r := t) (s := s) (by omega); omega
      · have := rungVal_le g; omega
  · rw [if_neg hn] at h
    have hy : y = x % 9223372036854775808 + 1 := by simpa using h.symm
    have ex : sv x = (rungVal (x % 9223372036854775808) : Int) := by
      rcases sv_at hx.1 with ⟨g, e⟩ | ⟨t, g, _, e⟩
      · rw [e, Nat.mod_eq_of_lt g]
      · have : t = 0 := by omega
        subst this
        rw [e, g]
        decide
    have hs : x % 9223372036854775808 + 1 < 9218868437227405312 := by omega
    generalize x % 9223372036854775808 = s at *
    have hl : rungVal s < rungVal (s + 1) := rungVal_lt (by omega)
    have ey : Fi y ∧ sv y = (rungVal (s + 1) : Int) := by
      rw [hy, sv_low (by omega)]; exact ⟨⟨by omega, by omega⟩, rfl⟩
    rw [ex, ey.2]
    refine ⟨ey.1, by omega, fun c hc hcc => ?_⟩
    rcases sv_at hc.1 with ⟨_, e⟩ | ⟨t, _, _, e⟩
    · rw [e] at hcc
      rcases Nat.lt_or_ge c (s + 1) with g | g
      · have := rungVal_le (r := c) (s := s) (by omega); omega
      · have := rungVal_le g; omega
    · rw [e] at hcc; omega

end Go.Proofs.YtggmdocpfkkclaaDoor

/- real.Exact of finite floats beside their numbers; real.Next; whether a float lies between two. -/
namespace Go.Proofs.YtggmdocpfkkclaaDoor
open Go.RowKit
set_option linter.unusedVariables false

theorem rtells_ok {q : Rat} {n : Bool} {xs ys : List Int} (h : RTells 0 q n xs ys 0) : rchk n xs ys = 0 ∧ rq n xs ys = q := by
  by_cases hl : rlong q
  · exact absurd (h.long rfl hl).2.2.2 (by decide)
  · exact (h.good rfl hl).2
theorem rung_count (x : Nat) : rungVal (x % 9223372036854775808) = fcount x * 2 ^ (funit x + 1074).toNat := by
  unfold rungVal fcount funit
  by_cases h : x / 4503599627370496 % 2048 = 0
  · rw [if_pos h, if_pos h, if_pos (by omega), show ((-1074 : Int) + 1074).toNat = 0 by decide, Nat.pow_zero]
    omega
  · rw [if_neg h, if_neg h, if_neg (by omega)]
    have e1 : x % 9223372036854775808 % 4503599627370496 = x % 4503599627370496 := by omega
    have e2 : x % 9223372036854775808 / 4503599627370496 - 1 = (-1074 + ((x / 4503599627370496 % 2048 : Nat) : Int) - 1 + 1074).toNat := by omega
    rw [e1, e2]
theorem sv_sg {x : Nat} (h : x < 18446744073709551616) : sv x = sg (x / 9223372036854775808 == 1) (rungVal (x % 9223372036854775808) : Int) := by
  rcases sv_at h with ⟨g, e⟩ | ⟨t, g, g2, e⟩
  · rw [e, Nat.mod_eq_of_lt g, Nat.div_eq_of_lt g]; rfl
  · subst g
    rw [e, show (9223372036854775808 + t) / 9223372036854775808 = 1 by omega, show (9223372036854775808 + t) % 9223372036854775808 = t by omega]
    rfl
theorem pow_units (u : Int) (h : -1074 ≤ u) (Z : Nat) (hZ : Z = 1074) : (2 : Int) ^ u.toNat * 2 ^ Z = 2 ^ (u + 1074).toNat * 2 ^ (-u).toNat := by
  rw [← Int.pow_add, ← Int.pow_add, show u.toNat + Z = (u + 1074).toNat + (-u).toNat by omega]
/-- The fraction that a finite float is, beside its number. -/
def ExT (x : Nat) (n : Bool) (xs ys : List Int) : Prop := rchk n xs ys = 0 ∧ wval n xs * 2 ^ zP = sv x * val ys ∧ rq n xs ys = fq x
theorem ext_arith {w v s m P U Z D W : Int} (h : w * D = s * (m * P) * v) (hu : P * Z = U * D) (hD : 0 < D) : w * Z = s * (m * U) * v := by
  have e : w * Z * D = s * (m * U) * v * D := by
    have e1 : w * Z * D = (w * D) * Z := by grind
    have e2 : s * (m * U) * v * D = s * m * v * (U * D) := by grind
    rw [e1, h, e2, ← hu]
    grind
  exact Int.eq_of_mul_eq_mul_right (by omega) e
theorem sg_one (n : Bool) (t : Int) : sg n t = (if n then -1 else 1) * t := by cases n <;> simp [sg]
theorem ext_of {x : Nat} {n : Bool} {xs ys : List Int} (hx : x < 18446744073709551616) (wy : Wd ys) (h : RTells 0 (fq x) n xs ys 0) : ExT x n xs ys := by
  obtain ⟨h0, hq⟩ := rtells_ok h
  refine ⟨h0, ?_, hq⟩
  obtain ⟨_, _, _, ty, hy0, _, _⟩ := rchk_ok h0
  have hY : 0 < val ys := by
    have e : 0 < sz ys := by rw [show sz ys = ys.length from ty]; exact hy0
    have h := (bits_bounds wy e).2.1
    have := two_pos (bitsOf ys - 1)
    omega
  have hu := funit_le x
  have hD := two_pos (-(funit x)).toNat
  have e := hq
  unfold rq fq at e
  rw [Rat.divInt_eq_divInt_iff (by omega) (by omega)] at e
  have hP := pow_units (funit x) hu.1 zP rfl
  rw [sg_one] at e
  have hc : ((rungVal (x % 9223372036854775808) : Nat) : Int) = (fcount x : Int) * 2 ^ (funit x + 1074).toNat := by
    rw [rung_count]; exact ncast_two _ _
  rw [sv_sg hx, sg_one, hc]
  exact ext_arith (W := 0) e hP hD

set_option maxHeartbeats 400000 in
set_option maxRecDepth 100000 in
theorem exact_fin (x : Nat) (w : World) (hx : Fi x) (hT : TabB w) :
    Calls Tryd.prog 28 #[.float .f64 x] w fun e w' => ∃ n a ca b cb xs ys, e = .returned (.tuple #[.agg #[.bool n, .slice a (List.length xs) ca, .slice b (List.length ys) cb], .int .i64 0]) ∧ w'.ownsRow w.heap.size 53 1 (.slice a xs.length ca) xs.length (xs.map (Value.int .u32)) ∧ w'.ownsRow w.heap.size 53 1 (.slice b ys.length cb) ys.length (ys.map (Value.int .u32)) ∧ Wd xs ∧ Wd ys ∧ ExT x n xs ys ∧ Below w.heap.size w w' := by
  have hf := (fi_fin hx.1).2 hx
  by_cases h0 : fcount x = 0
  · refine Calls.mono (exact_zero x w hx.1 hf h0) ?_
    rintro e w' ⟨g, rfl, o, hb⟩
    exact ⟨false, none, 0, some ⟨g, 0, none⟩, 1, [], [1], rfl, World.ownsRow_nil _ _ _ _, o, Wd.nil, Wd.one (by omega), ext_of hx.1 (Wd.one (by omega)) (zero_good h0), hb⟩
  · refine Calls.mono (exact_nz x w hx.1 hf h0 hT) ?_
    rintro e w' ⟨a, ca, b, cb, zs, ds, rfl, o, vz, vd, hb⟩
    exact ⟨_, a, ca, b, cb, zs, ds, rfl, o.1, o.2.1, o.2.2.1, o.2.2.2.2.1, ext_of hx.1 o.2.2.2.2.1 (frac_good h0 o.2.2.1 o.2.2.2.1 o.2.2.2.2.1 o.2.2.2.2.2.1 vz vd), hb⟩

theorem sub_zero_from {s : Nat} (h : s < 9218868437227405312) : floatBits .sub .f64 0 s = some (if s = 0 then 0 else 9223372036854775808 + s) := by
  by_cases h0 : s = 0
  · subst h0; decide +kernel
  · rw [if_neg h0]
    have hs : Fi s := ⟨by omega, by omega⟩
    have f0 : Fi 0 := ⟨by decide, by decide⟩
    have e : floatBits .sub .f64 0 s = floatBits .add .f64 0 (fopp s) := by
      show (((Ieee.double.read 0).sum (Ieee.double.read s).opposite).map Ieee.double.write) = (((Ieee.double.read 0).sum (Ieee.double.read (fopp s))).map Ieee.double.write)
      rw [read_fopp (by omega)]
    obtain ⟨r, hr⟩ := add_some (x := 0) (y := fopp s) (by decide) ((fi_fin hs.opp.1).2 hs.opp)
    rw [e, hr]
    have rn := sub_rn f0 hs (FN.some (by rw [e, hr]))
    have hv : sv (9223372036854775808 + s) = -(rungVal s : Int) := sv_high (by omega)
    have hz : sv 0 = 0 := by decide
    have hl : sv s = (rungVal s : Int) := sv_low (by omega)
    obtain ⟨h1, h2⟩ := rn.only (v := 9223372036854775808 + s) ⟨by omega, by omega⟩ (by rw [hv, hz, hl]; omega)
    have hp : 0 < rungVal s := by
      rcases Nat.eq_zero_or_pos (rungVal s) with g | g
      · exact absurd (rungVal_zero.1 g) h0
      · exact g
    rw [hz, hl] at h1
    rcases sv_at h2.1 with ⟨_, e2⟩ | ⟨t, rfl, _, e2⟩
    · rw [e2] at h1; omega
    · rw [e2] at h1
      have : t = s := by
        rcases Nat.lt_trichotomy t s with g | g | g
        · have := rungVal_lt g; omega
        · exact g
        · have := rungVal_lt g; omega
      rw [this]

end Go.Proofs.YtggmdocpfkkclaaDoor

/- parts.Exact, of numbers whose parts are finite and not 0. -/
namespace Go.Proofs.YtggmdocpfkkclaaDoor
open Go.RowKit
set_option linter.unusedVariables false

def put6 (W : World) (b : Nat) (v0 v1 v2 v3 v4 v5 : Value) : World := (((((W.setCell ⟨b, 0, none⟩ v0).setCell ⟨b, 1, none⟩ v1).setCell ⟨b, 2, none⟩ v2).setCell ⟨b, 3, none⟩ v3).setCell ⟨b, 4, none⟩ v4).setCell ⟨b, 5, none⟩ v5
theorem own_put6 {W : World} {base e n b t : Nat} {v : Value} {xs : List Value} {vs : Array Value} (h : W.ownsRow base e 1 v n xs) (hb : Box W b t vs) (hne : e ≠ t) (v0 v1 v2 v3 v4 v5 : Value) : (put6 W b v0 v1 v2 v3 v4 v5).ownsRow base e 1 v n xs := by
  have k := own_ne_box h hb hne
  exact own_put1 (own_put1 (own_put1 (own_put1 (own_put1 (own_put1 h b k 0 v0) b k 1 v1) b k 2 v2) b k 3 v3) b k 4 v4) b k 5 v5
theorem OwnR.put6 {w : World} {base p t : Nat} {a : Option Addr} {ca : Nat} {zs : List Int} {b : Option Addr} {cb : Nat} {ds : List Int} {vs : Array Value} (h : OwnR w base a ca zs b cb ds) (hb : Box w p t vs) (hne : 53 ≠ t) (v0 v1 v2 v3 v4 v5 : Value) : OwnR (Go.Proofs.YtggmdocpfkkclaaDoor.put6 w p v0 v1 v2 v3 v4 v5) base a ca zs b cb ds :=
  ⟨own_put6 h.1 hb hne _ _ _ _ _ _, own_put6 h.2.1 hb hne _ _ _ _ _ _, h.2.2⟩
theorem below_put6 {B : Nat} {w V : World} {p : Nat} (h : Below B w V) (hp : B ≤ p) (v0 v1 v2 v3 v4 v5 : Value) : Below B w (put6 V p v0 v1 v2 v3 v4 v5) :=
  (((((h.setCell (p := ⟨p, 0, none⟩) hp v0).setCell (p := ⟨p, 1, none⟩) hp v1).setCell (p := ⟨p, 2, none⟩) hp v2).setCell (p := ⟨p, 3, none⟩) hp v3).setCell (p := ⟨p, 4, none⟩) hp v4).setCell (p := ⟨p, 5, none⟩) hp v5

set_option maxHeartbeats 400000 in
set_option maxRecDepth 100000 in
theorem pexact_nz (x y : Nat) (w : World) (hx : x < 18446744073709551616) (hy : y < 18446744073709551616) (hfx : fin x = true) (hfy : fin y = true) (h0 : fcount x ≠ 0) (h1 : fcount y ≠ 0) (hT : TabB w) :
    Calls Tryd.prog 7 #[.complex .f64 x y] w fun e w' => ∃ a ca b cb zs ds a' ca' b' cb' zs' ds', e = .returned (.tuple #[.agg #[.bool (x / 9223372036854775808 == 1), .slice a zs.length ca, .slice b ds.length cb, .bool (y / 9223372036854775808 == 1), .slice a' zs'.length ca', .slice b' ds'.length cb'], .int .i64 0]) ∧ OwnR w' w.heap.size a ca zs b cb ds ∧ OwnR w' w.heap.size a' ca' zs' b' cb' ds' ∧ val zs = fnum x ∧ val ds = fden x ∧ val zs' = fnum y ∧ val ds' = fden y ∧ Below w.heap.size w w' := by
  have HX := hid (fun V hV => exact_nz x V hx hfx h0 hV)
  have HY := hid (fun V hV => exact_nz y V hy hfy h1 hV)
  generalize (x / 9223372036854775808 == 1) = s at *
  generalize (y / 9223372036854775808 == 1) = t at *
  have HG := hid (Box.made w 29 #[.bool false, .slice none 0 0, .slice none 0 0, .bool false, .slice none 0 0, .slice none 0 0])
  have HB := hid (alloc_later w (.cells #[.bool false, .slice none 0 0, .slice none 0 0, .bool false, .slice none 0 0, .slice none 0 0] 29))
  have HT := hid (hT.later HB.out)
  clear hT hx hy hfx hfy h0 h1
  go_enter Tryd.func7, Tryd.ntmps7
  go_wp2_with fail
  generalize w.alloc (.cells #[.bool false, .slice none 0 0, .slice none 0 0, .bool false, .slice none 0 0, .slice none 0 0] 29) = X at *
  refine Calls.mono (HX.out _ HT.out) ?_
  rintro e w1 ⟨a, ca, b, cb, zs, ds, rfl, ho, hz, hd, hb⟩
  have HB1 := hid hb
  have HO1 := hid ho
  have HV1 := hid (And.intro hz hd)
  have HR := hid (Box.made w1 27 #[.bool s, .slice a zs.length ca, .slice b ds.length cb])
  have HBA := hid (alloc_later w1 (.cells #[.bool s, .slice a zs.length ca, .slice b ds.length cb] 27))
  have HT1 := hid ((HT.out.later hb).later HBA.out)
  clear ho hz hd hb HX
  go_wp2_with fail
  generalize w1.alloc (.cells #[.bool s, .slice a zs.length ca, .slice b ds.length cb] 27) = X1 at *
  refine Calls.mono (HY.out _ HT1.out) ?_
  rintro e w2 ⟨a', ca', b', cb', zs', ds', rfl, ho, hz, hd, hb⟩
  have HB2 := hid hb
  have HO2 := hid ho
  have HV2 := hid (And.intro hz hd)
  have hre := HR.out.later hb HR.out.lt
  have HRE := hid hre
  have hg := HG.out.later (bt HB1.out (bt HBA.out hb)) HG.out.lt
  have HGX := hid hg
  have n1 : w.heap.size ≠ w2.heap.size := by have := hg.lt; omega
  have n2 : w1.heap.size ≠ w2.heap.size := by have := hre.lt; omega
  have n3 := hg.lt
  have n4 := hre.lt
  clear ho hz hd hb HY hre hg HT HT1
  have HBD : ∀ V, (Instr.build 29 #[(0, .agg #[.bool s, .slice a zs.length ca, .slice b ds.length cb]), (1, .agg #[.bool t, .slice a' zs'.length ca', .slice b' ds'.length cb'])]).run Tryd.prog V = .ok (.agg #[.bool s, .slice a zs.length ca, .slice b ds.length cb, .bool t, .slice a' zs'.length ca', .slice b' ds'.length cb']) V := fun V => run_build V _ _ _ (by kernel_rfl)
  have HBA2 := hid (alloc_later w2 (.cells #[.bool t, .slice a' zs'.length ca', .slice b' ds'.length cb'] 27))
  have HI := hid (Box.made w2 27 #[.bool t, .slice a' zs'.length ca', .slice b' ds'.length cb'])
  have HGA := hid (HGX.out.later HBA2.out HGX.out.lt)
  have HRA := hid (HRE.out.later HBA2.out HRE.out.lt)
  obtain ⟨W3, hW3⟩ : ∃ W3, w2.alloc (.cells #[.bool t, .slice a' zs'.length ca', .slice b' ds'.length cb'] 27) = W3 := ⟨_, rfl⟩
  rw [hW3] at HBA2 HI HGA HRA
  have g0 : W3.cell? ⟨w.heap.size, 0, none⟩ = some (.bool false) := HGA.out.cell 0
  have g1 : W3.cell? ⟨w.heap.size, 1, none⟩ = some (.slice none 0 0) := HGA.out.cell 1
  have g2 : W3.cell? ⟨w.heap.size, 2, none⟩ = some (.slice none 0 0) := HGA.out.cell 2
  have g3 : W3.cell? ⟨w.heap.size, 3, none⟩ = some (.bool false) := HGA.out.cell 3
  have g4 : W3.cell? ⟨w.heap.size, 4, none⟩ = some (.slice none 0 0) := HGA.out.cell 4
  have g5 : W3.cell? ⟨w.heap.size, 5, none⟩ = some (.slice none 0 0) := HGA.out.cell 5
  have f0 := HGA.out.free 0
  have f1 := HGA.out.free 1
  have f2 := HGA.out.free 2
  have f3 := HGA.out.free 3
  have f4 := HGA.out.free 4
  have f5 := HGA.out.free 5
  obtain ⟨r0, r1, r2, _, _, _⟩ := res_box3 HRA.out (Below.refl _ _)
  obtain ⟨i0, i1, i2, _, _, _⟩ := res_box3 HI.out (Below.refl _ _)
  clear n1 n2 n3 n4 HBD
  have e1 : X.heap.size ≤ w1.heap.size := HB1.out.size
  have e2 : w1.heap.size ≤ X1.heap.size := HBA.out.size
  have HE := hid (And.intro e1 e2)
  clear e1 e2
  go_wp2_with fail
  refine bodyPost_ret (v := .tuple #[.agg #[.bool s, .slice a zs.length ca, .slice b ds.length cb, .bool t, .slice a' zs'.length ca', .slice b' ds'.length cb'], .int .i64 0]) (by simp [results, Tryd.results7, go_sem, g0, g1, g2, g3, g4, g5]) rfl ?_
  have h1 := (((HO1.out.later HBA.out).later HB2.out).later HBA2.out).put6 HGA.out (by decide) (.bool s) (.slice a zs.length ca) (.slice b ds.length cb) (.bool t) (.slice a' zs'.length ca') (.slice b' ds'.length cb')
  have h2 := (HO2.out.later HBA2.out).put6 HGA.out (by decide) (.bool s) (.slice a zs.length ca) (.slice b ds.length cb) (.bool t) (.slice a' zs'.length ca') (.slice b' ds'.length cb')
  exact ⟨a, ca, b, cb, zs, ds, a', ca', b', cb', zs', ds', rfl, h1.base HB.out.size, h2.base (Nat.le_trans HB.out.size (Nat.le_trans HE.out.1 HE.out.2)), HV1.out.1, HV1.out.2, HV2.out.1, HV2.out.2, below_put6 (bt HB.out (bt HB1.out (bt HBA.out (bt HB2.out HBA2.out)))) (Nat.le_refl _) _ _ _ _ _ _⟩

end Go.Proofs.YtggmdocpfkkclaaDoor

/- Complex fractions: gauss.Check; the steps' own: look, next. -/
namespace Go.Proofs.YtggmdocpfkkclaaDoor
open Go.RowKit
set_option linter.unusedVariables false

/-- The first error, else the second. -/
def fstE (E e : Int) : Int := if E = 0 then e else E
theorem fstE_zero (e : Int) : fstE 0 e = e := if_pos rfl
theorem fstE_err {E : Int} (e : Int) (h : E ≠ 0) : fstE E e = E := if_neg h
theorem grow_trans {a b c : World} {row : Option Nat} (h : a.grownBy b row) (g : b.grownBy c row) : a.grownBy c row :=
  ⟨g.os.trans h.os, g.tape.trans h.tape, g.output.trans h.output, Nat.le_trans h.size g.size, fun k hk hne => (g.block k (Nat.lt_of_lt_of_le hk h.size) hne).trans (h.block k hk hne)⟩
theorem grow_below {a b : World} (h : Below a.heap.size a b) (row : Option Nat) : a.grownBy b row := ⟨h.os, h.tape, h.output, h.size, fun k hk _ => h.block k hk⟩
theorem grow_set (w : World) (b j : Nat) (v : Value) : w.grownBy (w.setCell ⟨b, j, none⟩ v) (some b) := ⟨rfl, rfl, rfl, by simp [World.setCell], fun k _ hne => Below.heap_setCell _ _ _ _ (fun e => hne (by rw [e]))⟩
theorem Box.kept' {W W' : World} {row : Option Nat} {b t : Nat} {vs : Array Value} (h : Box W b t vs) (hg : W.grownBy W' row) (hne : some b ≠ row) : Box W' b t vs := (hg.block b h.lt hne).trans h

/-- What Check tells of two parts. -/
def gchk (n : Bool) (xs ys : List Int) (m : Bool) (us vs : List Int) : Int := fstE (rchk n xs ys) (rchk m us vs)

set_option maxHeartbeats 800000 in
set_option maxRecDepth 100000 in
theorem gcheck_any (n : Bool) (v : Value) (xs : List Int) (u : Value) (ys : List Int) (m : Bool) (v' : Value) (us : List Int) (u' : Value) (vs : List Int) (w : World) (h1 : Sl w v xs) (h2 : Sl w u ys) (h3 : Sl w v' us) (h4 : Sl w u' vs) :
    Calls Tryd.prog 25 #[.agg #[.bool n, v, u, .bool m, v', u']] w fun e w' => e = .returned (.int .i64 (gchk n xs ys m us vs)) ∧ Below w.heap.size w w' := by
  have HX := hid (Box.made w 29 #[.bool n, v, u, .bool m, v', u'])
  have HB := hid (alloc_later w (.cells #[.bool n, v, u, .bool m, v', u'] 29))
  have H1 : Hid (∀ V, Below w.heap.size w V → Calls Tryd.prog 40 #[.agg #[.bool n, v, u]] V fun e w' => e = .returned (.int .i64 (rchk n xs ys)) ∧ Below V.heap.size V w') := fun V hv => rcheck_any n v xs u ys V (h1.later hv) (h2.later hv)
  have H2 : Hid (∀ V, Below w.heap.size w V → Calls Tryd.prog 40 #[.agg #[.bool m, v', u']] V fun e w' => e = .returned (.int .i64 (rchk m us vs)) ∧ Below V.heap.size V w') := fun V hv => rcheck_any m v' us u' vs V (h3.later hv) (h4.later hv)
  obtain ⟨a, ca, rfl, _⟩ := h1
  obtain ⟨b, cb, rfl, _⟩ := h2
  obtain ⟨c, cc, rfl, _⟩ := h3
  obtain ⟨d, cd, rfl, _⟩ := h4
  have HF : Hid (∀ E, E = rchk n xs ys → (E = 0 → gchk n xs ys m us vs = rchk m us vs) ∧ (E ≠ 0 → gchk n xs ys m us vs = E)) := fun E hE => by
    subst hE
    exact ⟨fun h => by unfold gchk; rw [h, fstE_zero], fun h => fstE_err _ h⟩
  have HF := hid (HF.out _ rfl)
  generalize rchk n xs ys = E at *
  generalize rchk m us vs = F at *
  generalize gchk n xs ys m us vs = G at *
  go_enter Tryd.func25, Tryd.ntmps25
  go_wp2_with fail
  generalize w.alloc (.cells #[.bool n, .slice a xs.length ca, .slice b ys.length cb, .bool m, .slice c us.length cc, .slice d vs.length cd] 29) = X at *
  refine Calls.mono (H1.out _ HB.out) ?_
  rintro e w1 ⟨rfl, hb1⟩
  have HB1 := hid (bt HB.out hb1)
  have HX1 := hid (HX.out.later hb1 HX.out.lt)
  have k3 : w1.cell? ⟨w.heap.size, 3, none⟩ = some (.bool m) := HX1.out.cell 3
  have k4 : w1.cell? ⟨w.heap.size, 4, none⟩ = some (.slice c us.length cc) := HX1.out.cell 4
  have k5 : w1.cell? ⟨w.heap.size, 5, none⟩ = some (.slice d vs.length cd) := HX1.out.cell 5
  clear hb1 HX HX1 HB
  by_cases h : E = 0
  · subst h
    have HR := hid (HF.out.1 rfl)
    clear HF H1
    go_wp2_with fail
    refine Calls.mono (H2.out _ HB1.out) ?_
    rintro e w2 ⟨rfl, hb2⟩
    have HB2 := hid (bt HB1.out hb2)
    clear hb2
    go_wp2_with fail
    go_ret
    exact ⟨ret_int HR.out.symm, HB2.out⟩
  · have HR := hid (HF.out.2 h)
    have h' : (E == 0) = false := by simp [h]
    clear HF H1 H2
    go_wp2_with fail
    go_ret
    exact ⟨ret_int HR.out.symm, HB1.out⟩

theorem boxes3r (w : World) (t : Nat) (u v z : Array Value) : Box (((w.alloc (.cells u t)).alloc (.cells v t)).alloc (.cells z t)) w.heap.size t u ∧ Box (((w.alloc (.cells u t)).alloc (.cells v t)).alloc (.cells z t)) (w.heap.size + 1) t v ∧ Box (((w.alloc (.cells u t)).alloc (.cells v t)).alloc (.cells z t)) (w.heap.size + 1 + 1) t z ∧ Below w.heap.size w (((w.alloc (.cells u t)).alloc (.cells v t)).alloc (.cells z t)) := by
  have e1 : (w.alloc (.cells u t)).heap.size = w.heap.size + 1 := World.size_alloc _ _
  have e2 : ((w.alloc (.cells u t)).alloc (.cells v t)).heap.size = w.heap.size + 1 + 1 := by rw [World.size_alloc, World.size_alloc]
  have a := Box.made w t u
  have b := Box.made (w.alloc (.cells u t)) t v
  have c := Box.made ((w.alloc (.cells u t)).alloc (.cells v t)) t z
  have a2 := a.later (alloc_later (w.alloc (.cells u t)) (.cells v t)) a.lt
  exact ⟨a2.later (alloc_later _ _) a2.lt, e1 ▸ (b.later (alloc_later _ _) b.lt), e2 ▸ c, bt (alloc_later _ _) (bt (alloc_later _ _) (alloc_later _ _))⟩

theorem grow_put {a c : World} {p : Nat} (h : a.grownBy c (some p)) (b j : Nat) (v : Value) (hb : a.heap.size ≤ b ∨ b = p) : a.grownBy (c.setCell ⟨b, j, none⟩ v) (some p) :=
  ⟨h.os, h.tape, h.output, by simpa [World.setCell] using h.size, fun k hk hne => (Below.heap_setCell c ⟨b, j, none⟩ v k (fun e => by
    have e' : k = b := e
    rcases hb with hb | hb
    · omega
    · exact hne (by rw [e', hb]))).trans (h.block k hk hne)⟩
theorem grow_put3 {a c : World} {p : Nat} (h : a.grownBy c (some p)) (b : Nat) (u0 u1 u2 : Value) (hb : a.heap.size ≤ b ∨ b = p) : a.grownBy (((c.setCell ⟨b, 0, none⟩ u0).setCell ⟨b, 1, none⟩ u1).setCell ⟨b, 2, none⟩ u2) (some p) :=
  grow_put (grow_put (grow_put h b 0 u0 hb) b 1 u1 hb) b 2 u2 hb
theorem own_put3' {w : World} {base e n : Nat} {v : Value} {xs : List Value} (h : w.ownsRow base e 1 v n xs) (b : Nat) (hb : ∀ g, v.ownBlock = some g → g ≠ b) (u0 u1 u2 : Value) : (((w.setCell ⟨b, 0, none⟩ u0).setCell ⟨b, 1, none⟩ u1).setCell ⟨b, 2, none⟩ u2).ownsRow base e 1 v n xs :=
  own_put1 (own_put1 (own_put1 h b hb 0 u0) b hb 1 u1) b hb 2 u2
theorem box_put3 {U : World} {b t : Nat} {u0 u1 u2 : Value} (h : Box U b t #[u0, u1, u2]) (v0 v1 v2 : Value) : Box (((U.setCell ⟨b, 0, none⟩ v0).setCell ⟨b, 1, none⟩ v1).setCell ⟨b, 2, none⟩ v2) b t #[v0, v1, v2] := ((h.set 0 v0).set 1 v1).set 2 v2
theorem box_far3 {U : World} {b t b' : Nat} {vs : Array Value} (h : Box U b t vs) (hne : b ≠ b') (v0 v1 v2 : Value) : Box (((U.setCell ⟨b', 0, none⟩ v0).setCell ⟨b', 1, none⟩ v1).setCell ⟨b', 2, none⟩ v2) b t vs := ((h.other ⟨b', 0, none⟩ v0 hne).other ⟨b', 1, none⟩ v1 hne).other ⟨b', 2, none⟩ v2 hne

end Go.Proofs.YtggmdocpfkkclaaDoor

/- parts.Exact of every number whose parts are finite, of one that is not; parts.Nearest. -/
namespace Go.Proofs.YtggmdocpfkkclaaDoor
open Go.RowKit
set_option linter.unusedVariables false

set_option maxHeartbeats 800000 in
set_option maxRecDepth 100000 in
theorem pexact_fin (x y : Nat) (w : World) (hx : Fi x) (hy : Fi y) (hT : TabB w) :
    Calls Tryd.prog 7 #[.complex .f64 x y] w fun e w' => ∃ s a ca b cb zs ds t a' ca' b' cb' zs' ds', e = .returned (.tuple #[.agg #[.bool s, .slice a (List.length zs) ca, .slice b (List.length ds) cb, .bool t, .slice a' (List.length zs') ca', .slice b' (List.length ds') cb'], .int .i64 0]) ∧ Sl w' (.slice a zs.length ca) zs ∧ Sl w' (.slice b ds.length cb) ds ∧ Sl w' (.slice a' zs'.length ca') zs' ∧ Sl w' (.slice b' ds'.length cb') ds' ∧ ExT x s zs ds ∧ ExT y t zs' ds' ∧ Below w.heap.size w w' := by
  have HX := hid (fun V hV => exact_fin x V hx hV)
  have HY := hid (fun V hV => exact_fin y V hy hV)
  have HG := hid (Box.made w 29 #[.bool false, .slice none 0 0, .slice none 0 0, .bool false, .slice none 0 0, .slice none 0 0])
  have HB := hid (alloc_later w (.cells #[.bool false, .slice none 0 0, .slice none 0 0, .bool false, .slice none 0 0, .slice none 0 0] 29))
  have HT := hid (hT.later HB.out)
  clear hT hx hy
  go_enter Tryd.func7, Tryd.ntmps7
  go_wp2_with fail
  generalize w.alloc (.cells #[.bool false, .slice none 0 0, .slice none 0 0, .bool false, .slice none 0 0, .slice none 0 0] 29) = X at *
  refine Calls.mono (HX.out _ HT.out) ?_
  rintro e w1 ⟨s, a, ca, b, cb, zs, ds, rfl, o1, o2, hz, hd, he, hb⟩
  have HB1 := hid hb
  have HO1 := hid (And.intro o1 o2)
  have HV1 := hid (And.intro hz (And.intro hd he))
  have HR := hid (Box.made w1 27 #[.bool s, .slice a zs.length ca, .slice b ds.length cb])
  have HBA := hid (alloc_later w1 (.cells #[.bool s, .slice a zs.length ca, .slice b ds.length cb] 27))
  have HT1 := hid ((HT.out.later hb).later HBA.out)
  clear o1 o2 hz hd he hb HX
  go_wp2_with fail
  generalize w1.alloc (.cells #[.bool s, .slice a zs.length ca, .slice b ds.length cb] 27) = X1 at *
  refine Calls.mono (HY.out _ HT1.out) ?_
  rintro e w2 ⟨t, a', ca', b', cb', zs', ds', rfl, o1, o2, hz, hd, he, hb⟩
  have HB2 := hid hb
  have HO2 := hid (And.intro o1 o2)
  have HV2 := hid (And.intro hz (And.intro hd he))
  have hre := HR.out.later hb HR.out.lt
  have HRE := hid hre
  have hg := HG.out.later (bt HB1.out (bt HBA.out hb)) HG.out.lt
  have HGX := hid hg
  have n1 : w.heap.size ≠ w2.heap.size := by have := hg.lt; omega
  have n2 : w1.heap.size ≠ w2.heap.size := by have := hre.lt; omega
  have n3 := hg.lt
  have n4 := hre.lt
  clear o1 o2 hz hd he hb HY hre hg HT HT1
  have HBD : ∀ V, (Instr.build 29 #[(0, .agg #[.bool s, .slice a zs.length ca, .slice b ds.length cb]), (1, .agg #[.bool t, .slice a' zs'.length ca', .slice b' ds'.length cb'])]).run Tryd.prog V = .ok (.agg #[.bool s, .slice a zs.length ca, .slice b ds.length cb, .bool t, .slice a' zs'.length ca', .slice b' ds'.length cb']) V := fun V => run_build V _ _ _ (by kernel_rfl)
  have HBA2 := hid (alloc_later w2 (.cells #[.bool t, .slice a' zs'.length ca', .slice b' ds'.length cb'] 27))
  have HI := hid (Box.made w2 27 #[.bool t, .slice a' zs'.length ca', .slice b' ds'.length cb'])
  have HGA := hid (HGX.out.later HBA2.out HGX.out.lt)
  have HRA := hid (HRE.out.later HBA2.out HRE.out.lt)
  obtain ⟨W3, hW3⟩ : ∃ W3, w2.alloc (.cells #[.bool t, .slice a' zs'.length ca', .slice b' ds'.length cb'] 27) = W3 := ⟨_, rfl⟩
  rw [hW3] at HBA2 HI HGA HRA
  have g0 : W3.cell? ⟨w.heap.size, 0, none⟩ = some (.bool false) := HGA.out.cell 0
  have g1 : W3.cell? ⟨w.heap.size, 1, none⟩ = some (.slice none 0 0) := HGA.out.cell 1
  have g2 : W3.cell? ⟨w.heap.size, 2, none⟩ = some (.slice none 0 0) := HGA.out.cell 2
  have g3 : W3.cell? ⟨w.heap.size, 3, none⟩ = some (.bool false) := HGA.out.cell 3
  have g4 : W3.cell? ⟨w.heap.size, 4, none⟩ = some (.slice none 0 0) := HGA.out.cell 4
  have g5 : W3.cell? ⟨w.heap.size, 5, none⟩ = some (.slice none 0 0) := HGA.out.cell 5
  have f0 := HGA.out.free 0
  have f1 := HGA.out.free 1
  have f2 := HGA.out.free 2
  have f3 := HGA.out.free 3
  have f4 := HGA.out.free 4
  have f5 := HGA.out.free 5
  obtain ⟨r0, r1, r2, _, _, _⟩ := res_box3 HRA.out (Below.refl _ _)
  obtain ⟨i0, i1, i2, _, _, _⟩ := res_box3 HI.out (Below.refl _ _)
  clear n1 n2 n3 n4 HBD
  have e1 : X.heap.size ≤ w1.heap.size := HB1.out.size
  have e2 : w1.heap.size ≤ X1.heap.size := HBA.out.size
  have HE := hid (And.intro e1 e2)
  clear e1 e2
  go_wp2_with fail
  refine bodyPost_ret (v := .tuple #[.agg #[.bool s, .slice a zs.length ca, .slice b ds.length cb, .bool t, .slice a' zs'.length ca', .slice b' ds'.length cb'], .int .i64 0]) (by simp [results, Tryd.results7, go_sem, g0, g1, g2, g3, g4, g5]) rfl ?_
  have q1 := fun (v : Value) (xs : List Int) (h : w1.ownsRow X.heap.size 53 1 v xs.length (xs.map (Value.int .u32))) => owns_base (own_put6 (owns_later (owns_later (owns_later h HBA.out) HB2.out) HBA2.out) HGA.out (by decide) (.bool s) (.slice a zs.length ca) (.slice b ds.length cb) (.bool t) (.slice a' zs'.length ca') (.slice b' ds'.length cb')) HB.out.size
  have q2 := fun (v : Value) (xs : List Int) (h : w2.ownsRow X1.heap.size 53 1 v xs.length (xs.map (Value.int .u32))) => owns_base (own_put6 (owns_later h HBA2.out) HGA.out (by decide) (.bool s) (.slice a zs.length ca) (.slice b ds.length cb) (.bool t) (.slice a' zs'.length ca') (.slice b' ds'.length cb')) (Nat.le_trans HB.out.size (Nat.le_trans HE.out.1 HE.out.2))
  exact ⟨s, a, ca, b, cb, zs, ds, t, a', ca', b', cb', zs', ds', rfl, Sl.own (q1 _ _ HO1.out.1) HV1.out.1, Sl.own (q1 _ _ HO1.out.2) HV1.out.2.1, Sl.own (q2 _ _ HO2.out.1) HV2.out.1, Sl.own (q2 _ _ HO2.out.2) HV2.out.2.1, HV1.out.2.2, HV2.out.2.2, below_put6 (bt HB.out (bt HB1.out (bt HBA.out (bt HB2.out HBA2.out)))) (Nat.le_refl _) _ _ _ _ _ _⟩

end Go.Proofs.YtggmdocpfkkclaaDoor

/- No float is nearer than the nearest one, and it is at most half a gap away. Nothing here speaks of the program. -/
namespace Go.Proofs.YtggmdocpfkkclaaDoor
open Go.RowKit
set_option linter.unusedVariables false

theorem near_best_pos {A Y s : Nat} (hm : Mid A Y s) (hs : s < 9218868437227405312) (t : Nat) :
    ((rungVal s : Int) * (Y : Int) - (A : Int)).natAbs ≤ ((rungVal t : Int) * (Y : Int) - (A : Int)).natAbs := by
  have c : ∀ r : Nat, (rungVal r : Int) * (Y : Int) = ((rungVal r * Y : Nat) : Int) := fun r => (Int.natCast_mul _ _).symm
  rw [c s, c t]
  rcases Nat.lt_trichotomy t s with h | h | h
  · have d := hm.down (by omega)
    rw [Nat.add_mul] at d
    have m1 : rungVal t * Y ≤ rungVal (s - 1) * Y := Nat.mul_le_mul_right _ (rungVal_le (by omega))
    have m2 : rungVal (s - 1) * Y ≤ rungVal s * Y := Nat.mul_le_mul_right _ (rungVal_le (by omega))
    generalize rungVal t * Y = Pt at *
    generalize rungVal (s - 1) * Y = P1 at *
    generalize rungVal s * Y = P at *
    omega
  · subst h; exact Nat.le_refl _
  · have d := hm.up hs
    rw [Nat.add_mul] at d
    have m1 : rungVal (s + 1) * Y ≤ rungVal t * Y := Nat.mul_le_mul_right _ (rungVal_le (by omega))
    have m2 : rungVal s * Y ≤ rungVal (s + 1) * Y := Nat.mul_le_mul_right _ (rungVal_le (by omega))
    generalize rungVal t * Y = Pt at *
    generalize rungVal (s + 1) * Y = P1 at *
    generalize rungVal s * Y = P at *
    omega
theorem sg_natAbs (n : Bool) (t : Int) : (sg n t).natAbs = t.natAbs := by cases n <;> simp [sg]
theorem sg_sub (n : Bool) (a b : Int) : sg n a - sg n b = sg n (a - b) := by cases n <;> simp [sg]; omega
theorem wval_pow {n : Bool} {xs : List Int} {X : Nat} (hX : val xs = X) (k : Nat) : wval n xs * 2 ^ k = sg n ((X * 2 ^ k : Nat) : Int) := by
  rw [wval_sg, hX, ← sg_mul', ncast_two]
theorem best_a {P T A : Int} (h0 : (P - A).natAbs ≤ (0 - A).natAbs) (hA : 0 ≤ A) (hT : 0 ≤ T) : (P - A).natAbs ≤ (-T - A).natAbs := by omega
theorem best_b {P T A : Int} (h0 : (P - A).natAbs ≤ (0 - A).natAbs) (hA : 0 ≤ A) (hT : 0 ≤ T) : (P - A).natAbs ≤ (T - -A).natAbs := by omega
theorem best_c {P T A : Int} (h0 : (P - A).natAbs ≤ (T - A).natAbs) : (P - A).natAbs ≤ (-T - -A).natAbs := by omega
theorem sg_f (t : Int) : sg false t = t := rfl
theorem sg_t (t : Int) : sg true t = -t := rfl
theorem sv_pm {y : Nat} (hy : y < 18446744073709551616) : sv y = (rungVal (y % 9223372036854775808) : Int) ∨ sv y = -(rungVal (y % 9223372036854775808) : Int) := by
  rw [sv_sg hy]
  cases (y / 9223372036854775808 == 1)
  · exact .inl (sg_f _)
  · exact .inr (sg_t _)
theorem rung_none : rungVal 0 = 0 := rungVal_zero.2 rfl
theorem near_best_sg {n : Bool} {A Y s t : Nat} {z : Int} (hm : Mid A Y s) (hs : s < 9218868437227405312) (hz : z = (rungVal t : Int) ∨ z = -(rungVal t : Int)) :
    (sg n (rungVal s : Int) * (Y : Int) - sg n (A : Int)).natAbs ≤ (z * (Y : Int) - sg n (A : Int)).natAbs := by
  rw [← sg_mul', sg_sub, sg_natAbs]
  have h0 := near_best_pos hm hs 0
  have ht := near_best_pos hm hs t
  rw [rung_none, Int.natCast_zero, Int.zero_mul] at h0
  have hn : 0 ≤ (rungVal t : Int) * (Y : Int) := Int.mul_nonneg (Int.natCast_nonneg _) (Int.natCast_nonneg _)
  have hA : 0 ≤ (A : Int) := Int.natCast_nonneg _
  cases n
  · rw [sg_f]
    rcases hz with e | e
    · rw [e]; exact ht
    · rw [e, Int.neg_mul]; exact best_a h0 hA hn
  · rw [sg_t]
    rcases hz with e | e
    · rw [e]; exact best_b h0 hA hn
    · rw [e, Int.neg_mul]; exact best_c ht
/-- Nothing is nearer. -/
theorem near_best {n : Bool} {xs ys : List Int} {x : Nat} {code : Int} (h : NrT n xs ys x code) (hc : code = 0) (y : Nat) (hy : Fi y) :
    (sv x * val ys - wval n xs * 2 ^ zP).natAbs ≤ (sv y * val ys - wval n xs * 2 ^ zP).natAbs := by
  obtain ⟨_, X, Y, s, hX, hY, hp, hm, hs, hf, hsv⟩ := nr_sv h hc
  rw [hsv, hY, wval_pow hX]
  exact near_best_sg hm hs (sv_pm hy.1)
theorem rung_gap (s : Nat) : rungVal (s + 1) = rungVal s + 2 ^ (s / 4503599627370496 - 1) := by
  rcases Nat.lt_or_ge s 4503599627370496 with h | h
  · have e1 : s / 4503599627370496 - 1 = 0 := by omega
    have a := rungVal_count (E := 0) (K := s) (by omega) (fun g => by omega)
    have b := rungVal_count (E := 0) (K := s + 1) (by omega) (fun g => by omega)
    rw [Nat.zero_mul, Nat.zero_add, Nat.pow_zero, Nat.mul_one] at a b
    rw [e1, a, b]
  · have a := rungVal_count (E := s / 4503599627370496 - 1) (K := 4503599627370496 + s % 4503599627370496) (by omega) (fun g => by omega)
    have b := rungVal_count (E := s / 4503599627370496 - 1) (K := 4503599627370496 + s % 4503599627370496 + 1) (by omega) (fun g => by omega)
    rw [show (s / 4503599627370496 - 1) * 4503599627370496 + (4503599627370496 + s % 4503599627370496) = s by omega] at a
    rw [show (s / 4503599627370496 - 1) * 4503599627370496 + (4503599627370496 + s % 4503599627370496 + 1) = s + 1 by omega] at b
    rw [a, b, Nat.add_mul _ 1, Nat.one_mul]
theorem unit_rung (x : Nat) : (funit x + 1074).toNat = x % 9223372036854775808 / 4503599627370496 - 1 := by
  unfold funit
  by_cases h : x / 4503599627370496 % 2048 = 0
  · rw [if_pos h]; omega
  · rw [if_neg h]; omega
theorem nr_mod {n : Bool} {xs ys : List Int} {x : Nat} {code : Int} (h : NrT n xs ys x code) (hc : code = 0) : ∃ X Y s : Nat, val xs = X ∧ val ys = Y ∧ 0 < Y ∧ Mid (X * 2 ^ zP) Y s ∧ s < 9218868437227405312 ∧ x % 9223372036854775808 = s ∧ sv x = sg n (rungVal s : Int) := by
  obtain ⟨_, X, Y, s, hX, hY, hp, hm, hs, hf, hsv⟩ := nr_sv h hc
  refine ⟨X, Y, s, hX, hY, hp, hm, hs, ?_, hsv⟩
  have e := congrArg Int.natAbs hsv
  rw [sv_abs, sg_natAbs] at e
  have e' : rungVal (x % 9223372036854775808) = rungVal s := by rw [e]; rfl
  rcases Nat.lt_trichotomy (x % 9223372036854775808) s with g | g | g
  · have := rungVal_lt g; omega
  · exact g
  · have := rungVal_lt g; omega
/-- It is within half a gap. -/
theorem near_gap {n : Bool} {xs ys : List Int} {x : Nat} {code : Int} (h : NrT n xs ys x code) (hc : code = 0) :
    2 * (sv x * val ys - wval n xs * 2 ^ zP).natAbs ≤ 2 ^ (funit x + 1074).toNat * (val ys).natAbs := by
  obtain ⟨X, Y, s, hX, hY, hp, hm, hs, hx, hsv⟩ := nr_mod h hc
  rw [hsv, hY, wval_pow hX, unit_rung, hx]
  generalize X * 2 ^ zP = A at *
  rw [← sg_mul', sg_sub, sg_natAbs, ← Int.natCast_mul]
  have u := hm.up hs
  rw [rung_gap s, Nat.add_mul, Nat.add_mul] at u
  rw [show ((Y : Int)).natAbs = Y from rfl]
  by_cases h0 : s = 0
  · subst h0
    have r0 : rungVal 0 = 0 := by decide
    rw [r0] at u ⊢
    rw [Nat.zero_mul] at u ⊢
    generalize 2 ^ (0 / 4503599627370496 - 1) * Y = G at *
    omega
  · have d := hm.down (by omega)
    have g1 := rung_gap (s - 1)
    rw [show s - 1 + 1 = s by omega] at g1
    have g2 : 2 ^ ((s - 1) / 4503599627370496 - 1) ≤ 2 ^ (s / 4503599627370496 - 1) := Nat.pow_le_pow_right (by decide) (by omega)
    have g3 : rungVal s * Y ≤ rungVal (s - 1) * Y + 2 ^ (s / 4503599627370496 - 1) * Y := by
      rw [← Nat.add_mul]; exact Nat.mul_le_mul_right _ (by omega)
    rw [Nat.add_mul] at d
    generalize 2 ^ (s / 4503599627370496 - 1) * Y = G at *
    generalize rungVal (s - 1) * Y = P1 at *
    generalize rungVal s * Y = P at *
    omega
/-- A finite float's fraction is its number over 2^zP. -/
theorem fq_sv {x : Nat} (hx : x < 18446744073709551616) : fq x = Rat.divInt (sv x) (2 ^ zP) := by
  have hu := funit_le x
  have hD := two_pos (-(funit x)).toNat
  have hZ := two_pos zP
  have hP := pow_units (funit x) hu.1 zP rfl
  have hc : ((rungVal (x % 9223372036854775808) : Nat) : Int) = (fcount x : Int) * 2 ^ (funit x + 1074).toNat := by
    rw [rung_count]; exact ncast_two _ _
  unfold fq
  rw [Rat.divInt_eq_divInt_iff (by omega) (by omega), sv_sg hx, hc, sg_one, sg_one]
  generalize (2 : Int) ^ zP = Z at *
  generalize (2 : Int) ^ (funit x).toNat = P at *
  generalize (2 : Int) ^ (funit x + 1074).toNat = U at *
  generalize (2 : Int) ^ (-(funit x)).toNat = D at *
  generalize (if (x / 9223372036854775808 == 1) = true then (-1 : Int) else 1) = s
  generalize (fcount x : Int) = m
  have e1 : s * (m * P) * Z = s * m * (P * Z) := by grind
  have e2 : s * (m * U) * D = s * m * (U * D) := by grind
  rw [e1, e2, hP]
/-- The difference of a float and a fraction. -/
theorem away_rat {x : Nat} {n : Bool} {xs ys : List Int} (hx : x < 18446744073709551616) (hY : 0 < val ys) : fq x - rq n xs ys = Rat.divInt (sv x * val ys - wval n xs * 2 ^ zP) (2 ^ zP * val ys) := by
  have hZ := two_pos zP
  rw [fq_sv hx]
  show Rat.divInt (sv x) (2 ^ zP) - Rat.divInt (wval n xs) (val ys) = _
  rw [Rat.divInt_sub_divInt _ _ (by omega) (by omega)]
/-- Fractions over the same number. -/
theorem over_le {n m : Bool} {xs ys us vs : List Int} {P Q M : Int} (hy : 0 < val ys) (hv : 0 < val vs) (hM : 0 < M) (h : rq n xs ys = Rat.divInt P M) (g : rq m us vs = Rat.divInt Q M) (hPQ : P ≤ Q) : wval n xs * val vs ≤ wval m us * val ys := by
  unfold rq at h g
  rw [Rat.divInt_eq_divInt_iff (by omega) (by omega)] at h g
  have e1 : wval n xs * val vs * M = P * (val ys * val vs) := by
    have : wval n xs * val vs * M = (wval n xs * M) * val vs := by grind
    rw [this, h]; grind
  have e2 : wval m us * val ys * M = Q * (val ys * val vs) := by
    have : wval m us * val ys * M = (wval m us * M) * val ys := by grind
    rw [this, g]; grind
  have e3 : P * (val ys * val vs) ≤ Q * (val ys * val vs) := Int.mul_le_mul_of_nonneg_right hPQ (Int.le_of_lt (Int.mul_pos hy hv))
  rw [← e1, ← e2] at e3
  exact Int.le_of_mul_le_mul_right e3 hM
/-- Its sign. -/
theorem over_sign {n : Bool} {xs ys : List Int} {P M : Int} (hy : 0 < val ys) (hM : 0 < M) (h : rq n xs ys = Rat.divInt P M) : (0 ≤ wval n xs → 0 ≤ P) ∧ (wval n xs ≤ 0 → P ≤ 0) := by
  unfold rq at h
  rw [Rat.divInt_eq_divInt_iff (by omega) (by omega)] at h
  constructor
  · intro h0
    have : 0 ≤ P * val ys := by rw [← h]; exact Int.mul_nonneg h0 (Int.le_of_lt hM)
    rcases Int.lt_or_le P 0 with g | g
    · have := Int.mul_neg_of_neg_of_pos g hy; omega
    · exact g
  · intro h0
    have : P * val ys ≤ 0 := by rw [← h]; exact Int.mul_nonpos_of_nonpos_of_nonneg h0 (Int.le_of_lt hM)
    rcases Int.lt_or_le 0 P with g | g
    · have := Int.mul_pos g hy; omega
    · exact g

end Go.Proofs.YtggmdocpfkkclaaDoor

/- parts.Nearest, of every complex fraction. -/
namespace Go.Proofs.YtggmdocpfkkclaaDoor
open Go.RowKit
set_option linter.unusedVariables false

theorem pnr_of_ext {x : Nat} {n : Bool} {xs ys : List Int} {y : Nat} {c : Int} (hx : Fi x) (h : ExT x n xs ys) (g : NrT n xs ys y c) : c = 0 ∧ Fi y ∧ sv y = sv x := by
  have hc : c = 0 := by
    rcases g with ⟨h0, _⟩ | ⟨_, X, Y, s, hX, hY, hp, hm, h1⟩
    · exact absurd h.1 h0
    · rcases h1 with ⟨hs, _, _⟩ | ⟨_, hc, _⟩
      · exfalso
        have e := h.2.1
        rw [wval_pow hX, hY] at e
        have e1 := congrArg Int.natAbs e
        rw [sg_natAbs, Int.natAbs_mul, sv_abs, Int.natAbs_natCast, Int.natAbs_natCast] at e1
        rw [e1] at hm
        have e4 := hm.unique hp (mid_exact hp hx.2)
        have := hx.2
        omega
      · exact hc
  exact ⟨hc, nr_exact g hc hx h.2.1⟩
/-- What parts.Nearest tells. -/
def PNT (n : Bool) (xs ys : List Int) (m : Bool) (us vs : List Int) (p q : Nat) (code : Int) : Prop :=
  (code = 0 ∧ NrT n xs ys p 0 ∧ NrT m us vs q 0) ∨ (code ≠ 0 ∧ p = 0 ∧ q = 0 ∧ ((gchk n xs ys m us vs ≠ 0 ∧ code = gchk n xs ys m us vs) ∨ (∃ x, NrT n xs ys x code) ∨ (∃ x, NrT m us vs x code)))

set_option maxHeartbeats 1600000 in
set_option maxRecDepth 100000 in
theorem pnearest_any (n : Bool) (a : Option Addr) (ca : Nat) (xs : List Int) (b : Option Addr) (cb : Nat) (ys : List Int) (m : Bool) (c : Option Addr) (cc : Nat) (us : List Int) (d : Option Addr) (cd : Nat) (vs : List Int) (w : World) (sx : Sl w (.slice a xs.length ca) xs) (sy : Sl w (.slice b ys.length cb) ys) (su : Sl w (.slice c us.length cc) us) (sw : Sl w (.slice d vs.length cd) vs) :
    Calls Tryd.prog 9 #[.agg #[.bool n, .slice a xs.length ca, .slice b ys.length cb, .bool m, .slice c us.length cc, .slice d vs.length cd]] w fun e w' => ∃ p q code, e = .returned (.tuple #[.complex .f64 p q, .int .i64 code]) ∧ PNT n xs ys m us vs p q code ∧ Below w.heap.size w w' := by
  obtain ⟨X, hX⟩ : ∃ X, w.alloc (.cells #[.bool n, .slice a xs.length ca, .slice b ys.length cb, .bool m, .slice c us.length cc, .slice d vs.length cd] 29) = X := ⟨_, rfl⟩
  have b1 : Below w.heap.size w X := by rw [← hX]; exact alloc_later _ _
  have HP : Hid (Box X w.heap.size 29 #[.bool n, .slice a xs.length ca, .slice b ys.length cb, .bool m, .slice c us.length cc, .slice d vs.length cd]) := by rw [← hX]; exact Box.made w _ _
  have HCL : Hid (∀ V, Below X.heap.size X V → V.cell? ⟨w.heap.size, 0, none⟩ = some (.bool n) ∧ V.cell? ⟨w.heap.size, 1, none⟩ = some (.slice a xs.length ca) ∧ V.cell? ⟨w.heap.size, 2, none⟩ = some (.slice b ys.length cb) ∧ V.cell? ⟨w.heap.size, 3, none⟩ = some (.bool m) ∧ V.cell? ⟨w.heap.size, 4, none⟩ = some (.slice c us.length cc) ∧ V.cell? ⟨w.heap.size, 5, none⟩ = some (.slice d vs.length cd)) := fun V hv => by
    have h := HP.out.later hv HP.out.lt
    exact ⟨h.cell 0, h.cell 1, h.cell 2, h.cell 3, h.cell 4, h.cell 5⟩
  have HGC := hid (gcheck_any n _ xs _ ys m _ us _ vs X (sx.later b1) (sy.later b1) (su.later b1) (sw.later b1))
  have HN1 : Hid (∀ V, Below X.heap.size X V → Calls Tryd.prog 30 #[.agg #[.bool n, .slice a xs.length ca, .slice b ys.length cb]] V fun e w' => ∃ x code, e = .returned (.tuple #[.float .f64 x, .int .i64 code]) ∧ Hid (NrT n xs ys x code) ∧ Below V.heap.size V w') := fun V hv => nearest_any n _ xs _ ys V ((sx.later b1).later hv) ((sy.later b1).later hv)
  have HN2 : Hid (∀ V, Below X.heap.size X V → Calls Tryd.prog 30 #[.agg #[.bool m, .slice c us.length cc, .slice d vs.length cd]] V fun e w' => ∃ x code, e = .returned (.tuple #[.float .f64 x, .int .i64 code]) ∧ Hid (NrT m us vs x code) ∧ Below V.heap.size V w') := fun V hv => nearest_any m _ us _ vs V ((su.later b1).later hv) ((sw.later b1).later hv)
  have HB1 := hid b1
  obtain ⟨ck, hck⟩ : ∃ ck, gchk n xs ys m us vs = ck := ⟨_, rfl⟩
  have HK := hid hck
  rw [hck] at HGC
  obtain ⟨e0, e1, e2, e3, e4, e5⟩ := HCL.out X (Below.refl _ _)
  clear sx sy su sw b1 hck HP
  go_enter Tryd.func9, Tryd.ntmps9
  go_wp2_with fail
  clear hX
  refine Calls.mono HGC.out ?_
  rintro e w2 ⟨rfl, b2⟩
  have HX2 := hid b2
  clear HGC b2 e0 e1 e2 e3 e4 e5
  obtain ⟨e0, e1, e2, e3, e4, e5⟩ := HCL.out w2 HX2.out
  by_cases hz : ck = 0
  · subst hz
    have HA := hid (HN1.out w2 HX2.out)
    go_wp2_with fail
    refine Calls.mono HA.out ?_
    rintro e w3 ⟨p, c1, rfl, HNP, b3⟩
    have HX3 := hid (bt HX2.out b3)
    clear HA HN1 b3 e0 e1 e2 e3 e4 e5
    obtain ⟨e0, e1, e2, e3, e4, e5⟩ := HCL.out w3 HX3.out
    by_cases h1 : c1 = 0
    · subst h1
      have HB := hid (HN2.out w3 HX3.out)
      go_wp2_with fail
      refine Calls.mono HB.out ?_
      rintro e w4 ⟨q, c2, rfl, HNQ, b4⟩
      have HX4 := hid (bt HB1.out (bt HX3.out b4))
      clear HB HN2 b4 e0 e1 e2 e3 e4 e5
      by_cases h2 : c2 = 0
      · subst h2
        go_wp2_with fail
        go_returns
        exact ⟨p, q, 0, rfl, .inl ⟨rfl, HNP.out, HNQ.out⟩, HX4.out⟩
      · have h2' : (c2 == 0) = false := by simp [h2]
        have HPN : Hid (PNT n xs ys m us vs 0 0 c2) := .inr ⟨h2, rfl, rfl, .inr (.inr ⟨q, HNQ.out⟩)⟩
        clear h2
        go_wp2_with fail
        go_returns
        exact ⟨0, 0, c2, rfl, HPN.out, HX4.out⟩
    · have h1' : (c1 == 0) = false := by simp [h1]
      have HPN : Hid (PNT n xs ys m us vs 0 0 c1) := .inr ⟨h1, rfl, rfl, .inr (.inl ⟨p, HNP.out⟩)⟩
      clear h1
      go_wp2_with fail
      go_returns
      exact ⟨0, 0, c1, rfl, HPN.out, bt HB1.out HX3.out⟩
  · have hz' : (ck == 0) = false := by simp [hz]
    have HPN : Hid (PNT n xs ys m us vs 0 0 ck) := .inr ⟨hz, rfl, rfl, .inl ⟨by rw [HK.out]; exact hz, HK.out.symm⟩⟩
    clear hz
    go_wp2_with fail
    go_returns
    exact ⟨0, 0, ck, rfl, HPN.out, bt HB1.out HX2.out⟩

end Go.Proofs.YtggmdocpfkkclaaDoor

/- parts.Exact of numbers that are not finite; math.Nextafter towards the infinities. -/
namespace Go.Proofs.YtggmdocpfkkclaaDoor
open Go.RowKit
set_option linter.unusedVariables false

/-- A box of nothings keeps under stores of nothings. -/
theorem zero_box {W : World} {b : Nat} (h : Box W b 27 #[.bool false, .slice none 0 0, .slice none 0 0]) : (W.cell? ⟨b, 0, none⟩ = some (.bool false) ∧ W.cell? ⟨b, 1, none⟩ = some (.slice none 0 0) ∧ W.cell? ⟨b, 2, none⟩ = some (.slice none 0 0)) ∧ (W.frozen? ⟨b, 0, none⟩ = false ∧ W.frozen? ⟨b, 1, none⟩ = false ∧ W.frozen? ⟨b, 2, none⟩ = false) ∧ W.setCell ⟨b, 0, none⟩ (.bool false) = W ∧ W.setCell ⟨b, 1, none⟩ (.slice none 0 0) = W ∧ W.setCell ⟨b, 2, none⟩ (.slice none 0 0) = W :=
  ⟨⟨h.cell 0, h.cell 1, h.cell 2⟩, ⟨h.free 0, h.free 1, h.free 2⟩, h.same rfl, h.same rfl, h.same rfl⟩
theorem zero_box6 {W : World} {b : Nat} (h : Box W b 29 #[.bool false, .slice none 0 0, .slice none 0 0, .bool false, .slice none 0 0, .slice none 0 0]) : (W.cell? ⟨b, 0, none⟩ = some (.bool false) ∧ W.cell? ⟨b, 1, none⟩ = some (.slice none 0 0) ∧ W.cell? ⟨b, 2, none⟩ = some (.slice none 0 0) ∧ W.cell? ⟨b, 3, none⟩ = some (.bool false) ∧ W.cell? ⟨b, 4, none⟩ = some (.slice none 0 0) ∧ W.cell? ⟨b, 5, none⟩ = some (.slice none 0 0)) ∧ (W.frozen? ⟨b, 0, none⟩ = false ∧ W.frozen? ⟨b, 1, none⟩ = false ∧ W.frozen? ⟨b, 2, none⟩ = false ∧ W.frozen? ⟨b, 3, none⟩ = false ∧ W.frozen? ⟨b, 4, none⟩ = false ∧ W.frozen? ⟨b, 5, none⟩ = false) ∧ W.setCell ⟨b, 0, none⟩ (.bool false) = W ∧ W.setCell ⟨b, 1, none⟩ (.slice none 0 0) = W ∧ W.setCell ⟨b, 2, none⟩ (.slice none 0 0) = W ∧ W.setCell ⟨b, 3, none⟩ (.bool false) = W ∧ W.setCell ⟨b, 4, none⟩ (.slice none 0 0) = W ∧ W.setCell ⟨b, 5, none⟩ (.slice none 0 0) = W :=
  ⟨⟨h.cell 0, h.cell 1, h.cell 2, h.cell 3, h.cell 4, h.cell 5⟩, ⟨h.free 0, h.free 1, h.free 2, h.free 3, h.free 4, h.free 5⟩, h.same rfl, h.same rfl, h.same rfl, h.same rfl, h.same rfl, h.same rfl⟩

set_option maxHeartbeats 1600000 in
set_option maxRecDepth 100000 in
theorem pexact_bad (x y : Nat) (w : World) (hx : x < 18446744073709551616) (hy : y < 18446744073709551616) (hT : TabB w) (hf : (fin x && fin y) = false) :
    Calls Tryd.prog 7 #[.complex .f64 x y] w fun e w' => e = .returned (.tuple #[.agg #[.bool false, .slice none 0 0, .slice none 0 0, .bool false, .slice none 0 0, .slice none 0 0], .int .i64 8]) ∧ Below w.heap.size w w' := by
  obtain ⟨X, hX⟩ : ∃ X, w.alloc (.cells #[.bool false, .slice none 0 0, .slice none 0 0, .bool false, .slice none 0 0, .slice none 0 0] 29) = X := ⟨_, rfl⟩
  have b1 : Below w.heap.size w X := by rw [← hX]; exact alloc_later _ _
  have HP : Hid (Box X w.heap.size 29 #[.bool false, .slice none 0 0, .slice none 0 0, .bool false, .slice none 0 0, .slice none 0 0]) := by rw [← hX]; exact Box.made w _ _
  have HB1 := hid b1
  have HT1 := hid (hT.later b1)
  clear b1 hT
  by_cases h1 : fin x = true
  · have h2 : fin y = false := by rw [h1, Bool.true_and] at hf; exact hf
    have HE := hid (exact_fin x X ((fi_fin hx).1 h1) HT1.out)
    have HY := hid (fun V => exact_bad y V hy h2)
    clear hx hy hf h1 h2
    go_enter Tryd.func7, Tryd.ntmps7
    go_wp2_with fail
    clear hX
    refine Calls.mono HE.out ?_
    rintro e w2 ⟨n, a, ca, b, cb, xs, ys, rfl, _, _, _, _, _, b2⟩
    obtain ⟨Y, hY⟩ : ∃ Y, w2.alloc (.cells #[.bool n, .slice a xs.length ca, .slice b ys.length cb] 27) = Y := ⟨_, rfl⟩
    have b3 : Below w2.heap.size w2 Y := by rw [← hY]; exact alloc_later _ _
    have HXY := hid (bt b2 b3)
    have HY2 := hid (HY.out Y)
    clear HE b2 b3 HY
    go_wp2_with fail
    clear hY
    refine Calls.mono HY2.out ?_
    rintro e w3 ⟨rfl, b4⟩
    obtain ⟨Z, hZ⟩ : ∃ Z, w3.alloc (.cells #[.bool false, .slice none 0 0, .slice none 0 0] 27) = Z := ⟨_, rfl⟩
    have b5 : Below w3.heap.size w3 Z := by rw [← hZ]; exact alloc_later _ _
    have hz3 : Box Z w3.heap.size 27 #[.bool false, .slice none 0 0, .slice none 0 0] := by rw [← hZ]; exact Box.made w3 _ _
    have h6 := HP.out.later (bt HXY.out (bt b4 b5)) HP.out.lt
    obtain ⟨⟨p0, p1, p2⟩, ⟨q0, q1, q2⟩, r0, r1, r2⟩ := zero_box hz3
    obtain ⟨⟨s0, s1, s2, s3, s4, s5⟩, ⟨t0, t1, t2, t3, t4, t5⟩, v0, v1, v2, v3, v4, v5⟩ := zero_box6 h6
    have HFI := hid (bt HB1.out (bt HXY.out (bt b4 b5)))
    clear HY2 b4 b5 hz3 h6
    go_wp2_with fail
    refine bodyPost_ret (v := .tuple #[.agg #[.bool false, .slice none 0 0, .slice none 0 0, .bool false, .slice none 0 0, .slice none 0 0], .int .i64 8]) (by simp [results, Tryd.results7, go_sem, s0, s1, s2, s3, s4, s5]) rfl ?_
    exact ⟨rfl, HFI.out⟩
  · have h1' : fin x = false := by cases h : fin x <;> simp_all
    have HE := hid (exact_bad x X hx h1')
    clear hx hy hf h1 h1'
    go_enter Tryd.func7, Tryd.ntmps7
    go_wp2_with fail
    clear hX
    refine Calls.mono HE.out ?_
    rintro e w3 ⟨rfl, b4⟩
    obtain ⟨Z, hZ⟩ : ∃ Z, w3.alloc (.cells #[.bool false, .slice none 0 0, .slice none 0 0] 27) = Z := ⟨_, rfl⟩
    have b5 : Below w3.heap.size w3 Z := by rw [← hZ]; exact alloc_later _ _
    have hz3 : Box Z w3.heap.size 27 #[.bool false, .slice none 0 0, .slice none 0 0] := by rw [← hZ]; exact Box.made w3 _ _
    have h6 := HP.out.later (bt b4 b5) HP.out.lt
    obtain ⟨⟨p0, p1, p2⟩, ⟨q0, q1, q2⟩, r0, r1, r2⟩ := zero_box hz3
    obtain ⟨⟨s0, s1, s2, s3, s4, s5⟩, ⟨t0, t1, t2, t3, t4, t5⟩, v0, v1, v2, v3, v4, v5⟩ := zero_box6 h6
    have HFI := hid (bt HB1.out (bt b4 b5))
    clear HE b4 b5 hz3 h6
    go_wp2_with fail
    refine bodyPost_ret (v := .tuple #[.agg #[.bool false, .slice none 0 0, .slice none 0 0, .bool false, .slice none 0 0, .slice none 0 0], .int .i64 8]) (by simp [results, Tryd.results7, go_sem, s0, s1, s2, s3, s4, s5]) rfl ?_
    exact ⟨rfl, HFI.out⟩

/-- A float that is finite, or an infinity. -/
def FiI (t : Nat) : Prop := t < 18446744073709551616 ∧ (isinf (t % 9223372036854775808) = true ∨ Fi t)
theorem fii_of {t : Nat} (h : t < 18446744073709551616) (g : t % 9223372036854775808 ≤ 9218868437227405312) : FiI t := by
  refine ⟨h, ?_⟩
  rcases Nat.lt_or_eq_of_le g with e | e
  · exact .inr ⟨h, e⟩
  · left; rw [e]; decide
theorem inf_ord {x : Nat} (h : Fi x) : FloatKind.f64.format.order x 9218868437227405312 = some .lt ∧ FloatKind.f64.format.order 9218868437227405312 x = some .gt ∧ FloatKind.f64.format.order x 18442240474082181120 = some .gt ∧ FloatKind.f64.format.order 18442240474082181120 x = some .lt := by
  obtain ⟨k, p, e, _⟩ := read_num h.2
  have i1 : Ieee.double.read 9218868437227405312 = .infinity false := by decide
  have i2 : Ieee.double.read 18442240474082181120 = .infinity true := by decide
  refine ⟨?_, ?_, ?_, ?_⟩
  · show (Ieee.double.read x).order (Ieee.double.read 9218868437227405312) = _
    rw [e, i1]; rfl
  · show (Ieee.double.read 9218868437227405312).order (Ieee.double.read x) = _
    rw [e, i1]; rfl
  · show (Ieee.double.read x).order (Ieee.double.read 18442240474082181120) = _
    rw [e, i2]; rfl
  · show (Ieee.double.read 18442240474082181120).order (Ieee.double.read x) = _
    rw [e, i2]; rfl
theorem nan_finite {x : Nat} (h : Fi x) : isnan x = false := h.notnan

end Go.Proofs.YtggmdocpfkkclaaDoor

/- Abs of parts and of the document's answer, of any complex number, by its parts' bits. -/
namespace Go.Proofs.YtggmdocpfkkclaaDoor
open Go.RowKit
set_option linter.unusedVariables false

/-- The steps behind the tests: the greater size, the lesser one. -/
def AbsG (m n r : Nat) : Prop := ∃ q p s t, FN .quo n m q ∧ FN .mul q q p ∧ FN .add 4607182418800017408 p s ∧ FQ s t ∧ FN .mul m t r
/-- What Abs tells of two sizes. -/
def AbsR (A B r : Nat) : Prop :=
  ((isnan A || isnan B) = true ∧ r = 9221120237041090561) ∨
  ((isnan A || isnan B) = false ∧ (isinf A || isinf B) = true ∧ r = 9218868437227405312) ∨
  ((isnan A || isnan B) = false ∧ (isinf A || isinf B) = false ∧ ∃ m n, (A < B ∧ m = B ∧ n = A ∨ ¬ A < B ∧ m = A ∧ n = B) ∧ (m = 0 ∧ r = 0 ∨ ¬ m = 0 ∧ AbsG m n r))

theorem AbsG.al {m n r r' : Nat} (h : AbsG m n r) (h' : AbsG m n r') : Al r r' := by
  obtain ⟨q, p, s, t, h1, h2, h3, h4, h5⟩ := h
  obtain ⟨q', p', s', t', h1', h2', h3', h4', h5'⟩ := h'
  have a1 := h1.al h1' (.refl _) (.refl _)
  have a2 := h2.al h2' a1 a1
  have a3 := h3.al h3' (.refl _) a2
  have a4 := h4.al h4' a3
  exact h5.al h5' (.refl _) a4
theorem AbsR.al {A B r r' : Nat} (h : AbsR A B r) (h' : AbsR A B r') : Al r r' := by
  rcases h with ⟨h0, rfl⟩ | ⟨h0, h1, rfl⟩ | ⟨h0, h1, m, n, h2, h3⟩
  · rcases h' with ⟨g0, rfl⟩ | ⟨g0, g1, rfl⟩ | ⟨g0, g1, m', n', g2, g3⟩
    · exact .refl _
    · rw [h0] at g0; cases g0
    · rw [h0] at g0; cases g0
  · rcases h' with ⟨g0, rfl⟩ | ⟨g0, g1, rfl⟩ | ⟨g0, g1, m', n', g2, g3⟩
    · rw [h0] at g0; cases g0
    · exact .refl _
    · rw [h1] at g1; cases g1
  · rcases h' with ⟨g0, rfl⟩ | ⟨g0, g1, rfl⟩ | ⟨g0, g1, m', n', g2, g3⟩
    · rw [h0] at g0; cases g0
    · rw [h1] at g1; cases g1
    · have e : m' = m ∧ n' = n := by
        rcases h2 with ⟨a, rfl, rfl⟩ | ⟨a, rfl, rfl⟩ <;> rcases g2 with ⟨b, rfl, rfl⟩ | ⟨b, rfl, rfl⟩ <;> first | exact ⟨rfl, rfl⟩ | exact absurd a b | exact absurd b a
      obtain ⟨rfl, rfl⟩ := e
      rcases h3 with ⟨a, rfl⟩ | ⟨a, h3⟩ <;> rcases g3 with ⟨b, rfl⟩ | ⟨b, g3⟩
      · exact .refl _
      · exact absurd a b
      · exact absurd b a
      · exact h3.al g3

theorem not_nan_le {x : Nat} (h : x < 9223372036854775808) (n : isnan x = false) : x ≤ 9218868437227405312 := by
  have n' : ¬ 9218868437227405312 < x % 9223372036854775808 := fun g => by rw [(isnan_iff x).2 g] at n; cases n
  omega
theorem isinf_lt {x : Nat} (h : x < 9223372036854775808) (n : isnan x = false) (i : isinf x = false) : x < 9218868437227405312 := by
  have := not_nan_le h n
  simp only [isinf, beq_eq_false_iff_ne] at i
  omega
theorem lt_of_order {x y : Nat} (hx : x ≤ 9218868437227405312) (hy : y ≤ 9218868437227405312) : (FloatKind.f64.format.order x y == some .lt) = decide (x < y) := by
  rw [order_pos hx hy]
  by_cases h : x < y
  · rw [Nat.compare_eq_lt.2 h]; simp [h]
  · have : compare x y ≠ .lt := fun g => h (Nat.compare_eq_lt.1 g)
    cases e : compare x y
    · exact absurd e this
    · simp [h]
    · simp [h]
theorem zero_of_order {x : Nat} (hx : x ≤ 9218868437227405312) : (FloatKind.f64.format.order x 0 == some .eq) = decide (x = 0) := by
  rw [order_pos hx (by decide)]
  by_cases h : x = 0
  · subst h; simp
  · have : compare x 0 = .gt := Nat.compare_eq_gt.2 (by omega)
    rw [this]; simp [h]

set_option maxHeartbeats 1600000 in
set_option maxRecDepth 100000 in
theorem zpAbs_any (a b : Nat) (w : World) (ha : a < 18446744073709551616) (hb : b < 18446744073709551616) :
    Calls Tryd.prog 18 #[.complex .f64 a b] w fun e w' => ∃ r, e = .returned (.float .f64 r) ∧ r < 18446744073709551616 ∧ AbsR (a % 9223372036854775808) (b % 9223372036854775808) r ∧ Below w.heap.size w w' := by
  have HA := hid (fun V => mAbs_any a V ha)
  have HB := hid (fun V => mAbs_any b V hb)
  have la : a % 9223372036854775808 < 9223372036854775808 := by omega
  have lb : b % 9223372036854775808 < 9223372036854775808 := by omega
  generalize a % 9223372036854775808 = A at *
  generalize b % 9223372036854775808 = B at *
  clear ha hb
  have rD := fquo_run Tryd.prog 42
  have rM := fmul_run Tryd.prog 42
  have rA := fadd_run Tryd.prog 42
  have HN := hid (fun V => mIsNaN_any A V)
  have HM := hid (fun V => mIsNaN_any B V)
  have HZ := hid mNaN_any
  cases n1 : isnan A
  case true =>
    have h1 : (FloatKind.f64.format.order A B == some .lt) = false := by rw [order_nan_l n1]; rfl
    have HE : Hid (AbsR A B 9221120237041090561) := .inl ⟨by rw [n1]; rfl, rfl⟩
    rw [n1] at HN
    clear n1 la lb rD rM rA
    go_enter Tryd.func18, Tryd.ntmps18
    go_wp2_with fail
    refine Calls.mono (HA.out _) ?_
    rintro e w2 ⟨rfl, rfl⟩
    go_wp2_with fail
    refine Calls.mono (HB.out _) ?_
    rintro e w2 ⟨rfl, rfl⟩
    go_wp2_with fail
    refine Calls.mono (HN.out _) ?_
    rintro e w2 ⟨rfl, rfl⟩
    go_wp2_with fail
    refine Calls.mono (HZ.out _) ?_
    rintro e w2 ⟨rfl, rfl⟩
    go_wp2_with fail
    go_ret
    exact ⟨_, rfl, by decide, HE.out, Below.refl _ _⟩
  cases n2 : isnan B
  case true =>
    have h1 : (FloatKind.f64.format.order A B == some .lt) = false := by rw [order_nan_r n2]; rfl
    have HE : Hid (AbsR A B 9221120237041090561) := .inl ⟨by rw [n1, n2]; rfl, rfl⟩
    rw [n1] at HN
    rw [n2] at HM
    clear n1 n2 la lb rD rM rA
    go_enter Tryd.func18, Tryd.ntmps18
    go_wp2_with fail
    refine Calls.mono (HA.out _) ?_
    rintro e w2 ⟨rfl, rfl⟩
    go_wp2_with fail
    refine Calls.mono (HB.out _) ?_
    rintro e w2 ⟨rfl, rfl⟩
    go_wp2_with fail
    refine Calls.mono (HN.out _) ?_
    rintro e w2 ⟨rfl, rfl⟩
    go_wp2_with fail
    refine Calls.mono (HM.out _) ?_
    rintro e w2 ⟨rfl, rfl⟩
    go_wp2_with fail
    refine Calls.mono (HZ.out _) ?_
    rintro e w2 ⟨rfl, rfl⟩
    go_wp2_with fail
    go_ret
    exact ⟨_, rfl, by decide, HE.out, Below.refl _ _⟩
  have h1 := lt_of_order (not_nan_le la n1) (not_nan_le lb n2)
  rw [n1] at HN
  rw [n2] at HM
  have e0 : (isnan A || isnan B) = false := by rw [n1, n2]; rfl
  by_cases hlt : A < B
  · have h2 : decide (A < B) = true := by simp [hlt]
    rw [h2] at h1
    have HI := hid (fun V => mIsInf1_any B V lb)
    cases i1 : isinf B
    case true =>
      rw [i1] at HI
      have HE : Hid (AbsR A B B) := .inr (.inl ⟨e0, by rw [i1]; simp, by simpa [isinf] using i1⟩)
      have HL := hid lb
      clear n1 n2 la lb e0 hlt i1 rD rM rA h2
      go_enter Tryd.func18, Tryd.ntmps18
      go_wp2_with fail
      refine Calls.mono (HA.out _) ?_
      rintro e w2 ⟨rfl, rfl⟩
      go_wp2_with fail
      refine Calls.mono (HB.out _) ?_
      rintro e w2 ⟨rfl, rfl⟩
      go_wp2_with fail
      refine Calls.mono (HM.out _) ?_
      rintro e w2 ⟨rfl, rfl⟩
      go_wp2_with fail
      refine Calls.mono (HN.out _) ?_
      rintro e w2 ⟨rfl, rfl⟩
      go_wp2_with fail
      refine Calls.mono (HI.out _) ?_
      rintro e w2 ⟨rfl, rfl⟩
      go_wp2_with fail
      go_ret
      exact ⟨_, rfl, by have := HL.out; omega, HE.out, Below.refl _ _⟩
    rw [i1] at HI
    have hz := zero_of_order (not_nan_le lb n2)
    have i2 : isinf A = false := by have := not_nan_le lb n2; simp only [isinf, beq_eq_false_iff_ne]; omega
    have e1 : (isinf A || isinf B) = false := by rw [i1, i2]; rfl
    by_cases z : B = 0
    · have HE : Hid (AbsR A B 0) := .inr (.inr ⟨e0, e1, B, A, .inl ⟨hlt, rfl, rfl⟩, .inl ⟨z, rfl⟩⟩)
      have hz2 : decide (B = 0) = true := by simp [z]
      rw [hz2] at hz
      clear n1 n2 la lb e0 e1 hlt i1 i2 rD rM rA h2 z hz2
      go_enter Tryd.func18, Tryd.ntmps18
      go_wp2_with fail
      refine Calls.mono (HA.out _) ?_
      rintro e w2 ⟨rfl, rfl⟩
      go_wp2_with fail
      refine Calls.mono (HB.out _) ?_
      rintro e w2 ⟨rfl, rfl⟩
      go_wp2_with fail
      refine Calls.mono (HM.out _) ?_
      rintro e w2 ⟨rfl, rfl⟩
      go_wp2_with fail
      refine Calls.mono (HN.out _) ?_
      rintro e w2 ⟨rfl, rfl⟩
      go_wp2_with fail
      refine Calls.mono (HI.out _) ?_
      rintro e w2 ⟨rfl, rfl⟩
      go_wp2_with fail
      go_ret
      exact ⟨_, rfl, by decide, HE.out, Below.refl _ _⟩
    · have HE : Hid (∀ r, AbsG B A r → AbsR A B r) := fun r h => .inr (.inr ⟨e0, e1, B, A, .inl ⟨hlt, rfl, rfl⟩, .inr ⟨z, h⟩⟩)
      have hz2 : decide (B = 0) = false := by simp [z]
      rw [hz2] at hz
      clear n1 n2 la lb e0 e1 hlt i1 i2 h2 z hz2
      go_enter Tryd.func18, Tryd.ntmps18
      go_wp2_with fail
      refine Calls.mono (HA.out _) ?_
      rintro e w2 ⟨rfl, rfl⟩
      go_wp2_with fail
      refine Calls.mono (HB.out _) ?_
      rintro e w2 ⟨rfl, rfl⟩
      go_wp2_with fail
      refine Calls.mono (HM.out _) ?_
      rintro e w2 ⟨rfl, rfl⟩
      go_wp2_with fail
      refine Calls.mono (HN.out _) ?_
      rintro e w2 ⟨rfl, rfl⟩
      go_wp2_with fail
      refine Calls.mono (HI.out _) ?_
      rintro e w2 ⟨rfl, rfl⟩
      go_wp2_with fail
      refine Calls.mono (mSqrt_any _ _) ?_
      rintro e w3 ⟨t, rfl, hq, hb⟩
      go_wp2_with fail
      go_ret
      refine ⟨_, rfl, (fval_fn .mul _ _ _).1, HE.out _ ⟨_, _, _, _, fval_fn .quo _ _ _, fval_fn .mul _ _ _, fval_fn .add _ _ _, hq, fval_fn .mul _ _ _⟩, ?_⟩
      refine fwld_below _ _ _ ?_
      have h0 : Below w2.heap.size w2 (fwld .add (fwld .mul (fwld .quo w2 A B) (fval .quo w2 A B) (fval .quo w2 A B)) 4607182418800017408 (fval .mul (fwld .quo w2 A B) (fval .quo w2 A B) (fval .quo w2 A B))) := fwld_below _ _ _ (fwld_below _ _ _ (fwld_below _ _ _ (Below.refl _ _)))
      exact h0.trans (hb.mono h0.size)
  · have h2 : decide (A < B) = false := by simp [hlt]
    rw [h2] at h1
    have HI := hid (fun V => mIsInf1_any A V la)
    cases i1 : isinf A
    case true =>
      rw [i1] at HI
      have HE : Hid (AbsR A B A) := .inr (.inl ⟨e0, by rw [i1]; simp, by simpa [isinf] using i1⟩)
      have HL := hid la
      clear n1 n2 la lb e0 hlt i1 rD rM rA h2
      go_enter Tryd.func18, Tryd.ntmps18
      go_wp2_with fail
      refine Calls.mono (HA.out _) ?_
      rintro e w2 ⟨rfl, rfl⟩
      go_wp2_with fail
      refine Calls.mono (HB.out _) ?_
      rintro e w2 ⟨rfl, rfl⟩
      go_wp2_with fail
      refine Calls.mono (HN.out _) ?_
      rintro e w2 ⟨rfl, rfl⟩
      go_wp2_with fail
      refine Calls.mono (HM.out _) ?_
      rintro e w2 ⟨rfl, rfl⟩
      go_wp2_with fail
      refine Calls.mono (HI.out _) ?_
      rintro e w2 ⟨rfl, rfl⟩
      go_wp2_with fail
      go_ret
      exact ⟨_, rfl, by have := HL.out; omega, HE.out, Below.refl _ _⟩
    rw [i1] at HI
    have hz := zero_of_order (not_nan_le la n1)
    have i2 : isinf B = false := by have := isinf_lt la n1 i1; simp only [isinf, beq_eq_false_iff_ne]; omega
    have e1 : (isinf A || isinf B) = false := by rw [i1, i2]; rfl
    by_cases z : A = 0
    · have HE : Hid (AbsR A B 0) := .inr (.inr ⟨e0, e1, A, B, .inr ⟨hlt, rfl, rfl⟩, .inl ⟨z, rfl⟩⟩)
      have hz2 : decide (A = 0) = true := by simp [z]
      rw [hz2] at hz
      clear n1 n2 la lb e0 e1 hlt i1 i2 rD rM rA h2 z hz2
      go_enter Tryd.func18, Tryd.ntmps18
      go_wp2_with fail
      refine Calls.mono (HA.out _) ?_
      rintro e w2 ⟨rfl, rfl⟩
      go_wp2_with fail
      refine Calls.mono (HB.out _) ?_
      rintro e w2 ⟨rfl, rfl⟩
      go_wp2_with fail
      refine Calls.mono (HN.out _) ?_
      rintro e w2 ⟨rfl, rfl⟩
      go_wp2_with fail
      refine Calls.mono (HM.out _) ?_
      rintro e w2 ⟨rfl, rfl⟩
      go_wp2_with fail
      refine Calls.mono (HI.out _) ?_
      rintro e w2 ⟨rfl, rfl⟩
      go_wp2_with fail
      go_ret
      exact ⟨_, rfl, by decide, HE.out, Below.refl _ _⟩
    · have HE : Hid (∀ r, AbsG A B r → AbsR A B r) := fun r h => .inr (.inr ⟨e0, e1, A, B, .inr ⟨hlt, rfl, rfl⟩, .inr ⟨z, h⟩⟩)
      have hz2 : decide (A = 0) = false := by simp [z]
      rw [hz2] at hz
      clear n1 n2 la lb e0 e1 hlt i1 i2 h2 z hz2
      go_enter Tryd.func18, Tryd.ntmps18
      go_wp2_with fail
      refine Calls.mono (HA.out _) ?_
      rintro e w2 ⟨rfl, rfl⟩
      go_wp2_with fail
      refine Calls.mono (HB.out _) ?_
      rintro e w2 ⟨rfl, rfl⟩
      go_wp2_with fail
      refine Calls.mono (HN.out _) ?_
      rintro e w2 ⟨rfl, rfl⟩
      go_wp2_with fail
      refine Calls.mono (HM.out _) ?_
      rintro e w2 ⟨rfl, rfl⟩
      go_wp2_with fail
      refine Calls.mono (HI.out _) ?_
      rintro e w2 ⟨rfl, rfl⟩
      go_wp2_with fail
      refine Calls.mono (mSqrt_any _ _) ?_
      rintro e w3 ⟨t, rfl, hq, hb⟩
      go_wp2_with fail
      go_ret
      refine ⟨_, rfl, (fval_fn .mul _ _ _).1, HE.out _ ⟨_, _, _, _, fval_fn .quo _ _ _, fval_fn .mul _ _ _, fval_fn .add _ _ _, hq, fval_fn .mul _ _ _⟩, ?_⟩
      refine fwld_below _ _ _ ?_
      have h0 : Below w2.heap.size w2 (fwld .add (fwld .mul (fwld .quo w2 B A) (fval .quo w2 B A) (fval .quo w2 B A)) 4607182418800017408 (fval .mul (fwld .quo w2 B A) (fval .quo w2 B A) (fval .quo w2 B A))) := fwld_below _ _ _ (fwld_below _ _ _ (fwld_below _ _ _ (Below.refl _ _)))
      exact h0.trans (hb.mono h0.size)

end Go.Proofs.YtggmdocpfkkclaaDoor

/- The law's awake: what the document's examples say. -/
namespace Go.Proofs.YtggmdocpfkkclaaDoor
open Go.RowKit
set_option linter.unusedVariables false

theorem lst_one {zs : List Int} {k : Int} (hw : Wd zs) (ht : Trimmed zs) (hv : val zs = k) (h0 : 1 ≤ k) (h1 : k ≤ 4294967295) : zs = [k] :=
  trimmed_eq hw (Wd.one ⟨by omega, h1⟩) ht (by show sz _ = _; rw [sz_eq_iff]; right; simp; omega) (by rw [hv, val_one])

theorem half_num : fnum 4602678819172646912 = 1 ∧ fden 4602678819172646912 = 2 := by decide +kernel
theorem quarters_num : fnum 13828302655841107968 = 3 ∧ fden 13828302655841107968 = 4 := by decide +kernel

theorem same_one {k : Int} {W : World} {a : Option Addr} {c : Nat} {b : Option Addr} {d : Nat} (h : Sl W (.slice a 1 c) [k]) (g : Sl W (.slice b 1 d) [k]) :
    Calls Tryd.prog 26 #[.slice a 1 c, .slice b 1 d] W fun e w' => e = .returned (.bool true) ∧ Below W.heap.size W w' := by
  refine Calls.mono (same_sl _ _ [k] [k] W h g (by simp) (by simp)) ?_
  rintro e w' ⟨rfl, hb⟩
  exact ⟨by rw [decide_eq_true rfl], hb⟩
theorem mul_known {re im : Nat} (h : MulR 4607182418800017408 4611686018427387904 4613937818241073152 13830554455654793216 re im) : re = 4617315517961601024 ∧ im = 4617315517961601024 := by
  obtain ⟨x, y, u, v, h1, h2, h3, h4, h5, h6⟩ := h
  obtain rfl := h1.eq (show floatBits .mul .f64 4607182418800017408 4613937818241073152 = some 4613937818241073152 by decide +kernel)
  obtain rfl := h2.eq (show floatBits .mul .f64 4611686018427387904 13830554455654793216 = some 13835058055282163712 by decide +kernel)
  obtain rfl := h4.eq (show floatBits .mul .f64 4607182418800017408 13830554455654793216 = some 13830554455654793216 by decide +kernel)
  obtain rfl := h5.eq (show floatBits .mul .f64 4611686018427387904 4613937818241073152 = some 4618441417868443648 by decide +kernel)
  exact ⟨h3.eq (show floatBits .sub .f64 4613937818241073152 13835058055282163712 = some 4617315517961601024 by decide +kernel), h6.eq (show floatBits .add .f64 13830554455654793216 4618441417868443648 = some 4617315517961601024 by decide +kernel)⟩
theorem abs_known {r : Nat} (h : AbsR (4613937818241073152 % 9223372036854775808) (4616189618054758400 % 9223372036854775808) r) : r = 4617315517961601024 := by
  rcases h with ⟨h0, _⟩ | ⟨_, h1, _⟩ | ⟨_, _, m, n, h2, h3⟩
  · exact absurd h0 (by decide)
  · exact absurd h1 (by decide)
  · rcases h2 with ⟨_, rfl, rfl⟩ | ⟨h2, _, _⟩
    · rcases h3 with ⟨h3, _⟩ | ⟨_, q, p, s, t, g1, g2, g3, g4, g5⟩
      · exact absurd h3 (by decide)
      · obtain rfl := g1.eq (show floatBits .quo .f64 4613937818241073152 4616189618054758400 = some 4604930618986332160 by decide +kernel)
        obtain rfl := g2.eq (show floatBits .mul .f64 4604930618986332160 4604930618986332160 = some 4603241769126068224 by decide +kernel)
        obtain rfl := g3.eq (show floatBits .add .f64 4607182418800017408 4603241769126068224 = some 4609715693590413312 by decide +kernel)
        obtain rfl := g4.eq (show Ieee.double.sqrt 4609715693590413312 = some 4608308318706860032 by decide +kernel)
        exact g5.eq (show floatBits .mul .f64 4616189618054758400 4608308318706860032 = some 4617315517961601024 by decide +kernel)
    · exact absurd h2 (by decide)

set_option maxHeartbeats 1600000 in
set_option maxRecDepth 100000 in
theorem pawake_any (w : World) (hT : TabB w) :
    Calls Tryd.prog 5 #[] w fun e w' => e = .returned (.bool true) ∧ Below w.heap.size w w' := by
  have HE := hid (pexact_nz 4602678819172646912 13828302655841107968 w (by decide) (by decide) (by decide) (by decide) (by decide) (by decide) hT)
  go_enter Tryd.func5, Tryd.ntmps5
  go_wp2_with fail
  refine Calls.mono HE.out ?_
  rintro e w1 ⟨a, ca, b, cb, zs, ds, a', ca', b', cb', zs', ds', rfl, o1, o2, v1, v2, v3, v4, hb⟩
  rw [half_num.1] at v1
  rw [half_num.2] at v2
  rw [quarters_num.1] at v3
  rw [quarters_num.2] at v4
  obtain rfl := lst_one o1.2.2.2.2.1 o1.2.2.2.2.2.1 v2 (by omega) (by omega)
  obtain rfl := lst_one o2.2.2.1 o2.2.2.2.1 v3 (by omega) (by omega)
  have HB := hid hb
  have HO := hid (And.intro o1 o2)
  clear HE o1 o2 v1 v2 v3 v4 hb hT
  have HG := hid (Box.made w1 29 #[.bool false, .slice a zs.length ca, .slice b 1 cb, .bool true, .slice a' 1 ca', .slice b' ds'.length cb'])
  have HBG := hid (alloc_later w1 (.cells #[.bool false, .slice a zs.length ca, .slice b 1 cb, .bool true, .slice a' 1 ca', .slice b' ds'.length cb'] 29))
  go_wp2_with fail
  generalize w1.alloc (.cells #[.bool false, .slice a zs.length ca, .slice b 1 cb, .bool true, .slice a' 1 ca', .slice b' ds'.length cb'] 29) = X at *
  refine Calls.mono (zpMul_any _ _ _ _ _) ?_
  rintro e w2 ⟨re, im, rfl, hm, _, _, hb2⟩
  obtain ⟨rfl, rfl⟩ := mul_known hm
  have HB2 := hid hb2
  have h55 : (FloatKind.f64.format.order 4617315517961601024 4617315517961601024 == some .eq) = true := by decide +kernel
  clear hm hb2
  go_wp2_with fail
  refine Calls.mono (zpAbs_any _ _ _ (by decide) (by decide)) ?_
  rintro e w3 ⟨r, rfl, _, hr, hb3⟩
  obtain rfl := abs_known hr
  have HB3 := hid (bt HB2.out hb3)
  have HG3 := hid (HG.out.later HB3.out HG.out.lt)
  have HO3 := hid (And.intro ((HO.out.1.later HBG.out).later HB3.out) ((HO.out.2.later HBG.out).later HB3.out))
  clear hr hb3
  have HBA := hid (alloc_later w3 (.cells #[.int .u32 2] 53))
  have HS1 : Hid (Sl (w3.alloc (.cells #[.int .u32 2] 53)) (.slice (some ⟨w3.heap.size, 0, none⟩) 1 1) [2]) := Sl.own (World.ownsRow_lit w3 #[.int .u32 2] 1 (Nat.le_refl _) (by simp [maxLen]) rfl) (Wd.one (by omega))
  have HS0 := hid (Sl.own (HO3.out.1.later HBA.out).2.1 (HO3.out.1).2.2.2.2.1)
  obtain ⟨W4, hW4⟩ : ∃ W4, w3.alloc (.cells #[.int .u32 2] 53) = W4 := ⟨_, rfl⟩
  rw [hW4] at HBA HS1 HS0
  have HC := hid (same_one HS0.out HS1.out)
  have HG4 := hid (HG3.out.later HBA.out HG3.out.lt)
  have c2 : w3.cell? ⟨w1.heap.size, 2, none⟩ = some (.slice b 1 cb) := HG3.out.cell 2
  have c2' : W4.cell? ⟨w1.heap.size, 2, none⟩ = some (.slice b 1 cb) := HG4.out.cell 2
  go_wp2_with fail
  refine Calls.mono HC.out ?_
  rintro e w5 ⟨rfl, hb5⟩
  have HB5 := hid hb5
  have HG5 := hid (HG4.out.later hb5 HG4.out.lt)
  have HO5 := hid ((HO3.out.2.later HBA.out).later hb5)
  have HBA5 := hid (alloc_later w5 (.cells #[.int .u32 3] 53))
  have HT1 : Hid (Sl (w5.alloc (.cells #[.int .u32 3] 53)) (.slice (some ⟨w5.heap.size, 0, none⟩) 1 1) [3]) := Sl.own (World.ownsRow_lit w5 #[.int .u32 3] 1 (Nat.le_refl _) (by simp [maxLen]) rfl) (Wd.one (by omega))
  have HT0 := hid (Sl.own (HO5.out.later HBA5.out).1 HO5.out.2.2.1)
  obtain ⟨W6, hW6⟩ : ∃ W6, w5.alloc (.cells #[.int .u32 3] 53) = W6 := ⟨_, rfl⟩
  rw [hW6] at HBA5 HT1 HT0
  have HC6 := hid (same_one HT0.out HT1.out)
  have HG6 := hid (HG5.out.later HBA5.out HG5.out.lt)
  have c3 : w5.cell? ⟨w1.heap.size, 3, none⟩ = some (.bool true) := HG5.out.cell 3
  have c4 : w5.cell? ⟨w1.heap.size, 4, none⟩ = some (.slice a' 1 ca') := HG5.out.cell 4
  have c3' : W6.cell? ⟨w1.heap.size, 3, none⟩ = some (.bool true) := HG6.out.cell 3
  have c4' : W6.cell? ⟨w1.heap.size, 4, none⟩ = some (.slice a' 1 ca') := HG6.out.cell 4
  clear hb5 HC c2 c2' hW4 HS0 HS1
  go_wp2_with fail
  refine Calls.mono HC6.out ?_
  rintro e w7 ⟨rfl, hb7⟩
  have HB7 := hid (bt HB.out (bt HBG.out (bt HB3.out (bt HBA.out (bt HB5.out (bt HBA5.out hb7))))))
  clear hb7 hW6 c3 c4 c3' c4'
  go_wp2_with fail
  go_ret
  exact ⟨rfl, HB7.out⟩

end Go.Proofs.YtggmdocpfkkclaaDoor

/- Fractions: ratio.Make, ratio.Small. -/
namespace Go.Proofs.YtggmdocpfkkclaaDoor
open Go.RowKit
set_option linter.unusedVariables false

set_option maxHeartbeats 3200000 in
set_option maxRecDepth 100000 in
theorem rmake_e1 (n : Bool) (a : Option Addr) (ca : Nat) (xs : List Int) (m : Bool) (b : Option Addr) (cb : Nat) (ys : List Int) (w : World) (h : Sl w (.slice a xs.length ca) xs) (g : Sl w (.slice b ys.length cb) ys) (lx : xs.length ≤ 281474976710656) (ly : ys.length ≤ 281474976710656) (hx : wchk n xs ≠ 0) (q : Rat) :
    Calls Tryd.prog 38 #[.agg #[.bool n, .slice a xs.length ca], .agg #[.bool m, .slice b ys.length cb]] w (RToldA w (wchk n xs) q) := by
  have HB : Hid (Below w.heap.size w (((w.alloc (.cells #[.bool n, .slice a xs.length ca] 71)).alloc (.cells #[.bool m, .slice b ys.length cb] 71)).alloc (.cells #[.bool false, .slice none 0 0, .slice none 0 0] 27))) := bt (bt (alloc_later _ _) (alloc_later _ _)) (alloc_later _ _)
  have HZ : Hid (Box (((w.alloc (.cells #[.bool n, .slice a xs.length ca] 71)).alloc (.cells #[.bool m, .slice b ys.length cb] 71)).alloc (.cells #[.bool false, .slice none 0 0, .slice none 0 0] 27)) (w.heap.size + 1 + 1) 27 #[.bool false, .slice none 0 0, .slice none 0 0]) := by
    have e := Box.made ((w.alloc (.cells #[.bool n, .slice a xs.length ca] 71)).alloc (.cells #[.bool m, .slice b ys.length cb] 71)) 27 #[.bool false, .slice none 0 0, .slice none 0 0]
    simp at e
    exact e
  have HN : Hid (Box (((w.alloc (.cells #[.bool n, .slice a xs.length ca] 71)).alloc (.cells #[.bool m, .slice b ys.length cb] 71)).alloc (.cells #[.bool false, .slice none 0 0, .slice none 0 0] 27)) w.heap.size 71 #[.bool n, .slice a xs.length ca]) := Box.later (Box.later (Box.made w _ _) (alloc_later _ _) (by simp)) (alloc_later _ _) (by simp; omega)
  have HM : Hid (Box (((w.alloc (.cells #[.bool n, .slice a xs.length ca] 71)).alloc (.cells #[.bool m, .slice b ys.length cb] 71)).alloc (.cells #[.bool false, .slice none 0 0, .slice none 0 0] 27)) (w.heap.size + 1) 71 #[.bool m, .slice b ys.length cb]) := by
    have e := Box.later (Box.made (w.alloc (.cells #[.bool n, .slice a xs.length ca] 71)) 71 #[.bool m, .slice b ys.length cb]) (alloc_later ((w.alloc (.cells #[.bool n, .slice a xs.length ca] 71)).alloc (.cells #[.bool m, .slice b ys.length cb] 71)) (.cells #[.bool false, .slice none 0 0, .slice none 0 0] 27)) (by simp)
    simp at e
    exact e
  have HS := hid (And.intro (h.later HB.out) (g.later HB.out))
  have HXS : Hid (w.heap.size + 1 + 1 < (((w.alloc (.cells #[.bool n, .slice a xs.length ca] 71)).alloc (.cells #[.bool m, .slice b ys.length cb] 71)).alloc (.cells #[.bool false, .slice none 0 0, .slice none 0 0] 27)).heap.size) := HZ.out.lt
  have HC1 := hid (wcheck_any n _ xs _ HS.out.1 lx)
  obtain ⟨e1, he1⟩ : ∃ e1, wchk n xs = e1 := ⟨_, rfl⟩
  rw [he1] at HC1 hx ⊢
  have hx' : (e1 == 0) = false := beq_eq_false_iff_ne.2 hx
  have HE := hid hx
  clear he1 hx
  clear h g
  go_enter Tryd.func38, Tryd.ntmps38
  go_wp2_with fail
  refine Calls.mono HC1.out ?_
  generalize (((w.alloc (.cells #[.bool n, .slice a xs.length ca] 71)).alloc (.cells #[.bool m, .slice b ys.length cb] 71)).alloc (.cells #[.bool false, .slice none 0 0, .slice none 0 0] 27)) = X at *
  rintro e w1 ⟨rfl, hb1⟩
  have HB1 := hid hb1
  clear hb1 HC1
  obtain ⟨y0, y1, y2, f0, f1, f2⟩ := res_box3 HZ.out HB1.out
  have HBN := hid (below_put3 (bt HB.out HB1.out) (w.heap.size + 1 + 1) (by omega) (.bool false) (.slice none 0 0) (.slice none 0 0))
  clear HN HM HZ HS
  go_wp2_with fail
  refine bodyPost_ret (v := .tuple #[.agg #[.bool false, .slice none 0 0, .slice none 0 0], .int .i64 e1]) (by simp [results, Tryd.results38, go_sem, y0, y1, y2]) rfl ?_
  exact ⟨false, _, [], _, [], _, rfl, World.ownsRow_nil _ _ _ _, World.ownsRow_nil _ _ _ _, RTells.err HE.out, HBN.out, ⟨w.heap.size, Nat.le_refl _, HBN.out.size, fun g hg => by simp [Value.ownBlock] at hg, fun g hg => by simp [Value.ownBlock] at hg⟩⟩

set_option maxHeartbeats 3200000 in
set_option maxRecDepth 100000 in
theorem rmake_e2 (n : Bool) (a : Option Addr) (ca : Nat) (xs : List Int) (m : Bool) (b : Option Addr) (cb : Nat) (ys : List Int) (w : World) (h : Sl w (.slice a xs.length ca) xs) (g : Sl w (.slice b ys.length cb) ys) (lx : xs.length ≤ 281474976710656) (ly : ys.length ≤ 281474976710656) (hx : wchk n xs = 0) (hy : wchk m ys ≠ 0) (q : Rat) :
    Calls Tryd.prog 38 #[.agg #[.bool n, .slice a xs.length ca], .agg #[.bool m, .slice b ys.length cb]] w (RToldA w (wchk m ys) q) := by
  have HB : Hid (Below w.heap.size w (((w.alloc (.cells #[.bool n, .slice a xs.length ca] 71)).alloc (.cells #[.bool m, .slice b ys.length cb] 71)).alloc (.cells #[.bool false, .slice none 0 0, .slice none 0 0] 27))) := bt (bt (alloc_later _ _) (alloc_later _ _)) (alloc_later _ _)
  have HZ : Hid (Box (((w.alloc (.cells #[.bool n, .slice a xs.length ca] 71)).alloc (.cells #[.bool m, .slice b ys.length cb] 71)).alloc (.cells #[.bool false, .slice none 0 0, .slice none 0 0] 27)) (w.heap.size + 1 + 1) 27 #[.bool false, .slice none 0 0, .slice none 0 0]) := by
    have e := Box.made ((w.alloc (.cells #[.bool n, .slice a xs.length ca] 71)).alloc (.cells #[.bool m, .slice b ys.length cb] 71)) 27 #[.bool false, .slice none 0 0, .slice none 0 0]
    simp at e
    exact e
  have HN : Hid (Box (((w.alloc (.cells #[.bool n, .slice a xs.length ca] 71)).alloc (.cells #[.bool m, .slice b ys.length cb] 71)).alloc (.cells #[.bool false, .slice none 0 0, .slice none 0 0] 27)) w.heap.size 71 #[.bool n, .slice a xs.length ca]) := Box.later (Box.later (Box.made w _ _) (alloc_later _ _) (by simp)) (alloc_later _ _) (by simp; omega)
  have HM : Hid (Box (((w.alloc (.cells #[.bool n, .slice a xs.length ca] 71)).alloc (.cells #[.bool m, .slice b ys.length cb] 71)).alloc (.cells #[.bool false, .slice none 0 0, .slice none 0 0] 27)) (w.heap.size + 1) 71 #[.bool m, .slice b ys.length cb]) := by
    have e := Box.later (Box.made (w.alloc (.cells #[.bool n, .slice a xs.length ca] 71)) 71 #[.bool m, .slice b ys.length cb]) (alloc_later ((w.alloc (.cells #[.bool n, .slice a xs.length ca] 71)).alloc (.cells #[.bool m, .slice b ys.length cb] 71)) (.cells #[.bool false, .slice none 0 0, .slice none 0 0] 27)) (by simp)
    simp at e
    exact e
  have HS := hid (And.intro (h.later HB.out) (g.later HB.out))
  have HXS : Hid (w.heap.size + 1 + 1 < (((w.alloc (.cells #[.bool n, .slice a xs.length ca] 71)).alloc (.cells #[.bool m, .slice b ys.length cb] 71)).alloc (.cells #[.bool false, .slice none 0 0, .slice none 0 0] 27)).heap.size) := HZ.out.lt
  have HC1 := hid (wcheck_any n _ xs _ HS.out.1 lx)
  rw [hx] at HC1
  obtain ⟨e1, he1⟩ : ∃ e1, wchk m ys = e1 := ⟨_, rfl⟩
  have HC2 := hid (fun ww (hb : Below _ (((w.alloc (.cells #[.bool n, .slice a xs.length ca] 71)).alloc (.cells #[.bool m, .slice b ys.length cb] 71)).alloc (.cells #[.bool false, .slice none 0 0, .slice none 0 0] 27)) ww) => wcheck_any m _ ys ww (HS.out.2.later hb) ly)
  rw [he1] at HC2 hy ⊢
  have hy' : (e1 == 0) = false := beq_eq_false_iff_ne.2 hy
  have HE := hid hy
  clear he1 hy hx
  clear h g
  go_enter Tryd.func38, Tryd.ntmps38
  go_wp2_with fail
  refine Calls.mono HC1.out ?_
  generalize (((w.alloc (.cells #[.bool n, .slice a xs.length ca] 71)).alloc (.cells #[.bool m, .slice b ys.length cb] 71)).alloc (.cells #[.bool false, .slice none 0 0, .slice none 0 0] 27)) = X at *
  rintro e w1 ⟨rfl, hb1⟩
  have HB1 := hid hb1
  clear hb1 HC1
  have HC := hid (HC2.out w1 HB1.out)
  obtain ⟨q0, q1, _, _⟩ := (HM.out.later HB1.out HM.out.lt).c2
  clear HC2
  go_wp2_with fail
  refine Calls.mono HC.out ?_
  rintro e w2 ⟨rfl, hb2⟩
  have HB2 := hid (bt HB1.out hb2)
  clear hb2 HC q0 q1
  obtain ⟨y0, y1, y2, f0, f1, f2⟩ := res_box3 HZ.out HB2.out
  have HBN := hid (below_put3 (bt HB.out HB2.out) (w.heap.size + 1 + 1) (by omega) (.bool false) (.slice none 0 0) (.slice none 0 0))
  clear HN HM HZ HS
  go_wp2_with fail
  refine bodyPost_ret (v := .tuple #[.agg #[.bool false, .slice none 0 0, .slice none 0 0], .int .i64 e1]) (by simp [results, Tryd.results38, go_sem, y0, y1, y2]) rfl ?_
  exact ⟨false, _, [], _, [], _, rfl, World.ownsRow_nil _ _ _ _, World.ownsRow_nil _ _ _ _, RTells.err HE.out, HBN.out, ⟨w.heap.size, Nat.le_refl _, HBN.out.size, fun g hg => by simp [Value.ownBlock] at hg, fun g hg => by simp [Value.ownBlock] at hg⟩⟩

set_option maxHeartbeats 3200000 in
set_option maxRecDepth 100000 in
theorem rmake_z (n : Bool) (a : Option Addr) (ca : Nat) (xs : List Int) (m : Bool) (b : Option Addr) (cb : Nat) (ys : List Int) (w : World) (h : Sl w (.slice a xs.length ca) xs) (g : Sl w (.slice b ys.length cb) ys) (lx : xs.length ≤ 281474976710656) (ly : ys.length ≤ 281474976710656) (hx : wchk n xs = 0) (hy : wchk m ys = 0) (h0 : ys.length = 0) (q : Rat) :
    Calls Tryd.prog 38 #[.agg #[.bool n, .slice a xs.length ca], .agg #[.bool m, .slice b ys.length cb]] w (RToldA w 7 q) := by
  have HB : Hid (Below w.heap.size w (((w.alloc (.cells #[.bool n, .slice a xs.length ca] 71)).alloc (.cells #[.bool m, .slice b ys.length cb] 71)).alloc (.cells #[.bool false, .slice none 0 0, .slice none 0 0] 27))) := bt (bt (alloc_later _ _) (alloc_later _ _)) (alloc_later _ _)
  have HZ : Hid (Box (((w.alloc (.cells #[.bool n, .slice a xs.length ca] 71)).alloc (.cells #[.bool m, .slice b ys.length cb] 71)).alloc (.cells #[.bool false, .slice none 0 0, .slice none 0 0] 27)) (w.heap.size + 1 + 1) 27 #[.bool false, .slice none 0 0, .slice none 0 0]) := by
    have e := Box.made ((w.alloc (.cells #[.bool n, .slice a xs.length ca] 71)).alloc (.cells #[.bool m, .slice b ys.length cb] 71)) 27 #[.bool false, .slice none 0 0, .slice none 0 0]
    simp at e
    exact e
  have HN : Hid (Box (((w.alloc (.cells #[.bool n, .slice a xs.length ca] 71)).alloc (.cells #[.bool m, .slice b ys.length cb] 71)).alloc (.cells #[.bool false, .slice none 0 0, .slice none 0 0] 27)) w.heap.size 71 #[.bool n, .slice a xs.length ca]) := Box.later (Box.later (Box.made w _ _) (alloc_later _ _) (by simp)) (alloc_later _ _) (by simp; omega)
  have HM : Hid (Box (((w.alloc (.cells #[.bool n, .slice a xs.length ca] 71)).alloc (.cells #[.bool m, .slice b ys.length cb] 71)).alloc (.cells #[.bool false, .slice none 0 0, .slice none 0 0] 27)) (w.heap.size + 1) 71 #[.bool m, .slice b ys.length cb]) := by
    have e := Box.later (Box.made (w.alloc (.cells #[.bool n, .slice a xs.length ca] 71)) 71 #[.bool m, .slice b ys.length cb]) (alloc_later ((w.alloc (.cells #[.bool n, .slice a xs.length ca] 71)).alloc (.cells #[.bool m, .slice b ys.length cb] 71)) (.cells #[.bool false, .slice none 0 0, .slice none 0 0] 27)) (by simp)
    simp at e
    exact e
  have HS := hid (And.intro (h.later HB.out) (g.later HB.out))
  have HXS : Hid (w.heap.size + 1 + 1 < (((w.alloc (.cells #[.bool n, .slice a xs.length ca] 71)).alloc (.cells #[.bool m, .slice b ys.length cb] 71)).alloc (.cells #[.bool false, .slice none 0 0, .slice none 0 0] 27)).heap.size) := HZ.out.lt
  have HC1 := hid (wcheck_any n _ xs _ HS.out.1 lx)
  rw [hx] at HC1
  have HC2 := hid (fun ww (hb : Below _ (((w.alloc (.cells #[.bool n, .slice a xs.length ca] 71)).alloc (.cells #[.bool m, .slice b ys.length cb] 71)).alloc (.cells #[.bool false, .slice none 0 0, .slice none 0 0] 27)) ww) => wcheck_any m _ ys ww (HS.out.2.later hb) ly)
  rw [hy] at HC2
  have h0' : ((ys.length : Int) == 0) = true := by rw [h0]; rfl
  have HE : Hid ((7 : Int) ≠ 0) := by show _ ≠ _; omega
  clear hx hy h0
  clear h g
  go_enter Tryd.func38, Tryd.ntmps38
  go_wp2_with fail
  refine Calls.mono HC1.out ?_
  generalize (((w.alloc (.cells #[.bool n, .slice a xs.length ca] 71)).alloc (.cells #[.bool m, .slice b ys.length cb] 71)).alloc (.cells #[.bool false, .slice none 0 0, .slice none 0 0] 27)) = X at *
  rintro e w1 ⟨rfl, hb1⟩
  have HB1 := hid hb1
  clear hb1 HC1
  have HC := hid (HC2.out w1 HB1.out)
  obtain ⟨q0, q1, _, _⟩ := (HM.out.later HB1.out HM.out.lt).c2
  clear HC2
  go_wp2_with fail
  refine Calls.mono HC.out ?_
  rintro e w2 ⟨rfl, hb2⟩
  have HB2 := hid (bt HB1.out hb2)
  clear hb2 HC q0 q1
  obtain ⟨q0, q1, _, _⟩ := (HM.out.later HB2.out HM.out.lt).c2
  obtain ⟨y0, y1, y2, f0, f1, f2⟩ := res_box3 HZ.out HB2.out
  have HBN := hid (below_put3 (bt HB.out HB2.out) (w.heap.size + 1 + 1) (by omega) (.bool false) (.slice none 0 0) (.slice none 0 0))
  clear HN HM HZ HS
  go_wp2_with fail
  refine bodyPost_ret (v := .tuple #[.agg #[.bool false, .slice none 0 0, .slice none 0 0], .int .i64 7]) (by simp [results, Tryd.results38, go_sem, y0, y1, y2]) rfl ?_
  exact ⟨false, _, [], _, [], _, rfl, World.ownsRow_nil _ _ _ _, World.ownsRow_nil _ _ _ _, RTells.err HE.out, HBN.out, ⟨w.heap.size, Nat.le_refl _, HBN.out.size, fun g hg => by simp [Value.ownBlock] at hg, fun g hg => by simp [Value.ownBlock] at hg⟩⟩

set_option maxHeartbeats 6400000 in
set_option maxRecDepth 100000 in
theorem rmake_ok (n : Bool) (a : Option Addr) (ca : Nat) (xs : List Int) (m : Bool) (b : Option Addr) (cb : Nat) (ys : List Int) (w : World) (h : Sl w (.slice a xs.length ca) xs) (g : Sl w (.slice b ys.length cb) ys) (lx : xs.length ≤ 281474976710656) (ly : ys.length ≤ 281474976710656) (hx : wchk n xs = 0) (hy : wchk m ys = 0) (h0 : 0 < ys.length) :
    Calls Tryd.prog 38 #[.agg #[.bool n, .slice a xs.length ca], .agg #[.bool m, .slice b ys.length cb]] w (RToldA w 0 (Rat.divInt (wval n xs) (wval m ys))) := by
  obtain ⟨kx, tx, _⟩ := wchk_ok hx
  obtain ⟨ky, ty, _⟩ := wchk_ok hy
  have wx := h.wd
  have wy := g.wd
  have HB : Hid (Below w.heap.size w (((w.alloc (.cells #[.bool n, .slice a xs.length ca] 71)).alloc (.cells #[.bool m, .slice b ys.length cb] 71)).alloc (.cells #[.bool false, .slice none 0 0, .slice none 0 0] 27))) := bt (bt (alloc_later _ _) (alloc_later _ _)) (alloc_later _ _)
  have HZ : Hid (Box (((w.alloc (.cells #[.bool n, .slice a xs.length ca] 71)).alloc (.cells #[.bool m, .slice b ys.length cb] 71)).alloc (.cells #[.bool false, .slice none 0 0, .slice none 0 0] 27)) (w.heap.size + 1 + 1) 27 #[.bool false, .slice none 0 0, .slice none 0 0]) := by
    have e := Box.made ((w.alloc (.cells #[.bool n, .slice a xs.length ca] 71)).alloc (.cells #[.bool m, .slice b ys.length cb] 71)) 27 #[.bool false, .slice none 0 0, .slice none 0 0]
    simp at e
    exact e
  have HN : Hid (Box (((w.alloc (.cells #[.bool n, .slice a xs.length ca] 71)).alloc (.cells #[.bool m, .slice b ys.length cb] 71)).alloc (.cells #[.bool false, .slice none 0 0, .slice none 0 0] 27)) w.heap.size 71 #[.bool n, .slice a xs.length ca]) := Box.later (Box.later (Box.made w _ _) (alloc_later _ _) (by simp)) (alloc_later _ _) (by simp; omega)
  have HM : Hid (Box (((w.alloc (.cells #[.bool n, .slice a xs.length ca] 71)).alloc (.cells #[.bool m, .slice b ys.length cb] 71)).alloc (.cells #[.bool false, .slice none 0 0, .slice none 0 0] 27)) (w.heap.size + 1) 71 #[.bool m, .slice b ys.length cb]) := by
    have e := Box.later (Box.made (w.alloc (.cells #[.bool n, .slice a xs.length ca] 71)) 71 #[.bool m, .slice b ys.length cb]) (alloc_later ((w.alloc (.cells #[.bool n, .slice a xs.length ca] 71)).alloc (.cells #[.bool m, .slice b ys.length cb] 71)) (.cells #[.bool false, .slice none 0 0, .slice none 0 0] 27)) (by simp)
    simp at e
    exact e
  have HS := hid (And.intro (h.later HB.out) (g.later HB.out))
  have HXS : Hid (w.heap.size + 1 + 1 < (((w.alloc (.cells #[.bool n, .slice a xs.length ca] 71)).alloc (.cells #[.bool m, .slice b ys.length cb] 71)).alloc (.cells #[.bool false, .slice none 0 0, .slice none 0 0] 27)).heap.size) := HZ.out.lt
  have HC1 := hid (wcheck_any n _ xs _ HS.out.1 lx)
  rw [hx] at HC1
  have HC2 := hid (fun ww (hb : Below _ (((w.alloc (.cells #[.bool n, .slice a xs.length ca] 71)).alloc (.cells #[.bool m, .slice b ys.length cb] 71)).alloc (.cells #[.bool false, .slice none 0 0, .slice none 0 0] 27)) ww) => wcheck_any m _ ys ww (HS.out.2.later hb) ly)
  rw [hy] at HC2
  have h0' : ((ys.length : Int) == 0) = false := beq_eq_false_iff_ne.2 (by omega)
  have HPY : Hid (0 < val ys) := by have := val_pos' wy ty h0; show _ < _; omega
  have HG : Hid (0 < gcdI (val xs) (val ys) ∧ gcdI (val xs) (val ys) ≤ val ys ∧ val ys < 4294967296 ^ 2048) := ⟨gcd_pos_right HPY.out, gcd_le_right HPY.out, below2048 wy ky⟩
  have HMP := hid (make_parts (n := n) (m := m) (val_nonneg wx) HPY.out)
  have HTT := hid (And.intro tx ty)
  obtain ⟨s, hs⟩ : ∃ s, (!(n == m)) = s := ⟨_, rfl⟩
  have HSG := hid (show (n != m) = s from hs)
  clear h g hx hy h0 tx ty
  go_enter Tryd.func38, Tryd.ntmps38
  go_wp2_with fail
  refine Calls.mono HC1.out ?_
  generalize (((w.alloc (.cells #[.bool n, .slice a xs.length ca] 71)).alloc (.cells #[.bool m, .slice b ys.length cb] 71)).alloc (.cells #[.bool false, .slice none 0 0, .slice none 0 0] 27)) = X at *
  rintro e w1 ⟨rfl, hb1⟩
  have HB1 := hid hb1
  clear hb1 HC1
  have HC := hid (HC2.out w1 HB1.out)
  obtain ⟨q0, q1, _, _⟩ := (HM.out.later HB1.out HM.out.lt).c2
  clear HC2
  go_wp2_with fail
  refine Calls.mono HC.out ?_
  rintro e w2 ⟨rfl, hb2⟩
  have HB2 := hid (bt HB1.out hb2)
  clear hb2 HC q0 q1
  have HK : Hid (∀ V, Below X.heap.size X V → V.cell? ⟨w.heap.size, 0, none⟩ = some (.bool n) ∧ V.cell? ⟨w.heap.size, 1, none⟩ = some (.slice a xs.length ca) ∧ V.cell? ⟨w.heap.size + 1, 0, none⟩ = some (.bool m) ∧ V.cell? ⟨w.heap.size + 1, 1, none⟩ = some (.slice b ys.length cb)) := fun V hb => by
    obtain ⟨p0, p1, _, _⟩ := (HN.out.later hb HN.out.lt).c2
    obtain ⟨q0, q1, _, _⟩ := (HM.out.later hb HM.out.lt).c2
    exact ⟨p0, p1, q0, q1⟩
  have HCM := hid (told1_at _ HK.out w2 HB2.out (rcommon_any _ _ xs ys w2 (HS.out.1.later HB2.out) (HS.out.2.later HB2.out) (by omega) (by omega) HTT.out.1 HTT.out.2))
  obtain ⟨p0, p1, q0, q1⟩ := HK.out w2 HB2.out
  go_wp2_with fail
  refine Calls.mono HCM.out ?_
  rintro e w3 ⟨a3, z3, c3, rfl, HE3, _, hb3, HS3⟩
  have hb3d := hb3.drew
  have HO3 := hid (HE3.out.later (Below.drew (Below.refl _ w3)))
  clear HCM HE3 HS3 p0 p1 q0 q1
  have hs0 := HK.out _ hb3d
  have HQX := hid (fun ww (hv' : Below X.heap.size X ww) (h : One X ww (.slice a3 z3.length c3) z3 (gcdI (val xs) (val ys))) => quot_in _ HK.out hv' (HS.out.1.later hv') (by omega) HTT.out.1 h HG.out.1 (by have := HG.out; omega))
  have HQY := hid (fun ww (hv' : Below X.heap.size X ww) (h : One X ww (.slice a3 z3.length c3) z3 (gcdI (val xs) (val ys))) => quot_in _ HK.out hv' (HS.out.2.later hv') (by omega) HTT.out.2 h HG.out.1 (by have := HG.out; omega))
  have HTL := hid (fun (ww : World) (hb : Below X.heap.size X ww) (a4 : Option Addr) (z4 : List Int) (c4 : Nat) (a5 : Option Addr) (z5 : List Int) (c5 : Nat) (g1 : One X ww (.slice a4 z4.length c4) z4 (val xs / gcdI (val xs) (val ys))) (g2 : One X ww (.slice a5 z5.length c5) z5 (val ys / gcdI (val xs) (val ys))) (hc : Cut X (.slice a4 z4.length c4) (.slice a5 z5.length c5) ww) => rtold_cut (n := s) (q := Rat.divInt (wval n xs) (wval m ys)) _ HK.out hb g1 g2 hc HMP.out.1 HMP.out.2.1 (by rw [← HSG.out]; exact HMP.out.2.2))
  have hq0 : w.heap.size + 1 + 1 ≠ w.heap.size := by omega
  have hq1 : w.heap.size + 1 + 1 ≠ w.heap.size + 1 := by omega
  clear HTT HG HPY
  go_wp2_with fail
  go_region_held3 (fun V : World => V.cell? ⟨w.heap.size, 0, none⟩ = some (.bool n) ∧ V.cell? ⟨w.heap.size, 1, none⟩ = some (.slice a xs.length ca) ∧ V.cell? ⟨w.heap.size + 1, 0, none⟩ = some (.bool m) ∧ V.cell? ⟨w.heap.size + 1, 1, none⟩ = some (.slice b ys.length cb)) (first | exact hs9 | exact hs5 | exact hs4 | exact hs0 | (simp [hs9, World.cell?_setCell_far, hq0]))
    (first
      | (go_at_call 52; with_reducible refine Calls.mono (HTL.out _ hb5 _ _ _ _ _ _ (HE4.out.1.later HS5.out) HE5.out.1 (cut_two hb3d.size HS4.out.size HS5.out.size HE4.out.2 HE5.out.2)) ?_; rintro e w9 ⟨k9, a8, z8, c8, a9, z9, c9, code, rfl, HE9, hs9, hb9⟩; obtain ⟨y0, y1, y2, f0, f1, f2⟩ := res_box3 HZ.out hb9)
      | (go_at_call 53; with_reducible refine Calls.mono (HQY.out _ hb4 (HO3.out.later HS4.out)) ?_; rintro e w5 ⟨a5, z5, c5, rfl, HE5, hs5, hb5, HS5⟩)
      | (go_at_call 53; with_reducible refine Calls.mono (HQX.out _ hb3d HO3.out) ?_; rintro e w4 ⟨a4, z4, c4, rfl, HE4, hs4, hb4, HS4⟩))
  all_goals
    have HBW := hid (bt HB.out hb9)
    have HR := hid HE9.out
    clear HK HQX HQY HTL HE4 HE5 HE9 HS4 HS5 HO3 hs0 hs4 hs5 hs9 hb3 hb3d hb4 hb5 hb9 HMP HSG
    go_wp2_with fail
    refine bodyPost_ret (v := .tuple #[.agg #[.bool k9, .slice a8 z8.length c8, .slice a9 z9.length c9], .int .i64 code]) (by simp [results, Tryd.results38, go_sem, y0, y1, y2]) rfl ?_
    exact RToldA.put HR.out (w.heap.size + 1 + 1) HXS.out (by omega) HBW.out _ _ _

theorem rmake_any (n : Bool) (a : Option Addr) (ca : Nat) (xs : List Int) (m : Bool) (b : Option Addr) (cb : Nat) (ys : List Int) (w : World) (h : Sl w (.slice a xs.length ca) xs) (g : Sl w (.slice b ys.length cb) ys) (lx : xs.length ≤ 281474976710656) (ly : ys.length ≤ 281474976710656) :
    Calls Tryd.prog 38 #[.agg #[.bool n, .slice a xs.length ca], .agg #[.bool m, .slice b ys.length cb]] w (RToldA w (mkErr n xs m ys) (Rat.divInt (wval n xs) (wval m ys))) := by
  unfold mkErr
  by_cases hb : wboth n xs m ys = 0
  · obtain ⟨hx, hy⟩ := wboth_ok hb
    rw [if_pos hb]
    by_cases h0 : ys.length = 0
    · rw [if_pos h0]
      exact rmake_z n a ca xs m b cb ys w h g lx ly hx hy h0 _
    · rw [if_neg h0]
      exact rmake_ok n a ca xs m b cb ys w h g lx ly hx hy (by omega)
  · rw [if_neg hb]
    unfold wboth at hb ⊢
    by_cases hx : wchk n xs = 0
    · rw [if_pos hx] at hb ⊢
      exact rmake_e2 n a ca xs m b cb ys w h g lx ly hx hb _
    · rw [if_neg hx]
      exact rmake_e1 n a ca xs m b cb ys w h g lx ly hx _
end Go.Proofs.YtggmdocpfkkclaaDoor

/- Fractions: ratio.Small. -/
namespace Go.Proofs.YtggmdocpfkkclaaDoor
open Go.RowKit
set_option linter.unusedVariables false

theorem small_err {n m : Bool} {zs us : List Int} {y : Int} (l1 : zs.length ≤ 2) (t1 : Trimmed zs) (s1 : n = false ∨ 0 < zs.length) (w2 : Wd us) (l2 : us.length ≤ 2) (t2 : Trimmed us) (s2 : m = false ∨ 0 < us.length) (v2 : wval m us = y) : mkErr n zs m us = if y = 0 then 7 else 0 := by
  unfold mkErr
  rw [wboth_good (wchk_good (by omega) t1 s1) (wchk_good (by omega) t2 s2), if_pos rfl]
  by_cases c : us.length = 0
  · have e0 : val us = 0 := trimmed_zero' c
    have : y = 0 := by rw [← v2]; cases m <;> simp [wval, e0]
    rw [if_pos c, if_pos this]
  · have e0 := val_pos' w2 t2 (by omega)
    have : ¬ y = 0 := by rw [← v2]; cases m <;> simp [wval] <;> omega
    rw [if_neg c, if_neg this]

set_option maxHeartbeats 1600000 in
set_option maxRecDepth 100000 in
theorem rsmall_any (x y : Int) (w : World) (x0 : -9223372036854775808 ≤ x) (x1 : x ≤ 9223372036854775807) (y0 : -9223372036854775808 ≤ y) (y1 : y ≤ 9223372036854775807) :
    Calls Tryd.prog 23 #[.int .i64 x, .int .i64 y] w (RToldA w (if y = 0 then 7 else 0) (Rat.divInt x y)) := by
  have HB : Hid (Below w.heap.size w (w.alloc (.cells #[.bool false, .slice none 0 0, .slice none 0 0] 27))) := alloc_later _ _
  have HZ : Hid (Box (w.alloc (.cells #[.bool false, .slice none 0 0, .slice none 0 0] 27)) w.heap.size 27 #[.bool false, .slice none 0 0, .slice none 0 0]) := Box.made w _ _
  have HO1 := hid (wof_any x (w.alloc (.cells #[.bool false, .slice none 0 0, .slice none 0 0] 27)) x0 x1)
  obtain ⟨E, hE⟩ : ∃ E : Int, (if y = 0 then (7 : Int) else 0) = E := ⟨_, rfl⟩
  rw [hE]
  have HE := hid hE
  clear hE
  go_enter Tryd.func23, Tryd.ntmps23
  go_wp2_with fail
  refine Calls.mono HO1.out ?_
  generalize (w.alloc (.cells #[.bool false, .slice none 0 0, .slice none 0 0] 27)) = X at *
  rintro e w1 ⟨n1, v1, z1, rfl, o1, wd1, t1, l1, s1, hv1, hb1⟩
  obtain ⟨a1, c1, hs1⟩ := own_slice' o1
  subst hs1
  have HO2 := hid (wof_any y w1 y0 y1)
  have HS1 := hid (Sl.own o1 wd1)
  have HV1 := hid (And.intro t1 (And.intro s1 hv1))
  have HB1 := hid hb1
  clear o1 wd1 t1 s1 hv1 hb1 HO1
  go_wp2_with fail
  refine Calls.mono HO2.out ?_
  rintro e w2 ⟨n2, v2, z2, rfl, o2, wd2, t2, l2, s2, hv2, hb2⟩
  obtain ⟨a2, c2, hs2⟩ := own_slice' o2
  subst hs2
  have HM := hid (rmake_any n1 a1 c1 z1 n2 a2 c2 z2 w2 (HS1.out.later hb2) (Sl.own o2 wd2) (by omega) (by omega))
  rw [small_err l1 HV1.out.1 HV1.out.2.1 wd2 l2 t2 s2 hv2, HE.out, HV1.out.2.2, hv2] at HM
  have HB2 := hid (bt HB1.out hb2)
  clear o2 wd2 t2 s2 hv2 hb2 HO2 HS1 HV1
  go_wp2_with fail
  refine Calls.mono HM.out ?_
  rintro e w3 ⟨k3, v3, z3, u3, r3, code, rfl, o3, o4, t3, hb3, hc3⟩
  obtain ⟨a3, c3, hs3⟩ := own_slice' o3
  subst hs3
  obtain ⟨a4, c4, hs4⟩ := own_slice' o4
  subst hs4
  have HR := hid (And.intro o3 (And.intro o4 (And.intro t3 hc3)))
  obtain ⟨y0', y1', y2', f0, f1, f2⟩ := res_box3 HZ.out (bt HB2.out hb3)
  have HBW := hid (bt HB.out (bt HB2.out hb3))
  have HLT : Hid (w.heap.size < w2.heap.size) := Nat.lt_of_lt_of_le HZ.out.lt HB2.out.size
  clear o3 o4 t3 hb3 hc3 HM
  go_wp2_with fail
  refine bodyPost_ret (v := .tuple #[.agg #[.bool k3, .slice a3 z3.length c3, .slice a4 r3.length c4], .int .i64 code]) (by simp [results, Tryd.results23, go_sem, y0', y1', y2']) rfl ?_
  exact RToldA.put HR.out w.heap.size HLT.out (Nat.le_refl _) HBW.out _ _ _
end Go.Proofs.YtggmdocpfkkclaaDoor

/- The laws' small; no float between a float and the next; real.Compare and real.Within of a float and the fraction that it is. -/
namespace Go.Proofs.YtggmdocpfkkclaaDoor
open Go.RowKit
set_option linter.unusedVariables false

/-- A fraction told alone. -/
def RVal6 (w : World) (e : Int) (q : Rat) (x : Ending) (w' : World) : Prop :=
  ∃ n v xs u ys code, x = .returned (.agg #[.bool n, v, u]) ∧ w'.ownsRow w.heap.size 53 1 v xs.length (xs.map (Value.int .u32)) ∧ w'.ownsRow w.heap.size 53 1 u ys.length (ys.map (Value.int .u32)) ∧ RTells e q n xs ys code ∧ Below w.heap.size w w'
theorem RVal6.put {w U w3 : World} {e : Int} {q : Rat} {k : Bool} {v u : Value} {zs ds : List Int} {code : Int} (h : w3.ownsRow U.heap.size 53 1 v zs.length (zs.map (Value.int .u32)) ∧ w3.ownsRow U.heap.size 53 1 u ds.length (ds.map (Value.int .u32)) ∧ RTells e q k zs ds code) (b : Nat) (hb : b < U.heap.size) (hw : w.heap.size ≤ b) (hbw : Below w.heap.size w w3) (x y z : Value) :
    RVal6 w e q (.returned (.agg #[.bool k, v, u])) (((w3.setCell ⟨b, 0, none⟩ x).setCell ⟨b, 1, none⟩ y).setCell ⟨b, 2, none⟩ z) :=
  ⟨k, v, zs, u, ds, code, rfl, owns_base (own_put3 h.1 b (fun g hg => by have := (World.ownsRow.lt h.1 g hg).1; omega) _ _ _) (by omega), owns_base (own_put3 h.2.1 b (fun g hg => by have := (World.ownsRow.lt h.2.1 g hg).1; omega) _ _ _) (by omega), h.2.2, below_put3 hbw b hw _ _ _⟩
theorem ext_same {x : Nat} {n m : Bool} {xs ys us vs : List Int} (wx : Wd xs) (wy : Wd ys) (wu : Wd us) (wv : Wd vs) (h : ExT x n xs ys) (g : ExT x m us vs) : n = m ∧ xs = us ∧ ys = vs := by
  have t1 := rtells_self wx wy h.1
  have t2 := rtells_self wu wv g.1
  rw [h.2.2] at t1
  rw [g.2.2] at t2
  obtain ⟨a, b, c, _⟩ := t1.same t2
  exact ⟨a, b, c⟩
theorem rcmp_self {n : Bool} {xs ys : List Int} (h : rchk n xs ys = 0) : rcmp n xs ys n xs ys = 0 ∧ rboth n xs ys n xs ys = 0 := by
  have hb := rboth_good h h
  unfold rcmp
  rw [if_pos hb]
  exact ⟨cmpI_eq rfl, hb⟩

end Go.Proofs.YtggmdocpfkkclaaDoor

/- real.Within of a float, the fraction that it is, and nothing for the bound. -/
namespace Go.Proofs.YtggmdocpfkkclaaDoor
open Go.RowKit
set_option linter.unusedVariables false

theorem fq_zero : fq 0 = 0 := by
  unfold fq
  have e : fcount 0 = 0 := by decide
  rw [e]
  simp [sg, Rat.zero_divInt]
theorem rat_less0 (q : Rat) : q - 0 = q := by grind
theorem rat_more0 (q : Rat) : q + 0 = q := by grind
/-- What is told of a fraction is the fraction that was told before. -/
theorem told_same {q : Rat} {n m : Bool} {xs ys us vs : List Int} {c : Int} (wx : Wd xs) (wy : Wd ys) (h : rchk n xs ys = 0) (hq : rq n xs ys = q) (g : RTells 0 q m us vs c) : m = n ∧ us = xs ∧ vs = ys ∧ c = 0 := by
  have t := rtells_self wx wy h
  rw [hq] at t
  exact g.same t
/-- Three cells of a box written: its own, another box, rows, what was there. -/
theorem put3_box {W : World} {b t : Nat} {u0 u1 u2 : Value} (h : Box W b t #[u0, u1, u2]) (v0 v1 v2 : Value) : Box (((W.setCell ⟨b, 0, none⟩ v0).setCell ⟨b, 1, none⟩ v1).setCell ⟨b, 2, none⟩ v2) b t #[v0, v1, v2] := ((h.set 0 v0).set 1 v1).set 2 v2
theorem put3_far {W : World} {b t b' : Nat} {vs : Array Value} (h : Box W b t vs) (hne : b ≠ b') (v0 v1 v2 : Value) : Box (((W.setCell ⟨b', 0, none⟩ v0).setCell ⟨b', 1, none⟩ v1).setCell ⟨b', 2, none⟩ v2) b t vs := ((h.other ⟨b', 0, none⟩ v0 hne).other ⟨b', 1, none⟩ v1 hne).other ⟨b', 2, none⟩ v2 hne
theorem put3_row {W : World} {base n b t : Nat} {v : Value} {xs : List Value} {vs : Array Value} (h : W.ownsRow base 53 1 v n xs) (hb : Box W b t vs) (hne : 53 ≠ t) (v0 v1 v2 : Value) : (((W.setCell ⟨b, 0, none⟩ v0).setCell ⟨b, 1, none⟩ v1).setCell ⟨b, 2, none⟩ v2).ownsRow base 53 1 v n xs := own_put3 h b (fun g hg => own_ne_box h hb hne g hg) v0 v1 v2

end Go.Proofs.YtggmdocpfkkclaaDoor

/- What the document's examples of layer 7 are, call by call. -/
namespace Go.Proofs.YtggmdocpfkkclaaDoor
open Go.RowKit
set_option linter.unusedVariables false

theorem mul_over {re im : Nat} (h : MulR 9214871658872686752 0 0 9214871658872686752 re im) : re = 0 ∧ im = 9218868437227405312 := by
  obtain ⟨x, y, u, v, h1, h2, h3, h4, h5, h6⟩ := h
  obtain rfl := h1.eq (show floatBits .mul .f64 9214871658872686752 0 = some 0 by decide +kernel)
  obtain rfl := h2.eq (show floatBits .mul .f64 0 9214871658872686752 = some 0 by decide +kernel)
  obtain rfl := h4.eq (show floatBits .mul .f64 9214871658872686752 9214871658872686752 = some 9218868437227405312 by decide +kernel)
  obtain rfl := h5.eq (show floatBits .mul .f64 0 0 = some 0 by decide +kernel)
  exact ⟨h3.eq (show floatBits .sub .f64 0 0 = some 0 by decide +kernel), h6.eq (show floatBits .add .f64 9218868437227405312 0 = some 9218868437227405312 by decide +kernel)⟩
theorem abs_large {r : Nat} (h : AbsR (9094988921128908188 % 9223372036854775808) (9094988921128908188 % 9223372036854775808) r) : r = 9097522851029299729 := by
  rcases h with ⟨h0, _⟩ | ⟨_, h1, _⟩ | ⟨_, _, m, n, h2, h3⟩
  · exact absurd h0 (by decide)
  · exact absurd h1 (by decide)
  · rcases h2 with ⟨h2, _, _⟩ | ⟨_, rfl, rfl⟩
    · exact absurd h2 (by decide)
    · rcases h3 with ⟨h3, _⟩ | ⟨_, q, p, s, t, g1, g2, g3, g4, g5⟩
      · exact absurd h3 (by decide)
      · obtain rfl := g1.eq (show floatBits .quo .f64 9094988921128908188 9094988921128908188 = some 4607182418800017408 by decide +kernel)
        obtain rfl := g2.eq (show floatBits .mul .f64 4607182418800017408 4607182418800017408 = some 4607182418800017408 by decide +kernel)
        obtain rfl := g3.eq (show floatBits .add .f64 4607182418800017408 4607182418800017408 = some 4611686018427387904 by decide +kernel)
        obtain rfl := g4.eq (show Ieee.double.sqrt 4611686018427387904 = some 4609047870845172685 by decide +kernel)
        exact g5.eq (show floatBits .mul .f64 9094988921128908188 4609047870845172685 = some 9097522851029299729 by decide +kernel)
theorem abs_nought {r : Nat} (h : AbsR (9223372036854775808 % 9223372036854775808) (9223372036854775808 % 9223372036854775808) r) : r = 0 := by
  rcases h with ⟨h0, _⟩ | ⟨_, h1, _⟩ | ⟨_, _, m, n, h2, h3⟩
  · exact absurd h0 (by decide)
  · exact absurd h1 (by decide)
  · rcases h2 with ⟨h2, _, _⟩ | ⟨_, rfl, rfl⟩
    · exact absurd h2 (by decide)
    · rcases h3 with ⟨_, h3⟩ | ⟨h3, _⟩
      · exact h3
      · exact absurd (by decide) h3
theorem abs_nan {r : Nat} (h : AbsR (9221120237041090561 % 9223372036854775808) (9218868437227405312 % 9223372036854775808) r) : r = 9221120237041090561 := by
  rcases h with ⟨_, h0⟩ | ⟨h1, _⟩ | ⟨h1, _⟩
  · exact h0
  · exact absurd h1 (by decide)
  · exact absurd h1 (by decide)
theorem abs_inf {r : Nat} (h : AbsR (18442240474082181120 % 9223372036854775808) (4611686018427387904 % 9223372036854775808) r) : r = 9218868437227405312 := by
  rcases h with ⟨h0, _⟩ | ⟨_, _, h1⟩ | ⟨_, h1, _⟩
  · exact absurd h0 (by decide)
  · exact h1
  · exact absurd h1 (by decide)
theorem negs : fneg 0 = 9223372036854775808 ∧ fneg 9218868437227405312 = 18442240474082181120 ∧ fneg 9221120237041090561 = 18444492273895866369 := ⟨by decide, by decide, by decide⟩
set_option maxHeartbeats 800000 in
set_option maxRecDepth 100000 in
theorem signbit_yes (w : World) : Calls Tryd.prog 19 #[.float .f64 9223372036854775808] w fun e w' => e = .returned (.bool true) ∧ w' = w := by
  have H : ∀ V, (callFunc 24 #[.float .f64 9223372036854775808]).run Tryd.prog V = .ok (.value (.int .u64 9223372036854775808)) V := fun V => bits_run 9223372036854775808 V
  go_enter Tryd.func19, Tryd.ntmps19
  go_wp2
  go_ret
  refine ⟨?_, rfl⟩
  show Ending.returned (Value.bool (decide (wrap64 9223372036854775808 < 0))) = _
  rw [show decide (wrap64 9223372036854775808 < 0) = true by decide +kernel]
set_option maxHeartbeats 800000 in
set_option maxRecDepth 100000 in
theorem signbit_no (w : World) : Calls Tryd.prog 19 #[.float .f64 0] w fun e w' => e = .returned (.bool false) ∧ w' = w := by
  have H : ∀ V, (callFunc 24 #[.float .f64 0]).run Tryd.prog V = .ok (.value (.int .u64 0)) V := fun V => bits_run 0 V
  go_enter Tryd.func19, Tryd.ntmps19
  go_wp2
  go_ret
  exact ⟨rfl, rfl⟩
theorem pthird_chk : rchk false [1] [3] = 0 := by decide
theorem pthird_q : rq false [1] [3] = Rat.divInt 1 3 := by
  show Rat.divInt (wval false [1]) (val [3]) = _
  rw [show wval false [1] = 1 by decide, show val [3] = 3 by decide]
theorem pnought_chk : rchk false [] [1] = 0 := by decide
theorem pnought_q : rq false [] [1] = Rat.divInt 0 1 := by
  show Rat.divInt (wval false []) (val [1]) = _
  rw [show wval false [] = 0 by decide, show val [1] = 1 by decide]
theorem pthird_mid : Mid (1 * 2 ^ zP) 3 4599676419421066581 := ⟨by decide, fun _ => by decide +kernel, fun _ => by decide +kernel, fun _ => by decide +kernel, fun _ => by decide +kernel⟩
theorem pthird_near {x : Nat} {c : Int} (h : NrT false [1] [3] x c) : x = 4599676419421066581 ∧ c = 0 := by
  rcases h with ⟨h0, _⟩ | ⟨_, X, Y, s, hX, hY, hp, hm, h⟩
  · exact absurd pthird_chk h0
  · have eX : X = 1 := by have : val [1] = 1 := by decide
                          omega
    have eY : Y = 3 := by have : val [3] = 3 := by decide
                          omega
    subst eX; subst eY
    have := hm.unique hp pthird_mid
    subst this
    rcases h with ⟨h, _⟩ | ⟨_, hc, hx⟩
    · exact absurd h (by decide)
    · exact ⟨by rw [hx]; rfl, hc⟩
theorem pnought_near {x : Nat} {c : Int} (h : NrT false [] [1] x c) : x = 0 ∧ c = 0 := by
  rcases h with ⟨h0, _⟩ | ⟨_, X, Y, s, hX, hY, hp, hm, h⟩
  · exact absurd pnought_chk h0
  · have eX : X = 0 := by have : val ([] : List Int) = 0 := by decide
                          omega
    subst eX
    have := mid_nil hp hm
    subst this
    rcases h with ⟨h, _⟩ | ⟨_, hc, hx⟩
    · exact absurd h (by decide)
    · exact ⟨by rw [hx]; rfl, hc⟩
/-- 2^1024, as words. -/
def bigW : List Int := (List.replicate 33 (0 : Int)).set 32 1
theorem big_chk : rchk false bigW [1] = 0 := by decide +kernel
theorem big_len : bigW.length = 33 := by decide
theorem big_wd : Wd bigW := by
  intro z hz
  have h : ∀ z ∈ bigW, 0 ≤ z ∧ z ≤ 4294967295 := by decide
  exact h z hz
theorem pbig_val : val bigW = ((2 ^ 1024 : Nat) : Int) := by decide +kernel
theorem big_mid : Mid (2 ^ 1024 * 2 ^ zP) 1 9218868437227405312 := ⟨by decide, fun h => absurd h (by decide), fun _ => by decide +kernel, fun h => absurd h (by decide), fun _ _ => by decide⟩
theorem big_near {x : Nat} {c : Int} (h : NrT false bigW [1] x c) : c = 9 := by
  rcases h with ⟨h0, _⟩ | ⟨_, X, Y, s, hX, hY, hp, hm, h⟩
  · exact absurd big_chk h0
  · have eX : X = 2 ^ 1024 := Int.ofNat.inj (hX.symm.trans pbig_val)
    have eY : Y = 1 := by have : val [1] = 1 := by decide
                          omega
    subst eY
    rw [eX] at hm
    have := hm.unique hp big_mid
    rcases h with ⟨_, _, h⟩ | ⟨h, _⟩
    · exact h
    · rw [this] at h; exact absurd h (by decide)

end Go.Proofs.YtggmdocpfkkclaaDoor

/- What the calls of PartsKnown tell. -/
namespace Go.Proofs.YtggmdocpfkkclaaDoor
open Go.RowKit
set_option linter.unusedVariables false

theorem prtells_self {n : Bool} {xs ys : List Int} (wx : Wd xs) (wy : Wd ys) (h : rchk n xs ys = 0) : RTells 0 (rq n xs ys) n xs ys 0 := by
  obtain ⟨lx, ly, tx, ty, y0, s0, g⟩ := rchk_ok h
  have hd := val_pos' wy ty y0
  obtain ⟨m, us, vs, c, e1, e2, e3, r⟩ := rtells_of (n := n) wx tx wy ty hd g
  have e4 := e1 none 0 none 0
  unfold rtoldV at e4
  rw [if_neg (by omega)] at e4
  have hc : c = 0 := by
    simp at e4
    exact e4.2.symm
  subst hc
  have hm : (n && decide (0 < xs.length)) = n := by
    rcases s0 with rfl | s0
    · rfl
    · rw [decide_eq_true s0, Bool.and_true]
  rw [hm] at e4
  have hn : n = m := by simp at e4; exact e4
  subst hn
  rw [if_pos rfl] at e2 e3
  subst e2 e3
  exact r
theorem prtells_lit {e : Int} {q : Rat} {n m : Bool} {xs ys us vs : List Int} {c : Int} (h : RTells e q n xs ys c) (he : e = 0) (wu : Wd us) (wv : Wd vs) (hk : rchk m us vs = 0) (hq : rq m us vs = q) : n = m ∧ xs = us ∧ ys = vs ∧ c = 0 := by
  subst he
  have g := prtells_self wu wv hk
  rw [hq] at g
  exact h.same g
theorem psmall_kn (x y : Int) (w : World) (x0 : -9223372036854775808 ≤ x) (x1 : x ≤ 9223372036854775807) (y0 : -9223372036854775808 ≤ y) (y1 : y ≤ 9223372036854775807) (hy : y ≠ 0) (n : Bool) (ps qs : List Int) (wp : Wd ps) (wq : Wd qs) (hk : rchk n ps qs = 0) (hq : rq n ps qs = Rat.divInt x y) :
    Calls Tryd.prog 23 #[.int .i64 x, .int .i64 y] w fun e w' => ∃ a ca b cb, e = .returned (.tuple #[.agg #[.bool n, .slice a ps.length ca, .slice b qs.length cb], .int .i64 0]) ∧ Hid (Sl w' (.slice a ps.length ca) ps ∧ Sl w' (.slice b qs.length cb) qs) ∧ Below w.heap.size w w' := by
  have h := rsmall_any x y w x0 x1 y0 y1
  rw [if_neg hy] at h
  refine Calls.mono h ?_
  rintro e w' ⟨n', v, xs', u, ys', c1, rfl, o1, o2, t1, hb, _⟩
  obtain ⟨rfl, rfl, rfl, rfl⟩ := prtells_lit t1 rfl wp wq hk hq
  obtain ⟨a, ca, rfl⟩ := own_slice' o1
  obtain ⟨b, cb, rfl⟩ := own_slice' o2
  exact ⟨a, ca, b, cb, rfl, ⟨Sl.own o1 wp, Sl.own o2 wq⟩, hb⟩
theorem psmall_third (w : World) : Calls Tryd.prog 23 #[.int .i64 1, .int .i64 3] w fun e w' => ∃ a ca b cb, e = .returned (.tuple #[.agg #[.bool false, .slice a 1 ca, .slice b 1 cb], .int .i64 0]) ∧ Hid (Sl w' (.slice a 1 ca) [1] ∧ Sl w' (.slice b 1 cb) [3]) ∧ Below w.heap.size w w' :=
  psmall_kn 1 3 w (by decide) (by decide) (by decide) (by decide) (by decide) false [1] [3] (Wd.one ⟨by decide, by decide⟩) (Wd.one ⟨by decide, by decide⟩) pthird_chk pthird_q
theorem psmall_nought (w : World) : Calls Tryd.prog 23 #[.int .i64 0, .int .i64 1] w fun e w' => ∃ a ca b cb, e = .returned (.tuple #[.agg #[.bool false, .slice a 0 ca, .slice b 1 cb], .int .i64 0]) ∧ Hid (Sl w' (.slice a 0 ca) [] ∧ Sl w' (.slice b 1 cb) [1]) ∧ Below w.heap.size w w' :=
  psmall_kn 0 1 w (by decide) (by decide) (by decide) (by decide) (by decide) false [] [1] Wd.nil (Wd.one ⟨by decide, by decide⟩) pnought_chk pnought_q
theorem psl_nil (w : World) : Sl w (.slice none 0 0) [] := ⟨none, 0, rfl, rfl, Wd.nil, .inl rfl, Nat.le_refl _, Nat.zero_le _, fun _ => rfl⟩
theorem pnear_third (a : Option Addr) (ca : Nat) (b : Option Addr) (cb : Nat) (c : Option Addr) (cc : Nat) (d : Option Addr) (cd : Nat) (w : World) (sx : Sl w (.slice a 1 ca) [1]) (sy : Sl w (.slice b 1 cb) [3]) (su : Sl w (.slice c 0 cc) []) (sv : Sl w (.slice d 1 cd) [1]) :
    Calls Tryd.prog 9 #[.agg #[.bool false, .slice a 1 ca, .slice b 1 cb, .bool false, .slice c 0 cc, .slice d 1 cd]] w fun e w' => e = .returned (.tuple #[.complex .f64 4599676419421066581 0, .int .i64 0]) ∧ Below w.heap.size w w' := by
  refine Calls.mono (pnearest_any false a ca [1] b cb [3] false c cc [] d cd [1] w sx sy su sv) ?_
  rintro e w' ⟨p, q, code, rfl, h, hb⟩
  rcases h with ⟨rfl, h1, h2⟩ | ⟨h0, _, _, ⟨h, _⟩ | ⟨x, hn⟩ | ⟨x, hn⟩⟩
  · rw [(pthird_near h1).1, (pnought_near h2).1]
    exact ⟨rfl, hb⟩
  · exfalso
    apply h
    unfold gchk fstE
    rw [pthird_chk, pnought_chk]
    rfl
  · exact absurd (pthird_near hn).2 h0
  · exact absurd (pnought_near hn).2 h0
theorem pnone_chk : rchk false [] [] = 11 := by decide
theorem pnone_near {x : Nat} {c : Int} (h : NrT false [] [] x c) : c = 11 := by
  rcases h with ⟨_, _, h⟩ | ⟨h, _⟩
  · rw [h]; exact pnone_chk
  · exact absurd (pnone_chk.symm.trans h) (by decide)
theorem pnear_none (w : World) :
    Calls Tryd.prog 9 #[.agg #[.bool false, .slice none 0 0, .slice none 0 0, .bool false, .slice none 0 0, .slice none 0 0]] w fun e w' => ∃ p q, e = .returned (.tuple #[.complex .f64 p q, .int .i64 11]) ∧ Below w.heap.size w w' := by
  refine Calls.mono (pnearest_any false none 0 [] none 0 [] false none 0 [] none 0 [] w (psl_nil w) (psl_nil w) (psl_nil w) (psl_nil w)) ?_
  rintro e w' ⟨p, q, code, rfl, h, hb⟩
  have hc : code = 11 := by
    rcases h with ⟨rfl, h1, h2⟩ | ⟨h0, _, _, ⟨_, h⟩ | ⟨x, hn⟩ | ⟨x, hn⟩⟩
    · exact pnone_near h1
    · rw [h]; unfold gchk fstE; rw [pnone_chk]; rfl
    · exact pnone_near hn
    · exact pnone_near hn
  rw [hc]
  exact ⟨p, q, rfl, hb⟩
theorem pbig_g : gchk false [] [1] false bigW [1] = 0 := by
  unfold gchk fstE
  rw [pnought_chk, big_chk]
  rfl
theorem pnear_big (a : Option Addr) (ca : Nat) (b : Option Addr) (cb : Nat) (c : Option Addr) (cc : Nat) (d : Option Addr) (cd : Nat) (w : World) (sx : Sl w (.slice a 0 ca) []) (sy : Sl w (.slice b 1 cb) [1]) (su : Sl w (.slice c 33 cc) bigW) (sv : Sl w (.slice d 1 cd) [1]) :
    Calls Tryd.prog 9 #[.agg #[.bool false, .slice a 0 ca, .slice b 1 cb, .bool false, .slice c 33 cc, .slice d 1 cd]] w fun e w' => ∃ p q, e = .returned (.tuple #[.complex .f64 p q, .int .i64 9]) ∧ Below w.heap.size w w' := by
  have H := pnearest_any false a ca [] b cb [1] false c cc bigW d cd [1] w sx sy (by rw [big_len]; exact su) sv
  rw [big_len] at H
  refine Calls.mono H ?_
  rintro e w' ⟨p, q, code, rfl, h, hb⟩
  have hc : code = 9 := by
    rcases h with ⟨rfl, h1, h2⟩ | ⟨h0, _, _, ⟨h, _⟩ | ⟨x, hn⟩ | ⟨x, hn⟩⟩
    · exact big_near h2
    · exact absurd pbig_g h
    · exact absurd (pnought_near hn).2 h0
    · exact big_near hn
  rw [hc]
  exact ⟨p, q, rfl, hb⟩
theorem pcheck_big (a : Option Addr) (ca : Nat) (b : Option Addr) (cb : Nat) (c : Option Addr) (cc : Nat) (d : Option Addr) (cd : Nat) (w : World) (sx : Sl w (.slice a 0 ca) []) (sy : Sl w (.slice b 1 cb) [1]) (su : Sl w (.slice c 33 cc) bigW) (sv : Sl w (.slice d 1 cd) [1]) :
    Calls Tryd.prog 25 #[.agg #[.bool false, .slice a 0 ca, .slice b 1 cb, .bool false, .slice c 33 cc, .slice d 1 cd]] w fun e w' => e = .returned (.int .i64 0) ∧ Below w.heap.size w w' := by
  have H := gcheck_any false _ [] _ [1] false _ bigW _ [1] w sx sy su sv
  rw [pbig_g] at H
  exact H
theorem pmul_kn (w : World) : Calls Tryd.prog 15 #[.complex .f64 9214871658872686752 0, .complex .f64 0 9214871658872686752] w fun e w' => e = .returned (.complex .f64 0 9218868437227405312) ∧ Below w.heap.size w w' := by
  refine Calls.mono (zpMul_any 9214871658872686752 0 0 9214871658872686752 w) ?_
  rintro e w' ⟨re, im, rfl, h, _, _, hb⟩
  obtain ⟨rfl, rfl⟩ := mul_over h
  exact ⟨rfl, hb⟩
theorem pneg_kn (w : World) : Calls Tryd.prog 16 #[.complex .f64 0 0] w fun e w' => e = .returned (.complex .f64 9223372036854775808 9223372036854775808) ∧ w' = w := by
  have h := zpNeg_any 0 0 w
  rw [negs.1] at h
  exact h
theorem pconj_kn (w : World) : Calls Tryd.prog 17 #[.complex .f64 4607182418800017408 0] w fun e w' => e = .returned (.complex .f64 4607182418800017408 9223372036854775808) ∧ w' = w := by
  have h := zpConj_any 4607182418800017408 0 w
  rw [negs.1] at h
  exact h
theorem pabs_large (w : World) : Calls Tryd.prog 18 #[.complex .f64 9094988921128908188 9094988921128908188] w fun e w' => e = .returned (.float .f64 9097522851029299729) ∧ Below w.heap.size w w' := by
  refine Calls.mono (zpAbs_any _ _ w (by decide) (by decide)) ?_
  rintro e w' ⟨r, rfl, _, h, hb⟩
  rw [abs_large h]
  exact ⟨rfl, hb⟩
theorem pabs_nought (w : World) : Calls Tryd.prog 18 #[.complex .f64 9223372036854775808 9223372036854775808] w fun e w' => e = .returned (.float .f64 0) ∧ Below w.heap.size w w' := by
  refine Calls.mono (zpAbs_any _ _ w (by decide) (by decide)) ?_
  rintro e w' ⟨r, rfl, _, h, hb⟩
  rw [abs_nought h]
  exact ⟨rfl, hb⟩
theorem pabs_nan (w : World) : Calls Tryd.prog 18 #[.complex .f64 9221120237041090561 9218868437227405312] w fun e w' => e = .returned (.float .f64 9221120237041090561) ∧ Below w.heap.size w w' := by
  refine Calls.mono (zpAbs_any _ _ w (by decide) (by decide)) ?_
  rintro e w' ⟨r, rfl, _, h, hb⟩
  rw [abs_nan h]
  exact ⟨rfl, hb⟩
theorem pabs_inf (w : World) : Calls Tryd.prog 18 #[.complex .f64 18442240474082181120 4611686018427387904] w fun e w' => e = .returned (.float .f64 9218868437227405312) ∧ Below w.heap.size w w' := by
  refine Calls.mono (zpAbs_any _ _ w (by decide) (by decide)) ?_
  rintro e w' ⟨r, rfl, _, h, hb⟩
  rw [abs_inf h]
  exact ⟨rfl, hb⟩
theorem pisnan_kn (w : World) : Calls Tryd.prog 20 #[.float .f64 9221120237041090561] w fun e w' => e = .returned (.bool true) ∧ w' = w := by
  have h := mIsNaN_any 9221120237041090561 w
  rw [show isnan 9221120237041090561 = true by decide] at h
  exact h
theorem pisinf_kn (w : World) : Calls Tryd.prog 21 #[.float .f64 9218868437227405312, .int .i64 1] w fun e w' => e = .returned (.bool true) ∧ w' = w := by
  have h := mIsInf1_any 9218868437227405312 w (by decide)
  rw [show isinf 9218868437227405312 = true by decide] at h
  exact h
theorem psame_nan (w : World) : Calls Tryd.prog 22 #[.complex .f64 9221120237041090561 0, .complex .f64 18444492273895866369 0] w fun e w' => e = .returned (.bool true) ∧ w' = w := by
  have h := zpSame_any 9221120237041090561 0 18444492273895866369 0 w
  rw [show (sameR 9221120237041090561 18444492273895866369 && sameR 0 0) = true by decide] at h
  exact h
theorem psame_nought (w : World) : Calls Tryd.prog 22 #[.complex .f64 0 0, .complex .f64 9223372036854775808 9223372036854775808] w fun e w' => e = .returned (.bool false) ∧ w' = w := by
  have h := zpSame_any 0 0 9223372036854775808 9223372036854775808 w
  rw [show (sameR 0 9223372036854775808 && sameR 0 9223372036854775808) = false by decide] at h
  exact h
theorem pequal_nan (w : World) : Calls Tryd.prog 10 #[.complex .f64 9221120237041090561 0, .complex .f64 9221120237041090561 0] w fun e w' => e = .returned (.bool false) ∧ w' = w := by
  have h := zpEqual_any 9221120237041090561 0 9221120237041090561 0 w
  rw [show (feq 9221120237041090561 9221120237041090561 && feq 0 0) = false by decide] at h
  exact h
theorem pequal_nought (w : World) : Calls Tryd.prog 10 #[.complex .f64 0 0, .complex .f64 9223372036854775808 9223372036854775808] w fun e w' => e = .returned (.bool true) ∧ w' = w := by
  have h := zpEqual_any 0 0 9223372036854775808 9223372036854775808 w
  rw [show (feq 0 9223372036854775808 && feq 0 9223372036854775808) = true by decide] at h
  exact h
theorem pexact_inf (w : World) (hT : TabB w) : Calls Tryd.prog 7 #[.complex .f64 9218868437227405312 0] w fun e w' => e = .returned (.tuple #[.agg #[.bool false, .slice none 0 0, .slice none 0 0, .bool false, .slice none 0 0, .slice none 0 0], .int .i64 8]) ∧ Below w.heap.size w w' :=
  pexact_bad 9218868437227405312 0 w (by decide) (by decide) hT (by decide)

end Go.Proofs.YtggmdocpfkkclaaDoor

/- The table of places, from what the card lays. -/
namespace Go.Proofs.YtggmdocpfkkclaaDoor
open Go.RowKit
set_option linter.unusedVariables false

theorem tabB_of {W : World} {cs : List Value} (hv : W.var? Tryd.prog "math/bits.deBruijn64tab" = some cs.toArray) (e1 : Tryd.prog.globalNamed "math/bits.deBruijn64tab" = some 1) (hcs : cs = (Lib.deBruijn64tab.map fun (n : Nat) => (n : Int)).map fun z => Value.int .u8 z) : TabB W := fun j hj => by
  unfold World.var? at hv
  rw [e1] at hv
  simp only [Option.bind_some] at hv
  unfold World.cell?
  cases hh : W.heap[(1 : Nat)]? with
  | none => rw [hh] at hv; cases hv
  | some o =>
    rw [hh] at hv
    cases o with
    | cells c t m =>
      simp only [Option.some.injEq] at hv
      subst hv
      rw [hcs]
      have hl : j < Lib.deBruijn64tab.length := hj
      simp [List.getElem?_eq_getElem hl, List.getD_eq_getElem?_getD]
    | _ => simp at hv

end Go.Proofs.YtggmdocpfkkclaaDoor

/- PartsKnown: the document's examples of layer 7. -/
namespace Go.Proofs.YtggmdocpfkkclaaDoor
open Go.RowKit
set_option linter.unusedVariables false

/-- Thirty-three noughts. -/
def zRow : Obj := .cells (Array.replicate 33 (.int .u32 0)) 53
theorem zmake (w : World) : (Instr.makeSlice 25 (.int .i64 33) (.int .i64 33)).run Tryd.prog w = .ok (.slice (some ⟨w.heap.size, 0, none⟩) 33 33) (w.alloc zRow) := by kernel_rfl
/-- The box of the largest example, and what it points to. -/
structure KnCut (W : World) (a2 : Option Addr) (c2 : Nat) (b2 : Option Addr) (d2 : Nat) (s : Value) (wx : World) : Prop where
  ex : ∃ p g l, s = .pointer (some ⟨p, 0, none⟩) ∧ Box wx p 29 #[.bool false, .slice a2 0 c2, .slice b2 1 d2, .bool false, .slice (some ⟨g, 0, none⟩) 33 33, .slice (some ⟨l, 0, none⟩) 1 1] ∧ OwnC wx W.heap.size g 33 33 (List.replicate 33 0) ∧ OwnC wx W.heap.size l 1 1 [1] ∧ g ≠ p ∧ l ≠ p ∧ l ≠ g ∧ W.heap.size ≤ p
  bel : Below W.heap.size W wx

theorem box_1 (W : World) (t : Nat) (vs : Array Value) (o2 o3 : Obj) : Box (((W.alloc (.cells vs t)).alloc o2).alloc o3) W.heap.size t vs := ((Box.made W t vs).later (alloc_later _ _) (Box.made W t vs).lt).later (alloc_later _ _) ((Box.made W t vs).later (alloc_later _ _) (Box.made W t vs).lt).lt
theorem box_2 (W : World) (t : Nat) (vs : Array Value) (o1 o3 : Obj) : Box (((W.alloc o1).alloc (.cells vs t)).alloc o3) (W.heap.size + 1) t vs := by
  have h := Box.made (W.alloc o1) t vs
  rw [World.size_alloc] at h
  exact h.later (alloc_later _ _) h.lt
theorem box_3 (W : World) (t : Nat) (vs : Array Value) (o1 o2 : Obj) : Box (((W.alloc o1).alloc o2).alloc (.cells vs t)) (W.heap.size + 1 + 1) t vs := by
  have h := Box.made ((W.alloc o1).alloc o2) t vs
  rw [World.size_alloc, World.size_alloc] at h
  exact h
theorem zb_1 (W : World) (o2 o3 : Obj) : Box (((W.alloc zRow).alloc o2).alloc o3) W.heap.size 53 (Array.replicate 33 (.int .u32 0)) := box_1 W _ _ o2 o3
theorem zb_2 (W : World) (o1 o3 : Obj) : Box (((W.alloc o1).alloc zRow).alloc o3) (W.heap.size + 1) 53 (Array.replicate 33 (.int .u32 0)) := box_2 W _ _ o1 o3
theorem zb_3 (W : World) (o1 o2 : Obj) : Box (((W.alloc o1).alloc o2).alloc zRow) (W.heap.size + 1 + 1) 53 (Array.replicate 33 (.int .u32 0)) := box_3 W _ _ o1 o2
theorem own_of_box {w : World} {base g n : Nat} {ys : List Int} (h : Box w g 53 (ys.map (Value.int .u32)).toArray) (hb : base ≤ g) (hl : ys.length = n) (hm : n ≤ maxLen) : OwnC w base g n n ys :=
  ⟨by simp [hl], .inr ⟨g, n, _, rfl, hb, h, Nat.le_refl _, hm, by simp [hl], by simp [List.take_of_length_le, hl]⟩⟩
theorem kn_fin {W X : World} {a2 : Option Addr} {c2 : Nat} {b2 : Option Addr} {d2 : Nat} {p g l : Nat} (hB : Box X p 29 #[.bool false, .slice a2 0 c2, .slice b2 1 d2, .bool false, .slice (some ⟨g, 0, none⟩) 33 33, .slice (some ⟨l, 0, none⟩) 1 1]) (hz : Box X g 53 (Array.replicate 33 (.int .u32 0))) (ho : Box X l 53 #[.int .u32 1]) (h : W.heap.size ≤ g ∧ W.heap.size ≤ l ∧ W.heap.size ≤ p ∧ g ≠ p ∧ l ≠ p ∧ l ≠ g) (hb : Below W.heap.size W X) : KnCut W a2 c2 b2 d2 (.pointer (some ⟨p, 0, none⟩)) X.drew :=
  ⟨⟨p, g, l, rfl, hB, own_of_box (ys := List.replicate 33 0) hz h.1 rfl (by decide), own_of_box (ys := [1]) ho h.2.1 rfl (by decide), h.2.2.2.1, h.2.2.2.2.1, h.2.2.2.2.2, h.2.2.1⟩, Below.drew hb⟩
theorem bel3 (W : World) (o1 o2 o3 : Obj) : Below W.heap.size W (((W.alloc o1).alloc o2).alloc o3) := below_alloc1 (below_alloc1 (alloc_later _ _) _) _

set_option maxHeartbeats 3200000 in
set_option maxRecDepth 100000 in
theorem partsKnown_any (w : World) (hT : TabB w) :
    Calls Tryd.prog 4 #[] w fun e w' => e = .returned (.bool true) ∧ Below w.heap.size w w' := by
  have HT := hid hT
  have HI := hid mInf_any
  have HN := hid mNaN_any
  have HMU := hid pmul_kn
  have HNG := hid pneg_kn
  have HCJ := hid pconj_kn
  have HA1 := hid pabs_large
  have HA2 := hid pabs_nought
  have HA3 := hid pabs_nan
  have HA4 := hid pabs_inf
  have HSN := hid signbit_no
  have HSY := hid signbit_yes
  have HIN := hid pisnan_kn
  have HII := hid pisinf_kn
  have HS1 := hid psame_nan
  have HS2 := hid psame_nought
  have HE1 := hid pequal_nan
  have HE2 := hid pequal_nought
  have HEX := hid pexact_inf
  have HT1 := hid psmall_third
  have HT2 := hid psmall_nought
  have HN1 := hid pnear_third
  have HN2 := hid pnear_none
  have HN3 := hid pnear_big
  have HCK := hid pcheck_big
  have HAW := hid pawake_any
  have q00 : (FloatKind.f64.format.order 0 0 == some .eq) = true := by decide
  have q11 : (FloatKind.f64.format.order 4607182418800017408 4607182418800017408 == some .eq) = true := by decide
  have qab : (FloatKind.f64.format.order 9097522851029299729 9097522851029299729 == some .eq) = true := by decide
  have n1 : Op.unary .neg (.float .f64 9218868437227405312) = pure (.float .f64 18442240474082181120) := by
    have h : Op.unary .neg (.float .f64 9218868437227405312) = pure (.float .f64 (fneg 9218868437227405312)) := rfl
    rw [negs.2.1] at h; exact h
  have n2 : Op.unary .neg (.float .f64 9221120237041090561) = pure (.float .f64 18444492273895866369) := by
    have h : Op.unary .neg (.float .f64 9221120237041090561) = pure (.float .f64 (fneg 9221120237041090561)) := rfl
    rw [negs.2.2] at h; exact h
  have bx := bits_run 4599676419421066581
  have HW0 := hid (Below.refl w.heap.size w)
  clear hT
  go_enter Tryd.func4, Tryd.ntmps4
  go_wp2_with fail
  refine Calls.mono (HI.out _) ?_
  rintro e v ⟨rfl, hv⟩
  rw [hv]
  clear hv v
  go_wp2_with fail
  refine Calls.mono (HN.out _) ?_
  rintro e v ⟨rfl, hv⟩
  rw [hv]
  clear hv v
  go_wp2_with fail
  refine Calls.mono (HMU.out _) ?_
  rintro e w1 ⟨rfl, hb⟩
  have HW1 := hid (bt HW0.out hb)
  clear hb HW0
  go_wp2_with fail
  refine Calls.mono (HNG.out _) ?_
  rintro e v ⟨rfl, hv⟩
  rw [hv]
  clear hv v
  go_wp2_with fail
  refine Calls.mono (HCJ.out _) ?_
  rintro e v ⟨rfl, hv⟩
  rw [hv]
  clear hv v
  go_wp2_with fail
  refine Calls.mono (HA1.out _) ?_
  rintro e w2 ⟨rfl, hb⟩
  have HW2 := hid (bt HW1.out hb)
  clear hb HW1
  go_wp2_with fail
  refine Calls.mono (HA2.out _) ?_
  rintro e w3 ⟨rfl, hb⟩
  have HW3 := hid (bt HW2.out hb)
  clear hb HW2
  go_wp2_with fail
  refine Calls.mono (HSN.out _) ?_
  rintro e v ⟨rfl, hv⟩
  rw [hv]
  clear hv v
  go_wp2_with fail
  refine Calls.mono (HA2.out _) ?_
  rintro e w4 ⟨rfl, hb⟩
  have HW4 := hid (bt HW3.out hb)
  clear hb HW3
  go_wp2_with fail
  refine Calls.mono (HA3.out _) ?_
  rintro e w5 ⟨rfl, hb⟩
  have HW5 := hid (bt HW4.out hb)
  clear hb HW4
  go_wp2_with fail
  refine Calls.mono (HIN.out _) ?_
  rintro e v ⟨rfl, hv⟩
  rw [hv]
  clear hv v
  go_wp2_with fail
  refine Calls.mono (HA4.out _) ?_
  rintro e w6 ⟨rfl, hb⟩
  have HW6 := hid (bt HW5.out hb)
  clear hb HW5
  go_wp2_with fail
  refine Calls.mono (HII.out _) ?_
  rintro e v ⟨rfl, hv⟩
  rw [hv]
  clear hv v
  go_wp2_with fail
  refine Calls.mono (HSY.out _) ?_
  rintro e v ⟨rfl, hv⟩
  rw [hv]
  clear hv v
  go_wp2_with fail
  refine Calls.mono (HSY.out _) ?_
  rintro e v ⟨rfl, hv⟩
  rw [hv]
  clear hv v
  go_wp2_with fail
  refine Calls.mono (HSY.out _) ?_
  rintro e v ⟨rfl, hv⟩
  rw [hv]
  clear hv v
  go_wp2_with fail
  refine Calls.mono (HS1.out _) ?_
  rintro e v ⟨rfl, hv⟩
  rw [hv]
  clear hv v
  go_wp2_with fail
  refine Calls.mono (HE1.out _) ?_
  rintro e v ⟨rfl, hv⟩
  rw [hv]
  clear hv v
  go_wp2_with fail
  refine Calls.mono (HS2.out _) ?_
  rintro e v ⟨rfl, hv⟩
  rw [hv]
  clear hv v
  go_wp2_with fail
  refine Calls.mono (HE2.out _) ?_
  rintro e v ⟨rfl, hv⟩
  rw [hv]
  clear hv v
  go_wp2_with fail
  refine Calls.mono (HEX.out _ (HT.out.later HW6.out)) ?_
  rintro e w7 ⟨rfl, hb⟩
  have HW7 := hid (bt HW6.out hb)
  clear hb HW6
  obtain ⟨Y1, hY1⟩ : ∃ Y, w7.alloc (.cells #[.bool false, .slice none 0 0, .slice none 0 0, .bool false, .slice none 0 0, .slice none 0 0] 29) = Y := ⟨_, rfl⟩
  have hb : Below w7.heap.size w7 Y1 := by rw [← hY1]; exact alloc_later _ _
  have HX1 := hid (bt HW7.out hb)
  have hB6 : Box Y1 w7.heap.size 29 #[.bool false, .slice none 0 0, .slice none 0 0, .bool false, .slice none 0 0, .slice none 0 0] := by rw [← hY1]; exact Box.made w7 _ _
  obtain ⟨⟨k0, k1, k2, k3, k4, k5⟩, ⟨f0, f1, f2, f3, f4, f5⟩, s0, s1, s2, s3, s4, s5⟩ := zero_box6 hB6
  clear hb hB6
  go_wp2_with fail
  clear hY1 k0 k1 k2 k3 k4 k5 f0 f1 f2 f3 f4 f5 s0 s1 s2 s3 s4 s5
  refine Calls.mono (HT1.out _) ?_
  rintro e z1 ⟨a1, c1, b1, d1, rfl, hs, hb⟩
  have HX2 := hid (bt HX1.out hb)
  clear hb HX1
  obtain ⟨Y2, hY2⟩ : ∃ Y, z1.alloc (.cells #[.bool false, .slice a1 1 c1, .slice b1 1 d1] 27) = Y := ⟨_, rfl⟩
  have hb : Below z1.heap.size z1 Y2 := by rw [← hY2]; exact alloc_later _ _
  have HP2 : Hid (Box Y2 z1.heap.size 27 #[.bool false, .slice a1 1 c1, .slice b1 1 d1]) := by rw [← hY2]; exact Box.made z1 _ _
  have HS2' := hid (And.intro (hs.out.1.later hb) (hs.out.2.later hb))
  have HX3 := hid (bt HX2.out hb)
  clear hb hs HX2
  go_wp2_with fail
  clear hY2
  refine Calls.mono (HT2.out _) ?_
  rintro e z2 ⟨a2, c2, b2, d2, rfl, hs, hb⟩
  have HX4 := hid (bt HX3.out hb)
  have HP3 := hid (HP2.out.later hb HP2.out.lt)
  have HS3 := hid (And.intro (HS2'.out.1.later hb) (HS2'.out.2.later hb))
  have hl : z1.heap.size < z2.heap.size := Nat.lt_of_lt_of_le HP2.out.lt hb.size
  clear hb HX3 HP2 HS2'
  obtain ⟨Y3, hY3⟩ : ∃ Y, z2.alloc (.cells #[.bool false, .slice a2 0 c2, .slice b2 1 d2] 27) = Y := ⟨_, rfl⟩
  have hb : Below z2.heap.size z2 Y3 := by rw [← hY3]; exact alloc_later _ _
  have HQ3 : Hid (Box Y3 z2.heap.size 27 #[.bool false, .slice a2 0 c2, .slice b2 1 d2]) := by rw [← hY3]; exact Box.made z2 _ _
  have HP4 := hid (HP3.out.later hb HP3.out.lt)
  have HS4 := hid (And.intro (HS3.out.1.later hb) (HS3.out.2.later hb))
  have HR4 := hid (And.intro (hs.out.1.later hb) (hs.out.2.later hb))
  have HX5 := hid (bt HX4.out hb)
  have p0 : Y3.cell? ⟨z1.heap.size, 0, none⟩ = some (.bool false) := HP4.out.cell 0
  have p1 : Y3.cell? ⟨z1.heap.size, 1, none⟩ = some (.slice a1 1 c1) := HP4.out.cell 1
  have p2 : Y3.cell? ⟨z1.heap.size, 2, none⟩ = some (.slice b1 1 d1) := HP4.out.cell 2
  have r0 : Y3.cell? ⟨z2.heap.size, 0, none⟩ = some (.bool false) := HQ3.out.cell 0
  have r1 : Y3.cell? ⟨z2.heap.size, 1, none⟩ = some (.slice a2 0 c2) := HQ3.out.cell 1
  have r2 : Y3.cell? ⟨z2.heap.size, 2, none⟩ = some (.slice b2 1 d2) := HQ3.out.cell 2
  clear hb hs HX4 HP3 HS3
  go_wp2_with fail
  clear hY3
  refine Calls.mono (HN1.out a1 c1 b1 d1 a2 c2 b2 d2 _ HS4.out.1 HS4.out.2 HR4.out.1 HR4.out.2) ?_
  rintro e z3 ⟨rfl, hb⟩
  have HX6 := hid (bt HX5.out hb)
  have HQ4 := hid (HQ3.out.later hb HQ3.out.lt)
  have HR5 := hid (And.intro (HR4.out.1.later hb) (HR4.out.2.later hb))
  clear hb HX5 HP4 HS4 HQ3 HR4 p0 p1 p2 r0 r1 r2 HN1
  go_wp2_with fail
  refine Calls.mono (HN2.out _) ?_
  rintro e z4 ⟨f1, f2, rfl, hb⟩
  have HX7 := hid (bt HX6.out hb)
  have HQ5 := hid (HQ4.out.later hb HQ4.out.lt)
  have HR6 := hid (And.intro (HR5.out.1.later hb) (HR5.out.2.later hb))
  clear hb HX6 HQ4 HR5 HN2
  have r0 : z4.cell? ⟨z2.heap.size, 0, none⟩ = some (.bool false) := HQ5.out.cell 0
  have r1 : z4.cell? ⟨z2.heap.size, 1, none⟩ = some (.slice a2 0 c2) := HQ5.out.cell 1
  have r2 : z4.cell? ⟨z2.heap.size, 2, none⟩ = some (.slice b2 1 d2) := HQ5.out.cell 2
  have HK : Hid (∀ V, Below z4.heap.size z4 V → V.cell? ⟨z2.heap.size, 0, none⟩ = some (.bool false) ∧ V.cell? ⟨z2.heap.size, 1, none⟩ = some (.slice a2 0 c2) ∧ V.cell? ⟨z2.heap.size, 2, none⟩ = some (.slice b2 1 d2)) := fun V hv => by
    have h := HQ5.out.later hv HQ5.out.lt
    exact ⟨h.cell 0, h.cell 1, h.cell 2⟩
  have hmk := zmake
  go_upto_region 13 with fail
  clear r0 r1 r2
  clear HI HN HMU HNG HCJ HA1 HA2 HA3 HA4 HSN HSY HIN HS1 HS2 HE1 HE2 HEX HT1 HT2 n1 n2 q11 qab
  go_cut [19] from 121 to 125 (fun s wx => Hid (KnCut z4 a2 c2 b2 d2 s wx))
  case first =>
    clear HN3 HCK HAW HT HX7 HQ5 HR6 HII
    go_region_held3 (fun V : World => V.cell? ⟨z2.heap.size, 0, none⟩ = some (.bool false) ∧ V.cell? ⟨z2.heap.size, 1, none⟩ = some (.slice a2 0 c2) ∧ V.cell? ⟨z2.heap.size, 2, none⟩ = some (.slice b2 1 d2)) (first | (refine HK.out _ ?_; repeat' first | exact Below.refl _ _ | refine below_alloc1 ?_ _ | refine Below.drew ?_)) (fail)
    all_goals
      go_wp2_with fail
      go_meet
    all_goals first
      | exact hid (kn_fin (box_3 z4 _ _ _ _) (zb_1 z4 _ _) (box_2 z4 _ _ _ _) (by omega) (bel3 z4 _ _ _))
      | exact hid (kn_fin (box_2 z4 _ _ _ _) (zb_1 z4 _ _) (box_3 z4 _ _ _ _) (by omega) (bel3 z4 _ _ _))
      | exact hid (kn_fin (box_3 z4 _ _ _ _) (zb_2 z4 _ _) (box_1 z4 _ _ _ _) (by omega) (bel3 z4 _ _ _))
      | exact hid (kn_fin (box_1 z4 _ _ _ _) (zb_2 z4 _ _) (box_3 z4 _ _ _ _) (by omega) (bel3 z4 _ _ _))
      | exact hid (kn_fin (box_2 z4 _ _ _ _) (zb_3 z4 _ _) (box_1 z4 _ _ _ _) (by omega) (bel3 z4 _ _ _))
      | exact hid (kn_fin (box_1 z4 _ _ _ _) (zb_3 z4 _ _) (box_2 z4 _ _ _ _) (by omega) (bel3 z4 _ _ _))
  case rest =>
    obtain ⟨p, g, l, rfl, hbx, o1, o2, hgp, hlp, hlg, hp⟩ := hcut.out.ex
    have hbel := hcut.out.bel
    have x4 : wc.cell? ⟨p, 4, none⟩ = some (.slice (some ⟨g, 0, none⟩) 33 33) := hbx.cell 4
    have c32 : wc.cell? ⟨g, 32, none⟩ = some (.int .u32 0) := o1.cell 32 (by decide)
    have f32 : wc.frozen? ⟨g, 32, none⟩ = false := o1.free 32
    have hg0 : z4.heap.size ≤ g := o1.base.1
    obtain ⟨V, hV⟩ : ∃ V, wc.setCell ⟨g, 32, none⟩ (.int .u32 1) = V := ⟨_, rfl⟩
    have HBV : Hid (Box V p 29 #[.bool false, .slice a2 0 c2, .slice b2 1 d2, .bool false, .slice (some ⟨g, 0, none⟩) 33 33, .slice (some ⟨l, 0, none⟩) 1 1]) := by rw [← hV]; exact hbx.other ⟨g, 32, none⟩ _ (fun e => hgp e.symm)
    have HOV : Hid (OwnC V z4.heap.size g 33 33 bigW ∧ OwnC V z4.heap.size l 1 1 [1]) := by rw [← hV]; exact ⟨(o1.set 32 1).1, own_set o2 hlg⟩
    have hbV : Below z4.heap.size z4 V := by rw [← hV]; exact hbel.setCell (p := ⟨g, 32, none⟩) hg0 _
    have HXV := hid (bt HX7.out hbV)
    have HSV := hid (And.intro (HR6.out.1.later hbV) (And.intro (HR6.out.2.later hbV) (And.intro (HOV.out.1.sl big_wd) (HOV.out.2.sl (Wd.one ⟨by decide, by decide⟩)))))
    have y0 : V.cell? ⟨p, 0, none⟩ = some (.bool false) := HBV.out.cell 0
    have y1 : V.cell? ⟨p, 1, none⟩ = some (.slice a2 0 c2) := HBV.out.cell 1
    have y2 : V.cell? ⟨p, 2, none⟩ = some (.slice b2 1 d2) := HBV.out.cell 2
    have y3 : V.cell? ⟨p, 3, none⟩ = some (.bool false) := HBV.out.cell 3
    have y4 : V.cell? ⟨p, 4, none⟩ = some (.slice (some ⟨g, 0, none⟩) 33 33) := HBV.out.cell 4
    have y5 : V.cell? ⟨p, 5, none⟩ = some (.slice (some ⟨l, 0, none⟩) 1 1) := HBV.out.cell 5
    clear hcut hbx o1 o2 hgp hlp hlg hp hbel hbV hg0 hmk HK HR6 HQ5 HX7 HOV hl
    go_wp2_with fail
    clear hV x4 c32 f32
    refine Calls.mono (HN3.out a2 c2 b2 d2 _ 33 _ 1 _ HSV.out.1 HSV.out.2.1 HSV.out.2.2.1 HSV.out.2.2.2) ?_
    rintro e V1 ⟨g1, g2, rfl, hb⟩
    have HX8 := hid (bt HXV.out hb)
    have HB8 := hid (HBV.out.later hb HBV.out.lt)
    have HS8 := hid (And.intro (HSV.out.1.later hb) (And.intro (HSV.out.2.1.later hb) (And.intro (HSV.out.2.2.1.later hb) (HSV.out.2.2.2.later hb))))
    clear hb HXV HBV HSV y0 y1 y2 y3 y4 y5 HN3
    go_wp2_with fail
    refine Calls.mono (HAW.out _ (HT.out.later HX8.out)) ?_
    rintro e V2 ⟨rfl, hb⟩
    have HX9 := hid (bt HX8.out hb)
    have HB9 := hid (HB8.out.later hb HB8.out.lt)
    have HS9 := hid (And.intro (HS8.out.1.later hb) (And.intro (HS8.out.2.1.later hb) (And.intro (HS8.out.2.2.1.later hb) (HS8.out.2.2.2.later hb))))
    clear hb HX8 HB8 HS8 HAW HT
    go_wp2_with fail
    refine Calls.mono (HII.out _) ?_
    rintro e v ⟨rfl, hv⟩
    rw [hv]
    clear hv v HII
    have y0 : V2.cell? ⟨p, 0, none⟩ = some (.bool false) := HB9.out.cell 0
    have y1 : V2.cell? ⟨p, 1, none⟩ = some (.slice a2 0 c2) := HB9.out.cell 1
    have y2 : V2.cell? ⟨p, 2, none⟩ = some (.slice b2 1 d2) := HB9.out.cell 2
    have y3 : V2.cell? ⟨p, 3, none⟩ = some (.bool false) := HB9.out.cell 3
    have y4 : V2.cell? ⟨p, 4, none⟩ = some (.slice (some ⟨g, 0, none⟩) 33 33) := HB9.out.cell 4
    have y5 : V2.cell? ⟨p, 5, none⟩ = some (.slice (some ⟨l, 0, none⟩) 1 1) := HB9.out.cell 5
    go_wp2_with fail
    refine Calls.mono (HCK.out a2 c2 b2 d2 _ 33 _ 1 _ HS9.out.1 HS9.out.2.1 HS9.out.2.2.1 HS9.out.2.2.2) ?_
    rintro e V3 ⟨rfl, hb⟩
    have HXA := hid (bt HX9.out hb)
    clear hb HX9 HB9 HS9 HCK y0 y1 y2 y3 y4 y5
    go_wp2_with fail
    go_ret
    exact ⟨rfl, HXA.out⟩
end Go.Proofs.YtggmdocpfkkclaaDoor

