/- My texts on the way to RealTells, one behind the other: contracts of the program and of the document's answers. -/
import Derived.Test.YtabkgpnckaaclaaGreatDoorJ1
import Derived.Test.YtabkgpnckaaclaaGreatDoorJ2
import Derived.Deep.RegionHeld3
import Derived.WalkKit
import Derived.WalkLawsBesides
import Derived.WalkSpells
import Derived.Test.YtabkgpnckaaclaaGreatDoorChecked
import Derived.Handy
import Derived.Deep.RegionLawGrows
import Derived.Shelf.Spec.TrailingZeros
import Derived.Deep.RegionLaw
/- Fractions: ratio.words, isOne, inOneForm, Check, checkBoth, told: of every fraction whose words can be read. -/
namespace Go.Proofs.YtabkgpnckaaclaaGreatDoor
open Go.RowKit
set_option linter.unusedVariables false

/-- A fraction is in its one form. -/
def rform (n : Bool) (xs ys : List Int) : Prop := both xs ys = 0 ∧ 0 < ys.length ∧ (n = false ∨ 0 < xs.length) ∧ gcdI (val xs) (val ys) = 1
instance (n : Bool) (xs ys : List Int) : Decidable (rform n xs ys) := by unfold rform; infer_instance
/-- What ratio.Check tells. -/
def rchk (n : Bool) (xs ys : List Int) : Int := if 2048 < max xs.length ys.length then 3 else if rform n xs ys then 0 else 11
/-- The fraction itself. -/
def rq (n : Bool) (xs ys : List Int) : Rat := Rat.divInt (wval n xs) (val ys)
theorem res_box3 {X w1 : World} {b t : Nat} {v0 v1 v2 : Value} (hX : Box X b t #[v0, v1, v2]) (hb : Below X.heap.size X w1) : w1.cell? ⟨b, 0, none⟩ = some v0 ∧ w1.cell? ⟨b, 1, none⟩ = some v1 ∧ w1.cell? ⟨b, 2, none⟩ = some v2 ∧ w1.frozen? ⟨b, 0, none⟩ = false ∧ w1.frozen? ⟨b, 1, none⟩ = false ∧ w1.frozen? ⟨b, 2, none⟩ = false := by
  have h := hX.later hb hX.lt
  exact ⟨h.cell 0, h.cell 1, h.cell 2, h.free 0, h.free 1, h.free 2⟩
theorem below_put3 {B : Nat} {a w : World} (h : Below B a w) (b : Nat) (hb : B ≤ b) (v0 v1 v2 : Value) : Below B a (((w.setCell ⟨b, 0, none⟩ v0).setCell ⟨b, 1, none⟩ v1).setCell ⟨b, 2, none⟩ v2) :=
  ((h.setCell (p := ⟨b, 0, none⟩) hb _).setCell (p := ⟨b, 1, none⟩) hb _).setCell (p := ⟨b, 2, none⟩) hb _
theorem own_put3 {w : World} {base e n : Nat} {v : Value} {xs : List Value} (h : w.ownsRow base e 1 v n xs) (b : Nat) (hb : ∀ g, v.ownBlock = some g → g ≠ b) (v0 v1 v2 : Value) : (((w.setCell ⟨b, 0, none⟩ v0).setCell ⟨b, 1, none⟩ v1).setCell ⟨b, 2, none⟩ v2).ownsRow base e 1 v n xs := by
  have hne : v.ownBlock = none ∨ v.ownBlock ≠ some b := by
    cases hv : v.ownBlock with
    | none => exact .inl rfl
    | some g => right; intro e; exact hb g hv (Option.some.inj e)
  exact World.ownsRow.kept (World.ownsRow.kept (World.ownsRow.kept h (grown_set w ⟨b, 0, none⟩ v0) hne) (grown_set _ ⟨b, 1, none⟩ v1) hne) (grown_set _ ⟨b, 2, none⟩ v2) hne
theorem rform_no_den {n : Bool} {xs ys : List Int} (h : ys.length = 0) : decide (rform n xs ys) = false := decide_eq_false fun e => by have := e.2.1; omega
theorem rform_no_sign {xs ys : List Int} (h : xs.length = 0) : decide (rform true xs ys) = false := decide_eq_false fun e => e.2.2.1.elim (fun e => by cases e) (fun e => by omega)
theorem rform_no_both {n : Bool} {xs ys : List Int} (h : both xs ys ≠ 0) : decide (rform n xs ys) = false := decide_eq_false fun e => h e.1
theorem one_iff {zs : List Int} (hw : Wd zs) (ht : Trimmed zs) : zs = [1] ↔ val zs = 1 := by
  constructor
  · rintro rfl; simp [val, valTo]
  · intro h
    exact trimmed_eq hw (Wd.one (by omega)) ht rfl (by rw [h]; simp [val, valTo])
theorem gcd_wide {xs ys : List Int} (wx : Wd xs) (wy : Wd ys) (h : both xs ys = 0) : gcdI (val xs) (val ys) < wide := by
  obtain ⟨h1, h2⟩ := both_ok h
  have l1 := (chk_ok h1).1
  have l2 := (chk_ok h2).1
  have a1 : val xs < wide := Int.lt_of_lt_of_le (val_lt wx) (pw_le l1)
  have a2 : val ys < wide := Int.lt_of_lt_of_le (val_lt wy) (pw_le l2)
  rcases gcdI_le (val_nonneg wx) (val_nonneg wy) with e | e <;> omega

set_option maxHeartbeats 800000 in
set_option maxRecDepth 100000 in
theorem rwords_any (n : Bool) (a : Option Addr) (k c : Nat) (b : Option Addr) (l d : Nat) (w : World) :
    Calls Tryz.prog 69 #[.agg #[.bool n, .slice a k c, .slice b l d]] w fun e w' => e = .returned (.int .i64 ((max k l : Nat) : Int)) ∧ Below w.heap.size w w' := by
  have HB := hid (alloc_later w (.cells #[.bool n, .slice a k c, .slice b l d] 25))
  by_cases h : k < l
  · have HM : Hid (max k l = l) := Nat.max_eq_right (by omega)
    go_enter Tryz.func69, Tryz.ntmps69
    go_wp2_with fail
    go_ret
    exact ⟨ret_int (by rw [HM.out]), HB.out⟩
  · have HM : Hid (max k l = k) := Nat.max_eq_left (by omega)
    go_enter Tryz.func69, Tryz.ntmps69
    go_wp2_with fail
    go_ret
    exact ⟨ret_int (by rw [HM.out]), HB.out⟩

set_option maxHeartbeats 800000 in
set_option maxRecDepth 100000 in
theorem isOne_any (v : Value) (xs : List Int) (w : World) (h : Sl w v xs) :
    Calls Tryz.prog 102 #[v] w fun e w' => e = .returned (.bool (decide (xs = [1]))) ∧ w = w' := by
  obtain ⟨a, cap, rfl, hl, hw, hc, hcap⟩ := h
  by_cases h1 : xs.length = 1
  · obtain ⟨x, rfl⟩ := List.length_eq_one_iff.1 h1
    rcases hc with h0 | ⟨b, o, rfl, hb, hc⟩
    · simp at h0
    · have c0 := hc 0 (by simp)
      simp at c0
      have hx := hw.head
      clear hc hw h1 hl hcap
      by_cases e : x = 1
      · subst e
        go_enter Tryz.func102, Tryz.ntmps102
        go_wp2_with fail
        go_ret
        exact ⟨ret_bool rfl, rfl⟩
      · have HD : Hid (decide (([x] : List Int) = [1]) = false) := decide_eq_false (by simp [e])
        have e' : (x == 1) = false := by simp [e]
        clear e
        go_enter Tryz.func102, Tryz.ntmps102
        go_wp2_with fail
        go_ret
        exact ⟨ret_bool HD.out.symm, rfl⟩
  · have HD : Hid (decide (xs = [1]) = false) := decide_eq_false (fun e => h1 (by rw [e]; rfl))
    have h1' : ((xs.length : Int) == 1) = false := by simp; omega
    clear hc hw hl hcap h1
    go_enter Tryz.func102, Tryz.ntmps102
    go_wp2_with fail
    go_ret
    exact ⟨ret_bool HD.out.symm, rfl⟩

set_option maxHeartbeats 1600000 in
set_option maxRecDepth 100000 in
theorem inOneForm_any (n : Bool) (v : Value) (xs : List Int) (u : Value) (ys : List Int) (w : World) (h : Sl w v xs) (g : Sl w u ys) (hn : xs.length ≤ 281474976710656) (hm : ys.length ≤ 281474976710656) :
    Calls Tryz.prog 70 #[.agg #[.bool n, v, u]] w fun e w' => e = .returned (.bool (decide (rform n xs ys))) ∧ Below w.heap.size w w' := by
  have HB := hid (alloc_later w (.cells #[.bool n, v, u] 25))
  have HG := hid (gcd_sl v u xs ys _ (h.later HB.out) (g.later HB.out) hn hm)
  have wx := h.wd
  have wy := g.wd
  obtain ⟨a, cap, rfl, hr⟩ := h
  obtain ⟨b, cap', rfl, gr⟩ := g
  clear hr gr
  by_cases hy : ys.length = 0
  · have HD := hid (rform_no_den (n := n) (xs := xs) hy)
    rw [hy] at HB ⊢
    clear HG hy hm
    go_enter Tryz.func70, Tryz.ntmps70
    go_wp2_with fail
    go_ret
    exact ⟨ret_bool HD.out.symm, HB.out⟩
  · have hy' : ((ys.length : Int) == 0) = false := by simp; exact fun e => hy (by rw [e]; rfl)
    have hy0 : 0 < ys.length := by omega
    have key : (n = false ∨ 0 < xs.length) → Calls Tryz.prog 70 #[.agg #[.bool n, .slice a xs.length cap, .slice b ys.length cap']] w fun e w' => e = .returned (.bool (decide (rform n xs ys))) ∧ Below w.heap.size w w' := by
      intro hs
      by_cases hz : both xs ys = 0
      · have HWD := hid (gcd_wide wx wy hz)
        have HF : Hid (∀ zs, Wd zs → Trimmed zs → val zs = gcdI (val xs) (val ys) → decide (zs = [1]) = decide (rform n xs ys)) := fun zs h1 h2 h3 => by
          have e1 := one_iff h1 h2
          have e2 : (zs = [1]) ↔ rform n xs ys := ⟨fun e => ⟨hz, hy0, hs, by rw [← h3]; exact e1.1 e⟩, fun e => e1.2 (by rw [h3]; exact e.2.2.2)⟩
          exact decide_eq_decide.2 e2
        rw [hz] at HG
        clear hz hy wx wy hy0
        cases n with
        | false =>
          go_enter Tryz.func70, Tryz.ntmps70
          go_wp2_with fail
          refine Calls.mono HG.out ?_
          rintro e w1 ⟨v1, zs, code, rfl, o1, t1, hb1⟩
          obtain ⟨rfl, hv1⟩ := t1.good rfl HWD.out
          have HO := hid (isOne_any v1 zs w1 (Sl.own o1 t1.wd))
          rw [HF.out zs t1.wd t1.trim hv1] at HO
          have hbA := bt HB.out hb1
          obtain ⟨a1, c1, hs1⟩ := own_slice' o1
          subst hs1
          clear hb1 o1 t1 hv1 HG HF
          go_wp2_with fail
          refine Calls.mono HO.out ?_
          rintro e w2 ⟨rfl, rfl⟩
          go_wp2_with fail
          go_ret
          exact ⟨rfl, hbA⟩
        | true =>
          have hx' : ((xs.length : Int) == 0) = false := by
            have : 0 < xs.length := hs.elim (fun e => by cases e) id
            simp; exact fun e => by rw [e] at this; simp at this
          clear hs
          go_enter Tryz.func70, Tryz.ntmps70
          go_wp2_with fail
          refine Calls.mono HG.out ?_
          rintro e w1 ⟨v1, zs, code, rfl, o1, t1, hb1⟩
          obtain ⟨rfl, hv1⟩ := t1.good rfl HWD.out
          have HO := hid (isOne_any v1 zs w1 (Sl.own o1 t1.wd))
          rw [HF.out zs t1.wd t1.trim hv1] at HO
          have hbA := bt HB.out hb1
          obtain ⟨a1, c1, hs1⟩ := own_slice' o1
          subst hs1
          clear hb1 o1 t1 hv1 HG HF
          go_wp2_with fail
          refine Calls.mono HO.out ?_
          rintro e w2 ⟨rfl, rfl⟩
          go_wp2_with fail
          go_ret
          exact ⟨rfl, hbA⟩
      · have HD := hid (rform_no_both (n := n) hz)
        obtain ⟨ec, hec⟩ : ∃ ec, both xs ys = ec := ⟨_, rfl⟩
        rw [hec] at hz HG
        have hz' : (ec == 0) = false := by simp [hz]
        clear hec hy wx wy hy0
        cases n with
        | false =>
          go_enter Tryz.func70, Tryz.ntmps70
          go_wp2_with fail
          refine Calls.mono HG.out ?_
          rintro e w1 ⟨v1, zs, code, rfl, o1, t1, hb1⟩
          obtain ⟨rfl, _⟩ := t1.bad hz
          have hbA := bt HB.out hb1
          obtain ⟨a1, c1, hs1⟩ := own_slice' o1
          subst hs1
          clear hb1 o1 t1 HG hz
          go_wp2_with fail
          go_ret
          exact ⟨ret_bool HD.out.symm, hbA⟩
        | true =>
          have hx' : ((xs.length : Int) == 0) = false := by
            have : 0 < xs.length := hs.elim (fun e => by cases e) id
            simp; exact fun e => by rw [e] at this; simp at this
          clear hs
          go_enter Tryz.func70, Tryz.ntmps70
          go_wp2_with fail
          refine Calls.mono HG.out ?_
          rintro e w1 ⟨v1, zs, code, rfl, o1, t1, hb1⟩
          obtain ⟨rfl, _⟩ := t1.bad hz
          have hbA := bt HB.out hb1
          obtain ⟨a1, c1, hs1⟩ := own_slice' o1
          subst hs1
          clear hb1 o1 t1 HG hz
          go_wp2_with fail
          go_ret
          exact ⟨ret_bool HD.out.symm, hbA⟩
    by_cases hx : n = false ∨ 0 < xs.length
    · exact key hx
    · have hn1 : n = true := by
        cases n with
        | false => exact absurd (.inl rfl) hx
        | true => rfl
      have hx0 : xs.length = 0 := by
        by_cases c : 0 < xs.length
        · exact absurd (.inr c) hx
        · omega
      subst hn1
      have HD := hid (rform_no_sign (ys := ys) hx0)
      rw [hx0] at HB ⊢
      clear key hx0 HG hx wx wy hy hy0
      go_enter Tryz.func70, Tryz.ntmps70
      go_wp2_with fail
      go_ret
      exact ⟨ret_bool HD.out.symm, HB.out⟩
end Go.Proofs.YtabkgpnckaaclaaGreatDoor

/- Fractions: ratio.Check, checkBoth, told: of every fraction whose words can be read; what a call tells that may refuse. -/
namespace Go.Proofs.YtabkgpnckaaclaaGreatDoor
open Go.RowKit
set_option linter.unusedVariables false

theorem rchk_ok {n : Bool} {xs ys : List Int} (h : rchk n xs ys = 0) : xs.length ≤ 2048 ∧ ys.length ≤ 2048 ∧ Trimmed xs ∧ Trimmed ys ∧ 0 < ys.length ∧ (n = false ∨ 0 < xs.length) ∧ gcdI (val xs) (val ys) = 1 := by
  unfold rchk at h
  by_cases h1 : 2048 < max xs.length ys.length
  · rw [if_pos h1] at h; omega
  · rw [if_neg h1] at h
    by_cases h2 : rform n xs ys
    · obtain ⟨a, b⟩ := both_ok h2.1
      exact ⟨by omega, by omega, (chk_ok a).2, (chk_ok b).2, h2.2.1, h2.2.2.1, h2.2.2.2⟩
    · rw [if_neg h2] at h; omega
theorem rchk_good {n : Bool} {xs ys : List Int} (lx : xs.length ≤ 2048) (ly : ys.length ≤ 2048) (tx : Trimmed xs) (ty : Trimmed ys) (h0 : 0 < ys.length) (hs : n = false ∨ 0 < xs.length) (hg : gcdI (val xs) (val ys) = 1) : rchk n xs ys = 0 := by
  unfold rchk
  rw [if_neg (by omega), if_pos ⟨both_good (chk_good (by omega) tx) (chk_good (by omega) ty), h0, hs, hg⟩]

set_option maxHeartbeats 1600000 in
set_option maxRecDepth 100000 in
theorem rcheck_any (n : Bool) (v : Value) (xs : List Int) (u : Value) (ys : List Int) (w : World) (h : Sl w v xs) (g : Sl w u ys) :
    Calls Tryz.prog 40 #[.agg #[.bool n, v, u]] w fun e w' => e = .returned (.int .i64 (rchk n xs ys)) ∧ Below w.heap.size w w' := by
  have HX := hid (Box.made w 25 #[.bool n, v, u])
  have HB := hid (alloc_later w (.cells #[.bool n, v, u] 25))
  have HI : Hid (∀ w1, Below (w.alloc (.cells #[.bool n, v, u] 25)).heap.size (w.alloc (.cells #[.bool n, v, u] 25)) w1 → ¬ 2048 < max xs.length ys.length → Calls Tryz.prog 70 #[.agg #[.bool n, v, u]] w1 fun e w' => e = .returned (.bool (decide (rform n xs ys))) ∧ Below w1.heap.size w1 w') := fun w1 hb hle => inOneForm_any n v xs u ys w1 ((h.later HB.out).later hb) ((g.later HB.out).later hb) (by omega) (by omega)
  obtain ⟨a, cap, rfl, hr⟩ := h
  obtain ⟨b, cap', rfl, gr⟩ := g
  clear hr gr
  have HW := hid (rwords_any n a xs.length cap b ys.length cap' (w.alloc (.cells #[.bool n, .slice a xs.length cap, .slice b ys.length cap'] 25)))
  obtain ⟨M, hM⟩ : ∃ M, max xs.length ys.length = M := ⟨_, rfl⟩
  have HR : Hid (rchk n xs ys = if 2048 < M then 3 else if rform n xs ys then 0 else 11) := by show _ = _; unfold rchk; rw [hM]
  rw [hM] at HW HI
  clear hM
  by_cases hm : 2048 < M
  · have hm' : (2048 : Int) < (M : Int) := by omega
    rw [if_pos hm] at HR
    clear hm HI
    go_enter Tryz.func40, Tryz.ntmps40
    go_wp2_with fail
    refine Calls.mono HW.out ?_
    rintro e w1 ⟨rfl, hb1⟩
    have hbA := bt HB.out hb1
    clear hb1
    go_wp2_with fail
    go_ret
    exact ⟨ret_int HR.out.symm, hbA⟩
  · have hm' : ¬ (2048 : Int) < (M : Int) := by omega
    rw [if_neg hm] at HR
    have HNM := hid hm
    clear hm
    by_cases hf : rform n xs ys
    · rw [if_pos hf] at HR
      rw [decide_eq_true hf] at HI
      clear hf
      go_enter Tryz.func40, Tryz.ntmps40
      go_wp2_with fail
      refine Calls.mono HW.out ?_
      rintro e w1 ⟨rfl, hb1⟩
      obtain ⟨c0, c1, c2, _, _, _⟩ := res_box3 HX.out hb1
      have HI1 := hid (HI.out w1 hb1 HNM.out)
      have hbA := bt HB.out hb1
      clear hb1 HI
      go_wp2_with fail
      refine Calls.mono HI1.out ?_
      rintro e w2 ⟨rfl, hb2⟩
      have hbB := bt hbA hb2
      clear hb2
      go_wp2_with fail
      go_ret
      exact ⟨ret_int HR.out.symm, hbB⟩
    · rw [if_neg hf] at HR
      rw [decide_eq_false hf] at HI
      clear hf
      go_enter Tryz.func40, Tryz.ntmps40
      go_wp2_with fail
      refine Calls.mono HW.out ?_
      rintro e w1 ⟨rfl, hb1⟩
      obtain ⟨c0, c1, c2, _, _, _⟩ := res_box3 HX.out hb1
      have HI1 := hid (HI.out w1 hb1 HNM.out)
      have hbA := bt HB.out hb1
      clear hb1 HI
      go_wp2_with fail
      refine Calls.mono HI1.out ?_
      rintro e w2 ⟨rfl, hb2⟩
      have hbB := bt hbA hb2
      clear hb2
      go_wp2_with fail
      go_ret
      exact ⟨ret_int HR.out.symm, hbB⟩

/-- What checkBoth tells. -/
def rboth (n : Bool) (xs ys : List Int) (m : Bool) (us vs : List Int) : Int := if rchk n xs ys = 0 then rchk m us vs else rchk n xs ys
theorem rboth_good {n m : Bool} {xs ys us vs : List Int} (h : rchk n xs ys = 0) (g : rchk m us vs = 0) : rboth n xs ys m us vs = 0 := by unfold rboth; rw [if_pos h, g]
theorem rboth_ok {n m : Bool} {xs ys us vs : List Int} (h : rboth n xs ys m us vs = 0) : rchk n xs ys = 0 ∧ rchk m us vs = 0 := by
  unfold rboth at h
  by_cases c : rchk n xs ys = 0
  · rw [if_pos c] at h; exact ⟨c, h⟩
  · rw [if_neg c] at h; exact absurd h c

set_option maxHeartbeats 1600000 in
set_option maxRecDepth 100000 in
theorem rcheckBoth_any (n : Bool) (v : Value) (xs : List Int) (u : Value) (ys : List Int) (m : Bool) (v' : Value) (us : List Int) (u' : Value) (vs : List Int) (w : World) (h : Sl w v xs) (g : Sl w u ys) (h' : Sl w v' us) (g' : Sl w u' vs) :
    Calls Tryz.prog 84 #[.agg #[.bool n, v, u], .agg #[.bool m, v', u']] w fun e w' => e = .returned (.int .i64 (rboth n xs ys m us vs)) ∧ Below w.heap.size w w' := by
  have hb : Below w.heap.size w ((w.alloc (.cells #[.bool n, v, u] 25)).alloc (.cells #[.bool m, v', u'] 25)) := bt (alloc_later _ _) (alloc_later _ _)
  have HB := hid hb
  have H1 := hid (rcheck_any n v xs u ys _ (h.later hb) (g.later hb))
  have H2 := hid (fun w1 (hb1 : Below _ ((w.alloc (.cells #[.bool n, v, u] 25)).alloc (.cells #[.bool m, v', u'] 25)) w1) => rcheck_any m v' us u' vs w1 ((h'.later hb).later hb1) ((g'.later hb).later hb1))
  have HS : Hid (Box ((w.alloc (.cells #[.bool n, v, u] 25)).alloc (.cells #[.bool m, v', u'] 25)) (w.heap.size + 1) 25 #[.bool m, v', u']) := by
    have e := Box.made (w.alloc (.cells #[.bool n, v, u] 25)) 25 #[.bool m, v', u']
    simp at e
    exact e
  obtain ⟨a, cap, rfl, hr⟩ := h
  obtain ⟨b, cap', rfl, gr⟩ := g
  obtain ⟨a2, cap2, rfl, hr2⟩ := h'
  obtain ⟨b2, cap2', rfl, gr2⟩ := g'
  clear hb hr gr hr2 gr2
  by_cases h1 : rchk n xs ys = 0
  · have HW : Hid (rboth n xs ys m us vs = rchk m us vs) := by show _ = _; unfold rboth; rw [if_pos h1]
    rw [h1] at H1
    clear h1
    go_enter Tryz.func84, Tryz.ntmps84
    go_wp2_with fail
    refine Calls.mono H1.out ?_
    rintro e w1 ⟨rfl, hb1⟩
    obtain ⟨c0, c1, c2, _, _, _⟩ := res_box3 HS.out hb1
    have HC := hid (H2.out w1 hb1)
    have hbA := bt HB.out hb1
    clear hb1
    go_wp2_with fail
    refine Calls.mono HC.out ?_
    rintro e w2 ⟨rfl, hb2⟩
    have hbB := bt hbA hb2
    clear hb2
    go_wp2_with fail
    go_ret
    exact ⟨ret_int HW.out.symm, hbB⟩
  · have HW : Hid (rboth n xs ys m us vs = rchk n xs ys) := by show _ = _; unfold rboth; rw [if_neg h1]
    have hne : (rchk n xs ys != 0) = true := by simp [h1]
    obtain ⟨c, hc⟩ : ∃ c, rchk n xs ys = c := ⟨_, rfl⟩
    rw [hc] at H1 HW hne
    clear hc h1
    go_enter Tryz.func84, Tryz.ntmps84
    go_wp2_with fail
    refine Calls.mono H1.out ?_
    rintro e w1 ⟨rfl, hb1⟩
    have hbA := bt HB.out hb1
    clear hb1
    go_wp2_with fail
    go_ret
    exact ⟨ret_int HW.out.symm, hbA⟩

/-- A fraction has too many words. -/
def rlong (q : Rat) : Prop := wlim ≤ (q.num.natAbs : Int) ∨ wlim ≤ (q.den : Int)
/-- What a call tells that may refuse: e is the error of what is handed in, q the fraction. -/
structure RTells (e : Int) (q : Rat) (n : Bool) (xs ys : List Int) (code : Int) : Prop where
  wx : Wd xs
  wy : Wd ys
  bad : e ≠ 0 → n = false ∧ xs = [] ∧ ys = [] ∧ code = e
  long : e = 0 → rlong q → n = false ∧ xs = [] ∧ ys = [] ∧ code = 3
  good : e = 0 → ¬ rlong q → code = 0 ∧ rchk n xs ys = 0 ∧ rq n xs ys = q
def RTold (w : World) (e : Int) (q : Rat) (x : Ending) (w' : World) : Prop :=
  ∃ n v xs u ys code, x = .returned (.tuple #[.agg #[.bool n, v, u], .int .i64 code]) ∧ w'.ownsRow w.heap.size 88 1 v xs.length (xs.map (Value.int .u32)) ∧ w'.ownsRow w.heap.size 88 1 u ys.length (ys.map (Value.int .u32)) ∧ RTells e q n xs ys code ∧ Below w.heap.size w w'
theorem RTells.err {e : Int} {q : Rat} (h : e ≠ 0) : RTells e q false [] [] e := ⟨Wd.nil, Wd.nil, fun _ => ⟨rfl, rfl, rfl, rfl⟩, fun h' => absurd h' h, fun h' => absurd h' h⟩

/-- What told tells. -/
def rtoldV (n : Bool) (a : Option Addr) (k c : Nat) (b : Option Addr) (l d : Nat) : Value := if 2048 < max k l then .tuple #[.agg #[.bool false, .slice none 0 0, .slice none 0 0], .int .i64 3] else .tuple #[.agg #[.bool (n && decide (0 < k)), .slice a k c, .slice b l d], .int .i64 0]
theorem gcd_sg (n : Bool) (x d : Int) : gcdI (sg n x) d = gcdI x d := by
  cases n
  · rfl
  · show ((Int.gcd (-x) d : Nat) : Int) = _
    rw [Int.neg_gcd]; rfl
theorem abs_sg (n : Bool) {x : Int} (h : 0 ≤ x) : ((sg n x).natAbs : Int) = x := by
  cases n <;> simp [sg] <;> omega
/-- What told makes of a numerator and a denominator with nothing in common. -/
theorem rtells_of {n : Bool} {zs ds : List Int} (wz : Wd zs) (tz : Trimmed zs) (wd : Wd ds) (td : Trimmed ds) (hd : 0 < val ds) (hg : gcdI (val zs) (val ds) = 1) :
    ∃ m us vs c, (∀ a ca b cb, rtoldV n a zs.length ca b ds.length cb = .tuple #[.agg #[.bool m, if c = 0 then .slice a zs.length ca else .slice none 0 0, if c = 0 then .slice b ds.length cb else .slice none 0 0], .int .i64 c]) ∧ (if c = 0 then us = zs else us = []) ∧ (if c = 0 then vs = ds else vs = []) ∧ RTells 0 (Rat.divInt (sg n (val zs)) (val ds)) m us vs c := by
  have hz0 := val_nonneg wz
  obtain ⟨e1, e2⟩ := fr_num (x := sg n (val zs)) hd (by rw [gcd_sg]; exact hg)
  have hl : rlong (Rat.divInt (sg n (val zs)) (val ds)) ↔ 2048 < max zs.length ds.length := by
    unfold rlong
    rw [e1, e2, abs_sg n hz0, ← len2048 wz tz, ← len2048 wd td]
    omega
  by_cases h : 2048 < max zs.length ds.length
  · refine ⟨false, [], [], 3, fun a ca b cb => by unfold rtoldV; rw [if_pos h]; rfl, by simp, by simp, ⟨Wd.nil, Wd.nil, fun h => absurd rfl h, fun _ _ => ⟨rfl, rfl, rfl, rfl⟩, fun _ h' => absurd (hl.2 h) h'⟩⟩
  · have hd0 : 0 < ds.length := by
      by_cases c : 0 < ds.length
      · exact c
      · have := trimmed_zero' (us := ds) (by omega); omega
    refine ⟨n && decide (0 < zs.length), zs, ds, 0, fun a ca b cb => by unfold rtoldV; rw [if_neg h]; rfl, by simp, by simp, ⟨wz, wd, fun h => absurd rfl h, fun _ h' => absurd (hl.1 h') h, fun _ _ => ⟨rfl, rchk_good (by omega) (by omega) tz td hd0 ?_ hg, ?_⟩⟩⟩
    · by_cases c : 0 < zs.length
      · exact .inr c
      · left; simp [c]
    · unfold rq
      congr 1
      by_cases c : 0 < zs.length
      · simp [c, wval, sg]
      · rw [List.eq_nil_of_length_eq_zero (show zs.length = 0 by omega)]
        cases n <;> simp [wval, sg, val, valTo]

theorem ret_val {a b : Value} (h : a = b) : Ending.returned a = .returned b := by rw [h]

set_option maxHeartbeats 1600000 in
set_option maxRecDepth 100000 in
theorem rtold_any (n : Bool) (a : Option Addr) (k c : Nat) (b : Option Addr) (l d : Nat) (w : World) :
    Calls Tryz.prog 135 #[.bool n, .slice a k c, .slice b l d] w fun x w' => x = .returned (rtoldV n a k c b l d) ∧ Below w.heap.size w w' := by
  obtain ⟨M, hM⟩ : ∃ M, max k l = M := ⟨_, rfl⟩
  obtain ⟨s, hs⟩ : ∃ s, (n && decide (0 < k)) = s := ⟨_, rfl⟩
  have HT : Hid (rtoldV n a k c b l d = if 2048 < M then .tuple #[.agg #[.bool false, .slice none 0 0, .slice none 0 0], .int .i64 3] else .tuple #[.agg #[.bool s, .slice a k c, .slice b l d], .int .i64 0]) := by show _ = _; unfold rtoldV; rw [hM, hs]
  have HB : Hid (Below w.heap.size w ((w.alloc (.cells #[.bool false, .slice none 0 0, .slice none 0 0] 25)).alloc (.cells #[.bool s, .slice a k c, .slice b l d] 25))) := bt (alloc_later _ _) (alloc_later _ _)
  have HW := hid (rwords_any s a k c b l d ((w.alloc (.cells #[.bool false, .slice none 0 0, .slice none 0 0] 25)).alloc (.cells #[.bool s, .slice a k c, .slice b l d] 25)))
  rw [hM] at HW
  clear hM
  have HZ : Hid (Box ((w.alloc (.cells #[.bool false, .slice none 0 0, .slice none 0 0] 25)).alloc (.cells #[.bool s, .slice a k c, .slice b l d] 25)) w.heap.size 25 #[.bool false, .slice none 0 0, .slice none 0 0]) := Box.later (Box.made w _ _) (alloc_later _ _) (by simp)
  have HS : Hid (Box ((w.alloc (.cells #[.bool false, .slice none 0 0, .slice none 0 0] 25)).alloc (.cells #[.bool s, .slice a k c, .slice b l d] 25)) (w.heap.size + 1) 25 #[.bool s, .slice a k c, .slice b l d]) := by
    have e := Box.made (w.alloc (.cells #[.bool false, .slice none 0 0, .slice none 0 0] 25)) 25 #[.bool s, .slice a k c, .slice b l d]
    simp at e
    exact e
  by_cases hm : 2048 < M
  · have hm' : (2048 : Int) < (M : Int) := by omega
    rw [if_pos hm] at HT
    clear hm
    cases n with
    | false =>
      obtain rfl : s = false := by rw [← hs]; rfl
      clear hs
      go_enter Tryz.func135, Tryz.ntmps135
      go_wp2_with fail
      refine Calls.mono HW.out ?_
      rintro e w1 ⟨rfl, hb1⟩
      obtain ⟨r0, r1, r2, f0, f1, f2⟩ := res_box3 HZ.out hb1
      obtain ⟨c0, c1, c2, _, _, _⟩ := res_box3 HS.out hb1
      have hbA := bt HB.out hb1
      clear hb1
      go_wp2_with fail
      refine bodyPost_ret (v := .tuple #[.agg #[.bool false, .slice none 0 0, .slice none 0 0], .int .i64 3]) (by simp [results, Tryz.results135, go_sem, r0, r1, r2]) rfl ?_
      exact ⟨ret_val HT.out.symm, below_put3 hbA _ (Nat.le_refl _) _ _ _⟩
    | true =>
      obtain rfl : s = decide (0 < k) := by rw [← hs]; rfl
      clear hs
      go_enter Tryz.func135, Tryz.ntmps135
      go_wp2_with fail
      refine Calls.mono HW.out ?_
      rintro e w1 ⟨rfl, hb1⟩
      obtain ⟨r0, r1, r2, f0, f1, f2⟩ := res_box3 HZ.out hb1
      obtain ⟨c0, c1, c2, _, _, _⟩ := res_box3 HS.out hb1
      have hbA := bt HB.out hb1
      clear hb1
      go_wp2_with fail
      refine bodyPost_ret (v := .tuple #[.agg #[.bool false, .slice none 0 0, .slice none 0 0], .int .i64 3]) (by simp [results, Tryz.results135, go_sem, r0, r1, r2]) rfl ?_
      exact ⟨ret_val HT.out.symm, below_put3 hbA _ (Nat.le_refl _) _ _ _⟩
  · have hm' : ¬ (2048 : Int) < (M : Int) := by omega
    rw [if_neg hm] at HT
    clear hm
    cases n with
    | false =>
      obtain rfl : s = false := by rw [← hs]; rfl
      clear hs
      go_enter Tryz.func135, Tryz.ntmps135
      go_wp2_with fail
      refine Calls.mono HW.out ?_
      rintro e w1 ⟨rfl, hb1⟩
      obtain ⟨r0, r1, r2, f0, f1, f2⟩ := res_box3 HZ.out hb1
      obtain ⟨c0, c1, c2, _, _, _⟩ := res_box3 HS.out hb1
      have hbA := bt HB.out hb1
      clear hb1
      go_wp2_with fail
      refine bodyPost_ret (v := .tuple #[.agg #[.bool false, .slice a k c, .slice b l d], .int .i64 0]) (by simp [results, Tryz.results135, go_sem, r0, r1, r2]) rfl ?_
      exact ⟨ret_val HT.out.symm, below_put3 hbA _ (Nat.le_refl _) _ _ _⟩
    | true =>
      obtain rfl : s = decide (0 < k) := by rw [← hs]; rfl
      clear hs
      go_enter Tryz.func135, Tryz.ntmps135
      go_wp2_with fail
      refine Calls.mono HW.out ?_
      rintro e w1 ⟨rfl, hb1⟩
      obtain ⟨r0, r1, r2, f0, f1, f2⟩ := res_box3 HZ.out hb1
      obtain ⟨c0, c1, c2, _, _, _⟩ := res_box3 HS.out hb1
      have hbA := bt HB.out hb1
      clear hb1
      go_wp2_with fail
      refine bodyPost_ret (v := .tuple #[.agg #[.bool (decide (0 < k)), .slice a k c, .slice b l d], .int .i64 0]) (by simp [results, Tryz.results135, go_sem, r0, r1, r2]) rfl ?_
      exact ⟨ret_val HT.out.symm, below_put3 hbA _ (Nat.le_refl _) _ _ _⟩
end Go.Proofs.YtabkgpnckaaclaaGreatDoor

/- Fractions: ratio.sum, difference, product, quotient, commonDivisor, signedSum: of numbers that are short enough. -/
namespace Go.Proofs.YtabkgpnckaaclaaGreatDoor
open Go.RowKit
set_option linter.unusedVariables false

theorem sum_wide {xs ys : List Int} (wx : Wd xs) (wy : Wd ys) (lx : xs.length ≤ 8191) (ly : ys.length ≤ 8191) : val xs + val ys < wide := by
  have a1 : val xs < 4294967296 ^ 8191 := Int.lt_of_lt_of_le (val_lt wx) (pw_le lx)
  have a2 : val ys < 4294967296 ^ 8191 := Int.lt_of_lt_of_le (val_lt wy) (pw_le ly)
  have e : wide = 4294967296 ^ 8191 * 4294967296 := pw_succ 8191
  rw [e]
  generalize (4294967296 : Int) ^ 8191 = P at *
  have := val_nonneg wx
  have := val_nonneg wy
  omega
theorem prod_lt {xs ys : List Int} (wx : Wd xs) (wy : Wd ys) : val xs * val ys < 4294967296 ^ (xs.length + ys.length) := by
  have a1 := val_lt wx
  have a2 := val_lt wy
  rw [Int.pow_add]
  have n1 := val_nonneg wx
  have n2 := val_nonneg wy
  have p2 := pw_pos ys.length
  have p1 := pw_pos xs.length
  generalize (4294967296 : Int) ^ xs.length = P at *
  generalize (4294967296 : Int) ^ ys.length = Q at *
  have e1 : val xs * val ys ≤ val xs * Q := Int.mul_le_mul_of_nonneg_left (by omega) n1
  have e2 : val xs * Q < P * Q := Int.mul_lt_mul_of_pos_right a1 p2
  omega
theorem prod_wide {xs ys : List Int} (wx : Wd xs) (wy : Wd ys) (hl : xs.length + ys.length ≤ 8192) : val xs * val ys < wide := Int.lt_of_lt_of_le (prod_lt wx wy) (pw_le hl)

set_option maxHeartbeats 800000 in
set_option maxRecDepth 100000 in
theorem rsum_any (v u : Value) (xs ys : List Int) (w : World) (h : Sl w v xs) (g : Sl w u ys) (lx : xs.length ≤ 8191) (ly : ys.length ≤ 8191) (tx : Trimmed xs) (ty : Trimmed ys) :
    Calls Tryz.prog 150 #[v, u] w (Told1 w (val xs + val ys)) := by
  have HT := hid (sum_wide h.wd g.wd lx ly)
  have HH := hid (add_sl v u xs ys w h g (by omega) (by omega))
  rw [both_good (chk_good (by omega) tx) (chk_good (by omega) ty)] at HH
  obtain ⟨a, cap, rfl, hr⟩ := h
  obtain ⟨b, cap', rfl, gr⟩ := g
  clear hr gr
  go_enter Tryz.func150, Tryz.ntmps150
  go_wp2_with fail
  refine Calls.mono HH.out ?_
  rintro e w1 ⟨v1, zs, code, rfl, o1, t1, hb1⟩
  obtain ⟨rfl, hv1⟩ := t1.good rfl HT.out
  obtain ⟨a1, c1, hs1⟩ := own_slice' o1
  subst hs1
  have HE := hid (And.intro o1 (And.intro t1.wd (And.intro t1.trim (And.intro hv1 hb1))))
  clear o1 t1 hv1 hb1 HH
  go_wp2_with fail
  go_ret
  exact ⟨_, zs, rfl, HE.out.1, HE.out.2.1, HE.out.2.2.1, HE.out.2.2.2.1, HE.out.2.2.2.2⟩

set_option maxHeartbeats 800000 in
set_option maxRecDepth 100000 in
theorem rdiff_any (v u : Value) (xs ys : List Int) (w : World) (h : Sl w v xs) (g : Sl w u ys) (lx : xs.length ≤ 8192) (ly : ys.length ≤ 8192) (tx : Trimmed xs) (ty : Trimmed ys) (hle : val ys ≤ val xs) :
    Calls Tryz.prog 151 #[v, u] w (Told1 w (val xs - val ys)) := by
  have HT : Hid (val xs - val ys < wide) := by
    have a1 : val xs < wide := Int.lt_of_lt_of_le (val_lt h.wd) (pw_le lx)
    have a2 := val_nonneg g.wd
    show _ < _
    omega
  have HH := hid (sub_sl v u xs ys w h g (by omega) (by omega))
  rw [both_good (chk_good (by omega) tx) (chk_good (by omega) ty), if_pos rfl, if_neg (by omega)] at HH
  obtain ⟨a, cap, rfl, hr⟩ := h
  obtain ⟨b, cap', rfl, gr⟩ := g
  clear hr gr
  go_enter Tryz.func151, Tryz.ntmps151
  go_wp2_with fail
  refine Calls.mono HH.out ?_
  rintro e w1 ⟨v1, zs, code, rfl, o1, t1, hb1⟩
  obtain ⟨rfl, hv1⟩ := t1.good rfl HT.out
  obtain ⟨a1, c1, hs1⟩ := own_slice' o1
  subst hs1
  have HE := hid (And.intro o1 (And.intro t1.wd (And.intro t1.trim (And.intro hv1 hb1))))
  clear o1 t1 hv1 hb1 HH
  go_wp2_with fail
  go_ret
  exact ⟨_, zs, rfl, HE.out.1, HE.out.2.1, HE.out.2.2.1, HE.out.2.2.2.1, HE.out.2.2.2.2⟩

set_option maxHeartbeats 800000 in
set_option maxRecDepth 100000 in
theorem rprod_any (v u : Value) (xs ys : List Int) (w : World) (h : Sl w v xs) (g : Sl w u ys) (hl : xs.length + ys.length ≤ 8192) (tx : Trimmed xs) (ty : Trimmed ys) :
    Calls Tryz.prog 112 #[v, u] w (Told1 w (val xs * val ys)) := by
  have HT := hid (prod_wide h.wd g.wd hl)
  have HH := hid (mul_sl v u xs ys w h g (by omega) (by omega))
  rw [both_good (chk_good (by omega) tx) (chk_good (by omega) ty)] at HH
  obtain ⟨a, cap, rfl, hr⟩ := h
  obtain ⟨b, cap', rfl, gr⟩ := g
  clear hr gr
  go_enter Tryz.func112, Tryz.ntmps112
  go_wp2_with fail
  refine Calls.mono HH.out ?_
  rintro e w1 ⟨v1, zs, code, rfl, o1, t1, hb1⟩
  obtain ⟨rfl, hv1⟩ := t1.good rfl HT.out
  obtain ⟨a1, c1, hs1⟩ := own_slice' o1
  subst hs1
  have HE := hid (And.intro o1 (And.intro t1.wd (And.intro t1.trim (And.intro hv1 hb1))))
  clear o1 t1 hv1 hb1 HH
  go_wp2_with fail
  go_ret
  exact ⟨_, zs, rfl, HE.out.1, HE.out.2.1, HE.out.2.2.1, HE.out.2.2.2.1, HE.out.2.2.2.2⟩

set_option maxHeartbeats 800000 in
set_option maxRecDepth 100000 in
theorem rcommon_any (v u : Value) (xs ys : List Int) (w : World) (h : Sl w v xs) (g : Sl w u ys) (lx : xs.length ≤ 8192) (ly : ys.length ≤ 8192) (tx : Trimmed xs) (ty : Trimmed ys) :
    Calls Tryz.prog 132 #[v, u] w (Told1 w (gcdI (val xs) (val ys))) := by
  have hz := both_good (chk_good lx tx) (chk_good ly ty)
  have HT := hid (gcd_wide h.wd g.wd hz)
  have HH := hid (gcd_sl v u xs ys w h g (by omega) (by omega))
  rw [hz] at HH
  clear hz
  obtain ⟨a, cap, rfl, hr⟩ := h
  obtain ⟨b, cap', rfl, gr⟩ := g
  clear hr gr
  go_enter Tryz.func132, Tryz.ntmps132
  go_wp2_with fail
  refine Calls.mono HH.out ?_
  rintro e w1 ⟨v1, zs, code, rfl, o1, t1, hb1⟩
  obtain ⟨rfl, hv1⟩ := t1.good rfl HT.out
  obtain ⟨a1, c1, hs1⟩ := own_slice' o1
  subst hs1
  have HE := hid (And.intro o1 (And.intro t1.wd (And.intro t1.trim (And.intro hv1 hb1))))
  clear o1 t1 hv1 hb1 HH
  go_wp2_with fail
  go_ret
  exact ⟨_, zs, rfl, HE.out.1, HE.out.2.1, HE.out.2.2.1, HE.out.2.2.2.1, HE.out.2.2.2.2⟩

set_option maxHeartbeats 800000 in
set_option maxRecDepth 100000 in
theorem rquot_any (v u : Value) (xs ys : List Int) (w : World) (h : Sl w v xs) (g : Sl w u ys) (lx : xs.length ≤ 8192) (ly : ys.length ≤ 8192) (tx : Trimmed xs) (ty : Trimmed ys) (h0 : 0 < ys.length) :
    Calls Tryz.prog 133 #[v, u] w (Told1 w (val xs / val ys)) := by
  have HH := hid (divMod_own v u xs ys w h g lx ly tx ty h0)
  obtain ⟨a, cap, rfl, hr⟩ := h
  obtain ⟨b, cap', rfl, gr⟩ := g
  clear hr gr
  go_enter Tryz.func133, Tryz.ntmps133
  go_wp2_with fail
  refine Calls.mono HH.out ?_
  rintro e w1 ⟨v1, v2, q, r, rfl, o1, o2, wq, wr, tq, tr, hq, hr, hb1⟩
  have hv : val q = val xs / val ys := by
    have r0 := val_nonneg wr
    rw [hq, Int.add_comm, Int.add_mul_ediv_right _ _ (by omega), Int.ediv_eq_zero_of_lt r0 hr]
    omega
  obtain ⟨a1, c1, hs1⟩ := own_slice' o1
  subst hs1
  obtain ⟨a2, c2, hs2⟩ := own_slice' o2
  subst hs2
  have HE := hid (And.intro o1 (And.intro wq (And.intro tq (And.intro hv hb1))))
  clear o1 o2 wq wr tq tr hq hr hb1 hv HH
  go_wp2_with fail
  go_ret
  exact ⟨_, q, rfl, HE.out.1, HE.out.2.1, HE.out.2.2.1, HE.out.2.2.2.1, HE.out.2.2.2.2⟩
end Go.Proofs.YtabkgpnckaaclaaGreatDoor

/- A struct variable that is written: what lies elsewhere stays. -/
namespace Go.Proofs.YtabkgpnckaaclaaGreatDoor
open Go.RowKit
set_option linter.unusedVariables false

theorem Sl.put2 {U : World} {v : Value} {xs : List Int} {b t : Nat} {n : Bool} {a : Option Addr} {k c : Nat} (h : Sl U v xs) (hb : Box U b t #[.bool n, .slice a k c]) (v0 v1 : Value) : Sl ((U.setCell ⟨b, 0, none⟩ v0).setCell ⟨b, 1, none⟩ v1) v xs := by
  obtain ⟨a', cap, rfl, h1, h2, h3, h4⟩ := h
  refine ⟨a', cap, rfl, h1, h2, ?_, h4⟩
  rcases h3 with h0 | ⟨bb, o, rfl, hlt, hc⟩
  · exact .inl h0
  · by_cases hl : xs.length = 0
    · exact .inl hl
    · right
      have hne : bb ≠ b := fun e => by
        subst e
        have e1 := hc 0 (by omega)
        rw [Nat.add_zero, hb.cell o] at e1
        match o with
        | 0 => simp at e1
        | 1 => simp at e1
        | o + 2 => simp at e1
      refine ⟨bb, o, rfl, by simpa [World.setCell] using hlt, fun j hj => ?_⟩
      have e1 := World.cell?_of_block (w := U) (w' := U.setCell ⟨b, 0, none⟩ v0) (a := ⟨bb, o + j, none⟩) (Below.heap_setCell U ⟨b, 0, none⟩ v0 bb hne)
      have e2 := World.cell?_of_block (w := U.setCell ⟨b, 0, none⟩ v0) (w' := (U.setCell ⟨b, 0, none⟩ v0).setCell ⟨b, 1, none⟩ v1) (a := ⟨bb, o + j, none⟩) (Below.heap_setCell _ ⟨b, 1, none⟩ v1 bb hne)
      rw [e2, e1]
      exact hc j hj
theorem Box.put2 {U : World} {b t : Nat} {u0 u1 : Value} (h : Box U b t #[u0, u1]) (v0 v1 : Value) : Box ((U.setCell ⟨b, 0, none⟩ v0).setCell ⟨b, 1, none⟩ v1) b t #[v0, v1] := (h.set 0 v0).set 1 v1
theorem Box.far2 {U : World} {b t b' : Nat} {vs : Array Value} (h : Box U b t vs) (hne : b ≠ b') (v0 v1 : Value) : Box ((U.setCell ⟨b', 0, none⟩ v0).setCell ⟨b', 1, none⟩ v1) b t vs := (h.other ⟨b', 0, none⟩ v0 hne).other ⟨b', 1, none⟩ v1 hne
theorem own_ne_box {U : World} {base e n b t : Nat} {v : Value} {xs : List Value} {vs : Array Value} (h : U.ownsRow base e 1 v n xs) (hb : Box U b t vs) (hne : e ≠ t) : ∀ g, v.ownBlock = some g → g ≠ b := fun g hg => by
  rcases h.2 with ⟨rfl, _⟩ | ⟨g1, c1, u1, rfl, _, hg1, _⟩
  · simp [Value.ownBlock] at hg
  · simp [Value.ownBlock] at hg
    subst hg
    intro e1
    subst e1
    unfold Box at hb
    rw [hg1] at hb
    simp at hb
    exact hne hb.2
/-- A whole number in memory that may be, in new memory. -/
structure Pb (U : World) (base b : Nat) (n : Bool) (a : Option Addr) (c : Nat) (zs : List Int) : Prop where
  box : Box U b 136 #[.bool n, .slice a zs.length c]
  own : U.ownsRow base 88 1 (.slice a zs.length c) zs.length (zs.map (Value.int .u32))
  wd : Wd zs
  ok : wchk n zs = 0
/-- A whole number in memory that may be. -/
structure Ab (U : World) (b : Nat) (n : Bool) (a : Option Addr) (c : Nat) (xs : List Int) : Prop where
  box : Box U b 136 #[.bool n, .slice a xs.length c]
  sl : Sl U (.slice a xs.length c) xs
  ok : wchk n xs = 0
theorem Pb.later {U V : World} {base b : Nat} {n : Bool} {a : Option Addr} {c : Nat} {zs : List Int} (h : Pb U base b n a c zs) (hb : Below U.heap.size U V) : Pb V base b n a c zs := ⟨h.box.later hb h.box.lt, owns_later h.own hb, h.wd, h.ok⟩
theorem Ab.later {U V : World} {b : Nat} {n : Bool} {a : Option Addr} {c : Nat} {zs : List Int} (h : Ab U b n a c zs) (hb : Below U.heap.size U V) : Ab V b n a c zs := ⟨h.box.later hb h.box.lt, h.sl.later hb, h.ok⟩
theorem Pb.far {U : World} {base b : Nat} {n : Bool} {a : Option Addr} {c : Nat} {zs : List Int} (h : Pb U base b n a c zs) {b' : Nat} {n' : Bool} {a' : Option Addr} {k' c' : Nat} (hb : Box U b' 136 #[.bool n', .slice a' k' c']) (hne : b ≠ b') (v0 v1 : Value) : Pb ((U.setCell ⟨b', 0, none⟩ v0).setCell ⟨b', 1, none⟩ v1) base b n a c zs :=
  ⟨h.box.far2 hne v0 v1, own_put2 h.own b' (own_ne_box h.own hb (by decide)) v0 v1, h.wd, h.ok⟩
theorem Ab.far {U : World} {b : Nat} {n : Bool} {a : Option Addr} {c : Nat} {zs : List Int} (h : Ab U b n a c zs) {b' : Nat} {n' : Bool} {a' : Option Addr} {k' c' : Nat} (hb : Box U b' 136 #[.bool n', .slice a' k' c']) (hne : b ≠ b') (v0 v1 : Value) : Ab ((U.setCell ⟨b', 0, none⟩ v0).setCell ⟨b', 1, none⟩ v1) b n a c zs :=
  ⟨h.box.far2 hne v0 v1, h.sl.put2 hb v0 v1, h.ok⟩
theorem Pb.put {U : World} {base b : Nat} {n' : Bool} {a' : Option Addr} {k' c' : Nat} (hb : Box U b 136 #[.bool n', .slice a' k' c']) {n : Bool} {a : Option Addr} {c : Nat} {zs : List Int} (ho : U.ownsRow base 88 1 (.slice a zs.length c) zs.length (zs.map (Value.int .u32))) (hw : Wd zs) (hk : wchk n zs = 0) :
    Pb ((U.setCell ⟨b, 0, none⟩ (.bool n)).setCell ⟨b, 1, none⟩ (.slice a zs.length c)) base b n a c zs := ⟨hb.put2 _ _, own_put2 ho b (own_ne_box ho hb (by decide)) _ _, hw, hk⟩
theorem Ab.put {U : World} {b : Nat} {n' : Bool} {a' : Option Addr} {k' c' : Nat} (hb : Box U b 136 #[.bool n', .slice a' k' c']) {n : Bool} {a : Option Addr} {c : Nat} {zs : List Int} (hs : Sl U (.slice a zs.length c) zs) (hk : wchk n zs = 0) :
    Ab ((U.setCell ⟨b, 0, none⟩ (.bool n)).setCell ⟨b, 1, none⟩ (.slice a zs.length c)) b n a c zs := ⟨hb.put2 _ _, hs.put2 hb _ _, hk⟩
theorem Pb.c {U : World} {base b : Nat} {n : Bool} {a : Option Addr} {c : Nat} {zs : List Int} (h : Pb U base b n a c zs) : U.cell? ⟨b, 0, none⟩ = some (.bool n) ∧ U.cell? ⟨b, 1, none⟩ = some (.slice a zs.length c) ∧ U.frozen? ⟨b, 0, none⟩ = false ∧ U.frozen? ⟨b, 1, none⟩ = false := ⟨h.box.cell 0, h.box.cell 1, h.box.free 0, h.box.free 1⟩
theorem Ab.c {U : World} {b : Nat} {n : Bool} {a : Option Addr} {c : Nat} {zs : List Int} (h : Ab U b n a c zs) : U.cell? ⟨b, 0, none⟩ = some (.bool n) ∧ U.cell? ⟨b, 1, none⟩ = some (.slice a zs.length c) ∧ U.frozen? ⟨b, 0, none⟩ = false ∧ U.frozen? ⟨b, 1, none⟩ = false := ⟨h.box.cell 0, h.box.cell 1, h.box.free 0, h.box.free 1⟩
theorem Box.c2 {U : World} {b t : Nat} {u0 u1 : Value} (h : Box U b t #[u0, u1]) : U.cell? ⟨b, 0, none⟩ = some u0 ∧ U.cell? ⟨b, 1, none⟩ = some u1 ∧ U.frozen? ⟨b, 0, none⟩ = false ∧ U.frozen? ⟨b, 1, none⟩ = false := ⟨h.cell 0, h.cell 1, h.free 0, h.free 1⟩
theorem wchk_one {n : Bool} {zs : List Int} (l : zs.length ≤ 2048) (t : Trimmed zs) (s : n = false ∨ 0 < zs.length) : wchk n zs = 0 := wchk_good l t s
end Go.Proofs.YtabkgpnckaaclaaGreatDoor

/- The laws of layer 2: lives (two of the chapter's examples hold); the document's own made, Of. -/
namespace Go.Proofs.YtabkgpnckaaclaaGreatDoor
open Go.RowKit
set_option linter.unusedVariables false

theorem wlim_big : (18446744073709551616 : Int) ≤ wlim := by
  have : (4294967296 : Int) ^ 2 ≤ 4294967296 ^ 2048 := pw_le (by omega)
  unfold wlim
  have e : (4294967296 : Int) ^ 2 = 18446744073709551616 := by decide
  rw [e] at this
  exact this
theorem WTells.num {t : Int} {n : Bool} {zs : List Int} {code : Int} (h : WTells 0 t n zs code) (h0 : -18446744073709551616 < t) (h1 : t < 18446744073709551616) : code = 0 ∧ wval n zs = t := by
  have := wlim_big
  exact h.good rfl (by omega) (by omega)
theorem wval_pos {n : Bool} {zs : List Int} (hw : Wd zs) (h : 0 < wval n zs) : n = false ∧ val zs = wval n zs := by
  have := val_nonneg hw
  cases n with
  | false => exact ⟨rfl, rfl⟩
  | true => have e : wval true zs = -(val zs) := rfl; omega

end Go.Proofs.YtabkgpnckaaclaaGreatDoor

/- The document's own whole numbers: slackwaterref02.Check, Product. -/
namespace Go.Proofs.YtabkgpnckaaclaaGreatDoor
open Go.RowKit
set_option linter.unusedVariables false

theorem chk_last {xs : List Int} (hl : xs.length ≤ 2048) : chk xs = 0 ↔ xs.length = 0 ∨ ¬ xs[xs.length - 1]?.getD 0 = 0 := by
  rw [← sz_eq_iff]
  constructor
  · intro h; exact (chk_ok h).2
  · intro h; exact chk_good (by omega) h

/-- A whole number in its one form, of any length, in new memory. -/
def WNum (w : World) (t : Int) (x : Ending) (w' : World) : Prop := ∃ n v zs, x = .returned (.agg #[.bool n, v]) ∧ w'.ownsRow w.heap.size 88 1 v zs.length (zs.map (Value.int .u32)) ∧ Wd zs ∧ Trimmed zs ∧ (n = false ∨ 0 < zs.length) ∧ wval n zs = t ∧ Below w.heap.size w w'
end Go.Proofs.YtabkgpnckaaclaaGreatDoor

/- The document's own fractions: over, trimmed, whole, one, size. -/
namespace Go.Proofs.YtabkgpnckaaclaaGreatDoor
open Go.RowKit
set_option linter.unusedVariables false

set_option maxHeartbeats 800000 in
set_option maxRecDepth 100000 in
theorem over3_any (v u : Value) (xs ys : List Int) (w : World) (h : Sl w v xs) (g : Sl w u ys) (lx : xs.length ≤ 8192) (ly : ys.length ≤ 8192) (tx : Trimmed xs) (ty : Trimmed ys) (h0 : 0 < ys.length) :
    Calls Tryz.prog 100 #[v, u] w (Told1 w (val xs / val ys)) := by
  have HH := hid (refDivMod_any v u xs ys w h g lx ly tx ty h0)
  obtain ⟨a, cap, rfl, hr⟩ := h
  obtain ⟨b, cap', rfl, gr⟩ := g
  clear hr gr
  go_enter Tryz.func100, Tryz.ntmps100
  go_wp2_with fail
  refine Calls.mono HH.out ?_
  rintro e w1 ⟨v1, v2, q, r, rfl, o1, o2, wq, wr, tq, tr, hq, hr, hb1⟩
  have hv : val q = val xs / val ys := by
    have r0 := val_nonneg wr
    rw [hq, Int.add_comm, Int.add_mul_ediv_right _ _ (by omega), Int.ediv_eq_zero_of_lt r0 hr]
    omega
  obtain ⟨a1, c1, hs1⟩ := own_slice' o1
  subst hs1
  obtain ⟨a2, c2, hs2⟩ := own_slice' o2
  subst hs2
  have HE := hid (And.intro o1 (And.intro wq (And.intro tq (And.intro hv hb1))))
  clear o1 o2 wq wr tq tr hq hr hb1 hv HH
  go_wp2_with fail
  go_ret
  exact ⟨_, q, rfl, HE.out.1, HE.out.2.1, HE.out.2.2.1, HE.out.2.2.2.1, HE.out.2.2.2.2⟩

set_option maxHeartbeats 1600000 in
set_option maxRecDepth 100000 in
theorem trimmed3_any (v : Value) (xs : List Int) (w : World) (h : Sl w v xs) (hn : xs.length ≤ 281474976710656) :
    Calls Tryz.prog 76 #[v] w fun e w' => e = .returned (.bool (decide (sz xs = xs.length))) ∧ Below w.heap.size w w' := by
  have wx := h.wd
  obtain ⟨a, cap, rfl, hr⟩ := h
  have HCL := hid hr.cells
  have hcap := hr.2.2.2.1
  have hcap2 := hr.2.2.2.2.1
  have HB := hid (Below.refl w.heap.size w)
  clear hr
  have hcl : Trimmed xs ↔ xs.length = 0 ∨ ¬ xs[xs.length - 1]?.getD 0 = 0 := by rw [← sz_eq_iff]; exact Iff.rfl
  obtain ⟨k, hk⟩ : ∃ k, xs.length = k := ⟨_, rfl⟩
  rw [hk] at hcl
  by_cases h0 : k = 0
  · subst h0
    have HW : Hid (decide (sz xs = xs.length) = true) := by show _ = _; exact decide_eq_true (hcl.2 (.inl rfl))
    rw [HW.out, hk]
    clear hk hcl HCL wx
    go_enter Tryz.func76, Tryz.ntmps76
    go_wp2_with fail
    go_ret
    exact ⟨rfl, HB.out⟩
  · obtain ⟨m, hm⟩ : ∃ m, k = m + 1 := ⟨k - 1, by omega⟩
    subst hm
    have bx := wx.at m
    rw [show m + 1 - 1 = m by omega] at hcl
    have hkz : ((m : Int) + 1 == 0) = false := beq_eq_false_iff_ne.2 (by omega)
    have hm1 : (m : Int) ≤ 281474976710656 := by omega
    rw [hk] at HCL hcap ⊢
    obtain ⟨b1, o1, rfl, l1, cx⟩ := HCL.out m (by omega)
    have him : ((m + 1 : Nat) : Int) - 1 = (m : Int) := by omega
    by_cases hz : xs[m]?.getD 0 = 0
    · have HW : Hid (decide (sz xs = xs.length) = false) := by show _ = _; exact decide_eq_false (fun h => (hcl.1 h).elim (fun e => by omega) (fun e => e hz))
      rw [hk] at HW
      rw [HW.out]
      rw [hz] at cx
      clear hk hcl HCL hz bx wx
      go_enter Tryz.func76, Tryz.ntmps76
      go_wp2_with fail
      go_ret
      exact ⟨rfl, HB.out⟩
    · have HW : Hid (decide (sz xs = xs.length) = true) := by show _ = _; exact decide_eq_true (hcl.2 (.inr hz))
      rw [hk] at HW
      rw [HW.out]
      obtain ⟨X, hX⟩ : ∃ X, xs[m]?.getD 0 = X := ⟨_, rfl⟩
      rw [hX] at cx hz bx
      have hzb : (X != 0) = true := by simp [hz]
      clear hk hcl HCL hX wx
      go_enter Tryz.func76, Tryz.ntmps76
      go_wp2_with fail
      go_ret
      exact ⟨rfl, HB.out⟩

theorem one3_any (w : World) : Calls Tryz.prog 79 #[] w fun e w' => ∃ g, e = .returned (.slice (some ⟨g, 0, none⟩) 1 1) ∧ w'.ownsRow w.heap.size 88 1 (.slice (some ⟨g, 0, none⟩) 1 1) 1 ([(1 : Int)].map (Value.int .u32)) ∧ Below w.heap.size w w' := by
  have HO : Hid ((w.alloc (.cells #[.int .u32 1] 88)).ownsRow w.heap.size 88 1 (.slice (some ⟨w.heap.size, 0, none⟩) 1 1) 1 ([(1 : Int)].map (Value.int .u32))) := ⟨rfl, .inr ⟨w.heap.size, 1, #[.int .u32 1], rfl, Nat.le_refl _, Box.made w _ _, Nat.le_refl _, by unfold maxLen; simp, rfl, rfl⟩⟩
  have HB := hid (alloc_later w (.cells #[.int .u32 1] 88))
  go_enter Tryz.func79, Tryz.ntmps79
  go_wp2_with fail
  go_ret
  exact ⟨w.heap.size, rfl, HO.out, HB.out⟩
end Go.Proofs.YtabkgpnckaaclaaGreatDoor

/- The document's own floats (slackwaterref06): shifted, scaled, even: of numbers that are not too long. -/
namespace Go.Proofs.YtabkgpnckaaclaaGreatDoor
open Go.RowKit
set_option linter.unusedVariables false

theorem nd_wide {xs : List Int} {n : Nat} (wx : Wd xs) (lx : xs.length ≤ 4400) (hn : n ≤ 70000) : val xs * 2 ^ n < wide := by
  have h1 := val_lt wx
  have h0 := val_nonneg wx
  rw [wide_two]
  generalize hM : (262144 : Nat) = M
  have e1 : (4294967296 : Int) ^ xs.length = 2 ^ (32 * xs.length) := by rw [Int.pow_mul]; rfl
  rw [e1] at h1
  have hp : (0 : Int) < 2 ^ n := Int.pow_pos (by decide)
  have h2 : val xs * 2 ^ n < 2 ^ (32 * xs.length) * 2 ^ n := Int.mul_lt_mul_of_pos_right h1 hp
  rw [← Int.pow_add] at h2
  have h3 : (2 : Int) ^ (32 * xs.length + n) ≤ 2 ^ M := by
    have h4 : 2 ^ (32 * xs.length + n) ≤ 2 ^ M := Nat.pow_le_pow_right (by decide) (by omega)
    have h5 := Int.ofNat_le.2 h4
    rw [Int.natCast_pow, Int.natCast_pow] at h5
    exact h5
  exact Int.lt_of_lt_of_le h2 h3

theorem nd_len {zs : List Int} (wz : Wd zs) (tz : Trimmed zs) (h : val zs < wide) : zs.length ≤ 8192 := len_of_lt wz tz h
theorem nd_two {x : Int} (h : x < 18446744073709551616) : x < 4294967296 ^ 2 := by
  have e : (4294967296 : Int) ^ 2 = 18446744073709551616 := by decide
  omega
theorem nd_chk {xs : List Int} (tx : Trimmed xs) (lx : xs.length ≤ 8192) : chk xs = 0 := by
  unfold chk
  rw [if_neg (by omega), if_pos (show sz xs = xs.length from tx)]

set_option maxHeartbeats 800000 in
set_option maxRecDepth 100000 in
theorem ndShifted_any (v : Value) (xs : List Int) (n : Nat) (w : World) (h : Sl w v xs) (wx : Wd xs) (tx : Trimmed xs) (lx : xs.length ≤ 4400) (hn : n ≤ 70000) :
    Calls Tryz.prog 67 #[v, .int .i64 (n : Int)] w (Ref1 w (val xs * 2 ^ n)) := by
  have HH := hid (refShift_full v xs (n : Int) w h (by omega) (by omega) (by omega))
  have HE : Hid (shErr xs (n : Int) = 0 ∧ shVal xs (n : Int) = val xs * 2 ^ n ∧ val xs * 2 ^ n < wide) := by
    refine ⟨shErr_ok (nd_chk tx (by omega)) (by omega), ?_, nd_wide wx lx hn⟩
    unfold shVal
    rw [if_neg (by omega)]
    rfl
  obtain ⟨a, cap, rfl, hr⟩ := h
  clear hr wx tx lx hn
  go_enter Tryz.func67, Tryz.ntmps67
  go_wp2_with fail
  refine Calls.mono HH.out ?_
  rintro e w1 ⟨v1, zs, code, rfl, o1, ht, hb1⟩
  have hg := ht.good HE.out.1 (by rw [HE.out.2.1]; exact HE.out.2.2)
  have hv : val zs = val xs * 2 ^ n := hg.2.trans HE.out.2.1
  have HF := hid (And.intro o1 (And.intro ht.wd (And.intro ht.trim (And.intro hv hb1))))
  obtain ⟨a1, c1, hs1⟩ := own_slice' o1
  subst hs1
  clear o1 ht hb1 hg hv HH HE
  go_wp2_with fail
  go_ret
  exact ⟨_, zs, rfl, HF.out.1, HF.out.2.1, HF.out.2.2.1, HF.out.2.2.2.1, HF.out.2.2.2.2⟩

/-- Two numbers, each as it came or new: what scaled tells. -/
def Sc2 (w : World) (A D : Int) (x : Ending) (w' : World) : Prop := ∃ a ca b cb zs ds, x = .returned (.tuple #[.slice a (List.length zs) ca, .slice b (List.length ds) cb]) ∧ Sl w' (.slice a zs.length ca) zs ∧ Sl w' (.slice b ds.length cb) ds ∧ Wd zs ∧ Wd ds ∧ Trimmed zs ∧ Trimmed ds ∧ val zs = A ∧ val ds = D ∧ zs.length ≤ 8192 ∧ ds.length ≤ 8192 ∧ Below w.heap.size w w'

set_option maxHeartbeats 800000 in
set_option maxRecDepth 100000 in
theorem ndScaled_down (a : Option Addr) (ca : Nat) (xs : List Int) (b : Option Addr) (cb : Nat) (ys : List Int) (n : Nat) (w : World) (h : Sl w (.slice a xs.length ca) xs) (g : Sl w (.slice b ys.length cb) ys) (wx : Wd xs) (tx : Trimmed xs) (wy : Wd ys) (ty : Trimmed ys) (lx : xs.length ≤ 4400) (ly : ys.length ≤ 4400) (hn : n + 1 ≤ 70000) :
    Calls Tryz.prog 81 #[.slice a xs.length ca, .slice b ys.length cb, .int .i64 (-((n : Int) + 1))] w (Sc2 w (val xs * 2 ^ (n + 1)) (val ys)) := by
  have HH := hid (ndShifted_any _ xs (n + 1) w h wx tx lx hn)
  have HG := hid (And.intro g (And.intro wy ty))
  have HL : Hid (val xs * 2 ^ (n + 1) < wide ∧ ys.length ≤ 8192) := ⟨nd_wide wx lx hn, by omega⟩
  clear h g wx tx wy ty lx ly
  have e0 : -((n : Int) + 1) < 0 := by omega
  rw [show ((n + 1 : Nat) : Int) = (n : Int) + 1 by omega] at HH
  go_enter Tryz.func81, Tryz.ntmps81
  go_wp2_with fail
  refine Calls.mono HH.out ?_
  rintro e w1 ⟨v1, zs, rfl, o1, wz, tz, hv, hb1⟩
  have HF := hid (And.intro (Sl.own o1 wz) (And.intro wz (And.intro tz (And.intro hv hb1))))
  have HZ := hid (nd_len wz tz (by rw [hv]; exact HL.out.1))
  obtain ⟨a1, c1, hs1⟩ := own_slice' o1
  subst hs1
  clear o1 wz tz hv hb1 HH e0
  go_wp2_with fail
  go_ret2
  exact ⟨_, _, _, _, zs, ys, rfl, HF.out.1, HG.out.1.later HF.out.2.2.2.2, HF.out.2.1, HG.out.2.1, HF.out.2.2.1, HG.out.2.2, HF.out.2.2.2.1, rfl, HZ.out, HL.out.2, HF.out.2.2.2.2⟩

set_option maxHeartbeats 800000 in
set_option maxRecDepth 100000 in
theorem ndScaled_up (a : Option Addr) (ca : Nat) (xs : List Int) (b : Option Addr) (cb : Nat) (ys : List Int) (n : Nat) (w : World) (h : Sl w (.slice a xs.length ca) xs) (g : Sl w (.slice b ys.length cb) ys) (wx : Wd xs) (tx : Trimmed xs) (wy : Wd ys) (ty : Trimmed ys) (lx : xs.length ≤ 4400) (ly : ys.length ≤ 4400) (hn : n ≤ 70000) :
    Calls Tryz.prog 81 #[.slice a xs.length ca, .slice b ys.length cb, .int .i64 (n : Int)] w (Sc2 w (val xs) (val ys * 2 ^ n)) := by
  have HH := hid (ndShifted_any _ ys n w g wy ty ly hn)
  have HG := hid (And.intro h (And.intro wx tx))
  have HL : Hid (val ys * 2 ^ n < wide ∧ xs.length ≤ 8192) := ⟨nd_wide wy ly hn, by omega⟩
  clear h g wx tx wy ty lx ly
  have e0 : ¬ (n : Int) < 0 := by omega
  go_enter Tryz.func81, Tryz.ntmps81
  go_wp2_with fail
  refine Calls.mono HH.out ?_
  rintro e w1 ⟨v1, zs, rfl, o1, wz, tz, hv, hb1⟩
  have HF := hid (And.intro (Sl.own o1 wz) (And.intro wz (And.intro tz (And.intro hv hb1))))
  have HZ := hid (nd_len wz tz (by rw [hv]; exact HL.out.1))
  obtain ⟨a1, c1, hs1⟩ := own_slice' o1
  subst hs1
  clear o1 wz tz hv hb1 HH e0
  go_wp2_with fail
  go_ret2
  exact ⟨_, _, _, _, xs, zs, rfl, HG.out.1.later HF.out.2.2.2.2, HF.out.1, HG.out.2.1, HF.out.2.1, HG.out.2.2, HF.out.2.2.1, rfl, HF.out.2.2.2.1, HL.out.2, HZ.out, HF.out.2.2.2.2⟩

theorem ndScaled_any (a : Option Addr) (ca : Nat) (xs : List Int) (b : Option Addr) (cb : Nat) (ys : List Int) (p : Int) (w : World) (h : Sl w (.slice a xs.length ca) xs) (g : Sl w (.slice b ys.length cb) ys) (wx : Wd xs) (tx : Trimmed xs) (wy : Wd ys) (ty : Trimmed ys) (lx : xs.length ≤ 4400) (ly : ys.length ≤ 4400) (p0 : -70000 ≤ p) (p1 : p ≤ 70000) :
    Calls Tryz.prog 81 #[.slice a xs.length ca, .slice b ys.length cb, .int .i64 p] w (Sc2 w (val xs * 2 ^ (-p).toNat) (val ys * 2 ^ p.toNat)) := by
  by_cases hp : p < 0
  · obtain ⟨n, hn⟩ : ∃ n : Nat, p = -((n : Int) + 1) := ⟨(-p - 1).toNat, by omega⟩
    subst hn
    have e := ndScaled_down a ca xs b cb ys n w h g wx tx wy ty lx ly (by omega)
    rw [show (- -((n : Int) + 1)).toNat = n + 1 by omega, show (-((n : Int) + 1)).toNat = 0 by omega, Int.pow_zero, Int.mul_one]
    exact e
  · obtain ⟨n, rfl⟩ := Int.eq_ofNat_of_zero_le (show 0 ≤ p by omega)
    have e := ndScaled_up a ca xs b cb ys n w h g wx tx wy ty lx ly (by omega)
    rw [show (-(n : Int)).toNat = 0 by omega, show ((n : Int)).toNat = n by omega, Int.pow_zero, Int.mul_one]
    exact e

end Go.Proofs.YtabkgpnckaaclaaGreatDoor

/- Floats of 64 bits by their bits: which are finite, what a sum or difference of two gives, the sum of two with what was lost of it, as plain functions of the bits. Nothing here speaks of the program. -/
namespace Go.Proofs.YtabkgpnckaaclaaGreatDoor

/-- Neither an infinity nor NaN: by the bits. -/
def fin (x : Nat) : Bool := x / 4503599627370496 % 2048 != 2047

theorem fin_iff (x : Nat) : fin x = true ↔ x % 9223372036854775808 < 9218868437227405312 := by
  unfold fin
  simp only [bne_iff_ne, ne_eq]
  omega

theorem dbl_sign : Ieee.double.signWeight = 9223372036854775808 := by decide
theorem dbl_inf : Ieee.double.infRung = 9218868437227405312 := by decide
theorem dbl_binade : Ieee.double.binade = 4503599627370496 := by decide

theorem read_fin {x : Nat} (h : fin x = true) : ∃ s m e, Ieee.double.read x = .number s m e := by
  rw [fin_iff] at h
  unfold Ieee.Format.read
  simp only [dbl_sign, dbl_inf, dbl_binade]
  split
  · exact ⟨_, _, _, rfl⟩
  · first | exact ⟨_, _, _, rfl⟩ | (rw [if_pos h]; exact ⟨_, _, _, rfl⟩)

theorem read_not {x : Nat} (h : fin x = false) : (∃ s, Ieee.double.read x = .infinity s) ∨ ∃ s f, Ieee.double.read x = .nan s f := by
  have h' : ¬ x % 9223372036854775808 < 9218868437227405312 := fun g => by rw [(fin_iff x).2 g] at h; exact Bool.noConfusion h
  unfold Ieee.Format.read
  simp only [dbl_sign, dbl_inf, dbl_binade]
  rw [if_neg (by omega), if_neg h']
  split
  · exact Or.inl ⟨_, rfl⟩
  · exact Or.inr ⟨_, _, rfl⟩

theorem write_inf (s : Bool) : fin (Ieee.double.write (.infinity s)) = false := by
  cases s <;> decide

theorem nan_cut (x y t : Nat) : fin (Question.cut (.nanBits .f64 x y) t) = false ∧ Question.cut (.nanBits .f64 x y) t < 18446744073709551616 := by
  simp only [Question.cut]
  have hu : (t / 2) % (2 ^ 52 - 1) < 4503599627370495 := Nat.mod_lt _ (by decide)
  have hv : t % 2 = 0 ∨ t % 2 = 1 := by omega
  generalize (t / 2) % (2 ^ 52 - 1) = u at hu ⊢
  generalize t % 2 = v at hv ⊢
  constructor
  · cases hh : fin (v * 2 ^ 63 + 0x7ff0000000000000 + 1 + u)
    · rfl
    · rw [fin_iff] at hh; rcases hv with rfl | rfl <;> omega
  · rcases hv with rfl | rfl <;> omega

/-- What the machine hands back: the bits of the answer, or, where there is none, some NaN. -/
def FR (op : BinOp) (x y r : Nat) : Prop := r < 18446744073709551616 ∧ (floatBits op .f64 x y = some r ∨ (floatBits op .f64 x y = none ∧ fin r = false))

theorem FR.det {op : BinOp} {x y r s : Nat} (h : FR op x y r) (g : floatBits op .f64 x y = some s) : r = s := by
  rcases h.2 with h | ⟨h, _⟩
  · rw [h] at g; exact Option.some.inj g
  · rw [h] at g; cases g

theorem FR.some {op : BinOp} {x y r : Nat} (h : floatBits op .f64 x y = .some r) : FR op x y r := by
  have := floatBits_wf h
  simp [Lit.wf] at this
  exact ⟨this, Or.inl h⟩
theorem FR.none {op : BinOp} {x y : Nat} (t : Nat) (h : floatBits op .f64 x y = .none) : FR op x y (Question.cut (.nanBits .f64 x y) t) :=
  ⟨(nan_cut x y t).2, Or.inr ⟨h, (nan_cut x y t).1⟩⟩

theorem sum_back {d c : Ieee.Datum} {r : Nat} (h : (d.sum c).map Ieee.double.write = .some r) (hf : fin r = true) : (∃ s m e, d = .number s m e) ∧ ∃ s m e, c = .number s m e := by
  cases d with
  | nan s f => simp [Ieee.Datum.sum] at h
  | infinity s =>
    cases c with
    | nan t f => simp [Ieee.Datum.sum] at h
    | infinity t =>
      simp only [Ieee.Datum.sum] at h
      split at h
      · cases h; rw [write_inf] at hf; cases hf
      · cases h
    | number t m e => simp only [Ieee.Datum.sum] at h; cases h; rw [write_inf] at hf; cases hf
  | number s m e =>
    cases c with
    | nan t f => simp [Ieee.Datum.sum] at h
    | infinity t => simp only [Ieee.Datum.sum] at h; cases h; rw [write_inf] at hf; cases hf
    | number t n j => exact ⟨⟨_, _, _, rfl⟩, ⟨_, _, _, rfl⟩⟩

theorem fin_of_read {x : Nat} {s : Bool} {m : Nat} {e : Int} (h : Ieee.double.read x = .number s m e) : fin x = true := by
  cases hx : fin x
  · rcases read_not hx with ⟨_, g⟩ | ⟨_, _, g⟩ <;> rw [g] at h <;> cases h
  · rfl

theorem add_back {x y r : Nat} (h : floatBits .add .f64 x y = .some r) (hf : fin r = true) : fin x = true ∧ fin y = true := by
  obtain ⟨⟨_, _, _, h1⟩, ⟨_, _, _, h2⟩⟩ := sum_back h hf
  exact ⟨fin_of_read h1, fin_of_read h2⟩
theorem sub_back {x y r : Nat} (h : floatBits .sub .f64 x y = .some r) (hf : fin r = true) : fin x = true ∧ fin y = true := by
  obtain ⟨⟨_, _, _, h1⟩, ⟨s, m, e, h2⟩⟩ := sum_back h hf
  refine ⟨fin_of_read h1, ?_⟩
  cases hy : fin y
  · rcases read_not hy with ⟨_, g⟩ | ⟨_, _, g⟩ <;> (have g' : FloatKind.f64.format.read y = _ := g; rw [g'] at h2; cases h2)
  · rfl

theorem FR.addBack {x y r : Nat} (h : FR .add x y r) (hf : fin r = true) : floatBits .add .f64 x y = .some r ∧ fin x = true ∧ fin y = true := by
  rcases h.2 with h | ⟨_, g⟩
  · exact ⟨h, add_back h hf⟩
  · rw [g] at hf; cases hf
theorem FR.subBack {x y r : Nat} (h : FR .sub x y r) (hf : fin r = true) : floatBits .sub .f64 x y = .some r ∧ fin x = true ∧ fin y = true := by
  rcases h.2 with h | ⟨_, g⟩
  · exact ⟨h, sub_back h hf⟩
  · rw [g] at hf; cases hf

theorem add_some {x y : Nat} (hx : fin x = true) (hy : fin y = true) : ∃ r, floatBits .add .f64 x y = .some r := by
  obtain ⟨s, m, e, h1⟩ := read_fin hx
  obtain ⟨t, n, j, h2⟩ := read_fin hy
  exact ⟨_, show (((Ieee.double.read x).sum (Ieee.double.read y)).map Ieee.double.write) = _ by rw [h1, h2]; rfl⟩

theorem order_self {x : Nat} (h : fin x = true) : FloatKind.f64.format.order x x = .some .eq := by
  obtain ⟨s, m, e, h1⟩ := read_fin h
  show (Ieee.double.read x).order (Ieee.double.read x) = _
  rw [h1]
  simp [Ieee.Datum.order]

theorem run_add (P : Program) (w : World) (t : TypeId) (x y : Nat) (h : floatBits .add .f64 x y = .none) :
    (binOp .add t (.float .f64 x) (.float .f64 y)).run P w = .ok (.float .f64 (Question.cut (.nanBits .f64 x y) (w.tape w.drawn (.nanBits .f64 x y)))) w.drew := by
  have h' : FloatKind.f64.format.add x y = .none := h
  simp [binOp, Op.floatArith, h', Question.forced]
theorem run_sub (P : Program) (w : World) (t : TypeId) (x y : Nat) (h : floatBits .sub .f64 x y = .none) :
    (binOp .sub t (.float .f64 x) (.float .f64 y)).run P w = .ok (.float .f64 (Question.cut (.nanBits .f64 x y) (w.tape w.drawn (.nanBits .f64 x y)))) w.drew := by
  have h' : FloatKind.f64.format.sub x y = .none := h
  simp [binOp, Op.floatArith, h', Question.forced]

/-- The sum of two finite floats and what was lost of it; nothing, where one of both is not finite. -/
def chain (a b : Nat) : Option (Nat × Nat) :=
  match floatBits .add .f64 a b with
  | .none => .none
  | .some s => if fin s then
      match floatBits .sub .f64 s a with
      | .none => .none
      | .some t =>
        match floatBits .sub .f64 s t with
        | .none => .none
        | .some d =>
          match floatBits .sub .f64 a d, floatBits .sub .f64 b t with
          | .some p, .some q =>
            match floatBits .add .f64 p q with
            | .none => .none
            | .some e => if fin e then .some (s, e) else .none
          | _, _ => .none
    else .none

/-- The steps as the machine goes them. -/
def Two (a b s e : Nat) : Prop := ∃ t d p q, FR .add a b s ∧ FR .sub s a t ∧ FR .sub s t d ∧ FR .sub a d p ∧ FR .sub b t q ∧ FR .add p q e

theorem Two.good {a b s e : Nat} (h : Two a b s e) (hs : fin s = true) (he : fin e = true) : chain a b = .some (s, e) := by
  obtain ⟨t, d, p, q, h1, h2, h3, h4, h5, h6⟩ := h
  obtain ⟨g6, fp, fq⟩ := h6.addBack he
  obtain ⟨g5, _, ft⟩ := h5.subBack fq
  obtain ⟨g4, _, fd⟩ := h4.subBack fp
  obtain ⟨g3, _, _⟩ := h3.subBack fd
  obtain ⟨g2, _, _⟩ := h2.subBack ft
  obtain ⟨g1, _, _⟩ := h1.addBack hs
  simp only [chain, g1, g2, g3, g4, g5, g6, hs, he, if_true]

theorem chain_back {a b : Nat} {u : Nat × Nat} (h : chain a b = .some u) : fin u.1 = true ∧ fin u.2 = true ∧ ∀ s e, Two a b s e → s = u.1 ∧ e = u.2 := by
  unfold chain at h
  split at h
  · cases h
  rename_i s g1
  split at h
  · rename_i hs
    split at h
    · cases h
    rename_i t g2
    split at h
    · cases h
    rename_i d g3
    split at h
    · rename_i p q g4 g5
      split at h
      · cases h
      rename_i e g6
      split at h
      · rename_i he
        cases h
        refine ⟨hs, he, fun s' e' hh => ?_⟩
        obtain ⟨t', d', p', q', h1, h2, h3, h4, h5, h6⟩ := hh
        have e1 := h1.det g1
        subst e1
        have e2 := h2.det g2
        subst e2
        have e3 := h3.det g3
        subst e3
        have e4 := h4.det g4
        subst e4
        have e5 := h5.det g5
        subst e5
        exact ⟨rfl, h6.det g6⟩
      · cases h
    · cases h
  · cases h

theorem Two.bad {a b s e : Nat} (h : Two a b s e) (hb : fin s = false ∨ fin e = false) : chain a b = .none := by
  cases hc : chain a b with
  | none => rfl
  | some u =>
    obtain ⟨h1, h2, h3⟩ := chain_back hc
    obtain ⟨e1, e2⟩ := h3 _ _ h
    rcases hb with hb | hb
    · rw [e1, h1] at hb; cases hb
    · rw [e2, h2] at hb; cases hb

/-- The first step alone. -/
theorem chain_over {a b s : Nat} (h : FR .add a b s) (hs : fin s = false) : chain a b = .none := by
  cases hc : floatBits .add .f64 a b with
  | none => simp only [chain, hc]
  | some r =>
    have := h.det hc
    subst this
    simp only [chain, hc, hs]
    rfl

/-- TwoSum: the sum, what was lost, the error. -/
def tsum (a b : Nat) : Nat × Nat × Int :=
  if fin a && fin b then
    match chain a b with
    | .some (s, e) => (s, e, 0)
    | .none => (0, 0, 9)
  else (0, 0, 8)

theorem tsum_fin (a b : Nat) : fin (tsum a b).1 = true ∧ fin (tsum a b).2.1 = true := by
  unfold tsum
  split
  · cases hc : chain a b with
    | none => exact ⟨by decide, by decide⟩
    | some u => exact ⟨(chain_back hc).1, (chain_back hc).2.1⟩
  · exact ⟨by decide, by decide⟩

theorem tsum_ok {a b s e : Nat} (ha : fin a = true) (hb : fin b = true) (h : chain a b = .some (s, e)) : tsum a b = (s, e, 0) := by
  simp only [tsum, ha, hb, h, Bool.and_true, if_true]
theorem tsum_over {a b : Nat} (ha : fin a = true) (hb : fin b = true) (h : chain a b = .none) : tsum a b = (0, 0, 9) := by
  simp only [tsum, ha, hb, h, Bool.and_true, if_true]
theorem tsum_bad {a b : Nat} (h : (fin a && fin b) = false) : tsum a b = (0, 0, 8) := by
  simp only [tsum, h]
  rfl

/-- Sum from a sum, what was lost, and a place on: the two and the fault. -/
def fsumGo : Nat → Nat → Nat → List Nat → Nat × Nat × Int × Int
  | s, c, _, [] => (s, c, 0, 0)
  | s, c, i, x :: l =>
    match chain s x with
    | .none => (0, 0, 9, (i : Int))
    | .some (t, e) =>
      match floatBits .add .f64 c e with
      | .none => (0, 0, 9, (i : Int))
      | .some d => if fin d then fsumGo t d (i + 1) l else (0, 0, 9, (i : Int))

/-- Sum: from a place on with all ahead of it finite. -/
def fsumFrom (l0 : List Nat) : Nat → List Nat → Nat × Nat × Int × Int
  | _, [] => fsumGo 0 0 0 l0
  | i, x :: l => if fin x then fsumFrom l0 (i + 1) l else (0, 0, 8, (i : Int))
def fsum (l : List Nat) : Nat × Nat × Int × Int := fsumFrom l 0 l

theorem drop_step {l : List Nat} {k : Nat} (h : k < l.length) : l.drop k = (l[k]?.getD 0) :: l.drop (k + 1) := by
  rw [List.drop_eq_getElem_cons h, List.getElem?_eq_getElem h]
  rfl

theorem fsumFrom_fin {l0 l : List Nat} {k : Nat} (h : k < l.length) (hf : fin (l[k]?.getD 0) = true) : fsumFrom l0 k (l.drop k) = fsumFrom l0 (k + 1) (l.drop (k + 1)) := by
  rw [drop_step h]
  simp only [fsumFrom, hf, if_true]
theorem fsumFrom_bad {l0 l : List Nat} {k : Nat} (h : k < l.length) (hf : fin (l[k]?.getD 0) = false) : fsumFrom l0 k (l.drop k) = (0, 0, 8, (k : Int)) := by
  rw [drop_step h]
  simp only [fsumFrom, hf]
  rfl
theorem fsumFrom_end {l0 l : List Nat} {k : Nat} (h : l.length ≤ k) : fsumFrom l0 k (l.drop k) = fsumGo 0 0 0 l0 := by
  rw [List.drop_of_length_le h]
  rfl
theorem fsumGo_end {l : List Nat} {s c k : Nat} (h : l.length ≤ k) : fsumGo s c k (l.drop k) = (s, c, 0, 0) := by
  rw [List.drop_of_length_le h]
  rfl
theorem fsumGo_none {l : List Nat} {s c k : Nat} (h : k < l.length) (g : chain s (l[k]?.getD 0) = .none) : fsumGo s c k (l.drop k) = (0, 0, 9, (k : Int)) := by
  rw [drop_step h]
  simp only [fsumGo, g]
theorem fsumGo_over {l : List Nat} {s c k t e d : Nat} (h : k < l.length) (g : chain s (l[k]?.getD 0) = .some (t, e)) (g2 : floatBits .add .f64 c e = .some d) (g3 : fin d = false) : fsumGo s c k (l.drop k) = (0, 0, 9, (k : Int)) := by
  rw [drop_step h]
  simp only [fsumGo, g, g2, g3]
  rfl
theorem fsumGo_step {l : List Nat} {s c k t e d : Nat} (h : k < l.length) (g : chain s (l[k]?.getD 0) = .some (t, e)) (g2 : floatBits .add .f64 c e = .some d) (g3 : fin d = true) : fsumGo s c k (l.drop k) = fsumGo t d (k + 1) (l.drop (k + 1)) := by
  rw [drop_step h]
  simp only [fsumGo, g, g2, g3, if_true]

/-- All of them: finite. -/
def Fins (l : List Nat) : Prop := ∀ j : Nat, fin (l[j]?.getD 0) = true

theorem fin0 : fin 0 = true := by decide

/-- A round of the program's loop. -/
theorem round_good {l : List Nat} {s c k s' e' c' : Nat} (h : k < l.length) (h2 : Two s (l[k]?.getD 0) s' e') (h3 : FR .add c e' c') (f1 : fin s' = true) (f2 : fin c' = true) :
    fsumGo s c k (l.drop k) = fsumGo s' c' (k + 1) (l.drop (k + 1)) := by
  obtain ⟨g, _, fe⟩ := h3.addBack f2
  exact fsumGo_step h (h2.good f1 fe) g f2
theorem round_bad {l : List Nat} {s c k s' e' c' : Nat} (h : k < l.length) (fc : fin c = true) (h2 : Two s (l[k]?.getD 0) s' e') (h3 : FR .add c e' c') (f : fin s' = false ∨ fin c' = false) :
    fsumGo s c k (l.drop k) = (0, 0, 9, (k : Int)) := by
  cases f1 : fin s'
  · exact fsumGo_none h (h2.bad (.inl f1))
  · cases fe : fin e'
    · exact fsumGo_none h (h2.bad (.inr fe))
    · have f2 : fin c' = false := by
        rcases f with f | f
        · rw [f1] at f; cases f
        · exact f
      obtain ⟨r, hr⟩ := add_some fc fe
      have := h3.det hr
      subst this
      exact fsumGo_over h (h2.good f1 fe) hr f2

theorem fsumGo_fin (l : List Nat) : ∀ s c i, fin s = true → fin c = true → fin (fsumGo s c i l).1 = true ∧ fin (fsumGo s c i l).2.1 = true := by
  induction l with
  | nil => intro s c i hs hc; exact ⟨hs, hc⟩
  | cons x l ih =>
    intro s c i hs hc
    simp only [fsumGo]
    split
    · exact ⟨fin0, fin0⟩
    · rename_i t e g
      split
      · exact ⟨fin0, fin0⟩
      · rename_i d g2
        split
        · rename_i hd
          exact ih t d (i + 1) (chain_back g).1 hd
        · exact ⟨fin0, fin0⟩
theorem fsumFrom_good (l0 : List Nat) (l : List Nat) : ∀ i, fin (fsumFrom l0 i l).1 = true ∧ fin (fsumFrom l0 i l).2.1 = true := by
  induction l with
  | nil => intro i; exact fsumGo_fin l0 0 0 0 (by decide) (by decide)
  | cons x l ih =>
    intro i
    simp only [fsumFrom]
    split
    · exact ih (i + 1)
    · exact ⟨fin0, fin0⟩

end Go.Proofs.YtabkgpnckaaclaaGreatDoor

/- Floats of 64 bits that are NaN, by their bits; which answers are alike; the order of sizes is that of their bits. Nothing here speaks of the program. -/
namespace Go.Proofs.YtabkgpnckaaclaaGreatDoor

/-- NaN, by the bits. -/
def isnan (x : Nat) : Bool := decide (9218868437227405312 < x % 9223372036854775808)

theorem isnan_iff (x : Nat) : isnan x = true ↔ 9218868437227405312 < x % 9223372036854775808 := by simp [isnan]

theorem read_isnan {x : Nat} (h : isnan x = true) : ∃ s f, Ieee.double.read x = .nan s f := by
  rw [isnan_iff] at h
  unfold Ieee.Format.read
  simp only [dbl_sign, dbl_inf, dbl_binade]
  rw [if_neg (by omega), if_neg (by omega), if_neg (by omega)]
  exact ⟨_, _, rfl⟩

theorem read_notnan {x : Nat} (h : isnan x = false) : (∃ s, Ieee.double.read x = .infinity s) ∨ ∃ s m e, Ieee.double.read x = .number s m e := by
  have h' : ¬ 9218868437227405312 < x % 9223372036854775808 := fun g => by rw [(isnan_iff x).2 g] at h; cases h
  unfold Ieee.Format.read
  simp only [dbl_sign, dbl_inf, dbl_binade]
  split
  · exact Or.inr ⟨_, _, _, rfl⟩
  split
  · exact Or.inr ⟨_, _, _, rfl⟩
  rw [if_pos (by omega)]
  exact Or.inl ⟨_, rfl⟩

theorem order_nan_l {x y : Nat} (h : isnan x = true) : FloatKind.f64.format.order x y = none := by
  obtain ⟨s, f, e⟩ := read_isnan h
  show (Ieee.double.read x).order (Ieee.double.read y) = none
  rw [e]
  cases Ieee.double.read y <;> rfl
theorem order_nan_r {x y : Nat} (h : isnan y = true) : FloatKind.f64.format.order x y = none := by
  obtain ⟨s, f, e⟩ := read_isnan h
  show (Ieee.double.read x).order (Ieee.double.read y) = none
  rw [e]
  cases Ieee.double.read x <;> rfl
theorem order_refl {x : Nat} (h : isnan x = false) : FloatKind.f64.format.order x x = some .eq := by
  show (Ieee.double.read x).order (Ieee.double.read x) = _
  rcases read_notnan h with ⟨s, e⟩ | ⟨s, m, i, e⟩ <;> rw [e] <;> simp [Ieee.Datum.order]
theorem neq_self (x : Nat) : (FloatKind.f64.format.order x x != some .eq) = isnan x := by
  cases h : isnan x
  · rw [order_refl h]; rfl
  · rw [order_nan_l h]; rfl

/-- One of the four operations. -/
def isop (op : BinOp) : Prop := op = .add ∨ op = .sub ∨ op = .mul ∨ op = .quo

theorem fb_nan_l {op : BinOp} {x y : Nat} (h : isnan x = true) : floatBits op .f64 x y = none := by
  obtain ⟨s, f, e⟩ := read_isnan h
  have k : FloatKind.f64.format.read x = .nan s f := e
  cases op <;> try rfl
  · show (((FloatKind.f64.format.read x).sum (FloatKind.f64.format.read y)).map _) = none
    rw [k]; cases FloatKind.f64.format.read y <;> rfl
  · show (((FloatKind.f64.format.read x).sum (FloatKind.f64.format.read y).opposite).map _) = none
    rw [k]; cases (FloatKind.f64.format.read y).opposite <;> rfl
  · show (((FloatKind.f64.format.read x).product (FloatKind.f64.format.read y)).map _) = none
    rw [k]; cases FloatKind.f64.format.read y <;> rfl
  · show (((FloatKind.f64.format.read x).quotient _ (FloatKind.f64.format.read y)).map _) = none
    rw [k]; cases FloatKind.f64.format.read y <;> rfl
theorem fb_nan_r {op : BinOp} {x y : Nat} (h : isnan y = true) : floatBits op .f64 x y = none := by
  obtain ⟨s, f, e⟩ := read_isnan h
  have k : FloatKind.f64.format.read y = .nan s f := e
  cases op <;> try rfl
  · show (((FloatKind.f64.format.read x).sum (FloatKind.f64.format.read y)).map _) = none
    rw [k]; cases FloatKind.f64.format.read x <;> rfl
  · show (((FloatKind.f64.format.read x).sum (FloatKind.f64.format.read y).opposite).map _) = none
    rw [k]; cases FloatKind.f64.format.read x <;> rfl
  · show (((FloatKind.f64.format.read x).product (FloatKind.f64.format.read y)).map _) = none
    rw [k]; cases FloatKind.f64.format.read x <;> rfl
  · show (((FloatKind.f64.format.read x).quotient _ (FloatKind.f64.format.read y)).map _) = none
    rw [k]; cases FloatKind.f64.format.read x <;> rfl

theorem isnan_cut (x y t : Nat) : isnan (Question.cut (.nanBits .f64 x y) t) = true ∧ Question.cut (.nanBits .f64 x y) t < 18446744073709551616 := by
  refine ⟨?_, (nan_cut x y t).2⟩
  rw [isnan_iff]
  simp only [Question.cut]
  have hu : (t / 2) % (2 ^ 52 - 1) < 4503599627370495 := Nat.mod_lt _ (by decide)
  have hv : t % 2 = 0 ∨ t % 2 = 1 := by omega
  generalize (t / 2) % (2 ^ 52 - 1) = u at hu ⊢
  generalize t % 2 = v at hv ⊢
  rcases hv with rfl | rfl <;> omega

/-- What the machine hands back: the bits of the answer, or, where there is none, some NaN. -/
def FN (op : BinOp) (x y r : Nat) : Prop := r < 18446744073709551616 ∧ (floatBits op .f64 x y = some r ∨ (floatBits op .f64 x y = none ∧ isnan r = true))
/-- The same bits, or NaN both. -/
def Al (x y : Nat) : Prop := x = y ∨ (isnan x = true ∧ isnan y = true)

theorem Al.refl (x : Nat) : Al x x := .inl rfl

theorem FN.al {op : BinOp} {x y r x' y' r' : Nat} (h : FN op x y r) (h' : FN op x' y' r') (ax : Al x x') (ay : Al y y') : Al r r' := by
  have none_none : floatBits op .f64 x y = none → floatBits op .f64 x' y' = none → Al r r' := by
    intro e e'
    right
    refine ⟨?_, ?_⟩
    · rcases h.2 with g | ⟨_, g⟩
      · rw [e] at g; cases g
      · exact g
    · rcases h'.2 with g | ⟨_, g⟩
      · rw [e'] at g; cases g
      · exact g
  rcases ax with rfl | ⟨n1, n2⟩
  · rcases ay with rfl | ⟨n1, n2⟩
    · rcases h.2 with g | ⟨g, k⟩
      · rcases h'.2 with g' | ⟨g', _⟩
        · rw [g] at g'; exact .inl (Option.some.inj g')
        · rw [g] at g'; cases g'
      · exact none_none g g
    · exact none_none (fb_nan_r n1) (fb_nan_r n2)
  · exact none_none (fb_nan_l n1) (fb_nan_l n2)

theorem FN.some {op : BinOp} {x y r : Nat} (h : floatBits op .f64 x y = .some r) : FN op x y r := by
  have := floatBits_wf h
  simp [Lit.wf] at this
  exact ⟨this, Or.inl h⟩
theorem FN.none {op : BinOp} {x y : Nat} (t : Nat) (h : floatBits op .f64 x y = .none) : FN op x y (Question.cut (.nanBits .f64 x y) t) :=
  ⟨(isnan_cut x y t).2, Or.inr ⟨h, (isnan_cut x y t).1⟩⟩

/-- The root: its bits, or some NaN. -/
def FQ (x r : Nat) : Prop := r < 18446744073709551616 ∧ (Ieee.double.sqrt x = some r ∨ (Ieee.double.sqrt x = none ∧ isnan r = true))
theorem FQ.al {x r x' r' : Nat} (h : FQ x r) (h' : FQ x' r') (ax : Al x x') : Al r r' := by
  have none_none : Ieee.double.sqrt x = none → Ieee.double.sqrt x' = none → Al r r' := by
    intro e e'
    right
    refine ⟨?_, ?_⟩
    · rcases h.2 with g | ⟨_, g⟩
      · rw [e] at g; cases g
      · exact g
    · rcases h'.2 with g | ⟨_, g⟩
      · rw [e'] at g; cases g
      · exact g
  have nn : ∀ z, isnan z = true → Ieee.double.sqrt z = none := by
    intro z hz
    obtain ⟨s, f, e⟩ := read_isnan hz
    show ((Ieee.double.read z).root _).map _ = none
    rw [e]; rfl
  rcases ax with rfl | ⟨n1, n2⟩
  · rcases h.2 with g | ⟨g, k⟩
    · rcases h'.2 with g' | ⟨g', _⟩
      · rw [g] at g'; exact .inl (Option.some.inj g')
      · rw [g] at g'; cases g'
    · exact none_none g g
  · exact none_none (nn _ n1) (nn _ n2)

/-- Same, of reals. -/
def sameR (x y : Nat) : Bool := isnan x && isnan y || x == y
theorem Al.same {x y : Nat} (h : Al x y) : sameR x y = true := by
  rcases h with rfl | ⟨h1, h2⟩
  · simp [sameR]
  · simp [sameR, h1, h2]

/-! ### The order of sizes -/

/-- The number at a rung, in units of the least float. -/
def rungVal (r : Nat) : Nat := if r < 4503599627370496 then r else (4503599627370496 + r % 4503599627370496) * 2 ^ (r / 4503599627370496 - 1)

theorem rungVal_lt {r s : Nat} (h : r < s) : rungVal r < rungVal s := by
  unfold rungVal
  by_cases hr : r < 4503599627370496
  · rw [if_pos hr]
    by_cases hs : s < 4503599627370496
    · rw [if_pos hs]; exact h
    · rw [if_neg hs]
      have hp : 0 < 2 ^ (s / 4503599627370496 - 1) := Nat.two_pow_pos _
      have : 4503599627370496 * 1 ≤ (4503599627370496 + s % 4503599627370496) * 2 ^ (s / 4503599627370496 - 1) := Nat.mul_le_mul (by omega) hp
      omega
  · have hs : ¬ s < 4503599627370496 := by omega
    rw [if_neg hr, if_neg hs]
    have hd : r / 4503599627370496 ≤ s / 4503599627370496 := Nat.div_le_div_right (by omega)
    rcases Nat.lt_or_eq_of_le hd with hd | hd
    · have e1 : s / 4503599627370496 - 1 = (r / 4503599627370496 - 1) + 1 + (s / 4503599627370496 - r / 4503599627370496 - 1) := by omega
      generalize hk : s / 4503599627370496 - r / 4503599627370496 - 1 = k at e1
      rw [e1, Nat.pow_add, Nat.pow_succ]
      have hp : 0 < 2 ^ (r / 4503599627370496 - 1) := Nat.two_pow_pos _
      have hq : 0 < 2 ^ k := Nat.two_pow_pos _
      have a1 : (4503599627370496 + r % 4503599627370496) * 2 ^ (r / 4503599627370496 - 1) < (4503599627370496 * 2) * 2 ^ (r / 4503599627370496 - 1) := Nat.mul_lt_mul_of_pos_right (by omega) hp
      have a2 : (4503599627370496 * 2) * 2 ^ (r / 4503599627370496 - 1) = 4503599627370496 * (2 ^ (r / 4503599627370496 - 1) * 2) * 1 := by rw [Nat.mul_assoc, Nat.mul_comm 2, Nat.mul_one]
      have a3 : 4503599627370496 * (2 ^ (r / 4503599627370496 - 1) * 2) * 1 ≤ 4503599627370496 * (2 ^ (r / 4503599627370496 - 1) * 2) * 2 ^ k := Nat.mul_le_mul_left _ hq
      have a4 : 4503599627370496 * (2 ^ (r / 4503599627370496 - 1) * 2) * 2 ^ k = 4503599627370496 * (2 ^ (r / 4503599627370496 - 1) * 2 * 2 ^ k) := Nat.mul_assoc _ _ _
      have a5 : 4503599627370496 * (2 ^ (r / 4503599627370496 - 1) * 2 * 2 ^ k) ≤ (4503599627370496 + s % 4503599627370496) * (2 ^ (r / 4503599627370496 - 1) * 2 * 2 ^ k) := Nat.mul_le_mul_right _ (by omega)
      omega
    · rw [← hd]
      exact Nat.mul_lt_mul_of_pos_right (by omega) (Nat.two_pow_pos _)

theorem rungVal_le {r s : Nat} (h : r ≤ s) : rungVal r ≤ rungVal s := by
  rcases Nat.lt_or_eq_of_le h with h | rfl
  · exact Nat.le_of_lt (rungVal_lt h)
  · exact Nat.le_refl _

theorem rungVal_cmp (r s : Nat) : compare (rungVal r) (rungVal s) = compare r s := by
  rcases Nat.lt_trichotomy r s with h | rfl | h
  · rw [Nat.compare_eq_lt.2 h, Nat.compare_eq_lt.2 (rungVal_lt h)]
  · simp
  · rw [Nat.compare_eq_gt.2 h, Nat.compare_eq_gt.2 (rungVal_lt h)]

theorem dbl_least : Ieee.double.leastPlace = -1074 := by decide

/-- What a finite word stands for. -/
theorem read_num {x : Nat} (h : x % 9223372036854775808 < 9218868437227405312) :
    ∃ m a, Ieee.double.read x = .number (x / 9223372036854775808 % 2 == 1) m (-1074 + (a : Nat)) ∧ m * 2 ^ a = rungVal (x % 9223372036854775808) := by
  unfold Ieee.Format.read
  simp only [dbl_sign, dbl_inf, dbl_binade, dbl_least]
  by_cases hb : x % 9223372036854775808 < 4503599627370496
  · rw [if_pos hb]
    exact ⟨_, 0, rfl, by rw [rungVal, if_pos hb]; simp⟩
  · rw [if_neg hb, if_pos h]
    exact ⟨_, _, rfl, by rw [rungVal, if_neg hb]⟩

theorem shl_cmp (m n a b : Nat) : compare (Ieee.signed false m (((-1074 + (a : Nat) : Int) - min (-1074 + (a : Nat) : Int) (-1074 + (b : Nat) : Int))).toNat) (Ieee.signed false n (((-1074 + (b : Nat) : Int) - min (-1074 + (a : Nat) : Int) (-1074 + (b : Nat) : Int))).toNat) = compare (m * 2 ^ a) (n * 2 ^ b) := by
  have e1 : ((-1074 + (a : Nat) : Int) - min (-1074 + (a : Nat) : Int) (-1074 + (b : Nat) : Int)).toNat = a - min a b := by omega
  have e2 : ((-1074 + (b : Nat) : Int) - min (-1074 + (a : Nat) : Int) (-1074 + (b : Nat) : Int)).toNat = b - min a b := by omega
  rw [e1, e2]
  simp only [Ieee.signed, Nat.shiftLeft_eq]
  have hp : 0 < 2 ^ min a b := Nat.two_pow_pos _
  have f1 : m * 2 ^ a = m * 2 ^ (a - min a b) * 2 ^ min a b := by rw [Nat.mul_assoc, ← Nat.pow_add]; congr 2; omega
  have f2 : n * 2 ^ b = n * 2 ^ (b - min a b) * 2 ^ min a b := by rw [Nat.mul_assoc, ← Nat.pow_add]; congr 2; omega
  rw [f1, f2]
  generalize m * 2 ^ (a - min a b) = u
  generalize n * 2 ^ (b - min a b) = v
  generalize 2 ^ min a b = p at hp
  simp only [Bool.false_eq_true, if_false]
  rcases Nat.lt_trichotomy u v with h | rfl | h
  · rw [Nat.compare_eq_lt.2 (Nat.mul_lt_mul_of_pos_right h hp)]
    exact Int.compare_eq_lt.2 (by omega)
  · simp
  · rw [Nat.compare_eq_gt.2 (Nat.mul_lt_mul_of_pos_right h hp)]
    exact Int.compare_eq_gt.2 (by omega)

/-- Of sizes the order is that of their bits. -/
theorem order_pos {x y : Nat} (hx : x ≤ 9218868437227405312) (hy : y ≤ 9218868437227405312) : FloatKind.f64.format.order x y = some (compare x y) := by
  show (Ieee.double.read x).order (Ieee.double.read y) = _
  have inf : Ieee.double.read 9218868437227405312 = .infinity false := by decide
  have hm : ∀ z : Nat, z < 9218868437227405312 → z % 9223372036854775808 = z ∧ (z / 9223372036854775808 % 2 == 1) = false := fun z hz => ⟨Nat.mod_eq_of_lt (by omega), by rw [Nat.div_eq_of_lt (by omega)]; rfl⟩
  rcases Nat.lt_or_eq_of_le hx with gx | rfl
  · obtain ⟨m, a, ex, vx⟩ := read_num (x := x) (by rw [(hm x gx).1]; exact gx)
    rw [(hm x gx).1] at vx
    rw [(hm x gx).2] at ex
    rcases Nat.lt_or_eq_of_le hy with gy | rfl
    · obtain ⟨n, b, ey, vy⟩ := read_num (x := y) (by rw [(hm y gy).1]; exact gy)
      rw [(hm y gy).1] at vy
      rw [(hm y gy).2] at ey
      rw [ex, ey]
      simp only [Ieee.Datum.order]
      rw [shl_cmp, vx, vy, rungVal_cmp]
    · rw [ex, inf, Nat.compare_eq_lt.2 gx]; rfl
  · rcases Nat.lt_or_eq_of_le hy with gy | rfl
    · obtain ⟨n, b, ey, vy⟩ := read_num (x := y) (by rw [(hm y gy).1]; exact gy)
      rw [ey, inf, Nat.compare_eq_gt.2 gy]; rfl
    · rw [inf]; simp [Ieee.Datum.order]

end Go.Proofs.YtabkgpnckaaclaaGreatDoor

/- real.finite, real.twoSum, real.TwoSum and the document's Finite, TwoSum, of any floats, by their bits. -/
namespace Go.Proofs.YtabkgpnckaaclaaGreatDoor
open Go.RowKit
set_option linter.unusedVariables false

theorem fin_int (x : Nat) (hx : x < 18446744073709551616) : (bits .and .u64 ((x : Int) / 4503599627370496) 2047 != 2047) = fin x := by
  have e : bits .and .u64 ((x : Int) / 4503599627370496) 2047 = ((x / 4503599627370496 % 2048 : Nat) : Int) := by
    have e0 : (x : Int) / 4503599627370496 = ((x / 4503599627370496 : Nat) : Int) := by omega
    rw [e0]
    have e1 := u64_and_nat (x / 4503599627370496) 2047 (by omega) (by omega)
    have e2 : x / 4503599627370496 &&& 2047 = x / 4503599627370496 % 2048 := Nat.and_two_pow_sub_one_eq_mod _ 11
    rw [e2] at e1
    exact e1
  rw [e]
  unfold fin
  by_cases h : x / 4503599627370496 % 2048 = 2047
  · rw [h]; rfl
  · rw [bne_iff_ne.2 h, bne_iff_ne.2 (by omega)]

/-- What the machine hands back, and the world behind it. -/
def fval (op : BinOp) (V : World) (x y : Nat) : Nat := match floatBits op .f64 x y with
  | .some r => r
  | .none => Question.cut (.nanBits .f64 x y) (V.tape V.drawn (.nanBits .f64 x y))
def fwld (op : BinOp) (V : World) (x y : Nat) : World := match floatBits op .f64 x y with
  | .some _ => V
  | .none => V.drew
theorem fval_fr (op : BinOp) (V : World) (x y : Nat) : FR op x y (fval op V x y) := by
  cases h : floatBits op .f64 x y with
  | some r => simp only [fval, h]; exact FR.some h
  | none => simp only [fval, h]; exact FR.none _ h
theorem fwld_below (op : BinOp) {B : Nat} {U V : World} (x y : Nat) (h : Below B U V) : Below B U (fwld op V x y) := by
  cases e : floatBits op .f64 x y with
  | some r => simp only [fwld, e]; exact h
  | none => simp only [fwld, e]; exact h.drew
theorem fadd_run (P : Program) (t : TypeId) (V : World) (x y : Nat) : (binOp .add t (.float .f64 x) (.float .f64 y)).run P V = .ok (.float .f64 (fval .add V x y)) (fwld .add V x y) := by
  cases h : floatBits .add .f64 x y with
  | some r => simp only [fval, fwld, h]; exact run_float_arith V _ _ _ _ _ _ h
  | none => simp only [fval, fwld, h]; exact run_add P V t x y h
theorem fsub_run (P : Program) (t : TypeId) (V : World) (x y : Nat) : (binOp .sub t (.float .f64 x) (.float .f64 y)).run P V = .ok (.float .f64 (fval .sub V x y)) (fwld .sub V x y) := by
  cases h : floatBits .sub .f64 x y with
  | some r => simp only [fval, fwld, h]; exact run_float_arith V _ _ _ _ _ _ h
  | none => simp only [fval, fwld, h]; exact run_sub P V t x y h

theorem bits_run (x : Nat) (w : World) : (callFunc 50 #[.float .f64 x]).run Tryz.prog w = .ok (.value (.int .u64 (x : Int))) w := by
  rw [run_callFunc_extern (fn := Tryz.f50) Tryz.func50 (by kernel_rfl) (by kernel_rfl) (by kernel_rfl) (e := Extern.MathFloatBits.float64bits) (by kernel_rfl)]
  rfl
theorem from_run (x : Nat) (w : World) : (callFunc 5 #[.int .u64 (x : Int)]).run Tryz.prog w = .ok (.value (.float .f64 x)) w := by
  rw [run_callFunc_extern (fn := Tryz.f5) Tryz.func5 (by kernel_rfl) (by kernel_rfl) (by kernel_rfl) (e := Extern.MathFloatBits.float64frombits) (by kernel_rfl)]
  rfl

set_option maxHeartbeats 800000 in
set_option maxRecDepth 100000 in
theorem finite_any (x : Nat) (w : World) (hx : x < 18446744073709551616) :
    Calls Tryz.prog 35 #[.float .f64 x] w fun e w' => e = .returned (.bool (fin x)) ∧ w' = w := by
  have HB := bits_run x w
  have HI := hid (fin_int x hx)
  clear hx
  go_enter Tryz.func35, Tryz.ntmps35
  go_wp2
  go_ret
  exact ⟨congrArg (fun b => Ending.returned (.bool b)) HI.out, rfl⟩

set_option maxHeartbeats 800000 in
set_option maxRecDepth 100000 in
theorem refFinite_any (x : Nat) (w : World) (hx : x < 18446744073709551616) :
    Calls Tryz.prog 38 #[.float .f64 x] w fun e w' => e = .returned (.bool (fin x)) ∧ w' = w := by
  have HB := bits_run x w
  have HI := hid (fin_int x hx)
  clear hx
  go_enter Tryz.func38, Tryz.ntmps38
  go_wp2
  go_ret
  exact ⟨congrArg (fun b => Ending.returned (.bool b)) HI.out, rfl⟩

theorem Two.lt {a b s e : Nat} (h : Two a b s e) : s < 18446744073709551616 ∧ e < 18446744073709551616 := by
  obtain ⟨t, d, p, q, h1, h2, h3, h4, h5, h6⟩ := h
  exact ⟨h1.1, h6.1⟩

/-- What TwoSum tells. -/
def tsumV (r : Nat × Nat × Int) : Value := .tuple #[.float .f64 r.1, .float .f64 r.2.1, .int .i64 r.2.2]

end Go.Proofs.YtabkgpnckaaclaaGreatDoor

/- The calls of parts and of the document's answers for it, of any complex numbers, by their parts' bits. -/
namespace Go.Proofs.YtabkgpnckaaclaaGreatDoor
open Go.RowKit
set_option linter.unusedVariables false

theorem fval_fn (op : BinOp) (V : World) (x y : Nat) : FN op x y (fval op V x y) := by
  cases h : floatBits op .f64 x y with
  | some r => simp only [fval, h]; exact FN.some h
  | none => simp only [fval, h]; exact FN.none _ h
theorem fmul_run (P : Program) (t : TypeId) (V : World) (x y : Nat) : (binOp .mul t (.float .f64 x) (.float .f64 y)).run P V = .ok (.float .f64 (fval .mul V x y)) (fwld .mul V x y) := by
  cases h : floatBits .mul .f64 x y with
  | some r => simp only [fval, fwld, h]; exact run_float_arith V _ _ _ _ _ _ h
  | none =>
    have h' : FloatKind.f64.format.mul x y = .none := h
    simp only [fval, fwld, h]
    simp [binOp, Op.floatArith, h', Question.forced]
theorem fquo_run (P : Program) (t : TypeId) (V : World) (x y : Nat) : (binOp .quo t (.float .f64 x) (.float .f64 y)).run P V = .ok (.float .f64 (fval .quo V x y)) (fwld .quo V x y) := by
  cases h : floatBits .quo .f64 x y with
  | some r => simp only [fval, fwld, h]; exact run_float_arith V _ _ _ _ _ _ h
  | none =>
    have h' : FloatKind.f64.format.div x y = .none := h
    simp only [fval, fwld, h]
    simp [binOp, Op.floatArith, h', Question.forced]

/-- The root as the machine makes it, and the world behind it. -/
def qval (V : World) (x : Nat) : Nat := match Ieee.double.sqrt x with
  | .some r => r
  | .none => Question.cut (.nanBits .f64 x x) (V.tape V.drawn (.nanBits .f64 x x))
def qwld (V : World) (x : Nat) : World := match Ieee.double.sqrt x with
  | .some _ => V
  | .none => V.drew
theorem qval_fq (V : World) (x : Nat) : FQ x (qval V x) := by
  cases h : Ieee.double.sqrt x with
  | some r =>
    simp only [qval, h]
    have := Ieee.Format.sqrt_lt Ieee.double h
    exact ⟨this, Or.inl h⟩
  | none => simp only [qval, h]; exact ⟨(isnan_cut x x _).2, Or.inr ⟨h, (isnan_cut x x _).1⟩⟩
theorem qwld_below {B : Nat} {U V : World} (x : Nat) (h : Below B U V) : Below B U (qwld V x) := by
  cases e : Ieee.double.sqrt x with
  | some r => simp only [qwld, e]; exact h
  | none => simp only [qwld, e]; exact h.drew
theorem sqrt_eq (x : Nat) : Extern.MathSqrt.sqrt #[.float .f64 x] = (match FloatKind.f64.format.sqrt x with
    | some r => pure (.float .f64 r)
    | none => do pure (.float .f64 (← choose (.nanBits .f64 x x)))) := rfl
/-- What a product is made of. -/
def MulR (a b c d re im : Nat) : Prop := ∃ x y u v, FN .mul a c x ∧ FN .mul b d y ∧ FN .sub x y re ∧ FN .mul a d u ∧ FN .mul b c v ∧ FN .add u v im
theorem MulR.al {a b c d re im re' im' : Nat} (h : MulR a b c d re im) (h' : MulR a b c d re' im') : Al re re' ∧ Al im im' := by
  obtain ⟨x, y, u, v, h1, h2, h3, h4, h5, h6⟩ := h
  obtain ⟨x', y', u', v', h1', h2', h3', h4', h5', h6'⟩ := h'
  exact ⟨h3.al h3' (h1.al h1' (.refl _) (.refl _)) (h2.al h2' (.refl _) (.refl _)), h6.al h6' (h4.al h4' (.refl _) (.refl _)) (h5.al h5' (.refl _) (.refl _))⟩

/-- The other sign. -/
def fneg (x : Nat) : Nat := Op.negFloat .f64 x

set_option maxHeartbeats 800000 in
set_option maxRecDepth 100000 in
theorem mIsNaN_any (x : Nat) (w : World) :
    Calls Tryz.prog 119 #[.float .f64 x] w fun e w' => e = .returned (.bool (isnan x)) ∧ w' = w := by
  have h := neq_self x
  go_enter Tryz.func119, Tryz.ntmps119
  go_wp2
  go_ret
  exact ⟨rfl, rfl⟩

theorem absBits (x : Nat) (h : x < 18446744073709551616) : bits .andNot .u64 (x : Int) 9223372036854775808 = ((x % 9223372036854775808 : Nat) : Int) := by
  have e := u64_andNot_nat x 9223372036854775808 h (by decide)
  have e2 : x &&& (18446744073709551615 - 9223372036854775808) = x % 9223372036854775808 := Nat.and_two_pow_sub_one_eq_mod _ 63
  rw [e2] at e
  exact e

set_option maxHeartbeats 800000 in
set_option maxRecDepth 100000 in
theorem mAbs_any (x : Nat) (w : World) (h : x < 18446744073709551616) :
    Calls Tryz.prog 51 #[.float .f64 x] w fun e w' => e = .returned (.float .f64 (x % 9223372036854775808)) ∧ w' = w := by
  have HB := bits_run x
  have HF := from_run (x % 9223372036854775808)
  have HA := absBits x h
  generalize x % 9223372036854775808 = y at *
  clear h
  go_enter Tryz.func51, Tryz.ntmps51
  go_wp2
  go_ret
  exact ⟨rfl, rfl⟩

set_option maxHeartbeats 800000 in
set_option maxRecDepth 100000 in
theorem mInf_any (w : World) :
    Calls Tryz.prog 72 #[.int .i64 1] w fun e w' => e = .returned (.float .f64 9218868437227405312) ∧ w' = w := by
  have HF : ∀ V, (callFunc 5 #[.int .u64 9218868437227405312]).run Tryz.prog V = .ok (.value (.float .f64 9218868437227405312)) V := from_run 9218868437227405312
  go_enter Tryz.func72, Tryz.ntmps72
  go_wp2
  go_ret
  exact ⟨rfl, rfl⟩

/-- An infinity, by the size's bits. -/
def isinf (x : Nat) : Bool := x == 9218868437227405312

theorem gt_max {x : Nat} (h : x < 9223372036854775808) : (FloatKind.f64.format.order x 9218868437227405311 == some .gt) = isinf x := by
  by_cases hn : isnan x = true
  · rw [order_nan_l hn]
    rw [isnan_iff] at hn
    have : x ≠ 9218868437227405312 := by rintro rfl; revert hn; decide
    simp [isinf, this]
  · have hx : x ≤ 9218868437227405312 := by rw [isnan_iff] at hn; omega
    rw [order_pos hx (by decide)]
    by_cases e : x = 9218868437227405312
    · subst e; decide
    · have : x ≤ 9218868437227405311 := by omega
      have hc : compare x 9218868437227405311 ≠ .gt := by
        intro g; rw [Nat.compare_eq_gt] at g; omega
      cases hh : compare x 9218868437227405311
      · simp [isinf, e]
      · simp [isinf, e]
      · exact absurd hh hc

set_option maxHeartbeats 800000 in
set_option maxRecDepth 100000 in
theorem mIsInf1_any (x : Nat) (w : World) (h : x < 9223372036854775808) :
    Calls Tryz.prog 118 #[.float .f64 x, .int .i64 1] w fun e w' => e = .returned (.bool (isinf x)) ∧ w' = w := by
  have HG := gt_max h
  clear h
  go_enter Tryz.func118, Tryz.ntmps118
  go_wp2
  go_ret
  exact ⟨rfl, rfl⟩
set_option maxHeartbeats 800000 in
set_option maxRecDepth 100000 in
theorem mIsInf0_any (x : Nat) (w : World) (h : x < 18446744073709551616) :
    Calls Tryz.prog 118 #[.float .f64 x, .int .i64 0] w fun e w' => e = .returned (.bool (isinf (x % 9223372036854775808))) ∧ w' = w := by
  have HA := hid (mAbs_any x w h)
  have HG := gt_max (x := x % 9223372036854775808) (by omega)
  generalize x % 9223372036854775808 = y at *
  clear h
  go_enter Tryz.func118, Tryz.ntmps118
  go_wp2_with fail
  refine Calls.mono HA.out ?_
  rintro e w2 ⟨rfl, rfl⟩
  go_wp2
  go_ret
  exact ⟨rfl, rfl⟩

theorem natBeq (x y : Nat) : ((x : Int) == (y : Int)) = (x == y) := by
  by_cases h : x = y
  · subst h; simp
  · rw [beq_eq_false_iff_ne.2 h, beq_eq_false_iff_ne.2 (by omega)]

end Go.Proofs.YtabkgpnckaaclaaGreatDoor

/- real's inner calls: a float taken apart, how many bits a number has, a number shifted, words of 64 bits. -/
namespace Go.Proofs.YtabkgpnckaaclaaGreatDoor
open Go.RowKit
set_option linter.unusedVariables false

/-- The count and the unit of a finite float, by its bits. -/
def fcount (x : Nat) : Nat := if x / 4503599627370496 % 2048 = 0 then x % 4503599627370496 else 4503599627370496 + x % 4503599627370496
def funit (x : Nat) : Int := if x / 4503599627370496 % 2048 = 0 then -1074 else -1074 + ((x / 4503599627370496 % 2048 : Nat) : Int) - 1

theorem fcount_lt (x : Nat) : fcount x < 9007199254740992 := by unfold fcount; split <;> omega
theorem funit_le (x : Nat) : -1074 ≤ funit x ∧ funit x ≤ 972 := by unfold funit; split <;> omega

theorem and52 (x : Nat) (hx : x < 18446744073709551616) : bits .and .u64 (x : Int) 4503599627370495 = ((x % 4503599627370496 : Nat) : Int) := by
  have e1 := u64_and_nat x 4503599627370495 hx (by omega)
  have e2 : x &&& 4503599627370495 = x % 4503599627370496 := Nat.and_two_pow_sub_one_eq_mod _ 52
  rw [e2] at e1
  exact e1
theorem and2047 (x : Nat) (hx : x < 18446744073709551616) : bits .and .u64 ((x : Int) / 4503599627370496) 2047 = ((x / 4503599627370496 % 2048 : Nat) : Int) := by
  have e0 : (x : Int) / 4503599627370496 = ((x / 4503599627370496 : Nat) : Int) := by omega
  rw [e0]
  have e1 := u64_and_nat (x / 4503599627370496) 2047 (by omega) (by omega)
  have e2 : x / 4503599627370496 &&& 2047 = x / 4503599627370496 % 2048 := Nat.and_two_pow_sub_one_eq_mod _ 11
  rw [e2] at e1
  exact e1
theorem or52 (m : Nat) (hm : m < 4503599627370496) : bits .or .u64 (m : Int) 4503599627370496 = ((4503599627370496 + m : Nat) : Int) := by
  have e1 := u64_or_nat m 4503599627370496 (by omega) (by omega)
  have e2 : m ||| 4503599627370496 = 4503599627370496 + m := by
    rw [Nat.or_comm]
    exact nat_join 52 4503599627370496 m (by decide) hm
  rw [e2] at e1
  exact e1

set_option maxHeartbeats 1600000 in
set_option maxRecDepth 100000 in
theorem takeApart_any (x : Nat) (w : World) (hx : x < 18446744073709551616) :
    Calls Tryz.prog 37 #[.float .f64 x] w fun e w' => e = .returned (.agg #[.bool (x / 9223372036854775808 == 1), .int .u64 (fcount x : Int), .int .i64 (funit x)]) ∧ Below w.heap.size w w' := by
  have HB := bits_run x
  have h1 := and52 x hx
  have h2 := and2047 x hx
  have h3 : (((x : Int) / 9223372036854775808) == 1) = (x / 9223372036854775808 == 1) := by
    have e0 : (x : Int) / 9223372036854775808 = ((x / 9223372036854775808 : Nat) : Int) := by omega
    rw [e0]
    exact natBeq (x / 9223372036854775808) 1
  have h4 := or52 (x % 4503599627370496) (by omega)
  have hc := fcount_lt x
  generalize hs : (x / 9223372036854775808 == 1) = sgn at *
  by_cases hz : x / 4503599627370496 % 2048 = 0
  · have ec : fcount x = x % 4503599627370496 := by unfold fcount; rw [if_pos hz]
    have eu : funit x = -1074 := by unfold funit; rw [if_pos hz]
    rw [hz] at h2
    rw [ec, eu]
    generalize x % 4503599627370496 = m at *
    clear hz ec eu hs h4 hc
    go_enter Tryz.func37, Tryz.ntmps37
    go_wp2
    go_returns
    exact ⟨rfl, (alloc_later _ _).trans ((alloc_later _ _).mono (by simp))⟩
  · have ec : fcount x = 4503599627370496 + x % 4503599627370496 := by unfold fcount; rw [if_neg hz]
    have eu : funit x = -1074 + ((x / 4503599627370496 % 2048 : Nat) : Int) - 1 := by unfold funit; rw [if_neg hz]
    rw [ec, eu]
    have hE : x / 4503599627370496 % 2048 < 2048 := by omega
    generalize x / 4503599627370496 % 2048 = E at *
    generalize hM : 4503599627370496 + x % 4503599627370496 = M at *
    generalize x % 4503599627370496 = m at *
    have hm : (m : Int) ≤ 18446744073709551615 := by omega
    clear ec eu hs hM
    go_enter Tryz.func37, Tryz.ntmps37
    go_wp2
    go_returns
    exact ⟨by rw [show (-1074 : Int) + ((E : Int) - 1) = -1074 + (E : Int) - 1 by omega], (alloc_later _ _).trans ((alloc_later _ _).mono (by simp))⟩

set_option maxHeartbeats 800000 in
set_option maxRecDepth 100000 in
theorem rlength_any (a : Option Addr) (n cap : Nat) (xs : List Int) (w : World) (h : Reads w w.heap.size a (n + 1) cap xs) (hn : n ≤ 1048576) (tx : Trimmed xs) :
    Calls Tryz.prog 97 #[.slice a (n + 1) cap] w fun e w' => e = .returned (.int .i64 (bitsOf xs : Int)) ∧ w' = w := by
  have hl := h.1
  have hs : sz xs = n + 1 := by rw [tx]; exact hl
  have tp := sz_top xs (by omega)
  rw [hs, Nat.add_sub_cancel] at tp
  have b := h.2.1.at n
  have HU : Hid ((bitsOf xs : Int) = (n : Int) * 32 + (Lib.bitLen (xs[n]?.getD 0).toNat : Int)) := by
    show _ = _
    unfold bitsOf
    rw [hs, if_neg (by omega), Nat.add_sub_cancel]
    omega
  rcases h.2.2.1 with h0 | ⟨g, o, rfl, hg, hc⟩
  · omega
  have c0 := hc n (by omega)
  generalize xs[n]?.getD 0 = x at *
  have HL := hid (lead_any x w (by omega) b.2)
  have h32 := bitLen_le32 x b.2
  generalize Lib.bitLen x.toNat = L at *
  generalize hq : 32 - L = q at *
  have HQ := hid hq
  clear hc h hs hl tp tx hq
  go_enter Tryz.func97, Tryz.ntmps97
  go_wp2_with fail
  refine Calls.mono HL.out ?_
  rintro e w' ⟨rfl, rfl⟩
  have hq32 : q ≤ 32 := by have := HQ.out; omega
  go_wp2_with fail
  go_ret
  exact ⟨ret_int (by have := HQ.out; have := HU.out; omega), rfl⟩

end Go.Proofs.YtabkgpnckaaclaaGreatDoor

/- real.shifted: a number above 0 times a power of two, in new memory. -/
namespace Go.Proofs.YtabkgpnckaaclaaGreatDoor
open Go.RowKit
set_option linter.unusedVariables false

theorem or_lo32 (c X : Int) (t : Nat) (ht : t ≤ 31) (c0 : 0 ≤ c) (c1 : c < 2 ^ t) (x0 : 0 ≤ X) (x1 : X ≤ 4294967295) : bits BinOp.or IntKind.u32 c (X * 2 ^ t % 4294967296) = c + X * 2 ^ t % 4294967296 := by
  obtain ⟨C, rfl⟩ := Int.eq_ofNat_of_zero_le c0
  obtain ⟨Y, rfl⟩ := Int.eq_ofNat_of_zero_le x0
  have e2 : ((2 ^ t : Nat) : Int) = 2 ^ t := by rw [Int.natCast_pow]; rfl
  have e1 : (Y : Int) * 2 ^ t % 4294967296 = ((Y * 2 ^ t % 4294967296 : Nat) : Int) := by rw [← e2]; omega
  have h32 : (2 : Int) ^ t ≤ 2 ^ 31 := two_le ht
  rw [e1]
  rw [← e2] at c1
  have c2 : C < 2 ^ t := Int.ofNat_lt.1 c1
  have hd : Y * 2 ^ t % 4294967296 % 2 ^ t = 0 := by
    have hv : 2 ^ t ∣ 4294967296 := ⟨2 ^ (32 - t), by rw [← Nat.pow_add, show t + (32 - t) = 32 by omega]⟩
    rw [Nat.mod_mod_of_dvd _ hv]
    exact Nat.mul_mod_left _ _
  have hm := Nat.mod_lt (Y * 2 ^ t) (show 0 < 4294967296 by decide)
  have b31 : (2 : Int) ^ 31 = 2147483648 := by decide
  rw [u32_or_nat C _ (by omega) (by omega), Nat.or_comm, nat_join t _ C hd c2]
  omega

theorem up_stay (xs us : List Int) (W k : Nat) (Q c lo hi p : Int) (hk : W + k < us.length) (hb : us[W + k + 1]?.getD 0 = 0) (hc : us[W + k]?.getD 0 = c) (hp : xs[k]?.getD 0 * Q = p) (hl : p = lo + hi * 4294967296) (h0 : hi = 0) (h : segTo us W (k + 1) = valTo xs k * Q) :
    segTo (us.set (W + k) (c + lo)) W (k + 1 + 1) = valTo xs (k + 1) * Q := by
  rw [segTo_succ, segTo_set us W k _ (by omega), valTo_succ, show W + (k + 1) = W + k + 1 by omega, List.getElem?_set, if_neg (by omega), hb]
  rw [segTo_succ, hc] at h
  subst h0
  generalize (4294967296 : Int) ^ k = P at *
  generalize segTo us W k = S at *
  generalize valTo xs k = V at *
  generalize xs[k]?.getD 0 = X at *
  grind

set_option maxHeartbeats 3200000 in
set_option maxRecDepth 100000 in
theorem rshifted_any (a : Option Addr) (n cap : Nat) (xs : List Int) (W t : Nat) (M : Int) (w : World) (h : Reads w w.heap.size a (n + 1) cap xs) (hn : n ≤ 1048576) (tx : Trimmed xs) (hW : W ≤ 1048576) (ht : t ≤ 31) (hM : M = 32 * W + t) :
    Calls Tryz.prog 65 #[.slice a (n + 1) cap, .int .i64 M] w fun e w' => ∃ ys : List Int, e = .returned (.slice (some ⟨w.heap.size, 0, none⟩) ys.length ys.length) ∧ OwnW w' w.heap.size w.heap.size ys.length ys ∧ Wd ys ∧ Trimmed ys ∧ val ys = val xs * 2 ^ t * 4294967296 ^ W ∧ Below w.heap.size w w' := by
  obtain ⟨i0, hi, hz0, hz1, hz2⟩ := info_parts Tryz.infoW
  have HLEN := hid (rlength_any a n cap xs w h hn tx)
  have WX := hid h.2.1
  have HL := hid h.1
  have HCX := hid h.cells
  have hcap := h.2.2.2.1
  have hsz : sz xs = n + 1 := by rw [tx]; exact h.1
  obtain ⟨b1, b2, b3, b4, b5⟩ := bits_bounds h.2.1 (by omega)
  rw [hsz] at b4 b5
  have HBB := hid (And.intro b2 b3)
  have HUB : Hid (bitsOf xs = n * 32 + Lib.bitLen (xs[n]?.getD 0).toNat) := by
    show _ = _
    unfold bitsOf
    rw [hsz, if_neg (by omega), Nat.add_sub_cancel]
  have hq : M / 32 = (W : Int) := by omega
  have hr : M % 32 = (t : Int) := by omega
  have hM0 : 0 ≤ M := by omega
  have hM1 : M ≤ 33554463 := by omega
  obtain ⟨N, hN⟩ : ∃ N : Nat, ((bitsOf xs : Int) + M + 31) / 32 = (N : Int) := ⟨(((bitsOf xs : Int) + M + 31) / 32).toNat, by omega⟩
  have hN1 : W + n + 1 ≤ N := by omega
  have hN2 : N ≤ W + n + 2 := by omega
  have HNB : Hid (32 * ((N : Int) - 1) < (bitsOf xs : Int) + M ∧ (bitsOf xs : Int) + M ≤ 32 * (N : Int)) := by constructor <;> omega
  have hL2 : bitsOf xs ≤ 33554464 := by omega
  have HM := hid hM
  clear h hM b1 b2 b3 b4 b5 hsz tx
  go_enter Tryz.func65, Tryz.ntmps65
  go_wp2_with fail
  refine Calls.mono HLEN.out ?_
  rintro e w1 ⟨rfl, rfl⟩
  clear HLEN
  go_wp2_with (at_make; refine wpList_make_full _ rfl _ _ 23 rfl w1.heap.size 88 i0 (.int .u32 0) 1 Tryz.underlying23 hi hz0 hz1 _ _ _ _ N rfl rfl (by omega) (by omega) (by rw [hz2]; omega) (by unfold maxLen; omega) (Nat.le_refl _) ?_)
  intro w2 hown hgrow
  have hbel : Below w1.heap.size w1 w2 := (Below.refl _ _).grown hgrow (Nat.le_refl _) (fun k hk => by simp at hk)
  have HO := hid (OwnW.made hown)
  clear hown hgrow
  have HTOP : Hid (∀ X, xs[n]?.getD 0 = X → 4294967296 ≤ X * 2 ^ t → W + n + 1 < N) := fun X hX hp => by
    have hb := WX.out.at n
    rw [hX] at hb
    have ub : bitsOf xs = n * 32 + Lib.bitLen X.toNat := by
      have e := HUB.out
      rw [hX] at e
      exact e
    by_cases hx1 : 1 ≤ X
    · obtain ⟨_, _, l3⟩ := bitLen_bounds X hx1 hb.2
      have l4 : 33 ≤ Lib.bitLen X.toNat + t := by
        by_cases hc : 33 ≤ Lib.bitLen X.toNat + t
        · exact hc
        · exfalso
          have p := two_pos t
          have e1 : X * 2 ^ t < 2 ^ Lib.bitLen X.toNat * 2 ^ t := Int.mul_lt_mul_of_pos_right l3 p
          rw [← Int.pow_add] at e1
          have e2 : (2 : Int) ^ (Lib.bitLen X.toNat + t) ≤ 2 ^ 32 := two_le (by omega)
          have e3 : (2 : Int) ^ 32 = 4294967296 := by decide
          omega
      have := HNB.out
      have := HM.out
      omega
    · have : X = 0 := by omega
      subst this
      omega
  go_wp2_with fail
  go_loopw [19] (fun z wr => ∃ (k : Nat) (us : List Int), k ≤ n + 1 ∧ z = .int .i64 k ∧ Wd us ∧ Hid (us[W + k]?.getD 0 < 2 ^ t) ∧ Hid (segTo us W (k + 1) = valTo xs k * 2 ^ t) ∧ Hid (∀ j, j < W ∨ W + k + 1 ≤ j → us[j]?.getD 0 = 0) ∧ OwnW wr w1.heap.size w1.heap.size N us ∧ Below w1.heap.size w1 wr) (fun z _ => n + 1 - (intOf z).toNat)
  case atStart =>
    refine ⟨0, _, by omega, rfl, Wd.replicate _, ?_, ?_, fun j _ => replicate_zero _ j, HO.out, hbel⟩
    · show _ < _
      rw [replicate_zero]; exact two_pos t
    · show _ = _
      rw [segTo_succ, Nat.add_zero, replicate_zero]; simp [segTo, valTo]
  case round =>
    obtain ⟨k, us, hk, rfl, hwu, HC, HV, HK, ho, hb⟩ := hrel
    by_cases hlt : k < n + 1
    · obtain ⟨b1, o1, rfl, l1, cx⟩ := HCX.out k (by omega)
      have x1 : wr.cell? ⟨b1, o1 + k, none⟩ = some (.int .u32 (xs[k]?.getD 0)) := (hb.cell (p := ⟨b1, o1 + k, none⟩) l1).trans cx
      have y1 := ho.cell (W + k) (by omega)
      have f1 := ho.free (W + k)
      have bx := WX.out.at k
      have hlu := ho.len
      have bc := hwu.at (W + k)
      obtain ⟨u1, u2, u3⟩ := up_word _ t ht bx.1 bx.2
      obtain ⟨q0, q1, q2, q3⟩ := shl_word _ t ht bx.1 bx.2
      have hor := or_lo32 (us[W + k]?.getD 0) (xs[k]?.getD 0) t ht bc.1 HC.out bx.1 bx.2
      have c1 := HC.out
      have HTK : Hid (4294967296 ≤ xs[k]?.getD 0 * 2 ^ t → W + k + 1 < N) := fun hp => by
        by_cases hkn : k = n
        · subst hkn; exact HTOP.out _ rfl hp
        · omega
      have HST := hid (fun c lo hi p (hk : W + k + 1 < us.length) => up_step xs us W k (2 ^ t) c lo hi p hk)
      have HST0 := hid (fun c lo hi p => up_stay xs us W k (2 ^ t) c lo hi p (by omega) (HK.out _ (.inr (by omega))))
      obtain ⟨X, hX⟩ : ∃ X, xs[k]?.getD 0 = X := ⟨_, rfl⟩
      obtain ⟨c, hc⟩ : ∃ c, us[W + k]?.getD 0 = c := ⟨_, rfl⟩
      rw [hX] at x1 bx HST HST0 u1 u2 u3 q0 q1 hor HTK
      rw [hc] at y1 c1 bc HST HST0 hor
      obtain ⟨p, hp⟩ : ∃ p, X * 2 ^ t = p := ⟨_, rfl⟩
      rw [hp] at u1 u2 u3 q0 q1 hor HTK
      obtain ⟨lo, hlo⟩ : ∃ lo, p % 4294967296 = lo := ⟨_, rfl⟩
      obtain ⟨hi', hhi⟩ : ∃ hi', p / 4294967296 = hi' := ⟨_, rfl⟩
      have hpl : p = lo + hi' * 4294967296 := by omega
      rw [hlo] at u1 hor
      rw [hhi] at u2 u3
      have lo0 : 0 ≤ lo := by omega
      have lo1 : lo ≤ 4294967295 := by omega
      have hcl : c + lo ≤ 4294967295 := by omega
      have hi1 : hi' ≤ 4294967295 := by omega
      have HU3 := hid u3
      have p1 : p ≤ 18446744073709551615 := by omega
      have hkW : (M / 32 + (k : Int)) = ((W + k : Nat) : Int) := by omega
      have hkW1 : (((W + k : Nat) : Int) + 1) = ((W + k + 1 : Nat) : Int) := by omega
      have HWU := hid hwu
      have HOO := hid ho
      have HBO := hid hb
      by_cases hz : hi' = 0
      · have hzd : decide (0 < hi') = false := by simp; omega
        have elo : lo = p := by rw [hz] at hpl; omega
        subst elo
        have HSV := hid (HST0.out c lo hi' lo rfl hp hpl hz HV.out)
        have HKN : Hid (∀ j, j < W ∨ W + (k + 1) + 1 ≤ j → (us.set (W + k) (c + lo))[j]?.getD 0 = 0) := fun j hj => by
          rw [List.getElem?_set, if_neg (by omega)]
          exact HK.out j (by omega)
        have HCN : Hid ((us.set (W + k) (c + lo))[W + (k + 1)]?.getD 0 < 2 ^ t) := by
          show _ < _
          rw [show W + (k + 1) = W + k + 1 by omega, List.getElem?_set, if_neg (by omega), HK.out _ (.inr (by omega))]
          exact two_pos t
        have HWN := hid (HWU.out.set (W + k) (show 0 ≤ c + lo ∧ c + lo ≤ 4294967295 by omega))
        have HO1 := hid (HOO.out.set (W + k) (c + lo))
        have HB1 := hid (HBO.out.setCell (p := ⟨w1.heap.size, W + k, none⟩) (Nat.le_refl _) (.int .u32 (c + lo)))
        subst hz
        clear hlu ho hb HV HK HC cx hX hc hpl u1 u2 u3 q1 q2 q3 c1 HST HST0 HTK HOO HBO HWU
        go_wp2_with fail
        go_roundw
        case rel => exact ⟨k + 1, _, by omega, by go_num, HWN.out, HCN, HSV, HKN, HO1.out, HB1.out⟩
        case measure => simp [intOf]; omega
      · have hNk := HTK.out (by omega)
        have hzd : decide (0 < hi') = true := by simp; omega
        have HSV := hid (HST.out c lo hi' p (by omega) rfl hp hpl HV.out)
        have HOB2 : Hid (OwnW ((wr.setCell ⟨w1.heap.size, W + k, none⟩ (.int .u32 (c + lo))).setCell ⟨w1.heap.size, W + k + 1, none⟩ (.int .u32 hi')) w1.heap.size w1.heap.size N ((us.set (W + k) (c + lo)).set (W + k + 1) hi') ∧ Below w1.heap.size w1 ((wr.setCell ⟨w1.heap.size, W + k, none⟩ (.int .u32 (c + lo))).setCell ⟨w1.heap.size, W + k + 1, none⟩ (.int .u32 hi'))) :=
          ⟨(ho.set (W + k) _).set (W + k + 1) _, (hb.setCell (p := ⟨w1.heap.size, W + k, none⟩) (Nat.le_refl _) _).setCell (p := ⟨w1.heap.size, W + k + 1, none⟩) (Nat.le_refl _) _⟩
        have g1 := (ho.set (W + k) (c + lo)).cell (W + k + 1) (by omega)
        have g2 := (ho.set (W + k) (c + lo)).free (W + k + 1)
        have HKN : Hid (∀ j, j < W ∨ W + (k + 1) + 1 ≤ j → ((us.set (W + k) (c + lo)).set (W + k + 1) hi')[j]?.getD 0 = 0) := fun j hj => by
          rw [List.getElem?_set, if_neg (by omega), List.getElem?_set, if_neg (by omega)]
          exact HK.out j (by omega)
        have HCN : Hid (((us.set (W + k) (c + lo)).set (W + k + 1) hi')[W + (k + 1)]?.getD 0 < 2 ^ t) := by
          show _ < _
          rw [show W + (k + 1) = W + k + 1 by omega, List.getElem?_set, if_pos rfl, if_pos (by rw [List.length_set]; omega)]
          exact HU3.out
        have HWN := hid ((HWU.out.set (W + k) (show 0 ≤ c + lo ∧ c + lo ≤ 4294967295 by omega)).set (W + k + 1) (show 0 ≤ hi' ∧ hi' ≤ 4294967295 by omega))
        clear hlu ho hb HV HK HC cx hX hc hpl u1 u3 q1 q2 q3 c1 HST HST0 HTK HOO HBO HWU
        go_wp2_with fail
        go_roundw
        case rel => exact ⟨k + 1, _, by omega, by go_num, HWN.out, HCN, HSV, HKN, HOB2.out.1, HOB2.out.2⟩
        case measure => simp [intOf]; omega
    · obtain rfl : k = n + 1 := by omega
      have hlu := ho.len
      have HF : val us = val xs * 2 ^ t * 4294967296 ^ W := by
        rw [← valTo_stable us (W + (n + 1 + 1)) (by omega), valTo_seg us W (n + 1 + 1), HV.out, valTo_stable xs (n + 1) (by have := HL.out; omega), valTo_congr us [] W (fun j hj => by rw [HK.out j (.inl hj)]; rfl), valTo_stable [] _ (by simp), val_nil]
        omega
      have HT : Hid (Trimmed us) := by
        show sz us = us.length
        rw [sz_eq_iff]
        right
        intro h0
        obtain ⟨m, hm⟩ : ∃ m, us.length = m + 1 := ⟨N - 1, by omega⟩
        rw [hm, Nat.add_sub_cancel] at h0
        have v1 : val us = valTo us m := by
          rw [← valTo_stable us (m + 1) (by omega), valTo_succ, h0]; omega
        have v2 := (valTo_bounds hwu m).2
        have v3 := HBB.out.1
        have hn3 := HNB.out
        have hm3 := HM.out
        have p1 := two_pos t
        have p2 := pw_pos W
        have v4 : (2 : Int) ^ (bitsOf xs - 1) * 2 ^ t ≤ val xs * 2 ^ t := Int.mul_le_mul_of_nonneg_right v3 (Int.le_of_lt p1)
        have v5 : (2 : Int) ^ (bitsOf xs - 1) * 2 ^ t * 4294967296 ^ W ≤ val xs * 2 ^ t * 4294967296 ^ W := Int.mul_le_mul_of_nonneg_right v4 (Int.le_of_lt p2)
        rw [pw_two W, ← Int.pow_add, ← Int.pow_add, ← pw_two W, ← HF, v1] at v5
        rw [pw_two m] at v2
        have v6 : (2 : Int) ^ (32 * m) ≤ 2 ^ (bitsOf xs - 1 + t + 32 * W) := two_le (by omega)
        omega
      have HF' := hid HF
      have hNl : N = us.length := hlu.symm
      subst hNl
      clear HV HK HC HF hlu
      go_wp2_with fail
      go_ret
      exact ⟨us, rfl, ho, hwu, HT.out, HF'.out, hb⟩

end Go.Proofs.YtabkgpnckaaclaaGreatDoor

/- real.double, real.compare: a number doubled in place, two of as many words held against each other. -/
namespace Go.Proofs.YtabkgpnckaaclaaGreatDoor
open Go.RowKit
set_option linter.unusedVariables false

theorem or_dbl (x c : Int) (x0 : 0 ≤ x) (x1 : x ≤ 4294967295) (c0 : 0 ≤ c) (c1 : c ≤ 1) : bits BinOp.or IntKind.u32 (x * 2 % 4294967296) c = x * 2 % 4294967296 + c := by
  obtain ⟨X, rfl⟩ := Int.eq_ofNat_of_zero_le x0
  obtain ⟨C, rfl⟩ := Int.eq_ofNat_of_zero_le c0
  have e : (X : Int) * 2 % 4294967296 = ((X * 2 % 4294967296 : Nat) : Int) := by omega
  rw [e, u32_or_nat _ C (by omega) (by omega), nat_join 1 _ C (by omega) (by omega)]
  omega

theorem dbl_step (ys us : List Int) (k : Nat) (c x : Int) (hk : k < us.length) (hx : ys[k]?.getD 0 = x) (h : valTo us k + c * 4294967296 ^ k = 2 * valTo ys k) (x0 : 0 ≤ x) (x1 : x ≤ 4294967295) :
    valTo (us.set k (x * 2 % 4294967296 + c)) (k + 1) + x / 2147483648 * 4294967296 ^ (k + 1) = 2 * valTo ys (k + 1) := by
  rw [valTo_set us k _ hk, valTo_succ, hx, pw_succ]
  have e : x * 2 = x * 2 % 4294967296 + x / 2147483648 * 4294967296 := by omega
  generalize x * 2 % 4294967296 = lo at *
  generalize x / 2147483648 = hi at *
  generalize (4294967296 : Int) ^ k = P at *
  have e2 : x * 2 * P = (lo + hi * 4294967296) * P := by rw [e]
  have e3 : x * 2 * P = 2 * (x * P) := by rw [Int.mul_comm x 2, Int.mul_assoc]
  have e4 : (lo + hi * 4294967296) * P = lo * P + hi * (P * 4294967296) := by rw [Int.add_mul, Int.mul_assoc, Int.mul_comm 4294967296 P]
  rw [Int.add_mul, Int.mul_add]
  omega

set_option maxHeartbeats 1600000 in
set_option maxRecDepth 100000 in
theorem rdouble_any (base g n cap : Nat) (ys : List Int) (w : World) (ho : OwnC w base g n cap ys) (hwy : Wd ys) (hn : n ≤ 1048576) :
    Calls Tryz.prog 103 #[.slice (some ⟨g, 0, none⟩) n cap] w fun e w' => ∃ (zs : List Int) (c : Int), e = .returned (.tuple #[]) ∧ OwnC w' base g n cap zs ∧ Wd zs ∧ val zs + c * 4294967296 ^ n = 2 * val ys ∧ 0 ≤ c ∧ c ≤ 1 ∧ w.grownBy w' (some g) := by
  have hcap := ho.cap
  have hlen := ho.len
  have HLN := hid hlen
  clear hlen
  go_enter Tryz.func103, Tryz.ntmps103
  go_wp2_with fail
  go_loopw [2, 7] (fun cv z wr => ∃ (k : Nat) (c : Int) (us : List Int), k ≤ n ∧ z = .int .i64 k ∧ cv = .int .u32 c ∧ 0 ≤ c ∧ c ≤ 1 ∧ Wd us ∧ Hid (valTo us k + c * 4294967296 ^ k = 2 * valTo ys k) ∧ Hid (∀ j, k ≤ j → us[j]?.getD 0 = ys[j]?.getD 0) ∧ OwnC wr base g n cap us ∧ w.grownBy wr (some g)) (fun _ z _ => n - (intOf z).toNat)
  case atStart => exact ⟨0, 0, ys, by omega, rfl, rfl, by omega, by omega, hwy, show _ = _ by simp [valTo], fun _ _ => rfl, ho, World.grownBy.refl _ _⟩
  case round =>
    obtain ⟨k, c, us, hk, rfl, rfl, c0, c1, hwu, HV, HK, hou, hg⟩ := hrel
    by_cases hlt : k < n
    · have y1 := hou.cell k hlt
      have f1 := hou.free k
      have bu := hwu.at k
      have hlu := hou.len
      have hxy : ys[k]?.getD 0 = us[k]?.getD 0 := (HK.out k (Nat.le_refl _)).symm
      have HV' := hid (dbl_step ys us k c _ (by omega) hxy HV.out bu.1 bu.2)
      have hor := or_dbl (us[k]?.getD 0) c bu.1 bu.2 c0 c1
      have HK' : Hid (∀ j, k + 1 ≤ j → (us.set k (us[k]?.getD 0 * 2 % 4294967296 + c))[j]?.getD 0 = ys[j]?.getD 0) := fun j hj => by
        rw [List.getElem?_set, if_neg (by omega)]; exact HK.out j (by omega)
      have HO' := hid (hou.set k (us[k]?.getD 0 * 2 % 4294967296 + c)).1
      have HG' := hid (grown_trans hg (hou.set k (us[k]?.getD 0 * 2 % 4294967296 + c)).2)
      have HW' := hid (hwu.set k (show 0 ≤ us[k]?.getD 0 * 2 % 4294967296 + c ∧ us[k]?.getD 0 * 2 % 4294967296 + c ≤ 4294967295 by omega))
      generalize us[k]?.getD 0 = x at *
      have hx31 : x / 2147483648 ≤ 1 := by omega
      have hx30 : 0 ≤ x / 2147483648 := by omega
      clear hlu hou hg HV HK hxy hwu
      go_wp2_with fail
      go_roundw
      case rel => exact ⟨k + 1, x / 2147483648, us.set k (x * 2 % 4294967296 + c), by omega, by go_num, by go_num, hx30, hx31, HW'.out, HV', HK', HO'.out, HG'.out⟩
      case measure => simp [intOf]; omega
    · have hkn : k = n := by omega
      subst hkn
      have HF : Hid (val us + c * 4294967296 ^ k = 2 * val ys) := by
        show _ = _
        have e := HV.out
        rw [valTo_stable us k (by have := hou.len; omega), valTo_stable ys k (by have := HLN.out; omega)] at e
        exact e
      clear HV
      go_wp2_with fail
      go_end0
      exact ⟨us, c, rfl, hou, hwu, HF.out, c0, c1, hg⟩

theorem cmp_no {xs ys : List Int} {k : Nat} (hx : Wd xs) (hy : Wd ys) (h : ∀ j, k + 1 ≤ j → xs[j]?.getD 0 = ys[j]?.getD 0) (hlt : xs[k]?.getD 0 < ys[k]?.getD 0) : cmpI (val xs) (val ys) = -1 := cmpI_lt (val_lt_of hx hy k hlt (fun j hj => h j hj))
theorem cmp_yes {xs ys : List Int} {k : Nat} (hx : Wd xs) (hy : Wd ys) (h : ∀ j, k + 1 ≤ j → xs[j]?.getD 0 = ys[j]?.getD 0) (hlt : ys[k]?.getD 0 < xs[k]?.getD 0) : cmpI (val xs) (val ys) = 1 := cmpI_gt (val_lt_of hy hx k hlt (fun j hj => (h j hj).symm))

set_option maxHeartbeats 1600000 in
set_option maxRecDepth 100000 in
theorem rcompare_any (a : Option Addr) (n cap : Nat) (xs : List Int) (b : Option Addr) (cap' : Nat) (ys : List Int) (w : World) (h : Reads w w.heap.size a n cap xs) (g : Reads w w.heap.size b n cap' ys) (hn : n ≤ 1048576) :
    Calls Tryz.prog 74 #[.slice a n cap, .slice b n cap'] w fun e w' => e = .returned (.int .i64 (cmpI (val xs) (val ys))) ∧ Below w.heap.size w w' := by
  have HCX := hid h.cells
  have HCY := hid g.cells
  have HW := hid (And.intro h.2.1 g.2.1)
  have HZ : Hid (∀ j, n ≤ j → xs[j]?.getD 0 = ys[j]?.getD 0) := fun j hj => by
    have e1 := h.1
    have e2 := g.1
    rw [List.getElem?_eq_none (by omega), List.getElem?_eq_none (by omega)]
  have hp := h.2.2.2.1
  have hp' := g.2.2.2.1
  obtain ⟨cc, hcc⟩ : ∃ cc, cmpI (val xs) (val ys) = cc := ⟨_, rfl⟩
  have HCC := hid hcc
  rw [hcc]
  clear h g hcc
  go_enter Tryz.func74, Tryz.ntmps74
  go_wp2_with fail
  go_loopw [5] (fun z wr => ∃ k : Nat, k ≤ n ∧ z = .int .i64 ((k : Int) - 1) ∧ Hid (∀ j, k ≤ j → xs[j]?.getD 0 = ys[j]?.getD 0) ∧ Below w.heap.size w wr) (fun z _ => (intOf z + 1).toNat)
  case atStart => exact ⟨n, Nat.le_refl _, rfl, fun j hj => HZ.out j hj, Below.refl _ _⟩
  case round =>
    obtain ⟨k, hk, rfl, HE, hb⟩ := hrel
    rcases k with _ | k
    · have HV : Hid (cc = 0) := by
        show _ = _
        rw [← HCC.out]
        exact cmpI_eq (val_eq_of (fun j => HE.out j (Nat.zero_le _)))
      clear HE
      go_wp2_with fail
      go_ret
      exact ⟨ret_int HV.out.symm, hb⟩
    · have ek : (((k + 1 : Nat) : Int) - 1) = (k : Int) := by omega
      rw [ek]
      clear ek
      obtain ⟨g1, o1, rfl, l1, c1⟩ := HCX.out k (by omega)
      obtain ⟨g2, o2, rfl, l2, c2⟩ := HCY.out k (by omega)
      have x1 : wr.cell? ⟨g1, o1 + k, none⟩ = some (.int .u32 (xs[k]?.getD 0)) := (hb.cell (p := ⟨g1, o1 + k, none⟩) l1).trans c1
      have y1 : wr.cell? ⟨g2, o2 + k, none⟩ = some (.int .u32 (ys[k]?.getD 0)) := (hb.cell (p := ⟨g2, o2 + k, none⟩) l2).trans c2
      have HNO := hid (fun h => cmp_no HW.out.1 HW.out.2 HE.out h)
      have HYES := hid (fun h => cmp_yes HW.out.1 HW.out.2 HE.out h)
      have HEQ : Hid (xs[k]?.getD 0 = ys[k]?.getD 0 → ∀ j, k ≤ j → xs[j]?.getD 0 = ys[j]?.getD 0) := fun h j hj => by
        rcases Nat.lt_or_eq_of_le hj with g | g
        · exact HE.out j g
        · subst g; exact h
      have HB := hid hb
      generalize xs[k]?.getD 0 = x at *
      generalize ys[k]?.getD 0 = y at *
      clear c1 c2 HE hb HZ
      by_cases hlt : x < y
      · have HV := hid (HNO.out hlt)
        rw [HCC.out] at HV
        go_wp2_with fail
        go_quiet (fail)
        go_wp2_with fail
        go_ret
        exact ⟨ret_int HV.out.symm, bdn HB.out _⟩
      · by_cases hgt : y < x
        · have HV := hid (HYES.out hgt)
          rw [HCC.out] at HV
          go_wp2_with fail
          go_quiet (fail)
          go_wp2_with fail
          go_quiet (fail)
          go_wp2_with fail
          go_ret
          exact ⟨ret_int HV.out.symm, bdn (bdn HB.out _) _⟩
        · have HE' := hid (HEQ.out (by omega))
          go_wp2_with fail
          go_quiet (fail)
          go_wp2_with fail
          go_quiet (fail)
          go_wp2_with fail
          go_roundw
          case rel => exact ⟨k, by omega, rfl, HE', bdn HB.out _⟩
          case measure => simp [intOf]

end Go.Proofs.YtabkgpnckaaclaaGreatDoor

/- bits.Sub32, real.takeOff. -/
namespace Go.Proofs.YtabkgpnckaaclaaGreatDoor
open Go.RowKit
set_option linter.unusedVariables false

theorem top_bit {a : Nat} (h : a < 4294967296) : a / 2147483648 = (a.testBit 31).toNat := by
  rw [Nat.testBit_eq_decide_div_mod_eq]
  show a / 2147483648 = (decide (a / 2147483648 % 2 = 1)).toNat
  by_cases c : a / 2147483648 % 2 = 1
  · rw [decide_eq_true c]; show _ = 1; omega
  · rw [decide_eq_false c]; show _ = 0; omega
theorem bit_top {a : Nat} (h : a < 4294967296) : a.testBit 31 = decide (2147483648 ≤ a) := by
  rw [Nat.testBit_eq_decide_div_mod_eq]
  show decide (a / 2147483648 % 2 = 1) = _
  by_cases c : 2147483648 ≤ a
  · rw [decide_eq_true c, decide_eq_true (by omega)]
  · rw [decide_eq_false c, decide_eq_false (by omega)]

/-- What Sub32's last line tells. -/
theorem borrow_bit (x y d b : Nat) (hx : x < 4294967296) (hy : y < 4294967296) (hb : b ≤ 1) (hd : d = (x + 4294967296 + 4294967296 - y - b) % 4294967296) :
    (((4294967295 ^^^ x) &&& y) ||| ((4294967295 ^^^ (x ^^^ y)) &&& d)) / 2147483648 = (if x < y + b then 1 else 0) := by
  have d1 : d < 4294967296 := by omega
  have n1 : ∀ a : Nat, a < 4294967296 → 4294967295 ^^^ a < 4294967296 := fun a ha => Nat.xor_lt_two_pow (n := 32) (by omega) ha
  have x1 : x ^^^ y < 4294967296 := Nat.xor_lt_two_pow (n := 32) hx hy
  have a1 : ((4294967295 ^^^ x) &&& y) < 4294967296 := Nat.and_lt_two_pow (n := 32) _ hy
  have a2 : ((4294967295 ^^^ (x ^^^ y)) &&& d) < 4294967296 := Nat.and_lt_two_pow (n := 32) _ d1
  rw [top_bit (Nat.or_lt_two_pow (n := 32) a1 a2), Nat.testBit_or, Nat.testBit_and, Nat.testBit_and, Nat.testBit_xor, Nat.testBit_xor, Nat.testBit_xor, bit_top hx, bit_top hy, bit_top d1, show Nat.testBit 4294967295 31 = true from by decide]
  by_cases cx : 2147483648 ≤ x
  · rw [decide_eq_true cx]
    by_cases cy : 2147483648 ≤ y
    · rw [decide_eq_true cy]
      by_cases cd : 2147483648 ≤ d
      · rw [decide_eq_true cd, if_pos (by omega)]; rfl
      · rw [decide_eq_false cd, if_neg (by omega)]; rfl
    · rw [decide_eq_false cy, if_neg (by omega)]
      cases decide (2147483648 ≤ d) <;> rfl
  · rw [decide_eq_false cx]
    by_cases cy : 2147483648 ≤ y
    · rw [decide_eq_true cy, if_pos (by omega)]
      cases decide (2147483648 ≤ d) <;> rfl
    · rw [decide_eq_false cy]
      by_cases cd : 2147483648 ≤ d
      · rw [decide_eq_true cd, if_pos (by omega)]; rfl
      · rw [decide_eq_false cd, if_neg (by omega)]; rfl

theorem sub32_out (x y b : Int) (x0 : 0 ≤ x) (x1 : x ≤ 4294967295) (y0 : 0 ≤ y) (y1 : y ≤ 4294967295) (b0 : 0 ≤ b) (b1 : b ≤ 1) :
    bits BinOp.or IntKind.u32 (bits BinOp.and IntKind.u32 (bits BinOp.xor IntKind.u32 IntKind.u32.max x) y) (bits BinOp.and IntKind.u32 (bits BinOp.xor IntKind.u32 IntKind.u32.max (bits BinOp.xor IntKind.u32 x y)) ((x - y - b) % 4294967296)) / 2147483648 = (if x < y + b then 1 else 0) := by
  obtain ⟨X, rfl⟩ := Int.eq_ofNat_of_zero_le x0
  obtain ⟨Y, rfl⟩ := Int.eq_ofNat_of_zero_le y0
  obtain ⟨B, rfl⟩ := Int.eq_ofNat_of_zero_le b0
  have em : IntKind.u32.max = ((4294967295 : Nat) : Int) := by decide
  have ed : ((X : Int) - (Y : Int) - (B : Int)) % 4294967296 = (((X + 4294967296 + 4294967296 - Y - B) % 4294967296 : Nat) : Int) := by omega
  have hx : X < 4294967296 := by omega
  have hy : Y < 4294967296 := by omega
  have k := borrow_bit X Y _ B hx hy (by omega) rfl
  have hd : (X + 4294967296 + 4294967296 - Y - B) % 4294967296 < 4294967296 := Nat.mod_lt _ (by decide)
  rw [em, ed]
  generalize (X + 4294967296 + 4294967296 - Y - B) % 4294967296 = D at *
  have q1 : 4294967295 ^^^ X < 4294967296 := Nat.xor_lt_two_pow (n := 32) (by omega) hx
  have q2 : X ^^^ Y < 4294967296 := Nat.xor_lt_two_pow (n := 32) hx hy
  have q3 : 4294967295 ^^^ (X ^^^ Y) < 4294967296 := Nat.xor_lt_two_pow (n := 32) (by omega) q2
  have q4 : (4294967295 ^^^ X) &&& Y < 4294967296 := Nat.and_lt_two_pow (n := 32) _ hy
  have q5 : (4294967295 ^^^ (X ^^^ Y)) &&& D < 4294967296 := Nat.and_lt_two_pow (n := 32) _ hd
  rw [u32_xor_nat 4294967295 X (by omega) hx, u32_and_nat _ Y q1 hy, u32_xor_nat X Y hx hy, u32_xor_nat 4294967295 _ (by omega) q2, u32_and_nat _ D q3 hd, u32_or_nat _ _ q4 q5]
  generalize ((4294967295 ^^^ X) &&& Y) ||| ((4294967295 ^^^ (X ^^^ Y)) &&& D) = R at *
  by_cases c : X < Y + B
  · rw [if_pos c] at k
    rw [if_pos (by omega)]
    omega
  · rw [if_neg c] at k
    rw [if_neg (by omega)]
    omega

set_option maxHeartbeats 800000 in
set_option maxRecDepth 100000 in
theorem sub32_any (x y b : Int) (w : World) (x0 : 0 ≤ x) (x1 : x ≤ 4294967295) (y0 : 0 ≤ y) (y1 : y ≤ 4294967295) (b0 : 0 ≤ b) (b1 : b ≤ 1) :
    Calls Tryz.prog 128 #[.int .u32 x, .int .u32 y, .int .u32 b] w fun e w' => e = .returned (.tuple #[.int .u32 ((x - y - b) % 4294967296), .int .u32 (if x < y + b then 1 else 0)]) ∧ w' = w := by
  have HO := hid (sub32_out x y b x0 x1 y0 y1 b0 b1)
  obtain ⟨o, ho⟩ : ∃ o : Int, (if x < y + b then 1 else 0) = o := ⟨_, rfl⟩
  rw [ho] at HO ⊢
  clear ho
  go_enter Tryz.func128, Tryz.ntmps128
  go_wp2_with fail
  all_goals
    go_returns
    exact ⟨congrArg (fun z => Ending.returned (.tuple #[.int .u32 ((x - y - b) % 4294967296), .int .u32 z])) HO.out, rfl⟩

theorem grown_drew {w W V : World} {r : Option Nat} (h : w.grownBy W r) (ho : V.os = W.os := by rfl) (ht : V.tape = W.tape := by rfl) (hp : V.output = W.output := by rfl) (hh : V.heap = W.heap := by rfl) : w.grownBy V r :=
  ⟨ho.trans h.os, ht.trans h.tape, hp.trans h.output, by rw [hh]; exact h.size, fun k hk hn => by rw [hh]; exact h.block k hk hn⟩
theorem grown_cell {w W : World} {g b j : Nat} (h : w.grownBy W (some g)) (hb : b < w.heap.size) (hne : b ≠ g) : W.cell? ⟨b, j, none⟩ = w.cell? ⟨b, j, none⟩ := by
  unfold World.cell?
  rw [h.block b hb (fun e => hne (Option.some.inj e))]
/-- One word taken off. -/
theorem off_step (xs ys us : List Int) (k : Nat) (c x y d o : Int) (hk : k < us.length) (hx : xs[k]?.getD 0 = x) (hy : ys[k]?.getD 0 = y) (hd : x - y - c = d - o * 4294967296) (h : valTo us k + valTo ys k = valTo xs k + c * 4294967296 ^ k) :
    valTo (us.set k d) (k + 1) + valTo ys (k + 1) = valTo xs (k + 1) + o * 4294967296 ^ (k + 1) := by
  rw [valTo_set us k _ hk, valTo_succ, valTo_succ, hx, hy, pw_succ]
  generalize (4294967296 : Int) ^ k = P at *
  have e : (x - y - c) * P = (d - o * 4294967296) * P := by rw [hd]
  rw [Int.sub_mul, Int.sub_mul, Int.sub_mul, Int.mul_assoc o, Int.mul_comm 4294967296 P] at e
  omega

set_option maxHeartbeats 1600000 in
set_option maxRecDepth 100000 in
theorem takeOff_any (base g n cap : Nat) (xs : List Int) (b : Option Addr) (cap' : Nat) (ys : List Int) (w : World) (ho : OwnC w base g n cap xs) (hwx : Wd xs) (hy : Reads w w.heap.size b n cap' ys) (hne : ∀ a, b = some a → a.block ≠ g) (hn : n ≤ 1048576) :
    Calls Tryz.prog 104 #[.slice (some ⟨g, 0, none⟩) n cap, .slice b n cap'] w fun e w' => ∃ (zs : List Int) (c : Int), e = .returned (.tuple #[]) ∧ OwnC w' base g n cap zs ∧ Wd zs ∧ val zs + val ys = val xs + c * 4294967296 ^ n ∧ 0 ≤ c ∧ c ≤ 1 ∧ w.grownBy w' (some g) := by
  have hcap := ho.cap
  have HLN := hid ho.len
  have HCY := hid hy.cells
  have HWY := hid hy.2.1
  have HLY := hid hy.1
  have hp := hy.2.2.2.1
  clear hy
  go_enter Tryz.func104, Tryz.ntmps104
  go_wp2_with fail
  go_loopw [4, 8] (fun cv z wr => ∃ (k : Nat) (c : Int) (us : List Int), k ≤ n ∧ z = .int .i64 k ∧ cv = .int .u32 c ∧ 0 ≤ c ∧ c ≤ 1 ∧ Wd us ∧ Hid (valTo us k + valTo ys k = valTo xs k + c * 4294967296 ^ k) ∧ Hid (∀ j, k ≤ j → us[j]?.getD 0 = xs[j]?.getD 0) ∧ OwnC wr base g n cap us ∧ w.grownBy wr (some g)) (fun _ z _ => n - (intOf z).toNat)
  case atStart => exact ⟨0, 0, xs, by omega, rfl, rfl, by omega, by omega, hwx, show _ = _ by simp [valTo], fun _ _ => rfl, ho, World.grownBy.refl _ _⟩
  case round =>
    obtain ⟨k, c, us, hk, rfl, rfl, c0, c1, hwu, HV, HK, hou, hg⟩ := hrel
    by_cases hlt : k < n
    · obtain ⟨b1, o1, rfl, l1, cy⟩ := HCY.out k hlt
      have hb1 : b1 ≠ g := hne _ rfl
      have y2 : wr.cell? ⟨b1, o1 + k, none⟩ = some (.int .u32 (ys[k]?.getD 0)) := (grown_cell hg l1 hb1).trans cy
      have y1 := hou.cell k hlt
      have f1 := hou.free k
      have bu := hwu.at k
      have by' := HWY.out.at k
      have hlu := hou.len
      have hxu : xs[k]?.getD 0 = us[k]?.getD 0 := (HK.out k (Nat.le_refl _)).symm
      have HST := hid (fun d o hd => off_step xs ys us k c _ _ d o (by omega) hxu rfl hd HV.out)
      have HKN : Hid (∀ d j, k + 1 ≤ j → (us.set k d)[j]?.getD 0 = xs[j]?.getD 0) := fun d j hj => by
        rw [List.getElem?_set, if_neg (by omega)]; exact HK.out j (by omega)
      have HOU := hid (fun d => hou.set k d)
      have HGR := hid hg
      have HWU := hid hwu
      generalize us[k]?.getD 0 = x at *
      generalize ys[k]?.getD 0 = y at *
      obtain ⟨o, hoo⟩ : ∃ o : Int, (if x < y + c then 1 else 0) = o := ⟨_, rfl⟩
      obtain ⟨d, hdd⟩ : ∃ d : Int, (x - y - c) % 4294967296 = d := ⟨_, rfl⟩
      have HS := hid (fun V => sub32_any x y c V bu.1 bu.2 by'.1 by'.2 c0 c1)
      rw [hoo, hdd] at HS
      have HDO : Hid (x - y - c = d - o * 4294967296 ∧ 0 ≤ o ∧ o ≤ 1 ∧ 0 ≤ d ∧ d ≤ 4294967295) := by
        by_cases cc : x < y + c
        · rw [if_pos cc] at hoo; refine ⟨?_, ?_, ?_, ?_, ?_⟩ <;> omega
        · rw [if_neg cc] at hoo; refine ⟨?_, ?_, ?_, ?_, ?_⟩ <;> omega
      clear hlu hou hg HV HK hxu hwu cy hoo hdd
      go_wp2_with fail
      go_region_with (go_at_call 128; with_reducible refine Calls.mono (HS.out _) ?_; rintro e w5 ⟨rfl, rfl⟩)
      all_goals
        go_wp2_with fail
        go_roundw
        case rel => exact ⟨k + 1, o, us.set k d, by omega, by go_num, rfl, HDO.out.2.1, HDO.out.2.2.1, HWU.out.set k ⟨HDO.out.2.2.2.1, HDO.out.2.2.2.2⟩, HST.out d o HDO.out.1, HKN.out d, (HOU.out d).1, grown_drew (grown_trans HGR.out (HOU.out d).2)⟩
        case measure => simp [intOf]; omega
    · have hkn : k = n := by omega
      subst hkn
      have HF : Hid (val us + val ys = val xs + c * 4294967296 ^ k) := by
        show _ = _
        have e := HV.out
        rw [valTo_stable us k (by have := hou.len; omega), valTo_stable ys k (by have := HLY.out; omega), valTo_stable xs k (by have := HLN.out; omega)] at e
        exact e
      clear HV
      go_wp2_with fail
      go_end0
      exact ⟨us, c, rfl, hou, hwu, HF.out, c0, c1, hg⟩

end Go.Proofs.YtabkgpnckaaclaaGreatDoor

/- Boxes of fractions, rows of the call's own and one box of a flag, in a bundle that is moved along. -/
namespace Go.Proofs.YtabkgpnckaaclaaGreatDoor
open Go.RowKit
set_option linter.unusedVariables false

theorem Box.same {w : World} {b t : Nat} {vs : Array Value} (h : Box w b t vs) {j : Nat} {v : Value} (hv : vs[j]? = some v) : w.setCell ⟨b, j, none⟩ v = w := by
  have e : (w.setCell ⟨b, j, none⟩ v).heap = w.heap := by
    have h' : w.heap[b]? = some (.cells vs t (0, 0)) := h
    have hs : vs.setIfInBounds j v = vs := by
      apply Array.ext_getElem?
      intro k
      rw [Array.getElem?_setIfInBounds]
      by_cases c : j = k
      · subst c
        obtain ⟨hk, _⟩ := Array.getElem?_eq_some_iff.1 hv
        rw [if_pos rfl, if_pos hk, hv]
      · rw [if_neg c]
    unfold World.setCell
    apply Array.ext_getElem?
    intro k
    simp only [Array.getElem?_modify]
    by_cases c : b = k
    · subst c
      rw [if_pos rfl, h']
      simp [hs]
    · rw [if_neg c]
  cases w
  simp only [World.setCell] at e ⊢
  rw [e]
theorem own_put1 {w : World} {base e n : Nat} {v : Value} {xs : List Value} (h : w.ownsRow base e 1 v n xs) (b : Nat) (hb : ∀ g, v.ownBlock = some g → g ≠ b) (j : Nat) (v0 : Value) : (w.setCell ⟨b, j, none⟩ v0).ownsRow base e 1 v n xs := by
  have hne : v.ownBlock = none ∨ v.ownBlock ≠ some b := by
    cases hv : v.ownBlock with
    | none => exact .inl rfl
    | some g => right; intro e; exact hb g hv (Option.some.inj e)
  exact World.ownsRow.kept h (grown_set w ⟨b, j, none⟩ v0) hne
/-- Boxes that hold fractions. -/
def Bxs3 (W : World) (l : List (Nat × Array Value)) : Prop := ∀ p ∈ l, Box W p.1 25 p.2
def Rws (W : World) (l : List (Nat × Value × List Int)) : Prop := ∀ p ∈ l, W.ownsRow p.1 88 1 p.2.1 p.2.2.length (p.2.2.map (Value.int .u32))
/-- What is known of a world: boxes of fractions, rows of the call's own, what was there. -/
structure St (w W : World) (l : List (Nat × Array Value)) (r : List (Nat × Value × List Int)) : Prop where
  box : Bxs3 W l
  row : Rws W r
  bel : Below w.heap.size w W
theorem St.later {w W W' : World} {l : List (Nat × Array Value)} {r : List (Nat × Value × List Int)} (h : St w W l r) (hb : Below W.heap.size W W') : St w W' l r :=
  ⟨fun p hp => (h.box p hp).later hb (h.box p hp).lt, fun p hp => owns_later (h.row p hp) hb, bt h.bel hb⟩
theorem St.more {w W : World} {l : List (Nat × Array Value)} {r : List (Nat × Value × List Int)} (h : St w W l r) {base : Nat} {v : Value} {zs : List Int} (o : W.ownsRow base 88 1 v zs.length (zs.map (Value.int .u32))) : St w W l ((base, v, zs) :: r) :=
  ⟨h.box, fun p hp => by
    cases hp with
    | head => exact o
    | tail _ hp => exact h.row p hp, h.bel⟩
theorem St.put {w W : World} {l : List (Nat × Array Value)} {r : List (Nat × Value × List Int)} (h : St w W l r) (n : Bool) (v u : Value) : St w (W.alloc (.cells #[.bool n, v, u] 25)) ((W.heap.size, #[.bool n, v, u]) :: l) r :=
  ⟨fun p hp => by
    cases hp with
    | head => exact Box.made W _ _
    | tail _ hp => exact (h.box p hp).later (alloc_later _ _) (h.box p hp).lt, (h.later (alloc_later _ _)).row, (h.later (alloc_later _ _)).bel⟩
theorem St.get {w W : World} {l : List (Nat × Array Value)} {r : List (Nat × Value × List Int)} (h : St w W l r) {g : Nat} {n : Bool} {v u : Value} (hm : (g, #[.bool n, v, u]) ∈ l) : W.cell? ⟨g, 0, none⟩ = some (.bool n) ∧ W.cell? ⟨g, 1, none⟩ = some v ∧ W.cell? ⟨g, 2, none⟩ = some u := ⟨(h.box _ hm).cell 0, (h.box _ hm).cell 1, (h.box _ hm).cell 2⟩
theorem St.free {w W : World} {l : List (Nat × Array Value)} {r : List (Nat × Value × List Int)} (h : St w W l r) {g : Nat} {n : Bool} {v u : Value} (hm : (g, #[.bool n, v, u]) ∈ l) : W.frozen? ⟨g, 0, none⟩ = false ∧ W.frozen? ⟨g, 1, none⟩ = false ∧ W.frozen? ⟨g, 2, none⟩ = false := ⟨(h.box _ hm).free 0, (h.box _ hm).free 1, (h.box _ hm).free 2⟩
theorem St.same {w W : World} {l : List (Nat × Array Value)} {r : List (Nat × Value × List Int)} (h : St w W l r) {g : Nat} {n : Bool} {v u : Value} (hm : (g, #[.bool n, v, u]) ∈ l) : W.setCell ⟨g, 0, none⟩ (.bool n) = W ∧ W.setCell ⟨g, 1, none⟩ v = W ∧ W.setCell ⟨g, 2, none⟩ u = W := ⟨(h.box _ hm).same rfl, (h.box _ hm).same rfl, (h.box _ hm).same rfl⟩
theorem St.sl {w W : World} {l : List (Nat × Array Value)} {r : List (Nat × Value × List Int)} (h : St w W l r) {base : Nat} {v : Value} {zs : List Int} (wd : Wd zs) (hm : (base, v, zs) ∈ r) : Sl W v zs := Sl.own (h.row _ hm) wd
/-- A store into a box of another type. -/
theorem St.flag {w W : World} {l : List (Nat × Array Value)} {r : List (Nat × Value × List Int)} (h : St w W l r) {g t : Nat} {vs : Array Value} (b : Box W g t vs) (hg : w.heap.size ≤ g) (h1 : t ≠ 25) (h2 : t ≠ 88) (j : Nat) (v : Value) : St w (W.setCell ⟨g, j, none⟩ v) l r := by
  refine ⟨fun p hp => (h.box p hp).other _ _ (fun e => ?_), fun p hp => own_put1 (h.row p hp) g (own_ne_box (h.row p hp) b (Ne.symm h2)) _ _, h.bel.setCell (p := ⟨g, j, none⟩) hg _⟩
  · have e1 := h.box p hp
    rw [e] at e1
    have e2 : some (Obj.cells p.2 25 (0, 0)) = some (.cells vs t (0, 0)) := e1.symm.trans b
    injection e2 with e3
    injection e3 with _ e4 _
    exact h1 e4.symm
end Go.Proofs.YtabkgpnckaaclaaGreatDoor

/- (*real.division).take: the quotient's bits, one by one. -/
namespace Go.Proofs.YtabkgpnckaaclaaGreatDoor
open Go.RowKit
set_option linter.unusedVariables false

theorem Box.keptBy {W W' : World} {g b t : Nat} {vs : Array Value} (h : Box W b t vs) (hg : W.grownBy W' (some g)) (hne : b ≠ g) : Box W' b t vs := (hg.block b h.lt (fun e => hne (Option.some.inj e))).trans h
theorem OwnC.keptBy {W W' : World} {base g g' n cap : Nat} {ys : List Int} (h : OwnC W base g n cap ys) (hg : W.grownBy W' (some g')) (hne : g ≠ g') : OwnC W' base g n cap ys := World.ownsRow.kept h hg (.inr (fun e => hne (Option.some.inj e)))
theorem OwnC.laterB {W W' : World} {base g n cap : Nat} {ys : List Int} (h : OwnC W base g n cap ys) (hb : Below W.heap.size W W') : OwnC W' base g n cap ys := owns_later h hb
theorem readsC {W : World} {b g n cap : Nat} {ys : List Int} (h : OwnC W b g n cap ys) (hw : Wd ys) : Reads W W.heap.size (some ⟨g, 0, none⟩) n cap ys := by
  obtain ⟨a, cap, hv, hr⟩ := Reads.own h hw
  cases hv
  exact hr
theorem box_two {W : World} {b t : Nat} {v0 v1 v2 : Value} (h : Box W b t #[v0, v1, v2]) : W.cell? ⟨b, 0, none⟩ = some v0 ∧ W.cell? ⟨b, 1, none⟩ = some v1 := ⟨h.cell 0, h.cell 1⟩
/-- What is doubled has the room. -/
theorem dbl_room {zs ys : List Int} {c : Int} {n : Nat} (hz : Wd zs) (hl : zs.length = n) (c0 : 0 ≤ c) (h : val zs + c * 4294967296 ^ n = 2 * val ys) (hr : 2 * val ys < 4294967296 ^ n) : val zs = 2 * val ys := by
  have z0 := val_nonneg hz
  have p := pw_pos n
  by_cases hc : c = 0
  · rw [hc, Int.zero_mul] at h; omega
  · exfalso
    have : 1 * (4294967296 : Int) ^ n ≤ c * 4294967296 ^ n := Int.mul_le_mul_of_nonneg_right (by omega) (Int.le_of_lt p)
    omega
theorem off_room {zs ys xs : List Int} {c : Int} {n : Nat} (hz : Wd zs) (hl : zs.length = n) (c0 : 0 ≤ c) (h : val zs + val ys = val xs + c * 4294967296 ^ n) (hr : val ys ≤ val xs) : val zs = val xs - val ys := by
  have z1 := val_lt hz
  rw [hl] at z1
  have p := pw_pos n
  by_cases hc : c = 0
  · rw [hc, Int.zero_mul] at h; omega
  · exfalso
    have : 1 * (4294967296 : Int) ^ n ≤ c * 4294967296 ^ n := Int.mul_le_mul_of_nonneg_right (by omega) (Int.le_of_lt p)
    omega
/-- One bit more. -/
theorem bit_step {r0 q r b B : Int} {k : Nat} (h : r0 * 2 ^ k = q * (2 * B) + r) (b' r' : Int) (hr : r = b * B + b') (hr' : r' = 2 * b') : r0 * 2 ^ (k + 1) = (q * 2 + b) * (2 * B) + r' := by
  rw [Int.pow_succ, ← Int.mul_assoc, h, hr, hr']
  grind

/-- What is known of a world on the way: both rows, the division's memory, what was there. -/
def TK (w : World) (base base' g1 g2 n cap1 cap2 pd : Nat) (pw : Int) (Rk B : List Int) (V : World) : Prop :=
  OwnC V base g1 n cap1 Rk ∧ OwnC V base' g2 n cap2 B ∧ Box V pd 96 #[.slice (some ⟨g1, 0, none⟩) n cap1, .slice (some ⟨g2, 0, none⟩) n cap2, .int .i64 pw] ∧ w.grownBy V (some g1)
theorem TK.later {w : World} {base base' g1 g2 n cap1 cap2 pd : Nat} {pw : Int} {Rk B : List Int} {V V' : World} (h : TK w base base' g1 g2 n cap1 cap2 pd pw Rk B V) (hb : Below V.heap.size V V') : TK w base base' g1 g2 n cap1 cap2 pd pw Rk B V' :=
  ⟨h.1.laterB hb, h.2.1.laterB hb, h.2.2.1.later hb h.2.2.1.lt, grown_trans h.2.2.2 (grown_of_below hb _)⟩
theorem TK.turn {w : World} {base base' g1 g2 n cap1 cap2 pd : Nat} {pw : Int} {Rk B zs : List Int} {V V' : World} (h : TK w base base' g1 g2 n cap1 cap2 pd pw Rk B V) (hz : OwnC V' base g1 n cap1 zs) (hg : V.grownBy V' (some g1)) (h1 : g2 ≠ g1) (h2 : pd ≠ g1) : TK w base base' g1 g2 n cap1 cap2 pd pw zs B V' :=
  ⟨hz, h.2.1.keptBy hg h1, h.2.2.1.keptBy hg h2, grown_trans h.2.2.2 hg⟩

set_option maxHeartbeats 1600000 in
set_option maxRecDepth 100000 in
theorem take_any (base base' pd g1 g2 n cap1 cap2 c : Nat) (pw : Int) (R B : List Int) (w : World) (hbx : Box w pd 96 #[.slice (some ⟨g1, 0, none⟩) n cap1, .slice (some ⟨g2, 0, none⟩) n cap2, .int .i64 pw])
    (h1 : OwnC w base g1 n cap1 R) (h2 : OwnC w base' g2 n cap2 B) (w1 : Wd R) (w2 : Wd B) (hne : g1 ≠ g2) (hn : n ≤ 1048576) (hc : c ≤ 60) (hR : val R < 2 * val B) (hB : 2 * val B < 4294967296 ^ n) :
    Calls Tryz.prog 73 #[.pointer (some ⟨pd, 0, none⟩), .int .i64 c] w fun e w' => ∃ (q : Int) (R' : List Int), e = .returned (.int .u64 q) ∧ 0 ≤ q ∧ OwnC w' base g1 n cap1 R' ∧ Wd R' ∧ val R * 2 ^ c = q * (2 * val B) + val R' ∧ val R' < 2 * val B ∧ w.grownBy w' (some g1) := by
  have hpd : g1 ≠ pd := own_ne_box h1 hbx (by decide) g1 rfl
  have hpd2 : g2 ≠ pd := own_ne_box h2 hbx (by decide) g2 rfl
  have HW2 := hid w2
  have HRB := hid (And.intro hR hB)
  have HL := hid h1.len
  have b0 := val_nonneg w2
  have hcm : (2 : Int) ^ c ≤ 2 ^ 60 := two_le hc
  have HCM := hid hcm
  clear hcm
  go_enter Tryz.func73, Tryz.ntmps73
  go_wp2_with fail
  go_loopw [4, 6] (fun qv z wr => ∃ (k : Nat) (q : Int) (Rk : List Int), k ≤ c ∧ z = .int .i64 k ∧ qv = .int .u64 q ∧ 0 ≤ q ∧ Wd Rk ∧ Hid (val R * 2 ^ k = q * (2 * val B) + val Rk) ∧ Hid (val Rk < 2 * val B) ∧ Hid (q < 2 ^ k) ∧ Hid (TK w base base' g1 g2 n cap1 cap2 pd pw Rk B wr)) (fun _ z _ => c - (intOf z).toNat)
  case atStart => exact ⟨0, 0, R, by omega, rfl, rfl, by omega, w1, show _ = _ by simp, hR, show _ < _ by simp, h1, h2, hbx, World.grownBy.refl _ _⟩
  case round =>
    obtain ⟨k, q, Rk, hk, rfl, rfl, q0, hwr, HV, HL2, HQ, HS⟩ := hrel
    by_cases hlt : k < c
    · have HWR := hid hwr
      have hq60 : q < 1152921504606846976 := by
        have e1 := HQ.out
        have e2 : (2 : Int) ^ k ≤ 2 ^ 60 := two_le (by omega)
        have e3 : (2 : Int) ^ 60 = 1152921504606846976 := by decide
        omega
      have HQ2 : Hid (q * 2 < 2 ^ (k + 1) ∧ q * 2 + 1 < 2 ^ (k + 1)) := by
        have e1 := HQ.out
        rw [Int.pow_succ]
        constructor <;> omega
      have HBX : Hid (∀ Rj V, TK w base base' g1 g2 n cap1 cap2 pd pw Rj B V → V.cell? ⟨pd, 0, none⟩ = some (.slice (some ⟨g1, 0, none⟩) n cap1) ∧ V.cell? ⟨pd, 1, none⟩ = some (.slice (some ⟨g2, 0, none⟩) n cap2)) := fun Rj V hv => box_two hv.2.2.1
      have hs0 := HBX.out _ _ (HS.out.later (Below.drew (Below.refl _ wr)))
      have HBR := hid (Below.drew (Below.refl wr.heap.size wr))
      obtain ⟨cc, hcc⟩ : ∃ cc, cmpI (val Rk) (val B) = cc := ⟨_, rfl⟩
      have H1 : Hid (∀ ww, Below wr.heap.size wr ww → Calls Tryz.prog 74 #[.slice (some ⟨g1, 0, none⟩) n cap1, .slice (some ⟨g2, 0, none⟩) n cap2] ww fun e w' => e = .returned (.int .i64 cc) ∧ (w'.cell? ⟨pd, 0, none⟩ = some (.slice (some ⟨g1, 0, none⟩) n cap1) ∧ w'.cell? ⟨pd, 1, none⟩ = some (.slice (some ⟨g2, 0, none⟩) n cap2)) ∧ Hid (TK w base base' g1 g2 n cap1 cap2 pd pw Rk B w')) := fun ww hv => by
        refine Calls.mono (rcompare_any _ n _ Rk _ _ B ww (readsC (HS.out.1.laterB hv) HWR.out) (readsC (HS.out.2.1.laterB hv) HW2.out) (by omega)) ?_
        rintro e w' ⟨rfl, h⟩
        exact ⟨by rw [hcc], HBX.out _ _ (HS.out.later (bt hv h)), HS.out.later (bt hv h)⟩
      have HD : Hid (∀ Rj V, TK w base base' g1 g2 n cap1 cap2 pd pw Rj B V → Wd Rj → val Rj < val B → Calls Tryz.prog 103 #[.slice (some ⟨g1, 0, none⟩) n cap1] V fun e w' => ∃ zs : List Int, e = .returned (.tuple #[]) ∧ Hid (TK w base base' g1 g2 n cap1 cap2 pd pw zs B w' ∧ val zs = 2 * val Rj) ∧ Wd zs) := fun Rj V hv hw hj => by
        refine Calls.mono (rdouble_any base g1 n cap1 Rj V hv.1 hw (by omega)) ?_
        rintro e w' ⟨zs, c, rfl, z1, z2, z3, z4, z5, z6⟩
        have e1 := HRB.out.2
        exact ⟨zs, rfl, ⟨hv.turn z1 z6 (Ne.symm hne) (Ne.symm hpd), dbl_room z2 z1.len z4 z3 (by omega)⟩, z2⟩
      have HCC := hid hcc
      have HST := hid (fun b b' r' => bit_step (b := b) HV.out b' r')
      clear hcc hwr HV HQ
      by_cases hge : val B ≤ val Rk
      · have hc1 : 0 ≤ cc := by have e := HCC.out; unfold cmpI at e; rw [if_neg (by omega)] at e; split at e <;> omega
        have HGE := hid hge
        have HT : Hid (∀ V, TK w base base' g1 g2 n cap1 cap2 pd pw Rk B V → Calls Tryz.prog 104 #[.slice (some ⟨g1, 0, none⟩) n cap1, .slice (some ⟨g2, 0, none⟩) n cap2] V fun e w' => ∃ zs : List Int, e = .returned (.tuple #[]) ∧ Hid (TK w base base' g1 g2 n cap1 cap2 pd pw zs B w' ∧ val zs = val Rk - val B ∧ Wd zs) ∧ (w'.cell? ⟨pd, 0, none⟩ = some (.slice (some ⟨g1, 0, none⟩) n cap1) ∧ w'.cell? ⟨pd, 1, none⟩ = some (.slice (some ⟨g2, 0, none⟩) n cap2))) := fun V hv => by
          refine Calls.mono (takeOff_any base g1 n cap1 Rk _ cap2 B V hv.1 HWR.out (readsC hv.2.1 HW2.out) (fun a ha => by cases ha; exact Ne.symm hne) (by omega)) ?_
          rintro e w' ⟨zs, c, rfl, z1, z2, z3, z4, z5, z6⟩
          have t := hv.turn z1 z6 (Ne.symm hne) (Ne.symm hpd)
          exact ⟨zs, rfl, ⟨t, off_room z2 z1.len z4 z3 HGE.out, z2⟩, HBX.out _ _ t⟩
        clear hge
        go_wp2_with fail
        go_region_held3 (fun V : World => V.cell? ⟨pd, 0, none⟩ = some (.slice (some ⟨g1, 0, none⟩) n cap1) ∧ V.cell? ⟨pd, 1, none⟩ = some (.slice (some ⟨g2, 0, none⟩) n cap2)) (first | exact hs1 | exact hs0) (first | (go_at_call 74; with_reducible refine Calls.mono (H1.out _ HBR.out) ?_; rintro e w4 ⟨rfl, hs1, HS4⟩))
        all_goals
          have hs2 := HBX.out _ _ (HS4.out.later (Below.drew (Below.refl _ w4)))
          have HS5 := hid (HS4.out.later (Below.drew (Below.refl _ w4)))
          clear H1 hs0 hs1
          go_wp2_with fail
          go_region_held3 (fun V : World => V.cell? ⟨pd, 0, none⟩ = some (.slice (some ⟨g1, 0, none⟩) n cap1) ∧ V.cell? ⟨pd, 1, none⟩ = some (.slice (some ⟨g2, 0, none⟩) n cap2)) (first | exact hs3 | exact hs2) (first | (go_at_call 104; with_reducible refine Calls.mono (HT.out _ HS5.out) ?_; rintro e w5 ⟨zs, rfl, HS6, hs3⟩))
          all_goals
            have HD5 := hid (HD.out zs w5 HS6.out.1 HS6.out.2.2 (by have e1 := HS6.out.2.1; have e2 := HL2.out; omega))
            have r0 := hs3.1
            clear HT hs2 HD
            go_wp2_with fail
            refine Calls.mono HD5.out ?_
            rintro e w6 ⟨us, rfl, HS7, wus⟩
            clear HD5 r0 hs3
            go_wp2_with fail
            go_roundw
            case rel => exact ⟨k + 1, q * 2 + 1, us, by omega, by go_num, by go_num, by omega, wus, HST.out 1 _ _ (by rw [HS6.out.2.1]; omega) HS7.out.2, show _ < _ by have e1 := HS7.out.2; have e2 := HS6.out.2.1; have e3 := HL2.out; omega, HQ2.out.2, HS7.out.1⟩
            case measure => simp [intOf]; omega
      · have hc1 : ¬ 0 ≤ cc := by have e := HCC.out; unfold cmpI at e; rw [if_pos (by omega)] at e; omega
        have HGE := hid hge
        clear hge
        go_wp2_with fail
        go_region_held3 (fun V : World => V.cell? ⟨pd, 0, none⟩ = some (.slice (some ⟨g1, 0, none⟩) n cap1) ∧ V.cell? ⟨pd, 1, none⟩ = some (.slice (some ⟨g2, 0, none⟩) n cap2)) (first | exact hs1 | exact hs0) (first | (go_at_call 74; with_reducible refine Calls.mono (H1.out _ HBR.out) ?_; rintro e w4 ⟨rfl, hs1, HS4⟩))
        all_goals
          have HD5 := hid (HD.out Rk w4 HS4.out HWR.out (by have e1 := HGE.out; omega))
          have r0 := hs1.1
          clear H1 hs0 HD
          go_wp2_with fail
          refine Calls.mono HD5.out ?_
          rintro e w6 ⟨us, rfl, HS7, wus⟩
          clear HD5 r0 hs1
          go_wp2_with fail
          go_roundw
          case rel => exact ⟨k + 1, q * 2, us, by omega, by go_num, by go_num, by omega, wus, show _ = _ by have e := HST.out 0 _ _ (by rw [Int.zero_mul, Int.zero_add]) HS7.out.2; rw [Int.add_zero] at e; exact e, show _ < _ by have e1 := HS7.out.2; have e2 := HGE.out; omega, HQ2.out.1, HS7.out.1⟩
          case measure => simp [intOf]; omega
    · have hkn : k = c := by omega
      subst hkn
      go_wp2_with fail
      go_ret
      exact ⟨q, Rk, rfl, q0, HS.out.1, hwr, HV.out, HL2.out, HS.out.2.2.2⟩

end Go.Proofs.YtabkgpnckaaclaaGreatDoor

/- real.begin: two numbers shifted till they have as many bits as each other. -/
namespace Go.Proofs.YtabkgpnckaaclaaGreatDoor
open Go.RowKit
set_option linter.unusedVariables false

/-- append(v, 0) to a full row, as one step of a region: the same words and a nought in new memory. -/
theorem step_grow0 {ops : Array Oper} {o : Oper} {act : Act} {w : World} {K : Act → World → Prop} {Q : Exit → Act → World → Prop} {E : Prop}
    (hg : o.guard = none) (s x : Operand) (hop : o.op = Op.call { callee := Callee.builtin Builtin.append, args := #[s, x], argTypes := #[23, 23] })
    (g n : Nat) (base : Nat) (xs : List Int) (hs : act.eval s = .slice (some ⟨g, 0, none⟩) n n) (hown : OwnC w base g n n xs)
    (b : Nat) (hx : act.eval x = .slice (some ⟨b, 0, none⟩) 1 1) (hb : w.cell? ⟨b, 0, none⟩ = some (.int .u32 0)) (hn : n ≤ 1048576)
    (hK : ∀ g' c' w', OwnC w' w.heap.size g' (n + 1) c' (xs ++ [0]) → Below w.heap.size w w' → K (act.put o.dst (.slice (some ⟨g', 0, none⟩) (n + 1) c')) w') :
    if Region.wanted o (yielded ops act.tmps) = true then Oper.wp Tryz.prog o act w K Q else E := by
  obtain ⟨i0, hi, hz0, hz1, hz2⟩ := info_parts Tryz.infoW
  refine step_append_grows hg s x 23 hop 88 i0 (.int .u32 0) 1 4 Tryz.underlying23 hi hz0 hz1 hz2 rfl (by decide) (some ⟨g, 0, none⟩) n n (xs.map (Value.int .u32)) hs (by intro h; cases h) (by have := hown.len; simp [this]) ?_ ⟨b, 0, none⟩ 1 1 [.int .u32 0] hx rfl ?_ (by simp [Value.oneCell']) (by omega) (by unfold maxLen; omega) (by omega) ?_
  · intro a ha j u hu
    cases ha
    have hl := hown.len
    by_cases hj : j < n
    · have c := hown.cell j hj
      rw [List.getElem?_map] at hu
      have e : xs[j]? = some (xs[j]?.getD 0) := by rw [List.getElem?_eq_getElem (by omega)]; rfl
      rw [e] at hu
      obtain rfl : Value.int .u32 (xs[j]?.getD 0) = u := by simpa using hu
      have e2 : (⟨g, 0, none⟩ : Addr).add j = ⟨g, j, none⟩ := by
        unfold Addr.add
        by_cases hz : j = 0
        · subst hz; rfl
        · simp [hz]
      rw [e2]
      exact c
    · rw [List.getElem?_eq_none (by simp; omega)] at hu; cases hu
  · intro j u hu
    match j, hu with
    | 0, hu => obtain rfl : Value.int .u32 0 = u := by simpa using hu
               exact hb
    | k + 1, hu => simp at hu
  · intro v' w' o1 g1
    obtain ⟨g', c', rfl, hc, _⟩ := own_shape' o1 (by omega)
    refine hK g' c' w' ?_ ((Below.refl w.heap.size w).grown g1 (Nat.le_refl _) (fun k hk => by simp at hk))
    have : (xs ++ [0]).map (Value.int .u32) = xs.map (Value.int .u32) ++ [.int .u32 0] := by simp
    unfold OwnC
    rw [this]
    exact o1

theorem bits_only {v : Int} {a b : Nat} (ha : 1 ≤ a) (hb : 1 ≤ b) (h1 : (2 : Int) ^ (a - 1) ≤ v) (h2 : v < 2 ^ a) (g1 : (2 : Int) ^ (b - 1) ≤ v) (g2 : v < 2 ^ b) : a = b := by
  rcases Nat.lt_trichotomy a b with h | h | h
  · have : (2 : Int) ^ a ≤ 2 ^ (b - 1) := two_le (by omega)
    omega
  · exact h
  · have : (2 : Int) ^ b ≤ 2 ^ (a - 1) := two_le (by omega)
    omega
theorem len_of_bits {xs : List Int} (hw : Wd xs) (ht : Trimmed xs) (L : Nat) (hL : 1 ≤ L) (h1 : (2 : Int) ^ (L - 1) ≤ val xs) (h2 : val xs < 2 ^ L) : xs.length = (L + 31) / 32 := by
  have hs : sz xs = xs.length := ht
  have hp : 0 < sz xs := by
    rcases Nat.eq_zero_or_pos (sz xs) with g | g
    · exfalso
      have : xs = [] := List.eq_nil_of_length_eq_zero (by omega)
      subst this
      have := two_pos (L - 1)
      rw [val_nil] at h1
      omega
    · exact g
  obtain ⟨b1, b2, b3, b4, b5⟩ := bits_bounds hw hp
  have := bits_only b1 hL b2 b3 h1 h2
  omega

set_option maxHeartbeats 800000 in
set_option maxRecDepth 100000 in
theorem rshifted_s (a : Option Addr) (n cap : Nat) (xs : List Int) (s : Nat) (w : World) (h : Reads w w.heap.size a (n + 1) cap xs) (hn : n ≤ 1048576) (tx : Trimmed xs) (hs : s ≤ 1048576) :
    Calls Tryz.prog 65 #[.slice a (n + 1) cap, .int .i64 (s : Int)] w fun e w' => ∃ ys : List Int, e = .returned (.slice (some ⟨w.heap.size, 0, none⟩) ys.length ys.length) ∧ OwnW w' w.heap.size w.heap.size ys.length ys ∧ Wd ys ∧ Trimmed ys ∧ val ys = val xs * 2 ^ s ∧ Below w.heap.size w w' := by
  refine Calls.mono (rshifted_any a n cap xs (s / 32) (s % 32) (s : Int) w h hn tx (by omega) (by omega) (by omega)) ?_
  rintro e w' ⟨ys, rfl, h1, h2, h3, h4, h5⟩
  refine ⟨ys, rfl, h1, h2, h3, ?_, h5⟩
  rw [h4, pw_two, Int.mul_assoc, ← Int.pow_add]
  congr 2
  omega

/-- Both numbers shifted to as many bits. -/
theorem begin_vals {xs ys zs us : List Int} (wx : Wd xs) (px : 0 < sz xs) (wy : Wd ys) (py : 0 < sz ys) (wz : Wd zs) (tz : Trimmed zs) (wu : Wd us) (tu : Trimmed us)
    (hz : val zs = val xs * 2 ^ (bitsOf ys - bitsOf xs)) (hu : val us = val ys * 2 ^ (bitsOf xs - bitsOf ys)) :
    us.length = zs.length ∧ 0 < zs.length ∧ zs.length ≤ max (sz xs) (sz ys) ∧ val zs < 2 * val us ∧ val us < 2 * val zs ∧ 2 * val zs < 4294967296 ^ (zs.length + 1) ∧ 2 * val us < 4294967296 ^ (zs.length + 1) := by
  obtain ⟨a1, a2, a3, a4, a5⟩ := bits_bounds wx px
  obtain ⟨b1, b2, b3, b4, b5⟩ := bits_bounds wy py
  generalize bitsOf xs = Lx at *
  generalize bitsOf ys = Ly at *
  have z1 : (2 : Int) ^ (max Lx Ly - 1) ≤ val zs ∧ val zs < 2 ^ max Lx Ly := by
    have p := two_pos (Ly - Lx)
    rw [hz]
    constructor
    · have := Int.mul_le_mul_of_nonneg_right a2 (Int.le_of_lt p)
      rw [← Int.pow_add, show Lx - 1 + (Ly - Lx) = max Lx Ly - 1 by omega] at this
      exact this
    · have := Int.mul_lt_mul_of_pos_right a3 p
      rw [← Int.pow_add, show Lx + (Ly - Lx) = max Lx Ly by omega] at this
      exact this
  have u1 : (2 : Int) ^ (max Lx Ly - 1) ≤ val us ∧ val us < 2 ^ max Lx Ly := by
    have p := two_pos (Lx - Ly)
    rw [hu]
    constructor
    · have := Int.mul_le_mul_of_nonneg_right b2 (Int.le_of_lt p)
      rw [← Int.pow_add, show Ly - 1 + (Lx - Ly) = max Lx Ly - 1 by omega] at this
      exact this
    · have := Int.mul_lt_mul_of_pos_right b3 p
      rw [← Int.pow_add, show Ly + (Lx - Ly) = max Lx Ly by omega] at this
      exact this
  have l1 := len_of_bits wz tz _ (by omega) z1.1 z1.2
  have l2 := len_of_bits wu tu _ (by omega) u1.1 u1.2
  have e : (2 : Int) ^ max Lx Ly = 2 * 2 ^ (max Lx Ly - 1) := by
    have e2 : max Lx Ly = (max Lx Ly - 1) + 1 := by omega
    rw [e2, Int.pow_succ, Int.mul_comm, Nat.add_sub_cancel]
  have v1 := val_lt wz
  have v2 := val_lt wu
  rw [l2, ← l1] at v2
  have pz := pw_succ zs.length
  have pp := pw_pos zs.length
  rw [pz]
  refine ⟨by omega, by omega, by omega, by omega, by omega, by omega, by omega⟩

end Go.Proofs.YtabkgpnckaaclaaGreatDoor

/- Fractions: ratio.signedSum: numbers with signs added. -/
namespace Go.Proofs.YtabkgpnckaaclaaGreatDoor
open Go.RowKit
set_option linter.unusedVariables false

/-- A number with a sign (0 may have one), in new memory. -/
def WVal (w : World) (t : Int) (x : Ending) (w' : World) : Prop := ∃ n v zs, x = .returned (.agg #[.bool n, v]) ∧ w'.ownsRow w.heap.size 88 1 v zs.length (zs.map (Value.int .u32)) ∧ Wd zs ∧ Trimmed zs ∧ wval n zs = t ∧ Below w.heap.size w w'
/-- A number told in new memory. -/
def One (U w' : World) (v : Value) (zs : List Int) (t : Int) : Prop := w'.ownsRow U.heap.size 88 1 v zs.length (zs.map (Value.int .u32)) ∧ Wd zs ∧ Trimmed zs ∧ val zs = t
theorem One.later {U V W : World} {v : Value} {zs : List Int} {t : Int} (h : One U V v zs t) (hb : Below V.heap.size V W) : One U W v zs t := ⟨owns_later h.1 hb, h.2⟩
theorem One.base {U U' V : World} {v : Value} {zs : List Int} {t : Int} (h : One U V v zs t) (hb : U'.heap.size ≤ U.heap.size) : One U' V v zs t := ⟨owns_base h.1 hb, h.2⟩
theorem One.sl {U V : World} {v : Value} {zs : List Int} {t : Int} (h : One U V v zs t) : Sl V v zs := Sl.own h.1 h.2.1
/-- A callee's contract, at each world that may come up in a region: with what stays beside it. -/
theorem told1_at {U : World} {f : Nat} {args : Array Value} {t : Int} (S : World → Prop) (hS : ∀ w', Below U.heap.size U w' → S w') (ww : World) (hb : Below U.heap.size U ww) (C : Calls Tryz.prog f args ww (Told1 ww t)) :
    Calls Tryz.prog f args ww fun e w' => ∃ a2 zs c2, e = .returned (.slice a2 zs.length c2) ∧ Hid (One U w' (.slice a2 zs.length c2) zs t) ∧ S w' ∧ Below U.heap.size U w' ∧ Hid (Below ww.heap.size ww w') :=
  Calls.mono C fun e w' h => by
    obtain ⟨v, zs, rfl, o, h1, h2, h3, hb2⟩ := h
    obtain ⟨a2, c2, hs2⟩ := own_slice' o
    subst hs2
    exact ⟨a2, zs, c2, rfl, ⟨owns_base o hb.size, h1, h2, h3⟩, hS w' (bt hb hb2), bt hb hb2, hb2⟩

set_option maxHeartbeats 6400000 in
set_option maxRecDepth 100000 in
theorem rsigned_any (n : Bool) (v : Value) (xs : List Int) (m0 : Bool) (u : Value) (ys : List Int) (w : World) (h : Sl w v xs) (g : Sl w u ys) (lx : xs.length ≤ 8191) (ly : ys.length ≤ 8191) (tx : Trimmed xs) (ty : Trimmed ys) :
    Calls Tryz.prog 134 #[.agg #[.bool n, v], .agg #[.bool m0, u]] w (WVal w (wval n xs + wval m0 ys)) := by
  obtain ⟨a, cap, rfl, hr⟩ := h
  obtain ⟨b, cap', rfl, gr⟩ := g
  have h : Sl w (.slice a xs.length cap) xs := ⟨a, cap, rfl, hr⟩
  have g : Sl w (.slice b ys.length cap') ys := ⟨b, cap', rfl, gr⟩
  clear hr gr
  have HB : Hid (Below w.heap.size w (((w.alloc (.cells #[.bool n, .slice a xs.length cap] 136)).alloc (.cells #[.bool m0, .slice b ys.length cap'] 136)).alloc (.cells #[.bool false, .slice none 0 0] 136))) := bt (bt (alloc_later _ _) (alloc_later _ _)) (alloc_later _ _)
  have HXB : Hid (Box (((w.alloc (.cells #[.bool n, .slice a xs.length cap] 136)).alloc (.cells #[.bool m0, .slice b ys.length cap'] 136)).alloc (.cells #[.bool false, .slice none 0 0] 136)) (w.heap.size + 1 + 1) 136 #[.bool false, .slice none 0 0]) := by
    have e := Box.made ((w.alloc (.cells #[.bool n, .slice a xs.length cap] 136)).alloc (.cells #[.bool m0, .slice b ys.length cap'] 136)) 136 #[.bool false, .slice none 0 0]
    simp at e
    exact e
  have HXR : Hid (w.heap.size ≤ w.heap.size + 1 + 1 ∧ w.heap.size + 1 + 1 < (((w.alloc (.cells #[.bool n, .slice a xs.length cap] 136)).alloc (.cells #[.bool m0, .slice b ys.length cap'] 136)).alloc (.cells #[.bool false, .slice none 0 0] 136)).heap.size) := ⟨by omega, HXB.out.lt⟩
  have HN : Hid (Box (((w.alloc (.cells #[.bool n, .slice a xs.length cap] 136)).alloc (.cells #[.bool m0, .slice b ys.length cap'] 136)).alloc (.cells #[.bool false, .slice none 0 0] 136)) w.heap.size 136 #[.bool n, .slice a xs.length cap]) := Box.later (Box.made w _ _) (bt (alloc_later _ _) (alloc_later _ _)) (by simp)
  have HM : Hid (Box (((w.alloc (.cells #[.bool n, .slice a xs.length cap] 136)).alloc (.cells #[.bool m0, .slice b ys.length cap'] 136)).alloc (.cells #[.bool false, .slice none 0 0] 136)) (w.heap.size + 1) 136 #[.bool m0, .slice b ys.length cap']) := by
    have e := Box.later (Box.made (w.alloc (.cells #[.bool n, .slice a xs.length cap] 136)) 136 #[.bool m0, .slice b ys.length cap']) (alloc_later ((w.alloc (.cells #[.bool n, .slice a xs.length cap] 136)).alloc (.cells #[.bool m0, .slice b ys.length cap'] 136)) (.cells #[.bool false, .slice none 0 0] 136)) (by simp)
    simp at e
    exact e
  have HSL := hid (And.intro (h.later HB.out) (g.later HB.out))
  have HCM := hid (compare_sl _ _ xs ys _ HSL.out.1 HSL.out.2 (by omega) (by omega))
  clear h g
  cases n with
  | false =>
    cases m0 with
    | false =>
      clear HCM
      have HBU := hid HB.out
      have HUS : Hid (w.heap.size + 1 + 1 < (((w.alloc (.cells #[.bool false, .slice a xs.length cap] 136)).alloc (.cells #[.bool false, .slice b ys.length cap'] 136)).alloc (.cells #[.bool false, .slice none 0 0] 136)).heap.size) := HXR.out.2
      go_enter Tryz.func134, Tryz.ntmps134
      have HK : Hid (∀ w', Below (((w.alloc (.cells #[.bool false, .slice a xs.length cap] 136)).alloc (.cells #[.bool false, .slice b ys.length cap'] 136)).alloc (.cells #[.bool false, .slice none 0 0] 136)).heap.size (((w.alloc (.cells #[.bool false, .slice a xs.length cap] 136)).alloc (.cells #[.bool false, .slice b ys.length cap'] 136)).alloc (.cells #[.bool false, .slice none 0 0] 136)) w' → (fun w' : World => ((fun w' : World => w'.cell? ⟨w.heap.size, 0, none⟩ = some (.bool false) ∧ w'.cell? ⟨w.heap.size, 1, none⟩ = some (.slice a xs.length cap) ∧ w'.cell? ⟨w.heap.size + 1, 0, none⟩ = some (.bool false) ∧ w'.cell? ⟨w.heap.size + 1, 1, none⟩ = some (.slice b ys.length cap'))) w' ∧ w'.cell? ⟨w.heap.size + 1 + 1, 0, none⟩ = some (.bool false) ∧ w'.cell? ⟨w.heap.size + 1 + 1, 1, none⟩ = some (.slice none 0 0) ∧ w'.frozen? ⟨w.heap.size + 1 + 1, 0, none⟩ = false ∧ w'.frozen? ⟨w.heap.size + 1 + 1, 1, none⟩ = false) w') := fun w' hb => by
        have hx : Below (((w.alloc (.cells #[.bool false, .slice a xs.length cap] 136)).alloc (.cells #[.bool false, .slice b ys.length cap'] 136)).alloc (.cells #[.bool false, .slice none 0 0] 136)).heap.size _ w' := hb
        obtain ⟨r0, r1, f0, f1⟩ := res_box HXB.out hx
        obtain ⟨p0, p1, _, _⟩ := res_box HN.out hx
        obtain ⟨q0, q1, _, _⟩ := res_box HM.out hx
        exact ⟨⟨p0, p1, q0, q1⟩, r0, r1, f0, f1⟩
      have HF := hid (fun ww (hb : Below (((w.alloc (.cells #[.bool false, .slice a xs.length cap] 136)).alloc (.cells #[.bool false, .slice b ys.length cap'] 136)).alloc (.cells #[.bool false, .slice none 0 0] 136)).heap.size (((w.alloc (.cells #[.bool false, .slice a xs.length cap] 136)).alloc (.cells #[.bool false, .slice b ys.length cap'] 136)).alloc (.cells #[.bool false, .slice none 0 0] 136)) ww) => told1_at _ HK.out ww hb (rsum_any _ _ xs ys ww (HSL.out.1.later hb) (HSL.out.2.later hb) lx ly tx ty))
      have hs0 := (HK.out _ (Below.drew (Below.refl _ (((w.alloc (.cells #[.bool false, .slice a xs.length cap] 136)).alloc (.cells #[.bool false, .slice b ys.length cap'] 136)).alloc (.cells #[.bool false, .slice none 0 0] 136))))).1
      have hq0 : w.heap.size + 1 + 1 ≠ w.heap.size := by omega
      go_wp2_with fail
      go_region_held3 (fun w' : World => w'.cell? ⟨w.heap.size, 0, none⟩ = some (.bool false) ∧ w'.cell? ⟨w.heap.size, 1, none⟩ = some (.slice a xs.length cap) ∧ w'.cell? ⟨w.heap.size + 1, 0, none⟩ = some (.bool false) ∧ w'.cell? ⟨w.heap.size + 1, 1, none⟩ = some (.slice b ys.length cap')) (first | exact hs1 | exact hs0 | (simp [hs1, World.cell?_setCell_far, hq0]))
        (first | (go_at_call 150; refine Calls.mono (HF.out _ (Below.drew (Below.refl _ _))) ?_; rintro e w2 ⟨a2, zs, c2, rfl, HE, ⟨hs1, r0, r1, f0, f1⟩, hb2, _⟩))
      all_goals
        go_wp2_with fail
        refine bodyPost_ret (v := .agg #[.bool false, .slice a2 zs.length c2]) (by simp [results, Tryz.results134, go_sem, r0, r1]) rfl ?_
        refine ⟨false, _, zs, rfl, owns_base (own_put2 HE.out.1 _ (fun g hg => ?_) _ _) (by have := HXR.out; have := HBU.out.size; omega), HE.out.2.1, HE.out.2.2.1, ?_, below_put2 (bt HBU.out hb2) _ (by have := HXR.out; omega) _ _⟩
        · have h1 := (World.ownsRow.lt HE.out.1 g hg).1
          have h2 := HXR.out
          have h3 := HUS.out
          omega
        · have e := HE.out.2.2.2
          show _ = _
          simp [wval] at e ⊢
          omega
    | true =>
      by_cases hlt : val xs < val ys
      · rw [cmpI_lt hlt] at HCM
        go_enter Tryz.func134, Tryz.ntmps134
        go_wp2_with fail
        refine Calls.mono HCM.out ?_
        rintro e w1 ⟨rfl, hb1⟩
        obtain ⟨p0, p1, _, _⟩ := res_box HN.out hb1
        obtain ⟨q0, q1, _, _⟩ := res_box HM.out hb1
        have HB1 := hid hb1
        have HBU := hid (bt HB.out hb1)
        have HUS : Hid (w.heap.size + 1 + 1 < w1.heap.size) := by
          show _ < _
          have h1 := HXR.out.2
          have h2 := HB1.out.size
          omega
        clear hb1 HCM
        have HK : Hid (∀ w', Below w1.heap.size w1 w' → (fun w' : World => ((fun w' : World => w'.cell? ⟨w.heap.size, 0, none⟩ = some (.bool false) ∧ w'.cell? ⟨w.heap.size, 1, none⟩ = some (.slice a xs.length cap) ∧ w'.cell? ⟨w.heap.size + 1, 0, none⟩ = some (.bool true) ∧ w'.cell? ⟨w.heap.size + 1, 1, none⟩ = some (.slice b ys.length cap'))) w' ∧ w'.cell? ⟨w.heap.size + 1 + 1, 0, none⟩ = some (.bool false) ∧ w'.cell? ⟨w.heap.size + 1 + 1, 1, none⟩ = some (.slice none 0 0) ∧ w'.frozen? ⟨w.heap.size + 1 + 1, 0, none⟩ = false ∧ w'.frozen? ⟨w.heap.size + 1 + 1, 1, none⟩ = false) w') := fun w' hb => by
          have hx : Below (((w.alloc (.cells #[.bool false, .slice a xs.length cap] 136)).alloc (.cells #[.bool true, .slice b ys.length cap'] 136)).alloc (.cells #[.bool false, .slice none 0 0] 136)).heap.size _ w' := bt HB1.out hb
          obtain ⟨r0, r1, f0, f1⟩ := res_box HXB.out hx
          obtain ⟨p0, p1, _, _⟩ := res_box HN.out hx
          obtain ⟨q0, q1, _, _⟩ := res_box HM.out hx
          exact ⟨⟨p0, p1, q0, q1⟩, r0, r1, f0, f1⟩
        have HF := hid (fun ww (hb : Below w1.heap.size w1 ww) => told1_at _ HK.out ww hb (rdiff_any _ _ ys xs ww ((HSL.out.2.later HB1.out).later hb) ((HSL.out.1.later HB1.out).later hb) (by omega) (by omega) ty tx (by omega)))
        have hs0 := (HK.out _ (Below.drew (Below.refl _ w1))).1
        have hq0 : w.heap.size + 1 + 1 ≠ w.heap.size := by omega
        go_wp2_with fail
        go_region_held3 (fun w' : World => w'.cell? ⟨w.heap.size, 0, none⟩ = some (.bool false) ∧ w'.cell? ⟨w.heap.size, 1, none⟩ = some (.slice a xs.length cap) ∧ w'.cell? ⟨w.heap.size + 1, 0, none⟩ = some (.bool true) ∧ w'.cell? ⟨w.heap.size + 1, 1, none⟩ = some (.slice b ys.length cap')) (first | exact hs1 | exact hs0 | (simp [hs1, World.cell?_setCell_far, hq0]))
          (first | (go_at_call 151; refine Calls.mono (HF.out _ (Below.drew (Below.refl _ _))) ?_; rintro e w2 ⟨a2, zs, c2, rfl, HE, ⟨hs1, r0, r1, f0, f1⟩, hb2, _⟩))
        all_goals
          go_wp2_with fail
          refine bodyPost_ret (v := .agg #[.bool true, .slice a2 zs.length c2]) (by simp [results, Tryz.results134, go_sem, r0, r1]) rfl ?_
          refine ⟨true, _, zs, rfl, owns_base (own_put2 HE.out.1 _ (fun g hg => ?_) _ _) (by have := HXR.out; have := HBU.out.size; omega), HE.out.2.1, HE.out.2.2.1, ?_, below_put2 (bt HBU.out hb2) _ (by have := HXR.out; omega) _ _⟩
          · have h1 := (World.ownsRow.lt HE.out.1 g hg).1
            have h2 := HXR.out
            have h3 := HUS.out
            omega
          · have e := HE.out.2.2.2
            show _ = _
            simp [wval] at e ⊢
            omega
      · have hc0 : (0 : Int) ≤ cmpI (val xs) (val ys) := by
          by_cases c : val ys < val xs
          · rw [cmpI_gt c]; omega
          · rw [cmpI_eq (by omega)]; omega
        obtain ⟨cv, hcv⟩ : ∃ cv, cmpI (val xs) (val ys) = cv := ⟨_, rfl⟩
        rw [hcv] at HCM hc0
        have hc1 : ¬ cv < 0 := by omega
        clear hcv hc0
        go_enter Tryz.func134, Tryz.ntmps134
        go_wp2_with fail
        refine Calls.mono HCM.out ?_
        rintro e w1 ⟨rfl, hb1⟩
        obtain ⟨p0, p1, _, _⟩ := res_box HN.out hb1
        obtain ⟨q0, q1, _, _⟩ := res_box HM.out hb1
        have HB1 := hid hb1
        have HBU := hid (bt HB.out hb1)
        have HUS : Hid (w.heap.size + 1 + 1 < w1.heap.size) := by
          show _ < _
          have h1 := HXR.out.2
          have h2 := HB1.out.size
          omega
        clear hb1 HCM
        have HK : Hid (∀ w', Below w1.heap.size w1 w' → (fun w' : World => ((fun w' : World => w'.cell? ⟨w.heap.size, 0, none⟩ = some (.bool false) ∧ w'.cell? ⟨w.heap.size, 1, none⟩ = some (.slice a xs.length cap) ∧ w'.cell? ⟨w.heap.size + 1, 0, none⟩ = some (.bool true) ∧ w'.cell? ⟨w.heap.size + 1, 1, none⟩ = some (.slice b ys.length cap'))) w' ∧ w'.cell? ⟨w.heap.size + 1 + 1, 0, none⟩ = some (.bool false) ∧ w'.cell? ⟨w.heap.size + 1 + 1, 1, none⟩ = some (.slice none 0 0) ∧ w'.frozen? ⟨w.heap.size + 1 + 1, 0, none⟩ = false ∧ w'.frozen? ⟨w.heap.size + 1 + 1, 1, none⟩ = false) w') := fun w' hb => by
          have hx : Below (((w.alloc (.cells #[.bool false, .slice a xs.length cap] 136)).alloc (.cells #[.bool true, .slice b ys.length cap'] 136)).alloc (.cells #[.bool false, .slice none 0 0] 136)).heap.size _ w' := bt HB1.out hb
          obtain ⟨r0, r1, f0, f1⟩ := res_box HXB.out hx
          obtain ⟨p0, p1, _, _⟩ := res_box HN.out hx
          obtain ⟨q0, q1, _, _⟩ := res_box HM.out hx
          exact ⟨⟨p0, p1, q0, q1⟩, r0, r1, f0, f1⟩
        have HF := hid (fun ww (hb : Below w1.heap.size w1 ww) => told1_at _ HK.out ww hb (rdiff_any _ _ xs ys ww ((HSL.out.1.later HB1.out).later hb) ((HSL.out.2.later HB1.out).later hb) (by omega) (by omega) tx ty (by omega)))
        have hs0 := (HK.out _ (Below.drew (Below.refl _ w1))).1
        have hq0 : w.heap.size + 1 + 1 ≠ w.heap.size := by omega
        go_wp2_with fail
        go_region_held3 (fun w' : World => w'.cell? ⟨w.heap.size, 0, none⟩ = some (.bool false) ∧ w'.cell? ⟨w.heap.size, 1, none⟩ = some (.slice a xs.length cap) ∧ w'.cell? ⟨w.heap.size + 1, 0, none⟩ = some (.bool true) ∧ w'.cell? ⟨w.heap.size + 1, 1, none⟩ = some (.slice b ys.length cap')) (first | exact hs1 | exact hs0 | (simp [hs1, World.cell?_setCell_far, hq0]))
          (first | (go_at_call 151; refine Calls.mono (HF.out _ (Below.drew (Below.refl _ _))) ?_; rintro e w2 ⟨a2, zs, c2, rfl, HE, ⟨hs1, r0, r1, f0, f1⟩, hb2, _⟩))
        all_goals
          go_wp2_with fail
          refine bodyPost_ret (v := .agg #[.bool false, .slice a2 zs.length c2]) (by simp [results, Tryz.results134, go_sem, r0, r1]) rfl ?_
          refine ⟨false, _, zs, rfl, owns_base (own_put2 HE.out.1 _ (fun g hg => ?_) _ _) (by have := HXR.out; have := HBU.out.size; omega), HE.out.2.1, HE.out.2.2.1, ?_, below_put2 (bt HBU.out hb2) _ (by have := HXR.out; omega) _ _⟩
          · have h1 := (World.ownsRow.lt HE.out.1 g hg).1
            have h2 := HXR.out
            have h3 := HUS.out
            omega
          · have e := HE.out.2.2.2
            show _ = _
            simp [wval] at e ⊢
            omega
  | true =>
    cases m0 with
    | false =>
      by_cases hlt : val xs < val ys
      · rw [cmpI_lt hlt] at HCM
        go_enter Tryz.func134, Tryz.ntmps134
        go_wp2_with fail
        refine Calls.mono HCM.out ?_
        rintro e w1 ⟨rfl, hb1⟩
        obtain ⟨p0, p1, _, _⟩ := res_box HN.out hb1
        obtain ⟨q0, q1, _, _⟩ := res_box HM.out hb1
        have HB1 := hid hb1
        have HBU := hid (bt HB.out hb1)
        have HUS : Hid (w.heap.size + 1 + 1 < w1.heap.size) := by
          show _ < _
          have h1 := HXR.out.2
          have h2 := HB1.out.size
          omega
        clear hb1 HCM
        have HK : Hid (∀ w', Below w1.heap.size w1 w' → (fun w' : World => ((fun w' : World => w'.cell? ⟨w.heap.size, 0, none⟩ = some (.bool true) ∧ w'.cell? ⟨w.heap.size, 1, none⟩ = some (.slice a xs.length cap) ∧ w'.cell? ⟨w.heap.size + 1, 0, none⟩ = some (.bool false) ∧ w'.cell? ⟨w.heap.size + 1, 1, none⟩ = some (.slice b ys.length cap'))) w' ∧ w'.cell? ⟨w.heap.size + 1 + 1, 0, none⟩ = some (.bool false) ∧ w'.cell? ⟨w.heap.size + 1 + 1, 1, none⟩ = some (.slice none 0 0) ∧ w'.frozen? ⟨w.heap.size + 1 + 1, 0, none⟩ = false ∧ w'.frozen? ⟨w.heap.size + 1 + 1, 1, none⟩ = false) w') := fun w' hb => by
          have hx : Below (((w.alloc (.cells #[.bool true, .slice a xs.length cap] 136)).alloc (.cells #[.bool false, .slice b ys.length cap'] 136)).alloc (.cells #[.bool false, .slice none 0 0] 136)).heap.size _ w' := bt HB1.out hb
          obtain ⟨r0, r1, f0, f1⟩ := res_box HXB.out hx
          obtain ⟨p0, p1, _, _⟩ := res_box HN.out hx
          obtain ⟨q0, q1, _, _⟩ := res_box HM.out hx
          exact ⟨⟨p0, p1, q0, q1⟩, r0, r1, f0, f1⟩
        have HF := hid (fun ww (hb : Below w1.heap.size w1 ww) => told1_at _ HK.out ww hb (rdiff_any _ _ ys xs ww ((HSL.out.2.later HB1.out).later hb) ((HSL.out.1.later HB1.out).later hb) (by omega) (by omega) ty tx (by omega)))
        have hs0 := (HK.out _ (Below.drew (Below.refl _ w1))).1
        have hq0 : w.heap.size + 1 + 1 ≠ w.heap.size := by omega
        go_wp2_with fail
        go_region_held3 (fun w' : World => w'.cell? ⟨w.heap.size, 0, none⟩ = some (.bool true) ∧ w'.cell? ⟨w.heap.size, 1, none⟩ = some (.slice a xs.length cap) ∧ w'.cell? ⟨w.heap.size + 1, 0, none⟩ = some (.bool false) ∧ w'.cell? ⟨w.heap.size + 1, 1, none⟩ = some (.slice b ys.length cap')) (first | exact hs1 | exact hs0 | (simp [hs1, World.cell?_setCell_far, hq0]))
          (first | (go_at_call 151; refine Calls.mono (HF.out _ (Below.drew (Below.refl _ _))) ?_; rintro e w2 ⟨a2, zs, c2, rfl, HE, ⟨hs1, r0, r1, f0, f1⟩, hb2, _⟩))
        all_goals
          go_wp2_with fail
          refine bodyPost_ret (v := .agg #[.bool false, .slice a2 zs.length c2]) (by simp [results, Tryz.results134, go_sem, r0, r1]) rfl ?_
          refine ⟨false, _, zs, rfl, owns_base (own_put2 HE.out.1 _ (fun g hg => ?_) _ _) (by have := HXR.out; have := HBU.out.size; omega), HE.out.2.1, HE.out.2.2.1, ?_, below_put2 (bt HBU.out hb2) _ (by have := HXR.out; omega) _ _⟩
          · have h1 := (World.ownsRow.lt HE.out.1 g hg).1
            have h2 := HXR.out
            have h3 := HUS.out
            omega
          · have e := HE.out.2.2.2
            show _ = _
            simp [wval] at e ⊢
            omega
      · have hc0 : (0 : Int) ≤ cmpI (val xs) (val ys) := by
          by_cases c : val ys < val xs
          · rw [cmpI_gt c]; omega
          · rw [cmpI_eq (by omega)]; omega
        obtain ⟨cv, hcv⟩ : ∃ cv, cmpI (val xs) (val ys) = cv := ⟨_, rfl⟩
        rw [hcv] at HCM hc0
        have hc1 : ¬ cv < 0 := by omega
        clear hcv hc0
        go_enter Tryz.func134, Tryz.ntmps134
        go_wp2_with fail
        refine Calls.mono HCM.out ?_
        rintro e w1 ⟨rfl, hb1⟩
        obtain ⟨p0, p1, _, _⟩ := res_box HN.out hb1
        obtain ⟨q0, q1, _, _⟩ := res_box HM.out hb1
        have HB1 := hid hb1
        have HBU := hid (bt HB.out hb1)
        have HUS : Hid (w.heap.size + 1 + 1 < w1.heap.size) := by
          show _ < _
          have h1 := HXR.out.2
          have h2 := HB1.out.size
          omega
        clear hb1 HCM
        have HK : Hid (∀ w', Below w1.heap.size w1 w' → (fun w' : World => ((fun w' : World => w'.cell? ⟨w.heap.size, 0, none⟩ = some (.bool true) ∧ w'.cell? ⟨w.heap.size, 1, none⟩ = some (.slice a xs.length cap) ∧ w'.cell? ⟨w.heap.size + 1, 0, none⟩ = some (.bool false) ∧ w'.cell? ⟨w.heap.size + 1, 1, none⟩ = some (.slice b ys.length cap'))) w' ∧ w'.cell? ⟨w.heap.size + 1 + 1, 0, none⟩ = some (.bool false) ∧ w'.cell? ⟨w.heap.size + 1 + 1, 1, none⟩ = some (.slice none 0 0) ∧ w'.frozen? ⟨w.heap.size + 1 + 1, 0, none⟩ = false ∧ w'.frozen? ⟨w.heap.size + 1 + 1, 1, none⟩ = false) w') := fun w' hb => by
          have hx : Below (((w.alloc (.cells #[.bool true, .slice a xs.length cap] 136)).alloc (.cells #[.bool false, .slice b ys.length cap'] 136)).alloc (.cells #[.bool false, .slice none 0 0] 136)).heap.size _ w' := bt HB1.out hb
          obtain ⟨r0, r1, f0, f1⟩ := res_box HXB.out hx
          obtain ⟨p0, p1, _, _⟩ := res_box HN.out hx
          obtain ⟨q0, q1, _, _⟩ := res_box HM.out hx
          exact ⟨⟨p0, p1, q0, q1⟩, r0, r1, f0, f1⟩
        have HF := hid (fun ww (hb : Below w1.heap.size w1 ww) => told1_at _ HK.out ww hb (rdiff_any _ _ xs ys ww ((HSL.out.1.later HB1.out).later hb) ((HSL.out.2.later HB1.out).later hb) (by omega) (by omega) tx ty (by omega)))
        have hs0 := (HK.out _ (Below.drew (Below.refl _ w1))).1
        have hq0 : w.heap.size + 1 + 1 ≠ w.heap.size := by omega
        go_wp2_with fail
        go_region_held3 (fun w' : World => w'.cell? ⟨w.heap.size, 0, none⟩ = some (.bool true) ∧ w'.cell? ⟨w.heap.size, 1, none⟩ = some (.slice a xs.length cap) ∧ w'.cell? ⟨w.heap.size + 1, 0, none⟩ = some (.bool false) ∧ w'.cell? ⟨w.heap.size + 1, 1, none⟩ = some (.slice b ys.length cap')) (first | exact hs1 | exact hs0 | (simp [hs1, World.cell?_setCell_far, hq0]))
          (first | (go_at_call 151; refine Calls.mono (HF.out _ (Below.drew (Below.refl _ _))) ?_; rintro e w2 ⟨a2, zs, c2, rfl, HE, ⟨hs1, r0, r1, f0, f1⟩, hb2, _⟩))
        all_goals
          go_wp2_with fail
          refine bodyPost_ret (v := .agg #[.bool true, .slice a2 zs.length c2]) (by simp [results, Tryz.results134, go_sem, r0, r1]) rfl ?_
          refine ⟨true, _, zs, rfl, owns_base (own_put2 HE.out.1 _ (fun g hg => ?_) _ _) (by have := HXR.out; have := HBU.out.size; omega), HE.out.2.1, HE.out.2.2.1, ?_, below_put2 (bt HBU.out hb2) _ (by have := HXR.out; omega) _ _⟩
          · have h1 := (World.ownsRow.lt HE.out.1 g hg).1
            have h2 := HXR.out
            have h3 := HUS.out
            omega
          · have e := HE.out.2.2.2
            show _ = _
            simp [wval] at e ⊢
            omega
    | true =>
      clear HCM
      have HBU := hid HB.out
      have HUS : Hid (w.heap.size + 1 + 1 < (((w.alloc (.cells #[.bool true, .slice a xs.length cap] 136)).alloc (.cells #[.bool true, .slice b ys.length cap'] 136)).alloc (.cells #[.bool false, .slice none 0 0] 136)).heap.size) := HXR.out.2
      go_enter Tryz.func134, Tryz.ntmps134
      have HK : Hid (∀ w', Below (((w.alloc (.cells #[.bool true, .slice a xs.length cap] 136)).alloc (.cells #[.bool true, .slice b ys.length cap'] 136)).alloc (.cells #[.bool false, .slice none 0 0] 136)).heap.size (((w.alloc (.cells #[.bool true, .slice a xs.length cap] 136)).alloc (.cells #[.bool true, .slice b ys.length cap'] 136)).alloc (.cells #[.bool false, .slice none 0 0] 136)) w' → (fun w' : World => ((fun w' : World => w'.cell? ⟨w.heap.size, 0, none⟩ = some (.bool true) ∧ w'.cell? ⟨w.heap.size, 1, none⟩ = some (.slice a xs.length cap) ∧ w'.cell? ⟨w.heap.size + 1, 0, none⟩ = some (.bool true) ∧ w'.cell? ⟨w.heap.size + 1, 1, none⟩ = some (.slice b ys.length cap'))) w' ∧ w'.cell? ⟨w.heap.size + 1 + 1, 0, none⟩ = some (.bool false) ∧ w'.cell? ⟨w.heap.size + 1 + 1, 1, none⟩ = some (.slice none 0 0) ∧ w'.frozen? ⟨w.heap.size + 1 + 1, 0, none⟩ = false ∧ w'.frozen? ⟨w.heap.size + 1 + 1, 1, none⟩ = false) w') := fun w' hb => by
        have hx : Below (((w.alloc (.cells #[.bool true, .slice a xs.length cap] 136)).alloc (.cells #[.bool true, .slice b ys.length cap'] 136)).alloc (.cells #[.bool false, .slice none 0 0] 136)).heap.size _ w' := hb
        obtain ⟨r0, r1, f0, f1⟩ := res_box HXB.out hx
        obtain ⟨p0, p1, _, _⟩ := res_box HN.out hx
        obtain ⟨q0, q1, _, _⟩ := res_box HM.out hx
        exact ⟨⟨p0, p1, q0, q1⟩, r0, r1, f0, f1⟩
      have HF := hid (fun ww (hb : Below (((w.alloc (.cells #[.bool true, .slice a xs.length cap] 136)).alloc (.cells #[.bool true, .slice b ys.length cap'] 136)).alloc (.cells #[.bool false, .slice none 0 0] 136)).heap.size (((w.alloc (.cells #[.bool true, .slice a xs.length cap] 136)).alloc (.cells #[.bool true, .slice b ys.length cap'] 136)).alloc (.cells #[.bool false, .slice none 0 0] 136)) ww) => told1_at _ HK.out ww hb (rsum_any _ _ xs ys ww (HSL.out.1.later hb) (HSL.out.2.later hb) lx ly tx ty))
      have hs0 := (HK.out _ (Below.drew (Below.refl _ (((w.alloc (.cells #[.bool true, .slice a xs.length cap] 136)).alloc (.cells #[.bool true, .slice b ys.length cap'] 136)).alloc (.cells #[.bool false, .slice none 0 0] 136))))).1
      have hq0 : w.heap.size + 1 + 1 ≠ w.heap.size := by omega
      go_wp2_with fail
      go_region_held3 (fun w' : World => w'.cell? ⟨w.heap.size, 0, none⟩ = some (.bool true) ∧ w'.cell? ⟨w.heap.size, 1, none⟩ = some (.slice a xs.length cap) ∧ w'.cell? ⟨w.heap.size + 1, 0, none⟩ = some (.bool true) ∧ w'.cell? ⟨w.heap.size + 1, 1, none⟩ = some (.slice b ys.length cap')) (first | exact hs1 | exact hs0 | (simp [hs1, World.cell?_setCell_far, hq0]))
        (first | (go_at_call 150; refine Calls.mono (HF.out _ (Below.drew (Below.refl _ _))) ?_; rintro e w2 ⟨a2, zs, c2, rfl, HE, ⟨hs1, r0, r1, f0, f1⟩, hb2, _⟩))
      all_goals
        go_wp2_with fail
        refine bodyPost_ret (v := .agg #[.bool true, .slice a2 zs.length c2]) (by simp [results, Tryz.results134, go_sem, r0, r1]) rfl ?_
        refine ⟨true, _, zs, rfl, owns_base (own_put2 HE.out.1 _ (fun g hg => ?_) _ _) (by have := HXR.out; have := HBU.out.size; omega), HE.out.2.1, HE.out.2.2.1, ?_, below_put2 (bt HBU.out hb2) _ (by have := HXR.out; omega) _ _⟩
        · have h1 := (World.ownsRow.lt HE.out.1 g hg).1
          have h2 := HXR.out
          have h3 := HUS.out
          omega
        · have e := HE.out.2.2.2
          show _ = _
          simp [wval] at e ⊢
          omega
end Go.Proofs.YtabkgpnckaaclaaGreatDoor

/- Fractions: ratio.add, multiply: sums and products of fractions, what is in common taken out first. -/
namespace Go.Proofs.YtabkgpnckaaclaaGreatDoor
open Go.RowKit
set_option linter.unusedVariables false

theorem div_gcd_left {x y g : Int} (hg : g = gcdI x y) : x = x / g * g := (Int.ediv_mul_cancel (by rw [hg]; exact Int.gcd_dvd_left ..)).symm
theorem div_gcd_right {x y g : Int} (hg : g = gcdI x y) : y = y / g * g := (Int.ediv_mul_cancel (by rw [hg]; exact Int.gcd_dvd_right ..)).symm
theorem gcd_pos_right {x y : Int} (h : 0 < y) : 0 < gcdI x y := by
  have : 0 < Int.gcd x y := Int.gcd_pos_iff.2 (Or.inr (by omega))
  unfold gcdI; omega
theorem gcd_le_right {x y : Int} (h : 0 < y) : gcdI x y ≤ y := Int.le_of_dvd h (Int.gcd_dvd_right ..)
theorem sg_mul (n : Bool) (x y : Int) : sg n (x * y) = sg n x * y := by cases n <;> simp [sg, Int.neg_mul]
/-- What add works out. -/
theorem add_parts {n m nn : Bool} {xs ys us vs : List Int} {g rA rB p1 p2 N s q1 e den : Int} (hy : 0 < val ys) (hv : 0 < val vs) (h1 : gcdI (val xs) (val ys) = 1) (h2 : gcdI (val us) (val vs) = 1)
    (hg : g = gcdI (val ys) (val vs)) (hA : rA = val ys / g) (hB : rB = val vs / g) (hp1 : p1 = val xs * rB) (hp2 : p2 = val us * rA) (hN : sg nn N = sg n p1 + sg m p2) (hs : s = gcdI N g) (hq : q1 = N / s) (he : e = val vs / s) (hd : den = rA * e) :
    0 < den ∧ gcdI q1 den = 1 ∧ Rat.divInt (sg nn q1) den = rq n xs ys + rq m us vs := by
  have g0 : 0 < g := by rw [hg]; exact gcd_pos_right hv
  have k1 : val ys = rA * g := by rw [hA]; exact div_gcd_left hg
  have k2 : val vs = rB * g := by rw [hB]; exact div_gcd_right hg
  have k3 : N = q1 * s := by rw [hq]; exact div_gcd_left hs
  have sg' : s ∣ g := by rw [hs]; exact Int.gcd_dvd_right ..
  have k4 : val vs = e * s := by rw [he]; exact (Int.ediv_mul_cancel (Int.dvd_trans sg' ⟨rB, by rw [k2, Int.mul_comm]⟩)).symm
  have hN' : sg nn N = sg n (val xs) * rB + sg m (val us) * rA := by rw [hN, hp1, hp2, sg_mul, sg_mul]
  have hs' : s = gcdI (sg nn N) g := by rw [gcd_sg]; exact hs
  have r := fr_add (a := sg n (val xs)) (c := sg m (val us)) (p := sg nn q1) hy hv (by rw [gcd_sg]; exact h1) (by rw [gcd_sg]; exact h2) hg k1 k2 hN' hs' (by rw [← sg_mul, ← k3]) k4
  rw [← hd, gcd_sg] at r
  exact r
/-- What multiply works out. -/
theorem mul_parts {n m : Bool} {xs ys us vs : List Int} {f s num den : Int} (hy : 0 < val ys) (hv : 0 < val vs) (h1 : gcdI (val xs) (val ys) = 1) (h2 : gcdI (val us) (val vs) = 1)
    (hf : f = gcdI (val xs) (val vs)) (hs : s = gcdI (val us) (val ys)) (hn : num = val xs / f * (val us / s)) (hd : den = val ys / s * (val vs / f)) :
    0 < den ∧ gcdI num den = 1 ∧ Rat.divInt (sg (n != m) num) den = rq n xs ys * rq m us vs := by
  have r := fr_mul (a := sg n (val xs)) (c := sg m (val us)) (a1 := sg n (val xs / f)) (c1 := sg m (val us / s)) hy hv (by rw [gcd_sg]; exact h1) (by rw [gcd_sg]; exact h2) (by rw [gcd_sg]; exact hf) (by rw [gcd_sg]; exact hs) (by rw [← sg_mul, ← div_gcd_left hf]) (div_gcd_right hf) (by rw [← sg_mul, ← div_gcd_left hs]) (div_gcd_right hs)
  have e : sg n (val xs / f) * sg m (val us / s) = sg (n != m) num := by rw [hn]; exact (mul_sign n m _ _).symm
  rw [e, ← hd, gcd_sg] at r
  exact r
theorem WVal.at {U ww : World} {f : Nat} {args : Array Value} {t : Int} (S : World → Prop) (hS : ∀ w', Below U.heap.size U w' → S w') (hb : Below U.heap.size U ww) (C : Calls Tryz.prog f args ww (WVal ww t)) :
    Calls Tryz.prog f args ww fun e w' => ∃ k a2 zs c2, e = .returned (.agg #[.bool k, .slice a2 zs.length c2]) ∧ Hid (∃ T, One U w' (.slice a2 zs.length c2) zs T ∧ sg k T = t) ∧ S w' ∧ Below U.heap.size U w' ∧ Hid (Below ww.heap.size ww w') :=
  Calls.mono C fun e w' h => by
    obtain ⟨k, v, zs, rfl, o, h1, h2, h3, hb2⟩ := h
    obtain ⟨a2, c2, hs2⟩ := own_slice' o
    subst hs2
    exact ⟨k, a2, zs, c2, rfl, ⟨val zs, ⟨owns_base o hb.size, h1, h2, rfl⟩, h3⟩, hS w' (bt hb hb2), bt hb hb2, hb2⟩
theorem mul_4096 {x y : Int} (h0 : 0 ≤ x) (hx : x < 4294967296 ^ 2048) (g0 : 0 ≤ y) (hy : y < 4294967296 ^ 2048) : x * y < 4294967296 ^ 4096 := by
  have e : (4294967296 : Int) ^ 4096 = 4294967296 ^ 2048 * 4294967296 ^ 2048 := by rw [← Int.pow_add]
  have p := pw_pos 2048
  rw [e]
  generalize (4294967296 : Int) ^ 2048 = P at *
  have e1 : x * y ≤ x * P := Int.mul_le_mul_of_nonneg_left (by omega) h0
  have e2 : x * P < P * P := Int.mul_lt_mul_of_pos_right hx p
  omega
theorem own_len {v : Value} {zs : List Int} {U V : World} {t : Int} (h : One U V v zs t) {L : Nat} (hl : t < 4294967296 ^ L) : zs.length ≤ L := len_of_lt h.2.1 h.2.2.1 (by rw [h.2.2.2]; exact hl)
theorem own_pos {v : Value} {zs : List Int} {U V : World} {t : Int} (h : One U V v zs t) (h0 : 0 < t) : 0 < zs.length := by
  by_cases c : 0 < zs.length
  · exact c
  · have := trimmed_zero' (us := zs) (by omega)
    have := h.2.2.2
    omega
/-- What told tells of a numerator and a denominator with nothing in common. -/
theorem rtold_at {U ww : World} {n : Bool} {a : Option Addr} {ca : Nat} {zs : List Int} {b : Option Addr} {cb : Nat} {ds : List Int} {s t : Int} {q : Rat} (S : World → Prop) (hS : ∀ w', Below U.heap.size U w' → S w') (hb : Below U.heap.size U ww) (h1 : One U ww (.slice a zs.length ca) zs s) (h2 : One U ww (.slice b ds.length cb) ds t) (hd : 0 < t) (hg : gcdI s t = 1) (hq : Rat.divInt (sg n s) t = q) :
    Calls Tryz.prog 135 #[.bool n, .slice a zs.length ca, .slice b ds.length cb] ww fun e w' => ∃ k a8 z8 c8 a9 z9 c9 code, e = .returned (.tuple #[.agg #[.bool k, .slice a8 (List.length z8) c8, .slice a9 (List.length z9) c9], .int .i64 code]) ∧ Hid (w'.ownsRow U.heap.size 88 1 (.slice a8 (List.length z8) c8) z8.length (z8.map (Value.int .u32)) ∧ w'.ownsRow U.heap.size 88 1 (.slice a9 (List.length z9) c9) z9.length (z9.map (Value.int .u32)) ∧ RTells 0 q k z8 z9 code) ∧ S w' ∧ Below U.heap.size U w' := by
  obtain ⟨o1, w1, t1, v1⟩ := h1
  obtain ⟨o2, w2, t2, v2⟩ := h2
  obtain ⟨k, us, vs, c, e1, e2, e3, r⟩ := rtells_of (n := n) w1 t1 w2 t2 (by rw [v2]; exact hd) (by rw [v1, v2]; exact hg)
  rw [v1, v2, hq] at r
  refine Calls.mono (rtold_any n a zs.length ca b ds.length cb ww) fun e w' h => ?_
  obtain ⟨rfl, hb2⟩ := h
  rw [e1]
  by_cases z : c = 0
  · rw [if_pos z] at e2 e3
    subst e2; subst e3
    refine ⟨k, a, us, ca, b, vs, cb, c, by rw [if_pos z, if_pos z], ⟨owns_later o1 hb2, owns_later o2 hb2, r⟩, hS w' (bt hb hb2), bt hb hb2⟩
  · rw [if_neg z] at e2 e3
    subst e2; subst e3
    exact ⟨k, none, [], 0, none, [], 0, c, by rw [if_neg z, if_neg z]; rfl, ⟨World.ownsRow_nil _ _ _ _, World.ownsRow_nil _ _ _ _, r⟩, hS w' (bt hb hb2), bt hb hb2⟩
/-- What lies in blocks that were there stays, said so that the walk can use it. -/
def Far (ww w' : World) : Prop := (∀ H, H < ww.heap.size → H < w'.heap.size) ∧ (∀ H j, H < ww.heap.size → w'.cell? ⟨H, j, none⟩ = ww.cell? ⟨H, j, none⟩) ∧ (∀ H j, H < ww.heap.size → w'.frozen? ⟨H, j, none⟩ = ww.frozen? ⟨H, j, none⟩)
theorem Far.of {ww w' : World} (h : Below ww.heap.size ww w') : Far ww w' := ⟨fun H hl => Nat.lt_of_lt_of_le hl h.size, fun H j hl => h.cell (p := ⟨H, j, none⟩) hl, fun H j hl => h.frozen (p := ⟨H, j, none⟩) hl⟩
theorem quot_by {U ww : World} {a : Option Addr} {ca : Nat} {xs : List Int} {a1 : Option Addr} {z1 : List Int} {c1 : Nat} {g : Int} (S : World → Prop) (hS : ∀ w', Below U.heap.size U w' → S w') (hb : Below U.heap.size U ww) (hx : Sl ww (.slice a xs.length ca) xs) (lx : xs.length ≤ 8192) (tx : Trimmed xs) (h : One U ww (.slice a1 z1.length c1) z1 g) (h0 : 0 < g) (hl : g < 4294967296 ^ 2048) :
    Calls Tryz.prog 133 #[.slice a xs.length ca, .slice a1 z1.length c1] ww fun e w' => ∃ a2 zs c2, e = .returned (.slice a2 zs.length c2) ∧ Hid (One U w' (.slice a2 zs.length c2) zs (val xs / g)) ∧ S w' ∧ Below U.heap.size U w' ∧ Hid (Below ww.heap.size ww w') := by
  have e := rquot_any _ _ xs z1 ww hx h.sl lx (by have := own_len h hl; omega) tx h.2.2.1 (own_pos h h0)
  rw [h.2.2.2] at e
  exact told1_at S hS ww hb e
theorem RTold.put {w U w3 : World} {e : Int} {q : Rat} {k : Bool} {v u : Value} {zs ds : List Int} {code : Int} (h : w3.ownsRow U.heap.size 88 1 v zs.length (zs.map (Value.int .u32)) ∧ w3.ownsRow U.heap.size 88 1 u ds.length (ds.map (Value.int .u32)) ∧ RTells e q k zs ds code) (b : Nat) (hb : b < U.heap.size) (hw : w.heap.size ≤ b) (hbw : Below w.heap.size w w3) (x y z : Value) :
    RTold w e q (.returned (.tuple #[.agg #[.bool k, v, u], .int .i64 code])) (((w3.setCell ⟨b, 0, none⟩ x).setCell ⟨b, 1, none⟩ y).setCell ⟨b, 2, none⟩ z) :=
  ⟨k, v, zs, u, ds, code, rfl, owns_base (own_put3 h.1 b (fun g hg => by have := (World.ownsRow.lt h.1 g hg).1; omega) _ _ _) (by omega), owns_base (own_put3 h.2.1 b (fun g hg => by have := (World.ownsRow.lt h.2.1 g hg).1; omega) _ _ _) (by omega), h.2.2, below_put3 hbw b hw _ _ _⟩

end Go.Proofs.YtabkgpnckaaclaaGreatDoor

/- Whole numbers: whole.divide, DivMod as in Wh6, and besides: quotient and rest lie apart. -/
namespace Go.Proofs.YtabkgpnckaaclaaGreatDoor
open Go.RowKit
set_option linter.unusedVariables false

/-- The first lies below a cut, the second from it on: both new. -/
def Cut (w : World) (v u : Value) (w' : World) : Prop := ∃ c, w.heap.size ≤ c ∧ c ≤ w'.heap.size ∧ Lies v w.heap.size c ∧ Lies u c w'.heap.size
theorem Cut.up {w w' W W' : World} {v u : Value} (h : Cut w v u w') (h0 : W.heap.size ≤ w.heap.size) (h1 : w'.heap.size ≤ W'.heap.size) : Cut W v u W' := by
  obtain ⟨c, c0, c1, l0, l1⟩ := h
  exact ⟨c, Nat.le_trans h0 c0, Nat.le_trans c1 h1, fun g hg => ⟨Nat.le_trans h0 (l0 g hg).1, (l0 g hg).2⟩, fun g hg => ⟨(l1 g hg).1, Nat.lt_of_lt_of_le (l1 g hg).2 h1⟩⟩

set_option maxHeartbeats 800000 in
set_option maxRecDepth 100000 in
theorem divMod_cut (v u : Value) (xs ys : List Int) (w : World) (h : Sl w v xs) (g : Sl w u ys) (lx : xs.length ≤ 8192) (ly : ys.length ≤ 8192) (tx : Trimmed xs) (ty : Trimmed ys) (h0 : 0 < ys.length) :
    Calls Tryz.prog 149 #[v, u] w fun e w' => ∃ v1 u1 q r, e = .returned (.tuple #[v1, u1, .int .i64 0]) ∧ w'.ownsRow w.heap.size 88 1 v1 q.length (q.map (Value.int .u32)) ∧ w'.ownsRow w.heap.size 88 1 u1 r.length (r.map (Value.int .u32)) ∧ Wd q ∧ Wd r ∧ Trimmed q ∧ Trimmed r ∧ val xs = val q * val ys + val r ∧ val r < val ys ∧ Below w.heap.size w w' ∧ Cut w v1 u1 w' := by
  have HB := hid (checkBoth_sl v u xs ys w h g (by omega) (by omega))
  rw [both_good (chk_good lx tx) (chk_good ly ty)] at HB
  have HD : Hid (Calls Tryz.prog 155 #[v, u] w (Divided w xs ys)) := divide_any v u xs ys w h g lx ly tx ty h0
  obtain ⟨b, cap', rfl, gr⟩ := g
  have hz : ((ys.length : Int) == 0) = false := by simp; exact fun e => by rw [e] at h0; simp at h0
  clear gr h ty
  go_enter Tryz.func149, Tryz.ntmps149
  go_wp2_with fail
  refine Calls.mono HB.out ?_
  rintro e w' ⟨rfl, rfl⟩
  go_wp2_with fail
  refine Calls.mono HD.out ?_
  rintro e w1 ⟨v1, u1, q, r, c, rfl, oq, orr, i1, i2, i3, i4, wq, wr, tq, tr, hv, hlt, hbel⟩
  have HCU : Hid (Cut w v1 u1 w1) := ⟨c, i3, i4, i1, i2⟩
  have HQ := hid oq
  have HR := hid orr
  have HV := hid hv
  have HLT := hid hlt
  clear oq orr hv hlt i1 i2 i3 i4
  go_wp2
  go_ret3
  exact ⟨v1, u1, q, r, rfl, HQ.out, HR.out, wq, wr, tq, tr, HV.out, HLT.out, hbel, HCU.out⟩

/-- A size and a rest, in new memory, apart. -/
def WPartsA (w : World) (n : Bool) (xs ys : List Int) (x : Ending) (w' : World) : Prop := ∃ v1 u1 q r, x = .returned (.tuple #[v1, u1]) ∧ w'.ownsRow w.heap.size 88 1 v1 q.length (q.map (Value.int .u32)) ∧ w'.ownsRow w.heap.size 88 1 u1 r.length (r.map (Value.int .u32)) ∧ Wd q ∧ Wd r ∧ Trimmed q ∧ Trimmed r ∧ q.length ≤ 2048 ∧ r.length ≤ 2048 ∧
  val xs = val q * val ys + sg n (val r) ∧ val r < val ys ∧ Below w.heap.size w w' ∧ Cut w v1 u1 w'
/-- Quotient and rest of whole numbers, in new memory, apart. -/
def WDivA (w : World) (X Y : Int) (x : Ending) (w' : World) : Prop := ∃ nq vq zq vr zr, x = .returned (.tuple #[.agg #[.bool nq, vq], .agg #[.bool false, vr], .int .i64 0]) ∧ w'.ownsRow w.heap.size 88 1 vq zq.length (zq.map (Value.int .u32)) ∧ w'.ownsRow w.heap.size 88 1 vr zr.length (zr.map (Value.int .u32)) ∧ Wd zq ∧ Wd zr ∧ Trimmed zq ∧ Trimmed zr ∧ zq.length ≤ 2048 ∧ zr.length ≤ 2048 ∧ (nq = false ∨ 0 < zq.length) ∧
  X = wval nq zq * Y + val zr ∧ val zr < (Y.natAbs : Int) ∧ Below w.heap.size w w' ∧ Cut w vq vr w'
end Go.Proofs.YtabkgpnckaaclaaGreatDoor

/- Fractions: ratio.Make: of two whole numbers, in whatever form; Num and Den lie apart. -/
namespace Go.Proofs.YtabkgpnckaaclaaGreatDoor
open Go.RowKit
set_option linter.unusedVariables false

/-- A fraction told in new memory, Num and Den apart. -/
def RToldA (w : World) (e : Int) (q : Rat) (x : Ending) (w' : World) : Prop :=
  ∃ n v xs u ys code, x = .returned (.tuple #[.agg #[.bool n, v, u], .int .i64 code]) ∧ w'.ownsRow w.heap.size 88 1 v xs.length (xs.map (Value.int .u32)) ∧ w'.ownsRow w.heap.size 88 1 u ys.length (ys.map (Value.int .u32)) ∧ RTells e q n xs ys code ∧ Below w.heap.size w w' ∧ Cut w v u w'
theorem RTells.same {e : Int} {q : Rat} {n m : Bool} {xs ys us vs : List Int} {c d : Int} (h : RTells e q n xs ys c) (g : RTells e q m us vs d) : n = m ∧ xs = us ∧ ys = vs ∧ c = d := by
  by_cases he : e = 0
  · by_cases hl : rlong q
    · obtain ⟨a1, a2, a3, a4⟩ := h.long he hl
      obtain ⟨b1, b2, b3, b4⟩ := g.long he hl
      exact ⟨by rw [a1, b1], by rw [a2, b2], by rw [a3, b3], by rw [a4, b4]⟩
    · obtain ⟨a1, a2, a3⟩ := h.good he hl
      obtain ⟨b1, b2, b3⟩ := g.good he hl
      obtain ⟨_, _, tx, ty, y0, sx, gx⟩ := rchk_ok a2
      obtain ⟨_, _, tu, tv, v0, su, gu⟩ := rchk_ok b2
      have py := val_pos' h.wy ty y0
      have pv := val_pos' g.wy tv v0
      have e1 := fr_inj (x := wval n xs) (d := val ys) (y := wval m us) (e := val vs) (by omega) (by rw [show wval n xs = sg n (val xs) from rfl, gcd_sg]; exact gx) (by omega) (by rw [show wval m us = sg m (val us) from rfl, gcd_sg]; exact gu) (a3.trans b3.symm)
      have e2 : n = m ∧ xs = us := by
        have x0 := val_nonneg h.wx
        have u0 := val_nonneg g.wx
        have e3 := e1.1
        cases n <;> cases m
        · exact ⟨rfl, trimmed_eq h.wx g.wx tx tu e3⟩
        · have e4 : val xs = -(val us) := e3
          have := val_pos' g.wx tu (su.elim (fun e => by cases e) id)
          omega
        · have e4 : -(val xs) = val us := e3
          have := val_pos' h.wx tx (sx.elim (fun e => by cases e) id)
          omega
        · have e4 : -(val xs) = -(val us) := e3
          exact ⟨rfl, trimmed_eq h.wx g.wx tx tu (by omega)⟩
      exact ⟨e2.1, e2.2, trimmed_eq h.wy g.wy ty tv e1.2, by rw [a1, b1]⟩
  · obtain ⟨a1, a2, a3, a4⟩ := h.bad he
    obtain ⟨b1, b2, b3, b4⟩ := g.bad he
    exact ⟨by rw [a1, b1], by rw [a2, b2], by rw [a3, b3], by rw [a4, b4]⟩
theorem RTells.len {e : Int} {q : Rat} {n : Bool} {xs ys : List Int} {c : Int} (h : RTells e q n xs ys c) : xs.length ≤ 2048 ∧ ys.length ≤ 2048 := by
  by_cases he : e = 0
  · by_cases hl : rlong q
    · obtain ⟨_, a2, a3, _⟩ := h.long he hl
      rw [a2, a3]; simp
    · obtain ⟨l1, l2, _⟩ := rchk_ok (h.good he hl).2.1
      exact ⟨l1, l2⟩
  · obtain ⟨_, a2, a3, _⟩ := h.bad he
    rw [a2, a3]; simp
theorem make_parts {n m : Bool} {xs ys : List Int} (hx : 0 ≤ val xs) (hy : 0 < val ys) :
    0 < val ys / gcdI (val xs) (val ys) ∧ gcdI (val xs / gcdI (val xs) (val ys)) (val ys / gcdI (val xs) (val ys)) = 1 ∧ Rat.divInt (sg (n != m) (val xs / gcdI (val xs) (val ys))) (val ys / gcdI (val xs) (val ys)) = Rat.divInt (wval n xs) (wval m ys) := by
  obtain ⟨e1, e2, e3⟩ := fr_make (x := val xs) (d := val ys) (p := val xs / gcdI (val xs) (val ys)) (e := val ys / gcdI (val xs) (val ys)) hy rfl (div_gcd_left rfl) (div_gcd_right rfl)
  refine ⟨e1, e2, ?_⟩
  generalize val xs / gcdI (val xs) (val ys) = p at *
  generalize val ys / gcdI (val xs) (val ys) = e at *
  cases n <;> cases m <;> simp [sg, wval, e3, Rat.divInt_neg', ← Rat.neg_divInt]
/-- A callee's contract, at each world that may come up in a region: with what stays beside it, and where what is told lies. -/
theorem told1_in {U : World} {f : Nat} {args : Array Value} {t : Int} (S : World → Prop) (hS : ∀ w', Below U.heap.size U w' → S w') (ww : World) (hb : Below U.heap.size U ww) (C : Calls Tryz.prog f args ww (Told1 ww t)) :
    Calls Tryz.prog f args ww fun e w' => ∃ a2 zs c2, e = .returned (.slice a2 zs.length c2) ∧ Hid (One U w' (.slice a2 zs.length c2) zs t ∧ Lies (.slice a2 zs.length c2) ww.heap.size w'.heap.size) ∧ S w' ∧ Below U.heap.size U w' ∧ Hid (Below ww.heap.size ww w') :=
  Calls.mono C fun e w' h => by
    obtain ⟨v, zs, rfl, o, h1, h2, h3, hb2⟩ := h
    obtain ⟨a2, c2, hs2⟩ := own_slice' o
    subst hs2
    exact ⟨a2, zs, c2, rfl, ⟨⟨owns_base o hb.size, h1, h2, h3⟩, fun g hg => o.lt g hg⟩, hS w' (bt hb hb2), bt hb hb2, hb2⟩
theorem quot_in {U ww : World} {a : Option Addr} {ca : Nat} {xs : List Int} {a1 : Option Addr} {z1 : List Int} {c1 : Nat} {g : Int} (S : World → Prop) (hS : ∀ w', Below U.heap.size U w' → S w') (hb : Below U.heap.size U ww) (hx : Sl ww (.slice a xs.length ca) xs) (lx : xs.length ≤ 8192) (tx : Trimmed xs) (h : One U ww (.slice a1 z1.length c1) z1 g) (h0 : 0 < g) (hl : g < 4294967296 ^ 2048) :
    Calls Tryz.prog 133 #[.slice a xs.length ca, .slice a1 z1.length c1] ww fun e w' => ∃ a2 zs c2, e = .returned (.slice a2 zs.length c2) ∧ Hid (One U w' (.slice a2 zs.length c2) zs (val xs / g) ∧ Lies (.slice a2 zs.length c2) ww.heap.size w'.heap.size) ∧ S w' ∧ Below U.heap.size U w' ∧ Hid (Below ww.heap.size ww w') := by
  have e := rquot_any _ _ xs z1 ww hx h.sl lx (by have := own_len h hl; omega) tx h.2.2.1 (own_pos h h0)
  rw [h.2.2.2] at e
  exact told1_in S hS ww hb e
theorem cut_two {U u V W : World} {v w : Value} (h0 : U.heap.size ≤ u.heap.size) (h1 : u.heap.size ≤ V.heap.size) (h2 : V.heap.size ≤ W.heap.size) (l1 : Lies v u.heap.size V.heap.size) (l2 : Lies w V.heap.size W.heap.size) : Cut U v w W :=
  ⟨V.heap.size, Nat.le_trans h0 h1, h2, fun g hg => ⟨Nat.le_trans h0 (l1 g hg).1, (l1 g hg).2⟩, l2⟩
/-- What told tells, where numerator and denominator lie apart. -/
theorem rtold_cut {U ww : World} {n : Bool} {a : Option Addr} {ca : Nat} {zs : List Int} {b : Option Addr} {cb : Nat} {ds : List Int} {s t : Int} {q : Rat} (S : World → Prop) (hS : ∀ w', Below U.heap.size U w' → S w') (hb : Below U.heap.size U ww) (h1 : One U ww (.slice a zs.length ca) zs s) (h2 : One U ww (.slice b ds.length cb) ds t) (hc : Cut U (.slice a zs.length ca) (.slice b ds.length cb) ww) (hd : 0 < t) (hg : gcdI s t = 1) (hq : Rat.divInt (sg n s) t = q) :
    Calls Tryz.prog 135 #[.bool n, .slice a zs.length ca, .slice b ds.length cb] ww fun e w' => ∃ k a8 z8 c8 a9 z9 c9 code, e = .returned (.tuple #[.agg #[.bool k, .slice a8 (List.length z8) c8, .slice a9 (List.length z9) c9], .int .i64 code]) ∧ Hid (w'.ownsRow U.heap.size 88 1 (.slice a8 (List.length z8) c8) z8.length (z8.map (Value.int .u32)) ∧ w'.ownsRow U.heap.size 88 1 (.slice a9 (List.length z9) c9) z9.length (z9.map (Value.int .u32)) ∧ RTells 0 q k z8 z9 code ∧ Cut U (.slice a8 (List.length z8) c8) (.slice a9 (List.length z9) c9) w') ∧ S w' ∧ Below U.heap.size U w' := by
  obtain ⟨o1, w1, t1, v1⟩ := h1
  obtain ⟨o2, w2, t2, v2⟩ := h2
  obtain ⟨k, us, vs, c, e1, e2, e3, r⟩ := rtells_of (n := n) w1 t1 w2 t2 (by rw [v2]; exact hd) (by rw [v1, v2]; exact hg)
  rw [v1, v2, hq] at r
  refine Calls.mono (rtold_any n a zs.length ca b ds.length cb ww) fun e w' h => ?_
  obtain ⟨rfl, hb2⟩ := h
  rw [e1]
  by_cases z : c = 0
  · rw [if_pos z] at e2 e3
    subst e2; subst e3
    refine ⟨k, a, us, ca, b, vs, cb, c, by rw [if_pos z, if_pos z], ⟨owns_later o1 hb2, owns_later o2 hb2, r, hc.up (Nat.le_refl _) hb2.size⟩, hS w' (bt hb hb2), bt hb hb2⟩
  · rw [if_neg z] at e2 e3
    subst e2; subst e3
    exact ⟨k, none, [], 0, none, [], 0, c, by rw [if_neg z, if_neg z]; rfl, ⟨World.ownsRow_nil _ _ _ _, World.ownsRow_nil _ _ _ _, r, ⟨U.heap.size, Nat.le_refl _, (bt hb hb2).size, fun g hg => by simp [Value.ownBlock] at hg, fun g hg => by simp [Value.ownBlock] at hg⟩⟩, hS w' (bt hb hb2), bt hb hb2⟩
theorem RToldA.put {w U w3 : World} {e : Int} {q : Rat} {k : Bool} {v u : Value} {zs ds : List Int} {code : Int} (h : w3.ownsRow U.heap.size 88 1 v zs.length (zs.map (Value.int .u32)) ∧ w3.ownsRow U.heap.size 88 1 u ds.length (ds.map (Value.int .u32)) ∧ RTells e q k zs ds code ∧ Cut U v u w3) (b : Nat) (hb : b < U.heap.size) (hw : w.heap.size ≤ b) (hbw : Below w.heap.size w w3) (x y z : Value) :
    RToldA w e q (.returned (.tuple #[.agg #[.bool k, v, u], .int .i64 code])) (((w3.setCell ⟨b, 0, none⟩ x).setCell ⟨b, 1, none⟩ y).setCell ⟨b, 2, none⟩ z) :=
  ⟨k, v, zs, u, ds, code, rfl, owns_base (own_put3 h.1 b (fun g hg => by have := (World.ownsRow.lt h.1 g hg).1; omega) _ _ _) (by omega), owns_base (own_put3 h.2.1 b (fun g hg => by have := (World.ownsRow.lt h.2.1 g hg).1; omega) _ _ _) (by omega), h.2.2.1, below_put3 hbw b hw _ _ _, h.2.2.2.up (by omega) (by simp)⟩
/-- The error of Make. -/
def mkErr (n : Bool) (xs : List Int) (m : Bool) (ys : List Int) : Int := if wboth n xs m ys = 0 then (if ys.length = 0 then 7 else 0) else wboth n xs m ys
end Go.Proofs.YtabkgpnckaaclaaGreatDoor

/- real.words, bits.TrailingZeros64, real.fraction. -/
namespace Go.Proofs.YtabkgpnckaaclaaGreatDoor
open Go.RowKit
set_option linter.unusedVariables false

/-- The library's table of places stands as its text lays it. -/
def TabB (w : World) : Prop := ∀ j, j < 64 → w.cell? ⟨1, j, none⟩ = some (.int .u8 ((Lib.deBruijn64tab.getD j 0 : Nat) : Int))
theorem TabB.later {w w' : World} (h : TabB w) (hb : Below w.heap.size w w') : TabB w' := fun j hj => by
  have hlt : 1 < w.heap.size := by
    rcases Nat.lt_or_ge 1 w.heap.size with g | g
    · exact g
    · have e := h 0 (by omega)
      unfold World.cell? at e
      rw [Array.getElem?_eq_none g] at e
      cases e
  exact (hb.cell (p := ⟨1, j, none⟩) hlt).trans (h j hj)

set_option maxHeartbeats 1600000 in
set_option maxRecDepth 100000 in
theorem tz_core (x k idx : Nat) (w : World) (hx0 : ((x : Int) == 0) = false)
    (key : IntKind.u64.wrap (bits BinOp.and IntKind.u64 (x : Int) (IntKind.u64.wrap (-(x : Int))) * 285870213051353865) / 288230376151711744 = (idx : Int))
    (hi : idx < 64) (hk : k < 64) (hcell : w.cell? ⟨1, idx, none⟩ = some (.int .u8 (k : Int))) :
    Calls Tryz.prog 63 #[.int .u64 (x : Int)] w fun e w' => e = .returned (.int .i64 (k : Int)) ∧ w' = w := by
  go_enter Tryz.func63, Tryz.ntmps63
  go_wp2_with (simp only [key])
  go_ret
  exact ⟨rfl, rfl⟩
theorem tz_any (x : Nat) (w : World) (hx : x < 18446744073709551616) (h0 : x ≠ 0) (hT : TabB w) :
    Calls Tryz.prog 63 #[.int .u64 (x : Int)] w fun e w' => e = .returned (.int .i64 (Lib.ctz 64 x : Int)) ∧ w' = w := by
  obtain ⟨hlow, hk⟩ := Lib.lowest_bit 64 x h0 hx
  obtain ⟨hi, htab⟩ := Lib.deBruijn64_at _ hk
  have key := tz64_key x _ hx h0 hlow
  have hcell := hT _ hi
  rw [htab] at hcell
  exact tz_core x _ _ w (beq_eq_false_iff_ne.2 (by omega)) key hi hk hcell

set_option maxHeartbeats 800000 in
set_option maxRecDepth 100000 in
theorem rwords64_any (x : Nat) (w : World) (hx : x < 18446744073709551616) (h0 : x ≠ 0) :
    Calls Tryz.prog 64 #[.int .u64 (x : Int)] w fun e w' => ∃ ys : List Int, e = .returned (.slice (some ⟨w.heap.size, 0, none⟩) ys.length ys.length) ∧ OwnW w' w.heap.size w.heap.size ys.length ys ∧ Wd ys ∧ Trimmed ys ∧ val ys = x ∧ ys.length ≤ 2 ∧ Below w.heap.size w w' := by
  by_cases hb : x < 4294967296
  · have h1 : ((x : Int) / 4294967296 == 0) = true := beq_iff_eq.2 (by omega)
    have HO : Hid (OwnW (w.alloc (.cells #[.int .u32 (x : Int)] 88)) w.heap.size w.heap.size 1 [(x : Int)]) := World.ownsRow_lit w #[.int .u32 (x : Int)] 1 (Nat.le_refl _) (by simp [maxLen]) rfl
    have HW : Hid (Wd [(x : Int)] ∧ Trimmed [(x : Int)]) := ⟨Wd.one (by omega), by show sz _ = _; rw [sz_eq_iff]; right; simp; omega⟩
    have hx1 : (x : Int) ≤ 4294967295 := by omega
    clear hb hx h0
    go_enter Tryz.func64, Tryz.ntmps64
    go_wp2_with fail
    go_ret
    exact ⟨[(x : Int)], rfl, HO.out, HW.out.1, HW.out.2, val_one _, by simp, alloc_later _ _⟩
  · have h1 : ((x : Int) / 4294967296 == 0) = false := beq_eq_false_iff_ne.2 (by omega)
    obtain ⟨lo, hlo⟩ : ∃ lo, (x : Int) % 4294967296 = lo := ⟨_, rfl⟩
    obtain ⟨hi, hhi⟩ : ∃ hi, (x : Int) / 4294967296 = hi := ⟨_, rfl⟩
    have HO : Hid (OwnW (w.alloc (.cells #[.int .u32 lo, .int .u32 hi] 88)) w.heap.size w.heap.size 2 [lo, hi]) := World.ownsRow_lit w #[.int .u32 lo, .int .u32 hi] 2 (Nat.le_refl _) (by simp [maxLen]) rfl
    have HW : Hid (Wd [lo, hi] ∧ Trimmed [lo, hi] ∧ val [lo, hi] = x) := ⟨Wd.cons (by omega) (Wd.one (by omega)), by show sz _ = _; rw [sz_eq_iff]; right; simp; omega, by rw [val_two]; omega⟩
    have hi1 : hi ≤ 4294967295 := by omega
    have hi0 : 0 ≤ hi := by omega
    rw [hhi] at h1
    clear hb hx h0
    go_enter Tryz.func64, Tryz.ntmps64
    go_wp2_with fail
    go_ret
    exact ⟨[lo, hi], rfl, HO.out, HW.out.1, HW.out.2.1, HW.out.2.2, by simp, alloc_later _ _⟩

end Go.Proofs.YtabkgpnckaaclaaGreatDoor

/- real.fraction: what a float that was taken apart is, in lowest terms, in new memory. -/
namespace Go.Proofs.YtabkgpnckaaclaaGreatDoor
open Go.RowKit
set_option linter.unusedVariables false

theorem below_alloc1 {w w' : World} (h : Below w.heap.size w w') (o : Obj) : Below w.heap.size w (w'.alloc o) := bt h (alloc_later _ _)
theorem box_after {ww w2 : World} {b t : Nat} {u0 u1 u2 : Value} (hb : Below ww.heap.size ww w2) (h : Box ww b t #[u0, u1, u2]) : w2.cell? ⟨b, 0, none⟩ = some u0 ∧ w2.cell? ⟨b, 1, none⟩ = some u1 ∧ w2.cell? ⟨b, 2, none⟩ = some u2 ∧ w2.frozen? ⟨b, 0, none⟩ = false ∧ w2.frozen? ⟨b, 1, none⟩ = false ∧ w2.frozen? ⟨b, 2, none⟩ = false := res_box3 h hb
theorem below_frozen {ww w2 : World} {b j : Nat} (hb : Below ww.heap.size ww w2) (h : b < ww.heap.size) : w2.frozen? ⟨b, j, none⟩ = ww.frozen? ⟨b, j, none⟩ := by
  unfold World.frozen?
  rw [hb.block b h]
theorem cast_div_two (m k : Nat) : (m : Int) / 2 ^ k = ((m / 2 ^ k : Nat) : Int) := by
  rw [Int.natCast_ediv, Int.natCast_pow]; rfl
theorem div_odd {m k d : Nat} (hm : m < 18446744073709551616) (h0 : m ≠ 0) (hk : Lib.ctz 64 m = k) (hd : m / 2 ^ k = d) : d < 18446744073709551616 ∧ d ≠ 0 := by
  obtain ⟨j, hj, _⟩ := Lib.ctzFrom_spec 64 m (by omega) hm
  have e : Lib.ctzFrom 64 m = k := by rw [← hk]; unfold Lib.ctz; rw [if_neg h0]
  rw [e] at hj
  have hp : 0 < 2 ^ k := Nat.two_pow_pos k
  have e2 : d = 2 * j + 1 := by rw [← hd]; conv => lhs; rw [hj]
                                exact Nat.mul_div_cancel_left _ hp
  refine ⟨?_, by omega⟩
  rw [← hd]
  exact Nat.lt_of_le_of_lt (Nat.div_le_self _ _) hm

/-- What the fraction's first statement leaves: its box, the words of the count, the one. -/
def FinF (w0 W : World) (s : Bool) (d : Nat) (p g1 g2 : Nat) (ys : List Int) : Prop :=
  Box W p 25 #[.bool s, .slice (some ⟨g1, 0, none⟩) ys.length ys.length, .slice (some ⟨g2, 0, none⟩) 1 1] ∧ OwnW W w0.heap.size g1 ys.length ys ∧ OwnW W w0.heap.size g2 1 [1] ∧ (Wd ys ∧ Trimmed ys ∧ val ys = d ∧ ys.length ≤ 2) ∧ g1 ≠ g2 ∧ w0.heap.size ≤ p ∧ Below w0.heap.size w0 W
def WordsE (U w2 : World) (d : Nat) (ys : List Int) : Prop := OwnW w2 U.heap.size U.heap.size ys.length ys ∧ Wd ys ∧ Trimmed ys ∧ val ys = d ∧ ys.length ≤ 2 ∧ Below U.heap.size U w2
theorem undrew {U w2 : World} {d : Nat} {ys : List Int} (h : WordsE U.drew w2 d ys) : WordsE U w2 d ys := ⟨h.1, h.2.1, h.2.2.1, h.2.2.2.1, h.2.2.2.2.1, ⟨h.2.2.2.2.2.os, h.2.2.2.2.2.tape, h.2.2.2.2.2.output, h.2.2.2.2.2.size, h.2.2.2.2.2.block⟩⟩
theorem one_row (V : World) {b : Nat} (hb : b ≤ V.heap.size) : OwnW (V.alloc (.cells #[.int .u32 1] 88)) b V.heap.size 1 [1] := owns_base (World.ownsRow_lit V #[.int .u32 1] 1 (Nat.le_refl _) (by simp [maxLen]) rfl) hb
theorem own_up {V : World} {b g n : Nat} {ys : List Int} (h : OwnW V b g n ys) (o : Obj) : OwnW (V.alloc o) b g n ys := owns_later h (alloc_later _ _)
theorem Box.put3' {U : World} {b t : Nat} {u0 u1 u2 : Value} (h : Box U b t #[u0, u1, u2]) (v0 v1 v2 : Value) : Box (((U.setCell ⟨b, 0, none⟩ v0).setCell ⟨b, 1, none⟩ v1).setCell ⟨b, 2, none⟩ v2) b t #[v0, v1, v2] := ((h.set 0 v0).set 1 v1).set 2 v2
theorem OwnW.put3' {U : World} {b g n p t : Nat} {ys : List Int} {vs : Array Value} (h : OwnW U b g n ys) (hb : Box U p t vs) (hne : 88 ≠ t) (v0 v1 v2 : Value) : OwnW (((U.setCell ⟨p, 0, none⟩ v0).setCell ⟨p, 1, none⟩ v1).setCell ⟨p, 2, none⟩ v2) b g n ys := own_put3 h p (own_ne_box h hb hne) v0 v1 v2

theorem fin1 {w1 w2 : World} {s : Bool} {d : Nat} {ys : List Int} (h : WordsE w1 w2 d ys) : FinF w1 ((w2.alloc (.cells #[.int .u32 1] 88)).alloc (.cells #[.bool s, .slice (some ⟨w1.heap.size, 0, none⟩) ys.length ys.length, .slice (some ⟨w2.heap.size, 0, none⟩) 1 1] 25)) s d (w2.heap.size + 1) w1.heap.size w2.heap.size ys := by
  obtain ⟨h1, h2, h3, h4, h5, h6⟩ := h
  have e := Box.made (w2.alloc (.cells #[.int .u32 1] 88)) 25 #[.bool s, .slice (some ⟨w1.heap.size, 0, none⟩) ys.length ys.length, .slice (some ⟨w2.heap.size, 0, none⟩) 1 1]
  rw [World.size_alloc] at e
  exact ⟨e, own_up (own_up h1 _) _, own_up (one_row w2 h6.size) _, ⟨h2, h3, h4, h5⟩, by have := h1.base.2; omega, by have := h6.size; omega, bt h6 (bt (alloc_later _ _) (alloc_later _ _))⟩
theorem fin2 {w1 w2 : World} {s : Bool} {d : Nat} {ys : List Int} (h : WordsE w1 w2 d ys) : FinF w1 ((w2.alloc (.cells #[.bool s, .slice (some ⟨w1.heap.size, 0, none⟩) ys.length ys.length, .slice (some ⟨w2.heap.size + 1, 0, none⟩) 1 1] 25)).alloc (.cells #[.int .u32 1] 88)) s d w2.heap.size w1.heap.size (w2.heap.size + 1) ys := by
  obtain ⟨h1, h2, h3, h4, h5, h6⟩ := h
  have e := (Box.made w2 25 #[.bool s, .slice (some ⟨w1.heap.size, 0, none⟩) ys.length ys.length, .slice (some ⟨w2.heap.size + 1, 0, none⟩) 1 1]).later (alloc_later _ (.cells #[.int .u32 1] 88)) (by simp)
  have r := one_row (w2.alloc (.cells #[.bool s, .slice (some ⟨w1.heap.size, 0, none⟩) ys.length ys.length, .slice (some ⟨w2.heap.size + 1, 0, none⟩) 1 1] 25)) (b := w1.heap.size) (by rw [World.size_alloc]; have := h6.size; omega)
  rw [World.size_alloc] at r
  exact ⟨e, own_up (own_up h1 _) _, r, ⟨h2, h3, h4, h5⟩, by have := h1.base.2; omega, h6.size, bt h6 (bt (alloc_later _ _) (alloc_later _ _))⟩
theorem fin3 {w1 w2 : World} {s : Bool} {d : Nat} {ys : List Int} (h : WordsE (w1.alloc (.cells #[.int .u32 1] 88)) w2 d ys) : FinF w1 (w2.alloc (.cells #[.bool s, .slice (some ⟨w1.heap.size + 1, 0, none⟩) ys.length ys.length, .slice (some ⟨w1.heap.size, 0, none⟩) 1 1] 25)) s d w2.heap.size (w1.heap.size + 1) w1.heap.size ys := by
  obtain ⟨h1, h2, h3, h4, h5, h6⟩ := h
  rw [World.size_alloc] at h1
  exact ⟨Box.made w2 25 _, own_up (owns_base h1 (by omega)) _, own_up (owns_later (one_row w1 (Nat.le_refl _)) h6) _, ⟨h2, h3, h4, h5⟩, by omega, (bt (alloc_later _ _) h6).size, bt (bt (alloc_later _ _) h6) (alloc_later _ _)⟩
theorem fin4 {w1 w2 : World} {s : Bool} {d : Nat} {ys : List Int} (h : WordsE ((w1.alloc (.cells #[.int .u32 1] 88)).alloc (.cells #[.bool false, .slice none 0 0, .slice none 0 0] 25)) w2 d ys) : FinF w1 (((w2.setCell ⟨w1.heap.size + 1, 0, none⟩ (.bool s)).setCell ⟨w1.heap.size + 1, 1, none⟩ (.slice (some ⟨w1.heap.size + 1 + 1, 0, none⟩) ys.length ys.length)).setCell ⟨w1.heap.size + 1, 2, none⟩ (.slice (some ⟨w1.heap.size, 0, none⟩) 1 1)) s d (w1.heap.size + 1) (w1.heap.size + 1 + 1) w1.heap.size ys := by
  obtain ⟨h1, h2, h3, h4, h5, h6⟩ := h
  rw [World.size_alloc, World.size_alloc] at h1
  have b0 := Box.made (w1.alloc (.cells #[.int .u32 1] 88)) 25 #[.bool false, .slice none 0 0, .slice none 0 0]
  have b1 := b0.later h6 b0.lt
  rw [World.size_alloc] at b1
  have r := owns_later (own_up (one_row w1 (Nat.le_refl _)) (.cells #[.bool false, .slice none 0 0, .slice none 0 0] 25)) h6
  exact ⟨b1.put3' _ _ _, OwnW.put3' (owns_base h1 (by omega)) b1 (by decide) _ _ _, OwnW.put3' r b1 (by decide) _ _ _, ⟨h2, h3, h4, h5⟩, by omega, by omega, below_put3 (bt (bt (alloc_later _ _) (alloc_later _ _)) h6) _ (by omega) _ _ _⟩
theorem fin5 {w1 w2 : World} {s : Bool} {d : Nat} {ys : List Int} (h : WordsE (w1.alloc (.cells #[.bool false, .slice none 0 0, .slice none 0 0] 25)) w2 d ys) : FinF w1 ((((w2.setCell ⟨w1.heap.size, 0, none⟩ (.bool s)).setCell ⟨w1.heap.size, 1, none⟩ (.slice (some ⟨w1.heap.size + 1, 0, none⟩) ys.length ys.length)).setCell ⟨w1.heap.size, 2, none⟩ (.slice (some ⟨w2.heap.size, 0, none⟩) 1 1)).alloc (.cells #[.int .u32 1] 88)) s d w1.heap.size (w1.heap.size + 1) w2.heap.size ys := by
  obtain ⟨h1, h2, h3, h4, h5, h6⟩ := h
  rw [World.size_alloc] at h1
  have b0 := Box.made w1 25 #[.bool false, .slice none 0 0, .slice none 0 0]
  have b1 := b0.later h6 b0.lt
  have hsz : (((w2.setCell ⟨w1.heap.size, 0, none⟩ (.bool s)).setCell ⟨w1.heap.size, 1, none⟩ (.slice (some ⟨w1.heap.size + 1, 0, none⟩) ys.length ys.length)).setCell ⟨w1.heap.size, 2, none⟩ (.slice (some ⟨w2.heap.size, 0, none⟩) 1 1)).heap.size = w2.heap.size := by simp [World.setCell]
  have r := one_row (((w2.setCell ⟨w1.heap.size, 0, none⟩ (.bool s)).setCell ⟨w1.heap.size, 1, none⟩ (.slice (some ⟨w1.heap.size + 1, 0, none⟩) ys.length ys.length)).setCell ⟨w1.heap.size, 2, none⟩ (.slice (some ⟨w2.heap.size, 0, none⟩) 1 1)) (b := w1.heap.size) (by rw [hsz]; exact (bt (alloc_later _ _) h6).size)
  rw [hsz] at r
  have b2 := (b1.put3' (.bool s) (.slice (some ⟨w1.heap.size + 1, 0, none⟩) ys.length ys.length) (.slice (some ⟨w2.heap.size, 0, none⟩) 1 1))
  exact ⟨b2.later (alloc_later _ _) b2.lt, own_up (OwnW.put3' (owns_base h1 (by omega)) b1 (by decide) _ _ _) _, r, ⟨h2, h3, h4, h5⟩, by have := h1.base.2; omega, Nat.le_refl _, bt (below_put3 (bt (alloc_later _ _) h6) _ (Nat.le_refl _) _ _ _) (alloc_later _ _)⟩
theorem fin6 {w1 w2 : World} {s : Bool} {d : Nat} {ys : List Int} (h : WordsE ((w1.alloc (.cells #[.bool false, .slice none 0 0, .slice none 0 0] 25)).alloc (.cells #[.int .u32 1] 88)) w2 d ys) : FinF w1 (((w2.setCell ⟨w1.heap.size, 0, none⟩ (.bool s)).setCell ⟨w1.heap.size, 1, none⟩ (.slice (some ⟨w1.heap.size + 1 + 1, 0, none⟩) ys.length ys.length)).setCell ⟨w1.heap.size, 2, none⟩ (.slice (some ⟨w1.heap.size + 1, 0, none⟩) 1 1)) s d w1.heap.size (w1.heap.size + 1 + 1) (w1.heap.size + 1) ys := by
  obtain ⟨h1, h2, h3, h4, h5, h6⟩ := h
  rw [World.size_alloc, World.size_alloc] at h1
  have b0 := (Box.made w1 25 #[.bool false, .slice none 0 0, .slice none 0 0]).later (alloc_later _ (.cells #[.int .u32 1] 88)) (by simp)
  have b1 := b0.later h6 b0.lt
  have r := owns_later (one_row (w1.alloc (.cells #[.bool false, .slice none 0 0, .slice none 0 0] 25)) (b := w1.heap.size) (by rw [World.size_alloc]; omega)) h6
  rw [World.size_alloc] at r
  exact ⟨b1.put3' _ _ _, OwnW.put3' (owns_base h1 (by omega)) b1 (by decide) _ _ _, OwnW.put3' r b1 (by decide) _ _ _, ⟨h2, h3, h4, h5⟩, by omega, by omega, below_put3 (bt (bt (alloc_later _ _) (alloc_later _ _)) h6) _ (Nat.le_refl _) _ _ _⟩

end Go.Proofs.YtabkgpnckaaclaaGreatDoor

/- real.begin: two numbers shifted till they have as many bits as each other. -/
namespace Go.Proofs.YtabkgpnckaaclaaGreatDoor
open Go.RowKit
set_option linter.unusedVariables false

theorem cell_made1 (W : World) (t : Nat) : (W.alloc (.cells #[.int .u32 0] t)).cell? ⟨W.heap.size, 0, none⟩ = some (.int .u32 0) := (Box.made W t #[.int .u32 0]).cell 0
theorem cell_made2 (W : World) (t : Nat) (o : Obj) : ((W.alloc (.cells #[.int .u32 0] t)).alloc o).cell? ⟨W.heap.size, 0, none⟩ = some (.int .u32 0) := ((Box.made W t #[.int .u32 0]).later (alloc_later _ _) (Box.made W t #[.int .u32 0]).lt).cell 0
theorem cell_made3 (W : World) (t : Nat) (o : Obj) : ((W.alloc o).alloc (.cells #[.int .u32 0] t)).cell? ⟨W.heap.size + 1, 0, none⟩ = some (.int .u32 0) := by
  have h := (Box.made (W.alloc o) t #[.int .u32 0]).cell 0
  rw [show (W.alloc o).heap.size = W.heap.size + 1 by simp] at h
  exact h
theorem cell_kept2 {W v : World} {t : Nat} {o : Obj} (b : Below ((W.alloc (.cells #[.int .u32 0] t)).alloc o).drew.heap.size ((W.alloc (.cells #[.int .u32 0] t)).alloc o).drew v) : v.cell? ⟨W.heap.size, 0, none⟩ = some (.int .u32 0) :=
  (b.cell (p := ⟨W.heap.size, 0, none⟩) (by simp; omega)).trans (cell_made2 W t o)
theorem cell_kept3 {W v : World} {t : Nat} {o : Obj} (b : Below ((W.alloc o).alloc (.cells #[.int .u32 0] t)).drew.heap.size ((W.alloc o).alloc (.cells #[.int .u32 0] t)).drew v) : v.cell? ⟨W.heap.size + 1, 0, none⟩ = some (.int .u32 0) :=
  (b.cell (p := ⟨W.heap.size + 1, 0, none⟩) (by simp)).trans (cell_made3 W t o)

theorem step_grow1 {ops : Array Oper} {o : Oper} {act : Act} {w : World} {K : Act → World → Prop} {Q : Exit → Act → World → Prop} {E : Prop} (X : World) (hX : Below X.heap.size X w)
    (hg : o.guard = none) (s x : Operand) (hop : o.op = Op.call { callee := Callee.builtin Builtin.append, args := #[s, x], argTypes := #[23, 23] })
    (g n : Nat) (base : Nat) (xs : List Int) (hs : act.eval s = .slice (some ⟨g, 0, none⟩) n n) (hown : OwnC w base g n n xs)
    (b : Nat) (hx : act.eval x = .slice (some ⟨b, 0, none⟩) 1 1) (hb : w.cell? ⟨b, 0, none⟩ = some (.int .u32 0)) (hn : n ≤ 1048576)
    (hK : ∀ g' c' w', OwnC w' X.heap.size g' (n + 1) c' (xs ++ [0]) → Below X.heap.size X w' → Below w.heap.size w w' → K (act.put o.dst (.slice (some ⟨g', 0, none⟩) (n + 1) c')) w') :
    if Region.wanted o (yielded ops act.tmps) = true then Oper.wp Tryz.prog o act w K Q else E :=
  step_grow0 hg s x hop g n base xs hs hown b hx hb hn (fun g' c' w' o1 b1 => hK g' c' w' (owns_base o1 hX.size) (bt hX b1) b1)
theorem dbl_pow (a P : Int) : 2 * (a * P) = a * (P * 2) := by grind
theorem val_end0 (ls : List Int) : val (ls ++ [0]) = val ls := val_eq_of fun j => by
  rw [List.getElem?_append]
  split
  · rfl
  · rename_i h
    rw [List.getElem?_eq_none (by omega : ls.length ≤ j)]
    rcases Nat.eq_zero_or_pos (j - ls.length) with g | g
    · rw [g]; rfl
    · rw [List.getElem?_eq_none (by simp; omega)]
/-- What stands behind the two appends. -/
structure BegCut (w : World) (pd k : Nat) (p : Int) (zs us : List Int) (wx : World) : Prop where
  rows : ∃ g1 c1 g2 c2, OwnC wx w.heap.size g1 (k + 1) c1 (zs ++ [0]) ∧ OwnC wx w.heap.size g2 (k + 1) c2 (us ++ [0]) ∧ g1 ≠ g2 ∧ g1 ≠ pd ∧ g2 ≠ pd ∧ Box wx pd 96 #[.slice (some ⟨g1, 0, none⟩) (k + 1) c1, .slice (some ⟨g2, 0, none⟩) (k + 1) c2, .int .i64 p]
  res : Box wx w.heap.size 96 #[.slice none 0 0, .slice none 0 0, .int .i64 0]
  bel : Below w.heap.size w wx
theorem own_set {W : World} {base g n cap pd j : Nat} {ys : List Int} {v : Value} (h : OwnC W base g n cap ys) (hne : g ≠ pd) : OwnC (W.setCell ⟨pd, j, none⟩ v) base g n cap ys := ownsRow_setCell_other h (by simp [Value.ownBlock]; exact hne) _
theorem beg_fin {w X v1 v2 : World} {pd k : Nat} {p : Int} {zs us : List Int} {a b : Value} {g1 c1 g2 c2 : Nat} (hbw : Below w.heap.size w X) (hbx : Box X pd 96 #[a, b, .int .i64 p]) (hr : Box X w.heap.size 96 #[.slice none 0 0, .slice none 0 0, .int .i64 0]) (hpd : w.heap.size < pd)
    (hb1 : Below X.heap.size X v1) (o1 : OwnC v1 X.heap.size g1 (k + 1) c1 (zs ++ [0])) (hb2 : Below v1.heap.size v1 v2) (o2 : OwnC v2 v1.heap.size g2 (k + 1) c2 (us ++ [0])) :
    BegCut w pd k p zs us ((v2.setCell ⟨pd, 0, none⟩ (.slice (some ⟨g1, 0, none⟩) (k + 1) c1)).setCell ⟨pd, 1, none⟩ (.slice (some ⟨g2, 0, none⟩) (k + 1) c2)) := by
  have l1 := o1.base
  have l2 := o2.base
  have lp := hbx.lt
  have s1 := hb1.size
  have s0 := hbw.size
  have n1 : g1 ≠ pd := by omega
  have n2 : g2 ≠ pd := by omega
  have hB := bt hb1 hb2
  refine ⟨⟨g1, c1, g2, c2, owns_base (own_set (own_set (owns_later o1 hb2) n1) n1) s0, owns_base (own_set (own_set o2 n2) n2) (by omega), by omega, n1, n2, ?_⟩, ?_, ?_⟩
  · exact ((hbx.later hB lp).set 0 _).set 1 _
  · exact ((hr.later hB hr.lt).other ⟨pd, 0, none⟩ _ (by show w.heap.size ≠ pd; omega)).other ⟨pd, 1, none⟩ _ (by show w.heap.size ≠ pd; omega)
  · exact ((bt hbw hB).setCell (p := ⟨pd, 0, none⟩) (by show w.heap.size ≤ pd; omega) _).setCell (p := ⟨pd, 1, none⟩) (by show w.heap.size ≤ pd; omega) _

set_option maxHeartbeats 1600000 in
set_option maxRecDepth 100000 in
theorem begin_any (a : Option Addr) (n cap : Nat) (xs : List Int) (b : Option Addr) (m cap' : Nat) (ys : List Int) (w : World) (h : Reads w w.heap.size a (n + 1) cap xs) (g : Reads w w.heap.size b (m + 1) cap' ys) (hn : n ≤ 2048) (hm : m ≤ 2048) (tx : Trimmed xs) (ty : Trimmed ys) :
    Calls Tryz.prog 71 #[.slice a (n + 1) cap, .slice b (m + 1) cap'] w fun e w' => ∃ (g1 g2 N c1 c2 : Nat) (R B : List Int) (i j : Nat), e = .returned (.agg #[.slice (some ⟨g1, 0, none⟩) N c1, .slice (some ⟨g2, 0, none⟩) N c2, .int .i64 ((j : Int) - (i : Int))]) ∧ OwnC w' w.heap.size g1 N c1 R ∧ OwnC w' w.heap.size g2 N c2 B ∧ Wd R ∧ Wd B ∧ g1 ≠ g2 ∧ N ≤ 2050 ∧ i ≤ 65601 ∧ j ≤ 65600 ∧ val R = val xs * 2 ^ i ∧ val B = val ys * 2 ^ j ∧ val B ≤ val R ∧ val R < 2 * val B ∧ 2 * val B < 4294967296 ^ N ∧ Below w.heap.size w w' := by
  obtain ⟨X0, hX0⟩ : ∃ X0, w.alloc (.cells #[.slice none 0 0, .slice none 0 0, .int .i64 0] 96) = X0 := ⟨_, rfl⟩
  have hb0 : Below w.heap.size w X0 := by rw [← hX0]; exact alloc_later _ _
  have HB0 := hid hb0
  have HR0 : Hid (Box X0 w.heap.size 96 #[.slice none 0 0, .slice none 0 0, .int .i64 0]) := by rw [← hX0]; exact Box.made w _ _
  have HX := hid h
  have HY := hid g
  have sx : sz xs = n + 1 := by rw [tx]; exact h.1
  have sy : sz ys = m + 1 := by rw [ty]; exact g.1
  obtain ⟨a1, a2, a3, a4, a5⟩ := bits_bounds h.2.1 (by omega)
  obtain ⟨b1, b2, b3, b4, b5⟩ := bits_bounds g.2.1 (by omega)
  have HLX := hid (rlength_any a n cap xs X0 (h.later hb0 hb0.size) (by omega) tx)
  have HLY := hid (rlength_any b m cap' ys X0 (g.later hb0 hb0.size) (by omega) ty)
  have HSX : Hid (∀ V, Below w.heap.size w V → Calls Tryz.prog 65 #[.slice a (n + 1) cap, .int .i64 ((bitsOf ys - bitsOf xs : Nat) : Int)] V fun e w' => ∃ ys' : List Int, e = .returned (.slice (some ⟨V.heap.size, 0, none⟩) ys'.length ys'.length) ∧ OwnW w' V.heap.size V.heap.size ys'.length ys' ∧ Wd ys' ∧ Trimmed ys' ∧ val ys' = val xs * 2 ^ (bitsOf ys - bitsOf xs) ∧ Below V.heap.size V w') := fun V hv => rshifted_s a n cap xs _ V (h.later hv hv.size) (by omega) tx (by omega)
  have HSY : Hid (∀ V, Below w.heap.size w V → Calls Tryz.prog 65 #[.slice b (m + 1) cap', .int .i64 ((bitsOf xs - bitsOf ys : Nat) : Int)] V fun e w' => ∃ ys' : List Int, e = .returned (.slice (some ⟨V.heap.size, 0, none⟩) ys'.length ys'.length) ∧ OwnW w' V.heap.size V.heap.size ys'.length ys' ∧ Wd ys' ∧ Trimmed ys' ∧ val ys' = val ys * 2 ^ (bitsOf xs - bitsOf ys) ∧ Below V.heap.size V w') := fun V hv => rshifted_s b m cap' ys _ V (g.later hv hv.size) (by omega) ty (by omega)
  have HBV := hid (fun zs us => begin_vals (zs := zs) (us := us) h.2.1 (by omega) g.2.1 (by omega))
  have lx : bitsOf xs ≤ 65600 := by omega
  have ly : bitsOf ys ≤ 65600 := by omega
  have hl1 : (bitsOf ys - bitsOf xs : Nat) ≤ 65600 := by omega
  have hl2 : (bitsOf xs - bitsOf ys : Nat) ≤ 65600 := by omega
  obtain ⟨p, hp⟩ : ∃ p, (bitsOf xs : Int) - (bitsOf ys : Int) = p := ⟨_, rfl⟩
  have HPP := hid hp
  have m1 : ∀ (ts : Array TypeId) (t : TypeId) (P : Program) (W : World), (Builtin.max_ ts t #[.int .i64 0, .int .i64 (-p)]).run P W = .ok (.int .i64 ((bitsOf ys - bitsOf xs : Nat) : Int)) W := fun ts t P W => by
    rw [run_max_int2]; split <;> (congr 2; omega)
  have m2 : ∀ (ts : Array TypeId) (t : TypeId) (P : Program) (W : World), (Builtin.max_ ts t #[.int .i64 0, .int .i64 p]).run P W = .ok (.int .i64 ((bitsOf xs - bitsOf ys : Nat) : Int)) W := fun ts t P W => by
    rw [run_max_int2]; split <;> (congr 2; omega)
  have HP : Hid (p = ((bitsOf xs - bitsOf ys : Nat) : Int) - ((bitsOf ys - bitsOf xs : Nat) : Int)) := by show _ = _; omega
  have p0 : -65600 ≤ p := by omega
  have p1 : p ≤ 65600 := by omega
  generalize bitsOf ys - bitsOf xs = s1 at *
  generalize bitsOf xs - bitsOf ys = s2 at *
  generalize bitsOf xs = Lx at *
  generalize bitsOf ys = Ly at *
  clear HPP a1 a2 a3 a4 a5 b1 b2 b3 b4 b5 h g sx sy tx ty hb0
  go_enter Tryz.func71, Tryz.ntmps71
  go_wp2_with fail
  refine Calls.mono HLX.out ?_
  rintro e w1 ⟨rfl, rfl⟩
  go_wp2_with fail
  refine Calls.mono HLY.out ?_
  rintro e w1 ⟨rfl, rfl⟩
  clear HLX HLY
  have HS1 := hid (HSX.out _ HB0.out)
  go_wp2_with fail
  refine Calls.mono HS1.out ?_
  rintro e w2 ⟨zs, rfl, oz, wz, tz, vz, bz⟩
  have HBZ := hid (bt HB0.out bz)
  have HS2 := hid (HSY.out _ HBZ.out)
  go_wp2_with fail
  refine Calls.mono HS2.out ?_
  rintro e w3 ⟨us, rfl, ou, wu, tu, vu, bu⟩
  clear HS1 HS2 HSX HSY
  obtain ⟨q1, q2, q3, q4, q5, q6, q7⟩ := HBV.out zs us wz tz wu tu vz vu
  rw [q1] at ou ⊢
  have hk : zs.length ≤ 2049 := by
    have e1 := HX.out.1
    have e2 := HY.out.1
    have e3 := sz_le xs
    have e4 := sz_le ys
    omega
  have HQ := hid (And.intro q4 (And.intro q5 (And.intro q6 q7)))
  clear HBV q1 q3 q4 q5 q6 q7 tz tu
  obtain ⟨k, hkk⟩ : ∃ k, zs.length = k := ⟨_, rfl⟩
  rw [hkk] at oz ou hk q2 HQ ⊢
  have HKK := hid hkk
  obtain ⟨X, hX⟩ : ∃ X, w3.alloc (.cells #[.slice (some ⟨w1.heap.size, 0, none⟩) k k, .slice (some ⟨w2.heap.size, 0, none⟩) k k, .int .i64 p] 96) = X := ⟨_, rfl⟩
  have bX : Below w3.heap.size w3 X := by rw [← hX]; exact alloc_later _ _
  have HBX : Hid (Box X w3.heap.size 96 #[.slice (some ⟨w1.heap.size, 0, none⟩) k k, .slice (some ⟨w2.heap.size, 0, none⟩) k k, .int .i64 p]) := by rw [← hX]; exact Box.made w3 _ _
  have HOZ : Hid (∀ V, Below X.heap.size X V → OwnC V w1.heap.size w1.heap.size k k zs) := fun V hv => owns_later (owns_later (owns_later oz bu) bX) hv
  have HOU : Hid (∀ V, Below X.heap.size X V → OwnC V w2.heap.size w2.heap.size k k us) := fun V hv => owns_later (owns_later ou bX) hv
  have HC : Hid (∀ V, Below X.heap.size X V → V.cell? ⟨w3.heap.size, 0, none⟩ = some (.slice (some ⟨w1.heap.size, 0, none⟩) k k) ∧ V.cell? ⟨w3.heap.size, 1, none⟩ = some (.slice (some ⟨w2.heap.size, 0, none⟩) k k) ∧ V.frozen? ⟨w3.heap.size, 0, none⟩ = false ∧ V.frozen? ⟨w3.heap.size, 1, none⟩ = false) := fun V hv => by
    have h := HBX.out.later hv HBX.out.lt
    exact ⟨h.cell 0, h.cell 1, h.free 0, h.free 1⟩
  obtain ⟨c0, c1, f0, f1⟩ := HC.out X (Below.refl _ _)
  have l0 : w3.heap.size < X.heap.size := HBX.out.lt
  have l0' := Nat.ne_of_lt l0
  have HBW := hid (bt HBZ.out (bt bu bX))
  have h12 : w1.heap.size < w2.heap.size := (OwnC.base (owns_later oz (Below.refl _ _))).2
  have h23 : w2.heap.size < w3.heap.size := (OwnC.base (owns_later ou (Below.refl _ _))).2
  have h01 : w.heap.size < w1.heap.size := HR0.out.lt
  have HR1 := hid (HR0.out.later (bt bz (bt bu bX)) HR0.out.lt)
  clear oz ou bz bu bX HB0 HR0 hX0 HBZ hkk
  go_upto_region 3 with fail
  clear hX
  go_cut [31] from 23 (fun s wx => Hid (BegCut w w3.heap.size k p zs us wx))
  case first =>
    go_region_law (first
      | (refine step_grow1 X ?_ rfl (.tmp 24) (.tmp 25) rfl w1.heap.size k w1.heap.size zs rfl (HOZ.out _ ?_) _ rfl ?_ (by omega) ?_
         · repeat' first | exact Below.refl _ _ | refine below_alloc1 ?_ _ | refine Below.drew ?_
         · repeat' first | exact Below.refl _ _ | refine below_alloc1 ?_ _ | refine Below.drew ?_
         · first | exact cell_made1 _ _ | exact cell_made2 _ _ _ | exact cell_made3 _ _ _
         intro g1' c1' v1 o1 hb1 b1
         obtain ⟨c0', c1'', f0', f1'⟩ := HC.out v1 hb1
         have n1 : w3.heap.size < v1.heap.size := Nat.lt_of_lt_of_le l0 hb1.size
         have n1' := Nat.ne_of_lt n1)
      | (refine step_grow1 v1 ?_ rfl (.tmp 28) (.tmp 29) rfl w2.heap.size k w2.heap.size us rfl (HOU.out _ ?_) _ rfl ?_ (by omega) ?_
         · repeat' first | exact Below.refl _ _ | refine below_alloc1 ?_ _ | refine Below.drew ?_
         · repeat' first | exact hb1 | refine below_alloc1 ?_ _ | refine Below.drew ?_
         · first | exact cell_made1 _ _ | exact cell_kept2 b1 | exact cell_kept3 b1
         intro g2' c2' v2 o2 hb2 b2
         obtain ⟨d0', d1', e0', e1'⟩ := HC.out v2 (bt hb1 hb2)
         have n2 : w3.heap.size < v2.heap.size := Nat.lt_of_lt_of_le n1 hb2.size
         have n2' := Nat.ne_of_lt n2))
    all_goals
      go_wp2_with fail
      go_meet
      case rel => exact beg_fin HBW.out HBX.out HR1.out (Nat.lt_trans h01 (Nat.lt_trans h12 h23)) hb1 o1 hb2 o2
  case rest =>
    obtain ⟨g1, c1', g2, c2', o1, o2, hne, n1, n2, hbx⟩ := hcut.out.rows
    have HRES := hid hcut.out.res
    have HBEL := hid hcut.out.bel
    have hpd : w.heap.size < w3.heap.size := Nat.lt_trans h01 (Nat.lt_trans h12 h23)
    clear hcut HOZ HOU HC c0 c1 f0 f1 l0 l0' HBW h12 h23 h01 HR1 HBX m1 m2 hp lx ly
    generalize w3.heap.size = pd at *
    have r1 : g1 ≠ w.heap.size := own_ne_box o1 HRES.out (by decide) g1 rfl
    have r2 : g2 ≠ w.heap.size := own_ne_box o2 HRES.out (by decide) g2 rfl
    have vz0 : val (zs ++ [0]) = val zs := val_end0 zs
    have vu0 : val (us ++ [0]) = val us := val_end0 us
    have wz0 : Wd (zs ++ [0]) := wz.append (Wd.one (by omega))
    have wu0 : Wd (us ++ [0]) := wu.append (Wd.one (by omega))
    have HCM := hid (rcompare_any (some ⟨g1, 0, none⟩) (k + 1) c1' (zs ++ [0]) (some ⟨g2, 0, none⟩) c2' (us ++ [0]) wc (readsC o1 wz0) (readsC o2 wu0) (by omega))
    rw [vz0, vu0] at HCM
    have HBX := hid hbx
    have HO1 := hid o1
    have HO2 := hid o2
    have HV := hid (And.intro vz vu)
    have HW0 := hid (And.intro wz0 wu0)
    have HV0 := hid (And.intro vz0 vu0)
    have d0 : wc.cell? ⟨pd, 0, none⟩ = some (.slice (some ⟨g1, 0, none⟩) (k + 1) c1') := hbx.cell 0
    have d1 : wc.cell? ⟨pd, 1, none⟩ = some (.slice (some ⟨g2, 0, none⟩) (k + 1) c2') := hbx.cell 1
    clear o1 o2 hbx wz wu wz0 wu0 vz vu vz0 vu0
    have hRb : w.heap.size < wc.heap.size := HRES.out.lt
    have hPb : pd < wc.heap.size := HBX.out.lt
    by_cases hlt : val zs < val us
    · have hc : cmpI (val zs) (val us) = -1 := cmpI_lt hlt
      rw [hc] at HCM
      have HLT := hid hlt
      clear hc hlt
      go_wp2_with fail
      refine Calls.mono HCM.out ?_
      rintro e w4 ⟨rfl, b4⟩
      have HB4 := hid b4
      have HX4 := hid (HBX.out.later b4 hPb)
      have HR4 := hid (HRES.out.later b4 hRb)
      have HO4 := hid (owns_later HO1.out b4 : OwnC w4 w.heap.size g1 (k + 1) c1' (zs ++ [0]))
      have HU4 := hid (owns_later HO2.out b4 : OwnC w4 w.heap.size g2 (k + 1) c2' (us ++ [0]))
      have HD := hid (rdouble_any w.heap.size g1 (k + 1) c1' (zs ++ [0]) w4 HO4.out HW0.out.1 (by omega))
      have d0' : w4.cell? ⟨pd, 0, none⟩ = some (.slice (some ⟨g1, 0, none⟩) (k + 1) c1') := HX4.out.cell 0
      clear HCM d0 d1 b4
      go_wp2_with fail
      refine Calls.mono HD.out ?_
      rintro e w5 ⟨rs, c, rfl, z1, z2, z3, z4, z5, z6⟩
      have HX5 := hid (HX4.out.keptBy z6 (Ne.symm n1))
      have HR5 := hid (HR4.out.keptBy z6 (Ne.symm r1))
      have HU5 := hid (OwnC.keptBy HU4.out z6 (Ne.symm hne))
      have HZV : Hid (val rs = 2 * val zs) := by
        have e := dbl_room z2 z1.len z4 z3 (by rw [HV0.out.1]; exact HQ.out.2.2.1)
        rw [HV0.out.1] at e
        exact e
      have hB5 : Below w.heap.size w w5 := (bt HBEL.out HB4.out).grown z6 (by have := HBEL.out.size; have := HB4.out.size; omega) (fun q hq => by cases hq; exact (OwnC.base HO4.out).1)
      have HB5 := hid hB5
      have HZ1 := hid z1
      have HZ2 := hid z2
      have p0' : w5.cell? ⟨pd, 0, none⟩ = some (.slice (some ⟨g1, 0, none⟩) (k + 1) c1') := HX5.out.cell 0
      have p1' : w5.cell? ⟨pd, 1, none⟩ = some (.slice (some ⟨g2, 0, none⟩) (k + 1) c2') := HX5.out.cell 1
      have p2' : w5.cell? ⟨pd, 2, none⟩ = some (.int .i64 p) := HX5.out.cell 2
      have q0' := HX5.out.free 2
      have q1' := HR5.out.free 0
      have q2' := HR5.out.free 1
      have q3' := HR5.out.free 2
      have t0' : w5.cell? ⟨w.heap.size, 0, none⟩ = some (.slice none 0 0) := HR5.out.cell 0
      have t1' : w5.cell? ⟨w.heap.size, 1, none⟩ = some (.slice none 0 0) := HR5.out.cell 1
      have t2' : w5.cell? ⟨w.heap.size, 2, none⟩ = some (.int .i64 0) := HR5.out.cell 2
      have hne' : w.heap.size ≠ pd := Nat.ne_of_lt hpd
      clear HD d0' z1 z2 z3 z4 z5 z6 hB5
      go_wp2_with fail
      have B1 := (((HR5.out.other ⟨pd, 2, none⟩ (.int .i64 (p - 1)) hne').set 0 (.slice (some ⟨g1, 0, none⟩) (k + 1) c1')).set 1 (.slice (some ⟨g2, 0, none⟩) (k + 1) c2')).set 2 (.int .i64 (p - 1))
      have hpj : p - 1 = (s2 : Int) - ((s1 + 1 : Nat) : Int) := by have := HP.out; omega
      refine bodyPost_ret (results_cell_row (by rfl) _ _ w.heap.size 96 _ (0, 0) _ (by rfl) B1 Tryz.underlying96 rfl (by kernel_rfl)) rfl ?_
      refine ⟨g1, g2, k + 1, c1', c2', rs, us ++ [0], s1 + 1, s2, by rw [← hpj]; rfl, own_set (own_set (own_set (own_set HZ1.out n1) r1) r1) r1, own_set (own_set (own_set (own_set HU5.out n2) r2) r2) r2, HZ2.out, HW0.out.2, hne, by omega, by omega, by omega, ?_, by rw [HV0.out.2]; exact HV.out.2, ?_, ?_, by rw [HV0.out.2]; exact HQ.out.2.2.2, ?_⟩
      · rw [HZV.out, HV.out.1, Int.pow_succ]; exact dbl_pow _ _
      · rw [HZV.out, HV0.out.2]; have := HQ.out.2.1; omega
      · rw [HZV.out, HV0.out.2]; have := HLT.out; omega
      · exact (((HB5.out.setCell (p := ⟨pd, 2, none⟩) (by show w.heap.size ≤ pd; omega) _).setCell (p := ⟨w.heap.size, 0, none⟩) (Nat.le_refl _) _).setCell (p := ⟨w.heap.size, 1, none⟩) (Nat.le_refl _) _).setCell (p := ⟨w.heap.size, 2, none⟩) (Nat.le_refl _) _
    · have hc : 0 ≤ cmpI (val zs) (val us) := by unfold cmpI; rw [if_neg hlt]; split <;> omega
      obtain ⟨cc, hcc⟩ : ∃ cc, cmpI (val zs) (val us) = cc := ⟨_, rfl⟩
      rw [hcc] at HCM hc
      have HLT := hid hlt
      clear hcc hlt
      go_wp2_with fail
      refine Calls.mono HCM.out ?_
      rintro e w4 ⟨rfl, b4⟩
      have HX4 := hid (HBX.out.later b4 hPb)
      have HR4 := hid (HRES.out.later b4 hRb)
      have HO4 := hid (owns_later HO1.out b4 : OwnC w4 w.heap.size g1 (k + 1) c1' (zs ++ [0]))
      have HU4 := hid (owns_later HO2.out b4 : OwnC w4 w.heap.size g2 (k + 1) c2' (us ++ [0]))
      have HB5 := hid (bt HBEL.out b4)
      have p0' : w4.cell? ⟨pd, 0, none⟩ = some (.slice (some ⟨g1, 0, none⟩) (k + 1) c1') := HX4.out.cell 0
      have p1' : w4.cell? ⟨pd, 1, none⟩ = some (.slice (some ⟨g2, 0, none⟩) (k + 1) c2') := HX4.out.cell 1
      have p2' : w4.cell? ⟨pd, 2, none⟩ = some (.int .i64 p) := HX4.out.cell 2
      have q1' := HR4.out.free 0
      have q2' := HR4.out.free 1
      have q3' := HR4.out.free 2
      have t0' : w4.cell? ⟨w.heap.size, 0, none⟩ = some (.slice none 0 0) := HR4.out.cell 0
      have t1' : w4.cell? ⟨w.heap.size, 1, none⟩ = some (.slice none 0 0) := HR4.out.cell 1
      have t2' : w4.cell? ⟨w.heap.size, 2, none⟩ = some (.int .i64 0) := HR4.out.cell 2
      have hne' : w.heap.size ≠ pd := Nat.ne_of_lt hpd
      clear HCM d0 d1 b4
      go_wp2_with fail
      have B1 := ((HR4.out.set 0 (.slice (some ⟨g1, 0, none⟩) (k + 1) c1')).set 1 (.slice (some ⟨g2, 0, none⟩) (k + 1) c2')).set 2 (.int .i64 p)
      have hpj : p = (s2 : Int) - (s1 : Int) := HP.out
      refine bodyPost_ret (results_cell_row (by rfl) _ _ w.heap.size 96 _ (0, 0) _ (by rfl) B1 Tryz.underlying96 rfl (by kernel_rfl)) rfl ?_
      refine ⟨g1, g2, k + 1, c1', c2', zs ++ [0], us ++ [0], s1, s2, by rw [← hpj]; rfl, own_set (own_set (own_set HO4.out r1) r1) r1, own_set (own_set (own_set HU4.out r2) r2) r2, HW0.out.1, HW0.out.2, hne, by omega, by omega, by omega, by rw [HV0.out.1]; exact HV.out.1, by rw [HV0.out.2]; exact HV.out.2, ?_, ?_, by rw [HV0.out.2]; exact HQ.out.2.2.2, ?_⟩
      · rw [HV0.out.1, HV0.out.2]; have := HLT.out; omega
      · rw [HV0.out.1, HV0.out.2]; exact HQ.out.1
      · exact ((HB5.out.setCell (p := ⟨w.heap.size, 0, none⟩) (Nat.le_refl _) _).setCell (p := ⟨w.heap.size, 1, none⟩) (Nat.le_refl _) _).setCell (p := ⟨w.heap.size, 2, none⟩) (Nat.le_refl _) _

end Go.Proofs.YtabkgpnckaaclaaGreatDoor

/- real.putTogether: the float of a count and a unit. -/
namespace Go.Proofs.YtabkgpnckaaclaaGreatDoor
open Go.RowKit
set_option linter.unusedVariables false

set_option maxHeartbeats 800000 in
set_option maxRecDepth 100000 in
theorem putTogether_any (s : Bool) (m E : Nat) (u : Int) (w : World) (hu : u = (E : Int) - 1074) (hE : E ≤ 2047) (hm : m ≤ 9007199254740992) :
    Calls Tryz.prog 75 #[.agg #[.bool s, .int .u64 (m : Int), .int .i64 u]] w fun e w' => e = .returned (.float .f64 (E * 4503599627370496 + m)) ∧ Below w.heap.size w w' := by
  subst hu
  have HF := from_run (E * 4503599627370496 + m)
  have h1 : (E : Int) - 1074 - -1074 = (E : Int) := by omega
  have h2 : ((E * 4503599627370496 + m : Nat) : Int) = (E : Int) * 4503599627370496 + (m : Int) := by omega
  rw [h2] at HF
  have hE2 : (E : Int) ≤ 2047 := by omega
  have hm2 : (m : Int) ≤ 9007199254740992 := by omega
  clear h2 hE hm
  go_enter Tryz.func75, Tryz.ntmps75
  go_wp2_with fail
  go_ret
  exact ⟨rfl, alloc_later _ _⟩

end Go.Proofs.YtabkgpnckaaclaaGreatDoor

