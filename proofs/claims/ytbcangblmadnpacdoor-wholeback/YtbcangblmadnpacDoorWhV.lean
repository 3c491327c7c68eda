/- Whole numbers: DivMod by nothing; a struct in memory. -/
import Derived.Test.YtbcangblmadnpacDoorWh10
namespace Go.Proofs.YtbcangblmadnpacDoor
open Go.RowKit
set_option linter.unusedVariables false

/-- A whole number in memory, and its words. -/
structure Vr (U : World) (b : Nat) (n : Bool) (a : Option Addr) (c : Nat) (xs : List Int) : Prop where
  box : Box U b 24 #[.bool n, .slice a xs.length c]
  sl : Sl U (.slice a xs.length c) xs
theorem Vr.later {U V : World} {b : Nat} {n : Bool} {a : Option Addr} {c : Nat} {xs : List Int} (h : Vr U b n a c xs) (hb : Below U.heap.size U V) : Vr V b n a c xs := ⟨h.box.later hb h.box.lt, h.sl.later hb⟩
theorem Vr.c0 {U : World} {b : Nat} {n : Bool} {a : Option Addr} {c : Nat} {xs : List Int} (h : Vr U b n a c xs) : U.cell? ⟨b, 0, none⟩ = some (.bool n) := h.box.cell 0
theorem Vr.c1 {U : World} {b : Nat} {n : Bool} {a : Option Addr} {c : Nat} {xs : List Int} (h : Vr U b n a c xs) : U.cell? ⟨b, 1, none⟩ = some (.slice a xs.length c) := h.box.cell 1
theorem Vr.new {U V : World} {n : Bool} {a : Option Addr} {c : Nat} {xs : List Int} (h : Sl U (.slice a xs.length c) xs) (hb : Below (U.alloc (.cells #[.bool n, .slice a xs.length c] 24)).heap.size (U.alloc (.cells #[.bool n, .slice a xs.length c] 24)) V) : Vr V U.heap.size n a c xs :=
  Vr.later ⟨Box.made U _ _, h.later (alloc_later _ _)⟩ hb

set_option maxHeartbeats 3200000 in
set_option maxRecDepth 100000 in
theorem wdivMod_zero (n : Bool) (v : Value) (xs : List Int) (m0 : Bool) (u : Value) (w : World) (h : Sl w v xs) (g : Sl w u []) (hx : wchk n xs = 0) (hy : wchk m0 [] = 0) :
    Calls Tryd.prog 19 #[.agg #[.bool n, v], .agg #[.bool m0, u]] w fun e w' => e = .returned (.tuple #[.agg #[.bool false, .slice none 0 0], .agg #[.bool false, .slice none 0 0], .int .i64 7]) ∧ Below w.heap.size w w' := by
  obtain ⟨lx, tx, _⟩ := wchk_ok hx
  obtain ⟨ys, hys⟩ : ∃ ys : List Int, ys = [] := ⟨_, rfl⟩
  rw [← hys] at g hy
  obtain ⟨a, cap, rfl, hr⟩ := h
  obtain ⟨b, cap', rfl, gr⟩ := g
  have h : Sl w (.slice a xs.length cap) xs := ⟨a, cap, rfl, hr⟩
  have g : Sl w (.slice b ys.length cap') ys := ⟨b, cap', rfl, gr⟩
  clear hr gr
  have HB : Hid (Below w.heap.size w ((((w.alloc (.cells #[.bool n, .slice a xs.length cap] 24)).alloc (.cells #[.bool m0, .slice b ys.length cap'] 24)).alloc (.cells #[.bool false, .slice none 0 0] 24)).alloc (.cells #[.bool false, .slice none 0 0] 24))) := bt (bt (bt (alloc_later _ _) (alloc_later _ _)) (alloc_later _ _)) (alloc_later _ _)
  have HM : Hid (Box ((((w.alloc (.cells #[.bool n, .slice a xs.length cap] 24)).alloc (.cells #[.bool m0, .slice b ys.length cap'] 24)).alloc (.cells #[.bool false, .slice none 0 0] 24)).alloc (.cells #[.bool false, .slice none 0 0] 24)) (w.heap.size + 1) 24 #[.bool m0, .slice b ys.length cap']) := by
    have e := Box.later (Box.made (w.alloc (.cells #[.bool n, .slice a xs.length cap] 24)) 24 #[.bool m0, .slice b ys.length cap']) (bt (alloc_later ((w.alloc (.cells #[.bool n, .slice a xs.length cap] 24)).alloc (.cells #[.bool m0, .slice b ys.length cap'] 24)) (.cells #[.bool false, .slice none 0 0] 24)) (alloc_later _ (.cells #[.bool false, .slice none 0 0] 24))) (by simp)
    simp at e
    exact e
  have HZ1 : Hid (Box ((((w.alloc (.cells #[.bool n, .slice a xs.length cap] 24)).alloc (.cells #[.bool m0, .slice b ys.length cap'] 24)).alloc (.cells #[.bool false, .slice none 0 0] 24)).alloc (.cells #[.bool false, .slice none 0 0] 24)) (w.heap.size + 1 + 1) 24 #[.bool false, .slice none 0 0]) := by
    have e := Box.later (Box.made ((w.alloc (.cells #[.bool n, .slice a xs.length cap] 24)).alloc (.cells #[.bool m0, .slice b ys.length cap'] 24)) 24 #[.bool false, .slice none 0 0]) (alloc_later (((w.alloc (.cells #[.bool n, .slice a xs.length cap] 24)).alloc (.cells #[.bool m0, .slice b ys.length cap'] 24)).alloc (.cells #[.bool false, .slice none 0 0] 24)) (.cells #[.bool false, .slice none 0 0] 24)) (by simp)
    simp at e
    exact e
  have HZ2 : Hid (Box ((((w.alloc (.cells #[.bool n, .slice a xs.length cap] 24)).alloc (.cells #[.bool m0, .slice b ys.length cap'] 24)).alloc (.cells #[.bool false, .slice none 0 0] 24)).alloc (.cells #[.bool false, .slice none 0 0] 24)) (w.heap.size + 1 + 1 + 1) 24 #[.bool false, .slice none 0 0]) := by
    have e := Box.made (((w.alloc (.cells #[.bool n, .slice a xs.length cap] 24)).alloc (.cells #[.bool m0, .slice b ys.length cap'] 24)).alloc (.cells #[.bool false, .slice none 0 0] 24)) 24 #[.bool false, .slice none 0 0]
    simp at e
    exact e
  have HCB := hid (wcheckBoth_any n _ xs m0 _ ys _ (h.later HB.out) (g.later HB.out) (by omega) (by rw [hys]; simp))
  rw [wboth_good hx hy] at HCB
  have hyl : ys.length = 0 := by rw [hys]; rfl
  rw [hyl] at HB HM HZ1 HZ2 HCB ⊢
  clear h g hx hy hyl hys
  go_enter Tryd.func19, Tryd.ntmps19
  go_wp2_with fail
  refine Calls.mono HCB.out ?_
  rintro e w1 ⟨rfl, hb1⟩
  obtain ⟨q0, q1, _, _⟩ := res_box HM.out hb1
  obtain ⟨r0, r1, f0, f1⟩ := res_box HZ1.out hb1
  obtain ⟨s0, s1, g0, g1⟩ := res_box HZ2.out hb1
  have HBW := hid (bt HB.out hb1)
  clear hb1
  go_wp2_with fail
  go_region
  all_goals
    go_wp2_with fail
    refine bodyPost_ret (v := .tuple #[.agg #[.bool false, .slice none 0 0], .agg #[.bool false, .slice none 0 0], .int .i64 7]) (by simp [results, Tryd.results19, go_sem, r0, r1, s0, s1]) rfl ?_
    first
      | exact ⟨rfl, (below_put2 (below_put2 HBW.out _ (by omega) _ _) _ (by omega) _ _).drew⟩
      | exact ⟨rfl, below_put2 (below_put2 HBW.out.drew _ (by omega) _ _) _ (by omega) _ _⟩

/-- What a number of at most 40 words is below. -/
def lim40 : Int := 4294967296 ^ 40
theorem lim40_pos : 0 < lim40 := pw_pos 40
theorem lim40_le : 2 * lim40 ≤ wlim := by
  unfold lim40 wlim
  have e : (4294967296 : Int) ^ (40 + 1) ≤ 4294967296 ^ 2048 := pw_le (by omega)
  rw [pw_succ] at e
  have := pw_pos 40
  generalize (4294967296 : Int) ^ 40 = P at *
  generalize (4294967296 : Int) ^ 2048 = Q at *
  omega
theorem below40 {n : Bool} {zs : List Int} (hw : Wd zs) (hl : zs.length ≤ 40) : -lim40 < wval n zs ∧ wval n zs < lim40 := by
  have h1 := val_lt hw
  have h2 : (4294967296 : Int) ^ zs.length ≤ 4294967296 ^ 40 := pw_le hl
  have h3 := val_nonneg hw
  have h4 : val zs < lim40 := Int.lt_of_lt_of_le h1 h2
  have h5 := lim40_pos
  cases n <;> simp [wval] <;> omega
theorem abs_wval (n : Bool) {xs : List Int} (hw : Wd xs) : ((wval n xs).natAbs : Int) = val xs := by
  have := val_nonneg hw
  cases n <;> simp [wval] <;> omega
/-- A rest below the divisor's size leaves the product no greater than the number and that size. -/
theorem prod_small {X Y Q R : Int} (h : X = Q * Y + R) (hr : R < (Y.natAbs : Int)) (h0 : 0 ≤ R) (hX : -lim40 < X ∧ X < lim40) (hB : -lim40 < Y ∧ Y < lim40) : -wlim < Q * Y ∧ Q * Y < wlim := by
  have := lim40_le
  omega
end Go.Proofs.YtbcangblmadnpacDoor
