/- Whole numbers: whole.unlike, difference, sum, Add: of every number whose words can be read. -/
import Derived.Test.YtbcangblmadnpacDoorWh3
import Derived.Test.YtbcangblmadnpacDoorOps
namespace Go.Proofs.YtbcangblmadnpacDoor
open Go.RowKit
set_option linter.unusedVariables false

/-- What a number of at most 2,048 words is below. -/
def wlim : Int := 4294967296 ^ 2048
theorem wlim_pos : 0 < wlim := pw_pos 2048
/-- What a call tells that may refuse: e is the error of what is handed in, t the number. -/
structure WTells (e t : Int) (n : Bool) (zs : List Int) (code : Int) : Prop where
  wd : Wd zs
  trim : Trimmed zs
  sign : n = false ∨ 0 < zs.length
  len : zs.length ≤ 2048
  bad : e ≠ 0 → n = false ∧ zs = [] ∧ code = e
  long : e = 0 → (wlim ≤ t ∨ t ≤ -wlim) → n = false ∧ zs = [] ∧ code = 3
  good : e = 0 → -wlim < t → t < wlim → code = 0 ∧ wval n zs = t
def WTold (w : World) (e t : Int) (x : Ending) (w' : World) : Prop :=
  ∃ n v zs code, x = .returned (.tuple #[.agg #[.bool n, v], .int .i64 code]) ∧ w'.ownsRow w.heap.size 40 1 v zs.length (zs.map (Value.int .u32)) ∧ WTells e t n zs code ∧ Below w.heap.size w w'
theorem WTells.err {e t : Int} (h : e ≠ 0) : WTells e t false [] e := ⟨Wd.nil, Trimmed.nil, .inl rfl, by simp, fun _ => ⟨rfl, rfl, rfl⟩, fun h' => absurd h' h, fun h' => absurd h' h⟩

theorem wide2048 : wlim ≤ wide := by unfold wlim wide; exact pw_le (by omega)
theorem len2048 {zs : List Int} (hw : Wd zs) (ht : Trimmed zs) : 2048 < zs.length ↔ wlim ≤ val zs := by
  unfold wlim
  constructor
  · intro h
    have h1 := val_ge hw ht (by omega)
    have h2 : (4294967296 : Int) ^ 2048 ≤ 4294967296 ^ (zs.length - 1) := pw_le (by omega)
    exact Int.le_trans h2 h1
  · intro h
    by_cases c : 2048 < zs.length
    · exact c
    · have h1 := val_lt hw
      have h2 : (4294967296 : Int) ^ zs.length ≤ 4294967296 ^ 2048 := pw_le (by omega)
      exact absurd (Int.lt_of_lt_of_le h1 h2) (Int.not_lt.2 h)
theorem trimmed_zero' {us : List Int} (h : us.length = 0) : val us = 0 := by rw [List.eq_nil_of_length_eq_zero h]; rfl

/-- A size with a sign. -/
def sg (n : Bool) (t : Int) : Int := if n then -t else t
/-- What told makes of a size that nat told: the number with that sign. -/
theorem wtells_of {t : Int} {n : Bool} {zs : List Int} {code : Int} (h : Tells 0 t zs code) (h0 : 0 ≤ t) :
    ∃ m us c, (∀ a cap, toldV n a zs.length cap code = .tuple #[.agg #[.bool m, if c = 0 then .slice a zs.length cap else .slice none 0 0], .int .i64 c]) ∧ (if c = 0 then us = zs else us = []) ∧ WTells 0 (sg n t) m us c := by
  unfold sg
  have P := wlim_pos
  by_cases hw : t < wide
  · obtain ⟨rfl, hv⟩ := h.good rfl hw
    by_cases hl : 2048 < zs.length
    · refine ⟨false, [], 3, fun a cap => by unfold toldV; rw [if_pos hl]; rfl, by simp, ⟨Wd.nil, Trimmed.nil, .inl rfl, by simp, fun h => absurd rfl h, fun _ _ => ⟨rfl, rfl, rfl⟩, fun _ h1 h2 => ?_⟩⟩
      have hb := (len2048 h.wd h.trim).1 hl
      rw [hv] at hb
      exfalso
      generalize wlim = B at *
      cases n <;> simp at h1 h2 <;> omega
    · have hb : val zs < wlim := by
        by_cases c : val zs < wlim
        · exact c
        · exact absurd ((len2048 h.wd h.trim).2 (by omega)) hl
      refine ⟨n && decide (0 < zs.length), zs, 0, fun a cap => by unfold toldV; rw [if_neg hl, if_pos rfl]; rfl, by simp, ⟨h.wd, h.trim, ?_, by omega, fun h => absurd rfl h, fun _ h1 => ?_, fun _ _ _ => ⟨rfl, ?_⟩⟩⟩
      · by_cases c : 0 < zs.length
        · exact .inr c
        · left; simp [c]
      · exfalso
        rw [hv] at hb
        generalize wlim = B at *
        cases n <;> simp at h1 <;> omega
      · cases n with
        | false => simp [wval, hv]
        | true =>
          by_cases c : 0 < zs.length
          · simp [wval, hv, c]
          · have e0 : val zs = 0 := trimmed_zero' (by omega)
            simp [wval, c]
            omega
  · obtain ⟨rfl, rfl⟩ := h.long rfl (by omega)
    have hbig := wide2048
    refine ⟨false, [], 3, fun a cap => by unfold toldV; simp, by simp, ⟨Wd.nil, Trimmed.nil, .inl rfl, by simp, fun h => absurd rfl h, fun _ _ => ⟨rfl, rfl, rfl⟩, fun _ h1 h2 => ?_⟩⟩
    exfalso
    generalize wlim = B at *
    generalize wide = V at *
    cases n <;> simp at h1 h2 <;> omega

set_option maxHeartbeats 800000 in
set_option maxRecDepth 100000 in
theorem wunlike_any (n : Bool) (a : Option Addr) (k cap : Nat) (m : Bool) (b : Option Addr) (l cap' : Nat) (w : World) :
    Calls Tryd.prog 42 #[.agg #[.bool n, .slice a k cap], .agg #[.bool m, .slice b l cap']] w fun e w' => e = .returned (.bool (n != m)) ∧ Below w.heap.size w w' := by
  have HB : Hid (Below w.heap.size w ((w.alloc (.cells #[.bool n, .slice a k cap] 24)).alloc (.cells #[.bool m, .slice b l cap'] 24))) := bt (alloc_later _ _) (alloc_later _ _)
  cases n <;> cases m
  all_goals
    go_enter Tryd.func42, Tryd.ntmps42
    go_wp2_with fail
    go_ret
    exact ⟨rfl, HB.out⟩

theorem wtold_cut {w2 : World} {B : Nat} {t : Int} {m : Bool} {v : Value} {zs us : List Int} {c : Int} (h : WTells 0 t m us c) (hc : if c = 0 then us = zs else us = []) (ho : w2.ownsRow B 40 1 v zs.length (zs.map (Value.int .u32))) :
    w2.ownsRow B 40 1 (if c = 0 then v else .slice none 0 0) us.length (us.map (Value.int .u32)) := by
  by_cases e : c = 0
  · rw [if_pos e] at hc ⊢; subst hc; exact ho
  · rw [if_neg e] at hc ⊢; subst hc; exact World.ownsRow_nil _ _ _ _
theorem tells_code {t : Int} {zs : List Int} {code : Int} (h : Tells 0 t zs code) : -1000 ≤ code ∧ code ≤ 1000 := by
  by_cases cw : t < wide
  · have := (h.good rfl cw).1; omega
  · have := (h.long rfl (by omega)).1; omega
theorem cut_slice (cc : Int) (a : Option Addr) (k c : Nat) : ∃ a3 k3 c3, (if cc = 0 then Value.slice a k c else .slice none 0 0) = .slice a3 k3 c3 := by
  by_cases z : cc = 0
  · exact ⟨_, _, _, by rw [if_pos z]⟩
  · exact ⟨_, _, _, by rw [if_neg z]⟩

set_option maxHeartbeats 1600000 in
set_option maxRecDepth 100000 in
theorem wdifference_any (v u : Value) (xs ys : List Int) (w : World) (h : Sl w v xs) (g : Sl w u ys) (lx : xs.length ≤ 2048) (ly : ys.length ≤ 2048) (tx : Trimmed xs) (ty : Trimmed ys) :
    Calls Tryd.prog 57 #[v, u] w (WTold w 0 (val xs - val ys)) := by
  have HB := hid (alloc_later w (.cells #[.bool false, .slice none 0 0] 24))
  have HXB := hid (Box.made w 24 #[.bool false, .slice none 0 0])
  have HXR : Hid (w.heap.size ≤ w.heap.size ∧ w.heap.size < (w.alloc (.cells #[.bool false, .slice none 0 0] 24)).heap.size) := ⟨Nat.le_refl _, HXB.out.lt⟩
  have h' := h.later HB.out
  have g' := g.later HB.out
  have HC := hid (compare_sl v u xs ys _ h' g' (by omega) (by omega))
  obtain ⟨c, hc⟩ : ∃ c, cmpI (val xs) (val ys) = c := ⟨_, rfl⟩
  rw [hc] at HC
  obtain ⟨a, cap, rfl, hr⟩ := h
  obtain ⟨b, cap', rfl, gr⟩ := g
  have HH := hid (And.intro h' g')
  clear hr gr h' g'
  by_cases hlt : val xs < val ys
  · skip
    have hc1 : c = -1 := by rw [← hc, cmpI_lt hlt]
    have HS := hid (fun w1 (hb : Below _ (w.alloc (.cells #[.bool false, .slice none 0 0] 24)) w1) => sub_sl _ _ ys xs w1 (HH.out.2.later hb) (HH.out.1.later hb) (by omega) (by omega))
    rw [if_pos (both_good (chk_good (by omega) ty) (chk_good (by omega) tx)), if_neg (by omega)] at HS
    have HT : Hid (0 ≤ val ys - val xs ∧ sg true (val ys - val xs) = val xs - val ys) := ⟨by omega, by simp [sg]; omega⟩
    clear hc hlt HH
    subst hc1
    go_enter Tryd.func57, Tryd.ntmps57
    go_wp2_with fail
    refine Calls.mono HC.out ?_
    rintro e w1 ⟨rfl, hb1⟩
    have HS1 := hid (HS.out w1 hb1)
    have HBA := hid (bt HB.out hb1)
    have HB1 := hid hb1
    clear hb1 HS
    go_wp2_with fail
    refine Calls.mono HS1.out ?_
    rintro e w2 ⟨v2, zs, code, rfl, o2, t2, hb2⟩
    obtain ⟨a2, c2, hv2⟩ := own_slice' o2
    subst hv2
    obtain ⟨m, us, cc, e1, e2, wt⟩ := wtells_of (n := true) t2 HT.out.1
    rw [HT.out.2] at wt
    have HTD := hid (wtold_any true a2 zs.length c2 code w2 (tells_code t2))
    rw [e1 a2 c2] at HTD
    have HO2 := hid (owns_base o2 HB1.out.size)
    have HBB := hid (bt HBA.out hb2)
    have HB2 := hid (bt HB1.out hb2)
    have HWT := hid wt
    have HE2 := hid e2
    clear o2 t2 hb2 e1 e2 wt
    go_wp2_with fail
    refine Calls.mono HTD.out ?_
    rintro e w3 ⟨rfl, hb3⟩
    obtain ⟨r0, r1, f0, f1⟩ := res_box HXB.out (bt HB2.out hb3)
    have HO3 := hid (wtold_cut HWT.out HE2.out (owns_later HO2.out hb3))
    obtain ⟨a3, k3, c3, e3⟩ := cut_slice cc a2 zs.length c2
    rw [e3] at HO3 ⊢
    have HBC := hid (bt HBB.out hb3)
    have HGE : Hid (∀ g, (Value.slice a3 k3 c3).ownBlock = some g → g ≠ w.heap.size) := fun g hg => by
      have h1 := (World.ownsRow.lt HO3.out g hg).1
      have h2 := HXR.out
      omega
    clear hb3 e3
    go_wp2_with fail
    refine bodyPost_ret (v := .tuple #[.agg #[.bool m, .slice a3 k3 c3], .int .i64 cc]) (by simp [results, Tryd.results57, go_sem, r0, r1]) rfl ?_
    exact ⟨m, _, us, cc, rfl, owns_base (own_put2 HO3.out _ HGE.out _ _) (by have := HXR.out; omega), HWT.out, below_put2 HBC.out _ (by have := HXR.out; omega) _ _⟩
  · skip
    have hci : 0 ≤ c := by rw [← hc]; unfold cmpI; rw [if_neg hlt]; split <;> omega
    have hcb : decide (c < 0) = false := decide_eq_false (by omega)
    have HS := hid (fun w1 (hb : Below _ (w.alloc (.cells #[.bool false, .slice none 0 0] 24)) w1) => sub_sl _ _ xs ys w1 (HH.out.1.later hb) (HH.out.2.later hb) (by omega) (by omega))
    rw [if_pos (both_good (chk_good (by omega) tx) (chk_good (by omega) ty)), if_neg (by omega)] at HS
    have HT : Hid (0 ≤ val xs - val ys ∧ sg false (val xs - val ys) = val xs - val ys) := ⟨by omega, by simp [sg]⟩
    clear hc hlt HH
    go_enter Tryd.func57, Tryd.ntmps57
    go_wp2_with fail
    refine Calls.mono HC.out ?_
    rintro e w1 ⟨rfl, hb1⟩
    have HS1 := hid (HS.out w1 hb1)
    have HBA := hid (bt HB.out hb1)
    have HB1 := hid hb1
    clear hb1 HS
    go_wp2_with fail
    refine Calls.mono HS1.out ?_
    rintro e w2 ⟨v2, zs, code, rfl, o2, t2, hb2⟩
    obtain ⟨a2, c2, hv2⟩ := own_slice' o2
    subst hv2
    obtain ⟨m, us, cc, e1, e2, wt⟩ := wtells_of (n := false) t2 HT.out.1
    rw [HT.out.2] at wt
    have HTD := hid (wtold_any false a2 zs.length c2 code w2 (tells_code t2))
    rw [e1 a2 c2] at HTD
    have HO2 := hid (owns_base o2 HB1.out.size)
    have HBB := hid (bt HBA.out hb2)
    have HB2 := hid (bt HB1.out hb2)
    have HWT := hid wt
    have HE2 := hid e2
    clear o2 t2 hb2 e1 e2 wt
    go_wp2_with fail
    refine Calls.mono HTD.out ?_
    rintro e w3 ⟨rfl, hb3⟩
    obtain ⟨r0, r1, f0, f1⟩ := res_box HXB.out (bt HB2.out hb3)
    have HO3 := hid (wtold_cut HWT.out HE2.out (owns_later HO2.out hb3))
    obtain ⟨a3, k3, c3, e3⟩ := cut_slice cc a2 zs.length c2
    rw [e3] at HO3 ⊢
    have HBC := hid (bt HBB.out hb3)
    have HGE : Hid (∀ g, (Value.slice a3 k3 c3).ownBlock = some g → g ≠ w.heap.size) := fun g hg => by
      have h1 := (World.ownsRow.lt HO3.out g hg).1
      have h2 := HXR.out
      omega
    clear hb3 e3
    go_wp2_with fail
    refine bodyPost_ret (v := .tuple #[.agg #[.bool m, .slice a3 k3 c3], .int .i64 cc]) (by simp [results, Tryd.results57, go_sem, r0, r1]) rfl ?_
    exact ⟨m, _, us, cc, rfl, owns_base (own_put2 HO3.out _ HGE.out _ _) (by have := HXR.out; omega), HWT.out, below_put2 HBC.out _ (by have := HXR.out; omega) _ _⟩

set_option maxHeartbeats 3200000 in
set_option maxRecDepth 100000 in
theorem wsum_any (n : Bool) (v : Value) (xs : List Int) (m0 : Bool) (u : Value) (ys : List Int) (w : World) (h : Sl w v xs) (g : Sl w u ys) (lx : xs.length ≤ 2048) (ly : ys.length ≤ 2048) (tx : Trimmed xs) (ty : Trimmed ys) :
    Calls Tryd.prog 38 #[.agg #[.bool n, v], .agg #[.bool m0, u]] w (WTold w 0 (wval n xs + wval m0 ys)) := by
  have nx := val_nonneg h.wd
  have ny := val_nonneg g.wd
  obtain ⟨a, cap, rfl, hr⟩ := h
  obtain ⟨b, cap', rfl, gr⟩ := g
  have h : Sl w (.slice a xs.length cap) xs := ⟨a, cap, rfl, hr⟩
  have g : Sl w (.slice b ys.length cap') ys := ⟨b, cap', rfl, gr⟩
  clear hr gr
  cases n with
  | false =>
    cases m0 with
    | false =>
      have HB : Hid (Below w.heap.size w (((w.alloc (.cells #[.bool false, .slice a xs.length cap] 24)).alloc (.cells #[.bool false, .slice b ys.length cap'] 24)).alloc (.cells #[.bool false, .slice none 0 0] 24))) := bt (bt (alloc_later _ _) (alloc_later _ _)) (alloc_later _ _)
      have HXB : Hid (Box (((w.alloc (.cells #[.bool false, .slice a xs.length cap] 24)).alloc (.cells #[.bool false, .slice b ys.length cap'] 24)).alloc (.cells #[.bool false, .slice none 0 0] 24)) (w.heap.size + 1 + 1) 24 #[.bool false, .slice none 0 0]) := by
        have e := Box.made ((w.alloc (.cells #[.bool false, .slice a xs.length cap] 24)).alloc (.cells #[.bool false, .slice b ys.length cap'] 24)) 24 #[.bool false, .slice none 0 0]
        simp at e
        exact e
      have HXR : Hid (w.heap.size ≤ w.heap.size + 1 + 1 ∧ w.heap.size + 1 + 1 < (((w.alloc (.cells #[.bool false, .slice a xs.length cap] 24)).alloc (.cells #[.bool false, .slice b ys.length cap'] 24)).alloc (.cells #[.bool false, .slice none 0 0] 24)).heap.size) := ⟨by omega, HXB.out.lt⟩
      have HN : Hid (Box (((w.alloc (.cells #[.bool false, .slice a xs.length cap] 24)).alloc (.cells #[.bool false, .slice b ys.length cap'] 24)).alloc (.cells #[.bool false, .slice none 0 0] 24)) w.heap.size 24 #[.bool false, .slice a xs.length cap]) := Box.later (Box.made w _ _) (bt (alloc_later _ _) (alloc_later _ _)) (by simp)
      have HS := hid (add_sl _ _ xs ys _ (h.later HB.out) (g.later HB.out) (by omega) (by omega))
      rw [both_good (chk_good (by omega) tx) (chk_good (by omega) ty)] at HS
      have HT : Hid (0 ≤ val xs + val ys ∧ sg false (val xs + val ys) = wval false xs + wval false ys) := ⟨by omega, by simp [wval, sg]⟩
      clear h g
      go_enter Tryd.func38, Tryd.ntmps38
      go_wp2_with fail
      refine Calls.mono HS.out ?_
      rintro e w2 ⟨v2, zs, code, rfl, o2, t2, hb2⟩
      have HB1 := hid (Below.refl (((w.alloc (.cells #[.bool false, .slice a xs.length cap] 24)).alloc (.cells #[.bool false, .slice b ys.length cap'] 24)).alloc (.cells #[.bool false, .slice none 0 0] 24)).heap.size (((w.alloc (.cells #[.bool false, .slice a xs.length cap] 24)).alloc (.cells #[.bool false, .slice b ys.length cap'] 24)).alloc (.cells #[.bool false, .slice none 0 0] 24)))
      have HBA := HB
      clear HS
      obtain ⟨a2, c2, hv2⟩ := own_slice' o2
      subst hv2
      obtain ⟨m, us, cc, e1, e2, wt⟩ := wtells_of (n := false) t2 HT.out.1
      rw [HT.out.2] at wt
      have HTD := hid (wtold_any false a2 zs.length c2 code w2 (tells_code t2))
      rw [e1 a2 c2] at HTD
      have HO2 := hid (owns_base o2 HB1.out.size)
      have HBB := hid (bt HBA.out hb2)
      have HB2 := hid (bt HB1.out hb2)
      have HWT := hid wt
      have HE2 := hid e2
      obtain ⟨q0, q1, q2, q3⟩ := res_box HN.out hb2
      clear o2 t2 hb2 e1 e2 wt
      go_wp2_with fail
      refine Calls.mono HTD.out ?_
      rintro e w3 ⟨rfl, hb3⟩
      obtain ⟨r0, r1, f0, f1⟩ := res_box HXB.out (bt HB2.out hb3)
      have HO3 := hid (wtold_cut HWT.out HE2.out (owns_later HO2.out hb3))
      obtain ⟨a3, k3, c3, e3⟩ := cut_slice cc a2 zs.length c2
      rw [e3] at HO3 ⊢
      have HBC := hid (bt HBB.out hb3)
      have HGE : Hid (∀ g, (Value.slice a3 k3 c3).ownBlock = some g → g ≠ w.heap.size + 1 + 1) := fun g hg => by
        have h1 := (World.ownsRow.lt HO3.out g hg).1
        have h2 := HXR.out
        omega
      clear hb3 e3 q0 q1 q2 q3
      go_wp2_with fail
      refine bodyPost_ret (v := .tuple #[.agg #[.bool m, .slice a3 k3 c3], .int .i64 cc]) (by simp [results, Tryd.results38, go_sem, r0, r1]) rfl ?_
      exact ⟨m, _, us, cc, rfl, owns_base (own_put2 HO3.out _ HGE.out _ _) (by have := HXR.out; omega), HWT.out, below_put2 HBC.out _ (by have := HXR.out; omega) _ _⟩
    | true =>
      have HB : Hid (Below w.heap.size w (((w.alloc (.cells #[.bool false, .slice a xs.length cap] 24)).alloc (.cells #[.bool true, .slice b ys.length cap'] 24)).alloc (.cells #[.bool false, .slice none 0 0] 24))) := bt (bt (alloc_later _ _) (alloc_later _ _)) (alloc_later _ _)
      have HXB : Hid (Box (((w.alloc (.cells #[.bool false, .slice a xs.length cap] 24)).alloc (.cells #[.bool true, .slice b ys.length cap'] 24)).alloc (.cells #[.bool false, .slice none 0 0] 24)) (w.heap.size + 1 + 1) 24 #[.bool false, .slice none 0 0]) := by
        have e := Box.made ((w.alloc (.cells #[.bool false, .slice a xs.length cap] 24)).alloc (.cells #[.bool true, .slice b ys.length cap'] 24)) 24 #[.bool false, .slice none 0 0]
        simp at e
        exact e
      have HXR : Hid (w.heap.size ≤ w.heap.size + 1 + 1 ∧ w.heap.size + 1 + 1 < (((w.alloc (.cells #[.bool false, .slice a xs.length cap] 24)).alloc (.cells #[.bool true, .slice b ys.length cap'] 24)).alloc (.cells #[.bool false, .slice none 0 0] 24)).heap.size) := ⟨by omega, HXB.out.lt⟩
      have HN : Hid (Box (((w.alloc (.cells #[.bool false, .slice a xs.length cap] 24)).alloc (.cells #[.bool true, .slice b ys.length cap'] 24)).alloc (.cells #[.bool false, .slice none 0 0] 24)) w.heap.size 24 #[.bool false, .slice a xs.length cap]) := Box.later (Box.made w _ _) (bt (alloc_later _ _) (alloc_later _ _)) (by simp)
      have HS := hid (wdifference_any _ _ xs ys _ (h.later HB.out) (g.later HB.out) lx ly tx ty)
      have HT : Hid (val xs - val ys = wval false xs + wval true ys) := by show _ = _; simp [wval]; omega
      rw [HT.out] at HS
      clear h g
      go_enter Tryd.func38, Tryd.ntmps38
      go_wp2_with fail
      refine Calls.mono HS.out ?_
      rintro e w3 ⟨m, v3, us, cc, rfl, o3, wt, hb3⟩
      obtain ⟨a3, k3, hv3⟩ := own_slice' o3
      subst hv3
      obtain ⟨r0, r1, f0, f1⟩ := res_box HXB.out hb3
      have HO3 := hid o3
      have HWT := hid wt
      have HBC := hid (bt HB.out hb3)
      have HGE : Hid (∀ g, (Value.slice a3 us.length k3).ownBlock = some g → g ≠ w.heap.size + 1 + 1) := fun g hg => by
        have h1 := (World.ownsRow.lt HO3.out g hg).1
        have h2 := HXR.out
        omega
      clear hb3 o3 wt
      go_wp2_with fail
      refine bodyPost_ret (v := .tuple #[.agg #[.bool m, .slice a3 us.length k3], .int .i64 cc]) (by simp [results, Tryd.results38, go_sem, r0, r1]) rfl ?_
      exact ⟨m, _, us, cc, rfl, owns_base (own_put2 HO3.out _ HGE.out _ _) (by have := HXR.out; omega), HWT.out, below_put2 HBC.out _ (by have := HXR.out; omega) _ _⟩
  | true =>
    cases m0 with
    | false =>
      have HB : Hid (Below w.heap.size w (((w.alloc (.cells #[.bool true, .slice a xs.length cap] 24)).alloc (.cells #[.bool false, .slice b ys.length cap'] 24)).alloc (.cells #[.bool false, .slice none 0 0] 24))) := bt (bt (alloc_later _ _) (alloc_later _ _)) (alloc_later _ _)
      have HXB : Hid (Box (((w.alloc (.cells #[.bool true, .slice a xs.length cap] 24)).alloc (.cells #[.bool false, .slice b ys.length cap'] 24)).alloc (.cells #[.bool false, .slice none 0 0] 24)) (w.heap.size + 1 + 1) 24 #[.bool false, .slice none 0 0]) := by
        have e := Box.made ((w.alloc (.cells #[.bool true, .slice a xs.length cap] 24)).alloc (.cells #[.bool false, .slice b ys.length cap'] 24)) 24 #[.bool false, .slice none 0 0]
        simp at e
        exact e
      have HXR : Hid (w.heap.size ≤ w.heap.size + 1 + 1 ∧ w.heap.size + 1 + 1 < (((w.alloc (.cells #[.bool true, .slice a xs.length cap] 24)).alloc (.cells #[.bool false, .slice b ys.length cap'] 24)).alloc (.cells #[.bool false, .slice none 0 0] 24)).heap.size) := ⟨by omega, HXB.out.lt⟩
      have HN : Hid (Box (((w.alloc (.cells #[.bool true, .slice a xs.length cap] 24)).alloc (.cells #[.bool false, .slice b ys.length cap'] 24)).alloc (.cells #[.bool false, .slice none 0 0] 24)) w.heap.size 24 #[.bool true, .slice a xs.length cap]) := Box.later (Box.made w _ _) (bt (alloc_later _ _) (alloc_later _ _)) (by simp)
      have HS := hid (wdifference_any _ _ ys xs _ (g.later HB.out) (h.later HB.out) ly lx ty tx)
      have HT : Hid (val ys - val xs = wval true xs + wval false ys) := by show _ = _; simp [wval]; omega
      rw [HT.out] at HS
      clear h g
      go_enter Tryd.func38, Tryd.ntmps38
      go_wp2_with fail
      refine Calls.mono HS.out ?_
      rintro e w3 ⟨m, v3, us, cc, rfl, o3, wt, hb3⟩
      obtain ⟨a3, k3, hv3⟩ := own_slice' o3
      subst hv3
      obtain ⟨r0, r1, f0, f1⟩ := res_box HXB.out hb3
      have HO3 := hid o3
      have HWT := hid wt
      have HBC := hid (bt HB.out hb3)
      have HGE : Hid (∀ g, (Value.slice a3 us.length k3).ownBlock = some g → g ≠ w.heap.size + 1 + 1) := fun g hg => by
        have h1 := (World.ownsRow.lt HO3.out g hg).1
        have h2 := HXR.out
        omega
      clear hb3 o3 wt
      go_wp2_with fail
      refine bodyPost_ret (v := .tuple #[.agg #[.bool m, .slice a3 us.length k3], .int .i64 cc]) (by simp [results, Tryd.results38, go_sem, r0, r1]) rfl ?_
      exact ⟨m, _, us, cc, rfl, owns_base (own_put2 HO3.out _ HGE.out _ _) (by have := HXR.out; omega), HWT.out, below_put2 HBC.out _ (by have := HXR.out; omega) _ _⟩
    | true =>
      have HB : Hid (Below w.heap.size w (((w.alloc (.cells #[.bool true, .slice a xs.length cap] 24)).alloc (.cells #[.bool true, .slice b ys.length cap'] 24)).alloc (.cells #[.bool false, .slice none 0 0] 24))) := bt (bt (alloc_later _ _) (alloc_later _ _)) (alloc_later _ _)
      have HXB : Hid (Box (((w.alloc (.cells #[.bool true, .slice a xs.length cap] 24)).alloc (.cells #[.bool true, .slice b ys.length cap'] 24)).alloc (.cells #[.bool false, .slice none 0 0] 24)) (w.heap.size + 1 + 1) 24 #[.bool false, .slice none 0 0]) := by
        have e := Box.made ((w.alloc (.cells #[.bool true, .slice a xs.length cap] 24)).alloc (.cells #[.bool true, .slice b ys.length cap'] 24)) 24 #[.bool false, .slice none 0 0]
        simp at e
        exact e
      have HXR : Hid (w.heap.size ≤ w.heap.size + 1 + 1 ∧ w.heap.size + 1 + 1 < (((w.alloc (.cells #[.bool true, .slice a xs.length cap] 24)).alloc (.cells #[.bool true, .slice b ys.length cap'] 24)).alloc (.cells #[.bool false, .slice none 0 0] 24)).heap.size) := ⟨by omega, HXB.out.lt⟩
      have HN : Hid (Box (((w.alloc (.cells #[.bool true, .slice a xs.length cap] 24)).alloc (.cells #[.bool true, .slice b ys.length cap'] 24)).alloc (.cells #[.bool false, .slice none 0 0] 24)) w.heap.size 24 #[.bool true, .slice a xs.length cap]) := Box.later (Box.made w _ _) (bt (alloc_later _ _) (alloc_later _ _)) (by simp)
      have HS := hid (add_sl _ _ xs ys _ (h.later HB.out) (g.later HB.out) (by omega) (by omega))
      rw [both_good (chk_good (by omega) tx) (chk_good (by omega) ty)] at HS
      have HT : Hid (0 ≤ val xs + val ys ∧ sg true (val xs + val ys) = wval true xs + wval true ys) := ⟨by omega, by simp [wval, sg]; omega⟩
      clear h g
      go_enter Tryd.func38, Tryd.ntmps38
      go_wp2_with fail
      refine Calls.mono HS.out ?_
      rintro e w2 ⟨v2, zs, code, rfl, o2, t2, hb2⟩
      have HB1 := hid (Below.refl (((w.alloc (.cells #[.bool true, .slice a xs.length cap] 24)).alloc (.cells #[.bool true, .slice b ys.length cap'] 24)).alloc (.cells #[.bool false, .slice none 0 0] 24)).heap.size (((w.alloc (.cells #[.bool true, .slice a xs.length cap] 24)).alloc (.cells #[.bool true, .slice b ys.length cap'] 24)).alloc (.cells #[.bool false, .slice none 0 0] 24)))
      have HBA := HB
      clear HS
      obtain ⟨a2, c2, hv2⟩ := own_slice' o2
      subst hv2
      obtain ⟨m, us, cc, e1, e2, wt⟩ := wtells_of (n := true) t2 HT.out.1
      rw [HT.out.2] at wt
      have HTD := hid (wtold_any true a2 zs.length c2 code w2 (tells_code t2))
      rw [e1 a2 c2] at HTD
      have HO2 := hid (owns_base o2 HB1.out.size)
      have HBB := hid (bt HBA.out hb2)
      have HB2 := hid (bt HB1.out hb2)
      have HWT := hid wt
      have HE2 := hid e2
      obtain ⟨q0, q1, q2, q3⟩ := res_box HN.out hb2
      clear o2 t2 hb2 e1 e2 wt
      go_wp2_with fail
      refine Calls.mono HTD.out ?_
      rintro e w3 ⟨rfl, hb3⟩
      obtain ⟨r0, r1, f0, f1⟩ := res_box HXB.out (bt HB2.out hb3)
      have HO3 := hid (wtold_cut HWT.out HE2.out (owns_later HO2.out hb3))
      obtain ⟨a3, k3, c3, e3⟩ := cut_slice cc a2 zs.length c2
      rw [e3] at HO3 ⊢
      have HBC := hid (bt HBB.out hb3)
      have HGE : Hid (∀ g, (Value.slice a3 k3 c3).ownBlock = some g → g ≠ w.heap.size + 1 + 1) := fun g hg => by
        have h1 := (World.ownsRow.lt HO3.out g hg).1
        have h2 := HXR.out
        omega
      clear hb3 e3 q0 q1 q2 q3
      go_wp2_with fail
      refine bodyPost_ret (v := .tuple #[.agg #[.bool m, .slice a3 k3 c3], .int .i64 cc]) (by simp [results, Tryd.results38, go_sem, r0, r1]) rfl ?_
      exact ⟨m, _, us, cc, rfl, owns_base (own_put2 HO3.out _ HGE.out _ _) (by have := HXR.out; omega), HWT.out, below_put2 HBC.out _ (by have := HXR.out; omega) _ _⟩
end Go.Proofs.YtbcangblmadnpacDoor
