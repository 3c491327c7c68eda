/- My texts on the way to RotorGroup, one behind the other: contracts of the program and of the document's answers. -/
import Derived.Test.YtbccnngdkanejaaJ1
import Derived.Test.YtbccnngdkanejaaJ2
import Derived.Test.YtbccnngdkanejaaJ3
import Derived.Deep.RegionHeld3
import Derived.Deep.RegionLaw
import Derived.Laws.AppendOwnNone
/- Complex fractions: what is told with all rows apart; gauss.Conj; the document's Check: apart from the texts of numbers. (tools/mkgp0.py) -/
namespace Go.Proofs.Ytbccnngdkanejaa
open Go.RowKit
set_option linter.unusedVariables false

theorem kp_self {n : Bool} {xs ys : List Int} (wx : Wd xs) (wy : Wd ys) (h : rchk n xs ys = 0) : RTells 0 (rq n xs ys) n xs ys 0 := by
  obtain ⟨lx, ly, tx, ty, y0, s0, g⟩ := rchk_ok h
  have hd := val_pos' wy ty y0
  obtain ⟨m, us, vs, c, e1, e2, e3, r⟩ := rtells_of (n := n) wx tx wy ty hd g
  have e4 := e1 none 0 none 0
  unfold rtoldV at e4
  rw [if_neg (by omega)] at e4
  have hc : c = 0 := by
    simp at e4
    exact e4.2.symm
  subst hc
  have hm : (n && decide (0 < xs.length)) = n := by
    rcases s0 with rfl | s0
    · rfl
    · rw [decide_eq_true s0, Bool.and_true]
  rw [hm] at e4
  have hn : n = m := by simp at e4; exact e4
  subst hn
  rw [if_pos rfl] at e2 e3
  subst e2 e3
  exact r
/-- A complex fraction told in new memory, all four rows apart. -/
def KToldC (w : World) (E : Int) (L : Prop) (q1 q2 : Rat) (x : Ending) (w' : World) : Prop :=
  ∃ n a ca xs b cb ys m c cc us d cd vs code, x = .returned (.tuple #[.agg #[.bool n, .slice a (List.length xs) ca, .slice b (List.length ys) cb, .bool m, .slice c (List.length us) cc, .slice d (List.length vs) cd], .int .i64 code]) ∧ (w'.ownsRow w.heap.size 43 1 (.slice a xs.length ca) xs.length (xs.map (Value.int .u32)) ∧ w'.ownsRow w.heap.size 43 1 (.slice b ys.length cb) ys.length (ys.map (Value.int .u32)) ∧ w'.ownsRow w.heap.size 43 1 (.slice c us.length cc) us.length (us.map (Value.int .u32)) ∧ w'.ownsRow w.heap.size 43 1 (.slice d vs.length cd) vs.length (vs.map (Value.int .u32))) ∧ GTells E L q1 q2 n xs ys m us vs code ∧ Below w.heap.size w w' ∧ ∃ W1, Cut w (.slice a xs.length ca) (.slice b ys.length cb) W1 ∧ Cut W1 (.slice c us.length cc) (.slice d vs.length cd) w'
theorem KToldC.told {w w' : World} {E : Int} {L : Prop} {q1 q2 : Rat} {x : Ending} (h : KToldC w E L q1 q2 x w') : GTold w E L q1 q2 x w' := by
  obtain ⟨n, a, ca, xs, b, cb, ys, m, c, cc, us, d, cd, vs, code, e, o, t, hb, _⟩ := h
  exact ⟨n, a, ca, xs, b, cb, ys, m, c, cc, us, d, cd, vs, code, e, o, t, hb⟩
theorem kcut_nil (w w' : World) (h : w.heap.size ≤ w'.heap.size) : Cut w (.slice none 0 0) (.slice none 0 0) w' := ⟨w.heap.size, Nat.le_refl _, h, fun g hg => by simp [Value.ownBlock] at hg, fun g hg => by simp [Value.ownBlock] at hg⟩
/-- append([]uint32(nil), v...) as one step of a region: the same words in new memory. -/
theorem kstep_copy {ops : Array Oper} {o : Oper} {act : Act} {w : World} {K : Act → World → Prop} {Q : Exit → Act → World → Prop} {E : Prop}
    (hg : o.guard = none) (s x : Operand) (hop : o.op = Op.call { callee := Callee.builtin Builtin.append, args := #[s, x], argTypes := #[27, 27] })
    (v : Value) (xs : List Int) (hs : act.eval s = .slice none 0 0) (hx : act.eval x = v) (hv : Sl w v xs) (hn : xs.length ≤ 1099511627776)
    (hK : ∀ a' c' w', w'.ownsRow w.heap.size 43 1 (.slice a' xs.length c') xs.length (xs.map (Value.int .u32)) → Below w.heap.size w w' → K (act.put o.dst (.slice a' xs.length c')) w') :
    if Region.wanted o (yielded ops act.tmps) = true then Oper.wp Try.prog o act w K Q else E := by
  have hw : Region.wanted o (yielded ops act.tmps) = true := by simp [Region.wanted, hg]
  rw [if_pos hw]
  obtain ⟨i0, hi, hz0, hz1, hz2⟩ := info_parts Try.infoW
  have hown : w.ownsRow w.heap.size 43 1 (.slice none 0 0) 0 [] := World.ownsRow_nil _ _ _ _
  obtain ⟨ad, cap, rfl, hr⟩ := hv
  cases ad with
  | none =>
    have h0 : cap = 0 := hr.2.2.2.2.2 rfl
    subst h0
    have h1 : xs.length = 0 := by have := hr.2.2.2.1; omega
    have h2 : xs = [] := List.eq_nil_of_length_eq_zero h1
    subst h2
    have hrun := run_append_owned_none (P := Try.prog) (w := w) w.heap.size 27 o.type 43 i0 1 Try.underlying27 hi (.slice none 0 0) 0 [] hown
    unfold Oper.wp
    simp [execOp, hop, resolve, invoke, builtin, hs, hx, hrun, Result.andThen]
    exact hK none 0 w hown (Below.refl _ _)
  | some ad =>
    obtain ⟨v', w', hrun, r1, r2, _⟩ := run_append_own (P := Try.prog) w w.heap.size 27 o.type 43 i0 (.int .u32 0) 1 4 Try.underlying27 hi hz0 hz1 hz2 rfl (by decide) (.slice none 0 0) 0 [] hown ad xs.length cap (xs.map (Value.int .u32)) (by simp) (copy_news hr) (ints_oneCell _ _) (by unfold maxLen; omega) (by omega) (Nat.le_refl _)
    have r3 : w'.ownsRow w.heap.size 43 1 v' xs.length (xs.map (Value.int .u32)) := by simpa using r1
    obtain ⟨a', c', rfl⟩ := own_slice' r3
    unfold Oper.wp
    simp [execOp, hop, resolve, invoke, builtin, hs, hx, hrun, Result.andThen]
    exact hK a' c' w' r3 ((Below.refl w.heap.size w).grown r2 (Nat.le_refl _) (fun k hk => by simp [Value.ownBlock] at hk))

set_option maxHeartbeats 3200000 in
set_option maxRecDepth 100000 in
theorem kcopied_any (p : Nat) (E : Int) (n : Bool) (a : Option Addr) (ca : Nat) (xs : List Int) (b : Option Addr) (cb : Nat) (ys : List Int) (w : World) (hp : Box w p 60 #[.int .i64 E]) (sx : Sl w (.slice a xs.length ca) xs) (sy : Sl w (.slice b ys.length cb) ys) (hE0 : E = 0 → rchk n xs ys = 0) :
    Calls Try.prog 28 #[.pointer (some ⟨p, 0, none⟩), .agg #[.bool n, .slice a xs.length ca, .slice b ys.length cb]] w (GTell w p E (rq n xs ys)) := by
  have HX := hid (boxes2r w 29 #[.bool n, .slice a xs.length ca, .slice b ys.length cb] #[.bool false, .slice none 0 0, .slice none 0 0])
  obtain ⟨X, hX⟩ : ∃ X, (w.alloc (.cells #[.bool n, .slice a xs.length ca, .slice b ys.length cb] 29)).alloc (.cells #[.bool false, .slice none 0 0, .slice none 0 0] 29) = X := ⟨_, rfl⟩
  rw [hX] at HX
  have HP := hid (hp.later HX.out.2.2 hp.lt)
  have kp : X.cell? ⟨p, 0, none⟩ = some (.int .i64 E) := HP.out.cell 0
  have fp := HP.out.free 0
  have hpw : p < w.heap.size := hp.lt
  by_cases hE : E = 0
  · subst hE
    have hk := hE0 rfl
    have HKC := hid hk
    have hlen := rchk_ok hk
    have hlx : xs.length ≤ 1099511627776 := by omega
    have hly : ys.length ≤ 1099511627776 := by omega
    have HWX := hid (And.intro sx.wd sy.wd)
    have HSX : Hid (∀ V, Below X.heap.size X V → Sl V (.slice a xs.length ca) xs) := fun V hv => sx.later (bt HX.out.2.2 hv)
    have HSY : Hid (∀ V, Below X.heap.size X V → Sl V (.slice b ys.length cb) ys) := fun V hv => sy.later (bt HX.out.2.2 hv)
    have HK : Hid (∀ V, Below X.heap.size X V → V.cell? ⟨w.heap.size, 0, none⟩ = some (.bool n) ∧ V.cell? ⟨w.heap.size, 1, none⟩ = some (.slice a xs.length ca) ∧ V.cell? ⟨w.heap.size, 2, none⟩ = some (.slice b ys.length cb)) := fun V hv => by
      have h := HX.out.1.later hv HX.out.1.lt
      exact ⟨h.cell 0, h.cell 1, h.cell 2⟩
    have HKP : Hid (∀ V, Below X.heap.size X V → ∀ (v0 v1 v2 : Value), ((((V.setCell ⟨w.heap.size + 1, 0, none⟩ v0).setCell ⟨w.heap.size + 1, 1, none⟩ v1).setCell ⟨w.heap.size + 1, 2, none⟩ v2).cell? ⟨w.heap.size, 0, none⟩ = some (.bool n) ∧ (((V.setCell ⟨w.heap.size + 1, 0, none⟩ v0).setCell ⟨w.heap.size + 1, 1, none⟩ v1).setCell ⟨w.heap.size + 1, 2, none⟩ v2).cell? ⟨w.heap.size, 1, none⟩ = some (.slice a xs.length ca) ∧ (((V.setCell ⟨w.heap.size + 1, 0, none⟩ v0).setCell ⟨w.heap.size + 1, 1, none⟩ v1).setCell ⟨w.heap.size + 1, 2, none⟩ v2).cell? ⟨w.heap.size, 2, none⟩ = some (.slice b ys.length cb))) := fun V hv v0 v1 v2 => by
      have h := box_far3 (HX.out.1.later hv HX.out.1.lt) (show w.heap.size ≠ w.heap.size + 1 by omega) v0 v1 v2
      exact ⟨h.cell 0, h.cell 1, h.cell 2⟩
    have HM : Hid (∀ V, Below X.heap.size X V → V.cell? ⟨w.heap.size + 1, 0, none⟩ = some (.bool false) ∧ V.cell? ⟨w.heap.size + 1, 1, none⟩ = some (.slice none 0 0) ∧ V.cell? ⟨w.heap.size + 1, 2, none⟩ = some (.slice none 0 0) ∧ V.frozen? ⟨w.heap.size + 1, 0, none⟩ = false ∧ V.frozen? ⟨w.heap.size + 1, 1, none⟩ = false ∧ V.frozen? ⟨w.heap.size + 1, 2, none⟩ = false) := fun V hv => by
      have h := HX.out.2.1.later hv HX.out.2.1.lt
      exact ⟨h.cell 0, h.cell 1, h.cell 2, h.free 0, h.free 1, h.free 2⟩
    have hd0 := hid (Below.refl X.heap.size X).drew
    have hs0 := HK.out _ hd0.out
    clear sx sy hk hlen hE0
    go_enter Try.func28, Try.ntmps28
    go_wp2_with fail
    go_region_held3 (fun V : World => V.cell? ⟨w.heap.size, 0, none⟩ = some (.bool n) ∧ V.cell? ⟨w.heap.size, 1, none⟩ = some (.slice a xs.length ca) ∧ V.cell? ⟨w.heap.size, 2, none⟩ = some (.slice b ys.length cb)) (first | exact hsB | exact hsA | exact hs0 | exact HKP.out _ hbB _ _ _ | exact HKP.out _ hbA _ _ _)
      (first
        | (refine kstep_copy rfl (.const (.slice none 0 0)) (.tmp 13) rfl (.slice a xs.length ca) xs rfl rfl (HSX.out _ hbB) hlx ?_; intro a1 c1 w1 o1 b1; have hbA := bt hbB b1; have hsA := HK.out _ hbA; obtain ⟨m0, m1, m2, f0, f1, f2⟩ := HM.out _ hbA; have HA := hid (And.intro o1 b1))
        | (refine kstep_copy rfl (.const (.slice none 0 0)) (.tmp 13) rfl (.slice a xs.length ca) xs rfl rfl (HSX.out _ hd0.out) hlx ?_; intro a1 c1 w1 o1 b1; have hbA := bt hd0.out b1; have hsA := HK.out _ hbA; obtain ⟨m0, m1, m2, f0, f1, f2⟩ := HM.out _ hbA; have HA := hid (And.intro o1 b1))
        | (refine kstep_copy rfl (.const (.slice none 0 0)) (.tmp 16) rfl (.slice b ys.length cb) ys rfl rfl (HSY.out _ hbA) hly ?_; intro a2 c2 w2 o2 b2; have hbB := bt hbA b2; have hsB := HK.out _ hbB; obtain ⟨m0, m1, m2, f0, f1, f2⟩ := HM.out _ hbB; have HB := hid (And.intro o2 b2))
        | (refine kstep_copy rfl (.const (.slice none 0 0)) (.tmp 16) rfl (.slice b ys.length cb) ys rfl rfl (HSY.out _ hd0.out) hly ?_; intro a2 c2 w2 o2 b2; have hbB := bt hd0.out b2; have hsB := HK.out _ hbB; obtain ⟨m0, m1, m2, f0, f1, f2⟩ := HM.out _ hbB; have HB := hid (And.intro o2 b2)))
    have HBX := hid (HX.out.2.1.later hbB HX.out.2.1.lt)
    have HPX := hid (HP.out.later hbB HP.out.lt)
    have HBW := hid (bt HX.out.2.2 hbB)
    have HO1 := hid (owns_later o1 b2)
    have HO2 := hid o2
    have HL1 : Hid (Lies (.slice a1 xs.length c1) w.heap.size w1.heap.size) := fun g hg => ⟨Nat.le_trans HX.out.2.2.size (o1.lt g hg).1, (o1.lt g hg).2⟩
    have HL2 : Hid (Lies (.slice a2 ys.length c2) w1.heap.size w2.heap.size) := fun g hg => ⟨(o2.lt g hg).1, (o2.lt g hg).2⟩
    have hXs : w.heap.size + 1 < X.heap.size := HX.out.2.1.lt
    have h1s : X.heap.size ≤ w1.heap.size := hbA.size
    have h2s : w1.heap.size ≤ w2.heap.size := b2.size
    have hwX : w.heap.size ≤ X.heap.size := HX.out.2.2.size
    clear HA HB hs0 hsA hsB hd0 o1 o2 b1 b2 hbA hbB HK HKP HM HSX HSY
    go_wp2_with fail
    have hne : p ≠ w.heap.size + 1 := by omega
    have B1 := box_put3 (box_put3 HBX.out (.bool n) (.slice a1 xs.length c1) (.slice a2 ys.length c2)) (.bool n) (.slice a1 xs.length c1) (.slice a2 ys.length c2)
    have P1 := box_far3 (box_far3 HPX.out hne (.bool n) (.slice a1 xs.length c1) (.slice a2 ys.length c2)) hne (.bool n) (.slice a1 xs.length c1) (.slice a2 ys.length c2)
    have e1 : ∀ g, (Value.slice a1 xs.length c1).ownBlock = some g → g ≠ w.heap.size + 1 := fun g hg => by have := (HO1.out.lt g hg).1; have e : X.drew.heap.size = X.heap.size := rfl; omega
    have e2 : ∀ g, (Value.slice a2 ys.length c2).ownBlock = some g → g ≠ w.heap.size + 1 := fun g hg => by have := (HO2.out.lt g hg).1; omega
    have V1 := own_put3' (own_put3' HO1.out _ e1 (.bool n) (.slice a1 xs.length c1) (.slice a2 ys.length c2)) _ e1 (.bool n) (.slice a1 xs.length c1) (.slice a2 ys.length c2)
    have U1 := own_put3' (own_put3' HO2.out _ e2 (.bool n) (.slice a1 xs.length c1) (.slice a2 ys.length c2)) _ e2 (.bool n) (.slice a1 xs.length c1) (.slice a2 ys.length c2)
    have G1 := grow_put3 (grow_put3 (grow_below HBW.out (some p)) (w.heap.size + 1) (.bool n) (.slice a1 xs.length c1) (.slice a2 ys.length c2) (.inl (by omega))) (w.heap.size + 1) (.bool n) (.slice a1 xs.length c1) (.slice a2 ys.length c2) (.inl (by omega))
    refine bodyPost_ret (results_cell_row (by rfl) _ _ (w.heap.size + 1) 29 _ (0, 0) _ (by rfl) B1 Try.underlying29 rfl (by kernel_rfl)) rfl ?_
    refine ⟨n, _, xs, _, ys, 0, rfl, owns_base V1 hwX, owns_base U1 (by omega), kp_self HWX.out.1 HWX.out.2 HKC.out, P1, G1, ?_⟩
    exact ⟨w1.heap.size, by omega, by simp [World.setCell]; omega, HL1.out, fun g hg => ⟨(HL2.out g hg).1, by have := (HL2.out g hg).2; simp [World.setCell]; omega⟩⟩
  · have hE' : (E == 0) = false := by simp [hE]
    have m0 : X.cell? ⟨w.heap.size + 1, 0, none⟩ = some (.bool false) := HX.out.2.1.cell 0
    have m1 : X.cell? ⟨w.heap.size + 1, 1, none⟩ = some (.slice none 0 0) := HX.out.2.1.cell 1
    have m2 : X.cell? ⟨w.heap.size + 1, 2, none⟩ = some (.slice none 0 0) := HX.out.2.1.cell 2
    have n0 := HX.out.2.1.free 0
    have n1 := HX.out.2.1.free 1
    have n2 := HX.out.2.1.free 2
    clear hE0 sx sy
    go_enter Try.func28, Try.ntmps28
    go_wp2_with fail
    have B1 := box_put3 HX.out.2.1 (.bool false) (.slice none 0 0) (.slice none 0 0)
    have P1 := box_far3 HP.out (show p ≠ w.heap.size + 1 by omega) (.bool false) (.slice none 0 0) (.slice none 0 0)
    have G1 := grow_put3 (grow_below HX.out.2.2 (some p)) (w.heap.size + 1) (.bool false) (.slice none 0 0) (.slice none 0 0) (.inl (by omega))
    refine bodyPost_ret (results_cell_row (by rfl) _ _ (w.heap.size + 1) 29 _ (0, 0) _ (by rfl) B1 Try.underlying29 rfl (by kernel_rfl)) rfl ?_
    refine ⟨false, _, [], _, [], E, rfl, World.ownsRow_nil _ _ _ _, World.ownsRow_nil _ _ _ _, RTells.err hE, P1, G1, ?_⟩
    exact ⟨w.heap.size, Nat.le_refl _, G1.size, fun g hg => by simp [Value.ownBlock] at hg, fun g hg => by simp [Value.ownBlock] at hg⟩
set_option maxHeartbeats 3200000 in
set_option maxRecDepth 100000 in
theorem kConj_full (n : Bool) (a : Option Addr) (ca : Nat) (xs : List Int) (b : Option Addr) (cb : Nat) (ys : List Int) (m : Bool) (c : Option Addr) (cc : Nat) (us : List Int) (d : Option Addr) (cd : Nat) (vs : List Int) (w : World) (sx : Sl w (.slice a xs.length ca) xs) (sy : Sl w (.slice b ys.length cb) ys) (su : Sl w (.slice c us.length cc) us) (sv : Sl w (.slice d vs.length cd) vs) :
    Calls Try.prog 11 #[.agg #[.bool n, .slice a xs.length ca, .slice b ys.length cb, .bool m, .slice c us.length cc, .slice d vs.length cd]] w (KToldC w (gchk n xs ys m us vs) (rlong (rq n xs ys) ∨ rlong (-(rq m us vs))) (rq n xs ys) (-(rq m us vs))) := by
  have HX := hid (boxes2r w 31 #[.bool n, .slice a xs.length ca, .slice b ys.length cb, .bool m, .slice c us.length cc, .slice d vs.length cd] #[.bool false, .slice none 0 0, .slice none 0 0, .bool false, .slice none 0 0, .slice none 0 0])
  obtain ⟨X, hX⟩ : ∃ X, (w.alloc (.cells #[.bool n, .slice a xs.length ca, .slice b ys.length cb, .bool m, .slice c us.length cc, .slice d vs.length cd] 31)).alloc (.cells #[.bool false, .slice none 0 0, .slice none 0 0, .bool false, .slice none 0 0, .slice none 0 0] 31) = X := ⟨_, rfl⟩
  rw [hX] at HX
  have HY := hid (Box.made X 31 #[.bool n, .slice a xs.length ca, .slice b ys.length cb, .bool m, .slice c us.length cc, .slice d vs.length cd])
  have HYB := hid (alloc_later X (.cells #[.bool n, .slice a xs.length ca, .slice b ys.length cb, .bool m, .slice c us.length cc, .slice d vs.length cd] 31))
  obtain ⟨Y, hY⟩ : ∃ Y, X.alloc (.cells #[.bool n, .slice a xs.length ca, .slice b ys.length cb, .bool m, .slice c us.length cc, .slice d vs.length cd] 31) = Y := ⟨_, rfl⟩
  rw [hY] at HY HYB
  have HWY := hid (bt HX.out.2.2 HYB.out)
  have HL := hid (glookAt1_any X.heap.size n a ca xs b cb ys m c cc us d cd vs Y HY.out (sx.later HWY.out) (sy.later HWY.out) (su.later HWY.out) (sv.later HWY.out))
  have H1 : Hid (∀ V p, Below w.heap.size w V → Box V p 60 #[.int .i64 (gchk n xs ys m us vs)] → Calls Try.prog 28 #[.pointer (some ⟨p, 0, none⟩), .agg #[.bool n, .slice a xs.length ca, .slice b ys.length cb]] V (GTell V p (gchk n xs ys m us vs) (rq n xs ys))) := fun V p hv hb => kcopied_any p (gchk n xs ys m us vs) n a ca xs b cb ys V hb (sx.later hv) (sy.later hv) (fun h => (gchk_ok h).1)
  have H2 : Hid (∀ V p E, Below w.heap.size w V → Box V p 60 #[.int .i64 E] → Calls Try.prog 29 #[.pointer (some ⟨p, 0, none⟩), .agg #[.bool m, .slice c us.length cc, .slice d vs.length cd]] V (GTell V p (fstE E (rchk m us vs)) (-(rq m us vs)))) := fun V p E hv hb => gopposite_any p E m c cc us d cd vs V hb (su.later hv) (sv.later hv)
  have HZ1 : Hid (gchk n xs ys m us vs = 0 → rchk n xs ys = 0 ∧ rchk m us vs = 0) := fun h => by
    exact gchk_ok h
  generalize gchk n xs ys m us vs = E0 at *
  generalize rchk m us vs = e2 at *
  generalize rq n xs ys = q1 at *
  generalize -(rq m us vs) = q2 at *
  clear sx sy su sv
  have ka0 : X.cell? ⟨w.heap.size, 0, none⟩ = some (.bool n) := HX.out.1.cell 0
  have ka1 : X.cell? ⟨w.heap.size, 1, none⟩ = some (.slice a xs.length ca) := HX.out.1.cell 1
  have ka2 : X.cell? ⟨w.heap.size, 2, none⟩ = some (.slice b ys.length cb) := HX.out.1.cell 2
  have ka3 : X.cell? ⟨w.heap.size, 3, none⟩ = some (.bool m) := HX.out.1.cell 3
  have ka4 : X.cell? ⟨w.heap.size, 4, none⟩ = some (.slice c us.length cc) := HX.out.1.cell 4
  have ka5 : X.cell? ⟨w.heap.size, 5, none⟩ = some (.slice d vs.length cd) := HX.out.1.cell 5
  go_enter Try.func11, Try.ntmps11
  go_wp2_with fail
  refine Calls.mono HL.out ?_
  rintro x w1 ⟨p, rfl, hpl, hpb, hb1⟩
  have HW1 := hid (bt HWY.out hb1)
  have HA1 := hid (HX.out.1.later (bt HYB.out hb1) HX.out.1.lt)
  have HR1 := hid (HX.out.2.1.later (bt HYB.out hb1) HX.out.2.1.lt)
  have HP1 := hid hpb
  have hpX : X.heap.size < p := Nat.lt_of_lt_of_le HY.out.lt hpl
  have hrX : w.heap.size + 1 < X.heap.size := HX.out.2.1.lt
  clear hpb hb1 hpl HL ka0 ka1 ka2 ka3 ka4 ka5
  have ka0 : w1.cell? ⟨w.heap.size, 0, none⟩ = some (.bool n) := HA1.out.cell 0
  have ka1 : w1.cell? ⟨w.heap.size, 1, none⟩ = some (.slice a xs.length ca) := HA1.out.cell 1
  have ka2 : w1.cell? ⟨w.heap.size, 2, none⟩ = some (.slice b ys.length cb) := HA1.out.cell 2
  go_wp2_with fail
  refine Calls.mono (H1.out _ p HW1.out HP1.out) ?_
  rintro x w2 ⟨k1, v1, zs1, u1, ts1, code1, rfl, ov1, ou1, ht1, hp2, hg2, hcut1⟩
  obtain ⟨av1, cv1, rfl⟩ := own_slice' ov1
  obtain ⟨au1, cu1, rfl⟩ := own_slice' ou1
  have hw12 : w1.heap.size ≤ w2.heap.size := hg2.size
  have hp1l : p < w1.heap.size := HP1.out.lt
  have HW2 : Hid (Below w.heap.size w w2) := HW1.out.grown hg2 HW1.out.size (fun q hq => by have e := Option.some.inj hq; omega)
  have HA2 := hid (HA1.out.kept' hg2 (by intro e; have := Option.some.inj e; omega))
  have HR2 := hid (HR1.out.kept' hg2 (by intro e; have := Option.some.inj e; omega))
  have HP2 := hid hp2
  have HV1 := hid ov1
  have HU1 := hid ou1
  have HT1 := hid ht1
  have HC1 := hid hcut1
  have HN := hid (Box.made w2 29 #[.bool k1, .slice av1 zs1.length cv1, .slice au1 ts1.length cu1])
  have HNB := hid (alloc_later w2 (.cells #[.bool k1, .slice av1 zs1.length cv1, .slice au1 ts1.length cu1] 29))
  obtain ⟨Z, hZ⟩ : ∃ Z, w2.alloc (.cells #[.bool k1, .slice av1 zs1.length cv1, .slice au1 ts1.length cu1] 29) = Z := ⟨_, rfl⟩
  rw [hZ] at HN HNB
  have HAZ := hid (HA2.out.later HNB.out HA2.out.lt)
  clear ov1 ou1 ht1 hp2 hg2 hcut1 HW1 HA1 HR1 HP1 H1 ka0 ka1 ka2
  have ka0 : Z.cell? ⟨w.heap.size, 3, none⟩ = some (.bool m) := HAZ.out.cell 3
  have ka1 : Z.cell? ⟨w.heap.size, 4, none⟩ = some (.slice c us.length cc) := HAZ.out.cell 4
  have ka2 : Z.cell? ⟨w.heap.size, 5, none⟩ = some (.slice d vs.length cd) := HAZ.out.cell 5
  go_wp2_with fail
  refine Calls.mono (H2.out _ p code1 (bt HW2.out HNB.out) (HP2.out.later HNB.out HP2.out.lt)) ?_
  rintro x w3 ⟨k2, v2, zs2, u2, ts2, code2, rfl, ov2, ou2, ht2, hp3, hg3, hcut2⟩
  obtain ⟨av2, cv2, rfl⟩ := own_slice' ov2
  obtain ⟨au2, cu2, rfl⟩ := own_slice' ou2
  have hZ3 : Z.heap.size ≤ w3.heap.size := hg3.size
  have hw2Z : w2.heap.size < Z.heap.size := HN.out.lt
  have HW3 : Hid (Below w.heap.size w w3) := (bt HW2.out HNB.out).grown hg3 (bt HW2.out HNB.out).size (fun q hq => by have e := Option.some.inj hq; omega)
  have HR3 := hid ((HR2.out.later HNB.out HR2.out.lt).kept' hg3 (by intro e; have := Option.some.inj e; omega))
  have HN3 := hid (HN.out.kept' hg3 (by intro e; have := Option.some.inj e; omega))
  have HP3 := hid hp3
  have hk : ∀ (v : Value) (q : Nat), (∀ g, v.ownBlock = some g → q ≤ g) → p < q → v.ownBlock = none ∨ v.ownBlock ≠ some p := fun v q h1 h2 => by
    cases e : v.ownBlock with
    | none => exact .inl rfl
    | some g => right; intro h; have e2 := Option.some.inj h; have := h1 g e; omega
  have HV3 := hid (World.ownsRow.kept (owns_later HV1.out HNB.out) hg3 (hk _ w1.heap.size (fun g hg => (HV1.out.lt g hg).1) hp1l))
  have HU3 := hid (World.ownsRow.kept (owns_later HU1.out HNB.out) hg3 (hk _ w1.heap.size (fun g hg => (HU1.out.lt g hg).1) hp1l))
  have HV4 := hid ov2
  have HU4 := hid ou2
  have HT2 := hid ht2
  have HC2 := hid hcut2
  clear hk
  have HM := hid (Box.made w3 29 #[.bool k2, .slice av2 zs2.length cv2, .slice au2 ts2.length cu2])
  have HMB := hid (alloc_later w3 (.cells #[.bool k2, .slice av2 zs2.length cv2, .slice au2 ts2.length cu2] 29))
  obtain ⟨Q, hQ⟩ : ∃ Q, w3.alloc (.cells #[.bool k2, .slice av2 zs2.length cv2, .slice au2 ts2.length cu2] 29) = Q := ⟨_, rfl⟩
  rw [hQ] at HM HMB
  have HNQ := hid (HN3.out.later HMB.out HN3.out.lt)
  have HTO := hid (gtold_any p code2 k1 av1 zs1.length cv1 au1 ts1.length cu1 k2 av2 zs2.length cv2 au2 ts2.length cu2 Q (HP3.out.later HMB.out HP3.out.lt))
  clear ov2 ou2 ht2 hp3 hg3 hcut2 H2 ka0 ka1 ka2
  have ka0 : Q.cell? ⟨w2.heap.size, 0, none⟩ = some (.bool k1) := HNQ.out.cell 0
  have ka1 : Q.cell? ⟨w2.heap.size, 1, none⟩ = some (.slice av1 zs1.length cv1) := HNQ.out.cell 1
  have ka2 : Q.cell? ⟨w2.heap.size, 2, none⟩ = some (.slice au1 ts1.length cu1) := HNQ.out.cell 2
  have kb0 : Q.cell? ⟨w3.heap.size, 0, none⟩ = some (.bool k2) := HM.out.cell 0
  have kb1 : Q.cell? ⟨w3.heap.size, 1, none⟩ = some (.slice av2 zs2.length cv2) := HM.out.cell 1
  have kb2 : Q.cell? ⟨w3.heap.size, 2, none⟩ = some (.slice au2 ts2.length cu2) := HM.out.cell 2
  go_wp2_with fail
  refine Calls.mono HTO.out ?_
  rintro x w4 ⟨rfl, hb4⟩
  have HW4x := hid hb4
  have HR4 := hid (HR3.out.later (bt HMB.out hb4) HR3.out.lt)
  have HW4 := hid (bt HW3.out (bt HMB.out hb4))
  have HOO := hid (And.intro (owns_later HV3.out (bt HMB.out hb4)) (And.intro (owns_later HU3.out (bt HMB.out hb4)) (And.intro (owns_later HV4.out (bt HMB.out hb4)) (owns_later HU4.out (bt HMB.out hb4)))))
  have hlo : w.heap.size ≤ w1.heap.size := by omega
  have hlZ : w.heap.size ≤ Z.heap.size := by omega
  clear hb4 ka0 ka1 ka2 kb0 kb1 kb2
  have m0 : w4.cell? ⟨w.heap.size + 1, 0, none⟩ = some (.bool false) := HR4.out.cell 0
  have m1 : w4.cell? ⟨w.heap.size + 1, 1, none⟩ = some (.slice none 0 0) := HR4.out.cell 1
  have m2' : w4.cell? ⟨w.heap.size + 1, 2, none⟩ = some (.slice none 0 0) := HR4.out.cell 2
  have m3 : w4.cell? ⟨w.heap.size + 1, 3, none⟩ = some (.bool false) := HR4.out.cell 3
  have m4 : w4.cell? ⟨w.heap.size + 1, 4, none⟩ = some (.slice none 0 0) := HR4.out.cell 4
  have m5 : w4.cell? ⟨w.heap.size + 1, 5, none⟩ = some (.slice none 0 0) := HR4.out.cell 5
  have f0 := HR4.out.free 0
  have f1 := HR4.out.free 1
  have f2 := HR4.out.free 2
  have f3 := HR4.out.free 3
  have f4 := HR4.out.free 4
  have f5 := HR4.out.free 5
  have hf0 : fstE E0 0 = E0 := by unfold fstE; by_cases h : E0 = 0 <;> simp [h]
  have HTW := hid (gtwo (e1 := 0) (by rw [hf0]; exact HT1.out) HT2.out (fun _ => rfl) (fun h => (HZ1.out h).2))
  have hsQ := (bt HMB.out HW4x.out).size
  clear hf0
  by_cases hc2 : code2 = 0
  · rw [if_pos hc2]
    have HFIN := hid (HTW.out.1 hc2)
    clear HTW hc2
    go_wp2_with fail
    have B1 := box_put6 HR4.out (.bool k1) (.slice av1 zs1.length cv1) (.slice au1 ts1.length cu1) (.bool k2) (.slice av2 zs2.length cv2) (.slice au2 ts2.length cu2)
    have G1 := below_put6 HW4.out (w.heap.size + 1) (by omega) (.bool k1) (.slice av1 zs1.length cv1) (.slice au1 ts1.length cu1) (.bool k2) (.slice av2 zs2.length cv2) (.slice au2 ts2.length cu2)
    have hXX := HX.out.2.2.size
    have hput : ∀ {base k : Nat} {v : Value} {l : List Value}, w4.ownsRow base 43 1 v k l → (∀ g, v.ownBlock = some g → X.heap.size ≤ g) → ((((((w4.setCell ⟨w.heap.size + 1, 0, none⟩ (.bool k1)).setCell ⟨w.heap.size + 1, 1, none⟩ (.slice av1 zs1.length cv1)).setCell ⟨w.heap.size + 1, 2, none⟩ (.slice au1 ts1.length cu1)).setCell ⟨w.heap.size + 1, 3, none⟩ (.bool k2)).setCell ⟨w.heap.size + 1, 4, none⟩ (.slice av2 zs2.length cv2)).setCell ⟨w.heap.size + 1, 5, none⟩ (.slice au2 ts2.length cu2)).ownsRow base 43 1 v k l := fun h hb => own_put6 h _ (fun g hg => by have := hb g hg; omega) _ _ _ _ _ _
    clear m0 m1 m2' m3 m4 m5 f0 f1 f2 f3 f4 f5
    refine bodyPost_ret (gres_run (by rfl) B1 _ rfl) rfl ?_
    exact ⟨k1, av1, cv1, zs1, au1, cu1, ts1, k2, av2, cv2, zs2, au2, cu2, ts2, code2, rfl, ⟨owns_base (hput HOO.out.1 (fun g hg => by have := (HOO.out.1.lt g hg).1; omega)) hlo, owns_base (hput HOO.out.2.1 (fun g hg => by have := (HOO.out.2.1.lt g hg).1; omega)) hlo, owns_base (hput HOO.out.2.2.1 (fun g hg => by have := (HOO.out.2.2.1.lt g hg).1; omega)) hlZ, owns_base (hput HOO.out.2.2.2 (fun g hg => by have := (HOO.out.2.2.2.lt g hg).1; omega)) hlZ⟩, HFIN.out, G1, w2, HC1.out.up hlo (Nat.le_refl _), HC2.out.up HNB.out.size (by simp [World.setCell]; omega)⟩
  · rw [if_neg hc2]
    have HFIN := hid (HTW.out.2 hc2)
    clear HTW hc2
    go_wp2_with fail
    have B1 := box_put6 HR4.out (.bool false) (.slice none 0 0) (.slice none 0 0) (.bool false) (.slice none 0 0) (.slice none 0 0)
    have G1 := below_put6 HW4.out (w.heap.size + 1) (by omega) (.bool false) (.slice none 0 0) (.slice none 0 0) (.bool false) (.slice none 0 0) (.slice none 0 0)
    clear m0 m1 m2' m3 m4 m5 f0 f1 f2 f3 f4 f5
    refine bodyPost_ret (gres_run (by rfl) B1 _ rfl) rfl ?_
    exact ⟨false, none, 0, [], none, 0, [], false, none, 0, [], none, 0, [], code2, rfl, ⟨World.ownsRow_nil _ _ _ _, World.ownsRow_nil _ _ _ _, World.ownsRow_nil _ _ _ _, World.ownsRow_nil _ _ _ _⟩, HFIN.out, G1, _, kcut_nil _ _ G1.size, kcut_nil _ _ (Nat.le_refl _)⟩

end Go.Proofs.Ytbccnngdkanejaa

/- A box of six cells that is stored into whole. -/
namespace Go.Proofs.Ytbccnngdkanejaa
open Go.RowKit
set_option linter.unusedVariables false

end Go.Proofs.Ytbccnngdkanejaa

/- Complex fractions, the laws' own: frac; two fractions, two complex fractions with the same words. -/
namespace Go.Proofs.Ytbccnngdkanejaa
open Go.RowKit
set_option linter.unusedVariables false

set_option maxHeartbeats 1600000 in
set_option maxRecDepth 100000 in
theorem gsameRatio_eq (n : Bool) (v u v' u' : Value) (xs ys : List Int) (w : World) (h : Sl w v xs) (g : Sl w u ys) (h' : Sl w v' xs) (g' : Sl w u' ys) (lx : xs.length ≤ 281474976710656) (ly : ys.length ≤ 281474976710656) :
    Calls Try.prog 13 #[.agg #[.bool n, v, u], .agg #[.bool n, v', u']] w fun e w' => e = .returned (.bool true) ∧ Below w.heap.size w w' := by
  have HB : Hid (Below w.heap.size w ((w.alloc (.cells #[.bool n, v, u] 29)).alloc (.cells #[.bool n, v', u'] 29))) := bt (alloc_later _ _) (alloc_later _ _)
  have HN : Hid (Box ((w.alloc (.cells #[.bool n, v, u] 29)).alloc (.cells #[.bool n, v', u'] 29)) w.heap.size 29 #[.bool n, v, u]) := Box.later (Box.made w _ _) (alloc_later _ _) (by simp)
  have HM : Hid (Box ((w.alloc (.cells #[.bool n, v, u] 29)).alloc (.cells #[.bool n, v', u'] 29)) (w.heap.size + 1) 29 #[.bool n, v', u']) := by
    have e := Box.made (w.alloc (.cells #[.bool n, v, u] 29)) 29 #[.bool n, v', u']
    simp at e
    exact e
  have H1 := hid (same_sl v v' xs xs _ (h.later HB.out) (h'.later HB.out) lx lx)
  rw [decide_eq_true rfl] at H1
  have H2 := hid (fun ww (hb : Below _ ((w.alloc (.cells #[.bool n, v, u] 29)).alloc (.cells #[.bool n, v', u'] 29)) ww) => same_sl u u' ys ys ww ((g.later HB.out).later hb) ((g'.later HB.out).later hb) ly ly)
  rw [decide_eq_true rfl] at H2
  have hbb : (n == n) = true := by simp
  obtain ⟨a, ca, rfl, hr⟩ := h
  obtain ⟨b, cb, rfl, gr⟩ := g
  obtain ⟨a', ca', rfl, hr'⟩ := h'
  obtain ⟨b', cb', rfl, gr'⟩ := g'
  clear hr gr hr' gr'
  go_enter Try.func13, Try.ntmps13
  go_wp2_with fail
  refine Calls.mono H1.out ?_
  generalize ((w.alloc (.cells #[.bool n, .slice a xs.length ca, .slice b ys.length cb] 29)).alloc (.cells #[.bool n, .slice a' xs.length ca', .slice b' ys.length cb'] 29)) = X at *
  rintro e w1 ⟨rfl, hb1⟩
  obtain ⟨p0, p1, p2, _, _, _⟩ := res_box3 HN.out hb1
  obtain ⟨q0, q1, q2, _, _, _⟩ := res_box3 HM.out hb1
  have HC := hid (H2.out w1 hb1)
  have HB1 := hid (bt HB.out hb1)
  clear hb1 H1 H2
  go_wp2_with fail
  refine Calls.mono HC.out ?_
  rintro e w2 ⟨rfl, hb2⟩
  have HBN := hid (bt HB1.out hb2)
  clear hb2 HC
  go_wp2_with fail
  go_ret
  exact ⟨rfl, HBN.out⟩
end Go.Proofs.Ytbccnngdkanejaa

/- Two complex fractions with the same words: slackwaterkit.SameGauss. -/
namespace Go.Proofs.Ytbccnngdkanejaa
open Go.RowKit
set_option linter.unusedVariables false

set_option maxHeartbeats 1600000 in
set_option maxRecDepth 100000 in
theorem gsameGauss_eq (n : Bool) (a : Option Addr) (ca : Nat) (xs : List Int) (b : Option Addr) (cb : Nat) (ys : List Int) (m : Bool) (c : Option Addr) (cc : Nat) (us : List Int) (d : Option Addr) (cd : Nat) (vs : List Int) (a2 : Option Addr) (ca2 : Nat) (b2 : Option Addr) (cb2 : Nat) (c2 : Option Addr) (cc2 : Nat) (d2 : Option Addr) (cd2 : Nat) (w : World) (sx : Sl w (.slice a xs.length ca) xs) (sy : Sl w (.slice b ys.length cb) ys) (su : Sl w (.slice c us.length cc) us) (sv : Sl w (.slice d vs.length cd) vs) (sx2 : Sl w (.slice a2 xs.length ca2) xs) (sy2 : Sl w (.slice b2 ys.length cb2) ys) (su2 : Sl w (.slice c2 us.length cc2) us) (sv2 : Sl w (.slice d2 vs.length cd2) vs) (lx : xs.length ≤ 281474976710656) (ly : ys.length ≤ 281474976710656) (lu : us.length ≤ 281474976710656) (lv : vs.length ≤ 281474976710656) :
    Calls Try.prog 15 #[.agg #[.bool n, .slice a xs.length ca, .slice b ys.length cb, .bool m, .slice c us.length cc, .slice d vs.length cd], .agg #[.bool n, .slice a2 xs.length ca2, .slice b2 ys.length cb2, .bool m, .slice c2 us.length cc2, .slice d2 vs.length cd2]] w fun x w' => x = .returned (.bool true) ∧ Below w.heap.size w w' := by
  have HX := hid (boxes2m w 31 31 #[.bool n, .slice a xs.length ca, .slice b ys.length cb, .bool m, .slice c us.length cc, .slice d vs.length cd] #[.bool n, .slice a2 xs.length ca2, .slice b2 ys.length cb2, .bool m, .slice c2 us.length cc2, .slice d2 vs.length cd2])
  obtain ⟨X, hX⟩ : ∃ X, (w.alloc (.cells #[.bool n, .slice a xs.length ca, .slice b ys.length cb, .bool m, .slice c us.length cc, .slice d vs.length cd] 31)).alloc (.cells #[.bool n, .slice a2 xs.length ca2, .slice b2 ys.length cb2, .bool m, .slice c2 us.length cc2, .slice d2 vs.length cd2] 31) = X := ⟨_, rfl⟩
  rw [hX] at HX
  have H1 := hid (gsameRatio_eq n _ _ _ _ xs ys X (sx.later HX.out.2.2) (sy.later HX.out.2.2) (sx2.later HX.out.2.2) (sy2.later HX.out.2.2) lx ly)
  have H2 : Hid (∀ V, Below w.heap.size w V → Calls Try.prog 13 #[.agg #[.bool m, .slice c us.length cc, .slice d vs.length cd], .agg #[.bool m, .slice c2 us.length cc2, .slice d2 vs.length cd2]] V fun e w' => e = .returned (.bool true) ∧ Below V.heap.size V w') := fun V hv => gsameRatio_eq m _ _ _ _ us vs V (su.later hv) (sv.later hv) (su2.later hv) (sv2.later hv) lu lv
  clear sx sy su sv sx2 sy2 su2 sv2 lx ly lu lv
  obtain ⟨k0, k1, k2, k3, k4, k5⟩ := cells6 HX.out.1
  obtain ⟨m0, m1, m2, m3, m4, m5⟩ := cells6 HX.out.2.1
  go_enter Try.func15, Try.ntmps15
  go_wp2_with fail
  refine Calls.mono H1.out ?_
  rintro e w1 ⟨rfl, hb1⟩
  have HW1 := hid (bt HX.out.2.2 hb1)
  have HA1 := hid (HX.out.1.later hb1 HX.out.1.lt)
  have HA2 := hid (HX.out.2.1.later hb1 HX.out.2.1.lt)
  clear hb1 H1 k0 k1 k2 k3 k4 k5 m0 m1 m2 m3 m4 m5
  obtain ⟨k0, k1, k2, k3, k4, k5⟩ := cells6 HA1.out
  obtain ⟨m0, m1, m2, m3, m4, m5⟩ := cells6 HA2.out
  go_wp2_with fail
  refine Calls.mono (H2.out _ HW1.out) ?_
  rintro e w2 ⟨rfl, hb2⟩
  have HW2 := hid (bt HW1.out hb2)
  clear hb2 H2
  go_wp2_with fail
  go_ret
  exact ⟨rfl, HW2.out⟩
end Go.Proofs.Ytbccnngdkanejaa

