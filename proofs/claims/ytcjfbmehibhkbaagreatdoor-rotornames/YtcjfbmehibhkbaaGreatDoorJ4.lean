/- My texts on the way to RotorNames, one behind the other: contracts of the program and of the document's answers. -/
import Derived.Test.YtcjfbmehibhkbaaGreatDoorJ1
import Derived.Test.YtcjfbmehibhkbaaGreatDoorJ2
import Derived.Test.YtcjfbmehibhkbaaGreatDoorJ3
import Derived.Test.YtcjfbmehibhkbaaGreatDoorChecked
import Derived.Handy
import Derived.RegionTactic
import Derived.ChangeAlike
import Derived.Deep.RegionHeld3
import Derived.Deep.QuietTactic
import Derived.BigQuiet
import Derived.Laws.AppendOwnNone
import Derived.LoopN
import Derived.DeepKeys5
import Derived.Maps.OwnSet
import Derived.Deep.Slices
import Derived.OpenShut
import Derived.ChangeArms
/- Boxes made one behind the other; drawing keeps what is below. -/
namespace Go.Proofs.YtcjfbmehibhkbaaGreatDoor
open Go.RowKit
set_option linter.unusedVariables false

theorem boxes1 (w : World) (t : Nat) (u : Array Value) : FBox (w.alloc (.cells u t)) w.heap.size t u ∧ Below w.heap.size w (w.alloc (.cells u t)) :=
  ⟨FBox.made _ _ _, (Below.refl _ _).alloc (Nat.le_refl _) _⟩
theorem boxes2 (w : World) (t : Nat) (u v : Array Value) : FBox ((w.alloc (.cells u t)).alloc (.cells v t)) w.heap.size t u ∧ FBox ((w.alloc (.cells u t)).alloc (.cells v t)) (w.heap.size + 1) t v ∧ Below w.heap.size w ((w.alloc (.cells u t)).alloc (.cells v t)) := by
  have a := boxes1 w t u
  have b := boxes1 (w.alloc (.cells u t)) t v
  have es : (w.alloc (.cells u t)).heap.size = w.heap.size + 1 := World.size_alloc _ _
  exact ⟨a.1.later b.2 a.1.lt, es ▸ b.1, b2 a.2 b.2⟩
theorem bdrewN {B : Nat} {a w : World} (h : Below B a w) (n : Nat) : Below B a (w.drewN n) := by
  induction n with
  | zero => exact h
  | succ n ih => exact ih.drew
end Go.Proofs.YtcjfbmehibhkbaaGreatDoor

/- package rotor: size, commonDivisor, Check, Conj, half, of every rotor. -/
namespace Go.Proofs.YtcjfbmehibhkbaaGreatDoor
open Go.RowKit
set_option linter.unusedVariables false

/-- A rotor may be. -/
def rOK (f n : Int) : Prop := 1 ≤ f ∧ f ≤ 1000 ∧ 1 ≤ n.natAbs ∧ n.natAbs ≤ 1000 ∧ f ≠ (n.natAbs : Int) ∧ Nat.gcd f.toNat n.natAbs = 1
instance (f n : Int) : Decidable (rOK f n) := by unfold rOK; infer_instance
def ochk (f n : Int) : Int := if rOK f n then 0 else 150
def in32 (f n : Int) : Prop := (-2147483648 ≤ f ∧ f ≤ 2147483647) ∧ (-2147483648 ≤ n ∧ n ≤ 2147483647)
theorem ochk_or (f n : Int) : ochk f n = 0 ∧ rOK f n ∨ ochk f n = 150 ∧ ¬ rOK f n := by
  unfold ochk
  by_cases h : rOK f n
  · rw [if_pos h]; exact .inl ⟨rfl, h⟩
  · rw [if_neg h]; exact .inr ⟨rfl, h⟩

set_option maxHeartbeats 800000 in
set_option maxRecDepth 100000 in
theorem osize_any (n : Int) (w : World) (h0 : -9223372036854775808 < n) (h1 : n ≤ 9223372036854775807) :
    Calls Tryz.prog 11 #[.int .i64 n] w fun e w' => e = .returned (.int .i64 (n.natAbs : Int)) ∧ w' = w := by
  by_cases h : n < 0
  · go_enter Tryz.func11, Tryz.ntmps11
    go_wp2_with fail
    go_ret
    exact ⟨ret_int (by omega), rfl⟩
  · go_enter Tryz.func11, Tryz.ntmps11
    go_wp2_with fail
    go_ret
    exact ⟨ret_int (by omega), rfl⟩

set_option maxHeartbeats 800000 in
set_option maxRecDepth 100000 in
theorem ocommon_any (a b : Nat) (w : World) (ha : a < 9223372036854775808) (hb : b < 9223372036854775808) :
    Calls Tryz.prog 12 #[.int .i64 (a : Int), .int .i64 (b : Int)] w fun e w' => e = .returned (.int .i64 (Nat.gcd a b : Nat)) ∧ Below w.heap.size w w' := by
  go_enter Tryz.func12, Tryz.ntmps12
  go_wp2_with fail
  go_loopw [0, 1] (fun x y wr => ∃ c d : Nat, x = .int .i64 (c : Int) ∧ y = .int .i64 (d : Int) ∧ c < 9223372036854775808 ∧ d < 9223372036854775808 ∧ Hid (Nat.gcd c d = Nat.gcd a b) ∧ Below w.heap.size w wr) (fun _ y _ => (intOf y).toNat)
  case atStart => exact ⟨a, b, rfl, rfl, ha, hb, (rfl : Nat.gcd a b = Nat.gcd a b), Below.refl _ _⟩
  case round =>
    obtain ⟨c, d, rfl, rfl, hc, hd, hg, hX⟩ := hrel
    by_cases h0 : d = 0
    · subst h0
      have HG : Hid (c = Nat.gcd a b) := by have := hg.out; rw [Nat.gcd_zero_right] at this; exact this
      clear hg
      go_wp2_with fail
      go_ret
      exact ⟨ret_int (by rw [HG.out]), hX⟩
    · have hm : c % d < d := Nat.mod_lt _ (by omega)
      have HG : Hid (Nat.gcd d (c % d) = Nat.gcd a b) := by show _ = _; rw [← hg.out, Nat.gcd_comm c d, Nat.gcd_rec d c, Nat.gcd_comm]
      have h0' : (d : Int) ≠ 0 := by omega
      have e2 : Int.tmod (c : Int) (d : Int) = ((c % d : Nat) : Int) := by
        rw [Int.tmod_eq_emod_of_nonneg (by omega)]; rfl
      clear hg
      go_wp2_with fail
      go_region
      all_goals
        go_wp2_with fail
        go_roundw
        case rel => exact ⟨d, c % d, rfl, by go_num, by omega, by omega, HG, hX.drew⟩
        case measure => simp [intOf]; omega

set_option maxHeartbeats 1600000 in
set_option maxRecDepth 100000 in
theorem ocheck_any (f n : Int) (w : World) (h : in32 f n) :
    Calls Tryz.prog 4 #[.agg #[.int .i32 f, .int .i32 n]] w fun e w' => e = .returned (.int .i64 (ochk f n)) ∧ Below w.heap.size w w' := by
  obtain ⟨⟨f0, f1⟩, n0, n1⟩ := h
  have hb0 : Below w.heap.size w (w.alloc (.cells #[.int .i32 f, .int .i32 n] 23)) := (Below.refl _ _).alloc (Nat.le_refl _) _
  have HN : Hid (¬ (1 ≤ f ∧ f ≤ 1000 ∧ 1 ≤ (n.natAbs : Int) ∧ (n.natAbs : Int) ≤ 1000 ∧ f ≠ (n.natAbs : Int)) → ochk f n = 150) := fun h => by unfold ochk; rw [if_neg]; unfold rOK; omega
  have HY : Hid ((1 ≤ f ∧ f ≤ 1000 ∧ 1 ≤ (n.natAbs : Int) ∧ (n.natAbs : Int) ≤ 1000 ∧ f ≠ (n.natAbs : Int)) → Nat.gcd f.toNat n.natAbs = 1 → ochk f n = 0) := fun h g => by unfold ochk; rw [if_pos]; unfold rOK; omega
  have HY' : Hid (¬ Nat.gcd f.toNat n.natAbs = 1 → ochk f n = 150) := fun g => by unfold ochk; rw [if_neg]; unfold rOK; omega
  have HD : Hid (1 ≤ f → 1 ≤ Nat.gcd f.toNat n.natAbs) := fun g => Nat.gcd_pos_of_pos_left _ (by omega)
  have HS := hid (fun V => osize_any n V (by omega) (by omega))
  have HC : Hid (∀ V : World, 1 ≤ f → Calls Tryz.prog 12 #[.int .i64 f, .int .i64 (n.natAbs : Int)] V fun e w' => e = .returned (.int .i64 (Nat.gcd f.toNat n.natAbs : Nat)) ∧ Below V.heap.size V w') := fun V h1 => by
    have := ocommon_any f.toNat n.natAbs V (by omega) (by omega)
    rw [show ((f.toNat : Nat) : Int) = f by omega] at this
    exact this
  obtain ⟨d, hD⟩ : ∃ d, Nat.gcd f.toNat n.natAbs = d := ⟨_, rfl⟩
  rw [hD] at HY HY' HC HD
  clear hD
  have m1 : n.natAbs ≤ 2147483648 := by omega
  generalize n.natAbs = N at *
  go_enter Tryz.func4, Tryz.ntmps4
  go_wp2_with fail
  go_quiet ((go_at_call 11; exact Calls.quiet_of_same (HS.out _)))
  clear HS
  have HB0 : Hid (Below w.heap.size w ((w.alloc (.cells #[.int .i32 f, .int .i32 n] 23)).drewN nq)) := bdrewN hb0 nq
  generalize (w.alloc (.cells #[.int .i32 f, .int .i32 n] 23)).drewN nq = X at *
  clear hb0
  go_wp2_with fail
  all_goals try (go_ret; exact ⟨ret_int (HN.out (by omega)).symm, HB0.out⟩)
  refine Calls.mono (HC.out _ (by omega)) ?_
  rintro e w1 ⟨rfl, hb1⟩
  by_cases h1 : d = 1
  · subst h1
    go_wp2_with fail
    go_ret
    exact ⟨ret_int (HY.out (by omega) (by trivial)).symm, b2 HB0.out hb1⟩
  · have h1' : (1 : Int) < (d : Int) := by have := HD.out (by omega); omega
    go_wp2_with fail
    go_ret
    exact ⟨ret_int (HY'.out h1).symm, b2 HB0.out hb1⟩
end Go.Proofs.YtcjfbmehibhkbaaGreatDoor

/- package rotor: copied, over: the same words in new memory. -/
namespace Go.Proofs.YtcjfbmehibhkbaaGreatDoor
open Go.RowKit
set_option linter.unusedVariables false
set_option linter.unusedSimpArgs false

set_option maxHeartbeats 800000 in
set_option maxRecDepth 100000 in
theorem ocopied_any (a : Option Addr) (cap : Nat) (xs : List Int) (w : World) (h : Sl w (.slice a xs.length cap) xs) (hn : xs.length ≤ 1099511627776) :
    Calls Tryz.prog 37 #[.slice a xs.length cap] w fun e w' => ∃ a' c', e = .returned (.slice a' xs.length c') ∧ w'.ownsRow w.heap.size 38 1 (.slice a' xs.length c') xs.length (xs.map (Value.int .u32)) ∧ Below w.heap.size w w' := by
  obtain ⟨i0, hi, hz0, hz1, hz2⟩ := info_parts Tryz.infoW
  have hown : w.ownsRow w.heap.size 38 1 (.slice none 0 0) 0 [] := World.ownsRow_nil _ _ _ _
  obtain ⟨ad, c0, e0, hr⟩ := h
  cases e0
  cases a with
  | none =>
    have h0 : cap = 0 := hr.2.2.2.2.2 rfl
    subst h0
    have h1 : xs.length = 0 := by have := hr.2.2.2.1; omega
    have h2 : xs = [] := List.eq_nil_of_length_eq_zero h1
    subst h2
    clear hr
    go_enter Tryz.func37, Tryz.ntmps37
    go_wp2_with (at_builtin; refine wpList_append_own_none rfl _ _ 27 rfl w.heap.size 38 i0 1 Tryz.underlying27 hi _ 0 [] rfl hown rfl ?_)
    go_ret
    exact ⟨none, 0, rfl, hown, Below.refl _ _⟩
  | some ad =>
    have HN := hid (copy_news hr)
    have HLn : Hid ((xs.map (Value.int .u32)).length = xs.length * 1) := by show _ = _; simp
    clear hr
    go_enter Tryz.func37, Tryz.ntmps37
    go_wp2_with (at_builtin; refine wpList_append_own _ rfl _ _ 27 rfl w.heap.size 38 i0 (.int .u32 0) 1 4 Tryz.underlying27 hi hz0 hz1 hz2 rfl (by decide) _ 0 [] rfl hown ad xs.length cap (xs.map (Value.int .u32)) rfl HLn.out HN.out (ints_oneCell _ _) (by unfold maxLen; omega) (by omega) (Nat.le_refl _) ?_)
    intro v' w1 hown' hgrow _
    have hb2 : Below w.heap.size w w1 := (Below.refl w.heap.size w).grown hgrow (Nat.le_refl _) (fun k hk => by simp [Value.ownBlock] at hk)
    have r3 : w1.ownsRow w.heap.size 38 1 v' xs.length (xs.map (Value.int .u32)) := by simpa using hown'
    obtain ⟨a', c', rfl⟩ := own_slice' r3
    clear hown' hgrow
    go_wp2
    go_ret
    exact ⟨a', c', rfl, r3, hb2⟩

set_option maxHeartbeats 1600000 in
set_option maxRecDepth 100000 in
theorem oover_any (n : Bool) (a : Option Addr) (ca : Nat) (xs : List Int) (b : Option Addr) (lb cb : Nat) (m : Bool) (c : Option Addr) (cc : Nat) (us : List Int) (d : Option Addr) (ld cd : Nat) (w : World) (sx : Sl w (.slice a xs.length ca) xs) (su : Sl w (.slice c us.length cc) us) (lx : xs.length ≤ 1099511627776) (lu : us.length ≤ 1099511627776) :
    Calls Tryz.prog 27 #[.agg #[.bool n, .slice a xs.length ca, .slice b lb cb], .agg #[.bool m, .slice c us.length cc, .slice d ld cd]] w fun e w' => ∃ a1 c1 a2 c2, e = .returned (.agg #[.bool n, .slice a1 xs.length c1, .slice a2 us.length c2]) ∧ (w'.ownsRow w.heap.size 38 1 (.slice a1 xs.length c1) xs.length (xs.map (Value.int .u32)) ∧ w'.ownsRow w.heap.size 38 1 (.slice a2 us.length c2) us.length (us.map (Value.int .u32))) ∧ Below w.heap.size w w' ∧ Cut w (.slice a1 xs.length c1) (.slice a2 us.length c2) w' := by
  have HX := hid (boxes3r w 29 #[.bool n, .slice a xs.length ca, .slice b lb cb] #[.bool m, .slice c us.length cc, .slice d ld cd] #[.bool false, .slice none 0 0, .slice none 0 0])
  obtain ⟨X, hX⟩ : ∃ X, ((w.alloc (.cells #[.bool n, .slice a xs.length ca, .slice b lb cb] 29)).alloc (.cells #[.bool m, .slice c us.length cc, .slice d ld cd] 29)).alloc (.cells #[.bool false, .slice none 0 0, .slice none 0 0] 29) = X := ⟨_, rfl⟩
  rw [hX] at HX
  have HC1 : Hid (∀ V, Below X.heap.size X V → Calls Tryz.prog 37 #[.slice a xs.length ca] V fun e w' => ∃ a' c', e = .returned (.slice a' xs.length c') ∧ Hid (w'.ownsRow V.heap.size 38 1 (.slice a' xs.length c') xs.length (xs.map (Value.int .u32))) ∧ Hid (Below V.heap.size V w')) := fun V hv => ocopied_any a ca xs V (sx.later (bt HX.out.2.2.2 hv)) lx
  have HC2 : Hid (∀ V, Below X.heap.size X V → Calls Tryz.prog 37 #[.slice c us.length cc] V fun e w' => ∃ a' c', e = .returned (.slice a' us.length c') ∧ Hid (w'.ownsRow V.heap.size 38 1 (.slice a' us.length c') us.length (us.map (Value.int .u32))) ∧ Hid (Below V.heap.size V w')) := fun V hv => ocopied_any c cc us V (su.later (bt HX.out.2.2.2 hv)) lu
  have HK : Hid (∀ V, Below X.heap.size X V → V.cell? ⟨w.heap.size, 0, none⟩ = some (.bool n) ∧ V.cell? ⟨w.heap.size, 1, none⟩ = some (.slice a xs.length ca) ∧ V.cell? ⟨w.heap.size + 1, 1, none⟩ = some (.slice c us.length cc)) := fun V hv => ⟨(HX.out.1.later hv HX.out.1.lt).cell 0, (HX.out.1.later hv HX.out.1.lt).cell 1, (HX.out.2.1.later hv HX.out.2.1.lt).cell 1⟩
  have HKP : Hid (∀ V, Below X.heap.size X V → ∀ (v0 v1 v2 : Value), ((((V.setCell ⟨w.heap.size + 1 + 1, 0, none⟩ v0).setCell ⟨w.heap.size + 1 + 1, 1, none⟩ v1).setCell ⟨w.heap.size + 1 + 1, 2, none⟩ v2).cell? ⟨w.heap.size, 0, none⟩ = some (.bool n) ∧ (((V.setCell ⟨w.heap.size + 1 + 1, 0, none⟩ v0).setCell ⟨w.heap.size + 1 + 1, 1, none⟩ v1).setCell ⟨w.heap.size + 1 + 1, 2, none⟩ v2).cell? ⟨w.heap.size, 1, none⟩ = some (.slice a xs.length ca) ∧ (((V.setCell ⟨w.heap.size + 1 + 1, 0, none⟩ v0).setCell ⟨w.heap.size + 1 + 1, 1, none⟩ v1).setCell ⟨w.heap.size + 1 + 1, 2, none⟩ v2).cell? ⟨w.heap.size + 1, 1, none⟩ = some (.slice c us.length cc))) := fun V hv v0 v1 v2 => by
    have h := box_far3 (HX.out.1.later hv HX.out.1.lt) (show w.heap.size ≠ w.heap.size + 1 + 1 by omega) v0 v1 v2
    have h' := box_far3 (HX.out.2.1.later hv HX.out.2.1.lt) (show w.heap.size + 1 ≠ w.heap.size + 1 + 1 by omega) v0 v1 v2
    exact ⟨h.cell 0, h.cell 1, h'.cell 1⟩
  have HM : Hid (∀ V, Below X.heap.size X V → V.cell? ⟨w.heap.size + 1 + 1, 0, none⟩ = some (.bool false) ∧ V.cell? ⟨w.heap.size + 1 + 1, 1, none⟩ = some (.slice none 0 0) ∧ V.cell? ⟨w.heap.size + 1 + 1, 2, none⟩ = some (.slice none 0 0) ∧ V.frozen? ⟨w.heap.size + 1 + 1, 0, none⟩ = false ∧ V.frozen? ⟨w.heap.size + 1 + 1, 1, none⟩ = false ∧ V.frozen? ⟨w.heap.size + 1 + 1, 2, none⟩ = false) := fun V hv => by
    have h := HX.out.2.2.1.later hv HX.out.2.2.1.lt
    exact ⟨h.cell 0, h.cell 1, h.cell 2, h.free 0, h.free 1, h.free 2⟩
  have hd0 := hid (Below.refl X.heap.size X).drew
  have hs0 := HK.out _ hd0.out
  clear sx su lx lu
  go_enter Tryz.func27, Tryz.ntmps27
  go_wp2_with fail
  go_region_held3 (fun V : World => V.cell? ⟨w.heap.size, 0, none⟩ = some (.bool n) ∧ V.cell? ⟨w.heap.size, 1, none⟩ = some (.slice a xs.length ca) ∧ V.cell? ⟨w.heap.size + 1, 1, none⟩ = some (.slice c us.length cc)) (first | exact hsB | exact hsA | exact hs0 | exact HKP.out _ hbB.out _ _ _)
    (first
      | (go_at_call 37; (with_reducible refine Calls.mono (HC2.out _ hbA.out) ?_); rintro e w2 ⟨a2, c2, rfl, o2, b2⟩; have hbB := hid (bt hbA.out b2.out); have hsB := HK.out _ hbB.out; obtain ⟨m0, m1, m2, f0, f1, f2⟩ := HM.out _ hbB.out)
      | (go_at_call 37; (with_reducible refine Calls.mono (HC1.out _ hd0.out) ?_); rintro e w1 ⟨a1, c1, rfl, o1, b1⟩; have hbA := hid (bt hd0.out b1.out); have hsA := HK.out _ hbA.out))
  have HBX := hid (HX.out.2.2.1.later hbB.out HX.out.2.2.1.lt)
  have HBW := hid (bt HX.out.2.2.2 hbB.out)
  have HO1 := hid (owns_later o1.out b2.out)
  have HO2 := hid o2.out
  have HL1 : Hid (Lies (.slice a1 xs.length c1) w.heap.size w1.heap.size) := fun g hg => ⟨Nat.le_trans HX.out.2.2.2.size (o1.out.lt g hg).1, (o1.out.lt g hg).2⟩
  have HL2 : Hid (Lies (.slice a2 us.length c2) w1.heap.size w2.heap.size) := fun g hg => ⟨(o2.out.lt g hg).1, (o2.out.lt g hg).2⟩
  have hXs : w.heap.size + 1 + 1 < X.heap.size := HX.out.2.2.1.lt
  have h1s : X.heap.size ≤ w1.heap.size := hbA.out.size
  have h2s : w1.heap.size ≤ w2.heap.size := b2.out.size
  have hwX : w.heap.size ≤ X.heap.size := HX.out.2.2.2.size
  clear hs0 hsA hsB hd0 o1 o2 b1 b2 hbA hbB HK HKP HM HC1 HC2
  go_wp2_with fail
  have B1 := box_put3 HBX.out (.bool n) (.slice a1 xs.length c1) (.slice a2 us.length c2)
  have e1 : ∀ g, (Value.slice a1 xs.length c1).ownBlock = some g → g ≠ w.heap.size + 1 + 1 := fun g hg => by have := (HO1.out.lt g hg).1; have e : X.drew.heap.size = X.heap.size := rfl; omega
  have e2 : ∀ g, (Value.slice a2 us.length c2).ownBlock = some g → g ≠ w.heap.size + 1 + 1 := fun g hg => by have := (HO2.out.lt g hg).1; omega
  have V1 := own_put3' HO1.out _ e1 (.bool n) (.slice a1 xs.length c1) (.slice a2 us.length c2)
  have U1 := own_put3' HO2.out _ e2 (.bool n) (.slice a1 xs.length c1) (.slice a2 us.length c2)
  refine bodyPost_ret (results_cell_row (by rfl) _ _ (w.heap.size + 1 + 1) 29 _ (0, 0) _ (by rfl) B1 Tryz.underlying29 rfl (by kernel_rfl)) rfl ?_
  refine ⟨a1, c1, a2, c2, rfl, ⟨owns_base V1 hwX, owns_base U1 (by omega)⟩, below_put3 HBW.out _ (by omega) _ _ _, ?_⟩
  exact ⟨w1.heap.size, by omega, by simp [World.setCell]; omega, HL1.out, fun g hg => ⟨(HL2.out g hg).1, by have := (HL2.out g hg).2; simp [World.setCell]; omega⟩⟩

/-- number: the complex fraction of a power in two pieces, in new memory. -/
def ONum (w : World) (g h : G6) (x : Ending) (w' : World) : Prop := ∃ a1 c1 a2 c2 a3 c3 a4 c4, x = .returned (.agg #[.bool g.n, .slice a1 g.xs.length c1, .slice a2 h.xs.length c2, .bool g.m, .slice a3 g.us.length c3, .slice a4 h.xs.length c4]) ∧ Hid (w'.ownsRow w.heap.size 38 1 (.slice a1 g.xs.length c1) g.xs.length (g.xs.map (Value.int .u32)) ∧ w'.ownsRow w.heap.size 38 1 (.slice a2 h.xs.length c2) h.xs.length (h.xs.map (Value.int .u32)) ∧ w'.ownsRow w.heap.size 38 1 (.slice a3 g.us.length c3) g.us.length (g.us.map (Value.int .u32)) ∧ w'.ownsRow w.heap.size 38 1 (.slice a4 h.xs.length c4) h.xs.length (h.xs.map (Value.int .u32))) ∧ Hid (Below w.heap.size w w') ∧ Hid (∃ W1, Cut w (.slice a1 g.xs.length c1) (.slice a2 h.xs.length c2) W1 ∧ Cut W1 (.slice a3 g.us.length c3) (.slice a4 h.xs.length c4) w')
set_option maxHeartbeats 3200000 in
set_option maxRecDepth 100000 in
theorem onumber_any (g h : G6) (w : World) (sg1 : Sl w (.slice g.a g.xs.length g.ca) g.xs) (sg2 : Sl w (.slice g.c g.us.length g.cc) g.us) (sh : Sl w (.slice h.a h.xs.length h.ca) h.xs) (lg1 : g.xs.length ≤ 1099511627776) (lg2 : g.us.length ≤ 1099511627776) (lh : h.xs.length ≤ 1099511627776) :
    Calls Tryz.prog 15 #[.agg #[.bool g.n, .slice g.a g.xs.length g.ca, .slice g.b g.ys.length g.cb, .bool g.m, .slice g.c g.us.length g.cc, .slice g.d g.vs.length g.cd, .bool h.n, .slice h.a h.xs.length h.ca, .slice h.b h.ys.length h.cb, .bool h.m, .slice h.c h.us.length h.cc, .slice h.d h.vs.length h.cd]] w (ONum w g h) := by
  obtain ⟨X, hX⟩ : ∃ X, (w.alloc (.cells #[.bool g.n, .slice g.a g.xs.length g.ca, .slice g.b g.ys.length g.cb, .bool g.m, .slice g.c g.us.length g.cc, .slice g.d g.vs.length g.cd, .bool h.n, .slice h.a h.xs.length h.ca, .slice h.b h.ys.length h.cb, .bool h.m, .slice h.c h.us.length h.cc, .slice h.d h.vs.length h.cd] 45)).alloc (.cells #[.bool false, .slice none 0 0, .slice none 0 0, .bool false, .slice none 0 0, .slice none 0 0] 31) = X := ⟨_, rfl⟩
  have HB : Hid (Below w.heap.size w X) := by rw [← hX]; exact bt (alloc_later _ _) (alloc_later _ _)
  have HP : Hid (Box X w.heap.size 45 #[.bool g.n, .slice g.a g.xs.length g.ca, .slice g.b g.ys.length g.cb, .bool g.m, .slice g.c g.us.length g.cc, .slice g.d g.vs.length g.cd, .bool h.n, .slice h.a h.xs.length h.ca, .slice h.b h.ys.length h.cb, .bool h.m, .slice h.c h.us.length h.cc, .slice h.d h.vs.length h.cd]) := by rw [← hX]; exact (Box.made w _ _).later (alloc_later _ _) (Box.made w _ _).lt
  have HZ : Hid (Box X (w.heap.size + 1) 31 #[.bool false, .slice none 0 0, .slice none 0 0, .bool false, .slice none 0 0, .slice none 0 0]) := by
    have q := Box.made (w.alloc (.cells #[.bool g.n, .slice g.a g.xs.length g.ca, .slice g.b g.ys.length g.cb, .bool g.m, .slice g.c g.us.length g.cc, .slice g.d g.vs.length g.cd, .bool h.n, .slice h.a h.xs.length h.ca, .slice h.b h.ys.length h.cb, .bool h.m, .slice h.c h.us.length h.cc, .slice h.d h.vs.length h.cd] 45)) 31 #[.bool false, .slice none 0 0, .slice none 0 0, .bool false, .slice none 0 0, .slice none 0 0]
    rw [show (w.alloc (.cells #[.bool g.n, .slice g.a g.xs.length g.ca, .slice g.b g.ys.length g.cb, .bool g.m, .slice g.c g.us.length g.cc, .slice g.d g.vs.length g.cd, .bool h.n, .slice h.a h.xs.length h.ca, .slice h.b h.ys.length h.cb, .bool h.m, .slice h.c h.us.length h.cc, .slice h.d h.vs.length h.cd] 45)).heap.size = w.heap.size + 1 by simp, hX] at q
    exact q
  have HK : Hid (∀ V, Below X.heap.size X V → V.cell? ⟨w.heap.size, 0, none⟩ = some (.bool g.n) ∧ V.cell? ⟨w.heap.size, 1, none⟩ = some (.slice g.a g.xs.length g.ca) ∧ V.cell? ⟨w.heap.size, 2, none⟩ = some (.slice g.b g.ys.length g.cb) ∧ V.cell? ⟨w.heap.size, 3, none⟩ = some (.bool g.m) ∧ V.cell? ⟨w.heap.size, 4, none⟩ = some (.slice g.c g.us.length g.cc) ∧ V.cell? ⟨w.heap.size, 5, none⟩ = some (.slice g.d g.vs.length g.cd) ∧ V.cell? ⟨w.heap.size, 6, none⟩ = some (.bool h.n) ∧ V.cell? ⟨w.heap.size, 7, none⟩ = some (.slice h.a h.xs.length h.ca) ∧ V.cell? ⟨w.heap.size, 8, none⟩ = some (.slice h.b h.ys.length h.cb)) := fun V hv => by
    have q := HP.out.later hv HP.out.lt
    exact ⟨q.cell 0, q.cell 1, q.cell 2, q.cell 3, q.cell 4, q.cell 5, q.cell 6, q.cell 7, q.cell 8⟩
  have HKB : Hid (∀ V, Box V w.heap.size 45 #[.bool g.n, .slice g.a g.xs.length g.ca, .slice g.b g.ys.length g.cb, .bool g.m, .slice g.c g.us.length g.cc, .slice g.d g.vs.length g.cd, .bool h.n, .slice h.a h.xs.length h.ca, .slice h.b h.ys.length h.cb, .bool h.m, .slice h.c h.us.length h.cc, .slice h.d h.vs.length h.cd] → V.cell? ⟨w.heap.size, 0, none⟩ = some (.bool g.n) ∧ V.cell? ⟨w.heap.size, 1, none⟩ = some (.slice g.a g.xs.length g.ca) ∧ V.cell? ⟨w.heap.size, 2, none⟩ = some (.slice g.b g.ys.length g.cb) ∧ V.cell? ⟨w.heap.size, 3, none⟩ = some (.bool g.m) ∧ V.cell? ⟨w.heap.size, 4, none⟩ = some (.slice g.c g.us.length g.cc) ∧ V.cell? ⟨w.heap.size, 5, none⟩ = some (.slice g.d g.vs.length g.cd) ∧ V.cell? ⟨w.heap.size, 6, none⟩ = some (.bool h.n) ∧ V.cell? ⟨w.heap.size, 7, none⟩ = some (.slice h.a h.xs.length h.ca) ∧ V.cell? ⟨w.heap.size, 8, none⟩ = some (.slice h.b h.ys.length h.cb)) := fun V q => ⟨q.cell 0, q.cell 1, q.cell 2, q.cell 3, q.cell 4, q.cell 5, q.cell 6, q.cell 7, q.cell 8⟩
  have HV1 : Hid (∀ V, Below X.heap.size X V → Calls Tryz.prog 27 #[.agg #[.bool g.n, .slice g.a g.xs.length g.ca, .slice g.b g.ys.length g.cb], .agg #[.bool h.n, .slice h.a h.xs.length h.ca, .slice h.b h.ys.length h.cb]] V fun e w' => ∃ a1 c1 a2 c2, e = .returned (.agg #[.bool g.n, .slice a1 g.xs.length c1, .slice a2 h.xs.length c2]) ∧ Hid ((w'.ownsRow V.heap.size 38 1 (.slice a1 g.xs.length c1) g.xs.length (g.xs.map (Value.int .u32)) ∧ w'.ownsRow V.heap.size 38 1 (.slice a2 h.xs.length c2) h.xs.length (h.xs.map (Value.int .u32))) ∧ Below V.heap.size V w' ∧ Cut V (.slice a1 g.xs.length c1) (.slice a2 h.xs.length c2) w')) := fun V hv => by
    refine Calls.mono (oover_any _ _ _ _ _ _ _ _ _ _ _ _ _ _ V (sg1.later (bt HB.out hv)) (sh.later (bt HB.out hv)) lg1 lh) ?_
    rintro e w' ⟨a1, c1, a2, c2, rfl, ho, hb, hc⟩
    exact ⟨a1, c1, a2, c2, rfl, ho, hb, hc⟩
  have HV2 : Hid (∀ V, Below X.heap.size X V → Calls Tryz.prog 27 #[.agg #[.bool g.m, .slice g.c g.us.length g.cc, .slice g.d g.vs.length g.cd], .agg #[.bool h.n, .slice h.a h.xs.length h.ca, .slice h.b h.ys.length h.cb]] V fun e w' => ∃ a1 c1 a2 c2, e = .returned (.agg #[.bool g.m, .slice a1 g.us.length c1, .slice a2 h.xs.length c2]) ∧ Hid ((w'.ownsRow V.heap.size 38 1 (.slice a1 g.us.length c1) g.us.length (g.us.map (Value.int .u32)) ∧ w'.ownsRow V.heap.size 38 1 (.slice a2 h.xs.length c2) h.xs.length (h.xs.map (Value.int .u32))) ∧ Below V.heap.size V w' ∧ Cut V (.slice a1 g.us.length c1) (.slice a2 h.xs.length c2) w')) := fun V hv => by
    refine Calls.mono (oover_any _ _ _ _ _ _ _ _ _ _ _ _ _ _ V (sg2.later (bt HB.out hv)) (sh.later (bt HB.out hv)) lg2 lh) ?_
    rintro e w' ⟨a1, c1, a2, c2, rfl, ho, hb, hc⟩
    exact ⟨a1, c1, a2, c2, rfl, ho, hb, hc⟩
  have hd0 := hid (Below.refl X.heap.size X).drew
  have hs0 := HK.out _ hd0.out
  have hsz := HB.out.size
  clear sg1 sg2 sh lg1 lg2 lh
  go_enter Tryz.func15, Tryz.ntmps15
  go_wp2_with fail
  go_region_held3 (fun V : World => V.cell? ⟨w.heap.size, 0, none⟩ = some (.bool g.n) ∧ V.cell? ⟨w.heap.size, 1, none⟩ = some (.slice g.a g.xs.length g.ca) ∧ V.cell? ⟨w.heap.size, 2, none⟩ = some (.slice g.b g.ys.length g.cb) ∧ V.cell? ⟨w.heap.size, 3, none⟩ = some (.bool g.m) ∧ V.cell? ⟨w.heap.size, 4, none⟩ = some (.slice g.c g.us.length g.cc) ∧ V.cell? ⟨w.heap.size, 5, none⟩ = some (.slice g.d g.vs.length g.cd) ∧ V.cell? ⟨w.heap.size, 6, none⟩ = some (.bool h.n) ∧ V.cell? ⟨w.heap.size, 7, none⟩ = some (.slice h.a h.xs.length h.ca) ∧ V.cell? ⟨w.heap.size, 8, none⟩ = some (.slice h.b h.ys.length h.cb)) (first | exact hsC | exact hsB | exact hsA | exact hs0)
    (first
      | (go_at_call 27; (with_reducible refine Calls.mono (HV2.out _ hbA.out) ?_); rintro e w2 ⟨a3, c3, a4, c4, rfl, ho2⟩; have hbB := hid (bt hbA.out ho2.out.2.1); have hsB := HK.out _ hbB.out; obtain ⟨A0, A1, A2, A3, A4, A5, k0, k1, k2, k3, k4, k5, ⟨r0, r1, r2, r3, r4, r5⟩, ⟨f0, f1, f2, f3, f4, f5⟩, HA5⟩ := rchain6 (HZ.out.later hbB.out HZ.out.lt) (by decide) (.bool g.n) (.slice a1 g.xs.length c1) (.slice a2 h.xs.length c2) (.bool g.m) (.slice a3 g.us.length c3) (.slice a4 h.xs.length c4); have hsC := HKB.out _ (HA5.out.2.1 _ _ _ (by omega) (HP.out.later hbB.out HP.out.lt)))
      | (go_at_call 27; (with_reducible refine Calls.mono (HV1.out _ hd0.out) ?_); rintro e w1 ⟨a1, c1, a2, c2, rfl, ho1⟩; have hbA := hid (bt hd0.out ho1.out.2.1); have hsA := HK.out _ hbA.out))
  have h1 := hbA.out.size
  have h2 := ho2.out.2.1.size
  have h3 := HA5.out.2.2.2.2
  go_wp2_with fail
  refine bodyPost_ret (results_cell_row (by rfl) _ _ (w.heap.size + 1) 31 _ (0, 0) _ (by rfl) HA5.out.1 Tryz.underlying31 rfl (by kernel_rfl)) rfl ?_
  have b12 := ho2.out.2.1
  have ho2' := ho2.out.1
  refine ⟨a1, c1, a2, c2, a3, c3, a4, c4, rfl, ⟨HA5.out.2.2.1 _ _ _ _ (owns_base (owns_later ho1.out.1.1 b12) hsz), HA5.out.2.2.1 _ _ _ _ (owns_base (owns_later ho1.out.1.2 b12) hsz), HA5.out.2.2.1 _ _ _ _ (owns_base ho2'.1 (by omega)), HA5.out.2.2.1 _ _ _ _ (owns_base ho2'.2 (by omega))⟩, HA5.out.2.2.2.1 _ _ (by omega) (bt HB.out hbB.out), w1, ho1.out.2.2.up hsz (Nat.le_refl _), ho2.out.2.2.up (Nat.le_refl _) (by omega)⟩
end Go.Proofs.YtcjfbmehibhkbaaGreatDoor

/- package rotor: first, Of. -/
namespace Go.Proofs.YtcjfbmehibhkbaaGreatDoor
open Go.RowKit
set_option linter.unusedVariables false
set_option linter.unusedSimpArgs false

theorem osq (f : Int) (h : f.natAbs ≤ 1000) : 0 ≤ f * f ∧ f * f ≤ 1000000 := by
  have h1 : -1000 ≤ f := by omega
  have h2 : f ≤ 1000 := by omega
  have e : ((f.natAbs * f.natAbs : Nat) : Int) = f * f := Int.natAbs_mul_self
  have h3 : f.natAbs * f.natAbs ≤ 1000 * 1000 := Nat.mul_le_mul h h
  rw [← e]
  omega
theorem opr (f n : Int) (h : f.natAbs ≤ 1000) (g : n.natAbs ≤ 1000) : -1000000 ≤ f * n ∧ f * n ≤ 1000000 := by
  have h3 : (f * n).natAbs ≤ 1000 * 1000 := by rw [Int.natAbs_mul]; exact Nat.mul_le_mul h g
  omega
/-- The number of a rotor, in lowest terms: its parts' Nums, and their Den. -/
def oRe (f n : Int) : Int := if (f * f + n * n) % 2 = 0 then (f * f - n * n) / 2 else f * f - n * n
def oIm (f n : Int) : Int := if (f * f + n * n) % 2 = 0 then f * n else 2 * (f * n)
def oNm (f n : Int) : Int := if (f * f + n * n) % 2 = 0 then (f * f + n * n) / 2 else f * f + n * n

def OFst (w : World) (f n : Int) (x : Ending) (w' : World) : Prop := ∃ g h : G6, x = .returned (.agg #[.bool g.n, .slice g.a g.xs.length g.ca, .slice g.b g.ys.length g.cb, .bool g.m, .slice g.c g.us.length g.cc, .slice g.d g.vs.length g.cd, .bool h.n, .slice h.a h.xs.length h.ca, .slice h.b h.ys.length h.cb, .bool h.m, .slice h.c h.us.length h.cc, .slice h.d h.vs.length h.cd]) ∧ Hid (g.Ow w' w.heap.size ∧ h.Ow w' w.heap.size) ∧ Hid (g.Is (Rat.divInt (oRe f n) 1) (Rat.divInt (oIm f n) 1)) ∧ Hid (h.Is (Rat.divInt (oNm f n) 1) (Rat.divInt 0 1)) ∧ Hid (Below w.heap.size w w')
set_option maxHeartbeats 3200000 in
set_option maxRecDepth 100000 in
theorem ofirst_any (f n : Int) (w : World) (hf : 1 ≤ f ∧ f ≤ 1000) (hn : n.natAbs ≤ 1000) :
    Calls Tryz.prog 13 #[.agg #[.int .i32 f, .int .i32 n]] w (OFst w f n) := by
  obtain ⟨X, hX⟩ : ∃ X, (w.alloc (.cells #[.int .i32 f, .int .i32 n] 23)).alloc (.cells #[.bool false, .slice none 0 0, .slice none 0 0, .bool false, .slice none 0 0, .slice none 0 0, .bool false, .slice none 0 0, .slice none 0 0, .bool false, .slice none 0 0, .slice none 0 0] 45) = X := ⟨_, rfl⟩
  have HB : Hid (Below w.heap.size w X) := by rw [← hX]; exact bt (alloc_later _ _) (alloc_later _ _)
  have HR : Hid (Box X w.heap.size 23 #[.int .i32 f, .int .i32 n]) := by rw [← hX]; exact (Box.made w _ _).later (alloc_later _ _) (Box.made w _ _).lt
  have HZ : Hid (Box X (w.heap.size + 1) 45 #[.bool false, .slice none 0 0, .slice none 0 0, .bool false, .slice none 0 0, .slice none 0 0, .bool false, .slice none 0 0, .slice none 0 0, .bool false, .slice none 0 0, .slice none 0 0]) := by
    have q := Box.made (w.alloc (.cells #[.int .i32 f, .int .i32 n] 23)) 45 #[.bool false, .slice none 0 0, .slice none 0 0, .bool false, .slice none 0 0, .slice none 0 0, .bool false, .slice none 0 0, .slice none 0 0, .bool false, .slice none 0 0, .slice none 0 0]
    rw [show (w.alloc (.cells #[.int .i32 f, .int .i32 n] 23)).heap.size = w.heap.size + 1 by simp, hX] at q
    exact q
  have k0 : X.cell? ⟨w.heap.size, 0, none⟩ = some (.int .i32 f) := HR.out.cell 0
  have k1 : X.cell? ⟨w.heap.size, 1, none⟩ = some (.int .i32 n) := HR.out.cell 1
  have hF := osq f (by omega)
  have hN := osq n hn
  have hP := opr f n (by omega) hn
  have hn0 : -1000 ≤ n := by omega
  have hn1 : n ≤ 1000 := by omega
  have hQ : 2 * f * n = 2 * (f * n) := Int.mul_assoc 2 f n
  clear hn
  go_enter Tryz.func13, Tryz.ntmps13
  go_wp2_with fail
  go_quiet (fail)
  have HBN := hid (bdrewN (Below.refl X.heap.size X) nq)
  generalize X.drewN nq = Y at *
  by_cases hpar : (f * f + n * n) % 2 = 0
  · have hpt : Int.tmod (f * f + n * n) 2 = 0 := by rw [Int.tmod_eq_emod_of_nonneg (by omega)]; exact hpar
    have ht1 : Int.tdiv (f * f - n * n) 2 = (f * f - n * n) / 2 := by
      obtain ⟨k, hk⟩ : ∃ k, f * f - n * n = 2 * k := ⟨(f * f - n * n) / 2, by omega⟩
      rw [hk, Int.mul_tdiv_cancel_left _ (by decide), Int.mul_ediv_cancel_left _ (by decide)]
    have ht2 : Int.tdiv (2 * f * n) 2 = f * n := by rw [hQ, Int.mul_tdiv_cancel_left _ (by decide)]
    have ht3 : Int.tdiv (f * f + n * n) 2 = (f * f + n * n) / 2 := by rw [Int.tdiv_eq_ediv_of_nonneg (by omega)]
    have HC1 := hid (oInt_any ((f * f - n * n) / 2) (f * n) Y (by omega) (by omega) (by omega) (by omega))
    have HC2 := hid (fun V => oInt_any ((f * f + n * n) / 2) 0 V (by omega) (by omega) (by omega) (by omega))
    have E1 : Hid (oRe f n = (f * f - n * n) / 2 ∧ oIm f n = f * n ∧ oNm f n = (f * f + n * n) / 2) := by
      unfold oRe oIm oNm
      exact ⟨by rw [if_pos hpar], by rw [if_pos hpar], by rw [if_pos hpar]⟩
    go_wp2_with fail
    refine Calls.mono HC1.out ?_
    rintro e w1 ⟨g, rfl, hog, hig, hb1⟩
    have HD := hid (HC2.out w1)
    clear HC1 HC2
    go_wp2_with fail
    refine Calls.mono HD.out ?_
    rintro e w2 ⟨h, rfl, hoh, hih, hb2⟩
    clear HD
    have HBB := hid (bt HBN.out (bt hb1.out hb2.out))
    obtain ⟨A0, A1, A2, A3, A4, A5, A6, A7, A8, A9, A10, A11, q0, q1, q2, q3, q4, q5, q6, q7, q8, q9, q10, q11, ⟨r0, r1, r2, r3, r4, r5, r6, r7, r8, r9, r10, r11⟩, ⟨f0, f1, f2, f3, f4, f5, f6, f7, f8, f9, f10, f11⟩, HA⟩ := rchain12 (HZ.out.later HBB.out HZ.out.lt) (by decide) (.bool g.n) (.slice g.a g.xs.length g.ca) (.slice g.b g.ys.length g.cb) (.bool g.m) (.slice g.c g.us.length g.cc) (.slice g.d g.vs.length g.cd) (.bool h.n) (.slice h.a h.xs.length h.ca) (.slice h.b h.ys.length h.cb) (.bool h.m) (.slice h.c h.us.length h.cc) (.slice h.d h.vs.length h.cd)
    go_wp2_with fail
    refine bodyPost_ret (results_cell_row (by rfl) _ _ (w.heap.size + 1) 45 _ (0, 0) _ (by rfl) HA.out.1 Tryz.underlying45 rfl (by kernel_rfl)) rfl ?_
    have z1 := HB.out.size
    have z2 := HBN.out.size
    have z3 := hb1.out.size
    have P := HA.out.2.2.1
    have o1 := (hog.out.later hb2.out).base (show w.heap.size ≤ Y.heap.size by omega)
    have o2 := hoh.out.base (show w.heap.size ≤ w1.heap.size by omega)
    refine ⟨g, h, rfl, ⟨⟨P _ _ _ _ o1.1, P _ _ _ _ o1.2.1, P _ _ _ _ o1.2.2.1, P _ _ _ _ o1.2.2.2⟩, ⟨P _ _ _ _ o2.1, P _ _ _ _ o2.2.1, P _ _ _ _ o2.2.2.1, P _ _ _ _ o2.2.2.2⟩⟩, ?_, ?_, HA.out.2.2.2.1 _ _ (by omega) (bt HB.out HBB.out)⟩
    · rw [E1.out.1, E1.out.2.1]; exact hig
    · rw [E1.out.2.2]; exact hih
  · have hpt : Int.tmod (f * f + n * n) 2 = 1 := by rw [Int.tmod_eq_emod_of_nonneg (by omega)]; omega
    have HC1 := hid (oInt_any (f * f - n * n) (2 * (f * n)) Y (by omega) (by omega) (by omega) (by omega))
    have HC2 := hid (fun V => oInt_any (f * f + n * n) 0 V (by omega) (by omega) (by omega) (by omega))
    have E1 : Hid (oRe f n = f * f - n * n ∧ oIm f n = 2 * (f * n) ∧ oNm f n = f * f + n * n) := by
      unfold oRe oIm oNm
      exact ⟨by rw [if_neg hpar], by rw [if_neg hpar], by rw [if_neg hpar]⟩
    go_wp2_with fail
    refine Calls.mono HC1.out ?_
    rintro e w1 ⟨g, rfl, hog, hig, hb1⟩
    have HD := hid (HC2.out w1)
    clear HC1 HC2
    go_wp2_with fail
    refine Calls.mono HD.out ?_
    rintro e w2 ⟨h, rfl, hoh, hih, hb2⟩
    clear HD
    have HBB := hid (bt HBN.out (bt hb1.out hb2.out))
    obtain ⟨A0, A1, A2, A3, A4, A5, A6, A7, A8, A9, A10, A11, q0, q1, q2, q3, q4, q5, q6, q7, q8, q9, q10, q11, ⟨r0, r1, r2, r3, r4, r5, r6, r7, r8, r9, r10, r11⟩, ⟨f0, f1, f2, f3, f4, f5, f6, f7, f8, f9, f10, f11⟩, HA⟩ := rchain12 (HZ.out.later HBB.out HZ.out.lt) (by decide) (.bool g.n) (.slice g.a g.xs.length g.ca) (.slice g.b g.ys.length g.cb) (.bool g.m) (.slice g.c g.us.length g.cc) (.slice g.d g.vs.length g.cd) (.bool h.n) (.slice h.a h.xs.length h.ca) (.slice h.b h.ys.length h.cb) (.bool h.m) (.slice h.c h.us.length h.cc) (.slice h.d h.vs.length h.cd)
    go_wp2_with fail
    refine bodyPost_ret (results_cell_row (by rfl) _ _ (w.heap.size + 1) 45 _ (0, 0) _ (by rfl) HA.out.1 Tryz.underlying45 rfl (by kernel_rfl)) rfl ?_
    have z1 := HB.out.size
    have z2 := HBN.out.size
    have z3 := hb1.out.size
    have P := HA.out.2.2.1
    have o1 := (hog.out.later hb2.out).base (show w.heap.size ≤ Y.heap.size by omega)
    have o2 := hoh.out.base (show w.heap.size ≤ w1.heap.size by omega)
    refine ⟨g, h, rfl, ⟨⟨P _ _ _ _ o1.1, P _ _ _ _ o1.2.1, P _ _ _ _ o1.2.2.1, P _ _ _ _ o1.2.2.2⟩, ⟨P _ _ _ _ o2.1, P _ _ _ _ o2.2.1, P _ _ _ _ o2.2.2.1, P _ _ _ _ o2.2.2.2⟩⟩, ?_, ?_, HA.out.2.2.2.1 _ _ (by omega) (bt HB.out HBB.out)⟩
    · rw [E1.out.1, E1.out.2.1]; exact hig
    · rw [E1.out.2.2]; exact hih

/-- What Of tells of a rotor that may be. -/
def OOf (w : World) (f n : Int) (x : Ending) (w' : World) : Prop := ∃ g h : G6, ∃ a1 c1 a2 c2 a3 c3 a4 c4, x = .returned (.tuple #[.agg #[.bool g.n, .slice a1 g.xs.length c1, .slice a2 h.xs.length c2, .bool g.m, .slice a3 g.us.length c3, .slice a4 h.xs.length c4], .int .i64 0]) ∧ Hid (w'.ownsRow w.heap.size 38 1 (.slice a1 g.xs.length c1) g.xs.length (g.xs.map (Value.int .u32)) ∧ w'.ownsRow w.heap.size 38 1 (.slice a2 h.xs.length c2) h.xs.length (h.xs.map (Value.int .u32)) ∧ w'.ownsRow w.heap.size 38 1 (.slice a3 g.us.length c3) g.us.length (g.us.map (Value.int .u32)) ∧ w'.ownsRow w.heap.size 38 1 (.slice a4 h.xs.length c4) h.xs.length (h.xs.map (Value.int .u32))) ∧ Hid (g.Is (Rat.divInt (oRe f n) 1) (Rat.divInt (oIm f n) 1)) ∧ Hid (h.Is (Rat.divInt (oNm f n) 1) (Rat.divInt 0 1)) ∧ Hid (Below w.heap.size w w') ∧ Hid (∃ W1, Cut w (.slice a1 g.xs.length c1) (.slice a2 h.xs.length c2) W1 ∧ Cut W1 (.slice a3 g.us.length c3) (.slice a4 h.xs.length c4) w')
set_option maxHeartbeats 3200000 in
set_option maxRecDepth 100000 in
theorem oOf_good (f n : Int) (w : World) (hr : rOK f n) :
    Calls Tryz.prog 17 #[.agg #[.int .i32 f, .int .i32 n]] w (OOf w f n) := by
  obtain ⟨X, hX⟩ : ∃ X, (w.alloc (.cells #[.int .i32 f, .int .i32 n] 23)).alloc (.cells #[.bool false, .slice none 0 0, .slice none 0 0, .bool false, .slice none 0 0, .slice none 0 0] 31) = X := ⟨_, rfl⟩
  have HB : Hid (Below w.heap.size w X) := by rw [← hX]; exact bt (alloc_later _ _) (alloc_later _ _)
  have HR : Hid (Box X w.heap.size 23 #[.int .i32 f, .int .i32 n]) := by rw [← hX]; exact (Box.made w _ _).later (alloc_later _ _) (Box.made w _ _).lt
  have HZ : Hid (Box X (w.heap.size + 1) 31 #[.bool false, .slice none 0 0, .slice none 0 0, .bool false, .slice none 0 0, .slice none 0 0]) := by
    have q := Box.made (w.alloc (.cells #[.int .i32 f, .int .i32 n] 23)) 31 #[.bool false, .slice none 0 0, .slice none 0 0, .bool false, .slice none 0 0, .slice none 0 0]
    rw [show (w.alloc (.cells #[.int .i32 f, .int .i32 n] 23)).heap.size = w.heap.size + 1 by simp, hX] at q
    exact q
  have hin : in32 f n := by unfold rOK at hr; unfold in32; omega
  have HC := hid (ocheck_any f n X hin)
  have h0 : ochk f n = 0 := by unfold ochk; rw [if_pos hr]
  rw [h0] at HC
  have HF := hid (fun V => ofirst_any f n V (by unfold rOK at hr; omega) (by unfold rOK at hr; omega))
  have k0 : X.cell? ⟨w.heap.size, 0, none⟩ = some (.int .i32 f) := HR.out.cell 0
  have k1 : X.cell? ⟨w.heap.size, 1, none⟩ = some (.int .i32 n) := HR.out.cell 1
  clear h0 hin hr
  go_enter Tryz.func17, Tryz.ntmps17
  go_wp2_with fail
  clear hX
  refine Calls.mono HC.out ?_
  rintro e w1 ⟨rfl, hb1⟩
  have HB1 := hid hb1
  clear hb1 k0 k1 HC
  have k0 : w1.cell? ⟨w.heap.size, 0, none⟩ = some (.int .i32 f) := (HR.out.later HB1.out HR.out.lt).cell 0
  have k1 : w1.cell? ⟨w.heap.size, 1, none⟩ = some (.int .i32 n) := (HR.out.later HB1.out HR.out.lt).cell 1
  have HD := hid (HF.out w1)
  clear HF
  go_wp2_with fail
  refine Calls.mono HD.out ?_
  rintro e w2 ⟨g, h, rfl, ho2, hg, hh, hb2⟩
  have sg := ho2.out.1.sl hg.out
  have sh := ho2.out.2.sl hh.out
  have lg := hg.out.len
  have lh := hh.out.len
  have HN := hid (onumber_any g h w2 sg.1 sg.2.2.1 sh.1 (by omega) (by omega) (by omega))
  clear HD sg sh lg lh k0 k1
  go_wp2_with fail
  refine Calls.mono HN.out ?_
  rintro e w3 ⟨a1, c1, a2, c2, a3, c3, a4, c4, rfl, ho3, hb3, hc3⟩
  clear HN
  have HBB := hid (bt HB1.out (bt hb2.out hb3.out))
  obtain ⟨A0, A1, A2, A3, A4, A5, q0, q1, q2, q3, q4, q5, ⟨r0, r1, r2, r3, r4, r5⟩, ⟨f0, f1, f2, f3, f4, f5⟩, HA⟩ := rchain6 (HZ.out.later HBB.out HZ.out.lt) (by decide) (.bool g.n) (.slice a1 g.xs.length c1) (.slice a2 h.xs.length c2) (.bool g.m) (.slice a3 g.us.length c3) (.slice a4 h.xs.length c4)
  go_wp2_with fail
  have z1 := HB.out.size
  have z2 := HB1.out.size
  have z3 := hb2.out.size
  have P := HA.out.2.2.1
  have z4 := HA.out.2.2.2.2
  obtain ⟨W1, hc1, hc2⟩ := hc3.out
  refine bodyPost_ret (gres_run (by rfl) HA.out.1 _ (by rfl)) rfl ?_
  exact ⟨g, h, a1, c1, a2, c2, a3, c3, a4, c4, rfl, ⟨P _ _ _ _ (owns_base ho3.out.1 (by omega)), P _ _ _ _ (owns_base ho3.out.2.1 (by omega)), P _ _ _ _ (owns_base ho3.out.2.2.1 (by omega)), P _ _ _ _ (owns_base ho3.out.2.2.2 (by omega))⟩, hg, hh, HA.out.2.2.2.1 _ _ (by omega) (bt HB.out HBB.out), W1, hc1.up (by omega) (Nat.le_refl _), hc2.up (Nat.le_refl _) (by omega)⟩
end Go.Proofs.YtcjfbmehibhkbaaGreatDoor

/- No program: powers of complex whole numbers; each power of a rotor's number is in lowest terms, and none is long. -/
namespace Go.Proofs.YtcjfbmehibhkbaaGreatDoor
set_option linter.unusedVariables false

/-- Products and powers of complex whole numbers. -/
def zmul (p q : Int × Int) : Int × Int := (p.1 * q.1 - p.2 * q.2, p.1 * q.2 + p.2 * q.1)
def zpow (p : Int × Int) : Nat → Int × Int
  | 0 => (1, 0)
  | t + 1 => zmul (zpow p t) p
theorem zmul_assoc (p q r : Int × Int) : zmul (zmul p q) r = zmul p (zmul q r) := by
  unfold zmul
  apply Prod.ext
  · show (p.1 * q.1 - p.2 * q.2) * r.1 - (p.1 * q.2 + p.2 * q.1) * r.2 = p.1 * (q.1 * r.1 - q.2 * r.2) - p.2 * (q.1 * r.2 + q.2 * r.1)
    grind
  · show (p.1 * q.1 - p.2 * q.2) * r.2 + (p.1 * q.2 + p.2 * q.1) * r.1 = p.1 * (q.1 * r.2 + q.2 * r.1) + p.2 * (q.1 * r.1 - q.2 * r.2)
    grind
theorem zmul_one (p : Int × Int) : zmul p (1, 0) = p := by
  unfold zmul
  apply Prod.ext
  · show p.1 * 1 - p.2 * 0 = p.1
    omega
  · show p.1 * 0 + p.2 * 1 = p.2
    omega
theorem zpow_one (p : Int × Int) : zpow p 1 = p := by
  show zmul (1, 0) p = p
  unfold zmul
  apply Prod.ext
  · show 1 * p.1 - 0 * p.2 = p.1
    omega
  · show 1 * p.2 + 0 * p.1 = p.2
    omega
theorem zpow_add (p : Int × Int) (s t : Nat) : zpow p (s + t) = zmul (zpow p s) (zpow p t) := by
  induction t with
  | zero => exact (zmul_one _).symm
  | succ t ih =>
    show zmul (zpow p (s + t)) p = zmul (zpow p s) (zmul (zpow p t) p)
    rw [ih, zmul_assoc]
theorem zpow_norm (p : Int × Int) (t : Nat) : (zpow p t).1 * (zpow p t).1 + (zpow p t).2 * (zpow p t).2 = (p.1 * p.1 + p.2 * p.2) ^ t := by
  induction t with
  | zero => rw [Int.pow_zero]; rfl
  | succ t ih =>
    rw [Int.pow_succ, ← ih]
    show ((zpow p t).1 * p.1 - (zpow p t).2 * p.2) * ((zpow p t).1 * p.1 - (zpow p t).2 * p.2) + ((zpow p t).1 * p.2 + (zpow p t).2 * p.1) * ((zpow p t).1 * p.2 + (zpow p t).2 * p.1) = _
    generalize (zpow p t).1 = x
    generalize (zpow p t).2 = y
    grind
theorem z_mod (f n e M re im : Int) (h : e * (f * f + n * n) = 2 * M) (hre : re = e * (f * f) - M) (him : im = e * (f * n)) (t : Nat) : ∃ u v, (zpow (re, im) (t + 1)).1 = e * f * (2 * e * (f * f)) ^ t * f + M * u ∧ (zpow (re, im) (t + 1)).2 = e * f * (2 * e * (f * f)) ^ t * n + M * v := by
  induction t with
  | zero =>
    refine ⟨-1, 0, ?_, ?_⟩
    · show 1 * re - 0 * im = _
      rw [hre, Int.pow_zero]
      grind
    · show 1 * im + 0 * re = _
      rw [him, Int.pow_zero]
      grind
  | succ t ih =>
    obtain ⟨u, v, h1, h2⟩ := ih
    rw [Int.pow_succ]
    generalize hc : e * f * (2 * e * (f * f)) ^ t = c at h1 h2
    have hc' : e * f * ((2 * e * (f * f)) ^ t * (2 * e * (f * f))) = c * (2 * e * (f * f)) := by rw [← hc, Int.mul_assoc (e * f)]
    rw [hc']
    refine ⟨u * re - v * im - 3 * (c * f), u * im + v * re - c * n, ?_, ?_⟩
    · show (zpow (re, im) (t + 1)).1 * re - (zpow (re, im) (t + 1)).2 * im = _
      rw [h1, h2]
      have k : c * f * (e * (f * f + n * n)) = c * f * (2 * M) := by rw [h]
      have e1 : (c * f + M * u) * re - (c * n + M * v) * im = c * f * re - c * n * im + M * (u * re - v * im) := by grind
      rw [e1, show c * f * re - c * n * im = c * f * (e * (f * f) - M) - c * n * (e * (f * n)) by rw [hre, him]]
      grind
    · show (zpow (re, im) (t + 1)).1 * im + (zpow (re, im) (t + 1)).2 * re = _
      rw [h1, h2]
      have e1 : (c * f + M * u) * im + (c * n + M * v) * re = c * f * im + c * n * re + M * (u * im + v * re) := by grind
      rw [e1, show c * f * im + c * n * re = c * f * (e * (f * n)) + c * n * (e * (f * f) - M) by rw [hre, him]]
      grind
theorem gcd_mul_one {x y z : Int} (h : Int.gcd x z = 1) (g : Int.gcd y z = 1) : Int.gcd (x * y) z = 1 := by
  show Nat.gcd (x * y).natAbs z.natAbs = 1
  rw [Int.natAbs_mul]
  exact Nat.Coprime.mul_left h g
theorem gcd_pow_one {x z : Int} (t : Nat) (h : Int.gcd x z = 1) : Int.gcd (x ^ t) z = 1 := by
  show Nat.gcd (x ^ t).natAbs z.natAbs = 1
  rw [Int.natAbs_pow]
  exact Nat.Coprime.pow_left t h
theorem gcd_one_pow {x z : Int} (t : Nat) (h : Int.gcd x z = 1) : Int.gcd x (z ^ t) = 1 := by
  rw [Int.gcd_comm]
  exact gcd_pow_one t (by rw [Int.gcd_comm]; exact h)
theorem gcd_two_odd {M : Int} (h : M % 2 = 1) : Int.gcd 2 M = 1 := by
  obtain ⟨k, hk⟩ : ∃ k, M = 1 + 2 * k := ⟨M / 2, by omega⟩
  rw [Int.gcd_comm, hk, Int.gcd_add_mul_left_left]
  rfl
/-- A rotor's number: what its parts come from. -/
theorem o_parts {f n : Int} (h : rOK f n) : ∃ e : Int, (e = 1 ∨ e = 2) ∧ e * (f * f + n * n) = 2 * oNm f n ∧ oRe f n = e * (f * f) - oNm f n ∧ oIm f n = e * (f * n) ∧ oNm f n % 2 = 1 ∧ 5 ≤ oNm f n ∧ oNm f n ≤ 2000000 ∧ Int.gcd f (oNm f n) = 1 ∧ Int.gcd n (oNm f n) = 1 := by
  obtain ⟨h1, h2, h3, h4, h5, h6⟩ := h
  have hF := osq f (by omega)
  have hN := osq n h4
  have hg : Int.gcd f n = 1 := by
    show Nat.gcd f.natAbs n.natAbs = 1
    rw [show f.natAbs = f.toNat by omega]; exact h6
  have gf : Int.gcd f (f * f + n * n) = 1 := by
    rw [Int.gcd_comm, Int.add_comm, Int.gcd_add_mul_left_left, Int.gcd_comm]
    rw [Int.gcd_comm]
    exact gcd_mul_one (by rw [Int.gcd_comm]; exact hg) (by rw [Int.gcd_comm]; exact hg)
  have gn : Int.gcd n (f * f + n * n) = 1 := by
    rw [Int.gcd_comm, Int.gcd_add_mul_left_left]
    exact gcd_mul_one hg hg
  have hbig : 5 ≤ f * f + n * n ∧ ((f * f + n * n) % 2 = 0 → 10 ≤ f * f + n * n) := by
    have e2 : ((n.natAbs * n.natAbs : Nat) : Int) = n * n := Int.natAbs_mul_self
    obtain ⟨a, ha⟩ : ∃ a : Nat, f = a := ⟨f.toNat, by omega⟩
    obtain ⟨b, hb⟩ : ∃ b : Nat, n.natAbs = b := ⟨_, rfl⟩
    rw [hb] at e2 h3 h4 h5 h6
    rw [← e2, ha, show (a : Int) * a + ((b * b : Nat) : Int) = ((a * a + b * b : Nat) : Int) by simp]
    rw [ha] at h1 h2 h5 h6
    have h5' : a ≠ b := fun e => h5 (by rw [e])
    have ha1 : 1 ≤ a := by omega
    rcases Nat.lt_or_ge a 2 with q | q
    · have : a = 1 := by omega
      subst this
      have hb2 : 2 ≤ b := by omega
      rcases Nat.lt_or_ge b 3 with r | r
      · have : b = 2 := by omega
        subst this
        decide
      · have := Nat.mul_le_mul r r
        omega
    · rcases Nat.lt_or_ge b 2 with r | r
      · have : b = 1 := by omega
        subst this
        rcases Nat.lt_or_ge a 3 with s | s
        · have : a = 2 := by omega
          subst this
          decide
        · have := Nat.mul_le_mul s s
          omega
      · rcases Nat.lt_or_ge a b with s | s
        · have q1 := Nat.mul_le_mul q q
          have q2 : 3 * 3 ≤ b * b := Nat.mul_le_mul (by omega) (by omega)
          omega
        · have q1 := Nat.mul_le_mul r r
          have q2 : 3 * 3 ≤ a * a := Nat.mul_le_mul (by omega) (by omega)
          omega
  by_cases hp : (f * f + n * n) % 2 = 0
  · have eN : oNm f n = (f * f + n * n) / 2 := by unfold oNm; rw [if_pos hp]
    have eR : oRe f n = (f * f - n * n) / 2 := by unfold oRe; rw [if_pos hp]
    have eI : oIm f n = f * n := by unfold oIm; rw [if_pos hp]
    have odd : f % 2 = 1 ∧ n % 2 = 1 := by
      have m1 : (f * f) % 2 = (f % 2) * (f % 2) % 2 := Int.mul_emod f f 2
      have m2 : (n * n) % 2 = (n % 2) * (n % 2) % 2 := Int.mul_emod n n 2
      have f0 : f % 2 = 0 ∨ f % 2 = 1 := by omega
      have n0 : n % 2 = 0 ∨ n % 2 = 1 := by omega
      rcases f0 with f0 | f0 <;> rcases n0 with n0 | n0 <;> rw [f0] at m1 <;> rw [n0] at m2
      · exfalso
        have d : (2 : Int) ∣ (Int.gcd f n : Int) := Int.dvd_coe_gcd (by omega) (by omega)
        rw [hg] at d
        omega
      · omega
      · omega
      · exact ⟨f0, n0⟩
    obtain ⟨a, ha⟩ : ∃ a, f = 2 * a + 1 := ⟨f / 2, by omega⟩
    obtain ⟨b, hb⟩ : ∃ b, n = 2 * b + 1 := ⟨n / 2, by omega⟩
    have hM : f * f + n * n = 2 * (2 * (a * a + a + b * b + b) + 1) := by rw [ha, hb]; grind
    have dM : oNm f n ∣ f * f + n * n := ⟨2, by rw [eN]; omega⟩
    have g1 : Int.gcd f (oNm f n) = 1 := Nat.Coprime.coprime_dvd_right (Int.natAbs_dvd_natAbs.2 dM) gf
    have g2 : Int.gcd n (oNm f n) = 1 := Nat.Coprime.coprime_dvd_right (Int.natAbs_dvd_natAbs.2 dM) gn
    have := hbig.2 hp
    exact ⟨1, .inl rfl, by rw [eN]; omega, by rw [eN, eR]; omega, by rw [eI]; omega, by rw [eN]; omega, by rw [eN]; omega, by rw [eN]; omega, g1, g2⟩
  · have eN : oNm f n = f * f + n * n := by unfold oNm; rw [if_neg hp]
    have eR : oRe f n = f * f - n * n := by unfold oRe; rw [if_neg hp]
    have eI : oIm f n = 2 * (f * n) := by unfold oIm; rw [if_neg hp]
    exact ⟨2, .inr rfl, by rw [eN], by rw [eN, eR]; omega, eI, by rw [eN]; omega, by rw [eN]; exact hbig.1, by rw [eN]; omega, by rw [eN]; exact gf, by rw [eN]; exact gn⟩
theorem o_size {f n : Int} (h : rOK f n) : oRe f n * oRe f n + oIm f n * oIm f n = oNm f n * oNm f n := by
  obtain ⟨e, he, h1, h2, h3, _⟩ := o_parts h
  generalize oNm f n = M at *
  rw [h2, h3]
  rcases he with rfl | rfl
  · have : 2 * M = f * f + n * n := by omega
    grind
  · have : M = f * f + n * n := by omega
    subst this
    grind
/-- Each power of a rotor's number is in lowest terms. -/
theorem o_low {f n : Int} (h : rOK f n) (t : Nat) : Int.gcd (zpow (oRe f n, oIm f n) t).1 (oNm f n ^ t) = 1 ∧ Int.gcd (zpow (oRe f n, oIm f n) t).2 (oNm f n ^ t) = 1 := by
  cases t with
  | zero => exact ⟨by rw [Int.pow_zero]; exact Int.gcd_one_right _, by rw [Int.pow_zero]; exact Int.gcd_one_right _⟩
  | succ t =>
    obtain ⟨e, he, h1, h2, h3, h4, h5, h6, g1, g2⟩ := o_parts h
    have g0 : Int.gcd 2 (oNm f n) = 1 := gcd_two_odd h4
    have ge : Int.gcd e (oNm f n) = 1 := by
      rcases he with rfl | rfl
      · exact Int.one_gcd
      · exact g0
    obtain ⟨u, v, q1, q2⟩ := z_mod f n e (oNm f n) (oRe f n) (oIm f n) h1 h2 h3 t
    have gc : Int.gcd (e * f * (2 * e * (f * f)) ^ t) (oNm f n) = 1 := gcd_mul_one (gcd_mul_one ge g1) (gcd_pow_one t (gcd_mul_one (gcd_mul_one g0 ge) (gcd_mul_one g1 g1)))
    refine ⟨gcd_one_pow _ ?_, gcd_one_pow _ ?_⟩
    · rw [q1, Int.gcd_add_mul_left_left]; exact gcd_mul_one gc g1
    · rw [q2, Int.gcd_add_mul_left_left]; exact gcd_mul_one gc g2
/-- No power but the power 0 is 1, and none is long. -/
theorem o_big {f n : Int} (h : rOK f n) (t : Nat) : (zpow (oRe f n, oIm f n) t).1.natAbs ≤ (oNm f n).natAbs ^ t ∧ (zpow (oRe f n, oIm f n) t).2.natAbs ≤ (oNm f n).natAbs ^ t := by
  have e := zpow_norm (oRe f n, oIm f n) t
  have e2 : ((oRe f n, oIm f n).1 * (oRe f n, oIm f n).1 + (oRe f n, oIm f n).2 * (oRe f n, oIm f n).2) = oNm f n * oNm f n := o_size h
  rw [e2, Int.mul_pow] at e
  generalize (zpow (oRe f n, oIm f n) t).1 = x at *
  generalize (zpow (oRe f n, oIm f n) t).2 = y at *
  have ex : ((x.natAbs * x.natAbs : Nat) : Int) = x * x := Int.natAbs_mul_self
  have ey : ((y.natAbs * y.natAbs : Nat) : Int) = y * y := Int.natAbs_mul_self
  have eN : (((oNm f n ^ t).natAbs * (oNm f n ^ t).natAbs : Nat) : Int) = oNm f n ^ t * oNm f n ^ t := Int.natAbs_mul_self
  rw [← ex, ← ey, ← eN, Int.natAbs_pow] at e
  generalize (oNm f n).natAbs ^ t = B at *
  have e' : x.natAbs * x.natAbs + y.natAbs * y.natAbs = B * B := by omega
  constructor
  · apply Nat.le_of_not_lt
    intro hlt
    have := Nat.mul_self_lt_mul_self hlt
    omega
  · apply Nat.le_of_not_lt
    intro hlt
    have := Nat.mul_self_lt_mul_self hlt
    omega
end Go.Proofs.YtcjfbmehibhkbaaGreatDoor

/- package rotor: Conj, half, Order, of every two rotors. -/
namespace Go.Proofs.YtcjfbmehibhkbaaGreatDoor
open Go.RowKit
set_option linter.unusedVariables false

set_option maxHeartbeats 800000 in
set_option maxRecDepth 100000 in
theorem rhalf_any (f n : Int) (w : World) (h : in32 f n) :
    Calls Tryz.prog 21 #[.agg #[.int .i32 f, .int .i32 n]] w fun e w' => e = .returned (.int .i64 (if 0 < n then 0 else 1)) ∧ Below w.heap.size w w' := by
  have HX := hid (boxes1 w 23 #[.int .i32 f, .int .i32 n])
  by_cases h0 : 0 < n
  · rw [if_pos h0]
    go_enter Tryz.func21, Tryz.ntmps21
    go_wp2_with fail
    go_ret
    exact ⟨rfl, HX.out.2⟩
  · rw [if_neg h0]
    go_enter Tryz.func21, Tryz.ntmps21
    go_wp2_with fail
    go_ret
    exact ⟨rfl, HX.out.2⟩
/-- Which one is ahead. -/
def cmpV (x y : Int) : Int := if x < y then -1 else if y < x then 1 else 0

set_option maxHeartbeats 800000 in
set_option maxRecDepth 100000 in
theorem cmpNaNI (x : Int) (w : World) :
    Calls Tryz.prog 32 #[.int .i64 x] w fun e w' => e = .returned (.bool false) ∧ w' = w := by
  go_enter Tryz.func32, Tryz.ntmps32
  go_wp2_with fail
  go_ret
  exact ⟨rfl, rfl⟩

set_option maxHeartbeats 800000 in
set_option maxRecDepth 100000 in
theorem cmpI_any (x y : Int) (w : World) :
    Calls Tryz.prog 20 #[.int .i64 x, .int .i64 y] w fun e w' => e = .returned (.int .i64 (cmpV x y)) ∧ w' = w := by
  have H1 := hid (fun V => cmpNaNI x V)
  have H2 := hid (fun V => cmpNaNI y V)
  unfold cmpV
  by_cases h1 : x < y
  · rw [if_pos h1]
    go_enter Tryz.func20, Tryz.ntmps20
    go_wp2_with fail
    refine Calls.mono (H1.out _) ?_
    rintro e w1 ⟨rfl, rfl⟩
    go_wp2_with fail
    refine Calls.mono (H2.out _) ?_
    rintro e w2 ⟨rfl, rfl⟩
    go_wp2_with fail
    go_ret
    exact ⟨rfl, rfl⟩
  · rw [if_neg h1]
    by_cases h2 : y < x
    · rw [if_pos h2]
      go_enter Tryz.func20, Tryz.ntmps20
      go_wp2_with fail
      refine Calls.mono (H1.out _) ?_
      rintro e w1 ⟨rfl, rfl⟩
      go_wp2_with fail
      refine Calls.mono (H2.out _) ?_
      rintro e w2 ⟨rfl, rfl⟩
      go_wp2_with fail
      go_ret
      exact ⟨rfl, rfl⟩
    · rw [if_neg h2]
      go_enter Tryz.func20, Tryz.ntmps20
      go_wp2_with fail
      refine Calls.mono (H1.out _) ?_
      rintro e w1 ⟨rfl, rfl⟩
      go_wp2_with fail
      refine Calls.mono (H2.out _) ?_
      rintro e w2 ⟨rfl, rfl⟩
      go_wp2_with fail
      go_ret
      exact ⟨rfl, rfl⟩

set_option maxHeartbeats 800000 in
set_option maxRecDepth 100000 in
theorem cmpNaNJ (x : Int) (w : World) :
    Calls Tryz.prog 33 #[.int .i32 x] w fun e w' => e = .returned (.bool false) ∧ w' = w := by
  go_enter Tryz.func33, Tryz.ntmps33
  go_wp2_with fail
  go_ret
  exact ⟨rfl, rfl⟩

set_option maxHeartbeats 800000 in
set_option maxRecDepth 100000 in
theorem cmpJ_any (x y : Int) (w : World) :
    Calls Tryz.prog 22 #[.int .i32 x, .int .i32 y] w fun e w' => e = .returned (.int .i64 (cmpV x y)) ∧ w' = w := by
  have H1 := hid (fun V => cmpNaNJ x V)
  have H2 := hid (fun V => cmpNaNJ y V)
  unfold cmpV
  by_cases h1 : x < y
  · rw [if_pos h1]
    go_enter Tryz.func22, Tryz.ntmps22
    go_wp2_with fail
    refine Calls.mono (H1.out _) ?_
    rintro e w1 ⟨rfl, rfl⟩
    go_wp2_with fail
    refine Calls.mono (H2.out _) ?_
    rintro e w2 ⟨rfl, rfl⟩
    go_wp2_with fail
    go_ret
    exact ⟨rfl, rfl⟩
  · rw [if_neg h1]
    by_cases h2 : y < x
    · rw [if_pos h2]
      go_enter Tryz.func22, Tryz.ntmps22
      go_wp2_with fail
      refine Calls.mono (H1.out _) ?_
      rintro e w1 ⟨rfl, rfl⟩
      go_wp2_with fail
      refine Calls.mono (H2.out _) ?_
      rintro e w2 ⟨rfl, rfl⟩
      go_wp2_with fail
      go_ret
      exact ⟨rfl, rfl⟩
    · rw [if_neg h2]
      go_enter Tryz.func22, Tryz.ntmps22
      go_wp2_with fail
      refine Calls.mono (H1.out _) ?_
      rintro e w1 ⟨rfl, rfl⟩
      go_wp2_with fail
      refine Calls.mono (H2.out _) ?_
      rintro e w2 ⟨rfl, rfl⟩
      go_wp2_with fail
      go_ret
      exact ⟨rfl, rfl⟩

theorem small_mul {x y : Int} (h1 : -1000 ≤ x) (h2 : x ≤ 1000) (h3 : -1000 ≤ y) (h4 : y ≤ 1000) : -1000000 ≤ x * y ∧ x * y ≤ 1000000 := by
  have a1 := Int.mul_nonneg (show 0 ≤ 1000 - x by omega) (show 0 ≤ 1000 - y by omega)
  have a2 := Int.mul_nonneg (show 0 ≤ 1000 + x by omega) (show 0 ≤ 1000 + y by omega)
  have a3 := Int.mul_nonneg (show 0 ≤ 1000 - x by omega) (show 0 ≤ 1000 + y by omega)
  have a4 := Int.mul_nonneg (show 0 ≤ 1000 + x by omega) (show 0 ≤ 1000 - y by omega)
  constructor <;> grind
/-- How two rotors stand on the way round, or the first fault. -/
def rOrd (f n g m : Int) : Int × Int := if rOK f n then (if rOK g m then (if cmpV (if 0 < n then 0 else 1) (if 0 < m then 0 else 1) = 0 then (cmpV (n * g) (m * f), 0) else (cmpV (if 0 < n then 0 else 1) (if 0 < m then 0 else 1), 0)) else (0, 150)) else (0, 150)

set_option maxHeartbeats 1600000 in
set_option maxRecDepth 100000 in
theorem rorder_any (f n g m : Int) (w : World) (h : in32 f n) (k : in32 g m) :
    Calls Tryz.prog 9 #[.agg #[.int .i32 f, .int .i32 n], .agg #[.int .i32 g, .int .i32 m]] w fun e w' => e = .returned (.tuple #[.int .i64 (rOrd f n g m).1, .int .i64 (rOrd f n g m).2]) ∧ Below w.heap.size w w' := by
  have HX := hid (boxes2 w 23 #[.int .i32 f, .int .i32 n] #[.int .i32 g, .int .i32 m])
  have HC1 := hid (fun V => ocheck_any f n V h)
  have HC2 := hid (fun V => ocheck_any g m V k)
  have HH1 := hid (fun V => rhalf_any f n V h)
  have HH2 := hid (fun V => rhalf_any g m V k)
  rcases ochk_or f n with ⟨e0, h0⟩ | ⟨e0, h0⟩
  · rcases ochk_or g m with ⟨e1, h1⟩ | ⟨e1, h1⟩
    · have hR : rOrd f n g m = (if cmpV (if 0 < n then 0 else 1) (if 0 < m then 0 else 1) = 0 then (cmpV (n * g) (m * f), 0) else (cmpV (if 0 < n then 0 else 1) (if 0 < m then 0 else 1), 0)) := by unfold rOrd; rw [if_pos h0, if_pos h1]
      rw [hR]
      rw [e0] at HC1
      rw [e1] at HC2
      have HV1 := hid (fun V => cmpI_any (if 0 < n then 0 else 1) (if 0 < m then 0 else 1) V)
      have HV2 := hid (fun V => cmpJ_any (n * g) (m * f) V)
      generalize (if 0 < n then (0 : Int) else 1) = a at *
      generalize (if 0 < m then (0 : Int) else 1) = b at *
      generalize cmpV a b = c at *
      generalize hc2 : cmpV (n * g) (m * f) = c2 at *
      clear hc2 hR e0 e1
      obtain ⟨A, hA⟩ : ∃ A : Int × Int, (if c = 0 then (c2, (0 : Int)) else (c, 0)) = A := ⟨_, rfl⟩
      have HA0 : Hid (c = 0 → A = (c2, 0)) := fun h => by rw [← hA, if_pos h]
      have HA1 : Hid (¬ c = 0 → A = (c, 0)) := fun h => by rw [← hA, if_neg h]
      rw [hA]
      clear hA
      obtain ⟨p1, p2, p3, p4, p5, _⟩ := h0
      obtain ⟨q1, q2, q3, q4, q5, _⟩ := h1
      have hn : -1000000 ≤ n * g ∧ n * g ≤ 1000000 := small_mul (by omega) (by omega) (by omega) (by omega)
      have hm : -1000000 ≤ m * f ∧ m * f ≤ 1000000 := small_mul (by omega) (by omega) (by omega) (by omega)
      clear p1 p2 p3 p4 p5 q1 q2 q3 q4 q5 h k
      go_enter Tryz.func9, Tryz.ntmps9
      go_wp2_with fail
      generalize (w.alloc (.cells #[.int .i32 f, .int .i32 n] 23)).alloc (.cells #[.int .i32 g, .int .i32 m] 23) = X at *
      refine Calls.mono (HC1.out X) ?_
      rintro e w1 ⟨rfl, hb1⟩
      obtain ⟨c0, c1, g0, g1⟩ := fbox_facts HX.out.1 hb1
      obtain ⟨c2', c3, g2, g3⟩ := fbox_facts HX.out.2.1 hb1
      go_wp2_with fail
      refine Calls.mono (HC2.out _) ?_
      rintro e w2 ⟨rfl, hb2⟩
      clear c0 c1 g0 g1 c2' c3 g2 g3
      go_wp2_with fail
      have HF : Hid (∀ V, Below w2.heap.size w2 V → (V.cell? ⟨w.heap.size, 0, none⟩ = some (.int .i32 f) ∧ V.cell? ⟨w.heap.size, 1, none⟩ = some (.int .i32 n) ∧ V.cell? ⟨w.heap.size + 1, 0, none⟩ = some (.int .i32 g) ∧ V.cell? ⟨w.heap.size + 1, 1, none⟩ = some (.int .i32 m))) := fun V hv => by
        obtain ⟨a0, a1, _, _⟩ := fbox_facts HX.out.1 (b2 (b2 hb1 hb2) hv)
        obtain ⟨b0, b1, _, _⟩ := fbox_facts HX.out.2.1 (b2 (b2 hb1 hb2) hv)
        exact ⟨a0, a1, b0, b1⟩
      have HB := hid (b2 HX.out.2.2 (b2 hb1 hb2))
      clear HX hb1 hb2 HC1 HC2
      have hs0 := HF.out _ (Below.refl _ w2).drew
      have hd0 := hid (Below.refl w2.heap.size w2).drew
      have H1 : Hid (∀ ww, Below w2.heap.size w2 ww → Calls Tryz.prog 21 #[.agg #[.int .i32 f, .int .i32 n]] ww fun e w' => e = .returned (.int .i64 a) ∧ (w'.cell? ⟨w.heap.size, 0, none⟩ = some (.int .i32 f) ∧ w'.cell? ⟨w.heap.size, 1, none⟩ = some (.int .i32 n) ∧ w'.cell? ⟨w.heap.size + 1, 0, none⟩ = some (.int .i32 g) ∧ w'.cell? ⟨w.heap.size + 1, 1, none⟩ = some (.int .i32 m)) ∧ Below w2.heap.size w2 w') := fun ww hv => by
        refine Calls.mono (HH1.out ww) ?_
        rintro e w' ⟨rfl, h⟩
        exact ⟨rfl, HF.out _ (b2 hv h), b2 hv h⟩
      have H2 : Hid (∀ ww, Below w2.heap.size w2 ww → Calls Tryz.prog 21 #[.agg #[.int .i32 g, .int .i32 m]] ww fun e w' => e = .returned (.int .i64 b) ∧ (w'.cell? ⟨w.heap.size, 0, none⟩ = some (.int .i32 f) ∧ w'.cell? ⟨w.heap.size, 1, none⟩ = some (.int .i32 n) ∧ w'.cell? ⟨w.heap.size + 1, 0, none⟩ = some (.int .i32 g) ∧ w'.cell? ⟨w.heap.size + 1, 1, none⟩ = some (.int .i32 m)) ∧ Below w2.heap.size w2 w') := fun ww hv => by
        refine Calls.mono (HH2.out ww) ?_
        rintro e w' ⟨rfl, h⟩
        exact ⟨rfl, HF.out _ (b2 hv h), b2 hv h⟩
      have H3 : Hid (∀ ww, Below w2.heap.size w2 ww → Calls Tryz.prog 20 #[.int .i64 a, .int .i64 b] ww fun e w' => e = .returned (.int .i64 c) ∧ (w'.cell? ⟨w.heap.size, 0, none⟩ = some (.int .i32 f) ∧ w'.cell? ⟨w.heap.size, 1, none⟩ = some (.int .i32 n) ∧ w'.cell? ⟨w.heap.size + 1, 0, none⟩ = some (.int .i32 g) ∧ w'.cell? ⟨w.heap.size + 1, 1, none⟩ = some (.int .i32 m)) ∧ Below w2.heap.size w2 w') := fun ww hv => by
        refine Calls.mono (HV1.out ww) ?_
        rintro e w' ⟨rfl, rfl⟩
        exact ⟨rfl, HF.out _ hv, hv⟩
      clear HF HH1 HH2 HV1
      go_region_held3 (fun V : World => V.cell? ⟨w.heap.size, 0, none⟩ = some (.int .i32 f) ∧ V.cell? ⟨w.heap.size, 1, none⟩ = some (.int .i32 n) ∧ V.cell? ⟨w.heap.size + 1, 0, none⟩ = some (.int .i32 g) ∧ V.cell? ⟨w.heap.size + 1, 1, none⟩ = some (.int .i32 m)) (first | exact hs3 | exact hs2 | exact hs1 | exact hs0)
        (first
          | (go_at_call 20; with_reducible refine Calls.mono (H3.out _ hb2) ?_; rintro e v3 ⟨rfl, hs3, hb3⟩)
          | (go_at_call 21; with_reducible refine Calls.mono (H2.out _ hb1) ?_; rintro e v2 ⟨rfl, hs2, hb2⟩)
          | (go_at_call 21; with_reducible refine Calls.mono (H1.out _ hd0.out) ?_; rintro e v1 ⟨rfl, hs1, hb1⟩))
      obtain ⟨c0, c1, c2', c3⟩ := hs3
      replace HB := hid (b2 HB.out hb3)
      clear hs0 hs1 hs2 hb1 hb2 hb3 H1 H2 H3 hd0
      by_cases hc : c = 0
      · obtain rfl := HA0.out hc
        clear HA0 HA1
        subst hc
        go_wp2_with fail
        refine Calls.mono (HV2.out _) ?_
        rintro e v4 ⟨rfl, rfl⟩
        go_wp2_with fail
        refine bodyPost_ret (v := .tuple #[.int .i64 c2, .int .i64 0]) (by simp [results, Tryz.results9, go_sem]) rfl ?_
        exact ⟨rfl, HB.out⟩
      · obtain rfl := HA1.out hc
        clear HA0 HA1
        go_wp2_with fail
        refine bodyPost_ret (v := .tuple #[.int .i64 c, .int .i64 0]) (by simp [results, Tryz.results9, go_sem]) rfl ?_
        exact ⟨rfl, HB.out⟩
    · have hR : rOrd f n g m = (0, 150) := by unfold rOrd; rw [if_pos h0, if_neg h1]
      rw [hR]
      rw [e0] at HC1
      rw [e1] at HC2
      clear hR e0 e1 h0 h1 h k HH1 HH2
      go_enter Tryz.func9, Tryz.ntmps9
      go_wp2_with fail
      generalize (w.alloc (.cells #[.int .i32 f, .int .i32 n] 23)).alloc (.cells #[.int .i32 g, .int .i32 m] 23) = X at *
      refine Calls.mono (HC1.out X) ?_
      rintro e w1 ⟨rfl, hb1⟩
      obtain ⟨c0, c1, g0, g1⟩ := fbox_facts HX.out.1 hb1
      obtain ⟨c2', c3, g2, g3⟩ := fbox_facts HX.out.2.1 hb1
      go_wp2_with fail
      refine Calls.mono (HC2.out _) ?_
      rintro e w2 ⟨rfl, hb2⟩
      have HB := hid (b2 HX.out.2.2 (b2 hb1 hb2))
      clear HX hb1 hb2 HC1 HC2
      go_wp2_with fail
      refine bodyPost_ret (v := .tuple #[.int .i64 0, .int .i64 150]) (by simp [results, Tryz.results9, go_sem]) rfl ?_
      exact ⟨rfl, HB.out⟩
  · have hR : rOrd f n g m = (0, 150) := by unfold rOrd; rw [if_neg h0]
    rw [hR]
    rw [e0] at HC1
    clear hR e0 h0 h k HH1 HH2 HC2
    go_enter Tryz.func9, Tryz.ntmps9
    go_wp2_with fail
    generalize (w.alloc (.cells #[.int .i32 f, .int .i32 n] 23)).alloc (.cells #[.int .i32 g, .int .i32 m] 23) = X at *
    refine Calls.mono (HC1.out X) ?_
    rintro e w1 ⟨rfl, hb1⟩
    have HB := hid (b2 HX.out.2.2 hb1)
    clear HX hb1 HC1
    go_wp2_with fail
    refine bodyPost_ret (v := .tuple #[.int .i64 0, .int .i64 150]) (by simp [results, Tryz.results9, go_sem]) rfl ?_
    exact ⟨rfl, HB.out⟩
end Go.Proofs.YtcjfbmehibhkbaaGreatDoor

/- package rotor: signed; candidate and Find of words that are a rotor's number. (tools/mkrr1.py) -/
namespace Go.Proofs.YtcjfbmehibhkbaaGreatDoor
open Go.RowKit
set_option linter.unusedVariables false
set_option linter.unusedSimpArgs false

/-- Where a list of one word lies. -/
theorem sl_one {w : World} {a : Option Addr} {ca : Nat} {x : Int} (h : Sl w (.slice a 1 ca) [x]) : ∃ bb bo, a = some ⟨bb, bo, none⟩ ∧ bb < w.heap.size ∧ w.cell? ⟨bb, bo, none⟩ = some (.int .u32 x) ∧ 0 ≤ x ∧ x ≤ 4294967295 := by
  obtain ⟨a', c', e, r⟩ := h
  cases e
  rcases r.2.2.1 with q | ⟨bb, bo, rfl, hlt, hc⟩
  · simp at q
  · exact ⟨bb, bo, rfl, hlt, by have := hc 0 (by simp); simpa using this, r.2.1 x (by simp)⟩
theorem sl_bd {w : World} {a : Option Addr} {ca : Nat} {x : Int} (h : Sl w (.slice a 1 ca) [x]) : 0 ≤ x ∧ x ≤ 4294967295 := h.wd x (by simp)
theorem wrapJ {x : Int} (h0 : -9223372036854775808 ≤ x) (h1 : x ≤ 9223372036854775807) : IntKind.i64.wrap x = x := by rw [IntKind.wrap_i64]; omega
def sgw (n : Bool) (x : Int) : Int := if n then -x else x
set_option maxHeartbeats 1600000 in
set_option maxRecDepth 100000 in
theorem osigned_any (n : Bool) (a : Option Addr) (ca : Nat) (x : Int) (b : Option Addr) (lb cb : Nat) (w : World) (sx : Sl w (.slice a 1 ca) [x]) :
    Calls Tryz.prog 28 #[.agg #[.bool n, .slice a 1 ca, .slice b lb cb]] w fun e w' => e = .returned (.int .i64 (sgw n x)) ∧ Below w.heap.size w w' := by
  obtain ⟨bb, bo, rfl, hlt, hc, x0, x1⟩ := sl_one sx
  obtain ⟨X, hX⟩ : ∃ X, w.alloc (.cells #[.bool n, .slice (some ⟨bb, bo, none⟩) 1 ca, .slice b lb cb] 29) = X := ⟨_, rfl⟩
  have HB : Hid (Below w.heap.size w X) := by rw [← hX]; exact alloc_later _ _
  have HR : Hid (Box X w.heap.size 29 #[.bool n, .slice (some ⟨bb, bo, none⟩) 1 ca, .slice b lb cb]) := by rw [← hX]; exact Box.made w _ _
  have k0 : X.cell? ⟨w.heap.size, 0, none⟩ = some (.bool n) := HR.out.cell 0
  have k1 : X.cell? ⟨w.heap.size, 1, none⟩ = some (.slice (some ⟨bb, bo, none⟩) 1 ca) := HR.out.cell 1
  have kx : X.cell? ⟨bb, bo, none⟩ = some (.int .u32 x) := (HB.out.cell (p := ⟨bb, bo, none⟩) hlt).trans hc
  clear sx hc
  cases n
  · go_enter Tryz.func28, Tryz.ntmps28
    go_wp2_with fail
    go_ret
    exact ⟨rfl, HB.out⟩
  · go_enter Tryz.func28, Tryz.ntmps28
    go_wp2_with fail
    go_ret
    exact ⟨rfl, HB.out⟩

/-- A rotor is read out of a box, what is beside it out of a slot. -/
theorem rores_run {fn : Func} {W : World} {b q u : Nat} {cs : Array Value} (hr : fn.results = #[.cell q 23, .tmp u]) (hb : Box W b 23 cs) (tmps : Array Value) (h4 : tmps.getD q undef = .pointer (some ⟨b, 0, none⟩)) (hi : (Tryz.prog.info? 23).map (·.size) = some cs.size := by kernel_rfl) : (results fn tmps).run Tryz.prog W = .ok (.tuple #[.agg cs, tmps.getD u undef]) W := by
  have h := run_loadVar_row (P := Tryz.prog) W b 23 23 cs (0, 0) _ hb Tryz.underlying23 rfl hi
  rw [results_cell_tmp hr, h4]
  simp [asAddr, h]
set_option maxHeartbeats 6400000 in
set_option maxRecDepth 100000 in
theorem ocand_good (n m : Bool) (a b c d : Option Addr) (ca cb cc cd : Nat) (x e y v F N : Int) (G : Nat) (w : World) (sx : Sl w (.slice a 1 ca) [x]) (sy : Sl w (.slice b 1 cb) [e]) (su : Sl w (.slice c 1 cc) [y]) (hfar : e + sgw n x = F * G) (hnear : sgw m y = N * G) (hg : Nat.gcd (F * G).toNat (N * G).natAbs = G) (f0 : 1 ≤ F) (f1 : F ≤ 1000) (n0 : N ≠ 0) (n1 : N.natAbs ≤ 1000) (hG : 0 < G) :
    Calls Tryz.prog 16 #[.agg #[.bool n, .slice a 1 ca, .slice b 1 cb, .bool m, .slice c 1 cc, .slice d 1 cd]] w fun r w' => r = .returned (.tuple #[.agg #[.int .i32 F, .int .i32 N], .bool true]) ∧ Below w.heap.size w w' := by
  obtain ⟨bb, bo, hbb, hlt, hce, e0, e1⟩ := sl_one sy
  have x01 := sl_bd sx
  have y01 := sl_bd su
  subst hbb
  obtain ⟨X, hX⟩ : ∃ X, (w.alloc (.cells #[.bool n, .slice a 1 ca, .slice (some ⟨bb, bo, none⟩) 1 cb, .bool m, .slice c 1 cc, .slice d 1 cd] 31)).alloc (.cells #[.int .i32 0, .int .i32 0] 23) = X := ⟨_, rfl⟩
  have HB : Hid (Below w.heap.size w X) := by rw [← hX]; exact bt (alloc_later _ _) (alloc_later _ _)
  have HR : Hid (Box X w.heap.size 31 #[.bool n, .slice a 1 ca, .slice (some ⟨bb, bo, none⟩) 1 cb, .bool m, .slice c 1 cc, .slice d 1 cd]) := by rw [← hX]; exact (Box.made w _ _).later (alloc_later _ _) (Box.made w _ _).lt
  have HZ : Hid (Box X (w.heap.size + 1) 23 #[.int .i32 0, .int .i32 0]) := by
    have q := Box.made (w.alloc (.cells #[.bool n, .slice a 1 ca, .slice (some ⟨bb, bo, none⟩) 1 cb, .bool m, .slice c 1 cc, .slice d 1 cd] 31)) 23 #[.int .i32 0, .int .i32 0]
    rw [show (w.alloc (.cells #[.bool n, .slice a 1 ca, .slice (some ⟨bb, bo, none⟩) 1 cb, .bool m, .slice c 1 cc, .slice d 1 cd] 31)).heap.size = w.heap.size + 1 by simp, hX] at q
    exact q
  obtain ⟨Y, hY⟩ : ∃ Y, X.alloc (.cells #[.slice a 1 ca, .slice (some ⟨bb, bo, none⟩) 1 cb, .slice c 1 cc, .slice d 1 cd] 27) = Y := ⟨_, rfl⟩
  have HYB : Hid (Below X.heap.size X Y) := by rw [← hY]; exact alloc_later _ _
  have HYR : Hid (Box Y X.heap.size 27 #[.slice a 1 ca, .slice (some ⟨bb, bo, none⟩) 1 cb, .slice c 1 cc, .slice d 1 cd]) := by rw [← hY]; exact Box.made X _ _
  have k0 : X.cell? ⟨w.heap.size, 0, none⟩ = some (.bool n) := HR.out.cell 0
  have k1 : X.cell? ⟨w.heap.size, 1, none⟩ = some (.slice a 1 ca) := HR.out.cell 1
  have k2 : X.cell? ⟨w.heap.size, 2, none⟩ = some (.slice (some ⟨bb, bo, none⟩) 1 cb) := HR.out.cell 2
  have k3 : X.cell? ⟨w.heap.size, 3, none⟩ = some (.bool m) := HR.out.cell 3
  have k4 : X.cell? ⟨w.heap.size, 4, none⟩ = some (.slice c 1 cc) := HR.out.cell 4
  have k5 : X.cell? ⟨w.heap.size, 5, none⟩ = some (.slice d 1 cd) := HR.out.cell 5
  have HK : Hid (∀ V, Below Y.heap.size Y V → V.cell? ⟨w.heap.size, 0, none⟩ = some (.bool n) ∧ V.cell? ⟨w.heap.size, 1, none⟩ = some (.slice a 1 ca) ∧ V.cell? ⟨w.heap.size, 2, none⟩ = some (.slice (some ⟨bb, bo, none⟩) 1 cb) ∧ V.cell? ⟨w.heap.size, 3, none⟩ = some (.bool m) ∧ V.cell? ⟨w.heap.size, 4, none⟩ = some (.slice c 1 cc) ∧ V.cell? ⟨w.heap.size, 5, none⟩ = some (.slice d 1 cd)) := fun V hv => by
    have q := HR.out.later (bt HYB.out hv) HR.out.lt
    exact ⟨q.cell 0, q.cell 1, q.cell 2, q.cell 3, q.cell 4, q.cell 5⟩
  have HS1 : Hid (∀ V, Below Y.heap.size Y V → Calls Tryz.prog 28 #[.agg #[.bool n, .slice a 1 ca, .slice (some ⟨bb, bo, none⟩) 1 cb]] V fun r w' => r = .returned (.int .i64 (sgw n x)) ∧ Hid (Below V.heap.size V w')) := fun V hv => osigned_any n a ca x _ 1 cb V (sx.later (bt (bt HB.out HYB.out) hv))
  have HS2 : Hid (∀ V, Below Y.heap.size Y V → Calls Tryz.prog 28 #[.agg #[.bool m, .slice c 1 cc, .slice d 1 cd]] V fun r w' => r = .returned (.int .i64 (N * G)) ∧ Below V.heap.size V w') := fun V hv => by
    have q := osigned_any m c cc y d 1 cd V (su.later (bt (bt HB.out HYB.out) hv))
    rw [hnear] at q
    exact q
  have HE : Hid (∀ V, Below Y.heap.size Y V → V.cell? ⟨bb, bo, none⟩ = some (.int .u32 e)) := fun V hv => ((bt (bt HB.out HYB.out) hv).cell (p := ⟨bb, bo, none⟩) hlt).trans hce
  have sb : -4294967295 ≤ sgw n x ∧ sgw n x ≤ 4294967295 := by unfold sgw; cases n <;> simp <;> omega
  have sb2 : -4294967295 ≤ N * G ∧ N * G ≤ 4294967295 := by rw [← hnear]; unfold sgw; cases m <;> simp <;> omega
  have HFG : Hid (e + sgw n x = F * G) := hfar
  have HWR : Hid (IntKind.i64.wrap (IntKind.i64.wrap e + sgw n x) = F * G) := by
    show _ = _
    rw [wrapJ (x := e) (by omega) (by omega), wrapJ (by omega) (by omega)]
    exact hfar
  have far1 : 1 ≤ F * (G : Int) := by
    have : 1 * 1 ≤ F * (G : Int) := Int.mul_le_mul f0 (by omega) (by decide) (by omega)
    omega
  have near0 : N * (G : Int) ≠ 0 := Int.mul_ne_zero n0 (by omega)
  have far2 : F * (G : Int) ≤ 8589934590 := by omega
  have HZS := hid (fun V => osize_any (N * G) V (by omega) (by omega))
  have HCD : Hid (∀ V : World, Calls Tryz.prog 12 #[.int .i64 (F * G), .int .i64 ((N * G).natAbs : Int)] V fun r w' => r = .returned (.int .i64 (G : Int)) ∧ Below V.heap.size V w') := fun V => by
    have q := ocommon_any (F * G).toNat (N * G).natAbs V (by omega) (by omega)
    rw [hg, show (((F * (G : Int)).toNat : Nat) : Int) = F * G by omega] at q
    exact q
  have HZT := hid (fun V => osize_any N V (by omega) (by omega))
  have t1 : Int.tdiv (F * G) (G : Int) = F := Int.mul_tdiv_cancel _ (by omega)
  have t2 : Int.tdiv (N * G) (G : Int) = N := Int.mul_tdiv_cancel _ (by omega)
  have G0 : (G : Int) ≠ 0 := by omega
  have d1 : decide (F * (G : Int) < 1) = false := decide_eq_false (by omega)
  have d2 : (N * (G : Int) == 0) = false := by simp only [beq_eq_false_iff_ne]; exact near0
  have d3 : decide ((1000 : Int) < F) = false := decide_eq_false (by omega)
  have d4 : decide ((1000 : Int) < (N.natAbs : Int)) = false := decide_eq_false (by omega)
  clear sx sy su hfar hnear hg hce hlt
  go_enter Tryz.func16, Tryz.ntmps16
  go_wp2_with fail
  clear hX hY k0 k1 k2 k3 k4 k5
  go_loopw [23] (fun t wr => ∃ k : Nat, k ≤ 4 ∧ t = .int .i64 (k : Int) ∧ wr = Y) (fun t _ => 4 - (intOf t).toNat)
  case atStart => exact ⟨0, by omega, rfl, rfl⟩
  case round =>
    obtain ⟨k, hk, rfl, rfl⟩ := hrel
    have r0 : wr.cell? ⟨X.heap.size, 0, none⟩ = some (.slice a 1 ca) := HYR.out.cell 0
    have r1 : wr.cell? ⟨X.heap.size, 1, none⟩ = some (.slice (some ⟨bb, bo, none⟩) 1 cb) := HYR.out.cell 1
    have r2 : wr.cell? ⟨X.heap.size, 2, none⟩ = some (.slice c 1 cc) := HYR.out.cell 2
    have r3 : wr.cell? ⟨X.heap.size, 3, none⟩ = some (.slice d 1 cd) := HYR.out.cell 3
    have hkk : k = 0 ∨ k = 1 ∨ k = 2 ∨ k = 3 ∨ k = 4 := by omega
    rcases hkk with rfl | rfl | rfl | rfl | rfl
    case inl =>
      go_wp2_with fail
      go_roundw
      case rel => exact ⟨1, by omega, rfl, by first | rfl | trivial⟩
      case measure => simp [intOf]
    case inr.inl =>
      go_wp2_with fail
      go_roundw
      case rel => exact ⟨2, by omega, rfl, by first | rfl | trivial⟩
      case measure => simp [intOf]
    case inr.inr.inl =>
      go_wp2_with fail
      go_roundw
      case rel => exact ⟨3, by omega, rfl, by first | rfl | trivial⟩
      case measure => simp [intOf]
    case inr.inr.inr.inl =>
      go_wp2_with fail
      go_roundw
      case rel => exact ⟨4, by omega, rfl, by first | rfl | trivial⟩
      case measure => simp [intOf]
    case inr.inr.inr.inr =>
      clear r0 r1 r2 r3 hk
      have hd0 := hid (Below.refl wr.heap.size wr).drew
      have hs0 := And.intro (HE.out _ hd0.out) (HK.out _ hd0.out)
      go_wp2_with fail
      go_region_held3 (fun V : World => V.cell? ⟨bb, bo, none⟩ = some (.int .u32 e) ∧ V.cell? ⟨w.heap.size, 0, none⟩ = some (.bool n) ∧ V.cell? ⟨w.heap.size, 1, none⟩ = some (.slice a 1 ca) ∧ V.cell? ⟨w.heap.size, 2, none⟩ = some (.slice (some ⟨bb, bo, none⟩) 1 cb) ∧ V.cell? ⟨w.heap.size, 3, none⟩ = some (.bool m) ∧ V.cell? ⟨w.heap.size, 4, none⟩ = some (.slice c 1 cc) ∧ V.cell? ⟨w.heap.size, 5, none⟩ = some (.slice d 1 cd)) (first | exact hs1 | exact hs0)
        (first | (go_at_call 28; (with_reducible refine Calls.mono (HS1.out _ hd0.out) ?_); rintro r w1 ⟨rfl, hb1⟩; have hbA := hid (bt hd0.out hb1.out); have hs1 := And.intro (HE.out _ hbA.out) (HK.out _ hbA.out)))
      rw [HWR.out]
      have HBA := hid hbA.out
      have HD2 := hid (HS2.out w1 HBA.out)
      obtain ⟨j0, j1, j2, j3, j4, j5⟩ := HK.out _ HBA.out
      clear hs0 hs1 hd0 hb1 hbA HS1 HS2 HE
      go_wp2_with fail
      refine Calls.mono HD2.out ?_
      rintro r w2 ⟨rfl, hb2⟩
      have HB2 := hid (bt HBA.out hb2)
      clear HD2 hb2 j0 j1 j2 j3 j4 j5
      have HD3 := hid (HZS.out w2)
      go_wp2_with fail
      refine Calls.mono HD3.out ?_
      rintro r w3 ⟨rfl, rfl⟩
      clear HD3
      have HD4 := hid (HCD.out w3)
      go_wp2_with fail
      refine Calls.mono HD4.out ?_
      rintro r w4 ⟨rfl, hb4⟩
      have HB4 := hid (bt HB2.out hb4)
      clear HD4 hb4 HZS HCD
      go_wp2_with fail
      go_quiet (fail)
      have HB5 : Hid (Below wr.heap.size wr (w4.drewN nq)) := bdrewN HB4.out nq
      generalize w4.drewN nq = V5 at *
      have HD5 := hid (HZT.out V5)
      have HZ5 := hid (HZ.out.later (bt HYB.out HB5.out) HZ.out.lt)
      have z0 : V5.cell? ⟨w.heap.size + 1, 0, none⟩ = some (.int .i32 0) := HZ5.out.cell 0
      have z1 : V5.cell? ⟨w.heap.size + 1, 1, none⟩ = some (.int .i32 0) := HZ5.out.cell 1
      have zf0 := HZ5.out.free 0
      have zf1 := HZ5.out.free 1
      have hN1 : -1000 ≤ N ∧ N ≤ 1000 := by omega
      go_wp2_with fail
      refine Calls.mono HD5.out ?_
      rintro r w6 ⟨rfl, rfl⟩
      clear HD5
      go_wp2_with fail
      have BX : Box ((w6.setCell ⟨w.heap.size + 1, 0, none⟩ (.int .i32 F)).setCell ⟨w.heap.size + 1, 1, none⟩ (.int .i32 N)) (w.heap.size + 1) 23 #[.int .i32 F, .int .i32 N] := (HZ5.out.set 0 _).set 1 _
      refine bodyPost_ret (rores_run (by rfl) BX _ (by rfl)) rfl ?_
      exact ⟨rfl, ((bt HB.out (bt HYB.out HB5.out)).setCell (p := ⟨w.heap.size + 1, 0, none⟩) (by show w.heap.size ≤ w.heap.size + 1; omega) _).setCell (p := ⟨w.heap.size + 1, 1, none⟩) (by show w.heap.size ≤ w.heap.size + 1; omega) _⟩
end Go.Proofs.YtcjfbmehibhkbaaGreatDoor

/- package rotor: candidate of every complex fraction: it always answers. (tools/mkrt4.py) -/
namespace Go.Proofs.YtcjfbmehibhkbaaGreatDoor
open Go.RowKit
set_option linter.unusedVariables false
set_option linter.unusedSimpArgs false

set_option maxHeartbeats 6400000 in
set_option maxRecDepth 100000 in
theorem ocand_1 (n m : Bool) (a b c d : Option Addr) (ca cb cc cd : Nat) (x e y v P R : Int) (w : World) (sx : Sl w (.slice a 1 ca) [x]) (sy : Sl w (.slice b 1 cb) [e]) (su : Sl w (.slice c 1 cc) [y]) (hfar : e + sgw n x = P) (hnear : sgw m y = R) (h1 : P < 1) :
    Calls Tryz.prog 16 #[.agg #[.bool n, .slice a 1 ca, .slice b 1 cb, .bool m, .slice c 1 cc, .slice d 1 cd]] w fun r w' => r = .returned (.tuple #[.agg #[.int .i32 0, .int .i32 0], .bool false]) ∧ Below w.heap.size w w' := by
  obtain ⟨bb, bo, hbb, hlt, hce, e0, e1⟩ := sl_one sy
  have x01 := sl_bd sx
  have y01 := sl_bd su
  subst hbb
  obtain ⟨X, hX⟩ : ∃ X, (w.alloc (.cells #[.bool n, .slice a 1 ca, .slice (some ⟨bb, bo, none⟩) 1 cb, .bool m, .slice c 1 cc, .slice d 1 cd] 31)).alloc (.cells #[.int .i32 0, .int .i32 0] 23) = X := ⟨_, rfl⟩
  have HB : Hid (Below w.heap.size w X) := by rw [← hX]; exact bt (alloc_later _ _) (alloc_later _ _)
  have HR : Hid (Box X w.heap.size 31 #[.bool n, .slice a 1 ca, .slice (some ⟨bb, bo, none⟩) 1 cb, .bool m, .slice c 1 cc, .slice d 1 cd]) := by rw [← hX]; exact (Box.made w _ _).later (alloc_later _ _) (Box.made w _ _).lt
  have HZ : Hid (Box X (w.heap.size + 1) 23 #[.int .i32 0, .int .i32 0]) := by
    have q := Box.made (w.alloc (.cells #[.bool n, .slice a 1 ca, .slice (some ⟨bb, bo, none⟩) 1 cb, .bool m, .slice c 1 cc, .slice d 1 cd] 31)) 23 #[.int .i32 0, .int .i32 0]
    rw [show (w.alloc (.cells #[.bool n, .slice a 1 ca, .slice (some ⟨bb, bo, none⟩) 1 cb, .bool m, .slice c 1 cc, .slice d 1 cd] 31)).heap.size = w.heap.size + 1 by simp, hX] at q
    exact q
  obtain ⟨Y, hY⟩ : ∃ Y, X.alloc (.cells #[.slice a 1 ca, .slice (some ⟨bb, bo, none⟩) 1 cb, .slice c 1 cc, .slice d 1 cd] 27) = Y := ⟨_, rfl⟩
  have HYB : Hid (Below X.heap.size X Y) := by rw [← hY]; exact alloc_later _ _
  have HYR : Hid (Box Y X.heap.size 27 #[.slice a 1 ca, .slice (some ⟨bb, bo, none⟩) 1 cb, .slice c 1 cc, .slice d 1 cd]) := by rw [← hY]; exact Box.made X _ _
  have k0 : X.cell? ⟨w.heap.size, 0, none⟩ = some (.bool n) := HR.out.cell 0
  have k1 : X.cell? ⟨w.heap.size, 1, none⟩ = some (.slice a 1 ca) := HR.out.cell 1
  have k2 : X.cell? ⟨w.heap.size, 2, none⟩ = some (.slice (some ⟨bb, bo, none⟩) 1 cb) := HR.out.cell 2
  have k3 : X.cell? ⟨w.heap.size, 3, none⟩ = some (.bool m) := HR.out.cell 3
  have k4 : X.cell? ⟨w.heap.size, 4, none⟩ = some (.slice c 1 cc) := HR.out.cell 4
  have k5 : X.cell? ⟨w.heap.size, 5, none⟩ = some (.slice d 1 cd) := HR.out.cell 5
  have HK : Hid (∀ V, Below Y.heap.size Y V → V.cell? ⟨w.heap.size, 0, none⟩ = some (.bool n) ∧ V.cell? ⟨w.heap.size, 1, none⟩ = some (.slice a 1 ca) ∧ V.cell? ⟨w.heap.size, 2, none⟩ = some (.slice (some ⟨bb, bo, none⟩) 1 cb) ∧ V.cell? ⟨w.heap.size, 3, none⟩ = some (.bool m) ∧ V.cell? ⟨w.heap.size, 4, none⟩ = some (.slice c 1 cc) ∧ V.cell? ⟨w.heap.size, 5, none⟩ = some (.slice d 1 cd)) := fun V hv => by
    have q := HR.out.later (bt HYB.out hv) HR.out.lt
    exact ⟨q.cell 0, q.cell 1, q.cell 2, q.cell 3, q.cell 4, q.cell 5⟩
  have HS1 : Hid (∀ V, Below Y.heap.size Y V → Calls Tryz.prog 28 #[.agg #[.bool n, .slice a 1 ca, .slice (some ⟨bb, bo, none⟩) 1 cb]] V fun r w' => r = .returned (.int .i64 (sgw n x)) ∧ Hid (Below V.heap.size V w')) := fun V hv => osigned_any n a ca x _ 1 cb V (sx.later (bt (bt HB.out HYB.out) hv))
  have HS2 : Hid (∀ V, Below Y.heap.size Y V → Calls Tryz.prog 28 #[.agg #[.bool m, .slice c 1 cc, .slice d 1 cd]] V fun r w' => r = .returned (.int .i64 (R)) ∧ Below V.heap.size V w') := fun V hv => by
    have q := osigned_any m c cc y d 1 cd V (su.later (bt (bt HB.out HYB.out) hv))
    rw [hnear] at q
    exact q
  have HE : Hid (∀ V, Below Y.heap.size Y V → V.cell? ⟨bb, bo, none⟩ = some (.int .u32 e)) := fun V hv => ((bt (bt HB.out HYB.out) hv).cell (p := ⟨bb, bo, none⟩) hlt).trans hce
  have sb : -4294967295 ≤ sgw n x ∧ sgw n x ≤ 4294967295 := by unfold sgw; cases n <;> simp <;> omega
  have sb2 : -4294967295 ≤ R ∧ R ≤ 4294967295 := by rw [← hnear]; unfold sgw; cases m <;> simp <;> omega
  have HFG : Hid (e + sgw n x = P) := hfar
  have HWR : Hid (IntKind.i64.wrap (IntKind.i64.wrap e + sgw n x) = P) := by
    show _ = _
    rw [wrapJ (x := e) (by omega) (by omega), wrapJ (by omega) (by omega)]
    exact hfar
  have d1 : decide (P < 1) = true := decide_eq_true h1
  clear sx sy su hfar hnear hce hlt
  go_enter Tryz.func16, Tryz.ntmps16
  go_wp2_with fail
  clear hX hY k0 k1 k2 k3 k4 k5
  go_loopw [23] (fun t wr => ∃ k : Nat, k ≤ 4 ∧ t = .int .i64 (k : Int) ∧ wr = Y) (fun t _ => 4 - (intOf t).toNat)
  case atStart => exact ⟨0, by omega, rfl, rfl⟩
  case round =>
    obtain ⟨k, hk, rfl, rfl⟩ := hrel
    have r0 : wr.cell? ⟨X.heap.size, 0, none⟩ = some (.slice a 1 ca) := HYR.out.cell 0
    have r1 : wr.cell? ⟨X.heap.size, 1, none⟩ = some (.slice (some ⟨bb, bo, none⟩) 1 cb) := HYR.out.cell 1
    have r2 : wr.cell? ⟨X.heap.size, 2, none⟩ = some (.slice c 1 cc) := HYR.out.cell 2
    have r3 : wr.cell? ⟨X.heap.size, 3, none⟩ = some (.slice d 1 cd) := HYR.out.cell 3
    have hkk : k = 0 ∨ k = 1 ∨ k = 2 ∨ k = 3 ∨ k = 4 := by omega
    rcases hkk with rfl | rfl | rfl | rfl | rfl
    case inl =>
      go_wp2_with fail
      go_roundw
      case rel => exact ⟨1, by omega, rfl, by first | rfl | trivial⟩
      case measure => simp [intOf]
    case inr.inl =>
      go_wp2_with fail
      go_roundw
      case rel => exact ⟨2, by omega, rfl, by first | rfl | trivial⟩
      case measure => simp [intOf]
    case inr.inr.inl =>
      go_wp2_with fail
      go_roundw
      case rel => exact ⟨3, by omega, rfl, by first | rfl | trivial⟩
      case measure => simp [intOf]
    case inr.inr.inr.inl =>
      go_wp2_with fail
      go_roundw
      case rel => exact ⟨4, by omega, rfl, by first | rfl | trivial⟩
      case measure => simp [intOf]
    case inr.inr.inr.inr =>
      clear r0 r1 r2 r3 hk
      have hd0 := hid (Below.refl wr.heap.size wr).drew
      have hs0 := And.intro (HE.out _ hd0.out) (HK.out _ hd0.out)
      go_wp2_with fail
      go_region_held3 (fun V : World => V.cell? ⟨bb, bo, none⟩ = some (.int .u32 e) ∧ V.cell? ⟨w.heap.size, 0, none⟩ = some (.bool n) ∧ V.cell? ⟨w.heap.size, 1, none⟩ = some (.slice a 1 ca) ∧ V.cell? ⟨w.heap.size, 2, none⟩ = some (.slice (some ⟨bb, bo, none⟩) 1 cb) ∧ V.cell? ⟨w.heap.size, 3, none⟩ = some (.bool m) ∧ V.cell? ⟨w.heap.size, 4, none⟩ = some (.slice c 1 cc) ∧ V.cell? ⟨w.heap.size, 5, none⟩ = some (.slice d 1 cd)) (first | exact hs1 | exact hs0)
        (first | (go_at_call 28; (with_reducible refine Calls.mono (HS1.out _ hd0.out) ?_); rintro r w1 ⟨rfl, hb1⟩; have hbA := hid (bt hd0.out hb1.out); have hs1 := And.intro (HE.out _ hbA.out) (HK.out _ hbA.out)))
      rw [HWR.out]
      have HBA := hid hbA.out
      have HD2 := hid (HS2.out w1 HBA.out)
      obtain ⟨j0, j1, j2, j3, j4, j5⟩ := HK.out _ HBA.out
      clear hs0 hs1 hd0 hb1 hbA HS1 HS2 HE
      go_wp2_with fail
      refine Calls.mono HD2.out ?_
      rintro r w2 ⟨rfl, hb2⟩
      have HB2 := hid (bt HBA.out hb2)
      clear HD2 hb2 j0 j1 j2 j3 j4 j5
      have HZ9 := hid (HZ.out.later (bt HYB.out HB2.out) HZ.out.lt)
      have z0 : w2.cell? ⟨w.heap.size + 1, 0, none⟩ = some (.int .i32 0) := HZ9.out.cell 0
      have z1 : w2.cell? ⟨w.heap.size + 1, 1, none⟩ = some (.int .i32 0) := HZ9.out.cell 1
      have zf0 := HZ9.out.free 0
      have zf1 := HZ9.out.free 1
      go_wp2_with fail
      have BX : Box ((w2.setCell ⟨w.heap.size + 1, 0, none⟩ (.int .i32 0)).setCell ⟨w.heap.size + 1, 1, none⟩ (.int .i32 0)) (w.heap.size + 1) 23 #[.int .i32 0, .int .i32 0] := (HZ9.out.set 0 _).set 1 _
      refine bodyPost_ret (rores_run (by rfl) BX _ (by rfl)) rfl ?_
      exact ⟨rfl, ((bt HB.out (bt HYB.out HB2.out)).setCell (p := ⟨w.heap.size + 1, 0, none⟩) (by show w.heap.size ≤ w.heap.size + 1; omega) _).setCell (p := ⟨w.heap.size + 1, 1, none⟩) (by show w.heap.size ≤ w.heap.size + 1; omega) _⟩
set_option maxHeartbeats 6400000 in
set_option maxRecDepth 100000 in
theorem ocand_2 (n m : Bool) (a b c d : Option Addr) (ca cb cc cd : Nat) (x e y v P R : Int) (w : World) (sx : Sl w (.slice a 1 ca) [x]) (sy : Sl w (.slice b 1 cb) [e]) (su : Sl w (.slice c 1 cc) [y]) (hfar : e + sgw n x = P) (hnear : sgw m y = R) (h1 : 1 ≤ P) (h2 : R = 0) :
    Calls Tryz.prog 16 #[.agg #[.bool n, .slice a 1 ca, .slice b 1 cb, .bool m, .slice c 1 cc, .slice d 1 cd]] w fun r w' => r = .returned (.tuple #[.agg #[.int .i32 0, .int .i32 0], .bool false]) ∧ Below w.heap.size w w' := by
  obtain ⟨bb, bo, hbb, hlt, hce, e0, e1⟩ := sl_one sy
  have x01 := sl_bd sx
  have y01 := sl_bd su
  subst hbb
  obtain ⟨X, hX⟩ : ∃ X, (w.alloc (.cells #[.bool n, .slice a 1 ca, .slice (some ⟨bb, bo, none⟩) 1 cb, .bool m, .slice c 1 cc, .slice d 1 cd] 31)).alloc (.cells #[.int .i32 0, .int .i32 0] 23) = X := ⟨_, rfl⟩
  have HB : Hid (Below w.heap.size w X) := by rw [← hX]; exact bt (alloc_later _ _) (alloc_later _ _)
  have HR : Hid (Box X w.heap.size 31 #[.bool n, .slice a 1 ca, .slice (some ⟨bb, bo, none⟩) 1 cb, .bool m, .slice c 1 cc, .slice d 1 cd]) := by rw [← hX]; exact (Box.made w _ _).later (alloc_later _ _) (Box.made w _ _).lt
  have HZ : Hid (Box X (w.heap.size + 1) 23 #[.int .i32 0, .int .i32 0]) := by
    have q := Box.made (w.alloc (.cells #[.bool n, .slice a 1 ca, .slice (some ⟨bb, bo, none⟩) 1 cb, .bool m, .slice c 1 cc, .slice d 1 cd] 31)) 23 #[.int .i32 0, .int .i32 0]
    rw [show (w.alloc (.cells #[.bool n, .slice a 1 ca, .slice (some ⟨bb, bo, none⟩) 1 cb, .bool m, .slice c 1 cc, .slice d 1 cd] 31)).heap.size = w.heap.size + 1 by simp, hX] at q
    exact q
  obtain ⟨Y, hY⟩ : ∃ Y, X.alloc (.cells #[.slice a 1 ca, .slice (some ⟨bb, bo, none⟩) 1 cb, .slice c 1 cc, .slice d 1 cd] 27) = Y := ⟨_, rfl⟩
  have HYB : Hid (Below X.heap.size X Y) := by rw [← hY]; exact alloc_later _ _
  have HYR : Hid (Box Y X.heap.size 27 #[.slice a 1 ca, .slice (some ⟨bb, bo, none⟩) 1 cb, .slice c 1 cc, .slice d 1 cd]) := by rw [← hY]; exact Box.made X _ _
  have k0 : X.cell? ⟨w.heap.size, 0, none⟩ = some (.bool n) := HR.out.cell 0
  have k1 : X.cell? ⟨w.heap.size, 1, none⟩ = some (.slice a 1 ca) := HR.out.cell 1
  have k2 : X.cell? ⟨w.heap.size, 2, none⟩ = some (.slice (some ⟨bb, bo, none⟩) 1 cb) := HR.out.cell 2
  have k3 : X.cell? ⟨w.heap.size, 3, none⟩ = some (.bool m) := HR.out.cell 3
  have k4 : X.cell? ⟨w.heap.size, 4, none⟩ = some (.slice c 1 cc) := HR.out.cell 4
  have k5 : X.cell? ⟨w.heap.size, 5, none⟩ = some (.slice d 1 cd) := HR.out.cell 5
  have HK : Hid (∀ V, Below Y.heap.size Y V → V.cell? ⟨w.heap.size, 0, none⟩ = some (.bool n) ∧ V.cell? ⟨w.heap.size, 1, none⟩ = some (.slice a 1 ca) ∧ V.cell? ⟨w.heap.size, 2, none⟩ = some (.slice (some ⟨bb, bo, none⟩) 1 cb) ∧ V.cell? ⟨w.heap.size, 3, none⟩ = some (.bool m) ∧ V.cell? ⟨w.heap.size, 4, none⟩ = some (.slice c 1 cc) ∧ V.cell? ⟨w.heap.size, 5, none⟩ = some (.slice d 1 cd)) := fun V hv => by
    have q := HR.out.later (bt HYB.out hv) HR.out.lt
    exact ⟨q.cell 0, q.cell 1, q.cell 2, q.cell 3, q.cell 4, q.cell 5⟩
  have HS1 : Hid (∀ V, Below Y.heap.size Y V → Calls Tryz.prog 28 #[.agg #[.bool n, .slice a 1 ca, .slice (some ⟨bb, bo, none⟩) 1 cb]] V fun r w' => r = .returned (.int .i64 (sgw n x)) ∧ Hid (Below V.heap.size V w')) := fun V hv => osigned_any n a ca x _ 1 cb V (sx.later (bt (bt HB.out HYB.out) hv))
  have HS2 : Hid (∀ V, Below Y.heap.size Y V → Calls Tryz.prog 28 #[.agg #[.bool m, .slice c 1 cc, .slice d 1 cd]] V fun r w' => r = .returned (.int .i64 (R)) ∧ Below V.heap.size V w') := fun V hv => by
    have q := osigned_any m c cc y d 1 cd V (su.later (bt (bt HB.out HYB.out) hv))
    rw [hnear] at q
    exact q
  have HE : Hid (∀ V, Below Y.heap.size Y V → V.cell? ⟨bb, bo, none⟩ = some (.int .u32 e)) := fun V hv => ((bt (bt HB.out HYB.out) hv).cell (p := ⟨bb, bo, none⟩) hlt).trans hce
  have sb : -4294967295 ≤ sgw n x ∧ sgw n x ≤ 4294967295 := by unfold sgw; cases n <;> simp <;> omega
  have sb2 : -4294967295 ≤ R ∧ R ≤ 4294967295 := by rw [← hnear]; unfold sgw; cases m <;> simp <;> omega
  have HFG : Hid (e + sgw n x = P) := hfar
  have HWR : Hid (IntKind.i64.wrap (IntKind.i64.wrap e + sgw n x) = P) := by
    show _ = _
    rw [wrapJ (x := e) (by omega) (by omega), wrapJ (by omega) (by omega)]
    exact hfar
  have d1 : decide (P < 1) = false := decide_eq_false (by omega)
  subst h2
  clear sx sy su hfar hnear hce hlt
  go_enter Tryz.func16, Tryz.ntmps16
  go_wp2_with fail
  clear hX hY k0 k1 k2 k3 k4 k5
  go_loopw [23] (fun t wr => ∃ k : Nat, k ≤ 4 ∧ t = .int .i64 (k : Int) ∧ wr = Y) (fun t _ => 4 - (intOf t).toNat)
  case atStart => exact ⟨0, by omega, rfl, rfl⟩
  case round =>
    obtain ⟨k, hk, rfl, rfl⟩ := hrel
    have r0 : wr.cell? ⟨X.heap.size, 0, none⟩ = some (.slice a 1 ca) := HYR.out.cell 0
    have r1 : wr.cell? ⟨X.heap.size, 1, none⟩ = some (.slice (some ⟨bb, bo, none⟩) 1 cb) := HYR.out.cell 1
    have r2 : wr.cell? ⟨X.heap.size, 2, none⟩ = some (.slice c 1 cc) := HYR.out.cell 2
    have r3 : wr.cell? ⟨X.heap.size, 3, none⟩ = some (.slice d 1 cd) := HYR.out.cell 3
    have hkk : k = 0 ∨ k = 1 ∨ k = 2 ∨ k = 3 ∨ k = 4 := by omega
    rcases hkk with rfl | rfl | rfl | rfl | rfl
    case inl =>
      go_wp2_with fail
      go_roundw
      case rel => exact ⟨1, by omega, rfl, by first | rfl | trivial⟩
      case measure => simp [intOf]
    case inr.inl =>
      go_wp2_with fail
      go_roundw
      case rel => exact ⟨2, by omega, rfl, by first | rfl | trivial⟩
      case measure => simp [intOf]
    case inr.inr.inl =>
      go_wp2_with fail
      go_roundw
      case rel => exact ⟨3, by omega, rfl, by first | rfl | trivial⟩
      case measure => simp [intOf]
    case inr.inr.inr.inl =>
      go_wp2_with fail
      go_roundw
      case rel => exact ⟨4, by omega, rfl, by first | rfl | trivial⟩
      case measure => simp [intOf]
    case inr.inr.inr.inr =>
      clear r0 r1 r2 r3 hk
      have hd0 := hid (Below.refl wr.heap.size wr).drew
      have hs0 := And.intro (HE.out _ hd0.out) (HK.out _ hd0.out)
      go_wp2_with fail
      go_region_held3 (fun V : World => V.cell? ⟨bb, bo, none⟩ = some (.int .u32 e) ∧ V.cell? ⟨w.heap.size, 0, none⟩ = some (.bool n) ∧ V.cell? ⟨w.heap.size, 1, none⟩ = some (.slice a 1 ca) ∧ V.cell? ⟨w.heap.size, 2, none⟩ = some (.slice (some ⟨bb, bo, none⟩) 1 cb) ∧ V.cell? ⟨w.heap.size, 3, none⟩ = some (.bool m) ∧ V.cell? ⟨w.heap.size, 4, none⟩ = some (.slice c 1 cc) ∧ V.cell? ⟨w.heap.size, 5, none⟩ = some (.slice d 1 cd)) (first | exact hs1 | exact hs0)
        (first | (go_at_call 28; (with_reducible refine Calls.mono (HS1.out _ hd0.out) ?_); rintro r w1 ⟨rfl, hb1⟩; have hbA := hid (bt hd0.out hb1.out); have hs1 := And.intro (HE.out _ hbA.out) (HK.out _ hbA.out)))
      rw [HWR.out]
      have HBA := hid hbA.out
      have HD2 := hid (HS2.out w1 HBA.out)
      obtain ⟨j0, j1, j2, j3, j4, j5⟩ := HK.out _ HBA.out
      clear hs0 hs1 hd0 hb1 hbA HS1 HS2 HE
      go_wp2_with fail
      refine Calls.mono HD2.out ?_
      rintro r w2 ⟨rfl, hb2⟩
      have HB2 := hid (bt HBA.out hb2)
      clear HD2 hb2 j0 j1 j2 j3 j4 j5
      have HZ9 := hid (HZ.out.later (bt HYB.out HB2.out) HZ.out.lt)
      have z0 : w2.cell? ⟨w.heap.size + 1, 0, none⟩ = some (.int .i32 0) := HZ9.out.cell 0
      have z1 : w2.cell? ⟨w.heap.size + 1, 1, none⟩ = some (.int .i32 0) := HZ9.out.cell 1
      have zf0 := HZ9.out.free 0
      have zf1 := HZ9.out.free 1
      go_wp2_with fail
      have BX : Box ((w2.setCell ⟨w.heap.size + 1, 0, none⟩ (.int .i32 0)).setCell ⟨w.heap.size + 1, 1, none⟩ (.int .i32 0)) (w.heap.size + 1) 23 #[.int .i32 0, .int .i32 0] := (HZ9.out.set 0 _).set 1 _
      refine bodyPost_ret (rores_run (by rfl) BX _ (by rfl)) rfl ?_
      exact ⟨rfl, ((bt HB.out (bt HYB.out HB2.out)).setCell (p := ⟨w.heap.size + 1, 0, none⟩) (by show w.heap.size ≤ w.heap.size + 1; omega) _).setCell (p := ⟨w.heap.size + 1, 1, none⟩) (by show w.heap.size ≤ w.heap.size + 1; omega) _⟩
set_option maxHeartbeats 6400000 in
set_option maxRecDepth 100000 in
theorem ocand_3 (n m : Bool) (a b c d : Option Addr) (ca cb cc cd : Nat) (x e y v F N : Int) (G : Nat) (w : World) (sx : Sl w (.slice a 1 ca) [x]) (sy : Sl w (.slice b 1 cb) [e]) (su : Sl w (.slice c 1 cc) [y]) (hfar : e + sgw n x = F * G) (hnear : sgw m y = N * G) (hg : Nat.gcd (F * G).toNat (N * G).natAbs = G) (f0 : 1 ≤ F) (f1 : 1000 < F) (f2 : F ≤ 8589934590) (n0 : N ≠ 0) (n2 : N.natAbs ≤ 4294967295) (hG : 0 < G) :
    Calls Tryz.prog 16 #[.agg #[.bool n, .slice a 1 ca, .slice b 1 cb, .bool m, .slice c 1 cc, .slice d 1 cd]] w fun r w' => r = .returned (.tuple #[.agg #[.int .i32 0, .int .i32 0], .bool false]) ∧ Below w.heap.size w w' := by
  obtain ⟨bb, bo, hbb, hlt, hce, e0, e1⟩ := sl_one sy
  have x01 := sl_bd sx
  have y01 := sl_bd su
  subst hbb
  obtain ⟨X, hX⟩ : ∃ X, (w.alloc (.cells #[.bool n, .slice a 1 ca, .slice (some ⟨bb, bo, none⟩) 1 cb, .bool m, .slice c 1 cc, .slice d 1 cd] 31)).alloc (.cells #[.int .i32 0, .int .i32 0] 23) = X := ⟨_, rfl⟩
  have HB : Hid (Below w.heap.size w X) := by rw [← hX]; exact bt (alloc_later _ _) (alloc_later _ _)
  have HR : Hid (Box X w.heap.size 31 #[.bool n, .slice a 1 ca, .slice (some ⟨bb, bo, none⟩) 1 cb, .bool m, .slice c 1 cc, .slice d 1 cd]) := by rw [← hX]; exact (Box.made w _ _).later (alloc_later _ _) (Box.made w _ _).lt
  have HZ : Hid (Box X (w.heap.size + 1) 23 #[.int .i32 0, .int .i32 0]) := by
    have q := Box.made (w.alloc (.cells #[.bool n, .slice a 1 ca, .slice (some ⟨bb, bo, none⟩) 1 cb, .bool m, .slice c 1 cc, .slice d 1 cd] 31)) 23 #[.int .i32 0, .int .i32 0]
    rw [show (w.alloc (.cells #[.bool n, .slice a 1 ca, .slice (some ⟨bb, bo, none⟩) 1 cb, .bool m, .slice c 1 cc, .slice d 1 cd] 31)).heap.size = w.heap.size + 1 by simp, hX] at q
    exact q
  obtain ⟨Y, hY⟩ : ∃ Y, X.alloc (.cells #[.slice a 1 ca, .slice (some ⟨bb, bo, none⟩) 1 cb, .slice c 1 cc, .slice d 1 cd] 27) = Y := ⟨_, rfl⟩
  have HYB : Hid (Below X.heap.size X Y) := by rw [← hY]; exact alloc_later _ _
  have HYR : Hid (Box Y X.heap.size 27 #[.slice a 1 ca, .slice (some ⟨bb, bo, none⟩) 1 cb, .slice c 1 cc, .slice d 1 cd]) := by rw [← hY]; exact Box.made X _ _
  have k0 : X.cell? ⟨w.heap.size, 0, none⟩ = some (.bool n) := HR.out.cell 0
  have k1 : X.cell? ⟨w.heap.size, 1, none⟩ = some (.slice a 1 ca) := HR.out.cell 1
  have k2 : X.cell? ⟨w.heap.size, 2, none⟩ = some (.slice (some ⟨bb, bo, none⟩) 1 cb) := HR.out.cell 2
  have k3 : X.cell? ⟨w.heap.size, 3, none⟩ = some (.bool m) := HR.out.cell 3
  have k4 : X.cell? ⟨w.heap.size, 4, none⟩ = some (.slice c 1 cc) := HR.out.cell 4
  have k5 : X.cell? ⟨w.heap.size, 5, none⟩ = some (.slice d 1 cd) := HR.out.cell 5
  have HK : Hid (∀ V, Below Y.heap.size Y V → V.cell? ⟨w.heap.size, 0, none⟩ = some (.bool n) ∧ V.cell? ⟨w.heap.size, 1, none⟩ = some (.slice a 1 ca) ∧ V.cell? ⟨w.heap.size, 2, none⟩ = some (.slice (some ⟨bb, bo, none⟩) 1 cb) ∧ V.cell? ⟨w.heap.size, 3, none⟩ = some (.bool m) ∧ V.cell? ⟨w.heap.size, 4, none⟩ = some (.slice c 1 cc) ∧ V.cell? ⟨w.heap.size, 5, none⟩ = some (.slice d 1 cd)) := fun V hv => by
    have q := HR.out.later (bt HYB.out hv) HR.out.lt
    exact ⟨q.cell 0, q.cell 1, q.cell 2, q.cell 3, q.cell 4, q.cell 5⟩
  have HS1 : Hid (∀ V, Below Y.heap.size Y V → Calls Tryz.prog 28 #[.agg #[.bool n, .slice a 1 ca, .slice (some ⟨bb, bo, none⟩) 1 cb]] V fun r w' => r = .returned (.int .i64 (sgw n x)) ∧ Hid (Below V.heap.size V w')) := fun V hv => osigned_any n a ca x _ 1 cb V (sx.later (bt (bt HB.out HYB.out) hv))
  have HS2 : Hid (∀ V, Below Y.heap.size Y V → Calls Tryz.prog 28 #[.agg #[.bool m, .slice c 1 cc, .slice d 1 cd]] V fun r w' => r = .returned (.int .i64 (N * G)) ∧ Below V.heap.size V w') := fun V hv => by
    have q := osigned_any m c cc y d 1 cd V (su.later (bt (bt HB.out HYB.out) hv))
    rw [hnear] at q
    exact q
  have HE : Hid (∀ V, Below Y.heap.size Y V → V.cell? ⟨bb, bo, none⟩ = some (.int .u32 e)) := fun V hv => ((bt (bt HB.out HYB.out) hv).cell (p := ⟨bb, bo, none⟩) hlt).trans hce
  have sb : -4294967295 ≤ sgw n x ∧ sgw n x ≤ 4294967295 := by unfold sgw; cases n <;> simp <;> omega
  have sb2 : -4294967295 ≤ N * G ∧ N * G ≤ 4294967295 := by rw [← hnear]; unfold sgw; cases m <;> simp <;> omega
  have HFG : Hid (e + sgw n x = F * G) := hfar
  have HWR : Hid (IntKind.i64.wrap (IntKind.i64.wrap e + sgw n x) = F * G) := by
    show _ = _
    rw [wrapJ (x := e) (by omega) (by omega), wrapJ (by omega) (by omega)]
    exact hfar
  have far1 : 1 ≤ F * (G : Int) := by
    have : 1 * 1 ≤ F * (G : Int) := Int.mul_le_mul f0 (by omega) (by decide) (by omega)
    omega
  have near0 : N * (G : Int) ≠ 0 := Int.mul_ne_zero n0 (by omega)
  have far2 : F * (G : Int) ≤ 8589934590 := by omega
  have HZS := hid (fun V => osize_any (N * G) V (by omega) (by omega))
  have HCD : Hid (∀ V : World, Calls Tryz.prog 12 #[.int .i64 (F * G), .int .i64 ((N * G).natAbs : Int)] V fun r w' => r = .returned (.int .i64 (G : Int)) ∧ Below V.heap.size V w') := fun V => by
    have q := ocommon_any (F * G).toNat (N * G).natAbs V (by omega) (by omega)
    rw [hg, show (((F * (G : Int)).toNat : Nat) : Int) = F * G by omega] at q
    exact q
  have t1 : Int.tdiv (F * G) (G : Int) = F := Int.mul_tdiv_cancel _ (by omega)
  have t2 : Int.tdiv (N * G) (G : Int) = N := Int.mul_tdiv_cancel _ (by omega)
  have G0 : (G : Int) ≠ 0 := by omega
  have d1 : decide (F * (G : Int) < 1) = false := decide_eq_false (by omega)
  have d2 : (N * (G : Int) == 0) = false := by simp only [beq_eq_false_iff_ne]; exact near0
  have d3 : decide ((1000 : Int) < F) = true := decide_eq_true f1
  clear sx sy su hfar hnear hg hce hlt
  go_enter Tryz.func16, Tryz.ntmps16
  go_wp2_with fail
  clear hX hY k0 k1 k2 k3 k4 k5
  go_loopw [23] (fun t wr => ∃ k : Nat, k ≤ 4 ∧ t = .int .i64 (k : Int) ∧ wr = Y) (fun t _ => 4 - (intOf t).toNat)
  case atStart => exact ⟨0, by omega, rfl, rfl⟩
  case round =>
    obtain ⟨k, hk, rfl, rfl⟩ := hrel
    have r0 : wr.cell? ⟨X.heap.size, 0, none⟩ = some (.slice a 1 ca) := HYR.out.cell 0
    have r1 : wr.cell? ⟨X.heap.size, 1, none⟩ = some (.slice (some ⟨bb, bo, none⟩) 1 cb) := HYR.out.cell 1
    have r2 : wr.cell? ⟨X.heap.size, 2, none⟩ = some (.slice c 1 cc) := HYR.out.cell 2
    have r3 : wr.cell? ⟨X.heap.size, 3, none⟩ = some (.slice d 1 cd) := HYR.out.cell 3
    have hkk : k = 0 ∨ k = 1 ∨ k = 2 ∨ k = 3 ∨ k = 4 := by omega
    rcases hkk with rfl | rfl | rfl | rfl | rfl
    case inl =>
      go_wp2_with fail
      go_roundw
      case rel => exact ⟨1, by omega, rfl, by first | rfl | trivial⟩
      case measure => simp [intOf]
    case inr.inl =>
      go_wp2_with fail
      go_roundw
      case rel => exact ⟨2, by omega, rfl, by first | rfl | trivial⟩
      case measure => simp [intOf]
    case inr.inr.inl =>
      go_wp2_with fail
      go_roundw
      case rel => exact ⟨3, by omega, rfl, by first | rfl | trivial⟩
      case measure => simp [intOf]
    case inr.inr.inr.inl =>
      go_wp2_with fail
      go_roundw
      case rel => exact ⟨4, by omega, rfl, by first | rfl | trivial⟩
      case measure => simp [intOf]
    case inr.inr.inr.inr =>
      clear r0 r1 r2 r3 hk
      have hd0 := hid (Below.refl wr.heap.size wr).drew
      have hs0 := And.intro (HE.out _ hd0.out) (HK.out _ hd0.out)
      go_wp2_with fail
      go_region_held3 (fun V : World => V.cell? ⟨bb, bo, none⟩ = some (.int .u32 e) ∧ V.cell? ⟨w.heap.size, 0, none⟩ = some (.bool n) ∧ V.cell? ⟨w.heap.size, 1, none⟩ = some (.slice a 1 ca) ∧ V.cell? ⟨w.heap.size, 2, none⟩ = some (.slice (some ⟨bb, bo, none⟩) 1 cb) ∧ V.cell? ⟨w.heap.size, 3, none⟩ = some (.bool m) ∧ V.cell? ⟨w.heap.size, 4, none⟩ = some (.slice c 1 cc) ∧ V.cell? ⟨w.heap.size, 5, none⟩ = some (.slice d 1 cd)) (first | exact hs1 | exact hs0)
        (first | (go_at_call 28; (with_reducible refine Calls.mono (HS1.out _ hd0.out) ?_); rintro r w1 ⟨rfl, hb1⟩; have hbA := hid (bt hd0.out hb1.out); have hs1 := And.intro (HE.out _ hbA.out) (HK.out _ hbA.out)))
      rw [HWR.out]
      have HBA := hid hbA.out
      have HD2 := hid (HS2.out w1 HBA.out)
      obtain ⟨j0, j1, j2, j3, j4, j5⟩ := HK.out _ HBA.out
      clear hs0 hs1 hd0 hb1 hbA HS1 HS2 HE
      go_wp2_with fail
      refine Calls.mono HD2.out ?_
      rintro r w2 ⟨rfl, hb2⟩
      have HB2 := hid (bt HBA.out hb2)
      clear HD2 hb2 j0 j1 j2 j3 j4 j5
      have HD3 := hid (HZS.out w2)
      go_wp2_with fail
      refine Calls.mono HD3.out ?_
      rintro r w3 ⟨rfl, rfl⟩
      clear HD3
      have HD4 := hid (HCD.out w3)
      go_wp2_with fail
      refine Calls.mono HD4.out ?_
      rintro r w4 ⟨rfl, hb4⟩
      have HB4 := hid (bt HB2.out hb4)
      clear HD4 hb4 HZS HCD
      go_wp2_with fail
      go_quiet (fail)
      have HB5 : Hid (Below wr.heap.size wr (w4.drewN nq)) := bdrewN HB4.out nq
      generalize w4.drewN nq = V5 at *
      have HZ9 := hid (HZ.out.later (bt HYB.out HB5.out) HZ.out.lt)
      have z0 : V5.cell? ⟨w.heap.size + 1, 0, none⟩ = some (.int .i32 0) := HZ9.out.cell 0
      have z1 : V5.cell? ⟨w.heap.size + 1, 1, none⟩ = some (.int .i32 0) := HZ9.out.cell 1
      have zf0 := HZ9.out.free 0
      have zf1 := HZ9.out.free 1
      go_wp2_with fail
      have BX : Box ((V5.setCell ⟨w.heap.size + 1, 0, none⟩ (.int .i32 0)).setCell ⟨w.heap.size + 1, 1, none⟩ (.int .i32 0)) (w.heap.size + 1) 23 #[.int .i32 0, .int .i32 0] := (HZ9.out.set 0 _).set 1 _
      refine bodyPost_ret (rores_run (by rfl) BX _ (by rfl)) rfl ?_
      exact ⟨rfl, ((bt HB.out (bt HYB.out HB5.out)).setCell (p := ⟨w.heap.size + 1, 0, none⟩) (by show w.heap.size ≤ w.heap.size + 1; omega) _).setCell (p := ⟨w.heap.size + 1, 1, none⟩) (by show w.heap.size ≤ w.heap.size + 1; omega) _⟩
set_option maxHeartbeats 6400000 in
set_option maxRecDepth 100000 in
theorem ocand_4 (n m : Bool) (a b c d : Option Addr) (ca cb cc cd : Nat) (x e y v F N : Int) (G : Nat) (w : World) (sx : Sl w (.slice a 1 ca) [x]) (sy : Sl w (.slice b 1 cb) [e]) (su : Sl w (.slice c 1 cc) [y]) (hfar : e + sgw n x = F * G) (hnear : sgw m y = N * G) (hg : Nat.gcd (F * G).toNat (N * G).natAbs = G) (f0 : 1 ≤ F) (f1 : F ≤ 1000) (n0 : N ≠ 0) (n1 : 1000 < N.natAbs) (n2 : N.natAbs ≤ 4294967295) (hG : 0 < G) :
    Calls Tryz.prog 16 #[.agg #[.bool n, .slice a 1 ca, .slice b 1 cb, .bool m, .slice c 1 cc, .slice d 1 cd]] w fun r w' => r = .returned (.tuple #[.agg #[.int .i32 0, .int .i32 0], .bool false]) ∧ Below w.heap.size w w' := by
  obtain ⟨bb, bo, hbb, hlt, hce, e0, e1⟩ := sl_one sy
  have x01 := sl_bd sx
  have y01 := sl_bd su
  subst hbb
  obtain ⟨X, hX⟩ : ∃ X, (w.alloc (.cells #[.bool n, .slice a 1 ca, .slice (some ⟨bb, bo, none⟩) 1 cb, .bool m, .slice c 1 cc, .slice d 1 cd] 31)).alloc (.cells #[.int .i32 0, .int .i32 0] 23) = X := ⟨_, rfl⟩
  have HB : Hid (Below w.heap.size w X) := by rw [← hX]; exact bt (alloc_later _ _) (alloc_later _ _)
  have HR : Hid (Box X w.heap.size 31 #[.bool n, .slice a 1 ca, .slice (some ⟨bb, bo, none⟩) 1 cb, .bool m, .slice c 1 cc, .slice d 1 cd]) := by rw [← hX]; exact (Box.made w _ _).later (alloc_later _ _) (Box.made w _ _).lt
  have HZ : Hid (Box X (w.heap.size + 1) 23 #[.int .i32 0, .int .i32 0]) := by
    have q := Box.made (w.alloc (.cells #[.bool n, .slice a 1 ca, .slice (some ⟨bb, bo, none⟩) 1 cb, .bool m, .slice c 1 cc, .slice d 1 cd] 31)) 23 #[.int .i32 0, .int .i32 0]
    rw [show (w.alloc (.cells #[.bool n, .slice a 1 ca, .slice (some ⟨bb, bo, none⟩) 1 cb, .bool m, .slice c 1 cc, .slice d 1 cd] 31)).heap.size = w.heap.size + 1 by simp, hX] at q
    exact q
  obtain ⟨Y, hY⟩ : ∃ Y, X.alloc (.cells #[.slice a 1 ca, .slice (some ⟨bb, bo, none⟩) 1 cb, .slice c 1 cc, .slice d 1 cd] 27) = Y := ⟨_, rfl⟩
  have HYB : Hid (Below X.heap.size X Y) := by rw [← hY]; exact alloc_later _ _
  have HYR : Hid (Box Y X.heap.size 27 #[.slice a 1 ca, .slice (some ⟨bb, bo, none⟩) 1 cb, .slice c 1 cc, .slice d 1 cd]) := by rw [← hY]; exact Box.made X _ _
  have k0 : X.cell? ⟨w.heap.size, 0, none⟩ = some (.bool n) := HR.out.cell 0
  have k1 : X.cell? ⟨w.heap.size, 1, none⟩ = some (.slice a 1 ca) := HR.out.cell 1
  have k2 : X.cell? ⟨w.heap.size, 2, none⟩ = some (.slice (some ⟨bb, bo, none⟩) 1 cb) := HR.out.cell 2
  have k3 : X.cell? ⟨w.heap.size, 3, none⟩ = some (.bool m) := HR.out.cell 3
  have k4 : X.cell? ⟨w.heap.size, 4, none⟩ = some (.slice c 1 cc) := HR.out.cell 4
  have k5 : X.cell? ⟨w.heap.size, 5, none⟩ = some (.slice d 1 cd) := HR.out.cell 5
  have HK : Hid (∀ V, Below Y.heap.size Y V → V.cell? ⟨w.heap.size, 0, none⟩ = some (.bool n) ∧ V.cell? ⟨w.heap.size, 1, none⟩ = some (.slice a 1 ca) ∧ V.cell? ⟨w.heap.size, 2, none⟩ = some (.slice (some ⟨bb, bo, none⟩) 1 cb) ∧ V.cell? ⟨w.heap.size, 3, none⟩ = some (.bool m) ∧ V.cell? ⟨w.heap.size, 4, none⟩ = some (.slice c 1 cc) ∧ V.cell? ⟨w.heap.size, 5, none⟩ = some (.slice d 1 cd)) := fun V hv => by
    have q := HR.out.later (bt HYB.out hv) HR.out.lt
    exact ⟨q.cell 0, q.cell 1, q.cell 2, q.cell 3, q.cell 4, q.cell 5⟩
  have HS1 : Hid (∀ V, Below Y.heap.size Y V → Calls Tryz.prog 28 #[.agg #[.bool n, .slice a 1 ca, .slice (some ⟨bb, bo, none⟩) 1 cb]] V fun r w' => r = .returned (.int .i64 (sgw n x)) ∧ Hid (Below V.heap.size V w')) := fun V hv => osigned_any n a ca x _ 1 cb V (sx.later (bt (bt HB.out HYB.out) hv))
  have HS2 : Hid (∀ V, Below Y.heap.size Y V → Calls Tryz.prog 28 #[.agg #[.bool m, .slice c 1 cc, .slice d 1 cd]] V fun r w' => r = .returned (.int .i64 (N * G)) ∧ Below V.heap.size V w') := fun V hv => by
    have q := osigned_any m c cc y d 1 cd V (su.later (bt (bt HB.out HYB.out) hv))
    rw [hnear] at q
    exact q
  have HE : Hid (∀ V, Below Y.heap.size Y V → V.cell? ⟨bb, bo, none⟩ = some (.int .u32 e)) := fun V hv => ((bt (bt HB.out HYB.out) hv).cell (p := ⟨bb, bo, none⟩) hlt).trans hce
  have sb : -4294967295 ≤ sgw n x ∧ sgw n x ≤ 4294967295 := by unfold sgw; cases n <;> simp <;> omega
  have sb2 : -4294967295 ≤ N * G ∧ N * G ≤ 4294967295 := by rw [← hnear]; unfold sgw; cases m <;> simp <;> omega
  have HFG : Hid (e + sgw n x = F * G) := hfar
  have HWR : Hid (IntKind.i64.wrap (IntKind.i64.wrap e + sgw n x) = F * G) := by
    show _ = _
    rw [wrapJ (x := e) (by omega) (by omega), wrapJ (by omega) (by omega)]
    exact hfar
  have far1 : 1 ≤ F * (G : Int) := by
    have : 1 * 1 ≤ F * (G : Int) := Int.mul_le_mul f0 (by omega) (by decide) (by omega)
    omega
  have near0 : N * (G : Int) ≠ 0 := Int.mul_ne_zero n0 (by omega)
  have far2 : F * (G : Int) ≤ 8589934590 := by omega
  have HZS := hid (fun V => osize_any (N * G) V (by omega) (by omega))
  have HCD : Hid (∀ V : World, Calls Tryz.prog 12 #[.int .i64 (F * G), .int .i64 ((N * G).natAbs : Int)] V fun r w' => r = .returned (.int .i64 (G : Int)) ∧ Below V.heap.size V w') := fun V => by
    have q := ocommon_any (F * G).toNat (N * G).natAbs V (by omega) (by omega)
    rw [hg, show (((F * (G : Int)).toNat : Nat) : Int) = F * G by omega] at q
    exact q
  have HZT := hid (fun V => osize_any N V (by omega) (by omega))
  have t1 : Int.tdiv (F * G) (G : Int) = F := Int.mul_tdiv_cancel _ (by omega)
  have t2 : Int.tdiv (N * G) (G : Int) = N := Int.mul_tdiv_cancel _ (by omega)
  have G0 : (G : Int) ≠ 0 := by omega
  have d1 : decide (F * (G : Int) < 1) = false := decide_eq_false (by omega)
  have d2 : (N * (G : Int) == 0) = false := by simp only [beq_eq_false_iff_ne]; exact near0
  have d3 : decide ((1000 : Int) < F) = false := decide_eq_false (by omega)
  have d4 : decide ((1000 : Int) < (N.natAbs : Int)) = true := decide_eq_true (by omega)
  clear sx sy su hfar hnear hg hce hlt
  go_enter Tryz.func16, Tryz.ntmps16
  go_wp2_with fail
  clear hX hY k0 k1 k2 k3 k4 k5
  go_loopw [23] (fun t wr => ∃ k : Nat, k ≤ 4 ∧ t = .int .i64 (k : Int) ∧ wr = Y) (fun t _ => 4 - (intOf t).toNat)
  case atStart => exact ⟨0, by omega, rfl, rfl⟩
  case round =>
    obtain ⟨k, hk, rfl, rfl⟩ := hrel
    have r0 : wr.cell? ⟨X.heap.size, 0, none⟩ = some (.slice a 1 ca) := HYR.out.cell 0
    have r1 : wr.cell? ⟨X.heap.size, 1, none⟩ = some (.slice (some ⟨bb, bo, none⟩) 1 cb) := HYR.out.cell 1
    have r2 : wr.cell? ⟨X.heap.size, 2, none⟩ = some (.slice c 1 cc) := HYR.out.cell 2
    have r3 : wr.cell? ⟨X.heap.size, 3, none⟩ = some (.slice d 1 cd) := HYR.out.cell 3
    have hkk : k = 0 ∨ k = 1 ∨ k = 2 ∨ k = 3 ∨ k = 4 := by omega
    rcases hkk with rfl | rfl | rfl | rfl | rfl
    case inl =>
      go_wp2_with fail
      go_roundw
      case rel => exact ⟨1, by omega, rfl, by first | rfl | trivial⟩
      case measure => simp [intOf]
    case inr.inl =>
      go_wp2_with fail
      go_roundw
      case rel => exact ⟨2, by omega, rfl, by first | rfl | trivial⟩
      case measure => simp [intOf]
    case inr.inr.inl =>
      go_wp2_with fail
      go_roundw
      case rel => exact ⟨3, by omega, rfl, by first | rfl | trivial⟩
      case measure => simp [intOf]
    case inr.inr.inr.inl =>
      go_wp2_with fail
      go_roundw
      case rel => exact ⟨4, by omega, rfl, by first | rfl | trivial⟩
      case measure => simp [intOf]
    case inr.inr.inr.inr =>
      clear r0 r1 r2 r3 hk
      have hd0 := hid (Below.refl wr.heap.size wr).drew
      have hs0 := And.intro (HE.out _ hd0.out) (HK.out _ hd0.out)
      go_wp2_with fail
      go_region_held3 (fun V : World => V.cell? ⟨bb, bo, none⟩ = some (.int .u32 e) ∧ V.cell? ⟨w.heap.size, 0, none⟩ = some (.bool n) ∧ V.cell? ⟨w.heap.size, 1, none⟩ = some (.slice a 1 ca) ∧ V.cell? ⟨w.heap.size, 2, none⟩ = some (.slice (some ⟨bb, bo, none⟩) 1 cb) ∧ V.cell? ⟨w.heap.size, 3, none⟩ = some (.bool m) ∧ V.cell? ⟨w.heap.size, 4, none⟩ = some (.slice c 1 cc) ∧ V.cell? ⟨w.heap.size, 5, none⟩ = some (.slice d 1 cd)) (first | exact hs1 | exact hs0)
        (first | (go_at_call 28; (with_reducible refine Calls.mono (HS1.out _ hd0.out) ?_); rintro r w1 ⟨rfl, hb1⟩; have hbA := hid (bt hd0.out hb1.out); have hs1 := And.intro (HE.out _ hbA.out) (HK.out _ hbA.out)))
      rw [HWR.out]
      have HBA := hid hbA.out
      have HD2 := hid (HS2.out w1 HBA.out)
      obtain ⟨j0, j1, j2, j3, j4, j5⟩ := HK.out _ HBA.out
      clear hs0 hs1 hd0 hb1 hbA HS1 HS2 HE
      go_wp2_with fail
      refine Calls.mono HD2.out ?_
      rintro r w2 ⟨rfl, hb2⟩
      have HB2 := hid (bt HBA.out hb2)
      clear HD2 hb2 j0 j1 j2 j3 j4 j5
      have HD3 := hid (HZS.out w2)
      go_wp2_with fail
      refine Calls.mono HD3.out ?_
      rintro r w3 ⟨rfl, rfl⟩
      clear HD3
      have HD4 := hid (HCD.out w3)
      go_wp2_with fail
      refine Calls.mono HD4.out ?_
      rintro r w4 ⟨rfl, hb4⟩
      have HB4 := hid (bt HB2.out hb4)
      clear HD4 hb4 HZS HCD
      go_wp2_with fail
      go_quiet (fail)
      have HB5 : Hid (Below wr.heap.size wr (w4.drewN nq)) := bdrewN HB4.out nq
      generalize w4.drewN nq = V5 at *
      have HD5 := hid (HZT.out V5)
      go_wp2_with fail
      refine Calls.mono HD5.out ?_
      rintro r w6 ⟨rfl, rfl⟩
      clear HD5
      have HZ9 := hid (HZ.out.later (bt HYB.out HB5.out) HZ.out.lt)
      have z0 : w6.cell? ⟨w.heap.size + 1, 0, none⟩ = some (.int .i32 0) := HZ9.out.cell 0
      have z1 : w6.cell? ⟨w.heap.size + 1, 1, none⟩ = some (.int .i32 0) := HZ9.out.cell 1
      have zf0 := HZ9.out.free 0
      have zf1 := HZ9.out.free 1
      go_wp2_with fail
      have BX : Box ((w6.setCell ⟨w.heap.size + 1, 0, none⟩ (.int .i32 0)).setCell ⟨w.heap.size + 1, 1, none⟩ (.int .i32 0)) (w.heap.size + 1) 23 #[.int .i32 0, .int .i32 0] := (HZ9.out.set 0 _).set 1 _
      refine bodyPost_ret (rores_run (by rfl) BX _ (by rfl)) rfl ?_
      exact ⟨rfl, ((bt HB.out (bt HYB.out HB5.out)).setCell (p := ⟨w.heap.size + 1, 0, none⟩) (by show w.heap.size ≤ w.heap.size + 1; omega) _).setCell (p := ⟨w.heap.size + 1, 1, none⟩) (by show w.heap.size ≤ w.heap.size + 1; omega) _⟩

set_option maxHeartbeats 6400000 in
set_option maxRecDepth 100000 in
theorem ocand_0 (n m : Bool) (a b c d : Option Addr) (ca cb cc cd : Nat) (xs ys us vs : List Int) (w : World) (h : ¬ (xs.length = 1 ∧ ys.length = 1 ∧ us.length = 1 ∧ vs.length = 1)) :
    Calls Tryz.prog 16 #[.agg #[.bool n, .slice a xs.length ca, .slice b ys.length cb, .bool m, .slice c us.length cc, .slice d vs.length cd]] w fun r w' => r = .returned (.tuple #[.agg #[.int .i32 0, .int .i32 0], .bool false]) ∧ Below w.heap.size w w' := by
  obtain ⟨X, hX⟩ : ∃ X, (w.alloc (.cells #[.bool n, .slice a xs.length ca, .slice b ys.length cb, .bool m, .slice c us.length cc, .slice d vs.length cd] 31)).alloc (.cells #[.int .i32 0, .int .i32 0] 23) = X := ⟨_, rfl⟩
  have HB : Hid (Below w.heap.size w X) := by rw [← hX]; exact bt (alloc_later _ _) (alloc_later _ _)
  have HR : Hid (Box X w.heap.size 31 #[.bool n, .slice a xs.length ca, .slice b ys.length cb, .bool m, .slice c us.length cc, .slice d vs.length cd]) := by rw [← hX]; exact (Box.made w _ _).later (alloc_later _ _) (Box.made w _ _).lt
  have HZ : Hid (Box X (w.heap.size + 1) 23 #[.int .i32 0, .int .i32 0]) := by
    have q := Box.made (w.alloc (.cells #[.bool n, .slice a xs.length ca, .slice b ys.length cb, .bool m, .slice c us.length cc, .slice d vs.length cd] 31)) 23 #[.int .i32 0, .int .i32 0]
    rw [show (w.alloc (.cells #[.bool n, .slice a xs.length ca, .slice b ys.length cb, .bool m, .slice c us.length cc, .slice d vs.length cd] 31)).heap.size = w.heap.size + 1 by simp, hX] at q
    exact q
  obtain ⟨Y, hY⟩ : ∃ Y, X.alloc (.cells #[.slice a xs.length ca, .slice b ys.length cb, .slice c us.length cc, .slice d vs.length cd] 27) = Y := ⟨_, rfl⟩
  have HYB : Hid (Below X.heap.size X Y) := by rw [← hY]; exact alloc_later _ _
  have HYR : Hid (Box Y X.heap.size 27 #[.slice a xs.length ca, .slice b ys.length cb, .slice c us.length cc, .slice d vs.length cd]) := by rw [← hY]; exact Box.made X _ _
  have k1 : X.cell? ⟨w.heap.size, 1, none⟩ = some (.slice a xs.length ca) := HR.out.cell 1
  have k2 : X.cell? ⟨w.heap.size, 2, none⟩ = some (.slice b ys.length cb) := HR.out.cell 2
  have k4 : X.cell? ⟨w.heap.size, 4, none⟩ = some (.slice c us.length cc) := HR.out.cell 4
  have k5 : X.cell? ⟨w.heap.size, 5, none⟩ = some (.slice d vs.length cd) := HR.out.cell 5
  have HY0 := hid (Below.refl Y.heap.size Y)
  have HH := hid h
  clear h
  go_enter Tryz.func16, Tryz.ntmps16
  go_wp2_with fail
  clear hX hY k1 k2 k4 k5
  go_loopw [23] (fun t wr => ∃ k : Nat, k ≤ 4 ∧ t = .int .i64 (k : Int) ∧ wr = Y ∧ Hid ((0 < k → xs.length = 1) ∧ (1 < k → ys.length = 1) ∧ (2 < k → us.length = 1) ∧ (3 < k → vs.length = 1))) (fun t _ => 4 - (intOf t).toNat)
  case atStart => exact ⟨0, by omega, rfl, rfl, ⟨by omega, by omega, by omega, by omega⟩⟩
  case round =>
    obtain ⟨k, hk, rfl, rfl, HI⟩ := hrel
    have r0 : wr.cell? ⟨X.heap.size, 0, none⟩ = some (.slice a xs.length ca) := HYR.out.cell 0
    have r1 : wr.cell? ⟨X.heap.size, 1, none⟩ = some (.slice b ys.length cb) := HYR.out.cell 1
    have r2 : wr.cell? ⟨X.heap.size, 2, none⟩ = some (.slice c us.length cc) := HYR.out.cell 2
    have r3 : wr.cell? ⟨X.heap.size, 3, none⟩ = some (.slice d vs.length cd) := HYR.out.cell 3
    have hkk : k = 0 ∨ k = 1 ∨ k = 2 ∨ k = 3 ∨ k = 4 := by omega
    rcases hkk with rfl | rfl | rfl | rfl | rfl
    case inl =>
      by_cases hl : xs.length = 1
      · have HI2 := hid hl
        have dl : ((xs.length : Int) != 1) = false := by simp [hl]
        clear hl
        go_wp2_with fail
        go_roundw
        case rel => exact ⟨1, by omega, rfl, by first | rfl | trivial, by have h := HI.out; have h2 := HI2.out; exact ⟨by omega, by omega, by omega, by omega⟩⟩
        case measure => simp [intOf]
      · have dl : ((xs.length : Int) != 1) = true := by simp; omega
        clear hl
        have HZ9 := hid (HZ.out.later (bt HYB.out HY0.out) HZ.out.lt)
        have z0 : wr.cell? ⟨w.heap.size + 1, 0, none⟩ = some (.int .i32 0) := HZ9.out.cell 0
        have z1 : wr.cell? ⟨w.heap.size + 1, 1, none⟩ = some (.int .i32 0) := HZ9.out.cell 1
        have zf0 := HZ9.out.free 0
        have zf1 := HZ9.out.free 1
        go_wp2_with fail
        have BX : Box ((wr.setCell ⟨w.heap.size + 1, 0, none⟩ (.int .i32 0)).setCell ⟨w.heap.size + 1, 1, none⟩ (.int .i32 0)) (w.heap.size + 1) 23 #[.int .i32 0, .int .i32 0] := (HZ9.out.set 0 _).set 1 _
        refine bodyPost_ret (rores_run (by rfl) BX _ (by rfl)) rfl ?_
        exact ⟨rfl, ((bt HB.out (bt HYB.out HY0.out)).setCell (p := ⟨w.heap.size + 1, 0, none⟩) (by show w.heap.size ≤ w.heap.size + 1; omega) _).setCell (p := ⟨w.heap.size + 1, 1, none⟩) (by show w.heap.size ≤ w.heap.size + 1; omega) _⟩
    case inr.inl =>
      by_cases hl : ys.length = 1
      · have HI2 := hid hl
        have dl : ((ys.length : Int) != 1) = false := by simp [hl]
        clear hl
        go_wp2_with fail
        go_roundw
        case rel => exact ⟨2, by omega, rfl, by first | rfl | trivial, by have h := HI.out; have h2 := HI2.out; exact ⟨by omega, by omega, by omega, by omega⟩⟩
        case measure => simp [intOf]
      · have dl : ((ys.length : Int) != 1) = true := by simp; omega
        clear hl
        have HZ9 := hid (HZ.out.later (bt HYB.out HY0.out) HZ.out.lt)
        have z0 : wr.cell? ⟨w.heap.size + 1, 0, none⟩ = some (.int .i32 0) := HZ9.out.cell 0
        have z1 : wr.cell? ⟨w.heap.size + 1, 1, none⟩ = some (.int .i32 0) := HZ9.out.cell 1
        have zf0 := HZ9.out.free 0
        have zf1 := HZ9.out.free 1
        go_wp2_with fail
        have BX : Box ((wr.setCell ⟨w.heap.size + 1, 0, none⟩ (.int .i32 0)).setCell ⟨w.heap.size + 1, 1, none⟩ (.int .i32 0)) (w.heap.size + 1) 23 #[.int .i32 0, .int .i32 0] := (HZ9.out.set 0 _).set 1 _
        refine bodyPost_ret (rores_run (by rfl) BX _ (by rfl)) rfl ?_
        exact ⟨rfl, ((bt HB.out (bt HYB.out HY0.out)).setCell (p := ⟨w.heap.size + 1, 0, none⟩) (by show w.heap.size ≤ w.heap.size + 1; omega) _).setCell (p := ⟨w.heap.size + 1, 1, none⟩) (by show w.heap.size ≤ w.heap.size + 1; omega) _⟩
    case inr.inr.inl =>
      by_cases hl : us.length = 1
      · have HI2 := hid hl
        have dl : ((us.length : Int) != 1) = false := by simp [hl]
        clear hl
        go_wp2_with fail
        go_roundw
        case rel => exact ⟨3, by omega, rfl, by first | rfl | trivial, by have h := HI.out; have h2 := HI2.out; exact ⟨by omega, by omega, by omega, by omega⟩⟩
        case measure => simp [intOf]
      · have dl : ((us.length : Int) != 1) = true := by simp; omega
        clear hl
        have HZ9 := hid (HZ.out.later (bt HYB.out HY0.out) HZ.out.lt)
        have z0 : wr.cell? ⟨w.heap.size + 1, 0, none⟩ = some (.int .i32 0) := HZ9.out.cell 0
        have z1 : wr.cell? ⟨w.heap.size + 1, 1, none⟩ = some (.int .i32 0) := HZ9.out.cell 1
        have zf0 := HZ9.out.free 0
        have zf1 := HZ9.out.free 1
        go_wp2_with fail
        have BX : Box ((wr.setCell ⟨w.heap.size + 1, 0, none⟩ (.int .i32 0)).setCell ⟨w.heap.size + 1, 1, none⟩ (.int .i32 0)) (w.heap.size + 1) 23 #[.int .i32 0, .int .i32 0] := (HZ9.out.set 0 _).set 1 _
        refine bodyPost_ret (rores_run (by rfl) BX _ (by rfl)) rfl ?_
        exact ⟨rfl, ((bt HB.out (bt HYB.out HY0.out)).setCell (p := ⟨w.heap.size + 1, 0, none⟩) (by show w.heap.size ≤ w.heap.size + 1; omega) _).setCell (p := ⟨w.heap.size + 1, 1, none⟩) (by show w.heap.size ≤ w.heap.size + 1; omega) _⟩
    case inr.inr.inr.inl =>
      by_cases hl : vs.length = 1
      · have HI2 := hid hl
        have dl : ((vs.length : Int) != 1) = false := by simp [hl]
        clear hl
        go_wp2_with fail
        go_roundw
        case rel => exact ⟨4, by omega, rfl, by first | rfl | trivial, by have h := HI.out; have h2 := HI2.out; exact ⟨by omega, by omega, by omega, by omega⟩⟩
        case measure => simp [intOf]
      · have dl : ((vs.length : Int) != 1) = true := by simp; omega
        clear hl
        have HZ9 := hid (HZ.out.later (bt HYB.out HY0.out) HZ.out.lt)
        have z0 : wr.cell? ⟨w.heap.size + 1, 0, none⟩ = some (.int .i32 0) := HZ9.out.cell 0
        have z1 : wr.cell? ⟨w.heap.size + 1, 1, none⟩ = some (.int .i32 0) := HZ9.out.cell 1
        have zf0 := HZ9.out.free 0
        have zf1 := HZ9.out.free 1
        go_wp2_with fail
        have BX : Box ((wr.setCell ⟨w.heap.size + 1, 0, none⟩ (.int .i32 0)).setCell ⟨w.heap.size + 1, 1, none⟩ (.int .i32 0)) (w.heap.size + 1) 23 #[.int .i32 0, .int .i32 0] := (HZ9.out.set 0 _).set 1 _
        refine bodyPost_ret (rores_run (by rfl) BX _ (by rfl)) rfl ?_
        exact ⟨rfl, ((bt HB.out (bt HYB.out HY0.out)).setCell (p := ⟨w.heap.size + 1, 0, none⟩) (by show w.heap.size ≤ w.heap.size + 1; omega) _).setCell (p := ⟨w.heap.size + 1, 1, none⟩) (by show w.heap.size ≤ w.heap.size + 1; omega) _⟩
    case inr.inr.inr.inr =>
      exfalso
      have h := HI.out
      exact HH.out ⟨h.1 (by omega), h.2.1 (by omega), h.2.2.1 (by omega), h.2.2.2 (by omega)⟩
/-- Whatever comes in, candidate answers. -/
theorem ocand_any (g : G6) (w : World) (sg : g.Sl4 w) :
    Calls Tryz.prog 16 #[.agg #[.bool g.n, .slice g.a g.xs.length g.ca, .slice g.b g.ys.length g.cb, .bool g.m, .slice g.c g.us.length g.cc, .slice g.d g.vs.length g.cd]] w fun r w' => ∃ F N ok, r = .returned (.tuple #[.agg #[.int .i32 F, .int .i32 N], .bool ok]) ∧ in32 F N ∧ (ok = false → F = 0 ∧ N = 0) ∧ (ok = true → g.xs.length = 1 ∧ g.ys.length = 1 ∧ g.us.length = 1 ∧ g.vs.length = 1) ∧ Below w.heap.size w w' := by
  obtain ⟨n, a, ca, xs, b, cb, ys, m, c, cc, us, d, cd, vs⟩ := g
  obtain ⟨sx, sy, su, sv⟩ := sg
  dsimp only at sx sy su sv ⊢
  have z : in32 0 0 := by unfold in32; omega
  by_cases h : xs.length = 1 ∧ ys.length = 1 ∧ us.length = 1 ∧ vs.length = 1
  · obtain ⟨h1, h2, h3, h4⟩ := h
    obtain ⟨x, rfl⟩ := List.length_eq_one_iff.1 h1
    obtain ⟨e, rfl⟩ := List.length_eq_one_iff.1 h2
    obtain ⟨y, rfl⟩ := List.length_eq_one_iff.1 h3
    obtain ⟨v, rfl⟩ := List.length_eq_one_iff.1 h4
    have x01 := sl_bd sx
    have y01 := sl_bd su
    have e01 := sl_bd sy
    have yb : (sgw m y).natAbs ≤ 4294967295 := by unfold sgw; cases m <;> simp <;> omega
    by_cases p1 : e + sgw n x < 1
    · refine Calls.mono (ocand_1 n m a b c d ca cb cc cd x e y v _ _ w sx sy su rfl rfl p1) ?_
      rintro r w' ⟨rfl, hb⟩
      exact ⟨0, 0, false, rfl, z, fun _ => ⟨rfl, rfl⟩, (fun h => by cases h), hb⟩
    · by_cases p2 : sgw m y = 0
      · refine Calls.mono (ocand_2 n m a b c d ca cb cc cd x e y v _ _ w sx sy su rfl rfl (by omega) p2) ?_
        rintro r w' ⟨rfl, hb⟩
        exact ⟨0, 0, false, rfl, z, fun _ => ⟨rfl, rfl⟩, (fun h => by cases h), hb⟩
      · obtain ⟨P, hP⟩ : ∃ P, e + sgw n x = P := ⟨_, rfl⟩
        obtain ⟨R, hR⟩ : ∃ R, sgw m y = R := ⟨_, rfl⟩
        rw [hP] at p1
        rw [hR] at p2 yb
        obtain ⟨G, hG⟩ : ∃ G, Nat.gcd P.toNat R.natAbs = G := ⟨_, rfl⟩
        have G0 : 0 < G := by rw [← hG]; exact Nat.gcd_pos_of_pos_left _ (by omega)
        have dP : (G : Int) ∣ P := by
          have q : G ∣ P.toNat := by rw [← hG]; exact Nat.gcd_dvd_left ..
          have := Int.natCast_dvd_natCast.2 q
          rwa [Int.toNat_of_nonneg (by omega)] at this
        have dR : (G : Int) ∣ R := by
          have q : G ∣ R.natAbs := by rw [← hG]; exact Nat.gcd_dvd_right ..
          exact Int.dvd_natAbs.1 (Int.natCast_dvd_natCast.2 q)
        obtain ⟨F, hF⟩ := dP
        obtain ⟨N, hN⟩ := dR
        have eP : P = F * G := by rw [hF, Int.mul_comm]
        have eR : R = N * G := by rw [hN, Int.mul_comm]
        have F1 : 1 ≤ F := by
          have q : 0 < F * (G : Int) := by omega
          rcases Int.lt_or_le 0 F with h | h
          · omega
          · have := Int.mul_nonpos_of_nonpos_of_nonneg h (show (0 : Int) ≤ G by omega)
            omega
        have N0 : N ≠ 0 := fun h => p2 (by rw [eR, h, Int.zero_mul])
        have NB : N.natAbs ≤ 4294967295 := by
          have q : R.natAbs = N.natAbs * G := by rw [eR, Int.natAbs_mul, Int.natAbs_natCast]
          have := Nat.mul_le_mul_left N.natAbs (show 1 ≤ G from G0)
          omega
        have xb : sgw n x ≤ 4294967295 := by unfold sgw; cases n <;> simp <;> omega
        have FB : F ≤ 8589934590 := by
          have := Int.mul_le_mul_of_nonneg_left (show (1 : Int) ≤ G by omega) (show (0 : Int) ≤ F by omega)
          omega
        rw [eP] at hP hG
        rw [eR] at hR hG
        by_cases p3 : 1000 < F
        · refine Calls.mono (ocand_3 n m a b c d ca cb cc cd x e y v F N G w sx sy su hP hR hG F1 p3 FB N0 NB G0) ?_
          rintro r w' ⟨rfl, hb⟩
          exact ⟨0, 0, false, rfl, z, fun _ => ⟨rfl, rfl⟩, (fun h => by cases h), hb⟩
        · by_cases p4 : 1000 < N.natAbs
          · refine Calls.mono (ocand_4 n m a b c d ca cb cc cd x e y v F N G w sx sy su hP hR hG F1 (by omega) N0 p4 NB G0) ?_
            rintro r w' ⟨rfl, hb⟩
            exact ⟨0, 0, false, rfl, z, fun _ => ⟨rfl, rfl⟩, (fun h => by cases h), hb⟩
          · refine Calls.mono (ocand_good n m a b c d ca cb cc cd x e y v F N G w sx sy su hP hR hG F1 (by omega) N0 (by omega) G0) ?_
            rintro r w' ⟨rfl, hb⟩
            exact ⟨F, N, true, rfl, by unfold in32; omega, (fun h => by cases h), fun _ => ⟨rfl, rfl, rfl, rfl⟩, hb⟩
  · refine Calls.mono (ocand_0 n m a b c d ca cb cc cd xs ys us vs w h) ?_
    rintro r w' ⟨rfl, hb⟩
    exact ⟨0, 0, false, rfl, z, fun _ => ⟨rfl, rfl⟩, (fun h => by cases h), hb⟩
end Go.Proofs.YtcjfbmehibhkbaaGreatDoor

/- No program: unlike rotors; their order. -/
namespace Go.Proofs.YtcjfbmehibhkbaaGreatDoor
set_option linter.unusedVariables false

theorem o_cross {f n g m : Int} (hf : rOK f n) (hg : rOK g m) (h : n * g = m * f) : f = g ∧ n = m := by
  obtain ⟨a1, _, _, _, _, a6⟩ := hf
  obtain ⟨b1, _, _, _, _, b6⟩ := hg
  have e := congrArg Int.natAbs h
  rw [Int.natAbs_mul, Int.natAbs_mul] at e
  have hfn : f.toNat = f.natAbs := by omega
  have hgn : g.toNat = g.natAbs := by omega
  rw [hfn] at a6
  rw [hgn] at b6
  have d1 : f.natAbs ∣ g.natAbs := Nat.Coprime.dvd_of_dvd_mul_left a6 ⟨m.natAbs, by rw [e, Nat.mul_comm]⟩
  have d2 : g.natAbs ∣ f.natAbs := Nat.Coprime.dvd_of_dvd_mul_left b6 ⟨n.natAbs, by rw [← e, Nat.mul_comm]⟩
  have e2 := Nat.dvd_antisymm d1 d2
  have e3 : f = g := by omega
  subst e3
  exact ⟨rfl, Int.eq_of_mul_eq_mul_right (by omega) h⟩
theorem o_inj {f n g m : Int} (hf : rOK f n) (hg : rOK g m) (h1 : Rat.divInt (oRe f n) (oNm f n) = Rat.divInt (oRe g m) (oNm g m)) (h2 : Rat.divInt (oIm f n) (oNm f n) = Rat.divInt (oIm g m) (oNm g m)) : f = g ∧ n = m := by
  have z : ∀ {f n : Int}, rOK f n → (Rat.divInt (oRe f n) (oNm f n)).num = oRe f n ∧ ((Rat.divInt (oRe f n) (oNm f n)).den : Int) = oNm f n ∧ (Rat.divInt (oIm f n) (oNm f n)).num = oIm f n := fun {f n} h => by
    have l := o_low h 1
    rw [zpow_one, Int.pow_one] at l
    obtain ⟨_, _, _, _, _, _, h5, _⟩ := o_parts h
    have a := fr_num (show 0 < oNm f n by omega) (show gcdI (oRe f n) (oNm f n) = 1 by unfold gcdI; rw [l.1]; rfl)
    have b := fr_num (show 0 < oNm f n by omega) (show gcdI (oIm f n) (oNm f n) = 1 by unfold gcdI; rw [l.2]; rfl)
    exact ⟨a.1, a.2, b.1⟩
  have p := z hf
  have q := z hg
  rw [h1] at p
  rw [h2] at p
  have e1 : oRe f n = oRe g m := by rw [← p.1, q.1]
  have e2 : oNm f n = oNm g m := by rw [← p.2.1, q.2.1]
  have e3 : oIm f n = oIm g m := by rw [← p.2.2, q.2.2]
  obtain ⟨e, he, _, a2, a3, _⟩ := o_parts hf
  obtain ⟨e', he', _, b2, b3, _⟩ := o_parts hg
  have c1 : e * (f * f) = e' * (g * g) := by omega
  have c2 : e * (f * n) = e' * (g * m) := by omega
  have c3 : e * e' * (f * g) * (n * g) = e * e' * (f * g) * (m * f) := by
    have q1 : e * (f * n) * (e' * (g * g)) = e' * (g * m) * (e * (f * f)) := by rw [c2, ← c1]
    grind
  have ne : e * e' * (f * g) ≠ 0 := by
    refine Int.mul_ne_zero (Int.mul_ne_zero (by omega) (by omega)) (Int.mul_ne_zero ?_ ?_)
    · have := hf.1; omega
    · have := hg.1; omega
  exact o_cross hf hg (Int.eq_of_mul_eq_mul_left ne c3)
end Go.Proofs.YtcjfbmehibhkbaaGreatDoor

/- gauss.Mul of numbers as letters; package rotor: one, times. (tools/mkrq3.py) -/
namespace Go.Proofs.YtcjfbmehibhkbaaGreatDoor
open Go.RowKit
set_option linter.unusedVariables false
set_option linter.unusedSimpArgs false

theorem o_div1 (x : Int) : Rat.divInt x 1 = (x : Rat) := by
  rw [Rat.divInt_eq_div]
  show (x : Rat) / (1 : Rat) = (x : Rat)
  grind
def o2 (k : Nat) : Nat := 2 ^ k
theorem o2_lt {m n : Nat} (h : m < n) : o2 m < o2 n := Nat.pow_lt_pow_right (by decide) h
theorem o2_mul (m n : Nat) : o2 m * o2 n = o2 (m + n) := (Nat.pow_add 2 m n).symm
theorem o2_wlim (k : Nat) : (4294967296 : Int) ^ k = ((o2 (32 * k) : Nat) : Int) := by
  unfold o2
  rw [Nat.pow_mul, Int.natCast_pow]
  rfl
/-- What is not long, for sure. -/
def oL : Nat := o2 60000
theorem oL_lt : (oL : Int) < wlim := by
  unfold wlim
  rw [o2_wlim]
  exact Int.ofNat_lt.2 (o2_lt (by decide))
theorem oint_short {x : Int} (h : x.natAbs < oL) : ¬ rlong (x : Rat) := by
  have e := oL_lt
  rintro (hh | hh)
  · rw [Rat.num_intCast] at hh; omega
  · rw [Rat.den_intCast] at hh
    have : (1 : Int) ≤ oL := by omega
    omega
/-- Products and sums of whole numbers that are not too long. -/
theorem omul_short {x y z t : Int} {B C : Nat} (hx : x.natAbs ≤ B) (hy : y.natAbs ≤ B) (hz : z.natAbs ≤ C) (ht : t.natAbs ≤ C) (hb : 2 * (B * C) < oL) : ¬ mlong (x : Rat) (y : Rat) (z : Rat) (t : Rat) := by
  have k : ∀ {a b : Int}, a.natAbs ≤ B → b.natAbs ≤ C → (a * b).natAbs ≤ B * C := fun ha hb => by rw [Int.natAbs_mul]; exact Nat.mul_le_mul ha hb
  have h1 := k hx hz
  have h2 := k hy ht
  have h3 := k hx ht
  have h4 := k hy hz
  unfold mlong
  rw [← Rat.intCast_mul, ← Rat.intCast_mul, ← Rat.intCast_mul, ← Rat.intCast_mul, ← Rat.intCast_sub, ← Rat.intCast_add]
  have s : ∀ {a : Int}, a.natAbs ≤ 2 * (B * C) → ¬ rlong (a : Rat) := fun ha => oint_short (by omega)
  rintro (((h | h) | h) | ((h | h) | h))
  · exact s (by omega) h
  · exact s (by omega) h
  · exact s (by omega) h
  · exact s (by omega) h
  · exact s (by omega) h
  · exact s (by omega) h

/-- gauss.Mul, as letters. -/
theorem oMul_any (g h : G6) (q1 q2 r1 r2 : Rat) (w : World) (sg : g.Sl4 w) (sh : h.Sl4 w) (ig : g.Is q1 q2) (ih : h.Is r1 r2) (hl : ¬ mlong q1 q2 r1 r2) :
    Calls Tryz.prog 36 #[.agg #[.bool g.n, .slice g.a g.xs.length g.ca, .slice g.b g.ys.length g.cb, .bool g.m, .slice g.c g.us.length g.cc, .slice g.d g.vs.length g.cd], .agg #[.bool h.n, .slice h.a h.xs.length h.ca, .slice h.b h.ys.length h.cb, .bool h.m, .slice h.c h.us.length h.cc, .slice h.d h.vs.length h.cd]] w fun e w' => ∃ k : G6, e = .returned (.tuple #[.agg #[.bool k.n, .slice k.a k.xs.length k.ca, .slice k.b k.ys.length k.cb, .bool k.m, .slice k.c k.us.length k.cc, .slice k.d k.vs.length k.cd], .int .i64 0]) ∧ Hid (k.Ow w' w.heap.size) ∧ Hid (k.Is (q1 * r1 - q2 * r2) (q1 * r2 + q2 * r1)) ∧ Hid (Below w.heap.size w w') := by
  refine Calls.mono (gMul_full g.n g.a g.ca g.xs g.b g.cb g.ys g.m g.c g.cc g.us g.d g.cd g.vs h.n h.a h.ca h.xs h.b h.cb h.ys h.m h.c h.cc h.us h.d h.cd h.vs w sg.1 sg.2.1 sg.2.2.1 sg.2.2.2 sh.1 sh.2.1 sh.2.2.1 sh.2.2.2) ?_
  rw [ig.chk, ih.chk, ig.1.2, ig.2.1.2, ih.1.2, ih.2.1.2]
  rintro e w' ⟨n, a, ca, xs, b, cb, ys, m, c, cc, us, d, cd, vs, code, rfl, ho, ht, hb⟩
  obtain ⟨hc, h1, h2⟩ := ht.good (by unfold fstE; rfl) hl
  subst hc
  exact ⟨⟨n, a, ca, xs, b, cb, ys, m, c, cc, us, d, cd, vs⟩, rfl, ho, ⟨h1, h2, ht.wd⟩, hb⟩

/-- A power in two pieces: its top, and what is under it. -/
def OPw (g h : G6) (z : Int × Int) (M : Int) : Prop := g.Is (z.1 : Rat) (z.2 : Rat) ∧ h.Is (M : Rat) ((0 : Int) : Rat)
def OPt (w : World) (z : Int × Int) (M : Int) (x : Ending) (w' : World) : Prop := ∃ g h : G6, x = .returned (.agg #[.bool g.n, .slice g.a g.xs.length g.ca, .slice g.b g.ys.length g.cb, .bool g.m, .slice g.c g.us.length g.cc, .slice g.d g.vs.length g.cd, .bool h.n, .slice h.a h.xs.length h.ca, .slice h.b h.ys.length h.cb, .bool h.m, .slice h.c h.us.length h.cc, .slice h.d h.vs.length h.cd]) ∧ Hid (g.Ow w' w.heap.size ∧ h.Ow w' w.heap.size) ∧ Hid (OPw g h z M) ∧ Hid (Below w.heap.size w w')

set_option maxHeartbeats 6400000 in
set_option maxRecDepth 100000 in
theorem otimes_any (g h g2 h2 : G6) (z z2 : Int × Int) (M M2 : Int) (w : World) (sg : g.Sl4 w) (sh : h.Sl4 w) (sg2 : g2.Sl4 w) (sh2 : h2.Sl4 w) (hp : OPw g h z M) (hp2 : OPw g2 h2 z2 M2) (B C : Nat) (b1 : z.1.natAbs ≤ B) (b2 : z.2.natAbs ≤ B) (b3 : M.natAbs ≤ B) (c1 : z2.1.natAbs ≤ C) (c2 : z2.2.natAbs ≤ C) (c3 : M2.natAbs ≤ C) (hb : 2 * (B * C) < oL) :
    Calls Tryz.prog 26 #[.agg #[.bool g.n, .slice g.a g.xs.length g.ca, .slice g.b g.ys.length g.cb, .bool g.m, .slice g.c g.us.length g.cc, .slice g.d g.vs.length g.cd, .bool h.n, .slice h.a h.xs.length h.ca, .slice h.b h.ys.length h.cb, .bool h.m, .slice h.c h.us.length h.cc, .slice h.d h.vs.length h.cd], .agg #[.bool g2.n, .slice g2.a g2.xs.length g2.ca, .slice g2.b g2.ys.length g2.cb, .bool g2.m, .slice g2.c g2.us.length g2.cc, .slice g2.d g2.vs.length g2.cd, .bool h2.n, .slice h2.a h2.xs.length h2.ca, .slice h2.b h2.ys.length h2.cb, .bool h2.m, .slice h2.c h2.us.length h2.cc, .slice h2.d h2.vs.length h2.cd]] w (OPt w (zmul z z2) (M * M2)) := by
  have hl1 := omul_short b1 b2 c1 c2 hb
  have hl2 : ¬ mlong (M : Rat) ((0 : Int) : Rat) (M2 : Rat) ((0 : Int) : Rat) := omul_short b3 (Nat.zero_le _) c3 (Nat.zero_le _) hb
  clear b1 b2 b3 c1 c2 c3 hb
  obtain ⟨X, hX⟩ : ∃ X, ((w.alloc (.cells #[.bool g.n, .slice g.a g.xs.length g.ca, .slice g.b g.ys.length g.cb, .bool g.m, .slice g.c g.us.length g.cc, .slice g.d g.vs.length g.cd, .bool h.n, .slice h.a h.xs.length h.ca, .slice h.b h.ys.length h.cb, .bool h.m, .slice h.c h.us.length h.cc, .slice h.d h.vs.length h.cd] 45)).alloc (.cells #[.bool g2.n, .slice g2.a g2.xs.length g2.ca, .slice g2.b g2.ys.length g2.cb, .bool g2.m, .slice g2.c g2.us.length g2.cc, .slice g2.d g2.vs.length g2.cd, .bool h2.n, .slice h2.a h2.xs.length h2.ca, .slice h2.b h2.ys.length h2.cb, .bool h2.m, .slice h2.c h2.us.length h2.cc, .slice h2.d h2.vs.length h2.cd] 45)).alloc (.cells #[.bool false, .slice none 0 0, .slice none 0 0, .bool false, .slice none 0 0, .slice none 0 0, .bool false, .slice none 0 0, .slice none 0 0, .bool false, .slice none 0 0, .slice none 0 0] 45) = X := ⟨_, rfl⟩
  have HX := hid (boxes3r w 45 #[.bool g.n, .slice g.a g.xs.length g.ca, .slice g.b g.ys.length g.cb, .bool g.m, .slice g.c g.us.length g.cc, .slice g.d g.vs.length g.cd, .bool h.n, .slice h.a h.xs.length h.ca, .slice h.b h.ys.length h.cb, .bool h.m, .slice h.c h.us.length h.cc, .slice h.d h.vs.length h.cd] #[.bool g2.n, .slice g2.a g2.xs.length g2.ca, .slice g2.b g2.ys.length g2.cb, .bool g2.m, .slice g2.c g2.us.length g2.cc, .slice g2.d g2.vs.length g2.cd, .bool h2.n, .slice h2.a h2.xs.length h2.ca, .slice h2.b h2.ys.length h2.cb, .bool h2.m, .slice h2.c h2.us.length h2.cc, .slice h2.d h2.vs.length h2.cd] #[.bool false, .slice none 0 0, .slice none 0 0, .bool false, .slice none 0 0, .slice none 0 0, .bool false, .slice none 0 0, .slice none 0 0, .bool false, .slice none 0 0, .slice none 0 0])
  rw [hX] at HX
  have HM1 : Hid (∀ V, Below X.heap.size X V → Calls Tryz.prog 36 #[.agg #[.bool g.n, .slice g.a g.xs.length g.ca, .slice g.b g.ys.length g.cb, .bool g.m, .slice g.c g.us.length g.cc, .slice g.d g.vs.length g.cd], .agg #[.bool g2.n, .slice g2.a g2.xs.length g2.ca, .slice g2.b g2.ys.length g2.cb, .bool g2.m, .slice g2.c g2.us.length g2.cc, .slice g2.d g2.vs.length g2.cd]] V fun e w' => ∃ k : G6, e = .returned (.tuple #[.agg #[.bool k.n, .slice k.a k.xs.length k.ca, .slice k.b k.ys.length k.cb, .bool k.m, .slice k.c k.us.length k.cc, .slice k.d k.vs.length k.cd], .int .i64 0]) ∧ Hid (k.Ow w' V.heap.size) ∧ Hid (k.Is ((z.1 : Rat) * z2.1 - z.2 * z2.2) ((z.1 : Rat) * z2.2 + z.2 * z2.1)) ∧ Hid (Below V.heap.size V w')) := fun V hv => oMul_any g g2 _ _ _ _ V (sg.later (bt HX.out.2.2.2 hv)) (sg2.later (bt HX.out.2.2.2 hv)) hp.1 hp2.1 hl1
  have HM2 : Hid (∀ V, Below X.heap.size X V → Calls Tryz.prog 36 #[.agg #[.bool h.n, .slice h.a h.xs.length h.ca, .slice h.b h.ys.length h.cb, .bool h.m, .slice h.c h.us.length h.cc, .slice h.d h.vs.length h.cd], .agg #[.bool h2.n, .slice h2.a h2.xs.length h2.ca, .slice h2.b h2.ys.length h2.cb, .bool h2.m, .slice h2.c h2.us.length h2.cc, .slice h2.d h2.vs.length h2.cd]] V fun e w' => ∃ k : G6, e = .returned (.tuple #[.agg #[.bool k.n, .slice k.a k.xs.length k.ca, .slice k.b k.ys.length k.cb, .bool k.m, .slice k.c k.us.length k.cc, .slice k.d k.vs.length k.cd], .int .i64 0]) ∧ Hid (k.Ow w' V.heap.size) ∧ Hid (k.Is ((M : Rat) * M2 - ((0 : Int) : Rat) * ((0 : Int) : Rat)) ((M : Rat) * ((0 : Int) : Rat) + ((0 : Int) : Rat) * M2)) ∧ Hid (Below V.heap.size V w')) := fun V hv => oMul_any h h2 _ _ _ _ V (sh.later (bt HX.out.2.2.2 hv)) (sh2.later (bt HX.out.2.2.2 hv)) hp.2 hp2.2 hl2
  clear sg sh sg2 sh2 hp hp2 hl1 hl2
  have p0 : X.cell? ⟨w.heap.size, 0, none⟩ = some (.bool g.n) := (HX.out.1).cell 0
  have p1 : X.cell? ⟨w.heap.size, 1, none⟩ = some (.slice g.a g.xs.length g.ca) := (HX.out.1).cell 1
  have p2 : X.cell? ⟨w.heap.size, 2, none⟩ = some (.slice g.b g.ys.length g.cb) := (HX.out.1).cell 2
  have p3 : X.cell? ⟨w.heap.size, 3, none⟩ = some (.bool g.m) := (HX.out.1).cell 3
  have p4 : X.cell? ⟨w.heap.size, 4, none⟩ = some (.slice g.c g.us.length g.cc) := (HX.out.1).cell 4
  have p5 : X.cell? ⟨w.heap.size, 5, none⟩ = some (.slice g.d g.vs.length g.cd) := (HX.out.1).cell 5
  have s0 : X.cell? ⟨w.heap.size + 1, 0, none⟩ = some (.bool g2.n) := (HX.out.2.1).cell 0
  have s1 : X.cell? ⟨w.heap.size + 1, 1, none⟩ = some (.slice g2.a g2.xs.length g2.ca) := (HX.out.2.1).cell 1
  have s2 : X.cell? ⟨w.heap.size + 1, 2, none⟩ = some (.slice g2.b g2.ys.length g2.cb) := (HX.out.2.1).cell 2
  have s3 : X.cell? ⟨w.heap.size + 1, 3, none⟩ = some (.bool g2.m) := (HX.out.2.1).cell 3
  have s4 : X.cell? ⟨w.heap.size + 1, 4, none⟩ = some (.slice g2.c g2.us.length g2.cc) := (HX.out.2.1).cell 4
  have s5 : X.cell? ⟨w.heap.size + 1, 5, none⟩ = some (.slice g2.d g2.vs.length g2.cd) := (HX.out.2.1).cell 5
  have HD := hid (HM1.out X (Below.refl _ _))
  clear HM1
  go_enter Tryz.func26, Tryz.ntmps26
  go_wp2_with fail
  clear hX
  refine Calls.mono HD.out ?_
  rintro e w1 ⟨k, rfl, hok, hik, hb1⟩
  clear HD p0 p1 p2 p3 p4 p5 s0 s1 s2 s3 s4 s5
  obtain ⟨Y, hY⟩ : ∃ Y, w1.alloc (.cells #[.bool false, .slice none 0 0, .slice none 0 0, .bool false, .slice none 0 0, .slice none 0 0] 31) = Y := ⟨_, rfl⟩
  have HY : Hid (Box Y w1.heap.size 31 #[.bool false, .slice none 0 0, .slice none 0 0, .bool false, .slice none 0 0, .slice none 0 0]) := by rw [← hY]; exact Box.made w1 _ _
  have HYB : Hid (Below w1.heap.size w1 Y) := by rw [← hY]; exact alloc_later _ _
  have HYX := hid (bt hb1.out HYB.out)
  have zx := HX.out.2.2.1.lt
  have zy := hb1.out.size
  have zY : Y.heap.size = w1.heap.size + 1 := by rw [← hY]; simp
  obtain ⟨A0, A1, A2, A3, A4, A5, qA0, qA1, qA2, qA3, qA4, qA5, ⟨rA0, rA1, rA2, rA3, rA4, rA5⟩, ⟨fA0, fA1, fA2, fA3, fA4, fA5⟩, HA⟩ := rchain6 HY.out (by decide) (.bool k.n) (.slice k.a k.xs.length k.ca) (.slice k.b k.ys.length k.cb) (.bool k.m) (.slice k.c k.us.length k.cc) (.slice k.d k.vs.length k.cd)
  have HA1 := hid (HA.out.2.1 _ _ _ (show w.heap.size ≠ w1.heap.size by omega) (HX.out.1.later HYX.out HX.out.1.lt))
  have HA2 := hid (HA.out.2.1 _ _ _ (show w.heap.size + 1 ≠ w1.heap.size by omega) (HX.out.2.1.later HYX.out HX.out.2.1.lt))
  have HA3 := hid (HA.out.2.1 _ _ _ (show w.heap.size + 1 + 1 ≠ w1.heap.size by omega) (HX.out.2.2.1.later HYX.out HX.out.2.2.1.lt))
  have HAX : Hid (Below X.heap.size X A5) := HA.out.2.2.2.1 _ _ zy HYX.out
  have zA : A5.heap.size = w1.heap.size + 1 := by rw [HA.out.2.2.2.2, zY]
  have p6 : A5.cell? ⟨w.heap.size, 6, none⟩ = some (.bool h.n) := (HA1.out).cell 6
  have p7 : A5.cell? ⟨w.heap.size, 7, none⟩ = some (.slice h.a h.xs.length h.ca) := (HA1.out).cell 7
  have p8 : A5.cell? ⟨w.heap.size, 8, none⟩ = some (.slice h.b h.ys.length h.cb) := (HA1.out).cell 8
  have p9 : A5.cell? ⟨w.heap.size, 9, none⟩ = some (.bool h.m) := (HA1.out).cell 9
  have p10 : A5.cell? ⟨w.heap.size, 10, none⟩ = some (.slice h.c h.us.length h.cc) := (HA1.out).cell 10
  have p11 : A5.cell? ⟨w.heap.size, 11, none⟩ = some (.slice h.d h.vs.length h.cd) := (HA1.out).cell 11
  have s6 : A5.cell? ⟨w.heap.size + 1, 6, none⟩ = some (.bool h2.n) := (HA2.out).cell 6
  have s7 : A5.cell? ⟨w.heap.size + 1, 7, none⟩ = some (.slice h2.a h2.xs.length h2.ca) := (HA2.out).cell 7
  have s8 : A5.cell? ⟨w.heap.size + 1, 8, none⟩ = some (.slice h2.b h2.ys.length h2.cb) := (HA2.out).cell 8
  have s9 : A5.cell? ⟨w.heap.size + 1, 9, none⟩ = some (.bool h2.m) := (HA2.out).cell 9
  have s10 : A5.cell? ⟨w.heap.size + 1, 10, none⟩ = some (.slice h2.c h2.us.length h2.cc) := (HA2.out).cell 10
  have s11 : A5.cell? ⟨w.heap.size + 1, 11, none⟩ = some (.slice h2.d h2.vs.length h2.cd) := (HA2.out).cell 11
  have HD := hid (HM2.out A5 HAX.out)
  clear HM2
  go_wp2_with fail
  refine Calls.mono HD.out ?_
  rintro e w2 ⟨l, rfl, hol, hil, hb2⟩
  clear HD hY p6 s6 p7 s7 p8 s8 p9 s9 p10 s10 p11 s11 qA0 qA1 qA2 qA3 qA4 qA5 rA0 rA1 rA2 rA3 rA4 rA5 fA0 fA1 fA2 fA3 fA4 fA5
  obtain ⟨U, hU⟩ : ∃ U, w2.alloc (.cells #[.bool false, .slice none 0 0, .slice none 0 0, .bool false, .slice none 0 0, .slice none 0 0] 31) = U := ⟨_, rfl⟩
  have HU : Hid (Box U w2.heap.size 31 #[.bool false, .slice none 0 0, .slice none 0 0, .bool false, .slice none 0 0, .slice none 0 0]) := by rw [← hU]; exact Box.made w2 _ _
  have HUB : Hid (Below w2.heap.size w2 U) := by rw [← hU]; exact alloc_later _ _
  have HUX := hid (bt hb2.out HUB.out)
  have zz := hb2.out.size
  have zU : U.heap.size = w2.heap.size + 1 := by rw [← hU]; simp
  obtain ⟨B0, B1, B2, B3, B4, B5, qB0, qB1, qB2, qB3, qB4, qB5, ⟨rB0, rB1, rB2, rB3, rB4, rB5⟩, ⟨fB0, fB1, fB2, fB3, fB4, fB5⟩, HB⟩ := rchain6 HU.out (by decide) (.bool l.n) (.slice l.a l.xs.length l.ca) (.slice l.b l.ys.length l.cb) (.bool l.m) (.slice l.c l.us.length l.cc) (.slice l.d l.vs.length l.cd)
  have HB1 := hid (HB.out.2.1 _ _ _ (show w1.heap.size ≠ w2.heap.size by omega) (HA.out.1.later HUX.out HA.out.1.lt))
  have HB3 := hid (HB.out.2.1 _ _ _ (show w.heap.size + 1 + 1 ≠ w2.heap.size by omega) (HA3.out.later HUX.out HA3.out.lt))
  have HBX : Hid (Below X.heap.size X B5) := HB.out.2.2.2.1 _ _ (by omega) (bt HAX.out HUX.out)
  have HBA : Hid (Below A5.heap.size A5 B5) := HB.out.2.2.2.1 _ _ (by omega) HUX.out
  have zB : B5.heap.size = w2.heap.size + 1 := by rw [HB.out.2.2.2.2, zU]
  have p0 : B5.cell? ⟨w1.heap.size, 0, none⟩ = some (.bool k.n) := (HB1.out).cell 0
  have p1 : B5.cell? ⟨w1.heap.size, 1, none⟩ = some (.slice k.a k.xs.length k.ca) := (HB1.out).cell 1
  have p2 : B5.cell? ⟨w1.heap.size, 2, none⟩ = some (.slice k.b k.ys.length k.cb) := (HB1.out).cell 2
  have p3 : B5.cell? ⟨w1.heap.size, 3, none⟩ = some (.bool k.m) := (HB1.out).cell 3
  have p4 : B5.cell? ⟨w1.heap.size, 4, none⟩ = some (.slice k.c k.us.length k.cc) := (HB1.out).cell 4
  have p5 : B5.cell? ⟨w1.heap.size, 5, none⟩ = some (.slice k.d k.vs.length k.cd) := (HB1.out).cell 5
  have s0 : B5.cell? ⟨w2.heap.size, 0, none⟩ = some (.bool l.n) := (HB.out.1).cell 0
  have s1 : B5.cell? ⟨w2.heap.size, 1, none⟩ = some (.slice l.a l.xs.length l.ca) := (HB.out.1).cell 1
  have s2 : B5.cell? ⟨w2.heap.size, 2, none⟩ = some (.slice l.b l.ys.length l.cb) := (HB.out.1).cell 2
  have s3 : B5.cell? ⟨w2.heap.size, 3, none⟩ = some (.bool l.m) := (HB.out.1).cell 3
  have s4 : B5.cell? ⟨w2.heap.size, 4, none⟩ = some (.slice l.c l.us.length l.cc) := (HB.out.1).cell 4
  have s5 : B5.cell? ⟨w2.heap.size, 5, none⟩ = some (.slice l.d l.vs.length l.cd) := (HB.out.1).cell 5
  obtain ⟨C0, C1, C2, C3, C4, C5, C6, C7, C8, C9, C10, C11, qC0, qC1, qC2, qC3, qC4, qC5, qC6, qC7, qC8, qC9, qC10, qC11, ⟨rC0, rC1, rC2, rC3, rC4, rC5, rC6, rC7, rC8, rC9, rC10, rC11⟩, ⟨fC0, fC1, fC2, fC3, fC4, fC5, fC6, fC7, fC8, fC9, fC10, fC11⟩, HC⟩ := rchain12 HB3.out (by decide) (.bool k.n) (.slice k.a k.xs.length k.ca) (.slice k.b k.ys.length k.cb) (.bool k.m) (.slice k.c k.us.length k.cc) (.slice k.d k.vs.length k.cd) (.bool l.n) (.slice l.a l.xs.length l.ca) (.slice l.b l.ys.length l.cb) (.bool l.m) (.slice l.c l.us.length l.cc) (.slice l.d l.vs.length l.cd)
  go_wp2_with fail
  refine bodyPost_ret (results_cell_row (by rfl) _ _ (w.heap.size + 1 + 1) 45 _ (0, 0) _ (by rfl) HC.out.1 Tryz.underlying45 rfl (by kernel_rfl)) rfl ?_
  have zw := HX.out.2.2.2.size
  have okk : k.Ow B5 w.heap.size := by
    have q1 := hok.out.later HYB.out
    have P1 := HA.out.2.2.1
    have q2 : k.Ow A5 X.heap.size := ⟨P1 _ _ _ _ q1.1, P1 _ _ _ _ q1.2.1, P1 _ _ _ _ q1.2.2.1, P1 _ _ _ _ q1.2.2.2⟩
    exact (q2.later HBA.out).base zw
  have oll : l.Ow B5 w.heap.size := by
    have q1 := hol.out.later HUB.out
    have P1 := HB.out.2.2.1
    have q2 : l.Ow B5 A5.heap.size := ⟨P1 _ _ _ _ q1.1, P1 _ _ _ _ q1.2.1, P1 _ _ _ _ q1.2.2.1, P1 _ _ _ _ q1.2.2.2⟩
    exact q2.base (by omega)
  have P := HC.out.2.2.1
  refine ⟨k, l, rfl, ⟨⟨P _ _ _ _ okk.1, P _ _ _ _ okk.2.1, P _ _ _ _ okk.2.2.1, P _ _ _ _ okk.2.2.2⟩, ⟨P _ _ _ _ oll.1, P _ _ _ _ oll.2.1, P _ _ _ _ oll.2.2.1, P _ _ _ _ oll.2.2.2⟩⟩, ⟨?_, ?_⟩, HC.out.2.2.2.1 _ _ (by omega) (bt HX.out.2.2.2 HBX.out)⟩
  · have q := hik.out
    rw [← Rat.intCast_mul, ← Rat.intCast_mul, ← Rat.intCast_mul, ← Rat.intCast_mul, ← Rat.intCast_sub, ← Rat.intCast_add] at q
    exact q
  · have q := hil.out
    rw [← Rat.intCast_mul, ← Rat.intCast_mul, ← Rat.intCast_mul, ← Rat.intCast_mul, ← Rat.intCast_sub, ← Rat.intCast_add, show M * M2 - 0 * 0 = M * M2 by omega, show M * 0 + 0 * M2 = 0 by omega] at q
    exact q

set_option maxHeartbeats 3200000 in
set_option maxRecDepth 100000 in
theorem oone_any (w : World) : Calls Tryz.prog 25 #[] w (OPt w (1, 0) 1) := by
  obtain ⟨X, hX⟩ : ∃ X, w.alloc (.cells #[.bool false, .slice none 0 0, .slice none 0 0, .bool false, .slice none 0 0, .slice none 0 0, .bool false, .slice none 0 0, .slice none 0 0, .bool false, .slice none 0 0, .slice none 0 0] 45) = X := ⟨_, rfl⟩
  have HZ : Hid (Box X w.heap.size 45 #[.bool false, .slice none 0 0, .slice none 0 0, .bool false, .slice none 0 0, .slice none 0 0, .bool false, .slice none 0 0, .slice none 0 0, .bool false, .slice none 0 0, .slice none 0 0]) := by rw [← hX]; exact Box.made w _ _
  have HB : Hid (Below w.heap.size w X) := by rw [← hX]; exact alloc_later _ _
  have HI := hid (fun V => oInt_any 1 0 V (by decide) (by decide) (by decide) (by decide))
  have HD := hid (HI.out X)
  go_enter Tryz.func25, Tryz.ntmps25
  go_wp2_with fail
  clear hX
  refine Calls.mono HD.out ?_
  rintro e w1 ⟨g, rfl, hog, hig, hb1⟩
  clear HD
  have HD := hid (HI.out w1)
  clear HI
  go_wp2_with fail
  refine Calls.mono HD.out ?_
  rintro e w2 ⟨h, rfl, hoh, hih, hb2⟩
  clear HD
  have HBB := hid (bt hb1.out hb2.out)
  obtain ⟨C0, C1, C2, C3, C4, C5, C6, C7, C8, C9, C10, C11, qC0, qC1, qC2, qC3, qC4, qC5, qC6, qC7, qC8, qC9, qC10, qC11, ⟨rC0, rC1, rC2, rC3, rC4, rC5, rC6, rC7, rC8, rC9, rC10, rC11⟩, ⟨fC0, fC1, fC2, fC3, fC4, fC5, fC6, fC7, fC8, fC9, fC10, fC11⟩, HC⟩ := rchain12 (HZ.out.later HBB.out HZ.out.lt) (by decide) (.bool g.n) (.slice g.a g.xs.length g.ca) (.slice g.b g.ys.length g.cb) (.bool g.m) (.slice g.c g.us.length g.cc) (.slice g.d g.vs.length g.cd) (.bool h.n) (.slice h.a h.xs.length h.ca) (.slice h.b h.ys.length h.cb) (.bool h.m) (.slice h.c h.us.length h.cc) (.slice h.d h.vs.length h.cd)
  go_wp2_with fail
  refine bodyPost_ret (results_cell_row (by rfl) _ _ w.heap.size 45 _ (0, 0) _ (by rfl) HC.out.1 Tryz.underlying45 rfl (by kernel_rfl)) rfl ?_
  have z1 := HB.out.size
  have z2 := hb1.out.size
  have P := HC.out.2.2.1
  have o1 := (hog.out.later hb2.out).base z1
  have o2 := hoh.out.base (show w.heap.size ≤ w1.heap.size by omega)
  have i1 := hig.out
  have i2 := hih.out
  rw [o_div1, o_div1] at i1 i2
  exact ⟨g, h, rfl, ⟨⟨P _ _ _ _ o1.1, P _ _ _ _ o1.2.1, P _ _ _ _ o1.2.2.1, P _ _ _ _ o1.2.2.2⟩, ⟨P _ _ _ _ o2.1, P _ _ _ _ o2.2.1, P _ _ _ _ o2.2.2.1, P _ _ _ _ o2.2.2.2⟩⟩, ⟨i1, i2⟩, HC.out.2.2.2.1 _ _ (Nat.le_refl _) (bt HB.out HBB.out)⟩
end Go.Proofs.YtcjfbmehibhkbaaGreatDoor

/- package rotor: a power made by squaring. (tools/mkrq4.py) -/
namespace Go.Proofs.YtcjfbmehibhkbaaGreatDoor
open Go.RowKit
set_option linter.unusedVariables false
set_option linter.unusedSimpArgs false

theorem o_and1 : ∀ T : Nat, T < 1025 → bits .and .i64 (T : Int) 1 = ((T % 2 : Nat) : Int) := by decide +kernel
/-- What is read: rows that were there, or rows of the call's own. -/
def OSl (w wr : World) (g : G6) : Prop := g.Ow wr w.heap.size ∨ g.Sl4 w
theorem OSl.sl {w wr : World} {g : G6} {q1 q2 : Rat} (h : OSl w wr g) (i : g.Is q1 q2) (hb : Below w.heap.size w wr) : g.Sl4 wr := by
  rcases h with h | h
  · exact h.sl i
  · exact h.later hb
theorem OSl.later {w wr V : World} {g : G6} (h : OSl w wr g) (hb : Below wr.heap.size wr V) : OSl w V g := by
  rcases h with h | h
  · exact .inl (h.later hb)
  · exact .inr h
theorem OSl.put {w wr V : World} {g : G6} (h : OSl w wr g) (P : ∀ base v n xs, wr.ownsRow base 38 1 v n xs → V.ownsRow base 38 1 v n xs) : OSl w V g := by
  rcases h with h | h
  · exact .inl ⟨P _ _ _ _ h.1, P _ _ _ _ h.2.1, P _ _ _ _ h.2.2.1, P _ _ _ _ h.2.2.2⟩
  · exact .inr h
theorem ow_put {wr V : World} {g : G6} {base : Nat} (h : g.Ow wr base) (P : ∀ base v n xs, wr.ownsRow base 38 1 v n xs → V.ownsRow base 38 1 v n xs) : g.Ow V base := ⟨P _ _ _ _ h.1, P _ _ _ _ h.2.1, P _ _ _ _ h.2.2.1, P _ _ _ _ h.2.2.2⟩
/-- How far the squaring is. -/
structure OLp (f n : Int) (w : World) (pb mb : Nat) (i j : Nat) (g h k l : G6) (wr : World) : Prop where
  sp : OSl w wr g ∧ OSl w wr h
  vp : OPw g h (zpow (oRe f n, oIm f n) j) (oNm f n ^ j)
  bp : Box wr pb 45 #[.bool g.n, .slice g.a g.xs.length g.ca, .slice g.b g.ys.length g.cb, .bool g.m, .slice g.c g.us.length g.cc, .slice g.d g.vs.length g.cd, .bool h.n, .slice h.a h.xs.length h.ca, .slice h.b h.ys.length h.cb, .bool h.m, .slice h.c h.us.length h.cc, .slice h.d h.vs.length h.cd]
  om : k.Ow wr w.heap.size ∧ l.Ow wr w.heap.size
  vm : OPw k l (zpow (oRe f n, oIm f n) i) (oNm f n ^ i)
  bm : Box wr mb 45 #[.bool k.n, .slice k.a k.xs.length k.ca, .slice k.b k.ys.length k.cb, .bool k.m, .slice k.c k.us.length k.cc, .slice k.d k.vs.length k.cd, .bool l.n, .slice l.a l.xs.length l.ca, .slice l.b l.ys.length l.cb, .bool l.m, .slice l.c l.us.length l.cc, .slice l.d l.vs.length l.cd]
  br : Box wr (w.heap.size + 1) 45 #[.bool false, .slice none 0 0, .slice none 0 0, .bool false, .slice none 0 0, .slice none 0 0, .bool false, .slice none 0 0, .slice none 0 0, .bool false, .slice none 0 0, .slice none 0 0]
  bel : Below w.heap.size w wr
/-- What a store of twelve cells leaves. -/
def OPut (w2 : World) (b : Nat) (vs : Array Value) (V : World) : Prop := Box V b 45 vs ∧ (∀ p t' vs, p ≠ b → Box w2 p t' vs → Box V p t' vs) ∧ (∀ base v n xs, w2.ownsRow base 38 1 v n xs → V.ownsRow base 38 1 v n xs) ∧ (∀ B x, B ≤ b → Below B x w2 → Below B x V) ∧ V.heap.size = w2.heap.size
theorem OLp.mul {f n : Int} {w wr w2 V : World} {mb i j : Nat} {g h k l k2 l2 : G6} (a : OLp f n w w.heap.size mb i j g h k l wr) (hm : w.heap.size + 1 < mb) (hb : Below wr.heap.size wr w2) (ho : k2.Ow w2 wr.heap.size ∧ l2.Ow w2 wr.heap.size) (hi : OPw k2 l2 (zpow (oRe f n, oIm f n) (i + j)) (oNm f n ^ (i + j))) (c : OPut w2 mb #[.bool k2.n, .slice k2.a k2.xs.length k2.ca, .slice k2.b k2.ys.length k2.cb, .bool k2.m, .slice k2.c k2.us.length k2.cc, .slice k2.d k2.vs.length k2.cd, .bool l2.n, .slice l2.a l2.xs.length l2.ca, .slice l2.b l2.ys.length l2.cb, .bool l2.m, .slice l2.c l2.us.length l2.cc, .slice l2.d l2.vs.length l2.cd] V) : OLp f n w w.heap.size mb (i + j) j g h k2 l2 V where
  sp := ⟨(a.sp.1.later hb).put c.2.2.1, (a.sp.2.later hb).put c.2.2.1⟩
  vp := a.vp
  bp := c.2.1 _ _ _ (by omega) (a.bp.later hb a.bp.lt)
  om := ⟨ow_put (ho.1.base a.bel.size) c.2.2.1, ow_put (ho.2.base a.bel.size) c.2.2.1⟩
  vm := hi
  bm := c.1
  br := c.2.1 _ _ _ (by omega) (a.br.later hb a.br.lt)
  bel := c.2.2.2.1 _ _ (by omega) (bt a.bel hb)
theorem OLp.sq {f n : Int} {w wr w2 V : World} {mb i j : Nat} {g h k l g2 h2 : G6} (a : OLp f n w w.heap.size mb i j g h k l wr) (hm : w.heap.size + 1 < mb) (hb : Below wr.heap.size wr w2) (ho : g2.Ow w2 wr.heap.size ∧ h2.Ow w2 wr.heap.size) (hi : OPw g2 h2 (zpow (oRe f n, oIm f n) (j + j)) (oNm f n ^ (j + j))) (c : OPut w2 w.heap.size #[.bool g2.n, .slice g2.a g2.xs.length g2.ca, .slice g2.b g2.ys.length g2.cb, .bool g2.m, .slice g2.c g2.us.length g2.cc, .slice g2.d g2.vs.length g2.cd, .bool h2.n, .slice h2.a h2.xs.length h2.ca, .slice h2.b h2.ys.length h2.cb, .bool h2.m, .slice h2.c h2.us.length h2.cc, .slice h2.d h2.vs.length h2.cd] V) : OLp f n w w.heap.size mb i (j + j) g2 h2 k l V where
  sp := ⟨.inl (ow_put (ho.1.base a.bel.size) c.2.2.1), .inl (ow_put (ho.2.base a.bel.size) c.2.2.1)⟩
  vp := hi
  bp := c.1
  om := ⟨ow_put (a.om.1.later hb) c.2.2.1, ow_put (a.om.2.later hb) c.2.2.1⟩
  vm := a.vm
  bm := c.2.1 _ _ _ (by omega) (a.bm.later hb a.bm.lt)
  br := c.2.1 _ _ _ (by omega) (a.br.later hb a.br.lt)
  bel := c.2.2.2.1 _ _ (Nat.le_refl _) (bt a.bel hb)
theorem o_size2 {f n : Int} (h : rOK f n) (t : Nat) : (zpow (oRe f n, oIm f n) t).1.natAbs ≤ o2 (21 * t) ∧ (zpow (oRe f n, oIm f n) t).2.natAbs ≤ o2 (21 * t) ∧ (oNm f n ^ t).natAbs ≤ o2 (21 * t) := by
  obtain ⟨e, _, _, _, _, _, h5, h6, _⟩ := o_parts h
  have h1 : (oNm f n).natAbs ^ t ≤ o2 (21 * t) := by
    unfold o2
    rw [Nat.pow_mul]
    exact Nat.pow_le_pow_left (by omega) t
  have h2 := o_big h t
  exact ⟨Nat.le_trans h2.1 h1, Nat.le_trans h2.2 h1, by rw [Int.natAbs_pow]; exact h1⟩
theorem o_lim {i j : Nat} (h : i + j ≤ 2048) : 2 * (o2 (21 * i) * o2 (21 * j)) < oL := by
  rw [o2_mul, show 2 * o2 (21 * i + 21 * j) = o2 (1 + (21 * i + 21 * j)) from o2_mul 1 _]
  exact o2_lt (by omega)
theorem o_mulE (f n : Int) (i j : Nat) : zmul (zpow (oRe f n, oIm f n) i) (zpow (oRe f n, oIm f n) j) = zpow (oRe f n, oIm f n) (i + j) := (zpow_add _ _ _).symm
theorem o_nmE (f n : Int) (i j : Nat) : oNm f n ^ i * oNm f n ^ j = oNm f n ^ (i + j) := (Int.pow_add _ _ _).symm
/-- The product of two powers of one rotor. -/
theorem otimes_pow {f n : Int} (hr : rOK f n) (i j : Nat) (hij : i + j ≤ 2048) (g h g2 h2 : G6) (w : World) (sg : g.Sl4 w) (sh : h.Sl4 w) (sg2 : g2.Sl4 w) (sh2 : h2.Sl4 w) (hp : OPw g h (zpow (oRe f n, oIm f n) i) (oNm f n ^ i)) (hp2 : OPw g2 h2 (zpow (oRe f n, oIm f n) j) (oNm f n ^ j)) :
    Calls Tryz.prog 26 #[.agg #[.bool g.n, .slice g.a g.xs.length g.ca, .slice g.b g.ys.length g.cb, .bool g.m, .slice g.c g.us.length g.cc, .slice g.d g.vs.length g.cd, .bool h.n, .slice h.a h.xs.length h.ca, .slice h.b h.ys.length h.cb, .bool h.m, .slice h.c h.us.length h.cc, .slice h.d h.vs.length h.cd], .agg #[.bool g2.n, .slice g2.a g2.xs.length g2.ca, .slice g2.b g2.ys.length g2.cb, .bool g2.m, .slice g2.c g2.us.length g2.cc, .slice g2.d g2.vs.length g2.cd, .bool h2.n, .slice h2.a h2.xs.length h2.ca, .slice h2.b h2.ys.length h2.cb, .bool h2.m, .slice h2.c h2.us.length h2.cc, .slice h2.d h2.vs.length h2.cd]] w (OPt w (zpow (oRe f n, oIm f n) (i + j)) (oNm f n ^ (i + j))) := by
  have a := o_size2 hr i
  have b := o_size2 hr j
  have q := otimes_any g h g2 h2 _ _ _ _ w sg sh sg2 sh2 hp hp2 _ _ a.1 a.2.1 a.2.2 b.1 b.2.1 b.2.2 (o_lim hij)
  rw [o_mulE, o_nmE] at q
  exact q

set_option maxHeartbeats 12800000 in
set_option maxRecDepth 100000 in
theorem oto_any (f n : Int) (hr : rOK f n) (g h : G6) (N : Nat) (hN : N ≤ 1024) (w : World) (sg : g.Sl4 w) (sh : h.Sl4 w) (hp : OPw g h (oRe f n, oIm f n) (oNm f n)) :
    Calls Tryz.prog 14 #[.agg #[.bool g.n, .slice g.a g.xs.length g.ca, .slice g.b g.ys.length g.cb, .bool g.m, .slice g.c g.us.length g.cc, .slice g.d g.vs.length g.cd, .bool h.n, .slice h.a h.xs.length h.ca, .slice h.b h.ys.length h.cb, .bool h.m, .slice h.c h.us.length h.cc, .slice h.d h.vs.length h.cd], .int .i64 (N : Int)] w (OPt w (zpow (oRe f n, oIm f n) N) (oNm f n ^ N)) := by
  obtain ⟨X, hX⟩ : ∃ X, (w.alloc (.cells #[.bool g.n, .slice g.a g.xs.length g.ca, .slice g.b g.ys.length g.cb, .bool g.m, .slice g.c g.us.length g.cc, .slice g.d g.vs.length g.cd, .bool h.n, .slice h.a h.xs.length h.ca, .slice h.b h.ys.length h.cb, .bool h.m, .slice h.c h.us.length h.cc, .slice h.d h.vs.length h.cd] 45)).alloc (.cells #[.bool false, .slice none 0 0, .slice none 0 0, .bool false, .slice none 0 0, .slice none 0 0, .bool false, .slice none 0 0, .slice none 0 0, .bool false, .slice none 0 0, .slice none 0 0] 45) = X := ⟨_, rfl⟩
  have HX := hid (boxes2r w 45 #[.bool g.n, .slice g.a g.xs.length g.ca, .slice g.b g.ys.length g.cb, .bool g.m, .slice g.c g.us.length g.cc, .slice g.d g.vs.length g.cd, .bool h.n, .slice h.a h.xs.length h.ca, .slice h.b h.ys.length h.cb, .bool h.m, .slice h.c h.us.length h.cc, .slice h.d h.vs.length h.cd] #[.bool false, .slice none 0 0, .slice none 0 0, .bool false, .slice none 0 0, .slice none 0 0, .bool false, .slice none 0 0, .slice none 0 0, .bool false, .slice none 0 0, .slice none 0 0])
  rw [hX] at HX
  have HD := hid (oone_any X)
  have HS := hid (And.intro sg sh)
  have HP : Hid (OPw g h (zpow (oRe f n, oIm f n) 1) (oNm f n ^ 1)) := by
    have e : zpow (oRe f n, oIm f n) 1 = (oRe f n, oIm f n) := by
      show zmul (1, 0) (oRe f n, oIm f n) = (oRe f n, oIm f n)
      unfold zmul
      simp
    rw [e, Int.pow_succ, Int.pow_zero, Int.one_mul]; exact hp
  have HR := hid hr
  clear sg sh hp hr
  go_enter Tryz.func14, Tryz.ntmps14
  go_wp2_with fail
  clear hX
  refine Calls.mono HD.out ?_
  rintro e w1 ⟨k, l, rfl, ho, hi, hb⟩
  clear HD
  obtain ⟨Y, hY⟩ : ∃ Y, w1.alloc (.cells #[.bool false, .slice none 0 0, .slice none 0 0, .bool false, .slice none 0 0, .slice none 0 0, .bool false, .slice none 0 0, .slice none 0 0, .bool false, .slice none 0 0, .slice none 0 0] 45) = Y := ⟨_, rfl⟩
  have HY : Hid (Box Y w1.heap.size 45 #[.bool false, .slice none 0 0, .slice none 0 0, .bool false, .slice none 0 0, .slice none 0 0, .bool false, .slice none 0 0, .slice none 0 0, .bool false, .slice none 0 0, .slice none 0 0]) := by rw [← hY]; exact Box.made w1 _ _
  have HYB : Hid (Below w1.heap.size w1 Y) := by rw [← hY]; exact alloc_later _ _
  have HYX := hid (bt hb.out HYB.out)
  have zx := HX.out.2.1.lt
  have zy := hb.out.size
  have zw := HX.out.2.2.size
  obtain ⟨A0, A1, A2, A3, A4, A5, A6, A7, A8, A9, A10, A11, qA0, qA1, qA2, qA3, qA4, qA5, qA6, qA7, qA8, qA9, qA10, qA11, ⟨rA0, rA1, rA2, rA3, rA4, rA5, rA6, rA7, rA8, rA9, rA10, rA11⟩, ⟨fA0, fA1, fA2, fA3, fA4, fA5, fA6, fA7, fA8, fA9, fA10, fA11⟩, HA⟩ := rchain12 HY.out (by decide) (.bool k.n) (.slice k.a k.xs.length k.ca) (.slice k.b k.ys.length k.cb) (.bool k.m) (.slice k.c k.us.length k.cc) (.slice k.d k.vs.length k.cd) (.bool l.n) (.slice l.a l.xs.length l.ca) (.slice l.b l.ys.length l.cb) (.bool l.m) (.slice l.c l.us.length l.cc) (.slice l.d l.vs.length l.cd)
  have HA1 := hid (HA.out.2.1 _ _ _ (show w.heap.size ≠ w1.heap.size by omega) (HX.out.1.later HYX.out HX.out.1.lt))
  have HA2 := hid (HA.out.2.1 _ _ _ (show w.heap.size + 1 ≠ w1.heap.size by omega) (HX.out.2.1.later HYX.out HX.out.2.1.lt))
  have HAX : Hid (Below w.heap.size w A11) := HA.out.2.2.2.1 _ _ (by omega) (bt HX.out.2.2 HYX.out)
  have HST : Hid (OLp f n w w.heap.size w1.heap.size 0 1 g h k l A11) := ⟨⟨.inr HS.out.1, .inr HS.out.2⟩, HP.out, HA1.out, ⟨ow_put ((ho.out.1.later HYB.out).base zw) HA.out.2.2.1, ow_put ((ho.out.2.later HYB.out).base zw) HA.out.2.2.1⟩, (by rw [Int.pow_zero]; exact hi.out), HA.out.1, HA2.out, HAX.out⟩
  clear HS HP ho hi hb HYX HYB HY HAX HA1 HA2 HX
  go_wp2_with fail
  clear hY qA0 qA1 qA2 qA3 qA4 qA5 qA6 qA7 qA8 qA9 qA10 qA11 rA0 rA1 rA2 rA3 rA4 rA5 rA6 rA7 rA8 rA9 rA10 rA11 fA0 fA1 fA2 fA3 fA4 fA5 fA6 fA7 fA8 fA9 fA10 fA11 HA
  go_loopw [1] (fun t wr => ∃ (T i j : Nat) (g h k l : G6), T ≤ 1024 ∧ t = .int .i64 (T : Int) ∧ i + j * T = N ∧ Hid (OLp f n w w.heap.size w1.heap.size i j g h k l wr)) (fun t _ => (intOf t).toNat)
  case atStart => exact ⟨N, 0, 1, g, h, k, l, hN, rfl, by omega, HST⟩
  case round =>
    clear HST
    obtain ⟨T, i, j, g, h, k, l, hT, rfl, hsum, HI⟩ := hrel
    have hmb : w.heap.size + 1 < w1.heap.size := by omega
    rcases Nat.eq_zero_or_pos T with hT0 | hT0
    · subst hT0
      have m0 : wr.cell? ⟨w1.heap.size, 0, none⟩ = some (.bool k.n) := (HI.out.bm).cell 0
      have m1 : wr.cell? ⟨w1.heap.size, 1, none⟩ = some (.slice k.a k.xs.length k.ca) := (HI.out.bm).cell 1
      have m2 : wr.cell? ⟨w1.heap.size, 2, none⟩ = some (.slice k.b k.ys.length k.cb) := (HI.out.bm).cell 2
      have m3 : wr.cell? ⟨w1.heap.size, 3, none⟩ = some (.bool k.m) := (HI.out.bm).cell 3
      have m4 : wr.cell? ⟨w1.heap.size, 4, none⟩ = some (.slice k.c k.us.length k.cc) := (HI.out.bm).cell 4
      have m5 : wr.cell? ⟨w1.heap.size, 5, none⟩ = some (.slice k.d k.vs.length k.cd) := (HI.out.bm).cell 5
      have m6 : wr.cell? ⟨w1.heap.size, 6, none⟩ = some (.bool l.n) := (HI.out.bm).cell 6
      have m7 : wr.cell? ⟨w1.heap.size, 7, none⟩ = some (.slice l.a l.xs.length l.ca) := (HI.out.bm).cell 7
      have m8 : wr.cell? ⟨w1.heap.size, 8, none⟩ = some (.slice l.b l.ys.length l.cb) := (HI.out.bm).cell 8
      have m9 : wr.cell? ⟨w1.heap.size, 9, none⟩ = some (.bool l.m) := (HI.out.bm).cell 9
      have m10 : wr.cell? ⟨w1.heap.size, 10, none⟩ = some (.slice l.c l.us.length l.cc) := (HI.out.bm).cell 10
      have m11 : wr.cell? ⟨w1.heap.size, 11, none⟩ = some (.slice l.d l.vs.length l.cd) := (HI.out.bm).cell 11
      have eN : i = N := by omega
      subst eN
      obtain ⟨A0, A1, A2, A3, A4, A5, A6, A7, A8, A9, A10, A11, qA0, qA1, qA2, qA3, qA4, qA5, qA6, qA7, qA8, qA9, qA10, qA11, ⟨rA0, rA1, rA2, rA3, rA4, rA5, rA6, rA7, rA8, rA9, rA10, rA11⟩, ⟨fA0, fA1, fA2, fA3, fA4, fA5, fA6, fA7, fA8, fA9, fA10, fA11⟩, HA⟩ := rchain12 HI.out.br (by decide) (.bool k.n) (.slice k.a k.xs.length k.ca) (.slice k.b k.ys.length k.cb) (.bool k.m) (.slice k.c k.us.length k.cc) (.slice k.d k.vs.length k.cd) (.bool l.n) (.slice l.a l.xs.length l.ca) (.slice l.b l.ys.length l.cb) (.bool l.m) (.slice l.c l.us.length l.cc) (.slice l.d l.vs.length l.cd)
      go_wp2_with fail
      refine bodyPost_ret (results_cell_row (by rfl) _ _ (w.heap.size + 1) 45 _ (0, 0) _ (by rfl) HA.out.1 Tryz.underlying45 rfl (by kernel_rfl)) rfl ?_
      exact ⟨k, l, rfl, ⟨ow_put HI.out.om.1 HA.out.2.2.1, ow_put HI.out.om.2 HA.out.2.2.1⟩, HI.out.vm, HA.out.2.2.2.1 _ _ (by omega) HI.out.bel⟩
    · have hand := o_and1 T (by omega)
      have hq0 : (0 : Int) < (T : Int) := by omega
      have hij : i + j ≤ N := by have h2 : j * 1 ≤ j * T := Nat.mul_le_mul_left j hT0; omega
      rcases Nat.mod_two_eq_zero_or_one T with hpar | hpar
      · rw [hpar] at hand
        have hq1 : (1 : Int) < (T : Int) := by omega
        have hT2 : T = 2 * (T / 2) := by omega
        have hjj : j + j ≤ N := by have h2 : j * 2 ≤ j * T := Nat.mul_le_mul_left j (by omega); omega
        have hs2 : Hid (i + (j + j) * (T / 2) = N) := by
          show _ = _
          rw [← hsum]
          have e : j * T = (j + j) * (T / 2) := by rw [← Nat.two_mul, Nat.mul_assoc, Nat.mul_left_comm 2 j, ← hT2]
          omega
        clear hT2 hsum
        have a := HI.out
        have HD := hid (otimes_pow HR.out j j (by omega) g h g h wr (a.sp.1.sl a.vp.1 a.bel) (a.sp.2.sl a.vp.2 a.bel) (a.sp.1.sl a.vp.1 a.bel) (a.sp.2.sl a.vp.2 a.bel) a.vp a.vp)
        clear a
        have p0 : wr.cell? ⟨w.heap.size, 0, none⟩ = some (.bool g.n) := (HI.out.bp).cell 0
        have p1 : wr.cell? ⟨w.heap.size, 1, none⟩ = some (.slice g.a g.xs.length g.ca) := (HI.out.bp).cell 1
        have p2 : wr.cell? ⟨w.heap.size, 2, none⟩ = some (.slice g.b g.ys.length g.cb) := (HI.out.bp).cell 2
        have p3 : wr.cell? ⟨w.heap.size, 3, none⟩ = some (.bool g.m) := (HI.out.bp).cell 3
        have p4 : wr.cell? ⟨w.heap.size, 4, none⟩ = some (.slice g.c g.us.length g.cc) := (HI.out.bp).cell 4
        have p5 : wr.cell? ⟨w.heap.size, 5, none⟩ = some (.slice g.d g.vs.length g.cd) := (HI.out.bp).cell 5
        have p6 : wr.cell? ⟨w.heap.size, 6, none⟩ = some (.bool h.n) := (HI.out.bp).cell 6
        have p7 : wr.cell? ⟨w.heap.size, 7, none⟩ = some (.slice h.a h.xs.length h.ca) := (HI.out.bp).cell 7
        have p8 : wr.cell? ⟨w.heap.size, 8, none⟩ = some (.slice h.b h.ys.length h.cb) := (HI.out.bp).cell 8
        have p9 : wr.cell? ⟨w.heap.size, 9, none⟩ = some (.bool h.m) := (HI.out.bp).cell 9
        have p10 : wr.cell? ⟨w.heap.size, 10, none⟩ = some (.slice h.c h.us.length h.cc) := (HI.out.bp).cell 10
        have p11 : wr.cell? ⟨w.heap.size, 11, none⟩ = some (.slice h.d h.vs.length h.cd) := (HI.out.bp).cell 11
        go_wp2_with fail
        refine Calls.mono HD.out ?_
        rintro e w3 ⟨g2, h2, rfl, ho, hi, hb⟩
        clear HD p0 p1 p2 p3 p4 p5 p6 p7 p8 p9 p10 p11 
        obtain ⟨B0, B1, B2, B3, B4, B5, B6, B7, B8, B9, B10, B11, qB0, qB1, qB2, qB3, qB4, qB5, qB6, qB7, qB8, qB9, qB10, qB11, ⟨rB0, rB1, rB2, rB3, rB4, rB5, rB6, rB7, rB8, rB9, rB10, rB11⟩, ⟨fB0, fB1, fB2, fB3, fB4, fB5, fB6, fB7, fB8, fB9, fB10, fB11⟩, HB⟩ := rchain12 (HI.out.bp.later hb.out HI.out.bp.lt) (by decide) (.bool g2.n) (.slice g2.a g2.xs.length g2.ca) (.slice g2.b g2.ys.length g2.cb) (.bool g2.m) (.slice g2.c g2.us.length g2.cc) (.slice g2.d g2.vs.length g2.cd) (.bool h2.n) (.slice h2.a h2.xs.length h2.ca) (.slice h2.b h2.ys.length h2.cb) (.bool h2.m) (.slice h2.c h2.us.length h2.cc) (.slice h2.d h2.vs.length h2.cd)
        have HI3 := hid (HI.out.sq hmb hb.out ho.out hi.out HB.out)
        clear HI HB ho hi hb
        go_wp2_with fail
        go_roundw
        case rel => exact ⟨T / 2, i, j + j, g2, h2, k, l, by omega, congrArg (Value.int .i64) (by omega), hs2.out, HI3⟩
        case measure => first | (simp [intOf]; done) | (simp [intOf]; omega)
      · rw [hpar] at hand
        rcases Nat.lt_or_ge 1 T with hq | hq
        · have hq1 : (1 : Int) < (T : Int) := by omega
          have hT2 : T = 2 * (T / 2) + 1 := by omega
          have hjj : j + j ≤ N := by have h2 : j * 2 ≤ j * T := Nat.mul_le_mul_left j (by omega); omega
          have hs2 : Hid (i + j + (j + j) * (T / 2) = N) := by
            show _ = _
            rw [← hsum]
            have e : j * T = (j + j) * (T / 2) + j := by
              have e1 : j * T = j * (2 * (T / 2) + 1) := by rw [← hT2]
              rw [e1, Nat.mul_add, Nat.mul_one, ← Nat.two_mul, Nat.mul_assoc, Nat.mul_left_comm 2 j]
            omega
          clear hT2 hsum
          have a := HI.out
          have HD := hid (otimes_pow HR.out i j (by omega) k l g h wr (a.om.1.sl a.vm.1) (a.om.2.sl a.vm.2) (a.sp.1.sl a.vp.1 a.bel) (a.sp.2.sl a.vp.2 a.bel) a.vm a.vp)
          clear a
          have m0 : wr.cell? ⟨w1.heap.size, 0, none⟩ = some (.bool k.n) := (HI.out.bm).cell 0
          have m1 : wr.cell? ⟨w1.heap.size, 1, none⟩ = some (.slice k.a k.xs.length k.ca) := (HI.out.bm).cell 1
          have m2 : wr.cell? ⟨w1.heap.size, 2, none⟩ = some (.slice k.b k.ys.length k.cb) := (HI.out.bm).cell 2
          have m3 : wr.cell? ⟨w1.heap.size, 3, none⟩ = some (.bool k.m) := (HI.out.bm).cell 3
          have m4 : wr.cell? ⟨w1.heap.size, 4, none⟩ = some (.slice k.c k.us.length k.cc) := (HI.out.bm).cell 4
          have m5 : wr.cell? ⟨w1.heap.size, 5, none⟩ = some (.slice k.d k.vs.length k.cd) := (HI.out.bm).cell 5
          have m6 : wr.cell? ⟨w1.heap.size, 6, none⟩ = some (.bool l.n) := (HI.out.bm).cell 6
          have m7 : wr.cell? ⟨w1.heap.size, 7, none⟩ = some (.slice l.a l.xs.length l.ca) := (HI.out.bm).cell 7
          have m8 : wr.cell? ⟨w1.heap.size, 8, none⟩ = some (.slice l.b l.ys.length l.cb) := (HI.out.bm).cell 8
          have m9 : wr.cell? ⟨w1.heap.size, 9, none⟩ = some (.bool l.m) := (HI.out.bm).cell 9
          have m10 : wr.cell? ⟨w1.heap.size, 10, none⟩ = some (.slice l.c l.us.length l.cc) := (HI.out.bm).cell 10
          have m11 : wr.cell? ⟨w1.heap.size, 11, none⟩ = some (.slice l.d l.vs.length l.cd) := (HI.out.bm).cell 11
          have p0 : wr.cell? ⟨w.heap.size, 0, none⟩ = some (.bool g.n) := (HI.out.bp).cell 0
          have p1 : wr.cell? ⟨w.heap.size, 1, none⟩ = some (.slice g.a g.xs.length g.ca) := (HI.out.bp).cell 1
          have p2 : wr.cell? ⟨w.heap.size, 2, none⟩ = some (.slice g.b g.ys.length g.cb) := (HI.out.bp).cell 2
          have p3 : wr.cell? ⟨w.heap.size, 3, none⟩ = some (.bool g.m) := (HI.out.bp).cell 3
          have p4 : wr.cell? ⟨w.heap.size, 4, none⟩ = some (.slice g.c g.us.length g.cc) := (HI.out.bp).cell 4
          have p5 : wr.cell? ⟨w.heap.size, 5, none⟩ = some (.slice g.d g.vs.length g.cd) := (HI.out.bp).cell 5
          have p6 : wr.cell? ⟨w.heap.size, 6, none⟩ = some (.bool h.n) := (HI.out.bp).cell 6
          have p7 : wr.cell? ⟨w.heap.size, 7, none⟩ = some (.slice h.a h.xs.length h.ca) := (HI.out.bp).cell 7
          have p8 : wr.cell? ⟨w.heap.size, 8, none⟩ = some (.slice h.b h.ys.length h.cb) := (HI.out.bp).cell 8
          have p9 : wr.cell? ⟨w.heap.size, 9, none⟩ = some (.bool h.m) := (HI.out.bp).cell 9
          have p10 : wr.cell? ⟨w.heap.size, 10, none⟩ = some (.slice h.c h.us.length h.cc) := (HI.out.bp).cell 10
          have p11 : wr.cell? ⟨w.heap.size, 11, none⟩ = some (.slice h.d h.vs.length h.cd) := (HI.out.bp).cell 11
          go_wp2_with fail
          refine Calls.mono HD.out ?_
          rintro e w2 ⟨k2, l2, rfl, ho, hi, hb⟩
          clear HD m0 m1 m2 m3 m4 m5 m6 m7 m8 m9 m10 m11 p0 p1 p2 p3 p4 p5 p6 p7 p8 p9 p10 p11
          obtain ⟨A0, A1, A2, A3, A4, A5, A6, A7, A8, A9, A10, A11, qA0, qA1, qA2, qA3, qA4, qA5, qA6, qA7, qA8, qA9, qA10, qA11, ⟨rA0, rA1, rA2, rA3, rA4, rA5, rA6, rA7, rA8, rA9, rA10, rA11⟩, ⟨fA0, fA1, fA2, fA3, fA4, fA5, fA6, fA7, fA8, fA9, fA10, fA11⟩, HA⟩ := rchain12 (HI.out.bm.later hb.out HI.out.bm.lt) (by decide) (.bool k2.n) (.slice k2.a k2.xs.length k2.ca) (.slice k2.b k2.ys.length k2.cb) (.bool k2.m) (.slice k2.c k2.us.length k2.cc) (.slice k2.d k2.vs.length k2.cd) (.bool l2.n) (.slice l2.a l2.xs.length l2.ca) (.slice l2.b l2.ys.length l2.cb) (.bool l2.m) (.slice l2.c l2.us.length l2.cc) (.slice l2.d l2.vs.length l2.cd)
          have HI2 := hid (HI.out.mul hmb hb.out ho.out hi.out HA.out)
          clear HI HA ho hi hb
          have a := HI2.out
          have HD := hid (otimes_pow HR.out j j (by omega) g h g h A11 (a.sp.1.sl a.vp.1 a.bel) (a.sp.2.sl a.vp.2 a.bel) (a.sp.1.sl a.vp.1 a.bel) (a.sp.2.sl a.vp.2 a.bel) a.vp a.vp)
          clear a
          have p0 : A11.cell? ⟨w.heap.size, 0, none⟩ = some (.bool g.n) := (HI2.out.bp).cell 0
          have p1 : A11.cell? ⟨w.heap.size, 1, none⟩ = some (.slice g.a g.xs.length g.ca) := (HI2.out.bp).cell 1
          have p2 : A11.cell? ⟨w.heap.size, 2, none⟩ = some (.slice g.b g.ys.length g.cb) := (HI2.out.bp).cell 2
          have p3 : A11.cell? ⟨w.heap.size, 3, none⟩ = some (.bool g.m) := (HI2.out.bp).cell 3
          have p4 : A11.cell? ⟨w.heap.size, 4, none⟩ = some (.slice g.c g.us.length g.cc) := (HI2.out.bp).cell 4
          have p5 : A11.cell? ⟨w.heap.size, 5, none⟩ = some (.slice g.d g.vs.length g.cd) := (HI2.out.bp).cell 5
          have p6 : A11.cell? ⟨w.heap.size, 6, none⟩ = some (.bool h.n) := (HI2.out.bp).cell 6
          have p7 : A11.cell? ⟨w.heap.size, 7, none⟩ = some (.slice h.a h.xs.length h.ca) := (HI2.out.bp).cell 7
          have p8 : A11.cell? ⟨w.heap.size, 8, none⟩ = some (.slice h.b h.ys.length h.cb) := (HI2.out.bp).cell 8
          have p9 : A11.cell? ⟨w.heap.size, 9, none⟩ = some (.bool h.m) := (HI2.out.bp).cell 9
          have p10 : A11.cell? ⟨w.heap.size, 10, none⟩ = some (.slice h.c h.us.length h.cc) := (HI2.out.bp).cell 10
          have p11 : A11.cell? ⟨w.heap.size, 11, none⟩ = some (.slice h.d h.vs.length h.cd) := (HI2.out.bp).cell 11
          go_wp2_with fail
          refine Calls.mono HD.out ?_
          rintro e w3 ⟨g2, h2, rfl, ho, hi, hb⟩
          clear HD p0 p1 p2 p3 p4 p5 p6 p7 p8 p9 p10 p11 qA0 qA1 qA2 qA3 qA4 qA5 qA6 qA7 qA8 qA9 qA10 qA11 rA0 rA1 rA2 rA3 rA4 rA5 rA6 rA7 rA8 rA9 rA10 rA11 fA0 fA1 fA2 fA3 fA4 fA5 fA6 fA7 fA8 fA9 fA10 fA11
          obtain ⟨B0, B1, B2, B3, B4, B5, B6, B7, B8, B9, B10, B11, qB0, qB1, qB2, qB3, qB4, qB5, qB6, qB7, qB8, qB9, qB10, qB11, ⟨rB0, rB1, rB2, rB3, rB4, rB5, rB6, rB7, rB8, rB9, rB10, rB11⟩, ⟨fB0, fB1, fB2, fB3, fB4, fB5, fB6, fB7, fB8, fB9, fB10, fB11⟩, HB⟩ := rchain12 (HI2.out.bp.later hb.out HI2.out.bp.lt) (by decide) (.bool g2.n) (.slice g2.a g2.xs.length g2.ca) (.slice g2.b g2.ys.length g2.cb) (.bool g2.m) (.slice g2.c g2.us.length g2.cc) (.slice g2.d g2.vs.length g2.cd) (.bool h2.n) (.slice h2.a h2.xs.length h2.ca) (.slice h2.b h2.ys.length h2.cb) (.bool h2.m) (.slice h2.c h2.us.length h2.cc) (.slice h2.d h2.vs.length h2.cd)
          have HI3 := hid (HI2.out.sq hmb hb.out ho.out hi.out HB.out)
          clear HI2 HB ho hi hb
          go_wp2_with fail
          go_roundw
          case rel => exact ⟨T / 2, i + j, j + j, g2, h2, k2, l2, by omega, congrArg (Value.int .i64) (by omega), hs2.out, HI3⟩
          case measure => first | (simp [intOf]; done) | (simp [intOf]; omega)
        · have hT1 : T = 1 := by omega
          subst hT1
          have a := HI.out
          have HD := hid (otimes_pow HR.out i j (by omega) k l g h wr (a.om.1.sl a.vm.1) (a.om.2.sl a.vm.2) (a.sp.1.sl a.vp.1 a.bel) (a.sp.2.sl a.vp.2 a.bel) a.vm a.vp)
          clear a
          have m0 : wr.cell? ⟨w1.heap.size, 0, none⟩ = some (.bool k.n) := (HI.out.bm).cell 0
          have m1 : wr.cell? ⟨w1.heap.size, 1, none⟩ = some (.slice k.a k.xs.length k.ca) := (HI.out.bm).cell 1
          have m2 : wr.cell? ⟨w1.heap.size, 2, none⟩ = some (.slice k.b k.ys.length k.cb) := (HI.out.bm).cell 2
          have m3 : wr.cell? ⟨w1.heap.size, 3, none⟩ = some (.bool k.m) := (HI.out.bm).cell 3
          have m4 : wr.cell? ⟨w1.heap.size, 4, none⟩ = some (.slice k.c k.us.length k.cc) := (HI.out.bm).cell 4
          have m5 : wr.cell? ⟨w1.heap.size, 5, none⟩ = some (.slice k.d k.vs.length k.cd) := (HI.out.bm).cell 5
          have m6 : wr.cell? ⟨w1.heap.size, 6, none⟩ = some (.bool l.n) := (HI.out.bm).cell 6
          have m7 : wr.cell? ⟨w1.heap.size, 7, none⟩ = some (.slice l.a l.xs.length l.ca) := (HI.out.bm).cell 7
          have m8 : wr.cell? ⟨w1.heap.size, 8, none⟩ = some (.slice l.b l.ys.length l.cb) := (HI.out.bm).cell 8
          have m9 : wr.cell? ⟨w1.heap.size, 9, none⟩ = some (.bool l.m) := (HI.out.bm).cell 9
          have m10 : wr.cell? ⟨w1.heap.size, 10, none⟩ = some (.slice l.c l.us.length l.cc) := (HI.out.bm).cell 10
          have m11 : wr.cell? ⟨w1.heap.size, 11, none⟩ = some (.slice l.d l.vs.length l.cd) := (HI.out.bm).cell 11
          have p0 : wr.cell? ⟨w.heap.size, 0, none⟩ = some (.bool g.n) := (HI.out.bp).cell 0
          have p1 : wr.cell? ⟨w.heap.size, 1, none⟩ = some (.slice g.a g.xs.length g.ca) := (HI.out.bp).cell 1
          have p2 : wr.cell? ⟨w.heap.size, 2, none⟩ = some (.slice g.b g.ys.length g.cb) := (HI.out.bp).cell 2
          have p3 : wr.cell? ⟨w.heap.size, 3, none⟩ = some (.bool g.m) := (HI.out.bp).cell 3
          have p4 : wr.cell? ⟨w.heap.size, 4, none⟩ = some (.slice g.c g.us.length g.cc) := (HI.out.bp).cell 4
          have p5 : wr.cell? ⟨w.heap.size, 5, none⟩ = some (.slice g.d g.vs.length g.cd) := (HI.out.bp).cell 5
          have p6 : wr.cell? ⟨w.heap.size, 6, none⟩ = some (.bool h.n) := (HI.out.bp).cell 6
          have p7 : wr.cell? ⟨w.heap.size, 7, none⟩ = some (.slice h.a h.xs.length h.ca) := (HI.out.bp).cell 7
          have p8 : wr.cell? ⟨w.heap.size, 8, none⟩ = some (.slice h.b h.ys.length h.cb) := (HI.out.bp).cell 8
          have p9 : wr.cell? ⟨w.heap.size, 9, none⟩ = some (.bool h.m) := (HI.out.bp).cell 9
          have p10 : wr.cell? ⟨w.heap.size, 10, none⟩ = some (.slice h.c h.us.length h.cc) := (HI.out.bp).cell 10
          have p11 : wr.cell? ⟨w.heap.size, 11, none⟩ = some (.slice h.d h.vs.length h.cd) := (HI.out.bp).cell 11
          go_wp2_with fail
          refine Calls.mono HD.out ?_
          rintro e w2 ⟨k2, l2, rfl, ho, hi, hb⟩
          clear HD m0 m1 m2 m3 m4 m5 m6 m7 m8 m9 m10 m11 p0 p1 p2 p3 p4 p5 p6 p7 p8 p9 p10 p11
          obtain ⟨A0, A1, A2, A3, A4, A5, A6, A7, A8, A9, A10, A11, qA0, qA1, qA2, qA3, qA4, qA5, qA6, qA7, qA8, qA9, qA10, qA11, ⟨rA0, rA1, rA2, rA3, rA4, rA5, rA6, rA7, rA8, rA9, rA10, rA11⟩, ⟨fA0, fA1, fA2, fA3, fA4, fA5, fA6, fA7, fA8, fA9, fA10, fA11⟩, HA⟩ := rchain12 (HI.out.bm.later hb.out HI.out.bm.lt) (by decide) (.bool k2.n) (.slice k2.a k2.xs.length k2.ca) (.slice k2.b k2.ys.length k2.cb) (.bool k2.m) (.slice k2.c k2.us.length k2.cc) (.slice k2.d k2.vs.length k2.cd) (.bool l2.n) (.slice l2.a l2.xs.length l2.ca) (.slice l2.b l2.ys.length l2.cb) (.bool l2.m) (.slice l2.c l2.us.length l2.cc) (.slice l2.d l2.vs.length l2.cd)
          have HI2 := hid (HI.out.mul hmb hb.out ho.out hi.out HA.out)
          clear HI HA ho hi hb
          go_wp2_with fail
          go_roundw
          case rel => exact ⟨0, i + j, j, g, h, k2, l2, by omega, congrArg (Value.int .i64) (by omega), by omega, HI2⟩
          case measure => first | (simp [intOf]; done) | (simp [intOf]; omega)

end Go.Proofs.YtcjfbmehibhkbaaGreatDoor

/- package rotor: Power, as a complex fraction in its one form. -/
namespace Go.Proofs.YtcjfbmehibhkbaaGreatDoor
open Go.RowKit
set_option linter.unusedVariables false
set_option linter.unusedSimpArgs false

/-- A whole number's words. -/
theorem o_whole {n : Bool} {xs ys : List Int} {x : Int} (wx : Wd xs) (wy : Wd ys) (hc : rchk n xs ys = 0) (hq : rq n xs ys = (x : Rat)) : wval n xs = x ∧ Trimmed xs ∧ xs.length ≤ 2048 ∧ (n = false ∨ 0 < xs.length) := by
  obtain ⟨l1, l2, t1, t2, h0, hs, hg⟩ := rchk_ok hc
  have hp : 0 < val ys := val_pos' wy t2 h0
  have hg' : gcdI (wval n xs) (val ys) = 1 := by
    have e := gcd_sg n (val xs) (val ys)
    rw [← hg, ← e]
    rfl
  have h := fr_num hp hg'
  have hn : (rq n xs ys).num = x := by rw [hq, Rat.num_intCast]
  exact ⟨by rw [← h.1]; exact hn, t1, l1, hs⟩
/-- The number of a power in two pieces. -/
def oNum (g h : G6) (a1 : Option Addr) (c1 : Nat) (a2 : Option Addr) (c2 : Nat) (a3 : Option Addr) (c3 : Nat) (a4 : Option Addr) (c4 : Nat) : G6 := ⟨g.n, a1, c1, g.xs, a2, c2, h.xs, g.m, a3, c3, g.us, a4, c4, h.xs⟩
theorem onum_is {g h : G6} {z : Int × Int} {M : Int} (hp : OPw g h z M) (hM : 0 < M) (g1 : Int.gcd z.1 M = 1) (g2 : Int.gcd z.2 M = 1) (a1 : Option Addr) (c1 : Nat) (a2 : Option Addr) (c2 : Nat) (a3 : Option Addr) (c3 : Nat) (a4 : Option Addr) (c4 : Nat) : (oNum g h a1 c1 a2 c2 a3 c3 a4 c4).Is (Rat.divInt z.1 M) (Rat.divInt z.2 M) := by
  obtain ⟨⟨i1, i2⟩, ⟨i3, i4⟩, w1, w2, w3, w4⟩ := hp.1
  obtain ⟨⟨j1, j2⟩, _, v1, v2, _⟩ := hp.2
  obtain ⟨e1, t1, l1, s1⟩ := o_whole w1 w2 i1 i2
  obtain ⟨e2, t2, l2, s2⟩ := o_whole w3 w4 i3 i4
  obtain ⟨e3, t3, l3, s3⟩ := o_whole v1 v2 j1 j2
  have p3 := val_nonneg v1
  have hn : h.n = false := by
    cases hh : h.n
    · rfl
    · rw [hh] at e3; unfold wval at e3; simp at e3; omega
  have e3' : val h.xs = M := by rw [hn] at e3; unfold wval at e3; simpa using e3
  have h0 : 0 < h.xs.length := by
    rcases Nat.eq_zero_or_pos h.xs.length with q | q
    · rw [List.eq_nil_of_length_eq_zero q] at e3'
      have : val ([] : List Int) = 0 := rfl
      omega
    · exact q
  have gg : ∀ {n : Bool} {xs : List Int} {x : Int}, wval n xs = x → Int.gcd x M = 1 → gcdI (val xs) (val h.xs) = 1 := fun {n xs x} he hg => by
    have e := gcd_sg n (val xs) (val h.xs)
    rw [← e, e3', show sg n (val xs) = x from he]
    unfold gcdI
    rw [hg]; rfl
  refine ⟨⟨rchk_good l1 l3 t1 t3 h0 s1 (gg e1 g1), ?_⟩, ⟨rchk_good l2 l3 t2 t3 h0 s2 (gg e2 g2), ?_⟩, w1, v1, w3, v1⟩
  · show Rat.divInt (wval g.n g.xs) (val h.xs) = _
    rw [e1, e3']
  · show Rat.divInt (wval g.m g.us) (val h.xs) = _
    rw [e2, e3']

/-- What tells a complex fraction, all rows apart. -/
def OGt (w : World) (q1 q2 : Rat) (x : Ending) (w' : World) : Prop := ∃ r : G6, x = .returned (.tuple #[.agg #[.bool r.n, .slice r.a r.xs.length r.ca, .slice r.b r.ys.length r.cb, .bool r.m, .slice r.c r.us.length r.cc, .slice r.d r.vs.length r.cd], .int .i64 0]) ∧ Hid (r.Ow w' w.heap.size) ∧ Hid (r.Is q1 q2) ∧ Hid (Below w.heap.size w w') ∧ Hid (∃ W1, Cut w (.slice r.a r.xs.length r.ca) (.slice r.b r.ys.length r.cb) W1 ∧ Cut W1 (.slice r.c r.us.length r.cc) (.slice r.d r.vs.length r.cd) w')
theorem oNm_pos {f n : Int} (h : rOK f n) (t : Nat) : 0 < oNm f n ^ t := by
  obtain ⟨e, _, _, _, _, _, h5, _⟩ := o_parts h
  exact Int.pow_pos (by omega)
/-- A rotor's power from 0 on, as a fraction. -/
def oPn (f n : Int) (t : Nat) : Rat × Rat := (Rat.divInt (zpow (oRe f n, oIm f n) t).1 (oNm f n ^ t), Rat.divInt (zpow (oRe f n, oIm f n) t).2 (oNm f n ^ t))
/-- A rotor's power. -/
def oP (f n t : Int) : Rat × Rat := if 0 ≤ t then oPn f n t.toNat else oPn f (-n) (-t).toNat
theorem rOK_neg {f n : Int} (h : rOK f n) : rOK f (-n) := by
  unfold rOK at *
  rw [Int.natAbs_neg]
  exact h

set_option maxHeartbeats 6400000 in
set_option maxRecDepth 100000 in
theorem oPower_bad (f n t : Int) (w : World) (hi : in32 f n) (t0 : -9223372036854775808 ≤ t) (t1 : t ≤ 9223372036854775807) (hb : ¬ rOK f n ∨ (rOK f n ∧ (t < -1024 ∨ 1024 < t))) :
    Calls Tryz.prog 5 #[.agg #[.int .i32 f, .int .i32 n], .int .i64 t] w fun e w' => e = .returned (.tuple #[.agg #[.bool false, .slice none 0 0, .slice none 0 0, .bool false, .slice none 0 0, .slice none 0 0], .int .i64 (if rOK f n then 2 else 150)]) ∧ Below w.heap.size w w' := by
  obtain ⟨X, hX⟩ : ∃ X, (w.alloc (.cells #[.int .i32 f, .int .i32 n] 23)).alloc (.cells #[.bool false, .slice none 0 0, .slice none 0 0, .bool false, .slice none 0 0, .slice none 0 0] 31) = X := ⟨_, rfl⟩
  have HB : Hid (Below w.heap.size w X) := by rw [← hX]; exact bt (alloc_later _ _) (alloc_later _ _)
  have HR : Hid (Box X w.heap.size 23 #[.int .i32 f, .int .i32 n]) := by rw [← hX]; exact (Box.made w _ _).later (alloc_later _ _) (Box.made w _ _).lt
  have HZ : Hid (Box X (w.heap.size + 1) 31 #[.bool false, .slice none 0 0, .slice none 0 0, .bool false, .slice none 0 0, .slice none 0 0]) := by
    have q := Box.made (w.alloc (.cells #[.int .i32 f, .int .i32 n] 23)) 31 #[.bool false, .slice none 0 0, .slice none 0 0, .bool false, .slice none 0 0, .slice none 0 0]
    rw [show (w.alloc (.cells #[.int .i32 f, .int .i32 n] 23)).heap.size = w.heap.size + 1 by simp, hX] at q
    exact q
  have HC := hid (ocheck_any f n X hi)
  have k0 : X.cell? ⟨w.heap.size, 0, none⟩ = some (.int .i32 f) := HR.out.cell 0
  have k1 : X.cell? ⟨w.heap.size, 1, none⟩ = some (.int .i32 n) := HR.out.cell 1
  clear hi
  rcases hb with hb | ⟨hb, ht⟩
  · have h0 : ochk f n = 150 := by unfold ochk; rw [if_neg hb]
    rw [h0] at HC
    rw [if_neg hb]
    clear hb h0
    go_enter Tryz.func5, Tryz.ntmps5
    go_wp2_with fail
    clear hX
    refine Calls.mono HC.out ?_
    rintro e w1 ⟨rfl, hb1⟩
    have HB1 := hid hb1
    clear hb1 k0 k1 HC
    obtain ⟨A0, A1, A2, A3, A4, A5, q0, q1, q2, q3, q4, q5, ⟨r0, r1, r2, r3, r4, r5⟩, ⟨f0, f1, f2, f3, f4, f5⟩, HA⟩ := rchain6 (HZ.out.later HB1.out HZ.out.lt) (by decide) (.bool false) (.slice none 0 0) (.slice none 0 0) (.bool false) (.slice none 0 0) (.slice none 0 0)
    go_wp2_with fail
    refine bodyPost_ret (gres_run (by rfl) HA.out.1 _ (by rfl)) rfl ?_
    exact ⟨rfl, HA.out.2.2.2.1 _ _ (by omega) (bt HB.out HB1.out)⟩
  · have h0 : ochk f n = 0 := by unfold ochk; rw [if_pos hb]
    rw [h0] at HC
    rw [if_pos hb]
    clear hb h0
    rcases ht with ht | ht
    all_goals
      go_enter Tryz.func5, Tryz.ntmps5
      go_wp2_with fail
      clear hX
      refine Calls.mono HC.out ?_
      rintro e w1 ⟨rfl, hb1⟩
      have HB1 := hid hb1
      clear hb1 k0 k1 HC
      obtain ⟨A0, A1, A2, A3, A4, A5, q0, q1, q2, q3, q4, q5, ⟨r0, r1, r2, r3, r4, r5⟩, ⟨f0, f1, f2, f3, f4, f5⟩, HA⟩ := rchain6 (HZ.out.later HB1.out HZ.out.lt) (by decide) (.bool false) (.slice none 0 0) (.slice none 0 0) (.bool false) (.slice none 0 0) (.slice none 0 0)
      go_wp2_with fail
      refine bodyPost_ret (gres_run (by rfl) HA.out.1 _ (by rfl)) rfl ?_
      exact ⟨rfl, HA.out.2.2.2.1 _ _ (by omega) (bt HB.out HB1.out)⟩

set_option maxHeartbeats 6400000 in
set_option maxRecDepth 100000 in
theorem oPower_any (f n t : Int) (w : World) (hr : rOK f n) (t0 : -1024 ≤ t) (t1 : t ≤ 1024) :
    Calls Tryz.prog 5 #[.agg #[.int .i32 f, .int .i32 n], .int .i64 t] w (OGt w (oP f n t).1 (oP f n t).2) := by
  obtain ⟨X, hX⟩ : ∃ X, (w.alloc (.cells #[.int .i32 f, .int .i32 n] 23)).alloc (.cells #[.bool false, .slice none 0 0, .slice none 0 0, .bool false, .slice none 0 0, .slice none 0 0] 31) = X := ⟨_, rfl⟩
  have HB : Hid (Below w.heap.size w X) := by rw [← hX]; exact bt (alloc_later _ _) (alloc_later _ _)
  have HR : Hid (Box X w.heap.size 23 #[.int .i32 f, .int .i32 n]) := by rw [← hX]; exact (Box.made w _ _).later (alloc_later _ _) (Box.made w _ _).lt
  have HZ : Hid (Box X (w.heap.size + 1) 31 #[.bool false, .slice none 0 0, .slice none 0 0, .bool false, .slice none 0 0, .slice none 0 0]) := by
    have q := Box.made (w.alloc (.cells #[.int .i32 f, .int .i32 n] 23)) 31 #[.bool false, .slice none 0 0, .slice none 0 0, .bool false, .slice none 0 0, .slice none 0 0]
    rw [show (w.alloc (.cells #[.int .i32 f, .int .i32 n] 23)).heap.size = w.heap.size + 1 by simp, hX] at q
    exact q
  have hin : in32 f n := by unfold rOK at hr; unfold in32; omega
  have hnn : -1000 ≤ n ∧ n ≤ 1000 := by unfold rOK at hr; omega
  have HC := hid (ocheck_any f n X hin)
  have h0 : ochk f n = 0 := by unfold ochk; rw [if_pos hr]
  rw [h0] at HC
  have k0 : X.cell? ⟨w.heap.size, 0, none⟩ = some (.int .i32 f) := HR.out.cell 0
  have k1 : X.cell? ⟨w.heap.size, 1, none⟩ = some (.int .i32 n) := HR.out.cell 1
  have zz := HZ.out.lt
  by_cases ht : 0 ≤ t
  · have EP : Hid (oP f n t = oPn f n t.toNat) := by show _ = _; unfold oP; rw [if_pos ht]
    have HF := hid (fun V => ofirst_any f n V (by unfold rOK at hr; omega) (by unfold rOK at hr; omega))
    have HK := hid hr
    obtain ⟨N, hN⟩ : ∃ N : Nat, t = N := ⟨t.toNat, by omega⟩
    subst hN
    rw [Int.toNat_natCast] at EP
    have hN1 : N ≤ 1024 := by omega
    clear h0 hin hr
    go_enter Tryz.func5, Tryz.ntmps5
    go_wp2_with fail
    clear hX
    refine Calls.mono HC.out ?_
    rintro e w1 ⟨rfl, hb1⟩
    have HB1 := hid hb1
    clear hb1 k0 k1 HC
    have k0 : w1.cell? ⟨w.heap.size, 0, none⟩ = some (.int .i32 f) := (HR.out.later HB1.out HR.out.lt).cell 0
    have k1 : w1.cell? ⟨w.heap.size, 1, none⟩ = some (.int .i32 n) := (HR.out.later HB1.out HR.out.lt).cell 1
    have HD := hid (HF.out w1)
    clear HF
    go_wp2_with fail
    refine Calls.mono HD.out ?_
    rintro e w2 ⟨g, h, rfl, ho2, hg, hh, hb2⟩
    have hg' := hg.out
    have hh' := hh.out
    rw [o_div1, o_div1] at hg' hh'
    have HT := hid (oto_any f n HK.out g h N hN1 w2 (ho2.out.1.sl hg') (ho2.out.2.sl hh') ⟨hg', hh'⟩)
    clear HD hg' hh' k0 k1 hg hh
    go_wp2_with fail
    refine Calls.mono HT.out ?_
    rintro e w3 ⟨k, l, rfl, ho3, hp3, hb3⟩
    have lk := hp3.out.1.len
    have ll := hp3.out.2.len
    have sk := ho3.out.1.sl hp3.out.1
    have sl_ := ho3.out.2.sl hp3.out.2
    have HN := hid (onumber_any k l w3 sk.1 sk.2.2.1 sl_.1 (by omega) (by omega) (by omega))
    clear HT lk ll sk sl_
    go_wp2_with fail
    refine Calls.mono HN.out ?_
    rintro e w4 ⟨a1, c1, a2, c2, a3, c3, a4, c4, rfl, ho4, hb4, hc4⟩
    clear HN
    have HBB := hid (bt HB1.out (bt hb2.out (bt hb3.out hb4.out)))
    obtain ⟨A0, A1, A2, A3, A4, A5, q0, q1, q2, q3, q4, q5, ⟨r0, r1, r2, r3, r4, r5⟩, ⟨f0, f1, f2, f3, f4, f5⟩, HA⟩ := rchain6 (HZ.out.later HBB.out HZ.out.lt) (by decide) (.bool k.n) (.slice a1 k.xs.length c1) (.slice a2 l.xs.length c2) (.bool k.m) (.slice a3 k.us.length c3) (.slice a4 l.xs.length c4)
    go_wp2_with fail
    have z1 := HB.out.size
    have z2 := HB1.out.size
    have z3 := hb2.out.size
    have z5 := hb3.out.size
    have P := HA.out.2.2.1
    have z4 := HA.out.2.2.2.2
    obtain ⟨W1, hc1, hc2⟩ := hc4.out
    refine bodyPost_ret (gres_run (by rfl) HA.out.1 _ (by rfl)) rfl ?_
    have hl := o_low HK.out N
    rw [EP.out]
    exact ⟨oNum k l a1 c1 a2 c2 a3 c3 a4 c4, rfl, ⟨P _ _ _ _ (owns_base ho4.out.1 (by omega)), P _ _ _ _ (owns_base ho4.out.2.1 (by omega)), P _ _ _ _ (owns_base ho4.out.2.2.1 (by omega)), P _ _ _ _ (owns_base ho4.out.2.2.2 (by omega))⟩, onum_is hp3.out (oNm_pos HK.out N) hl.1 hl.2 _ _ _ _ _ _ _ _, HA.out.2.2.2.1 _ _ (by omega) (bt HB.out HBB.out), W1, hc1.up (by omega) (Nat.le_refl _), hc2.up (Nat.le_refl _) (by omega)⟩
  · have EP : Hid (oP f n t = oPn f (-n) (-t).toNat) := by show _ = _; unfold oP; rw [if_neg ht]
    have hr2 := rOK_neg hr
    have HF := hid (fun V => ofirst_any f (-n) V (by unfold rOK at hr2; omega) (by unfold rOK at hr2; omega))
    have HK := hid hr2
    obtain ⟨N, hN⟩ : ∃ N : Nat, -t = N := ⟨(-t).toNat, by omega⟩
    have hN' : t = -(N : Int) := by omega
    subst hN'
    rw [Int.neg_neg, Int.toNat_natCast] at EP
    have hN1 : N ≤ 1024 := by omega
    have hN0 : 0 < N := by omega
    clear h0 hin hr hr2 hN
    go_enter Tryz.func5, Tryz.ntmps5
    go_wp2_with fail
    clear hX
    refine Calls.mono HC.out ?_
    rintro e w1 ⟨rfl, hb1⟩
    have HB1 := hid hb1
    clear hb1 k0 k1 HC
    have HR1 := hid (HR.out.later HB1.out HR.out.lt)
    have k0 : w1.cell? ⟨w.heap.size, 0, none⟩ = some (.int .i32 f) := HR1.out.cell 0
    have k1 : w1.cell? ⟨w.heap.size, 1, none⟩ = some (.int .i32 n) := HR1.out.cell 1
    have kf := HR1.out.free 1
    have HR2 : Hid (Box (w1.setCell ⟨w.heap.size, 1, none⟩ (.int .i32 (-n))) w.heap.size 23 #[.int .i32 f, .int .i32 (-n)]) := HR1.out.set 1 _
    have HZ2 : Hid (Box (w1.setCell ⟨w.heap.size, 1, none⟩ (.int .i32 (-n))) (w.heap.size + 1) 31 #[.bool false, .slice none 0 0, .slice none 0 0, .bool false, .slice none 0 0, .slice none 0 0]) := (HZ.out.later HB1.out HZ.out.lt).other ⟨w.heap.size, 1, none⟩ _ (by show w.heap.size + 1 ≠ w.heap.size; omega)
    have HBW : Hid (Below w.heap.size w (w1.setCell ⟨w.heap.size, 1, none⟩ (.int .i32 (-n)))) := (bt HB.out HB1.out).setCell (p := ⟨w.heap.size, 1, none⟩) (Nat.le_refl _) _
    obtain ⟨V, hV⟩ : ∃ V, w1.setCell ⟨w.heap.size, 1, none⟩ (.int .i32 (-n)) = V := ⟨_, rfl⟩
    rw [hV] at HR2 HZ2 HBW
    have j0 : V.cell? ⟨w.heap.size, 0, none⟩ = some (.int .i32 f) := HR2.out.cell 0
    have j1 : V.cell? ⟨w.heap.size, 1, none⟩ = some (.int .i32 (-n)) := HR2.out.cell 1
    have HD := hid (HF.out V)
    clear HF
    go_wp2_with fail
    refine Calls.mono HD.out ?_
    rintro e w2 ⟨g, h, rfl, ho2, hg, hh, hb2⟩
    have hg' := hg.out
    have hh' := hh.out
    rw [o_div1, o_div1] at hg' hh'
    have HT := hid (oto_any f (-n) HK.out g h N hN1 w2 (ho2.out.1.sl hg') (ho2.out.2.sl hh') ⟨hg', hh'⟩)
    clear HD hg' hh' k0 k1 kf hV j0 j1 hg hh
    go_wp2_with fail
    refine Calls.mono HT.out ?_
    rintro e w3 ⟨k, l, rfl, ho3, hp3, hb3⟩
    have lk := hp3.out.1.len
    have ll := hp3.out.2.len
    have sk := ho3.out.1.sl hp3.out.1
    have sl_ := ho3.out.2.sl hp3.out.2
    have HN := hid (onumber_any k l w3 sk.1 sk.2.2.1 sl_.1 (by omega) (by omega) (by omega))
    clear HT lk ll sk sl_
    go_wp2_with fail
    refine Calls.mono HN.out ?_
    rintro e w4 ⟨a1, c1, a2, c2, a3, c3, a4, c4, rfl, ho4, hb4, hc4⟩
    clear HN
    have HBB := hid (bt hb2.out (bt hb3.out hb4.out))
    obtain ⟨A0, A1, A2, A3, A4, A5, q0, q1, q2, q3, q4, q5, ⟨r0, r1, r2, r3, r4, r5⟩, ⟨f0, f1, f2, f3, f4, f5⟩, HA⟩ := rchain6 (HZ2.out.later HBB.out HZ2.out.lt) (by decide) (.bool k.n) (.slice a1 k.xs.length c1) (.slice a2 l.xs.length c2) (.bool k.m) (.slice a3 k.us.length c3) (.slice a4 l.xs.length c4)
    go_wp2_with fail
    have z1 := HBW.out.size
    have z3 := hb2.out.size
    have z5 := hb3.out.size
    have P := HA.out.2.2.1
    have z4 := HA.out.2.2.2.2
    obtain ⟨W1, hc1, hc2⟩ := hc4.out
    refine bodyPost_ret (gres_run (by rfl) HA.out.1 _ (by rfl)) rfl ?_
    have hl := o_low HK.out N
    rw [EP.out]
    exact ⟨oNum k l a1 c1 a2 c2 a3 c3 a4 c4, rfl, ⟨P _ _ _ _ (owns_base ho4.out.1 (by omega)), P _ _ _ _ (owns_base ho4.out.2.1 (by omega)), P _ _ _ _ (owns_base ho4.out.2.2.1 (by omega)), P _ _ _ _ (owns_base ho4.out.2.2.2 (by omega))⟩, onum_is hp3.out (oNm_pos HK.out N) hl.1 hl.2 _ _ _ _ _ _ _ _, HA.out.2.2.2.1 _ _ (by omega) (bt HBW.out HBB.out), W1, hc1.up (by omega) (Nat.le_refl _), hc2.up (Nat.le_refl _) (by omega)⟩
end Go.Proofs.YtcjfbmehibhkbaaGreatDoor

/- No program: a rotor's powers are a group; none but the power 0 is 1; how long they are. -/
namespace Go.Proofs.YtcjfbmehibhkbaaGreatDoor
open Go.RowKit
set_option linter.unusedVariables false

/-- Neither part of a fraction is above this. -/
def OHg (q : Rat) (B : Nat) : Prop := q.num.natAbs ≤ B ∧ q.den ≤ B
theorem OHg.up {q : Rat} {B C : Nat} (h : OHg q B) (hc : B ≤ C) : OHg q C := ⟨Nat.le_trans h.1 hc, Nat.le_trans h.2 hc⟩
theorem ohg_divInt {n : Int} {d : Nat} {B : Nat} (hd : d ≠ 0) (h1 : n.natAbs ≤ B) (h2 : d ≤ B) : OHg (Rat.divInt n d) B := by
  have e : Rat.divInt n d = mkRat n d := Rat.divInt_ofNat n d
  rw [e]
  have e2 := Rat.normalize_eq_mkRat (num := n) (den := d) hd
  rw [← e2, Rat.normalize_eq]
  exact ⟨by
    show (n / _).natAbs ≤ B
    exact Nat.le_trans (by rw [Int.natAbs_ediv_of_dvd (Int.ofNat_dvd_left.2 (Nat.gcd_dvd_left _ _)), Int.natAbs_natCast]; exact Nat.div_le_self _ _) h1, Nat.le_trans (Nat.div_le_self _ _) h2⟩
theorem OHg.neg {q : Rat} {B : Nat} (h : OHg q B) : OHg (-q) B := ⟨by show (-q).num.natAbs ≤ B; rw [Rat.neg_num, Int.natAbs_neg]; exact h.1, by show (-q).den ≤ B; rw [Rat.neg_den]; exact h.2⟩
theorem OHg.mul {p q : Rat} {B C : Nat} (h : OHg p B) (g : OHg q C) : OHg (p * q) (B * C) := by
  have e : p * q = Rat.divInt (p.num * q.num) ((p.den * q.den : Nat) : Int) := by
    have e1 := Rat.divInt_mul_divInt p.num q.num (d₁ := p.den) (d₂ := q.den)
    rw [Rat.num_divInt_den, Rat.num_divInt_den] at e1
    rw [e1]; norm_cast
  rw [e]
  exact ohg_divInt (Nat.mul_ne_zero p.den_nz q.den_nz) (by rw [Int.natAbs_mul]; exact Nat.mul_le_mul h.1 g.1) (Nat.mul_le_mul h.2 g.2)
theorem OHg.add {p q : Rat} {B C : Nat} (h : OHg p B) (g : OHg q C) : OHg (p + q) (2 * (B * C)) := by
  have e : p + q = Rat.divInt (p.num * q.den + q.num * p.den) ((p.den * q.den : Nat) : Int) := by
    have e1 := Rat.divInt_add_divInt p.num q.num (d₁ := p.den) (d₂ := q.den) (by have := p.den_nz; omega) (by have := q.den_nz; omega)
    rw [Rat.num_divInt_den, Rat.num_divInt_den] at e1
    rw [e1]; norm_cast
  rw [e]
  have h1 : (p.num * q.den).natAbs ≤ B * C := by rw [Int.natAbs_mul, Int.natAbs_natCast]; exact Nat.mul_le_mul h.1 g.2
  have h2 : (q.num * p.den).natAbs ≤ B * C := by rw [Int.natAbs_mul, Int.natAbs_natCast, Nat.mul_comm B C]; exact Nat.mul_le_mul g.1 h.2
  have h3 : p.den * q.den ≤ B * C := Nat.mul_le_mul h.2 g.2
  exact ohg_divInt (Nat.mul_ne_zero p.den_nz q.den_nz) (Nat.le_trans (Int.natAbs_add_le _ _) (by omega)) (by omega)
theorem OHg.sub {p q : Rat} {B C : Nat} (h : OHg p B) (g : OHg q C) : OHg (p - q) (2 * (B * C)) := by
  rw [Rat.sub_eq_add_neg]
  exact h.add g.neg
theorem OHg.short {q : Rat} {B : Nat} (h : OHg q B) (hb : B < oL) : ¬ rlong q := by
  have e := oL_lt
  have h1 := h.1
  have h2 := h.2
  rintro (hh | hh) <;> omega
end Go.Proofs.YtcjfbmehibhkbaaGreatDoor

/- gauss.Same, Norm, Conj, Mul of good numbers, as letters; the laws' unit and lives of layer 5. (tools/mkrq6.py) -/
namespace Go.Proofs.YtcjfbmehibhkbaaGreatDoor
open Go.RowKit
set_option linter.unusedVariables false
set_option linter.unusedSimpArgs false

theorem o_sz1 {x : Int} (h : 0 < x) : sz [x] = 1 := by
  have hx : x ≠ 0 := by omega
  simp [sz, szTo, hx]
theorem o_val1 (x : Int) : val [x] = x := by simp [val, valTo]
/-- The words of a small whole number. -/
theorem o_word {xs : List Int} {x : Int} (wx : Wd xs) (tx : Trimmed xs) (h : val xs = x) (h0 : 0 < x) (h1 : x < 4294967296) : xs = [x] := by
  refine trimmed_eq wx ?_ tx ?_ ?_
  · intro z hz
    have : z = x := by simpa using hz
    omega
  · unfold Trimmed
    exact o_sz1 h0
  · rw [h]
    exact (o_val1 x).symm
theorem o_pos1 {n : Bool} {xs : List Int} {x : Int} (wx : Wd xs) (tx : Trimmed xs) (h : wval n xs = x) (h0 : 0 < x) (h1 : x < 4294967296) : n = false ∧ xs = [x] := by
  have p := val_nonneg wx
  have hn : n = false := by
    cases n
    · rfl
    · unfold wval at h; simp at h; omega
  subst hn
  have h' : val xs = x := by unfold wval at h; simpa using h
  exact ⟨rfl, o_word wx tx h' h0 h1⟩
end Go.Proofs.YtcjfbmehibhkbaaGreatDoor

/- package rotor: Of told by its words; Find of a rotor's number. (tools/mkrr2.py) -/
namespace Go.Proofs.YtcjfbmehibhkbaaGreatDoor
open Go.RowKit
set_option linter.unusedVariables false
set_option linter.unusedSimpArgs false

/-- One word with its sign. -/
theorem o_word1 {n : Bool} {xs : List Int} {X : Int} (wx : Wd xs) (tx : Trimmed xs) (h : wval n xs = X) (h0 : X ≠ 0) (h1 : X.natAbs < 4294967296) : ∃ x, xs = [x] ∧ sgw n x = X := by
  have p := val_nonneg wx
  cases n
  · have h' : val xs = X := by unfold wval at h; simpa using h
    exact ⟨X, o_word wx tx h' (by omega) (by omega), rfl⟩
  · have h' : val xs = -X := by unfold wval at h; simp at h; omega
    exact ⟨-X, o_word wx tx h' (by omega) (by omega), by unfold sgw; simp⟩
theorem o_nz {f n : Int} (h : rOK f n) : oRe f n ≠ 0 ∧ oIm f n ≠ 0 ∧ (oRe f n).natAbs < 4294967296 ∧ (oIm f n).natAbs < 4294967296 ∧ 0 < oNm f n ∧ oNm f n < 4294967296 := by
  obtain ⟨e, he, h1, h2, h3, h4, h5, h6, g1, g2⟩ := o_parts h
  have hs := o_size h
  have l := o_low h 1
  rw [zpow_one, Int.pow_one] at l
  have b := o_big h 1
  rw [zpow_one, Nat.pow_one] at b
  refine ⟨fun z => ?_, fun z => ?_, ?_, ?_, by omega, by omega⟩
  · have q := l.1
    rw [show (oRe f n, oIm f n).1 = oRe f n from rfl, z, Int.gcd_zero_left] at q
    omega
  · have q := l.2
    rw [show (oRe f n, oIm f n).2 = oIm f n from rfl, z, Int.gcd_zero_left] at q
    omega
  · have q := b.1
    exact Nat.lt_of_le_of_lt q (by omega)
  · have q := b.2
    exact Nat.lt_of_le_of_lt q (by omega)
end Go.Proofs.YtcjfbmehibhkbaaGreatDoor

/- Powers of a rotor as the document makes them: (far + i near) to the power 2t, over (far far + near near) to the power t. No program. -/
namespace Go.Proofs.YtcjfbmehibhkbaaGreatDoor
open Go.RowKit
set_option linter.unusedVariables false

end Go.Proofs.YtcjfbmehibhkbaaGreatDoor

/- What the document's part tells is a fraction in its one form. No program. -/
namespace Go.Proofs.YtcjfbmehibhkbaaGreatDoor
open Go.RowKit
set_option linter.unusedVariables false

end Go.Proofs.YtcjfbmehibhkbaaGreatDoor

/- Fractions that the document's part tells; the last statement of the document's Power. (tools/mkrp9.py) -/
namespace Go.Proofs.YtcjfbmehibhkbaaGreatDoor
open Go.RowKit
set_option linter.unusedVariables false
set_option linter.unusedSimpArgs false

/-- A fraction that stands, in its one form. -/
def PF (V : World) (B : Nat) (n : Bool) (a : Option Addr) (k c : Nat) (b : Option Addr) (j d : Nat) (q : Rat) : Prop := ∃ zs ds : List Int, k = zs.length ∧ j = ds.length ∧ V.ownsRow B 38 1 (.slice a k c) k (zs.map (Value.int .u32)) ∧ V.ownsRow B 38 1 (.slice b j d) j (ds.map (Value.int .u32)) ∧ Wd zs ∧ Wd ds ∧ rchk n zs ds = 0 ∧ rq n zs ds = q
theorem PF.later {V V' : World} {B : Nat} {n : Bool} {a : Option Addr} {k c : Nat} {b : Option Addr} {j d : Nat} {q : Rat} (h : PF V B n a k c b j d q) (hb : Below V.heap.size V V') : PF V' B n a k c b j d q := by
  obtain ⟨zs, ds, h1, h2, h3, h4, h5⟩ := h
  exact ⟨zs, ds, h1, h2, owns_later h3 hb, owns_later h4 hb, h5⟩
end Go.Proofs.YtcjfbmehibhkbaaGreatDoor

/- The document's rotor (slackwaterref05): gcd, Check, of every rotor: the same answers as the program's. -/
namespace Go.Proofs.YtcjfbmehibhkbaaGreatDoor
open Go.RowKit
set_option linter.unusedVariables false

end Go.Proofs.YtcjfbmehibhkbaaGreatDoor

/- The document's Power of a rotor that may be, of every power that may be: it tells what the program's tells. (tools/mkrpa.py) -/
namespace Go.Proofs.YtcjfbmehibhkbaaGreatDoor
open Go.RowKit
set_option linter.unusedVariables false
set_option linter.unusedSimpArgs false

theorem box_ne {V : World} {b b' t t' : Nat} {vs vs' : Array Value} (h : Box V b t vs) (g : Box V b' t' vs') (hne : t ≠ t') : b ≠ b' := by
  rintro rfl
  have e := h.symm.trans g
  injection e with e
  injection e with _ e
  exact hne e
theorem NB.chain {V A : World} {b b' : Nat} {t : Int} (h : NB V b' t) (hne : b' ≠ b) (c1 : ∀ p t' vs, p ≠ b → Box V p t' vs → Box A p t' vs) (c2 : ∀ base v n xs, V.ownsRow base 38 1 v n xs → A.ownsRow base 38 1 v n xs) : NB A b' t := by
  obtain ⟨n, a, k, c, h1, xs, e, h2, h3⟩ := h
  exact ⟨n, a, k, c, c1 _ _ _ hne h1, xs, e, c2 _ _ _ _ h2, h3⟩
theorem DW.chain {V A : World} {n : Bool} {a : Option Addr} {k c : Nat} {t : Int} (h : DW V n a k c t) (c2 : ∀ base v n xs, V.ownsRow base 38 1 v n xs → A.ownsRow base 38 1 v n xs) : DW A n a k c t := by
  obtain ⟨xs, e, h2, h3⟩ := h
  exact ⟨xs, e, c2 _ _ _ _ h2, h3⟩
/-- What stands in the loop of the document's Power. -/
structure PI (w : World) (b4 b7 b8 b9 b10 b11 b12 : Nat) (f n d re im de : Int) (V : World) : Prop where
  bel : Below w.heap.size w V
  bx : Box V b4 31 #[.bool false, .slice none 0 0, .slice none 0 0, .bool false, .slice none 0 0, .slice none 0 0]
  h7 : NB V b7 f
  h8 : NB V b8 n
  h9 : NB V b9 d
  h10 : NB V b10 re
  h11 : NB V b11 im
  h12 : NB V b12 de
  d1 : b7 ≠ b10 ∧ b8 ≠ b10 ∧ b9 ≠ b10 ∧ b11 ≠ b10 ∧ b12 ≠ b10
  d2 : b7 ≠ b11 ∧ b8 ≠ b11 ∧ b9 ≠ b11 ∧ b12 ≠ b11
  d3 : b7 ≠ b12 ∧ b8 ≠ b12 ∧ b9 ≠ b12
  le : w.heap.size ≤ b10 ∧ w.heap.size ≤ b11 ∧ w.heap.size ≤ b12
theorem PI.n4 {w : World} {b4 b7 b8 b9 b10 b11 b12 : Nat} {f n d re im de : Int} {V : World} (h : PI w b4 b7 b8 b9 b10 b11 b12 f n d re im de V) : b10 ≠ b4 ∧ b11 ≠ b4 ∧ b12 ≠ b4 := by
  obtain ⟨_, _, _, _, x, _⟩ := h.h10
  obtain ⟨_, _, _, _, y, _⟩ := h.h11
  obtain ⟨_, _, _, _, z, _⟩ := h.h12
  exact ⟨box_ne x h.bx (by decide), box_ne y h.bx (by decide), box_ne z h.bx (by decide)⟩
/-- A round of the loop: two numbers are made, and moved. -/
theorem PI.moved {w : World} {b4 b7 b8 b9 b10 b11 b12 : Nat} {f n d re im de : Int} {V V2 F : World} {x y : Int} (h : PI w b4 b7 b8 b9 b10 b11 b12 f n d re im de V) (hb : Below V.heap.size V V2) (g : NB F b10 x ∧ NB F b11 y ∧ (∀ b t, b ≠ b10 → b ≠ b11 → NB V2 b t → NB F b t) ∧ (∀ b t vs, b ≠ b10 → b ≠ b11 → Box V2 b t vs → Box F b t vs) ∧ (∀ B x, B ≤ b10 → B ≤ b11 → Below B x V2 → Below B x F) ∧ F.heap.size = V2.heap.size) : PI w b4 b7 b8 b9 b10 b11 b12 f n d x y de F where
  bel := g.2.2.2.2.1 _ _ h.le.1 h.le.2.1 (bt h.bel hb)
  bx := g.2.2.2.1 _ _ _ (Ne.symm h.n4.1) (Ne.symm h.n4.2.1) (h.bx.later hb h.bx.lt)
  h7 := g.2.2.1 _ _ h.d1.1 h.d2.1 (h.h7.later hb)
  h8 := g.2.2.1 _ _ h.d1.2.1 h.d2.2.1 (h.h8.later hb)
  h9 := g.2.2.1 _ _ h.d1.2.2.1 h.d2.2.2.1 (h.h9.later hb)
  h10 := g.1
  h11 := g.2.1
  h12 := g.2.2.1 _ _ h.d1.2.2.2.2 h.d2.2.2.2 (h.h12.later hb)
  d1 := h.d1
  d2 := h.d2
  d3 := h.d3
  le := h.le
theorem PI.den {w : World} {b4 b7 b8 b9 b10 b11 b12 : Nat} {f n d re im de : Int} {V V2 A : World} {z : Int} {n' : Bool} {a : Option Addr} {k c : Nat} (h : PI w b4 b7 b8 b9 b10 b11 b12 f n d re im de V) (hb : Below V.heap.size V V2) (g : DW V2 n' a k c z) (HA : Box A b12 78 #[.bool n', .slice a k c] ∧ (∀ p t' vs, p ≠ b12 → Box V2 p t' vs → Box A p t' vs) ∧ (∀ base v n xs, V2.ownsRow base 38 1 v n xs → A.ownsRow base 38 1 v n xs) ∧ (∀ B x, B ≤ b12 → Below B x V2 → Below B x A) ∧ A.heap.size = V2.heap.size) : PI w b4 b7 b8 b9 b10 b11 b12 f n d re im z A where
  bel := HA.2.2.2.1 _ _ h.le.2.2 (bt h.bel hb)
  bx := HA.2.1 _ _ _ (Ne.symm h.n4.2.2) (h.bx.later hb h.bx.lt)
  h7 := (h.h7.later hb).chain h.d3.1 HA.2.1 HA.2.2.1
  h8 := (h.h8.later hb).chain h.d3.2.1 HA.2.1 HA.2.2.1
  h9 := (h.h9.later hb).chain h.d3.2.2 HA.2.1 HA.2.2.1
  h10 := (h.h10.later hb).chain (Ne.symm h.d1.2.2.2.2) HA.2.1 HA.2.2.1
  h11 := (h.h11.later hb).chain (Ne.symm h.d2.2.2.2) HA.2.1 HA.2.2.1
  h12 := ⟨n', a, k, c, HA.1, g.chain HA.2.2.1⟩
  d1 := h.d1
  d2 := h.d2
  d3 := h.d3
  le := h.le

end Go.Proofs.YtcjfbmehibhkbaaGreatDoor

/- What the program and the document tell of any rotor and any power, refused or not, each by one contract. -/
namespace Go.Proofs.YtcjfbmehibhkbaaGreatDoor
open Go.RowKit
set_option linter.unusedVariables false
set_option linter.unusedSimpArgs false

theorem pgood_same {n m : Bool} {xs ys us vs : List Int} (wx : Wd xs) (wy : Wd ys) (wu : Wd us) (wv : Wd vs) (a2 : rchk n xs ys = 0) (b2 : rchk m us vs = 0) (a3 : rq n xs ys = rq m us vs) : n = m ∧ xs = us ∧ ys = vs := by
  obtain ⟨_, _, tx, ty, y0, sx, gx⟩ := rchk_ok a2
  obtain ⟨_, _, tu, tv, v0, su, gu⟩ := rchk_ok b2
  have py := val_pos' wy ty y0
  have pv := val_pos' wv tv v0
  have e1 := fr_inj (x := wval n xs) (d := val ys) (y := wval m us) (e := val vs) (by omega) (by rw [show wval n xs = sg n (val xs) from rfl, gcd_sg]; exact gx) (by omega) (by rw [show wval m us = sg m (val us) from rfl, gcd_sg]; exact gu) a3
  have e2 : n = m ∧ xs = us := by
    have x0 := val_nonneg wx
    have u0 := val_nonneg wu
    have e3 := e1.1
    cases n <;> cases m
    · exact ⟨rfl, trimmed_eq wx wu tx tu e3⟩
    · have e4 : val xs = -(val us) := e3
      have := val_pos' wu tu (su.elim (fun e => by cases e) id)
      omega
    · have e4 : -(val xs) = val us := e3
      have := val_pos' wx tx (sx.elim (fun e => by cases e) id)
      omega
    · have e4 : -(val xs) = -(val us) := e3
      exact ⟨rfl, trimmed_eq wx wu tx tu (by omega)⟩
  exact ⟨e2.1, e2.2, trimmed_eq wy wv ty tv e1.2⟩
/-- Nothing. -/
def gZ : G6 := ⟨false, none, 0, [], none, 0, [], false, none, 0, [], none, 0, []⟩
/-- What is told: this number where the code is 0, else nothing. -/
def Oq (E : Int) (q1 q2 : Rat) (r : G6) : Prop := (E = 0 ∧ r.Is q1 q2) ∨ (E ≠ 0 ∧ r = gZ)
theorem Oq.wd {E : Int} {q1 q2 : Rat} {r : G6} (h : Oq E q1 q2 r) : (Wd r.xs ∧ Wd r.ys ∧ Wd r.us ∧ Wd r.vs) ∧ r.xs.length ≤ 2048 ∧ r.ys.length ≤ 2048 ∧ r.us.length ≤ 2048 ∧ r.vs.length ≤ 2048 := by
  rcases h with ⟨_, h⟩ | ⟨_, rfl⟩
  · exact ⟨h.2.2, h.len⟩
  · exact ⟨⟨Wd.nil, Wd.nil, Wd.nil, Wd.nil⟩, by decide⟩
theorem Oq.sl {E : Int} {q1 q2 : Rat} {r : G6} (h : Oq E q1 q2 r) {V : World} {base : Nat} (o : r.Ow V base) : r.Sl4 V := ⟨Sl.own o.1 h.wd.1.1, Sl.own o.2.1 h.wd.1.2.1, Sl.own o.2.2.1 h.wd.1.2.2.1, Sl.own o.2.2.2 h.wd.1.2.2.2⟩
theorem Oq.one {E : Int} {q1 q2 : Rat} {r s : G6} (h : Oq E q1 q2 r) (g : Oq E q1 q2 s) : r.n = s.n ∧ r.xs = s.xs ∧ r.ys = s.ys ∧ r.m = s.m ∧ r.us = s.us ∧ r.vs = s.vs := by
  rcases h with ⟨e, h⟩ | ⟨e, rfl⟩
  · rcases g with ⟨_, g⟩ | ⟨e', _⟩
    · obtain ⟨a1, a2, a3⟩ := pgood_same h.2.2.1 h.2.2.2.1 g.2.2.1 g.2.2.2.1 h.1.1 g.1.1 (h.1.2.trans g.1.2.symm)
      obtain ⟨b1, b2, b3⟩ := pgood_same h.2.2.2.2.1 h.2.2.2.2.2 g.2.2.2.2.1 g.2.2.2.2.2 h.2.1.1 g.2.1.1 (h.2.1.2.trans g.2.1.2.symm)
      exact ⟨a1, a2, a3, b1, b2, b3⟩
    · exact absurd e e'
  · rcases g with ⟨e', _⟩ | ⟨_, rfl⟩
    · exact absurd e' e
    · exact ⟨rfl, rfl, rfl, rfl, rfl, rfl⟩
/-- The same of the kit's SameGauss: two that are told alike are the same. -/
theorem Oq.same {E : Int} {q1 q2 : Rat} {r s : G6} (h : Oq E q1 q2 r) (g : Oq E q1 q2 s) (V : World) (o1 : r.Sl4 V) (o2 : s.Sl4 V) :
    Calls Tryz.prog 23 #[.agg #[.bool r.n, .slice r.a r.xs.length r.ca, .slice r.b r.ys.length r.cb, .bool r.m, .slice r.c r.us.length r.cc, .slice r.d r.vs.length r.cd], .agg #[.bool s.n, .slice s.a s.xs.length s.ca, .slice s.b s.ys.length s.cb, .bool s.m, .slice s.c s.us.length s.cc, .slice s.d s.vs.length s.cd]] V fun e w' => e = .returned (.bool true) ∧ Below V.heap.size V w' := by
  obtain ⟨e1, e2, e3, e4, e5, e6⟩ := h.one g
  have l := h.wd.2
  obtain ⟨n, a, ca, xs, b, cb, ys, m, c, cc, us, d, cd, vs⟩ := r
  obtain ⟨n2, a2, ca2, xs2, b2, cb2, ys2, m2, c2, cc2, us2, d2, cd2, vs2⟩ := s
  simp only at e1 e2 e3 e4 e5 e6 l ⊢
  subst e1 e2 e3 e4 e5 e6
  exact ksameGauss_eq n a ca xs b cb ys m c cc us d cd vs a2 ca2 b2 cb2 c2 cc2 d2 cd2 V o1.1 o1.2.1 o1.2.2.1 o1.2.2.2 o2.1 o2.2.1 o2.2.2.1 o2.2.2.2 (by omega) (by omega) (by omega) (by omega)
/-- What is told, in new memory; with where its rows lie. -/
def OGq (w : World) (E : Int) (q1 q2 : Rat) (x : Ending) (w' : World) : Prop := ∃ r : G6, x = .returned (.tuple #[.agg #[.bool r.n, .slice r.a r.xs.length r.ca, .slice r.b r.ys.length r.cb, .bool r.m, .slice r.c r.us.length r.cc, .slice r.d r.vs.length r.cd], .int .i64 E]) ∧ Hid (r.Ow w' w.heap.size) ∧ Hid (Oq E q1 q2 r) ∧ Hid (Below w.heap.size w w') ∧ Hid (∃ W1, Cut w (.slice r.a r.xs.length r.ca) (.slice r.b r.ys.length r.cb) W1 ∧ Cut W1 (.slice r.c r.us.length r.cc) (.slice r.d r.vs.length r.cd) w')
theorem gZ_ow (V : World) (base : Nat) : gZ.Ow V base := ⟨World.ownsRow_nil _ _ _ _, World.ownsRow_nil _ _ _ _, World.ownsRow_nil _ _ _ _, World.ownsRow_nil _ _ _ _⟩
theorem pcut_none (w w' : World) (h : w.heap.size ≤ w'.heap.size) : Cut w (.slice none 0 0) (.slice none 0 0) w' := ⟨w.heap.size, Nat.le_refl _, h, fun g hg => by simp [Value.ownBlock] at hg, fun g hg => by simp [Value.ownBlock] at hg⟩
theorem ogq_bad {w : World} {E : Int} {q1 q2 : Rat} {w' : World} (h : E ≠ 0) (hb : Below w.heap.size w w') : OGq w E q1 q2 (.returned (.tuple #[.agg #[.bool false, .slice none 0 0, .slice none 0 0, .bool false, .slice none 0 0, .slice none 0 0], .int .i64 E])) w' := ⟨gZ, rfl, gZ_ow _ _, .inr ⟨h, rfl⟩, hb, w', pcut_none _ _ hb.size, pcut_none _ _ (Nat.le_refl _)⟩
theorem oP_first (f n : Int) : oP f n 1 = (Rat.divInt (oRe f n) (oNm f n), Rat.divInt (oIm f n) (oNm f n)) := by
  have e : oP f n 1 = oPn f n 1 := by unfold oP; rw [if_pos (by decide)]; rfl
  rw [e]
  unfold oPn
  rw [zpow_one, Int.pow_one]
set_option maxHeartbeats 3200000 in
set_option maxRecDepth 100000 in
theorem oOfQ (f n : Int) (w : World) (hi : in32 f n) :
    Calls Tryz.prog 17 #[.agg #[.int .i32 f, .int .i32 n]] w (OGq w (ochk f n) (oP f n 1).1 (oP f n 1).2) := by
  by_cases hr : rOK f n
  · have e : ochk f n = 0 := by unfold ochk; rw [if_pos hr]
    have hl := o_low hr 1
    have hp := oNm_pos hr 1
    rw [zpow_one, Int.pow_one] at hl
    rw [Int.pow_one] at hp
    rw [e, oP_first]
    refine Calls.mono (oOf_good f n w hr) ?_
    rintro x w' ⟨g, h, a1, c1, a2, c2, a3, c3, a4, c4, rfl, o, ig, ih, hb, hc⟩
    have ig' := ig.out
    have ih' := ih.out
    rw [o_div1, o_div1] at ig' ih'
    have q := onum_is (g := g) (h := h) (z := (oRe f n, oIm f n)) (M := oNm f n) ⟨ig', ih'⟩ hp hl.1 hl.2 a1 c1 a2 c2 a3 c3 a4 c4
    exact ⟨oNum g h a1 c1 a2 c2 a3 c3 a4 c4, rfl, o, .inl ⟨rfl, q⟩, hb, hc⟩
  · have e : ochk f n = 150 := by unfold ochk; rw [if_neg hr]
    obtain ⟨X, hX⟩ : ∃ X, (w.alloc (.cells #[.int .i32 f, .int .i32 n] 23)).alloc (.cells #[.bool false, .slice none 0 0, .slice none 0 0, .bool false, .slice none 0 0, .slice none 0 0] 31) = X := ⟨_, rfl⟩
    have HB : Hid (Below w.heap.size w X) := by rw [← hX]; exact bt (alloc_later _ _) (alloc_later _ _)
    have HR : Hid (Box X w.heap.size 23 #[.int .i32 f, .int .i32 n]) := by rw [← hX]; exact (Box.made w _ _).later (alloc_later _ _) (Box.made w _ _).lt
    have HZ : Hid (Box X (w.heap.size + 1) 31 #[.bool false, .slice none 0 0, .slice none 0 0, .bool false, .slice none 0 0, .slice none 0 0]) := by
      have q := Box.made (w.alloc (.cells #[.int .i32 f, .int .i32 n] 23)) 31 #[.bool false, .slice none 0 0, .slice none 0 0, .bool false, .slice none 0 0, .slice none 0 0]
      rw [show (w.alloc (.cells #[.int .i32 f, .int .i32 n] 23)).heap.size = w.heap.size + 1 by simp, hX] at q
      exact q
    have HC := hid (ocheck_any f n X hi)
    rw [e] at HC
    rw [e]
    have k0 : X.cell? ⟨w.heap.size, 0, none⟩ = some (.int .i32 f) := HR.out.cell 0
    have k1 : X.cell? ⟨w.heap.size, 1, none⟩ = some (.int .i32 n) := HR.out.cell 1
    clear e hr hi
    go_enter Tryz.func17, Tryz.ntmps17
    go_wp2_with fail
    clear hX
    refine Calls.mono HC.out ?_
    rintro e w1 ⟨rfl, hb1⟩
    have HB1 := hid hb1
    clear hb1 k0 k1 HC
    obtain ⟨A0, A1, A2, A3, A4, A5, q0, q1, q2, q3, q4, q5, ⟨r0, r1, r2, r3, r4, r5⟩, ⟨f0, f1, f2, f3, f4, f5⟩, HA⟩ := rchain6 (HZ.out.later HB1.out HZ.out.lt) (by decide) (.bool false) (.slice none 0 0) (.slice none 0 0) (.bool false) (.slice none 0 0) (.slice none 0 0)
    go_wp2_with fail
    refine bodyPost_ret (gres_run (by rfl) HA.out.1 _ (by rfl)) rfl ?_
    exact ogq_bad (by decide) (HA.out.2.2.2.1 _ _ (by omega) (bt HB.out HB1.out))
end Go.Proofs.YtcjfbmehibhkbaaGreatDoor

/- package rotor: Find of every complex fraction. (tools/mkrt5.py) -/
namespace Go.Proofs.YtcjfbmehibhkbaaGreatDoor
open Go.RowKit
set_option linter.unusedVariables false
set_option linter.unusedSimpArgs false

/-- It is the number of this rotor, in its one form. -/
def NIs (g : G6) (f r : Int) : Prop := g.Is (Rat.divInt (oRe f r) (oNm f r)) (Rat.divInt (oIm f r) (oNm f r))
/-- What Find tells: the rotor whose number it is, or that there is none. -/
def OFd (g : G6) (F N : Int) (ok : Bool) : Prop := (ok = true ∧ rOK F N ∧ NIs g F N) ∨ (ok = false ∧ F = 0 ∧ N = 0 ∧ ∀ f r, rOK f r → ¬ NIs g f r)
theorem OFd.one {g : G6} {F N F' N' : Int} {ok ok' : Bool} (h : OFd g F N ok) (k : OFd g F' N' ok') : F = F' ∧ N = N' ∧ ok = ok' := by
  rcases h with ⟨rfl, h1, h2⟩ | ⟨rfl, rfl, rfl, h1⟩ <;> rcases k with ⟨rfl, k1, k2⟩ | ⟨rfl, rfl, rfl, k1⟩
  · obtain ⟨e1, e2⟩ := o_inj h1 k1 (h2.1.2.symm.trans k2.1.2) (h2.2.1.2.symm.trans k2.2.1.2)
    exact ⟨e1, e2, rfl⟩
  · exact absurd h2 (k1 _ _ h1)
  · exact absurd k2 (h1 _ _ k1)
  · exact ⟨rfl, rfl, rfl⟩
/-- The words of a rotor's number. -/
theorem nis_words {g : G6} {f r : Int} (hr : rOK f r) (h : NIs g f r) : ∃ x y, g.xs = [x] ∧ g.ys = [oNm f r] ∧ g.us = [y] ∧ g.vs = [oNm f r] ∧ sgw g.n x = oRe f r ∧ sgw g.m y = oIm f r := by
  obtain ⟨⟨c1, q1⟩, ⟨c2, q2⟩, w1, w2, w3, w4⟩ := h
  have nz := o_nz hr
  have l := o_low hr 1
  rw [zpow_one, Int.pow_one] at l
  obtain ⟨_, _, t1, t2, y0, _, g1⟩ := rchk_ok c1
  obtain ⟨_, _, t3, t4, v0, _, g2⟩ := rchk_ok c2
  have p1 := val_pos' w2 t2 y0
  have p2 := val_pos' w4 t4 v0
  have l1 : gcdI (oRe f r) (oNm f r) = 1 := by have := l.1; unfold gcdI; exact_mod_cast this
  have l2 : gcdI (oIm f r) (oNm f r) = 1 := by have := l.2; unfold gcdI; exact_mod_cast this
  have e1 := fr_inj (x := wval g.n g.xs) (d := val g.ys) (y := oRe f r) (e := oNm f r) (by omega) (by rw [show wval g.n g.xs = sg g.n (val g.xs) from rfl, gcd_sg]; exact g1) nz.2.2.2.2.1 l1 q1
  have e2 := fr_inj (x := wval g.m g.us) (d := val g.vs) (y := oIm f r) (e := oNm f r) (by omega) (by rw [show wval g.m g.us = sg g.m (val g.us) from rfl, gcd_sg]; exact g2) nz.2.2.2.2.1 l2 q2
  obtain ⟨x, x1, x2⟩ := o_word1 w1 t1 e1.1 nz.1 nz.2.2.1
  obtain ⟨y, y1, y2⟩ := o_word1 w3 t3 e2.1 nz.2.1 nz.2.2.2.1
  exact ⟨x, y, x1, o_word w2 t2 e1.2 nz.2.2.2.2.1 nz.2.2.2.2.2, y1, o_word w4 t4 e2.2 nz.2.2.2.2.1 nz.2.2.2.2.2, x2, y2⟩
theorem nis_of {g : G6} {f r : Int} (hr : rOK f r) {k : G6} (hk : k.Is (oP f r 1).1 (oP f r 1).2) (e1 : k.n = g.n ∧ k.xs = g.xs ∧ k.ys = g.ys) (e2 : k.m = g.m ∧ k.us = g.us ∧ k.vs = g.vs) : NIs g f r := by
  rw [oP_first] at hk
  unfold NIs G6.Is at *
  rw [← e1.1, ← e1.2.1, ← e1.2.2, ← e2.1, ← e2.2.1, ← e2.2.2]
  exact hk
set_option maxHeartbeats 6400000 in
/-- What is no rotor's number is not found. -/
theorem oFind_no (g : G6) (h : ∀ f r, rOK f r → ¬ NIs g f r) (w : World) (sg : g.Sl4 w) :
    Calls Tryz.prog 7 #[.agg #[.bool g.n, .slice g.a g.xs.length g.ca, .slice g.b g.ys.length g.cb, .bool g.m, .slice g.c g.us.length g.cc, .slice g.d g.vs.length g.cd]] w fun z w' => z = .returned (.tuple #[.agg #[.int .i32 0, .int .i32 0], .bool false]) ∧ Below w.heap.size w w' := by
  obtain ⟨X, hX⟩ : ∃ X, (w.alloc (.cells #[.bool g.n, .slice g.a g.xs.length g.ca, .slice g.b g.ys.length g.cb, .bool g.m, .slice g.c g.us.length g.cc, .slice g.d g.vs.length g.cd] 31)).alloc (.cells #[.int .i32 0, .int .i32 0] 23) = X := ⟨_, rfl⟩
  have HB : Hid (Below w.heap.size w X) := by rw [← hX]; exact bt (alloc_later _ _) (alloc_later _ _)
  have HG : Hid (Box X w.heap.size 31 #[.bool g.n, .slice g.a g.xs.length g.ca, .slice g.b g.ys.length g.cb, .bool g.m, .slice g.c g.us.length g.cc, .slice g.d g.vs.length g.cd]) := by rw [← hX]; exact (Box.made w _ _).later (alloc_later _ _) (Box.made w _ _).lt
  have HZ : Hid (Box X (w.heap.size + 1) 23 #[.int .i32 0, .int .i32 0]) := by
    have q := Box.made (w.alloc (.cells #[.bool g.n, .slice g.a g.xs.length g.ca, .slice g.b g.ys.length g.cb, .bool g.m, .slice g.c g.us.length g.cc, .slice g.d g.vs.length g.cd] 31)) 23 #[.int .i32 0, .int .i32 0]
    rw [show (w.alloc (.cells #[.bool g.n, .slice g.a g.xs.length g.ca, .slice g.b g.ys.length g.cb, .bool g.m, .slice g.c g.us.length g.cc, .slice g.d g.vs.length g.cd] 31)).heap.size = w.heap.size + 1 by simp, hX] at q
    exact q
  have HSG := hid (fun V (hv : Below X.heap.size X V) => sg.later (bt HB.out hv))
  have HC := hid (ocand_any g X (sg.later HB.out))
  have HO := hid (fun F N V (hi : in32 F N) => oOfQ F N V hi)
  have HH := hid h
  have p0 : X.cell? ⟨w.heap.size, 0, none⟩ = some (.bool g.n) := HG.out.cell 0
  have p1 : X.cell? ⟨w.heap.size, 1, none⟩ = some (.slice g.a g.xs.length g.ca) := HG.out.cell 1
  have p2 : X.cell? ⟨w.heap.size, 2, none⟩ = some (.slice g.b g.ys.length g.cb) := HG.out.cell 2
  have p3 : X.cell? ⟨w.heap.size, 3, none⟩ = some (.bool g.m) := HG.out.cell 3
  have p4 : X.cell? ⟨w.heap.size, 4, none⟩ = some (.slice g.c g.us.length g.cc) := HG.out.cell 4
  have p5 : X.cell? ⟨w.heap.size, 5, none⟩ = some (.slice g.d g.vs.length g.cd) := HG.out.cell 5
  have zx := HZ.out.lt
  clear sg h
  go_enter Tryz.func7, Tryz.ntmps7
  go_wp2_with fail
  clear hX
  refine Calls.mono HC.out ?_
  rintro z w1 ⟨F, N, ok, rfl, hi, hz, hl, hb1⟩
  have HB1 := hid hb1
  have HI := hid hi
  have HL := hid hl
  clear HC hb1 p0 p1 p2 p3 p4 p5 hi hz hl
  obtain ⟨Y, hY⟩ : ∃ Y, w1.alloc (.cells #[.int .i32 0, .int .i32 0] 23) = Y := ⟨_, rfl⟩
  have HYN : Hid (Box Y w1.heap.size 23 #[.int .i32 0, .int .i32 0]) := by rw [← hY]; exact Box.made w1 _ _
  have HYB : Hid (Below w1.heap.size w1 Y) := by rw [← hY]; exact alloc_later _ _
  obtain ⟨A0, A1, qA0, qA1, ⟨rA0, rA1⟩, ⟨fA0, fA1⟩, HA⟩ := rchain2 HYN.out (by decide) (.int .i32 F) (.int .i32 N)
  have zz := HB1.out.size
  have HAX : Hid (Below X.heap.size X A1) := HA.out.2.2.2.1 _ _ (by omega) (bt HB1.out HYB.out)
  have HAR := hid HA.out.1
  clear HA HYN HYB
  cases ok
  case false =>
    clear HL HI HO
    have HZ3 := hid (HZ.out.later HAX.out HZ.out.lt)
    obtain ⟨C0, C1, qC0, qC1, ⟨rC0, rC1⟩, ⟨fC0, fC1⟩, HC⟩ := rchain2 HZ3.out (by decide) (.int .i32 0) (.int .i32 0)
    go_wp2_with fail
    refine bodyPost_ret (rores_run (by rfl) HC.out.1 _ (by rfl)) rfl ?_
    exact ⟨rfl, HC.out.2.2.2.1 _ _ (by omega) (bt HB.out HAX.out)⟩
  case true =>
    have k0 : A1.cell? ⟨w1.heap.size, 0, none⟩ = some (.int .i32 F) := HAR.out.cell 0
    have k1 : A1.cell? ⟨w1.heap.size, 1, none⟩ = some (.int .i32 N) := HAR.out.cell 1
    have HD := hid (HO.out F N A1 HI.out)
    clear HO
    obtain ⟨E, hE⟩ : ∃ E, ochk F N = E := ⟨_, rfl⟩
    rw [hE] at HD
    have HEE := hid hE
    clear hE
    go_wp2_with fail
    refine Calls.mono HD.out ?_
    rintro z w2 ⟨k, rfl, ho, hk, hb2, _⟩
    clear HD hY qA0 qA1 rA0 rA1 fA0 fA1 k0 k1
    obtain ⟨U, hU⟩ : ∃ U, w2.alloc (.cells #[.bool false, .slice none 0 0, .slice none 0 0, .bool false, .slice none 0 0, .slice none 0 0] 31) = U := ⟨_, rfl⟩
    have HUN : Hid (Box U w2.heap.size 31 #[.bool false, .slice none 0 0, .slice none 0 0, .bool false, .slice none 0 0, .slice none 0 0]) := by rw [← hU]; exact Box.made w2 _ _
    have HUB : Hid (Below w2.heap.size w2 U) := by rw [← hU]; exact alloc_later _ _
    obtain ⟨B0, B1, B2, B3, B4, B5, qB0, qB1, qB2, qB3, qB4, qB5, ⟨rB0, rB1, rB2, rB3, rB4, rB5⟩, ⟨fB0, fB1, fB2, fB3, fB4, fB5⟩, HP⟩ := rchain6 HUN.out (by decide) (.bool k.n) (.slice k.a k.xs.length k.ca) (.slice k.b k.ys.length k.cb) (.bool k.m) (.slice k.c k.us.length k.cc) (.slice k.d k.vs.length k.cd)
    have zw := hb2.out.size
    have zA := HAX.out.size
    have HBX : Hid (Below X.heap.size X B5) := HP.out.2.2.2.1 _ _ (by omega) (bt HAX.out (bt hb2.out HUB.out))
    have HBN := hid HP.out.1
    have HKO : Hid (k.Ow B5 A1.heap.size) := ⟨HP.out.2.2.1 _ _ _ _ (owns_later ho.out.1 HUB.out), HP.out.2.2.1 _ _ _ _ (owns_later ho.out.2.1 HUB.out), HP.out.2.2.1 _ _ _ _ (owns_later ho.out.2.2.1 HUB.out), HP.out.2.2.1 _ _ _ _ (owns_later ho.out.2.2.2 HUB.out)⟩
    clear ho HUN HUB HP HAR
    by_cases h0 : E = 0
    · subst h0
      have hok : rOK F N := by
        rcases ochk_or F N with ⟨e0, h1⟩ | ⟨e0, _⟩
        · exact h1
        · have := HEE.out; omega
      obtain ⟨l1, l2, l3, l4⟩ := HL.out (by first | rfl | trivial)
      have sk := hk.out.sl HKO.out
      have sg2 := HSG.out B5 HBX.out
      have lk := hk.out.wd.2
      have HD := hid (gSame_any k.n k.a k.ca k.xs k.b k.cb k.ys k.m k.c k.cc k.us k.d k.cd k.vs g.n g.a g.ca g.xs g.b g.cb g.ys g.m g.c g.cc g.us g.d g.cd g.vs B5 sk.1 sk.2.1 sk.2.2.1 sk.2.2.2 sg2.1 sg2.2.1 sg2.2.2.1 sg2.2.2.2 (by omega) (by omega) (by omega) (by omega) (by omega) (by omega) (by omega) (by omega))
      have eF : ((decide (k.n = g.n ∧ k.xs = g.xs ∧ k.ys = g.ys) && decide (k.m = g.m ∧ k.us = g.us ∧ k.vs = g.vs)) && (gchk k.n k.xs k.ys k.m k.us k.vs == 0)) = false := by
        rcases hk.out with ⟨_, hq⟩ | ⟨hq, _⟩
        · by_cases e1 : k.n = g.n ∧ k.xs = g.xs ∧ k.ys = g.ys
          · by_cases e2 : k.m = g.m ∧ k.us = g.us ∧ k.vs = g.vs
            · exact absurd (nis_of hok hq e1 e2) (HH.out F N hok)
            · rw [decide_eq_false e2, Bool.and_false, Bool.false_and]
          · rw [decide_eq_false e1, Bool.false_and, Bool.false_and]
        · exact absurd rfl hq
      rw [eF] at HD
      have HGX := hid (HG.out.later HBX.out HG.out.lt)
      have p0 : B5.cell? ⟨w.heap.size, 0, none⟩ = some (.bool g.n) := HGX.out.cell 0
      have p1 : B5.cell? ⟨w.heap.size, 1, none⟩ = some (.slice g.a g.xs.length g.ca) := HGX.out.cell 1
      have p2 : B5.cell? ⟨w.heap.size, 2, none⟩ = some (.slice g.b g.ys.length g.cb) := HGX.out.cell 2
      have p3 : B5.cell? ⟨w.heap.size, 3, none⟩ = some (.bool g.m) := HGX.out.cell 3
      have p4 : B5.cell? ⟨w.heap.size, 4, none⟩ = some (.slice g.c g.us.length g.cc) := HGX.out.cell 4
      have p5 : B5.cell? ⟨w.heap.size, 5, none⟩ = some (.slice g.d g.vs.length g.cd) := HGX.out.cell 5
      have s0 : B5.cell? ⟨w2.heap.size, 0, none⟩ = some (.bool k.n) := HBN.out.cell 0
      have s1 : B5.cell? ⟨w2.heap.size, 1, none⟩ = some (.slice k.a k.xs.length k.ca) := HBN.out.cell 1
      have s2 : B5.cell? ⟨w2.heap.size, 2, none⟩ = some (.slice k.b k.ys.length k.cb) := HBN.out.cell 2
      have s3 : B5.cell? ⟨w2.heap.size, 3, none⟩ = some (.bool k.m) := HBN.out.cell 3
      have s4 : B5.cell? ⟨w2.heap.size, 4, none⟩ = some (.slice k.c k.us.length k.cc) := HBN.out.cell 4
      have s5 : B5.cell? ⟨w2.heap.size, 5, none⟩ = some (.slice k.d k.vs.length k.cd) := HBN.out.cell 5
      clear HSG sk sg2 lk eF l1 l2 l3 l4 HL HKO hk HH
      go_wp2_with fail
      refine Calls.mono HD.out ?_
      rintro z w3 ⟨rfl, hb3⟩
      clear HD hU qB0 qB1 qB2 qB3 qB4 qB5 rB0 rB1 rB2 rB3 rB4 rB5 fB0 fB1 fB2 fB3 fB4 fB5 p0 p1 p2 p3 p4 p5 s0 s1 s2 s3 s4 s5
      have HZ3 := hid (HZ.out.later (bt HBX.out hb3) HZ.out.lt)
      obtain ⟨C0, C1, qC0, qC1, ⟨rC0, rC1⟩, ⟨fC0, fC1⟩, HC⟩ := rchain2 HZ3.out (by decide) (.int .i32 0) (.int .i32 0)
      go_wp2_with fail
      refine bodyPost_ret (rores_run (by rfl) HC.out.1 _ (by rfl)) rfl ?_
      exact ⟨rfl, HC.out.2.2.2.1 _ _ (by omega) (bt HB.out (bt HBX.out hb3))⟩
    · have hE1 : (E != 0) = true := by simp [h0]
      have hE2 : (E == 0) = false := by simp [h0]
      clear h0 HSG HL HKO hk HH HEE
      have HZ3 := hid (HZ.out.later HBX.out HZ.out.lt)
      obtain ⟨C0, C1, qC0, qC1, ⟨rC0, rC1⟩, ⟨fC0, fC1⟩, HC⟩ := rchain2 HZ3.out (by decide) (.int .i32 0) (.int .i32 0)
      go_wp2_with fail
      refine bodyPost_ret (rores_run (by rfl) HC.out.1 _ (by rfl)) rfl ?_
      exact ⟨rfl, HC.out.2.2.2.1 _ _ (by omega) (bt HB.out HBX.out)⟩
end Go.Proofs.YtcjfbmehibhkbaaGreatDoor

/- The document's rotor (slackwaterref05): Apart, of every list of rotors. -/
namespace Go.Proofs.YtcjfbmehibhkbaaGreatDoor
open Go.RowKit
set_option linter.unusedVariables false

def xO (xs : List (Int × Int)) (j : Nat) : Int × Int := xs[j]?.getD (0, 0)
/-- Stands there ahead of it already. -/
def Met (xs : List (Int × Int)) (i : Nat) : Prop := ∃ k, k < i ∧ xO xs k = xO xs i
/-- The first that may not be; else the first that was there already; else none. -/
def RAp (xs : List (Int × Int)) (v c : Int) : Prop :=
  (c = 150 ∧ ∃ i : Nat, v = i ∧ i < xs.length ∧ ¬ rOK (xO xs i).1 (xO xs i).2 ∧ ∀ j, j < i → rOK (xO xs j).1 (xO xs j).2) ∨
  (c = 0 ∧ (∀ j, j < xs.length → rOK (xO xs j).1 (xO xs j).2) ∧ ((∃ i : Nat, v = i ∧ i < xs.length ∧ Met xs i ∧ ∀ j, j < i → ¬ Met xs j) ∨ (v = -1 ∧ ∀ j, j < xs.length → ¬ Met xs j)))
theorem RAp.one {xs : List (Int × Int)} {v c v' c' : Int} (h : RAp xs v c) (h' : RAp xs v' c') : v = v' ∧ c = c' := by
  have two : ∀ {P : Nat → Prop} {i j : Nat}, P i → (∀ k, k < i → ¬ P k) → P j → (∀ k, k < j → ¬ P k) → i = j := fun {P i j} a b c d => by
    rcases Nat.lt_trichotomy i j with g | g | g
    · exact absurd a (d i g)
    · exact g
    · exact absurd c (b j g)
  rcases h with ⟨rfl, i, rfl, a1, a2, a3⟩ | ⟨rfl, a0, a⟩ <;> rcases h' with ⟨rfl, i', rfl, b1, b2, b3⟩ | ⟨rfl, b0, b⟩
  · have := two (P := fun i => ¬ rOK (xO xs i).1 (xO xs i).2) a2 (fun k hk g => g (a3 k hk)) b2 (fun k hk g => g (b3 k hk))
    exact ⟨by rw [this], rfl⟩
  · exact absurd (b0 i a1) a2
  · exact absurd (a0 i' b1) b2
  · rcases a with ⟨i, rfl, a1, a2, a3⟩ | ⟨rfl, a3⟩ <;> rcases b with ⟨i', rfl, b1, b2, b3⟩ | ⟨rfl, b3⟩
    · exact ⟨by rw [two (P := Met xs) a2 a3 b2 b3], rfl⟩
    · exact absurd a2 (b3 i a1)
    · exact absurd b2 (a3 i' b1)
    · exact ⟨rfl, rfl⟩

theorem roEq (a b c d : Int) (w : World) : (Op.equalIn 10000 23 (.agg #[.int .i32 a, .int .i32 b]) (.agg #[.int .i32 c, .int .i32 d])).run Tryz.prog w = .ok (a == c && b == d) w := by
  have u1 := Tryz.underlying21
  have a1 := Tryz.isAgg21
  have z1 := Tryz.sizeOf21
  have hS : Tryz.prog.underlying 23 = some (.struct (Tryz.prog.fieldsOf 23)) := by kernel_rfl
  rw [show (10000 : Nat) = 9999 + 1 from rfl, run_equalIn_agg w 9999 23 _ _ hS (by kernel_rfl)]
  simp only [Program.fieldsOf, Tryz.underlying23]
  go_simp
  by_cases h1 : a = c <;> by_cases h2 : b = d <;> simp [h1, h2]

end Go.Proofs.YtcjfbmehibhkbaaGreatDoor

/- Rotors as keys of a map. -/
namespace Go.Proofs.YtcjfbmehibhkbaaGreatDoor
open Go.RowKit Go.Maps
set_option linter.unusedVariables false

theorem rolaw : Keyed Tryz.prog 23 := Keyed.of_law (deep_law_gate (by kernel_rfl) (of_decide_eq_true (by kernel_rfl)) (of_decide_eq_true (by kernel_rfl)) (by kernel_rfl) (by kernel_rfl))
theorem rozero (w : World) : (zeroValue 50).run Tryz.prog w = .ok (.agg #[]) w := by kernel_rfl
noncomputable def rokey (p : Int × Int) : Lit := (keyOf Tryz.prog 23 (.agg #[.int .i32 p.1, .int .i32 p.2])).getD (.bool true)
theorem rokey_of {p : Int × Int} (h : in32 p.1 p.2) : keyOf Tryz.prog 23 (.agg #[.int .i32 p.1, .int .i32 p.2]) = some (rokey p) := by
  have : (keyOf Tryz.prog 23 (.agg #[.int .i32 p.1, .int .i32 p.2])).isSome = true := by
    have hk : Tryz.prog.keyType 23 = true := by kernel_rfl
    have c1 : Tryz.prog.cellsOf 23 = 2 := by kernel_rfl
    have c2 : Tryz.prog.cellsOf 21 = 1 := by kernel_rfl
    have m1 : IntKind.i32.min = -2147483648 := by decide
    have m2 : IntKind.i32.max = 2147483647 := by decide
    have w1 : (Lit.int .i32 p.1).wf = true := by obtain ⟨⟨a, b⟩, _⟩ := h; simp [Lit.wf, m1, m2]; omega
    have w2 : (Lit.int .i32 p.2).wf = true := by obtain ⟨_, a, b⟩ := h; simp [Lit.wf, m1, m2]; omega
    have hf : Value.formed Tryz.prog 23 (.agg #[.int .i32 p.1, .int .i32 p.2]) = true := by simp [Value.formed, Tryz.underlying23, c1]
    have hs : ∀ d, (Tryz.prog.keyLits (d + 1 + 1) 23 [.int .i32 p.1, .int .i32 p.2]).isSome = true := fun d => by
      simp [Program.keyLits, Tryz.underlying23, Tryz.underlying21, c1, c2, w1, w2]
    obtain ⟨d, hd⟩ : ∃ d, Tryz.prog.types.size + 1 = d + 1 + 1 := ⟨Tryz.prog.types.size - 1, by kernel_rfl⟩
    unfold keyOf
    rw [hd]
    have q := hs d
    simp [Tryz.underlying23, hk, hf, Value.cells]
    exact q
  unfold rokey
  cases e : keyOf Tryz.prog 23 (.agg #[.int .i32 p.1, .int .i32 p.2]) with
  | none => rw [e] at this; simp at this
  | some l => rfl
/-- What rotors read as where they are keys. -/
def RoK (K : Int × Int → Lit) : Prop := (∀ p : Int × Int, in32 p.1 p.2 → keyOf Tryz.prog 23 (.agg #[.int .i32 p.1, .int .i32 p.2]) = some (K p)) ∧ (∀ p : Int × Int, in32 p.1 p.2 → WideAt.IsKeyLit (K p)) ∧ ∀ p q : Int × Int, in32 p.1 p.2 → in32 q.1 q.2 → K p = K q → p = q
set_option maxRecDepth 100000 in
theorem ro_keys : ∃ K, RoK K := by
  refine ⟨rokey, fun p h => rokey_of h, fun p h => Keyed.key rolaw (rokey_of h), fun p q hp hq h => ?_⟩
  have a := rokey_of hp
  have b := rokey_of hq
  rw [h] at a
  have e := Keyed.inj rolaw a b
  simp only [Value.agg.injEq, Array.mk.injEq, List.cons.injEq, Value.int.injEq, true_and, and_true] at e
  exact Prod.ext e.1 e.2
/-- The set of the first rotors. -/
def roSet (K : Int × Int → Lit) (xs : List (Int × Int)) (k : Nat) : DataW Unit := setOf (.agg []) ((List.range k).map fun j => K (xO xs j))
theorem roSet_zero (K : Int × Int → Lit) (xs : List (Int × Int)) : roSet K xs 0 = .map [] := rfl
theorem roSet_succ (K : Int × Int → Lit) (xs : List (Int × Int)) (k : Nat) : roSet K xs (k + 1) = (roSet K xs k).put (K (xO xs k)) (.agg []) := by
  unfold roSet
  rw [List.range_succ, List.map_append]
  exact setOf_snoc _ _ _
theorem roSet_has {K : Int × Int → Lit} (hK : RoK K) (xs : List (Int × Int)) (h32 : ∀ j, in32 (xO xs j).1 (xO xs j).2) (k : Nat) : Maps.has (roSet K xs k) (K (xO xs k)) = true ↔ Met xs k := by
  unfold roSet
  rw [has_setOf _ _ _ (fun y hy => by obtain ⟨j, _, rfl⟩ := List.mem_map.1 hy; exact hK.2.1 _ (h32 j))]
  rw [List.any_eq_true]
  constructor
  · rintro ⟨y, hy, hs⟩
    obtain ⟨j, hj, rfl⟩ := List.mem_map.1 hy
    exact ⟨j, List.mem_range.1 hj, hK.2.2 _ _ (h32 j) (h32 k) (WideAt.sameKey_eq hs)⟩
  · rintro ⟨j, hj, e⟩
    refine ⟨K (xO xs j), List.mem_map.2 ⟨j, List.mem_range.2 hj, rfl⟩, ?_⟩
    rw [e]
    exact WideAt.sameKey_self (hK.2.1 _ (h32 k))
end Go.Proofs.YtcjfbmehibhkbaaGreatDoor

/- package rotor: Apart, of every list of rotors. -/
namespace Go.Proofs.YtcjfbmehibhkbaaGreatDoor
open Go.RowKit Go.Maps
set_option linter.unusedVariables false
set_option linter.unusedSimpArgs false

theorem roMap_later {w w' : World} {k : TypeId} {R : Value → Option (DataW Unit × List MemPlace)} {b n : Nat} {D : DataW Unit} (h : w.ownsMap Tryz.prog k R b n D) (hb : Below w.heap.size w w') : w'.ownsMap Tryz.prog k R b n D := by
  have hlt := h.lt
  obtain ⟨es, clock, h1, F, hs, hD⟩ := h
  exact ⟨es, clock, (hb.block _ hlt).trans h1, F, hs, hD⟩
/-- A new box of two cells, filled. -/
theorem robox (w : World) (f r : Int) : ∃ A0 A1, (w.alloc (.cells #[.int .i32 0, .int .i32 0] 23)).setCell ⟨w.heap.size, 0, none⟩ (.int .i32 f) = A0 ∧ A0.setCell ⟨w.heap.size, 1, none⟩ (.int .i32 r) = A1 ∧ ((w.alloc (.cells #[.int .i32 0, .int .i32 0] 23)).cell? ⟨w.heap.size, 0, none⟩ = some (.int .i32 0) ∧ A0.cell? ⟨w.heap.size, 1, none⟩ = some (.int .i32 0)) ∧ ((w.alloc (.cells #[.int .i32 0, .int .i32 0] 23)).frozen? ⟨w.heap.size, 0, none⟩ = false ∧ A0.frozen? ⟨w.heap.size, 1, none⟩ = false) ∧ Hid (Box A1 w.heap.size 23 #[.int .i32 f, .int .i32 r] ∧ Below w.heap.size w A1 ∧ A1.heap.size = w.heap.size + 1) := by
  obtain ⟨A0, A1, q0, q1, r, f', H⟩ := rchain2 (Box.made w 23 #[.int .i32 0, .int .i32 0]) (by decide) (.int .i32 f) (.int .i32 r)
  exact ⟨A0, A1, q0, q1, r, f', H.out.1, H.out.2.2.2.1 _ _ (Nat.le_refl _) (alloc_later _ _), by rw [H.out.2.2.2.2]; simp⟩

set_option maxHeartbeats 6400000 in
set_option maxRecDepth 100000 in
theorem oapart_ok (b o n cap : Nat) (xs : List (Int × Int)) (w : World) (hl : xs.length = n) (h32 : ∀ j, in32 (xO xs j).1 (xO xs j).2) (hb : b < w.heap.size)
    (hx : ∀ j, j < n → w.cell? ⟨b, o + j * 2, none⟩ = some (.int .i32 (xO xs j).1) ∧ w.cell? ⟨b, o + j * 2 + 1, none⟩ = some (.int .i32 (xO xs j).2)) (hn : n ≤ 64) :
    Calls Tryz.prog 6 #[.slice (some ⟨b, o, none⟩) n cap] w fun e w' => ∃ v c, e = .returned (.tuple #[.int .i64 v, .int .i64 c]) ∧ RAp xs v c ∧ Below w.heap.size w w' := by
  have HX : Hid (∀ V, Below w.heap.size w V → ∀ j, j < n → V.cell? ⟨b, o + j * 2, none⟩ = some (.int .i32 (xO xs j).1) ∧ V.cell? ⟨b, o + j * 2 + 1, none⟩ = some (.int .i32 (xO xs j).2)) := fun V hV j hj => by
    have := hx j hj
    exact ⟨(hV.cell (p := ⟨b, o + j * 2, none⟩) hb).trans this.1, (hV.cell (p := ⟨b, o + j * 2 + 1, none⟩) hb).trans this.2⟩
  have HC : Hid (∀ j V, Calls Tryz.prog 4 #[.agg #[.int .i32 (xO xs j).1, .int .i32 (xO xs j).2]] V fun e w' => e = .returned (.int .i64 (ochk (xO xs j).1 (xO xs j).2)) ∧ Below V.heap.size V w') := fun j V => ocheck_any _ _ V (h32 j)
  obtain ⟨K, hK⟩ := ro_keys
  have HKY : Hid (∀ j, keyOf Tryz.prog 23 (.agg #[.int .i32 (xO xs j).1, .int .i32 (xO xs j).2]) = some (K (xO xs j))) := fun j => hK.1 _ (h32 j)
  have HHS : Hid (∀ k, Maps.has (roSet K xs k) (K (xO xs k)) = true ↔ Met xs k) := fun k => roSet_has hK xs h32 k
  have HLN := hid hl
  clear hx h32 hb hK hl
  have hmm := @run_makeMap Tryz.prog
  go_enter Tryz.func6, Tryz.ntmps6
  go_wp2_with fail
  go_loopw [17] (fun x wr => ∃ i : Nat, x = .int .i64 (i : Int) ∧ i ≤ n ∧ Hid (∀ j, j < i → rOK (xO xs j).1 (xO xs j).2) ∧ Hid (Below w.heap.size w wr)) (fun x _ => n - (intOf x).toNat)
  case atStart => exact ⟨0, rfl, by omega, (fun j hj => by omega : ∀ j, j < 0 → rOK (xO xs j).1 (xO xs j).2), (Below.refl _ _ : Below w.heap.size w w)⟩
  case round =>
    obtain ⟨i, rfl, hi, HO, HB⟩ := hrel
    by_cases hin : i < n
    · obtain ⟨c0, c1⟩ := HX.out _ HB.out i hin
      have HCi := hid (HC.out i)
      have HRAp : Hid (¬ rOK (xO xs i).1 (xO xs i).2 → RAp xs (i : Int) 150) := fun q => .inl ⟨rfl, i, rfl, by rw [HLN.out]; exact hin, q, HO.out⟩
      obtain ⟨f, hf⟩ : ∃ f, (xO xs i).1 = f := ⟨_, rfl⟩
      obtain ⟨r, hr⟩ : ∃ r, (xO xs i).2 = r := ⟨_, rfl⟩
      have HNX : Hid (rOK f r → ∀ j, j < i + 1 → rOK (xO xs j).1 (xO xs j).2) := fun q j hj => by
        rcases Nat.lt_or_ge j i with g | g
        · exact HO.out j g
        · obtain rfl : j = i := by omega
          rw [hf, hr]; exact q
      rw [hf] at c0 HCi HRAp
      rw [hr] at c1 HCi HRAp
      clear hf hr
      obtain ⟨A0, A1, q0, q1, ⟨r0, r1⟩, ⟨f0, f1⟩, HA⟩ := robox wr f r
      have k0 : A1.cell? ⟨wr.heap.size, 0, none⟩ = some (.int .i32 f) := HA.out.1.cell 0
      have k1 : A1.cell? ⟨wr.heap.size, 1, none⟩ = some (.int .i32 r) := HA.out.1.cell 1
      have HD := hid (HCi.out A1)
      have hi0 : (0 : Int) ≤ (i : Int) := by omega
      have hi1 : (i : Int) < (n : Int) := by omega
      go_wp2_with fail
      clear q0 q1 r0 r1 f0 f1 k0 k1 c0 c1
      refine Calls.mono HD.out ?_
      rintro e w1 ⟨rfl, hb1⟩
      have HB1 := hid (bt HB.out (bt HA.out.2.1 hb1))
      clear HD HCi hb1 HA
      rcases ochk_or f r with ⟨e0, h0⟩ | ⟨e0, h0⟩
      · rw [e0]
        have HN := hid (HNX.out h0)
        clear e0 HNX HRAp
        go_wp2_with fail
        go_roundw
        case rel => exact ⟨i + 1, by go_num, by omega, HN, HB1⟩
        case measure => simp [intOf]; omega
      · rw [e0]
        have HR := hid (HRAp.out h0)
        clear e0 HNX HRAp
        go_wp2_with fail
        refine bodyPost_ret (v := .tuple #[.int .i64 (i : Int), .int .i64 150]) (by simp [results, Tryz.results6, go_sem]) rfl ?_
        exact ⟨_, _, rfl, HR.out, HB1.out⟩
    · obtain rfl : i = n := by omega
      obtain ⟨wm, hwm⟩ : ∃ wm : World, wm = wr := ⟨_, rfl⟩
      subst hwm
      have hnin : ¬ (i : Int) < (i : Int) := by omega
      have HM0 : Hid ((wm.alloc (.map #[] 0)).ownsMap Tryz.prog 23 (unitElem (H := Unit)) wm.heap.size 0 (roSet K xs 0)) := by rw [roSet_zero]; exact World.ownsMap_made _ _ _ _
      have HB0 : Hid (Below w.heap.size w (wm.alloc (.map #[] 0))) := bt HB.out (alloc_later _ _)
      have hsz := HB.out.size
      go_wp2_with fail
      go_loopw [32] (fun x wr => ∃ j : Nat, x = .int .i64 (j : Int) ∧ j ≤ i ∧ Hid (∀ k, k < j → ¬ Met xs k) ∧ Hid (wr.ownsMap Tryz.prog 23 (unitElem (H := Unit)) wm.heap.size j (roSet K xs j)) ∧ Hid (Below w.heap.size w wr)) (fun x _ => i - (intOf x).toNat)
      case atStart => exact ⟨0, rfl, by omega, (fun k hk => by omega : ∀ k, k < 0 → ¬ Met xs k), HM0, HB0⟩
      case round =>
        obtain ⟨j, rfl, hj, HN, HM, HBq⟩ := hrel
        by_cases hjn : j < i
        · obtain ⟨c0, c1⟩ := HX.out _ HBq.out j hjn
          have HKj := hid (HKY.out j)
          have HHj := hid (HHS.out j)
          have HSU : Hid (roSet K xs (j + 1) = (roSet K xs j).put (K (xO xs j)) (.agg [])) := roSet_succ K xs j
          obtain ⟨f, hf⟩ : ∃ f, (xO xs j).1 = f := ⟨_, rfl⟩
          obtain ⟨r, hr⟩ : ∃ r, (xO xs j).2 = r := ⟨_, rfl⟩
          rw [hf] at c0 HKj
          rw [hr] at c1 HKj
          clear hf hr
          obtain ⟨kl, hkl⟩ : ∃ kl, K (xO xs j) = kl := ⟨_, rfl⟩
          rw [hkl] at HKj HHj HSU
          clear hkl
          obtain ⟨A0, A1, q0, q1, ⟨r0, r1⟩, ⟨f0, f1⟩, HA⟩ := robox wr f r
          have k0 : A1.cell? ⟨wr.heap.size, 0, none⟩ = some (.int .i32 f) := HA.out.1.cell 0
          have k1 : A1.cell? ⟨wr.heap.size, 1, none⟩ = some (.int .i32 r) := HA.out.1.cell 1
          have HMA := hid (roMap_later HM.out HA.out.2.1)
          have HBA := hid (bt HBq.out HA.out.2.1)
          have hi0 : (0 : Int) ≤ (j : Int) := by omega
          have hi1 : (j : Int) < (i : Int) := by omega
          have hAs := HBA.out.size
          by_cases hm : Met xs j
          · have hh : Maps.has (roSet K xs j) kl = true := HHj.out.2 hm
            have HR : Hid (RAp xs (j : Int) 0) := .inr ⟨rfl, fun k hk => HO.out k (by rw [← HLN.out]; exact hk), .inl ⟨j, rfl, by rw [HLN.out]; exact hjn, hm, HN.out⟩⟩
            clear HHj hm HSU HN HM
            go_wp2_with (first
              | (at_lookup; refine wpList_lookup_own_unit _ rfl _ _ 49 rfl 23 50 rolaw Tryz.underlying49 (rozero _) wm.heap.size j _ rfl HMA.out _ _ rfl HKj.out ?_)
              | go_in)
            refine bodyPost_ret (v := .tuple #[.int .i64 (j : Int), .int .i64 0]) (by simp [results, Tryz.results6, go_sem]) rfl ?_
            exact ⟨_, _, rfl, HR.out, bt HBA.out (alloc_later _ _)⟩
          · have hh : Maps.has (roSet K xs j) kl = false := by
              cases e : Maps.has (roSet K xs j) kl
              · rfl
              · exact absurd (HHj.out.1 e) hm
            have HN1 : Hid (∀ k, k < j + 1 → ¬ Met xs k) := fun k hk => by
              rcases Nat.lt_or_ge k j with g | g
              · exact HN.out k g
              · obtain rfl : k = j := by omega
                exact hm
            have k0' : (A1.alloc (.cells #[] 50)).cell? ⟨wr.heap.size, 0, none⟩ = some (.int .i32 f) := ((HA.out.1.later (alloc_later _ _) HA.out.1.lt) : Box (A1.alloc (.cells #[] 50)) _ _ _).cell 0
            have k1' : (A1.alloc (.cells #[] 50)).cell? ⟨wr.heap.size, 1, none⟩ = some (.int .i32 r) := ((HA.out.1.later (alloc_later _ _) HA.out.1.lt) : Box (A1.alloc (.cells #[] 50)) _ _ _).cell 1
            clear HHj hm HN HM
            go_wp2_with (first
              | (at_lookup; refine wpList_lookup_own_unit _ rfl _ _ 49 rfl 23 50 rolaw Tryz.underlying49 (rozero _) wm.heap.size j _ rfl HMA.out _ _ rfl HKj.out ?_)
              | (at_mapUpdate; refine wpList_mapUpdate_own _ rfl _ _ _ 49 rfl 23 50 rolaw Tryz.underlying49 (unitElem (H := Unit)) wm.heap.size j _ rfl (HMA.out.alloc _) (by unfold maxLen; omega) _ _ _ rfl rfl HKj.out _ [] unitElem_mk ?_; intro w1 hown1 hgrow1)
              | go_in)
            rw [← HSU.out] at hown1
            have HB1 : Hid (Below w.heap.size w w1) := (bt HBA.out (alloc_later A1 _)).grown hgrow1 (by simp; omega) (fun k hk => by cases hk; exact hsz)
            have HM1 := hid hown1
            clear hown1 hgrow1 k0' k1'
            go_roundw
            case rel => exact ⟨j + 1, by go_num, by omega, HN1, HM1, HB1⟩
            case measure => simp [intOf]; omega
        · obtain rfl : j = i := by omega
          have hnin2 : ¬ (j : Int) < (j : Int) := by omega
          have HR : Hid (RAp xs (-1) 0) := .inr ⟨rfl, fun k hk => HO.out k (by rw [← HLN.out]; exact hk), .inr ⟨rfl, fun k hk => HN.out k (by rw [← HLN.out]; exact hk)⟩⟩
          go_wp2_with fail
          refine bodyPost_ret (v := .tuple #[.int .i64 (-1), .int .i64 0]) (by simp [results, Tryz.results6, go_sem]) rfl ?_
          exact ⟨_, _, rfl, HR.out, HBq.out⟩
end Go.Proofs.YtcjfbmehibhkbaaGreatDoor

/- A list of rotors that came in is read. -/
namespace Go.Proofs.YtcjfbmehibhkbaaGreatDoor
open Go.RowKit Go.ChangeShapes Go.WideShapes Go.Deep
set_option linter.unusedVariables false

end Go.Proofs.YtcjfbmehibhkbaaGreatDoor

