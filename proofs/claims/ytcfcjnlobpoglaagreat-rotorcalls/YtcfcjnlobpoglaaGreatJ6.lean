/- My texts on the way to RotorCalls, one behind the other: contracts of the program and of the document's answers. -/
import Derived.Test.YtcfcjnlobpoglaaGreatJ1
import Derived.Test.YtcfcjnlobpoglaaGreatJ2
import Derived.Test.YtcfcjnlobpoglaaGreatJ3
import Derived.Test.YtcfcjnlobpoglaaGreatJ4
import Derived.Test.YtcfcjnlobpoglaaGreatJ5
import Derived.Test.YtcfcjnlobpoglaaGreatChecked
import Derived.Handy
import Derived.RegionTactic
import Derived.ChangeAlike
import Derived.Deep.RegionHeld3
import Derived.Deep.QuietTactic
import Derived.BigQuiet
import Derived.Laws.AppendOwnNone
import Derived.LoopN
/- Boxes made one behind the other; drawing keeps what is below. -/
namespace Go.Proofs.YtcfcjnlobpoglaaGreat
open Go.RowKit
set_option linter.unusedVariables false

theorem boxes1 (w : World) (t : Nat) (u : Array Value) : FBox (w.alloc (.cells u t)) w.heap.size t u ∧ Below w.heap.size w (w.alloc (.cells u t)) :=
  ⟨FBox.made _ _ _, (Below.refl _ _).alloc (Nat.le_refl _) _⟩
theorem boxes2 (w : World) (t : Nat) (u v : Array Value) : FBox ((w.alloc (.cells u t)).alloc (.cells v t)) w.heap.size t u ∧ FBox ((w.alloc (.cells u t)).alloc (.cells v t)) (w.heap.size + 1) t v ∧ Below w.heap.size w ((w.alloc (.cells u t)).alloc (.cells v t)) := by
  have a := boxes1 w t u
  have b := boxes1 (w.alloc (.cells u t)) t v
  have es : (w.alloc (.cells u t)).heap.size = w.heap.size + 1 := World.size_alloc _ _
  exact ⟨a.1.later b.2 a.1.lt, es ▸ b.1, b2 a.2 b.2⟩
theorem bdrewN {B : Nat} {a w : World} (h : Below B a w) (n : Nat) : Below B a (w.drewN n) := by
  induction n with
  | zero => exact h
  | succ n ih => exact ih.drew
end Go.Proofs.YtcfcjnlobpoglaaGreat

/- package rotor: size, commonDivisor, Check, Conj, half, of every rotor. -/
namespace Go.Proofs.YtcfcjnlobpoglaaGreat
open Go.RowKit
set_option linter.unusedVariables false

/-- A rotor may be. -/
def rOK (f n : Int) : Prop := 1 ≤ f ∧ f ≤ 1000 ∧ 1 ≤ n.natAbs ∧ n.natAbs ≤ 1000 ∧ f ≠ (n.natAbs : Int) ∧ Nat.gcd f.toNat n.natAbs = 1
instance (f n : Int) : Decidable (rOK f n) := by unfold rOK; infer_instance
def ochk (f n : Int) : Int := if rOK f n then 0 else 150
def in32 (f n : Int) : Prop := (-2147483648 ≤ f ∧ f ≤ 2147483647) ∧ (-2147483648 ≤ n ∧ n ≤ 2147483647)
theorem ochk_or (f n : Int) : ochk f n = 0 ∧ rOK f n ∨ ochk f n = 150 ∧ ¬ rOK f n := by
  unfold ochk
  by_cases h : rOK f n
  · rw [if_pos h]; exact .inl ⟨rfl, h⟩
  · rw [if_neg h]; exact .inr ⟨rfl, h⟩

set_option maxHeartbeats 800000 in
set_option maxRecDepth 100000 in
theorem osize_any (n : Int) (w : World) (h0 : -9223372036854775808 < n) (h1 : n ≤ 9223372036854775807) :
    Calls Tryz.prog 38 #[.int .i64 n] w fun e w' => e = .returned (.int .i64 (n.natAbs : Int)) ∧ w' = w := by
  by_cases h : n < 0
  · go_enter Tryz.func38, Tryz.ntmps38
    go_wp2_with fail
    go_ret
    exact ⟨ret_int (by omega), rfl⟩
  · go_enter Tryz.func38, Tryz.ntmps38
    go_wp2_with fail
    go_ret
    exact ⟨ret_int (by omega), rfl⟩

set_option maxHeartbeats 800000 in
set_option maxRecDepth 100000 in
theorem ocommon_any (a b : Nat) (w : World) (ha : a < 9223372036854775808) (hb : b < 9223372036854775808) :
    Calls Tryz.prog 39 #[.int .i64 (a : Int), .int .i64 (b : Int)] w fun e w' => e = .returned (.int .i64 (Nat.gcd a b : Nat)) ∧ Below w.heap.size w w' := by
  go_enter Tryz.func39, Tryz.ntmps39
  go_wp2_with fail
  go_loopw [0, 1] (fun x y wr => ∃ c d : Nat, x = .int .i64 (c : Int) ∧ y = .int .i64 (d : Int) ∧ c < 9223372036854775808 ∧ d < 9223372036854775808 ∧ Hid (Nat.gcd c d = Nat.gcd a b) ∧ Below w.heap.size w wr) (fun _ y _ => (intOf y).toNat)
  case atStart => exact ⟨a, b, rfl, rfl, ha, hb, (rfl : Nat.gcd a b = Nat.gcd a b), Below.refl _ _⟩
  case round =>
    obtain ⟨c, d, rfl, rfl, hc, hd, hg, hX⟩ := hrel
    by_cases h0 : d = 0
    · subst h0
      have HG : Hid (c = Nat.gcd a b) := by have := hg.out; rw [Nat.gcd_zero_right] at this; exact this
      clear hg
      go_wp2_with fail
      go_ret
      exact ⟨ret_int (by rw [HG.out]), hX⟩
    · have hm : c % d < d := Nat.mod_lt _ (by omega)
      have HG : Hid (Nat.gcd d (c % d) = Nat.gcd a b) := by show _ = _; rw [← hg.out, Nat.gcd_comm c d, Nat.gcd_rec d c, Nat.gcd_comm]
      have h0' : (d : Int) ≠ 0 := by omega
      have e2 : Int.tmod (c : Int) (d : Int) = ((c % d : Nat) : Int) := by
        rw [Int.tmod_eq_emod_of_nonneg (by omega)]; rfl
      clear hg
      go_wp2_with fail
      go_region
      all_goals
        go_wp2_with fail
        go_roundw
        case rel => exact ⟨d, c % d, rfl, by go_num, by omega, by omega, HG, hX.drew⟩
        case measure => simp [intOf]; omega

set_option maxHeartbeats 1600000 in
set_option maxRecDepth 100000 in
theorem ocheck_any (f n : Int) (w : World) (h : in32 f n) :
    Calls Tryz.prog 15 #[.agg #[.int .i32 f, .int .i32 n]] w fun e w' => e = .returned (.int .i64 (ochk f n)) ∧ Below w.heap.size w w' := by
  obtain ⟨⟨f0, f1⟩, n0, n1⟩ := h
  have hb0 : Below w.heap.size w (w.alloc (.cells #[.int .i32 f, .int .i32 n] 23)) := (Below.refl _ _).alloc (Nat.le_refl _) _
  have HN : Hid (¬ (1 ≤ f ∧ f ≤ 1000 ∧ 1 ≤ (n.natAbs : Int) ∧ (n.natAbs : Int) ≤ 1000 ∧ f ≠ (n.natAbs : Int)) → ochk f n = 150) := fun h => by unfold ochk; rw [if_neg]; unfold rOK; omega
  have HY : Hid ((1 ≤ f ∧ f ≤ 1000 ∧ 1 ≤ (n.natAbs : Int) ∧ (n.natAbs : Int) ≤ 1000 ∧ f ≠ (n.natAbs : Int)) → Nat.gcd f.toNat n.natAbs = 1 → ochk f n = 0) := fun h g => by unfold ochk; rw [if_pos]; unfold rOK; omega
  have HY' : Hid (¬ Nat.gcd f.toNat n.natAbs = 1 → ochk f n = 150) := fun g => by unfold ochk; rw [if_neg]; unfold rOK; omega
  have HD : Hid (1 ≤ f → 1 ≤ Nat.gcd f.toNat n.natAbs) := fun g => Nat.gcd_pos_of_pos_left _ (by omega)
  have HS := hid (fun V => osize_any n V (by omega) (by omega))
  have HC : Hid (∀ V : World, 1 ≤ f → Calls Tryz.prog 39 #[.int .i64 f, .int .i64 (n.natAbs : Int)] V fun e w' => e = .returned (.int .i64 (Nat.gcd f.toNat n.natAbs : Nat)) ∧ Below V.heap.size V w') := fun V h1 => by
    have := ocommon_any f.toNat n.natAbs V (by omega) (by omega)
    rw [show ((f.toNat : Nat) : Int) = f by omega] at this
    exact this
  obtain ⟨d, hD⟩ : ∃ d, Nat.gcd f.toNat n.natAbs = d := ⟨_, rfl⟩
  rw [hD] at HY HY' HC HD
  clear hD
  have m1 : n.natAbs ≤ 2147483648 := by omega
  generalize n.natAbs = N at *
  go_enter Tryz.func15, Tryz.ntmps15
  go_wp2_with fail
  go_quiet ((go_at_call 38; exact Calls.quiet_of_same (HS.out _)))
  clear HS
  have HB0 : Hid (Below w.heap.size w ((w.alloc (.cells #[.int .i32 f, .int .i32 n] 23)).drewN nq)) := bdrewN hb0 nq
  generalize (w.alloc (.cells #[.int .i32 f, .int .i32 n] 23)).drewN nq = X at *
  clear hb0
  go_wp2_with fail
  all_goals try (go_ret; exact ⟨ret_int (HN.out (by omega)).symm, HB0.out⟩)
  refine Calls.mono (HC.out _ (by omega)) ?_
  rintro e w1 ⟨rfl, hb1⟩
  by_cases h1 : d = 1
  · subst h1
    go_wp2_with fail
    go_ret
    exact ⟨ret_int (HY.out (by omega) (by trivial)).symm, b2 HB0.out hb1⟩
  · have h1' : (1 : Int) < (d : Int) := by have := HD.out (by omega); omega
    go_wp2_with fail
    go_ret
    exact ⟨ret_int (HY'.out h1).symm, b2 HB0.out hb1⟩
end Go.Proofs.YtcfcjnlobpoglaaGreat

/- package rotor: copied, over: the same words in new memory. -/
namespace Go.Proofs.YtcfcjnlobpoglaaGreat
open Go.RowKit
set_option linter.unusedVariables false
set_option linter.unusedSimpArgs false

set_option maxHeartbeats 800000 in
set_option maxRecDepth 100000 in
theorem ocopied_any (a : Option Addr) (cap : Nat) (xs : List Int) (w : World) (h : Sl w (.slice a xs.length cap) xs) (hn : xs.length ≤ 1099511627776) :
    Calls Tryz.prog 81 #[.slice a xs.length cap] w fun e w' => ∃ a' c', e = .returned (.slice a' xs.length c') ∧ w'.ownsRow w.heap.size 66 1 (.slice a' xs.length c') xs.length (xs.map (Value.int .u32)) ∧ Below w.heap.size w w' := by
  obtain ⟨i0, hi, hz0, hz1, hz2⟩ := info_parts Tryz.infoW
  have hown : w.ownsRow w.heap.size 66 1 (.slice none 0 0) 0 [] := World.ownsRow_nil _ _ _ _
  obtain ⟨ad, c0, e0, hr⟩ := h
  cases e0
  cases a with
  | none =>
    have h0 : cap = 0 := hr.2.2.2.2.2 rfl
    subst h0
    have h1 : xs.length = 0 := by have := hr.2.2.2.1; omega
    have h2 : xs = [] := List.eq_nil_of_length_eq_zero h1
    subst h2
    clear hr
    go_enter Tryz.func81, Tryz.ntmps81
    go_wp2_with (at_builtin; refine wpList_append_own_none rfl _ _ 24 rfl w.heap.size 66 i0 1 Tryz.underlying24 hi _ 0 [] rfl hown rfl ?_)
    go_ret
    exact ⟨none, 0, rfl, hown, Below.refl _ _⟩
  | some ad =>
    have HN := hid (copy_news hr)
    have HLn : Hid ((xs.map (Value.int .u32)).length = xs.length * 1) := by show _ = _; simp
    clear hr
    go_enter Tryz.func81, Tryz.ntmps81
    go_wp2_with (at_builtin; refine wpList_append_own _ rfl _ _ 24 rfl w.heap.size 66 i0 (.int .u32 0) 1 4 Tryz.underlying24 hi hz0 hz1 hz2 rfl (by decide) _ 0 [] rfl hown ad xs.length cap (xs.map (Value.int .u32)) rfl HLn.out HN.out (ints_oneCell _ _) (by unfold maxLen; omega) (by omega) (Nat.le_refl _) ?_)
    intro v' w1 hown' hgrow _
    have hb2 : Below w.heap.size w w1 := (Below.refl w.heap.size w).grown hgrow (Nat.le_refl _) (fun k hk => by simp [Value.ownBlock] at hk)
    have r3 : w1.ownsRow w.heap.size 66 1 v' xs.length (xs.map (Value.int .u32)) := by simpa using hown'
    obtain ⟨a', c', rfl⟩ := own_slice' r3
    clear hown' hgrow
    go_wp2
    go_ret
    exact ⟨a', c', rfl, r3, hb2⟩

set_option maxHeartbeats 1600000 in
set_option maxRecDepth 100000 in
theorem oover_any (n : Bool) (a : Option Addr) (ca : Nat) (xs : List Int) (b : Option Addr) (lb cb : Nat) (m : Bool) (c : Option Addr) (cc : Nat) (us : List Int) (d : Option Addr) (ld cd : Nat) (w : World) (sx : Sl w (.slice a xs.length ca) xs) (su : Sl w (.slice c us.length cc) us) (lx : xs.length ≤ 1099511627776) (lu : us.length ≤ 1099511627776) :
    Calls Tryz.prog 57 #[.agg #[.bool n, .slice a xs.length ca, .slice b lb cb], .agg #[.bool m, .slice c us.length cc, .slice d ld cd]] w fun e w' => ∃ a1 c1 a2 c2, e = .returned (.agg #[.bool n, .slice a1 xs.length c1, .slice a2 us.length c2]) ∧ (w'.ownsRow w.heap.size 66 1 (.slice a1 xs.length c1) xs.length (xs.map (Value.int .u32)) ∧ w'.ownsRow w.heap.size 66 1 (.slice a2 us.length c2) us.length (us.map (Value.int .u32))) ∧ Below w.heap.size w w' ∧ Cut w (.slice a1 xs.length c1) (.slice a2 us.length c2) w' := by
  have HX := hid (boxes3r w 26 #[.bool n, .slice a xs.length ca, .slice b lb cb] #[.bool m, .slice c us.length cc, .slice d ld cd] #[.bool false, .slice none 0 0, .slice none 0 0])
  obtain ⟨X, hX⟩ : ∃ X, ((w.alloc (.cells #[.bool n, .slice a xs.length ca, .slice b lb cb] 26)).alloc (.cells #[.bool m, .slice c us.length cc, .slice d ld cd] 26)).alloc (.cells #[.bool false, .slice none 0 0, .slice none 0 0] 26) = X := ⟨_, rfl⟩
  rw [hX] at HX
  have HC1 : Hid (∀ V, Below X.heap.size X V → Calls Tryz.prog 81 #[.slice a xs.length ca] V fun e w' => ∃ a' c', e = .returned (.slice a' xs.length c') ∧ Hid (w'.ownsRow V.heap.size 66 1 (.slice a' xs.length c') xs.length (xs.map (Value.int .u32))) ∧ Hid (Below V.heap.size V w')) := fun V hv => ocopied_any a ca xs V (sx.later (bt HX.out.2.2.2 hv)) lx
  have HC2 : Hid (∀ V, Below X.heap.size X V → Calls Tryz.prog 81 #[.slice c us.length cc] V fun e w' => ∃ a' c', e = .returned (.slice a' us.length c') ∧ Hid (w'.ownsRow V.heap.size 66 1 (.slice a' us.length c') us.length (us.map (Value.int .u32))) ∧ Hid (Below V.heap.size V w')) := fun V hv => ocopied_any c cc us V (su.later (bt HX.out.2.2.2 hv)) lu
  have HK : Hid (∀ V, Below X.heap.size X V → V.cell? ⟨w.heap.size, 0, none⟩ = some (.bool n) ∧ V.cell? ⟨w.heap.size, 1, none⟩ = some (.slice a xs.length ca) ∧ V.cell? ⟨w.heap.size + 1, 1, none⟩ = some (.slice c us.length cc)) := fun V hv => ⟨(HX.out.1.later hv HX.out.1.lt).cell 0, (HX.out.1.later hv HX.out.1.lt).cell 1, (HX.out.2.1.later hv HX.out.2.1.lt).cell 1⟩
  have HKP : Hid (∀ V, Below X.heap.size X V → ∀ (v0 v1 v2 : Value), ((((V.setCell ⟨w.heap.size + 1 + 1, 0, none⟩ v0).setCell ⟨w.heap.size + 1 + 1, 1, none⟩ v1).setCell ⟨w.heap.size + 1 + 1, 2, none⟩ v2).cell? ⟨w.heap.size, 0, none⟩ = some (.bool n) ∧ (((V.setCell ⟨w.heap.size + 1 + 1, 0, none⟩ v0).setCell ⟨w.heap.size + 1 + 1, 1, none⟩ v1).setCell ⟨w.heap.size + 1 + 1, 2, none⟩ v2).cell? ⟨w.heap.size, 1, none⟩ = some (.slice a xs.length ca) ∧ (((V.setCell ⟨w.heap.size + 1 + 1, 0, none⟩ v0).setCell ⟨w.heap.size + 1 + 1, 1, none⟩ v1).setCell ⟨w.heap.size + 1 + 1, 2, none⟩ v2).cell? ⟨w.heap.size + 1, 1, none⟩ = some (.slice c us.length cc))) := fun V hv v0 v1 v2 => by
    have h := box_far3 (HX.out.1.later hv HX.out.1.lt) (show w.heap.size ≠ w.heap.size + 1 + 1 by omega) v0 v1 v2
    have h' := box_far3 (HX.out.2.1.later hv HX.out.2.1.lt) (show w.heap.size + 1 ≠ w.heap.size + 1 + 1 by omega) v0 v1 v2
    exact ⟨h.cell 0, h.cell 1, h'.cell 1⟩
  have HM : Hid (∀ V, Below X.heap.size X V → V.cell? ⟨w.heap.size + 1 + 1, 0, none⟩ = some (.bool false) ∧ V.cell? ⟨w.heap.size + 1 + 1, 1, none⟩ = some (.slice none 0 0) ∧ V.cell? ⟨w.heap.size + 1 + 1, 2, none⟩ = some (.slice none 0 0) ∧ V.frozen? ⟨w.heap.size + 1 + 1, 0, none⟩ = false ∧ V.frozen? ⟨w.heap.size + 1 + 1, 1, none⟩ = false ∧ V.frozen? ⟨w.heap.size + 1 + 1, 2, none⟩ = false) := fun V hv => by
    have h := HX.out.2.2.1.later hv HX.out.2.2.1.lt
    exact ⟨h.cell 0, h.cell 1, h.cell 2, h.free 0, h.free 1, h.free 2⟩
  have hd0 := hid (Below.refl X.heap.size X).drew
  have hs0 := HK.out _ hd0.out
  clear sx su lx lu
  go_enter Tryz.func57, Tryz.ntmps57
  go_wp2_with fail
  go_region_held3 (fun V : World => V.cell? ⟨w.heap.size, 0, none⟩ = some (.bool n) ∧ V.cell? ⟨w.heap.size, 1, none⟩ = some (.slice a xs.length ca) ∧ V.cell? ⟨w.heap.size + 1, 1, none⟩ = some (.slice c us.length cc)) (first | exact hsB | exact hsA | exact hs0 | exact HKP.out _ hbB.out _ _ _)
    (first
      | (go_at_call 81; (with_reducible refine Calls.mono (HC2.out _ hbA.out) ?_); rintro e w2 ⟨a2, c2, rfl, o2, b2⟩; have hbB := hid (bt hbA.out b2.out); have hsB := HK.out _ hbB.out; obtain ⟨m0, m1, m2, f0, f1, f2⟩ := HM.out _ hbB.out)
      | (go_at_call 81; (with_reducible refine Calls.mono (HC1.out _ hd0.out) ?_); rintro e w1 ⟨a1, c1, rfl, o1, b1⟩; have hbA := hid (bt hd0.out b1.out); have hsA := HK.out _ hbA.out))
  have HBX := hid (HX.out.2.2.1.later hbB.out HX.out.2.2.1.lt)
  have HBW := hid (bt HX.out.2.2.2 hbB.out)
  have HO1 := hid (owns_later o1.out b2.out)
  have HO2 := hid o2.out
  have HL1 : Hid (Lies (.slice a1 xs.length c1) w.heap.size w1.heap.size) := fun g hg => ⟨Nat.le_trans HX.out.2.2.2.size (o1.out.lt g hg).1, (o1.out.lt g hg).2⟩
  have HL2 : Hid (Lies (.slice a2 us.length c2) w1.heap.size w2.heap.size) := fun g hg => ⟨(o2.out.lt g hg).1, (o2.out.lt g hg).2⟩
  have hXs : w.heap.size + 1 + 1 < X.heap.size := HX.out.2.2.1.lt
  have h1s : X.heap.size ≤ w1.heap.size := hbA.out.size
  have h2s : w1.heap.size ≤ w2.heap.size := b2.out.size
  have hwX : w.heap.size ≤ X.heap.size := HX.out.2.2.2.size
  clear hs0 hsA hsB hd0 o1 o2 b1 b2 hbA hbB HK HKP HM HC1 HC2
  go_wp2_with fail
  have B1 := box_put3 HBX.out (.bool n) (.slice a1 xs.length c1) (.slice a2 us.length c2)
  have e1 : ∀ g, (Value.slice a1 xs.length c1).ownBlock = some g → g ≠ w.heap.size + 1 + 1 := fun g hg => by have := (HO1.out.lt g hg).1; have e : X.drew.heap.size = X.heap.size := rfl; omega
  have e2 : ∀ g, (Value.slice a2 us.length c2).ownBlock = some g → g ≠ w.heap.size + 1 + 1 := fun g hg => by have := (HO2.out.lt g hg).1; omega
  have V1 := own_put3' HO1.out _ e1 (.bool n) (.slice a1 xs.length c1) (.slice a2 us.length c2)
  have U1 := own_put3' HO2.out _ e2 (.bool n) (.slice a1 xs.length c1) (.slice a2 us.length c2)
  refine bodyPost_ret (results_cell_row (by rfl) _ _ (w.heap.size + 1 + 1) 26 _ (0, 0) _ (by rfl) B1 Tryz.underlying26 rfl (by kernel_rfl)) rfl ?_
  refine ⟨a1, c1, a2, c2, rfl, ⟨owns_base V1 hwX, owns_base U1 (by omega)⟩, below_put3 HBW.out _ (by omega) _ _ _, ?_⟩
  exact ⟨w1.heap.size, by omega, by simp [World.setCell]; omega, HL1.out, fun g hg => ⟨(HL2.out g hg).1, by have := (HL2.out g hg).2; simp [World.setCell]; omega⟩⟩

/-- number: the complex fraction of a power in two pieces, in new memory. -/
def ONum (w : World) (g h : G6) (x : Ending) (w' : World) : Prop := ∃ a1 c1 a2 c2 a3 c3 a4 c4, x = .returned (.agg #[.bool g.n, .slice a1 g.xs.length c1, .slice a2 h.xs.length c2, .bool g.m, .slice a3 g.us.length c3, .slice a4 h.xs.length c4]) ∧ Hid (w'.ownsRow w.heap.size 66 1 (.slice a1 g.xs.length c1) g.xs.length (g.xs.map (Value.int .u32)) ∧ w'.ownsRow w.heap.size 66 1 (.slice a2 h.xs.length c2) h.xs.length (h.xs.map (Value.int .u32)) ∧ w'.ownsRow w.heap.size 66 1 (.slice a3 g.us.length c3) g.us.length (g.us.map (Value.int .u32)) ∧ w'.ownsRow w.heap.size 66 1 (.slice a4 h.xs.length c4) h.xs.length (h.xs.map (Value.int .u32))) ∧ Hid (Below w.heap.size w w') ∧ Hid (∃ W1, Cut w (.slice a1 g.xs.length c1) (.slice a2 h.xs.length c2) W1 ∧ Cut W1 (.slice a3 g.us.length c3) (.slice a4 h.xs.length c4) w')
set_option maxHeartbeats 3200000 in
set_option maxRecDepth 100000 in
theorem onumber_any (g h : G6) (w : World) (sg1 : Sl w (.slice g.a g.xs.length g.ca) g.xs) (sg2 : Sl w (.slice g.c g.us.length g.cc) g.us) (sh : Sl w (.slice h.a h.xs.length h.ca) h.xs) (lg1 : g.xs.length ≤ 1099511627776) (lg2 : g.us.length ≤ 1099511627776) (lh : h.xs.length ≤ 1099511627776) :
    Calls Tryz.prog 27 #[.agg #[.bool g.n, .slice g.a g.xs.length g.ca, .slice g.b g.ys.length g.cb, .bool g.m, .slice g.c g.us.length g.cc, .slice g.d g.vs.length g.cd, .bool h.n, .slice h.a h.xs.length h.ca, .slice h.b h.ys.length h.cb, .bool h.m, .slice h.c h.us.length h.cc, .slice h.d h.vs.length h.cd]] w (ONum w g h) := by
  obtain ⟨X, hX⟩ : ∃ X, (w.alloc (.cells #[.bool g.n, .slice g.a g.xs.length g.ca, .slice g.b g.ys.length g.cb, .bool g.m, .slice g.c g.us.length g.cc, .slice g.d g.vs.length g.cd, .bool h.n, .slice h.a h.xs.length h.ca, .slice h.b h.ys.length h.cb, .bool h.m, .slice h.c h.us.length h.cc, .slice h.d h.vs.length h.cd] 54)).alloc (.cells #[.bool false, .slice none 0 0, .slice none 0 0, .bool false, .slice none 0 0, .slice none 0 0] 28) = X := ⟨_, rfl⟩
  have HB : Hid (Below w.heap.size w X) := by rw [← hX]; exact bt (alloc_later _ _) (alloc_later _ _)
  have HP : Hid (Box X w.heap.size 54 #[.bool g.n, .slice g.a g.xs.length g.ca, .slice g.b g.ys.length g.cb, .bool g.m, .slice g.c g.us.length g.cc, .slice g.d g.vs.length g.cd, .bool h.n, .slice h.a h.xs.length h.ca, .slice h.b h.ys.length h.cb, .bool h.m, .slice h.c h.us.length h.cc, .slice h.d h.vs.length h.cd]) := by rw [← hX]; exact (Box.made w _ _).later (alloc_later _ _) (Box.made w _ _).lt
  have HZ : Hid (Box X (w.heap.size + 1) 28 #[.bool false, .slice none 0 0, .slice none 0 0, .bool false, .slice none 0 0, .slice none 0 0]) := by
    have q := Box.made (w.alloc (.cells #[.bool g.n, .slice g.a g.xs.length g.ca, .slice g.b g.ys.length g.cb, .bool g.m, .slice g.c g.us.length g.cc, .slice g.d g.vs.length g.cd, .bool h.n, .slice h.a h.xs.length h.ca, .slice h.b h.ys.length h.cb, .bool h.m, .slice h.c h.us.length h.cc, .slice h.d h.vs.length h.cd] 54)) 28 #[.bool false, .slice none 0 0, .slice none 0 0, .bool false, .slice none 0 0, .slice none 0 0]
    rw [show (w.alloc (.cells #[.bool g.n, .slice g.a g.xs.length g.ca, .slice g.b g.ys.length g.cb, .bool g.m, .slice g.c g.us.length g.cc, .slice g.d g.vs.length g.cd, .bool h.n, .slice h.a h.xs.length h.ca, .slice h.b h.ys.length h.cb, .bool h.m, .slice h.c h.us.length h.cc, .slice h.d h.vs.length h.cd] 54)).heap.size = w.heap.size + 1 by simp, hX] at q
    exact q
  have HK : Hid (∀ V, Below X.heap.size X V → V.cell? ⟨w.heap.size, 0, none⟩ = some (.bool g.n) ∧ V.cell? ⟨w.heap.size, 1, none⟩ = some (.slice g.a g.xs.length g.ca) ∧ V.cell? ⟨w.heap.size, 2, none⟩ = some (.slice g.b g.ys.length g.cb) ∧ V.cell? ⟨w.heap.size, 3, none⟩ = some (.bool g.m) ∧ V.cell? ⟨w.heap.size, 4, none⟩ = some (.slice g.c g.us.length g.cc) ∧ V.cell? ⟨w.heap.size, 5, none⟩ = some (.slice g.d g.vs.length g.cd) ∧ V.cell? ⟨w.heap.size, 6, none⟩ = some (.bool h.n) ∧ V.cell? ⟨w.heap.size, 7, none⟩ = some (.slice h.a h.xs.length h.ca) ∧ V.cell? ⟨w.heap.size, 8, none⟩ = some (.slice h.b h.ys.length h.cb)) := fun V hv => by
    have q := HP.out.later hv HP.out.lt
    exact ⟨q.cell 0, q.cell 1, q.cell 2, q.cell 3, q.cell 4, q.cell 5, q.cell 6, q.cell 7, q.cell 8⟩
  have HKB : Hid (∀ V, Box V w.heap.size 54 #[.bool g.n, .slice g.a g.xs.length g.ca, .slice g.b g.ys.length g.cb, .bool g.m, .slice g.c g.us.length g.cc, .slice g.d g.vs.length g.cd, .bool h.n, .slice h.a h.xs.length h.ca, .slice h.b h.ys.length h.cb, .bool h.m, .slice h.c h.us.length h.cc, .slice h.d h.vs.length h.cd] → V.cell? ⟨w.heap.size, 0, none⟩ = some (.bool g.n) ∧ V.cell? ⟨w.heap.size, 1, none⟩ = some (.slice g.a g.xs.length g.ca) ∧ V.cell? ⟨w.heap.size, 2, none⟩ = some (.slice g.b g.ys.length g.cb) ∧ V.cell? ⟨w.heap.size, 3, none⟩ = some (.bool g.m) ∧ V.cell? ⟨w.heap.size, 4, none⟩ = some (.slice g.c g.us.length g.cc) ∧ V.cell? ⟨w.heap.size, 5, none⟩ = some (.slice g.d g.vs.length g.cd) ∧ V.cell? ⟨w.heap.size, 6, none⟩ = some (.bool h.n) ∧ V.cell? ⟨w.heap.size, 7, none⟩ = some (.slice h.a h.xs.length h.ca) ∧ V.cell? ⟨w.heap.size, 8, none⟩ = some (.slice h.b h.ys.length h.cb)) := fun V q => ⟨q.cell 0, q.cell 1, q.cell 2, q.cell 3, q.cell 4, q.cell 5, q.cell 6, q.cell 7, q.cell 8⟩
  have HV1 : Hid (∀ V, Below X.heap.size X V → Calls Tryz.prog 57 #[.agg #[.bool g.n, .slice g.a g.xs.length g.ca, .slice g.b g.ys.length g.cb], .agg #[.bool h.n, .slice h.a h.xs.length h.ca, .slice h.b h.ys.length h.cb]] V fun e w' => ∃ a1 c1 a2 c2, e = .returned (.agg #[.bool g.n, .slice a1 g.xs.length c1, .slice a2 h.xs.length c2]) ∧ Hid ((w'.ownsRow V.heap.size 66 1 (.slice a1 g.xs.length c1) g.xs.length (g.xs.map (Value.int .u32)) ∧ w'.ownsRow V.heap.size 66 1 (.slice a2 h.xs.length c2) h.xs.length (h.xs.map (Value.int .u32))) ∧ Below V.heap.size V w' ∧ Cut V (.slice a1 g.xs.length c1) (.slice a2 h.xs.length c2) w')) := fun V hv => by
    refine Calls.mono (oover_any _ _ _ _ _ _ _ _ _ _ _ _ _ _ V (sg1.later (bt HB.out hv)) (sh.later (bt HB.out hv)) lg1 lh) ?_
    rintro e w' ⟨a1, c1, a2, c2, rfl, ho, hb, hc⟩
    exact ⟨a1, c1, a2, c2, rfl, ho, hb, hc⟩
  have HV2 : Hid (∀ V, Below X.heap.size X V → Calls Tryz.prog 57 #[.agg #[.bool g.m, .slice g.c g.us.length g.cc, .slice g.d g.vs.length g.cd], .agg #[.bool h.n, .slice h.a h.xs.length h.ca, .slice h.b h.ys.length h.cb]] V fun e w' => ∃ a1 c1 a2 c2, e = .returned (.agg #[.bool g.m, .slice a1 g.us.length c1, .slice a2 h.xs.length c2]) ∧ Hid ((w'.ownsRow V.heap.size 66 1 (.slice a1 g.us.length c1) g.us.length (g.us.map (Value.int .u32)) ∧ w'.ownsRow V.heap.size 66 1 (.slice a2 h.xs.length c2) h.xs.length (h.xs.map (Value.int .u32))) ∧ Below V.heap.size V w' ∧ Cut V (.slice a1 g.us.length c1) (.slice a2 h.xs.length c2) w')) := fun V hv => by
    refine Calls.mono (oover_any _ _ _ _ _ _ _ _ _ _ _ _ _ _ V (sg2.later (bt HB.out hv)) (sh.later (bt HB.out hv)) lg2 lh) ?_
    rintro e w' ⟨a1, c1, a2, c2, rfl, ho, hb, hc⟩
    exact ⟨a1, c1, a2, c2, rfl, ho, hb, hc⟩
  have hd0 := hid (Below.refl X.heap.size X).drew
  have hs0 := HK.out _ hd0.out
  have hsz := HB.out.size
  clear sg1 sg2 sh lg1 lg2 lh
  go_enter Tryz.func27, Tryz.ntmps27
  go_wp2_with fail
  go_region_held3 (fun V : World => V.cell? ⟨w.heap.size, 0, none⟩ = some (.bool g.n) ∧ V.cell? ⟨w.heap.size, 1, none⟩ = some (.slice g.a g.xs.length g.ca) ∧ V.cell? ⟨w.heap.size, 2, none⟩ = some (.slice g.b g.ys.length g.cb) ∧ V.cell? ⟨w.heap.size, 3, none⟩ = some (.bool g.m) ∧ V.cell? ⟨w.heap.size, 4, none⟩ = some (.slice g.c g.us.length g.cc) ∧ V.cell? ⟨w.heap.size, 5, none⟩ = some (.slice g.d g.vs.length g.cd) ∧ V.cell? ⟨w.heap.size, 6, none⟩ = some (.bool h.n) ∧ V.cell? ⟨w.heap.size, 7, none⟩ = some (.slice h.a h.xs.length h.ca) ∧ V.cell? ⟨w.heap.size, 8, none⟩ = some (.slice h.b h.ys.length h.cb)) (first | exact hsC | exact hsB | exact hsA | exact hs0)
    (first
      | (go_at_call 57; (with_reducible refine Calls.mono (HV2.out _ hbA.out) ?_); rintro e w2 ⟨a3, c3, a4, c4, rfl, ho2⟩; have hbB := hid (bt hbA.out ho2.out.2.1); have hsB := HK.out _ hbB.out; obtain ⟨A0, A1, A2, A3, A4, A5, k0, k1, k2, k3, k4, k5, ⟨r0, r1, r2, r3, r4, r5⟩, ⟨f0, f1, f2, f3, f4, f5⟩, HA5⟩ := rchain6 (HZ.out.later hbB.out HZ.out.lt) (by decide) (.bool g.n) (.slice a1 g.xs.length c1) (.slice a2 h.xs.length c2) (.bool g.m) (.slice a3 g.us.length c3) (.slice a4 h.xs.length c4); have hsC := HKB.out _ (HA5.out.2.1 _ _ _ (by omega) (HP.out.later hbB.out HP.out.lt)))
      | (go_at_call 57; (with_reducible refine Calls.mono (HV1.out _ hd0.out) ?_); rintro e w1 ⟨a1, c1, a2, c2, rfl, ho1⟩; have hbA := hid (bt hd0.out ho1.out.2.1); have hsA := HK.out _ hbA.out))
  have h1 := hbA.out.size
  have h2 := ho2.out.2.1.size
  have h3 := HA5.out.2.2.2.2
  go_wp2_with fail
  refine bodyPost_ret (results_cell_row (by rfl) _ _ (w.heap.size + 1) 28 _ (0, 0) _ (by rfl) HA5.out.1 Tryz.underlying28 rfl (by kernel_rfl)) rfl ?_
  have b12 := ho2.out.2.1
  have ho2' := ho2.out.1
  refine ⟨a1, c1, a2, c2, a3, c3, a4, c4, rfl, ⟨HA5.out.2.2.1 _ _ _ _ (owns_base (owns_later ho1.out.1.1 b12) hsz), HA5.out.2.2.1 _ _ _ _ (owns_base (owns_later ho1.out.1.2 b12) hsz), HA5.out.2.2.1 _ _ _ _ (owns_base ho2'.1 (by omega)), HA5.out.2.2.1 _ _ _ _ (owns_base ho2'.2 (by omega))⟩, HA5.out.2.2.2.1 _ _ (by omega) (bt HB.out hbB.out), w1, ho1.out.2.2.up hsz (Nat.le_refl _), ho2.out.2.2.up (Nat.le_refl _) (by omega)⟩
end Go.Proofs.YtcfcjnlobpoglaaGreat

/- package rotor: first, Of. -/
namespace Go.Proofs.YtcfcjnlobpoglaaGreat
open Go.RowKit
set_option linter.unusedVariables false
set_option linter.unusedSimpArgs false

theorem osq (f : Int) (h : f.natAbs ≤ 1000) : 0 ≤ f * f ∧ f * f ≤ 1000000 := by
  have h1 : -1000 ≤ f := by omega
  have h2 : f ≤ 1000 := by omega
  have e : ((f.natAbs * f.natAbs : Nat) : Int) = f * f := Int.natAbs_mul_self
  have h3 : f.natAbs * f.natAbs ≤ 1000 * 1000 := Nat.mul_le_mul h h
  rw [← e]
  omega
theorem opr (f n : Int) (h : f.natAbs ≤ 1000) (g : n.natAbs ≤ 1000) : -1000000 ≤ f * n ∧ f * n ≤ 1000000 := by
  have h3 : (f * n).natAbs ≤ 1000 * 1000 := by rw [Int.natAbs_mul]; exact Nat.mul_le_mul h g
  omega
/-- The number of a rotor, in lowest terms: its parts' Nums, and their Den. -/
def oRe (f n : Int) : Int := if (f * f + n * n) % 2 = 0 then (f * f - n * n) / 2 else f * f - n * n
def oIm (f n : Int) : Int := if (f * f + n * n) % 2 = 0 then f * n else 2 * (f * n)
def oNm (f n : Int) : Int := if (f * f + n * n) % 2 = 0 then (f * f + n * n) / 2 else f * f + n * n

def OFst (w : World) (f n : Int) (x : Ending) (w' : World) : Prop := ∃ g h : G6, x = .returned (.agg #[.bool g.n, .slice g.a g.xs.length g.ca, .slice g.b g.ys.length g.cb, .bool g.m, .slice g.c g.us.length g.cc, .slice g.d g.vs.length g.cd, .bool h.n, .slice h.a h.xs.length h.ca, .slice h.b h.ys.length h.cb, .bool h.m, .slice h.c h.us.length h.cc, .slice h.d h.vs.length h.cd]) ∧ Hid (g.Ow w' w.heap.size ∧ h.Ow w' w.heap.size) ∧ Hid (g.Is (Rat.divInt (oRe f n) 1) (Rat.divInt (oIm f n) 1)) ∧ Hid (h.Is (Rat.divInt (oNm f n) 1) (Rat.divInt 0 1)) ∧ Hid (Below w.heap.size w w')
set_option maxHeartbeats 3200000 in
set_option maxRecDepth 100000 in
theorem ofirst_any (f n : Int) (w : World) (hf : 1 ≤ f ∧ f ≤ 1000) (hn : n.natAbs ≤ 1000) :
    Calls Tryz.prog 26 #[.agg #[.int .i32 f, .int .i32 n]] w (OFst w f n) := by
  obtain ⟨X, hX⟩ : ∃ X, (w.alloc (.cells #[.int .i32 f, .int .i32 n] 23)).alloc (.cells #[.bool false, .slice none 0 0, .slice none 0 0, .bool false, .slice none 0 0, .slice none 0 0, .bool false, .slice none 0 0, .slice none 0 0, .bool false, .slice none 0 0, .slice none 0 0] 54) = X := ⟨_, rfl⟩
  have HB : Hid (Below w.heap.size w X) := by rw [← hX]; exact bt (alloc_later _ _) (alloc_later _ _)
  have HR : Hid (Box X w.heap.size 23 #[.int .i32 f, .int .i32 n]) := by rw [← hX]; exact (Box.made w _ _).later (alloc_later _ _) (Box.made w _ _).lt
  have HZ : Hid (Box X (w.heap.size + 1) 54 #[.bool false, .slice none 0 0, .slice none 0 0, .bool false, .slice none 0 0, .slice none 0 0, .bool false, .slice none 0 0, .slice none 0 0, .bool false, .slice none 0 0, .slice none 0 0]) := by
    have q := Box.made (w.alloc (.cells #[.int .i32 f, .int .i32 n] 23)) 54 #[.bool false, .slice none 0 0, .slice none 0 0, .bool false, .slice none 0 0, .slice none 0 0, .bool false, .slice none 0 0, .slice none 0 0, .bool false, .slice none 0 0, .slice none 0 0]
    rw [show (w.alloc (.cells #[.int .i32 f, .int .i32 n] 23)).heap.size = w.heap.size + 1 by simp, hX] at q
    exact q
  have k0 : X.cell? ⟨w.heap.size, 0, none⟩ = some (.int .i32 f) := HR.out.cell 0
  have k1 : X.cell? ⟨w.heap.size, 1, none⟩ = some (.int .i32 n) := HR.out.cell 1
  have hF := osq f (by omega)
  have hN := osq n hn
  have hP := opr f n (by omega) hn
  have hn0 : -1000 ≤ n := by omega
  have hn1 : n ≤ 1000 := by omega
  have hQ : 2 * f * n = 2 * (f * n) := Int.mul_assoc 2 f n
  clear hn
  go_enter Tryz.func26, Tryz.ntmps26
  go_wp2_with fail
  go_quiet (fail)
  have HBN := hid (bdrewN (Below.refl X.heap.size X) nq)
  generalize X.drewN nq = Y at *
  by_cases hpar : (f * f + n * n) % 2 = 0
  · have hpt : Int.tmod (f * f + n * n) 2 = 0 := by rw [Int.tmod_eq_emod_of_nonneg (by omega)]; exact hpar
    have ht1 : Int.tdiv (f * f - n * n) 2 = (f * f - n * n) / 2 := by
      obtain ⟨k, hk⟩ : ∃ k, f * f - n * n = 2 * k := ⟨(f * f - n * n) / 2, by omega⟩
      rw [hk, Int.mul_tdiv_cancel_left _ (by decide), Int.mul_ediv_cancel_left _ (by decide)]
    have ht2 : Int.tdiv (2 * f * n) 2 = f * n := by rw [hQ, Int.mul_tdiv_cancel_left _ (by decide)]
    have ht3 : Int.tdiv (f * f + n * n) 2 = (f * f + n * n) / 2 := by rw [Int.tdiv_eq_ediv_of_nonneg (by omega)]
    have HC1 := hid (oInt_any ((f * f - n * n) / 2) (f * n) Y (by omega) (by omega) (by omega) (by omega))
    have HC2 := hid (fun V => oInt_any ((f * f + n * n) / 2) 0 V (by omega) (by omega) (by omega) (by omega))
    have E1 : Hid (oRe f n = (f * f - n * n) / 2 ∧ oIm f n = f * n ∧ oNm f n = (f * f + n * n) / 2) := by
      unfold oRe oIm oNm
      exact ⟨by rw [if_pos hpar], by rw [if_pos hpar], by rw [if_pos hpar]⟩
    go_wp2_with fail
    refine Calls.mono HC1.out ?_
    rintro e w1 ⟨g, rfl, hog, hig, hb1⟩
    have HD := hid (HC2.out w1)
    clear HC1 HC2
    go_wp2_with fail
    refine Calls.mono HD.out ?_
    rintro e w2 ⟨h, rfl, hoh, hih, hb2⟩
    clear HD
    have HBB := hid (bt HBN.out (bt hb1.out hb2.out))
    obtain ⟨A0, A1, A2, A3, A4, A5, A6, A7, A8, A9, A10, A11, q0, q1, q2, q3, q4, q5, q6, q7, q8, q9, q10, q11, ⟨r0, r1, r2, r3, r4, r5, r6, r7, r8, r9, r10, r11⟩, ⟨f0, f1, f2, f3, f4, f5, f6, f7, f8, f9, f10, f11⟩, HA⟩ := rchain12 (HZ.out.later HBB.out HZ.out.lt) (by decide) (.bool g.n) (.slice g.a g.xs.length g.ca) (.slice g.b g.ys.length g.cb) (.bool g.m) (.slice g.c g.us.length g.cc) (.slice g.d g.vs.length g.cd) (.bool h.n) (.slice h.a h.xs.length h.ca) (.slice h.b h.ys.length h.cb) (.bool h.m) (.slice h.c h.us.length h.cc) (.slice h.d h.vs.length h.cd)
    go_wp2_with fail
    refine bodyPost_ret (results_cell_row (by rfl) _ _ (w.heap.size + 1) 54 _ (0, 0) _ (by rfl) HA.out.1 Tryz.underlying54 rfl (by kernel_rfl)) rfl ?_
    have z1 := HB.out.size
    have z2 := HBN.out.size
    have z3 := hb1.out.size
    have P := HA.out.2.2.1
    have o1 := (hog.out.later hb2.out).base (show w.heap.size ≤ Y.heap.size by omega)
    have o2 := hoh.out.base (show w.heap.size ≤ w1.heap.size by omega)
    refine ⟨g, h, rfl, ⟨⟨P _ _ _ _ o1.1, P _ _ _ _ o1.2.1, P _ _ _ _ o1.2.2.1, P _ _ _ _ o1.2.2.2⟩, ⟨P _ _ _ _ o2.1, P _ _ _ _ o2.2.1, P _ _ _ _ o2.2.2.1, P _ _ _ _ o2.2.2.2⟩⟩, ?_, ?_, HA.out.2.2.2.1 _ _ (by omega) (bt HB.out HBB.out)⟩
    · rw [E1.out.1, E1.out.2.1]; exact hig
    · rw [E1.out.2.2]; exact hih
  · have hpt : Int.tmod (f * f + n * n) 2 = 1 := by rw [Int.tmod_eq_emod_of_nonneg (by omega)]; omega
    have HC1 := hid (oInt_any (f * f - n * n) (2 * (f * n)) Y (by omega) (by omega) (by omega) (by omega))
    have HC2 := hid (fun V => oInt_any (f * f + n * n) 0 V (by omega) (by omega) (by omega) (by omega))
    have E1 : Hid (oRe f n = f * f - n * n ∧ oIm f n = 2 * (f * n) ∧ oNm f n = f * f + n * n) := by
      unfold oRe oIm oNm
      exact ⟨by rw [if_neg hpar], by rw [if_neg hpar], by rw [if_neg hpar]⟩
    go_wp2_with fail
    refine Calls.mono HC1.out ?_
    rintro e w1 ⟨g, rfl, hog, hig, hb1⟩
    have HD := hid (HC2.out w1)
    clear HC1 HC2
    go_wp2_with fail
    refine Calls.mono HD.out ?_
    rintro e w2 ⟨h, rfl, hoh, hih, hb2⟩
    clear HD
    have HBB := hid (bt HBN.out (bt hb1.out hb2.out))
    obtain ⟨A0, A1, A2, A3, A4, A5, A6, A7, A8, A9, A10, A11, q0, q1, q2, q3, q4, q5, q6, q7, q8, q9, q10, q11, ⟨r0, r1, r2, r3, r4, r5, r6, r7, r8, r9, r10, r11⟩, ⟨f0, f1, f2, f3, f4, f5, f6, f7, f8, f9, f10, f11⟩, HA⟩ := rchain12 (HZ.out.later HBB.out HZ.out.lt) (by decide) (.bool g.n) (.slice g.a g.xs.length g.ca) (.slice g.b g.ys.length g.cb) (.bool g.m) (.slice g.c g.us.length g.cc) (.slice g.d g.vs.length g.cd) (.bool h.n) (.slice h.a h.xs.length h.ca) (.slice h.b h.ys.length h.cb) (.bool h.m) (.slice h.c h.us.length h.cc) (.slice h.d h.vs.length h.cd)
    go_wp2_with fail
    refine bodyPost_ret (results_cell_row (by rfl) _ _ (w.heap.size + 1) 54 _ (0, 0) _ (by rfl) HA.out.1 Tryz.underlying54 rfl (by kernel_rfl)) rfl ?_
    have z1 := HB.out.size
    have z2 := HBN.out.size
    have z3 := hb1.out.size
    have P := HA.out.2.2.1
    have o1 := (hog.out.later hb2.out).base (show w.heap.size ≤ Y.heap.size by omega)
    have o2 := hoh.out.base (show w.heap.size ≤ w1.heap.size by omega)
    refine ⟨g, h, rfl, ⟨⟨P _ _ _ _ o1.1, P _ _ _ _ o1.2.1, P _ _ _ _ o1.2.2.1, P _ _ _ _ o1.2.2.2⟩, ⟨P _ _ _ _ o2.1, P _ _ _ _ o2.2.1, P _ _ _ _ o2.2.2.1, P _ _ _ _ o2.2.2.2⟩⟩, ?_, ?_, HA.out.2.2.2.1 _ _ (by omega) (bt HB.out HBB.out)⟩
    · rw [E1.out.1, E1.out.2.1]; exact hig
    · rw [E1.out.2.2]; exact hih

/-- What Of tells of a rotor that may be. -/
def OOf (w : World) (f n : Int) (x : Ending) (w' : World) : Prop := ∃ g h : G6, ∃ a1 c1 a2 c2 a3 c3 a4 c4, x = .returned (.tuple #[.agg #[.bool g.n, .slice a1 g.xs.length c1, .slice a2 h.xs.length c2, .bool g.m, .slice a3 g.us.length c3, .slice a4 h.xs.length c4], .int .i64 0]) ∧ Hid (w'.ownsRow w.heap.size 66 1 (.slice a1 g.xs.length c1) g.xs.length (g.xs.map (Value.int .u32)) ∧ w'.ownsRow w.heap.size 66 1 (.slice a2 h.xs.length c2) h.xs.length (h.xs.map (Value.int .u32)) ∧ w'.ownsRow w.heap.size 66 1 (.slice a3 g.us.length c3) g.us.length (g.us.map (Value.int .u32)) ∧ w'.ownsRow w.heap.size 66 1 (.slice a4 h.xs.length c4) h.xs.length (h.xs.map (Value.int .u32))) ∧ Hid (g.Is (Rat.divInt (oRe f n) 1) (Rat.divInt (oIm f n) 1)) ∧ Hid (h.Is (Rat.divInt (oNm f n) 1) (Rat.divInt 0 1)) ∧ Hid (Below w.heap.size w w') ∧ Hid (∃ W1, Cut w (.slice a1 g.xs.length c1) (.slice a2 h.xs.length c2) W1 ∧ Cut W1 (.slice a3 g.us.length c3) (.slice a4 h.xs.length c4) w')
set_option maxHeartbeats 3200000 in
set_option maxRecDepth 100000 in
theorem oOf_good (f n : Int) (w : World) (hr : rOK f n) :
    Calls Tryz.prog 6 #[.agg #[.int .i32 f, .int .i32 n]] w (OOf w f n) := by
  obtain ⟨X, hX⟩ : ∃ X, (w.alloc (.cells #[.int .i32 f, .int .i32 n] 23)).alloc (.cells #[.bool false, .slice none 0 0, .slice none 0 0, .bool false, .slice none 0 0, .slice none 0 0] 28) = X := ⟨_, rfl⟩
  have HB : Hid (Below w.heap.size w X) := by rw [← hX]; exact bt (alloc_later _ _) (alloc_later _ _)
  have HR : Hid (Box X w.heap.size 23 #[.int .i32 f, .int .i32 n]) := by rw [← hX]; exact (Box.made w _ _).later (alloc_later _ _) (Box.made w _ _).lt
  have HZ : Hid (Box X (w.heap.size + 1) 28 #[.bool false, .slice none 0 0, .slice none 0 0, .bool false, .slice none 0 0, .slice none 0 0]) := by
    have q := Box.made (w.alloc (.cells #[.int .i32 f, .int .i32 n] 23)) 28 #[.bool false, .slice none 0 0, .slice none 0 0, .bool false, .slice none 0 0, .slice none 0 0]
    rw [show (w.alloc (.cells #[.int .i32 f, .int .i32 n] 23)).heap.size = w.heap.size + 1 by simp, hX] at q
    exact q
  have hin : in32 f n := by unfold rOK at hr; unfold in32; omega
  have HC := hid (ocheck_any f n X hin)
  have h0 : ochk f n = 0 := by unfold ochk; rw [if_pos hr]
  rw [h0] at HC
  have HF := hid (fun V => ofirst_any f n V (by unfold rOK at hr; omega) (by unfold rOK at hr; omega))
  have k0 : X.cell? ⟨w.heap.size, 0, none⟩ = some (.int .i32 f) := HR.out.cell 0
  have k1 : X.cell? ⟨w.heap.size, 1, none⟩ = some (.int .i32 n) := HR.out.cell 1
  clear h0 hin hr
  go_enter Tryz.func6, Tryz.ntmps6
  go_wp2_with fail
  clear hX
  refine Calls.mono HC.out ?_
  rintro e w1 ⟨rfl, hb1⟩
  have HB1 := hid hb1
  clear hb1 k0 k1 HC
  have k0 : w1.cell? ⟨w.heap.size, 0, none⟩ = some (.int .i32 f) := (HR.out.later HB1.out HR.out.lt).cell 0
  have k1 : w1.cell? ⟨w.heap.size, 1, none⟩ = some (.int .i32 n) := (HR.out.later HB1.out HR.out.lt).cell 1
  have HD := hid (HF.out w1)
  clear HF
  go_wp2_with fail
  refine Calls.mono HD.out ?_
  rintro e w2 ⟨g, h, rfl, ho2, hg, hh, hb2⟩
  have sg := ho2.out.1.sl hg.out
  have sh := ho2.out.2.sl hh.out
  have lg := hg.out.len
  have lh := hh.out.len
  have HN := hid (onumber_any g h w2 sg.1 sg.2.2.1 sh.1 (by omega) (by omega) (by omega))
  clear HD sg sh lg lh k0 k1
  go_wp2_with fail
  refine Calls.mono HN.out ?_
  rintro e w3 ⟨a1, c1, a2, c2, a3, c3, a4, c4, rfl, ho3, hb3, hc3⟩
  clear HN
  have HBB := hid (bt HB1.out (bt hb2.out hb3.out))
  obtain ⟨A0, A1, A2, A3, A4, A5, q0, q1, q2, q3, q4, q5, ⟨r0, r1, r2, r3, r4, r5⟩, ⟨f0, f1, f2, f3, f4, f5⟩, HA⟩ := rchain6 (HZ.out.later HBB.out HZ.out.lt) (by decide) (.bool g.n) (.slice a1 g.xs.length c1) (.slice a2 h.xs.length c2) (.bool g.m) (.slice a3 g.us.length c3) (.slice a4 h.xs.length c4)
  go_wp2_with fail
  have z1 := HB.out.size
  have z2 := HB1.out.size
  have z3 := hb2.out.size
  have P := HA.out.2.2.1
  have z4 := HA.out.2.2.2.2
  obtain ⟨W1, hc1, hc2⟩ := hc3.out
  refine bodyPost_ret (gres_run (by rfl) HA.out.1 _ (by rfl)) rfl ?_
  exact ⟨g, h, a1, c1, a2, c2, a3, c3, a4, c4, rfl, ⟨P _ _ _ _ (owns_base ho3.out.1 (by omega)), P _ _ _ _ (owns_base ho3.out.2.1 (by omega)), P _ _ _ _ (owns_base ho3.out.2.2.1 (by omega)), P _ _ _ _ (owns_base ho3.out.2.2.2 (by omega))⟩, hg, hh, HA.out.2.2.2.1 _ _ (by omega) (bt HB.out HBB.out), W1, hc1.up (by omega) (Nat.le_refl _), hc2.up (Nat.le_refl _) (by omega)⟩
end Go.Proofs.YtcfcjnlobpoglaaGreat

/- No program: powers of complex whole numbers; each power of a rotor's number is in lowest terms, and none is long. -/
namespace Go.Proofs.YtcfcjnlobpoglaaGreat
set_option linter.unusedVariables false

/-- Products and powers of complex whole numbers. -/
def zmul (p q : Int × Int) : Int × Int := (p.1 * q.1 - p.2 * q.2, p.1 * q.2 + p.2 * q.1)
def zpow (p : Int × Int) : Nat → Int × Int
  | 0 => (1, 0)
  | t + 1 => zmul (zpow p t) p
theorem zmul_assoc (p q r : Int × Int) : zmul (zmul p q) r = zmul p (zmul q r) := by
  unfold zmul
  apply Prod.ext
  · show (p.1 * q.1 - p.2 * q.2) * r.1 - (p.1 * q.2 + p.2 * q.1) * r.2 = p.1 * (q.1 * r.1 - q.2 * r.2) - p.2 * (q.1 * r.2 + q.2 * r.1)
    grind
  · show (p.1 * q.1 - p.2 * q.2) * r.2 + (p.1 * q.2 + p.2 * q.1) * r.1 = p.1 * (q.1 * r.2 + q.2 * r.1) + p.2 * (q.1 * r.1 - q.2 * r.2)
    grind
theorem zmul_one (p : Int × Int) : zmul p (1, 0) = p := by
  unfold zmul
  apply Prod.ext
  · show p.1 * 1 - p.2 * 0 = p.1
    omega
  · show p.1 * 0 + p.2 * 1 = p.2
    omega
theorem zpow_one (p : Int × Int) : zpow p 1 = p := by
  show zmul (1, 0) p = p
  unfold zmul
  apply Prod.ext
  · show 1 * p.1 - 0 * p.2 = p.1
    omega
  · show 1 * p.2 + 0 * p.1 = p.2
    omega
theorem zpow_add (p : Int × Int) (s t : Nat) : zpow p (s + t) = zmul (zpow p s) (zpow p t) := by
  induction t with
  | zero => exact (zmul_one _).symm
  | succ t ih =>
    show zmul (zpow p (s + t)) p = zmul (zpow p s) (zmul (zpow p t) p)
    rw [ih, zmul_assoc]
theorem zpow_norm (p : Int × Int) (t : Nat) : (zpow p t).1 * (zpow p t).1 + (zpow p t).2 * (zpow p t).2 = (p.1 * p.1 + p.2 * p.2) ^ t := by
  induction t with
  | zero => rw [Int.pow_zero]; rfl
  | succ t ih =>
    rw [Int.pow_succ, ← ih]
    show ((zpow p t).1 * p.1 - (zpow p t).2 * p.2) * ((zpow p t).1 * p.1 - (zpow p t).2 * p.2) + ((zpow p t).1 * p.2 + (zpow p t).2 * p.1) * ((zpow p t).1 * p.2 + (zpow p t).2 * p.1) = _
    generalize (zpow p t).1 = x
    generalize (zpow p t).2 = y
    grind
theorem z_mod (f n e M re im : Int) (h : e * (f * f + n * n) = 2 * M) (hre : re = e * (f * f) - M) (him : im = e * (f * n)) (t : Nat) : ∃ u v, (zpow (re, im) (t + 1)).1 = e * f * (2 * e * (f * f)) ^ t * f + M * u ∧ (zpow (re, im) (t + 1)).2 = e * f * (2 * e * (f * f)) ^ t * n + M * v := by
  induction t with
  | zero =>
    refine ⟨-1, 0, ?_, ?_⟩
    · show 1 * re - 0 * im = _
      rw [hre, Int.pow_zero]
      grind
    · show 1 * im + 0 * re = _
      rw [him, Int.pow_zero]
      grind
  | succ t ih =>
    obtain ⟨u, v, h1, h2⟩ := ih
    rw [Int.pow_succ]
    generalize hc : e * f * (2 * e * (f * f)) ^ t = c at h1 h2
    have hc' : e * f * ((2 * e * (f * f)) ^ t * (2 * e * (f * f))) = c * (2 * e * (f * f)) := by rw [← hc, Int.mul_assoc (e * f)]
    rw [hc']
    refine ⟨u * re - v * im - 3 * (c * f), u * im + v * re - c * n, ?_, ?_⟩
    · show (zpow (re, im) (t + 1)).1 * re - (zpow (re, im) (t + 1)).2 * im = _
      rw [h1, h2]
      have k : c * f * (e * (f * f + n * n)) = c * f * (2 * M) := by rw [h]
      have e1 : (c * f + M * u) * re - (c * n + M * v) * im = c * f * re - c * n * im + M * (u * re - v * im) := by grind
      rw [e1, show c * f * re - c * n * im = c * f * (e * (f * f) - M) - c * n * (e * (f * n)) by rw [hre, him]]
      grind
    · show (zpow (re, im) (t + 1)).1 * im + (zpow (re, im) (t + 1)).2 * re = _
      rw [h1, h2]
      have e1 : (c * f + M * u) * im + (c * n + M * v) * re = c * f * im + c * n * re + M * (u * im + v * re) := by grind
      rw [e1, show c * f * im + c * n * re = c * f * (e * (f * n)) + c * n * (e * (f * f) - M) by rw [hre, him]]
      grind
theorem gcd_mul_one {x y z : Int} (h : Int.gcd x z = 1) (g : Int.gcd y z = 1) : Int.gcd (x * y) z = 1 := by
  show Nat.gcd (x * y).natAbs z.natAbs = 1
  rw [Int.natAbs_mul]
  exact Nat.Coprime.mul_left h g
theorem gcd_pow_one {x z : Int} (t : Nat) (h : Int.gcd x z = 1) : Int.gcd (x ^ t) z = 1 := by
  show Nat.gcd (x ^ t).natAbs z.natAbs = 1
  rw [Int.natAbs_pow]
  exact Nat.Coprime.pow_left t h
theorem gcd_one_pow {x z : Int} (t : Nat) (h : Int.gcd x z = 1) : Int.gcd x (z ^ t) = 1 := by
  rw [Int.gcd_comm]
  exact gcd_pow_one t (by rw [Int.gcd_comm]; exact h)
theorem gcd_two_odd {M : Int} (h : M % 2 = 1) : Int.gcd 2 M = 1 := by
  obtain ⟨k, hk⟩ : ∃ k, M = 1 + 2 * k := ⟨M / 2, by omega⟩
  rw [Int.gcd_comm, hk, Int.gcd_add_mul_left_left]
  rfl
/-- A rotor's number: what its parts come from. -/
theorem o_parts {f n : Int} (h : rOK f n) : ∃ e : Int, (e = 1 ∨ e = 2) ∧ e * (f * f + n * n) = 2 * oNm f n ∧ oRe f n = e * (f * f) - oNm f n ∧ oIm f n = e * (f * n) ∧ oNm f n % 2 = 1 ∧ 5 ≤ oNm f n ∧ oNm f n ≤ 2000000 ∧ Int.gcd f (oNm f n) = 1 ∧ Int.gcd n (oNm f n) = 1 := by
  obtain ⟨h1, h2, h3, h4, h5, h6⟩ := h
  have hF := osq f (by omega)
  have hN := osq n h4
  have hg : Int.gcd f n = 1 := by
    show Nat.gcd f.natAbs n.natAbs = 1
    rw [show f.natAbs = f.toNat by omega]; exact h6
  have gf : Int.gcd f (f * f + n * n) = 1 := by
    rw [Int.gcd_comm, Int.add_comm, Int.gcd_add_mul_left_left, Int.gcd_comm]
    rw [Int.gcd_comm]
    exact gcd_mul_one (by rw [Int.gcd_comm]; exact hg) (by rw [Int.gcd_comm]; exact hg)
  have gn : Int.gcd n (f * f + n * n) = 1 := by
    rw [Int.gcd_comm, Int.gcd_add_mul_left_left]
    exact gcd_mul_one hg hg
  have hbig : 5 ≤ f * f + n * n ∧ ((f * f + n * n) % 2 = 0 → 10 ≤ f * f + n * n) := by
    have e2 : ((n.natAbs * n.natAbs : Nat) : Int) = n * n := Int.natAbs_mul_self
    obtain ⟨a, ha⟩ : ∃ a : Nat, f = a := ⟨f.toNat, by omega⟩
    obtain ⟨b, hb⟩ : ∃ b : Nat, n.natAbs = b := ⟨_, rfl⟩
    rw [hb] at e2 h3 h4 h5 h6
    rw [← e2, ha, show (a : Int) * a + ((b * b : Nat) : Int) = ((a * a + b * b : Nat) : Int) by simp]
    rw [ha] at h1 h2 h5 h6
    have h5' : a ≠ b := fun e => h5 (by rw [e])
    have ha1 : 1 ≤ a := by omega
    rcases Nat.lt_or_ge a 2 with q | q
    · have : a = 1 := by omega
      subst this
      have hb2 : 2 ≤ b := by omega
      rcases Nat.lt_or_ge b 3 with r | r
      · have : b = 2 := by omega
        subst this
        decide
      · have := Nat.mul_le_mul r r
        omega
    · rcases Nat.lt_or_ge b 2 with r | r
      · have : b = 1 := by omega
        subst this
        rcases Nat.lt_or_ge a 3 with s | s
        · have : a = 2 := by omega
          subst this
          decide
        · have := Nat.mul_le_mul s s
          omega
      · rcases Nat.lt_or_ge a b with s | s
        · have q1 := Nat.mul_le_mul q q
          have q2 : 3 * 3 ≤ b * b := Nat.mul_le_mul (by omega) (by omega)
          omega
        · have q1 := Nat.mul_le_mul r r
          have q2 : 3 * 3 ≤ a * a := Nat.mul_le_mul (by omega) (by omega)
          omega
  by_cases hp : (f * f + n * n) % 2 = 0
  · have eN : oNm f n = (f * f + n * n) / 2 := by unfold oNm; rw [if_pos hp]
    have eR : oRe f n = (f * f - n * n) / 2 := by unfold oRe; rw [if_pos hp]
    have eI : oIm f n = f * n := by unfold oIm; rw [if_pos hp]
    have odd : f % 2 = 1 ∧ n % 2 = 1 := by
      have m1 : (f * f) % 2 = (f % 2) * (f % 2) % 2 := Int.mul_emod f f 2
      have m2 : (n * n) % 2 = (n % 2) * (n % 2) % 2 := Int.mul_emod n n 2
      have f0 : f % 2 = 0 ∨ f % 2 = 1 := by omega
      have n0 : n % 2 = 0 ∨ n % 2 = 1 := by omega
      rcases f0 with f0 | f0 <;> rcases n0 with n0 | n0 <;> rw [f0] at m1 <;> rw [n0] at m2
      · exfalso
        have d : (2 : Int) ∣ (Int.gcd f n : Int) := Int.dvd_coe_gcd (by omega) (by omega)
        rw [hg] at d
        omega
      · omega
      · omega
      · exact ⟨f0, n0⟩
    obtain ⟨a, ha⟩ : ∃ a, f = 2 * a + 1 := ⟨f / 2, by omega⟩
    obtain ⟨b, hb⟩ : ∃ b, n = 2 * b + 1 := ⟨n / 2, by omega⟩
    have hM : f * f + n * n = 2 * (2 * (a * a + a + b * b + b) + 1) := by rw [ha, hb]; grind
    have dM : oNm f n ∣ f * f + n * n := ⟨2, by rw [eN]; omega⟩
    have g1 : Int.gcd f (oNm f n) = 1 := Nat.Coprime.coprime_dvd_right (Int.natAbs_dvd_natAbs.2 dM) gf
    have g2 : Int.gcd n (oNm f n) = 1 := Nat.Coprime.coprime_dvd_right (Int.natAbs_dvd_natAbs.2 dM) gn
    have := hbig.2 hp
    exact ⟨1, .inl rfl, by rw [eN]; omega, by rw [eN, eR]; omega, by rw [eI]; omega, by rw [eN]; omega, by rw [eN]; omega, by rw [eN]; omega, g1, g2⟩
  · have eN : oNm f n = f * f + n * n := by unfold oNm; rw [if_neg hp]
    have eR : oRe f n = f * f - n * n := by unfold oRe; rw [if_neg hp]
    have eI : oIm f n = 2 * (f * n) := by unfold oIm; rw [if_neg hp]
    exact ⟨2, .inr rfl, by rw [eN], by rw [eN, eR]; omega, eI, by rw [eN]; omega, by rw [eN]; exact hbig.1, by rw [eN]; omega, by rw [eN]; exact gf, by rw [eN]; exact gn⟩
theorem o_size {f n : Int} (h : rOK f n) : oRe f n * oRe f n + oIm f n * oIm f n = oNm f n * oNm f n := by
  obtain ⟨e, he, h1, h2, h3, _⟩ := o_parts h
  generalize oNm f n = M at *
  rw [h2, h3]
  rcases he with rfl | rfl
  · have : 2 * M = f * f + n * n := by omega
    grind
  · have : M = f * f + n * n := by omega
    subst this
    grind
/-- Each power of a rotor's number is in lowest terms. -/
theorem o_low {f n : Int} (h : rOK f n) (t : Nat) : Int.gcd (zpow (oRe f n, oIm f n) t).1 (oNm f n ^ t) = 1 ∧ Int.gcd (zpow (oRe f n, oIm f n) t).2 (oNm f n ^ t) = 1 := by
  cases t with
  | zero => exact ⟨by rw [Int.pow_zero]; exact Int.gcd_one_right _, by rw [Int.pow_zero]; exact Int.gcd_one_right _⟩
  | succ t =>
    obtain ⟨e, he, h1, h2, h3, h4, h5, h6, g1, g2⟩ := o_parts h
    have g0 : Int.gcd 2 (oNm f n) = 1 := gcd_two_odd h4
    have ge : Int.gcd e (oNm f n) = 1 := by
      rcases he with rfl | rfl
      · exact Int.one_gcd
      · exact g0
    obtain ⟨u, v, q1, q2⟩ := z_mod f n e (oNm f n) (oRe f n) (oIm f n) h1 h2 h3 t
    have gc : Int.gcd (e * f * (2 * e * (f * f)) ^ t) (oNm f n) = 1 := gcd_mul_one (gcd_mul_one ge g1) (gcd_pow_one t (gcd_mul_one (gcd_mul_one g0 ge) (gcd_mul_one g1 g1)))
    refine ⟨gcd_one_pow _ ?_, gcd_one_pow _ ?_⟩
    · rw [q1, Int.gcd_add_mul_left_left]; exact gcd_mul_one gc g1
    · rw [q2, Int.gcd_add_mul_left_left]; exact gcd_mul_one gc g2
/-- No power but the power 0 is 1, and none is long. -/
theorem o_big {f n : Int} (h : rOK f n) (t : Nat) : (zpow (oRe f n, oIm f n) t).1.natAbs ≤ (oNm f n).natAbs ^ t ∧ (zpow (oRe f n, oIm f n) t).2.natAbs ≤ (oNm f n).natAbs ^ t := by
  have e := zpow_norm (oRe f n, oIm f n) t
  have e2 : ((oRe f n, oIm f n).1 * (oRe f n, oIm f n).1 + (oRe f n, oIm f n).2 * (oRe f n, oIm f n).2) = oNm f n * oNm f n := o_size h
  rw [e2, Int.mul_pow] at e
  generalize (zpow (oRe f n, oIm f n) t).1 = x at *
  generalize (zpow (oRe f n, oIm f n) t).2 = y at *
  have ex : ((x.natAbs * x.natAbs : Nat) : Int) = x * x := Int.natAbs_mul_self
  have ey : ((y.natAbs * y.natAbs : Nat) : Int) = y * y := Int.natAbs_mul_self
  have eN : (((oNm f n ^ t).natAbs * (oNm f n ^ t).natAbs : Nat) : Int) = oNm f n ^ t * oNm f n ^ t := Int.natAbs_mul_self
  rw [← ex, ← ey, ← eN, Int.natAbs_pow] at e
  generalize (oNm f n).natAbs ^ t = B at *
  have e' : x.natAbs * x.natAbs + y.natAbs * y.natAbs = B * B := by omega
  constructor
  · apply Nat.le_of_not_lt
    intro hlt
    have := Nat.mul_self_lt_mul_self hlt
    omega
  · apply Nat.le_of_not_lt
    intro hlt
    have := Nat.mul_self_lt_mul_self hlt
    omega
end Go.Proofs.YtcfcjnlobpoglaaGreat

/- gauss.Mul of numbers as letters; package rotor: one, times. (tools/mkrq3.py) -/
namespace Go.Proofs.YtcfcjnlobpoglaaGreat
open Go.RowKit
set_option linter.unusedVariables false
set_option linter.unusedSimpArgs false

theorem o_div1 (x : Int) : Rat.divInt x 1 = (x : Rat) := by
  rw [Rat.divInt_eq_div]
  show (x : Rat) / (1 : Rat) = (x : Rat)
  grind
def o2 (k : Nat) : Nat := 2 ^ k
theorem o2_lt {m n : Nat} (h : m < n) : o2 m < o2 n := Nat.pow_lt_pow_right (by decide) h
theorem o2_mul (m n : Nat) : o2 m * o2 n = o2 (m + n) := (Nat.pow_add 2 m n).symm
theorem o2_wlim (k : Nat) : (4294967296 : Int) ^ k = ((o2 (32 * k) : Nat) : Int) := by
  unfold o2
  rw [Nat.pow_mul, Int.natCast_pow]
  rfl
/-- What is not long, for sure. -/
def oL : Nat := o2 60000
theorem oL_lt : (oL : Int) < wlim := by
  unfold wlim
  rw [o2_wlim]
  exact Int.ofNat_lt.2 (o2_lt (by decide))
theorem oint_short {x : Int} (h : x.natAbs < oL) : ¬ rlong (x : Rat) := by
  have e := oL_lt
  rintro (hh | hh)
  · rw [Rat.num_intCast] at hh; omega
  · rw [Rat.den_intCast] at hh
    have : (1 : Int) ≤ oL := by omega
    omega
/-- Products and sums of whole numbers that are not too long. -/
theorem omul_short {x y z t : Int} {B C : Nat} (hx : x.natAbs ≤ B) (hy : y.natAbs ≤ B) (hz : z.natAbs ≤ C) (ht : t.natAbs ≤ C) (hb : 2 * (B * C) < oL) : ¬ mlong (x : Rat) (y : Rat) (z : Rat) (t : Rat) := by
  have k : ∀ {a b : Int}, a.natAbs ≤ B → b.natAbs ≤ C → (a * b).natAbs ≤ B * C := fun ha hb => by rw [Int.natAbs_mul]; exact Nat.mul_le_mul ha hb
  have h1 := k hx hz
  have h2 := k hy ht
  have h3 := k hx ht
  have h4 := k hy hz
  unfold mlong
  rw [← Rat.intCast_mul, ← Rat.intCast_mul, ← Rat.intCast_mul, ← Rat.intCast_mul, ← Rat.intCast_sub, ← Rat.intCast_add]
  have s : ∀ {a : Int}, a.natAbs ≤ 2 * (B * C) → ¬ rlong (a : Rat) := fun ha => oint_short (by omega)
  rintro (((h | h) | h) | ((h | h) | h))
  · exact s (by omega) h
  · exact s (by omega) h
  · exact s (by omega) h
  · exact s (by omega) h
  · exact s (by omega) h
  · exact s (by omega) h

/-- gauss.Mul, as letters. -/
theorem oMul_any (g h : G6) (q1 q2 r1 r2 : Rat) (w : World) (sg : g.Sl4 w) (sh : h.Sl4 w) (ig : g.Is q1 q2) (ih : h.Is r1 r2) (hl : ¬ mlong q1 q2 r1 r2) :
    Calls Tryz.prog 67 #[.agg #[.bool g.n, .slice g.a g.xs.length g.ca, .slice g.b g.ys.length g.cb, .bool g.m, .slice g.c g.us.length g.cc, .slice g.d g.vs.length g.cd], .agg #[.bool h.n, .slice h.a h.xs.length h.ca, .slice h.b h.ys.length h.cb, .bool h.m, .slice h.c h.us.length h.cc, .slice h.d h.vs.length h.cd]] w fun e w' => ∃ k : G6, e = .returned (.tuple #[.agg #[.bool k.n, .slice k.a k.xs.length k.ca, .slice k.b k.ys.length k.cb, .bool k.m, .slice k.c k.us.length k.cc, .slice k.d k.vs.length k.cd], .int .i64 0]) ∧ Hid (k.Ow w' w.heap.size) ∧ Hid (k.Is (q1 * r1 - q2 * r2) (q1 * r2 + q2 * r1)) ∧ Hid (Below w.heap.size w w') := by
  refine Calls.mono (gMul_full g.n g.a g.ca g.xs g.b g.cb g.ys g.m g.c g.cc g.us g.d g.cd g.vs h.n h.a h.ca h.xs h.b h.cb h.ys h.m h.c h.cc h.us h.d h.cd h.vs w sg.1 sg.2.1 sg.2.2.1 sg.2.2.2 sh.1 sh.2.1 sh.2.2.1 sh.2.2.2) ?_
  rw [ig.chk, ih.chk, ig.1.2, ig.2.1.2, ih.1.2, ih.2.1.2]
  rintro e w' ⟨n, a, ca, xs, b, cb, ys, m, c, cc, us, d, cd, vs, code, rfl, ho, ht, hb⟩
  obtain ⟨hc, h1, h2⟩ := ht.good (by unfold fstE; rfl) hl
  subst hc
  exact ⟨⟨n, a, ca, xs, b, cb, ys, m, c, cc, us, d, cd, vs⟩, rfl, ho, ⟨h1, h2, ht.wd⟩, hb⟩

/-- A power in two pieces: its top, and what is under it. -/
def OPw (g h : G6) (z : Int × Int) (M : Int) : Prop := g.Is (z.1 : Rat) (z.2 : Rat) ∧ h.Is (M : Rat) ((0 : Int) : Rat)
def OPt (w : World) (z : Int × Int) (M : Int) (x : Ending) (w' : World) : Prop := ∃ g h : G6, x = .returned (.agg #[.bool g.n, .slice g.a g.xs.length g.ca, .slice g.b g.ys.length g.cb, .bool g.m, .slice g.c g.us.length g.cc, .slice g.d g.vs.length g.cd, .bool h.n, .slice h.a h.xs.length h.ca, .slice h.b h.ys.length h.cb, .bool h.m, .slice h.c h.us.length h.cc, .slice h.d h.vs.length h.cd]) ∧ Hid (g.Ow w' w.heap.size ∧ h.Ow w' w.heap.size) ∧ Hid (OPw g h z M) ∧ Hid (Below w.heap.size w w')

set_option maxHeartbeats 6400000 in
set_option maxRecDepth 100000 in
theorem otimes_any (g h g2 h2 : G6) (z z2 : Int × Int) (M M2 : Int) (w : World) (sg : g.Sl4 w) (sh : h.Sl4 w) (sg2 : g2.Sl4 w) (sh2 : h2.Sl4 w) (hp : OPw g h z M) (hp2 : OPw g2 h2 z2 M2) (B C : Nat) (b1 : z.1.natAbs ≤ B) (b2 : z.2.natAbs ≤ B) (b3 : M.natAbs ≤ B) (c1 : z2.1.natAbs ≤ C) (c2 : z2.2.natAbs ≤ C) (c3 : M2.natAbs ≤ C) (hb : 2 * (B * C) < oL) :
    Calls Tryz.prog 47 #[.agg #[.bool g.n, .slice g.a g.xs.length g.ca, .slice g.b g.ys.length g.cb, .bool g.m, .slice g.c g.us.length g.cc, .slice g.d g.vs.length g.cd, .bool h.n, .slice h.a h.xs.length h.ca, .slice h.b h.ys.length h.cb, .bool h.m, .slice h.c h.us.length h.cc, .slice h.d h.vs.length h.cd], .agg #[.bool g2.n, .slice g2.a g2.xs.length g2.ca, .slice g2.b g2.ys.length g2.cb, .bool g2.m, .slice g2.c g2.us.length g2.cc, .slice g2.d g2.vs.length g2.cd, .bool h2.n, .slice h2.a h2.xs.length h2.ca, .slice h2.b h2.ys.length h2.cb, .bool h2.m, .slice h2.c h2.us.length h2.cc, .slice h2.d h2.vs.length h2.cd]] w (OPt w (zmul z z2) (M * M2)) := by
  have hl1 := omul_short b1 b2 c1 c2 hb
  have hl2 : ¬ mlong (M : Rat) ((0 : Int) : Rat) (M2 : Rat) ((0 : Int) : Rat) := omul_short b3 (Nat.zero_le _) c3 (Nat.zero_le _) hb
  clear b1 b2 b3 c1 c2 c3 hb
  obtain ⟨X, hX⟩ : ∃ X, ((w.alloc (.cells #[.bool g.n, .slice g.a g.xs.length g.ca, .slice g.b g.ys.length g.cb, .bool g.m, .slice g.c g.us.length g.cc, .slice g.d g.vs.length g.cd, .bool h.n, .slice h.a h.xs.length h.ca, .slice h.b h.ys.length h.cb, .bool h.m, .slice h.c h.us.length h.cc, .slice h.d h.vs.length h.cd] 54)).alloc (.cells #[.bool g2.n, .slice g2.a g2.xs.length g2.ca, .slice g2.b g2.ys.length g2.cb, .bool g2.m, .slice g2.c g2.us.length g2.cc, .slice g2.d g2.vs.length g2.cd, .bool h2.n, .slice h2.a h2.xs.length h2.ca, .slice h2.b h2.ys.length h2.cb, .bool h2.m, .slice h2.c h2.us.length h2.cc, .slice h2.d h2.vs.length h2.cd] 54)).alloc (.cells #[.bool false, .slice none 0 0, .slice none 0 0, .bool false, .slice none 0 0, .slice none 0 0, .bool false, .slice none 0 0, .slice none 0 0, .bool false, .slice none 0 0, .slice none 0 0] 54) = X := ⟨_, rfl⟩
  have HX := hid (boxes3r w 54 #[.bool g.n, .slice g.a g.xs.length g.ca, .slice g.b g.ys.length g.cb, .bool g.m, .slice g.c g.us.length g.cc, .slice g.d g.vs.length g.cd, .bool h.n, .slice h.a h.xs.length h.ca, .slice h.b h.ys.length h.cb, .bool h.m, .slice h.c h.us.length h.cc, .slice h.d h.vs.length h.cd] #[.bool g2.n, .slice g2.a g2.xs.length g2.ca, .slice g2.b g2.ys.length g2.cb, .bool g2.m, .slice g2.c g2.us.length g2.cc, .slice g2.d g2.vs.length g2.cd, .bool h2.n, .slice h2.a h2.xs.length h2.ca, .slice h2.b h2.ys.length h2.cb, .bool h2.m, .slice h2.c h2.us.length h2.cc, .slice h2.d h2.vs.length h2.cd] #[.bool false, .slice none 0 0, .slice none 0 0, .bool false, .slice none 0 0, .slice none 0 0, .bool false, .slice none 0 0, .slice none 0 0, .bool false, .slice none 0 0, .slice none 0 0])
  rw [hX] at HX
  have HM1 : Hid (∀ V, Below X.heap.size X V → Calls Tryz.prog 67 #[.agg #[.bool g.n, .slice g.a g.xs.length g.ca, .slice g.b g.ys.length g.cb, .bool g.m, .slice g.c g.us.length g.cc, .slice g.d g.vs.length g.cd], .agg #[.bool g2.n, .slice g2.a g2.xs.length g2.ca, .slice g2.b g2.ys.length g2.cb, .bool g2.m, .slice g2.c g2.us.length g2.cc, .slice g2.d g2.vs.length g2.cd]] V fun e w' => ∃ k : G6, e = .returned (.tuple #[.agg #[.bool k.n, .slice k.a k.xs.length k.ca, .slice k.b k.ys.length k.cb, .bool k.m, .slice k.c k.us.length k.cc, .slice k.d k.vs.length k.cd], .int .i64 0]) ∧ Hid (k.Ow w' V.heap.size) ∧ Hid (k.Is ((z.1 : Rat) * z2.1 - z.2 * z2.2) ((z.1 : Rat) * z2.2 + z.2 * z2.1)) ∧ Hid (Below V.heap.size V w')) := fun V hv => oMul_any g g2 _ _ _ _ V (sg.later (bt HX.out.2.2.2 hv)) (sg2.later (bt HX.out.2.2.2 hv)) hp.1 hp2.1 hl1
  have HM2 : Hid (∀ V, Below X.heap.size X V → Calls Tryz.prog 67 #[.agg #[.bool h.n, .slice h.a h.xs.length h.ca, .slice h.b h.ys.length h.cb, .bool h.m, .slice h.c h.us.length h.cc, .slice h.d h.vs.length h.cd], .agg #[.bool h2.n, .slice h2.a h2.xs.length h2.ca, .slice h2.b h2.ys.length h2.cb, .bool h2.m, .slice h2.c h2.us.length h2.cc, .slice h2.d h2.vs.length h2.cd]] V fun e w' => ∃ k : G6, e = .returned (.tuple #[.agg #[.bool k.n, .slice k.a k.xs.length k.ca, .slice k.b k.ys.length k.cb, .bool k.m, .slice k.c k.us.length k.cc, .slice k.d k.vs.length k.cd], .int .i64 0]) ∧ Hid (k.Ow w' V.heap.size) ∧ Hid (k.Is ((M : Rat) * M2 - ((0 : Int) : Rat) * ((0 : Int) : Rat)) ((M : Rat) * ((0 : Int) : Rat) + ((0 : Int) : Rat) * M2)) ∧ Hid (Below V.heap.size V w')) := fun V hv => oMul_any h h2 _ _ _ _ V (sh.later (bt HX.out.2.2.2 hv)) (sh2.later (bt HX.out.2.2.2 hv)) hp.2 hp2.2 hl2
  clear sg sh sg2 sh2 hp hp2 hl1 hl2
  have p0 : X.cell? ⟨w.heap.size, 0, none⟩ = some (.bool g.n) := (HX.out.1).cell 0
  have p1 : X.cell? ⟨w.heap.size, 1, none⟩ = some (.slice g.a g.xs.length g.ca) := (HX.out.1).cell 1
  have p2 : X.cell? ⟨w.heap.size, 2, none⟩ = some (.slice g.b g.ys.length g.cb) := (HX.out.1).cell 2
  have p3 : X.cell? ⟨w.heap.size, 3, none⟩ = some (.bool g.m) := (HX.out.1).cell 3
  have p4 : X.cell? ⟨w.heap.size, 4, none⟩ = some (.slice g.c g.us.length g.cc) := (HX.out.1).cell 4
  have p5 : X.cell? ⟨w.heap.size, 5, none⟩ = some (.slice g.d g.vs.length g.cd) := (HX.out.1).cell 5
  have s0 : X.cell? ⟨w.heap.size + 1, 0, none⟩ = some (.bool g2.n) := (HX.out.2.1).cell 0
  have s1 : X.cell? ⟨w.heap.size + 1, 1, none⟩ = some (.slice g2.a g2.xs.length g2.ca) := (HX.out.2.1).cell 1
  have s2 : X.cell? ⟨w.heap.size + 1, 2, none⟩ = some (.slice g2.b g2.ys.length g2.cb) := (HX.out.2.1).cell 2
  have s3 : X.cell? ⟨w.heap.size + 1, 3, none⟩ = some (.bool g2.m) := (HX.out.2.1).cell 3
  have s4 : X.cell? ⟨w.heap.size + 1, 4, none⟩ = some (.slice g2.c g2.us.length g2.cc) := (HX.out.2.1).cell 4
  have s5 : X.cell? ⟨w.heap.size + 1, 5, none⟩ = some (.slice g2.d g2.vs.length g2.cd) := (HX.out.2.1).cell 5
  have HD := hid (HM1.out X (Below.refl _ _))
  clear HM1
  go_enter Tryz.func47, Tryz.ntmps47
  go_wp2_with fail
  clear hX
  refine Calls.mono HD.out ?_
  rintro e w1 ⟨k, rfl, hok, hik, hb1⟩
  clear HD p0 p1 p2 p3 p4 p5 s0 s1 s2 s3 s4 s5
  obtain ⟨Y, hY⟩ : ∃ Y, w1.alloc (.cells #[.bool false, .slice none 0 0, .slice none 0 0, .bool false, .slice none 0 0, .slice none 0 0] 28) = Y := ⟨_, rfl⟩
  have HY : Hid (Box Y w1.heap.size 28 #[.bool false, .slice none 0 0, .slice none 0 0, .bool false, .slice none 0 0, .slice none 0 0]) := by rw [← hY]; exact Box.made w1 _ _
  have HYB : Hid (Below w1.heap.size w1 Y) := by rw [← hY]; exact alloc_later _ _
  have HYX := hid (bt hb1.out HYB.out)
  have zx := HX.out.2.2.1.lt
  have zy := hb1.out.size
  have zY : Y.heap.size = w1.heap.size + 1 := by rw [← hY]; simp
  obtain ⟨A0, A1, A2, A3, A4, A5, qA0, qA1, qA2, qA3, qA4, qA5, ⟨rA0, rA1, rA2, rA3, rA4, rA5⟩, ⟨fA0, fA1, fA2, fA3, fA4, fA5⟩, HA⟩ := rchain6 HY.out (by decide) (.bool k.n) (.slice k.a k.xs.length k.ca) (.slice k.b k.ys.length k.cb) (.bool k.m) (.slice k.c k.us.length k.cc) (.slice k.d k.vs.length k.cd)
  have HA1 := hid (HA.out.2.1 _ _ _ (show w.heap.size ≠ w1.heap.size by omega) (HX.out.1.later HYX.out HX.out.1.lt))
  have HA2 := hid (HA.out.2.1 _ _ _ (show w.heap.size + 1 ≠ w1.heap.size by omega) (HX.out.2.1.later HYX.out HX.out.2.1.lt))
  have HA3 := hid (HA.out.2.1 _ _ _ (show w.heap.size + 1 + 1 ≠ w1.heap.size by omega) (HX.out.2.2.1.later HYX.out HX.out.2.2.1.lt))
  have HAX : Hid (Below X.heap.size X A5) := HA.out.2.2.2.1 _ _ zy HYX.out
  have zA : A5.heap.size = w1.heap.size + 1 := by rw [HA.out.2.2.2.2, zY]
  have p6 : A5.cell? ⟨w.heap.size, 6, none⟩ = some (.bool h.n) := (HA1.out).cell 6
  have p7 : A5.cell? ⟨w.heap.size, 7, none⟩ = some (.slice h.a h.xs.length h.ca) := (HA1.out).cell 7
  have p8 : A5.cell? ⟨w.heap.size, 8, none⟩ = some (.slice h.b h.ys.length h.cb) := (HA1.out).cell 8
  have p9 : A5.cell? ⟨w.heap.size, 9, none⟩ = some (.bool h.m) := (HA1.out).cell 9
  have p10 : A5.cell? ⟨w.heap.size, 10, none⟩ = some (.slice h.c h.us.length h.cc) := (HA1.out).cell 10
  have p11 : A5.cell? ⟨w.heap.size, 11, none⟩ = some (.slice h.d h.vs.length h.cd) := (HA1.out).cell 11
  have s6 : A5.cell? ⟨w.heap.size + 1, 6, none⟩ = some (.bool h2.n) := (HA2.out).cell 6
  have s7 : A5.cell? ⟨w.heap.size + 1, 7, none⟩ = some (.slice h2.a h2.xs.length h2.ca) := (HA2.out).cell 7
  have s8 : A5.cell? ⟨w.heap.size + 1, 8, none⟩ = some (.slice h2.b h2.ys.length h2.cb) := (HA2.out).cell 8
  have s9 : A5.cell? ⟨w.heap.size + 1, 9, none⟩ = some (.bool h2.m) := (HA2.out).cell 9
  have s10 : A5.cell? ⟨w.heap.size + 1, 10, none⟩ = some (.slice h2.c h2.us.length h2.cc) := (HA2.out).cell 10
  have s11 : A5.cell? ⟨w.heap.size + 1, 11, none⟩ = some (.slice h2.d h2.vs.length h2.cd) := (HA2.out).cell 11
  have HD := hid (HM2.out A5 HAX.out)
  clear HM2
  go_wp2_with fail
  refine Calls.mono HD.out ?_
  rintro e w2 ⟨l, rfl, hol, hil, hb2⟩
  clear HD hY p6 s6 p7 s7 p8 s8 p9 s9 p10 s10 p11 s11 qA0 qA1 qA2 qA3 qA4 qA5 rA0 rA1 rA2 rA3 rA4 rA5 fA0 fA1 fA2 fA3 fA4 fA5
  obtain ⟨U, hU⟩ : ∃ U, w2.alloc (.cells #[.bool false, .slice none 0 0, .slice none 0 0, .bool false, .slice none 0 0, .slice none 0 0] 28) = U := ⟨_, rfl⟩
  have HU : Hid (Box U w2.heap.size 28 #[.bool false, .slice none 0 0, .slice none 0 0, .bool false, .slice none 0 0, .slice none 0 0]) := by rw [← hU]; exact Box.made w2 _ _
  have HUB : Hid (Below w2.heap.size w2 U) := by rw [← hU]; exact alloc_later _ _
  have HUX := hid (bt hb2.out HUB.out)
  have zz := hb2.out.size
  have zU : U.heap.size = w2.heap.size + 1 := by rw [← hU]; simp
  obtain ⟨B0, B1, B2, B3, B4, B5, qB0, qB1, qB2, qB3, qB4, qB5, ⟨rB0, rB1, rB2, rB3, rB4, rB5⟩, ⟨fB0, fB1, fB2, fB3, fB4, fB5⟩, HB⟩ := rchain6 HU.out (by decide) (.bool l.n) (.slice l.a l.xs.length l.ca) (.slice l.b l.ys.length l.cb) (.bool l.m) (.slice l.c l.us.length l.cc) (.slice l.d l.vs.length l.cd)
  have HB1 := hid (HB.out.2.1 _ _ _ (show w1.heap.size ≠ w2.heap.size by omega) (HA.out.1.later HUX.out HA.out.1.lt))
  have HB3 := hid (HB.out.2.1 _ _ _ (show w.heap.size + 1 + 1 ≠ w2.heap.size by omega) (HA3.out.later HUX.out HA3.out.lt))
  have HBX : Hid (Below X.heap.size X B5) := HB.out.2.2.2.1 _ _ (by omega) (bt HAX.out HUX.out)
  have HBA : Hid (Below A5.heap.size A5 B5) := HB.out.2.2.2.1 _ _ (by omega) HUX.out
  have zB : B5.heap.size = w2.heap.size + 1 := by rw [HB.out.2.2.2.2, zU]
  have p0 : B5.cell? ⟨w1.heap.size, 0, none⟩ = some (.bool k.n) := (HB1.out).cell 0
  have p1 : B5.cell? ⟨w1.heap.size, 1, none⟩ = some (.slice k.a k.xs.length k.ca) := (HB1.out).cell 1
  have p2 : B5.cell? ⟨w1.heap.size, 2, none⟩ = some (.slice k.b k.ys.length k.cb) := (HB1.out).cell 2
  have p3 : B5.cell? ⟨w1.heap.size, 3, none⟩ = some (.bool k.m) := (HB1.out).cell 3
  have p4 : B5.cell? ⟨w1.heap.size, 4, none⟩ = some (.slice k.c k.us.length k.cc) := (HB1.out).cell 4
  have p5 : B5.cell? ⟨w1.heap.size, 5, none⟩ = some (.slice k.d k.vs.length k.cd) := (HB1.out).cell 5
  have s0 : B5.cell? ⟨w2.heap.size, 0, none⟩ = some (.bool l.n) := (HB.out.1).cell 0
  have s1 : B5.cell? ⟨w2.heap.size, 1, none⟩ = some (.slice l.a l.xs.length l.ca) := (HB.out.1).cell 1
  have s2 : B5.cell? ⟨w2.heap.size, 2, none⟩ = some (.slice l.b l.ys.length l.cb) := (HB.out.1).cell 2
  have s3 : B5.cell? ⟨w2.heap.size, 3, none⟩ = some (.bool l.m) := (HB.out.1).cell 3
  have s4 : B5.cell? ⟨w2.heap.size, 4, none⟩ = some (.slice l.c l.us.length l.cc) := (HB.out.1).cell 4
  have s5 : B5.cell? ⟨w2.heap.size, 5, none⟩ = some (.slice l.d l.vs.length l.cd) := (HB.out.1).cell 5
  obtain ⟨C0, C1, C2, C3, C4, C5, C6, C7, C8, C9, C10, C11, qC0, qC1, qC2, qC3, qC4, qC5, qC6, qC7, qC8, qC9, qC10, qC11, ⟨rC0, rC1, rC2, rC3, rC4, rC5, rC6, rC7, rC8, rC9, rC10, rC11⟩, ⟨fC0, fC1, fC2, fC3, fC4, fC5, fC6, fC7, fC8, fC9, fC10, fC11⟩, HC⟩ := rchain12 HB3.out (by decide) (.bool k.n) (.slice k.a k.xs.length k.ca) (.slice k.b k.ys.length k.cb) (.bool k.m) (.slice k.c k.us.length k.cc) (.slice k.d k.vs.length k.cd) (.bool l.n) (.slice l.a l.xs.length l.ca) (.slice l.b l.ys.length l.cb) (.bool l.m) (.slice l.c l.us.length l.cc) (.slice l.d l.vs.length l.cd)
  go_wp2_with fail
  refine bodyPost_ret (results_cell_row (by rfl) _ _ (w.heap.size + 1 + 1) 54 _ (0, 0) _ (by rfl) HC.out.1 Tryz.underlying54 rfl (by kernel_rfl)) rfl ?_
  have zw := HX.out.2.2.2.size
  have okk : k.Ow B5 w.heap.size := by
    have q1 := hok.out.later HYB.out
    have P1 := HA.out.2.2.1
    have q2 : k.Ow A5 X.heap.size := ⟨P1 _ _ _ _ q1.1, P1 _ _ _ _ q1.2.1, P1 _ _ _ _ q1.2.2.1, P1 _ _ _ _ q1.2.2.2⟩
    exact (q2.later HBA.out).base zw
  have oll : l.Ow B5 w.heap.size := by
    have q1 := hol.out.later HUB.out
    have P1 := HB.out.2.2.1
    have q2 : l.Ow B5 A5.heap.size := ⟨P1 _ _ _ _ q1.1, P1 _ _ _ _ q1.2.1, P1 _ _ _ _ q1.2.2.1, P1 _ _ _ _ q1.2.2.2⟩
    exact q2.base (by omega)
  have P := HC.out.2.2.1
  refine ⟨k, l, rfl, ⟨⟨P _ _ _ _ okk.1, P _ _ _ _ okk.2.1, P _ _ _ _ okk.2.2.1, P _ _ _ _ okk.2.2.2⟩, ⟨P _ _ _ _ oll.1, P _ _ _ _ oll.2.1, P _ _ _ _ oll.2.2.1, P _ _ _ _ oll.2.2.2⟩⟩, ⟨?_, ?_⟩, HC.out.2.2.2.1 _ _ (by omega) (bt HX.out.2.2.2 HBX.out)⟩
  · have q := hik.out
    rw [← Rat.intCast_mul, ← Rat.intCast_mul, ← Rat.intCast_mul, ← Rat.intCast_mul, ← Rat.intCast_sub, ← Rat.intCast_add] at q
    exact q
  · have q := hil.out
    rw [← Rat.intCast_mul, ← Rat.intCast_mul, ← Rat.intCast_mul, ← Rat.intCast_mul, ← Rat.intCast_sub, ← Rat.intCast_add, show M * M2 - 0 * 0 = M * M2 by omega, show M * 0 + 0 * M2 = 0 by omega] at q
    exact q

set_option maxHeartbeats 3200000 in
set_option maxRecDepth 100000 in
theorem oone_any (w : World) : Calls Tryz.prog 46 #[] w (OPt w (1, 0) 1) := by
  obtain ⟨X, hX⟩ : ∃ X, w.alloc (.cells #[.bool false, .slice none 0 0, .slice none 0 0, .bool false, .slice none 0 0, .slice none 0 0, .bool false, .slice none 0 0, .slice none 0 0, .bool false, .slice none 0 0, .slice none 0 0] 54) = X := ⟨_, rfl⟩
  have HZ : Hid (Box X w.heap.size 54 #[.bool false, .slice none 0 0, .slice none 0 0, .bool false, .slice none 0 0, .slice none 0 0, .bool false, .slice none 0 0, .slice none 0 0, .bool false, .slice none 0 0, .slice none 0 0]) := by rw [← hX]; exact Box.made w _ _
  have HB : Hid (Below w.heap.size w X) := by rw [← hX]; exact alloc_later _ _
  have HI := hid (fun V => oInt_any 1 0 V (by decide) (by decide) (by decide) (by decide))
  have HD := hid (HI.out X)
  go_enter Tryz.func46, Tryz.ntmps46
  go_wp2_with fail
  clear hX
  refine Calls.mono HD.out ?_
  rintro e w1 ⟨g, rfl, hog, hig, hb1⟩
  clear HD
  have HD := hid (HI.out w1)
  clear HI
  go_wp2_with fail
  refine Calls.mono HD.out ?_
  rintro e w2 ⟨h, rfl, hoh, hih, hb2⟩
  clear HD
  have HBB := hid (bt hb1.out hb2.out)
  obtain ⟨C0, C1, C2, C3, C4, C5, C6, C7, C8, C9, C10, C11, qC0, qC1, qC2, qC3, qC4, qC5, qC6, qC7, qC8, qC9, qC10, qC11, ⟨rC0, rC1, rC2, rC3, rC4, rC5, rC6, rC7, rC8, rC9, rC10, rC11⟩, ⟨fC0, fC1, fC2, fC3, fC4, fC5, fC6, fC7, fC8, fC9, fC10, fC11⟩, HC⟩ := rchain12 (HZ.out.later HBB.out HZ.out.lt) (by decide) (.bool g.n) (.slice g.a g.xs.length g.ca) (.slice g.b g.ys.length g.cb) (.bool g.m) (.slice g.c g.us.length g.cc) (.slice g.d g.vs.length g.cd) (.bool h.n) (.slice h.a h.xs.length h.ca) (.slice h.b h.ys.length h.cb) (.bool h.m) (.slice h.c h.us.length h.cc) (.slice h.d h.vs.length h.cd)
  go_wp2_with fail
  refine bodyPost_ret (results_cell_row (by rfl) _ _ w.heap.size 54 _ (0, 0) _ (by rfl) HC.out.1 Tryz.underlying54 rfl (by kernel_rfl)) rfl ?_
  have z1 := HB.out.size
  have z2 := hb1.out.size
  have P := HC.out.2.2.1
  have o1 := (hog.out.later hb2.out).base z1
  have o2 := hoh.out.base (show w.heap.size ≤ w1.heap.size by omega)
  have i1 := hig.out
  have i2 := hih.out
  rw [o_div1, o_div1] at i1 i2
  exact ⟨g, h, rfl, ⟨⟨P _ _ _ _ o1.1, P _ _ _ _ o1.2.1, P _ _ _ _ o1.2.2.1, P _ _ _ _ o1.2.2.2⟩, ⟨P _ _ _ _ o2.1, P _ _ _ _ o2.2.1, P _ _ _ _ o2.2.2.1, P _ _ _ _ o2.2.2.2⟩⟩, ⟨i1, i2⟩, HC.out.2.2.2.1 _ _ (Nat.le_refl _) (bt HB.out HBB.out)⟩
end Go.Proofs.YtcfcjnlobpoglaaGreat

/- package rotor: a power made by squaring. (tools/mkrq4.py) -/
namespace Go.Proofs.YtcfcjnlobpoglaaGreat
open Go.RowKit
set_option linter.unusedVariables false
set_option linter.unusedSimpArgs false

theorem o_and1 : ∀ T : Nat, T < 1025 → bits .and .i64 (T : Int) 1 = ((T % 2 : Nat) : Int) := by decide +kernel
/-- What is read: rows that were there, or rows of the call's own. -/
def OSl (w wr : World) (g : G6) : Prop := g.Ow wr w.heap.size ∨ g.Sl4 w
theorem OSl.sl {w wr : World} {g : G6} {q1 q2 : Rat} (h : OSl w wr g) (i : g.Is q1 q2) (hb : Below w.heap.size w wr) : g.Sl4 wr := by
  rcases h with h | h
  · exact h.sl i
  · exact h.later hb
theorem OSl.later {w wr V : World} {g : G6} (h : OSl w wr g) (hb : Below wr.heap.size wr V) : OSl w V g := by
  rcases h with h | h
  · exact .inl (h.later hb)
  · exact .inr h
theorem OSl.put {w wr V : World} {g : G6} (h : OSl w wr g) (P : ∀ base v n xs, wr.ownsRow base 66 1 v n xs → V.ownsRow base 66 1 v n xs) : OSl w V g := by
  rcases h with h | h
  · exact .inl ⟨P _ _ _ _ h.1, P _ _ _ _ h.2.1, P _ _ _ _ h.2.2.1, P _ _ _ _ h.2.2.2⟩
  · exact .inr h
theorem ow_put {wr V : World} {g : G6} {base : Nat} (h : g.Ow wr base) (P : ∀ base v n xs, wr.ownsRow base 66 1 v n xs → V.ownsRow base 66 1 v n xs) : g.Ow V base := ⟨P _ _ _ _ h.1, P _ _ _ _ h.2.1, P _ _ _ _ h.2.2.1, P _ _ _ _ h.2.2.2⟩
/-- How far the squaring is. -/
structure OLp (f n : Int) (w : World) (pb mb : Nat) (i j : Nat) (g h k l : G6) (wr : World) : Prop where
  sp : OSl w wr g ∧ OSl w wr h
  vp : OPw g h (zpow (oRe f n, oIm f n) j) (oNm f n ^ j)
  bp : Box wr pb 54 #[.bool g.n, .slice g.a g.xs.length g.ca, .slice g.b g.ys.length g.cb, .bool g.m, .slice g.c g.us.length g.cc, .slice g.d g.vs.length g.cd, .bool h.n, .slice h.a h.xs.length h.ca, .slice h.b h.ys.length h.cb, .bool h.m, .slice h.c h.us.length h.cc, .slice h.d h.vs.length h.cd]
  om : k.Ow wr w.heap.size ∧ l.Ow wr w.heap.size
  vm : OPw k l (zpow (oRe f n, oIm f n) i) (oNm f n ^ i)
  bm : Box wr mb 54 #[.bool k.n, .slice k.a k.xs.length k.ca, .slice k.b k.ys.length k.cb, .bool k.m, .slice k.c k.us.length k.cc, .slice k.d k.vs.length k.cd, .bool l.n, .slice l.a l.xs.length l.ca, .slice l.b l.ys.length l.cb, .bool l.m, .slice l.c l.us.length l.cc, .slice l.d l.vs.length l.cd]
  br : Box wr (w.heap.size + 1) 54 #[.bool false, .slice none 0 0, .slice none 0 0, .bool false, .slice none 0 0, .slice none 0 0, .bool false, .slice none 0 0, .slice none 0 0, .bool false, .slice none 0 0, .slice none 0 0]
  bel : Below w.heap.size w wr
/-- What a store of twelve cells leaves. -/
def OPut (w2 : World) (b : Nat) (vs : Array Value) (V : World) : Prop := Box V b 54 vs ∧ (∀ p t' vs, p ≠ b → Box w2 p t' vs → Box V p t' vs) ∧ (∀ base v n xs, w2.ownsRow base 66 1 v n xs → V.ownsRow base 66 1 v n xs) ∧ (∀ B x, B ≤ b → Below B x w2 → Below B x V) ∧ V.heap.size = w2.heap.size
theorem OLp.mul {f n : Int} {w wr w2 V : World} {mb i j : Nat} {g h k l k2 l2 : G6} (a : OLp f n w w.heap.size mb i j g h k l wr) (hm : w.heap.size + 1 < mb) (hb : Below wr.heap.size wr w2) (ho : k2.Ow w2 wr.heap.size ∧ l2.Ow w2 wr.heap.size) (hi : OPw k2 l2 (zpow (oRe f n, oIm f n) (i + j)) (oNm f n ^ (i + j))) (c : OPut w2 mb #[.bool k2.n, .slice k2.a k2.xs.length k2.ca, .slice k2.b k2.ys.length k2.cb, .bool k2.m, .slice k2.c k2.us.length k2.cc, .slice k2.d k2.vs.length k2.cd, .bool l2.n, .slice l2.a l2.xs.length l2.ca, .slice l2.b l2.ys.length l2.cb, .bool l2.m, .slice l2.c l2.us.length l2.cc, .slice l2.d l2.vs.length l2.cd] V) : OLp f n w w.heap.size mb (i + j) j g h k2 l2 V where
  sp := ⟨(a.sp.1.later hb).put c.2.2.1, (a.sp.2.later hb).put c.2.2.1⟩
  vp := a.vp
  bp := c.2.1 _ _ _ (by omega) (a.bp.later hb a.bp.lt)
  om := ⟨ow_put (ho.1.base a.bel.size) c.2.2.1, ow_put (ho.2.base a.bel.size) c.2.2.1⟩
  vm := hi
  bm := c.1
  br := c.2.1 _ _ _ (by omega) (a.br.later hb a.br.lt)
  bel := c.2.2.2.1 _ _ (by omega) (bt a.bel hb)
theorem OLp.sq {f n : Int} {w wr w2 V : World} {mb i j : Nat} {g h k l g2 h2 : G6} (a : OLp f n w w.heap.size mb i j g h k l wr) (hm : w.heap.size + 1 < mb) (hb : Below wr.heap.size wr w2) (ho : g2.Ow w2 wr.heap.size ∧ h2.Ow w2 wr.heap.size) (hi : OPw g2 h2 (zpow (oRe f n, oIm f n) (j + j)) (oNm f n ^ (j + j))) (c : OPut w2 w.heap.size #[.bool g2.n, .slice g2.a g2.xs.length g2.ca, .slice g2.b g2.ys.length g2.cb, .bool g2.m, .slice g2.c g2.us.length g2.cc, .slice g2.d g2.vs.length g2.cd, .bool h2.n, .slice h2.a h2.xs.length h2.ca, .slice h2.b h2.ys.length h2.cb, .bool h2.m, .slice h2.c h2.us.length h2.cc, .slice h2.d h2.vs.length h2.cd] V) : OLp f n w w.heap.size mb i (j + j) g2 h2 k l V where
  sp := ⟨.inl (ow_put (ho.1.base a.bel.size) c.2.2.1), .inl (ow_put (ho.2.base a.bel.size) c.2.2.1)⟩
  vp := hi
  bp := c.1
  om := ⟨ow_put (a.om.1.later hb) c.2.2.1, ow_put (a.om.2.later hb) c.2.2.1⟩
  vm := a.vm
  bm := c.2.1 _ _ _ (by omega) (a.bm.later hb a.bm.lt)
  br := c.2.1 _ _ _ (by omega) (a.br.later hb a.br.lt)
  bel := c.2.2.2.1 _ _ (Nat.le_refl _) (bt a.bel hb)
theorem o_size2 {f n : Int} (h : rOK f n) (t : Nat) : (zpow (oRe f n, oIm f n) t).1.natAbs ≤ o2 (21 * t) ∧ (zpow (oRe f n, oIm f n) t).2.natAbs ≤ o2 (21 * t) ∧ (oNm f n ^ t).natAbs ≤ o2 (21 * t) := by
  obtain ⟨e, _, _, _, _, _, h5, h6, _⟩ := o_parts h
  have h1 : (oNm f n).natAbs ^ t ≤ o2 (21 * t) := by
    unfold o2
    rw [Nat.pow_mul]
    exact Nat.pow_le_pow_left (by omega) t
  have h2 := o_big h t
  exact ⟨Nat.le_trans h2.1 h1, Nat.le_trans h2.2 h1, by rw [Int.natAbs_pow]; exact h1⟩
theorem o_lim {i j : Nat} (h : i + j ≤ 2048) : 2 * (o2 (21 * i) * o2 (21 * j)) < oL := by
  rw [o2_mul, show 2 * o2 (21 * i + 21 * j) = o2 (1 + (21 * i + 21 * j)) from o2_mul 1 _]
  exact o2_lt (by omega)
theorem o_mulE (f n : Int) (i j : Nat) : zmul (zpow (oRe f n, oIm f n) i) (zpow (oRe f n, oIm f n) j) = zpow (oRe f n, oIm f n) (i + j) := (zpow_add _ _ _).symm
theorem o_nmE (f n : Int) (i j : Nat) : oNm f n ^ i * oNm f n ^ j = oNm f n ^ (i + j) := (Int.pow_add _ _ _).symm
/-- The product of two powers of one rotor. -/
theorem otimes_pow {f n : Int} (hr : rOK f n) (i j : Nat) (hij : i + j ≤ 2048) (g h g2 h2 : G6) (w : World) (sg : g.Sl4 w) (sh : h.Sl4 w) (sg2 : g2.Sl4 w) (sh2 : h2.Sl4 w) (hp : OPw g h (zpow (oRe f n, oIm f n) i) (oNm f n ^ i)) (hp2 : OPw g2 h2 (zpow (oRe f n, oIm f n) j) (oNm f n ^ j)) :
    Calls Tryz.prog 47 #[.agg #[.bool g.n, .slice g.a g.xs.length g.ca, .slice g.b g.ys.length g.cb, .bool g.m, .slice g.c g.us.length g.cc, .slice g.d g.vs.length g.cd, .bool h.n, .slice h.a h.xs.length h.ca, .slice h.b h.ys.length h.cb, .bool h.m, .slice h.c h.us.length h.cc, .slice h.d h.vs.length h.cd], .agg #[.bool g2.n, .slice g2.a g2.xs.length g2.ca, .slice g2.b g2.ys.length g2.cb, .bool g2.m, .slice g2.c g2.us.length g2.cc, .slice g2.d g2.vs.length g2.cd, .bool h2.n, .slice h2.a h2.xs.length h2.ca, .slice h2.b h2.ys.length h2.cb, .bool h2.m, .slice h2.c h2.us.length h2.cc, .slice h2.d h2.vs.length h2.cd]] w (OPt w (zpow (oRe f n, oIm f n) (i + j)) (oNm f n ^ (i + j))) := by
  have a := o_size2 hr i
  have b := o_size2 hr j
  have q := otimes_any g h g2 h2 _ _ _ _ w sg sh sg2 sh2 hp hp2 _ _ a.1 a.2.1 a.2.2 b.1 b.2.1 b.2.2 (o_lim hij)
  rw [o_mulE, o_nmE] at q
  exact q

set_option maxHeartbeats 12800000 in
set_option maxRecDepth 100000 in
theorem oto_any (f n : Int) (hr : rOK f n) (g h : G6) (N : Nat) (hN : N ≤ 1024) (w : World) (sg : g.Sl4 w) (sh : h.Sl4 w) (hp : OPw g h (oRe f n, oIm f n) (oNm f n)) :
    Calls Tryz.prog 28 #[.agg #[.bool g.n, .slice g.a g.xs.length g.ca, .slice g.b g.ys.length g.cb, .bool g.m, .slice g.c g.us.length g.cc, .slice g.d g.vs.length g.cd, .bool h.n, .slice h.a h.xs.length h.ca, .slice h.b h.ys.length h.cb, .bool h.m, .slice h.c h.us.length h.cc, .slice h.d h.vs.length h.cd], .int .i64 (N : Int)] w (OPt w (zpow (oRe f n, oIm f n) N) (oNm f n ^ N)) := by
  obtain ⟨X, hX⟩ : ∃ X, (w.alloc (.cells #[.bool g.n, .slice g.a g.xs.length g.ca, .slice g.b g.ys.length g.cb, .bool g.m, .slice g.c g.us.length g.cc, .slice g.d g.vs.length g.cd, .bool h.n, .slice h.a h.xs.length h.ca, .slice h.b h.ys.length h.cb, .bool h.m, .slice h.c h.us.length h.cc, .slice h.d h.vs.length h.cd] 54)).alloc (.cells #[.bool false, .slice none 0 0, .slice none 0 0, .bool false, .slice none 0 0, .slice none 0 0, .bool false, .slice none 0 0, .slice none 0 0, .bool false, .slice none 0 0, .slice none 0 0] 54) = X := ⟨_, rfl⟩
  have HX := hid (boxes2r w 54 #[.bool g.n, .slice g.a g.xs.length g.ca, .slice g.b g.ys.length g.cb, .bool g.m, .slice g.c g.us.length g.cc, .slice g.d g.vs.length g.cd, .bool h.n, .slice h.a h.xs.length h.ca, .slice h.b h.ys.length h.cb, .bool h.m, .slice h.c h.us.length h.cc, .slice h.d h.vs.length h.cd] #[.bool false, .slice none 0 0, .slice none 0 0, .bool false, .slice none 0 0, .slice none 0 0, .bool false, .slice none 0 0, .slice none 0 0, .bool false, .slice none 0 0, .slice none 0 0])
  rw [hX] at HX
  have HD := hid (oone_any X)
  have HS := hid (And.intro sg sh)
  have HP : Hid (OPw g h (zpow (oRe f n, oIm f n) 1) (oNm f n ^ 1)) := by
    have e : zpow (oRe f n, oIm f n) 1 = (oRe f n, oIm f n) := by
      show zmul (1, 0) (oRe f n, oIm f n) = (oRe f n, oIm f n)
      unfold zmul
      simp
    rw [e, Int.pow_succ, Int.pow_zero, Int.one_mul]; exact hp
  have HR := hid hr
  clear sg sh hp hr
  go_enter Tryz.func28, Tryz.ntmps28
  go_wp2_with fail
  clear hX
  refine Calls.mono HD.out ?_
  rintro e w1 ⟨k, l, rfl, ho, hi, hb⟩
  clear HD
  obtain ⟨Y, hY⟩ : ∃ Y, w1.alloc (.cells #[.bool false, .slice none 0 0, .slice none 0 0, .bool false, .slice none 0 0, .slice none 0 0, .bool false, .slice none 0 0, .slice none 0 0, .bool false, .slice none 0 0, .slice none 0 0] 54) = Y := ⟨_, rfl⟩
  have HY : Hid (Box Y w1.heap.size 54 #[.bool false, .slice none 0 0, .slice none 0 0, .bool false, .slice none 0 0, .slice none 0 0, .bool false, .slice none 0 0, .slice none 0 0, .bool false, .slice none 0 0, .slice none 0 0]) := by rw [← hY]; exact Box.made w1 _ _
  have HYB : Hid (Below w1.heap.size w1 Y) := by rw [← hY]; exact alloc_later _ _
  have HYX := hid (bt hb.out HYB.out)
  have zx := HX.out.2.1.lt
  have zy := hb.out.size
  have zw := HX.out.2.2.size
  obtain ⟨A0, A1, A2, A3, A4, A5, A6, A7, A8, A9, A10, A11, qA0, qA1, qA2, qA3, qA4, qA5, qA6, qA7, qA8, qA9, qA10, qA11, ⟨rA0, rA1, rA2, rA3, rA4, rA5, rA6, rA7, rA8, rA9, rA10, rA11⟩, ⟨fA0, fA1, fA2, fA3, fA4, fA5, fA6, fA7, fA8, fA9, fA10, fA11⟩, HA⟩ := rchain12 HY.out (by decide) (.bool k.n) (.slice k.a k.xs.length k.ca) (.slice k.b k.ys.length k.cb) (.bool k.m) (.slice k.c k.us.length k.cc) (.slice k.d k.vs.length k.cd) (.bool l.n) (.slice l.a l.xs.length l.ca) (.slice l.b l.ys.length l.cb) (.bool l.m) (.slice l.c l.us.length l.cc) (.slice l.d l.vs.length l.cd)
  have HA1 := hid (HA.out.2.1 _ _ _ (show w.heap.size ≠ w1.heap.size by omega) (HX.out.1.later HYX.out HX.out.1.lt))
  have HA2 := hid (HA.out.2.1 _ _ _ (show w.heap.size + 1 ≠ w1.heap.size by omega) (HX.out.2.1.later HYX.out HX.out.2.1.lt))
  have HAX : Hid (Below w.heap.size w A11) := HA.out.2.2.2.1 _ _ (by omega) (bt HX.out.2.2 HYX.out)
  have HST : Hid (OLp f n w w.heap.size w1.heap.size 0 1 g h k l A11) := ⟨⟨.inr HS.out.1, .inr HS.out.2⟩, HP.out, HA1.out, ⟨ow_put ((ho.out.1.later HYB.out).base zw) HA.out.2.2.1, ow_put ((ho.out.2.later HYB.out).base zw) HA.out.2.2.1⟩, (by rw [Int.pow_zero]; exact hi.out), HA.out.1, HA2.out, HAX.out⟩
  clear HS HP ho hi hb HYX HYB HY HAX HA1 HA2 HX
  go_wp2_with fail
  clear hY qA0 qA1 qA2 qA3 qA4 qA5 qA6 qA7 qA8 qA9 qA10 qA11 rA0 rA1 rA2 rA3 rA4 rA5 rA6 rA7 rA8 rA9 rA10 rA11 fA0 fA1 fA2 fA3 fA4 fA5 fA6 fA7 fA8 fA9 fA10 fA11 HA
  go_loopw [1] (fun t wr => ∃ (T i j : Nat) (g h k l : G6), T ≤ 1024 ∧ t = .int .i64 (T : Int) ∧ i + j * T = N ∧ Hid (OLp f n w w.heap.size w1.heap.size i j g h k l wr)) (fun t _ => (intOf t).toNat)
  case atStart => exact ⟨N, 0, 1, g, h, k, l, hN, rfl, by omega, HST⟩
  case round =>
    clear HST
    obtain ⟨T, i, j, g, h, k, l, hT, rfl, hsum, HI⟩ := hrel
    have hmb : w.heap.size + 1 < w1.heap.size := by omega
    rcases Nat.eq_zero_or_pos T with hT0 | hT0
    · subst hT0
      have m0 : wr.cell? ⟨w1.heap.size, 0, none⟩ = some (.bool k.n) := (HI.out.bm).cell 0
      have m1 : wr.cell? ⟨w1.heap.size, 1, none⟩ = some (.slice k.a k.xs.length k.ca) := (HI.out.bm).cell 1
      have m2 : wr.cell? ⟨w1.heap.size, 2, none⟩ = some (.slice k.b k.ys.length k.cb) := (HI.out.bm).cell 2
      have m3 : wr.cell? ⟨w1.heap.size, 3, none⟩ = some (.bool k.m) := (HI.out.bm).cell 3
      have m4 : wr.cell? ⟨w1.heap.size, 4, none⟩ = some (.slice k.c k.us.length k.cc) := (HI.out.bm).cell 4
      have m5 : wr.cell? ⟨w1.heap.size, 5, none⟩ = some (.slice k.d k.vs.length k.cd) := (HI.out.bm).cell 5
      have m6 : wr.cell? ⟨w1.heap.size, 6, none⟩ = some (.bool l.n) := (HI.out.bm).cell 6
      have m7 : wr.cell? ⟨w1.heap.size, 7, none⟩ = some (.slice l.a l.xs.length l.ca) := (HI.out.bm).cell 7
      have m8 : wr.cell? ⟨w1.heap.size, 8, none⟩ = some (.slice l.b l.ys.length l.cb) := (HI.out.bm).cell 8
      have m9 : wr.cell? ⟨w1.heap.size, 9, none⟩ = some (.bool l.m) := (HI.out.bm).cell 9
      have m10 : wr.cell? ⟨w1.heap.size, 10, none⟩ = some (.slice l.c l.us.length l.cc) := (HI.out.bm).cell 10
      have m11 : wr.cell? ⟨w1.heap.size, 11, none⟩ = some (.slice l.d l.vs.length l.cd) := (HI.out.bm).cell 11
      have eN : i = N := by omega
      subst eN
      obtain ⟨A0, A1, A2, A3, A4, A5, A6, A7, A8, A9, A10, A11, qA0, qA1, qA2, qA3, qA4, qA5, qA6, qA7, qA8, qA9, qA10, qA11, ⟨rA0, rA1, rA2, rA3, rA4, rA5, rA6, rA7, rA8, rA9, rA10, rA11⟩, ⟨fA0, fA1, fA2, fA3, fA4, fA5, fA6, fA7, fA8, fA9, fA10, fA11⟩, HA⟩ := rchain12 HI.out.br (by decide) (.bool k.n) (.slice k.a k.xs.length k.ca) (.slice k.b k.ys.length k.cb) (.bool k.m) (.slice k.c k.us.length k.cc) (.slice k.d k.vs.length k.cd) (.bool l.n) (.slice l.a l.xs.length l.ca) (.slice l.b l.ys.length l.cb) (.bool l.m) (.slice l.c l.us.length l.cc) (.slice l.d l.vs.length l.cd)
      go_wp2_with fail
      refine bodyPost_ret (results_cell_row (by rfl) _ _ (w.heap.size + 1) 54 _ (0, 0) _ (by rfl) HA.out.1 Tryz.underlying54 rfl (by kernel_rfl)) rfl ?_
      exact ⟨k, l, rfl, ⟨ow_put HI.out.om.1 HA.out.2.2.1, ow_put HI.out.om.2 HA.out.2.2.1⟩, HI.out.vm, HA.out.2.2.2.1 _ _ (by omega) HI.out.bel⟩
    · have hand := o_and1 T (by omega)
      have hq0 : (0 : Int) < (T : Int) := by omega
      have hij : i + j ≤ N := by have h2 : j * 1 ≤ j * T := Nat.mul_le_mul_left j hT0; omega
      rcases Nat.mod_two_eq_zero_or_one T with hpar | hpar
      · rw [hpar] at hand
        have hq1 : (1 : Int) < (T : Int) := by omega
        have hT2 : T = 2 * (T / 2) := by omega
        have hjj : j + j ≤ N := by have h2 : j * 2 ≤ j * T := Nat.mul_le_mul_left j (by omega); omega
        have hs2 : Hid (i + (j + j) * (T / 2) = N) := by
          show _ = _
          rw [← hsum]
          have e : j * T = (j + j) * (T / 2) := by rw [← Nat.two_mul, Nat.mul_assoc, Nat.mul_left_comm 2 j, ← hT2]
          omega
        clear hT2 hsum
        have a := HI.out
        have HD := hid (otimes_pow HR.out j j (by omega) g h g h wr (a.sp.1.sl a.vp.1 a.bel) (a.sp.2.sl a.vp.2 a.bel) (a.sp.1.sl a.vp.1 a.bel) (a.sp.2.sl a.vp.2 a.bel) a.vp a.vp)
        clear a
        have p0 : wr.cell? ⟨w.heap.size, 0, none⟩ = some (.bool g.n) := (HI.out.bp).cell 0
        have p1 : wr.cell? ⟨w.heap.size, 1, none⟩ = some (.slice g.a g.xs.length g.ca) := (HI.out.bp).cell 1
        have p2 : wr.cell? ⟨w.heap.size, 2, none⟩ = some (.slice g.b g.ys.length g.cb) := (HI.out.bp).cell 2
        have p3 : wr.cell? ⟨w.heap.size, 3, none⟩ = some (.bool g.m) := (HI.out.bp).cell 3
        have p4 : wr.cell? ⟨w.heap.size, 4, none⟩ = some (.slice g.c g.us.length g.cc) := (HI.out.bp).cell 4
        have p5 : wr.cell? ⟨w.heap.size, 5, none⟩ = some (.slice g.d g.vs.length g.cd) := (HI.out.bp).cell 5
        have p6 : wr.cell? ⟨w.heap.size, 6, none⟩ = some (.bool h.n) := (HI.out.bp).cell 6
        have p7 : wr.cell? ⟨w.heap.size, 7, none⟩ = some (.slice h.a h.xs.length h.ca) := (HI.out.bp).cell 7
        have p8 : wr.cell? ⟨w.heap.size, 8, none⟩ = some (.slice h.b h.ys.length h.cb) := (HI.out.bp).cell 8
        have p9 : wr.cell? ⟨w.heap.size, 9, none⟩ = some (.bool h.m) := (HI.out.bp).cell 9
        have p10 : wr.cell? ⟨w.heap.size, 10, none⟩ = some (.slice h.c h.us.length h.cc) := (HI.out.bp).cell 10
        have p11 : wr.cell? ⟨w.heap.size, 11, none⟩ = some (.slice h.d h.vs.length h.cd) := (HI.out.bp).cell 11
        go_wp2_with fail
        refine Calls.mono HD.out ?_
        rintro e w3 ⟨g2, h2, rfl, ho, hi, hb⟩
        clear HD p0 p1 p2 p3 p4 p5 p6 p7 p8 p9 p10 p11 
        obtain ⟨B0, B1, B2, B3, B4, B5, B6, B7, B8, B9, B10, B11, qB0, qB1, qB2, qB3, qB4, qB5, qB6, qB7, qB8, qB9, qB10, qB11, ⟨rB0, rB1, rB2, rB3, rB4, rB5, rB6, rB7, rB8, rB9, rB10, rB11⟩, ⟨fB0, fB1, fB2, fB3, fB4, fB5, fB6, fB7, fB8, fB9, fB10, fB11⟩, HB⟩ := rchain12 (HI.out.bp.later hb.out HI.out.bp.lt) (by decide) (.bool g2.n) (.slice g2.a g2.xs.length g2.ca) (.slice g2.b g2.ys.length g2.cb) (.bool g2.m) (.slice g2.c g2.us.length g2.cc) (.slice g2.d g2.vs.length g2.cd) (.bool h2.n) (.slice h2.a h2.xs.length h2.ca) (.slice h2.b h2.ys.length h2.cb) (.bool h2.m) (.slice h2.c h2.us.length h2.cc) (.slice h2.d h2.vs.length h2.cd)
        have HI3 := hid (HI.out.sq hmb hb.out ho.out hi.out HB.out)
        clear HI HB ho hi hb
        go_wp2_with fail
        go_roundw
        case rel => exact ⟨T / 2, i, j + j, g2, h2, k, l, by omega, congrArg (Value.int .i64) (by omega), hs2.out, HI3⟩
        case measure => first | (simp [intOf]; done) | (simp [intOf]; omega)
      · rw [hpar] at hand
        rcases Nat.lt_or_ge 1 T with hq | hq
        · have hq1 : (1 : Int) < (T : Int) := by omega
          have hT2 : T = 2 * (T / 2) + 1 := by omega
          have hjj : j + j ≤ N := by have h2 : j * 2 ≤ j * T := Nat.mul_le_mul_left j (by omega); omega
          have hs2 : Hid (i + j + (j + j) * (T / 2) = N) := by
            show _ = _
            rw [← hsum]
            have e : j * T = (j + j) * (T / 2) + j := by
              have e1 : j * T = j * (2 * (T / 2) + 1) := by rw [← hT2]
              rw [e1, Nat.mul_add, Nat.mul_one, ← Nat.two_mul, Nat.mul_assoc, Nat.mul_left_comm 2 j]
            omega
          clear hT2 hsum
          have a := HI.out
          have HD := hid (otimes_pow HR.out i j (by omega) k l g h wr (a.om.1.sl a.vm.1) (a.om.2.sl a.vm.2) (a.sp.1.sl a.vp.1 a.bel) (a.sp.2.sl a.vp.2 a.bel) a.vm a.vp)
          clear a
          have m0 : wr.cell? ⟨w1.heap.size, 0, none⟩ = some (.bool k.n) := (HI.out.bm).cell 0
          have m1 : wr.cell? ⟨w1.heap.size, 1, none⟩ = some (.slice k.a k.xs.length k.ca) := (HI.out.bm).cell 1
          have m2 : wr.cell? ⟨w1.heap.size, 2, none⟩ = some (.slice k.b k.ys.length k.cb) := (HI.out.bm).cell 2
          have m3 : wr.cell? ⟨w1.heap.size, 3, none⟩ = some (.bool k.m) := (HI.out.bm).cell 3
          have m4 : wr.cell? ⟨w1.heap.size, 4, none⟩ = some (.slice k.c k.us.length k.cc) := (HI.out.bm).cell 4
          have m5 : wr.cell? ⟨w1.heap.size, 5, none⟩ = some (.slice k.d k.vs.length k.cd) := (HI.out.bm).cell 5
          have m6 : wr.cell? ⟨w1.heap.size, 6, none⟩ = some (.bool l.n) := (HI.out.bm).cell 6
          have m7 : wr.cell? ⟨w1.heap.size, 7, none⟩ = some (.slice l.a l.xs.length l.ca) := (HI.out.bm).cell 7
          have m8 : wr.cell? ⟨w1.heap.size, 8, none⟩ = some (.slice l.b l.ys.length l.cb) := (HI.out.bm).cell 8
          have m9 : wr.cell? ⟨w1.heap.size, 9, none⟩ = some (.bool l.m) := (HI.out.bm).cell 9
          have m10 : wr.cell? ⟨w1.heap.size, 10, none⟩ = some (.slice l.c l.us.length l.cc) := (HI.out.bm).cell 10
          have m11 : wr.cell? ⟨w1.heap.size, 11, none⟩ = some (.slice l.d l.vs.length l.cd) := (HI.out.bm).cell 11
          have p0 : wr.cell? ⟨w.heap.size, 0, none⟩ = some (.bool g.n) := (HI.out.bp).cell 0
          have p1 : wr.cell? ⟨w.heap.size, 1, none⟩ = some (.slice g.a g.xs.length g.ca) := (HI.out.bp).cell 1
          have p2 : wr.cell? ⟨w.heap.size, 2, none⟩ = some (.slice g.b g.ys.length g.cb) := (HI.out.bp).cell 2
          have p3 : wr.cell? ⟨w.heap.size, 3, none⟩ = some (.bool g.m) := (HI.out.bp).cell 3
          have p4 : wr.cell? ⟨w.heap.size, 4, none⟩ = some (.slice g.c g.us.length g.cc) := (HI.out.bp).cell 4
          have p5 : wr.cell? ⟨w.heap.size, 5, none⟩ = some (.slice g.d g.vs.length g.cd) := (HI.out.bp).cell 5
          have p6 : wr.cell? ⟨w.heap.size, 6, none⟩ = some (.bool h.n) := (HI.out.bp).cell 6
          have p7 : wr.cell? ⟨w.heap.size, 7, none⟩ = some (.slice h.a h.xs.length h.ca) := (HI.out.bp).cell 7
          have p8 : wr.cell? ⟨w.heap.size, 8, none⟩ = some (.slice h.b h.ys.length h.cb) := (HI.out.bp).cell 8
          have p9 : wr.cell? ⟨w.heap.size, 9, none⟩ = some (.bool h.m) := (HI.out.bp).cell 9
          have p10 : wr.cell? ⟨w.heap.size, 10, none⟩ = some (.slice h.c h.us.length h.cc) := (HI.out.bp).cell 10
          have p11 : wr.cell? ⟨w.heap.size, 11, none⟩ = some (.slice h.d h.vs.length h.cd) := (HI.out.bp).cell 11
          go_wp2_with fail
          refine Calls.mono HD.out ?_
          rintro e w2 ⟨k2, l2, rfl, ho, hi, hb⟩
          clear HD m0 m1 m2 m3 m4 m5 m6 m7 m8 m9 m10 m11 p0 p1 p2 p3 p4 p5 p6 p7 p8 p9 p10 p11
          obtain ⟨A0, A1, A2, A3, A4, A5, A6, A7, A8, A9, A10, A11, qA0, qA1, qA2, qA3, qA4, qA5, qA6, qA7, qA8, qA9, qA10, qA11, ⟨rA0, rA1, rA2, rA3, rA4, rA5, rA6, rA7, rA8, rA9, rA10, rA11⟩, ⟨fA0, fA1, fA2, fA3, fA4, fA5, fA6, fA7, fA8, fA9, fA10, fA11⟩, HA⟩ := rchain12 (HI.out.bm.later hb.out HI.out.bm.lt) (by decide) (.bool k2.n) (.slice k2.a k2.xs.length k2.ca) (.slice k2.b k2.ys.length k2.cb) (.bool k2.m) (.slice k2.c k2.us.length k2.cc) (.slice k2.d k2.vs.length k2.cd) (.bool l2.n) (.slice l2.a l2.xs.length l2.ca) (.slice l2.b l2.ys.length l2.cb) (.bool l2.m) (.slice l2.c l2.us.length l2.cc) (.slice l2.d l2.vs.length l2.cd)
          have HI2 := hid (HI.out.mul hmb hb.out ho.out hi.out HA.out)
          clear HI HA ho hi hb
          have a := HI2.out
          have HD := hid (otimes_pow HR.out j j (by omega) g h g h A11 (a.sp.1.sl a.vp.1 a.bel) (a.sp.2.sl a.vp.2 a.bel) (a.sp.1.sl a.vp.1 a.bel) (a.sp.2.sl a.vp.2 a.bel) a.vp a.vp)
          clear a
          have p0 : A11.cell? ⟨w.heap.size, 0, none⟩ = some (.bool g.n) := (HI2.out.bp).cell 0
          have p1 : A11.cell? ⟨w.heap.size, 1, none⟩ = some (.slice g.a g.xs.length g.ca) := (HI2.out.bp).cell 1
          have p2 : A11.cell? ⟨w.heap.size, 2, none⟩ = some (.slice g.b g.ys.length g.cb) := (HI2.out.bp).cell 2
          have p3 : A11.cell? ⟨w.heap.size, 3, none⟩ = some (.bool g.m) := (HI2.out.bp).cell 3
          have p4 : A11.cell? ⟨w.heap.size, 4, none⟩ = some (.slice g.c g.us.length g.cc) := (HI2.out.bp).cell 4
          have p5 : A11.cell? ⟨w.heap.size, 5, none⟩ = some (.slice g.d g.vs.length g.cd) := (HI2.out.bp).cell 5
          have p6 : A11.cell? ⟨w.heap.size, 6, none⟩ = some (.bool h.n) := (HI2.out.bp).cell 6
          have p7 : A11.cell? ⟨w.heap.size, 7, none⟩ = some (.slice h.a h.xs.length h.ca) := (HI2.out.bp).cell 7
          have p8 : A11.cell? ⟨w.heap.size, 8, none⟩ = some (.slice h.b h.ys.length h.cb) := (HI2.out.bp).cell 8
          have p9 : A11.cell? ⟨w.heap.size, 9, none⟩ = some (.bool h.m) := (HI2.out.bp).cell 9
          have p10 : A11.cell? ⟨w.heap.size, 10, none⟩ = some (.slice h.c h.us.length h.cc) := (HI2.out.bp).cell 10
          have p11 : A11.cell? ⟨w.heap.size, 11, none⟩ = some (.slice h.d h.vs.length h.cd) := (HI2.out.bp).cell 11
          go_wp2_with fail
          refine Calls.mono HD.out ?_
          rintro e w3 ⟨g2, h2, rfl, ho, hi, hb⟩
          clear HD p0 p1 p2 p3 p4 p5 p6 p7 p8 p9 p10 p11 qA0 qA1 qA2 qA3 qA4 qA5 qA6 qA7 qA8 qA9 qA10 qA11 rA0 rA1 rA2 rA3 rA4 rA5 rA6 rA7 rA8 rA9 rA10 rA11 fA0 fA1 fA2 fA3 fA4 fA5 fA6 fA7 fA8 fA9 fA10 fA11
          obtain ⟨B0, B1, B2, B3, B4, B5, B6, B7, B8, B9, B10, B11, qB0, qB1, qB2, qB3, qB4, qB5, qB6, qB7, qB8, qB9, qB10, qB11, ⟨rB0, rB1, rB2, rB3, rB4, rB5, rB6, rB7, rB8, rB9, rB10, rB11⟩, ⟨fB0, fB1, fB2, fB3, fB4, fB5, fB6, fB7, fB8, fB9, fB10, fB11⟩, HB⟩ := rchain12 (HI2.out.bp.later hb.out HI2.out.bp.lt) (by decide) (.bool g2.n) (.slice g2.a g2.xs.length g2.ca) (.slice g2.b g2.ys.length g2.cb) (.bool g2.m) (.slice g2.c g2.us.length g2.cc) (.slice g2.d g2.vs.length g2.cd) (.bool h2.n) (.slice h2.a h2.xs.length h2.ca) (.slice h2.b h2.ys.length h2.cb) (.bool h2.m) (.slice h2.c h2.us.length h2.cc) (.slice h2.d h2.vs.length h2.cd)
          have HI3 := hid (HI2.out.sq hmb hb.out ho.out hi.out HB.out)
          clear HI2 HB ho hi hb
          go_wp2_with fail
          go_roundw
          case rel => exact ⟨T / 2, i + j, j + j, g2, h2, k2, l2, by omega, congrArg (Value.int .i64) (by omega), hs2.out, HI3⟩
          case measure => first | (simp [intOf]; done) | (simp [intOf]; omega)
        · have hT1 : T = 1 := by omega
          subst hT1
          have a := HI.out
          have HD := hid (otimes_pow HR.out i j (by omega) k l g h wr (a.om.1.sl a.vm.1) (a.om.2.sl a.vm.2) (a.sp.1.sl a.vp.1 a.bel) (a.sp.2.sl a.vp.2 a.bel) a.vm a.vp)
          clear a
          have m0 : wr.cell? ⟨w1.heap.size, 0, none⟩ = some (.bool k.n) := (HI.out.bm).cell 0
          have m1 : wr.cell? ⟨w1.heap.size, 1, none⟩ = some (.slice k.a k.xs.length k.ca) := (HI.out.bm).cell 1
          have m2 : wr.cell? ⟨w1.heap.size, 2, none⟩ = some (.slice k.b k.ys.length k.cb) := (HI.out.bm).cell 2
          have m3 : wr.cell? ⟨w1.heap.size, 3, none⟩ = some (.bool k.m) := (HI.out.bm).cell 3
          have m4 : wr.cell? ⟨w1.heap.size, 4, none⟩ = some (.slice k.c k.us.length k.cc) := (HI.out.bm).cell 4
          have m5 : wr.cell? ⟨w1.heap.size, 5, none⟩ = some (.slice k.d k.vs.length k.cd) := (HI.out.bm).cell 5
          have m6 : wr.cell? ⟨w1.heap.size, 6, none⟩ = some (.bool l.n) := (HI.out.bm).cell 6
          have m7 : wr.cell? ⟨w1.heap.size, 7, none⟩ = some (.slice l.a l.xs.length l.ca) := (HI.out.bm).cell 7
          have m8 : wr.cell? ⟨w1.heap.size, 8, none⟩ = some (.slice l.b l.ys.length l.cb) := (HI.out.bm).cell 8
          have m9 : wr.cell? ⟨w1.heap.size, 9, none⟩ = some (.bool l.m) := (HI.out.bm).cell 9
          have m10 : wr.cell? ⟨w1.heap.size, 10, none⟩ = some (.slice l.c l.us.length l.cc) := (HI.out.bm).cell 10
          have m11 : wr.cell? ⟨w1.heap.size, 11, none⟩ = some (.slice l.d l.vs.length l.cd) := (HI.out.bm).cell 11
          have p0 : wr.cell? ⟨w.heap.size, 0, none⟩ = some (.bool g.n) := (HI.out.bp).cell 0
          have p1 : wr.cell? ⟨w.heap.size, 1, none⟩ = some (.slice g.a g.xs.length g.ca) := (HI.out.bp).cell 1
          have p2 : wr.cell? ⟨w.heap.size, 2, none⟩ = some (.slice g.b g.ys.length g.cb) := (HI.out.bp).cell 2
          have p3 : wr.cell? ⟨w.heap.size, 3, none⟩ = some (.bool g.m) := (HI.out.bp).cell 3
          have p4 : wr.cell? ⟨w.heap.size, 4, none⟩ = some (.slice g.c g.us.length g.cc) := (HI.out.bp).cell 4
          have p5 : wr.cell? ⟨w.heap.size, 5, none⟩ = some (.slice g.d g.vs.length g.cd) := (HI.out.bp).cell 5
          have p6 : wr.cell? ⟨w.heap.size, 6, none⟩ = some (.bool h.n) := (HI.out.bp).cell 6
          have p7 : wr.cell? ⟨w.heap.size, 7, none⟩ = some (.slice h.a h.xs.length h.ca) := (HI.out.bp).cell 7
          have p8 : wr.cell? ⟨w.heap.size, 8, none⟩ = some (.slice h.b h.ys.length h.cb) := (HI.out.bp).cell 8
          have p9 : wr.cell? ⟨w.heap.size, 9, none⟩ = some (.bool h.m) := (HI.out.bp).cell 9
          have p10 : wr.cell? ⟨w.heap.size, 10, none⟩ = some (.slice h.c h.us.length h.cc) := (HI.out.bp).cell 10
          have p11 : wr.cell? ⟨w.heap.size, 11, none⟩ = some (.slice h.d h.vs.length h.cd) := (HI.out.bp).cell 11
          go_wp2_with fail
          refine Calls.mono HD.out ?_
          rintro e w2 ⟨k2, l2, rfl, ho, hi, hb⟩
          clear HD m0 m1 m2 m3 m4 m5 m6 m7 m8 m9 m10 m11 p0 p1 p2 p3 p4 p5 p6 p7 p8 p9 p10 p11
          obtain ⟨A0, A1, A2, A3, A4, A5, A6, A7, A8, A9, A10, A11, qA0, qA1, qA2, qA3, qA4, qA5, qA6, qA7, qA8, qA9, qA10, qA11, ⟨rA0, rA1, rA2, rA3, rA4, rA5, rA6, rA7, rA8, rA9, rA10, rA11⟩, ⟨fA0, fA1, fA2, fA3, fA4, fA5, fA6, fA7, fA8, fA9, fA10, fA11⟩, HA⟩ := rchain12 (HI.out.bm.later hb.out HI.out.bm.lt) (by decide) (.bool k2.n) (.slice k2.a k2.xs.length k2.ca) (.slice k2.b k2.ys.length k2.cb) (.bool k2.m) (.slice k2.c k2.us.length k2.cc) (.slice k2.d k2.vs.length k2.cd) (.bool l2.n) (.slice l2.a l2.xs.length l2.ca) (.slice l2.b l2.ys.length l2.cb) (.bool l2.m) (.slice l2.c l2.us.length l2.cc) (.slice l2.d l2.vs.length l2.cd)
          have HI2 := hid (HI.out.mul hmb hb.out ho.out hi.out HA.out)
          clear HI HA ho hi hb
          go_wp2_with fail
          go_roundw
          case rel => exact ⟨0, i + j, j, g, h, k2, l2, by omega, congrArg (Value.int .i64) (by omega), by omega, HI2⟩
          case measure => first | (simp [intOf]; done) | (simp [intOf]; omega)

end Go.Proofs.YtcfcjnlobpoglaaGreat

/- package rotor: Power, as a complex fraction in its one form. -/
namespace Go.Proofs.YtcfcjnlobpoglaaGreat
open Go.RowKit
set_option linter.unusedVariables false
set_option linter.unusedSimpArgs false

/-- A whole number's words. -/
theorem o_whole {n : Bool} {xs ys : List Int} {x : Int} (wx : Wd xs) (wy : Wd ys) (hc : rchk n xs ys = 0) (hq : rq n xs ys = (x : Rat)) : wval n xs = x ∧ Trimmed xs ∧ xs.length ≤ 2048 ∧ (n = false ∨ 0 < xs.length) := by
  obtain ⟨l1, l2, t1, t2, h0, hs, hg⟩ := rchk_ok hc
  have hp : 0 < val ys := val_pos' wy t2 h0
  have hg' : gcdI (wval n xs) (val ys) = 1 := by
    have e := gcd_sg n (val xs) (val ys)
    rw [← hg, ← e]
    rfl
  have h := fr_num hp hg'
  have hn : (rq n xs ys).num = x := by rw [hq, Rat.num_intCast]
  exact ⟨by rw [← h.1]; exact hn, t1, l1, hs⟩
/-- The number of a power in two pieces. -/
def oNum (g h : G6) (a1 : Option Addr) (c1 : Nat) (a2 : Option Addr) (c2 : Nat) (a3 : Option Addr) (c3 : Nat) (a4 : Option Addr) (c4 : Nat) : G6 := ⟨g.n, a1, c1, g.xs, a2, c2, h.xs, g.m, a3, c3, g.us, a4, c4, h.xs⟩
theorem onum_is {g h : G6} {z : Int × Int} {M : Int} (hp : OPw g h z M) (hM : 0 < M) (g1 : Int.gcd z.1 M = 1) (g2 : Int.gcd z.2 M = 1) (a1 : Option Addr) (c1 : Nat) (a2 : Option Addr) (c2 : Nat) (a3 : Option Addr) (c3 : Nat) (a4 : Option Addr) (c4 : Nat) : (oNum g h a1 c1 a2 c2 a3 c3 a4 c4).Is (Rat.divInt z.1 M) (Rat.divInt z.2 M) := by
  obtain ⟨⟨i1, i2⟩, ⟨i3, i4⟩, w1, w2, w3, w4⟩ := hp.1
  obtain ⟨⟨j1, j2⟩, _, v1, v2, _⟩ := hp.2
  obtain ⟨e1, t1, l1, s1⟩ := o_whole w1 w2 i1 i2
  obtain ⟨e2, t2, l2, s2⟩ := o_whole w3 w4 i3 i4
  obtain ⟨e3, t3, l3, s3⟩ := o_whole v1 v2 j1 j2
  have p3 := val_nonneg v1
  have hn : h.n = false := by
    cases hh : h.n
    · rfl
    · rw [hh] at e3; unfold wval at e3; simp at e3; omega
  have e3' : val h.xs = M := by rw [hn] at e3; unfold wval at e3; simpa using e3
  have h0 : 0 < h.xs.length := by
    rcases Nat.eq_zero_or_pos h.xs.length with q | q
    · rw [List.eq_nil_of_length_eq_zero q] at e3'
      have : val ([] : List Int) = 0 := rfl
      omega
    · exact q
  have gg : ∀ {n : Bool} {xs : List Int} {x : Int}, wval n xs = x → Int.gcd x M = 1 → gcdI (val xs) (val h.xs) = 1 := fun {n xs x} he hg => by
    have e := gcd_sg n (val xs) (val h.xs)
    rw [← e, e3', show sg n (val xs) = x from he]
    unfold gcdI
    rw [hg]; rfl
  refine ⟨⟨rchk_good l1 l3 t1 t3 h0 s1 (gg e1 g1), ?_⟩, ⟨rchk_good l2 l3 t2 t3 h0 s2 (gg e2 g2), ?_⟩, w1, v1, w3, v1⟩
  · show Rat.divInt (wval g.n g.xs) (val h.xs) = _
    rw [e1, e3']
  · show Rat.divInt (wval g.m g.us) (val h.xs) = _
    rw [e2, e3']

/-- What tells a complex fraction, all rows apart. -/
def OGt (w : World) (q1 q2 : Rat) (x : Ending) (w' : World) : Prop := ∃ r : G6, x = .returned (.tuple #[.agg #[.bool r.n, .slice r.a r.xs.length r.ca, .slice r.b r.ys.length r.cb, .bool r.m, .slice r.c r.us.length r.cc, .slice r.d r.vs.length r.cd], .int .i64 0]) ∧ Hid (r.Ow w' w.heap.size) ∧ Hid (r.Is q1 q2) ∧ Hid (Below w.heap.size w w') ∧ Hid (∃ W1, Cut w (.slice r.a r.xs.length r.ca) (.slice r.b r.ys.length r.cb) W1 ∧ Cut W1 (.slice r.c r.us.length r.cc) (.slice r.d r.vs.length r.cd) w')
theorem oNm_pos {f n : Int} (h : rOK f n) (t : Nat) : 0 < oNm f n ^ t := by
  obtain ⟨e, _, _, _, _, _, h5, _⟩ := o_parts h
  exact Int.pow_pos (by omega)
/-- A rotor's power from 0 on, as a fraction. -/
def oPn (f n : Int) (t : Nat) : Rat × Rat := (Rat.divInt (zpow (oRe f n, oIm f n) t).1 (oNm f n ^ t), Rat.divInt (zpow (oRe f n, oIm f n) t).2 (oNm f n ^ t))
/-- A rotor's power. -/
def oP (f n t : Int) : Rat × Rat := if 0 ≤ t then oPn f n t.toNat else oPn f (-n) (-t).toNat
theorem rOK_neg {f n : Int} (h : rOK f n) : rOK f (-n) := by
  unfold rOK at *
  rw [Int.natAbs_neg]
  exact h

set_option maxHeartbeats 6400000 in
set_option maxRecDepth 100000 in
theorem oPower_bad (f n t : Int) (w : World) (hi : in32 f n) (t0 : -9223372036854775808 ≤ t) (t1 : t ≤ 9223372036854775807) (hb : ¬ rOK f n ∨ (rOK f n ∧ (t < -1024 ∨ 1024 < t))) :
    Calls Tryz.prog 10 #[.agg #[.int .i32 f, .int .i32 n], .int .i64 t] w fun e w' => e = .returned (.tuple #[.agg #[.bool false, .slice none 0 0, .slice none 0 0, .bool false, .slice none 0 0, .slice none 0 0], .int .i64 (if rOK f n then 2 else 150)]) ∧ Below w.heap.size w w' := by
  obtain ⟨X, hX⟩ : ∃ X, (w.alloc (.cells #[.int .i32 f, .int .i32 n] 23)).alloc (.cells #[.bool false, .slice none 0 0, .slice none 0 0, .bool false, .slice none 0 0, .slice none 0 0] 28) = X := ⟨_, rfl⟩
  have HB : Hid (Below w.heap.size w X) := by rw [← hX]; exact bt (alloc_later _ _) (alloc_later _ _)
  have HR : Hid (Box X w.heap.size 23 #[.int .i32 f, .int .i32 n]) := by rw [← hX]; exact (Box.made w _ _).later (alloc_later _ _) (Box.made w _ _).lt
  have HZ : Hid (Box X (w.heap.size + 1) 28 #[.bool false, .slice none 0 0, .slice none 0 0, .bool false, .slice none 0 0, .slice none 0 0]) := by
    have q := Box.made (w.alloc (.cells #[.int .i32 f, .int .i32 n] 23)) 28 #[.bool false, .slice none 0 0, .slice none 0 0, .bool false, .slice none 0 0, .slice none 0 0]
    rw [show (w.alloc (.cells #[.int .i32 f, .int .i32 n] 23)).heap.size = w.heap.size + 1 by simp, hX] at q
    exact q
  have HC := hid (ocheck_any f n X hi)
  have k0 : X.cell? ⟨w.heap.size, 0, none⟩ = some (.int .i32 f) := HR.out.cell 0
  have k1 : X.cell? ⟨w.heap.size, 1, none⟩ = some (.int .i32 n) := HR.out.cell 1
  clear hi
  rcases hb with hb | ⟨hb, ht⟩
  · have h0 : ochk f n = 150 := by unfold ochk; rw [if_neg hb]
    rw [h0] at HC
    rw [if_neg hb]
    clear hb h0
    go_enter Tryz.func10, Tryz.ntmps10
    go_wp2_with fail
    clear hX
    refine Calls.mono HC.out ?_
    rintro e w1 ⟨rfl, hb1⟩
    have HB1 := hid hb1
    clear hb1 k0 k1 HC
    obtain ⟨A0, A1, A2, A3, A4, A5, q0, q1, q2, q3, q4, q5, ⟨r0, r1, r2, r3, r4, r5⟩, ⟨f0, f1, f2, f3, f4, f5⟩, HA⟩ := rchain6 (HZ.out.later HB1.out HZ.out.lt) (by decide) (.bool false) (.slice none 0 0) (.slice none 0 0) (.bool false) (.slice none 0 0) (.slice none 0 0)
    go_wp2_with fail
    refine bodyPost_ret (gres_run (by rfl) HA.out.1 _ (by rfl)) rfl ?_
    exact ⟨rfl, HA.out.2.2.2.1 _ _ (by omega) (bt HB.out HB1.out)⟩
  · have h0 : ochk f n = 0 := by unfold ochk; rw [if_pos hb]
    rw [h0] at HC
    rw [if_pos hb]
    clear hb h0
    rcases ht with ht | ht
    all_goals
      go_enter Tryz.func10, Tryz.ntmps10
      go_wp2_with fail
      clear hX
      refine Calls.mono HC.out ?_
      rintro e w1 ⟨rfl, hb1⟩
      have HB1 := hid hb1
      clear hb1 k0 k1 HC
      obtain ⟨A0, A1, A2, A3, A4, A5, q0, q1, q2, q3, q4, q5, ⟨r0, r1, r2, r3, r4, r5⟩, ⟨f0, f1, f2, f3, f4, f5⟩, HA⟩ := rchain6 (HZ.out.later HB1.out HZ.out.lt) (by decide) (.bool false) (.slice none 0 0) (.slice none 0 0) (.bool false) (.slice none 0 0) (.slice none 0 0)
      go_wp2_with fail
      refine bodyPost_ret (gres_run (by rfl) HA.out.1 _ (by rfl)) rfl ?_
      exact ⟨rfl, HA.out.2.2.2.1 _ _ (by omega) (bt HB.out HB1.out)⟩

set_option maxHeartbeats 6400000 in
set_option maxRecDepth 100000 in
theorem oPower_any (f n t : Int) (w : World) (hr : rOK f n) (t0 : -1024 ≤ t) (t1 : t ≤ 1024) :
    Calls Tryz.prog 10 #[.agg #[.int .i32 f, .int .i32 n], .int .i64 t] w (OGt w (oP f n t).1 (oP f n t).2) := by
  obtain ⟨X, hX⟩ : ∃ X, (w.alloc (.cells #[.int .i32 f, .int .i32 n] 23)).alloc (.cells #[.bool false, .slice none 0 0, .slice none 0 0, .bool false, .slice none 0 0, .slice none 0 0] 28) = X := ⟨_, rfl⟩
  have HB : Hid (Below w.heap.size w X) := by rw [← hX]; exact bt (alloc_later _ _) (alloc_later _ _)
  have HR : Hid (Box X w.heap.size 23 #[.int .i32 f, .int .i32 n]) := by rw [← hX]; exact (Box.made w _ _).later (alloc_later _ _) (Box.made w _ _).lt
  have HZ : Hid (Box X (w.heap.size + 1) 28 #[.bool false, .slice none 0 0, .slice none 0 0, .bool false, .slice none 0 0, .slice none 0 0]) := by
    have q := Box.made (w.alloc (.cells #[.int .i32 f, .int .i32 n] 23)) 28 #[.bool false, .slice none 0 0, .slice none 0 0, .bool false, .slice none 0 0, .slice none 0 0]
    rw [show (w.alloc (.cells #[.int .i32 f, .int .i32 n] 23)).heap.size = w.heap.size + 1 by simp, hX] at q
    exact q
  have hin : in32 f n := by unfold rOK at hr; unfold in32; omega
  have hnn : -1000 ≤ n ∧ n ≤ 1000 := by unfold rOK at hr; omega
  have HC := hid (ocheck_any f n X hin)
  have h0 : ochk f n = 0 := by unfold ochk; rw [if_pos hr]
  rw [h0] at HC
  have k0 : X.cell? ⟨w.heap.size, 0, none⟩ = some (.int .i32 f) := HR.out.cell 0
  have k1 : X.cell? ⟨w.heap.size, 1, none⟩ = some (.int .i32 n) := HR.out.cell 1
  have zz := HZ.out.lt
  by_cases ht : 0 ≤ t
  · have EP : Hid (oP f n t = oPn f n t.toNat) := by show _ = _; unfold oP; rw [if_pos ht]
    have HF := hid (fun V => ofirst_any f n V (by unfold rOK at hr; omega) (by unfold rOK at hr; omega))
    have HK := hid hr
    obtain ⟨N, hN⟩ : ∃ N : Nat, t = N := ⟨t.toNat, by omega⟩
    subst hN
    rw [Int.toNat_natCast] at EP
    have hN1 : N ≤ 1024 := by omega
    clear h0 hin hr
    go_enter Tryz.func10, Tryz.ntmps10
    go_wp2_with fail
    clear hX
    refine Calls.mono HC.out ?_
    rintro e w1 ⟨rfl, hb1⟩
    have HB1 := hid hb1
    clear hb1 k0 k1 HC
    have k0 : w1.cell? ⟨w.heap.size, 0, none⟩ = some (.int .i32 f) := (HR.out.later HB1.out HR.out.lt).cell 0
    have k1 : w1.cell? ⟨w.heap.size, 1, none⟩ = some (.int .i32 n) := (HR.out.later HB1.out HR.out.lt).cell 1
    have HD := hid (HF.out w1)
    clear HF
    go_wp2_with fail
    refine Calls.mono HD.out ?_
    rintro e w2 ⟨g, h, rfl, ho2, hg, hh, hb2⟩
    have hg' := hg.out
    have hh' := hh.out
    rw [o_div1, o_div1] at hg' hh'
    have HT := hid (oto_any f n HK.out g h N hN1 w2 (ho2.out.1.sl hg') (ho2.out.2.sl hh') ⟨hg', hh'⟩)
    clear HD hg' hh' k0 k1 hg hh
    go_wp2_with fail
    refine Calls.mono HT.out ?_
    rintro e w3 ⟨k, l, rfl, ho3, hp3, hb3⟩
    have lk := hp3.out.1.len
    have ll := hp3.out.2.len
    have sk := ho3.out.1.sl hp3.out.1
    have sl_ := ho3.out.2.sl hp3.out.2
    have HN := hid (onumber_any k l w3 sk.1 sk.2.2.1 sl_.1 (by omega) (by omega) (by omega))
    clear HT lk ll sk sl_
    go_wp2_with fail
    refine Calls.mono HN.out ?_
    rintro e w4 ⟨a1, c1, a2, c2, a3, c3, a4, c4, rfl, ho4, hb4, hc4⟩
    clear HN
    have HBB := hid (bt HB1.out (bt hb2.out (bt hb3.out hb4.out)))
    obtain ⟨A0, A1, A2, A3, A4, A5, q0, q1, q2, q3, q4, q5, ⟨r0, r1, r2, r3, r4, r5⟩, ⟨f0, f1, f2, f3, f4, f5⟩, HA⟩ := rchain6 (HZ.out.later HBB.out HZ.out.lt) (by decide) (.bool k.n) (.slice a1 k.xs.length c1) (.slice a2 l.xs.length c2) (.bool k.m) (.slice a3 k.us.length c3) (.slice a4 l.xs.length c4)
    go_wp2_with fail
    have z1 := HB.out.size
    have z2 := HB1.out.size
    have z3 := hb2.out.size
    have z5 := hb3.out.size
    have P := HA.out.2.2.1
    have z4 := HA.out.2.2.2.2
    obtain ⟨W1, hc1, hc2⟩ := hc4.out
    refine bodyPost_ret (gres_run (by rfl) HA.out.1 _ (by rfl)) rfl ?_
    have hl := o_low HK.out N
    rw [EP.out]
    exact ⟨oNum k l a1 c1 a2 c2 a3 c3 a4 c4, rfl, ⟨P _ _ _ _ (owns_base ho4.out.1 (by omega)), P _ _ _ _ (owns_base ho4.out.2.1 (by omega)), P _ _ _ _ (owns_base ho4.out.2.2.1 (by omega)), P _ _ _ _ (owns_base ho4.out.2.2.2 (by omega))⟩, onum_is hp3.out (oNm_pos HK.out N) hl.1 hl.2 _ _ _ _ _ _ _ _, HA.out.2.2.2.1 _ _ (by omega) (bt HB.out HBB.out), W1, hc1.up (by omega) (Nat.le_refl _), hc2.up (Nat.le_refl _) (by omega)⟩
  · have EP : Hid (oP f n t = oPn f (-n) (-t).toNat) := by show _ = _; unfold oP; rw [if_neg ht]
    have hr2 := rOK_neg hr
    have HF := hid (fun V => ofirst_any f (-n) V (by unfold rOK at hr2; omega) (by unfold rOK at hr2; omega))
    have HK := hid hr2
    obtain ⟨N, hN⟩ : ∃ N : Nat, -t = N := ⟨(-t).toNat, by omega⟩
    have hN' : t = -(N : Int) := by omega
    subst hN'
    rw [Int.neg_neg, Int.toNat_natCast] at EP
    have hN1 : N ≤ 1024 := by omega
    have hN0 : 0 < N := by omega
    clear h0 hin hr hr2 hN
    go_enter Tryz.func10, Tryz.ntmps10
    go_wp2_with fail
    clear hX
    refine Calls.mono HC.out ?_
    rintro e w1 ⟨rfl, hb1⟩
    have HB1 := hid hb1
    clear hb1 k0 k1 HC
    have HR1 := hid (HR.out.later HB1.out HR.out.lt)
    have k0 : w1.cell? ⟨w.heap.size, 0, none⟩ = some (.int .i32 f) := HR1.out.cell 0
    have k1 : w1.cell? ⟨w.heap.size, 1, none⟩ = some (.int .i32 n) := HR1.out.cell 1
    have kf := HR1.out.free 1
    have HR2 : Hid (Box (w1.setCell ⟨w.heap.size, 1, none⟩ (.int .i32 (-n))) w.heap.size 23 #[.int .i32 f, .int .i32 (-n)]) := HR1.out.set 1 _
    have HZ2 : Hid (Box (w1.setCell ⟨w.heap.size, 1, none⟩ (.int .i32 (-n))) (w.heap.size + 1) 28 #[.bool false, .slice none 0 0, .slice none 0 0, .bool false, .slice none 0 0, .slice none 0 0]) := (HZ.out.later HB1.out HZ.out.lt).other ⟨w.heap.size, 1, none⟩ _ (by show w.heap.size + 1 ≠ w.heap.size; omega)
    have HBW : Hid (Below w.heap.size w (w1.setCell ⟨w.heap.size, 1, none⟩ (.int .i32 (-n)))) := (bt HB.out HB1.out).setCell (p := ⟨w.heap.size, 1, none⟩) (Nat.le_refl _) _
    obtain ⟨V, hV⟩ : ∃ V, w1.setCell ⟨w.heap.size, 1, none⟩ (.int .i32 (-n)) = V := ⟨_, rfl⟩
    rw [hV] at HR2 HZ2 HBW
    have j0 : V.cell? ⟨w.heap.size, 0, none⟩ = some (.int .i32 f) := HR2.out.cell 0
    have j1 : V.cell? ⟨w.heap.size, 1, none⟩ = some (.int .i32 (-n)) := HR2.out.cell 1
    have HD := hid (HF.out V)
    clear HF
    go_wp2_with fail
    refine Calls.mono HD.out ?_
    rintro e w2 ⟨g, h, rfl, ho2, hg, hh, hb2⟩
    have hg' := hg.out
    have hh' := hh.out
    rw [o_div1, o_div1] at hg' hh'
    have HT := hid (oto_any f (-n) HK.out g h N hN1 w2 (ho2.out.1.sl hg') (ho2.out.2.sl hh') ⟨hg', hh'⟩)
    clear HD hg' hh' k0 k1 kf hV j0 j1 hg hh
    go_wp2_with fail
    refine Calls.mono HT.out ?_
    rintro e w3 ⟨k, l, rfl, ho3, hp3, hb3⟩
    have lk := hp3.out.1.len
    have ll := hp3.out.2.len
    have sk := ho3.out.1.sl hp3.out.1
    have sl_ := ho3.out.2.sl hp3.out.2
    have HN := hid (onumber_any k l w3 sk.1 sk.2.2.1 sl_.1 (by omega) (by omega) (by omega))
    clear HT lk ll sk sl_
    go_wp2_with fail
    refine Calls.mono HN.out ?_
    rintro e w4 ⟨a1, c1, a2, c2, a3, c3, a4, c4, rfl, ho4, hb4, hc4⟩
    clear HN
    have HBB := hid (bt hb2.out (bt hb3.out hb4.out))
    obtain ⟨A0, A1, A2, A3, A4, A5, q0, q1, q2, q3, q4, q5, ⟨r0, r1, r2, r3, r4, r5⟩, ⟨f0, f1, f2, f3, f4, f5⟩, HA⟩ := rchain6 (HZ2.out.later HBB.out HZ2.out.lt) (by decide) (.bool k.n) (.slice a1 k.xs.length c1) (.slice a2 l.xs.length c2) (.bool k.m) (.slice a3 k.us.length c3) (.slice a4 l.xs.length c4)
    go_wp2_with fail
    have z1 := HBW.out.size
    have z3 := hb2.out.size
    have z5 := hb3.out.size
    have P := HA.out.2.2.1
    have z4 := HA.out.2.2.2.2
    obtain ⟨W1, hc1, hc2⟩ := hc4.out
    refine bodyPost_ret (gres_run (by rfl) HA.out.1 _ (by rfl)) rfl ?_
    have hl := o_low HK.out N
    rw [EP.out]
    exact ⟨oNum k l a1 c1 a2 c2 a3 c3 a4 c4, rfl, ⟨P _ _ _ _ (owns_base ho4.out.1 (by omega)), P _ _ _ _ (owns_base ho4.out.2.1 (by omega)), P _ _ _ _ (owns_base ho4.out.2.2.1 (by omega)), P _ _ _ _ (owns_base ho4.out.2.2.2 (by omega))⟩, onum_is hp3.out (oNm_pos HK.out N) hl.1 hl.2 _ _ _ _ _ _ _ _, HA.out.2.2.2.1 _ _ (by omega) (bt HBW.out HBB.out), W1, hc1.up (by omega) (Nat.le_refl _), hc2.up (Nat.le_refl _) (by omega)⟩
end Go.Proofs.YtcfcjnlobpoglaaGreat

/- No program: a rotor's powers are a group; none but the power 0 is 1; how long they are. -/
namespace Go.Proofs.YtcfcjnlobpoglaaGreat
open Go.RowKit
set_option linter.unusedVariables false

/-- Neither part of a fraction is above this. -/
def OHg (q : Rat) (B : Nat) : Prop := q.num.natAbs ≤ B ∧ q.den ≤ B
theorem OHg.up {q : Rat} {B C : Nat} (h : OHg q B) (hc : B ≤ C) : OHg q C := ⟨Nat.le_trans h.1 hc, Nat.le_trans h.2 hc⟩
theorem ohg_divInt {n : Int} {d : Nat} {B : Nat} (hd : d ≠ 0) (h1 : n.natAbs ≤ B) (h2 : d ≤ B) : OHg (Rat.divInt n d) B := by
  have e : Rat.divInt n d = mkRat n d := Rat.divInt_ofNat n d
  rw [e]
  have e2 := Rat.normalize_eq_mkRat (num := n) (den := d) hd
  rw [← e2, Rat.normalize_eq]
  exact ⟨by
    show (n / _).natAbs ≤ B
    exact Nat.le_trans (by rw [Int.natAbs_ediv_of_dvd (Int.ofNat_dvd_left.2 (Nat.gcd_dvd_left _ _)), Int.natAbs_natCast]; exact Nat.div_le_self _ _) h1, Nat.le_trans (Nat.div_le_self _ _) h2⟩
theorem OHg.neg {q : Rat} {B : Nat} (h : OHg q B) : OHg (-q) B := ⟨by show (-q).num.natAbs ≤ B; rw [Rat.neg_num, Int.natAbs_neg]; exact h.1, by show (-q).den ≤ B; rw [Rat.neg_den]; exact h.2⟩
theorem OHg.mul {p q : Rat} {B C : Nat} (h : OHg p B) (g : OHg q C) : OHg (p * q) (B * C) := by
  have e : p * q = Rat.divInt (p.num * q.num) ((p.den * q.den : Nat) : Int) := by
    have e1 := Rat.divInt_mul_divInt p.num q.num (d₁ := p.den) (d₂ := q.den)
    rw [Rat.num_divInt_den, Rat.num_divInt_den] at e1
    rw [e1]; norm_cast
  rw [e]
  exact ohg_divInt (Nat.mul_ne_zero p.den_nz q.den_nz) (by rw [Int.natAbs_mul]; exact Nat.mul_le_mul h.1 g.1) (Nat.mul_le_mul h.2 g.2)
theorem OHg.add {p q : Rat} {B C : Nat} (h : OHg p B) (g : OHg q C) : OHg (p + q) (2 * (B * C)) := by
  have e : p + q = Rat.divInt (p.num * q.den + q.num * p.den) ((p.den * q.den : Nat) : Int) := by
    have e1 := Rat.divInt_add_divInt p.num q.num (d₁ := p.den) (d₂ := q.den) (by have := p.den_nz; omega) (by have := q.den_nz; omega)
    rw [Rat.num_divInt_den, Rat.num_divInt_den] at e1
    rw [e1]; norm_cast
  rw [e]
  have h1 : (p.num * q.den).natAbs ≤ B * C := by rw [Int.natAbs_mul, Int.natAbs_natCast]; exact Nat.mul_le_mul h.1 g.2
  have h2 : (q.num * p.den).natAbs ≤ B * C := by rw [Int.natAbs_mul, Int.natAbs_natCast, Nat.mul_comm B C]; exact Nat.mul_le_mul g.1 h.2
  have h3 : p.den * q.den ≤ B * C := Nat.mul_le_mul h.2 g.2
  exact ohg_divInt (Nat.mul_ne_zero p.den_nz q.den_nz) (Nat.le_trans (Int.natAbs_add_le _ _) (by omega)) (by omega)
theorem OHg.sub {p q : Rat} {B C : Nat} (h : OHg p B) (g : OHg q C) : OHg (p - q) (2 * (B * C)) := by
  rw [Rat.sub_eq_add_neg]
  exact h.add g.neg
theorem OHg.short {q : Rat} {B : Nat} (h : OHg q B) (hb : B < oL) : ¬ rlong q := by
  have e := oL_lt
  have h1 := h.1
  have h2 := h.2
  rintro (hh | hh) <;> omega
end Go.Proofs.YtcfcjnlobpoglaaGreat

/- Powers of a rotor as the document makes them: (far + i near) to the power 2t, over (far far + near near) to the power t. No program. -/
namespace Go.Proofs.YtcfcjnlobpoglaaGreat
open Go.RowKit
set_option linter.unusedVariables false

theorem sq_nn (x : Int) : 0 ≤ x * x := by
  rcases Int.le_total 0 x with h | h
  · exact Int.mul_nonneg h h
  · exact Int.mul_nonneg_of_nonpos_of_nonpos h h
theorem zpow_scale (c : Int) (p : Int × Int) (t : Nat) : zpow (c * p.1, c * p.2) t = (c ^ t * (zpow p t).1, c ^ t * (zpow p t).2) := by
  induction t with
  | zero => simp [zpow]
  | succ t ih =>
    rw [zpow_add, zpow_add p, ih, zpow_one, zpow_one]
    unfold zmul
    ext <;> simp only [] <;> grind
theorem zpow_twice (p : Int × Int) (t : Nat) : zpow p (2 * t) = zpow (zpow p 2) t := by
  induction t with
  | zero => rfl
  | succ t ih => rw [show 2 * (t + 1) = 2 * t + 2 by omega, zpow_add, ih, zpow_add (zpow p 2), zpow_one]
theorem zpow_two (p : Int × Int) : zpow p 2 = (p.1 * p.1 - p.2 * p.2, 2 * (p.1 * p.2)) := by
  rw [show 2 = 1 + 1 from rfl, zpow_add, zpow_one]
  unfold zmul
  ext <;> simp only [] <;> grind
/-- The document's number, scaled, is the program's, scaled. -/
theorem doc_scaled {f n : Int} (h : rOK f n) (t : Nat) : ∃ a b : Int, a ≠ 0 ∧ b ≠ 0 ∧ a * (zpow (f, n) (2 * t)).1 = b * (zpow (oRe f n, oIm f n) t).1 ∧ a * (zpow (f, n) (2 * t)).2 = b * (zpow (oRe f n, oIm f n) t).2 ∧ a * (f * f + n * n) ^ t = b * oNm f n ^ t := by
  obtain ⟨e, he, h1, h2, h3, _⟩ := o_parts h
  have e0 : e ≠ 0 := by rcases he with rfl | rfl <;> decide
  refine ⟨e ^ t, 2 ^ t, Int.pow_ne_zero e0, Int.pow_ne_zero (by decide), ?_⟩
  have k : (e * (zpow (f, n) 2).1, e * (zpow (f, n) 2).2) = (2 * oRe f n, 2 * oIm f n) := by
    rw [zpow_two]
    ext <;> simp only [] <;> grind
  have s1 := zpow_scale e (zpow (f, n) 2) t
  have s2 := zpow_scale 2 (oRe f n, oIm f n) t
  rw [k, ← zpow_twice] at s1
  simp only [] at s2
  rw [s2] at s1
  have a1 := congrArg Prod.fst s1
  have a2 := congrArg Prod.snd s1
  simp only [] at a1 a2
  refine ⟨a1.symm, a2.symm, ?_⟩
  rw [← Int.mul_pow, ← Int.mul_pow, h1]
theorem doc_frac {x y a b X Y : Int} (ha : a ≠ 0) (hb : b ≠ 0) (hY : Y ≠ 0) (h1 : a * x = b * X) (h2 : a * y = b * Y) : Rat.divInt x y = Rat.divInt X Y := by
  have hy : y ≠ 0 := by
    rintro rfl
    have : b * Y = 0 := by rw [← h2, Int.mul_zero]
    rcases Int.mul_eq_zero.1 this with q | q
    · exact hb q
    · exact hY q
  rw [Rat.divInt_eq_divInt_iff hy hY]
  apply Int.eq_of_mul_eq_mul_left ha
  grind
/-- The document's fractions are the program's. -/
theorem doc_pow {f n : Int} (h : rOK f n) (t : Nat) : Rat.divInt (zpow (f, n) (2 * t)).1 ((f * f + n * n) ^ t) = (oPn f n t).1 ∧ Rat.divInt (zpow (f, n) (2 * t)).2 ((f * f + n * n) ^ t) = (oPn f n t).2 := by
  obtain ⟨a, b, ha, hb, h1, h2, h3⟩ := doc_scaled h t
  have hY : oNm f n ^ t ≠ 0 := by have := oNm_pos h t; omega
  exact ⟨doc_frac ha hb hY h1 h3, doc_frac ha hb hY h2 h3⟩
/-- How great the document's numbers are on the way. -/
theorem doc_big {f n : Int} (h : rOK f n) (i : Nat) : (zpow (f, n) i).1.natAbs ≤ (f * f + n * n).natAbs ^ i ∧ (zpow (f, n) i).2.natAbs ≤ (f * f + n * n).natAbs ^ i := by
  have e := zpow_norm (f, n) i
  have k : ((zpow (f, n) i).1.natAbs * (zpow (f, n) i).1.natAbs + (zpow (f, n) i).2.natAbs * (zpow (f, n) i).2.natAbs : Nat) = (f * f + n * n).natAbs ^ i := by
    have q := congrArg Int.natAbs e
    rw [Int.natAbs_pow] at q
    simp only [] at q
    rw [← q, Int.natAbs_add_of_nonneg (sq_nn _) (sq_nn _), Int.natAbs_mul, Int.natAbs_mul]
  generalize (zpow (f, n) i).1.natAbs = x at *
  generalize (zpow (f, n) i).2.natAbs = y at *
  have l : ∀ z : Nat, z ≤ z * z := fun z => by
    rcases Nat.eq_zero_or_pos z with rfl | q
    · exact Nat.le_refl _
    · exact Nat.le_mul_of_pos_left z q
  have := l x
  have := l y
  omega
end Go.Proofs.YtcfcjnlobpoglaaGreat

/- What the document's part tells is a fraction in its one form. No program. -/
namespace Go.Proofs.YtcfcjnlobpoglaaGreat
open Go.RowKit
set_option linter.unusedVariables false

theorem gcd_part {z d g x y : Int} (hg : 0 < g) (h1 : z * g = x) (h2 : d * g = y) (e : (Int.gcd x y : Int) = g) : Int.gcd z d = 1 := by
  rw [← h1, ← h2, Int.gcd_mul_right, Int.natCast_mul] at e
  have a : (g.natAbs : Int) = g := by omega
  rw [a] at e
  have : (Int.gcd z d : Int) * g = 1 * g := by rw [e, Int.one_mul]
  have := Int.eq_of_mul_eq_mul_right (by omega) this
  omega
theorem ppt_good {n : Bool} {xs ys zs ds : List Int} (wx : Wd xs) (wy : Wd ys) (wz : Wd zs) (wd : Wd ds) (tz : Trimmed zs) (td : Trimmed ds) (tx : Trimmed xs) (s : n = false ∨ 0 < val xs) (hy : 0 < val ys) (l1 : xs.length ≤ 2048) (l2 : ys.length ≤ 2048)
    (e1 : val zs * gcdI (val xs) (val ys) = val xs) (e2 : val ds * gcdI (val xs) (val ys) = val ys) : rchk n zs ds = 0 ∧ rq n zs ds = Rat.divInt (wval n xs) (val ys) := by
  obtain ⟨g, hg⟩ : ∃ g, gcdI (val xs) (val ys) = g := ⟨_, rfl⟩
  rw [hg] at e1 e2
  have pz := val_nonneg wz
  have pd := val_nonneg wd
  have g0 : 0 < g := by
    rcases Int.lt_trichotomy g 0 with q | q | q
    · have := gcdI_nonneg (val xs) (val ys); omega
    · rw [q] at e2; omega
    · exact q
  have up : ∀ a : Int, 0 ≤ a → a ≤ a * g := fun a h => by
    have := Int.mul_le_mul_of_nonneg_left (show 1 ≤ g by omega) h
    omega
  have d0 : 0 < val ds := by
    rcases Int.lt_or_eq_of_le pd with q | q
    · exact q
    · rw [← q] at e2; omega
  have ne : ∀ l : List Int, 0 < val l → 0 < l.length := fun l h => by
    rcases Nat.eq_zero_or_pos l.length with q | q
    · rw [List.eq_nil_of_length_eq_zero q] at h
      have : val ([] : List Int) = 0 := rfl
      omega
    · exact q
  have lz : zs.length ≤ 2048 := Nat.le_trans (len_le_of_val wx wz tz (by have := up _ pz; omega)) l1
  have ld : ds.length ≤ 2048 := Nat.le_trans (len_le_of_val wy wd td (by have := up _ pd; omega)) l2
  have sz : n = false ∨ 0 < zs.length := s.imp id fun h => ne zs (by
    rcases Int.lt_or_eq_of_le pz with q | q
    · exact q
    · rw [← q] at e1; omega)
  have gg : gcdI (val zs) (val ds) = 1 := by
    have := gcd_part g0 e1 e2 hg
    unfold gcdI
    rw [this]; rfl
  refine ⟨rchk_good lz ld tz td (ne ds d0) sz gg, ?_⟩
  show Rat.divInt (wval n zs) (val ds) = _
  refine doc_frac (a := g) (b := 1) (by omega) (by decide) (by omega) ?_ (by rw [Int.one_mul, ← e2]; grind)
  rw [Int.one_mul]
  unfold wval
  cases n <;> simp <;> grind
end Go.Proofs.YtcfcjnlobpoglaaGreat

/- Fractions that the document's part tells; the last statement of the document's Power. (tools/mkrp9.py) -/
namespace Go.Proofs.YtcfcjnlobpoglaaGreat
open Go.RowKit
set_option linter.unusedVariables false
set_option linter.unusedSimpArgs false

/-- A fraction that stands, in its one form. -/
def PF (V : World) (B : Nat) (n : Bool) (a : Option Addr) (k c : Nat) (b : Option Addr) (j d : Nat) (q : Rat) : Prop := ∃ zs ds : List Int, k = zs.length ∧ j = ds.length ∧ V.ownsRow B 66 1 (.slice a k c) k (zs.map (Value.int .u32)) ∧ V.ownsRow B 66 1 (.slice b j d) j (ds.map (Value.int .u32)) ∧ Wd zs ∧ Wd ds ∧ rchk n zs ds = 0 ∧ rq n zs ds = q
theorem PF.later {V V' : World} {B : Nat} {n : Bool} {a : Option Addr} {k c : Nat} {b : Option Addr} {j d : Nat} {q : Rat} (h : PF V B n a k c b j d q) (hb : Below V.heap.size V V') : PF V' B n a k c b j d q := by
  obtain ⟨zs, ds, h1, h2, h3, h4, h5⟩ := h
  exact ⟨zs, ds, h1, h2, owns_later h3 hb, owns_later h4 hb, h5⟩
theorem dw_pos {V : World} {n : Bool} {a : Option Addr} {k c : Nat} {s : Int} (h : DW V n a k c s) (hs : 0 < s) : ∃ xs : List Int, k = xs.length ∧ V.ownsRow 0 66 1 (.slice a k c) k (xs.map (Value.int .u32)) ∧ Wd xs ∧ Trimmed xs ∧ val xs = s := by
  obtain ⟨xs, h1, h2, hw, ht, hn, hv⟩ := h
  refine ⟨xs, h1, h2, hw, ht, ?_⟩
  have h0 := val_nonneg hw
  unfold wval at hv
  cases n
  · simpa using hv
  · simp at hv; omega
theorem dPart {V : World} {n m : Bool} {a b : Option Addr} {k c j d : Nat} {t s : Int} (h : DW V n a k c t) (g : DW V m b j d s) (hs : 0 < s) (lk : k ≤ 2048) (lj : j ≤ 2048) (B : Nat) (hB : B ≤ V.heap.size) :
    Calls Tryz.prog 34 #[.agg #[.bool n, .slice a k c], .agg #[.bool m, .slice b j d]] V fun e V' => ∃ a' k' c' b' j' d', e = .returned (.agg #[.bool n, .slice a' k' c', .slice b' j' d']) ∧ PF V' B n a' k' c' b' j' d' (Rat.divInt t s) ∧ Below V.heap.size V V' := by
  obtain ⟨ys, rfl, o2, w2, t2, v2⟩ := dw_pos g hs
  obtain ⟨xs, rfl, o1, w1, t1, s1, rfl⟩ := h
  have s1' : n = false ∨ 0 < val xs := s1.imp id fun q => val_pos' w1 t1 q
  refine Calls.mono (ppart_any n m _ _ xs ys V (Sl.own o1 w1) (Sl.own o2 w2) (by omega) (by omega) t1 t2 (by omega)) ?_
  rintro e V' ⟨u, zs, v, ds, rfl, o3, o4, w3, w4, t3, t4, e1, e2, hb⟩
  obtain ⟨a', c', rfl⟩ := own_slice' o3
  obtain ⟨b', d', rfl⟩ := own_slice' o4
  have q := ppt_good (n := n) w1 w2 w3 w4 t3 t4 t1 s1' (by omega) lk lj e1 e2
  rw [v2] at q
  exact ⟨a', zs.length, c', b', ds.length, d', rfl, ⟨zs, ds, rfl, rfl, owns_base o3 hB, owns_base o4 hB, w3, w4, q.1, q.2⟩, hb⟩
/-- What the document's Power tells: a complex fraction in its one form, in new memory. -/
def PGt (w : World) (q1 q2 : Rat) (x : Ending) (w' : World) : Prop := ∃ r : G6, x = .returned (.tuple #[.agg #[.bool r.n, .slice r.a r.xs.length r.ca, .slice r.b r.ys.length r.cb, .bool r.m, .slice r.c r.us.length r.cc, .slice r.d r.vs.length r.cd], .int .i64 0]) ∧ Hid (r.Ow w' w.heap.size) ∧ Hid (r.Is q1 q2) ∧ Hid (Below w.heap.size w w')
/-- The operations of the statement. -/
def pw_region20_ops : Array Oper := #[{ dst := some 81, op := Op.load 59 (Operand.tmp 10), type := 59, pos := "ref.go:77", after := #[], guard := none }, { dst := some 82, op := Op.load 59 (Operand.tmp 12), type := 59, pos := "ref.go:77", after := #[], guard := none }, { dst := some 83, op := Op.call { callee := Callee.value (Operand.func 34), args := #[Operand.tmp 81, Operand.tmp 82], argTypes := #[59, 59] }, type := 26, pos := "ref.go:77", after := #[{ on := 0, ground := Ground.data }, { on := 1, ground := Ground.data }], guard := none }, { dst := some 84, op := Op.load 59 (Operand.tmp 11), type := 59, pos := "ref.go:77", after := #[], guard := none }, { dst := some 85, op := Op.load 59 (Operand.tmp 12), type := 59, pos := "ref.go:77", after := #[], guard := none }, { dst := some 86, op := Op.call { callee := Callee.value (Operand.func 34), args := #[Operand.tmp 84, Operand.tmp 85], argTypes := #[59, 59] }, type := 26, pos := "ref.go:77", after := #[{ on := 3, ground := Ground.data }, { on := 4, ground := Ground.data }, { on := 2, ground := Ground.chain }], guard := none }, { dst := some 87, op := Op.build 28 #[(0, Operand.tmp 83), (1, Operand.tmp 86)], type := 28, pos := "ref.go:77", after := #[{ on := 2, ground := Ground.data }, { on := 5, ground := Ground.data }], guard := none }, { dst := none, op := Op.store 28 (Operand.tmp 4) (Operand.tmp 87), type := 0, pos := "ref.go:77", after := #[{ on := 6, ground := Ground.data }, { on := 5, ground := Ground.chain }, { on := 0, ground := Ground.phase }, { on := 1, ground := Ground.phase }, { on := 2, ground := Ground.phase }, { on := 3, ground := Ground.phase }, { on := 4, ground := Ground.phase }, { on := 5, ground := Ground.phase }, { on := 6, ground := Ground.phase }], guard := none }, { dst := some 5, op := Op.assign (Operand.const (Value.int IntKind.i64 0)), type := 29, pos := "ref.go:77", after := #[{ on := 7, ground := Ground.chain }, { on := 0, ground := Ground.phase }, { on := 1, ground := Ground.phase }, { on := 2, ground := Ground.phase }, { on := 3, ground := Ground.phase }, { on := 4, ground := Ground.phase }, { on := 5, ground := Ground.phase }, { on := 6, ground := Ground.phase }, { on := 7, ground := Ground.phase }], guard := none }]
set_option maxHeartbeats 6400000 in
set_option maxRecDepth 100000 in
theorem pw_region20 (X : World) (B b4 : Nat) (b10 : Nat) (n10 : Bool) (a10 : Option Addr) (k10 c10 : Nat) (z10 : Int) (HB10 : Hid (Box X b10 59 #[.bool n10, .slice a10 k10 c10])) (HD10 : Hid (DW X n10 a10 k10 c10 z10)) (L10 : Hid (k10 ≤ 2048)) (N10 : Hid (b10 ≠ b4)) (b11 : Nat) (n11 : Bool) (a11 : Option Addr) (k11 c11 : Nat) (z11 : Int) (HB11 : Hid (Box X b11 59 #[.bool n11, .slice a11 k11 c11])) (HD11 : Hid (DW X n11 a11 k11 c11 z11)) (L11 : Hid (k11 ≤ 2048)) (N11 : Hid (b11 ≠ b4)) (b12 : Nat) (n12 : Bool) (a12 : Option Addr) (k12 c12 : Nat) (z12 : Int) (HB12 : Hid (Box X b12 59 #[.bool n12, .slice a12 k12 c12])) (HD12 : Hid (DW X n12 a12 k12 c12 z12)) (L12 : Hid (k12 ≤ 2048)) (N12 : Hid (b12 ≠ b4)) (HG : Hid (Box X b4 28 #[.bool false, .slice none 0 0, .slice none 0 0, .bool false, .slice none 0 0, .slice none 0 0])) (HZ : Hid (0 < z12)) (HBX : Hid (B ≤ X.heap.size)) (t0 t1 t2 t3 t5 t6 t7 t8 t9 t13 t14 t15 t16 t17 t18 t19 t20 t21 t22 t23 t24 t25 t26 t27 t28 t29 t30 t31 t32 t33 t34 t35 t36 t37 t38 t39 t40 t41 t42 t43 t44 t45 t46 t47 t48 t49 t50 t51 t52 t53 t54 t55 t56 t57 t58 t59 t60 t61 t62 t63 t64 t65 t66 t67 t68 t69 t70 t71 t72 t73 t74 t75 t76 t77 t78 t79 t80 t81 t82 t83 t84 t85 t86 t87 : Value) (rest : List Value) (Q : Exit → Act → World → Prop)
    (hQ : ∀ (e1 : Option Addr) (j1 : Nat) (d1 : Nat) (g1 : Option Addr) (i1 : Nat) (h1 : Nat) (e2 : Option Addr) (j2 : Nat) (d2 : Nat) (g2 : Option Addr) (i2 : Nat) (h2 : Nat) (u81 : Value) (u82 : Value) (u83 : Value) (u84 : Value) (u85 : Value) (u86 : Value) (u87 : Value) (F : World), Hid (Box F b4 28 #[.bool n10, .slice e1 j1 d1, .slice g1 i1 h1, .bool n11, .slice e2 j2 d2, .slice g2 i2 h2] ∧ PF F B n10 e1 j1 d1 g1 i1 h1 (Rat.divInt z10 z12) ∧ PF F B n11 e2 j2 d2 g2 i2 h2 (Rat.divInt z11 z12) ∧ (∀ C x, C ≤ b4 → C ≤ X.heap.size → Below C x X → Below C x F)) → Q .normal { tmps := (List.toArray (t0 :: t1 :: t2 :: t3 :: (.pointer (some ⟨b4, 0, none⟩)) :: (.int .i64 0) :: t6 :: t7 :: t8 :: t9 :: (.pointer (some ⟨b10, 0, none⟩)) :: (.pointer (some ⟨b11, 0, none⟩)) :: (.pointer (some ⟨b12, 0, none⟩)) :: t13 :: t14 :: t15 :: t16 :: t17 :: t18 :: t19 :: t20 :: t21 :: t22 :: t23 :: t24 :: t25 :: t26 :: t27 :: t28 :: t29 :: t30 :: t31 :: t32 :: t33 :: t34 :: t35 :: t36 :: t37 :: t38 :: t39 :: t40 :: t41 :: t42 :: t43 :: t44 :: t45 :: t46 :: t47 :: t48 :: t49 :: t50 :: t51 :: t52 :: t53 :: t54 :: t55 :: t56 :: t57 :: t58 :: t59 :: t60 :: t61 :: t62 :: t63 :: t64 :: t65 :: t66 :: t67 :: t68 :: t69 :: t70 :: t71 :: t72 :: t73 :: t74 :: t75 :: t76 :: t77 :: t78 :: t79 :: t80 :: u81 :: u82 :: u83 :: u84 :: u85 :: u86 :: u87 :: rest)), defers := [] } F) :
    Code.wp Tryz.prog (Code.region 20 pw_region20_ops true) Q { tmps := (List.toArray (t0 :: t1 :: t2 :: t3 :: (.pointer (some ⟨b4, 0, none⟩)) :: t5 :: t6 :: t7 :: t8 :: t9 :: (.pointer (some ⟨b10, 0, none⟩)) :: (.pointer (some ⟨b11, 0, none⟩)) :: (.pointer (some ⟨b12, 0, none⟩)) :: t13 :: t14 :: t15 :: t16 :: t17 :: t18 :: t19 :: t20 :: t21 :: t22 :: t23 :: t24 :: t25 :: t26 :: t27 :: t28 :: t29 :: t30 :: t31 :: t32 :: t33 :: t34 :: t35 :: t36 :: t37 :: t38 :: t39 :: t40 :: t41 :: t42 :: t43 :: t44 :: t45 :: t46 :: t47 :: t48 :: t49 :: t50 :: t51 :: t52 :: t53 :: t54 :: t55 :: t56 :: t57 :: t58 :: t59 :: t60 :: t61 :: t62 :: t63 :: t64 :: t65 :: t66 :: t67 :: t68 :: t69 :: t70 :: t71 :: t72 :: t73 :: t74 :: t75 :: t76 :: t77 :: t78 :: t79 :: t80 :: t81 :: t82 :: t83 :: t84 :: t85 :: t86 :: t87 :: rest)), defers := [] } X := by
  have HQ := hid hQ
  clear hQ
  have HK : Hid (∀ V, Below X.heap.size X V → V.cell? ⟨b10, 0, none⟩ = some (.bool n10) ∧ V.cell? ⟨b10, 1, none⟩ = some (.slice a10 k10 c10) ∧ V.cell? ⟨b11, 0, none⟩ = some (.bool n11) ∧ V.cell? ⟨b11, 1, none⟩ = some (.slice a11 k11 c11) ∧ V.cell? ⟨b12, 0, none⟩ = some (.bool n12) ∧ V.cell? ⟨b12, 1, none⟩ = some (.slice a12 k12 c12)) := fun V hb => by
    obtain ⟨p10, q10, _, _⟩ := res_box HB10.out hb
    obtain ⟨p11, q11, _, _⟩ := res_box HB11.out hb
    obtain ⟨p12, q12, _, _⟩ := res_box HB12.out hb
    exact ⟨p10, q10, p11, q11, p12, q12⟩
  have F_2_5 : Hid (∀ listed, listed = #[true, true, true, true, true, true, true, false, false] → ∀ (V : World) (e1 : Option Addr) (j1 : Nat) (d1 : Nat) (g1 : Option Addr) (i1 : Nat) (h1 : Nat) (e2 : Option Addr) (j2 : Nat) (d2 : Nat) (g2 : Option Addr) (i2 : Nat) (h2 : Nat), Hid ((Below X.heap.size X V) ∧ (PF V B n10 e1 j1 d1 g1 i1 h1 (Rat.divInt z10 z12)) ∧ (PF V B n11 e2 j2 d2 g2 i2 h2 (Rat.divInt z11 z12))) → wpAnyH Tryz.prog .any pw_region20_ops (NoPanic Q) (fun V : World => V.cell? ⟨b10, 0, none⟩ = some (.bool n10) ∧ V.cell? ⟨b10, 1, none⟩ = some (.slice a10 k10 c10) ∧ V.cell? ⟨b11, 0, none⟩ = some (.bool n11) ∧ V.cell? ⟨b11, 1, none⟩ = some (.slice a11 k11 c11) ∧ V.cell? ⟨b12, 0, none⟩ = some (.bool n12) ∧ V.cell? ⟨b12, 1, none⟩ = some (.slice a12 k12 c12)) 2 listed { tmps := (List.toArray (t0 :: t1 :: t2 :: t3 :: (.pointer (some ⟨b4, 0, none⟩)) :: t5 :: t6 :: t7 :: t8 :: t9 :: (.pointer (some ⟨b10, 0, none⟩)) :: (.pointer (some ⟨b11, 0, none⟩)) :: (.pointer (some ⟨b12, 0, none⟩)) :: t13 :: t14 :: t15 :: t16 :: t17 :: t18 :: t19 :: t20 :: t21 :: t22 :: t23 :: t24 :: t25 :: t26 :: t27 :: t28 :: t29 :: t30 :: t31 :: t32 :: t33 :: t34 :: t35 :: t36 :: t37 :: t38 :: t39 :: t40 :: t41 :: t42 :: t43 :: t44 :: t45 :: t46 :: t47 :: t48 :: t49 :: t50 :: t51 :: t52 :: t53 :: t54 :: t55 :: t56 :: t57 :: t58 :: t59 :: t60 :: t61 :: t62 :: t63 :: t64 :: t65 :: t66 :: t67 :: t68 :: t69 :: t70 :: t71 :: t72 :: t73 :: t74 :: t75 :: t76 :: t77 :: t78 :: t79 :: t80 :: (.agg #[.bool n10, .slice a10 k10 c10]) :: (.agg #[.bool n12, .slice a12 k12 c12]) :: (.agg #[.bool n10, .slice e1 j1 d1, .slice g1 i1 h1]) :: (.agg #[.bool n11, .slice a11 k11 c11]) :: (.agg #[.bool n12, .slice a12 k12 c12]) :: (.agg #[.bool n11, .slice e2 j2 d2, .slice g2 i2 h2]) :: (.agg #[.bool n10, .slice e1 j1 d1, .slice g1 i1 h1, .bool n11, .slice e2 j2 d2, .slice g2 i2 h2]) :: rest)), defers := [] } V) := by
    rintro _ rfl V e1 j1 d1 g1 i1 h1 e2 j2 d2 g2 i2 h2 HR
    have HBL := hid HR.out.1
    have HP1 := hid HR.out.2.1
    have HP2 := hid HR.out.2.2
    clear HR
    obtain ⟨A0, A1, A2, A3, A4, A5, x0, x1, x2, x3, x4, x5, ⟨y0, y1, y2, y3, y4, y5⟩, ⟨f0, f1, f2, f3, f4, f5⟩, HA⟩ := rchain6 (HG.out.later HBL.out HG.out.lt) (by decide) (.bool n10) (.slice e1 j1 d1) (.slice g1 i1 h1) (.bool n11) (.slice e2 j2 d2) (.slice g2 i2 h2)
    have HC : Hid (A5.cell? ⟨b10, 0, none⟩ = some (.bool n10) ∧ A5.cell? ⟨b10, 1, none⟩ = some (.slice a10 k10 c10) ∧ A5.cell? ⟨b11, 0, none⟩ = some (.bool n11) ∧ A5.cell? ⟨b11, 1, none⟩ = some (.slice a11 k11 c11) ∧ A5.cell? ⟨b12, 0, none⟩ = some (.bool n12) ∧ A5.cell? ⟨b12, 1, none⟩ = some (.slice a12 k12 c12)) := by
      have g10 := HA.out.2.1 _ _ _ N10.out (HB10.out.later HBL.out HB10.out.lt)
      have g11 := HA.out.2.1 _ _ _ N11.out (HB11.out.later HBL.out HB11.out.lt)
      have g12 := HA.out.2.1 _ _ _ N12.out (HB12.out.later HBL.out HB12.out.lt)
      exact ⟨g10.cell 0, g10.cell 1, g11.cell 0, g11.cell 1, g12.cell 0, g12.cell 1⟩
    have HU : Hid (Box A5 b4 28 #[.bool n10, .slice e1 j1 d1, .slice g1 i1 h1, .bool n11, .slice e2 j2 d2, .slice g2 i2 h2] ∧ PF A5 B n10 e1 j1 d1 g1 i1 h1 (Rat.divInt z10 z12) ∧ PF A5 B n11 e2 j2 d2 g2 i2 h2 (Rat.divInt z11 z12) ∧ (∀ C x, C ≤ b4 → C ≤ X.heap.size → Below C x X → Below C x A5)) := by
      obtain ⟨zs, ds, r1, r2, r3, r4, r5⟩ := HP1.out
      obtain ⟨zs2, ds2, g1', g2', g3', g4', g5'⟩ := HP2.out
      exact ⟨HA.out.1, ⟨zs, ds, r1, r2, HA.out.2.2.1 _ _ _ _ r3, HA.out.2.2.1 _ _ _ _ r4, r5⟩, ⟨zs2, ds2, g1', g2', HA.out.2.2.1 _ _ _ _ g3', HA.out.2.2.1 _ _ _ _ g4', g5'⟩, fun C x s1 s2 s => HA.out.2.2.2.1 _ _ s1 (s.trans (HBL.out.mono s2))⟩
    refine wpAnyH_ready (rs := [7]) (by kernel_rfl) (by simp) ?_
    refine AllReadyH.cons (o := { dst := none, op := Op.store 28 (Operand.tmp 4) (Operand.tmp 87), type := 0, pos := "ref.go:77", after := #[{ on := 6, ground := Ground.data }, { on := 5, ground := Ground.chain }, { on := 0, ground := Ground.phase }, { on := 1, ground := Ground.phase }, { on := 2, ground := Ground.phase }, { on := 3, ground := Ground.phase }, { on := 4, ground := Ground.phase }, { on := 5, ground := Ground.phase }, { on := 6, ground := Ground.phase }], guard := none }) rfl (fun K hK => ?_) AllReadyH.nil
    go_simp
    refine hK.out _ _ ?_ (fun hHeld => ?_)
    · exact HC.out
    clear hK K
    try simp only [List.setIfInBounds_toArray, List.set_cons_zero, List.set_cons_succ]
    refine wpAnyH_ready (rs := [8]) (by kernel_rfl) (by simp) ?_
    refine AllReadyH.cons (o := { dst := some 5, op := Op.assign (Operand.const (Value.int IntKind.i64 0)), type := 29, pos := "ref.go:77", after := #[{ on := 7, ground := Ground.chain }, { on := 0, ground := Ground.phase }, { on := 1, ground := Ground.phase }, { on := 2, ground := Ground.phase }, { on := 3, ground := Ground.phase }, { on := 4, ground := Ground.phase }, { on := 5, ground := Ground.phase }, { on := 6, ground := Ground.phase }, { on := 7, ground := Ground.phase }], guard := none }) rfl (fun K hK => ?_) AllReadyH.nil
    go_simp
    refine hK.out _ _ ?_ (fun hHeld => ?_)
    · exact HC.out
    clear hK K
    try simp only [List.setIfInBounds_toArray, List.set_cons_zero, List.set_cons_succ]
    refine wpAnyH_done (by kernel_rfl) ?_ _
    refine NoPanic.normal ?_
    exact HQ.out e1 j1 d1 g1 i1 h1 e2 j2 d2 g2 i2 h2 _ _ _ _ _ _ _ _ HU
  have F_2 : Hid (∀ listed, listed = #[true, true, true, true, true, false, false, false, false] → ∀ (V : World) (e1 : Option Addr) (j1 : Nat) (d1 : Nat) (g1 : Option Addr) (i1 : Nat) (h1 : Nat), Hid ((Below X.heap.size X V) ∧ (PF V B n10 e1 j1 d1 g1 i1 h1 (Rat.divInt z10 z12))) → wpAnyH Tryz.prog .any pw_region20_ops (NoPanic Q) (fun V : World => V.cell? ⟨b10, 0, none⟩ = some (.bool n10) ∧ V.cell? ⟨b10, 1, none⟩ = some (.slice a10 k10 c10) ∧ V.cell? ⟨b11, 0, none⟩ = some (.bool n11) ∧ V.cell? ⟨b11, 1, none⟩ = some (.slice a11 k11 c11) ∧ V.cell? ⟨b12, 0, none⟩ = some (.bool n12) ∧ V.cell? ⟨b12, 1, none⟩ = some (.slice a12 k12 c12)) 4 listed { tmps := (List.toArray (t0 :: t1 :: t2 :: t3 :: (.pointer (some ⟨b4, 0, none⟩)) :: t5 :: t6 :: t7 :: t8 :: t9 :: (.pointer (some ⟨b10, 0, none⟩)) :: (.pointer (some ⟨b11, 0, none⟩)) :: (.pointer (some ⟨b12, 0, none⟩)) :: t13 :: t14 :: t15 :: t16 :: t17 :: t18 :: t19 :: t20 :: t21 :: t22 :: t23 :: t24 :: t25 :: t26 :: t27 :: t28 :: t29 :: t30 :: t31 :: t32 :: t33 :: t34 :: t35 :: t36 :: t37 :: t38 :: t39 :: t40 :: t41 :: t42 :: t43 :: t44 :: t45 :: t46 :: t47 :: t48 :: t49 :: t50 :: t51 :: t52 :: t53 :: t54 :: t55 :: t56 :: t57 :: t58 :: t59 :: t60 :: t61 :: t62 :: t63 :: t64 :: t65 :: t66 :: t67 :: t68 :: t69 :: t70 :: t71 :: t72 :: t73 :: t74 :: t75 :: t76 :: t77 :: t78 :: t79 :: t80 :: (.agg #[.bool n10, .slice a10 k10 c10]) :: (.agg #[.bool n12, .slice a12 k12 c12]) :: (.agg #[.bool n10, .slice e1 j1 d1, .slice g1 i1 h1]) :: (.agg #[.bool n11, .slice a11 k11 c11]) :: (.agg #[.bool n12, .slice a12 k12 c12]) :: t86 :: t87 :: rest)), defers := [] } V) := by
    rintro _ rfl V e1 j1 d1 g1 i1 h1 HR
    refine wpAnyH_ready (rs := [5]) (by kernel_rfl) (by simp) ?_
    refine AllReadyH.cons (o := { dst := some 86, op := Op.call { callee := Callee.value (Operand.func 34), args := #[Operand.tmp 84, Operand.tmp 85], argTypes := #[59, 59] }, type := 26, pos := "ref.go:77", after := #[{ on := 3, ground := Ground.data }, { on := 4, ground := Ground.data }, { on := 2, ground := Ground.chain }], guard := none }) rfl (fun K hK => ?_) ?_
    · go_simp
      refine Calls.mono (dPart (HD11.out.later HR.out.1) (HD12.out.later HR.out.1) HZ.out L11.out L12.out B (Nat.le_trans HBX.out (HR.out.1).size)) ?_
      rintro e V' ⟨e2, j2, d2, g2, i2, h2, rfl, new, hb⟩
      dsimp only
      have HB2 := hid (bt HR.out.1 hb)
      refine hK.out _ _ ?_ (fun hHeld => ?_)
      · exact HK.out _ HB2.out
      clear hK K
      try simp only [List.setIfInBounds_toArray, List.set_cons_zero, List.set_cons_succ]
      refine wpAnyH_take (i := 6) (oi := { dst := some 87, op := Op.build 28 #[(0, Operand.tmp 83), (1, Operand.tmp 86)], type := 28, pos := "ref.go:77", after := #[{ on := 2, ground := Ground.data }, { on := 5, ground := Ground.data }], guard := none }) (v := ?_) rfl (by kernel_rfl) (by kernel_rfl) (by kernel_rfl) (fun _ _ _ h => h) (Or.inl ⟨by rfl, ?_⟩) (by assumption) ?_
      rotate_left 1
      · intro V hSw
        go_simp
        try with_reducible rfl
      try simp only [Act.put, List.setIfInBounds_toArray, List.set_cons_zero, List.set_cons_succ]
      exact F_2_5.out _ (by kernel_rfl) _ e1 j1 d1 g1 i1 h1 e2 j2 d2 g2 i2 h2 (hid ⟨HB2.out, (HR.out.2).later hb, new⟩)
    exact AllReadyH.nil
  have F : Hid (∀ listed, listed = #[true, true, false, true, true, false, false, false, false] → ∀ (V : World) , Hid ((Below X.heap.size X V)) → wpAnyH Tryz.prog .any pw_region20_ops (NoPanic Q) (fun V : World => V.cell? ⟨b10, 0, none⟩ = some (.bool n10) ∧ V.cell? ⟨b10, 1, none⟩ = some (.slice a10 k10 c10) ∧ V.cell? ⟨b11, 0, none⟩ = some (.bool n11) ∧ V.cell? ⟨b11, 1, none⟩ = some (.slice a11 k11 c11) ∧ V.cell? ⟨b12, 0, none⟩ = some (.bool n12) ∧ V.cell? ⟨b12, 1, none⟩ = some (.slice a12 k12 c12)) 5 listed { tmps := (List.toArray (t0 :: t1 :: t2 :: t3 :: (.pointer (some ⟨b4, 0, none⟩)) :: t5 :: t6 :: t7 :: t8 :: t9 :: (.pointer (some ⟨b10, 0, none⟩)) :: (.pointer (some ⟨b11, 0, none⟩)) :: (.pointer (some ⟨b12, 0, none⟩)) :: t13 :: t14 :: t15 :: t16 :: t17 :: t18 :: t19 :: t20 :: t21 :: t22 :: t23 :: t24 :: t25 :: t26 :: t27 :: t28 :: t29 :: t30 :: t31 :: t32 :: t33 :: t34 :: t35 :: t36 :: t37 :: t38 :: t39 :: t40 :: t41 :: t42 :: t43 :: t44 :: t45 :: t46 :: t47 :: t48 :: t49 :: t50 :: t51 :: t52 :: t53 :: t54 :: t55 :: t56 :: t57 :: t58 :: t59 :: t60 :: t61 :: t62 :: t63 :: t64 :: t65 :: t66 :: t67 :: t68 :: t69 :: t70 :: t71 :: t72 :: t73 :: t74 :: t75 :: t76 :: t77 :: t78 :: t79 :: t80 :: (.agg #[.bool n10, .slice a10 k10 c10]) :: (.agg #[.bool n12, .slice a12 k12 c12]) :: t83 :: (.agg #[.bool n11, .slice a11 k11 c11]) :: (.agg #[.bool n12, .slice a12 k12 c12]) :: t86 :: t87 :: rest)), defers := [] } V) := by
    rintro _ rfl V  HR
    refine wpAnyH_ready (rs := [2]) (by kernel_rfl) (by simp) ?_
    refine AllReadyH.cons (o := { dst := some 83, op := Op.call { callee := Callee.value (Operand.func 34), args := #[Operand.tmp 81, Operand.tmp 82], argTypes := #[59, 59] }, type := 26, pos := "ref.go:77", after := #[{ on := 0, ground := Ground.data }, { on := 1, ground := Ground.data }], guard := none }) rfl (fun K hK => ?_) ?_
    · go_simp
      refine Calls.mono (dPart (HD10.out.later HR.out) (HD12.out.later HR.out) HZ.out L10.out L12.out B (Nat.le_trans HBX.out (HR.out).size)) ?_
      rintro e V' ⟨e1, j1, d1, g1, i1, h1, rfl, new, hb⟩
      dsimp only
      have HB2 := hid (bt HR.out hb)
      refine hK.out _ _ ?_ (fun hHeld => ?_)
      · exact HK.out _ HB2.out
      clear hK K
      try simp only [List.setIfInBounds_toArray, List.set_cons_zero, List.set_cons_succ]
      exact F_2.out _ (by kernel_rfl) _ e1 j1 d1 g1 i1 h1 (hid ⟨HB2.out, new⟩)
    exact AllReadyH.nil
  refine wp_region_noPanic ?_
  refine wp_region_held_drew (S := (fun V : World => V.cell? ⟨b10, 0, none⟩ = some (.bool n10) ∧ V.cell? ⟨b10, 1, none⟩ = some (.slice a10 k10 c10) ∧ V.cell? ⟨b11, 0, none⟩ = some (.bool n11) ∧ V.cell? ⟨b11, 1, none⟩ = some (.slice a11 k11 c11) ∧ V.cell? ⟨b12, 0, none⟩ = some (.bool n12) ∧ V.cell? ⟨b12, 1, none⟩ = some (.slice a12 k12 c12))) (by kernel_rfl) ?_ (fun hHeld => ?_)
  · exact HK.out _ (Below.drew (Below.refl _ X))
  refine wpAnyH_take (i := 0) (oi := { dst := some 81, op := Op.load 59 (Operand.tmp 10), type := 59, pos := "ref.go:77", after := #[], guard := none }) (v := ?_) rfl (by kernel_rfl) (by kernel_rfl) (by kernel_rfl) (fun _ _ _ h => h) (Or.inl ⟨by rfl, ?_⟩) (by assumption) ?_
  rotate_left 1
  · intro V hSw
    obtain ⟨p10, q10, p11, q11, p12, q12⟩ := hSw
    go_simp
    try with_reducible rfl
  try simp only [Act.put, List.setIfInBounds_toArray, List.set_cons_zero, List.set_cons_succ]
  refine wpAnyH_take (i := 1) (oi := { dst := some 82, op := Op.load 59 (Operand.tmp 12), type := 59, pos := "ref.go:77", after := #[], guard := none }) (v := ?_) rfl (by kernel_rfl) (by kernel_rfl) (by kernel_rfl) (fun _ _ _ h => h) (Or.inl ⟨by rfl, ?_⟩) (by assumption) ?_
  rotate_left 1
  · intro V hSw
    obtain ⟨p10, q10, p11, q11, p12, q12⟩ := hSw
    go_simp
    try with_reducible rfl
  try simp only [Act.put, List.setIfInBounds_toArray, List.set_cons_zero, List.set_cons_succ]
  refine wpAnyH_take (i := 3) (oi := { dst := some 84, op := Op.load 59 (Operand.tmp 11), type := 59, pos := "ref.go:77", after := #[], guard := none }) (v := ?_) rfl (by kernel_rfl) (by kernel_rfl) (by kernel_rfl) (fun _ _ _ h => h) (Or.inl ⟨by rfl, ?_⟩) (by assumption) ?_
  rotate_left 1
  · intro V hSw
    obtain ⟨p10, q10, p11, q11, p12, q12⟩ := hSw
    go_simp
    try with_reducible rfl
  try simp only [Act.put, List.setIfInBounds_toArray, List.set_cons_zero, List.set_cons_succ]
  refine wpAnyH_take (i := 4) (oi := { dst := some 85, op := Op.load 59 (Operand.tmp 12), type := 59, pos := "ref.go:77", after := #[], guard := none }) (v := ?_) rfl (by kernel_rfl) (by kernel_rfl) (by kernel_rfl) (fun _ _ _ h => h) (Or.inl ⟨by rfl, ?_⟩) (by assumption) ?_
  rotate_left 1
  · intro V hSw
    obtain ⟨p10, q10, p11, q11, p12, q12⟩ := hSw
    go_simp
    try with_reducible rfl
  try simp only [Act.put, List.setIfInBounds_toArray, List.set_cons_zero, List.set_cons_succ]
  exact F.out _ (by kernel_rfl) _ (hid (Below.drew (Below.refl _ X)))
end Go.Proofs.YtcfcjnlobpoglaaGreat

/- package rotor: Conj, half, Order, of every two rotors. -/
namespace Go.Proofs.YtcfcjnlobpoglaaGreat
open Go.RowKit
set_option linter.unusedVariables false

/-- The conjugate, or the fault. -/
def rConj (f n : Int) : Int × Int × Int := if rOK f n then (f, -n, 0) else (0, 0, 150)

set_option maxHeartbeats 1600000 in
set_option maxRecDepth 100000 in
theorem rconj_any (f n : Int) (w : World) (h : in32 f n) :
    Calls Tryz.prog 8 #[.agg #[.int .i32 f, .int .i32 n]] w fun e w' => e = .returned (.tuple #[.agg #[.int .i32 (rConj f n).1, .int .i32 (rConj f n).2.1], .int .i64 (rConj f n).2.2]) ∧ Below w.heap.size w w' := by
  have HX := hid (boxes2 w 23 #[.int .i32 f, .int .i32 n] #[.int .i32 0, .int .i32 0])
  have HC := hid (fun V => ocheck_any f n V h)
  rcases ochk_or f n with ⟨e0, h0⟩ | ⟨e0, h0⟩
  · have hR : rConj f n = (f, -n, 0) := if_pos h0
    rw [hR]
    rw [e0] at HC
    have hn1 : -1000 ≤ n := by have := h0.2.2.2.1; omega
    have hn2 : n ≤ 1000 := by have := h0.2.2.2.1; omega
    obtain ⟨⟨f0, f1⟩, _⟩ := h
    clear h0 hR e0
    go_enter Tryz.func8, Tryz.ntmps8
    go_wp2_with fail
    generalize (w.alloc (.cells #[.int .i32 f, .int .i32 n] 23)).alloc (.cells #[.int .i32 0, .int .i32 0] 23) = X at *
    refine Calls.mono (HC.out X) ?_
    rintro e w1 ⟨rfl, hb1⟩
    obtain ⟨c0, c1, g0, g1⟩ := fbox_facts HX.out.1 hb1
    obtain ⟨c2, c3, g2, g3⟩ := fbox_facts HX.out.2.1 hb1
    have HB := hid (b2 HX.out.2.2 hb1)
    clear HX HC hb1
    go_wp2_with fail
    refine bodyPost_ret (v := .tuple #[.agg #[.int .i32 f, .int .i32 (-n)], .int .i64 0]) (by simp [results, Tryz.results8, go_sem, c2, c3]) rfl ?_
    exact ⟨rfl, fput2 HB.out _ (by omega) _ _⟩
  · have hR : rConj f n = (0, 0, 150) := if_neg h0
    rw [hR]
    rw [e0] at HC
    clear h0 hR e0 h
    go_enter Tryz.func8, Tryz.ntmps8
    go_wp2_with fail
    generalize (w.alloc (.cells #[.int .i32 f, .int .i32 n] 23)).alloc (.cells #[.int .i32 0, .int .i32 0] 23) = X at *
    refine Calls.mono (HC.out X) ?_
    rintro e w1 ⟨rfl, hb1⟩
    obtain ⟨c0, c1, g0, g1⟩ := fbox_facts HX.out.1 hb1
    obtain ⟨c2, c3, g2, g3⟩ := fbox_facts HX.out.2.1 hb1
    have HB := hid (b2 HX.out.2.2 hb1)
    clear HX HC hb1
    go_wp2_with fail
    refine bodyPost_ret (v := .tuple #[.agg #[.int .i32 0, .int .i32 0], .int .i64 150]) (by simp [results, Tryz.results8, go_sem, c2, c3]) rfl ?_
    first | exact ⟨rfl, HB.out⟩ | exact ⟨rfl, fput2 HB.out _ (by omega) _ _⟩

set_option maxHeartbeats 800000 in
set_option maxRecDepth 100000 in
theorem rhalf_any (f n : Int) (w : World) (h : in32 f n) :
    Calls Tryz.prog 36 #[.agg #[.int .i32 f, .int .i32 n]] w fun e w' => e = .returned (.int .i64 (if 0 < n then 0 else 1)) ∧ Below w.heap.size w w' := by
  have HX := hid (boxes1 w 23 #[.int .i32 f, .int .i32 n])
  by_cases h0 : 0 < n
  · rw [if_pos h0]
    go_enter Tryz.func36, Tryz.ntmps36
    go_wp2_with fail
    go_ret
    exact ⟨rfl, HX.out.2⟩
  · rw [if_neg h0]
    go_enter Tryz.func36, Tryz.ntmps36
    go_wp2_with fail
    go_ret
    exact ⟨rfl, HX.out.2⟩
/-- Which one is ahead. -/
def cmpV (x y : Int) : Int := if x < y then -1 else if y < x then 1 else 0

set_option maxHeartbeats 800000 in
set_option maxRecDepth 100000 in
theorem cmpNaNI (x : Int) (w : World) :
    Calls Tryz.prog 63 #[.int .i64 x] w fun e w' => e = .returned (.bool false) ∧ w' = w := by
  go_enter Tryz.func63, Tryz.ntmps63
  go_wp2_with fail
  go_ret
  exact ⟨rfl, rfl⟩

set_option maxHeartbeats 800000 in
set_option maxRecDepth 100000 in
theorem cmpI_any (x y : Int) (w : World) :
    Calls Tryz.prog 35 #[.int .i64 x, .int .i64 y] w fun e w' => e = .returned (.int .i64 (cmpV x y)) ∧ w' = w := by
  have H1 := hid (fun V => cmpNaNI x V)
  have H2 := hid (fun V => cmpNaNI y V)
  unfold cmpV
  by_cases h1 : x < y
  · rw [if_pos h1]
    go_enter Tryz.func35, Tryz.ntmps35
    go_wp2_with fail
    refine Calls.mono (H1.out _) ?_
    rintro e w1 ⟨rfl, rfl⟩
    go_wp2_with fail
    refine Calls.mono (H2.out _) ?_
    rintro e w2 ⟨rfl, rfl⟩
    go_wp2_with fail
    go_ret
    exact ⟨rfl, rfl⟩
  · rw [if_neg h1]
    by_cases h2 : y < x
    · rw [if_pos h2]
      go_enter Tryz.func35, Tryz.ntmps35
      go_wp2_with fail
      refine Calls.mono (H1.out _) ?_
      rintro e w1 ⟨rfl, rfl⟩
      go_wp2_with fail
      refine Calls.mono (H2.out _) ?_
      rintro e w2 ⟨rfl, rfl⟩
      go_wp2_with fail
      go_ret
      exact ⟨rfl, rfl⟩
    · rw [if_neg h2]
      go_enter Tryz.func35, Tryz.ntmps35
      go_wp2_with fail
      refine Calls.mono (H1.out _) ?_
      rintro e w1 ⟨rfl, rfl⟩
      go_wp2_with fail
      refine Calls.mono (H2.out _) ?_
      rintro e w2 ⟨rfl, rfl⟩
      go_wp2_with fail
      go_ret
      exact ⟨rfl, rfl⟩

set_option maxHeartbeats 800000 in
set_option maxRecDepth 100000 in
theorem cmpNaNJ (x : Int) (w : World) :
    Calls Tryz.prog 64 #[.int .i32 x] w fun e w' => e = .returned (.bool false) ∧ w' = w := by
  go_enter Tryz.func64, Tryz.ntmps64
  go_wp2_with fail
  go_ret
  exact ⟨rfl, rfl⟩

set_option maxHeartbeats 800000 in
set_option maxRecDepth 100000 in
theorem cmpJ_any (x y : Int) (w : World) :
    Calls Tryz.prog 37 #[.int .i32 x, .int .i32 y] w fun e w' => e = .returned (.int .i64 (cmpV x y)) ∧ w' = w := by
  have H1 := hid (fun V => cmpNaNJ x V)
  have H2 := hid (fun V => cmpNaNJ y V)
  unfold cmpV
  by_cases h1 : x < y
  · rw [if_pos h1]
    go_enter Tryz.func37, Tryz.ntmps37
    go_wp2_with fail
    refine Calls.mono (H1.out _) ?_
    rintro e w1 ⟨rfl, rfl⟩
    go_wp2_with fail
    refine Calls.mono (H2.out _) ?_
    rintro e w2 ⟨rfl, rfl⟩
    go_wp2_with fail
    go_ret
    exact ⟨rfl, rfl⟩
  · rw [if_neg h1]
    by_cases h2 : y < x
    · rw [if_pos h2]
      go_enter Tryz.func37, Tryz.ntmps37
      go_wp2_with fail
      refine Calls.mono (H1.out _) ?_
      rintro e w1 ⟨rfl, rfl⟩
      go_wp2_with fail
      refine Calls.mono (H2.out _) ?_
      rintro e w2 ⟨rfl, rfl⟩
      go_wp2_with fail
      go_ret
      exact ⟨rfl, rfl⟩
    · rw [if_neg h2]
      go_enter Tryz.func37, Tryz.ntmps37
      go_wp2_with fail
      refine Calls.mono (H1.out _) ?_
      rintro e w1 ⟨rfl, rfl⟩
      go_wp2_with fail
      refine Calls.mono (H2.out _) ?_
      rintro e w2 ⟨rfl, rfl⟩
      go_wp2_with fail
      go_ret
      exact ⟨rfl, rfl⟩

theorem small_mul {x y : Int} (h1 : -1000 ≤ x) (h2 : x ≤ 1000) (h3 : -1000 ≤ y) (h4 : y ≤ 1000) : -1000000 ≤ x * y ∧ x * y ≤ 1000000 := by
  have a1 := Int.mul_nonneg (show 0 ≤ 1000 - x by omega) (show 0 ≤ 1000 - y by omega)
  have a2 := Int.mul_nonneg (show 0 ≤ 1000 + x by omega) (show 0 ≤ 1000 + y by omega)
  have a3 := Int.mul_nonneg (show 0 ≤ 1000 - x by omega) (show 0 ≤ 1000 + y by omega)
  have a4 := Int.mul_nonneg (show 0 ≤ 1000 + x by omega) (show 0 ≤ 1000 - y by omega)
  constructor <;> grind
/-- How two rotors stand on the way round, or the first fault. -/
def rOrd (f n g m : Int) : Int × Int := if rOK f n then (if rOK g m then (if cmpV (if 0 < n then 0 else 1) (if 0 < m then 0 else 1) = 0 then (cmpV (n * g) (m * f), 0) else (cmpV (if 0 < n then 0 else 1) (if 0 < m then 0 else 1), 0)) else (0, 150)) else (0, 150)

set_option maxHeartbeats 1600000 in
set_option maxRecDepth 100000 in
theorem rorder_any (f n g m : Int) (w : World) (h : in32 f n) (k : in32 g m) :
    Calls Tryz.prog 12 #[.agg #[.int .i32 f, .int .i32 n], .agg #[.int .i32 g, .int .i32 m]] w fun e w' => e = .returned (.tuple #[.int .i64 (rOrd f n g m).1, .int .i64 (rOrd f n g m).2]) ∧ Below w.heap.size w w' := by
  have HX := hid (boxes2 w 23 #[.int .i32 f, .int .i32 n] #[.int .i32 g, .int .i32 m])
  have HC1 := hid (fun V => ocheck_any f n V h)
  have HC2 := hid (fun V => ocheck_any g m V k)
  have HH1 := hid (fun V => rhalf_any f n V h)
  have HH2 := hid (fun V => rhalf_any g m V k)
  rcases ochk_or f n with ⟨e0, h0⟩ | ⟨e0, h0⟩
  · rcases ochk_or g m with ⟨e1, h1⟩ | ⟨e1, h1⟩
    · have hR : rOrd f n g m = (if cmpV (if 0 < n then 0 else 1) (if 0 < m then 0 else 1) = 0 then (cmpV (n * g) (m * f), 0) else (cmpV (if 0 < n then 0 else 1) (if 0 < m then 0 else 1), 0)) := by unfold rOrd; rw [if_pos h0, if_pos h1]
      rw [hR]
      rw [e0] at HC1
      rw [e1] at HC2
      have HV1 := hid (fun V => cmpI_any (if 0 < n then 0 else 1) (if 0 < m then 0 else 1) V)
      have HV2 := hid (fun V => cmpJ_any (n * g) (m * f) V)
      generalize (if 0 < n then (0 : Int) else 1) = a at *
      generalize (if 0 < m then (0 : Int) else 1) = b at *
      generalize cmpV a b = c at *
      generalize hc2 : cmpV (n * g) (m * f) = c2 at *
      clear hc2 hR e0 e1
      obtain ⟨A, hA⟩ : ∃ A : Int × Int, (if c = 0 then (c2, (0 : Int)) else (c, 0)) = A := ⟨_, rfl⟩
      have HA0 : Hid (c = 0 → A = (c2, 0)) := fun h => by rw [← hA, if_pos h]
      have HA1 : Hid (¬ c = 0 → A = (c, 0)) := fun h => by rw [← hA, if_neg h]
      rw [hA]
      clear hA
      obtain ⟨p1, p2, p3, p4, p5, _⟩ := h0
      obtain ⟨q1, q2, q3, q4, q5, _⟩ := h1
      have hn : -1000000 ≤ n * g ∧ n * g ≤ 1000000 := small_mul (by omega) (by omega) (by omega) (by omega)
      have hm : -1000000 ≤ m * f ∧ m * f ≤ 1000000 := small_mul (by omega) (by omega) (by omega) (by omega)
      clear p1 p2 p3 p4 p5 q1 q2 q3 q4 q5 h k
      go_enter Tryz.func12, Tryz.ntmps12
      go_wp2_with fail
      generalize (w.alloc (.cells #[.int .i32 f, .int .i32 n] 23)).alloc (.cells #[.int .i32 g, .int .i32 m] 23) = X at *
      refine Calls.mono (HC1.out X) ?_
      rintro e w1 ⟨rfl, hb1⟩
      obtain ⟨c0, c1, g0, g1⟩ := fbox_facts HX.out.1 hb1
      obtain ⟨c2', c3, g2, g3⟩ := fbox_facts HX.out.2.1 hb1
      go_wp2_with fail
      refine Calls.mono (HC2.out _) ?_
      rintro e w2 ⟨rfl, hb2⟩
      clear c0 c1 g0 g1 c2' c3 g2 g3
      go_wp2_with fail
      have HF : Hid (∀ V, Below w2.heap.size w2 V → (V.cell? ⟨w.heap.size, 0, none⟩ = some (.int .i32 f) ∧ V.cell? ⟨w.heap.size, 1, none⟩ = some (.int .i32 n) ∧ V.cell? ⟨w.heap.size + 1, 0, none⟩ = some (.int .i32 g) ∧ V.cell? ⟨w.heap.size + 1, 1, none⟩ = some (.int .i32 m))) := fun V hv => by
        obtain ⟨a0, a1, _, _⟩ := fbox_facts HX.out.1 (b2 (b2 hb1 hb2) hv)
        obtain ⟨b0, b1, _, _⟩ := fbox_facts HX.out.2.1 (b2 (b2 hb1 hb2) hv)
        exact ⟨a0, a1, b0, b1⟩
      have HB := hid (b2 HX.out.2.2 (b2 hb1 hb2))
      clear HX hb1 hb2 HC1 HC2
      have hs0 := HF.out _ (Below.refl _ w2).drew
      have hd0 := hid (Below.refl w2.heap.size w2).drew
      have H1 : Hid (∀ ww, Below w2.heap.size w2 ww → Calls Tryz.prog 36 #[.agg #[.int .i32 f, .int .i32 n]] ww fun e w' => e = .returned (.int .i64 a) ∧ (w'.cell? ⟨w.heap.size, 0, none⟩ = some (.int .i32 f) ∧ w'.cell? ⟨w.heap.size, 1, none⟩ = some (.int .i32 n) ∧ w'.cell? ⟨w.heap.size + 1, 0, none⟩ = some (.int .i32 g) ∧ w'.cell? ⟨w.heap.size + 1, 1, none⟩ = some (.int .i32 m)) ∧ Below w2.heap.size w2 w') := fun ww hv => by
        refine Calls.mono (HH1.out ww) ?_
        rintro e w' ⟨rfl, h⟩
        exact ⟨rfl, HF.out _ (b2 hv h), b2 hv h⟩
      have H2 : Hid (∀ ww, Below w2.heap.size w2 ww → Calls Tryz.prog 36 #[.agg #[.int .i32 g, .int .i32 m]] ww fun e w' => e = .returned (.int .i64 b) ∧ (w'.cell? ⟨w.heap.size, 0, none⟩ = some (.int .i32 f) ∧ w'.cell? ⟨w.heap.size, 1, none⟩ = some (.int .i32 n) ∧ w'.cell? ⟨w.heap.size + 1, 0, none⟩ = some (.int .i32 g) ∧ w'.cell? ⟨w.heap.size + 1, 1, none⟩ = some (.int .i32 m)) ∧ Below w2.heap.size w2 w') := fun ww hv => by
        refine Calls.mono (HH2.out ww) ?_
        rintro e w' ⟨rfl, h⟩
        exact ⟨rfl, HF.out _ (b2 hv h), b2 hv h⟩
      have H3 : Hid (∀ ww, Below w2.heap.size w2 ww → Calls Tryz.prog 35 #[.int .i64 a, .int .i64 b] ww fun e w' => e = .returned (.int .i64 c) ∧ (w'.cell? ⟨w.heap.size, 0, none⟩ = some (.int .i32 f) ∧ w'.cell? ⟨w.heap.size, 1, none⟩ = some (.int .i32 n) ∧ w'.cell? ⟨w.heap.size + 1, 0, none⟩ = some (.int .i32 g) ∧ w'.cell? ⟨w.heap.size + 1, 1, none⟩ = some (.int .i32 m)) ∧ Below w2.heap.size w2 w') := fun ww hv => by
        refine Calls.mono (HV1.out ww) ?_
        rintro e w' ⟨rfl, rfl⟩
        exact ⟨rfl, HF.out _ hv, hv⟩
      clear HF HH1 HH2 HV1
      go_region_held3 (fun V : World => V.cell? ⟨w.heap.size, 0, none⟩ = some (.int .i32 f) ∧ V.cell? ⟨w.heap.size, 1, none⟩ = some (.int .i32 n) ∧ V.cell? ⟨w.heap.size + 1, 0, none⟩ = some (.int .i32 g) ∧ V.cell? ⟨w.heap.size + 1, 1, none⟩ = some (.int .i32 m)) (first | exact hs3 | exact hs2 | exact hs1 | exact hs0)
        (first
          | (go_at_call 35; with_reducible refine Calls.mono (H3.out _ hb2) ?_; rintro e v3 ⟨rfl, hs3, hb3⟩)
          | (go_at_call 36; with_reducible refine Calls.mono (H2.out _ hb1) ?_; rintro e v2 ⟨rfl, hs2, hb2⟩)
          | (go_at_call 36; with_reducible refine Calls.mono (H1.out _ hd0.out) ?_; rintro e v1 ⟨rfl, hs1, hb1⟩))
      obtain ⟨c0, c1, c2', c3⟩ := hs3
      replace HB := hid (b2 HB.out hb3)
      clear hs0 hs1 hs2 hb1 hb2 hb3 H1 H2 H3 hd0
      by_cases hc : c = 0
      · obtain rfl := HA0.out hc
        clear HA0 HA1
        subst hc
        go_wp2_with fail
        refine Calls.mono (HV2.out _) ?_
        rintro e v4 ⟨rfl, rfl⟩
        go_wp2_with fail
        refine bodyPost_ret (v := .tuple #[.int .i64 c2, .int .i64 0]) (by simp [results, Tryz.results12, go_sem]) rfl ?_
        exact ⟨rfl, HB.out⟩
      · obtain rfl := HA1.out hc
        clear HA0 HA1
        go_wp2_with fail
        refine bodyPost_ret (v := .tuple #[.int .i64 c, .int .i64 0]) (by simp [results, Tryz.results12, go_sem]) rfl ?_
        exact ⟨rfl, HB.out⟩
    · have hR : rOrd f n g m = (0, 150) := by unfold rOrd; rw [if_pos h0, if_neg h1]
      rw [hR]
      rw [e0] at HC1
      rw [e1] at HC2
      clear hR e0 e1 h0 h1 h k HH1 HH2
      go_enter Tryz.func12, Tryz.ntmps12
      go_wp2_with fail
      generalize (w.alloc (.cells #[.int .i32 f, .int .i32 n] 23)).alloc (.cells #[.int .i32 g, .int .i32 m] 23) = X at *
      refine Calls.mono (HC1.out X) ?_
      rintro e w1 ⟨rfl, hb1⟩
      obtain ⟨c0, c1, g0, g1⟩ := fbox_facts HX.out.1 hb1
      obtain ⟨c2', c3, g2, g3⟩ := fbox_facts HX.out.2.1 hb1
      go_wp2_with fail
      refine Calls.mono (HC2.out _) ?_
      rintro e w2 ⟨rfl, hb2⟩
      have HB := hid (b2 HX.out.2.2 (b2 hb1 hb2))
      clear HX hb1 hb2 HC1 HC2
      go_wp2_with fail
      refine bodyPost_ret (v := .tuple #[.int .i64 0, .int .i64 150]) (by simp [results, Tryz.results12, go_sem]) rfl ?_
      exact ⟨rfl, HB.out⟩
  · have hR : rOrd f n g m = (0, 150) := by unfold rOrd; rw [if_neg h0]
    rw [hR]
    rw [e0] at HC1
    clear hR e0 h0 h k HH1 HH2 HC2
    go_enter Tryz.func12, Tryz.ntmps12
    go_wp2_with fail
    generalize (w.alloc (.cells #[.int .i32 f, .int .i32 n] 23)).alloc (.cells #[.int .i32 g, .int .i32 m] 23) = X at *
    refine Calls.mono (HC1.out X) ?_
    rintro e w1 ⟨rfl, hb1⟩
    have HB := hid (b2 HX.out.2.2 hb1)
    clear HX hb1 HC1
    go_wp2_with fail
    refine bodyPost_ret (v := .tuple #[.int .i64 0, .int .i64 150]) (by simp [results, Tryz.results12, go_sem]) rfl ?_
    exact ⟨rfl, HB.out⟩
end Go.Proofs.YtcfcjnlobpoglaaGreat

/- The document's rotor (slackwaterref05): gcd, Check, of every rotor: the same answers as the program's. -/
namespace Go.Proofs.YtcfcjnlobpoglaaGreat
open Go.RowKit
set_option linter.unusedVariables false

set_option maxHeartbeats 1600000 in
set_option maxRecDepth 100000 in
theorem pgcd_any (a b : Int) (w : World) (a0 : -9223372036854775808 < a) (a1 : a ≤ 9223372036854775807) (b0 : -9223372036854775808 < b) (b1 : b ≤ 9223372036854775807) :
    Calls Tryz.prog 40 #[.int .i64 a, .int .i64 b] w fun e w' => e = .returned (.int .i64 (Int.gcd a b : Nat)) ∧ Below w.heap.size w w' := by
  go_enter Tryz.func40, Tryz.ntmps40
  go_wp2_with fail
  go_loopw [0, 1] (fun x y wr => ∃ c d : Int, x = .int .i64 c ∧ y = .int .i64 d ∧ (-9223372036854775808 < c ∧ c ≤ 9223372036854775807) ∧ (-9223372036854775808 < d ∧ d ≤ 9223372036854775807) ∧ Hid (Int.gcd c d = Int.gcd a b) ∧ Below w.heap.size w wr) (fun _ y _ => (intOf y).natAbs)
  case atStart => exact ⟨a, b, rfl, rfl, ⟨a0, a1⟩, ⟨b0, b1⟩, (rfl : Int.gcd a b = Int.gcd a b), Below.refl _ _⟩
  case round =>
    obtain ⟨c, d, rfl, rfl, hc, hd, hg, hX⟩ := hrel
    by_cases h0 : d = 0
    · subst h0
      have HG : Hid (c.natAbs = Int.gcd a b) := by have := hg.out; rw [Int.gcd_zero_right] at this; exact this
      clear hg
      have hmx : max c (-c) = (c.natAbs : Int) := by omega
      go_wp2_with fail
      all_goals (go_ret; exact ⟨ret_int (by rw [← HG.out]; omega), hX⟩)
    · have hm : (Int.tmod c d).natAbs < d.natAbs := by
        rw [Int.natAbs_tmod]; exact Nat.mod_lt _ (by omega)
      have HG : Hid (Int.gcd d (Int.tmod c d) = Int.gcd a b) := by
        show _ = _
        rw [← hg.out]
        show Nat.gcd d.natAbs (Int.tmod c d).natAbs = Nat.gcd c.natAbs d.natAbs
        rw [Int.natAbs_tmod, Nat.gcd_comm c.natAbs d.natAbs, Nat.gcd_rec d.natAbs c.natAbs, Nat.gcd_comm]
      have hb : -9223372036854775808 < Int.tmod c d ∧ Int.tmod c d ≤ 9223372036854775807 := by
        clear HG hg
        generalize Int.tmod c d = t at *
        omega
      clear hg
      go_wp2_with fail
      go_region
      all_goals
        go_wp2_with fail
        go_roundw
        case rel => exact ⟨d, Int.tmod c d, rfl, by go_num, hd, hb, HG, hX.drew⟩
        case measure => first | (simp [intOf]; exact hm) | (simp [intOf, Int.natAbs_tmod]; exact Nat.mod_lt _ (by omega)) | (simp only [intOf]; exact hm)

theorem rOK_iff (f n : Int) (h : in32 f n) : rOK f n ↔ (1 ≤ f ∧ f ≤ 1000 ∧ -1000 ≤ n ∧ n ≤ 1000 ∧ n ≠ 0 ∧ f ≠ n ∧ f ≠ -n) ∧ Int.gcd f n = 1 := by
  have e : 1 ≤ f → Int.gcd f n = Nat.gcd f.toNat n.natAbs := fun h => by
    show Nat.gcd f.natAbs n.natAbs = _
    rw [show f.natAbs = f.toNat by omega]
  unfold rOK
  constructor
  · rintro ⟨a, b, c, d, g, k⟩
    exact ⟨⟨a, b, by omega, by omega, by omega, by omega, by omega⟩, by rw [e a]; exact k⟩
  · rintro ⟨⟨a, b, c, d, g, k, l⟩, q⟩
    exact ⟨a, b, by omega, by omega, by omega, by rw [← e a]; exact q⟩

set_option maxHeartbeats 3200000 in
set_option maxRecDepth 100000 in
theorem pcheck_any (f n : Int) (w : World) (h : in32 f n) :
    Calls Tryz.prog 16 #[.agg #[.int .i32 f, .int .i32 n]] w fun e w' => e = .returned (.int .i64 (ochk f n)) ∧ Below w.heap.size w w' := by
  have hI := rOK_iff f n h
  obtain ⟨⟨f0, f1⟩, n0, n1⟩ := h
  have HX := hid (boxes1 w 23 #[.int .i32 f, .int .i32 n])
  have HG := hid (fun V => pgcd_any f n V (by omega) (by omega) (by omega) (by omega))
  have HN : Hid (¬ (1 ≤ f ∧ f ≤ 1000 ∧ -1000 ≤ n ∧ n ≤ 1000 ∧ n ≠ 0 ∧ f ≠ n ∧ f ≠ -n) → ochk f n = 150) := fun h => by unfold ochk; rw [if_neg]; rw [hI]; exact fun g => h g.1
  have HY : Hid ((1 ≤ f ∧ f ≤ 1000 ∧ -1000 ≤ n ∧ n ≤ 1000 ∧ n ≠ 0 ∧ f ≠ n ∧ f ≠ -n) → Int.gcd f n = 1 → ochk f n = 0) := fun h g => by unfold ochk; rw [if_pos]; rw [hI]; exact ⟨h, g⟩
  have HY' : Hid (¬ Int.gcd f n = 1 → ochk f n = 150) := fun g => by unfold ochk; rw [if_neg]; rw [hI]; exact fun h => g h.2
  clear hI
  generalize Int.gcd f n = d at *
  by_cases k0 : f < 1
  · have d0 : decide (f < 1) = true := by simpa using k0
    have HR := hid (HN.out (by omega))
    clear HN HY HY' k0
    go_enter Tryz.func16, Tryz.ntmps16
    go_wp2_with fail
    go_ret
    exact ⟨ret_int HR.out.symm, HX.out.2⟩
  have d0 : decide (f < 1) = false := by simpa using k0
  by_cases k1 : 1000 < f
  · have d1 : decide (1000 < f) = true := by simpa using k1
    have HR := hid (HN.out (by omega))
    clear HN HY HY' k0 k1
    go_enter Tryz.func16, Tryz.ntmps16
    go_wp2_with fail
    go_ret
    exact ⟨ret_int HR.out.symm, HX.out.2⟩
  have d1 : decide (1000 < f) = false := by simpa using k1
  by_cases k2 : n < -1000
  · have d2 : decide (n < -1000) = true := by simpa using k2
    have HR := hid (HN.out (by omega))
    clear HN HY HY' k0 k1
    go_enter Tryz.func16, Tryz.ntmps16
    go_wp2_with fail
    go_ret
    exact ⟨ret_int HR.out.symm, HX.out.2⟩
  have d2 : decide (n < -1000) = false := by simpa using k2
  by_cases k3 : 1000 < n
  · have d3 : decide (1000 < n) = true := by simpa using k3
    have HR := hid (HN.out (by omega))
    clear HN HY HY' k0 k1 k3
    go_enter Tryz.func16, Tryz.ntmps16
    go_wp2_with fail
    go_ret
    exact ⟨ret_int HR.out.symm, HX.out.2⟩
  have d3 : decide (1000 < n) = false := by simpa using k3
  by_cases k4 : n = 0
  · have d4 : (n == 0) = true := by simpa using k4
    have HR := hid (HN.out (by omega))
    clear HN HY HY' k0 k1 k3 k4
    go_enter Tryz.func16, Tryz.ntmps16
    go_wp2_with fail
    go_ret
    exact ⟨ret_int HR.out.symm, HX.out.2⟩
  have d4 : (n == 0) = false := by simpa using k4
  by_cases k5 : f = n
  · have d5 : (f == n) = true := by simpa using k5
    have HR := hid (HN.out (by omega))
    clear HN HY HY' k0 k1 k3 k4 k5
    go_enter Tryz.func16, Tryz.ntmps16
    go_wp2_with fail
    go_ret
    exact ⟨ret_int HR.out.symm, HX.out.2⟩
  have d5 : (f == n) = false := by simpa using k5
  by_cases k6 : f = -n
  · have d6 : (f == -n) = true := by simpa using k6
    have HR := hid (HN.out (by omega))
    clear HN HY HY' k0 k1 k3 k4 k5 k6
    go_enter Tryz.func16, Tryz.ntmps16
    go_wp2_with fail
    go_ret
    exact ⟨ret_int HR.out.symm, HX.out.2⟩
  have d6 : (f == -n) = false := by simpa using k6
  have HI := hid (HY.out (by omega))
  clear HN HY k0 k1 k3 k4 k5 k6
  go_enter Tryz.func16, Tryz.ntmps16
  go_wp2_with fail
  refine Calls.mono (HG.out _) ?_
  rintro e w1 ⟨rfl, hb1⟩
  have HB := hid (b2 HX.out.2 hb1)
  by_cases h1 : d = 1
  · have HR := hid (HI.out h1)
    subst h1
    go_wp2_with fail
    go_ret
    exact ⟨ret_int HR.out.symm, HB.out⟩
  · have h1' : ¬ (d : Int) = 1 := by omega
    go_wp2_with fail
    go_ret
    exact ⟨ret_int (HY'.out h1).symm, HB.out⟩
end Go.Proofs.YtcfcjnlobpoglaaGreat

/- The document's answers of package rotor: Power, where it is refused. -/
namespace Go.Proofs.YtcfcjnlobpoglaaGreat
open Go.RowKit
set_option linter.unusedVariables false
set_option linter.unusedSimpArgs false

set_option maxHeartbeats 6400000 in
/-- A rotor that may not be, or a power too great. -/
theorem ppower_bad (f n t : Int) (w : World) (hi : in32 f n) (t0 : -9223372036854775808 ≤ t) (t1 : t ≤ 9223372036854775807) (hb : ¬ rOK f n ∨ (rOK f n ∧ (t < -1024 ∨ 1024 < t))) :
    Calls Tryz.prog 11 #[.agg #[.int .i32 f, .int .i32 n], .int .i64 t] w fun e w' => e = .returned (.tuple #[.agg #[.bool false, .slice none 0 0, .slice none 0 0, .bool false, .slice none 0 0, .slice none 0 0], .int .i64 (if rOK f n then 2 else 150)]) ∧ Below w.heap.size w w' := by
  obtain ⟨X, hX⟩ : ∃ X, (w.alloc (.cells #[.int .i32 f, .int .i32 n] 23)).alloc (.cells #[.bool false, .slice none 0 0, .slice none 0 0, .bool false, .slice none 0 0, .slice none 0 0] 28) = X := ⟨_, rfl⟩
  have HB : Hid (Below w.heap.size w X) := by rw [← hX]; exact bt (alloc_later _ _) (alloc_later _ _)
  have HR : Hid (Box X w.heap.size 23 #[.int .i32 f, .int .i32 n]) := by rw [← hX]; exact (Box.made w _ _).later (alloc_later _ _) (Box.made w _ _).lt
  have HZ : Hid (Box X (w.heap.size + 1) 28 #[.bool false, .slice none 0 0, .slice none 0 0, .bool false, .slice none 0 0, .slice none 0 0]) := by
    have q := Box.made (w.alloc (.cells #[.int .i32 f, .int .i32 n] 23)) 28 #[.bool false, .slice none 0 0, .slice none 0 0, .bool false, .slice none 0 0, .slice none 0 0]
    rw [show (w.alloc (.cells #[.int .i32 f, .int .i32 n] 23)).heap.size = w.heap.size + 1 by simp, hX] at q
    exact q
  have HC := hid (pcheck_any f n X hi)
  have k0 : X.cell? ⟨w.heap.size, 0, none⟩ = some (.int .i32 f) := HR.out.cell 0
  have k1 : X.cell? ⟨w.heap.size, 1, none⟩ = some (.int .i32 n) := HR.out.cell 1
  clear hi
  rcases hb with hb | ⟨hb, ht⟩
  · have h0 : ochk f n = 150 := by unfold ochk; rw [if_neg hb]
    rw [h0] at HC
    rw [if_neg hb]
    clear hb h0
    go_enter Tryz.func11, Tryz.ntmps11
    go_wp2_with fail
    clear hX
    refine Calls.mono HC.out ?_
    rintro e w1 ⟨rfl, hb1⟩
    have HB1 := hid hb1
    clear hb1 k0 k1 HC
    obtain ⟨A0, A1, A2, A3, A4, A5, q0, q1, q2, q3, q4, q5, ⟨r0, r1, r2, r3, r4, r5⟩, ⟨f0, f1, f2, f3, f4, f5⟩, HA⟩ := rchain6 (HZ.out.later HB1.out HZ.out.lt) (by decide) (.bool false) (.slice none 0 0) (.slice none 0 0) (.bool false) (.slice none 0 0) (.slice none 0 0)
    go_wp2_with fail
    refine bodyPost_ret (gres_run (by rfl) HA.out.1 _ (by rfl)) rfl ?_
    exact ⟨rfl, HA.out.2.2.2.1 _ _ (by omega) (bt HB.out HB1.out)⟩
  · have h0 : ochk f n = 0 := by unfold ochk; rw [if_pos hb]
    rw [h0] at HC
    rw [if_pos hb]
    clear hb h0
    rcases ht with ht | ht
    all_goals
      go_enter Tryz.func11, Tryz.ntmps11
      go_wp2_with fail
      clear hX
      refine Calls.mono HC.out ?_
      rintro e w1 ⟨rfl, hb1⟩
      have HB1 := hid hb1
      clear hb1 k0 k1 HC
      obtain ⟨A0, A1, A2, A3, A4, A5, q0, q1, q2, q3, q4, q5, ⟨r0, r1, r2, r3, r4, r5⟩, ⟨f0, f1, f2, f3, f4, f5⟩, HA⟩ := rchain6 (HZ.out.later HB1.out HZ.out.lt) (by decide) (.bool false) (.slice none 0 0) (.slice none 0 0) (.bool false) (.slice none 0 0) (.slice none 0 0)
      go_wp2_with fail
      refine bodyPost_ret (gres_run (by rfl) HA.out.1 _ (by rfl)) rfl ?_
      exact ⟨rfl, HA.out.2.2.2.1 _ _ (by omega) (bt HB.out HB1.out)⟩

end Go.Proofs.YtcfcjnlobpoglaaGreat

/- The document's Power of a rotor that may be, of every power that may be: it tells what the program's tells. (tools/mkrpa.py) -/
namespace Go.Proofs.YtcfcjnlobpoglaaGreat
open Go.RowKit
set_option linter.unusedVariables false
set_option linter.unusedSimpArgs false

theorem dl_two (m L : Nat) (h : m < 32 * L) : 2 ^ m < dlim L := by
  unfold dlim
  rw [show (4294967296 : Nat) = 2 ^ 32 from rfl, ← Nat.pow_mul]
  exact Nat.pow_lt_pow_right (by decide) h
theorem dl_mul {x y : Int} {L M : Nat} (h : x.natAbs < dlim L) (g : y.natAbs < dlim M) : (x * y).natAbs < dlim (L + M) := by
  rw [Int.natAbs_mul]
  unfold dlim at *
  rw [Nat.pow_add]
  exact Nat.mul_lt_mul'' h g
theorem dl_le {x : Int} {L M : Nat} (h : x.natAbs < dlim L) (hl : L ≤ M) : x.natAbs < dlim M := by
  unfold dlim at *
  exact Nat.lt_of_lt_of_le h (Nat.pow_le_pow_right (by decide) hl)
theorem dl_small {x : Int} (h : x.natAbs ≤ 1000) : x.natAbs < dlim 1 := by
  unfold dlim
  rw [Nat.pow_one]
  omega
theorem doc_base {f n : Int} (h : rOK f n) : 0 < f * f + n * n ∧ (f * f + n * n).natAbs ≤ 2 ^ 21 := by
  obtain ⟨h1, h2, h3, h4, _, _⟩ := h
  have a : f.natAbs * f.natAbs ≤ 1000 * 1000 := Nat.mul_le_mul (by omega) (by omega)
  have b : n.natAbs * n.natAbs ≤ 1000 * 1000 := Nat.mul_le_mul h4 h4
  have a0 : 1 * 1 ≤ f.natAbs * f.natAbs := Nat.mul_le_mul (by omega) (by omega)
  have p := sq_nn f
  have q := sq_nn n
  have e1 := Int.natAbs_mul f f
  have e2 := Int.natAbs_mul n n
  generalize f * f = x at *
  generalize n * n = y at *
  generalize f.natAbs * f.natAbs = x' at *
  generalize n.natAbs * n.natAbs = y' at *
  omega
/-- How great the document's numbers are. -/
theorem doc_sz {f n : Int} (h : rOK f n) (i : Nat) (hi : i ≤ 2048) : (zpow (f, n) i).1.natAbs < dlim 1400 ∧ (zpow (f, n) i).2.natAbs < dlim 1400 := by
  obtain ⟨a, b⟩ := doc_big h i
  have e : (f * f + n * n).natAbs ^ i < dlim 1400 := by
    refine Nat.lt_of_le_of_lt (Nat.pow_le_pow_left (doc_base h).2 i) ?_
    rw [← Nat.pow_mul]
    exact dl_two _ _ (by omega)
  exact ⟨by omega, by omega⟩
theorem doc_den {f n : Int} (h : rOK f n) (j : Nat) (hj : j ≤ 1024) : ((f * f + n * n) ^ j).natAbs < dlim 1400 ∧ 0 < (f * f + n * n) ^ j := by
  refine ⟨?_, Int.pow_pos (doc_base h).1⟩
  rw [Int.natAbs_pow]
  refine Nat.lt_of_le_of_lt (Nat.pow_le_pow_left (doc_base h).2 j) ?_
  rw [← Nat.pow_mul]
  exact dl_two _ _ (by omega)
theorem doc_step (f n : Int) (i : Nat) : (zpow (f, n) (i + 1)).1 = (zpow (f, n) i).1 * f - (zpow (f, n) i).2 * n ∧ (zpow (f, n) (i + 1)).2 = (zpow (f, n) i).1 * n + (zpow (f, n) i).2 * f := by
  rw [zpow_add, zpow_one]
  exact ⟨rfl, rfl⟩
theorem box_ne {V : World} {b b' t t' : Nat} {vs vs' : Array Value} (h : Box V b t vs) (g : Box V b' t' vs') (hne : t ≠ t') : b ≠ b' := by
  rintro rfl
  have e := h.symm.trans g
  injection e with e
  injection e with _ e
  exact hne e
theorem NB.chain {V A : World} {b b' : Nat} {t : Int} (h : NB V b' t) (hne : b' ≠ b) (c1 : ∀ p t' vs, p ≠ b → Box V p t' vs → Box A p t' vs) (c2 : ∀ base v n xs, V.ownsRow base 66 1 v n xs → A.ownsRow base 66 1 v n xs) : NB A b' t := by
  obtain ⟨n, a, k, c, h1, xs, e, h2, h3⟩ := h
  exact ⟨n, a, k, c, c1 _ _ _ hne h1, xs, e, c2 _ _ _ _ h2, h3⟩
theorem DW.chain {V A : World} {n : Bool} {a : Option Addr} {k c : Nat} {t : Int} (h : DW V n a k c t) (c2 : ∀ base v n xs, V.ownsRow base 66 1 v n xs → A.ownsRow base 66 1 v n xs) : DW A n a k c t := by
  obtain ⟨xs, e, h2, h3⟩ := h
  exact ⟨xs, e, c2 _ _ _ _ h2, h3⟩
theorem pwrap {x : Int} (h0 : 0 ≤ x) (h1 : x ≤ 1000000) : IntKind.i64.wrap x = x ∧ wrap64 x = x := ⟨by rw [IntKind.wrap_i64]; omega, by unfold wrap64; omega⟩
/-- What stands in the loop of the document's Power. -/
structure PI (w : World) (b4 b7 b8 b9 b10 b11 b12 : Nat) (f n d re im de : Int) (V : World) : Prop where
  bel : Below w.heap.size w V
  bx : Box V b4 28 #[.bool false, .slice none 0 0, .slice none 0 0, .bool false, .slice none 0 0, .slice none 0 0]
  h7 : NB V b7 f
  h8 : NB V b8 n
  h9 : NB V b9 d
  h10 : NB V b10 re
  h11 : NB V b11 im
  h12 : NB V b12 de
  d1 : b7 ≠ b10 ∧ b8 ≠ b10 ∧ b9 ≠ b10 ∧ b11 ≠ b10 ∧ b12 ≠ b10
  d2 : b7 ≠ b11 ∧ b8 ≠ b11 ∧ b9 ≠ b11 ∧ b12 ≠ b11
  d3 : b7 ≠ b12 ∧ b8 ≠ b12 ∧ b9 ≠ b12
  le : w.heap.size ≤ b10 ∧ w.heap.size ≤ b11 ∧ w.heap.size ≤ b12
theorem PI.n4 {w : World} {b4 b7 b8 b9 b10 b11 b12 : Nat} {f n d re im de : Int} {V : World} (h : PI w b4 b7 b8 b9 b10 b11 b12 f n d re im de V) : b10 ≠ b4 ∧ b11 ≠ b4 ∧ b12 ≠ b4 := by
  obtain ⟨_, _, _, _, x, _⟩ := h.h10
  obtain ⟨_, _, _, _, y, _⟩ := h.h11
  obtain ⟨_, _, _, _, z, _⟩ := h.h12
  exact ⟨box_ne x h.bx (by decide), box_ne y h.bx (by decide), box_ne z h.bx (by decide)⟩
/-- A round of the loop: two numbers are made, and moved. -/
theorem PI.moved {w : World} {b4 b7 b8 b9 b10 b11 b12 : Nat} {f n d re im de : Int} {V V2 F : World} {x y : Int} (h : PI w b4 b7 b8 b9 b10 b11 b12 f n d re im de V) (hb : Below V.heap.size V V2) (g : NB F b10 x ∧ NB F b11 y ∧ (∀ b t, b ≠ b10 → b ≠ b11 → NB V2 b t → NB F b t) ∧ (∀ b t vs, b ≠ b10 → b ≠ b11 → Box V2 b t vs → Box F b t vs) ∧ (∀ B x, B ≤ b10 → B ≤ b11 → Below B x V2 → Below B x F) ∧ F.heap.size = V2.heap.size) : PI w b4 b7 b8 b9 b10 b11 b12 f n d x y de F where
  bel := g.2.2.2.2.1 _ _ h.le.1 h.le.2.1 (bt h.bel hb)
  bx := g.2.2.2.1 _ _ _ (Ne.symm h.n4.1) (Ne.symm h.n4.2.1) (h.bx.later hb h.bx.lt)
  h7 := g.2.2.1 _ _ h.d1.1 h.d2.1 (h.h7.later hb)
  h8 := g.2.2.1 _ _ h.d1.2.1 h.d2.2.1 (h.h8.later hb)
  h9 := g.2.2.1 _ _ h.d1.2.2.1 h.d2.2.2.1 (h.h9.later hb)
  h10 := g.1
  h11 := g.2.1
  h12 := g.2.2.1 _ _ h.d1.2.2.2.2 h.d2.2.2.2 (h.h12.later hb)
  d1 := h.d1
  d2 := h.d2
  d3 := h.d3
  le := h.le
theorem PI.den {w : World} {b4 b7 b8 b9 b10 b11 b12 : Nat} {f n d re im de : Int} {V V2 A : World} {z : Int} {n' : Bool} {a : Option Addr} {k c : Nat} (h : PI w b4 b7 b8 b9 b10 b11 b12 f n d re im de V) (hb : Below V.heap.size V V2) (g : DW V2 n' a k c z) (HA : Box A b12 59 #[.bool n', .slice a k c] ∧ (∀ p t' vs, p ≠ b12 → Box V2 p t' vs → Box A p t' vs) ∧ (∀ base v n xs, V2.ownsRow base 66 1 v n xs → A.ownsRow base 66 1 v n xs) ∧ (∀ B x, B ≤ b12 → Below B x V2 → Below B x A) ∧ A.heap.size = V2.heap.size) : PI w b4 b7 b8 b9 b10 b11 b12 f n d re im z A where
  bel := HA.2.2.2.1 _ _ h.le.2.2 (bt h.bel hb)
  bx := HA.2.1 _ _ _ (Ne.symm h.n4.2.2) (h.bx.later hb h.bx.lt)
  h7 := (h.h7.later hb).chain h.d3.1 HA.2.1 HA.2.2.1
  h8 := (h.h8.later hb).chain h.d3.2.1 HA.2.1 HA.2.2.1
  h9 := (h.h9.later hb).chain h.d3.2.2 HA.2.1 HA.2.2.1
  h10 := (h.h10.later hb).chain (Ne.symm h.d1.2.2.2.2) HA.2.1 HA.2.2.1
  h11 := (h.h11.later hb).chain (Ne.symm h.d2.2.2.2) HA.2.1 HA.2.2.1
  h12 := ⟨n', a, k, c, HA.1, g.chain HA.2.2.1⟩
  d1 := h.d1
  d2 := h.d2
  d3 := h.d3
  le := h.le

set_option maxHeartbeats 25600000 in
set_option maxRecDepth 100000 in
theorem ppower_any (f n t : Int) (w : World) (hr : rOK f n) (t0 : -1024 ≤ t) (t1 : t ≤ 1024) :
    Calls Tryz.prog 11 #[.agg #[.int .i32 f, .int .i32 n], .int .i64 t] w (PGt w (oP f n t).1 (oP f n t).2) := by
  obtain ⟨X, hX⟩ : ∃ X, (w.alloc (.cells #[.int .i32 f, .int .i32 n] 23)).alloc (.cells #[.bool false, .slice none 0 0, .slice none 0 0, .bool false, .slice none 0 0, .slice none 0 0] 28) = X := ⟨_, rfl⟩
  have HB : Hid (Below w.heap.size w X) := by rw [← hX]; exact bt (alloc_later _ _) (alloc_later _ _)
  have HR : Hid (Box X w.heap.size 23 #[.int .i32 f, .int .i32 n]) := by rw [← hX]; exact (Box.made w _ _).later (alloc_later _ _) (Box.made w _ _).lt
  have HZ : Hid (Box X (w.heap.size + 1) 28 #[.bool false, .slice none 0 0, .slice none 0 0, .bool false, .slice none 0 0, .slice none 0 0]) := by
    have q := Box.made (w.alloc (.cells #[.int .i32 f, .int .i32 n] 23)) 28 #[.bool false, .slice none 0 0, .slice none 0 0, .bool false, .slice none 0 0, .slice none 0 0]
    rw [show (w.alloc (.cells #[.int .i32 f, .int .i32 n] 23)).heap.size = w.heap.size + 1 by simp, hX] at q
    exact q
  have hin : in32 f n := by unfold rOK at hr; unfold in32; omega
  have HIN := hid hin
  unfold in32 at HIN
  have HC := hid (pcheck_any f n X hin)
  have h0 : ochk f n = 0 := by unfold ochk; rw [if_pos hr]
  rw [h0] at HC
  have hf : f.natAbs ≤ 1000 := by unfold rOK at hr; omega
  have hn : n.natAbs ≤ 1000 := by unfold rOK at hr; omega
  have HF := hid (dl_small hf)
  have k0 : X.cell? ⟨w.heap.size, 0, none⟩ = some (.int .i32 f) := HR.out.cell 0
  have k1 : X.cell? ⟨w.heap.size, 1, none⟩ = some (.int .i32 n) := HR.out.cell 1
  by_cases ht : 0 ≤ t
  · have EP : Hid (oP f n t = oPn f n t.toNat) := by show _ = _; unfold oP; rw [if_pos ht]
    have HNN := hid (dl_small hn)
    have HK := hid hr
    obtain ⟨N, hN⟩ : ∃ N : Nat, t = N := ⟨t.toNat, by omega⟩
    subst hN
    rw [Int.toNat_natCast] at EP
    have hN1 : N ≤ 1024 := by omega
    clear h0 hin hr hf hn
    go_enter Tryz.func11, Tryz.ntmps11
    go_wp2_with fail
    clear hX
    refine Calls.mono HC.out ?_
    rintro e w1 ⟨rfl, hb1⟩
    have HB1 := hid hb1
    clear hb1 k0 k1 HC
    have HR1 := hid (HR.out.later HB1.out HR.out.lt)
    have HG1 := hid (HZ.out.later HB1.out HZ.out.lt)
    have HBW := hid (bt HB.out HB1.out)
    have zw1 := HBW.out.size
    clear HR HZ HB HB1
    go_upto_region 6 with fail
    refine pw_region6 w1 w.heap.size f n HR1 HIN _ _ _ _ _ _ _ _ _ _ _ _ _ _ _ _ _ _ _ _ _ _ _ _ _ _ _ _ _ _ _ _ _ _ _ _ _ _ (fun p q u29 u30 u31 u32 u33 u34 u35 u36 F6 H6 => ?_)
    obtain ⟨N7, N8, ne78, lp, lq, hb6⟩ := H6.out
    clear H6 HIN HR1
    have HN7 := hid N7
    have HN8 := hid N8
    have HBY := hid hb6
    clear N7 N8 hb6
    obtain ⟨n7, a7, k7, c7, B7, D7⟩ := HN7.out
    obtain ⟨n8, a8, k8, c8, B8, D8⟩ := HN8.out
    go_upto_region 10 with fail
    refine pw_region10 F6 p n7 a7 k7 c7 f (hid B7) (hid D7) (hid (Nat.le_trans (D7.len HF.out) (by omega))) q n8 a8 k8 c8 n (hid B8) (hid D8) (hid (Nat.le_trans (D8.len HNN.out) (by omega))) (hid (dl_le (dl_mul HF.out HF.out) (by decide))) (hid (dl_le (dl_mul HNN.out HNN.out) (by decide))) _ _ _ _ _ _ _ _ _ _ _ _ _ _ _ _ _ _ _ _ _ _ _ _ _ _ _ _ _ _ _ _ _ _ _ _ _ _ _ _ _ _ _ _ _ _ _ _ _ _ (fun p9 u43 u44 u45 u46 u47 u48 u49 F10 H10 => ?_)
    clear B7 D7 B8 D8
    obtain ⟨N9, l9, hb10⟩ := H10.out
    have HM7 := hid (HN7.out.later hb10)
    have HM8 := hid (HN8.out.later hb10)
    have HM9 := hid N9
    have HB10 := hid (bt HBY.out hb10)
    have lp2 := HM7.out.lt
    have lq2 := HM8.out.lt
    have lp9 := HM9.out.lt
    clear HN7 HN8 N9 hb10 H10 HBY
    have HO1 := hid (dOf 1 F10 (by omega) (by omega))
    go_wp2_with fail
    refine Calls.mono HO1.out ?_
    rintro e V1 ⟨m1, e1, j1, d1, rfl, E1, hv1⟩
    have HO2 := hid (dOf 0 V1 (by omega) (by omega))
    go_wp2_with fail
    refine Calls.mono HO2.out ?_
    rintro e V2 ⟨m2, e2, j2, d2, rfl, E2, hv2⟩
    have HO3 := hid (dOf 1 V2 (by omega) (by omega))
    go_wp2_with fail
    refine Calls.mono HO3.out ?_
    rintro e V3 ⟨m3, e3, j3, d3, rfl, E3, hv3⟩
    clear HO1 HO2 HO3
    have HBV := hid (bt hv1 (bt hv2 hv3))
    have HE1 := hid (E1.later (bt hv2 hv3))
    have HE2 := hid (E2.later hv3)
    have HE3 := hid E3
    clear E1 E2 E3 hv1 hv2 hv3
    have HX3 := hid (boxes3t V3 59 59 59 #[.bool false, .slice none 0 0] #[.bool false, .slice none 0 0] #[.bool false, .slice none 0 0])
    obtain ⟨Y3, hY3⟩ : ∃ Y3, ((V3.alloc (.cells #[.bool false, .slice none 0 0] 59)).alloc (.cells #[.bool false, .slice none 0 0] 59)).alloc (.cells #[.bool false, .slice none 0 0] 59) = Y3 := ⟨_, rfl⟩
    rw [hY3] at HX3
    obtain ⟨A0, A1, x0, x1, ⟨r0, r1⟩, ⟨f0, f1⟩, HA⟩ := rchain2 HX3.out.1 (by decide) (.bool m1) (.slice e1 j1 d1)
    have HA11 := hid (HA.out.2.1 _ _ _ (show V3.heap.size + 1 ≠ V3.heap.size by omega) HX3.out.2.1)
    have HA12 := hid (HA.out.2.1 _ _ _ (show V3.heap.size + 1 + 1 ≠ V3.heap.size by omega) HX3.out.2.2.1)
    obtain ⟨C0, C1, x2, x3, ⟨r2, r3⟩, ⟨f2, f3⟩, HCC⟩ := rchain2 HA11.out (by decide) (.bool m2) (.slice e2 j2 d2)
    have HC12 := hid (HCC.out.2.1 _ _ _ (show V3.heap.size + 1 + 1 ≠ V3.heap.size + 1 by omega) HA12.out)
    obtain ⟨G0, G1, x4, x5, ⟨r4, r5⟩, ⟨f4, f5⟩, HG⟩ := rchain2 HC12.out (by decide) (.bool m3) (.slice e3 j3 d3)
    have hbX := hid (bt HBV.out HX3.out.2.2.2)
    have HS : Hid (∀ base v n xs, V3.ownsRow base 66 1 v n xs → G1.ownsRow base 66 1 v n xs) := fun base v n xs h => HG.out.2.2.1 _ _ _ _ (HCC.out.2.2.1 _ _ _ _ (HA.out.2.2.1 _ _ _ _ (owns_later h HX3.out.2.2.2)))
    have HT : Hid (∀ p t' vs, p < V3.heap.size → Box F10 p t' vs → Box G1 p t' vs) := fun p t' vs hp h => HG.out.2.1 _ _ _ (by omega) (HCC.out.2.1 _ _ _ (by omega) (HA.out.2.1 _ _ _ (by omega) (h.later hbX.out h.lt)))
    have hV3 := HBV.out.size
    have HNB : Hid (∀ b t, NB F10 b t → NB G1 b t) := fun b t h => by
      obtain ⟨n, a, k, c, h1, xs, e, h2, h3⟩ := h
      exact ⟨n, a, k, c, HT.out _ _ _ (by have := h1.lt; omega) h1, xs, e, HS.out _ _ _ _ (owns_later h2 HBV.out), h3⟩
    have hf10 := HB10.out.size
    have HPI : Hid (PI w (w.heap.size + 1) p q p9 V3.heap.size (V3.heap.size + 1) (V3.heap.size + 1 + 1) f n (f * f + n * n) (zpow (f, n) 0).1 (zpow (f, n) 0).2 ((f * f + n * n) ^ ((0 + 1) / 2)) G1) := by
      refine ⟨?_, HT.out _ _ _ (by have := HG1.out.lt; omega) (HG1.out.later HB10.out HG1.out.lt), HNB.out _ _ HM7.out, HNB.out _ _ HM8.out, HNB.out _ _ HM9.out, ?_, ?_, ?_, by omega, by omega, by omega, by omega⟩
      · exact HG.out.2.2.2.1 _ _ (by omega) (HCC.out.2.2.2.1 _ _ (by omega) (HA.out.2.2.2.1 _ _ (by omega) (bt (bt HBW.out HB10.out) hbX.out)))
      · exact ⟨_, _, _, _, HG.out.2.1 _ _ _ (by omega) (HCC.out.2.1 _ _ _ (by omega) HA.out.1), HE1.out.chain HS.out⟩
      · exact ⟨_, _, _, _, HG.out.2.1 _ _ _ (by omega) HCC.out.1, HE2.out.chain HS.out⟩
      · rw [show (0 + 1) / 2 = 0 from rfl, Int.pow_zero]
        exact ⟨_, _, _, _, HG.out.1, HE3.out.chain HS.out⟩
    clear HS HT HNB HE1 HE2 HE3 HM7 HM8 HM9 HA HCC HG HX3 HBV hbX HA11 HA12 HC12
    go_wp2_with fail
    clear hY3 x0 x1 x2 x3 x4 x5 r0 r1 r2 r3 r4 r5 f0 f1 f2 f3 f4 f5
    have HWR : Hid (∀ x : Int, 0 ≤ x → x ≤ 1000000 → IntKind.i64.wrap x = x ∧ wrap64 x = x) := fun x h0 h1 => pwrap h0 h1
    have HW2 := hid (HWR.out (2 * (N : Int)) (by omega) (by omega))
    go_loopw [13] (fun v wr => ∃ i : Nat, i ≤ 2 * N ∧ v = .int .i64 (i : Int) ∧ Hid (PI w (w.heap.size + 1) p q p9 V3.heap.size (V3.heap.size + 1) (V3.heap.size + 1 + 1) f n (f * f + n * n) (zpow (f, n) i).1 (zpow (f, n) i).2 ((f * f + n * n) ^ ((i + 1) / 2)) wr)) (fun v _ => 2 * N - (intOf v).toNat)
    case atStart => exact ⟨0, by omega, rfl, HPI⟩
    case round =>
      clear HPI
      obtain ⟨i, hi, rfl, HI⟩ := hrel
      obtain ⟨S10, S11⟩ := doc_sz HK.out i (by omega)
      have SD := doc_den HK.out ((i + 1) / 2) (by omega)
      have SB := doc_den HK.out 1 (by omega)
      rw [Int.pow_one] at SB
      have HS := hid (And.intro S10 (And.intro S11 (And.intro SD SB.1)))
      clear S10 S11 SD SB
      rcases Nat.lt_or_ge i (2 * N) with hlt | hge
      · have hlt2 : (i : Int) < 2 * (N : Int) := by omega
        obtain ⟨n7, a7, k7, c7, B7, D7⟩ := HI.out.h7
        obtain ⟨n8, a8, k8, c8, B8, D8⟩ := HI.out.h8
        obtain ⟨n10, a10, k10, c10, B10, D10⟩ := HI.out.h10
        obtain ⟨n11, a11, k11, c11, B11, D11⟩ := HI.out.h11
        obtain ⟨wa, wb⟩ := HW2.out
        go_upto_region 15 with fail
        clear wa wb
        refine pw_region15 wr p n7 a7 k7 c7 f (hid B7) (hid D7) (hid (Nat.le_trans (D7.len HF.out) (by omega))) q n8 a8 k8 c8 n (hid B8) (hid D8) (hid (Nat.le_trans (D8.len HNN.out) (by omega))) V3.heap.size n10 a10 k10 c10 (zpow (f, n) i).1 (hid B10) (hid D10) (hid (Nat.le_trans (D10.len HS.out.1) (by omega))) (V3.heap.size + 1) n11 a11 k11 c11 (zpow (f, n) i).2 (hid B11) (hid D11) (hid (Nat.le_trans (D11.len HS.out.2.1) (by omega))) (hid (dl_le (dl_mul HS.out.1 HF.out) (by decide))) (hid (dl_le (dl_mul HS.out.2.1 HNN.out) (by decide))) _ _ _ _ _ _ _ _ _ _ _ _ _ _ _ _ _ _ _ _ _ _ _ _ _ _ _ _ _ _ _ _ _ _ _ _ _ _ _ _ _ _ _ _ _ _ _ _ _ _ _ _ _ _ _ _ _ _ _ _ _ _ _ _ (fun bx u59 u60 u61 u62 u63 u64 u65 F15 H15 => ?_)
        clear B7 D7 B8 D8 B10 D10 B11 D11
        obtain ⟨NX, lx, hb15⟩ := H15.out
        have HNX := hid NX
        have HB15 := hid hb15
        clear NX hb15 H15
        obtain ⟨n7, a7, k7, c7, B7, D7⟩ := HI.out.h7.later HB15.out
        obtain ⟨n8, a8, k8, c8, B8, D8⟩ := HI.out.h8.later HB15.out
        obtain ⟨n10, a10, k10, c10, B10, D10⟩ := HI.out.h10.later HB15.out
        obtain ⟨n11, a11, k11, c11, B11, D11⟩ := HI.out.h11.later HB15.out
        go_upto_region 16 with fail
        refine pw_region16 F15 p n7 a7 k7 c7 f (hid B7) (hid D7) (hid (Nat.le_trans (D7.len HF.out) (by omega))) q n8 a8 k8 c8 n (hid B8) (hid D8) (hid (Nat.le_trans (D8.len HNN.out) (by omega))) V3.heap.size n10 a10 k10 c10 (zpow (f, n) i).1 (hid B10) (hid D10) (hid (Nat.le_trans (D10.len HS.out.1) (by omega))) (V3.heap.size + 1) n11 a11 k11 c11 (zpow (f, n) i).2 (hid B11) (hid D11) (hid (Nat.le_trans (D11.len HS.out.2.1) (by omega))) (hid (dl_le (dl_mul HS.out.1 HNN.out) (by decide))) (hid (dl_le (dl_mul HS.out.2.1 HF.out) (by decide))) _ _ _ _ _ _ _ _ _ _ _ _ _ _ _ _ _ _ _ _ _ _ _ _ _ _ _ _ _ _ _ _ _ _ _ _ _ _ _ _ _ _ _ _ _ _ _ _ _ _ _ _ _ _ _ _ _ _ _ _ _ _ _ _ _ _ _ _ _ _ _ (fun by_ u66 u67 u68 u69 u70 u71 u72 F16 H16 => ?_)
        clear B7 D7 B8 D8 B10 D10 B11 D11
        obtain ⟨NY, ly, hb16⟩ := H16.out
        have HNY := hid NY
        have HB16 := hid (bt HB15.out hb16)
        have HNX2 := hid (HNX.out.later hb16)
        have l10 := HI.out.h10.lt
        have l11 := HI.out.h11.lt
        have z15 := HB15.out.size
        clear NY H16 HNX
        obtain ⟨n14, a14, k14, c14, B14, D14⟩ := HNX2.out
        obtain ⟨n15, a15, k15, c15, B15, D15⟩ := HNY.out
        obtain ⟨n10, a10, k10, c10, B10, D10⟩ := HI.out.h10.later HB16.out
        obtain ⟨n11, a11, k11, c11, B11, D11⟩ := HI.out.h11.later HB16.out
        go_upto_region 17 with fail
        refine pw_region17 F16 V3.heap.size (V3.heap.size + 1) _ _ _ _ bx n14 a14 k14 c14 _ (hid B14) (hid D14) by_ n15 a15 k15 c15 _ (hid B15) (hid D15) (hid B10) (hid B11) (by omega) (by omega) (by omega) (by omega) (by omega) _ _ _ _ _ _ _ _ _ _ _ _ _ _ _ _ _ _ _ _ _ _ _ _ _ _ _ _ _ _ _ _ _ _ _ _ _ _ _ _ _ _ _ _ _ _ _ _ _ _ _ _ _ _ _ _ _ _ _ _ _ _ _ _ _ _ _ _ _ _ _ _ _ (fun u73 u74 F17 H17 => ?_)
        clear B14 D14 B15 D15 B10 D10 B11 D11
        have HI2 := hid (HI.out.moved HB16.out H17.out)
        rw [← (doc_step f n i).1, ← (doc_step f n i).2] at HI2
        clear HI H17 HB16 HB15 HNX2 HNY l10 l11 z15 lx ly
        have HWI := hid (HWR.out ((i : Int) + 1) (by omega) (by omega))
        rcases Nat.mod_two_eq_zero_or_one i with hpar | hpar
        · have he : Int.tmod (i : Int) 2 = 0 := by rw [Int.tmod_eq_emod_of_nonneg (by omega)]; omega
          obtain ⟨n12, a12, k12, c12, B12, D12⟩ := HI2.out.h12
          obtain ⟨n9, a9, k9, c9, B9, D9⟩ := HI2.out.h9
          have HP := hid (dProduct D12 D9 (Nat.le_trans (D12.len HS.out.2.2.1.1) (by omega)) (Nat.le_trans (D9.len HS.out.2.2.2) (by omega)))
          obtain ⟨y0, y1, g0, g1⟩ := res_box B12 (Below.refl _ _)
          obtain ⟨y2, y3, _, _⟩ := res_box B9 (Below.refl _ _)
          go_upto_region 19 with fail
          go_wp2_with fail
          refine Calls.mono HP.out ?_
          rintro e F19 ⟨m19, e19, j19, d19, rfl, D19, hb19⟩
          obtain ⟨A0, A1', x0, x1, ⟨r0, r1⟩, ⟨f0, f1⟩, HA⟩ := rchain2 (B12.later hb19 B12.lt) (by decide) (.bool m19) (.slice e19 j19 d19)
          have HI3 := hid (HI2.out.den hb19 D19 HA.out)
          have ed : (f * f + n * n) ^ ((i + 1) / 2) * (f * f + n * n) = (f * f + n * n) ^ ((i + 1 + 1) / 2) := by
            rw [show (i + 1 + 1) / 2 = (i + 1) / 2 + 1 by omega, Int.pow_succ]
          rw [ed] at HI3
          clear HI2 HA B12 D12 B9 D9 D19 hb19 HP ed y0 y1 g0 g1 y2 y3
          obtain ⟨wa, wb⟩ := HWI.out
          go_wp2_with fail
          clear wa wb
          go_roundw
          case rel => exact ⟨i + 1, by omega, rfl, HI3⟩
          case measure => first | (simp [intOf]; omega) | (simp [intOf]; done)
        · have he : Int.tmod (i : Int) 2 = 1 := by rw [Int.tmod_eq_emod_of_nonneg (by omega)]; omega
          have HI3 := HI2
          rw [show (i + 1) / 2 = (i + 1 + 1) / 2 by omega] at HI3
          clear HI2
          obtain ⟨wa, wb⟩ := HWI.out
          go_wp2_with fail
          clear wa wb
          go_roundw
          case rel => exact ⟨i + 1, by omega, rfl, HI3⟩
          case measure => first | (simp [intOf]; omega) | (simp [intOf]; done)
      · have hiN : i = 2 * N := by omega
        subst hiN
        have hge2 : ¬ ((2 * N : Nat) : Int) < 2 * (N : Int) := by omega
        have hN2 : (2 * N + 1) / 2 = N := by omega
        rw [hN2] at HI HS
        have HDP := hid (doc_pow HK.out N)
        obtain ⟨n10, a10, k10, c10, B10, D10⟩ := HI.out.h10
        obtain ⟨n11, a11, k11, c11, B11, D11⟩ := HI.out.h11
        obtain ⟨n12, a12, k12, c12, B12, D12⟩ := HI.out.h12
        have q12 := HS.out.2.2.1.2
        have N4 := HI.out.n4
        have HBX := HI.out.bx
        have HLW := hid (HI.out.bel.size)
        obtain ⟨wa, wb⟩ := HW2.out
        go_upto_region 20 with fail
        clear wa wb
        refine pw_region20 wr w.heap.size (w.heap.size + 1) V3.heap.size n10 a10 k10 c10 _ (hid B10) (hid D10) (hid (Nat.le_trans (D10.len HS.out.1) (by omega))) (hid N4.1) (V3.heap.size + 1) n11 a11 k11 c11 _ (hid B11) (hid D11) (hid (Nat.le_trans (D11.len HS.out.2.1) (by omega))) (hid N4.2.1) (V3.heap.size + 1 + 1) n12 a12 k12 c12 _ (hid B12) (hid D12) (hid (Nat.le_trans (D12.len HS.out.2.2.1.1) (by omega))) (hid N4.2.2) (hid HBX) (hid q12) HLW _ _ _ _ _ _ _ _ _ _ _ _ _ _ _ _ _ _ _ _ _ _ _ _ _ _ _ _ _ _ _ _ _ _ _ _ _ _ _ _ _ _ _ _ _ _ _ _ _ _ _ _ _ _ _ _ _ _ _ _ _ _ _ _ _ _ _ _ _ _ _ _ _ _ _ _ _ _ _ _ _ _ _ _ _ _ (fun e1 j1 d1 g1 i1 h1 e2 j2 d2 g2 i2 h2 u81 u82 u83 u84 u85 u86 u87 F H => ?_)
        clear B10 D10 B11 D11 B12 D12 HBX
        obtain ⟨HBB, ⟨zs, ds, rfl, rfl, o1, o2, w1', w2', c1', q1'⟩, ⟨zs2, ds2, rfl, rfl, o3, o4, w3', w4', c3', q3'⟩, hbel⟩ := H.out
        have HFB := hid (hbel w.heap.size w (by omega) HLW.out HI.out.bel)
        have HBF := hid HBB
        have HO := hid (And.intro o1 (And.intro o2 (And.intro o3 o4)))
        have HV := hid (And.intro w1' (And.intro w2' (And.intro w3' w4')))
        have HQ := hid (And.intro c1' (And.intro q1' (And.intro c3' q3')))
        clear H HBB o1 o2 o3 o4 w1' w2' w3' w4' c1' q1' c3' q3' hbel
        go_wp2_with fail
        refine bodyPost_ret (gres_run (by rfl) HBF.out _ (by rfl)) rfl ?_
        rw [EP.out]
        exact ⟨⟨n10, e1, d1, zs, g1, h1, ds, n11, e2, d2, zs2, g2, h2, ds2⟩, rfl, HO.out, ⟨⟨HQ.out.1, HQ.out.2.1.trans HDP.out.1⟩, ⟨HQ.out.2.2.1, HQ.out.2.2.2.trans HDP.out.2⟩, HV.out⟩, HFB.out⟩
  · have EP : Hid (oP f n t = oPn f (-n) (-t).toNat) := by show _ = _; unfold oP; rw [if_neg ht]
    have hn2 : (-n).natAbs ≤ 1000 := by rw [Int.natAbs_neg]; exact hn
    have HNN := hid (dl_small hn2)
    have HNO := hid (dl_small hn)
    have HK := hid (rOK_neg hr)
    obtain ⟨N, hN⟩ : ∃ N : Nat, -t = N := ⟨(-t).toNat, by omega⟩
    have hN' : t = -(N : Int) := by omega
    subst hN'
    rw [Int.neg_neg, Int.toNat_natCast] at EP
    have hN1 : N ≤ 1024 := by omega
    have hN0 : 0 < N := by omega
    have hneg : -(N : Int) < 0 := by omega
    have HWN := hid (pwrap (x := (N : Int)) (by omega) (by omega))
    clear h0 hin hr hf hn hn2 hN
    go_enter Tryz.func11, Tryz.ntmps11
    go_wp2_with fail
    clear hX
    refine Calls.mono HC.out ?_
    rintro e w1 ⟨rfl, hb1⟩
    have HB1 := hid hb1
    clear hb1 k0 k1 HC
    have HR1 := hid (HR.out.later HB1.out HR.out.lt)
    have HG1 := hid (HZ.out.later HB1.out HZ.out.lt)
    have HBW := hid (bt HB.out HB1.out)
    have zw1 := HBW.out.size
    clear HR HZ HB HB1
    go_upto_region 6 with fail
    refine pw_region6 w1 w.heap.size f n HR1 HIN _ _ _ _ _ _ _ _ _ _ _ _ _ _ _ _ _ _ _ _ _ _ _ _ _ _ _ _ _ _ _ _ _ _ _ _ _ _ (fun p q u29 u30 u31 u32 u33 u34 u35 u36 F6 H6 => ?_)
    obtain ⟨N7, N8, ne78, lp, lq, hb6⟩ := H6.out
    clear H6 HIN HR1
    obtain ⟨n8, a8, k8, c8, B8, D8⟩ := N8
    have HO := hid (dOpposite D8 (Nat.le_trans (D8.len HNO.out) (by omega)))
    obtain ⟨y0, y1, g0, g1⟩ := res_box B8 (Below.refl _ _)
    obtain ⟨wa, wb⟩ := HWN.out
    go_wp2_with fail
    clear wa wb
    refine Calls.mono HO.out ?_
    rintro e F7 ⟨m8, e8, j8, d8, rfl, D9', hb7⟩
    obtain ⟨A0, A1, x0, x1, ⟨r0, r1⟩, ⟨f0, f1⟩, HA⟩ := rchain2 (B8.later hb7 B8.lt) (by decide) (.bool m8) (.slice e8 j8 d8)
    have HN7 := hid ((N7.later hb7).chain ne78 HA.out.2.1 HA.out.2.2.1)
    have HN8 : Hid (NB A1 q (-n)) := ⟨m8, e8, j8, d8, HA.out.1, D9'.chain HA.out.2.2.1⟩
    have HBY := hid (HA.out.2.2.2.1 _ _ lq (bt hb6 hb7))
    clear N7 B8 D8 hb6 hb7 HO y0 y1 g0 g1 HA D9'
    obtain ⟨n7, a7, k7, c7, B7, D7⟩ := HN7.out
    obtain ⟨n8, a8, k8, c8, B8, D8⟩ := HN8.out
    go_upto_region 10 with fail
    refine pw_region10 A1 p n7 a7 k7 c7 f (hid B7) (hid D7) (hid (Nat.le_trans (D7.len HF.out) (by omega))) q n8 a8 k8 c8 (-n) (hid B8) (hid D8) (hid (Nat.le_trans (D8.len HNN.out) (by omega))) (hid (dl_le (dl_mul HF.out HF.out) (by decide))) (hid (dl_le (dl_mul HNN.out HNN.out) (by decide))) _ _ _ _ _ _ _ _ _ _ _ _ _ _ _ _ _ _ _ _ _ _ _ _ _ _ _ _ _ _ _ _ _ _ _ _ _ _ _ _ _ _ _ _ _ _ _ _ _ _ (fun p9 u43 u44 u45 u46 u47 u48 u49 F10 H10 => ?_)
    clear B7 D7 B8 D8
    obtain ⟨N9, l9, hb10⟩ := H10.out
    have HM7 := hid (HN7.out.later hb10)
    have HM8 := hid (HN8.out.later hb10)
    have HM9 := hid N9
    have HB10 := hid (bt HBY.out hb10)
    have lp2 := HM7.out.lt
    have lq2 := HM8.out.lt
    have lp9 := HM9.out.lt
    clear HN7 HN8 N9 hb10 H10 HBY
    have HO1 := hid (dOf 1 F10 (by omega) (by omega))
    go_wp2_with fail
    refine Calls.mono HO1.out ?_
    rintro e V1 ⟨m1, e1, j1, d1, rfl, E1, hv1⟩
    have HO2 := hid (dOf 0 V1 (by omega) (by omega))
    go_wp2_with fail
    refine Calls.mono HO2.out ?_
    rintro e V2 ⟨m2, e2, j2, d2, rfl, E2, hv2⟩
    have HO3 := hid (dOf 1 V2 (by omega) (by omega))
    go_wp2_with fail
    refine Calls.mono HO3.out ?_
    rintro e V3 ⟨m3, e3, j3, d3, rfl, E3, hv3⟩
    clear HO1 HO2 HO3
    have HBV := hid (bt hv1 (bt hv2 hv3))
    have HE1 := hid (E1.later (bt hv2 hv3))
    have HE2 := hid (E2.later hv3)
    have HE3 := hid E3
    clear E1 E2 E3 hv1 hv2 hv3
    have HX3 := hid (boxes3t V3 59 59 59 #[.bool false, .slice none 0 0] #[.bool false, .slice none 0 0] #[.bool false, .slice none 0 0])
    obtain ⟨Y3, hY3⟩ : ∃ Y3, ((V3.alloc (.cells #[.bool false, .slice none 0 0] 59)).alloc (.cells #[.bool false, .slice none 0 0] 59)).alloc (.cells #[.bool false, .slice none 0 0] 59) = Y3 := ⟨_, rfl⟩
    rw [hY3] at HX3
    obtain ⟨A0, A1, x0, x1, ⟨r0, r1⟩, ⟨f0, f1⟩, HA⟩ := rchain2 HX3.out.1 (by decide) (.bool m1) (.slice e1 j1 d1)
    have HA11 := hid (HA.out.2.1 _ _ _ (show V3.heap.size + 1 ≠ V3.heap.size by omega) HX3.out.2.1)
    have HA12 := hid (HA.out.2.1 _ _ _ (show V3.heap.size + 1 + 1 ≠ V3.heap.size by omega) HX3.out.2.2.1)
    obtain ⟨C0, C1, x2, x3, ⟨r2, r3⟩, ⟨f2, f3⟩, HCC⟩ := rchain2 HA11.out (by decide) (.bool m2) (.slice e2 j2 d2)
    have HC12 := hid (HCC.out.2.1 _ _ _ (show V3.heap.size + 1 + 1 ≠ V3.heap.size + 1 by omega) HA12.out)
    obtain ⟨G0, G1, x4, x5, ⟨r4, r5⟩, ⟨f4, f5⟩, HG⟩ := rchain2 HC12.out (by decide) (.bool m3) (.slice e3 j3 d3)
    have hbX := hid (bt HBV.out HX3.out.2.2.2)
    have HS : Hid (∀ base v n xs, V3.ownsRow base 66 1 v n xs → G1.ownsRow base 66 1 v n xs) := fun base v n xs h => HG.out.2.2.1 _ _ _ _ (HCC.out.2.2.1 _ _ _ _ (HA.out.2.2.1 _ _ _ _ (owns_later h HX3.out.2.2.2)))
    have HT : Hid (∀ p t' vs, p < V3.heap.size → Box F10 p t' vs → Box G1 p t' vs) := fun p t' vs hp h => HG.out.2.1 _ _ _ (by omega) (HCC.out.2.1 _ _ _ (by omega) (HA.out.2.1 _ _ _ (by omega) (h.later hbX.out h.lt)))
    have hV3 := HBV.out.size
    have HNB : Hid (∀ b t, NB F10 b t → NB G1 b t) := fun b t h => by
      obtain ⟨n, a, k, c, h1, xs, e, h2, h3⟩ := h
      exact ⟨n, a, k, c, HT.out _ _ _ (by have := h1.lt; omega) h1, xs, e, HS.out _ _ _ _ (owns_later h2 HBV.out), h3⟩
    have hf10 := HB10.out.size
    have HPI : Hid (PI w (w.heap.size + 1) p q p9 V3.heap.size (V3.heap.size + 1) (V3.heap.size + 1 + 1) f (-n) (f * f + (-n) * (-n)) (zpow (f, (-n)) 0).1 (zpow (f, (-n)) 0).2 ((f * f + (-n) * (-n)) ^ ((0 + 1) / 2)) G1) := by
      refine ⟨?_, HT.out _ _ _ (by have := HG1.out.lt; omega) (HG1.out.later HB10.out HG1.out.lt), HNB.out _ _ HM7.out, HNB.out _ _ HM8.out, HNB.out _ _ HM9.out, ?_, ?_, ?_, by omega, by omega, by omega, by omega⟩
      · exact HG.out.2.2.2.1 _ _ (by omega) (HCC.out.2.2.2.1 _ _ (by omega) (HA.out.2.2.2.1 _ _ (by omega) (bt (bt HBW.out HB10.out) hbX.out)))
      · exact ⟨_, _, _, _, HG.out.2.1 _ _ _ (by omega) (HCC.out.2.1 _ _ _ (by omega) HA.out.1), HE1.out.chain HS.out⟩
      · exact ⟨_, _, _, _, HG.out.2.1 _ _ _ (by omega) HCC.out.1, HE2.out.chain HS.out⟩
      · rw [show (0 + 1) / 2 = 0 from rfl, Int.pow_zero]
        exact ⟨_, _, _, _, HG.out.1, HE3.out.chain HS.out⟩
    clear HS HT HNB HE1 HE2 HE3 HM7 HM8 HM9 HA HCC HG HX3 HBV hbX HA11 HA12 HC12
    go_wp2_with fail
    clear hY3 x0 x1 x2 x3 x4 x5 r0 r1 r2 r3 r4 r5 f0 f1 f2 f3 f4 f5
    have HWR : Hid (∀ x : Int, 0 ≤ x → x ≤ 1000000 → IntKind.i64.wrap x = x ∧ wrap64 x = x) := fun x h0 h1 => pwrap h0 h1
    have HW2 := hid (HWR.out (2 * (N : Int)) (by omega) (by omega))
    go_loopw [13] (fun v wr => ∃ i : Nat, i ≤ 2 * N ∧ v = .int .i64 (i : Int) ∧ Hid (PI w (w.heap.size + 1) p q p9 V3.heap.size (V3.heap.size + 1) (V3.heap.size + 1 + 1) f (-n) (f * f + (-n) * (-n)) (zpow (f, (-n)) i).1 (zpow (f, (-n)) i).2 ((f * f + (-n) * (-n)) ^ ((i + 1) / 2)) wr)) (fun v _ => 2 * N - (intOf v).toNat)
    case atStart => exact ⟨0, by omega, rfl, HPI⟩
    case round =>
      clear HPI
      obtain ⟨i, hi, rfl, HI⟩ := hrel
      obtain ⟨S10, S11⟩ := doc_sz HK.out i (by omega)
      have SD := doc_den HK.out ((i + 1) / 2) (by omega)
      have SB := doc_den HK.out 1 (by omega)
      rw [Int.pow_one] at SB
      have HS := hid (And.intro S10 (And.intro S11 (And.intro SD SB.1)))
      clear S10 S11 SD SB
      rcases Nat.lt_or_ge i (2 * N) with hlt | hge
      · have hlt2 : (i : Int) < 2 * (N : Int) := by omega
        obtain ⟨n7, a7, k7, c7, B7, D7⟩ := HI.out.h7
        obtain ⟨n8, a8, k8, c8, B8, D8⟩ := HI.out.h8
        obtain ⟨n10, a10, k10, c10, B10, D10⟩ := HI.out.h10
        obtain ⟨n11, a11, k11, c11, B11, D11⟩ := HI.out.h11
        obtain ⟨wa, wb⟩ := HW2.out
        go_upto_region 15 with fail
        clear wa wb
        refine pw_region15 wr p n7 a7 k7 c7 f (hid B7) (hid D7) (hid (Nat.le_trans (D7.len HF.out) (by omega))) q n8 a8 k8 c8 (-n) (hid B8) (hid D8) (hid (Nat.le_trans (D8.len HNN.out) (by omega))) V3.heap.size n10 a10 k10 c10 (zpow (f, (-n)) i).1 (hid B10) (hid D10) (hid (Nat.le_trans (D10.len HS.out.1) (by omega))) (V3.heap.size + 1) n11 a11 k11 c11 (zpow (f, (-n)) i).2 (hid B11) (hid D11) (hid (Nat.le_trans (D11.len HS.out.2.1) (by omega))) (hid (dl_le (dl_mul HS.out.1 HF.out) (by decide))) (hid (dl_le (dl_mul HS.out.2.1 HNN.out) (by decide))) _ _ _ _ _ _ _ _ _ _ _ _ _ _ _ _ _ _ _ _ _ _ _ _ _ _ _ _ _ _ _ _ _ _ _ _ _ _ _ _ _ _ _ _ _ _ _ _ _ _ _ _ _ _ _ _ _ _ _ _ _ _ _ _ (fun bx u59 u60 u61 u62 u63 u64 u65 F15 H15 => ?_)
        clear B7 D7 B8 D8 B10 D10 B11 D11
        obtain ⟨NX, lx, hb15⟩ := H15.out
        have HNX := hid NX
        have HB15 := hid hb15
        clear NX hb15 H15
        obtain ⟨n7, a7, k7, c7, B7, D7⟩ := HI.out.h7.later HB15.out
        obtain ⟨n8, a8, k8, c8, B8, D8⟩ := HI.out.h8.later HB15.out
        obtain ⟨n10, a10, k10, c10, B10, D10⟩ := HI.out.h10.later HB15.out
        obtain ⟨n11, a11, k11, c11, B11, D11⟩ := HI.out.h11.later HB15.out
        go_upto_region 16 with fail
        refine pw_region16 F15 p n7 a7 k7 c7 f (hid B7) (hid D7) (hid (Nat.le_trans (D7.len HF.out) (by omega))) q n8 a8 k8 c8 (-n) (hid B8) (hid D8) (hid (Nat.le_trans (D8.len HNN.out) (by omega))) V3.heap.size n10 a10 k10 c10 (zpow (f, (-n)) i).1 (hid B10) (hid D10) (hid (Nat.le_trans (D10.len HS.out.1) (by omega))) (V3.heap.size + 1) n11 a11 k11 c11 (zpow (f, (-n)) i).2 (hid B11) (hid D11) (hid (Nat.le_trans (D11.len HS.out.2.1) (by omega))) (hid (dl_le (dl_mul HS.out.1 HNN.out) (by decide))) (hid (dl_le (dl_mul HS.out.2.1 HF.out) (by decide))) _ _ _ _ _ _ _ _ _ _ _ _ _ _ _ _ _ _ _ _ _ _ _ _ _ _ _ _ _ _ _ _ _ _ _ _ _ _ _ _ _ _ _ _ _ _ _ _ _ _ _ _ _ _ _ _ _ _ _ _ _ _ _ _ _ _ _ _ _ _ _ (fun by_ u66 u67 u68 u69 u70 u71 u72 F16 H16 => ?_)
        clear B7 D7 B8 D8 B10 D10 B11 D11
        obtain ⟨NY, ly, hb16⟩ := H16.out
        have HNY := hid NY
        have HB16 := hid (bt HB15.out hb16)
        have HNX2 := hid (HNX.out.later hb16)
        have l10 := HI.out.h10.lt
        have l11 := HI.out.h11.lt
        have z15 := HB15.out.size
        clear NY H16 HNX
        obtain ⟨n14, a14, k14, c14, B14, D14⟩ := HNX2.out
        obtain ⟨n15, a15, k15, c15, B15, D15⟩ := HNY.out
        obtain ⟨n10, a10, k10, c10, B10, D10⟩ := HI.out.h10.later HB16.out
        obtain ⟨n11, a11, k11, c11, B11, D11⟩ := HI.out.h11.later HB16.out
        go_upto_region 17 with fail
        refine pw_region17 F16 V3.heap.size (V3.heap.size + 1) _ _ _ _ bx n14 a14 k14 c14 _ (hid B14) (hid D14) by_ n15 a15 k15 c15 _ (hid B15) (hid D15) (hid B10) (hid B11) (by omega) (by omega) (by omega) (by omega) (by omega) _ _ _ _ _ _ _ _ _ _ _ _ _ _ _ _ _ _ _ _ _ _ _ _ _ _ _ _ _ _ _ _ _ _ _ _ _ _ _ _ _ _ _ _ _ _ _ _ _ _ _ _ _ _ _ _ _ _ _ _ _ _ _ _ _ _ _ _ _ _ _ _ _ (fun u73 u74 F17 H17 => ?_)
        clear B14 D14 B15 D15 B10 D10 B11 D11
        have HI2 := hid (HI.out.moved HB16.out H17.out)
        rw [← (doc_step f (-n) i).1, ← (doc_step f (-n) i).2] at HI2
        clear HI H17 HB16 HB15 HNX2 HNY l10 l11 z15 lx ly
        have HWI := hid (HWR.out ((i : Int) + 1) (by omega) (by omega))
        rcases Nat.mod_two_eq_zero_or_one i with hpar | hpar
        · have he : Int.tmod (i : Int) 2 = 0 := by rw [Int.tmod_eq_emod_of_nonneg (by omega)]; omega
          obtain ⟨n12, a12, k12, c12, B12, D12⟩ := HI2.out.h12
          obtain ⟨n9, a9, k9, c9, B9, D9⟩ := HI2.out.h9
          have HP := hid (dProduct D12 D9 (Nat.le_trans (D12.len HS.out.2.2.1.1) (by omega)) (Nat.le_trans (D9.len HS.out.2.2.2) (by omega)))
          obtain ⟨y0, y1, g0, g1⟩ := res_box B12 (Below.refl _ _)
          obtain ⟨y2, y3, _, _⟩ := res_box B9 (Below.refl _ _)
          go_upto_region 19 with fail
          go_wp2_with fail
          refine Calls.mono HP.out ?_
          rintro e F19 ⟨m19, e19, j19, d19, rfl, D19, hb19⟩
          obtain ⟨A0, A1', x0, x1, ⟨r0, r1⟩, ⟨f0, f1⟩, HA⟩ := rchain2 (B12.later hb19 B12.lt) (by decide) (.bool m19) (.slice e19 j19 d19)
          have HI3 := hid (HI2.out.den hb19 D19 HA.out)
          have ed : (f * f + (-n) * (-n)) ^ ((i + 1) / 2) * (f * f + (-n) * (-n)) = (f * f + (-n) * (-n)) ^ ((i + 1 + 1) / 2) := by
            rw [show (i + 1 + 1) / 2 = (i + 1) / 2 + 1 by omega, Int.pow_succ]
          rw [ed] at HI3
          clear HI2 HA B12 D12 B9 D9 D19 hb19 HP ed y0 y1 g0 g1 y2 y3
          obtain ⟨wa, wb⟩ := HWI.out
          go_wp2_with fail
          clear wa wb
          go_roundw
          case rel => exact ⟨i + 1, by omega, rfl, HI3⟩
          case measure => first | (simp [intOf]; omega) | (simp [intOf]; done)
        · have he : Int.tmod (i : Int) 2 = 1 := by rw [Int.tmod_eq_emod_of_nonneg (by omega)]; omega
          have HI3 := HI2
          rw [show (i + 1) / 2 = (i + 1 + 1) / 2 by omega] at HI3
          clear HI2
          obtain ⟨wa, wb⟩ := HWI.out
          go_wp2_with fail
          clear wa wb
          go_roundw
          case rel => exact ⟨i + 1, by omega, rfl, HI3⟩
          case measure => first | (simp [intOf]; omega) | (simp [intOf]; done)
      · have hiN : i = 2 * N := by omega
        subst hiN
        have hge2 : ¬ ((2 * N : Nat) : Int) < 2 * (N : Int) := by omega
        have hN2 : (2 * N + 1) / 2 = N := by omega
        rw [hN2] at HI HS
        have HDP := hid (doc_pow HK.out N)
        obtain ⟨n10, a10, k10, c10, B10, D10⟩ := HI.out.h10
        obtain ⟨n11, a11, k11, c11, B11, D11⟩ := HI.out.h11
        obtain ⟨n12, a12, k12, c12, B12, D12⟩ := HI.out.h12
        have q12 := HS.out.2.2.1.2
        have N4 := HI.out.n4
        have HBX := HI.out.bx
        have HLW := hid (HI.out.bel.size)
        obtain ⟨wa, wb⟩ := HW2.out
        go_upto_region 20 with fail
        clear wa wb
        refine pw_region20 wr w.heap.size (w.heap.size + 1) V3.heap.size n10 a10 k10 c10 _ (hid B10) (hid D10) (hid (Nat.le_trans (D10.len HS.out.1) (by omega))) (hid N4.1) (V3.heap.size + 1) n11 a11 k11 c11 _ (hid B11) (hid D11) (hid (Nat.le_trans (D11.len HS.out.2.1) (by omega))) (hid N4.2.1) (V3.heap.size + 1 + 1) n12 a12 k12 c12 _ (hid B12) (hid D12) (hid (Nat.le_trans (D12.len HS.out.2.2.1.1) (by omega))) (hid N4.2.2) (hid HBX) (hid q12) HLW _ _ _ _ _ _ _ _ _ _ _ _ _ _ _ _ _ _ _ _ _ _ _ _ _ _ _ _ _ _ _ _ _ _ _ _ _ _ _ _ _ _ _ _ _ _ _ _ _ _ _ _ _ _ _ _ _ _ _ _ _ _ _ _ _ _ _ _ _ _ _ _ _ _ _ _ _ _ _ _ _ _ _ _ _ _ (fun e1 j1 d1 g1 i1 h1 e2 j2 d2 g2 i2 h2 u81 u82 u83 u84 u85 u86 u87 F H => ?_)
        clear B10 D10 B11 D11 B12 D12 HBX
        obtain ⟨HBB, ⟨zs, ds, rfl, rfl, o1, o2, w1', w2', c1', q1'⟩, ⟨zs2, ds2, rfl, rfl, o3, o4, w3', w4', c3', q3'⟩, hbel⟩ := H.out
        have HFB := hid (hbel w.heap.size w (by omega) HLW.out HI.out.bel)
        have HBF := hid HBB
        have HO := hid (And.intro o1 (And.intro o2 (And.intro o3 o4)))
        have HV := hid (And.intro w1' (And.intro w2' (And.intro w3' w4')))
        have HQ := hid (And.intro c1' (And.intro q1' (And.intro c3' q3')))
        clear H HBB o1 o2 o3 o4 w1' w2' w3' w4' c1' q1' c3' q3' hbel
        go_wp2_with fail
        refine bodyPost_ret (gres_run (by rfl) HBF.out _ (by rfl)) rfl ?_
        rw [EP.out]
        exact ⟨⟨n10, e1, d1, zs, g1, h1, ds, n11, e2, d2, zs2, g2, h2, ds2⟩, rfl, HO.out, ⟨⟨HQ.out.1, HQ.out.2.1.trans HDP.out.1⟩, ⟨HQ.out.2.2.1, HQ.out.2.2.2.trans HDP.out.2⟩, HV.out⟩, HFB.out⟩
end Go.Proofs.YtcfcjnlobpoglaaGreat

/- What the program and the document tell of any rotor and any power, refused or not, each by one contract. -/
namespace Go.Proofs.YtcfcjnlobpoglaaGreat
open Go.RowKit
set_option linter.unusedVariables false
set_option linter.unusedSimpArgs false

theorem pgood_same {n m : Bool} {xs ys us vs : List Int} (wx : Wd xs) (wy : Wd ys) (wu : Wd us) (wv : Wd vs) (a2 : rchk n xs ys = 0) (b2 : rchk m us vs = 0) (a3 : rq n xs ys = rq m us vs) : n = m ∧ xs = us ∧ ys = vs := by
  obtain ⟨_, _, tx, ty, y0, sx, gx⟩ := rchk_ok a2
  obtain ⟨_, _, tu, tv, v0, su, gu⟩ := rchk_ok b2
  have py := val_pos' wy ty y0
  have pv := val_pos' wv tv v0
  have e1 := fr_inj (x := wval n xs) (d := val ys) (y := wval m us) (e := val vs) (by omega) (by rw [show wval n xs = sg n (val xs) from rfl, gcd_sg]; exact gx) (by omega) (by rw [show wval m us = sg m (val us) from rfl, gcd_sg]; exact gu) a3
  have e2 : n = m ∧ xs = us := by
    have x0 := val_nonneg wx
    have u0 := val_nonneg wu
    have e3 := e1.1
    cases n <;> cases m
    · exact ⟨rfl, trimmed_eq wx wu tx tu e3⟩
    · have e4 : val xs = -(val us) := e3
      have := val_pos' wu tu (su.elim (fun e => by cases e) id)
      omega
    · have e4 : -(val xs) = val us := e3
      have := val_pos' wx tx (sx.elim (fun e => by cases e) id)
      omega
    · have e4 : -(val xs) = -(val us) := e3
      exact ⟨rfl, trimmed_eq wx wu tx tu (by omega)⟩
  exact ⟨e2.1, e2.2, trimmed_eq wy wv ty tv e1.2⟩
/-- Nothing. -/
def gZ : G6 := ⟨false, none, 0, [], none, 0, [], false, none, 0, [], none, 0, []⟩
/-- What is told: this number where the code is 0, else nothing. -/
def Oq (E : Int) (q1 q2 : Rat) (r : G6) : Prop := (E = 0 ∧ r.Is q1 q2) ∨ (E ≠ 0 ∧ r = gZ)
theorem Oq.wd {E : Int} {q1 q2 : Rat} {r : G6} (h : Oq E q1 q2 r) : (Wd r.xs ∧ Wd r.ys ∧ Wd r.us ∧ Wd r.vs) ∧ r.xs.length ≤ 2048 ∧ r.ys.length ≤ 2048 ∧ r.us.length ≤ 2048 ∧ r.vs.length ≤ 2048 := by
  rcases h with ⟨_, h⟩ | ⟨_, rfl⟩
  · exact ⟨h.2.2, h.len⟩
  · exact ⟨⟨Wd.nil, Wd.nil, Wd.nil, Wd.nil⟩, by decide⟩
theorem Oq.sl {E : Int} {q1 q2 : Rat} {r : G6} (h : Oq E q1 q2 r) {V : World} {base : Nat} (o : r.Ow V base) : r.Sl4 V := ⟨Sl.own o.1 h.wd.1.1, Sl.own o.2.1 h.wd.1.2.1, Sl.own o.2.2.1 h.wd.1.2.2.1, Sl.own o.2.2.2 h.wd.1.2.2.2⟩
theorem Oq.one {E : Int} {q1 q2 : Rat} {r s : G6} (h : Oq E q1 q2 r) (g : Oq E q1 q2 s) : r.n = s.n ∧ r.xs = s.xs ∧ r.ys = s.ys ∧ r.m = s.m ∧ r.us = s.us ∧ r.vs = s.vs := by
  rcases h with ⟨e, h⟩ | ⟨e, rfl⟩
  · rcases g with ⟨_, g⟩ | ⟨e', _⟩
    · obtain ⟨a1, a2, a3⟩ := pgood_same h.2.2.1 h.2.2.2.1 g.2.2.1 g.2.2.2.1 h.1.1 g.1.1 (h.1.2.trans g.1.2.symm)
      obtain ⟨b1, b2, b3⟩ := pgood_same h.2.2.2.2.1 h.2.2.2.2.2 g.2.2.2.2.1 g.2.2.2.2.2 h.2.1.1 g.2.1.1 (h.2.1.2.trans g.2.1.2.symm)
      exact ⟨a1, a2, a3, b1, b2, b3⟩
    · exact absurd e e'
  · rcases g with ⟨e', _⟩ | ⟨_, rfl⟩
    · exact absurd e' e
    · exact ⟨rfl, rfl, rfl, rfl, rfl, rfl⟩
/-- The same of the kit's SameGauss: two that are told alike are the same. -/
theorem Oq.same {E : Int} {q1 q2 : Rat} {r s : G6} (h : Oq E q1 q2 r) (g : Oq E q1 q2 s) (V : World) (o1 : r.Sl4 V) (o2 : s.Sl4 V) :
    Calls Tryz.prog 17 #[.agg #[.bool r.n, .slice r.a r.xs.length r.ca, .slice r.b r.ys.length r.cb, .bool r.m, .slice r.c r.us.length r.cc, .slice r.d r.vs.length r.cd], .agg #[.bool s.n, .slice s.a s.xs.length s.ca, .slice s.b s.ys.length s.cb, .bool s.m, .slice s.c s.us.length s.cc, .slice s.d s.vs.length s.cd]] V fun e w' => e = .returned (.bool true) ∧ Below V.heap.size V w' := by
  obtain ⟨e1, e2, e3, e4, e5, e6⟩ := h.one g
  have l := h.wd.2
  obtain ⟨n, a, ca, xs, b, cb, ys, m, c, cc, us, d, cd, vs⟩ := r
  obtain ⟨n2, a2, ca2, xs2, b2, cb2, ys2, m2, c2, cc2, us2, d2, cd2, vs2⟩ := s
  simp only at e1 e2 e3 e4 e5 e6 l ⊢
  subst e1 e2 e3 e4 e5 e6
  exact ksameGauss_eq n a ca xs b cb ys m c cc us d cd vs a2 ca2 b2 cb2 c2 cc2 d2 cd2 V o1.1 o1.2.1 o1.2.2.1 o1.2.2.2 o2.1 o2.2.1 o2.2.2.1 o2.2.2.2 (by omega) (by omega) (by omega) (by omega)
/-- What is told, in new memory; with where its rows lie. -/
def OGq (w : World) (E : Int) (q1 q2 : Rat) (x : Ending) (w' : World) : Prop := ∃ r : G6, x = .returned (.tuple #[.agg #[.bool r.n, .slice r.a r.xs.length r.ca, .slice r.b r.ys.length r.cb, .bool r.m, .slice r.c r.us.length r.cc, .slice r.d r.vs.length r.cd], .int .i64 E]) ∧ Hid (r.Ow w' w.heap.size) ∧ Hid (Oq E q1 q2 r) ∧ Hid (Below w.heap.size w w') ∧ Hid (∃ W1, Cut w (.slice r.a r.xs.length r.ca) (.slice r.b r.ys.length r.cb) W1 ∧ Cut W1 (.slice r.c r.us.length r.cc) (.slice r.d r.vs.length r.cd) w')
def PGq (w : World) (E : Int) (q1 q2 : Rat) (x : Ending) (w' : World) : Prop := ∃ r : G6, x = .returned (.tuple #[.agg #[.bool r.n, .slice r.a r.xs.length r.ca, .slice r.b r.ys.length r.cb, .bool r.m, .slice r.c r.us.length r.cc, .slice r.d r.vs.length r.cd], .int .i64 E]) ∧ Hid (r.Ow w' w.heap.size) ∧ Hid (Oq E q1 q2 r) ∧ Hid (Below w.heap.size w w')
theorem gZ_ow (V : World) (base : Nat) : gZ.Ow V base := ⟨World.ownsRow_nil _ _ _ _, World.ownsRow_nil _ _ _ _, World.ownsRow_nil _ _ _ _, World.ownsRow_nil _ _ _ _⟩
theorem pcut_none (w w' : World) (h : w.heap.size ≤ w'.heap.size) : Cut w (.slice none 0 0) (.slice none 0 0) w' := ⟨w.heap.size, Nat.le_refl _, h, fun g hg => by simp [Value.ownBlock] at hg, fun g hg => by simp [Value.ownBlock] at hg⟩
theorem ogq_bad {w : World} {E : Int} {q1 q2 : Rat} {w' : World} (h : E ≠ 0) (hb : Below w.heap.size w w') : OGq w E q1 q2 (.returned (.tuple #[.agg #[.bool false, .slice none 0 0, .slice none 0 0, .bool false, .slice none 0 0, .slice none 0 0], .int .i64 E])) w' := ⟨gZ, rfl, gZ_ow _ _, .inr ⟨h, rfl⟩, hb, w', pcut_none _ _ hb.size, pcut_none _ _ (Nat.le_refl _)⟩
theorem pgq_bad {w : World} {E : Int} {q1 q2 : Rat} {w' : World} (h : E ≠ 0) (hb : Below w.heap.size w w') : PGq w E q1 q2 (.returned (.tuple #[.agg #[.bool false, .slice none 0 0, .slice none 0 0, .bool false, .slice none 0 0, .slice none 0 0], .int .i64 E])) w' := ⟨gZ, rfl, gZ_ow _ _, .inr ⟨h, rfl⟩, hb⟩
open Classical in
/-- The code of a power. -/
noncomputable def pwE (f n t : Int) : Int := if rOK f n ∧ -1024 ≤ t ∧ t ≤ 1024 then 0 else if rOK f n then 2 else 150
theorem pwE_bad {f n t : Int} (h : ¬ (rOK f n ∧ -1024 ≤ t ∧ t ≤ 1024)) : (¬ rOK f n ∨ (rOK f n ∧ (t < -1024 ∨ 1024 < t))) ∧ pwE f n t ≠ 0 ∧ (∀ [Decidable (rOK f n)], (if rOK f n then (2 : Int) else 150) = pwE f n t) := by
  refine ⟨?_, ?_, ?_⟩
  · by_cases hr : rOK f n
    · have h' : ¬ (-1024 ≤ t ∧ t ≤ 1024) := fun q => h ⟨hr, q⟩
      exact .inr ⟨hr, by omega⟩
    · exact .inl hr
  · unfold pwE
    rw [if_neg h]
    by_cases hr : rOK f n
    · rw [if_pos hr]; decide
    · rw [if_neg hr]; decide
  · intro _
    unfold pwE
    rw [if_neg h]
    by_cases hr : rOK f n
    · rw [if_pos hr, if_pos hr]
    · rw [if_neg hr, if_neg hr]
theorem oPowerQ (f n t : Int) (w : World) (hi : in32 f n) (t0 : -9223372036854775808 ≤ t) (t1 : t ≤ 9223372036854775807) :
    Calls Tryz.prog 10 #[.agg #[.int .i32 f, .int .i32 n], .int .i64 t] w (OGq w (pwE f n t) (oP f n t).1 (oP f n t).2) := by
  by_cases h : rOK f n ∧ -1024 ≤ t ∧ t ≤ 1024
  · have e : pwE f n t = 0 := by unfold pwE; rw [if_pos h]
    rw [e]
    refine Calls.mono (oPower_any f n t w h.1 h.2.1 h.2.2) ?_
    rintro x w' ⟨r, rfl, o, i, hb, hc⟩
    exact ⟨r, rfl, o, .inl ⟨rfl, i.out⟩, hb, hc⟩
  · obtain ⟨h1, h2, h3⟩ := pwE_bad h
    refine Calls.mono (oPower_bad f n t w hi t0 t1 h1) ?_
    rintro x w' ⟨rfl, hb⟩
    rw [h3]
    exact ogq_bad h2 hb
theorem pPowerQ (f n t : Int) (w : World) (hi : in32 f n) (t0 : -9223372036854775808 ≤ t) (t1 : t ≤ 9223372036854775807) :
    Calls Tryz.prog 11 #[.agg #[.int .i32 f, .int .i32 n], .int .i64 t] w (PGq w (pwE f n t) (oP f n t).1 (oP f n t).2) := by
  by_cases h : rOK f n ∧ -1024 ≤ t ∧ t ≤ 1024
  · have e : pwE f n t = 0 := by unfold pwE; rw [if_pos h]
    rw [e]
    refine Calls.mono (ppower_any f n t w h.1 h.2.1 h.2.2) ?_
    rintro x w' ⟨r, rfl, o, i, hb⟩
    exact ⟨r, rfl, o, .inl ⟨rfl, i.out⟩, hb⟩
  · obtain ⟨h1, h2, h3⟩ := pwE_bad h
    refine Calls.mono (ppower_bad f n t w hi t0 t1 h1) ?_
    rintro x w' ⟨rfl, hb⟩
    rw [h3]
    exact pgq_bad h2 hb
theorem pwE_one (f n : Int) : pwE f n 1 = ochk f n := by
  unfold pwE ochk
  by_cases hr : rOK f n
  · rw [if_pos ⟨hr, by decide⟩, if_pos hr]
  · rw [if_neg (fun h => hr h.1), if_neg hr, if_neg hr]
theorem oP_first (f n : Int) : oP f n 1 = (Rat.divInt (oRe f n) (oNm f n), Rat.divInt (oIm f n) (oNm f n)) := by
  have e : oP f n 1 = oPn f n 1 := by unfold oP; rw [if_pos (by decide)]; rfl
  rw [e]
  unfold oPn
  rw [zpow_one, Int.pow_one]
set_option maxHeartbeats 3200000 in
set_option maxRecDepth 100000 in
theorem oOfQ (f n : Int) (w : World) (hi : in32 f n) :
    Calls Tryz.prog 6 #[.agg #[.int .i32 f, .int .i32 n]] w (OGq w (ochk f n) (oP f n 1).1 (oP f n 1).2) := by
  by_cases hr : rOK f n
  · have e : ochk f n = 0 := by unfold ochk; rw [if_pos hr]
    have hl := o_low hr 1
    have hp := oNm_pos hr 1
    rw [zpow_one, Int.pow_one] at hl
    rw [Int.pow_one] at hp
    rw [e, oP_first]
    refine Calls.mono (oOf_good f n w hr) ?_
    rintro x w' ⟨g, h, a1, c1, a2, c2, a3, c3, a4, c4, rfl, o, ig, ih, hb, hc⟩
    have ig' := ig.out
    have ih' := ih.out
    rw [o_div1, o_div1] at ig' ih'
    have q := onum_is (g := g) (h := h) (z := (oRe f n, oIm f n)) (M := oNm f n) ⟨ig', ih'⟩ hp hl.1 hl.2 a1 c1 a2 c2 a3 c3 a4 c4
    exact ⟨oNum g h a1 c1 a2 c2 a3 c3 a4 c4, rfl, o, .inl ⟨rfl, q⟩, hb, hc⟩
  · have e : ochk f n = 150 := by unfold ochk; rw [if_neg hr]
    obtain ⟨X, hX⟩ : ∃ X, (w.alloc (.cells #[.int .i32 f, .int .i32 n] 23)).alloc (.cells #[.bool false, .slice none 0 0, .slice none 0 0, .bool false, .slice none 0 0, .slice none 0 0] 28) = X := ⟨_, rfl⟩
    have HB : Hid (Below w.heap.size w X) := by rw [← hX]; exact bt (alloc_later _ _) (alloc_later _ _)
    have HR : Hid (Box X w.heap.size 23 #[.int .i32 f, .int .i32 n]) := by rw [← hX]; exact (Box.made w _ _).later (alloc_later _ _) (Box.made w _ _).lt
    have HZ : Hid (Box X (w.heap.size + 1) 28 #[.bool false, .slice none 0 0, .slice none 0 0, .bool false, .slice none 0 0, .slice none 0 0]) := by
      have q := Box.made (w.alloc (.cells #[.int .i32 f, .int .i32 n] 23)) 28 #[.bool false, .slice none 0 0, .slice none 0 0, .bool false, .slice none 0 0, .slice none 0 0]
      rw [show (w.alloc (.cells #[.int .i32 f, .int .i32 n] 23)).heap.size = w.heap.size + 1 by simp, hX] at q
      exact q
    have HC := hid (ocheck_any f n X hi)
    rw [e] at HC
    rw [e]
    have k0 : X.cell? ⟨w.heap.size, 0, none⟩ = some (.int .i32 f) := HR.out.cell 0
    have k1 : X.cell? ⟨w.heap.size, 1, none⟩ = some (.int .i32 n) := HR.out.cell 1
    clear e hr hi
    go_enter Tryz.func6, Tryz.ntmps6
    go_wp2_with fail
    clear hX
    refine Calls.mono HC.out ?_
    rintro e w1 ⟨rfl, hb1⟩
    have HB1 := hid hb1
    clear hb1 k0 k1 HC
    obtain ⟨A0, A1, A2, A3, A4, A5, q0, q1, q2, q3, q4, q5, ⟨r0, r1, r2, r3, r4, r5⟩, ⟨f0, f1, f2, f3, f4, f5⟩, HA⟩ := rchain6 (HZ.out.later HB1.out HZ.out.lt) (by decide) (.bool false) (.slice none 0 0) (.slice none 0 0) (.bool false) (.slice none 0 0) (.slice none 0 0)
    go_wp2_with fail
    refine bodyPost_ret (gres_run (by rfl) HA.out.1 _ (by rfl)) rfl ?_
    exact ogq_bad (by decide) (HA.out.2.2.2.1 _ _ (by omega) (bt HB.out HB1.out))
set_option maxHeartbeats 3200000 in
set_option maxRecDepth 100000 in
theorem pOfQ (f n : Int) (w : World) (hi : in32 f n) :
    Calls Tryz.prog 7 #[.agg #[.int .i32 f, .int .i32 n]] w (PGq w (ochk f n) (oP f n 1).1 (oP f n 1).2) := by
  obtain ⟨X, hX⟩ : ∃ X, (w.alloc (.cells #[.int .i32 f, .int .i32 n] 23)).alloc (.cells #[.bool false, .slice none 0 0, .slice none 0 0, .bool false, .slice none 0 0, .slice none 0 0] 28) = X := ⟨_, rfl⟩
  have HB : Hid (Below w.heap.size w X) := by rw [← hX]; exact bt (alloc_later _ _) (alloc_later _ _)
  have HR : Hid (Box X w.heap.size 23 #[.int .i32 f, .int .i32 n]) := by rw [← hX]; exact (Box.made w _ _).later (alloc_later _ _) (Box.made w _ _).lt
  have HZ : Hid (Box X (w.heap.size + 1) 28 #[.bool false, .slice none 0 0, .slice none 0 0, .bool false, .slice none 0 0, .slice none 0 0]) := by
    have q := Box.made (w.alloc (.cells #[.int .i32 f, .int .i32 n] 23)) 28 #[.bool false, .slice none 0 0, .slice none 0 0, .bool false, .slice none 0 0, .slice none 0 0]
    rw [show (w.alloc (.cells #[.int .i32 f, .int .i32 n] 23)).heap.size = w.heap.size + 1 by simp, hX] at q
    exact q
  have HC := hid (pPowerQ f n 1 X hi (by decide) (by decide))
  rw [pwE_one] at HC
  have k0 : X.cell? ⟨w.heap.size, 0, none⟩ = some (.int .i32 f) := HR.out.cell 0
  have k1 : X.cell? ⟨w.heap.size, 1, none⟩ = some (.int .i32 n) := HR.out.cell 1
  clear hi
  go_enter Tryz.func7, Tryz.ntmps7
  go_wp2_with fail
  clear hX
  refine Calls.mono HC.out ?_
  rintro e w1 ⟨r, rfl, o, i, hb1⟩
  have HB1 := hb1
  clear hb1 k0 k1 HC
  obtain ⟨A0, A1, A2, A3, A4, A5, q0, q1, q2, q3, q4, q5, ⟨r0, r1, r2, r3, r4, r5⟩, ⟨f0, f1, f2, f3, f4, f5⟩, HA⟩ := rchain6 (HZ.out.later HB1.out HZ.out.lt) (by decide) (.bool r.n) (.slice r.a r.xs.length r.ca) (.slice r.b r.ys.length r.cb) (.bool r.m) (.slice r.c r.us.length r.cc) (.slice r.d r.vs.length r.cd)
  go_wp2_with fail
  have z1 := HB.out.size
  have P := HA.out.2.2.1
  refine bodyPost_ret (gres_run (by rfl) HA.out.1 _ (by rfl)) rfl ?_
  exact ⟨r, rfl, ⟨P _ _ _ _ (owns_base o.out.1 z1), P _ _ _ _ (owns_base o.out.2.1 z1), P _ _ _ _ (owns_base o.out.2.2.1 z1), P _ _ _ _ (owns_base o.out.2.2.2 z1)⟩, i, HA.out.2.2.2.1 _ _ (by omega) (bt HB.out HB1.out)⟩
end Go.Proofs.YtcfcjnlobpoglaaGreat

/- The document's answers of package rotor: Conj, Order, of every two rotors. -/
namespace Go.Proofs.YtcfcjnlobpoglaaGreat
open Go.RowKit
set_option linter.unusedVariables false
set_option linter.unusedSimpArgs false

set_option maxHeartbeats 1600000 in
set_option maxRecDepth 100000 in
theorem pconj_any (f n : Int) (w : World) (h : in32 f n) :
    Calls Tryz.prog 9 #[.agg #[.int .i32 f, .int .i32 n]] w fun e w' => e = .returned (.tuple #[.agg #[.int .i32 (rConj f n).1, .int .i32 (rConj f n).2.1], .int .i64 (rConj f n).2.2]) ∧ Below w.heap.size w w' := by
  have HX := hid (boxes2 w 23 #[.int .i32 f, .int .i32 n] #[.int .i32 0, .int .i32 0])
  have HC := hid (fun V => pcheck_any f n V h)
  rcases ochk_or f n with ⟨e0, h0⟩ | ⟨e0, h0⟩
  · have hR : rConj f n = (f, -n, 0) := if_pos h0
    rw [hR]
    rw [e0] at HC
    have hn1 : -1000 ≤ n := by have := h0.2.2.2.1; omega
    have hn2 : n ≤ 1000 := by have := h0.2.2.2.1; omega
    obtain ⟨⟨f0, f1⟩, _⟩ := h
    clear h0 hR e0
    go_enter Tryz.func9, Tryz.ntmps9
    go_wp2_with fail
    generalize (w.alloc (.cells #[.int .i32 f, .int .i32 n] 23)).alloc (.cells #[.int .i32 0, .int .i32 0] 23) = X at *
    refine Calls.mono (HC.out X) ?_
    rintro e w1 ⟨rfl, hb1⟩
    obtain ⟨c0, c1, g0, g1⟩ := fbox_facts HX.out.1 hb1
    obtain ⟨c2, c3, g2, g3⟩ := fbox_facts HX.out.2.1 hb1
    have HB := hid (b2 HX.out.2.2 hb1)
    clear HX HC hb1
    go_wp2_with fail
    refine bodyPost_ret (v := .tuple #[.agg #[.int .i32 f, .int .i32 (-n)], .int .i64 0]) (by simp [results, Tryz.results9, go_sem, c2, c3]) rfl ?_
    exact ⟨rfl, fput2 HB.out _ (by omega) _ _⟩
  · have hR : rConj f n = (0, 0, 150) := if_neg h0
    rw [hR]
    rw [e0] at HC
    clear h0 hR e0 h
    go_enter Tryz.func9, Tryz.ntmps9
    go_wp2_with fail
    generalize (w.alloc (.cells #[.int .i32 f, .int .i32 n] 23)).alloc (.cells #[.int .i32 0, .int .i32 0] 23) = X at *
    refine Calls.mono (HC.out X) ?_
    rintro e w1 ⟨rfl, hb1⟩
    obtain ⟨c0, c1, g0, g1⟩ := fbox_facts HX.out.1 hb1
    obtain ⟨c2, c3, g2, g3⟩ := fbox_facts HX.out.2.1 hb1
    have HB := hid (b2 HX.out.2.2 hb1)
    clear HX HC hb1
    go_wp2_with fail
    refine bodyPost_ret (v := .tuple #[.agg #[.int .i32 0, .int .i32 0], .int .i64 150]) (by simp [results, Tryz.results9, go_sem, c2, c3]) rfl ?_
    first | exact ⟨rfl, HB.out⟩ | exact ⟨rfl, fput2 HB.out _ (by omega) _ _⟩

/-- How the document tells the order of two rotors that may be. -/
theorem rOrd_doc {f n g m : Int} (h0 : rOK f n) (h1 : rOK g m) :
    (n * g = m * f → rOrd f n g m = (0, 0)) ∧ (¬ n * g = m * f → 0 < n → m < 0 → rOrd f n g m = (-1, 0)) ∧ (¬ n * g = m * f → n < 0 → 0 < m → rOrd f n g m = (1, 0)) ∧
    (¬ n * g = m * f → ((0 < n ∧ 0 < m) ∨ (n < 0 ∧ m < 0)) → rOrd f n g m = (if n * g < m * f then -1 else 1, 0)) := by
  have e : rOrd f n g m = (if cmpV (if 0 < n then 0 else 1) (if 0 < m then 0 else 1) = 0 then (cmpV (n * g) (m * f), 0) else (cmpV (if 0 < n then 0 else 1) (if 0 < m then 0 else 1), 0)) := by unfold rOrd; rw [if_pos h0, if_pos h1]
  have f1 := h0.1
  have g1 := h1.1
  rw [e]
  refine ⟨fun q => ?_, fun q a b => ?_, fun q a b => ?_, fun q a => ?_⟩
  · have s : (0 < n ↔ 0 < m) := by
      constructor
      · intro a
        have := Int.mul_pos a (show 0 < g by omega)
        rw [q] at this
        exact Int.pos_of_mul_pos_left this (by omega)
      · intro a
        have := Int.mul_pos a (show 0 < f by omega)
        rw [← q] at this
        exact Int.pos_of_mul_pos_left this (by omega)
    by_cases a : 0 < n
    · rw [if_pos a, if_pos (s.1 a)]; simp [cmpV, q]
    · rw [if_neg a, if_neg (fun b => a (s.2 b))]; simp [cmpV, q]
  · have nb : ¬ 0 < m := by omega
    rw [if_pos a, if_neg nb]; simp [cmpV]
  · have na : ¬ 0 < n := by omega
    rw [if_neg na, if_pos b]; simp [cmpV]
  · have s : (if 0 < n then (0 : Int) else 1) = (if 0 < m then 0 else 1) := by
      rcases a with ⟨a, b⟩ | ⟨a, b⟩
      · rw [if_pos a, if_pos b]
      · have na : ¬ 0 < n := by omega
        have nb : ¬ 0 < m := by omega
        rw [if_neg na, if_neg nb]
    rw [s]
    have z : ∀ t : Int, cmpV t t = 0 := fun t => by simp [cmpV]
    rw [z, if_pos rfl]
    unfold cmpV
    by_cases l : n * g < m * f
    · rw [if_pos l, if_pos l]
    · have l' : m * f < n * g := by omega
      rw [if_neg l, if_neg l, if_pos l']
set_option maxHeartbeats 3200000 in
set_option maxRecDepth 100000 in
theorem porder_any (f n g m : Int) (w : World) (h : in32 f n) (k : in32 g m) :
    Calls Tryz.prog 13 #[.agg #[.int .i32 f, .int .i32 n], .agg #[.int .i32 g, .int .i32 m]] w fun e w' => e = .returned (.tuple #[.int .i64 (rOrd f n g m).1, .int .i64 (rOrd f n g m).2]) ∧ Below w.heap.size w w' := by
  have HX := hid (boxes2 w 23 #[.int .i32 f, .int .i32 n] #[.int .i32 g, .int .i32 m])
  have HC1 := hid (fun V => pcheck_any f n V h)
  have HC2 := hid (fun V => pcheck_any g m V k)
  rcases ochk_or f n with ⟨e0, h0⟩ | ⟨e0, h0⟩
  · rcases ochk_or g m with ⟨e1, h1⟩ | ⟨e1, h1⟩
    · obtain ⟨D1, D2, D3, D4⟩ := rOrd_doc h0 h1
      rw [e0] at HC1
      rw [e1] at HC2
      obtain ⟨p1, p2, p3, p4, p5, _⟩ := h0
      obtain ⟨q1, q2, q3, q4, q5, _⟩ := h1
      have hn : -1000000 ≤ n * g ∧ n * g ≤ 1000000 := small_mul (by omega) (by omega) (by omega) (by omega)
      have hm : -1000000 ≤ m * f ∧ m * f ≤ 1000000 := small_mul (by omega) (by omega) (by omega) (by omega)
      have n0 : ¬ n = 0 := by omega
      have HW : Hid (∀ K : Int → Int → Prop, K (n * g) (m * f) → K (wrap64 (wrap64 n * wrap64 g)) (wrap64 (wrap64 m * wrap64 f))) := fun K hK => by
        have wn : wrap64 n = n := by unfold wrap64; omega
        have wg : wrap64 g = g := by unfold wrap64; omega
        have wm : wrap64 m = m := by unfold wrap64; omega
        have wf : wrap64 f = f := by unfold wrap64; omega
        have w1 : wrap64 (n * g) = n * g := by unfold wrap64; omega
        have w2 : wrap64 (m * f) = m * f := by unfold wrap64; omega
        rw [wn, wg, wm, wf, w1, w2]
        exact hK
      have m0 : ¬ m = 0 := by omega
      clear e0 e1 h k p1 p2 p3 p4 p5 q1 q2 q3 q4 q5
      by_cases hxy : n * g = m * f
      · rw [D1 hxy]
        have HXY := hid hxy
        clear D1 D2 D3 D4 hxy n0 m0
        go_enter Tryz.func13, Tryz.ntmps13
        go_wp2_with fail
        generalize (w.alloc (.cells #[.int .i32 f, .int .i32 n] 23)).alloc (.cells #[.int .i32 g, .int .i32 m] 23) = X at *
        refine Calls.mono (HC1.out X) ?_
        rintro e w1 ⟨rfl, hb1⟩
        obtain ⟨c2', c3, g2, g3⟩ := fbox_facts HX.out.2.1 hb1
        go_wp2_with fail
        refine Calls.mono (HC2.out _) ?_
        rintro e w2 ⟨rfl, hb2⟩
        clear c2' c3 g2 g3
        obtain ⟨c0, c1, _, _⟩ := fbox_facts HX.out.1 (b2 hb1 hb2)
        obtain ⟨c2, c3, _, _⟩ := fbox_facts HX.out.2.1 (b2 hb1 hb2)
        have HB := hid (b2 HX.out.2.2 (b2 hb1 hb2))
        clear HX hb1 hb2 HC1 HC2
        go_wp2_with fail
        go_quiet (fail)
        have HB2 := hid (bdrewN HB.out nq)
        rw [show wrap64 (wrap64 n * wrap64 g) = n * g from HW.out (fun a _ => a = n * g) rfl, show wrap64 (wrap64 m * wrap64 f) = m * f from HW.out (fun _ b => b = m * f) rfl]
        have hxy := HXY.out
        go_wp2_with fail
        refine bodyPost_ret (v := .tuple #[.int .i64 (0), .int .i64 0]) (by simp [results, Tryz.results13, go_sem]) rfl ?_
        exact ⟨rfl, HB2.out⟩
      · rcases (by omega : (0 < n ∧ m < 0) ∨ (n < 0 ∧ 0 < m) ∨ ((0 < n ∧ 0 < m) ∨ (n < 0 ∧ m < 0))) with ⟨a, b⟩ | ⟨a, b⟩ | s
        · rw [D2 hxy a b]
          clear D1 D2 D3 D4 n0 m0
          go_enter Tryz.func13, Tryz.ntmps13
          go_wp2_with fail
          generalize (w.alloc (.cells #[.int .i32 f, .int .i32 n] 23)).alloc (.cells #[.int .i32 g, .int .i32 m] 23) = X at *
          refine Calls.mono (HC1.out X) ?_
          rintro e w1 ⟨rfl, hb1⟩
          obtain ⟨c2', c3, g2, g3⟩ := fbox_facts HX.out.2.1 hb1
          go_wp2_with fail
          refine Calls.mono (HC2.out _) ?_
          rintro e w2 ⟨rfl, hb2⟩
          clear c2' c3 g2 g3
          obtain ⟨c0, c1, _, _⟩ := fbox_facts HX.out.1 (b2 hb1 hb2)
          obtain ⟨c2, c3, _, _⟩ := fbox_facts HX.out.2.1 (b2 hb1 hb2)
          have HB := hid (b2 HX.out.2.2 (b2 hb1 hb2))
          clear HX hb1 hb2 HC1 HC2
          go_wp2_with fail
          go_quiet (fail)
          have HB2 := hid (bdrewN HB.out nq)
          rw [show wrap64 (wrap64 n * wrap64 g) = n * g from HW.out (fun a _ => a = n * g) rfl, show wrap64 (wrap64 m * wrap64 f) = m * f from HW.out (fun _ b => b = m * f) rfl]
          skip
          go_wp2_with fail
          refine bodyPost_ret (v := .tuple #[.int .i64 (-1), .int .i64 0]) (by simp [results, Tryz.results13, go_sem]) rfl ?_
          exact ⟨rfl, HB2.out⟩
        · rw [D3 hxy a b]
          have na : ¬ 0 < n := by omega
          clear D1 D2 D3 D4 n0 m0
          go_enter Tryz.func13, Tryz.ntmps13
          go_wp2_with fail
          generalize (w.alloc (.cells #[.int .i32 f, .int .i32 n] 23)).alloc (.cells #[.int .i32 g, .int .i32 m] 23) = X at *
          refine Calls.mono (HC1.out X) ?_
          rintro e w1 ⟨rfl, hb1⟩
          obtain ⟨c2', c3, g2, g3⟩ := fbox_facts HX.out.2.1 hb1
          go_wp2_with fail
          refine Calls.mono (HC2.out _) ?_
          rintro e w2 ⟨rfl, hb2⟩
          clear c2' c3 g2 g3
          obtain ⟨c0, c1, _, _⟩ := fbox_facts HX.out.1 (b2 hb1 hb2)
          obtain ⟨c2, c3, _, _⟩ := fbox_facts HX.out.2.1 (b2 hb1 hb2)
          have HB := hid (b2 HX.out.2.2 (b2 hb1 hb2))
          clear HX hb1 hb2 HC1 HC2
          go_wp2_with fail
          go_quiet (fail)
          have HB2 := hid (bdrewN HB.out nq)
          rw [show wrap64 (wrap64 n * wrap64 g) = n * g from HW.out (fun a _ => a = n * g) rfl, show wrap64 (wrap64 m * wrap64 f) = m * f from HW.out (fun _ b => b = m * f) rfl]
          skip
          go_wp2_with fail
          refine bodyPost_ret (v := .tuple #[.int .i64 (1), .int .i64 0]) (by simp [results, Tryz.results13, go_sem]) rfl ?_
          exact ⟨rfl, HB2.out⟩
        · rw [D4 hxy s]
          clear D1 D2 D3 D4 n0 m0
          rcases s with ⟨a, b⟩ | ⟨a, b⟩
          · have na : ¬ n < 0 := by omega
            have nb : ¬ m < 0 := by omega
            by_cases l : n * g < m * f
            · rw [if_pos l]
              go_enter Tryz.func13, Tryz.ntmps13
              go_wp2_with fail
              generalize (w.alloc (.cells #[.int .i32 f, .int .i32 n] 23)).alloc (.cells #[.int .i32 g, .int .i32 m] 23) = X at *
              refine Calls.mono (HC1.out X) ?_
              rintro e w1 ⟨rfl, hb1⟩
              obtain ⟨c2', c3, g2, g3⟩ := fbox_facts HX.out.2.1 hb1
              go_wp2_with fail
              refine Calls.mono (HC2.out _) ?_
              rintro e w2 ⟨rfl, hb2⟩
              clear c2' c3 g2 g3
              obtain ⟨c0, c1, _, _⟩ := fbox_facts HX.out.1 (b2 hb1 hb2)
              obtain ⟨c2, c3, _, _⟩ := fbox_facts HX.out.2.1 (b2 hb1 hb2)
              have HB := hid (b2 HX.out.2.2 (b2 hb1 hb2))
              clear HX hb1 hb2 HC1 HC2
              go_wp2_with fail
              go_quiet (fail)
              have HB2 := hid (bdrewN HB.out nq)
              rw [show wrap64 (wrap64 n * wrap64 g) = n * g from HW.out (fun a _ => a = n * g) rfl, show wrap64 (wrap64 m * wrap64 f) = m * f from HW.out (fun _ b => b = m * f) rfl]
              skip
              go_wp2_with fail
              refine bodyPost_ret (v := .tuple #[.int .i64 (-1), .int .i64 0]) (by simp [results, Tryz.results13, go_sem]) rfl ?_
              exact ⟨rfl, HB2.out⟩
            · rw [if_neg l]
              go_enter Tryz.func13, Tryz.ntmps13
              go_wp2_with fail
              generalize (w.alloc (.cells #[.int .i32 f, .int .i32 n] 23)).alloc (.cells #[.int .i32 g, .int .i32 m] 23) = X at *
              refine Calls.mono (HC1.out X) ?_
              rintro e w1 ⟨rfl, hb1⟩
              obtain ⟨c2', c3, g2, g3⟩ := fbox_facts HX.out.2.1 hb1
              go_wp2_with fail
              refine Calls.mono (HC2.out _) ?_
              rintro e w2 ⟨rfl, hb2⟩
              clear c2' c3 g2 g3
              obtain ⟨c0, c1, _, _⟩ := fbox_facts HX.out.1 (b2 hb1 hb2)
              obtain ⟨c2, c3, _, _⟩ := fbox_facts HX.out.2.1 (b2 hb1 hb2)
              have HB := hid (b2 HX.out.2.2 (b2 hb1 hb2))
              clear HX hb1 hb2 HC1 HC2
              go_wp2_with fail
              go_quiet (fail)
              have HB2 := hid (bdrewN HB.out nq)
              rw [show wrap64 (wrap64 n * wrap64 g) = n * g from HW.out (fun a _ => a = n * g) rfl, show wrap64 (wrap64 m * wrap64 f) = m * f from HW.out (fun _ b => b = m * f) rfl]
              skip
              go_wp2_with fail
              refine bodyPost_ret (v := .tuple #[.int .i64 (1), .int .i64 0]) (by simp [results, Tryz.results13, go_sem]) rfl ?_
              exact ⟨rfl, HB2.out⟩
          · have na : ¬ 0 < n := by omega
            have nb : ¬ 0 < m := by omega
            by_cases l : n * g < m * f
            · rw [if_pos l]
              go_enter Tryz.func13, Tryz.ntmps13
              go_wp2_with fail
              generalize (w.alloc (.cells #[.int .i32 f, .int .i32 n] 23)).alloc (.cells #[.int .i32 g, .int .i32 m] 23) = X at *
              refine Calls.mono (HC1.out X) ?_
              rintro e w1 ⟨rfl, hb1⟩
              obtain ⟨c2', c3, g2, g3⟩ := fbox_facts HX.out.2.1 hb1
              go_wp2_with fail
              refine Calls.mono (HC2.out _) ?_
              rintro e w2 ⟨rfl, hb2⟩
              clear c2' c3 g2 g3
              obtain ⟨c0, c1, _, _⟩ := fbox_facts HX.out.1 (b2 hb1 hb2)
              obtain ⟨c2, c3, _, _⟩ := fbox_facts HX.out.2.1 (b2 hb1 hb2)
              have HB := hid (b2 HX.out.2.2 (b2 hb1 hb2))
              clear HX hb1 hb2 HC1 HC2
              go_wp2_with fail
              go_quiet (fail)
              have HB2 := hid (bdrewN HB.out nq)
              rw [show wrap64 (wrap64 n * wrap64 g) = n * g from HW.out (fun a _ => a = n * g) rfl, show wrap64 (wrap64 m * wrap64 f) = m * f from HW.out (fun _ b => b = m * f) rfl]
              skip
              go_wp2_with fail
              refine bodyPost_ret (v := .tuple #[.int .i64 (-1), .int .i64 0]) (by simp [results, Tryz.results13, go_sem]) rfl ?_
              exact ⟨rfl, HB2.out⟩
            · rw [if_neg l]
              go_enter Tryz.func13, Tryz.ntmps13
              go_wp2_with fail
              generalize (w.alloc (.cells #[.int .i32 f, .int .i32 n] 23)).alloc (.cells #[.int .i32 g, .int .i32 m] 23) = X at *
              refine Calls.mono (HC1.out X) ?_
              rintro e w1 ⟨rfl, hb1⟩
              obtain ⟨c2', c3, g2, g3⟩ := fbox_facts HX.out.2.1 hb1
              go_wp2_with fail
              refine Calls.mono (HC2.out _) ?_
              rintro e w2 ⟨rfl, hb2⟩
              clear c2' c3 g2 g3
              obtain ⟨c0, c1, _, _⟩ := fbox_facts HX.out.1 (b2 hb1 hb2)
              obtain ⟨c2, c3, _, _⟩ := fbox_facts HX.out.2.1 (b2 hb1 hb2)
              have HB := hid (b2 HX.out.2.2 (b2 hb1 hb2))
              clear HX hb1 hb2 HC1 HC2
              go_wp2_with fail
              go_quiet (fail)
              have HB2 := hid (bdrewN HB.out nq)
              rw [show wrap64 (wrap64 n * wrap64 g) = n * g from HW.out (fun a _ => a = n * g) rfl, show wrap64 (wrap64 m * wrap64 f) = m * f from HW.out (fun _ b => b = m * f) rfl]
              skip
              go_wp2_with fail
              refine bodyPost_ret (v := .tuple #[.int .i64 (1), .int .i64 0]) (by simp [results, Tryz.results13, go_sem]) rfl ?_
              exact ⟨rfl, HB2.out⟩
    · have hR : rOrd f n g m = (0, 150) := by unfold rOrd; rw [if_pos h0, if_neg h1]
      rw [hR]
      rw [e0] at HC1
      rw [e1] at HC2
      clear hR e0 e1 h0 h1 h k
      go_enter Tryz.func13, Tryz.ntmps13
      go_wp2_with fail
      generalize (w.alloc (.cells #[.int .i32 f, .int .i32 n] 23)).alloc (.cells #[.int .i32 g, .int .i32 m] 23) = X at *
      refine Calls.mono (HC1.out X) ?_
      rintro e w1 ⟨rfl, hb1⟩
      obtain ⟨c0, c1, g0, g1⟩ := fbox_facts HX.out.1 hb1
      obtain ⟨c2', c3, g2, g3⟩ := fbox_facts HX.out.2.1 hb1
      go_wp2_with fail
      refine Calls.mono (HC2.out _) ?_
      rintro e w2 ⟨rfl, hb2⟩
      have HB := hid (b2 HX.out.2.2 (b2 hb1 hb2))
      clear HX hb1 hb2 HC1 HC2
      go_wp2_with fail
      refine bodyPost_ret (v := .tuple #[.int .i64 0, .int .i64 150]) (by simp [results, Tryz.results13, go_sem]) rfl ?_
      exact ⟨rfl, HB.out⟩
  · have hR : rOrd f n g m = (0, 150) := by unfold rOrd; rw [if_neg h0]
    rw [hR]
    rw [e0] at HC1
    clear hR e0 h0 h k HC2
    go_enter Tryz.func13, Tryz.ntmps13
    go_wp2_with fail
    generalize (w.alloc (.cells #[.int .i32 f, .int .i32 n] 23)).alloc (.cells #[.int .i32 g, .int .i32 m] 23) = X at *
    refine Calls.mono (HC1.out X) ?_
    rintro e w1 ⟨rfl, hb1⟩
    have HB := hid (b2 HX.out.2.2 hb1)
    clear HX hb1 HC1
    go_wp2_with fail
    refine bodyPost_ret (v := .tuple #[.int .i64 0, .int .i64 150]) (by simp [results, Tryz.results13, go_sem]) rfl ?_
    exact ⟨rfl, HB.out⟩
end Go.Proofs.YtcfcjnlobpoglaaGreat

/- The document's rotor (slackwaterref05): Apart, of every list of rotors. -/
namespace Go.Proofs.YtcfcjnlobpoglaaGreat
open Go.RowKit
set_option linter.unusedVariables false

def xO (xs : List (Int × Int)) (j : Nat) : Int × Int := xs[j]?.getD (0, 0)
/-- Stands there ahead of it already. -/
def Met (xs : List (Int × Int)) (i : Nat) : Prop := ∃ k, k < i ∧ xO xs k = xO xs i
/-- The first that may not be; else the first that was there already; else none. -/
def RAp (xs : List (Int × Int)) (v c : Int) : Prop :=
  (c = 150 ∧ ∃ i : Nat, v = i ∧ i < xs.length ∧ ¬ rOK (xO xs i).1 (xO xs i).2 ∧ ∀ j, j < i → rOK (xO xs j).1 (xO xs j).2) ∨
  (c = 0 ∧ (∀ j, j < xs.length → rOK (xO xs j).1 (xO xs j).2) ∧ ((∃ i : Nat, v = i ∧ i < xs.length ∧ Met xs i ∧ ∀ j, j < i → ¬ Met xs j) ∨ (v = -1 ∧ ∀ j, j < xs.length → ¬ Met xs j)))
theorem RAp.one {xs : List (Int × Int)} {v c v' c' : Int} (h : RAp xs v c) (h' : RAp xs v' c') : v = v' ∧ c = c' := by
  have two : ∀ {P : Nat → Prop} {i j : Nat}, P i → (∀ k, k < i → ¬ P k) → P j → (∀ k, k < j → ¬ P k) → i = j := fun {P i j} a b c d => by
    rcases Nat.lt_trichotomy i j with g | g | g
    · exact absurd a (d i g)
    · exact g
    · exact absurd c (b j g)
  rcases h with ⟨rfl, i, rfl, a1, a2, a3⟩ | ⟨rfl, a0, a⟩ <;> rcases h' with ⟨rfl, i', rfl, b1, b2, b3⟩ | ⟨rfl, b0, b⟩
  · have := two (P := fun i => ¬ rOK (xO xs i).1 (xO xs i).2) a2 (fun k hk g => g (a3 k hk)) b2 (fun k hk g => g (b3 k hk))
    exact ⟨by rw [this], rfl⟩
  · exact absurd (b0 i a1) a2
  · exact absurd (a0 i' b1) b2
  · rcases a with ⟨i, rfl, a1, a2, a3⟩ | ⟨rfl, a3⟩ <;> rcases b with ⟨i', rfl, b1, b2, b3⟩ | ⟨rfl, b3⟩
    · exact ⟨by rw [two (P := Met xs) a2 a3 b2 b3], rfl⟩
    · exact absurd a2 (b3 i a1)
    · exact absurd b2 (a3 i' b1)
    · exact ⟨rfl, rfl⟩

theorem roEq (a b c d : Int) (w : World) : (Op.equalIn 10000 23 (.agg #[.int .i32 a, .int .i32 b]) (.agg #[.int .i32 c, .int .i32 d])).run Tryz.prog w = .ok (a == c && b == d) w := by
  have u1 := Tryz.underlying21
  have a1 := Tryz.isAgg21
  have z1 := Tryz.sizeOf21
  have hS : Tryz.prog.underlying 23 = some (.struct (Tryz.prog.fieldsOf 23)) := by kernel_rfl
  rw [show (10000 : Nat) = 9999 + 1 from rfl, run_equalIn_agg w 9999 23 _ _ hS (by kernel_rfl)]
  simp only [Program.fieldsOf, Tryz.underlying23]
  go_simp
  by_cases h1 : a = c <;> by_cases h2 : b = d <;> simp [h1, h2]

end Go.Proofs.YtcfcjnlobpoglaaGreat

