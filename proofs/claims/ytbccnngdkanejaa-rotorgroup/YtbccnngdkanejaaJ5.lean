/- My texts on the way to RotorGroup, one behind the other: contracts of the program and of the document's answers. -/
import Derived.Test.YtbccnngdkanejaaJ1
import Derived.Test.YtbccnngdkanejaaJ3
import Derived.Test.YtbccnngdkanejaaJ4
import Derived.Test.YtbccnngdkanejaaChecked
import Derived.Handy
import Derived.RegionTactic
import Derived.ChangeAlike
import Derived.Deep.RegionHeld3
import Derived.Deep.QuietTactic
import Derived.BigQuiet
import Derived.Laws.AppendOwnNone
import Derived.LoopN
/- Boxes made one behind the other; drawing keeps what is below. -/
namespace Go.Proofs.Ytbccnngdkanejaa
open Go.RowKit
set_option linter.unusedVariables false

theorem boxes1 (w : World) (t : Nat) (u : Array Value) : FBox (w.alloc (.cells u t)) w.heap.size t u ∧ Below w.heap.size w (w.alloc (.cells u t)) :=
  ⟨FBox.made _ _ _, (Below.refl _ _).alloc (Nat.le_refl _) _⟩
theorem boxes2 (w : World) (t : Nat) (u v : Array Value) : FBox ((w.alloc (.cells u t)).alloc (.cells v t)) w.heap.size t u ∧ FBox ((w.alloc (.cells u t)).alloc (.cells v t)) (w.heap.size + 1) t v ∧ Below w.heap.size w ((w.alloc (.cells u t)).alloc (.cells v t)) := by
  have a := boxes1 w t u
  have b := boxes1 (w.alloc (.cells u t)) t v
  have es : (w.alloc (.cells u t)).heap.size = w.heap.size + 1 := World.size_alloc _ _
  exact ⟨a.1.later b.2 a.1.lt, es ▸ b.1, b2 a.2 b.2⟩
theorem bdrewN {B : Nat} {a w : World} (h : Below B a w) (n : Nat) : Below B a (w.drewN n) := by
  induction n with
  | zero => exact h
  | succ n ih => exact ih.drew
end Go.Proofs.Ytbccnngdkanejaa

/- package rotor: size, commonDivisor, Check, Conj, half, of every rotor. -/
namespace Go.Proofs.Ytbccnngdkanejaa
open Go.RowKit
set_option linter.unusedVariables false

/-- A rotor may be. -/
def rOK (f n : Int) : Prop := 1 ≤ f ∧ f ≤ 1000 ∧ 1 ≤ n.natAbs ∧ n.natAbs ≤ 1000 ∧ f ≠ (n.natAbs : Int) ∧ Nat.gcd f.toNat n.natAbs = 1
instance (f n : Int) : Decidable (rOK f n) := by unfold rOK; infer_instance
def ochk (f n : Int) : Int := if rOK f n then 0 else 150
def in32 (f n : Int) : Prop := (-2147483648 ≤ f ∧ f ≤ 2147483647) ∧ (-2147483648 ≤ n ∧ n ≤ 2147483647)
theorem ochk_or (f n : Int) : ochk f n = 0 ∧ rOK f n ∨ ochk f n = 150 ∧ ¬ rOK f n := by
  unfold ochk
  by_cases h : rOK f n
  · rw [if_pos h]; exact .inl ⟨rfl, h⟩
  · rw [if_neg h]; exact .inr ⟨rfl, h⟩

set_option maxHeartbeats 800000 in
set_option maxRecDepth 100000 in
theorem osize_any (n : Int) (w : World) (h0 : -9223372036854775808 < n) (h1 : n ≤ 9223372036854775807) :
    Calls Try.prog 16 #[.int .i64 n] w fun e w' => e = .returned (.int .i64 (n.natAbs : Int)) ∧ w' = w := by
  by_cases h : n < 0
  · go_enter Try.func16, Try.ntmps16
    go_wp2_with fail
    go_ret
    exact ⟨ret_int (by omega), rfl⟩
  · go_enter Try.func16, Try.ntmps16
    go_wp2_with fail
    go_ret
    exact ⟨ret_int (by omega), rfl⟩

set_option maxHeartbeats 800000 in
set_option maxRecDepth 100000 in
theorem ocommon_any (a b : Nat) (w : World) (ha : a < 9223372036854775808) (hb : b < 9223372036854775808) :
    Calls Try.prog 17 #[.int .i64 (a : Int), .int .i64 (b : Int)] w fun e w' => e = .returned (.int .i64 (Nat.gcd a b : Nat)) ∧ Below w.heap.size w w' := by
  go_enter Try.func17, Try.ntmps17
  go_wp2_with fail
  go_loopw [0, 1] (fun x y wr => ∃ c d : Nat, x = .int .i64 (c : Int) ∧ y = .int .i64 (d : Int) ∧ c < 9223372036854775808 ∧ d < 9223372036854775808 ∧ Hid (Nat.gcd c d = Nat.gcd a b) ∧ Below w.heap.size w wr) (fun _ y _ => (intOf y).toNat)
  case atStart => exact ⟨a, b, rfl, rfl, ha, hb, (rfl : Nat.gcd a b = Nat.gcd a b), Below.refl _ _⟩
  case round =>
    obtain ⟨c, d, rfl, rfl, hc, hd, hg, hX⟩ := hrel
    by_cases h0 : d = 0
    · subst h0
      have HG : Hid (c = Nat.gcd a b) := by have := hg.out; rw [Nat.gcd_zero_right] at this; exact this
      clear hg
      go_wp2_with fail
      go_ret
      exact ⟨ret_int (by rw [HG.out]), hX⟩
    · have hm : c % d < d := Nat.mod_lt _ (by omega)
      have HG : Hid (Nat.gcd d (c % d) = Nat.gcd a b) := by show _ = _; rw [← hg.out, Nat.gcd_comm c d, Nat.gcd_rec d c, Nat.gcd_comm]
      have h0' : (d : Int) ≠ 0 := by omega
      have e2 : Int.tmod (c : Int) (d : Int) = ((c % d : Nat) : Int) := by
        rw [Int.tmod_eq_emod_of_nonneg (by omega)]; rfl
      clear hg
      go_wp2_with fail
      go_region
      all_goals
        go_wp2_with fail
        go_roundw
        case rel => exact ⟨d, c % d, rfl, by go_num, by omega, by omega, HG, hX.drew⟩
        case measure => simp [intOf]; omega

set_option maxHeartbeats 1600000 in
set_option maxRecDepth 100000 in
theorem ocheck_any (f n : Int) (w : World) (h : in32 f n) :
    Calls Try.prog 5 #[.agg #[.int .i32 f, .int .i32 n]] w fun e w' => e = .returned (.int .i64 (ochk f n)) ∧ Below w.heap.size w w' := by
  obtain ⟨⟨f0, f1⟩, n0, n1⟩ := h
  have hb0 : Below w.heap.size w (w.alloc (.cells #[.int .i32 f, .int .i32 n] 23)) := (Below.refl _ _).alloc (Nat.le_refl _) _
  have HN : Hid (¬ (1 ≤ f ∧ f ≤ 1000 ∧ 1 ≤ (n.natAbs : Int) ∧ (n.natAbs : Int) ≤ 1000 ∧ f ≠ (n.natAbs : Int)) → ochk f n = 150) := fun h => by unfold ochk; rw [if_neg]; unfold rOK; omega
  have HY : Hid ((1 ≤ f ∧ f ≤ 1000 ∧ 1 ≤ (n.natAbs : Int) ∧ (n.natAbs : Int) ≤ 1000 ∧ f ≠ (n.natAbs : Int)) → Nat.gcd f.toNat n.natAbs = 1 → ochk f n = 0) := fun h g => by unfold ochk; rw [if_pos]; unfold rOK; omega
  have HY' : Hid (¬ Nat.gcd f.toNat n.natAbs = 1 → ochk f n = 150) := fun g => by unfold ochk; rw [if_neg]; unfold rOK; omega
  have HD : Hid (1 ≤ f → 1 ≤ Nat.gcd f.toNat n.natAbs) := fun g => Nat.gcd_pos_of_pos_left _ (by omega)
  have HS := hid (fun V => osize_any n V (by omega) (by omega))
  have HC : Hid (∀ V : World, 1 ≤ f → Calls Try.prog 17 #[.int .i64 f, .int .i64 (n.natAbs : Int)] V fun e w' => e = .returned (.int .i64 (Nat.gcd f.toNat n.natAbs : Nat)) ∧ Below V.heap.size V w') := fun V h1 => by
    have := ocommon_any f.toNat n.natAbs V (by omega) (by omega)
    rw [show ((f.toNat : Nat) : Int) = f by omega] at this
    exact this
  obtain ⟨d, hD⟩ : ∃ d, Nat.gcd f.toNat n.natAbs = d := ⟨_, rfl⟩
  rw [hD] at HY HY' HC HD
  clear hD
  have m1 : n.natAbs ≤ 2147483648 := by omega
  generalize n.natAbs = N at *
  go_enter Try.func5, Try.ntmps5
  go_wp2_with fail
  go_quiet ((go_at_call 16; exact Calls.quiet_of_same (HS.out _)))
  clear HS
  have HB0 : Hid (Below w.heap.size w ((w.alloc (.cells #[.int .i32 f, .int .i32 n] 23)).drewN nq)) := bdrewN hb0 nq
  generalize (w.alloc (.cells #[.int .i32 f, .int .i32 n] 23)).drewN nq = X at *
  clear hb0
  go_wp2_with fail
  all_goals try (go_ret; exact ⟨ret_int (HN.out (by omega)).symm, HB0.out⟩)
  refine Calls.mono (HC.out _ (by omega)) ?_
  rintro e w1 ⟨rfl, hb1⟩
  by_cases h1 : d = 1
  · subst h1
    go_wp2_with fail
    go_ret
    exact ⟨ret_int (HY.out (by omega) (by trivial)).symm, b2 HB0.out hb1⟩
  · have h1' : (1 : Int) < (d : Int) := by have := HD.out (by omega); omega
    go_wp2_with fail
    go_ret
    exact ⟨ret_int (HY'.out h1).symm, b2 HB0.out hb1⟩
end Go.Proofs.Ytbccnngdkanejaa

/- package rotor: copied, over: the same words in new memory. -/
namespace Go.Proofs.Ytbccnngdkanejaa
open Go.RowKit
set_option linter.unusedVariables false
set_option linter.unusedSimpArgs false

set_option maxHeartbeats 800000 in
set_option maxRecDepth 100000 in
theorem ocopied_any (a : Option Addr) (cap : Nat) (xs : List Int) (w : World) (h : Sl w (.slice a xs.length cap) xs) (hn : xs.length ≤ 1099511627776) :
    Calls Try.prog 42 #[.slice a xs.length cap] w fun e w' => ∃ a' c', e = .returned (.slice a' xs.length c') ∧ w'.ownsRow w.heap.size 43 1 (.slice a' xs.length c') xs.length (xs.map (Value.int .u32)) ∧ Below w.heap.size w w' := by
  obtain ⟨i0, hi, hz0, hz1, hz2⟩ := info_parts Try.infoW
  have hown : w.ownsRow w.heap.size 43 1 (.slice none 0 0) 0 [] := World.ownsRow_nil _ _ _ _
  obtain ⟨ad, c0, e0, hr⟩ := h
  cases e0
  cases a with
  | none =>
    have h0 : cap = 0 := hr.2.2.2.2.2 rfl
    subst h0
    have h1 : xs.length = 0 := by have := hr.2.2.2.1; omega
    have h2 : xs = [] := List.eq_nil_of_length_eq_zero h1
    subst h2
    clear hr
    go_enter Try.func42, Try.ntmps42
    go_wp2_with (at_builtin; refine wpList_append_own_none rfl _ _ 27 rfl w.heap.size 43 i0 1 Try.underlying27 hi _ 0 [] rfl hown rfl ?_)
    go_ret
    exact ⟨none, 0, rfl, hown, Below.refl _ _⟩
  | some ad =>
    have HN := hid (copy_news hr)
    have HLn : Hid ((xs.map (Value.int .u32)).length = xs.length * 1) := by show _ = _; simp
    clear hr
    go_enter Try.func42, Try.ntmps42
    go_wp2_with (at_builtin; refine wpList_append_own _ rfl _ _ 27 rfl w.heap.size 43 i0 (.int .u32 0) 1 4 Try.underlying27 hi hz0 hz1 hz2 rfl (by decide) _ 0 [] rfl hown ad xs.length cap (xs.map (Value.int .u32)) rfl HLn.out HN.out (ints_oneCell _ _) (by unfold maxLen; omega) (by omega) (Nat.le_refl _) ?_)
    intro v' w1 hown' hgrow _
    have hb2 : Below w.heap.size w w1 := (Below.refl w.heap.size w).grown hgrow (Nat.le_refl _) (fun k hk => by simp [Value.ownBlock] at hk)
    have r3 : w1.ownsRow w.heap.size 43 1 v' xs.length (xs.map (Value.int .u32)) := by simpa using hown'
    obtain ⟨a', c', rfl⟩ := own_slice' r3
    clear hown' hgrow
    go_wp2
    go_ret
    exact ⟨a', c', rfl, r3, hb2⟩

set_option maxHeartbeats 1600000 in
set_option maxRecDepth 100000 in
theorem oover_any (n : Bool) (a : Option Addr) (ca : Nat) (xs : List Int) (b : Option Addr) (lb cb : Nat) (m : Bool) (c : Option Addr) (cc : Nat) (us : List Int) (d : Option Addr) (ld cd : Nat) (w : World) (sx : Sl w (.slice a xs.length ca) xs) (su : Sl w (.slice c us.length cc) us) (lx : xs.length ≤ 1099511627776) (lu : us.length ≤ 1099511627776) :
    Calls Try.prog 33 #[.agg #[.bool n, .slice a xs.length ca, .slice b lb cb], .agg #[.bool m, .slice c us.length cc, .slice d ld cd]] w fun e w' => ∃ a1 c1 a2 c2, e = .returned (.agg #[.bool n, .slice a1 xs.length c1, .slice a2 us.length c2]) ∧ (w'.ownsRow w.heap.size 43 1 (.slice a1 xs.length c1) xs.length (xs.map (Value.int .u32)) ∧ w'.ownsRow w.heap.size 43 1 (.slice a2 us.length c2) us.length (us.map (Value.int .u32))) ∧ Below w.heap.size w w' ∧ Cut w (.slice a1 xs.length c1) (.slice a2 us.length c2) w' := by
  have HX := hid (boxes3r w 29 #[.bool n, .slice a xs.length ca, .slice b lb cb] #[.bool m, .slice c us.length cc, .slice d ld cd] #[.bool false, .slice none 0 0, .slice none 0 0])
  obtain ⟨X, hX⟩ : ∃ X, ((w.alloc (.cells #[.bool n, .slice a xs.length ca, .slice b lb cb] 29)).alloc (.cells #[.bool m, .slice c us.length cc, .slice d ld cd] 29)).alloc (.cells #[.bool false, .slice none 0 0, .slice none 0 0] 29) = X := ⟨_, rfl⟩
  rw [hX] at HX
  have HC1 : Hid (∀ V, Below X.heap.size X V → Calls Try.prog 42 #[.slice a xs.length ca] V fun e w' => ∃ a' c', e = .returned (.slice a' xs.length c') ∧ Hid (w'.ownsRow V.heap.size 43 1 (.slice a' xs.length c') xs.length (xs.map (Value.int .u32))) ∧ Hid (Below V.heap.size V w')) := fun V hv => ocopied_any a ca xs V (sx.later (bt HX.out.2.2.2 hv)) lx
  have HC2 : Hid (∀ V, Below X.heap.size X V → Calls Try.prog 42 #[.slice c us.length cc] V fun e w' => ∃ a' c', e = .returned (.slice a' us.length c') ∧ Hid (w'.ownsRow V.heap.size 43 1 (.slice a' us.length c') us.length (us.map (Value.int .u32))) ∧ Hid (Below V.heap.size V w')) := fun V hv => ocopied_any c cc us V (su.later (bt HX.out.2.2.2 hv)) lu
  have HK : Hid (∀ V, Below X.heap.size X V → V.cell? ⟨w.heap.size, 0, none⟩ = some (.bool n) ∧ V.cell? ⟨w.heap.size, 1, none⟩ = some (.slice a xs.length ca) ∧ V.cell? ⟨w.heap.size + 1, 1, none⟩ = some (.slice c us.length cc)) := fun V hv => ⟨(HX.out.1.later hv HX.out.1.lt).cell 0, (HX.out.1.later hv HX.out.1.lt).cell 1, (HX.out.2.1.later hv HX.out.2.1.lt).cell 1⟩
  have HKP : Hid (∀ V, Below X.heap.size X V → ∀ (v0 v1 v2 : Value), ((((V.setCell ⟨w.heap.size + 1 + 1, 0, none⟩ v0).setCell ⟨w.heap.size + 1 + 1, 1, none⟩ v1).setCell ⟨w.heap.size + 1 + 1, 2, none⟩ v2).cell? ⟨w.heap.size, 0, none⟩ = some (.bool n) ∧ (((V.setCell ⟨w.heap.size + 1 + 1, 0, none⟩ v0).setCell ⟨w.heap.size + 1 + 1, 1, none⟩ v1).setCell ⟨w.heap.size + 1 + 1, 2, none⟩ v2).cell? ⟨w.heap.size, 1, none⟩ = some (.slice a xs.length ca) ∧ (((V.setCell ⟨w.heap.size + 1 + 1, 0, none⟩ v0).setCell ⟨w.heap.size + 1 + 1, 1, none⟩ v1).setCell ⟨w.heap.size + 1 + 1, 2, none⟩ v2).cell? ⟨w.heap.size + 1, 1, none⟩ = some (.slice c us.length cc))) := fun V hv v0 v1 v2 => by
    have h := box_far3 (HX.out.1.later hv HX.out.1.lt) (show w.heap.size ≠ w.heap.size + 1 + 1 by omega) v0 v1 v2
    have h' := box_far3 (HX.out.2.1.later hv HX.out.2.1.lt) (show w.heap.size + 1 ≠ w.heap.size + 1 + 1 by omega) v0 v1 v2
    exact ⟨h.cell 0, h.cell 1, h'.cell 1⟩
  have HM : Hid (∀ V, Below X.heap.size X V → V.cell? ⟨w.heap.size + 1 + 1, 0, none⟩ = some (.bool false) ∧ V.cell? ⟨w.heap.size + 1 + 1, 1, none⟩ = some (.slice none 0 0) ∧ V.cell? ⟨w.heap.size + 1 + 1, 2, none⟩ = some (.slice none 0 0) ∧ V.frozen? ⟨w.heap.size + 1 + 1, 0, none⟩ = false ∧ V.frozen? ⟨w.heap.size + 1 + 1, 1, none⟩ = false ∧ V.frozen? ⟨w.heap.size + 1 + 1, 2, none⟩ = false) := fun V hv => by
    have h := HX.out.2.2.1.later hv HX.out.2.2.1.lt
    exact ⟨h.cell 0, h.cell 1, h.cell 2, h.free 0, h.free 1, h.free 2⟩
  have hd0 := hid (Below.refl X.heap.size X).drew
  have hs0 := HK.out _ hd0.out
  clear sx su lx lu
  go_enter Try.func33, Try.ntmps33
  go_wp2_with fail
  go_region_held3 (fun V : World => V.cell? ⟨w.heap.size, 0, none⟩ = some (.bool n) ∧ V.cell? ⟨w.heap.size, 1, none⟩ = some (.slice a xs.length ca) ∧ V.cell? ⟨w.heap.size + 1, 1, none⟩ = some (.slice c us.length cc)) (first | exact hsB | exact hsA | exact hs0 | exact HKP.out _ hbB.out _ _ _)
    (first
      | (go_at_call 42; (with_reducible refine Calls.mono (HC2.out _ hbA.out) ?_); rintro e w2 ⟨a2, c2, rfl, o2, b2⟩; have hbB := hid (bt hbA.out b2.out); have hsB := HK.out _ hbB.out; obtain ⟨m0, m1, m2, f0, f1, f2⟩ := HM.out _ hbB.out)
      | (go_at_call 42; (with_reducible refine Calls.mono (HC1.out _ hd0.out) ?_); rintro e w1 ⟨a1, c1, rfl, o1, b1⟩; have hbA := hid (bt hd0.out b1.out); have hsA := HK.out _ hbA.out))
  have HBX := hid (HX.out.2.2.1.later hbB.out HX.out.2.2.1.lt)
  have HBW := hid (bt HX.out.2.2.2 hbB.out)
  have HO1 := hid (owns_later o1.out b2.out)
  have HO2 := hid o2.out
  have HL1 : Hid (Lies (.slice a1 xs.length c1) w.heap.size w1.heap.size) := fun g hg => ⟨Nat.le_trans HX.out.2.2.2.size (o1.out.lt g hg).1, (o1.out.lt g hg).2⟩
  have HL2 : Hid (Lies (.slice a2 us.length c2) w1.heap.size w2.heap.size) := fun g hg => ⟨(o2.out.lt g hg).1, (o2.out.lt g hg).2⟩
  have hXs : w.heap.size + 1 + 1 < X.heap.size := HX.out.2.2.1.lt
  have h1s : X.heap.size ≤ w1.heap.size := hbA.out.size
  have h2s : w1.heap.size ≤ w2.heap.size := b2.out.size
  have hwX : w.heap.size ≤ X.heap.size := HX.out.2.2.2.size
  clear hs0 hsA hsB hd0 o1 o2 b1 b2 hbA hbB HK HKP HM HC1 HC2
  go_wp2_with fail
  have B1 := box_put3 HBX.out (.bool n) (.slice a1 xs.length c1) (.slice a2 us.length c2)
  have e1 : ∀ g, (Value.slice a1 xs.length c1).ownBlock = some g → g ≠ w.heap.size + 1 + 1 := fun g hg => by have := (HO1.out.lt g hg).1; have e : X.drew.heap.size = X.heap.size := rfl; omega
  have e2 : ∀ g, (Value.slice a2 us.length c2).ownBlock = some g → g ≠ w.heap.size + 1 + 1 := fun g hg => by have := (HO2.out.lt g hg).1; omega
  have V1 := own_put3' HO1.out _ e1 (.bool n) (.slice a1 xs.length c1) (.slice a2 us.length c2)
  have U1 := own_put3' HO2.out _ e2 (.bool n) (.slice a1 xs.length c1) (.slice a2 us.length c2)
  refine bodyPost_ret (results_cell_row (by rfl) _ _ (w.heap.size + 1 + 1) 29 _ (0, 0) _ (by rfl) B1 Try.underlying29 rfl (by kernel_rfl)) rfl ?_
  refine ⟨a1, c1, a2, c2, rfl, ⟨owns_base V1 hwX, owns_base U1 (by omega)⟩, below_put3 HBW.out _ (by omega) _ _ _, ?_⟩
  exact ⟨w1.heap.size, by omega, by simp [World.setCell]; omega, HL1.out, fun g hg => ⟨(HL2.out g hg).1, by have := (HL2.out g hg).2; simp [World.setCell]; omega⟩⟩

/-- number: the complex fraction of a power in two pieces, in new memory. -/
def ONum (w : World) (g h : G6) (x : Ending) (w' : World) : Prop := ∃ a1 c1 a2 c2 a3 c3 a4 c4, x = .returned (.agg #[.bool g.n, .slice a1 g.xs.length c1, .slice a2 h.xs.length c2, .bool g.m, .slice a3 g.us.length c3, .slice a4 h.xs.length c4]) ∧ Hid (w'.ownsRow w.heap.size 43 1 (.slice a1 g.xs.length c1) g.xs.length (g.xs.map (Value.int .u32)) ∧ w'.ownsRow w.heap.size 43 1 (.slice a2 h.xs.length c2) h.xs.length (h.xs.map (Value.int .u32)) ∧ w'.ownsRow w.heap.size 43 1 (.slice a3 g.us.length c3) g.us.length (g.us.map (Value.int .u32)) ∧ w'.ownsRow w.heap.size 43 1 (.slice a4 h.xs.length c4) h.xs.length (h.xs.map (Value.int .u32))) ∧ Hid (Below w.heap.size w w') ∧ Hid (∃ W1, Cut w (.slice a1 g.xs.length c1) (.slice a2 h.xs.length c2) W1 ∧ Cut W1 (.slice a3 g.us.length c3) (.slice a4 h.xs.length c4) w')
set_option maxHeartbeats 3200000 in
set_option maxRecDepth 100000 in
theorem onumber_any (g h : G6) (w : World) (sg1 : Sl w (.slice g.a g.xs.length g.ca) g.xs) (sg2 : Sl w (.slice g.c g.us.length g.cc) g.us) (sh : Sl w (.slice h.a h.xs.length h.ca) h.xs) (lg1 : g.xs.length ≤ 1099511627776) (lg2 : g.us.length ≤ 1099511627776) (lh : h.xs.length ≤ 1099511627776) :
    Calls Try.prog 20 #[.agg #[.bool g.n, .slice g.a g.xs.length g.ca, .slice g.b g.ys.length g.cb, .bool g.m, .slice g.c g.us.length g.cc, .slice g.d g.vs.length g.cd, .bool h.n, .slice h.a h.xs.length h.ca, .slice h.b h.ys.length h.cb, .bool h.m, .slice h.c h.us.length h.cc, .slice h.d h.vs.length h.cd]] w (ONum w g h) := by
  obtain ⟨X, hX⟩ : ∃ X, (w.alloc (.cells #[.bool g.n, .slice g.a g.xs.length g.ca, .slice g.b g.ys.length g.cb, .bool g.m, .slice g.c g.us.length g.cc, .slice g.d g.vs.length g.cd, .bool h.n, .slice h.a h.xs.length h.ca, .slice h.b h.ys.length h.cb, .bool h.m, .slice h.c h.us.length h.cc, .slice h.d h.vs.length h.cd] 49)).alloc (.cells #[.bool false, .slice none 0 0, .slice none 0 0, .bool false, .slice none 0 0, .slice none 0 0] 31) = X := ⟨_, rfl⟩
  have HB : Hid (Below w.heap.size w X) := by rw [← hX]; exact bt (alloc_later _ _) (alloc_later _ _)
  have HP : Hid (Box X w.heap.size 49 #[.bool g.n, .slice g.a g.xs.length g.ca, .slice g.b g.ys.length g.cb, .bool g.m, .slice g.c g.us.length g.cc, .slice g.d g.vs.length g.cd, .bool h.n, .slice h.a h.xs.length h.ca, .slice h.b h.ys.length h.cb, .bool h.m, .slice h.c h.us.length h.cc, .slice h.d h.vs.length h.cd]) := by rw [← hX]; exact (Box.made w _ _).later (alloc_later _ _) (Box.made w _ _).lt
  have HZ : Hid (Box X (w.heap.size + 1) 31 #[.bool false, .slice none 0 0, .slice none 0 0, .bool false, .slice none 0 0, .slice none 0 0]) := by
    have q := Box.made (w.alloc (.cells #[.bool g.n, .slice g.a g.xs.length g.ca, .slice g.b g.ys.length g.cb, .bool g.m, .slice g.c g.us.length g.cc, .slice g.d g.vs.length g.cd, .bool h.n, .slice h.a h.xs.length h.ca, .slice h.b h.ys.length h.cb, .bool h.m, .slice h.c h.us.length h.cc, .slice h.d h.vs.length h.cd] 49)) 31 #[.bool false, .slice none 0 0, .slice none 0 0, .bool false, .slice none 0 0, .slice none 0 0]
    rw [show (w.alloc (.cells #[.bool g.n, .slice g.a g.xs.length g.ca, .slice g.b g.ys.length g.cb, .bool g.m, .slice g.c g.us.length g.cc, .slice g.d g.vs.length g.cd, .bool h.n, .slice h.a h.xs.length h.ca, .slice h.b h.ys.length h.cb, .bool h.m, .slice h.c h.us.length h.cc, .slice h.d h.vs.length h.cd] 49)).heap.size = w.heap.size + 1 by simp, hX] at q
    exact q
  have HK : Hid (∀ V, Below X.heap.size X V → V.cell? ⟨w.heap.size, 0, none⟩ = some (.bool g.n) ∧ V.cell? ⟨w.heap.size, 1, none⟩ = some (.slice g.a g.xs.length g.ca) ∧ V.cell? ⟨w.heap.size, 2, none⟩ = some (.slice g.b g.ys.length g.cb) ∧ V.cell? ⟨w.heap.size, 3, none⟩ = some (.bool g.m) ∧ V.cell? ⟨w.heap.size, 4, none⟩ = some (.slice g.c g.us.length g.cc) ∧ V.cell? ⟨w.heap.size, 5, none⟩ = some (.slice g.d g.vs.length g.cd) ∧ V.cell? ⟨w.heap.size, 6, none⟩ = some (.bool h.n) ∧ V.cell? ⟨w.heap.size, 7, none⟩ = some (.slice h.a h.xs.length h.ca) ∧ V.cell? ⟨w.heap.size, 8, none⟩ = some (.slice h.b h.ys.length h.cb)) := fun V hv => by
    have q := HP.out.later hv HP.out.lt
    exact ⟨q.cell 0, q.cell 1, q.cell 2, q.cell 3, q.cell 4, q.cell 5, q.cell 6, q.cell 7, q.cell 8⟩
  have HKB : Hid (∀ V, Box V w.heap.size 49 #[.bool g.n, .slice g.a g.xs.length g.ca, .slice g.b g.ys.length g.cb, .bool g.m, .slice g.c g.us.length g.cc, .slice g.d g.vs.length g.cd, .bool h.n, .slice h.a h.xs.length h.ca, .slice h.b h.ys.length h.cb, .bool h.m, .slice h.c h.us.length h.cc, .slice h.d h.vs.length h.cd] → V.cell? ⟨w.heap.size, 0, none⟩ = some (.bool g.n) ∧ V.cell? ⟨w.heap.size, 1, none⟩ = some (.slice g.a g.xs.length g.ca) ∧ V.cell? ⟨w.heap.size, 2, none⟩ = some (.slice g.b g.ys.length g.cb) ∧ V.cell? ⟨w.heap.size, 3, none⟩ = some (.bool g.m) ∧ V.cell? ⟨w.heap.size, 4, none⟩ = some (.slice g.c g.us.length g.cc) ∧ V.cell? ⟨w.heap.size, 5, none⟩ = some (.slice g.d g.vs.length g.cd) ∧ V.cell? ⟨w.heap.size, 6, none⟩ = some (.bool h.n) ∧ V.cell? ⟨w.heap.size, 7, none⟩ = some (.slice h.a h.xs.length h.ca) ∧ V.cell? ⟨w.heap.size, 8, none⟩ = some (.slice h.b h.ys.length h.cb)) := fun V q => ⟨q.cell 0, q.cell 1, q.cell 2, q.cell 3, q.cell 4, q.cell 5, q.cell 6, q.cell 7, q.cell 8⟩
  have HV1 : Hid (∀ V, Below X.heap.size X V → Calls Try.prog 33 #[.agg #[.bool g.n, .slice g.a g.xs.length g.ca, .slice g.b g.ys.length g.cb], .agg #[.bool h.n, .slice h.a h.xs.length h.ca, .slice h.b h.ys.length h.cb]] V fun e w' => ∃ a1 c1 a2 c2, e = .returned (.agg #[.bool g.n, .slice a1 g.xs.length c1, .slice a2 h.xs.length c2]) ∧ Hid ((w'.ownsRow V.heap.size 43 1 (.slice a1 g.xs.length c1) g.xs.length (g.xs.map (Value.int .u32)) ∧ w'.ownsRow V.heap.size 43 1 (.slice a2 h.xs.length c2) h.xs.length (h.xs.map (Value.int .u32))) ∧ Below V.heap.size V w' ∧ Cut V (.slice a1 g.xs.length c1) (.slice a2 h.xs.length c2) w')) := fun V hv => by
    refine Calls.mono (oover_any _ _ _ _ _ _ _ _ _ _ _ _ _ _ V (sg1.later (bt HB.out hv)) (sh.later (bt HB.out hv)) lg1 lh) ?_
    rintro e w' ⟨a1, c1, a2, c2, rfl, ho, hb, hc⟩
    exact ⟨a1, c1, a2, c2, rfl, ho, hb, hc⟩
  have HV2 : Hid (∀ V, Below X.heap.size X V → Calls Try.prog 33 #[.agg #[.bool g.m, .slice g.c g.us.length g.cc, .slice g.d g.vs.length g.cd], .agg #[.bool h.n, .slice h.a h.xs.length h.ca, .slice h.b h.ys.length h.cb]] V fun e w' => ∃ a1 c1 a2 c2, e = .returned (.agg #[.bool g.m, .slice a1 g.us.length c1, .slice a2 h.xs.length c2]) ∧ Hid ((w'.ownsRow V.heap.size 43 1 (.slice a1 g.us.length c1) g.us.length (g.us.map (Value.int .u32)) ∧ w'.ownsRow V.heap.size 43 1 (.slice a2 h.xs.length c2) h.xs.length (h.xs.map (Value.int .u32))) ∧ Below V.heap.size V w' ∧ Cut V (.slice a1 g.us.length c1) (.slice a2 h.xs.length c2) w')) := fun V hv => by
    refine Calls.mono (oover_any _ _ _ _ _ _ _ _ _ _ _ _ _ _ V (sg2.later (bt HB.out hv)) (sh.later (bt HB.out hv)) lg2 lh) ?_
    rintro e w' ⟨a1, c1, a2, c2, rfl, ho, hb, hc⟩
    exact ⟨a1, c1, a2, c2, rfl, ho, hb, hc⟩
  have hd0 := hid (Below.refl X.heap.size X).drew
  have hs0 := HK.out _ hd0.out
  have hsz := HB.out.size
  clear sg1 sg2 sh lg1 lg2 lh
  go_enter Try.func20, Try.ntmps20
  go_wp2_with fail
  go_region_held3 (fun V : World => V.cell? ⟨w.heap.size, 0, none⟩ = some (.bool g.n) ∧ V.cell? ⟨w.heap.size, 1, none⟩ = some (.slice g.a g.xs.length g.ca) ∧ V.cell? ⟨w.heap.size, 2, none⟩ = some (.slice g.b g.ys.length g.cb) ∧ V.cell? ⟨w.heap.size, 3, none⟩ = some (.bool g.m) ∧ V.cell? ⟨w.heap.size, 4, none⟩ = some (.slice g.c g.us.length g.cc) ∧ V.cell? ⟨w.heap.size, 5, none⟩ = some (.slice g.d g.vs.length g.cd) ∧ V.cell? ⟨w.heap.size, 6, none⟩ = some (.bool h.n) ∧ V.cell? ⟨w.heap.size, 7, none⟩ = some (.slice h.a h.xs.length h.ca) ∧ V.cell? ⟨w.heap.size, 8, none⟩ = some (.slice h.b h.ys.length h.cb)) (first | exact hsC | exact hsB | exact hsA | exact hs0)
    (first
      | (go_at_call 33; (with_reducible refine Calls.mono (HV2.out _ hbA.out) ?_); rintro e w2 ⟨a3, c3, a4, c4, rfl, ho2⟩; have hbB := hid (bt hbA.out ho2.out.2.1); have hsB := HK.out _ hbB.out; obtain ⟨A0, A1, A2, A3, A4, A5, k0, k1, k2, k3, k4, k5, ⟨r0, r1, r2, r3, r4, r5⟩, ⟨f0, f1, f2, f3, f4, f5⟩, HA5⟩ := rchain6 (HZ.out.later hbB.out HZ.out.lt) (by decide) (.bool g.n) (.slice a1 g.xs.length c1) (.slice a2 h.xs.length c2) (.bool g.m) (.slice a3 g.us.length c3) (.slice a4 h.xs.length c4); have hsC := HKB.out _ (HA5.out.2.1 _ _ _ (by omega) (HP.out.later hbB.out HP.out.lt)))
      | (go_at_call 33; (with_reducible refine Calls.mono (HV1.out _ hd0.out) ?_); rintro e w1 ⟨a1, c1, a2, c2, rfl, ho1⟩; have hbA := hid (bt hd0.out ho1.out.2.1); have hsA := HK.out _ hbA.out))
  have h1 := hbA.out.size
  have h2 := ho2.out.2.1.size
  have h3 := HA5.out.2.2.2.2
  go_wp2_with fail
  refine bodyPost_ret (results_cell_row (by rfl) _ _ (w.heap.size + 1) 31 _ (0, 0) _ (by rfl) HA5.out.1 Try.underlying31 rfl (by kernel_rfl)) rfl ?_
  have b12 := ho2.out.2.1
  have ho2' := ho2.out.1
  refine ⟨a1, c1, a2, c2, a3, c3, a4, c4, rfl, ⟨HA5.out.2.2.1 _ _ _ _ (owns_base (owns_later ho1.out.1.1 b12) hsz), HA5.out.2.2.1 _ _ _ _ (owns_base (owns_later ho1.out.1.2 b12) hsz), HA5.out.2.2.1 _ _ _ _ (owns_base ho2'.1 (by omega)), HA5.out.2.2.1 _ _ _ _ (owns_base ho2'.2 (by omega))⟩, HA5.out.2.2.2.1 _ _ (by omega) (bt HB.out hbB.out), w1, ho1.out.2.2.up hsz (Nat.le_refl _), ho2.out.2.2.up (Nat.le_refl _) (by omega)⟩
end Go.Proofs.Ytbccnngdkanejaa

/- package rotor: first, Of. -/
namespace Go.Proofs.Ytbccnngdkanejaa
open Go.RowKit
set_option linter.unusedVariables false
set_option linter.unusedSimpArgs false

theorem osq (f : Int) (h : f.natAbs ≤ 1000) : 0 ≤ f * f ∧ f * f ≤ 1000000 := by
  have h1 : -1000 ≤ f := by omega
  have h2 : f ≤ 1000 := by omega
  have e : ((f.natAbs * f.natAbs : Nat) : Int) = f * f := Int.natAbs_mul_self
  have h3 : f.natAbs * f.natAbs ≤ 1000 * 1000 := Nat.mul_le_mul h h
  rw [← e]
  omega
theorem opr (f n : Int) (h : f.natAbs ≤ 1000) (g : n.natAbs ≤ 1000) : -1000000 ≤ f * n ∧ f * n ≤ 1000000 := by
  have h3 : (f * n).natAbs ≤ 1000 * 1000 := by rw [Int.natAbs_mul]; exact Nat.mul_le_mul h g
  omega
/-- The number of a rotor, in lowest terms: its parts' Nums, and their Den. -/
def oRe (f n : Int) : Int := if (f * f + n * n) % 2 = 0 then (f * f - n * n) / 2 else f * f - n * n
def oIm (f n : Int) : Int := if (f * f + n * n) % 2 = 0 then f * n else 2 * (f * n)
def oNm (f n : Int) : Int := if (f * f + n * n) % 2 = 0 then (f * f + n * n) / 2 else f * f + n * n

def OFst (w : World) (f n : Int) (x : Ending) (w' : World) : Prop := ∃ g h : G6, x = .returned (.agg #[.bool g.n, .slice g.a g.xs.length g.ca, .slice g.b g.ys.length g.cb, .bool g.m, .slice g.c g.us.length g.cc, .slice g.d g.vs.length g.cd, .bool h.n, .slice h.a h.xs.length h.ca, .slice h.b h.ys.length h.cb, .bool h.m, .slice h.c h.us.length h.cc, .slice h.d h.vs.length h.cd]) ∧ Hid (g.Ow w' w.heap.size ∧ h.Ow w' w.heap.size) ∧ Hid (g.Is (Rat.divInt (oRe f n) 1) (Rat.divInt (oIm f n) 1)) ∧ Hid (h.Is (Rat.divInt (oNm f n) 1) (Rat.divInt 0 1)) ∧ Hid (Below w.heap.size w w')
set_option maxHeartbeats 3200000 in
set_option maxRecDepth 100000 in
theorem ofirst_any (f n : Int) (w : World) (hf : 1 ≤ f ∧ f ≤ 1000) (hn : n.natAbs ≤ 1000) :
    Calls Try.prog 18 #[.agg #[.int .i32 f, .int .i32 n]] w (OFst w f n) := by
  obtain ⟨X, hX⟩ : ∃ X, (w.alloc (.cells #[.int .i32 f, .int .i32 n] 23)).alloc (.cells #[.bool false, .slice none 0 0, .slice none 0 0, .bool false, .slice none 0 0, .slice none 0 0, .bool false, .slice none 0 0, .slice none 0 0, .bool false, .slice none 0 0, .slice none 0 0] 49) = X := ⟨_, rfl⟩
  have HB : Hid (Below w.heap.size w X) := by rw [← hX]; exact bt (alloc_later _ _) (alloc_later _ _)
  have HR : Hid (Box X w.heap.size 23 #[.int .i32 f, .int .i32 n]) := by rw [← hX]; exact (Box.made w _ _).later (alloc_later _ _) (Box.made w _ _).lt
  have HZ : Hid (Box X (w.heap.size + 1) 49 #[.bool false, .slice none 0 0, .slice none 0 0, .bool false, .slice none 0 0, .slice none 0 0, .bool false, .slice none 0 0, .slice none 0 0, .bool false, .slice none 0 0, .slice none 0 0]) := by
    have q := Box.made (w.alloc (.cells #[.int .i32 f, .int .i32 n] 23)) 49 #[.bool false, .slice none 0 0, .slice none 0 0, .bool false, .slice none 0 0, .slice none 0 0, .bool false, .slice none 0 0, .slice none 0 0, .bool false, .slice none 0 0, .slice none 0 0]
    rw [show (w.alloc (.cells #[.int .i32 f, .int .i32 n] 23)).heap.size = w.heap.size + 1 by simp, hX] at q
    exact q
  have k0 : X.cell? ⟨w.heap.size, 0, none⟩ = some (.int .i32 f) := HR.out.cell 0
  have k1 : X.cell? ⟨w.heap.size, 1, none⟩ = some (.int .i32 n) := HR.out.cell 1
  have hF := osq f (by omega)
  have hN := osq n hn
  have hP := opr f n (by omega) hn
  have hn0 : -1000 ≤ n := by omega
  have hn1 : n ≤ 1000 := by omega
  have hQ : 2 * f * n = 2 * (f * n) := Int.mul_assoc 2 f n
  clear hn
  go_enter Try.func18, Try.ntmps18
  go_wp2_with fail
  go_quiet (fail)
  have HBN := hid (bdrewN (Below.refl X.heap.size X) nq)
  generalize X.drewN nq = Y at *
  by_cases hpar : (f * f + n * n) % 2 = 0
  · have hpt : Int.tmod (f * f + n * n) 2 = 0 := by rw [Int.tmod_eq_emod_of_nonneg (by omega)]; exact hpar
    have ht1 : Int.tdiv (f * f - n * n) 2 = (f * f - n * n) / 2 := by
      obtain ⟨k, hk⟩ : ∃ k, f * f - n * n = 2 * k := ⟨(f * f - n * n) / 2, by omega⟩
      rw [hk, Int.mul_tdiv_cancel_left _ (by decide), Int.mul_ediv_cancel_left _ (by decide)]
    have ht2 : Int.tdiv (2 * f * n) 2 = f * n := by rw [hQ, Int.mul_tdiv_cancel_left _ (by decide)]
    have ht3 : Int.tdiv (f * f + n * n) 2 = (f * f + n * n) / 2 := by rw [Int.tdiv_eq_ediv_of_nonneg (by omega)]
    have HC1 := hid (oInt_any ((f * f - n * n) / 2) (f * n) Y (by omega) (by omega) (by omega) (by omega))
    have HC2 := hid (fun V => oInt_any ((f * f + n * n) / 2) 0 V (by omega) (by omega) (by omega) (by omega))
    have E1 : Hid (oRe f n = (f * f - n * n) / 2 ∧ oIm f n = f * n ∧ oNm f n = (f * f + n * n) / 2) := by
      unfold oRe oIm oNm
      exact ⟨by rw [if_pos hpar], by rw [if_pos hpar], by rw [if_pos hpar]⟩
    go_wp2_with fail
    refine Calls.mono HC1.out ?_
    rintro e w1 ⟨g, rfl, hog, hig, hb1⟩
    have HD := hid (HC2.out w1)
    clear HC1 HC2
    go_wp2_with fail
    refine Calls.mono HD.out ?_
    rintro e w2 ⟨h, rfl, hoh, hih, hb2⟩
    clear HD
    have HBB := hid (bt HBN.out (bt hb1.out hb2.out))
    obtain ⟨A0, A1, A2, A3, A4, A5, A6, A7, A8, A9, A10, A11, q0, q1, q2, q3, q4, q5, q6, q7, q8, q9, q10, q11, ⟨r0, r1, r2, r3, r4, r5, r6, r7, r8, r9, r10, r11⟩, ⟨f0, f1, f2, f3, f4, f5, f6, f7, f8, f9, f10, f11⟩, HA⟩ := rchain12 (HZ.out.later HBB.out HZ.out.lt) (by decide) (.bool g.n) (.slice g.a g.xs.length g.ca) (.slice g.b g.ys.length g.cb) (.bool g.m) (.slice g.c g.us.length g.cc) (.slice g.d g.vs.length g.cd) (.bool h.n) (.slice h.a h.xs.length h.ca) (.slice h.b h.ys.length h.cb) (.bool h.m) (.slice h.c h.us.length h.cc) (.slice h.d h.vs.length h.cd)
    go_wp2_with fail
    refine bodyPost_ret (results_cell_row (by rfl) _ _ (w.heap.size + 1) 49 _ (0, 0) _ (by rfl) HA.out.1 Try.underlying49 rfl (by kernel_rfl)) rfl ?_
    have z1 := HB.out.size
    have z2 := HBN.out.size
    have z3 := hb1.out.size
    have P := HA.out.2.2.1
    have o1 := (hog.out.later hb2.out).base (show w.heap.size ≤ Y.heap.size by omega)
    have o2 := hoh.out.base (show w.heap.size ≤ w1.heap.size by omega)
    refine ⟨g, h, rfl, ⟨⟨P _ _ _ _ o1.1, P _ _ _ _ o1.2.1, P _ _ _ _ o1.2.2.1, P _ _ _ _ o1.2.2.2⟩, ⟨P _ _ _ _ o2.1, P _ _ _ _ o2.2.1, P _ _ _ _ o2.2.2.1, P _ _ _ _ o2.2.2.2⟩⟩, ?_, ?_, HA.out.2.2.2.1 _ _ (by omega) (bt HB.out HBB.out)⟩
    · rw [E1.out.1, E1.out.2.1]; exact hig
    · rw [E1.out.2.2]; exact hih
  · have hpt : Int.tmod (f * f + n * n) 2 = 1 := by rw [Int.tmod_eq_emod_of_nonneg (by omega)]; omega
    have HC1 := hid (oInt_any (f * f - n * n) (2 * (f * n)) Y (by omega) (by omega) (by omega) (by omega))
    have HC2 := hid (fun V => oInt_any (f * f + n * n) 0 V (by omega) (by omega) (by omega) (by omega))
    have E1 : Hid (oRe f n = f * f - n * n ∧ oIm f n = 2 * (f * n) ∧ oNm f n = f * f + n * n) := by
      unfold oRe oIm oNm
      exact ⟨by rw [if_neg hpar], by rw [if_neg hpar], by rw [if_neg hpar]⟩
    go_wp2_with fail
    refine Calls.mono HC1.out ?_
    rintro e w1 ⟨g, rfl, hog, hig, hb1⟩
    have HD := hid (HC2.out w1)
    clear HC1 HC2
    go_wp2_with fail
    refine Calls.mono HD.out ?_
    rintro e w2 ⟨h, rfl, hoh, hih, hb2⟩
    clear HD
    have HBB := hid (bt HBN.out (bt hb1.out hb2.out))
    obtain ⟨A0, A1, A2, A3, A4, A5, A6, A7, A8, A9, A10, A11, q0, q1, q2, q3, q4, q5, q6, q7, q8, q9, q10, q11, ⟨r0, r1, r2, r3, r4, r5, r6, r7, r8, r9, r10, r11⟩, ⟨f0, f1, f2, f3, f4, f5, f6, f7, f8, f9, f10, f11⟩, HA⟩ := rchain12 (HZ.out.later HBB.out HZ.out.lt) (by decide) (.bool g.n) (.slice g.a g.xs.length g.ca) (.slice g.b g.ys.length g.cb) (.bool g.m) (.slice g.c g.us.length g.cc) (.slice g.d g.vs.length g.cd) (.bool h.n) (.slice h.a h.xs.length h.ca) (.slice h.b h.ys.length h.cb) (.bool h.m) (.slice h.c h.us.length h.cc) (.slice h.d h.vs.length h.cd)
    go_wp2_with fail
    refine bodyPost_ret (results_cell_row (by rfl) _ _ (w.heap.size + 1) 49 _ (0, 0) _ (by rfl) HA.out.1 Try.underlying49 rfl (by kernel_rfl)) rfl ?_
    have z1 := HB.out.size
    have z2 := HBN.out.size
    have z3 := hb1.out.size
    have P := HA.out.2.2.1
    have o1 := (hog.out.later hb2.out).base (show w.heap.size ≤ Y.heap.size by omega)
    have o2 := hoh.out.base (show w.heap.size ≤ w1.heap.size by omega)
    refine ⟨g, h, rfl, ⟨⟨P _ _ _ _ o1.1, P _ _ _ _ o1.2.1, P _ _ _ _ o1.2.2.1, P _ _ _ _ o1.2.2.2⟩, ⟨P _ _ _ _ o2.1, P _ _ _ _ o2.2.1, P _ _ _ _ o2.2.2.1, P _ _ _ _ o2.2.2.2⟩⟩, ?_, ?_, HA.out.2.2.2.1 _ _ (by omega) (bt HB.out HBB.out)⟩
    · rw [E1.out.1, E1.out.2.1]; exact hig
    · rw [E1.out.2.2]; exact hih

/-- What Of tells of a rotor that may be. -/
def OOf (w : World) (f n : Int) (x : Ending) (w' : World) : Prop := ∃ g h : G6, ∃ a1 c1 a2 c2 a3 c3 a4 c4, x = .returned (.tuple #[.agg #[.bool g.n, .slice a1 g.xs.length c1, .slice a2 h.xs.length c2, .bool g.m, .slice a3 g.us.length c3, .slice a4 h.xs.length c4], .int .i64 0]) ∧ Hid (w'.ownsRow w.heap.size 43 1 (.slice a1 g.xs.length c1) g.xs.length (g.xs.map (Value.int .u32)) ∧ w'.ownsRow w.heap.size 43 1 (.slice a2 h.xs.length c2) h.xs.length (h.xs.map (Value.int .u32)) ∧ w'.ownsRow w.heap.size 43 1 (.slice a3 g.us.length c3) g.us.length (g.us.map (Value.int .u32)) ∧ w'.ownsRow w.heap.size 43 1 (.slice a4 h.xs.length c4) h.xs.length (h.xs.map (Value.int .u32))) ∧ Hid (g.Is (Rat.divInt (oRe f n) 1) (Rat.divInt (oIm f n) 1)) ∧ Hid (h.Is (Rat.divInt (oNm f n) 1) (Rat.divInt 0 1)) ∧ Hid (Below w.heap.size w w') ∧ Hid (∃ W1, Cut w (.slice a1 g.xs.length c1) (.slice a2 h.xs.length c2) W1 ∧ Cut W1 (.slice a3 g.us.length c3) (.slice a4 h.xs.length c4) w')
set_option maxHeartbeats 3200000 in
set_option maxRecDepth 100000 in
theorem oOf_good (f n : Int) (w : World) (hr : rOK f n) :
    Calls Try.prog 14 #[.agg #[.int .i32 f, .int .i32 n]] w (OOf w f n) := by
  obtain ⟨X, hX⟩ : ∃ X, (w.alloc (.cells #[.int .i32 f, .int .i32 n] 23)).alloc (.cells #[.bool false, .slice none 0 0, .slice none 0 0, .bool false, .slice none 0 0, .slice none 0 0] 31) = X := ⟨_, rfl⟩
  have HB : Hid (Below w.heap.size w X) := by rw [← hX]; exact bt (alloc_later _ _) (alloc_later _ _)
  have HR : Hid (Box X w.heap.size 23 #[.int .i32 f, .int .i32 n]) := by rw [← hX]; exact (Box.made w _ _).later (alloc_later _ _) (Box.made w _ _).lt
  have HZ : Hid (Box X (w.heap.size + 1) 31 #[.bool false, .slice none 0 0, .slice none 0 0, .bool false, .slice none 0 0, .slice none 0 0]) := by
    have q := Box.made (w.alloc (.cells #[.int .i32 f, .int .i32 n] 23)) 31 #[.bool false, .slice none 0 0, .slice none 0 0, .bool false, .slice none 0 0, .slice none 0 0]
    rw [show (w.alloc (.cells #[.int .i32 f, .int .i32 n] 23)).heap.size = w.heap.size + 1 by simp, hX] at q
    exact q
  have hin : in32 f n := by unfold rOK at hr; unfold in32; omega
  have HC := hid (ocheck_any f n X hin)
  have h0 : ochk f n = 0 := by unfold ochk; rw [if_pos hr]
  rw [h0] at HC
  have HF := hid (fun V => ofirst_any f n V (by unfold rOK at hr; omega) (by unfold rOK at hr; omega))
  have k0 : X.cell? ⟨w.heap.size, 0, none⟩ = some (.int .i32 f) := HR.out.cell 0
  have k1 : X.cell? ⟨w.heap.size, 1, none⟩ = some (.int .i32 n) := HR.out.cell 1
  clear h0 hin hr
  go_enter Try.func14, Try.ntmps14
  go_wp2_with fail
  clear hX
  refine Calls.mono HC.out ?_
  rintro e w1 ⟨rfl, hb1⟩
  have HB1 := hid hb1
  clear hb1 k0 k1 HC
  have k0 : w1.cell? ⟨w.heap.size, 0, none⟩ = some (.int .i32 f) := (HR.out.later HB1.out HR.out.lt).cell 0
  have k1 : w1.cell? ⟨w.heap.size, 1, none⟩ = some (.int .i32 n) := (HR.out.later HB1.out HR.out.lt).cell 1
  have HD := hid (HF.out w1)
  clear HF
  go_wp2_with fail
  refine Calls.mono HD.out ?_
  rintro e w2 ⟨g, h, rfl, ho2, hg, hh, hb2⟩
  have sg := ho2.out.1.sl hg.out
  have sh := ho2.out.2.sl hh.out
  have lg := hg.out.len
  have lh := hh.out.len
  have HN := hid (onumber_any g h w2 sg.1 sg.2.2.1 sh.1 (by omega) (by omega) (by omega))
  clear HD sg sh lg lh k0 k1
  go_wp2_with fail
  refine Calls.mono HN.out ?_
  rintro e w3 ⟨a1, c1, a2, c2, a3, c3, a4, c4, rfl, ho3, hb3, hc3⟩
  clear HN
  have HBB := hid (bt HB1.out (bt hb2.out hb3.out))
  obtain ⟨A0, A1, A2, A3, A4, A5, q0, q1, q2, q3, q4, q5, ⟨r0, r1, r2, r3, r4, r5⟩, ⟨f0, f1, f2, f3, f4, f5⟩, HA⟩ := rchain6 (HZ.out.later HBB.out HZ.out.lt) (by decide) (.bool g.n) (.slice a1 g.xs.length c1) (.slice a2 h.xs.length c2) (.bool g.m) (.slice a3 g.us.length c3) (.slice a4 h.xs.length c4)
  go_wp2_with fail
  have z1 := HB.out.size
  have z2 := HB1.out.size
  have z3 := hb2.out.size
  have P := HA.out.2.2.1
  have z4 := HA.out.2.2.2.2
  obtain ⟨W1, hc1, hc2⟩ := hc3.out
  refine bodyPost_ret (gres_run (by rfl) HA.out.1 _ (by rfl)) rfl ?_
  exact ⟨g, h, a1, c1, a2, c2, a3, c3, a4, c4, rfl, ⟨P _ _ _ _ (owns_base ho3.out.1 (by omega)), P _ _ _ _ (owns_base ho3.out.2.1 (by omega)), P _ _ _ _ (owns_base ho3.out.2.2.1 (by omega)), P _ _ _ _ (owns_base ho3.out.2.2.2 (by omega))⟩, hg, hh, HA.out.2.2.2.1 _ _ (by omega) (bt HB.out HBB.out), W1, hc1.up (by omega) (Nat.le_refl _), hc2.up (Nat.le_refl _) (by omega)⟩
end Go.Proofs.Ytbccnngdkanejaa

/- No program: powers of complex whole numbers; each power of a rotor's number is in lowest terms, and none is long. -/
namespace Go.Proofs.Ytbccnngdkanejaa
set_option linter.unusedVariables false

/-- Products and powers of complex whole numbers. -/
def zmul (p q : Int × Int) : Int × Int := (p.1 * q.1 - p.2 * q.2, p.1 * q.2 + p.2 * q.1)
def zpow (p : Int × Int) : Nat → Int × Int
  | 0 => (1, 0)
  | t + 1 => zmul (zpow p t) p
theorem zmul_assoc (p q r : Int × Int) : zmul (zmul p q) r = zmul p (zmul q r) := by
  unfold zmul
  apply Prod.ext
  · show (p.1 * q.1 - p.2 * q.2) * r.1 - (p.1 * q.2 + p.2 * q.1) * r.2 = p.1 * (q.1 * r.1 - q.2 * r.2) - p.2 * (q.1 * r.2 + q.2 * r.1)
    grind
  · show (p.1 * q.1 - p.2 * q.2) * r.2 + (p.1 * q.2 + p.2 * q.1) * r.1 = p.1 * (q.1 * r.2 + q.2 * r.1) + p.2 * (q.1 * r.1 - q.2 * r.2)
    grind
theorem zmul_one (p : Int × Int) : zmul p (1, 0) = p := by
  unfold zmul
  apply Prod.ext
  · show p.1 * 1 - p.2 * 0 = p.1
    omega
  · show p.1 * 0 + p.2 * 1 = p.2
    omega
theorem zpow_add (p : Int × Int) (s t : Nat) : zpow p (s + t) = zmul (zpow p s) (zpow p t) := by
  induction t with
  | zero => exact (zmul_one _).symm
  | succ t ih =>
    show zmul (zpow p (s + t)) p = zmul (zpow p s) (zmul (zpow p t) p)
    rw [ih, zmul_assoc]
theorem zpow_norm (p : Int × Int) (t : Nat) : (zpow p t).1 * (zpow p t).1 + (zpow p t).2 * (zpow p t).2 = (p.1 * p.1 + p.2 * p.2) ^ t := by
  induction t with
  | zero => rw [Int.pow_zero]; rfl
  | succ t ih =>
    rw [Int.pow_succ, ← ih]
    show ((zpow p t).1 * p.1 - (zpow p t).2 * p.2) * ((zpow p t).1 * p.1 - (zpow p t).2 * p.2) + ((zpow p t).1 * p.2 + (zpow p t).2 * p.1) * ((zpow p t).1 * p.2 + (zpow p t).2 * p.1) = _
    generalize (zpow p t).1 = x
    generalize (zpow p t).2 = y
    grind
/-- The other way round. -/
def zconj (p : Int × Int) : Int × Int := (p.1, -p.2)
theorem zpow_conj (p : Int × Int) (t : Nat) : zpow (zconj p) t = zconj (zpow p t) := by
  induction t with
  | zero => rfl
  | succ t ih =>
    show zmul (zpow (zconj p) t) (zconj p) = zconj (zmul (zpow p t) p)
    rw [ih]
    unfold zmul zconj
    apply Prod.ext
    · show (zpow p t).1 * p.1 - -(zpow p t).2 * -p.2 = (zpow p t).1 * p.1 - (zpow p t).2 * p.2
      rw [Int.neg_mul_neg]
    · show (zpow p t).1 * -p.2 + -(zpow p t).2 * p.1 = -((zpow p t).1 * p.2 + (zpow p t).2 * p.1)
      rw [Int.mul_neg, Int.neg_mul]
      omega
theorem z_mod (f n e M re im : Int) (h : e * (f * f + n * n) = 2 * M) (hre : re = e * (f * f) - M) (him : im = e * (f * n)) (t : Nat) : ∃ u v, (zpow (re, im) (t + 1)).1 = e * f * (2 * e * (f * f)) ^ t * f + M * u ∧ (zpow (re, im) (t + 1)).2 = e * f * (2 * e * (f * f)) ^ t * n + M * v := by
  induction t with
  | zero =>
    refine ⟨-1, 0, ?_, ?_⟩
    · show 1 * re - 0 * im = _
      rw [hre, Int.pow_zero]
      grind
    · show 1 * im + 0 * re = _
      rw [him, Int.pow_zero]
      grind
  | succ t ih =>
    obtain ⟨u, v, h1, h2⟩ := ih
    rw [Int.pow_succ]
    generalize hc : e * f * (2 * e * (f * f)) ^ t = c at h1 h2
    have hc' : e * f * ((2 * e * (f * f)) ^ t * (2 * e * (f * f))) = c * (2 * e * (f * f)) := by rw [← hc, Int.mul_assoc (e * f)]
    rw [hc']
    refine ⟨u * re - v * im - 3 * (c * f), u * im + v * re - c * n, ?_, ?_⟩
    · show (zpow (re, im) (t + 1)).1 * re - (zpow (re, im) (t + 1)).2 * im = _
      rw [h1, h2]
      have k : c * f * (e * (f * f + n * n)) = c * f * (2 * M) := by rw [h]
      have e1 : (c * f + M * u) * re - (c * n + M * v) * im = c * f * re - c * n * im + M * (u * re - v * im) := by grind
      rw [e1, show c * f * re - c * n * im = c * f * (e * (f * f) - M) - c * n * (e * (f * n)) by rw [hre, him]]
      grind
    · show (zpow (re, im) (t + 1)).1 * im + (zpow (re, im) (t + 1)).2 * re = _
      rw [h1, h2]
      have e1 : (c * f + M * u) * im + (c * n + M * v) * re = c * f * im + c * n * re + M * (u * im + v * re) := by grind
      rw [e1, show c * f * im + c * n * re = c * f * (e * (f * n)) + c * n * (e * (f * f) - M) by rw [hre, him]]
      grind
theorem gcd_mul_one {x y z : Int} (h : Int.gcd x z = 1) (g : Int.gcd y z = 1) : Int.gcd (x * y) z = 1 := by
  show Nat.gcd (x * y).natAbs z.natAbs = 1
  rw [Int.natAbs_mul]
  exact Nat.Coprime.mul_left h g
theorem gcd_pow_one {x z : Int} (t : Nat) (h : Int.gcd x z = 1) : Int.gcd (x ^ t) z = 1 := by
  show Nat.gcd (x ^ t).natAbs z.natAbs = 1
  rw [Int.natAbs_pow]
  exact Nat.Coprime.pow_left t h
theorem gcd_one_pow {x z : Int} (t : Nat) (h : Int.gcd x z = 1) : Int.gcd x (z ^ t) = 1 := by
  rw [Int.gcd_comm]
  exact gcd_pow_one t (by rw [Int.gcd_comm]; exact h)
theorem gcd_two_odd {M : Int} (h : M % 2 = 1) : Int.gcd 2 M = 1 := by
  obtain ⟨k, hk⟩ : ∃ k, M = 1 + 2 * k := ⟨M / 2, by omega⟩
  rw [Int.gcd_comm, hk, Int.gcd_add_mul_left_left]
  rfl
/-- A rotor's number: what its parts come from. -/
theorem o_parts {f n : Int} (h : rOK f n) : ∃ e : Int, (e = 1 ∨ e = 2) ∧ e * (f * f + n * n) = 2 * oNm f n ∧ oRe f n = e * (f * f) - oNm f n ∧ oIm f n = e * (f * n) ∧ oNm f n % 2 = 1 ∧ 5 ≤ oNm f n ∧ oNm f n ≤ 2000000 ∧ Int.gcd f (oNm f n) = 1 ∧ Int.gcd n (oNm f n) = 1 := by
  obtain ⟨h1, h2, h3, h4, h5, h6⟩ := h
  have hF := osq f (by omega)
  have hN := osq n h4
  have hg : Int.gcd f n = 1 := by
    show Nat.gcd f.natAbs n.natAbs = 1
    rw [show f.natAbs = f.toNat by omega]; exact h6
  have gf : Int.gcd f (f * f + n * n) = 1 := by
    rw [Int.gcd_comm, Int.add_comm, Int.gcd_add_mul_left_left, Int.gcd_comm]
    rw [Int.gcd_comm]
    exact gcd_mul_one (by rw [Int.gcd_comm]; exact hg) (by rw [Int.gcd_comm]; exact hg)
  have gn : Int.gcd n (f * f + n * n) = 1 := by
    rw [Int.gcd_comm, Int.gcd_add_mul_left_left]
    exact gcd_mul_one hg hg
  have hbig : 5 ≤ f * f + n * n ∧ ((f * f + n * n) % 2 = 0 → 10 ≤ f * f + n * n) := by
    have e2 : ((n.natAbs * n.natAbs : Nat) : Int) = n * n := Int.natAbs_mul_self
    obtain ⟨a, ha⟩ : ∃ a : Nat, f = a := ⟨f.toNat, by omega⟩
    obtain ⟨b, hb⟩ : ∃ b : Nat, n.natAbs = b := ⟨_, rfl⟩
    rw [hb] at e2 h3 h4 h5 h6
    rw [← e2, ha, show (a : Int) * a + ((b * b : Nat) : Int) = ((a * a + b * b : Nat) : Int) by simp]
    rw [ha] at h1 h2 h5 h6
    have h5' : a ≠ b := fun e => h5 (by rw [e])
    have ha1 : 1 ≤ a := by omega
    rcases Nat.lt_or_ge a 2 with q | q
    · have : a = 1 := by omega
      subst this
      have hb2 : 2 ≤ b := by omega
      rcases Nat.lt_or_ge b 3 with r | r
      · have : b = 2 := by omega
        subst this
        decide
      · have := Nat.mul_le_mul r r
        omega
    · rcases Nat.lt_or_ge b 2 with r | r
      · have : b = 1 := by omega
        subst this
        rcases Nat.lt_or_ge a 3 with s | s
        · have : a = 2 := by omega
          subst this
          decide
        · have := Nat.mul_le_mul s s
          omega
      · rcases Nat.lt_or_ge a b with s | s
        · have q1 := Nat.mul_le_mul q q
          have q2 : 3 * 3 ≤ b * b := Nat.mul_le_mul (by omega) (by omega)
          omega
        · have q1 := Nat.mul_le_mul r r
          have q2 : 3 * 3 ≤ a * a := Nat.mul_le_mul (by omega) (by omega)
          omega
  by_cases hp : (f * f + n * n) % 2 = 0
  · have eN : oNm f n = (f * f + n * n) / 2 := by unfold oNm; rw [if_pos hp]
    have eR : oRe f n = (f * f - n * n) / 2 := by unfold oRe; rw [if_pos hp]
    have eI : oIm f n = f * n := by unfold oIm; rw [if_pos hp]
    have odd : f % 2 = 1 ∧ n % 2 = 1 := by
      have m1 : (f * f) % 2 = (f % 2) * (f % 2) % 2 := Int.mul_emod f f 2
      have m2 : (n * n) % 2 = (n % 2) * (n % 2) % 2 := Int.mul_emod n n 2
      have f0 : f % 2 = 0 ∨ f % 2 = 1 := by omega
      have n0 : n % 2 = 0 ∨ n % 2 = 1 := by omega
      rcases f0 with f0 | f0 <;> rcases n0 with n0 | n0 <;> rw [f0] at m1 <;> rw [n0] at m2
      · exfalso
        have d : (2 : Int) ∣ (Int.gcd f n : Int) := Int.dvd_coe_gcd (by omega) (by omega)
        rw [hg] at d
        omega
      · omega
      · omega
      · exact ⟨f0, n0⟩
    obtain ⟨a, ha⟩ : ∃ a, f = 2 * a + 1 := ⟨f / 2, by omega⟩
    obtain ⟨b, hb⟩ : ∃ b, n = 2 * b + 1 := ⟨n / 2, by omega⟩
    have hM : f * f + n * n = 2 * (2 * (a * a + a + b * b + b) + 1) := by rw [ha, hb]; grind
    have dM : oNm f n ∣ f * f + n * n := ⟨2, by rw [eN]; omega⟩
    have g1 : Int.gcd f (oNm f n) = 1 := Nat.Coprime.coprime_dvd_right (Int.natAbs_dvd_natAbs.2 dM) gf
    have g2 : Int.gcd n (oNm f n) = 1 := Nat.Coprime.coprime_dvd_right (Int.natAbs_dvd_natAbs.2 dM) gn
    have := hbig.2 hp
    exact ⟨1, .inl rfl, by rw [eN]; omega, by rw [eN, eR]; omega, by rw [eI]; omega, by rw [eN]; omega, by rw [eN]; omega, by rw [eN]; omega, g1, g2⟩
  · have eN : oNm f n = f * f + n * n := by unfold oNm; rw [if_neg hp]
    have eR : oRe f n = f * f - n * n := by unfold oRe; rw [if_neg hp]
    have eI : oIm f n = 2 * (f * n) := by unfold oIm; rw [if_neg hp]
    exact ⟨2, .inr rfl, by rw [eN], by rw [eN, eR]; omega, eI, by rw [eN]; omega, by rw [eN]; exact hbig.1, by rw [eN]; omega, by rw [eN]; exact gf, by rw [eN]; exact gn⟩
theorem o_size {f n : Int} (h : rOK f n) : oRe f n * oRe f n + oIm f n * oIm f n = oNm f n * oNm f n := by
  obtain ⟨e, he, h1, h2, h3, _⟩ := o_parts h
  generalize oNm f n = M at *
  rw [h2, h3]
  rcases he with rfl | rfl
  · have : 2 * M = f * f + n * n := by omega
    grind
  · have : M = f * f + n * n := by omega
    subst this
    grind
/-- Each power of a rotor's number is in lowest terms. -/
theorem o_low {f n : Int} (h : rOK f n) (t : Nat) : Int.gcd (zpow (oRe f n, oIm f n) t).1 (oNm f n ^ t) = 1 ∧ Int.gcd (zpow (oRe f n, oIm f n) t).2 (oNm f n ^ t) = 1 := by
  cases t with
  | zero => exact ⟨by rw [Int.pow_zero]; exact Int.gcd_one_right _, by rw [Int.pow_zero]; exact Int.gcd_one_right _⟩
  | succ t =>
    obtain ⟨e, he, h1, h2, h3, h4, h5, h6, g1, g2⟩ := o_parts h
    have g0 : Int.gcd 2 (oNm f n) = 1 := gcd_two_odd h4
    have ge : Int.gcd e (oNm f n) = 1 := by
      rcases he with rfl | rfl
      · exact Int.one_gcd
      · exact g0
    obtain ⟨u, v, q1, q2⟩ := z_mod f n e (oNm f n) (oRe f n) (oIm f n) h1 h2 h3 t
    have gc : Int.gcd (e * f * (2 * e * (f * f)) ^ t) (oNm f n) = 1 := gcd_mul_one (gcd_mul_one ge g1) (gcd_pow_one t (gcd_mul_one (gcd_mul_one g0 ge) (gcd_mul_one g1 g1)))
    refine ⟨gcd_one_pow _ ?_, gcd_one_pow _ ?_⟩
    · rw [q1, Int.gcd_add_mul_left_left]; exact gcd_mul_one gc g1
    · rw [q2, Int.gcd_add_mul_left_left]; exact gcd_mul_one gc g2
/-- No power but the power 0 is 1, and none is long. -/
theorem o_big {f n : Int} (h : rOK f n) (t : Nat) : (zpow (oRe f n, oIm f n) t).1.natAbs ≤ (oNm f n).natAbs ^ t ∧ (zpow (oRe f n, oIm f n) t).2.natAbs ≤ (oNm f n).natAbs ^ t := by
  have e := zpow_norm (oRe f n, oIm f n) t
  have e2 : ((oRe f n, oIm f n).1 * (oRe f n, oIm f n).1 + (oRe f n, oIm f n).2 * (oRe f n, oIm f n).2) = oNm f n * oNm f n := o_size h
  rw [e2, Int.mul_pow] at e
  generalize (zpow (oRe f n, oIm f n) t).1 = x at *
  generalize (zpow (oRe f n, oIm f n) t).2 = y at *
  have ex : ((x.natAbs * x.natAbs : Nat) : Int) = x * x := Int.natAbs_mul_self
  have ey : ((y.natAbs * y.natAbs : Nat) : Int) = y * y := Int.natAbs_mul_self
  have eN : (((oNm f n ^ t).natAbs * (oNm f n ^ t).natAbs : Nat) : Int) = oNm f n ^ t * oNm f n ^ t := Int.natAbs_mul_self
  rw [← ex, ← ey, ← eN, Int.natAbs_pow] at e
  generalize (oNm f n).natAbs ^ t = B at *
  have e' : x.natAbs * x.natAbs + y.natAbs * y.natAbs = B * B := by omega
  constructor
  · apply Nat.le_of_not_lt
    intro hlt
    have := Nat.mul_self_lt_mul_self hlt
    omega
  · apply Nat.le_of_not_lt
    intro hlt
    have := Nat.mul_self_lt_mul_self hlt
    omega
end Go.Proofs.Ytbccnngdkanejaa

/- gauss.Mul of numbers as letters; package rotor: one, times. (tools/mkrq3.py) -/
namespace Go.Proofs.Ytbccnngdkanejaa
open Go.RowKit
set_option linter.unusedVariables false
set_option linter.unusedSimpArgs false

theorem o_div1 (x : Int) : Rat.divInt x 1 = (x : Rat) := by
  rw [Rat.divInt_eq_div]
  show (x : Rat) / (1 : Rat) = (x : Rat)
  grind
def o2 (k : Nat) : Nat := 2 ^ k
theorem o2_lt {m n : Nat} (h : m < n) : o2 m < o2 n := Nat.pow_lt_pow_right (by decide) h
theorem o2_mul (m n : Nat) : o2 m * o2 n = o2 (m + n) := (Nat.pow_add 2 m n).symm
theorem o2_wlim (k : Nat) : (4294967296 : Int) ^ k = ((o2 (32 * k) : Nat) : Int) := by
  unfold o2
  rw [Nat.pow_mul, Int.natCast_pow]
  rfl
/-- What is not long, for sure. -/
def oL : Nat := o2 60000
theorem oL_lt : (oL : Int) < wlim := by
  unfold wlim
  rw [o2_wlim]
  exact Int.ofNat_lt.2 (o2_lt (by decide))
theorem oint_short {x : Int} (h : x.natAbs < oL) : ¬ rlong (x : Rat) := by
  have e := oL_lt
  rintro (hh | hh)
  · rw [Rat.num_intCast] at hh; omega
  · rw [Rat.den_intCast] at hh
    have : (1 : Int) ≤ oL := by omega
    omega
/-- Products and sums of whole numbers that are not too long. -/
theorem omul_short {x y z t : Int} {B C : Nat} (hx : x.natAbs ≤ B) (hy : y.natAbs ≤ B) (hz : z.natAbs ≤ C) (ht : t.natAbs ≤ C) (hb : 2 * (B * C) < oL) : ¬ mlong (x : Rat) (y : Rat) (z : Rat) (t : Rat) := by
  have k : ∀ {a b : Int}, a.natAbs ≤ B → b.natAbs ≤ C → (a * b).natAbs ≤ B * C := fun ha hb => by rw [Int.natAbs_mul]; exact Nat.mul_le_mul ha hb
  have h1 := k hx hz
  have h2 := k hy ht
  have h3 := k hx ht
  have h4 := k hy hz
  unfold mlong
  rw [← Rat.intCast_mul, ← Rat.intCast_mul, ← Rat.intCast_mul, ← Rat.intCast_mul, ← Rat.intCast_sub, ← Rat.intCast_add]
  have s : ∀ {a : Int}, a.natAbs ≤ 2 * (B * C) → ¬ rlong (a : Rat) := fun ha => oint_short (by omega)
  rintro (((h | h) | h) | ((h | h) | h))
  · exact s (by omega) h
  · exact s (by omega) h
  · exact s (by omega) h
  · exact s (by omega) h
  · exact s (by omega) h
  · exact s (by omega) h

/-- gauss.Mul, as letters. -/
theorem oMul_any (g h : G6) (q1 q2 r1 r2 : Rat) (w : World) (sg : g.Sl4 w) (sh : h.Sl4 w) (ig : g.Is q1 q2) (ih : h.Is r1 r2) (hl : ¬ mlong q1 q2 r1 r2) :
    Calls Try.prog 7 #[.agg #[.bool g.n, .slice g.a g.xs.length g.ca, .slice g.b g.ys.length g.cb, .bool g.m, .slice g.c g.us.length g.cc, .slice g.d g.vs.length g.cd], .agg #[.bool h.n, .slice h.a h.xs.length h.ca, .slice h.b h.ys.length h.cb, .bool h.m, .slice h.c h.us.length h.cc, .slice h.d h.vs.length h.cd]] w fun e w' => ∃ k : G6, e = .returned (.tuple #[.agg #[.bool k.n, .slice k.a k.xs.length k.ca, .slice k.b k.ys.length k.cb, .bool k.m, .slice k.c k.us.length k.cc, .slice k.d k.vs.length k.cd], .int .i64 0]) ∧ Hid (k.Ow w' w.heap.size) ∧ Hid (k.Is (q1 * r1 - q2 * r2) (q1 * r2 + q2 * r1)) ∧ Hid (Below w.heap.size w w') := by
  refine Calls.mono (gMul_full g.n g.a g.ca g.xs g.b g.cb g.ys g.m g.c g.cc g.us g.d g.cd g.vs h.n h.a h.ca h.xs h.b h.cb h.ys h.m h.c h.cc h.us h.d h.cd h.vs w sg.1 sg.2.1 sg.2.2.1 sg.2.2.2 sh.1 sh.2.1 sh.2.2.1 sh.2.2.2) ?_
  rw [ig.chk, ih.chk, ig.1.2, ig.2.1.2, ih.1.2, ih.2.1.2]
  rintro e w' ⟨n, a, ca, xs, b, cb, ys, m, c, cc, us, d, cd, vs, code, rfl, ho, ht, hb⟩
  obtain ⟨hc, h1, h2⟩ := ht.good (by unfold fstE; rfl) hl
  subst hc
  exact ⟨⟨n, a, ca, xs, b, cb, ys, m, c, cc, us, d, cd, vs⟩, rfl, ho, ⟨h1, h2, ht.wd⟩, hb⟩

/-- A power in two pieces: its top, and what is under it. -/
def OPw (g h : G6) (z : Int × Int) (M : Int) : Prop := g.Is (z.1 : Rat) (z.2 : Rat) ∧ h.Is (M : Rat) ((0 : Int) : Rat)
def OPt (w : World) (z : Int × Int) (M : Int) (x : Ending) (w' : World) : Prop := ∃ g h : G6, x = .returned (.agg #[.bool g.n, .slice g.a g.xs.length g.ca, .slice g.b g.ys.length g.cb, .bool g.m, .slice g.c g.us.length g.cc, .slice g.d g.vs.length g.cd, .bool h.n, .slice h.a h.xs.length h.ca, .slice h.b h.ys.length h.cb, .bool h.m, .slice h.c h.us.length h.cc, .slice h.d h.vs.length h.cd]) ∧ Hid (g.Ow w' w.heap.size ∧ h.Ow w' w.heap.size) ∧ Hid (OPw g h z M) ∧ Hid (Below w.heap.size w w')

set_option maxHeartbeats 6400000 in
set_option maxRecDepth 100000 in
theorem otimes_any (g h g2 h2 : G6) (z z2 : Int × Int) (M M2 : Int) (w : World) (sg : g.Sl4 w) (sh : h.Sl4 w) (sg2 : g2.Sl4 w) (sh2 : h2.Sl4 w) (hp : OPw g h z M) (hp2 : OPw g2 h2 z2 M2) (B C : Nat) (b1 : z.1.natAbs ≤ B) (b2 : z.2.natAbs ≤ B) (b3 : M.natAbs ≤ B) (c1 : z2.1.natAbs ≤ C) (c2 : z2.2.natAbs ≤ C) (c3 : M2.natAbs ≤ C) (hb : 2 * (B * C) < oL) :
    Calls Try.prog 32 #[.agg #[.bool g.n, .slice g.a g.xs.length g.ca, .slice g.b g.ys.length g.cb, .bool g.m, .slice g.c g.us.length g.cc, .slice g.d g.vs.length g.cd, .bool h.n, .slice h.a h.xs.length h.ca, .slice h.b h.ys.length h.cb, .bool h.m, .slice h.c h.us.length h.cc, .slice h.d h.vs.length h.cd], .agg #[.bool g2.n, .slice g2.a g2.xs.length g2.ca, .slice g2.b g2.ys.length g2.cb, .bool g2.m, .slice g2.c g2.us.length g2.cc, .slice g2.d g2.vs.length g2.cd, .bool h2.n, .slice h2.a h2.xs.length h2.ca, .slice h2.b h2.ys.length h2.cb, .bool h2.m, .slice h2.c h2.us.length h2.cc, .slice h2.d h2.vs.length h2.cd]] w (OPt w (zmul z z2) (M * M2)) := by
  have hl1 := omul_short b1 b2 c1 c2 hb
  have hl2 : ¬ mlong (M : Rat) ((0 : Int) : Rat) (M2 : Rat) ((0 : Int) : Rat) := omul_short b3 (Nat.zero_le _) c3 (Nat.zero_le _) hb
  clear b1 b2 b3 c1 c2 c3 hb
  obtain ⟨X, hX⟩ : ∃ X, ((w.alloc (.cells #[.bool g.n, .slice g.a g.xs.length g.ca, .slice g.b g.ys.length g.cb, .bool g.m, .slice g.c g.us.length g.cc, .slice g.d g.vs.length g.cd, .bool h.n, .slice h.a h.xs.length h.ca, .slice h.b h.ys.length h.cb, .bool h.m, .slice h.c h.us.length h.cc, .slice h.d h.vs.length h.cd] 49)).alloc (.cells #[.bool g2.n, .slice g2.a g2.xs.length g2.ca, .slice g2.b g2.ys.length g2.cb, .bool g2.m, .slice g2.c g2.us.length g2.cc, .slice g2.d g2.vs.length g2.cd, .bool h2.n, .slice h2.a h2.xs.length h2.ca, .slice h2.b h2.ys.length h2.cb, .bool h2.m, .slice h2.c h2.us.length h2.cc, .slice h2.d h2.vs.length h2.cd] 49)).alloc (.cells #[.bool false, .slice none 0 0, .slice none 0 0, .bool false, .slice none 0 0, .slice none 0 0, .bool false, .slice none 0 0, .slice none 0 0, .bool false, .slice none 0 0, .slice none 0 0] 49) = X := ⟨_, rfl⟩
  have HX := hid (boxes3r w 49 #[.bool g.n, .slice g.a g.xs.length g.ca, .slice g.b g.ys.length g.cb, .bool g.m, .slice g.c g.us.length g.cc, .slice g.d g.vs.length g.cd, .bool h.n, .slice h.a h.xs.length h.ca, .slice h.b h.ys.length h.cb, .bool h.m, .slice h.c h.us.length h.cc, .slice h.d h.vs.length h.cd] #[.bool g2.n, .slice g2.a g2.xs.length g2.ca, .slice g2.b g2.ys.length g2.cb, .bool g2.m, .slice g2.c g2.us.length g2.cc, .slice g2.d g2.vs.length g2.cd, .bool h2.n, .slice h2.a h2.xs.length h2.ca, .slice h2.b h2.ys.length h2.cb, .bool h2.m, .slice h2.c h2.us.length h2.cc, .slice h2.d h2.vs.length h2.cd] #[.bool false, .slice none 0 0, .slice none 0 0, .bool false, .slice none 0 0, .slice none 0 0, .bool false, .slice none 0 0, .slice none 0 0, .bool false, .slice none 0 0, .slice none 0 0])
  rw [hX] at HX
  have HM1 : Hid (∀ V, Below X.heap.size X V → Calls Try.prog 7 #[.agg #[.bool g.n, .slice g.a g.xs.length g.ca, .slice g.b g.ys.length g.cb, .bool g.m, .slice g.c g.us.length g.cc, .slice g.d g.vs.length g.cd], .agg #[.bool g2.n, .slice g2.a g2.xs.length g2.ca, .slice g2.b g2.ys.length g2.cb, .bool g2.m, .slice g2.c g2.us.length g2.cc, .slice g2.d g2.vs.length g2.cd]] V fun e w' => ∃ k : G6, e = .returned (.tuple #[.agg #[.bool k.n, .slice k.a k.xs.length k.ca, .slice k.b k.ys.length k.cb, .bool k.m, .slice k.c k.us.length k.cc, .slice k.d k.vs.length k.cd], .int .i64 0]) ∧ Hid (k.Ow w' V.heap.size) ∧ Hid (k.Is ((z.1 : Rat) * z2.1 - z.2 * z2.2) ((z.1 : Rat) * z2.2 + z.2 * z2.1)) ∧ Hid (Below V.heap.size V w')) := fun V hv => oMul_any g g2 _ _ _ _ V (sg.later (bt HX.out.2.2.2 hv)) (sg2.later (bt HX.out.2.2.2 hv)) hp.1 hp2.1 hl1
  have HM2 : Hid (∀ V, Below X.heap.size X V → Calls Try.prog 7 #[.agg #[.bool h.n, .slice h.a h.xs.length h.ca, .slice h.b h.ys.length h.cb, .bool h.m, .slice h.c h.us.length h.cc, .slice h.d h.vs.length h.cd], .agg #[.bool h2.n, .slice h2.a h2.xs.length h2.ca, .slice h2.b h2.ys.length h2.cb, .bool h2.m, .slice h2.c h2.us.length h2.cc, .slice h2.d h2.vs.length h2.cd]] V fun e w' => ∃ k : G6, e = .returned (.tuple #[.agg #[.bool k.n, .slice k.a k.xs.length k.ca, .slice k.b k.ys.length k.cb, .bool k.m, .slice k.c k.us.length k.cc, .slice k.d k.vs.length k.cd], .int .i64 0]) ∧ Hid (k.Ow w' V.heap.size) ∧ Hid (k.Is ((M : Rat) * M2 - ((0 : Int) : Rat) * ((0 : Int) : Rat)) ((M : Rat) * ((0 : Int) : Rat) + ((0 : Int) : Rat) * M2)) ∧ Hid (Below V.heap.size V w')) := fun V hv => oMul_any h h2 _ _ _ _ V (sh.later (bt HX.out.2.2.2 hv)) (sh2.later (bt HX.out.2.2.2 hv)) hp.2 hp2.2 hl2
  clear sg sh sg2 sh2 hp hp2 hl1 hl2
  have p0 : X.cell? ⟨w.heap.size, 0, none⟩ = some (.bool g.n) := (HX.out.1).cell 0
  have p1 : X.cell? ⟨w.heap.size, 1, none⟩ = some (.slice g.a g.xs.length g.ca) := (HX.out.1).cell 1
  have p2 : X.cell? ⟨w.heap.size, 2, none⟩ = some (.slice g.b g.ys.length g.cb) := (HX.out.1).cell 2
  have p3 : X.cell? ⟨w.heap.size, 3, none⟩ = some (.bool g.m) := (HX.out.1).cell 3
  have p4 : X.cell? ⟨w.heap.size, 4, none⟩ = some (.slice g.c g.us.length g.cc) := (HX.out.1).cell 4
  have p5 : X.cell? ⟨w.heap.size, 5, none⟩ = some (.slice g.d g.vs.length g.cd) := (HX.out.1).cell 5
  have s0 : X.cell? ⟨w.heap.size + 1, 0, none⟩ = some (.bool g2.n) := (HX.out.2.1).cell 0
  have s1 : X.cell? ⟨w.heap.size + 1, 1, none⟩ = some (.slice g2.a g2.xs.length g2.ca) := (HX.out.2.1).cell 1
  have s2 : X.cell? ⟨w.heap.size + 1, 2, none⟩ = some (.slice g2.b g2.ys.length g2.cb) := (HX.out.2.1).cell 2
  have s3 : X.cell? ⟨w.heap.size + 1, 3, none⟩ = some (.bool g2.m) := (HX.out.2.1).cell 3
  have s4 : X.cell? ⟨w.heap.size + 1, 4, none⟩ = some (.slice g2.c g2.us.length g2.cc) := (HX.out.2.1).cell 4
  have s5 : X.cell? ⟨w.heap.size + 1, 5, none⟩ = some (.slice g2.d g2.vs.length g2.cd) := (HX.out.2.1).cell 5
  have HD := hid (HM1.out X (Below.refl _ _))
  clear HM1
  go_enter Try.func32, Try.ntmps32
  go_wp2_with fail
  clear hX
  refine Calls.mono HD.out ?_
  rintro e w1 ⟨k, rfl, hok, hik, hb1⟩
  clear HD p0 p1 p2 p3 p4 p5 s0 s1 s2 s3 s4 s5
  obtain ⟨Y, hY⟩ : ∃ Y, w1.alloc (.cells #[.bool false, .slice none 0 0, .slice none 0 0, .bool false, .slice none 0 0, .slice none 0 0] 31) = Y := ⟨_, rfl⟩
  have HY : Hid (Box Y w1.heap.size 31 #[.bool false, .slice none 0 0, .slice none 0 0, .bool false, .slice none 0 0, .slice none 0 0]) := by rw [← hY]; exact Box.made w1 _ _
  have HYB : Hid (Below w1.heap.size w1 Y) := by rw [← hY]; exact alloc_later _ _
  have HYX := hid (bt hb1.out HYB.out)
  have zx := HX.out.2.2.1.lt
  have zy := hb1.out.size
  have zY : Y.heap.size = w1.heap.size + 1 := by rw [← hY]; simp
  obtain ⟨A0, A1, A2, A3, A4, A5, qA0, qA1, qA2, qA3, qA4, qA5, ⟨rA0, rA1, rA2, rA3, rA4, rA5⟩, ⟨fA0, fA1, fA2, fA3, fA4, fA5⟩, HA⟩ := rchain6 HY.out (by decide) (.bool k.n) (.slice k.a k.xs.length k.ca) (.slice k.b k.ys.length k.cb) (.bool k.m) (.slice k.c k.us.length k.cc) (.slice k.d k.vs.length k.cd)
  have HA1 := hid (HA.out.2.1 _ _ _ (show w.heap.size ≠ w1.heap.size by omega) (HX.out.1.later HYX.out HX.out.1.lt))
  have HA2 := hid (HA.out.2.1 _ _ _ (show w.heap.size + 1 ≠ w1.heap.size by omega) (HX.out.2.1.later HYX.out HX.out.2.1.lt))
  have HA3 := hid (HA.out.2.1 _ _ _ (show w.heap.size + 1 + 1 ≠ w1.heap.size by omega) (HX.out.2.2.1.later HYX.out HX.out.2.2.1.lt))
  have HAX : Hid (Below X.heap.size X A5) := HA.out.2.2.2.1 _ _ zy HYX.out
  have zA : A5.heap.size = w1.heap.size + 1 := by rw [HA.out.2.2.2.2, zY]
  have p6 : A5.cell? ⟨w.heap.size, 6, none⟩ = some (.bool h.n) := (HA1.out).cell 6
  have p7 : A5.cell? ⟨w.heap.size, 7, none⟩ = some (.slice h.a h.xs.length h.ca) := (HA1.out).cell 7
  have p8 : A5.cell? ⟨w.heap.size, 8, none⟩ = some (.slice h.b h.ys.length h.cb) := (HA1.out).cell 8
  have p9 : A5.cell? ⟨w.heap.size, 9, none⟩ = some (.bool h.m) := (HA1.out).cell 9
  have p10 : A5.cell? ⟨w.heap.size, 10, none⟩ = some (.slice h.c h.us.length h.cc) := (HA1.out).cell 10
  have p11 : A5.cell? ⟨w.heap.size, 11, none⟩ = some (.slice h.d h.vs.length h.cd) := (HA1.out).cell 11
  have s6 : A5.cell? ⟨w.heap.size + 1, 6, none⟩ = some (.bool h2.n) := (HA2.out).cell 6
  have s7 : A5.cell? ⟨w.heap.size + 1, 7, none⟩ = some (.slice h2.a h2.xs.length h2.ca) := (HA2.out).cell 7
  have s8 : A5.cell? ⟨w.heap.size + 1, 8, none⟩ = some (.slice h2.b h2.ys.length h2.cb) := (HA2.out).cell 8
  have s9 : A5.cell? ⟨w.heap.size + 1, 9, none⟩ = some (.bool h2.m) := (HA2.out).cell 9
  have s10 : A5.cell? ⟨w.heap.size + 1, 10, none⟩ = some (.slice h2.c h2.us.length h2.cc) := (HA2.out).cell 10
  have s11 : A5.cell? ⟨w.heap.size + 1, 11, none⟩ = some (.slice h2.d h2.vs.length h2.cd) := (HA2.out).cell 11
  have HD := hid (HM2.out A5 HAX.out)
  clear HM2
  go_wp2_with fail
  refine Calls.mono HD.out ?_
  rintro e w2 ⟨l, rfl, hol, hil, hb2⟩
  clear HD hY p6 s6 p7 s7 p8 s8 p9 s9 p10 s10 p11 s11 qA0 qA1 qA2 qA3 qA4 qA5 rA0 rA1 rA2 rA3 rA4 rA5 fA0 fA1 fA2 fA3 fA4 fA5
  obtain ⟨U, hU⟩ : ∃ U, w2.alloc (.cells #[.bool false, .slice none 0 0, .slice none 0 0, .bool false, .slice none 0 0, .slice none 0 0] 31) = U := ⟨_, rfl⟩
  have HU : Hid (Box U w2.heap.size 31 #[.bool false, .slice none 0 0, .slice none 0 0, .bool false, .slice none 0 0, .slice none 0 0]) := by rw [← hU]; exact Box.made w2 _ _
  have HUB : Hid (Below w2.heap.size w2 U) := by rw [← hU]; exact alloc_later _ _
  have HUX := hid (bt hb2.out HUB.out)
  have zz := hb2.out.size
  have zU : U.heap.size = w2.heap.size + 1 := by rw [← hU]; simp
  obtain ⟨B0, B1, B2, B3, B4, B5, qB0, qB1, qB2, qB3, qB4, qB5, ⟨rB0, rB1, rB2, rB3, rB4, rB5⟩, ⟨fB0, fB1, fB2, fB3, fB4, fB5⟩, HB⟩ := rchain6 HU.out (by decide) (.bool l.n) (.slice l.a l.xs.length l.ca) (.slice l.b l.ys.length l.cb) (.bool l.m) (.slice l.c l.us.length l.cc) (.slice l.d l.vs.length l.cd)
  have HB1 := hid (HB.out.2.1 _ _ _ (show w1.heap.size ≠ w2.heap.size by omega) (HA.out.1.later HUX.out HA.out.1.lt))
  have HB3 := hid (HB.out.2.1 _ _ _ (show w.heap.size + 1 + 1 ≠ w2.heap.size by omega) (HA3.out.later HUX.out HA3.out.lt))
  have HBX : Hid (Below X.heap.size X B5) := HB.out.2.2.2.1 _ _ (by omega) (bt HAX.out HUX.out)
  have HBA : Hid (Below A5.heap.size A5 B5) := HB.out.2.2.2.1 _ _ (by omega) HUX.out
  have zB : B5.heap.size = w2.heap.size + 1 := by rw [HB.out.2.2.2.2, zU]
  have p0 : B5.cell? ⟨w1.heap.size, 0, none⟩ = some (.bool k.n) := (HB1.out).cell 0
  have p1 : B5.cell? ⟨w1.heap.size, 1, none⟩ = some (.slice k.a k.xs.length k.ca) := (HB1.out).cell 1
  have p2 : B5.cell? ⟨w1.heap.size, 2, none⟩ = some (.slice k.b k.ys.length k.cb) := (HB1.out).cell 2
  have p3 : B5.cell? ⟨w1.heap.size, 3, none⟩ = some (.bool k.m) := (HB1.out).cell 3
  have p4 : B5.cell? ⟨w1.heap.size, 4, none⟩ = some (.slice k.c k.us.length k.cc) := (HB1.out).cell 4
  have p5 : B5.cell? ⟨w1.heap.size, 5, none⟩ = some (.slice k.d k.vs.length k.cd) := (HB1.out).cell 5
  have s0 : B5.cell? ⟨w2.heap.size, 0, none⟩ = some (.bool l.n) := (HB.out.1).cell 0
  have s1 : B5.cell? ⟨w2.heap.size, 1, none⟩ = some (.slice l.a l.xs.length l.ca) := (HB.out.1).cell 1
  have s2 : B5.cell? ⟨w2.heap.size, 2, none⟩ = some (.slice l.b l.ys.length l.cb) := (HB.out.1).cell 2
  have s3 : B5.cell? ⟨w2.heap.size, 3, none⟩ = some (.bool l.m) := (HB.out.1).cell 3
  have s4 : B5.cell? ⟨w2.heap.size, 4, none⟩ = some (.slice l.c l.us.length l.cc) := (HB.out.1).cell 4
  have s5 : B5.cell? ⟨w2.heap.size, 5, none⟩ = some (.slice l.d l.vs.length l.cd) := (HB.out.1).cell 5
  obtain ⟨C0, C1, C2, C3, C4, C5, C6, C7, C8, C9, C10, C11, qC0, qC1, qC2, qC3, qC4, qC5, qC6, qC7, qC8, qC9, qC10, qC11, ⟨rC0, rC1, rC2, rC3, rC4, rC5, rC6, rC7, rC8, rC9, rC10, rC11⟩, ⟨fC0, fC1, fC2, fC3, fC4, fC5, fC6, fC7, fC8, fC9, fC10, fC11⟩, HC⟩ := rchain12 HB3.out (by decide) (.bool k.n) (.slice k.a k.xs.length k.ca) (.slice k.b k.ys.length k.cb) (.bool k.m) (.slice k.c k.us.length k.cc) (.slice k.d k.vs.length k.cd) (.bool l.n) (.slice l.a l.xs.length l.ca) (.slice l.b l.ys.length l.cb) (.bool l.m) (.slice l.c l.us.length l.cc) (.slice l.d l.vs.length l.cd)
  go_wp2_with fail
  refine bodyPost_ret (results_cell_row (by rfl) _ _ (w.heap.size + 1 + 1) 49 _ (0, 0) _ (by rfl) HC.out.1 Try.underlying49 rfl (by kernel_rfl)) rfl ?_
  have zw := HX.out.2.2.2.size
  have okk : k.Ow B5 w.heap.size := by
    have q1 := hok.out.later HYB.out
    have P1 := HA.out.2.2.1
    have q2 : k.Ow A5 X.heap.size := ⟨P1 _ _ _ _ q1.1, P1 _ _ _ _ q1.2.1, P1 _ _ _ _ q1.2.2.1, P1 _ _ _ _ q1.2.2.2⟩
    exact (q2.later HBA.out).base zw
  have oll : l.Ow B5 w.heap.size := by
    have q1 := hol.out.later HUB.out
    have P1 := HB.out.2.2.1
    have q2 : l.Ow B5 A5.heap.size := ⟨P1 _ _ _ _ q1.1, P1 _ _ _ _ q1.2.1, P1 _ _ _ _ q1.2.2.1, P1 _ _ _ _ q1.2.2.2⟩
    exact q2.base (by omega)
  have P := HC.out.2.2.1
  refine ⟨k, l, rfl, ⟨⟨P _ _ _ _ okk.1, P _ _ _ _ okk.2.1, P _ _ _ _ okk.2.2.1, P _ _ _ _ okk.2.2.2⟩, ⟨P _ _ _ _ oll.1, P _ _ _ _ oll.2.1, P _ _ _ _ oll.2.2.1, P _ _ _ _ oll.2.2.2⟩⟩, ⟨?_, ?_⟩, HC.out.2.2.2.1 _ _ (by omega) (bt HX.out.2.2.2 HBX.out)⟩
  · have q := hik.out
    rw [← Rat.intCast_mul, ← Rat.intCast_mul, ← Rat.intCast_mul, ← Rat.intCast_mul, ← Rat.intCast_sub, ← Rat.intCast_add] at q
    exact q
  · have q := hil.out
    rw [← Rat.intCast_mul, ← Rat.intCast_mul, ← Rat.intCast_mul, ← Rat.intCast_mul, ← Rat.intCast_sub, ← Rat.intCast_add, show M * M2 - 0 * 0 = M * M2 by omega, show M * 0 + 0 * M2 = 0 by omega] at q
    exact q

set_option maxHeartbeats 3200000 in
set_option maxRecDepth 100000 in
theorem oone_any (w : World) : Calls Try.prog 31 #[] w (OPt w (1, 0) 1) := by
  obtain ⟨X, hX⟩ : ∃ X, w.alloc (.cells #[.bool false, .slice none 0 0, .slice none 0 0, .bool false, .slice none 0 0, .slice none 0 0, .bool false, .slice none 0 0, .slice none 0 0, .bool false, .slice none 0 0, .slice none 0 0] 49) = X := ⟨_, rfl⟩
  have HZ : Hid (Box X w.heap.size 49 #[.bool false, .slice none 0 0, .slice none 0 0, .bool false, .slice none 0 0, .slice none 0 0, .bool false, .slice none 0 0, .slice none 0 0, .bool false, .slice none 0 0, .slice none 0 0]) := by rw [← hX]; exact Box.made w _ _
  have HB : Hid (Below w.heap.size w X) := by rw [← hX]; exact alloc_later _ _
  have HI := hid (fun V => oInt_any 1 0 V (by decide) (by decide) (by decide) (by decide))
  have HD := hid (HI.out X)
  go_enter Try.func31, Try.ntmps31
  go_wp2_with fail
  clear hX
  refine Calls.mono HD.out ?_
  rintro e w1 ⟨g, rfl, hog, hig, hb1⟩
  clear HD
  have HD := hid (HI.out w1)
  clear HI
  go_wp2_with fail
  refine Calls.mono HD.out ?_
  rintro e w2 ⟨h, rfl, hoh, hih, hb2⟩
  clear HD
  have HBB := hid (bt hb1.out hb2.out)
  obtain ⟨C0, C1, C2, C3, C4, C5, C6, C7, C8, C9, C10, C11, qC0, qC1, qC2, qC3, qC4, qC5, qC6, qC7, qC8, qC9, qC10, qC11, ⟨rC0, rC1, rC2, rC3, rC4, rC5, rC6, rC7, rC8, rC9, rC10, rC11⟩, ⟨fC0, fC1, fC2, fC3, fC4, fC5, fC6, fC7, fC8, fC9, fC10, fC11⟩, HC⟩ := rchain12 (HZ.out.later HBB.out HZ.out.lt) (by decide) (.bool g.n) (.slice g.a g.xs.length g.ca) (.slice g.b g.ys.length g.cb) (.bool g.m) (.slice g.c g.us.length g.cc) (.slice g.d g.vs.length g.cd) (.bool h.n) (.slice h.a h.xs.length h.ca) (.slice h.b h.ys.length h.cb) (.bool h.m) (.slice h.c h.us.length h.cc) (.slice h.d h.vs.length h.cd)
  go_wp2_with fail
  refine bodyPost_ret (results_cell_row (by rfl) _ _ w.heap.size 49 _ (0, 0) _ (by rfl) HC.out.1 Try.underlying49 rfl (by kernel_rfl)) rfl ?_
  have z1 := HB.out.size
  have z2 := hb1.out.size
  have P := HC.out.2.2.1
  have o1 := (hog.out.later hb2.out).base z1
  have o2 := hoh.out.base (show w.heap.size ≤ w1.heap.size by omega)
  have i1 := hig.out
  have i2 := hih.out
  rw [o_div1, o_div1] at i1 i2
  exact ⟨g, h, rfl, ⟨⟨P _ _ _ _ o1.1, P _ _ _ _ o1.2.1, P _ _ _ _ o1.2.2.1, P _ _ _ _ o1.2.2.2⟩, ⟨P _ _ _ _ o2.1, P _ _ _ _ o2.2.1, P _ _ _ _ o2.2.2.1, P _ _ _ _ o2.2.2.2⟩⟩, ⟨i1, i2⟩, HC.out.2.2.2.1 _ _ (Nat.le_refl _) (bt HB.out HBB.out)⟩
end Go.Proofs.Ytbccnngdkanejaa

/- package rotor: a power made by squaring. (tools/mkrq4.py) -/
namespace Go.Proofs.Ytbccnngdkanejaa
open Go.RowKit
set_option linter.unusedVariables false
set_option linter.unusedSimpArgs false

theorem o_and1 : ∀ T : Nat, T < 1025 → bits .and .i64 (T : Int) 1 = ((T % 2 : Nat) : Int) := by decide +kernel
/-- What is read: rows that were there, or rows of the call's own. -/
def OSl (w wr : World) (g : G6) : Prop := g.Ow wr w.heap.size ∨ g.Sl4 w
theorem OSl.sl {w wr : World} {g : G6} {q1 q2 : Rat} (h : OSl w wr g) (i : g.Is q1 q2) (hb : Below w.heap.size w wr) : g.Sl4 wr := by
  rcases h with h | h
  · exact h.sl i
  · exact h.later hb
theorem OSl.later {w wr V : World} {g : G6} (h : OSl w wr g) (hb : Below wr.heap.size wr V) : OSl w V g := by
  rcases h with h | h
  · exact .inl (h.later hb)
  · exact .inr h
theorem OSl.put {w wr V : World} {g : G6} (h : OSl w wr g) (P : ∀ base v n xs, wr.ownsRow base 43 1 v n xs → V.ownsRow base 43 1 v n xs) : OSl w V g := by
  rcases h with h | h
  · exact .inl ⟨P _ _ _ _ h.1, P _ _ _ _ h.2.1, P _ _ _ _ h.2.2.1, P _ _ _ _ h.2.2.2⟩
  · exact .inr h
theorem ow_put {wr V : World} {g : G6} {base : Nat} (h : g.Ow wr base) (P : ∀ base v n xs, wr.ownsRow base 43 1 v n xs → V.ownsRow base 43 1 v n xs) : g.Ow V base := ⟨P _ _ _ _ h.1, P _ _ _ _ h.2.1, P _ _ _ _ h.2.2.1, P _ _ _ _ h.2.2.2⟩
/-- How far the squaring is. -/
structure OLp (f n : Int) (w : World) (pb mb : Nat) (i j : Nat) (g h k l : G6) (wr : World) : Prop where
  sp : OSl w wr g ∧ OSl w wr h
  vp : OPw g h (zpow (oRe f n, oIm f n) j) (oNm f n ^ j)
  bp : Box wr pb 49 #[.bool g.n, .slice g.a g.xs.length g.ca, .slice g.b g.ys.length g.cb, .bool g.m, .slice g.c g.us.length g.cc, .slice g.d g.vs.length g.cd, .bool h.n, .slice h.a h.xs.length h.ca, .slice h.b h.ys.length h.cb, .bool h.m, .slice h.c h.us.length h.cc, .slice h.d h.vs.length h.cd]
  om : k.Ow wr w.heap.size ∧ l.Ow wr w.heap.size
  vm : OPw k l (zpow (oRe f n, oIm f n) i) (oNm f n ^ i)
  bm : Box wr mb 49 #[.bool k.n, .slice k.a k.xs.length k.ca, .slice k.b k.ys.length k.cb, .bool k.m, .slice k.c k.us.length k.cc, .slice k.d k.vs.length k.cd, .bool l.n, .slice l.a l.xs.length l.ca, .slice l.b l.ys.length l.cb, .bool l.m, .slice l.c l.us.length l.cc, .slice l.d l.vs.length l.cd]
  br : Box wr (w.heap.size + 1) 49 #[.bool false, .slice none 0 0, .slice none 0 0, .bool false, .slice none 0 0, .slice none 0 0, .bool false, .slice none 0 0, .slice none 0 0, .bool false, .slice none 0 0, .slice none 0 0]
  bel : Below w.heap.size w wr
/-- What a store of twelve cells leaves. -/
def OPut (w2 : World) (b : Nat) (vs : Array Value) (V : World) : Prop := Box V b 49 vs ∧ (∀ p t' vs, p ≠ b → Box w2 p t' vs → Box V p t' vs) ∧ (∀ base v n xs, w2.ownsRow base 43 1 v n xs → V.ownsRow base 43 1 v n xs) ∧ (∀ B x, B ≤ b → Below B x w2 → Below B x V) ∧ V.heap.size = w2.heap.size
theorem OLp.mul {f n : Int} {w wr w2 V : World} {mb i j : Nat} {g h k l k2 l2 : G6} (a : OLp f n w w.heap.size mb i j g h k l wr) (hm : w.heap.size + 1 < mb) (hb : Below wr.heap.size wr w2) (ho : k2.Ow w2 wr.heap.size ∧ l2.Ow w2 wr.heap.size) (hi : OPw k2 l2 (zpow (oRe f n, oIm f n) (i + j)) (oNm f n ^ (i + j))) (c : OPut w2 mb #[.bool k2.n, .slice k2.a k2.xs.length k2.ca, .slice k2.b k2.ys.length k2.cb, .bool k2.m, .slice k2.c k2.us.length k2.cc, .slice k2.d k2.vs.length k2.cd, .bool l2.n, .slice l2.a l2.xs.length l2.ca, .slice l2.b l2.ys.length l2.cb, .bool l2.m, .slice l2.c l2.us.length l2.cc, .slice l2.d l2.vs.length l2.cd] V) : OLp f n w w.heap.size mb (i + j) j g h k2 l2 V where
  sp := ⟨(a.sp.1.later hb).put c.2.2.1, (a.sp.2.later hb).put c.2.2.1⟩
  vp := a.vp
  bp := c.2.1 _ _ _ (by omega) (a.bp.later hb a.bp.lt)
  om := ⟨ow_put (ho.1.base a.bel.size) c.2.2.1, ow_put (ho.2.base a.bel.size) c.2.2.1⟩
  vm := hi
  bm := c.1
  br := c.2.1 _ _ _ (by omega) (a.br.later hb a.br.lt)
  bel := c.2.2.2.1 _ _ (by omega) (bt a.bel hb)
theorem OLp.sq {f n : Int} {w wr w2 V : World} {mb i j : Nat} {g h k l g2 h2 : G6} (a : OLp f n w w.heap.size mb i j g h k l wr) (hm : w.heap.size + 1 < mb) (hb : Below wr.heap.size wr w2) (ho : g2.Ow w2 wr.heap.size ∧ h2.Ow w2 wr.heap.size) (hi : OPw g2 h2 (zpow (oRe f n, oIm f n) (j + j)) (oNm f n ^ (j + j))) (c : OPut w2 w.heap.size #[.bool g2.n, .slice g2.a g2.xs.length g2.ca, .slice g2.b g2.ys.length g2.cb, .bool g2.m, .slice g2.c g2.us.length g2.cc, .slice g2.d g2.vs.length g2.cd, .bool h2.n, .slice h2.a h2.xs.length h2.ca, .slice h2.b h2.ys.length h2.cb, .bool h2.m, .slice h2.c h2.us.length h2.cc, .slice h2.d h2.vs.length h2.cd] V) : OLp f n w w.heap.size mb i (j + j) g2 h2 k l V where
  sp := ⟨.inl (ow_put (ho.1.base a.bel.size) c.2.2.1), .inl (ow_put (ho.2.base a.bel.size) c.2.2.1)⟩
  vp := hi
  bp := c.1
  om := ⟨ow_put (a.om.1.later hb) c.2.2.1, ow_put (a.om.2.later hb) c.2.2.1⟩
  vm := a.vm
  bm := c.2.1 _ _ _ (by omega) (a.bm.later hb a.bm.lt)
  br := c.2.1 _ _ _ (by omega) (a.br.later hb a.br.lt)
  bel := c.2.2.2.1 _ _ (Nat.le_refl _) (bt a.bel hb)
theorem o_size2 {f n : Int} (h : rOK f n) (t : Nat) : (zpow (oRe f n, oIm f n) t).1.natAbs ≤ o2 (21 * t) ∧ (zpow (oRe f n, oIm f n) t).2.natAbs ≤ o2 (21 * t) ∧ (oNm f n ^ t).natAbs ≤ o2 (21 * t) := by
  obtain ⟨e, _, _, _, _, _, h5, h6, _⟩ := o_parts h
  have h1 : (oNm f n).natAbs ^ t ≤ o2 (21 * t) := by
    unfold o2
    rw [Nat.pow_mul]
    exact Nat.pow_le_pow_left (by omega) t
  have h2 := o_big h t
  exact ⟨Nat.le_trans h2.1 h1, Nat.le_trans h2.2 h1, by rw [Int.natAbs_pow]; exact h1⟩
theorem o_lim {i j : Nat} (h : i + j ≤ 2048) : 2 * (o2 (21 * i) * o2 (21 * j)) < oL := by
  rw [o2_mul, show 2 * o2 (21 * i + 21 * j) = o2 (1 + (21 * i + 21 * j)) from o2_mul 1 _]
  exact o2_lt (by omega)
theorem o_mulE (f n : Int) (i j : Nat) : zmul (zpow (oRe f n, oIm f n) i) (zpow (oRe f n, oIm f n) j) = zpow (oRe f n, oIm f n) (i + j) := (zpow_add _ _ _).symm
theorem o_nmE (f n : Int) (i j : Nat) : oNm f n ^ i * oNm f n ^ j = oNm f n ^ (i + j) := (Int.pow_add _ _ _).symm
/-- The product of two powers of one rotor. -/
theorem otimes_pow {f n : Int} (hr : rOK f n) (i j : Nat) (hij : i + j ≤ 2048) (g h g2 h2 : G6) (w : World) (sg : g.Sl4 w) (sh : h.Sl4 w) (sg2 : g2.Sl4 w) (sh2 : h2.Sl4 w) (hp : OPw g h (zpow (oRe f n, oIm f n) i) (oNm f n ^ i)) (hp2 : OPw g2 h2 (zpow (oRe f n, oIm f n) j) (oNm f n ^ j)) :
    Calls Try.prog 32 #[.agg #[.bool g.n, .slice g.a g.xs.length g.ca, .slice g.b g.ys.length g.cb, .bool g.m, .slice g.c g.us.length g.cc, .slice g.d g.vs.length g.cd, .bool h.n, .slice h.a h.xs.length h.ca, .slice h.b h.ys.length h.cb, .bool h.m, .slice h.c h.us.length h.cc, .slice h.d h.vs.length h.cd], .agg #[.bool g2.n, .slice g2.a g2.xs.length g2.ca, .slice g2.b g2.ys.length g2.cb, .bool g2.m, .slice g2.c g2.us.length g2.cc, .slice g2.d g2.vs.length g2.cd, .bool h2.n, .slice h2.a h2.xs.length h2.ca, .slice h2.b h2.ys.length h2.cb, .bool h2.m, .slice h2.c h2.us.length h2.cc, .slice h2.d h2.vs.length h2.cd]] w (OPt w (zpow (oRe f n, oIm f n) (i + j)) (oNm f n ^ (i + j))) := by
  have a := o_size2 hr i
  have b := o_size2 hr j
  have q := otimes_any g h g2 h2 _ _ _ _ w sg sh sg2 sh2 hp hp2 _ _ a.1 a.2.1 a.2.2 b.1 b.2.1 b.2.2 (o_lim hij)
  rw [o_mulE, o_nmE] at q
  exact q

set_option maxHeartbeats 12800000 in
set_option maxRecDepth 100000 in
theorem oto_any (f n : Int) (hr : rOK f n) (g h : G6) (N : Nat) (hN : N ≤ 1024) (w : World) (sg : g.Sl4 w) (sh : h.Sl4 w) (hp : OPw g h (oRe f n, oIm f n) (oNm f n)) :
    Calls Try.prog 19 #[.agg #[.bool g.n, .slice g.a g.xs.length g.ca, .slice g.b g.ys.length g.cb, .bool g.m, .slice g.c g.us.length g.cc, .slice g.d g.vs.length g.cd, .bool h.n, .slice h.a h.xs.length h.ca, .slice h.b h.ys.length h.cb, .bool h.m, .slice h.c h.us.length h.cc, .slice h.d h.vs.length h.cd], .int .i64 (N : Int)] w (OPt w (zpow (oRe f n, oIm f n) N) (oNm f n ^ N)) := by
  obtain ⟨X, hX⟩ : ∃ X, (w.alloc (.cells #[.bool g.n, .slice g.a g.xs.length g.ca, .slice g.b g.ys.length g.cb, .bool g.m, .slice g.c g.us.length g.cc, .slice g.d g.vs.length g.cd, .bool h.n, .slice h.a h.xs.length h.ca, .slice h.b h.ys.length h.cb, .bool h.m, .slice h.c h.us.length h.cc, .slice h.d h.vs.length h.cd] 49)).alloc (.cells #[.bool false, .slice none 0 0, .slice none 0 0, .bool false, .slice none 0 0, .slice none 0 0, .bool false, .slice none 0 0, .slice none 0 0, .bool false, .slice none 0 0, .slice none 0 0] 49) = X := ⟨_, rfl⟩
  have HX := hid (boxes2r w 49 #[.bool g.n, .slice g.a g.xs.length g.ca, .slice g.b g.ys.length g.cb, .bool g.m, .slice g.c g.us.length g.cc, .slice g.d g.vs.length g.cd, .bool h.n, .slice h.a h.xs.length h.ca, .slice h.b h.ys.length h.cb, .bool h.m, .slice h.c h.us.length h.cc, .slice h.d h.vs.length h.cd] #[.bool false, .slice none 0 0, .slice none 0 0, .bool false, .slice none 0 0, .slice none 0 0, .bool false, .slice none 0 0, .slice none 0 0, .bool false, .slice none 0 0, .slice none 0 0])
  rw [hX] at HX
  have HD := hid (oone_any X)
  have HS := hid (And.intro sg sh)
  have HP : Hid (OPw g h (zpow (oRe f n, oIm f n) 1) (oNm f n ^ 1)) := by
    have e : zpow (oRe f n, oIm f n) 1 = (oRe f n, oIm f n) := by
      show zmul (1, 0) (oRe f n, oIm f n) = (oRe f n, oIm f n)
      unfold zmul
      simp
    rw [e, Int.pow_succ, Int.pow_zero, Int.one_mul]; exact hp
  have HR := hid hr
  clear sg sh hp hr
  go_enter Try.func19, Try.ntmps19
  go_wp2_with fail
  clear hX
  refine Calls.mono HD.out ?_
  rintro e w1 ⟨k, l, rfl, ho, hi, hb⟩
  clear HD
  obtain ⟨Y, hY⟩ : ∃ Y, w1.alloc (.cells #[.bool false, .slice none 0 0, .slice none 0 0, .bool false, .slice none 0 0, .slice none 0 0, .bool false, .slice none 0 0, .slice none 0 0, .bool false, .slice none 0 0, .slice none 0 0] 49) = Y := ⟨_, rfl⟩
  have HY : Hid (Box Y w1.heap.size 49 #[.bool false, .slice none 0 0, .slice none 0 0, .bool false, .slice none 0 0, .slice none 0 0, .bool false, .slice none 0 0, .slice none 0 0, .bool false, .slice none 0 0, .slice none 0 0]) := by rw [← hY]; exact Box.made w1 _ _
  have HYB : Hid (Below w1.heap.size w1 Y) := by rw [← hY]; exact alloc_later _ _
  have HYX := hid (bt hb.out HYB.out)
  have zx := HX.out.2.1.lt
  have zy := hb.out.size
  have zw := HX.out.2.2.size
  obtain ⟨A0, A1, A2, A3, A4, A5, A6, A7, A8, A9, A10, A11, qA0, qA1, qA2, qA3, qA4, qA5, qA6, qA7, qA8, qA9, qA10, qA11, ⟨rA0, rA1, rA2, rA3, rA4, rA5, rA6, rA7, rA8, rA9, rA10, rA11⟩, ⟨fA0, fA1, fA2, fA3, fA4, fA5, fA6, fA7, fA8, fA9, fA10, fA11⟩, HA⟩ := rchain12 HY.out (by decide) (.bool k.n) (.slice k.a k.xs.length k.ca) (.slice k.b k.ys.length k.cb) (.bool k.m) (.slice k.c k.us.length k.cc) (.slice k.d k.vs.length k.cd) (.bool l.n) (.slice l.a l.xs.length l.ca) (.slice l.b l.ys.length l.cb) (.bool l.m) (.slice l.c l.us.length l.cc) (.slice l.d l.vs.length l.cd)
  have HA1 := hid (HA.out.2.1 _ _ _ (show w.heap.size ≠ w1.heap.size by omega) (HX.out.1.later HYX.out HX.out.1.lt))
  have HA2 := hid (HA.out.2.1 _ _ _ (show w.heap.size + 1 ≠ w1.heap.size by omega) (HX.out.2.1.later HYX.out HX.out.2.1.lt))
  have HAX : Hid (Below w.heap.size w A11) := HA.out.2.2.2.1 _ _ (by omega) (bt HX.out.2.2 HYX.out)
  have HST : Hid (OLp f n w w.heap.size w1.heap.size 0 1 g h k l A11) := ⟨⟨.inr HS.out.1, .inr HS.out.2⟩, HP.out, HA1.out, ⟨ow_put ((ho.out.1.later HYB.out).base zw) HA.out.2.2.1, ow_put ((ho.out.2.later HYB.out).base zw) HA.out.2.2.1⟩, (by rw [Int.pow_zero]; exact hi.out), HA.out.1, HA2.out, HAX.out⟩
  clear HS HP ho hi hb HYX HYB HY HAX HA1 HA2 HX
  go_wp2_with fail
  clear hY qA0 qA1 qA2 qA3 qA4 qA5 qA6 qA7 qA8 qA9 qA10 qA11 rA0 rA1 rA2 rA3 rA4 rA5 rA6 rA7 rA8 rA9 rA10 rA11 fA0 fA1 fA2 fA3 fA4 fA5 fA6 fA7 fA8 fA9 fA10 fA11 HA
  go_loopw [1] (fun t wr => ∃ (T i j : Nat) (g h k l : G6), T ≤ 1024 ∧ t = .int .i64 (T : Int) ∧ i + j * T = N ∧ Hid (OLp f n w w.heap.size w1.heap.size i j g h k l wr)) (fun t _ => (intOf t).toNat)
  case atStart => exact ⟨N, 0, 1, g, h, k, l, hN, rfl, by omega, HST⟩
  case round =>
    clear HST
    obtain ⟨T, i, j, g, h, k, l, hT, rfl, hsum, HI⟩ := hrel
    have hmb : w.heap.size + 1 < w1.heap.size := by omega
    rcases Nat.eq_zero_or_pos T with hT0 | hT0
    · subst hT0
      have m0 : wr.cell? ⟨w1.heap.size, 0, none⟩ = some (.bool k.n) := (HI.out.bm).cell 0
      have m1 : wr.cell? ⟨w1.heap.size, 1, none⟩ = some (.slice k.a k.xs.length k.ca) := (HI.out.bm).cell 1
      have m2 : wr.cell? ⟨w1.heap.size, 2, none⟩ = some (.slice k.b k.ys.length k.cb) := (HI.out.bm).cell 2
      have m3 : wr.cell? ⟨w1.heap.size, 3, none⟩ = some (.bool k.m) := (HI.out.bm).cell 3
      have m4 : wr.cell? ⟨w1.heap.size, 4, none⟩ = some (.slice k.c k.us.length k.cc) := (HI.out.bm).cell 4
      have m5 : wr.cell? ⟨w1.heap.size, 5, none⟩ = some (.slice k.d k.vs.length k.cd) := (HI.out.bm).cell 5
      have m6 : wr.cell? ⟨w1.heap.size, 6, none⟩ = some (.bool l.n) := (HI.out.bm).cell 6
      have m7 : wr.cell? ⟨w1.heap.size, 7, none⟩ = some (.slice l.a l.xs.length l.ca) := (HI.out.bm).cell 7
      have m8 : wr.cell? ⟨w1.heap.size, 8, none⟩ = some (.slice l.b l.ys.length l.cb) := (HI.out.bm).cell 8
      have m9 : wr.cell? ⟨w1.heap.size, 9, none⟩ = some (.bool l.m) := (HI.out.bm).cell 9
      have m10 : wr.cell? ⟨w1.heap.size, 10, none⟩ = some (.slice l.c l.us.length l.cc) := (HI.out.bm).cell 10
      have m11 : wr.cell? ⟨w1.heap.size, 11, none⟩ = some (.slice l.d l.vs.length l.cd) := (HI.out.bm).cell 11
      have eN : i = N := by omega
      subst eN
      obtain ⟨A0, A1, A2, A3, A4, A5, A6, A7, A8, A9, A10, A11, qA0, qA1, qA2, qA3, qA4, qA5, qA6, qA7, qA8, qA9, qA10, qA11, ⟨rA0, rA1, rA2, rA3, rA4, rA5, rA6, rA7, rA8, rA9, rA10, rA11⟩, ⟨fA0, fA1, fA2, fA3, fA4, fA5, fA6, fA7, fA8, fA9, fA10, fA11⟩, HA⟩ := rchain12 HI.out.br (by decide) (.bool k.n) (.slice k.a k.xs.length k.ca) (.slice k.b k.ys.length k.cb) (.bool k.m) (.slice k.c k.us.length k.cc) (.slice k.d k.vs.length k.cd) (.bool l.n) (.slice l.a l.xs.length l.ca) (.slice l.b l.ys.length l.cb) (.bool l.m) (.slice l.c l.us.length l.cc) (.slice l.d l.vs.length l.cd)
      go_wp2_with fail
      refine bodyPost_ret (results_cell_row (by rfl) _ _ (w.heap.size + 1) 49 _ (0, 0) _ (by rfl) HA.out.1 Try.underlying49 rfl (by kernel_rfl)) rfl ?_
      exact ⟨k, l, rfl, ⟨ow_put HI.out.om.1 HA.out.2.2.1, ow_put HI.out.om.2 HA.out.2.2.1⟩, HI.out.vm, HA.out.2.2.2.1 _ _ (by omega) HI.out.bel⟩
    · have hand := o_and1 T (by omega)
      have hq0 : (0 : Int) < (T : Int) := by omega
      have hij : i + j ≤ N := by have h2 : j * 1 ≤ j * T := Nat.mul_le_mul_left j hT0; omega
      rcases Nat.mod_two_eq_zero_or_one T with hpar | hpar
      · rw [hpar] at hand
        have hq1 : (1 : Int) < (T : Int) := by omega
        have hT2 : T = 2 * (T / 2) := by omega
        have hjj : j + j ≤ N := by have h2 : j * 2 ≤ j * T := Nat.mul_le_mul_left j (by omega); omega
        have hs2 : Hid (i + (j + j) * (T / 2) = N) := by
          show _ = _
          rw [← hsum]
          have e : j * T = (j + j) * (T / 2) := by rw [← Nat.two_mul, Nat.mul_assoc, Nat.mul_left_comm 2 j, ← hT2]
          omega
        clear hT2 hsum
        have a := HI.out
        have HD := hid (otimes_pow HR.out j j (by omega) g h g h wr (a.sp.1.sl a.vp.1 a.bel) (a.sp.2.sl a.vp.2 a.bel) (a.sp.1.sl a.vp.1 a.bel) (a.sp.2.sl a.vp.2 a.bel) a.vp a.vp)
        clear a
        have p0 : wr.cell? ⟨w.heap.size, 0, none⟩ = some (.bool g.n) := (HI.out.bp).cell 0
        have p1 : wr.cell? ⟨w.heap.size, 1, none⟩ = some (.slice g.a g.xs.length g.ca) := (HI.out.bp).cell 1
        have p2 : wr.cell? ⟨w.heap.size, 2, none⟩ = some (.slice g.b g.ys.length g.cb) := (HI.out.bp).cell 2
        have p3 : wr.cell? ⟨w.heap.size, 3, none⟩ = some (.bool g.m) := (HI.out.bp).cell 3
        have p4 : wr.cell? ⟨w.heap.size, 4, none⟩ = some (.slice g.c g.us.length g.cc) := (HI.out.bp).cell 4
        have p5 : wr.cell? ⟨w.heap.size, 5, none⟩ = some (.slice g.d g.vs.length g.cd) := (HI.out.bp).cell 5
        have p6 : wr.cell? ⟨w.heap.size, 6, none⟩ = some (.bool h.n) := (HI.out.bp).cell 6
        have p7 : wr.cell? ⟨w.heap.size, 7, none⟩ = some (.slice h.a h.xs.length h.ca) := (HI.out.bp).cell 7
        have p8 : wr.cell? ⟨w.heap.size, 8, none⟩ = some (.slice h.b h.ys.length h.cb) := (HI.out.bp).cell 8
        have p9 : wr.cell? ⟨w.heap.size, 9, none⟩ = some (.bool h.m) := (HI.out.bp).cell 9
        have p10 : wr.cell? ⟨w.heap.size, 10, none⟩ = some (.slice h.c h.us.length h.cc) := (HI.out.bp).cell 10
        have p11 : wr.cell? ⟨w.heap.size, 11, none⟩ = some (.slice h.d h.vs.length h.cd) := (HI.out.bp).cell 11
        go_wp2_with fail
        refine Calls.mono HD.out ?_
        rintro e w3 ⟨g2, h2, rfl, ho, hi, hb⟩
        clear HD p0 p1 p2 p3 p4 p5 p6 p7 p8 p9 p10 p11 
        obtain ⟨B0, B1, B2, B3, B4, B5, B6, B7, B8, B9, B10, B11, qB0, qB1, qB2, qB3, qB4, qB5, qB6, qB7, qB8, qB9, qB10, qB11, ⟨rB0, rB1, rB2, rB3, rB4, rB5, rB6, rB7, rB8, rB9, rB10, rB11⟩, ⟨fB0, fB1, fB2, fB3, fB4, fB5, fB6, fB7, fB8, fB9, fB10, fB11⟩, HB⟩ := rchain12 (HI.out.bp.later hb.out HI.out.bp.lt) (by decide) (.bool g2.n) (.slice g2.a g2.xs.length g2.ca) (.slice g2.b g2.ys.length g2.cb) (.bool g2.m) (.slice g2.c g2.us.length g2.cc) (.slice g2.d g2.vs.length g2.cd) (.bool h2.n) (.slice h2.a h2.xs.length h2.ca) (.slice h2.b h2.ys.length h2.cb) (.bool h2.m) (.slice h2.c h2.us.length h2.cc) (.slice h2.d h2.vs.length h2.cd)
        have HI3 := hid (HI.out.sq hmb hb.out ho.out hi.out HB.out)
        clear HI HB ho hi hb
        go_wp2_with fail
        go_roundw
        case rel => exact ⟨T / 2, i, j + j, g2, h2, k, l, by omega, congrArg (Value.int .i64) (by omega), hs2.out, HI3⟩
        case measure => first | (simp [intOf]; done) | (simp [intOf]; omega)
      · rw [hpar] at hand
        rcases Nat.lt_or_ge 1 T with hq | hq
        · have hq1 : (1 : Int) < (T : Int) := by omega
          have hT2 : T = 2 * (T / 2) + 1 := by omega
          have hjj : j + j ≤ N := by have h2 : j * 2 ≤ j * T := Nat.mul_le_mul_left j (by omega); omega
          have hs2 : Hid (i + j + (j + j) * (T / 2) = N) := by
            show _ = _
            rw [← hsum]
            have e : j * T = (j + j) * (T / 2) + j := by
              have e1 : j * T = j * (2 * (T / 2) + 1) := by rw [← hT2]
              rw [e1, Nat.mul_add, Nat.mul_one, ← Nat.two_mul, Nat.mul_assoc, Nat.mul_left_comm 2 j]
            omega
          clear hT2 hsum
          have a := HI.out
          have HD := hid (otimes_pow HR.out i j (by omega) k l g h wr (a.om.1.sl a.vm.1) (a.om.2.sl a.vm.2) (a.sp.1.sl a.vp.1 a.bel) (a.sp.2.sl a.vp.2 a.bel) a.vm a.vp)
          clear a
          have m0 : wr.cell? ⟨w1.heap.size, 0, none⟩ = some (.bool k.n) := (HI.out.bm).cell 0
          have m1 : wr.cell? ⟨w1.heap.size, 1, none⟩ = some (.slice k.a k.xs.length k.ca) := (HI.out.bm).cell 1
          have m2 : wr.cell? ⟨w1.heap.size, 2, none⟩ = some (.slice k.b k.ys.length k.cb) := (HI.out.bm).cell 2
          have m3 : wr.cell? ⟨w1.heap.size, 3, none⟩ = some (.bool k.m) := (HI.out.bm).cell 3
          have m4 : wr.cell? ⟨w1.heap.size, 4, none⟩ = some (.slice k.c k.us.length k.cc) := (HI.out.bm).cell 4
          have m5 : wr.cell? ⟨w1.heap.size, 5, none⟩ = some (.slice k.d k.vs.length k.cd) := (HI.out.bm).cell 5
          have m6 : wr.cell? ⟨w1.heap.size, 6, none⟩ = some (.bool l.n) := (HI.out.bm).cell 6
          have m7 : wr.cell? ⟨w1.heap.size, 7, none⟩ = some (.slice l.a l.xs.length l.ca) := (HI.out.bm).cell 7
          have m8 : wr.cell? ⟨w1.heap.size, 8, none⟩ = some (.slice l.b l.ys.length l.cb) := (HI.out.bm).cell 8
          have m9 : wr.cell? ⟨w1.heap.size, 9, none⟩ = some (.bool l.m) := (HI.out.bm).cell 9
          have m10 : wr.cell? ⟨w1.heap.size, 10, none⟩ = some (.slice l.c l.us.length l.cc) := (HI.out.bm).cell 10
          have m11 : wr.cell? ⟨w1.heap.size, 11, none⟩ = some (.slice l.d l.vs.length l.cd) := (HI.out.bm).cell 11
          have p0 : wr.cell? ⟨w.heap.size, 0, none⟩ = some (.bool g.n) := (HI.out.bp).cell 0
          have p1 : wr.cell? ⟨w.heap.size, 1, none⟩ = some (.slice g.a g.xs.length g.ca) := (HI.out.bp).cell 1
          have p2 : wr.cell? ⟨w.heap.size, 2, none⟩ = some (.slice g.b g.ys.length g.cb) := (HI.out.bp).cell 2
          have p3 : wr.cell? ⟨w.heap.size, 3, none⟩ = some (.bool g.m) := (HI.out.bp).cell 3
          have p4 : wr.cell? ⟨w.heap.size, 4, none⟩ = some (.slice g.c g.us.length g.cc) := (HI.out.bp).cell 4
          have p5 : wr.cell? ⟨w.heap.size, 5, none⟩ = some (.slice g.d g.vs.length g.cd) := (HI.out.bp).cell 5
          have p6 : wr.cell? ⟨w.heap.size, 6, none⟩ = some (.bool h.n) := (HI.out.bp).cell 6
          have p7 : wr.cell? ⟨w.heap.size, 7, none⟩ = some (.slice h.a h.xs.length h.ca) := (HI.out.bp).cell 7
          have p8 : wr.cell? ⟨w.heap.size, 8, none⟩ = some (.slice h.b h.ys.length h.cb) := (HI.out.bp).cell 8
          have p9 : wr.cell? ⟨w.heap.size, 9, none⟩ = some (.bool h.m) := (HI.out.bp).cell 9
          have p10 : wr.cell? ⟨w.heap.size, 10, none⟩ = some (.slice h.c h.us.length h.cc) := (HI.out.bp).cell 10
          have p11 : wr.cell? ⟨w.heap.size, 11, none⟩ = some (.slice h.d h.vs.length h.cd) := (HI.out.bp).cell 11
          go_wp2_with fail
          refine Calls.mono HD.out ?_
          rintro e w2 ⟨k2, l2, rfl, ho, hi, hb⟩
          clear HD m0 m1 m2 m3 m4 m5 m6 m7 m8 m9 m10 m11 p0 p1 p2 p3 p4 p5 p6 p7 p8 p9 p10 p11
          obtain ⟨A0, A1, A2, A3, A4, A5, A6, A7, A8, A9, A10, A11, qA0, qA1, qA2, qA3, qA4, qA5, qA6, qA7, qA8, qA9, qA10, qA11, ⟨rA0, rA1, rA2, rA3, rA4, rA5, rA6, rA7, rA8, rA9, rA10, rA11⟩, ⟨fA0, fA1, fA2, fA3, fA4, fA5, fA6, fA7, fA8, fA9, fA10, fA11⟩, HA⟩ := rchain12 (HI.out.bm.later hb.out HI.out.bm.lt) (by decide) (.bool k2.n) (.slice k2.a k2.xs.length k2.ca) (.slice k2.b k2.ys.length k2.cb) (.bool k2.m) (.slice k2.c k2.us.length k2.cc) (.slice k2.d k2.vs.length k2.cd) (.bool l2.n) (.slice l2.a l2.xs.length l2.ca) (.slice l2.b l2.ys.length l2.cb) (.bool l2.m) (.slice l2.c l2.us.length l2.cc) (.slice l2.d l2.vs.length l2.cd)
          have HI2 := hid (HI.out.mul hmb hb.out ho.out hi.out HA.out)
          clear HI HA ho hi hb
          have a := HI2.out
          have HD := hid (otimes_pow HR.out j j (by omega) g h g h A11 (a.sp.1.sl a.vp.1 a.bel) (a.sp.2.sl a.vp.2 a.bel) (a.sp.1.sl a.vp.1 a.bel) (a.sp.2.sl a.vp.2 a.bel) a.vp a.vp)
          clear a
          have p0 : A11.cell? ⟨w.heap.size, 0, none⟩ = some (.bool g.n) := (HI2.out.bp).cell 0
          have p1 : A11.cell? ⟨w.heap.size, 1, none⟩ = some (.slice g.a g.xs.length g.ca) := (HI2.out.bp).cell 1
          have p2 : A11.cell? ⟨w.heap.size, 2, none⟩ = some (.slice g.b g.ys.length g.cb) := (HI2.out.bp).cell 2
          have p3 : A11.cell? ⟨w.heap.size, 3, none⟩ = some (.bool g.m) := (HI2.out.bp).cell 3
          have p4 : A11.cell? ⟨w.heap.size, 4, none⟩ = some (.slice g.c g.us.length g.cc) := (HI2.out.bp).cell 4
          have p5 : A11.cell? ⟨w.heap.size, 5, none⟩ = some (.slice g.d g.vs.length g.cd) := (HI2.out.bp).cell 5
          have p6 : A11.cell? ⟨w.heap.size, 6, none⟩ = some (.bool h.n) := (HI2.out.bp).cell 6
          have p7 : A11.cell? ⟨w.heap.size, 7, none⟩ = some (.slice h.a h.xs.length h.ca) := (HI2.out.bp).cell 7
          have p8 : A11.cell? ⟨w.heap.size, 8, none⟩ = some (.slice h.b h.ys.length h.cb) := (HI2.out.bp).cell 8
          have p9 : A11.cell? ⟨w.heap.size, 9, none⟩ = some (.bool h.m) := (HI2.out.bp).cell 9
          have p10 : A11.cell? ⟨w.heap.size, 10, none⟩ = some (.slice h.c h.us.length h.cc) := (HI2.out.bp).cell 10
          have p11 : A11.cell? ⟨w.heap.size, 11, none⟩ = some (.slice h.d h.vs.length h.cd) := (HI2.out.bp).cell 11
          go_wp2_with fail
          refine Calls.mono HD.out ?_
          rintro e w3 ⟨g2, h2, rfl, ho, hi, hb⟩
          clear HD p0 p1 p2 p3 p4 p5 p6 p7 p8 p9 p10 p11 qA0 qA1 qA2 qA3 qA4 qA5 qA6 qA7 qA8 qA9 qA10 qA11 rA0 rA1 rA2 rA3 rA4 rA5 rA6 rA7 rA8 rA9 rA10 rA11 fA0 fA1 fA2 fA3 fA4 fA5 fA6 fA7 fA8 fA9 fA10 fA11
          obtain ⟨B0, B1, B2, B3, B4, B5, B6, B7, B8, B9, B10, B11, qB0, qB1, qB2, qB3, qB4, qB5, qB6, qB7, qB8, qB9, qB10, qB11, ⟨rB0, rB1, rB2, rB3, rB4, rB5, rB6, rB7, rB8, rB9, rB10, rB11⟩, ⟨fB0, fB1, fB2, fB3, fB4, fB5, fB6, fB7, fB8, fB9, fB10, fB11⟩, HB⟩ := rchain12 (HI2.out.bp.later hb.out HI2.out.bp.lt) (by decide) (.bool g2.n) (.slice g2.a g2.xs.length g2.ca) (.slice g2.b g2.ys.length g2.cb) (.bool g2.m) (.slice g2.c g2.us.length g2.cc) (.slice g2.d g2.vs.length g2.cd) (.bool h2.n) (.slice h2.a h2.xs.length h2.ca) (.slice h2.b h2.ys.length h2.cb) (.bool h2.m) (.slice h2.c h2.us.length h2.cc) (.slice h2.d h2.vs.length h2.cd)
          have HI3 := hid (HI2.out.sq hmb hb.out ho.out hi.out HB.out)
          clear HI2 HB ho hi hb
          go_wp2_with fail
          go_roundw
          case rel => exact ⟨T / 2, i + j, j + j, g2, h2, k2, l2, by omega, congrArg (Value.int .i64) (by omega), hs2.out, HI3⟩
          case measure => first | (simp [intOf]; done) | (simp [intOf]; omega)
        · have hT1 : T = 1 := by omega
          subst hT1
          have a := HI.out
          have HD := hid (otimes_pow HR.out i j (by omega) k l g h wr (a.om.1.sl a.vm.1) (a.om.2.sl a.vm.2) (a.sp.1.sl a.vp.1 a.bel) (a.sp.2.sl a.vp.2 a.bel) a.vm a.vp)
          clear a
          have m0 : wr.cell? ⟨w1.heap.size, 0, none⟩ = some (.bool k.n) := (HI.out.bm).cell 0
          have m1 : wr.cell? ⟨w1.heap.size, 1, none⟩ = some (.slice k.a k.xs.length k.ca) := (HI.out.bm).cell 1
          have m2 : wr.cell? ⟨w1.heap.size, 2, none⟩ = some (.slice k.b k.ys.length k.cb) := (HI.out.bm).cell 2
          have m3 : wr.cell? ⟨w1.heap.size, 3, none⟩ = some (.bool k.m) := (HI.out.bm).cell 3
          have m4 : wr.cell? ⟨w1.heap.size, 4, none⟩ = some (.slice k.c k.us.length k.cc) := (HI.out.bm).cell 4
          have m5 : wr.cell? ⟨w1.heap.size, 5, none⟩ = some (.slice k.d k.vs.length k.cd) := (HI.out.bm).cell 5
          have m6 : wr.cell? ⟨w1.heap.size, 6, none⟩ = some (.bool l.n) := (HI.out.bm).cell 6
          have m7 : wr.cell? ⟨w1.heap.size, 7, none⟩ = some (.slice l.a l.xs.length l.ca) := (HI.out.bm).cell 7
          have m8 : wr.cell? ⟨w1.heap.size, 8, none⟩ = some (.slice l.b l.ys.length l.cb) := (HI.out.bm).cell 8
          have m9 : wr.cell? ⟨w1.heap.size, 9, none⟩ = some (.bool l.m) := (HI.out.bm).cell 9
          have m10 : wr.cell? ⟨w1.heap.size, 10, none⟩ = some (.slice l.c l.us.length l.cc) := (HI.out.bm).cell 10
          have m11 : wr.cell? ⟨w1.heap.size, 11, none⟩ = some (.slice l.d l.vs.length l.cd) := (HI.out.bm).cell 11
          have p0 : wr.cell? ⟨w.heap.size, 0, none⟩ = some (.bool g.n) := (HI.out.bp).cell 0
          have p1 : wr.cell? ⟨w.heap.size, 1, none⟩ = some (.slice g.a g.xs.length g.ca) := (HI.out.bp).cell 1
          have p2 : wr.cell? ⟨w.heap.size, 2, none⟩ = some (.slice g.b g.ys.length g.cb) := (HI.out.bp).cell 2
          have p3 : wr.cell? ⟨w.heap.size, 3, none⟩ = some (.bool g.m) := (HI.out.bp).cell 3
          have p4 : wr.cell? ⟨w.heap.size, 4, none⟩ = some (.slice g.c g.us.length g.cc) := (HI.out.bp).cell 4
          have p5 : wr.cell? ⟨w.heap.size, 5, none⟩ = some (.slice g.d g.vs.length g.cd) := (HI.out.bp).cell 5
          have p6 : wr.cell? ⟨w.heap.size, 6, none⟩ = some (.bool h.n) := (HI.out.bp).cell 6
          have p7 : wr.cell? ⟨w.heap.size, 7, none⟩ = some (.slice h.a h.xs.length h.ca) := (HI.out.bp).cell 7
          have p8 : wr.cell? ⟨w.heap.size, 8, none⟩ = some (.slice h.b h.ys.length h.cb) := (HI.out.bp).cell 8
          have p9 : wr.cell? ⟨w.heap.size, 9, none⟩ = some (.bool h.m) := (HI.out.bp).cell 9
          have p10 : wr.cell? ⟨w.heap.size, 10, none⟩ = some (.slice h.c h.us.length h.cc) := (HI.out.bp).cell 10
          have p11 : wr.cell? ⟨w.heap.size, 11, none⟩ = some (.slice h.d h.vs.length h.cd) := (HI.out.bp).cell 11
          go_wp2_with fail
          refine Calls.mono HD.out ?_
          rintro e w2 ⟨k2, l2, rfl, ho, hi, hb⟩
          clear HD m0 m1 m2 m3 m4 m5 m6 m7 m8 m9 m10 m11 p0 p1 p2 p3 p4 p5 p6 p7 p8 p9 p10 p11
          obtain ⟨A0, A1, A2, A3, A4, A5, A6, A7, A8, A9, A10, A11, qA0, qA1, qA2, qA3, qA4, qA5, qA6, qA7, qA8, qA9, qA10, qA11, ⟨rA0, rA1, rA2, rA3, rA4, rA5, rA6, rA7, rA8, rA9, rA10, rA11⟩, ⟨fA0, fA1, fA2, fA3, fA4, fA5, fA6, fA7, fA8, fA9, fA10, fA11⟩, HA⟩ := rchain12 (HI.out.bm.later hb.out HI.out.bm.lt) (by decide) (.bool k2.n) (.slice k2.a k2.xs.length k2.ca) (.slice k2.b k2.ys.length k2.cb) (.bool k2.m) (.slice k2.c k2.us.length k2.cc) (.slice k2.d k2.vs.length k2.cd) (.bool l2.n) (.slice l2.a l2.xs.length l2.ca) (.slice l2.b l2.ys.length l2.cb) (.bool l2.m) (.slice l2.c l2.us.length l2.cc) (.slice l2.d l2.vs.length l2.cd)
          have HI2 := hid (HI.out.mul hmb hb.out ho.out hi.out HA.out)
          clear HI HA ho hi hb
          go_wp2_with fail
          go_roundw
          case rel => exact ⟨0, i + j, j, g, h, k2, l2, by omega, congrArg (Value.int .i64) (by omega), by omega, HI2⟩
          case measure => first | (simp [intOf]; done) | (simp [intOf]; omega)

end Go.Proofs.Ytbccnngdkanejaa

/- package rotor: Power, as a complex fraction in its one form. -/
namespace Go.Proofs.Ytbccnngdkanejaa
open Go.RowKit
set_option linter.unusedVariables false
set_option linter.unusedSimpArgs false

/-- A whole number's words. -/
theorem o_whole {n : Bool} {xs ys : List Int} {x : Int} (wx : Wd xs) (wy : Wd ys) (hc : rchk n xs ys = 0) (hq : rq n xs ys = (x : Rat)) : wval n xs = x ∧ Trimmed xs ∧ xs.length ≤ 2048 ∧ (n = false ∨ 0 < xs.length) := by
  obtain ⟨l1, l2, t1, t2, h0, hs, hg⟩ := rchk_ok hc
  have hp : 0 < val ys := val_pos' wy t2 h0
  have hg' : gcdI (wval n xs) (val ys) = 1 := by
    have e := gcd_sg n (val xs) (val ys)
    rw [← hg, ← e]
    rfl
  have h := fr_num hp hg'
  have hn : (rq n xs ys).num = x := by rw [hq, Rat.num_intCast]
  exact ⟨by rw [← h.1]; exact hn, t1, l1, hs⟩
/-- The number of a power in two pieces. -/
def oNum (g h : G6) (a1 : Option Addr) (c1 : Nat) (a2 : Option Addr) (c2 : Nat) (a3 : Option Addr) (c3 : Nat) (a4 : Option Addr) (c4 : Nat) : G6 := ⟨g.n, a1, c1, g.xs, a2, c2, h.xs, g.m, a3, c3, g.us, a4, c4, h.xs⟩
theorem onum_is {g h : G6} {z : Int × Int} {M : Int} (hp : OPw g h z M) (hM : 0 < M) (g1 : Int.gcd z.1 M = 1) (g2 : Int.gcd z.2 M = 1) (a1 : Option Addr) (c1 : Nat) (a2 : Option Addr) (c2 : Nat) (a3 : Option Addr) (c3 : Nat) (a4 : Option Addr) (c4 : Nat) : (oNum g h a1 c1 a2 c2 a3 c3 a4 c4).Is (Rat.divInt z.1 M) (Rat.divInt z.2 M) := by
  obtain ⟨⟨i1, i2⟩, ⟨i3, i4⟩, w1, w2, w3, w4⟩ := hp.1
  obtain ⟨⟨j1, j2⟩, _, v1, v2, _⟩ := hp.2
  obtain ⟨e1, t1, l1, s1⟩ := o_whole w1 w2 i1 i2
  obtain ⟨e2, t2, l2, s2⟩ := o_whole w3 w4 i3 i4
  obtain ⟨e3, t3, l3, s3⟩ := o_whole v1 v2 j1 j2
  have p3 := val_nonneg v1
  have hn : h.n = false := by
    cases hh : h.n
    · rfl
    · rw [hh] at e3; unfold wval at e3; simp at e3; omega
  have e3' : val h.xs = M := by rw [hn] at e3; unfold wval at e3; simpa using e3
  have h0 : 0 < h.xs.length := by
    rcases Nat.eq_zero_or_pos h.xs.length with q | q
    · rw [List.eq_nil_of_length_eq_zero q] at e3'
      have : val ([] : List Int) = 0 := rfl
      omega
    · exact q
  have gg : ∀ {n : Bool} {xs : List Int} {x : Int}, wval n xs = x → Int.gcd x M = 1 → gcdI (val xs) (val h.xs) = 1 := fun {n xs x} he hg => by
    have e := gcd_sg n (val xs) (val h.xs)
    rw [← e, e3', show sg n (val xs) = x from he]
    unfold gcdI
    rw [hg]; rfl
  refine ⟨⟨rchk_good l1 l3 t1 t3 h0 s1 (gg e1 g1), ?_⟩, ⟨rchk_good l2 l3 t2 t3 h0 s2 (gg e2 g2), ?_⟩, w1, v1, w3, v1⟩
  · show Rat.divInt (wval g.n g.xs) (val h.xs) = _
    rw [e1, e3']
  · show Rat.divInt (wval g.m g.us) (val h.xs) = _
    rw [e2, e3']

/-- What tells a complex fraction, all rows apart. -/
def OGt (w : World) (q1 q2 : Rat) (x : Ending) (w' : World) : Prop := ∃ r : G6, x = .returned (.tuple #[.agg #[.bool r.n, .slice r.a r.xs.length r.ca, .slice r.b r.ys.length r.cb, .bool r.m, .slice r.c r.us.length r.cc, .slice r.d r.vs.length r.cd], .int .i64 0]) ∧ Hid (r.Ow w' w.heap.size) ∧ Hid (r.Is q1 q2) ∧ Hid (Below w.heap.size w w') ∧ Hid (∃ W1, Cut w (.slice r.a r.xs.length r.ca) (.slice r.b r.ys.length r.cb) W1 ∧ Cut W1 (.slice r.c r.us.length r.cc) (.slice r.d r.vs.length r.cd) w')
theorem oNm_pos {f n : Int} (h : rOK f n) (t : Nat) : 0 < oNm f n ^ t := by
  obtain ⟨e, _, _, _, _, _, h5, _⟩ := o_parts h
  exact Int.pow_pos (by omega)
/-- A rotor's power from 0 on, as a fraction. -/
def oPn (f n : Int) (t : Nat) : Rat × Rat := (Rat.divInt (zpow (oRe f n, oIm f n) t).1 (oNm f n ^ t), Rat.divInt (zpow (oRe f n, oIm f n) t).2 (oNm f n ^ t))
/-- A rotor's power. -/
def oP (f n t : Int) : Rat × Rat := if 0 ≤ t then oPn f n t.toNat else oPn f (-n) (-t).toNat
theorem rOK_neg {f n : Int} (h : rOK f n) : rOK f (-n) := by
  unfold rOK at *
  rw [Int.natAbs_neg]
  exact h

set_option maxHeartbeats 6400000 in
set_option maxRecDepth 100000 in
theorem oPower_any (f n t : Int) (w : World) (hr : rOK f n) (t0 : -1024 ≤ t) (t1 : t ≤ 1024) :
    Calls Try.prog 6 #[.agg #[.int .i32 f, .int .i32 n], .int .i64 t] w (OGt w (oP f n t).1 (oP f n t).2) := by
  obtain ⟨X, hX⟩ : ∃ X, (w.alloc (.cells #[.int .i32 f, .int .i32 n] 23)).alloc (.cells #[.bool false, .slice none 0 0, .slice none 0 0, .bool false, .slice none 0 0, .slice none 0 0] 31) = X := ⟨_, rfl⟩
  have HB : Hid (Below w.heap.size w X) := by rw [← hX]; exact bt (alloc_later _ _) (alloc_later _ _)
  have HR : Hid (Box X w.heap.size 23 #[.int .i32 f, .int .i32 n]) := by rw [← hX]; exact (Box.made w _ _).later (alloc_later _ _) (Box.made w _ _).lt
  have HZ : Hid (Box X (w.heap.size + 1) 31 #[.bool false, .slice none 0 0, .slice none 0 0, .bool false, .slice none 0 0, .slice none 0 0]) := by
    have q := Box.made (w.alloc (.cells #[.int .i32 f, .int .i32 n] 23)) 31 #[.bool false, .slice none 0 0, .slice none 0 0, .bool false, .slice none 0 0, .slice none 0 0]
    rw [show (w.alloc (.cells #[.int .i32 f, .int .i32 n] 23)).heap.size = w.heap.size + 1 by simp, hX] at q
    exact q
  have hin : in32 f n := by unfold rOK at hr; unfold in32; omega
  have hnn : -1000 ≤ n ∧ n ≤ 1000 := by unfold rOK at hr; omega
  have HC := hid (ocheck_any f n X hin)
  have h0 : ochk f n = 0 := by unfold ochk; rw [if_pos hr]
  rw [h0] at HC
  have k0 : X.cell? ⟨w.heap.size, 0, none⟩ = some (.int .i32 f) := HR.out.cell 0
  have k1 : X.cell? ⟨w.heap.size, 1, none⟩ = some (.int .i32 n) := HR.out.cell 1
  have zz := HZ.out.lt
  by_cases ht : 0 ≤ t
  · have EP : Hid (oP f n t = oPn f n t.toNat) := by show _ = _; unfold oP; rw [if_pos ht]
    have HF := hid (fun V => ofirst_any f n V (by unfold rOK at hr; omega) (by unfold rOK at hr; omega))
    have HK := hid hr
    obtain ⟨N, hN⟩ : ∃ N : Nat, t = N := ⟨t.toNat, by omega⟩
    subst hN
    rw [Int.toNat_natCast] at EP
    have hN1 : N ≤ 1024 := by omega
    clear h0 hin hr
    go_enter Try.func6, Try.ntmps6
    go_wp2_with fail
    clear hX
    refine Calls.mono HC.out ?_
    rintro e w1 ⟨rfl, hb1⟩
    have HB1 := hid hb1
    clear hb1 k0 k1 HC
    have k0 : w1.cell? ⟨w.heap.size, 0, none⟩ = some (.int .i32 f) := (HR.out.later HB1.out HR.out.lt).cell 0
    have k1 : w1.cell? ⟨w.heap.size, 1, none⟩ = some (.int .i32 n) := (HR.out.later HB1.out HR.out.lt).cell 1
    have HD := hid (HF.out w1)
    clear HF
    go_wp2_with fail
    refine Calls.mono HD.out ?_
    rintro e w2 ⟨g, h, rfl, ho2, hg, hh, hb2⟩
    have hg' := hg.out
    have hh' := hh.out
    rw [o_div1, o_div1] at hg' hh'
    have HT := hid (oto_any f n HK.out g h N hN1 w2 (ho2.out.1.sl hg') (ho2.out.2.sl hh') ⟨hg', hh'⟩)
    clear HD hg' hh' k0 k1 hg hh
    go_wp2_with fail
    refine Calls.mono HT.out ?_
    rintro e w3 ⟨k, l, rfl, ho3, hp3, hb3⟩
    have lk := hp3.out.1.len
    have ll := hp3.out.2.len
    have sk := ho3.out.1.sl hp3.out.1
    have sl_ := ho3.out.2.sl hp3.out.2
    have HN := hid (onumber_any k l w3 sk.1 sk.2.2.1 sl_.1 (by omega) (by omega) (by omega))
    clear HT lk ll sk sl_
    go_wp2_with fail
    refine Calls.mono HN.out ?_
    rintro e w4 ⟨a1, c1, a2, c2, a3, c3, a4, c4, rfl, ho4, hb4, hc4⟩
    clear HN
    have HBB := hid (bt HB1.out (bt hb2.out (bt hb3.out hb4.out)))
    obtain ⟨A0, A1, A2, A3, A4, A5, q0, q1, q2, q3, q4, q5, ⟨r0, r1, r2, r3, r4, r5⟩, ⟨f0, f1, f2, f3, f4, f5⟩, HA⟩ := rchain6 (HZ.out.later HBB.out HZ.out.lt) (by decide) (.bool k.n) (.slice a1 k.xs.length c1) (.slice a2 l.xs.length c2) (.bool k.m) (.slice a3 k.us.length c3) (.slice a4 l.xs.length c4)
    go_wp2_with fail
    have z1 := HB.out.size
    have z2 := HB1.out.size
    have z3 := hb2.out.size
    have z5 := hb3.out.size
    have P := HA.out.2.2.1
    have z4 := HA.out.2.2.2.2
    obtain ⟨W1, hc1, hc2⟩ := hc4.out
    refine bodyPost_ret (gres_run (by rfl) HA.out.1 _ (by rfl)) rfl ?_
    have hl := o_low HK.out N
    rw [EP.out]
    exact ⟨oNum k l a1 c1 a2 c2 a3 c3 a4 c4, rfl, ⟨P _ _ _ _ (owns_base ho4.out.1 (by omega)), P _ _ _ _ (owns_base ho4.out.2.1 (by omega)), P _ _ _ _ (owns_base ho4.out.2.2.1 (by omega)), P _ _ _ _ (owns_base ho4.out.2.2.2 (by omega))⟩, onum_is hp3.out (oNm_pos HK.out N) hl.1 hl.2 _ _ _ _ _ _ _ _, HA.out.2.2.2.1 _ _ (by omega) (bt HB.out HBB.out), W1, hc1.up (by omega) (Nat.le_refl _), hc2.up (Nat.le_refl _) (by omega)⟩
  · have EP : Hid (oP f n t = oPn f (-n) (-t).toNat) := by show _ = _; unfold oP; rw [if_neg ht]
    have hr2 := rOK_neg hr
    have HF := hid (fun V => ofirst_any f (-n) V (by unfold rOK at hr2; omega) (by unfold rOK at hr2; omega))
    have HK := hid hr2
    obtain ⟨N, hN⟩ : ∃ N : Nat, -t = N := ⟨(-t).toNat, by omega⟩
    have hN' : t = -(N : Int) := by omega
    subst hN'
    rw [Int.neg_neg, Int.toNat_natCast] at EP
    have hN1 : N ≤ 1024 := by omega
    have hN0 : 0 < N := by omega
    clear h0 hin hr hr2 hN
    go_enter Try.func6, Try.ntmps6
    go_wp2_with fail
    clear hX
    refine Calls.mono HC.out ?_
    rintro e w1 ⟨rfl, hb1⟩
    have HB1 := hid hb1
    clear hb1 k0 k1 HC
    have HR1 := hid (HR.out.later HB1.out HR.out.lt)
    have k0 : w1.cell? ⟨w.heap.size, 0, none⟩ = some (.int .i32 f) := HR1.out.cell 0
    have k1 : w1.cell? ⟨w.heap.size, 1, none⟩ = some (.int .i32 n) := HR1.out.cell 1
    have kf := HR1.out.free 1
    have HR2 : Hid (Box (w1.setCell ⟨w.heap.size, 1, none⟩ (.int .i32 (-n))) w.heap.size 23 #[.int .i32 f, .int .i32 (-n)]) := HR1.out.set 1 _
    have HZ2 : Hid (Box (w1.setCell ⟨w.heap.size, 1, none⟩ (.int .i32 (-n))) (w.heap.size + 1) 31 #[.bool false, .slice none 0 0, .slice none 0 0, .bool false, .slice none 0 0, .slice none 0 0]) := (HZ.out.later HB1.out HZ.out.lt).other ⟨w.heap.size, 1, none⟩ _ (by show w.heap.size + 1 ≠ w.heap.size; omega)
    have HBW : Hid (Below w.heap.size w (w1.setCell ⟨w.heap.size, 1, none⟩ (.int .i32 (-n)))) := (bt HB.out HB1.out).setCell (p := ⟨w.heap.size, 1, none⟩) (Nat.le_refl _) _
    obtain ⟨V, hV⟩ : ∃ V, w1.setCell ⟨w.heap.size, 1, none⟩ (.int .i32 (-n)) = V := ⟨_, rfl⟩
    rw [hV] at HR2 HZ2 HBW
    have j0 : V.cell? ⟨w.heap.size, 0, none⟩ = some (.int .i32 f) := HR2.out.cell 0
    have j1 : V.cell? ⟨w.heap.size, 1, none⟩ = some (.int .i32 (-n)) := HR2.out.cell 1
    have HD := hid (HF.out V)
    clear HF
    go_wp2_with fail
    refine Calls.mono HD.out ?_
    rintro e w2 ⟨g, h, rfl, ho2, hg, hh, hb2⟩
    have hg' := hg.out
    have hh' := hh.out
    rw [o_div1, o_div1] at hg' hh'
    have HT := hid (oto_any f (-n) HK.out g h N hN1 w2 (ho2.out.1.sl hg') (ho2.out.2.sl hh') ⟨hg', hh'⟩)
    clear HD hg' hh' k0 k1 kf hV j0 j1 hg hh
    go_wp2_with fail
    refine Calls.mono HT.out ?_
    rintro e w3 ⟨k, l, rfl, ho3, hp3, hb3⟩
    have lk := hp3.out.1.len
    have ll := hp3.out.2.len
    have sk := ho3.out.1.sl hp3.out.1
    have sl_ := ho3.out.2.sl hp3.out.2
    have HN := hid (onumber_any k l w3 sk.1 sk.2.2.1 sl_.1 (by omega) (by omega) (by omega))
    clear HT lk ll sk sl_
    go_wp2_with fail
    refine Calls.mono HN.out ?_
    rintro e w4 ⟨a1, c1, a2, c2, a3, c3, a4, c4, rfl, ho4, hb4, hc4⟩
    clear HN
    have HBB := hid (bt hb2.out (bt hb3.out hb4.out))
    obtain ⟨A0, A1, A2, A3, A4, A5, q0, q1, q2, q3, q4, q5, ⟨r0, r1, r2, r3, r4, r5⟩, ⟨f0, f1, f2, f3, f4, f5⟩, HA⟩ := rchain6 (HZ2.out.later HBB.out HZ2.out.lt) (by decide) (.bool k.n) (.slice a1 k.xs.length c1) (.slice a2 l.xs.length c2) (.bool k.m) (.slice a3 k.us.length c3) (.slice a4 l.xs.length c4)
    go_wp2_with fail
    have z1 := HBW.out.size
    have z3 := hb2.out.size
    have z5 := hb3.out.size
    have P := HA.out.2.2.1
    have z4 := HA.out.2.2.2.2
    obtain ⟨W1, hc1, hc2⟩ := hc4.out
    refine bodyPost_ret (gres_run (by rfl) HA.out.1 _ (by rfl)) rfl ?_
    have hl := o_low HK.out N
    rw [EP.out]
    exact ⟨oNum k l a1 c1 a2 c2 a3 c3 a4 c4, rfl, ⟨P _ _ _ _ (owns_base ho4.out.1 (by omega)), P _ _ _ _ (owns_base ho4.out.2.1 (by omega)), P _ _ _ _ (owns_base ho4.out.2.2.1 (by omega)), P _ _ _ _ (owns_base ho4.out.2.2.2 (by omega))⟩, onum_is hp3.out (oNm_pos HK.out N) hl.1 hl.2 _ _ _ _ _ _ _ _, HA.out.2.2.2.1 _ _ (by omega) (bt HBW.out HBB.out), W1, hc1.up (by omega) (Nat.le_refl _), hc2.up (Nat.le_refl _) (by omega)⟩
end Go.Proofs.Ytbccnngdkanejaa

/- No program: a rotor's powers are a group; none but the power 0 is 1; how long they are. -/
namespace Go.Proofs.Ytbccnngdkanejaa
open Go.RowKit
set_option linter.unusedVariables false

/-- Neither part of a fraction is above this. -/
def OHg (q : Rat) (B : Nat) : Prop := q.num.natAbs ≤ B ∧ q.den ≤ B
theorem OHg.up {q : Rat} {B C : Nat} (h : OHg q B) (hc : B ≤ C) : OHg q C := ⟨Nat.le_trans h.1 hc, Nat.le_trans h.2 hc⟩
theorem ohg_divInt {n : Int} {d : Nat} {B : Nat} (hd : d ≠ 0) (h1 : n.natAbs ≤ B) (h2 : d ≤ B) : OHg (Rat.divInt n d) B := by
  have e : Rat.divInt n d = mkRat n d := Rat.divInt_ofNat n d
  rw [e]
  have e2 := Rat.normalize_eq_mkRat (num := n) (den := d) hd
  rw [← e2, Rat.normalize_eq]
  exact ⟨by
    show (n / _).natAbs ≤ B
    exact Nat.le_trans (by rw [Int.natAbs_ediv_of_dvd (Int.ofNat_dvd_left.2 (Nat.gcd_dvd_left _ _)), Int.natAbs_natCast]; exact Nat.div_le_self _ _) h1, Nat.le_trans (Nat.div_le_self _ _) h2⟩
theorem OHg.neg {q : Rat} {B : Nat} (h : OHg q B) : OHg (-q) B := ⟨by show (-q).num.natAbs ≤ B; rw [Rat.neg_num, Int.natAbs_neg]; exact h.1, by show (-q).den ≤ B; rw [Rat.neg_den]; exact h.2⟩
theorem OHg.mul {p q : Rat} {B C : Nat} (h : OHg p B) (g : OHg q C) : OHg (p * q) (B * C) := by
  have e : p * q = Rat.divInt (p.num * q.num) ((p.den * q.den : Nat) : Int) := by
    have e1 := Rat.divInt_mul_divInt p.num q.num (d₁ := p.den) (d₂ := q.den)
    rw [Rat.num_divInt_den, Rat.num_divInt_den] at e1
    rw [e1]; norm_cast
  rw [e]
  exact ohg_divInt (Nat.mul_ne_zero p.den_nz q.den_nz) (by rw [Int.natAbs_mul]; exact Nat.mul_le_mul h.1 g.1) (Nat.mul_le_mul h.2 g.2)
theorem OHg.add {p q : Rat} {B C : Nat} (h : OHg p B) (g : OHg q C) : OHg (p + q) (2 * (B * C)) := by
  have e : p + q = Rat.divInt (p.num * q.den + q.num * p.den) ((p.den * q.den : Nat) : Int) := by
    have e1 := Rat.divInt_add_divInt p.num q.num (d₁ := p.den) (d₂ := q.den) (by have := p.den_nz; omega) (by have := q.den_nz; omega)
    rw [Rat.num_divInt_den, Rat.num_divInt_den] at e1
    rw [e1]; norm_cast
  rw [e]
  have h1 : (p.num * q.den).natAbs ≤ B * C := by rw [Int.natAbs_mul, Int.natAbs_natCast]; exact Nat.mul_le_mul h.1 g.2
  have h2 : (q.num * p.den).natAbs ≤ B * C := by rw [Int.natAbs_mul, Int.natAbs_natCast, Nat.mul_comm B C]; exact Nat.mul_le_mul g.1 h.2
  have h3 : p.den * q.den ≤ B * C := Nat.mul_le_mul h.2 g.2
  exact ohg_divInt (Nat.mul_ne_zero p.den_nz q.den_nz) (Nat.le_trans (Int.natAbs_add_le _ _) (by omega)) (by omega)
theorem OHg.sub {p q : Rat} {B C : Nat} (h : OHg p B) (g : OHg q C) : OHg (p - q) (2 * (B * C)) := by
  rw [Rat.sub_eq_add_neg]
  exact h.add g.neg
theorem OHg.short {q : Rat} {B : Nat} (h : OHg q B) (hb : B < oL) : ¬ rlong q := by
  have e := oL_lt
  have h1 := h.1
  have h2 := h.2
  rintro (hh | hh) <;> omega
def qmul (p q : Rat × Rat) : Rat × Rat := (p.1 * q.1 - p.2 * q.2, p.1 * q.2 + p.2 * q.1)
def qconj (p : Rat × Rat) : Rat × Rat := (p.1, -p.2)
theorem qmul_assoc (p q r : Rat × Rat) : qmul (qmul p q) r = qmul p (qmul q r) := by
  unfold qmul
  apply Prod.ext
  · show (p.1 * q.1 - p.2 * q.2) * r.1 - (p.1 * q.2 + p.2 * q.1) * r.2 = p.1 * (q.1 * r.1 - q.2 * r.2) - p.2 * (q.1 * r.2 + q.2 * r.1)
    grind
  · show (p.1 * q.1 - p.2 * q.2) * r.2 + (p.1 * q.2 + p.2 * q.1) * r.1 = p.1 * (q.1 * r.2 + q.2 * r.1) + p.2 * (q.1 * r.1 - q.2 * r.2)
    grind
theorem qmul_comm (p q : Rat × Rat) : qmul p q = qmul q p := by
  unfold qmul
  apply Prod.ext
  · show p.1 * q.1 - p.2 * q.2 = q.1 * p.1 - q.2 * p.2
    grind
  · show p.1 * q.2 + p.2 * q.1 = q.1 * p.2 + q.2 * p.1
    grind
theorem qmul_one (p : Rat × Rat) : qmul p (1, 0) = p := by
  unfold qmul
  apply Prod.ext
  · show p.1 * 1 - p.2 * 0 = p.1
    grind
  · show p.1 * 0 + p.2 * 1 = p.2
    grind
theorem qmul_conj (p q : Rat × Rat) : qmul (qconj p) (qconj q) = qconj (qmul p q) := by
  unfold qmul qconj
  apply Prod.ext
  · show p.1 * q.1 - -p.2 * -q.2 = p.1 * q.1 - p.2 * q.2
    grind
  · show p.1 * -q.2 + -p.2 * q.1 = -(p.1 * q.2 + p.2 * q.1)
    grind
theorem qmul_self {p : Rat × Rat} (h : p.1 * p.1 + p.2 * p.2 = 1) : qmul p (qconj p) = (1, 0) := by
  unfold qmul qconj
  apply Prod.ext
  · show p.1 * p.1 - p.2 * -p.2 = 1
    grind
  · show p.1 * -p.2 + p.2 * p.1 = 0
    grind
theorem qconj_conj (p : Rat × Rat) : qconj (qconj p) = p := by
  unfold qconj
  apply Prod.ext
  · rfl
  · show - -p.2 = p.2
    grind
/-- Fractions over a product. -/
theorem q_over (a b c d A B : Rat) (hA : A ≠ 0) (hB : B ≠ 0) : a / A * (b / B) - c / A * (d / B) = (a * b - c * d) / (A * B) ∧ a / A * (b / B) + c / A * (d / B) = (a * b + c * d) / (A * B) := by
  constructor <;> grind

theorem o_negs (f n : Int) : oRe f (-n) = oRe f n ∧ oIm f (-n) = -oIm f n ∧ oNm f (-n) = oNm f n := by
  have e1 : -n * -n = n * n := Int.neg_mul_neg n n
  have e2 : f * -n = -(f * n) := Int.mul_neg f n
  refine ⟨by unfold oRe; rw [e1], ?_, by unfold oNm; rw [e1]⟩
  unfold oIm
  rw [e1, e2]
  by_cases h : (f * f + n * n) % 2 = 0
  · rw [if_pos h, if_pos h]
  · rw [if_neg h, if_neg h]; omega
theorem oPn_eq (f n : Int) (t : Nat) : oPn f n t = (((zpow (oRe f n, oIm f n) t).1 : Rat) / ((oNm f n ^ t : Int) : Rat), ((zpow (oRe f n, oIm f n) t).2 : Rat) / ((oNm f n ^ t : Int) : Rat)) := by
  unfold oPn
  rw [Rat.divInt_eq_div, Rat.divInt_eq_div]
theorem oD_ne {f n : Int} (h : rOK f n) (t : Nat) : ((oNm f n ^ t : Int) : Rat) ≠ 0 := by
  have := oNm_pos h t
  intro e
  have e2 : ((oNm f n ^ t : Int) : Rat) = ((0 : Int) : Rat) := e
  have := Rat.intCast_inj.1 e2
  omega
theorem oPn_conj (f n : Int) (t : Nat) : oPn f (-n) t = qconj (oPn f n t) := by
  rw [oPn_eq, oPn_eq, (o_negs f n).1, (o_negs f n).2.1, (o_negs f n).2.2]
  have e := zpow_conj (oRe f n, oIm f n) t
  have e2 : zconj (oRe f n, oIm f n) = (oRe f n, -oIm f n) := rfl
  rw [e2] at e
  rw [e]
  unfold qconj zconj
  apply Prod.ext
  · rfl
  · show ((-(zpow (oRe f n, oIm f n) t).2 : Int) : Rat) / _ = -(((zpow (oRe f n, oIm f n) t).2 : Rat) / _)
    rw [Rat.intCast_neg]
    generalize ((zpow (oRe f n, oIm f n) t).2 : Rat) = y
    generalize ((oNm f n ^ t : Int) : Rat) = D
    grind
theorem oPn_add {f n : Int} (h : rOK f n) (s t : Nat) : oPn f n (s + t) = qmul (oPn f n s) (oPn f n t) := by
  have h1 := oD_ne h s
  have h2 := oD_ne h t
  rw [oPn_eq, oPn_eq, oPn_eq, zpow_add, Int.pow_add, Rat.intCast_mul]
  unfold qmul zmul
  generalize ((oNm f n ^ s : Int) : Rat) = A at *
  generalize ((oNm f n ^ t : Int) : Rat) = B at *
  generalize zpow (oRe f n, oIm f n) s = p
  generalize zpow (oRe f n, oIm f n) t = q
  apply Prod.ext
  · show ((p.1 * q.1 - p.2 * q.2 : Int) : Rat) / (A * B) = (p.1 : Rat) / A * ((q.1 : Rat) / B) - (p.2 : Rat) / A * ((q.2 : Rat) / B)
    rw [(q_over _ _ _ _ A B h1 h2).1, Rat.intCast_sub, Rat.intCast_mul, Rat.intCast_mul]
  · show ((p.1 * q.2 + p.2 * q.1 : Int) : Rat) / (A * B) = (p.1 : Rat) / A * ((q.2 : Rat) / B) + (p.2 : Rat) / A * ((q.1 : Rat) / B)
    rw [(q_over _ _ _ _ A B h1 h2).2, Rat.intCast_add, Rat.intCast_mul, Rat.intCast_mul]
theorem oPn_norm {f n : Int} (h : rOK f n) (t : Nat) : (oPn f n t).1 * (oPn f n t).1 + (oPn f n t).2 * (oPn f n t).2 = 1 := by
  have h1 := oD_ne h t
  have e := zpow_norm (oRe f n, oIm f n) t
  have e2 : ((oRe f n, oIm f n).1 * (oRe f n, oIm f n).1 + (oRe f n, oIm f n).2 * (oRe f n, oIm f n).2) = oNm f n * oNm f n := o_size h
  rw [e2, Int.mul_pow] at e
  have e3 : ((zpow (oRe f n, oIm f n) t).1 : Rat) * (zpow (oRe f n, oIm f n) t).1 + ((zpow (oRe f n, oIm f n) t).2 : Rat) * (zpow (oRe f n, oIm f n) t).2 = ((oNm f n ^ t : Int) : Rat) * ((oNm f n ^ t : Int) : Rat) := by
    rw [← Rat.intCast_mul, ← Rat.intCast_mul, ← Rat.intCast_mul, ← Rat.intCast_add, e]
  rw [oPn_eq]
  show ((zpow (oRe f n, oIm f n) t).1 : Rat) / _ * (((zpow (oRe f n, oIm f n) t).1 : Rat) / _) + ((zpow (oRe f n, oIm f n) t).2 : Rat) / _ * (((zpow (oRe f n, oIm f n) t).2 : Rat) / _) = 1
  generalize ((oNm f n ^ t : Int) : Rat) = A at *
  generalize ((zpow (oRe f n, oIm f n) t).1 : Rat) = x at *
  generalize ((zpow (oRe f n, oIm f n) t).2 : Rat) = y at *
  rw [(q_over x x y y A A h1 h1).2, e3]
  grind
theorem oP_nat (f n : Int) (t : Nat) : oP f n (t : Int) = oPn f n t := by
  unfold oP
  rw [if_pos (by omega), Int.toNat_natCast]
theorem oPn_zero (f n : Int) : oPn f n 0 = (1, 0) := by
  rw [oPn_eq, Int.pow_zero]
  apply Prod.ext
  · show ((1 : Int) : Rat) / ((1 : Int) : Rat) = 1
    decide +kernel
  · show ((0 : Int) : Rat) / ((1 : Int) : Rat) = 0
    decide +kernel
theorem oP_negnat (f n : Int) (t : Nat) : oP f n (-(t : Int)) = qconj (oPn f n t) := by
  rcases Nat.eq_zero_or_pos t with h | h
  · subst h
    show oP f n ((0 : Nat) : Int) = _
    rw [oP_nat, oPn_zero]
    rfl
  · unfold oP
    rw [if_neg (by omega), Int.neg_neg, Int.toNat_natCast, oPn_conj]
theorem oP_neg (f n t : Int) : oP f n (-t) = qconj (oP f n t) := by
  rcases Int.le_total 0 t with h | h
  · obtain ⟨k, rfl⟩ := Int.eq_ofNat_of_zero_le h
    rw [oP_negnat, oP_nat]
  · obtain ⟨k, hk⟩ := Int.eq_ofNat_of_zero_le (show 0 ≤ -t by omega)
    have e : t = -(k : Int) := by omega
    rw [e, Int.neg_neg, oP_negnat, oP_nat, qconj_conj]
theorem oP_conj (f n t : Int) : oP f (-n) t = qconj (oP f n t) := by
  rcases Int.le_total 0 t with h | h
  · obtain ⟨k, rfl⟩ := Int.eq_ofNat_of_zero_le h
    rw [oP_nat, oP_nat, oPn_conj]
  · obtain ⟨k, hk⟩ := Int.eq_ofNat_of_zero_le (show 0 ≤ -t by omega)
    have e : t = -(k : Int) := by omega
    rw [e, oP_negnat, oP_negnat, oPn_conj]
theorem oP_norm {f n : Int} (h : rOK f n) (t : Int) : (oP f n t).1 * (oP f n t).1 + (oP f n t).2 * (oP f n t).2 = 1 := by
  rcases Int.le_total 0 t with g | g
  · obtain ⟨k, rfl⟩ := Int.eq_ofNat_of_zero_le g
    rw [oP_nat]; exact oPn_norm h k
  · obtain ⟨k, hk⟩ := Int.eq_ofNat_of_zero_le (show 0 ≤ -t by omega)
    have e : t = -(k : Int) := by omega
    rw [e, oP_negnat]
    have := oPn_norm h k
    show (oPn f n k).1 * (oPn f n k).1 + -(oPn f n k).2 * -(oPn f n k).2 = 1
    grind
theorem oP_mix {f n : Int} (h : rOK f n) (s t : Nat) : oP f n ((s : Int) - t) = qmul (oPn f n s) (qconj (oPn f n t)) := by
  rcases Nat.le_total t s with g | g
  · obtain ⟨d, rfl⟩ : ∃ d, s = t + d := ⟨s - t, by omega⟩
    rw [show ((t + d : Nat) : Int) - t = (d : Int) by omega, oP_nat, oPn_add h, qmul_comm (oPn f n t), qmul_assoc, qmul_self (oPn_norm h t), qmul_one]
  · obtain ⟨d, rfl⟩ : ∃ d, t = s + d := ⟨t - s, by omega⟩
    rw [show (s : Int) - ((s + d : Nat) : Int) = -(d : Int) by omega, oP_negnat, oPn_add h, ← qmul_conj, ← qmul_assoc, qmul_self (oPn_norm h s), qmul_comm, qmul_one]
theorem oP_add {f n : Int} (h : rOK f n) (s t : Int) : oP f n (s + t) = qmul (oP f n s) (oP f n t) := by
  rcases Int.le_total 0 s with gs | gs
  · obtain ⟨a, rfl⟩ := Int.eq_ofNat_of_zero_le gs
    rcases Int.le_total 0 t with gt | gt
    · obtain ⟨b, rfl⟩ := Int.eq_ofNat_of_zero_le gt
      rw [← Int.natCast_add, oP_nat, oP_nat, oP_nat, oPn_add h]
    · obtain ⟨b, hb⟩ := Int.eq_ofNat_of_zero_le (show 0 ≤ -t by omega)
      have e : t = -(b : Int) := by omega
      rw [e, ← Int.sub_eq_add_neg, oP_mix h, oP_nat, oP_negnat]
  · obtain ⟨a, ha⟩ := Int.eq_ofNat_of_zero_le (show 0 ≤ -s by omega)
    have e : s = -(a : Int) := by omega
    rw [e]
    rcases Int.le_total 0 t with gt | gt
    · obtain ⟨b, rfl⟩ := Int.eq_ofNat_of_zero_le gt
      rw [Int.add_comm, ← Int.sub_eq_add_neg, oP_mix h, oP_nat, oP_negnat, qmul_comm]
    · obtain ⟨b, hb⟩ := Int.eq_ofNat_of_zero_le (show 0 ≤ -t by omega)
      have e : t = -(b : Int) := by omega
      rw [e, show -(a : Int) + -(b : Int) = -((a + b : Nat) : Int) by omega, oP_negnat, oP_negnat, oP_negnat, oPn_add h, qmul_conj]
theorem oPn_low {f n : Int} (h : rOK f n) (t : Nat) : (oPn f n t).1.num = (zpow (oRe f n, oIm f n) t).1 ∧ ((oPn f n t).1.den : Int) = oNm f n ^ t ∧ (oPn f n t).2.num = (zpow (oRe f n, oIm f n) t).2 ∧ ((oPn f n t).2.den : Int) = oNm f n ^ t := by
  have l := o_low h t
  have a := fr_num (oNm_pos h t) (show gcdI (zpow (oRe f n, oIm f n) t).1 (oNm f n ^ t) = 1 by unfold gcdI; rw [l.1]; rfl)
  have b := fr_num (oNm_pos h t) (show gcdI (zpow (oRe f n, oIm f n) t).2 (oNm f n ^ t) = 1 by unfold gcdI; rw [l.2]; rfl)
  exact ⟨a.1, a.2, b.1, b.2⟩
theorem oPn_one {f n : Int} (h : rOK f n) (t : Nat) (e : oPn f n t = (1, 0)) : t = 0 := by
  have l := oPn_low h t
  rw [e] at l
  have h2 : oNm f n ^ t = 1 := l.2.1.symm
  obtain ⟨_, _, _, _, _, _, h5, _⟩ := o_parts h
  rcases Nat.eq_zero_or_pos t with g | g
  · exact g
  · exfalso
    obtain ⟨k, rfl⟩ : ∃ k, t = k + 1 := ⟨t - 1, by omega⟩
    have h3 := oNm_pos h k
    rw [Int.pow_succ] at h2
    have h4 : oNm f n ^ k * 5 ≤ oNm f n ^ k * oNm f n := Int.mul_le_mul_of_nonneg_left h5 (by omega)
    omega
theorem oP_one {f n : Int} (h : rOK f n) (s : Int) : oP f n s = (1, 0) ↔ s = 0 := by
  constructor
  · intro e
    rcases Int.le_total 0 s with g | g
    · obtain ⟨k, rfl⟩ := Int.eq_ofNat_of_zero_le g
      rw [oP_nat] at e
      have := oPn_one h k e
      omega
    · obtain ⟨k, hk⟩ := Int.eq_ofNat_of_zero_le (show 0 ≤ -s by omega)
      have e1 : s = -(k : Int) := by omega
      rw [e1, oP_negnat] at e
      have e2 : oPn f n k = (1, 0) := by
        rw [← qconj_conj (oPn f n k), e]
        rfl
      have := oPn_one h k e2
      omega
  · rintro rfl
    show oP f n ((0 : Nat) : Int) = _
    rw [oP_nat, oPn_zero]
theorem oPn_hg {f n : Int} (h : rOK f n) (t : Nat) : OHg (oPn f n t).1 (o2 (21 * t)) ∧ OHg (oPn f n t).2 (o2 (21 * t)) := by
  have l := oPn_low h t
  have b := o_size2 h t
  have d : ∀ {x : Nat}, (x : Int) = oNm f n ^ t → x ≤ o2 (21 * t) := fun {x} e => by
    have := b.2.2
    rw [← e, Int.natAbs_natCast] at this
    exact this
  exact ⟨⟨by rw [l.1]; exact b.1, d l.2.1⟩, ⟨by rw [l.2.2.1]; exact b.2.1, d l.2.2.2⟩⟩
theorem o2_le {m n : Nat} (h : m ≤ n) : o2 m ≤ o2 n := Nat.pow_le_pow_right (by decide) h
theorem oP_hg {f n : Int} (h : rOK f n) (t : Int) (K : Nat) (hk : t.natAbs ≤ K) : OHg (oP f n t).1 (o2 (21 * K)) ∧ OHg (oP f n t).2 (o2 (21 * K)) := by
  rcases Int.le_total 0 t with g | g
  · obtain ⟨k, rfl⟩ := Int.eq_ofNat_of_zero_le g
    rw [oP_nat]
    exact ⟨(oPn_hg h k).1.up (o2_le (by omega)), (oPn_hg h k).2.up (o2_le (by omega))⟩
  · obtain ⟨k, hk'⟩ := Int.eq_ofNat_of_zero_le (show 0 ≤ -t by omega)
    have e : t = -(k : Int) := by omega
    rw [e, oP_negnat]
    exact ⟨(oPn_hg h k).1.up (o2_le (by omega)), (oPn_hg h k).2.neg.up (o2_le (by omega))⟩
end Go.Proofs.Ytbccnngdkanejaa

/- gauss.Same, Norm, Conj, Mul of good numbers, as letters; the laws' unit and lives of layer 5. (tools/mkrq6.py) -/
namespace Go.Proofs.Ytbccnngdkanejaa
open Go.RowKit
set_option linter.unusedVariables false
set_option linter.unusedSimpArgs false

/-- Good numbers are the same just if their words are. -/
theorem G6.Is.iff {g h : G6} {q1 q2 r1 r2 : Rat} (i : g.Is q1 q2) (j : h.Is r1 r2) : (decide (g.n = h.n ∧ g.xs = h.xs ∧ g.ys = h.ys) && decide (g.m = h.m ∧ g.us = h.us ∧ g.vs = h.vs)) = decide (q1 = r1 ∧ q2 = r2) := by
  obtain ⟨⟨i1, i2⟩, ⟨i3, i4⟩, w1, w2, w3, w4⟩ := i
  obtain ⟨⟨j1, j2⟩, ⟨j3, j4⟩, v1, v2, v3, v4⟩ := j
  by_cases e : q1 = r1 ∧ q2 = r2
  · obtain ⟨e1, e2⟩ := e
    subst e1 e2
    have a := kp_self w1 w2 i1
    have b := kp_self v1 v2 j1
    have c := kp_self w3 w4 i3
    have d := kp_self v3 v4 j3
    rw [i2] at a
    rw [j2] at b
    rw [i4] at c
    rw [j4] at d
    obtain ⟨s1, s2, s3, _⟩ := a.same b
    obtain ⟨s4, s5, s6, _⟩ := c.same d
    simp [s1, s2, s3, s4, s5, s6]
  · rw [decide_eq_false e]
    by_cases a : g.n = h.n ∧ g.xs = h.xs ∧ g.ys = h.ys
    · by_cases b : g.m = h.m ∧ g.us = h.us ∧ g.vs = h.vs
      · exfalso
        refine e ⟨?_, ?_⟩
        · rw [← i2, ← j2, a.1, a.2.1, a.2.2]
        · rw [← i4, ← j4, b.1, b.2.1, b.2.2]
      · rw [decide_eq_false b, Bool.and_false]
    · rw [decide_eq_false a, Bool.false_and]
theorem oSame_any (g h : G6) (q1 q2 r1 r2 : Rat) (w : World) (sg : g.Sl4 w) (sh : h.Sl4 w) (ig : g.Is q1 q2) (ih : h.Is r1 r2) :
    Calls Try.prog 8 #[.agg #[.bool g.n, .slice g.a g.xs.length g.ca, .slice g.b g.ys.length g.cb, .bool g.m, .slice g.c g.us.length g.cc, .slice g.d g.vs.length g.cd], .agg #[.bool h.n, .slice h.a h.xs.length h.ca, .slice h.b h.ys.length h.cb, .bool h.m, .slice h.c h.us.length h.cc, .slice h.d h.vs.length h.cd]] w fun e w' => e = .returned (.bool (decide (q1 = r1 ∧ q2 = r2))) ∧ Hid (Below w.heap.size w w') := by
  have lg := ig.len
  have lh := ih.len
  refine Calls.mono (gSame_any g.n g.a g.ca g.xs g.b g.cb g.ys g.m g.c g.cc g.us g.d g.cd g.vs h.n h.a h.ca h.xs h.b h.cb h.ys h.m h.c h.cc h.us h.d h.cd h.vs w sg.1 sg.2.1 sg.2.2.1 sg.2.2.2 sh.1 sh.2.1 sh.2.2.1 sh.2.2.2 (by omega) (by omega) (by omega) (by omega) (by omega) (by omega) (by omega) (by omega)) ?_
  rintro e w' ⟨rfl, hb⟩
  rw [ig.iff ih, ig.chk]
  exact ⟨by simp, hb⟩
theorem oConj_any (g : G6) (q1 q2 : Rat) (w : World) (sg : g.Sl4 w) (ig : g.Is q1 q2) (hl : ¬ rlong q1 ∧ ¬ rlong (-q2)) :
    Calls Try.prog 11 #[.agg #[.bool g.n, .slice g.a g.xs.length g.ca, .slice g.b g.ys.length g.cb, .bool g.m, .slice g.c g.us.length g.cc, .slice g.d g.vs.length g.cd]] w fun e w' => ∃ k : G6, e = .returned (.tuple #[.agg #[.bool k.n, .slice k.a k.xs.length k.ca, .slice k.b k.ys.length k.cb, .bool k.m, .slice k.c k.us.length k.cc, .slice k.d k.vs.length k.cd], .int .i64 0]) ∧ Hid (k.Ow w' w.heap.size) ∧ Hid (k.Is q1 (-q2)) ∧ Hid (Below w.heap.size w w') := by
  refine Calls.mono (kConj_full g.n g.a g.ca g.xs g.b g.cb g.ys g.m g.c g.cc g.us g.d g.cd g.vs w sg.1 sg.2.1 sg.2.2.1 sg.2.2.2) ?_
  rw [ig.chk, ig.1.2, ig.2.1.2]
  rintro e w' ⟨n, a, ca, xs, b, cb, ys, m, c, cc, us, d, cd, vs, code, rfl, ho, ht, hb, _⟩
  obtain ⟨hc, h1, h2⟩ := ht.good rfl (fun h => h.elim hl.1 hl.2)
  subst hc
  exact ⟨⟨n, a, ca, xs, b, cb, ys, m, c, cc, us, d, cd, vs⟩, rfl, ho, ⟨h1, h2, ht.wd⟩, hb⟩
/-- gauss.Norm of a good number whose squares are not long. -/
theorem oNorm_any (g : G6) (q1 q2 : Rat) (w : World) (sg : g.Sl4 w) (ig : g.Is q1 q2) (l1 : ¬ rlong (q1 * q1)) (l2 : ¬ rlong (q2 * q2)) (l3 : ¬ rlong (q1 * q1 + q2 * q2)) :
    Calls Try.prog 10 #[.agg #[.bool g.n, .slice g.a g.xs.length g.ca, .slice g.b g.ys.length g.cb, .bool g.m, .slice g.c g.us.length g.cc, .slice g.d g.vs.length g.cd]] w fun e w' => ∃ (n : Bool) (a : Option Addr) (ca : Nat) (xs : List Int) (b : Option Addr) (cb : Nat) (ys : List Int), e = .returned (.tuple #[.agg #[.bool n, .slice a xs.length ca, .slice b ys.length cb], .int .i64 0]) ∧ Hid (w'.ownsRow w.heap.size 43 1 (.slice a xs.length ca) xs.length (xs.map (Value.int .u32)) ∧ w'.ownsRow w.heap.size 43 1 (.slice b ys.length cb) ys.length (ys.map (Value.int .u32))) ∧ Hid (rchk n xs ys = 0 ∧ rq n xs ys = q1 * q1 + q2 * q2 ∧ Wd xs ∧ Wd ys) ∧ Hid (Below w.heap.size w w') := by
  refine Calls.mono (gNorm_full g.n g.a g.ca g.xs g.b g.cb g.ys g.m g.c g.cc g.us g.d g.cd g.vs w sg.1 sg.2.1 sg.2.2.1 sg.2.2.2) ?_
  rw [ig.chk, ig.1.2, ig.2.1.2, rboth_good ig.1.1 ig.1.1, rboth_good ig.2.1.1 ig.2.1.1]
  rintro e w' ⟨n1, x1, y1, c1, n2, x2, y2, c2, t1, t2, n3, a3, k3, x3, b3, m3, y3, code, rfl, ho, t3, hb⟩
  obtain ⟨e1, r1, s1⟩ := t1.good rfl l1
  subst e1
  obtain ⟨e2, r2, s2⟩ := t2.good rfl l2
  subst e2
  rw [rboth_good r1 r2, s1, s2] at t3
  obtain ⟨e3, r3, s3⟩ := t3.good rfl l3
  subst e3
  exact ⟨n3, a3, k3, x3, b3, m3, y3, rfl, ho, ⟨r3, s3, t3.wx, t3.wy⟩, hb⟩
theorem o_sz1 {x : Int} (h : 0 < x) : sz [x] = 1 := by
  have hx : x ≠ 0 := by omega
  simp [sz, szTo, hx]
theorem o_val1 (x : Int) : val [x] = x := by simp [val, valTo]
/-- The words of a small whole number. -/
theorem o_word {xs : List Int} {x : Int} (wx : Wd xs) (tx : Trimmed xs) (h : val xs = x) (h0 : 0 < x) (h1 : x < 4294967296) : xs = [x] := by
  refine trimmed_eq wx ?_ tx ?_ ?_
  · intro z hz
    have : z = x := by simpa using hz
    omega
  · unfold Trimmed
    exact o_sz1 h0
  · rw [h]
    exact (o_val1 x).symm
theorem o_pos1 {n : Bool} {xs : List Int} {x : Int} (wx : Wd xs) (tx : Trimmed xs) (h : wval n xs = x) (h0 : 0 < x) (h1 : x < 4294967296) : n = false ∧ xs = [x] := by
  have p := val_nonneg wx
  have hn : n = false := by
    cases n
    · rfl
    · unfold wval at h; simp at h; omega
  subst hn
  have h' : val xs = x := by unfold wval at h; simpa using h
  exact ⟨rfl, o_word wx tx h' h0 h1⟩
/-- The words of 1. -/
theorem o_isone {n : Bool} {xs ys : List Int} (wx : Wd xs) (wy : Wd ys) (hc : rchk n xs ys = 0) (hq : rq n xs ys = 1) : n = false ∧ xs = [1] ∧ ys = [1] := by
  have hq' : rq n xs ys = ((1 : Int) : Rat) := hq
  obtain ⟨e, t, _, _⟩ := o_whole wx wy hc hq'
  obtain ⟨_, _, _, t2, h0, _, hg⟩ := rchk_ok hc
  have hp : 0 < val ys := val_pos' wy t2 h0
  have a := o_pos1 wx t e (by decide) (by decide)
  have hg' : gcdI (wval n xs) (val ys) = 1 := by rw [e]; unfold gcdI; rw [Int.one_gcd]; rfl
  have hd := (fr_num hp hg').2
  have hd2 : ((rq n xs ys).den : Int) = 1 := by rw [hq]; rfl
  have hv : val ys = 1 := by rw [← hd]; exact hd2
  exact ⟨a.1, a.2, o_word wy t2 hv (by decide) (by decide)⟩

set_option maxHeartbeats 1600000 in
set_option maxRecDepth 100000 in
theorem ounit_any (g : G6) (q1 q2 : Rat) (w : World) (sg : g.Sl4 w) (ig : g.Is q1 q2) :
    Calls Try.prog 9 #[.agg #[.bool g.n, .slice g.a g.xs.length g.ca, .slice g.b g.ys.length g.cb, .bool g.m, .slice g.c g.us.length g.cc, .slice g.d g.vs.length g.cd]] w fun e w' => e = .returned (.bool (decide ((q1, q2) = ((1 : Rat), (0 : Rat))))) ∧ Below w.heap.size w w' := by
  obtain ⟨X, hX⟩ : ∃ X, w.alloc (.cells #[.bool g.n, .slice g.a g.xs.length g.ca, .slice g.b g.ys.length g.cb, .bool g.m, .slice g.c g.us.length g.cc, .slice g.d g.vs.length g.cd] 31) = X := ⟨_, rfl⟩
  have HB : Hid (Below w.heap.size w X) := by rw [← hX]; exact alloc_later _ _
  have HG : Hid (Box X w.heap.size 31 #[.bool g.n, .slice g.a g.xs.length g.ca, .slice g.b g.ys.length g.cb, .bool g.m, .slice g.c g.us.length g.cc, .slice g.d g.vs.length g.cd]) := by rw [← hX]; exact Box.made w _ _
  have HI := hid (oInt_any 1 0 X.drew (by decide) (by decide) (by decide) (by decide))
  have HS : Hid (∀ (k : G6) (V : World), Below X.heap.size X V → k.Sl4 V → k.Is (Rat.divInt 1 1) (Rat.divInt 0 1) → Calls Try.prog 8 #[.agg #[.bool g.n, .slice g.a g.xs.length g.ca, .slice g.b g.ys.length g.cb, .bool g.m, .slice g.c g.us.length g.cc, .slice g.d g.vs.length g.cd], .agg #[.bool k.n, .slice k.a k.xs.length k.ca, .slice k.b k.ys.length k.cb, .bool k.m, .slice k.c k.us.length k.cc, .slice k.d k.vs.length k.cd]] V fun e w' => e = .returned (.bool (decide ((q1, q2) = ((1 : Rat), (0 : Rat))))) ∧ Hid (Below V.heap.size V w')) := fun k V hv sk ik => by
    have q := oSame_any g k q1 q2 _ _ V (sg.later (bt HB.out hv)) sk ig ik
    have e : decide (q1 = Rat.divInt 1 1 ∧ q2 = Rat.divInt 0 1) = decide ((q1, q2) = ((1 : Rat), (0 : Rat))) := by
      rw [o_div1, o_div1]
      have : (q1 = ((1 : Int) : Rat) ∧ q2 = ((0 : Int) : Rat)) ↔ ((q1, q2) = ((1 : Rat), (0 : Rat))) := ⟨fun h => Prod.ext h.1 h.2, fun h => ⟨congrArg Prod.fst h, congrArg Prod.snd h⟩⟩
      exact decide_eq_decide.2 this
    rw [e] at q
    exact q
  have HK : Hid (∀ V, Below X.heap.size X V → V.cell? ⟨w.heap.size, 0, none⟩ = some (.bool g.n) ∧ V.cell? ⟨w.heap.size, 1, none⟩ = some (.slice g.a g.xs.length g.ca) ∧ V.cell? ⟨w.heap.size, 2, none⟩ = some (.slice g.b g.ys.length g.cb) ∧ V.cell? ⟨w.heap.size, 3, none⟩ = some (.bool g.m) ∧ V.cell? ⟨w.heap.size, 4, none⟩ = some (.slice g.c g.us.length g.cc) ∧ V.cell? ⟨w.heap.size, 5, none⟩ = some (.slice g.d g.vs.length g.cd)) := fun V hv => by
    have q := HG.out.later hv HG.out.lt
    exact ⟨q.cell 0, q.cell 1, q.cell 2, q.cell 3, q.cell 4, q.cell 5⟩
  generalize decide ((q1, q2) = ((1 : Rat), (0 : Rat))) = D at *
  have hd0 := hid (Below.refl X.heap.size X).drew
  have hs0 := HK.out _ hd0.out
  clear sg ig
  go_enter Try.func9, Try.ntmps9
  go_wp2_with fail
  go_region_held3 (fun V : World => V.cell? ⟨w.heap.size, 0, none⟩ = some (.bool g.n) ∧ V.cell? ⟨w.heap.size, 1, none⟩ = some (.slice g.a g.xs.length g.ca) ∧ V.cell? ⟨w.heap.size, 2, none⟩ = some (.slice g.b g.ys.length g.cb) ∧ V.cell? ⟨w.heap.size, 3, none⟩ = some (.bool g.m) ∧ V.cell? ⟨w.heap.size, 4, none⟩ = some (.slice g.c g.us.length g.cc) ∧ V.cell? ⟨w.heap.size, 5, none⟩ = some (.slice g.d g.vs.length g.cd)) (first | exact hsB | exact hsA | exact hs0)
    (first
      | (go_at_call 26; (with_reducible refine Calls.mono HI.out ?_); rintro e w1 ⟨k, rfl, ok, ik, b1⟩; have hbA := hid (bt hd0.out b1.out); have hsA := HK.out _ hbA.out)
      | (go_at_call 8; (with_reducible refine Calls.mono (HS.out k _ hbA.out (ok.out.sl ik.out) ik.out) ?_); rintro e w2 ⟨rfl, b2⟩; have hbB := hid (bt hbA.out b2.out); have hsB := HK.out _ hbB.out))
  all_goals
    go_wp2_with fail
    go_ret
    exact ⟨rfl, bt HB.out hbB.out⟩
end Go.Proofs.Ytbccnngdkanejaa

/- The laws' lives of layer 5: the chapter's first example. (tools/mkrq7.py) -/
namespace Go.Proofs.Ytbccnngdkanejaa
open Go.RowKit
set_option linter.unusedVariables false
set_option linter.unusedSimpArgs false

theorem olit (w : World) (x : Int) : (w.alloc (.cells #[.int .u32 x] 43)).ownsRow w.heap.size 43 1 (.slice (some ⟨w.heap.size, 0, none⟩) 1 1) 1 [.int .u32 x] := World.ownsRow_lit w #[.int .u32 x] 1 (Nat.le_refl _) (by decide) rfl
theorem olit' {w : World} {b : Nat} (x : Int) (h : w.heap.size = b) : (w.alloc (.cells #[.int .u32 x] 43)).ownsRow b 43 1 (.slice (some ⟨b, 0, none⟩) 1 1) 1 [.int .u32 x] := by subst h; exact olit w x
theorem owd1 {x : Int} (h0 : 0 ≤ x) (h1 : x < 4294967296) : Wd [x] := fun z hz => by
  have : z = x := by simpa using hz
  omega
theorem oOf21 (w : World) : Calls Try.prog 14 #[.agg #[.int .i32 2, .int .i32 1]] w fun e w' => ∃ a1 c1 a2 c2 a3 c3 a4 c4, e = .returned (.tuple #[.agg #[.bool false, .slice a1 1 c1, .slice a2 1 c2, .bool false, .slice a3 1 c3, .slice a4 1 c4], .int .i64 0]) ∧ Hid (w'.ownsRow w.heap.size 43 1 (.slice a1 1 c1) 1 [.int .u32 3] ∧ w'.ownsRow w.heap.size 43 1 (.slice a2 1 c2) 1 [.int .u32 5] ∧ w'.ownsRow w.heap.size 43 1 (.slice a3 1 c3) 1 [.int .u32 4] ∧ w'.ownsRow w.heap.size 43 1 (.slice a4 1 c4) 1 [.int .u32 5]) ∧ Hid (Below w.heap.size w w') := by
  refine Calls.mono (oOf_good 2 1 w (by decide)) ?_
  rintro e w' ⟨g, h, a1, c1, a2, c2, a3, c3, a4, c4, rfl, ho, hg, hh, hb, _⟩
  have ig := hg.out
  have ih := hh.out
  rw [o_div1, o_div1] at ig ih
  obtain ⟨⟨i1, i2⟩, ⟨i3, i4⟩, w1, w2, w3, w4⟩ := ig
  obtain ⟨⟨j1, j2⟩, _, v1, v2, _⟩ := ih
  obtain ⟨e1, t1, _⟩ := o_whole w1 w2 i1 i2
  obtain ⟨e2, t2, _⟩ := o_whole w3 w4 i3 i4
  obtain ⟨e3, t3, _⟩ := o_whole v1 v2 j1 j2
  obtain ⟨p1, p2⟩ := o_pos1 w1 t1 (e1.trans (show oRe 2 1 = 3 by decide)) (by decide) (by decide)
  obtain ⟨p3, p4⟩ := o_pos1 w3 t2 (e2.trans (show oIm 2 1 = 4 by decide)) (by decide) (by decide)
  obtain ⟨p5, p6⟩ := o_pos1 v1 t3 (e3.trans (show oNm 2 1 = 5 by decide)) (by decide) (by decide)
  have ho' := ho.out
  rw [p2, p4, p6] at ho'
  rw [p1, p2, p3, p4, p6]
  exact ⟨a1, c1, a2, c2, a3, c3, a4, c4, rfl, ho', hb⟩

set_option maxHeartbeats 3200000 in
set_option maxRecDepth 100000 in
theorem olives_any (w : World) : Calls Try.prog 4 #[] w fun e w' => e = .returned (.bool true) ∧ Below w.heap.size w w' := by
  have HD := hid (oOf21 w)
  go_enter Try.func4, Try.ntmps4
  go_wp2_with fail
  refine Calls.mono HD.out ?_
  rintro e w1 ⟨a1, c1, a2, c2, a3, c3, a4, c4, rfl, ho, hb⟩
  clear HD
  obtain ⟨Y, hY⟩ : ∃ Y, w1.alloc (.cells #[.bool false, .slice none 0 0, .slice none 0 0, .bool false, .slice none 0 0, .slice none 0 0] 31) = Y := ⟨_, rfl⟩
  have HY : Hid (Box Y w1.heap.size 31 #[.bool false, .slice none 0 0, .slice none 0 0, .bool false, .slice none 0 0, .slice none 0 0]) := by rw [← hY]; exact Box.made w1 _ _
  have HYB : Hid (Below w1.heap.size w1 Y) := by rw [← hY]; exact alloc_later _ _
  obtain ⟨A0, A1, A2, A3, A4, A5, qA0, qA1, qA2, qA3, qA4, qA5, ⟨rA0, rA1, rA2, rA3, rA4, rA5⟩, ⟨fA0, fA1, fA2, fA3, fA4, fA5⟩, HA⟩ := rchain6 HY.out (by decide) (.bool false) (.slice a1 1 c1) (.slice a2 1 c2) (.bool false) (.slice a3 1 c3) (.slice a4 1 c4)
  have HBA : Hid (Below w.heap.size w A5) := HA.out.2.2.2.1 _ _ hb.out.size (bt hb.out HYB.out)
  have HO : Hid (A5.ownsRow w.heap.size 43 1 (.slice a1 1 c1) 1 [.int .u32 3] ∧ A5.ownsRow w.heap.size 43 1 (.slice a2 1 c2) 1 [.int .u32 5] ∧ A5.ownsRow w.heap.size 43 1 (.slice a3 1 c3) 1 [.int .u32 4] ∧ A5.ownsRow w.heap.size 43 1 (.slice a4 1 c4) 1 [.int .u32 5]) := by
    have q := ho.out
    have P := HA.out.2.2.1
    exact ⟨P _ _ _ _ (owns_later q.1 HYB.out), P _ _ _ _ (owns_later q.2.1 HYB.out), P _ _ _ _ (owns_later q.2.2.1 HYB.out), P _ _ _ _ (owns_later q.2.2.2 HYB.out)⟩
  have p0 : A5.cell? ⟨w1.heap.size, 0, none⟩ = some (.bool false) := (HA.out.1).cell 0
  have p1 : A5.cell? ⟨w1.heap.size, 1, none⟩ = some (.slice a1 1 c1) := (HA.out.1).cell 1
  have p2 : A5.cell? ⟨w1.heap.size, 2, none⟩ = some (.slice a2 1 c2) := (HA.out.1).cell 2
  have p3 : A5.cell? ⟨w1.heap.size, 3, none⟩ = some (.bool false) := (HA.out.1).cell 3
  have p4 : A5.cell? ⟨w1.heap.size, 4, none⟩ = some (.slice a3 1 c3) := (HA.out.1).cell 4
  have p5 : A5.cell? ⟨w1.heap.size, 5, none⟩ = some (.slice a4 1 c4) := (HA.out.1).cell 5
  obtain ⟨U, hU⟩ : ∃ U, ((((A5.alloc (.cells #[.int .u32 3] 43)).alloc (.cells #[.int .u32 5] 43)).alloc (.cells #[.int .u32 4] 43)).alloc (.cells #[.int .u32 5] 43)) = U := ⟨_, rfl⟩
  have HU : Hid (Below A5.heap.size A5 U) := by rw [← hU]; exact bt (bt (bt (alloc_later _ _) (alloc_later _ _)) (alloc_later _ _)) (alloc_later _ _)
  have HL : Hid (U.ownsRow (A5.heap.size) 43 1 (.slice (some ⟨A5.heap.size, 0, none⟩) 1 1) 1 [.int .u32 3] ∧ U.ownsRow (A5.heap.size + 1) 43 1 (.slice (some ⟨A5.heap.size + 1, 0, none⟩) 1 1) 1 [.int .u32 5] ∧ U.ownsRow (A5.heap.size + 1 + 1) 43 1 (.slice (some ⟨A5.heap.size + 1 + 1, 0, none⟩) 1 1) 1 [.int .u32 4] ∧ U.ownsRow (A5.heap.size + 1 + 1 + 1) 43 1 (.slice (some ⟨A5.heap.size + 1 + 1 + 1, 0, none⟩) 1 1) 1 [.int .u32 5]) := by
    rw [← hU]
    refine ⟨?_, ?_, ?_, ?_⟩
    · exact owns_later (owns_later (owns_later (olit A5 3) (alloc_later _ _)) (alloc_later _ _)) (alloc_later _ _)
    · exact owns_later (owns_later (olit' 5 (by simp)) (alloc_later _ _)) (alloc_later _ _)
    · exact owns_later (olit' 4 (by simp)) (alloc_later _ _)
    · exact olit' 5 (by simp)
  have HS : Hid (Calls Try.prog 15 #[.agg #[.bool false, .slice a1 1 c1, .slice a2 1 c2, .bool false, .slice a3 1 c3, .slice a4 1 c4], .agg #[.bool false, .slice (some ⟨A5.heap.size, 0, none⟩) 1 1, .slice (some ⟨A5.heap.size + 1, 0, none⟩) 1 1, .bool false, .slice (some ⟨A5.heap.size + 1 + 1, 0, none⟩) 1 1, .slice (some ⟨A5.heap.size + 1 + 1 + 1, 0, none⟩) 1 1]] U fun x w' => x = .returned (.bool true) ∧ Below U.heap.size U w') :=
    gsameGauss_eq false a1 c1 [3] a2 c2 [5] false a3 c3 [4] a4 c4 [5] (some ⟨A5.heap.size, 0, none⟩) 1 (some ⟨A5.heap.size + 1, 0, none⟩) 1 (some ⟨A5.heap.size + 1 + 1, 0, none⟩) 1 (some ⟨A5.heap.size + 1 + 1 + 1, 0, none⟩) 1 U (Sl.own (owns_later HO.out.1 HU.out) (owd1 (by decide) (by decide))) (Sl.own (owns_later HO.out.2.1 HU.out) (owd1 (by decide) (by decide))) (Sl.own (owns_later HO.out.2.2.1 HU.out) (owd1 (by decide) (by decide))) (Sl.own (owns_later HO.out.2.2.2 HU.out) (owd1 (by decide) (by decide))) (Sl.own HL.out.1 (owd1 (by decide) (by decide))) (Sl.own HL.out.2.1 (owd1 (by decide) (by decide))) (Sl.own HL.out.2.2.1 (owd1 (by decide) (by decide))) (Sl.own HL.out.2.2.2 (owd1 (by decide) (by decide))) (by decide) (by decide) (by decide) (by decide)
  clear HL HO ho hb HYB HY
  go_wp2_with fail
  refine Calls.mono HS.out ?_
  rintro e w2 ⟨rfl, hb2⟩
  have HF := hid (bt (bt HBA.out HU.out) hb2)
  clear HS hb2
  go_wp2_with fail
  go_ret
  exact ⟨rfl, HF.out⟩
end Go.Proofs.Ytbccnngdkanejaa

/- package rotor: Conj, half, Order, of every two rotors. -/
namespace Go.Proofs.Ytbccnngdkanejaa
open Go.RowKit
set_option linter.unusedVariables false

/-- The conjugate, or the fault. -/
def rConj (f n : Int) : Int × Int × Int := if rOK f n then (f, -n, 0) else (0, 0, 150)

set_option maxHeartbeats 1600000 in
set_option maxRecDepth 100000 in
theorem rconj_any (f n : Int) (w : World) (h : in32 f n) :
    Calls Try.prog 12 #[.agg #[.int .i32 f, .int .i32 n]] w fun e w' => e = .returned (.tuple #[.agg #[.int .i32 (rConj f n).1, .int .i32 (rConj f n).2.1], .int .i64 (rConj f n).2.2]) ∧ Below w.heap.size w w' := by
  have HX := hid (boxes2 w 23 #[.int .i32 f, .int .i32 n] #[.int .i32 0, .int .i32 0])
  have HC := hid (fun V => ocheck_any f n V h)
  rcases ochk_or f n with ⟨e0, h0⟩ | ⟨e0, h0⟩
  · have hR : rConj f n = (f, -n, 0) := if_pos h0
    rw [hR]
    rw [e0] at HC
    have hn1 : -1000 ≤ n := by have := h0.2.2.2.1; omega
    have hn2 : n ≤ 1000 := by have := h0.2.2.2.1; omega
    obtain ⟨⟨f0, f1⟩, _⟩ := h
    clear h0 hR e0
    go_enter Try.func12, Try.ntmps12
    go_wp2_with fail
    generalize (w.alloc (.cells #[.int .i32 f, .int .i32 n] 23)).alloc (.cells #[.int .i32 0, .int .i32 0] 23) = X at *
    refine Calls.mono (HC.out X) ?_
    rintro e w1 ⟨rfl, hb1⟩
    obtain ⟨c0, c1, g0, g1⟩ := fbox_facts HX.out.1 hb1
    obtain ⟨c2, c3, g2, g3⟩ := fbox_facts HX.out.2.1 hb1
    have HB := hid (b2 HX.out.2.2 hb1)
    clear HX HC hb1
    go_wp2_with fail
    refine bodyPost_ret (v := .tuple #[.agg #[.int .i32 f, .int .i32 (-n)], .int .i64 0]) (by simp [results, Try.results12, go_sem, c2, c3]) rfl ?_
    exact ⟨rfl, fput2 HB.out _ (by omega) _ _⟩
  · have hR : rConj f n = (0, 0, 150) := if_neg h0
    rw [hR]
    rw [e0] at HC
    clear h0 hR e0 h
    go_enter Try.func12, Try.ntmps12
    go_wp2_with fail
    generalize (w.alloc (.cells #[.int .i32 f, .int .i32 n] 23)).alloc (.cells #[.int .i32 0, .int .i32 0] 23) = X at *
    refine Calls.mono (HC.out X) ?_
    rintro e w1 ⟨rfl, hb1⟩
    obtain ⟨c0, c1, g0, g1⟩ := fbox_facts HX.out.1 hb1
    obtain ⟨c2, c3, g2, g3⟩ := fbox_facts HX.out.2.1 hb1
    have HB := hid (b2 HX.out.2.2 hb1)
    clear HX HC hb1
    go_wp2_with fail
    refine bodyPost_ret (v := .tuple #[.agg #[.int .i32 0, .int .i32 0], .int .i64 150]) (by simp [results, Try.results12, go_sem, c2, c3]) rfl ?_
    first | exact ⟨rfl, HB.out⟩ | exact ⟨rfl, fput2 HB.out _ (by omega) _ _⟩

end Go.Proofs.Ytbccnngdkanejaa

/- The law RotorGroup: powers of size 1. (tools/mkrgroup.py) -/
namespace Go.Proofs.Ytbccnngdkanejaa
open Go.RowKit
set_option linter.unusedVariables false
set_option linter.unusedSimpArgs false

theorem rchain2 {W : World} {b t : Nat} {u0 u1 : Value} (h : Box W b t #[u0, u1]) (ht : 43 ≠ t) (v0 v1 : Value) : ∃ A0 A1, W.setCell ⟨b, 0, none⟩ v0 = A0 ∧ A0.setCell ⟨b, 1, none⟩ v1 = A1 ∧ (W.cell? ⟨b, 0, none⟩ = some u0 ∧ A0.cell? ⟨b, 1, none⟩ = some u1) ∧ (W.frozen? ⟨b, 0, none⟩ = false ∧ A0.frozen? ⟨b, 1, none⟩ = false) ∧
    Hid (Box A1 b t #[v0, v1] ∧ (∀ p t' vs, p ≠ b → Box W p t' vs → Box A1 p t' vs) ∧ (∀ base v n xs, W.ownsRow base 43 1 v n xs → A1.ownsRow base 43 1 v n xs) ∧ (∀ B x, B ≤ b → Below B x W → Below B x A1) ∧ A1.heap.size = W.heap.size) := by
  have h0 : Box _ b t #[v0, u1] := h.set 0 v0
  have h1 : Box _ b t #[v0, v1] := h0.set 1 v1
  exact ⟨_, _, rfl, rfl, ⟨h.cell 0, h0.cell 1⟩, ⟨h.free 0, h0.free 1⟩, h1, fun p t' vs hne g => ((g.other ⟨b, 0, none⟩ v0 hne).other ⟨b, 1, none⟩ v1 hne), fun base v n xs g => (by have kk := own_ne_box g h ht; exact (kown_put1 (kown_put1 g kk 0 v0) kk 1 v1)), fun B x hB g => ((g.setCell (p := ⟨b, 0, none⟩) hB v0).setCell (p := ⟨b, 1, none⟩) hB v1), by simp [World.setCell]⟩
theorem rchain3 {W : World} {b t : Nat} {u0 u1 u2 : Value} (h : Box W b t #[u0, u1, u2]) (ht : 43 ≠ t) (v0 v1 v2 : Value) : ∃ A0 A1 A2, W.setCell ⟨b, 0, none⟩ v0 = A0 ∧ A0.setCell ⟨b, 1, none⟩ v1 = A1 ∧ A1.setCell ⟨b, 2, none⟩ v2 = A2 ∧ (W.cell? ⟨b, 0, none⟩ = some u0 ∧ A0.cell? ⟨b, 1, none⟩ = some u1 ∧ A1.cell? ⟨b, 2, none⟩ = some u2) ∧ (W.frozen? ⟨b, 0, none⟩ = false ∧ A0.frozen? ⟨b, 1, none⟩ = false ∧ A1.frozen? ⟨b, 2, none⟩ = false) ∧
    Hid (Box A2 b t #[v0, v1, v2] ∧ (∀ p t' vs, p ≠ b → Box W p t' vs → Box A2 p t' vs) ∧ (∀ base v n xs, W.ownsRow base 43 1 v n xs → A2.ownsRow base 43 1 v n xs) ∧ (∀ B x, B ≤ b → Below B x W → Below B x A2) ∧ A2.heap.size = W.heap.size) := by
  have h0 : Box _ b t #[v0, u1, u2] := h.set 0 v0
  have h1 : Box _ b t #[v0, v1, u2] := h0.set 1 v1
  have h2 : Box _ b t #[v0, v1, v2] := h1.set 2 v2
  exact ⟨_, _, _, rfl, rfl, rfl, ⟨h.cell 0, h0.cell 1, h1.cell 2⟩, ⟨h.free 0, h0.free 1, h1.free 2⟩, h2, fun p t' vs hne g => (((g.other ⟨b, 0, none⟩ v0 hne).other ⟨b, 1, none⟩ v1 hne).other ⟨b, 2, none⟩ v2 hne), fun base v n xs g => (by have kk := own_ne_box g h ht; exact (kown_put1 (kown_put1 (kown_put1 g kk 0 v0) kk 1 v1) kk 2 v2)), fun B x hB g => (((g.setCell (p := ⟨b, 0, none⟩) hB v0).setCell (p := ⟨b, 1, none⟩) hB v1).setCell (p := ⟨b, 2, none⟩) hB v2), by simp [World.setCell]⟩

theorem omlong_hg {a b c d : Rat} {B C : Nat} (ha : OHg a B) (hb : OHg b B) (hc : OHg c C) (hd : OHg d C) (h : 2 * ((B * C) * (B * C)) < oL) : ¬ mlong a b c d := by
  have k : B * C < oL := by
    rcases Nat.eq_zero_or_pos (B * C) with q | q
    · omega
    · have := Nat.mul_le_mul q (Nat.le_refl (B * C))
      omega
  unfold mlong
  rintro (((q | q) | q) | ((q | q) | q))
  · exact (ha.mul hc).short k q
  · exact (hb.mul hd).short k q
  · exact ((ha.mul hc).sub (hb.mul hd)).short h q
  · exact (ha.mul hd).short k q
  · exact (hb.mul hc).short k q
  · exact ((ha.mul hd).add (hb.mul hc)).short h q
theorem oL_le2 {B C : Nat} (h : 2 * ((B * C) * (B * C)) < oL) : B * C < oL := by
  rcases Nat.eq_zero_or_pos (B * C) with q | q
  · omega
  · have := Nat.mul_le_mul q (Nat.le_refl (B * C))
    omega
theorem oL_le {B : Nat} (h : 2 * ((B * B) * (B * B)) < oL) : B < oL := by
  have q := oL_le2 h
  rcases Nat.eq_zero_or_pos B with p | p
  · omega
  · have := Nat.mul_le_mul p (Nat.le_refl B)
    omega
theorem o_l4 (a : Nat) (h : 4 * a + 1 < 60000) : 2 * ((o2 a * o2 a) * (o2 a * o2 a)) < oL := by
  rw [o2_mul, o2_mul, show 2 * o2 (a + a + (a + a)) = o2 (1 + (a + a + (a + a))) from o2_mul 1 _]
  exact o2_lt (by omega)
/-- A Norm that is 1. -/
theorem oNorm1 (g : G6) (q1 q2 : Rat) (w : World) (sg : g.Sl4 w) (ig : g.Is q1 q2) (l1 : ¬ rlong (q1 * q1)) (l2 : ¬ rlong (q2 * q2)) (l3 : ¬ rlong (q1 * q1 + q2 * q2)) (h1 : q1 * q1 + q2 * q2 = 1) :
    Calls Try.prog 10 #[.agg #[.bool g.n, .slice g.a g.xs.length g.ca, .slice g.b g.ys.length g.cb, .bool g.m, .slice g.c g.us.length g.cc, .slice g.d g.vs.length g.cd]] w fun e w' => ∃ (a : Option Addr) (ca : Nat) (b : Option Addr) (cb : Nat), e = .returned (.tuple #[.agg #[.bool false, .slice a 1 ca, .slice b 1 cb], .int .i64 0]) ∧ Hid (w'.ownsRow w.heap.size 43 1 (.slice a 1 ca) 1 [.int .u32 1] ∧ w'.ownsRow w.heap.size 43 1 (.slice b 1 cb) 1 [.int .u32 1]) ∧ Hid (Below w.heap.size w w') := by
  refine Calls.mono (oNorm_any g q1 q2 w sg ig l1 l2 l3) ?_
  rintro e w' ⟨n, a, ca, xs, b, cb, ys, rfl, ho, hi, hb⟩
  obtain ⟨h2, h3, h4, h5⟩ := hi.out
  obtain ⟨e1, e2, e3⟩ := o_isone h4 h5 h2 (h3.trans h1)
  subst e1 e2 e3
  exact ⟨a, ca, b, cb, rfl, ho.out, hb⟩

set_option maxHeartbeats 12800000 in
set_option maxRecDepth 100000 in
theorem rotorGroup_go (f n s t : Int) (w : World) (hr : rOK f n) (s0 : -40 ≤ s) (s1 : s ≤ 40) (t0 : -40 ≤ t) (t1 : t ≤ 40) :
    Calls Try.prog 3 #[.agg #[.int .i32 f, .int .i32 n], .int .i64 s, .int .i64 t] w fun e w' => e = .returned (.bool true) ∧ Below w.heap.size w w' := by
  obtain ⟨X, hX⟩ : ∃ X, w.alloc (.cells #[.int .i32 f, .int .i32 n] 23) = X := ⟨_, rfl⟩
  have HW0 : Hid (Below w.heap.size w X) := by rw [← hX]; exact alloc_later _ _
  have Hr0 : Hid (Box X w.heap.size 23 #[.int .i32 f, .int .i32 n]) := by rw [← hX]; exact Box.made w _ _
  have hin : in32 f n := by unfold rOK at hr; unfold in32; omega
  have h0 : ochk f n = 0 := by unfold ochk; rw [if_pos hr]
  have HC := hid (fun V => ocheck_any f n V hin)
  rw [h0] at HC
  have HJ := hid (fun V => rconj_any f n V hin)
  rw [show rConj f n = (f, -n, 0) from if_pos hr] at HJ
  have HP : Hid (∀ V u, -1024 ≤ u ∧ u ≤ 1024 → Calls Try.prog 6 #[.agg #[.int .i32 f, .int .i32 n], .int .i64 u] V (OGt V (oP f n u).1 (oP f n u).2)) := fun V u hu => oPower_any f n u V hr hu.1 hu.2
  have HQ : Hid (∀ V u, -1024 ≤ u ∧ u ≤ 1024 → Calls Try.prog 6 #[.agg #[.int .i32 f, .int .i32 (-n)], .int .i64 u] V (OGt V (oP f (-n) u).1 (oP f (-n) u).2)) := fun V u hu => oPower_any f (-n) u V (rOK_neg hr) hu.1 hu.2
  have Hs := oP_hg hr s 40 (by omega)
  have Ht := oP_hg hr t 40 (by omega)
  have hl40 := o_l4 (21 * 40) (by decide)
  have LM := hid (omlong_hg Hs.1 Hs.2 Ht.1 Ht.2 hl40)
  have LC := hid (And.intro (Hs.1.short (oL_le hl40)) (Hs.2.neg.short (oL_le hl40)))
  have LN := hid (And.intro ((Hs.1.mul Hs.1).short (oL_le2 hl40)) (And.intro ((Hs.2.mul Hs.2).short (oL_le2 hl40)) (((Hs.1.mul Hs.1).add (Hs.2.mul Hs.2)).short hl40)))
  have E1 : Hid (oP f n (s + t) = qmul (oP f n s) (oP f n t)) := oP_add hr s t
  have E2 : Hid ((oP f n s).1 * (oP f n s).1 + (oP f n s).2 * (oP f n s).2 = 1) := oP_norm hr s
  have E3 : Hid (oP f n (-s) = qconj (oP f n s)) := oP_neg f n s
  have E4 : Hid (oP f (-n) s = qconj (oP f n s)) := oP_conj f n s
  have E5 : Hid (decide (((oP f n s).1, (oP f n s).2) = ((1 : Rat), (0 : Rat))) = (s == 0)) := by
    show _ = _
    have e : (((oP f n s).1, (oP f n s).2) = ((1 : Rat), (0 : Rat))) ↔ s = 0 := oP_one hr s
    by_cases hs : s = 0
    · rw [decide_eq_true (e.2 hs)]; simp [hs]
    · rw [decide_eq_false (fun q => hs (e.1 q))]; simp [hs]
  clear Hs Ht hl40 h0 hin
  have hn1 : -1000 ≤ n ∧ n ≤ 1000 := by unfold rOK at hr; omega
  clear hr
  obtain ⟨D, hD⟩ : ∃ D, (s == 0) = D := ⟨_, rfl⟩
  rw [hD] at E5
  go_enter Try.func3, Try.ntmps3
  have HD := hid (olives_any X)
  go_wp2_with fail
  clear hX
  refine Calls.mono HD.out ?_
  rintro e w1 ⟨rfl, hb⟩
  clear HD 
  have HW2 := hid (bt HW0.out hb)
  have Hr2 := hid (Hr0.out.later hb Hr0.out.lt)
  clear HW0 Hr0
  clear hb
  have HD := hid (HC.out w1)
  have cr0 : w1.cell? ⟨w.heap.size, 0, none⟩ = some (.int .i32 f) := Hr2.out.cell 0
  have cr1 : w1.cell? ⟨w.heap.size, 1, none⟩ = some (.int .i32 n) := Hr2.out.cell 1
  go_wp2_with fail
  refine Calls.mono HD.out ?_
  rintro e w3 ⟨rfl, hb⟩
  clear HD cr0 cr1
  have HW4 := hid (bt HW2.out hb)
  have Hr4 := hid (Hr2.out.later hb Hr2.out.lt)
  clear HW2 Hr2
  clear hb
  have HD := hid (HP.out w3 (s) (by omega))
  have cr0 : w3.cell? ⟨w.heap.size, 0, none⟩ = some (.int .i32 f) := Hr4.out.cell 0
  have cr1 : w3.cell? ⟨w.heap.size, 1, none⟩ = some (.int .i32 n) := Hr4.out.cell 1
  go_wp2_with fail
  refine Calls.mono HD.out ?_
  rintro e w5 ⟨ga, rfl, ok, ik, hb, _⟩
  clear HD cr0 cr1
  have Oga0 := hid (ok.out.base HW4.out.size)
  have Iga := hid ik.out
  clear ok ik
  have HW6 := hid (bt HW4.out hb.out)
  have Hr6 := hid (Hr4.out.later hb.out Hr4.out.lt)
  clear HW4 Hr4
  clear hb
  obtain ⟨Yga, hYga⟩ : ∃ Y, w5.alloc (.cells #[.bool false, .slice none 0 0, .slice none 0 0, .bool false, .slice none 0 0, .slice none 0 0] 31) = Y := ⟨_, rfl⟩
  have NYga : Hid (Box Yga w5.heap.size 31 #[.bool false, .slice none 0 0, .slice none 0 0, .bool false, .slice none 0 0, .slice none 0 0]) := by rw [← hYga]; exact Box.made w5 _ _
  have BYga : Hid (Below w5.heap.size w5 Yga) := by rw [← hYga]; exact alloc_later _ _
  obtain ⟨Kga0, Kga1, Kga2, Kga3, Kga4, Kga5, qKga0, qKga1, qKga2, qKga3, qKga4, qKga5, ⟨rKga0, rKga1, rKga2, rKga3, rKga4, rKga5⟩, ⟨fKga0, fKga1, fKga2, fKga3, fKga4, fKga5⟩, Pga⟩ := rchain6 NYga.out (by decide) (.bool ga.n) (.slice ga.a ga.xs.length ga.ca) (.slice ga.b ga.ys.length ga.cb) (.bool ga.m) (.slice ga.c ga.us.length ga.cc) (.slice ga.d ga.vs.length ga.cd)
  have HW7 : Hid (Below w.heap.size w Kga5) := Pga.out.2.2.2.1 _ _ HW6.out.size (bt HW6.out BYga.out)
  have Hr7 := hid (Pga.out.2.1 _ _ _ (Nat.ne_of_lt Hr6.out.lt) (Hr6.out.later BYga.out Hr6.out.lt))
  have Oga7 := hid (ow_put (Oga0.out.later BYga.out) Pga.out.2.2.1)
  have Hga7 := hid Pga.out.1
  clear HW6 Hr6 Oga0 NYga BYga Pga
  have HD := hid (HP.out Kga5 (t) (by omega))
  have cr0 : Kga5.cell? ⟨w.heap.size, 0, none⟩ = some (.int .i32 f) := Hr7.out.cell 0
  have cr1 : Kga5.cell? ⟨w.heap.size, 1, none⟩ = some (.int .i32 n) := Hr7.out.cell 1
  go_wp2_with fail
  clear qKga0 qKga1 qKga2 qKga3 qKga4 qKga5 rKga0 rKga1 rKga2 rKga3 rKga4 rKga5 fKga0 fKga1 fKga2 fKga3 fKga4 fKga5 hYga
  refine Calls.mono HD.out ?_
  rintro e w8 ⟨gb, rfl, ok, ik, hb, _⟩
  clear HD cr0 cr1
  have Ogb0 := hid (ok.out.base HW7.out.size)
  have Igb := hid ik.out
  clear ok ik
  have HW9 := hid (bt HW7.out hb.out)
  have Hr9 := hid (Hr7.out.later hb.out Hr7.out.lt)
  have Hga9 := hid (Hga7.out.later hb.out Hga7.out.lt)
  have Oga9 := hid (Oga7.out.later hb.out)
  clear HW7 Hr7 Hga7 Oga7
  clear hb
  obtain ⟨Ygb, hYgb⟩ : ∃ Y, w8.alloc (.cells #[.bool false, .slice none 0 0, .slice none 0 0, .bool false, .slice none 0 0, .slice none 0 0] 31) = Y := ⟨_, rfl⟩
  have NYgb : Hid (Box Ygb w8.heap.size 31 #[.bool false, .slice none 0 0, .slice none 0 0, .bool false, .slice none 0 0, .slice none 0 0]) := by rw [← hYgb]; exact Box.made w8 _ _
  have BYgb : Hid (Below w8.heap.size w8 Ygb) := by rw [← hYgb]; exact alloc_later _ _
  obtain ⟨Kgb0, Kgb1, Kgb2, Kgb3, Kgb4, Kgb5, qKgb0, qKgb1, qKgb2, qKgb3, qKgb4, qKgb5, ⟨rKgb0, rKgb1, rKgb2, rKgb3, rKgb4, rKgb5⟩, ⟨fKgb0, fKgb1, fKgb2, fKgb3, fKgb4, fKgb5⟩, Pgb⟩ := rchain6 NYgb.out (by decide) (.bool gb.n) (.slice gb.a gb.xs.length gb.ca) (.slice gb.b gb.ys.length gb.cb) (.bool gb.m) (.slice gb.c gb.us.length gb.cc) (.slice gb.d gb.vs.length gb.cd)
  have HW10 : Hid (Below w.heap.size w Kgb5) := Pgb.out.2.2.2.1 _ _ HW9.out.size (bt HW9.out BYgb.out)
  have Hr10 := hid (Pgb.out.2.1 _ _ _ (Nat.ne_of_lt Hr9.out.lt) (Hr9.out.later BYgb.out Hr9.out.lt))
  have Hga10 := hid (Pgb.out.2.1 _ _ _ (Nat.ne_of_lt Hga9.out.lt) (Hga9.out.later BYgb.out Hga9.out.lt))
  have Oga10 := hid (ow_put (Oga9.out.later BYgb.out) Pgb.out.2.2.1)
  have Ogb10 := hid (ow_put (Ogb0.out.later BYgb.out) Pgb.out.2.2.1)
  have Hgb10 := hid Pgb.out.1
  clear HW9 Hr9 Hga9 Oga9 Ogb0 NYgb BYgb Pgb
  have HD := hid (HP.out Kgb5 (s + t) (by omega))
  have cr0 : Kgb5.cell? ⟨w.heap.size, 0, none⟩ = some (.int .i32 f) := Hr10.out.cell 0
  have cr1 : Kgb5.cell? ⟨w.heap.size, 1, none⟩ = some (.int .i32 n) := Hr10.out.cell 1
  go_wp2_with fail
  clear qKgb0 qKgb1 qKgb2 qKgb3 qKgb4 qKgb5 rKgb0 rKgb1 rKgb2 rKgb3 rKgb4 rKgb5 fKgb0 fKgb1 fKgb2 fKgb3 fKgb4 fKgb5 hYgb
  refine Calls.mono HD.out ?_
  rintro e w11 ⟨gc, rfl, ok, ik, hb, _⟩
  clear HD cr0 cr1
  have Ogc0 := hid (ok.out.base HW10.out.size)
  have Igc := hid ik.out
  clear ok ik
  have HW12 := hid (bt HW10.out hb.out)
  have Hr12 := hid (Hr10.out.later hb.out Hr10.out.lt)
  have Hga12 := hid (Hga10.out.later hb.out Hga10.out.lt)
  have Hgb12 := hid (Hgb10.out.later hb.out Hgb10.out.lt)
  have Oga12 := hid (Oga10.out.later hb.out)
  have Ogb12 := hid (Ogb10.out.later hb.out)
  clear HW10 Hr10 Hga10 Hgb10 Oga10 Ogb10
  clear hb
  obtain ⟨Ygc, hYgc⟩ : ∃ Y, w11.alloc (.cells #[.bool false, .slice none 0 0, .slice none 0 0, .bool false, .slice none 0 0, .slice none 0 0] 31) = Y := ⟨_, rfl⟩
  have NYgc : Hid (Box Ygc w11.heap.size 31 #[.bool false, .slice none 0 0, .slice none 0 0, .bool false, .slice none 0 0, .slice none 0 0]) := by rw [← hYgc]; exact Box.made w11 _ _
  have BYgc : Hid (Below w11.heap.size w11 Ygc) := by rw [← hYgc]; exact alloc_later _ _
  obtain ⟨Kgc0, Kgc1, Kgc2, Kgc3, Kgc4, Kgc5, qKgc0, qKgc1, qKgc2, qKgc3, qKgc4, qKgc5, ⟨rKgc0, rKgc1, rKgc2, rKgc3, rKgc4, rKgc5⟩, ⟨fKgc0, fKgc1, fKgc2, fKgc3, fKgc4, fKgc5⟩, Pgc⟩ := rchain6 NYgc.out (by decide) (.bool gc.n) (.slice gc.a gc.xs.length gc.ca) (.slice gc.b gc.ys.length gc.cb) (.bool gc.m) (.slice gc.c gc.us.length gc.cc) (.slice gc.d gc.vs.length gc.cd)
  have HW13 : Hid (Below w.heap.size w Kgc5) := Pgc.out.2.2.2.1 _ _ HW12.out.size (bt HW12.out BYgc.out)
  have Hr13 := hid (Pgc.out.2.1 _ _ _ (Nat.ne_of_lt Hr12.out.lt) (Hr12.out.later BYgc.out Hr12.out.lt))
  have Hga13 := hid (Pgc.out.2.1 _ _ _ (Nat.ne_of_lt Hga12.out.lt) (Hga12.out.later BYgc.out Hga12.out.lt))
  have Hgb13 := hid (Pgc.out.2.1 _ _ _ (Nat.ne_of_lt Hgb12.out.lt) (Hgb12.out.later BYgc.out Hgb12.out.lt))
  have Oga13 := hid (ow_put (Oga12.out.later BYgc.out) Pgc.out.2.2.1)
  have Ogb13 := hid (ow_put (Ogb12.out.later BYgc.out) Pgc.out.2.2.1)
  have Ogc13 := hid (ow_put (Ogc0.out.later BYgc.out) Pgc.out.2.2.1)
  have Hgc13 := hid Pgc.out.1
  clear HW12 Hr12 Hga12 Hgb12 Oga12 Ogb12 Ogc0 NYgc BYgc Pgc
  have HD := hid (oMul_any ga gb _ _ _ _ Kgc5 (Oga13.out.sl Iga.out) (Ogb13.out.sl Igb.out) Iga.out Igb.out LM.out)
  have cga0 : Kgc5.cell? ⟨w5.heap.size, 0, none⟩ = some (.bool ga.n) := Hga13.out.cell 0
  have cga1 : Kgc5.cell? ⟨w5.heap.size, 1, none⟩ = some (.slice ga.a ga.xs.length ga.ca) := Hga13.out.cell 1
  have cga2 : Kgc5.cell? ⟨w5.heap.size, 2, none⟩ = some (.slice ga.b ga.ys.length ga.cb) := Hga13.out.cell 2
  have cga3 : Kgc5.cell? ⟨w5.heap.size, 3, none⟩ = some (.bool ga.m) := Hga13.out.cell 3
  have cga4 : Kgc5.cell? ⟨w5.heap.size, 4, none⟩ = some (.slice ga.c ga.us.length ga.cc) := Hga13.out.cell 4
  have cga5 : Kgc5.cell? ⟨w5.heap.size, 5, none⟩ = some (.slice ga.d ga.vs.length ga.cd) := Hga13.out.cell 5
  have cgb0 : Kgc5.cell? ⟨w8.heap.size, 0, none⟩ = some (.bool gb.n) := Hgb13.out.cell 0
  have cgb1 : Kgc5.cell? ⟨w8.heap.size, 1, none⟩ = some (.slice gb.a gb.xs.length gb.ca) := Hgb13.out.cell 1
  have cgb2 : Kgc5.cell? ⟨w8.heap.size, 2, none⟩ = some (.slice gb.b gb.ys.length gb.cb) := Hgb13.out.cell 2
  have cgb3 : Kgc5.cell? ⟨w8.heap.size, 3, none⟩ = some (.bool gb.m) := Hgb13.out.cell 3
  have cgb4 : Kgc5.cell? ⟨w8.heap.size, 4, none⟩ = some (.slice gb.c gb.us.length gb.cc) := Hgb13.out.cell 4
  have cgb5 : Kgc5.cell? ⟨w8.heap.size, 5, none⟩ = some (.slice gb.d gb.vs.length gb.cd) := Hgb13.out.cell 5
  go_wp2_with fail
  clear qKgc0 qKgc1 qKgc2 qKgc3 qKgc4 qKgc5 rKgc0 rKgc1 rKgc2 rKgc3 rKgc4 rKgc5 fKgc0 fKgc1 fKgc2 fKgc3 fKgc4 fKgc5 hYgc
  refine Calls.mono HD.out ?_
  rintro e w14 ⟨gp, rfl, ok, ik, hb⟩
  clear HD cga0 cga1 cga2 cga3 cga4 cga5 cgb0 cgb1 cgb2 cgb3 cgb4 cgb5
  have Ogp0 := hid (ok.out.base HW13.out.size)
  have Igp := hid ik.out
  clear ok ik
  have HW15 := hid (bt HW13.out hb.out)
  have Hr15 := hid (Hr13.out.later hb.out Hr13.out.lt)
  have Hga15 := hid (Hga13.out.later hb.out Hga13.out.lt)
  have Hgb15 := hid (Hgb13.out.later hb.out Hgb13.out.lt)
  have Hgc15 := hid (Hgc13.out.later hb.out Hgc13.out.lt)
  have Oga15 := hid (Oga13.out.later hb.out)
  have Ogb15 := hid (Ogb13.out.later hb.out)
  have Ogc15 := hid (Ogc13.out.later hb.out)
  clear HW13 Hr13 Hga13 Hgb13 Hgc13 Oga13 Ogb13 Ogc13
  clear hb
  obtain ⟨Ygp, hYgp⟩ : ∃ Y, w14.alloc (.cells #[.bool false, .slice none 0 0, .slice none 0 0, .bool false, .slice none 0 0, .slice none 0 0] 31) = Y := ⟨_, rfl⟩
  have NYgp : Hid (Box Ygp w14.heap.size 31 #[.bool false, .slice none 0 0, .slice none 0 0, .bool false, .slice none 0 0, .slice none 0 0]) := by rw [← hYgp]; exact Box.made w14 _ _
  have BYgp : Hid (Below w14.heap.size w14 Ygp) := by rw [← hYgp]; exact alloc_later _ _
  obtain ⟨Kgp0, Kgp1, Kgp2, Kgp3, Kgp4, Kgp5, qKgp0, qKgp1, qKgp2, qKgp3, qKgp4, qKgp5, ⟨rKgp0, rKgp1, rKgp2, rKgp3, rKgp4, rKgp5⟩, ⟨fKgp0, fKgp1, fKgp2, fKgp3, fKgp4, fKgp5⟩, Pgp⟩ := rchain6 NYgp.out (by decide) (.bool gp.n) (.slice gp.a gp.xs.length gp.ca) (.slice gp.b gp.ys.length gp.cb) (.bool gp.m) (.slice gp.c gp.us.length gp.cc) (.slice gp.d gp.vs.length gp.cd)
  have HW16 : Hid (Below w.heap.size w Kgp5) := Pgp.out.2.2.2.1 _ _ HW15.out.size (bt HW15.out BYgp.out)
  have Hr16 := hid (Pgp.out.2.1 _ _ _ (Nat.ne_of_lt Hr15.out.lt) (Hr15.out.later BYgp.out Hr15.out.lt))
  have Hga16 := hid (Pgp.out.2.1 _ _ _ (Nat.ne_of_lt Hga15.out.lt) (Hga15.out.later BYgp.out Hga15.out.lt))
  have Hgb16 := hid (Pgp.out.2.1 _ _ _ (Nat.ne_of_lt Hgb15.out.lt) (Hgb15.out.later BYgp.out Hgb15.out.lt))
  have Hgc16 := hid (Pgp.out.2.1 _ _ _ (Nat.ne_of_lt Hgc15.out.lt) (Hgc15.out.later BYgp.out Hgc15.out.lt))
  have Oga16 := hid (ow_put (Oga15.out.later BYgp.out) Pgp.out.2.2.1)
  have Ogb16 := hid (ow_put (Ogb15.out.later BYgp.out) Pgp.out.2.2.1)
  have Ogc16 := hid (ow_put (Ogc15.out.later BYgp.out) Pgp.out.2.2.1)
  have Ogp16 := hid (ow_put (Ogp0.out.later BYgp.out) Pgp.out.2.2.1)
  have Hgp16 := hid Pgp.out.1
  clear HW15 Hr15 Hga15 Hgb15 Hgc15 Oga15 Ogb15 Ogc15 Ogp0 NYgp BYgp Pgp
  have IG : Hid (decide ((oP f n s).1 * (oP f n t).1 - (oP f n s).2 * (oP f n t).2 = (oP f n (s + t)).1 ∧ (oP f n s).1 * (oP f n t).2 + (oP f n s).2 * (oP f n t).1 = (oP f n (s + t)).2) = true) := by
    show _ = _
    rw [E1.out]
    exact decide_eq_true ⟨rfl, rfl⟩
  have HE := hid (oSame_any gp gc _ _ _ _ Kgp5 (Ogp16.out.sl Igp.out) (Ogc16.out.sl Igc.out) Igp.out Igc.out)
  rw [IG.out] at HE
  have HD := hid (HE.out)
  have cgp0 : Kgp5.cell? ⟨w14.heap.size, 0, none⟩ = some (.bool gp.n) := Hgp16.out.cell 0
  have cgp1 : Kgp5.cell? ⟨w14.heap.size, 1, none⟩ = some (.slice gp.a gp.xs.length gp.ca) := Hgp16.out.cell 1
  have cgp2 : Kgp5.cell? ⟨w14.heap.size, 2, none⟩ = some (.slice gp.b gp.ys.length gp.cb) := Hgp16.out.cell 2
  have cgp3 : Kgp5.cell? ⟨w14.heap.size, 3, none⟩ = some (.bool gp.m) := Hgp16.out.cell 3
  have cgp4 : Kgp5.cell? ⟨w14.heap.size, 4, none⟩ = some (.slice gp.c gp.us.length gp.cc) := Hgp16.out.cell 4
  have cgp5 : Kgp5.cell? ⟨w14.heap.size, 5, none⟩ = some (.slice gp.d gp.vs.length gp.cd) := Hgp16.out.cell 5
  have cgc0 : Kgp5.cell? ⟨w11.heap.size, 0, none⟩ = some (.bool gc.n) := Hgc16.out.cell 0
  have cgc1 : Kgp5.cell? ⟨w11.heap.size, 1, none⟩ = some (.slice gc.a gc.xs.length gc.ca) := Hgc16.out.cell 1
  have cgc2 : Kgp5.cell? ⟨w11.heap.size, 2, none⟩ = some (.slice gc.b gc.ys.length gc.cb) := Hgc16.out.cell 2
  have cgc3 : Kgp5.cell? ⟨w11.heap.size, 3, none⟩ = some (.bool gc.m) := Hgc16.out.cell 3
  have cgc4 : Kgp5.cell? ⟨w11.heap.size, 4, none⟩ = some (.slice gc.c gc.us.length gc.cc) := Hgc16.out.cell 4
  have cgc5 : Kgp5.cell? ⟨w11.heap.size, 5, none⟩ = some (.slice gc.d gc.vs.length gc.cd) := Hgc16.out.cell 5
  go_wp2_with fail
  clear qKgp0 qKgp1 qKgp2 qKgp3 qKgp4 qKgp5 rKgp0 rKgp1 rKgp2 rKgp3 rKgp4 rKgp5 fKgp0 fKgp1 fKgp2 fKgp3 fKgp4 fKgp5 hYgp
  refine Calls.mono HD.out ?_
  rintro e w17 ⟨rfl, hb⟩
  clear HD cgp0 cgp1 cgp2 cgp3 cgp4 cgp5 cgc0 cgc1 cgc2 cgc3 cgc4 cgc5
  clear HE
  have HW18 := hid (bt HW16.out hb.out)
  have Hr18 := hid (Hr16.out.later hb.out Hr16.out.lt)
  have Hga18 := hid (Hga16.out.later hb.out Hga16.out.lt)
  have Hgb18 := hid (Hgb16.out.later hb.out Hgb16.out.lt)
  have Hgc18 := hid (Hgc16.out.later hb.out Hgc16.out.lt)
  have Hgp18 := hid (Hgp16.out.later hb.out Hgp16.out.lt)
  have Oga18 := hid (Oga16.out.later hb.out)
  have Ogb18 := hid (Ogb16.out.later hb.out)
  have Ogc18 := hid (Ogc16.out.later hb.out)
  have Ogp18 := hid (Ogp16.out.later hb.out)
  clear HW16 Hr16 Hga16 Hgb16 Hgc16 Hgp16 Oga16 Ogb16 Ogc16 Ogp16
  clear hb
  have HE := hid (ounit_any ga _ _ w17 (Oga18.out.sl Iga.out) Iga.out)
  rw [E5.out] at HE
  have HD := hid (HE.out)
  have cga0 : w17.cell? ⟨w5.heap.size, 0, none⟩ = some (.bool ga.n) := Hga18.out.cell 0
  have cga1 : w17.cell? ⟨w5.heap.size, 1, none⟩ = some (.slice ga.a ga.xs.length ga.ca) := Hga18.out.cell 1
  have cga2 : w17.cell? ⟨w5.heap.size, 2, none⟩ = some (.slice ga.b ga.ys.length ga.cb) := Hga18.out.cell 2
  have cga3 : w17.cell? ⟨w5.heap.size, 3, none⟩ = some (.bool ga.m) := Hga18.out.cell 3
  have cga4 : w17.cell? ⟨w5.heap.size, 4, none⟩ = some (.slice ga.c ga.us.length ga.cc) := Hga18.out.cell 4
  have cga5 : w17.cell? ⟨w5.heap.size, 5, none⟩ = some (.slice ga.d ga.vs.length ga.cd) := Hga18.out.cell 5
  go_wp2_with fail
  refine Calls.mono HD.out ?_
  rintro e w19 ⟨rfl, hb⟩
  clear HD cga0 cga1 cga2 cga3 cga4 cga5
  have HW20 := hid (bt HW18.out hb)
  have Hr20 := hid (Hr18.out.later hb Hr18.out.lt)
  have Hga20 := hid (Hga18.out.later hb Hga18.out.lt)
  have Hgb20 := hid (Hgb18.out.later hb Hgb18.out.lt)
  have Hgc20 := hid (Hgc18.out.later hb Hgc18.out.lt)
  have Hgp20 := hid (Hgp18.out.later hb Hgp18.out.lt)
  have Oga20 := hid (Oga18.out.later hb)
  have Ogb20 := hid (Ogb18.out.later hb)
  have Ogc20 := hid (Ogc18.out.later hb)
  have Ogp20 := hid (Ogp18.out.later hb)
  clear HW18 Hr18 Hga18 Hgb18 Hgc18 Hgp18 Oga18 Ogb18 Ogc18 Ogp18
  clear hb
  clear HE
  have HD := hid (oNorm1 ga _ _ w19 (Oga20.out.sl Iga.out) Iga.out LN.out.1 LN.out.2.1 LN.out.2.2 E2.out)
  have cga0 : w19.cell? ⟨w5.heap.size, 0, none⟩ = some (.bool ga.n) := Hga20.out.cell 0
  have cga1 : w19.cell? ⟨w5.heap.size, 1, none⟩ = some (.slice ga.a ga.xs.length ga.ca) := Hga20.out.cell 1
  have cga2 : w19.cell? ⟨w5.heap.size, 2, none⟩ = some (.slice ga.b ga.ys.length ga.cb) := Hga20.out.cell 2
  have cga3 : w19.cell? ⟨w5.heap.size, 3, none⟩ = some (.bool ga.m) := Hga20.out.cell 3
  have cga4 : w19.cell? ⟨w5.heap.size, 4, none⟩ = some (.slice ga.c ga.us.length ga.cc) := Hga20.out.cell 4
  have cga5 : w19.cell? ⟨w5.heap.size, 5, none⟩ = some (.slice ga.d ga.vs.length ga.cd) := Hga20.out.cell 5
  go_wp2_with fail
  refine Calls.mono HD.out ?_
  rintro e w21 ⟨na, nca, nb, ncb, rfl, ok, hb⟩
  clear HD cga0 cga1 cga2 cga3 cga4 cga5
  have On0 := hid (And.intro (owns_base ok.out.1 HW20.out.size) (owns_base ok.out.2 HW20.out.size))
  clear ok
  have HW22 := hid (bt HW20.out hb.out)
  have Hr22 := hid (Hr20.out.later hb.out Hr20.out.lt)
  have Hga22 := hid (Hga20.out.later hb.out Hga20.out.lt)
  have Hgb22 := hid (Hgb20.out.later hb.out Hgb20.out.lt)
  have Hgc22 := hid (Hgc20.out.later hb.out Hgc20.out.lt)
  have Hgp22 := hid (Hgp20.out.later hb.out Hgp20.out.lt)
  have Oga22 := hid (Oga20.out.later hb.out)
  have Ogb22 := hid (Ogb20.out.later hb.out)
  have Ogc22 := hid (Ogc20.out.later hb.out)
  have Ogp22 := hid (Ogp20.out.later hb.out)
  clear HW20 Hr20 Hga20 Hgb20 Hgc20 Hgp20 Oga20 Ogb20 Ogc20 Ogp20
  clear hb
  obtain ⟨Ynn, hYnn⟩ : ∃ Y, w21.alloc (.cells #[.bool false, .slice none 0 0, .slice none 0 0] 29) = Y := ⟨_, rfl⟩
  have NYnn : Hid (Box Ynn w21.heap.size 29 #[.bool false, .slice none 0 0, .slice none 0 0]) := by rw [← hYnn]; exact Box.made w21 _ _
  have BYnn : Hid (Below w21.heap.size w21 Ynn) := by rw [← hYnn]; exact alloc_later _ _
  obtain ⟨Knn0, Knn1, Knn2, qKnn0, qKnn1, qKnn2, ⟨rKnn0, rKnn1, rKnn2⟩, ⟨fKnn0, fKnn1, fKnn2⟩, Pnn⟩ := rchain3 NYnn.out (by decide) (.bool false) (.slice na 1 nca) (.slice nb 1 ncb)
  have HW23 : Hid (Below w.heap.size w Knn2) := Pnn.out.2.2.2.1 _ _ HW22.out.size (bt HW22.out BYnn.out)
  have Hr23 := hid (Pnn.out.2.1 _ _ _ (Nat.ne_of_lt Hr22.out.lt) (Hr22.out.later BYnn.out Hr22.out.lt))
  have Hga23 := hid (Pnn.out.2.1 _ _ _ (Nat.ne_of_lt Hga22.out.lt) (Hga22.out.later BYnn.out Hga22.out.lt))
  have Hgb23 := hid (Pnn.out.2.1 _ _ _ (Nat.ne_of_lt Hgb22.out.lt) (Hgb22.out.later BYnn.out Hgb22.out.lt))
  have Hgc23 := hid (Pnn.out.2.1 _ _ _ (Nat.ne_of_lt Hgc22.out.lt) (Hgc22.out.later BYnn.out Hgc22.out.lt))
  have Hgp23 := hid (Pnn.out.2.1 _ _ _ (Nat.ne_of_lt Hgp22.out.lt) (Hgp22.out.later BYnn.out Hgp22.out.lt))
  have Oga23 := hid (ow_put (Oga22.out.later BYnn.out) Pnn.out.2.2.1)
  have Ogb23 := hid (ow_put (Ogb22.out.later BYnn.out) Pnn.out.2.2.1)
  have Ogc23 := hid (ow_put (Ogc22.out.later BYnn.out) Pnn.out.2.2.1)
  have Ogp23 := hid (ow_put (Ogp22.out.later BYnn.out) Pnn.out.2.2.1)
  have On23 := hid (And.intro (Pnn.out.2.2.1 _ _ _ _ (owns_later On0.out.1 BYnn.out)) (Pnn.out.2.2.1 _ _ _ _ (owns_later On0.out.2 BYnn.out)))
  have Hnn23 := hid Pnn.out.1
  clear HW22 Hr22 Hga22 Hgb22 Hgc22 Hgp22 Oga22 Ogb22 Ogc22 Ogp22 On0 NYnn BYnn Pnn
  have HD := hid (HP.out Knn2 (-s) (by omega))
  have cr0 : Knn2.cell? ⟨w.heap.size, 0, none⟩ = some (.int .i32 f) := Hr23.out.cell 0
  have cr1 : Knn2.cell? ⟨w.heap.size, 1, none⟩ = some (.int .i32 n) := Hr23.out.cell 1
  go_wp2_with fail
  clear qKnn0 qKnn1 qKnn2 rKnn0 rKnn1 rKnn2 fKnn0 fKnn1 fKnn2 hYnn
  refine Calls.mono HD.out ?_
  rintro e w24 ⟨gm, rfl, ok, ik, hb, _⟩
  clear HD cr0 cr1
  have Ogm0 := hid (ok.out.base HW23.out.size)
  have Igm := hid ik.out
  clear ok ik
  have HW25 := hid (bt HW23.out hb.out)
  have Hr25 := hid (Hr23.out.later hb.out Hr23.out.lt)
  have Hga25 := hid (Hga23.out.later hb.out Hga23.out.lt)
  have Hgb25 := hid (Hgb23.out.later hb.out Hgb23.out.lt)
  have Hgc25 := hid (Hgc23.out.later hb.out Hgc23.out.lt)
  have Hgp25 := hid (Hgp23.out.later hb.out Hgp23.out.lt)
  have Hnn25 := hid (Hnn23.out.later hb.out Hnn23.out.lt)
  have Oga25 := hid (Oga23.out.later hb.out)
  have Ogb25 := hid (Ogb23.out.later hb.out)
  have Ogc25 := hid (Ogc23.out.later hb.out)
  have Ogp25 := hid (Ogp23.out.later hb.out)
  clear HW23 Hr23 Hga23 Hgb23 Hgc23 Hgp23 Hnn23 Oga23 Ogb23 Ogc23 Ogp23
  have On25 := hid (And.intro (owns_later On23.out.1 hb.out) (owns_later On23.out.2 hb.out))
  clear On23
  clear hb
  obtain ⟨Ygm, hYgm⟩ : ∃ Y, w24.alloc (.cells #[.bool false, .slice none 0 0, .slice none 0 0, .bool false, .slice none 0 0, .slice none 0 0] 31) = Y := ⟨_, rfl⟩
  have NYgm : Hid (Box Ygm w24.heap.size 31 #[.bool false, .slice none 0 0, .slice none 0 0, .bool false, .slice none 0 0, .slice none 0 0]) := by rw [← hYgm]; exact Box.made w24 _ _
  have BYgm : Hid (Below w24.heap.size w24 Ygm) := by rw [← hYgm]; exact alloc_later _ _
  obtain ⟨Kgm0, Kgm1, Kgm2, Kgm3, Kgm4, Kgm5, qKgm0, qKgm1, qKgm2, qKgm3, qKgm4, qKgm5, ⟨rKgm0, rKgm1, rKgm2, rKgm3, rKgm4, rKgm5⟩, ⟨fKgm0, fKgm1, fKgm2, fKgm3, fKgm4, fKgm5⟩, Pgm⟩ := rchain6 NYgm.out (by decide) (.bool gm.n) (.slice gm.a gm.xs.length gm.ca) (.slice gm.b gm.ys.length gm.cb) (.bool gm.m) (.slice gm.c gm.us.length gm.cc) (.slice gm.d gm.vs.length gm.cd)
  have HW26 : Hid (Below w.heap.size w Kgm5) := Pgm.out.2.2.2.1 _ _ HW25.out.size (bt HW25.out BYgm.out)
  have Hr26 := hid (Pgm.out.2.1 _ _ _ (Nat.ne_of_lt Hr25.out.lt) (Hr25.out.later BYgm.out Hr25.out.lt))
  have Hga26 := hid (Pgm.out.2.1 _ _ _ (Nat.ne_of_lt Hga25.out.lt) (Hga25.out.later BYgm.out Hga25.out.lt))
  have Hgb26 := hid (Pgm.out.2.1 _ _ _ (Nat.ne_of_lt Hgb25.out.lt) (Hgb25.out.later BYgm.out Hgb25.out.lt))
  have Hgc26 := hid (Pgm.out.2.1 _ _ _ (Nat.ne_of_lt Hgc25.out.lt) (Hgc25.out.later BYgm.out Hgc25.out.lt))
  have Hgp26 := hid (Pgm.out.2.1 _ _ _ (Nat.ne_of_lt Hgp25.out.lt) (Hgp25.out.later BYgm.out Hgp25.out.lt))
  have Hnn26 := hid (Pgm.out.2.1 _ _ _ (Nat.ne_of_lt Hnn25.out.lt) (Hnn25.out.later BYgm.out Hnn25.out.lt))
  have Oga26 := hid (ow_put (Oga25.out.later BYgm.out) Pgm.out.2.2.1)
  have Ogb26 := hid (ow_put (Ogb25.out.later BYgm.out) Pgm.out.2.2.1)
  have Ogc26 := hid (ow_put (Ogc25.out.later BYgm.out) Pgm.out.2.2.1)
  have Ogp26 := hid (ow_put (Ogp25.out.later BYgm.out) Pgm.out.2.2.1)
  have On26 := hid (And.intro (Pgm.out.2.2.1 _ _ _ _ (owns_later On25.out.1 BYgm.out)) (Pgm.out.2.2.1 _ _ _ _ (owns_later On25.out.2 BYgm.out)))
  have Ogm26 := hid (ow_put (Ogm0.out.later BYgm.out) Pgm.out.2.2.1)
  have Hgm26 := hid Pgm.out.1
  clear HW25 Hr25 Hga25 Hgb25 Hgc25 Hgp25 Hnn25 Oga25 Ogb25 Ogc25 Ogp25 On25 Ogm0 NYgm BYgm Pgm
  have HD := hid (oConj_any ga _ _ Kgm5 (Oga26.out.sl Iga.out) Iga.out LC.out)
  have cga0 : Kgm5.cell? ⟨w5.heap.size, 0, none⟩ = some (.bool ga.n) := Hga26.out.cell 0
  have cga1 : Kgm5.cell? ⟨w5.heap.size, 1, none⟩ = some (.slice ga.a ga.xs.length ga.ca) := Hga26.out.cell 1
  have cga2 : Kgm5.cell? ⟨w5.heap.size, 2, none⟩ = some (.slice ga.b ga.ys.length ga.cb) := Hga26.out.cell 2
  have cga3 : Kgm5.cell? ⟨w5.heap.size, 3, none⟩ = some (.bool ga.m) := Hga26.out.cell 3
  have cga4 : Kgm5.cell? ⟨w5.heap.size, 4, none⟩ = some (.slice ga.c ga.us.length ga.cc) := Hga26.out.cell 4
  have cga5 : Kgm5.cell? ⟨w5.heap.size, 5, none⟩ = some (.slice ga.d ga.vs.length ga.cd) := Hga26.out.cell 5
  go_wp2_with fail
  clear qKgm0 qKgm1 qKgm2 qKgm3 qKgm4 qKgm5 rKgm0 rKgm1 rKgm2 rKgm3 rKgm4 rKgm5 fKgm0 fKgm1 fKgm2 fKgm3 fKgm4 fKgm5 hYgm
  refine Calls.mono HD.out ?_
  rintro e w27 ⟨gk, rfl, ok, ik, hb⟩
  clear HD cga0 cga1 cga2 cga3 cga4 cga5
  have Ogk0 := hid (ok.out.base HW26.out.size)
  have Igk := hid ik.out
  clear ok ik
  have HW28 := hid (bt HW26.out hb.out)
  have Hr28 := hid (Hr26.out.later hb.out Hr26.out.lt)
  have Hga28 := hid (Hga26.out.later hb.out Hga26.out.lt)
  have Hgb28 := hid (Hgb26.out.later hb.out Hgb26.out.lt)
  have Hgc28 := hid (Hgc26.out.later hb.out Hgc26.out.lt)
  have Hgp28 := hid (Hgp26.out.later hb.out Hgp26.out.lt)
  have Hnn28 := hid (Hnn26.out.later hb.out Hnn26.out.lt)
  have Hgm28 := hid (Hgm26.out.later hb.out Hgm26.out.lt)
  have Oga28 := hid (Oga26.out.later hb.out)
  have Ogb28 := hid (Ogb26.out.later hb.out)
  have Ogc28 := hid (Ogc26.out.later hb.out)
  have Ogp28 := hid (Ogp26.out.later hb.out)
  have Ogm28 := hid (Ogm26.out.later hb.out)
  clear HW26 Hr26 Hga26 Hgb26 Hgc26 Hgp26 Hnn26 Hgm26 Oga26 Ogb26 Ogc26 Ogp26 Ogm26
  have On28 := hid (And.intro (owns_later On26.out.1 hb.out) (owns_later On26.out.2 hb.out))
  clear On26
  clear hb
  obtain ⟨Ygk, hYgk⟩ : ∃ Y, w27.alloc (.cells #[.bool false, .slice none 0 0, .slice none 0 0, .bool false, .slice none 0 0, .slice none 0 0] 31) = Y := ⟨_, rfl⟩
  have NYgk : Hid (Box Ygk w27.heap.size 31 #[.bool false, .slice none 0 0, .slice none 0 0, .bool false, .slice none 0 0, .slice none 0 0]) := by rw [← hYgk]; exact Box.made w27 _ _
  have BYgk : Hid (Below w27.heap.size w27 Ygk) := by rw [← hYgk]; exact alloc_later _ _
  obtain ⟨Kgk0, Kgk1, Kgk2, Kgk3, Kgk4, Kgk5, qKgk0, qKgk1, qKgk2, qKgk3, qKgk4, qKgk5, ⟨rKgk0, rKgk1, rKgk2, rKgk3, rKgk4, rKgk5⟩, ⟨fKgk0, fKgk1, fKgk2, fKgk3, fKgk4, fKgk5⟩, Pgk⟩ := rchain6 NYgk.out (by decide) (.bool gk.n) (.slice gk.a gk.xs.length gk.ca) (.slice gk.b gk.ys.length gk.cb) (.bool gk.m) (.slice gk.c gk.us.length gk.cc) (.slice gk.d gk.vs.length gk.cd)
  have HW29 : Hid (Below w.heap.size w Kgk5) := Pgk.out.2.2.2.1 _ _ HW28.out.size (bt HW28.out BYgk.out)
  have Hr29 := hid (Pgk.out.2.1 _ _ _ (Nat.ne_of_lt Hr28.out.lt) (Hr28.out.later BYgk.out Hr28.out.lt))
  have Hga29 := hid (Pgk.out.2.1 _ _ _ (Nat.ne_of_lt Hga28.out.lt) (Hga28.out.later BYgk.out Hga28.out.lt))
  have Hgb29 := hid (Pgk.out.2.1 _ _ _ (Nat.ne_of_lt Hgb28.out.lt) (Hgb28.out.later BYgk.out Hgb28.out.lt))
  have Hgc29 := hid (Pgk.out.2.1 _ _ _ (Nat.ne_of_lt Hgc28.out.lt) (Hgc28.out.later BYgk.out Hgc28.out.lt))
  have Hgp29 := hid (Pgk.out.2.1 _ _ _ (Nat.ne_of_lt Hgp28.out.lt) (Hgp28.out.later BYgk.out Hgp28.out.lt))
  have Hnn29 := hid (Pgk.out.2.1 _ _ _ (Nat.ne_of_lt Hnn28.out.lt) (Hnn28.out.later BYgk.out Hnn28.out.lt))
  have Hgm29 := hid (Pgk.out.2.1 _ _ _ (Nat.ne_of_lt Hgm28.out.lt) (Hgm28.out.later BYgk.out Hgm28.out.lt))
  have Oga29 := hid (ow_put (Oga28.out.later BYgk.out) Pgk.out.2.2.1)
  have Ogb29 := hid (ow_put (Ogb28.out.later BYgk.out) Pgk.out.2.2.1)
  have Ogc29 := hid (ow_put (Ogc28.out.later BYgk.out) Pgk.out.2.2.1)
  have Ogp29 := hid (ow_put (Ogp28.out.later BYgk.out) Pgk.out.2.2.1)
  have Ogm29 := hid (ow_put (Ogm28.out.later BYgk.out) Pgk.out.2.2.1)
  have On29 := hid (And.intro (Pgk.out.2.2.1 _ _ _ _ (owns_later On28.out.1 BYgk.out)) (Pgk.out.2.2.1 _ _ _ _ (owns_later On28.out.2 BYgk.out)))
  have Ogk29 := hid (ow_put (Ogk0.out.later BYgk.out) Pgk.out.2.2.1)
  have Hgk29 := hid Pgk.out.1
  clear HW28 Hr28 Hga28 Hgb28 Hgc28 Hgp28 Hnn28 Hgm28 Oga28 Ogb28 Ogc28 Ogp28 Ogm28 On28 Ogk0 NYgk BYgk Pgk
  have HD := hid (HJ.out Kgk5)
  have cr0 : Kgk5.cell? ⟨w.heap.size, 0, none⟩ = some (.int .i32 f) := Hr29.out.cell 0
  have cr1 : Kgk5.cell? ⟨w.heap.size, 1, none⟩ = some (.int .i32 n) := Hr29.out.cell 1
  go_wp2_with fail
  clear qKgk0 qKgk1 qKgk2 qKgk3 qKgk4 qKgk5 rKgk0 rKgk1 rKgk2 rKgk3 rKgk4 rKgk5 fKgk0 fKgk1 fKgk2 fKgk3 fKgk4 fKgk5 hYgk
  refine Calls.mono HD.out ?_
  rintro e w30 ⟨rfl, hb⟩
  clear HD cr0 cr1
  have HW31 := hid (bt HW29.out hb)
  have Hr31 := hid (Hr29.out.later hb Hr29.out.lt)
  have Hga31 := hid (Hga29.out.later hb Hga29.out.lt)
  have Hgb31 := hid (Hgb29.out.later hb Hgb29.out.lt)
  have Hgc31 := hid (Hgc29.out.later hb Hgc29.out.lt)
  have Hgp31 := hid (Hgp29.out.later hb Hgp29.out.lt)
  have Hnn31 := hid (Hnn29.out.later hb Hnn29.out.lt)
  have Hgm31 := hid (Hgm29.out.later hb Hgm29.out.lt)
  have Hgk31 := hid (Hgk29.out.later hb Hgk29.out.lt)
  have Oga31 := hid (Oga29.out.later hb)
  have Ogb31 := hid (Ogb29.out.later hb)
  have Ogc31 := hid (Ogc29.out.later hb)
  have Ogp31 := hid (Ogp29.out.later hb)
  have Ogm31 := hid (Ogm29.out.later hb)
  have Ogk31 := hid (Ogk29.out.later hb)
  clear HW29 Hr29 Hga29 Hgb29 Hgc29 Hgp29 Hnn29 Hgm29 Hgk29 Oga29 Ogb29 Ogc29 Ogp29 Ogm29 Ogk29
  have On31 := hid (And.intro (owns_later On29.out.1 hb) (owns_later On29.out.2 hb))
  clear On29
  clear hb
  obtain ⟨Yd, hYd⟩ : ∃ Y, w30.alloc (.cells #[.int .i32 0, .int .i32 0] 23) = Y := ⟨_, rfl⟩
  have NYd : Hid (Box Yd w30.heap.size 23 #[.int .i32 0, .int .i32 0]) := by rw [← hYd]; exact Box.made w30 _ _
  have BYd : Hid (Below w30.heap.size w30 Yd) := by rw [← hYd]; exact alloc_later _ _
  obtain ⟨Kd0, Kd1, qKd0, qKd1, ⟨rKd0, rKd1⟩, ⟨fKd0, fKd1⟩, Pd⟩ := rchain2 NYd.out (by decide) (.int .i32 f) (.int .i32 (-n))
  have HW32 : Hid (Below w.heap.size w Kd1) := Pd.out.2.2.2.1 _ _ HW31.out.size (bt HW31.out BYd.out)
  have Hr32 := hid (Pd.out.2.1 _ _ _ (Nat.ne_of_lt Hr31.out.lt) (Hr31.out.later BYd.out Hr31.out.lt))
  have Hga32 := hid (Pd.out.2.1 _ _ _ (Nat.ne_of_lt Hga31.out.lt) (Hga31.out.later BYd.out Hga31.out.lt))
  have Hgb32 := hid (Pd.out.2.1 _ _ _ (Nat.ne_of_lt Hgb31.out.lt) (Hgb31.out.later BYd.out Hgb31.out.lt))
  have Hgc32 := hid (Pd.out.2.1 _ _ _ (Nat.ne_of_lt Hgc31.out.lt) (Hgc31.out.later BYd.out Hgc31.out.lt))
  have Hgp32 := hid (Pd.out.2.1 _ _ _ (Nat.ne_of_lt Hgp31.out.lt) (Hgp31.out.later BYd.out Hgp31.out.lt))
  have Hnn32 := hid (Pd.out.2.1 _ _ _ (Nat.ne_of_lt Hnn31.out.lt) (Hnn31.out.later BYd.out Hnn31.out.lt))
  have Hgm32 := hid (Pd.out.2.1 _ _ _ (Nat.ne_of_lt Hgm31.out.lt) (Hgm31.out.later BYd.out Hgm31.out.lt))
  have Hgk32 := hid (Pd.out.2.1 _ _ _ (Nat.ne_of_lt Hgk31.out.lt) (Hgk31.out.later BYd.out Hgk31.out.lt))
  have Oga32 := hid (ow_put (Oga31.out.later BYd.out) Pd.out.2.2.1)
  have Ogb32 := hid (ow_put (Ogb31.out.later BYd.out) Pd.out.2.2.1)
  have Ogc32 := hid (ow_put (Ogc31.out.later BYd.out) Pd.out.2.2.1)
  have Ogp32 := hid (ow_put (Ogp31.out.later BYd.out) Pd.out.2.2.1)
  have Ogm32 := hid (ow_put (Ogm31.out.later BYd.out) Pd.out.2.2.1)
  have Ogk32 := hid (ow_put (Ogk31.out.later BYd.out) Pd.out.2.2.1)
  have On32 := hid (And.intro (Pd.out.2.2.1 _ _ _ _ (owns_later On31.out.1 BYd.out)) (Pd.out.2.2.1 _ _ _ _ (owns_later On31.out.2 BYd.out)))
  have Hd32 := hid Pd.out.1
  clear HW31 Hr31 Hga31 Hgb31 Hgc31 Hgp31 Hnn31 Hgm31 Hgk31 Oga31 Ogb31 Ogc31 Ogp31 Ogm31 Ogk31 On31 NYd BYd Pd
  have HD := hid (HQ.out Kd1 (s) (by omega))
  have cd0 : Kd1.cell? ⟨w30.heap.size, 0, none⟩ = some (.int .i32 f) := Hd32.out.cell 0
  have cd1 : Kd1.cell? ⟨w30.heap.size, 1, none⟩ = some (.int .i32 (-n)) := Hd32.out.cell 1
  go_wp2_with fail
  clear qKd0 qKd1 rKd0 rKd1 fKd0 fKd1 hYd
  refine Calls.mono HD.out ?_
  rintro e w33 ⟨gq, rfl, ok, ik, hb, _⟩
  clear HD cd0 cd1
  have Ogq0 := hid (ok.out.base HW32.out.size)
  have Igq := hid ik.out
  clear ok ik
  have HW34 := hid (bt HW32.out hb.out)
  have Hr34 := hid (Hr32.out.later hb.out Hr32.out.lt)
  have Hga34 := hid (Hga32.out.later hb.out Hga32.out.lt)
  have Hgb34 := hid (Hgb32.out.later hb.out Hgb32.out.lt)
  have Hgc34 := hid (Hgc32.out.later hb.out Hgc32.out.lt)
  have Hgp34 := hid (Hgp32.out.later hb.out Hgp32.out.lt)
  have Hnn34 := hid (Hnn32.out.later hb.out Hnn32.out.lt)
  have Hgm34 := hid (Hgm32.out.later hb.out Hgm32.out.lt)
  have Hgk34 := hid (Hgk32.out.later hb.out Hgk32.out.lt)
  have Hd34 := hid (Hd32.out.later hb.out Hd32.out.lt)
  have Oga34 := hid (Oga32.out.later hb.out)
  have Ogb34 := hid (Ogb32.out.later hb.out)
  have Ogc34 := hid (Ogc32.out.later hb.out)
  have Ogp34 := hid (Ogp32.out.later hb.out)
  have Ogm34 := hid (Ogm32.out.later hb.out)
  have Ogk34 := hid (Ogk32.out.later hb.out)
  clear HW32 Hr32 Hga32 Hgb32 Hgc32 Hgp32 Hnn32 Hgm32 Hgk32 Hd32 Oga32 Ogb32 Ogc32 Ogp32 Ogm32 Ogk32
  have On34 := hid (And.intro (owns_later On32.out.1 hb.out) (owns_later On32.out.2 hb.out))
  clear On32
  clear hb
  obtain ⟨Ygq, hYgq⟩ : ∃ Y, w33.alloc (.cells #[.bool false, .slice none 0 0, .slice none 0 0, .bool false, .slice none 0 0, .slice none 0 0] 31) = Y := ⟨_, rfl⟩
  have NYgq : Hid (Box Ygq w33.heap.size 31 #[.bool false, .slice none 0 0, .slice none 0 0, .bool false, .slice none 0 0, .slice none 0 0]) := by rw [← hYgq]; exact Box.made w33 _ _
  have BYgq : Hid (Below w33.heap.size w33 Ygq) := by rw [← hYgq]; exact alloc_later _ _
  obtain ⟨Kgq0, Kgq1, Kgq2, Kgq3, Kgq4, Kgq5, qKgq0, qKgq1, qKgq2, qKgq3, qKgq4, qKgq5, ⟨rKgq0, rKgq1, rKgq2, rKgq3, rKgq4, rKgq5⟩, ⟨fKgq0, fKgq1, fKgq2, fKgq3, fKgq4, fKgq5⟩, Pgq⟩ := rchain6 NYgq.out (by decide) (.bool gq.n) (.slice gq.a gq.xs.length gq.ca) (.slice gq.b gq.ys.length gq.cb) (.bool gq.m) (.slice gq.c gq.us.length gq.cc) (.slice gq.d gq.vs.length gq.cd)
  have HW35 : Hid (Below w.heap.size w Kgq5) := Pgq.out.2.2.2.1 _ _ HW34.out.size (bt HW34.out BYgq.out)
  have Hr35 := hid (Pgq.out.2.1 _ _ _ (Nat.ne_of_lt Hr34.out.lt) (Hr34.out.later BYgq.out Hr34.out.lt))
  have Hga35 := hid (Pgq.out.2.1 _ _ _ (Nat.ne_of_lt Hga34.out.lt) (Hga34.out.later BYgq.out Hga34.out.lt))
  have Hgb35 := hid (Pgq.out.2.1 _ _ _ (Nat.ne_of_lt Hgb34.out.lt) (Hgb34.out.later BYgq.out Hgb34.out.lt))
  have Hgc35 := hid (Pgq.out.2.1 _ _ _ (Nat.ne_of_lt Hgc34.out.lt) (Hgc34.out.later BYgq.out Hgc34.out.lt))
  have Hgp35 := hid (Pgq.out.2.1 _ _ _ (Nat.ne_of_lt Hgp34.out.lt) (Hgp34.out.later BYgq.out Hgp34.out.lt))
  have Hnn35 := hid (Pgq.out.2.1 _ _ _ (Nat.ne_of_lt Hnn34.out.lt) (Hnn34.out.later BYgq.out Hnn34.out.lt))
  have Hgm35 := hid (Pgq.out.2.1 _ _ _ (Nat.ne_of_lt Hgm34.out.lt) (Hgm34.out.later BYgq.out Hgm34.out.lt))
  have Hgk35 := hid (Pgq.out.2.1 _ _ _ (Nat.ne_of_lt Hgk34.out.lt) (Hgk34.out.later BYgq.out Hgk34.out.lt))
  have Hd35 := hid (Pgq.out.2.1 _ _ _ (Nat.ne_of_lt Hd34.out.lt) (Hd34.out.later BYgq.out Hd34.out.lt))
  have Oga35 := hid (ow_put (Oga34.out.later BYgq.out) Pgq.out.2.2.1)
  have Ogb35 := hid (ow_put (Ogb34.out.later BYgq.out) Pgq.out.2.2.1)
  have Ogc35 := hid (ow_put (Ogc34.out.later BYgq.out) Pgq.out.2.2.1)
  have Ogp35 := hid (ow_put (Ogp34.out.later BYgq.out) Pgq.out.2.2.1)
  have Ogm35 := hid (ow_put (Ogm34.out.later BYgq.out) Pgq.out.2.2.1)
  have Ogk35 := hid (ow_put (Ogk34.out.later BYgq.out) Pgq.out.2.2.1)
  have On35 := hid (And.intro (Pgq.out.2.2.1 _ _ _ _ (owns_later On34.out.1 BYgq.out)) (Pgq.out.2.2.1 _ _ _ _ (owns_later On34.out.2 BYgq.out)))
  have Ogq35 := hid (ow_put (Ogq0.out.later BYgq.out) Pgq.out.2.2.1)
  have Hgq35 := hid Pgq.out.1
  clear HW34 Hr34 Hga34 Hgb34 Hgc34 Hgp34 Hnn34 Hgm34 Hgk34 Hd34 Oga34 Ogb34 Ogc34 Ogp34 Ogm34 Ogk34 On34 Ogq0 NYgq BYgq Pgq
  obtain ⟨U, hU⟩ : ∃ U, (Kgq5.alloc (.cells #[.int .u32 1] 43)).alloc (.cells #[.int .u32 1] 43) = U := ⟨_, rfl⟩
  have BU : Hid (Below Kgq5.heap.size Kgq5 U) := by rw [← hU]; exact bt (alloc_later _ _) (alloc_later _ _)
  have OU : Hid (U.ownsRow (Kgq5.heap.size) 43 1 (.slice (some ⟨Kgq5.heap.size, 0, none⟩) 1 1) 1 [.int .u32 1] ∧ U.ownsRow (Kgq5.heap.size + 1) 43 1 (.slice (some ⟨Kgq5.heap.size + 1, 0, none⟩) 1 1) 1 [.int .u32 1]) := by
    rw [← hU]
    exact ⟨owns_later (olit Kgq5 1) (alloc_later _ _), olit' 1 (by simp)⟩
  have HE : Hid (Calls Try.prog 13 #[.agg #[.bool false, .slice na 1 nca, .slice nb 1 ncb], .agg #[.bool false, .slice (some ⟨Kgq5.heap.size, 0, none⟩) 1 1, .slice (some ⟨Kgq5.heap.size + 1, 0, none⟩) 1 1]] U fun e w' => e = .returned (.bool true) ∧ Below U.heap.size U w') := gsameRatio_eq false _ _ _ _ [1] [1] U (Sl.own (owns_later On35.out.1 BU.out) (owd1 (by decide) (by decide))) (Sl.own (owns_later On35.out.2 BU.out) (owd1 (by decide) (by decide))) (Sl.own OU.out.1 (owd1 (by decide) (by decide))) (Sl.own OU.out.2 (owd1 (by decide) (by decide))) (by decide) (by decide)
  have HD := hid (HE.out)
  have cnn0 : Kgq5.cell? ⟨w21.heap.size, 0, none⟩ = some (.bool false) := Hnn35.out.cell 0
  have cnn1 : Kgq5.cell? ⟨w21.heap.size, 1, none⟩ = some (.slice na 1 nca) := Hnn35.out.cell 1
  have cnn2 : Kgq5.cell? ⟨w21.heap.size, 2, none⟩ = some (.slice nb 1 ncb) := Hnn35.out.cell 2
  go_wp2_with fail
  clear qKgq0 qKgq1 qKgq2 qKgq3 qKgq4 qKgq5 rKgq0 rKgq1 rKgq2 rKgq3 rKgq4 rKgq5 fKgq0 fKgq1 fKgq2 fKgq3 fKgq4 fKgq5 hYgq
  refine Calls.mono HD.out ?_
  rintro e w36 ⟨rfl, hb⟩
  clear HD cnn0 cnn1 cnn2
  clear HE OU hU
  have BV := hid (bt BU.out hb)
  clear hb BU
  have HW37 := hid (bt HW35.out BV.out)
  have Hr37 := hid (Hr35.out.later BV.out Hr35.out.lt)
  have Hga37 := hid (Hga35.out.later BV.out Hga35.out.lt)
  have Hgb37 := hid (Hgb35.out.later BV.out Hgb35.out.lt)
  have Hgc37 := hid (Hgc35.out.later BV.out Hgc35.out.lt)
  have Hgp37 := hid (Hgp35.out.later BV.out Hgp35.out.lt)
  have Hnn37 := hid (Hnn35.out.later BV.out Hnn35.out.lt)
  have Hgm37 := hid (Hgm35.out.later BV.out Hgm35.out.lt)
  have Hgk37 := hid (Hgk35.out.later BV.out Hgk35.out.lt)
  have Hd37 := hid (Hd35.out.later BV.out Hd35.out.lt)
  have Hgq37 := hid (Hgq35.out.later BV.out Hgq35.out.lt)
  have Oga37 := hid (Oga35.out.later BV.out)
  have Ogb37 := hid (Ogb35.out.later BV.out)
  have Ogc37 := hid (Ogc35.out.later BV.out)
  have Ogp37 := hid (Ogp35.out.later BV.out)
  have Ogm37 := hid (Ogm35.out.later BV.out)
  have Ogk37 := hid (Ogk35.out.later BV.out)
  have Ogq37 := hid (Ogq35.out.later BV.out)
  clear HW35 Hr35 Hga35 Hgb35 Hgc35 Hgp35 Hnn35 Hgm35 Hgk35 Hd35 Hgq35 Oga35 Ogb35 Ogc35 Ogp35 Ogm35 Ogk35 Ogq35
  have On37 := hid (And.intro (owns_later On35.out.1 BV.out) (owns_later On35.out.2 BV.out))
  clear On35
  clear BV
  have IM : Hid (decide ((oP f n (-s)).1 = (oP f n s).1 ∧ (oP f n (-s)).2 = -(oP f n s).2) = true) := by
    show _ = _
    rw [E3.out]
    exact decide_eq_true ⟨rfl, rfl⟩
  have IQ : Hid (decide ((oP f (-n) s).1 = (oP f n s).1 ∧ (oP f (-n) s).2 = -(oP f n s).2) = true) := by
    show _ = _
    rw [E4.out]
    exact decide_eq_true ⟨rfl, rfl⟩
  have HE := hid (oSame_any gm gk _ _ _ _ w36 (Ogm37.out.sl Igm.out) (Ogk37.out.sl Igk.out) Igm.out Igk.out)
  rw [IM.out] at HE
  have HD := hid (HE.out)
  have cgm0 : w36.cell? ⟨w24.heap.size, 0, none⟩ = some (.bool gm.n) := Hgm37.out.cell 0
  have cgm1 : w36.cell? ⟨w24.heap.size, 1, none⟩ = some (.slice gm.a gm.xs.length gm.ca) := Hgm37.out.cell 1
  have cgm2 : w36.cell? ⟨w24.heap.size, 2, none⟩ = some (.slice gm.b gm.ys.length gm.cb) := Hgm37.out.cell 2
  have cgm3 : w36.cell? ⟨w24.heap.size, 3, none⟩ = some (.bool gm.m) := Hgm37.out.cell 3
  have cgm4 : w36.cell? ⟨w24.heap.size, 4, none⟩ = some (.slice gm.c gm.us.length gm.cc) := Hgm37.out.cell 4
  have cgm5 : w36.cell? ⟨w24.heap.size, 5, none⟩ = some (.slice gm.d gm.vs.length gm.cd) := Hgm37.out.cell 5
  have cgk0 : w36.cell? ⟨w27.heap.size, 0, none⟩ = some (.bool gk.n) := Hgk37.out.cell 0
  have cgk1 : w36.cell? ⟨w27.heap.size, 1, none⟩ = some (.slice gk.a gk.xs.length gk.ca) := Hgk37.out.cell 1
  have cgk2 : w36.cell? ⟨w27.heap.size, 2, none⟩ = some (.slice gk.b gk.ys.length gk.cb) := Hgk37.out.cell 2
  have cgk3 : w36.cell? ⟨w27.heap.size, 3, none⟩ = some (.bool gk.m) := Hgk37.out.cell 3
  have cgk4 : w36.cell? ⟨w27.heap.size, 4, none⟩ = some (.slice gk.c gk.us.length gk.cc) := Hgk37.out.cell 4
  have cgk5 : w36.cell? ⟨w27.heap.size, 5, none⟩ = some (.slice gk.d gk.vs.length gk.cd) := Hgk37.out.cell 5
  go_wp2_with fail
  refine Calls.mono HD.out ?_
  rintro e w38 ⟨rfl, hb⟩
  clear HD cgm0 cgm1 cgm2 cgm3 cgm4 cgm5 cgk0 cgk1 cgk2 cgk3 cgk4 cgk5
  clear HE
  have HW39 := hid (bt HW37.out hb.out)
  have Hr39 := hid (Hr37.out.later hb.out Hr37.out.lt)
  have Hga39 := hid (Hga37.out.later hb.out Hga37.out.lt)
  have Hgb39 := hid (Hgb37.out.later hb.out Hgb37.out.lt)
  have Hgc39 := hid (Hgc37.out.later hb.out Hgc37.out.lt)
  have Hgp39 := hid (Hgp37.out.later hb.out Hgp37.out.lt)
  have Hnn39 := hid (Hnn37.out.later hb.out Hnn37.out.lt)
  have Hgm39 := hid (Hgm37.out.later hb.out Hgm37.out.lt)
  have Hgk39 := hid (Hgk37.out.later hb.out Hgk37.out.lt)
  have Hd39 := hid (Hd37.out.later hb.out Hd37.out.lt)
  have Hgq39 := hid (Hgq37.out.later hb.out Hgq37.out.lt)
  have Oga39 := hid (Oga37.out.later hb.out)
  have Ogb39 := hid (Ogb37.out.later hb.out)
  have Ogc39 := hid (Ogc37.out.later hb.out)
  have Ogp39 := hid (Ogp37.out.later hb.out)
  have Ogm39 := hid (Ogm37.out.later hb.out)
  have Ogk39 := hid (Ogk37.out.later hb.out)
  have Ogq39 := hid (Ogq37.out.later hb.out)
  clear HW37 Hr37 Hga37 Hgb37 Hgc37 Hgp37 Hnn37 Hgm37 Hgk37 Hd37 Hgq37 Oga37 Ogb37 Ogc37 Ogp37 Ogm37 Ogk37 Ogq37
  have On39 := hid (And.intro (owns_later On37.out.1 hb.out) (owns_later On37.out.2 hb.out))
  clear On37
  clear hb
  have HE := hid (oSame_any gq gk _ _ _ _ w38 (Ogq39.out.sl Igq.out) (Ogk39.out.sl Igk.out) Igq.out Igk.out)
  rw [IQ.out] at HE
  have HD := hid (HE.out)
  have cgq0 : w38.cell? ⟨w33.heap.size, 0, none⟩ = some (.bool gq.n) := Hgq39.out.cell 0
  have cgq1 : w38.cell? ⟨w33.heap.size, 1, none⟩ = some (.slice gq.a gq.xs.length gq.ca) := Hgq39.out.cell 1
  have cgq2 : w38.cell? ⟨w33.heap.size, 2, none⟩ = some (.slice gq.b gq.ys.length gq.cb) := Hgq39.out.cell 2
  have cgq3 : w38.cell? ⟨w33.heap.size, 3, none⟩ = some (.bool gq.m) := Hgq39.out.cell 3
  have cgq4 : w38.cell? ⟨w33.heap.size, 4, none⟩ = some (.slice gq.c gq.us.length gq.cc) := Hgq39.out.cell 4
  have cgq5 : w38.cell? ⟨w33.heap.size, 5, none⟩ = some (.slice gq.d gq.vs.length gq.cd) := Hgq39.out.cell 5
  have cgk0 : w38.cell? ⟨w27.heap.size, 0, none⟩ = some (.bool gk.n) := Hgk39.out.cell 0
  have cgk1 : w38.cell? ⟨w27.heap.size, 1, none⟩ = some (.slice gk.a gk.xs.length gk.ca) := Hgk39.out.cell 1
  have cgk2 : w38.cell? ⟨w27.heap.size, 2, none⟩ = some (.slice gk.b gk.ys.length gk.cb) := Hgk39.out.cell 2
  have cgk3 : w38.cell? ⟨w27.heap.size, 3, none⟩ = some (.bool gk.m) := Hgk39.out.cell 3
  have cgk4 : w38.cell? ⟨w27.heap.size, 4, none⟩ = some (.slice gk.c gk.us.length gk.cc) := Hgk39.out.cell 4
  have cgk5 : w38.cell? ⟨w27.heap.size, 5, none⟩ = some (.slice gk.d gk.vs.length gk.cd) := Hgk39.out.cell 5
  go_wp2_with fail
  refine Calls.mono HD.out ?_
  rintro e w40 ⟨rfl, hb⟩
  clear HD cgq0 cgq1 cgq2 cgq3 cgq4 cgq5 cgk0 cgk1 cgk2 cgk3 cgk4 cgk5
  clear HE
  have HW41 := hid (bt HW39.out hb.out)
  have Hr41 := hid (Hr39.out.later hb.out Hr39.out.lt)
  have Hga41 := hid (Hga39.out.later hb.out Hga39.out.lt)
  have Hgb41 := hid (Hgb39.out.later hb.out Hgb39.out.lt)
  have Hgc41 := hid (Hgc39.out.later hb.out Hgc39.out.lt)
  have Hgp41 := hid (Hgp39.out.later hb.out Hgp39.out.lt)
  have Hnn41 := hid (Hnn39.out.later hb.out Hnn39.out.lt)
  have Hgm41 := hid (Hgm39.out.later hb.out Hgm39.out.lt)
  have Hgk41 := hid (Hgk39.out.later hb.out Hgk39.out.lt)
  have Hd41 := hid (Hd39.out.later hb.out Hd39.out.lt)
  have Hgq41 := hid (Hgq39.out.later hb.out Hgq39.out.lt)
  have Oga41 := hid (Oga39.out.later hb.out)
  have Ogb41 := hid (Ogb39.out.later hb.out)
  have Ogc41 := hid (Ogc39.out.later hb.out)
  have Ogp41 := hid (Ogp39.out.later hb.out)
  have Ogm41 := hid (Ogm39.out.later hb.out)
  have Ogk41 := hid (Ogk39.out.later hb.out)
  have Ogq41 := hid (Ogq39.out.later hb.out)
  clear HW39 Hr39 Hga39 Hgb39 Hgc39 Hgp39 Hnn39 Hgm39 Hgk39 Hd39 Hgq39 Oga39 Ogb39 Ogc39 Ogp39 Ogm39 Ogk39 Ogq39
  have On41 := hid (And.intro (owns_later On39.out.1 hb.out) (owns_later On39.out.2 hb.out))
  clear On39
  clear hb
  go_wp2_with fail
  go_ret
  exact ⟨rfl, HW41.out⟩
end Go.Proofs.Ytbccnngdkanejaa

/- The law RotorGroup, of whatever comes in. -/
namespace Go.Proofs.Ytbccnngdkanejaa
open Go.RowKit
set_option linter.unusedVariables false

set_option maxHeartbeats 3200000 in
set_option maxRecDepth 100000 in
theorem rotorGroup_off (f n s t : Int) (w : World) (hi : in32 f n) (hq : ¬ rOK f n ∨ (rOK f n ∧ (s < -40 ∨ 40 < s ∨ t < -40 ∨ 40 < t))) :
    Calls Try.prog 3 #[.agg #[.int .i32 f, .int .i32 n], .int .i64 s, .int .i64 t] w fun e w' => e = .returned (.bool true) ∧ Below w.heap.size w w' := by
  obtain ⟨X, hX⟩ : ∃ X, w.alloc (.cells #[.int .i32 f, .int .i32 n] 23) = X := ⟨_, rfl⟩
  have HW : Hid (Below w.heap.size w X) := by rw [← hX]; exact alloc_later _ _
  have HR : Hid (Box X w.heap.size 23 #[.int .i32 f, .int .i32 n]) := by rw [← hX]; exact Box.made w _ _
  have HC := hid (fun V => ocheck_any f n V hi)
  have HL := hid (olives_any X)
  rcases hq with hq | ⟨hq, ht⟩
  · have h0 : ochk f n = 150 := by unfold ochk; rw [if_neg hq]
    rw [h0] at HC
    clear hq h0 hi
    go_enter Try.func3, Try.ntmps3
    go_wp2_with fail
    clear hX
    refine Calls.mono HL.out ?_
    rintro e w1 ⟨rfl, hb1⟩
    have HR1 := hid (HR.out.later hb1 HR.out.lt)
    have k0 : w1.cell? ⟨w.heap.size, 0, none⟩ = some (.int .i32 f) := HR1.out.cell 0
    have k1 : w1.cell? ⟨w.heap.size, 1, none⟩ = some (.int .i32 n) := HR1.out.cell 1
    have HW1 := hid (bt HW.out hb1)
    have HD := hid (HC.out w1)
    clear hb1 HC HL
    go_wp2_with fail
    refine Calls.mono HD.out ?_
    rintro e w2 ⟨rfl, hb2⟩
    have HW2 := hid (bt HW1.out hb2)
    clear hb2 HD k0 k1
    go_wp2_with fail
    go_ret
    exact ⟨rfl, HW2.out⟩
  · have h0 : ochk f n = 0 := by unfold ochk; rw [if_pos hq]
    rw [h0] at HC
    clear hq h0 hi
    have key : ∀ b1 b2 b3 b4 : Bool, decide (s < -40) = b1 → decide (40 < s) = b2 → decide (t < -40) = b3 → decide (40 < t) = b4 → (b1 || (b2 || (b3 || b4))) = true → Calls Try.prog 3 #[.agg #[.int .i32 f, .int .i32 n], .int .i64 s, .int .i64 t] w fun e w' => e = .returned (.bool true) ∧ Below w.heap.size w w' := by
      intro b1 b2 b3 b4 e1 e2 e3 e4 e5
      clear ht
      cases b1 <;> cases b2 <;> cases b3 <;> cases b4
      all_goals first
        | (exact absurd e5 (by decide))
        | (clear e5
           go_enter Try.func3, Try.ntmps3
           go_wp2_with fail
           clear hX
           refine Calls.mono HL.out ?_
           rintro e w1 ⟨rfl, hb1⟩
           have HR1 := hid (HR.out.later hb1 HR.out.lt)
           have k0 : w1.cell? ⟨w.heap.size, 0, none⟩ = some (.int .i32 f) := HR1.out.cell 0
           have k1 : w1.cell? ⟨w.heap.size, 1, none⟩ = some (.int .i32 n) := HR1.out.cell 1
           have HW1 := hid (bt HW.out hb1)
           have HD := hid (HC.out w1)
           clear hb1 HC HL
           go_wp2_with fail
           refine Calls.mono HD.out ?_
           rintro e w2 ⟨rfl, hb2⟩
           have HW2 := hid (bt HW1.out hb2)
           clear hb2 HD k0 k1
           go_wp2_with fail
           go_ret
           exact ⟨rfl, HW2.out⟩)
    refine key _ _ _ _ rfl rfl rfl rfl ?_
    simp
    omega
theorem rotorGroup_in (f n s t : Int) (w : World) (hi : in32 f n) :
    Calls Try.prog 3 #[.agg #[.int .i32 f, .int .i32 n], .int .i64 s, .int .i64 t] w fun e w' => e = .returned (.bool true) ∧ Below w.heap.size w w' := by
  by_cases hr : rOK f n
  · by_cases hq : s < -40 ∨ 40 < s ∨ t < -40 ∨ 40 < t
    · exact rotorGroup_off f n s t w hi (.inr ⟨hr, hq⟩)
    · exact rotorGroup_go f n s t w hr (by omega) (by omega) (by omega) (by omega)
  · exact rotorGroup_off f n s t w hi (.inl hr)
end Go.Proofs.Ytbccnngdkanejaa

