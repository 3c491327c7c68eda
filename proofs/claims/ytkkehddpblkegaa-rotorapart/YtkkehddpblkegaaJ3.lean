/- My texts on the way to RotorApart, one behind the other: contracts of the program and of the document's answers. -/
import Derived.Test.YtkkehddpblkegaaJ1
import Derived.Test.YtkkehddpblkegaaJ2
import Derived.Test.YtkkehddpblkegaaChecked
import Derived.Handy
import Derived.RegionTactic
import Derived.ChangeAlike
import Derived.Deep.RegionHeld3
import Derived.Deep.QuietTactic
import Derived.BigQuiet
import Derived.Laws.AppendOwnNone
import Derived.LoopN
/- Boxes made one behind the other; drawing keeps what is below. -/
namespace Go.Proofs.Ytkkehddpblkegaa
open Go.RowKit
set_option linter.unusedVariables false

theorem boxes1 (w : World) (t : Nat) (u : Array Value) : FBox (w.alloc (.cells u t)) w.heap.size t u ∧ Below w.heap.size w (w.alloc (.cells u t)) :=
  ⟨FBox.made _ _ _, (Below.refl _ _).alloc (Nat.le_refl _) _⟩
theorem boxes2 (w : World) (t : Nat) (u v : Array Value) : FBox ((w.alloc (.cells u t)).alloc (.cells v t)) w.heap.size t u ∧ FBox ((w.alloc (.cells u t)).alloc (.cells v t)) (w.heap.size + 1) t v ∧ Below w.heap.size w ((w.alloc (.cells u t)).alloc (.cells v t)) := by
  have a := boxes1 w t u
  have b := boxes1 (w.alloc (.cells u t)) t v
  have es : (w.alloc (.cells u t)).heap.size = w.heap.size + 1 := World.size_alloc _ _
  exact ⟨a.1.later b.2 a.1.lt, es ▸ b.1, b2 a.2 b.2⟩
theorem bdrewN {B : Nat} {a w : World} (h : Below B a w) (n : Nat) : Below B a (w.drewN n) := by
  induction n with
  | zero => exact h
  | succ n ih => exact ih.drew
end Go.Proofs.Ytkkehddpblkegaa

/- package rotor: size, commonDivisor, Check, Conj, half, of every rotor. -/
namespace Go.Proofs.Ytkkehddpblkegaa
open Go.RowKit
set_option linter.unusedVariables false

/-- A rotor may be. -/
def rOK (f n : Int) : Prop := 1 ≤ f ∧ f ≤ 1000 ∧ 1 ≤ n.natAbs ∧ n.natAbs ≤ 1000 ∧ f ≠ (n.natAbs : Int) ∧ Nat.gcd f.toNat n.natAbs = 1
instance (f n : Int) : Decidable (rOK f n) := by unfold rOK; infer_instance
def ochk (f n : Int) : Int := if rOK f n then 0 else 150
def in32 (f n : Int) : Prop := (-2147483648 ≤ f ∧ f ≤ 2147483647) ∧ (-2147483648 ≤ n ∧ n ≤ 2147483647)
theorem ochk_or (f n : Int) : ochk f n = 0 ∧ rOK f n ∨ ochk f n = 150 ∧ ¬ rOK f n := by
  unfold ochk
  by_cases h : rOK f n
  · rw [if_pos h]; exact .inl ⟨rfl, h⟩
  · rw [if_neg h]; exact .inr ⟨rfl, h⟩

set_option maxHeartbeats 800000 in
set_option maxRecDepth 100000 in
theorem osize_any (n : Int) (w : World) (h0 : -9223372036854775808 < n) (h1 : n ≤ 9223372036854775807) :
    Calls Try.prog 16 #[.int .i64 n] w fun e w' => e = .returned (.int .i64 (n.natAbs : Int)) ∧ w' = w := by
  by_cases h : n < 0
  · go_enter Try.func16, Try.ntmps16
    go_wp2_with fail
    go_ret
    exact ⟨ret_int (by omega), rfl⟩
  · go_enter Try.func16, Try.ntmps16
    go_wp2_with fail
    go_ret
    exact ⟨ret_int (by omega), rfl⟩

set_option maxHeartbeats 800000 in
set_option maxRecDepth 100000 in
theorem ocommon_any (a b : Nat) (w : World) (ha : a < 9223372036854775808) (hb : b < 9223372036854775808) :
    Calls Try.prog 17 #[.int .i64 (a : Int), .int .i64 (b : Int)] w fun e w' => e = .returned (.int .i64 (Nat.gcd a b : Nat)) ∧ Below w.heap.size w w' := by
  go_enter Try.func17, Try.ntmps17
  go_wp2_with fail
  go_loopw [0, 1] (fun x y wr => ∃ c d : Nat, x = .int .i64 (c : Int) ∧ y = .int .i64 (d : Int) ∧ c < 9223372036854775808 ∧ d < 9223372036854775808 ∧ Hid (Nat.gcd c d = Nat.gcd a b) ∧ Below w.heap.size w wr) (fun _ y _ => (intOf y).toNat)
  case atStart => exact ⟨a, b, rfl, rfl, ha, hb, (rfl : Nat.gcd a b = Nat.gcd a b), Below.refl _ _⟩
  case round =>
    obtain ⟨c, d, rfl, rfl, hc, hd, hg, hX⟩ := hrel
    by_cases h0 : d = 0
    · subst h0
      have HG : Hid (c = Nat.gcd a b) := by have := hg.out; rw [Nat.gcd_zero_right] at this; exact this
      clear hg
      go_wp2_with fail
      go_ret
      exact ⟨ret_int (by rw [HG.out]), hX⟩
    · have hm : c % d < d := Nat.mod_lt _ (by omega)
      have HG : Hid (Nat.gcd d (c % d) = Nat.gcd a b) := by show _ = _; rw [← hg.out, Nat.gcd_comm c d, Nat.gcd_rec d c, Nat.gcd_comm]
      have h0' : (d : Int) ≠ 0 := by omega
      have e2 : Int.tmod (c : Int) (d : Int) = ((c % d : Nat) : Int) := by
        rw [Int.tmod_eq_emod_of_nonneg (by omega)]; rfl
      clear hg
      go_wp2_with fail
      go_region
      all_goals
        go_wp2_with fail
        go_roundw
        case rel => exact ⟨d, c % d, rfl, by go_num, by omega, by omega, HG, hX.drew⟩
        case measure => simp [intOf]; omega

set_option maxHeartbeats 1600000 in
set_option maxRecDepth 100000 in
theorem ocheck_any (f n : Int) (w : World) (h : in32 f n) :
    Calls Try.prog 8 #[.agg #[.int .i32 f, .int .i32 n]] w fun e w' => e = .returned (.int .i64 (ochk f n)) ∧ Below w.heap.size w w' := by
  obtain ⟨⟨f0, f1⟩, n0, n1⟩ := h
  have hb0 : Below w.heap.size w (w.alloc (.cells #[.int .i32 f, .int .i32 n] 25)) := (Below.refl _ _).alloc (Nat.le_refl _) _
  have HN : Hid (¬ (1 ≤ f ∧ f ≤ 1000 ∧ 1 ≤ (n.natAbs : Int) ∧ (n.natAbs : Int) ≤ 1000 ∧ f ≠ (n.natAbs : Int)) → ochk f n = 150) := fun h => by unfold ochk; rw [if_neg]; unfold rOK; omega
  have HY : Hid ((1 ≤ f ∧ f ≤ 1000 ∧ 1 ≤ (n.natAbs : Int) ∧ (n.natAbs : Int) ≤ 1000 ∧ f ≠ (n.natAbs : Int)) → Nat.gcd f.toNat n.natAbs = 1 → ochk f n = 0) := fun h g => by unfold ochk; rw [if_pos]; unfold rOK; omega
  have HY' : Hid (¬ Nat.gcd f.toNat n.natAbs = 1 → ochk f n = 150) := fun g => by unfold ochk; rw [if_neg]; unfold rOK; omega
  have HD : Hid (1 ≤ f → 1 ≤ Nat.gcd f.toNat n.natAbs) := fun g => Nat.gcd_pos_of_pos_left _ (by omega)
  have HS := hid (fun V => osize_any n V (by omega) (by omega))
  have HC : Hid (∀ V : World, 1 ≤ f → Calls Try.prog 17 #[.int .i64 f, .int .i64 (n.natAbs : Int)] V fun e w' => e = .returned (.int .i64 (Nat.gcd f.toNat n.natAbs : Nat)) ∧ Below V.heap.size V w') := fun V h1 => by
    have := ocommon_any f.toNat n.natAbs V (by omega) (by omega)
    rw [show ((f.toNat : Nat) : Int) = f by omega] at this
    exact this
  obtain ⟨d, hD⟩ : ∃ d, Nat.gcd f.toNat n.natAbs = d := ⟨_, rfl⟩
  rw [hD] at HY HY' HC HD
  clear hD
  have m1 : n.natAbs ≤ 2147483648 := by omega
  generalize n.natAbs = N at *
  go_enter Try.func8, Try.ntmps8
  go_wp2_with fail
  go_quiet ((go_at_call 16; exact Calls.quiet_of_same (HS.out _)))
  clear HS
  have HB0 : Hid (Below w.heap.size w ((w.alloc (.cells #[.int .i32 f, .int .i32 n] 25)).drewN nq)) := bdrewN hb0 nq
  generalize (w.alloc (.cells #[.int .i32 f, .int .i32 n] 25)).drewN nq = X at *
  clear hb0
  go_wp2_with fail
  all_goals try (go_ret; exact ⟨ret_int (HN.out (by omega)).symm, HB0.out⟩)
  refine Calls.mono (HC.out _ (by omega)) ?_
  rintro e w1 ⟨rfl, hb1⟩
  by_cases h1 : d = 1
  · subst h1
    go_wp2_with fail
    go_ret
    exact ⟨ret_int (HY.out (by omega) (by trivial)).symm, b2 HB0.out hb1⟩
  · have h1' : (1 : Int) < (d : Int) := by have := HD.out (by omega); omega
    go_wp2_with fail
    go_ret
    exact ⟨ret_int (HY'.out h1).symm, b2 HB0.out hb1⟩
end Go.Proofs.Ytkkehddpblkegaa

/- package rotor: copied, over: the same words in new memory. -/
namespace Go.Proofs.Ytkkehddpblkegaa
open Go.RowKit
set_option linter.unusedVariables false
set_option linter.unusedSimpArgs false

set_option maxHeartbeats 800000 in
set_option maxRecDepth 100000 in
theorem ocopied_any (a : Option Addr) (cap : Nat) (xs : List Int) (w : World) (h : Sl w (.slice a xs.length cap) xs) (hn : xs.length ≤ 1099511627776) :
    Calls Try.prog 37 #[.slice a xs.length cap] w fun e w' => ∃ a' c', e = .returned (.slice a' xs.length c') ∧ w'.ownsRow w.heap.size 45 1 (.slice a' xs.length c') xs.length (xs.map (Value.int .u32)) ∧ Below w.heap.size w w' := by
  obtain ⟨i0, hi, hz0, hz1, hz2⟩ := info_parts Try.infoW
  have hown : w.ownsRow w.heap.size 45 1 (.slice none 0 0) 0 [] := World.ownsRow_nil _ _ _ _
  obtain ⟨ad, c0, e0, hr⟩ := h
  cases e0
  cases a with
  | none =>
    have h0 : cap = 0 := hr.2.2.2.2.2 rfl
    subst h0
    have h1 : xs.length = 0 := by have := hr.2.2.2.1; omega
    have h2 : xs = [] := List.eq_nil_of_length_eq_zero h1
    subst h2
    clear hr
    go_enter Try.func37, Try.ntmps37
    go_wp2_with (at_builtin; refine wpList_append_own_none rfl _ _ 31 rfl w.heap.size 45 i0 1 Try.underlying31 hi _ 0 [] rfl hown rfl ?_)
    go_ret
    exact ⟨none, 0, rfl, hown, Below.refl _ _⟩
  | some ad =>
    have HN := hid (copy_news hr)
    have HLn : Hid ((xs.map (Value.int .u32)).length = xs.length * 1) := by show _ = _; simp
    clear hr
    go_enter Try.func37, Try.ntmps37
    go_wp2_with (at_builtin; refine wpList_append_own _ rfl _ _ 31 rfl w.heap.size 45 i0 (.int .u32 0) 1 4 Try.underlying31 hi hz0 hz1 hz2 rfl (by decide) _ 0 [] rfl hown ad xs.length cap (xs.map (Value.int .u32)) rfl HLn.out HN.out (ints_oneCell _ _) (by unfold maxLen; omega) (by omega) (Nat.le_refl _) ?_)
    intro v' w1 hown' hgrow _
    have hb2 : Below w.heap.size w w1 := (Below.refl w.heap.size w).grown hgrow (Nat.le_refl _) (fun k hk => by simp [Value.ownBlock] at hk)
    have r3 : w1.ownsRow w.heap.size 45 1 v' xs.length (xs.map (Value.int .u32)) := by simpa using hown'
    obtain ⟨a', c', rfl⟩ := own_slice' r3
    clear hown' hgrow
    go_wp2
    go_ret
    exact ⟨a', c', rfl, r3, hb2⟩

set_option maxHeartbeats 1600000 in
set_option maxRecDepth 100000 in
theorem oover_any (n : Bool) (a : Option Addr) (ca : Nat) (xs : List Int) (b : Option Addr) (lb cb : Nat) (m : Bool) (c : Option Addr) (cc : Nat) (us : List Int) (d : Option Addr) (ld cd : Nat) (w : World) (sx : Sl w (.slice a xs.length ca) xs) (su : Sl w (.slice c us.length cc) us) (lx : xs.length ≤ 1099511627776) (lu : us.length ≤ 1099511627776) :
    Calls Try.prog 29 #[.agg #[.bool n, .slice a xs.length ca, .slice b lb cb], .agg #[.bool m, .slice c us.length cc, .slice d ld cd]] w fun e w' => ∃ a1 c1 a2 c2, e = .returned (.agg #[.bool n, .slice a1 xs.length c1, .slice a2 us.length c2]) ∧ (w'.ownsRow w.heap.size 45 1 (.slice a1 xs.length c1) xs.length (xs.map (Value.int .u32)) ∧ w'.ownsRow w.heap.size 45 1 (.slice a2 us.length c2) us.length (us.map (Value.int .u32))) ∧ Below w.heap.size w w' ∧ Cut w (.slice a1 xs.length c1) (.slice a2 us.length c2) w' := by
  have HX := hid (boxes3r w 33 #[.bool n, .slice a xs.length ca, .slice b lb cb] #[.bool m, .slice c us.length cc, .slice d ld cd] #[.bool false, .slice none 0 0, .slice none 0 0])
  obtain ⟨X, hX⟩ : ∃ X, ((w.alloc (.cells #[.bool n, .slice a xs.length ca, .slice b lb cb] 33)).alloc (.cells #[.bool m, .slice c us.length cc, .slice d ld cd] 33)).alloc (.cells #[.bool false, .slice none 0 0, .slice none 0 0] 33) = X := ⟨_, rfl⟩
  rw [hX] at HX
  have HC1 : Hid (∀ V, Below X.heap.size X V → Calls Try.prog 37 #[.slice a xs.length ca] V fun e w' => ∃ a' c', e = .returned (.slice a' xs.length c') ∧ Hid (w'.ownsRow V.heap.size 45 1 (.slice a' xs.length c') xs.length (xs.map (Value.int .u32))) ∧ Hid (Below V.heap.size V w')) := fun V hv => ocopied_any a ca xs V (sx.later (bt HX.out.2.2.2 hv)) lx
  have HC2 : Hid (∀ V, Below X.heap.size X V → Calls Try.prog 37 #[.slice c us.length cc] V fun e w' => ∃ a' c', e = .returned (.slice a' us.length c') ∧ Hid (w'.ownsRow V.heap.size 45 1 (.slice a' us.length c') us.length (us.map (Value.int .u32))) ∧ Hid (Below V.heap.size V w')) := fun V hv => ocopied_any c cc us V (su.later (bt HX.out.2.2.2 hv)) lu
  have HK : Hid (∀ V, Below X.heap.size X V → V.cell? ⟨w.heap.size, 0, none⟩ = some (.bool n) ∧ V.cell? ⟨w.heap.size, 1, none⟩ = some (.slice a xs.length ca) ∧ V.cell? ⟨w.heap.size + 1, 1, none⟩ = some (.slice c us.length cc)) := fun V hv => ⟨(HX.out.1.later hv HX.out.1.lt).cell 0, (HX.out.1.later hv HX.out.1.lt).cell 1, (HX.out.2.1.later hv HX.out.2.1.lt).cell 1⟩
  have HKP : Hid (∀ V, Below X.heap.size X V → ∀ (v0 v1 v2 : Value), ((((V.setCell ⟨w.heap.size + 1 + 1, 0, none⟩ v0).setCell ⟨w.heap.size + 1 + 1, 1, none⟩ v1).setCell ⟨w.heap.size + 1 + 1, 2, none⟩ v2).cell? ⟨w.heap.size, 0, none⟩ = some (.bool n) ∧ (((V.setCell ⟨w.heap.size + 1 + 1, 0, none⟩ v0).setCell ⟨w.heap.size + 1 + 1, 1, none⟩ v1).setCell ⟨w.heap.size + 1 + 1, 2, none⟩ v2).cell? ⟨w.heap.size, 1, none⟩ = some (.slice a xs.length ca) ∧ (((V.setCell ⟨w.heap.size + 1 + 1, 0, none⟩ v0).setCell ⟨w.heap.size + 1 + 1, 1, none⟩ v1).setCell ⟨w.heap.size + 1 + 1, 2, none⟩ v2).cell? ⟨w.heap.size + 1, 1, none⟩ = some (.slice c us.length cc))) := fun V hv v0 v1 v2 => by
    have h := box_far3 (HX.out.1.later hv HX.out.1.lt) (show w.heap.size ≠ w.heap.size + 1 + 1 by omega) v0 v1 v2
    have h' := box_far3 (HX.out.2.1.later hv HX.out.2.1.lt) (show w.heap.size + 1 ≠ w.heap.size + 1 + 1 by omega) v0 v1 v2
    exact ⟨h.cell 0, h.cell 1, h'.cell 1⟩
  have HM : Hid (∀ V, Below X.heap.size X V → V.cell? ⟨w.heap.size + 1 + 1, 0, none⟩ = some (.bool false) ∧ V.cell? ⟨w.heap.size + 1 + 1, 1, none⟩ = some (.slice none 0 0) ∧ V.cell? ⟨w.heap.size + 1 + 1, 2, none⟩ = some (.slice none 0 0) ∧ V.frozen? ⟨w.heap.size + 1 + 1, 0, none⟩ = false ∧ V.frozen? ⟨w.heap.size + 1 + 1, 1, none⟩ = false ∧ V.frozen? ⟨w.heap.size + 1 + 1, 2, none⟩ = false) := fun V hv => by
    have h := HX.out.2.2.1.later hv HX.out.2.2.1.lt
    exact ⟨h.cell 0, h.cell 1, h.cell 2, h.free 0, h.free 1, h.free 2⟩
  have hd0 := hid (Below.refl X.heap.size X).drew
  have hs0 := HK.out _ hd0.out
  clear sx su lx lu
  go_enter Try.func29, Try.ntmps29
  go_wp2_with fail
  go_region_held3 (fun V : World => V.cell? ⟨w.heap.size, 0, none⟩ = some (.bool n) ∧ V.cell? ⟨w.heap.size, 1, none⟩ = some (.slice a xs.length ca) ∧ V.cell? ⟨w.heap.size + 1, 1, none⟩ = some (.slice c us.length cc)) (first | exact hsB | exact hsA | exact hs0 | exact HKP.out _ hbB.out _ _ _)
    (first
      | (go_at_call 37; (with_reducible refine Calls.mono (HC2.out _ hbA.out) ?_); rintro e w2 ⟨a2, c2, rfl, o2, b2⟩; have hbB := hid (bt hbA.out b2.out); have hsB := HK.out _ hbB.out; obtain ⟨m0, m1, m2, f0, f1, f2⟩ := HM.out _ hbB.out)
      | (go_at_call 37; (with_reducible refine Calls.mono (HC1.out _ hd0.out) ?_); rintro e w1 ⟨a1, c1, rfl, o1, b1⟩; have hbA := hid (bt hd0.out b1.out); have hsA := HK.out _ hbA.out))
  have HBX := hid (HX.out.2.2.1.later hbB.out HX.out.2.2.1.lt)
  have HBW := hid (bt HX.out.2.2.2 hbB.out)
  have HO1 := hid (owns_later o1.out b2.out)
  have HO2 := hid o2.out
  have HL1 : Hid (Lies (.slice a1 xs.length c1) w.heap.size w1.heap.size) := fun g hg => ⟨Nat.le_trans HX.out.2.2.2.size (o1.out.lt g hg).1, (o1.out.lt g hg).2⟩
  have HL2 : Hid (Lies (.slice a2 us.length c2) w1.heap.size w2.heap.size) := fun g hg => ⟨(o2.out.lt g hg).1, (o2.out.lt g hg).2⟩
  have hXs : w.heap.size + 1 + 1 < X.heap.size := HX.out.2.2.1.lt
  have h1s : X.heap.size ≤ w1.heap.size := hbA.out.size
  have h2s : w1.heap.size ≤ w2.heap.size := b2.out.size
  have hwX : w.heap.size ≤ X.heap.size := HX.out.2.2.2.size
  clear hs0 hsA hsB hd0 o1 o2 b1 b2 hbA hbB HK HKP HM HC1 HC2
  go_wp2_with fail
  have B1 := box_put3 HBX.out (.bool n) (.slice a1 xs.length c1) (.slice a2 us.length c2)
  have e1 : ∀ g, (Value.slice a1 xs.length c1).ownBlock = some g → g ≠ w.heap.size + 1 + 1 := fun g hg => by have := (HO1.out.lt g hg).1; have e : X.drew.heap.size = X.heap.size := rfl; omega
  have e2 : ∀ g, (Value.slice a2 us.length c2).ownBlock = some g → g ≠ w.heap.size + 1 + 1 := fun g hg => by have := (HO2.out.lt g hg).1; omega
  have V1 := own_put3' HO1.out _ e1 (.bool n) (.slice a1 xs.length c1) (.slice a2 us.length c2)
  have U1 := own_put3' HO2.out _ e2 (.bool n) (.slice a1 xs.length c1) (.slice a2 us.length c2)
  refine bodyPost_ret (results_cell_row (by rfl) _ _ (w.heap.size + 1 + 1) 33 _ (0, 0) _ (by rfl) B1 Try.underlying33 rfl (by kernel_rfl)) rfl ?_
  refine ⟨a1, c1, a2, c2, rfl, ⟨owns_base V1 hwX, owns_base U1 (by omega)⟩, below_put3 HBW.out _ (by omega) _ _ _, ?_⟩
  exact ⟨w1.heap.size, by omega, by simp [World.setCell]; omega, HL1.out, fun g hg => ⟨(HL2.out g hg).1, by have := (HL2.out g hg).2; simp [World.setCell]; omega⟩⟩

/-- number: the complex fraction of a power in two pieces, in new memory. -/
def ONum (w : World) (g h : G6) (x : Ending) (w' : World) : Prop := ∃ a1 c1 a2 c2 a3 c3 a4 c4, x = .returned (.agg #[.bool g.n, .slice a1 g.xs.length c1, .slice a2 h.xs.length c2, .bool g.m, .slice a3 g.us.length c3, .slice a4 h.xs.length c4]) ∧ Hid (w'.ownsRow w.heap.size 45 1 (.slice a1 g.xs.length c1) g.xs.length (g.xs.map (Value.int .u32)) ∧ w'.ownsRow w.heap.size 45 1 (.slice a2 h.xs.length c2) h.xs.length (h.xs.map (Value.int .u32)) ∧ w'.ownsRow w.heap.size 45 1 (.slice a3 g.us.length c3) g.us.length (g.us.map (Value.int .u32)) ∧ w'.ownsRow w.heap.size 45 1 (.slice a4 h.xs.length c4) h.xs.length (h.xs.map (Value.int .u32))) ∧ Hid (Below w.heap.size w w') ∧ Hid (∃ W1, Cut w (.slice a1 g.xs.length c1) (.slice a2 h.xs.length c2) W1 ∧ Cut W1 (.slice a3 g.us.length c3) (.slice a4 h.xs.length c4) w')
set_option maxHeartbeats 3200000 in
set_option maxRecDepth 100000 in
theorem onumber_any (g h : G6) (w : World) (sg1 : Sl w (.slice g.a g.xs.length g.ca) g.xs) (sg2 : Sl w (.slice g.c g.us.length g.cc) g.us) (sh : Sl w (.slice h.a h.xs.length h.ca) h.xs) (lg1 : g.xs.length ≤ 1099511627776) (lg2 : g.us.length ≤ 1099511627776) (lh : h.xs.length ≤ 1099511627776) :
    Calls Try.prog 19 #[.agg #[.bool g.n, .slice g.a g.xs.length g.ca, .slice g.b g.ys.length g.cb, .bool g.m, .slice g.c g.us.length g.cc, .slice g.d g.vs.length g.cd, .bool h.n, .slice h.a h.xs.length h.ca, .slice h.b h.ys.length h.cb, .bool h.m, .slice h.c h.us.length h.cc, .slice h.d h.vs.length h.cd]] w (ONum w g h) := by
  obtain ⟨X, hX⟩ : ∃ X, (w.alloc (.cells #[.bool g.n, .slice g.a g.xs.length g.ca, .slice g.b g.ys.length g.cb, .bool g.m, .slice g.c g.us.length g.cc, .slice g.d g.vs.length g.cd, .bool h.n, .slice h.a h.xs.length h.ca, .slice h.b h.ys.length h.cb, .bool h.m, .slice h.c h.us.length h.cc, .slice h.d h.vs.length h.cd] 52)).alloc (.cells #[.bool false, .slice none 0 0, .slice none 0 0, .bool false, .slice none 0 0, .slice none 0 0] 35) = X := ⟨_, rfl⟩
  have HB : Hid (Below w.heap.size w X) := by rw [← hX]; exact bt (alloc_later _ _) (alloc_later _ _)
  have HP : Hid (Box X w.heap.size 52 #[.bool g.n, .slice g.a g.xs.length g.ca, .slice g.b g.ys.length g.cb, .bool g.m, .slice g.c g.us.length g.cc, .slice g.d g.vs.length g.cd, .bool h.n, .slice h.a h.xs.length h.ca, .slice h.b h.ys.length h.cb, .bool h.m, .slice h.c h.us.length h.cc, .slice h.d h.vs.length h.cd]) := by rw [← hX]; exact (Box.made w _ _).later (alloc_later _ _) (Box.made w _ _).lt
  have HZ : Hid (Box X (w.heap.size + 1) 35 #[.bool false, .slice none 0 0, .slice none 0 0, .bool false, .slice none 0 0, .slice none 0 0]) := by
    have q := Box.made (w.alloc (.cells #[.bool g.n, .slice g.a g.xs.length g.ca, .slice g.b g.ys.length g.cb, .bool g.m, .slice g.c g.us.length g.cc, .slice g.d g.vs.length g.cd, .bool h.n, .slice h.a h.xs.length h.ca, .slice h.b h.ys.length h.cb, .bool h.m, .slice h.c h.us.length h.cc, .slice h.d h.vs.length h.cd] 52)) 35 #[.bool false, .slice none 0 0, .slice none 0 0, .bool false, .slice none 0 0, .slice none 0 0]
    rw [show (w.alloc (.cells #[.bool g.n, .slice g.a g.xs.length g.ca, .slice g.b g.ys.length g.cb, .bool g.m, .slice g.c g.us.length g.cc, .slice g.d g.vs.length g.cd, .bool h.n, .slice h.a h.xs.length h.ca, .slice h.b h.ys.length h.cb, .bool h.m, .slice h.c h.us.length h.cc, .slice h.d h.vs.length h.cd] 52)).heap.size = w.heap.size + 1 by simp, hX] at q
    exact q
  have HK : Hid (∀ V, Below X.heap.size X V → V.cell? ⟨w.heap.size, 0, none⟩ = some (.bool g.n) ∧ V.cell? ⟨w.heap.size, 1, none⟩ = some (.slice g.a g.xs.length g.ca) ∧ V.cell? ⟨w.heap.size, 2, none⟩ = some (.slice g.b g.ys.length g.cb) ∧ V.cell? ⟨w.heap.size, 3, none⟩ = some (.bool g.m) ∧ V.cell? ⟨w.heap.size, 4, none⟩ = some (.slice g.c g.us.length g.cc) ∧ V.cell? ⟨w.heap.size, 5, none⟩ = some (.slice g.d g.vs.length g.cd) ∧ V.cell? ⟨w.heap.size, 6, none⟩ = some (.bool h.n) ∧ V.cell? ⟨w.heap.size, 7, none⟩ = some (.slice h.a h.xs.length h.ca) ∧ V.cell? ⟨w.heap.size, 8, none⟩ = some (.slice h.b h.ys.length h.cb)) := fun V hv => by
    have q := HP.out.later hv HP.out.lt
    exact ⟨q.cell 0, q.cell 1, q.cell 2, q.cell 3, q.cell 4, q.cell 5, q.cell 6, q.cell 7, q.cell 8⟩
  have HKB : Hid (∀ V, Box V w.heap.size 52 #[.bool g.n, .slice g.a g.xs.length g.ca, .slice g.b g.ys.length g.cb, .bool g.m, .slice g.c g.us.length g.cc, .slice g.d g.vs.length g.cd, .bool h.n, .slice h.a h.xs.length h.ca, .slice h.b h.ys.length h.cb, .bool h.m, .slice h.c h.us.length h.cc, .slice h.d h.vs.length h.cd] → V.cell? ⟨w.heap.size, 0, none⟩ = some (.bool g.n) ∧ V.cell? ⟨w.heap.size, 1, none⟩ = some (.slice g.a g.xs.length g.ca) ∧ V.cell? ⟨w.heap.size, 2, none⟩ = some (.slice g.b g.ys.length g.cb) ∧ V.cell? ⟨w.heap.size, 3, none⟩ = some (.bool g.m) ∧ V.cell? ⟨w.heap.size, 4, none⟩ = some (.slice g.c g.us.length g.cc) ∧ V.cell? ⟨w.heap.size, 5, none⟩ = some (.slice g.d g.vs.length g.cd) ∧ V.cell? ⟨w.heap.size, 6, none⟩ = some (.bool h.n) ∧ V.cell? ⟨w.heap.size, 7, none⟩ = some (.slice h.a h.xs.length h.ca) ∧ V.cell? ⟨w.heap.size, 8, none⟩ = some (.slice h.b h.ys.length h.cb)) := fun V q => ⟨q.cell 0, q.cell 1, q.cell 2, q.cell 3, q.cell 4, q.cell 5, q.cell 6, q.cell 7, q.cell 8⟩
  have HV1 : Hid (∀ V, Below X.heap.size X V → Calls Try.prog 29 #[.agg #[.bool g.n, .slice g.a g.xs.length g.ca, .slice g.b g.ys.length g.cb], .agg #[.bool h.n, .slice h.a h.xs.length h.ca, .slice h.b h.ys.length h.cb]] V fun e w' => ∃ a1 c1 a2 c2, e = .returned (.agg #[.bool g.n, .slice a1 g.xs.length c1, .slice a2 h.xs.length c2]) ∧ Hid ((w'.ownsRow V.heap.size 45 1 (.slice a1 g.xs.length c1) g.xs.length (g.xs.map (Value.int .u32)) ∧ w'.ownsRow V.heap.size 45 1 (.slice a2 h.xs.length c2) h.xs.length (h.xs.map (Value.int .u32))) ∧ Below V.heap.size V w' ∧ Cut V (.slice a1 g.xs.length c1) (.slice a2 h.xs.length c2) w')) := fun V hv => by
    refine Calls.mono (oover_any _ _ _ _ _ _ _ _ _ _ _ _ _ _ V (sg1.later (bt HB.out hv)) (sh.later (bt HB.out hv)) lg1 lh) ?_
    rintro e w' ⟨a1, c1, a2, c2, rfl, ho, hb, hc⟩
    exact ⟨a1, c1, a2, c2, rfl, ho, hb, hc⟩
  have HV2 : Hid (∀ V, Below X.heap.size X V → Calls Try.prog 29 #[.agg #[.bool g.m, .slice g.c g.us.length g.cc, .slice g.d g.vs.length g.cd], .agg #[.bool h.n, .slice h.a h.xs.length h.ca, .slice h.b h.ys.length h.cb]] V fun e w' => ∃ a1 c1 a2 c2, e = .returned (.agg #[.bool g.m, .slice a1 g.us.length c1, .slice a2 h.xs.length c2]) ∧ Hid ((w'.ownsRow V.heap.size 45 1 (.slice a1 g.us.length c1) g.us.length (g.us.map (Value.int .u32)) ∧ w'.ownsRow V.heap.size 45 1 (.slice a2 h.xs.length c2) h.xs.length (h.xs.map (Value.int .u32))) ∧ Below V.heap.size V w' ∧ Cut V (.slice a1 g.us.length c1) (.slice a2 h.xs.length c2) w')) := fun V hv => by
    refine Calls.mono (oover_any _ _ _ _ _ _ _ _ _ _ _ _ _ _ V (sg2.later (bt HB.out hv)) (sh.later (bt HB.out hv)) lg2 lh) ?_
    rintro e w' ⟨a1, c1, a2, c2, rfl, ho, hb, hc⟩
    exact ⟨a1, c1, a2, c2, rfl, ho, hb, hc⟩
  have hd0 := hid (Below.refl X.heap.size X).drew
  have hs0 := HK.out _ hd0.out
  have hsz := HB.out.size
  clear sg1 sg2 sh lg1 lg2 lh
  go_enter Try.func19, Try.ntmps19
  go_wp2_with fail
  go_region_held3 (fun V : World => V.cell? ⟨w.heap.size, 0, none⟩ = some (.bool g.n) ∧ V.cell? ⟨w.heap.size, 1, none⟩ = some (.slice g.a g.xs.length g.ca) ∧ V.cell? ⟨w.heap.size, 2, none⟩ = some (.slice g.b g.ys.length g.cb) ∧ V.cell? ⟨w.heap.size, 3, none⟩ = some (.bool g.m) ∧ V.cell? ⟨w.heap.size, 4, none⟩ = some (.slice g.c g.us.length g.cc) ∧ V.cell? ⟨w.heap.size, 5, none⟩ = some (.slice g.d g.vs.length g.cd) ∧ V.cell? ⟨w.heap.size, 6, none⟩ = some (.bool h.n) ∧ V.cell? ⟨w.heap.size, 7, none⟩ = some (.slice h.a h.xs.length h.ca) ∧ V.cell? ⟨w.heap.size, 8, none⟩ = some (.slice h.b h.ys.length h.cb)) (first | exact hsC | exact hsB | exact hsA | exact hs0)
    (first
      | (go_at_call 29; (with_reducible refine Calls.mono (HV2.out _ hbA.out) ?_); rintro e w2 ⟨a3, c3, a4, c4, rfl, ho2⟩; have hbB := hid (bt hbA.out ho2.out.2.1); have hsB := HK.out _ hbB.out; obtain ⟨A0, A1, A2, A3, A4, A5, k0, k1, k2, k3, k4, k5, ⟨r0, r1, r2, r3, r4, r5⟩, ⟨f0, f1, f2, f3, f4, f5⟩, HA5⟩ := rchain6 (HZ.out.later hbB.out HZ.out.lt) (by decide) (.bool g.n) (.slice a1 g.xs.length c1) (.slice a2 h.xs.length c2) (.bool g.m) (.slice a3 g.us.length c3) (.slice a4 h.xs.length c4); have hsC := HKB.out _ (HA5.out.2.1 _ _ _ (by omega) (HP.out.later hbB.out HP.out.lt)))
      | (go_at_call 29; (with_reducible refine Calls.mono (HV1.out _ hd0.out) ?_); rintro e w1 ⟨a1, c1, a2, c2, rfl, ho1⟩; have hbA := hid (bt hd0.out ho1.out.2.1); have hsA := HK.out _ hbA.out))
  have h1 := hbA.out.size
  have h2 := ho2.out.2.1.size
  have h3 := HA5.out.2.2.2.2
  go_wp2_with fail
  refine bodyPost_ret (results_cell_row (by rfl) _ _ (w.heap.size + 1) 35 _ (0, 0) _ (by rfl) HA5.out.1 Try.underlying35 rfl (by kernel_rfl)) rfl ?_
  have b12 := ho2.out.2.1
  have ho2' := ho2.out.1
  refine ⟨a1, c1, a2, c2, a3, c3, a4, c4, rfl, ⟨HA5.out.2.2.1 _ _ _ _ (owns_base (owns_later ho1.out.1.1 b12) hsz), HA5.out.2.2.1 _ _ _ _ (owns_base (owns_later ho1.out.1.2 b12) hsz), HA5.out.2.2.1 _ _ _ _ (owns_base ho2'.1 (by omega)), HA5.out.2.2.1 _ _ _ _ (owns_base ho2'.2 (by omega))⟩, HA5.out.2.2.2.1 _ _ (by omega) (bt HB.out hbB.out), w1, ho1.out.2.2.up hsz (Nat.le_refl _), ho2.out.2.2.up (Nat.le_refl _) (by omega)⟩
end Go.Proofs.Ytkkehddpblkegaa

/- package rotor: first, Of. -/
namespace Go.Proofs.Ytkkehddpblkegaa
open Go.RowKit
set_option linter.unusedVariables false
set_option linter.unusedSimpArgs false

theorem osq (f : Int) (h : f.natAbs ≤ 1000) : 0 ≤ f * f ∧ f * f ≤ 1000000 := by
  have h1 : -1000 ≤ f := by omega
  have h2 : f ≤ 1000 := by omega
  have e : ((f.natAbs * f.natAbs : Nat) : Int) = f * f := Int.natAbs_mul_self
  have h3 : f.natAbs * f.natAbs ≤ 1000 * 1000 := Nat.mul_le_mul h h
  rw [← e]
  omega
theorem opr (f n : Int) (h : f.natAbs ≤ 1000) (g : n.natAbs ≤ 1000) : -1000000 ≤ f * n ∧ f * n ≤ 1000000 := by
  have h3 : (f * n).natAbs ≤ 1000 * 1000 := by rw [Int.natAbs_mul]; exact Nat.mul_le_mul h g
  omega
/-- The number of a rotor, in lowest terms: its parts' Nums, and their Den. -/
def oRe (f n : Int) : Int := if (f * f + n * n) % 2 = 0 then (f * f - n * n) / 2 else f * f - n * n
def oIm (f n : Int) : Int := if (f * f + n * n) % 2 = 0 then f * n else 2 * (f * n)
def oNm (f n : Int) : Int := if (f * f + n * n) % 2 = 0 then (f * f + n * n) / 2 else f * f + n * n

def OFst (w : World) (f n : Int) (x : Ending) (w' : World) : Prop := ∃ g h : G6, x = .returned (.agg #[.bool g.n, .slice g.a g.xs.length g.ca, .slice g.b g.ys.length g.cb, .bool g.m, .slice g.c g.us.length g.cc, .slice g.d g.vs.length g.cd, .bool h.n, .slice h.a h.xs.length h.ca, .slice h.b h.ys.length h.cb, .bool h.m, .slice h.c h.us.length h.cc, .slice h.d h.vs.length h.cd]) ∧ Hid (g.Ow w' w.heap.size ∧ h.Ow w' w.heap.size) ∧ Hid (g.Is (Rat.divInt (oRe f n) 1) (Rat.divInt (oIm f n) 1)) ∧ Hid (h.Is (Rat.divInt (oNm f n) 1) (Rat.divInt 0 1)) ∧ Hid (Below w.heap.size w w')
set_option maxHeartbeats 3200000 in
set_option maxRecDepth 100000 in
theorem ofirst_any (f n : Int) (w : World) (hf : 1 ≤ f ∧ f ≤ 1000) (hn : n.natAbs ≤ 1000) :
    Calls Try.prog 18 #[.agg #[.int .i32 f, .int .i32 n]] w (OFst w f n) := by
  obtain ⟨X, hX⟩ : ∃ X, (w.alloc (.cells #[.int .i32 f, .int .i32 n] 25)).alloc (.cells #[.bool false, .slice none 0 0, .slice none 0 0, .bool false, .slice none 0 0, .slice none 0 0, .bool false, .slice none 0 0, .slice none 0 0, .bool false, .slice none 0 0, .slice none 0 0] 52) = X := ⟨_, rfl⟩
  have HB : Hid (Below w.heap.size w X) := by rw [← hX]; exact bt (alloc_later _ _) (alloc_later _ _)
  have HR : Hid (Box X w.heap.size 25 #[.int .i32 f, .int .i32 n]) := by rw [← hX]; exact (Box.made w _ _).later (alloc_later _ _) (Box.made w _ _).lt
  have HZ : Hid (Box X (w.heap.size + 1) 52 #[.bool false, .slice none 0 0, .slice none 0 0, .bool false, .slice none 0 0, .slice none 0 0, .bool false, .slice none 0 0, .slice none 0 0, .bool false, .slice none 0 0, .slice none 0 0]) := by
    have q := Box.made (w.alloc (.cells #[.int .i32 f, .int .i32 n] 25)) 52 #[.bool false, .slice none 0 0, .slice none 0 0, .bool false, .slice none 0 0, .slice none 0 0, .bool false, .slice none 0 0, .slice none 0 0, .bool false, .slice none 0 0, .slice none 0 0]
    rw [show (w.alloc (.cells #[.int .i32 f, .int .i32 n] 25)).heap.size = w.heap.size + 1 by simp, hX] at q
    exact q
  have k0 : X.cell? ⟨w.heap.size, 0, none⟩ = some (.int .i32 f) := HR.out.cell 0
  have k1 : X.cell? ⟨w.heap.size, 1, none⟩ = some (.int .i32 n) := HR.out.cell 1
  have hF := osq f (by omega)
  have hN := osq n hn
  have hP := opr f n (by omega) hn
  have hn0 : -1000 ≤ n := by omega
  have hn1 : n ≤ 1000 := by omega
  have hQ : 2 * f * n = 2 * (f * n) := Int.mul_assoc 2 f n
  clear hn
  go_enter Try.func18, Try.ntmps18
  go_wp2_with fail
  go_quiet (fail)
  have HBN := hid (bdrewN (Below.refl X.heap.size X) nq)
  generalize X.drewN nq = Y at *
  by_cases hpar : (f * f + n * n) % 2 = 0
  · have hpt : Int.tmod (f * f + n * n) 2 = 0 := by rw [Int.tmod_eq_emod_of_nonneg (by omega)]; exact hpar
    have ht1 : Int.tdiv (f * f - n * n) 2 = (f * f - n * n) / 2 := by
      obtain ⟨k, hk⟩ : ∃ k, f * f - n * n = 2 * k := ⟨(f * f - n * n) / 2, by omega⟩
      rw [hk, Int.mul_tdiv_cancel_left _ (by decide), Int.mul_ediv_cancel_left _ (by decide)]
    have ht2 : Int.tdiv (2 * f * n) 2 = f * n := by rw [hQ, Int.mul_tdiv_cancel_left _ (by decide)]
    have ht3 : Int.tdiv (f * f + n * n) 2 = (f * f + n * n) / 2 := by rw [Int.tdiv_eq_ediv_of_nonneg (by omega)]
    have HC1 := hid (oInt_any ((f * f - n * n) / 2) (f * n) Y (by omega) (by omega) (by omega) (by omega))
    have HC2 := hid (fun V => oInt_any ((f * f + n * n) / 2) 0 V (by omega) (by omega) (by omega) (by omega))
    have E1 : Hid (oRe f n = (f * f - n * n) / 2 ∧ oIm f n = f * n ∧ oNm f n = (f * f + n * n) / 2) := by
      unfold oRe oIm oNm
      exact ⟨by rw [if_pos hpar], by rw [if_pos hpar], by rw [if_pos hpar]⟩
    go_wp2_with fail
    refine Calls.mono HC1.out ?_
    rintro e w1 ⟨g, rfl, hog, hig, hb1⟩
    have HD := hid (HC2.out w1)
    clear HC1 HC2
    go_wp2_with fail
    refine Calls.mono HD.out ?_
    rintro e w2 ⟨h, rfl, hoh, hih, hb2⟩
    clear HD
    have HBB := hid (bt HBN.out (bt hb1.out hb2.out))
    obtain ⟨A0, A1, A2, A3, A4, A5, A6, A7, A8, A9, A10, A11, q0, q1, q2, q3, q4, q5, q6, q7, q8, q9, q10, q11, ⟨r0, r1, r2, r3, r4, r5, r6, r7, r8, r9, r10, r11⟩, ⟨f0, f1, f2, f3, f4, f5, f6, f7, f8, f9, f10, f11⟩, HA⟩ := rchain12 (HZ.out.later HBB.out HZ.out.lt) (by decide) (.bool g.n) (.slice g.a g.xs.length g.ca) (.slice g.b g.ys.length g.cb) (.bool g.m) (.slice g.c g.us.length g.cc) (.slice g.d g.vs.length g.cd) (.bool h.n) (.slice h.a h.xs.length h.ca) (.slice h.b h.ys.length h.cb) (.bool h.m) (.slice h.c h.us.length h.cc) (.slice h.d h.vs.length h.cd)
    go_wp2_with fail
    refine bodyPost_ret (results_cell_row (by rfl) _ _ (w.heap.size + 1) 52 _ (0, 0) _ (by rfl) HA.out.1 Try.underlying52 rfl (by kernel_rfl)) rfl ?_
    have z1 := HB.out.size
    have z2 := HBN.out.size
    have z3 := hb1.out.size
    have P := HA.out.2.2.1
    have o1 := (hog.out.later hb2.out).base (show w.heap.size ≤ Y.heap.size by omega)
    have o2 := hoh.out.base (show w.heap.size ≤ w1.heap.size by omega)
    refine ⟨g, h, rfl, ⟨⟨P _ _ _ _ o1.1, P _ _ _ _ o1.2.1, P _ _ _ _ o1.2.2.1, P _ _ _ _ o1.2.2.2⟩, ⟨P _ _ _ _ o2.1, P _ _ _ _ o2.2.1, P _ _ _ _ o2.2.2.1, P _ _ _ _ o2.2.2.2⟩⟩, ?_, ?_, HA.out.2.2.2.1 _ _ (by omega) (bt HB.out HBB.out)⟩
    · rw [E1.out.1, E1.out.2.1]; exact hig
    · rw [E1.out.2.2]; exact hih
  · have hpt : Int.tmod (f * f + n * n) 2 = 1 := by rw [Int.tmod_eq_emod_of_nonneg (by omega)]; omega
    have HC1 := hid (oInt_any (f * f - n * n) (2 * (f * n)) Y (by omega) (by omega) (by omega) (by omega))
    have HC2 := hid (fun V => oInt_any (f * f + n * n) 0 V (by omega) (by omega) (by omega) (by omega))
    have E1 : Hid (oRe f n = f * f - n * n ∧ oIm f n = 2 * (f * n) ∧ oNm f n = f * f + n * n) := by
      unfold oRe oIm oNm
      exact ⟨by rw [if_neg hpar], by rw [if_neg hpar], by rw [if_neg hpar]⟩
    go_wp2_with fail
    refine Calls.mono HC1.out ?_
    rintro e w1 ⟨g, rfl, hog, hig, hb1⟩
    have HD := hid (HC2.out w1)
    clear HC1 HC2
    go_wp2_with fail
    refine Calls.mono HD.out ?_
    rintro e w2 ⟨h, rfl, hoh, hih, hb2⟩
    clear HD
    have HBB := hid (bt HBN.out (bt hb1.out hb2.out))
    obtain ⟨A0, A1, A2, A3, A4, A5, A6, A7, A8, A9, A10, A11, q0, q1, q2, q3, q4, q5, q6, q7, q8, q9, q10, q11, ⟨r0, r1, r2, r3, r4, r5, r6, r7, r8, r9, r10, r11⟩, ⟨f0, f1, f2, f3, f4, f5, f6, f7, f8, f9, f10, f11⟩, HA⟩ := rchain12 (HZ.out.later HBB.out HZ.out.lt) (by decide) (.bool g.n) (.slice g.a g.xs.length g.ca) (.slice g.b g.ys.length g.cb) (.bool g.m) (.slice g.c g.us.length g.cc) (.slice g.d g.vs.length g.cd) (.bool h.n) (.slice h.a h.xs.length h.ca) (.slice h.b h.ys.length h.cb) (.bool h.m) (.slice h.c h.us.length h.cc) (.slice h.d h.vs.length h.cd)
    go_wp2_with fail
    refine bodyPost_ret (results_cell_row (by rfl) _ _ (w.heap.size + 1) 52 _ (0, 0) _ (by rfl) HA.out.1 Try.underlying52 rfl (by kernel_rfl)) rfl ?_
    have z1 := HB.out.size
    have z2 := HBN.out.size
    have z3 := hb1.out.size
    have P := HA.out.2.2.1
    have o1 := (hog.out.later hb2.out).base (show w.heap.size ≤ Y.heap.size by omega)
    have o2 := hoh.out.base (show w.heap.size ≤ w1.heap.size by omega)
    refine ⟨g, h, rfl, ⟨⟨P _ _ _ _ o1.1, P _ _ _ _ o1.2.1, P _ _ _ _ o1.2.2.1, P _ _ _ _ o1.2.2.2⟩, ⟨P _ _ _ _ o2.1, P _ _ _ _ o2.2.1, P _ _ _ _ o2.2.2.1, P _ _ _ _ o2.2.2.2⟩⟩, ?_, ?_, HA.out.2.2.2.1 _ _ (by omega) (bt HB.out HBB.out)⟩
    · rw [E1.out.1, E1.out.2.1]; exact hig
    · rw [E1.out.2.2]; exact hih

/-- What Of tells of a rotor that may be. -/
def OOf (w : World) (f n : Int) (x : Ending) (w' : World) : Prop := ∃ g h : G6, ∃ a1 c1 a2 c2 a3 c3 a4 c4, x = .returned (.tuple #[.agg #[.bool g.n, .slice a1 g.xs.length c1, .slice a2 h.xs.length c2, .bool g.m, .slice a3 g.us.length c3, .slice a4 h.xs.length c4], .int .i64 0]) ∧ Hid (w'.ownsRow w.heap.size 45 1 (.slice a1 g.xs.length c1) g.xs.length (g.xs.map (Value.int .u32)) ∧ w'.ownsRow w.heap.size 45 1 (.slice a2 h.xs.length c2) h.xs.length (h.xs.map (Value.int .u32)) ∧ w'.ownsRow w.heap.size 45 1 (.slice a3 g.us.length c3) g.us.length (g.us.map (Value.int .u32)) ∧ w'.ownsRow w.heap.size 45 1 (.slice a4 h.xs.length c4) h.xs.length (h.xs.map (Value.int .u32))) ∧ Hid (g.Is (Rat.divInt (oRe f n) 1) (Rat.divInt (oIm f n) 1)) ∧ Hid (h.Is (Rat.divInt (oNm f n) 1) (Rat.divInt 0 1)) ∧ Hid (Below w.heap.size w w') ∧ Hid (∃ W1, Cut w (.slice a1 g.xs.length c1) (.slice a2 h.xs.length c2) W1 ∧ Cut W1 (.slice a3 g.us.length c3) (.slice a4 h.xs.length c4) w')
set_option maxHeartbeats 3200000 in
set_option maxRecDepth 100000 in
theorem oOf_good (f n : Int) (w : World) (hr : rOK f n) :
    Calls Try.prog 9 #[.agg #[.int .i32 f, .int .i32 n]] w (OOf w f n) := by
  obtain ⟨X, hX⟩ : ∃ X, (w.alloc (.cells #[.int .i32 f, .int .i32 n] 25)).alloc (.cells #[.bool false, .slice none 0 0, .slice none 0 0, .bool false, .slice none 0 0, .slice none 0 0] 35) = X := ⟨_, rfl⟩
  have HB : Hid (Below w.heap.size w X) := by rw [← hX]; exact bt (alloc_later _ _) (alloc_later _ _)
  have HR : Hid (Box X w.heap.size 25 #[.int .i32 f, .int .i32 n]) := by rw [← hX]; exact (Box.made w _ _).later (alloc_later _ _) (Box.made w _ _).lt
  have HZ : Hid (Box X (w.heap.size + 1) 35 #[.bool false, .slice none 0 0, .slice none 0 0, .bool false, .slice none 0 0, .slice none 0 0]) := by
    have q := Box.made (w.alloc (.cells #[.int .i32 f, .int .i32 n] 25)) 35 #[.bool false, .slice none 0 0, .slice none 0 0, .bool false, .slice none 0 0, .slice none 0 0]
    rw [show (w.alloc (.cells #[.int .i32 f, .int .i32 n] 25)).heap.size = w.heap.size + 1 by simp, hX] at q
    exact q
  have hin : in32 f n := by unfold rOK at hr; unfold in32; omega
  have HC := hid (ocheck_any f n X hin)
  have h0 : ochk f n = 0 := by unfold ochk; rw [if_pos hr]
  rw [h0] at HC
  have HF := hid (fun V => ofirst_any f n V (by unfold rOK at hr; omega) (by unfold rOK at hr; omega))
  have k0 : X.cell? ⟨w.heap.size, 0, none⟩ = some (.int .i32 f) := HR.out.cell 0
  have k1 : X.cell? ⟨w.heap.size, 1, none⟩ = some (.int .i32 n) := HR.out.cell 1
  clear h0 hin hr
  go_enter Try.func9, Try.ntmps9
  go_wp2_with fail
  clear hX
  refine Calls.mono HC.out ?_
  rintro e w1 ⟨rfl, hb1⟩
  have HB1 := hid hb1
  clear hb1 k0 k1 HC
  have k0 : w1.cell? ⟨w.heap.size, 0, none⟩ = some (.int .i32 f) := (HR.out.later HB1.out HR.out.lt).cell 0
  have k1 : w1.cell? ⟨w.heap.size, 1, none⟩ = some (.int .i32 n) := (HR.out.later HB1.out HR.out.lt).cell 1
  have HD := hid (HF.out w1)
  clear HF
  go_wp2_with fail
  refine Calls.mono HD.out ?_
  rintro e w2 ⟨g, h, rfl, ho2, hg, hh, hb2⟩
  have sg := ho2.out.1.sl hg.out
  have sh := ho2.out.2.sl hh.out
  have lg := hg.out.len
  have lh := hh.out.len
  have HN := hid (onumber_any g h w2 sg.1 sg.2.2.1 sh.1 (by omega) (by omega) (by omega))
  clear HD sg sh lg lh k0 k1
  go_wp2_with fail
  refine Calls.mono HN.out ?_
  rintro e w3 ⟨a1, c1, a2, c2, a3, c3, a4, c4, rfl, ho3, hb3, hc3⟩
  clear HN
  have HBB := hid (bt HB1.out (bt hb2.out hb3.out))
  obtain ⟨A0, A1, A2, A3, A4, A5, q0, q1, q2, q3, q4, q5, ⟨r0, r1, r2, r3, r4, r5⟩, ⟨f0, f1, f2, f3, f4, f5⟩, HA⟩ := rchain6 (HZ.out.later HBB.out HZ.out.lt) (by decide) (.bool g.n) (.slice a1 g.xs.length c1) (.slice a2 h.xs.length c2) (.bool g.m) (.slice a3 g.us.length c3) (.slice a4 h.xs.length c4)
  go_wp2_with fail
  have z1 := HB.out.size
  have z2 := HB1.out.size
  have z3 := hb2.out.size
  have P := HA.out.2.2.1
  have z4 := HA.out.2.2.2.2
  obtain ⟨W1, hc1, hc2⟩ := hc3.out
  refine bodyPost_ret (gres_run (by rfl) HA.out.1 _ (by rfl)) rfl ?_
  exact ⟨g, h, a1, c1, a2, c2, a3, c3, a4, c4, rfl, ⟨P _ _ _ _ (owns_base ho3.out.1 (by omega)), P _ _ _ _ (owns_base ho3.out.2.1 (by omega)), P _ _ _ _ (owns_base ho3.out.2.2.1 (by omega)), P _ _ _ _ (owns_base ho3.out.2.2.2 (by omega))⟩, hg, hh, HA.out.2.2.2.1 _ _ (by omega) (bt HB.out HBB.out), W1, hc1.up (by omega) (Nat.le_refl _), hc2.up (Nat.le_refl _) (by omega)⟩
end Go.Proofs.Ytkkehddpblkegaa

/- No program: powers of complex whole numbers; each power of a rotor's number is in lowest terms, and none is long. -/
namespace Go.Proofs.Ytkkehddpblkegaa
set_option linter.unusedVariables false

/-- Products and powers of complex whole numbers. -/
def zmul (p q : Int × Int) : Int × Int := (p.1 * q.1 - p.2 * q.2, p.1 * q.2 + p.2 * q.1)
def zpow (p : Int × Int) : Nat → Int × Int
  | 0 => (1, 0)
  | t + 1 => zmul (zpow p t) p
theorem zpow_one (p : Int × Int) : zpow p 1 = p := by
  show zmul (1, 0) p = p
  unfold zmul
  apply Prod.ext
  · show 1 * p.1 - 0 * p.2 = p.1
    omega
  · show 1 * p.2 + 0 * p.1 = p.2
    omega
theorem zpow_norm (p : Int × Int) (t : Nat) : (zpow p t).1 * (zpow p t).1 + (zpow p t).2 * (zpow p t).2 = (p.1 * p.1 + p.2 * p.2) ^ t := by
  induction t with
  | zero => rw [Int.pow_zero]; rfl
  | succ t ih =>
    rw [Int.pow_succ, ← ih]
    show ((zpow p t).1 * p.1 - (zpow p t).2 * p.2) * ((zpow p t).1 * p.1 - (zpow p t).2 * p.2) + ((zpow p t).1 * p.2 + (zpow p t).2 * p.1) * ((zpow p t).1 * p.2 + (zpow p t).2 * p.1) = _
    generalize (zpow p t).1 = x
    generalize (zpow p t).2 = y
    grind
theorem z_mod (f n e M re im : Int) (h : e * (f * f + n * n) = 2 * M) (hre : re = e * (f * f) - M) (him : im = e * (f * n)) (t : Nat) : ∃ u v, (zpow (re, im) (t + 1)).1 = e * f * (2 * e * (f * f)) ^ t * f + M * u ∧ (zpow (re, im) (t + 1)).2 = e * f * (2 * e * (f * f)) ^ t * n + M * v := by
  induction t with
  | zero =>
    refine ⟨-1, 0, ?_, ?_⟩
    · show 1 * re - 0 * im = _
      rw [hre, Int.pow_zero]
      grind
    · show 1 * im + 0 * re = _
      rw [him, Int.pow_zero]
      grind
  | succ t ih =>
    obtain ⟨u, v, h1, h2⟩ := ih
    rw [Int.pow_succ]
    generalize hc : e * f * (2 * e * (f * f)) ^ t = c at h1 h2
    have hc' : e * f * ((2 * e * (f * f)) ^ t * (2 * e * (f * f))) = c * (2 * e * (f * f)) := by rw [← hc, Int.mul_assoc (e * f)]
    rw [hc']
    refine ⟨u * re - v * im - 3 * (c * f), u * im + v * re - c * n, ?_, ?_⟩
    · show (zpow (re, im) (t + 1)).1 * re - (zpow (re, im) (t + 1)).2 * im = _
      rw [h1, h2]
      have k : c * f * (e * (f * f + n * n)) = c * f * (2 * M) := by rw [h]
      have e1 : (c * f + M * u) * re - (c * n + M * v) * im = c * f * re - c * n * im + M * (u * re - v * im) := by grind
      rw [e1, show c * f * re - c * n * im = c * f * (e * (f * f) - M) - c * n * (e * (f * n)) by rw [hre, him]]
      grind
    · show (zpow (re, im) (t + 1)).1 * im + (zpow (re, im) (t + 1)).2 * re = _
      rw [h1, h2]
      have e1 : (c * f + M * u) * im + (c * n + M * v) * re = c * f * im + c * n * re + M * (u * im + v * re) := by grind
      rw [e1, show c * f * im + c * n * re = c * f * (e * (f * n)) + c * n * (e * (f * f) - M) by rw [hre, him]]
      grind
theorem gcd_mul_one {x y z : Int} (h : Int.gcd x z = 1) (g : Int.gcd y z = 1) : Int.gcd (x * y) z = 1 := by
  show Nat.gcd (x * y).natAbs z.natAbs = 1
  rw [Int.natAbs_mul]
  exact Nat.Coprime.mul_left h g
theorem gcd_pow_one {x z : Int} (t : Nat) (h : Int.gcd x z = 1) : Int.gcd (x ^ t) z = 1 := by
  show Nat.gcd (x ^ t).natAbs z.natAbs = 1
  rw [Int.natAbs_pow]
  exact Nat.Coprime.pow_left t h
theorem gcd_one_pow {x z : Int} (t : Nat) (h : Int.gcd x z = 1) : Int.gcd x (z ^ t) = 1 := by
  rw [Int.gcd_comm]
  exact gcd_pow_one t (by rw [Int.gcd_comm]; exact h)
theorem gcd_two_odd {M : Int} (h : M % 2 = 1) : Int.gcd 2 M = 1 := by
  obtain ⟨k, hk⟩ : ∃ k, M = 1 + 2 * k := ⟨M / 2, by omega⟩
  rw [Int.gcd_comm, hk, Int.gcd_add_mul_left_left]
  rfl
/-- A rotor's number: what its parts come from. -/
theorem o_parts {f n : Int} (h : rOK f n) : ∃ e : Int, (e = 1 ∨ e = 2) ∧ e * (f * f + n * n) = 2 * oNm f n ∧ oRe f n = e * (f * f) - oNm f n ∧ oIm f n = e * (f * n) ∧ oNm f n % 2 = 1 ∧ 5 ≤ oNm f n ∧ oNm f n ≤ 2000000 ∧ Int.gcd f (oNm f n) = 1 ∧ Int.gcd n (oNm f n) = 1 := by
  obtain ⟨h1, h2, h3, h4, h5, h6⟩ := h
  have hF := osq f (by omega)
  have hN := osq n h4
  have hg : Int.gcd f n = 1 := by
    show Nat.gcd f.natAbs n.natAbs = 1
    rw [show f.natAbs = f.toNat by omega]; exact h6
  have gf : Int.gcd f (f * f + n * n) = 1 := by
    rw [Int.gcd_comm, Int.add_comm, Int.gcd_add_mul_left_left, Int.gcd_comm]
    rw [Int.gcd_comm]
    exact gcd_mul_one (by rw [Int.gcd_comm]; exact hg) (by rw [Int.gcd_comm]; exact hg)
  have gn : Int.gcd n (f * f + n * n) = 1 := by
    rw [Int.gcd_comm, Int.gcd_add_mul_left_left]
    exact gcd_mul_one hg hg
  have hbig : 5 ≤ f * f + n * n ∧ ((f * f + n * n) % 2 = 0 → 10 ≤ f * f + n * n) := by
    have e2 : ((n.natAbs * n.natAbs : Nat) : Int) = n * n := Int.natAbs_mul_self
    obtain ⟨a, ha⟩ : ∃ a : Nat, f = a := ⟨f.toNat, by omega⟩
    obtain ⟨b, hb⟩ : ∃ b : Nat, n.natAbs = b := ⟨_, rfl⟩
    rw [hb] at e2 h3 h4 h5 h6
    rw [← e2, ha, show (a : Int) * a + ((b * b : Nat) : Int) = ((a * a + b * b : Nat) : Int) by simp]
    rw [ha] at h1 h2 h5 h6
    have h5' : a ≠ b := fun e => h5 (by rw [e])
    have ha1 : 1 ≤ a := by omega
    rcases Nat.lt_or_ge a 2 with q | q
    · have : a = 1 := by omega
      subst this
      have hb2 : 2 ≤ b := by omega
      rcases Nat.lt_or_ge b 3 with r | r
      · have : b = 2 := by omega
        subst this
        decide
      · have := Nat.mul_le_mul r r
        omega
    · rcases Nat.lt_or_ge b 2 with r | r
      · have : b = 1 := by omega
        subst this
        rcases Nat.lt_or_ge a 3 with s | s
        · have : a = 2 := by omega
          subst this
          decide
        · have := Nat.mul_le_mul s s
          omega
      · rcases Nat.lt_or_ge a b with s | s
        · have q1 := Nat.mul_le_mul q q
          have q2 : 3 * 3 ≤ b * b := Nat.mul_le_mul (by omega) (by omega)
          omega
        · have q1 := Nat.mul_le_mul r r
          have q2 : 3 * 3 ≤ a * a := Nat.mul_le_mul (by omega) (by omega)
          omega
  by_cases hp : (f * f + n * n) % 2 = 0
  · have eN : oNm f n = (f * f + n * n) / 2 := by unfold oNm; rw [if_pos hp]
    have eR : oRe f n = (f * f - n * n) / 2 := by unfold oRe; rw [if_pos hp]
    have eI : oIm f n = f * n := by unfold oIm; rw [if_pos hp]
    have odd : f % 2 = 1 ∧ n % 2 = 1 := by
      have m1 : (f * f) % 2 = (f % 2) * (f % 2) % 2 := Int.mul_emod f f 2
      have m2 : (n * n) % 2 = (n % 2) * (n % 2) % 2 := Int.mul_emod n n 2
      have f0 : f % 2 = 0 ∨ f % 2 = 1 := by omega
      have n0 : n % 2 = 0 ∨ n % 2 = 1 := by omega
      rcases f0 with f0 | f0 <;> rcases n0 with n0 | n0 <;> rw [f0] at m1 <;> rw [n0] at m2
      · exfalso
        have d : (2 : Int) ∣ (Int.gcd f n : Int) := Int.dvd_coe_gcd (by omega) (by omega)
        rw [hg] at d
        omega
      · omega
      · omega
      · exact ⟨f0, n0⟩
    obtain ⟨a, ha⟩ : ∃ a, f = 2 * a + 1 := ⟨f / 2, by omega⟩
    obtain ⟨b, hb⟩ : ∃ b, n = 2 * b + 1 := ⟨n / 2, by omega⟩
    have hM : f * f + n * n = 2 * (2 * (a * a + a + b * b + b) + 1) := by rw [ha, hb]; grind
    have dM : oNm f n ∣ f * f + n * n := ⟨2, by rw [eN]; omega⟩
    have g1 : Int.gcd f (oNm f n) = 1 := Nat.Coprime.coprime_dvd_right (Int.natAbs_dvd_natAbs.2 dM) gf
    have g2 : Int.gcd n (oNm f n) = 1 := Nat.Coprime.coprime_dvd_right (Int.natAbs_dvd_natAbs.2 dM) gn
    have := hbig.2 hp
    exact ⟨1, .inl rfl, by rw [eN]; omega, by rw [eN, eR]; omega, by rw [eI]; omega, by rw [eN]; omega, by rw [eN]; omega, by rw [eN]; omega, g1, g2⟩
  · have eN : oNm f n = f * f + n * n := by unfold oNm; rw [if_neg hp]
    have eR : oRe f n = f * f - n * n := by unfold oRe; rw [if_neg hp]
    have eI : oIm f n = 2 * (f * n) := by unfold oIm; rw [if_neg hp]
    exact ⟨2, .inr rfl, by rw [eN], by rw [eN, eR]; omega, eI, by rw [eN]; omega, by rw [eN]; exact hbig.1, by rw [eN]; omega, by rw [eN]; exact gf, by rw [eN]; exact gn⟩
theorem o_size {f n : Int} (h : rOK f n) : oRe f n * oRe f n + oIm f n * oIm f n = oNm f n * oNm f n := by
  obtain ⟨e, he, h1, h2, h3, _⟩ := o_parts h
  generalize oNm f n = M at *
  rw [h2, h3]
  rcases he with rfl | rfl
  · have : 2 * M = f * f + n * n := by omega
    grind
  · have : M = f * f + n * n := by omega
    subst this
    grind
/-- Each power of a rotor's number is in lowest terms. -/
theorem o_low {f n : Int} (h : rOK f n) (t : Nat) : Int.gcd (zpow (oRe f n, oIm f n) t).1 (oNm f n ^ t) = 1 ∧ Int.gcd (zpow (oRe f n, oIm f n) t).2 (oNm f n ^ t) = 1 := by
  cases t with
  | zero => exact ⟨by rw [Int.pow_zero]; exact Int.gcd_one_right _, by rw [Int.pow_zero]; exact Int.gcd_one_right _⟩
  | succ t =>
    obtain ⟨e, he, h1, h2, h3, h4, h5, h6, g1, g2⟩ := o_parts h
    have g0 : Int.gcd 2 (oNm f n) = 1 := gcd_two_odd h4
    have ge : Int.gcd e (oNm f n) = 1 := by
      rcases he with rfl | rfl
      · exact Int.one_gcd
      · exact g0
    obtain ⟨u, v, q1, q2⟩ := z_mod f n e (oNm f n) (oRe f n) (oIm f n) h1 h2 h3 t
    have gc : Int.gcd (e * f * (2 * e * (f * f)) ^ t) (oNm f n) = 1 := gcd_mul_one (gcd_mul_one ge g1) (gcd_pow_one t (gcd_mul_one (gcd_mul_one g0 ge) (gcd_mul_one g1 g1)))
    refine ⟨gcd_one_pow _ ?_, gcd_one_pow _ ?_⟩
    · rw [q1, Int.gcd_add_mul_left_left]; exact gcd_mul_one gc g1
    · rw [q2, Int.gcd_add_mul_left_left]; exact gcd_mul_one gc g2
/-- No power but the power 0 is 1, and none is long. -/
theorem o_big {f n : Int} (h : rOK f n) (t : Nat) : (zpow (oRe f n, oIm f n) t).1.natAbs ≤ (oNm f n).natAbs ^ t ∧ (zpow (oRe f n, oIm f n) t).2.natAbs ≤ (oNm f n).natAbs ^ t := by
  have e := zpow_norm (oRe f n, oIm f n) t
  have e2 : ((oRe f n, oIm f n).1 * (oRe f n, oIm f n).1 + (oRe f n, oIm f n).2 * (oRe f n, oIm f n).2) = oNm f n * oNm f n := o_size h
  rw [e2, Int.mul_pow] at e
  generalize (zpow (oRe f n, oIm f n) t).1 = x at *
  generalize (zpow (oRe f n, oIm f n) t).2 = y at *
  have ex : ((x.natAbs * x.natAbs : Nat) : Int) = x * x := Int.natAbs_mul_self
  have ey : ((y.natAbs * y.natAbs : Nat) : Int) = y * y := Int.natAbs_mul_self
  have eN : (((oNm f n ^ t).natAbs * (oNm f n ^ t).natAbs : Nat) : Int) = oNm f n ^ t * oNm f n ^ t := Int.natAbs_mul_self
  rw [← ex, ← ey, ← eN, Int.natAbs_pow] at e
  generalize (oNm f n).natAbs ^ t = B at *
  have e' : x.natAbs * x.natAbs + y.natAbs * y.natAbs = B * B := by omega
  constructor
  · apply Nat.le_of_not_lt
    intro hlt
    have := Nat.mul_self_lt_mul_self hlt
    omega
  · apply Nat.le_of_not_lt
    intro hlt
    have := Nat.mul_self_lt_mul_self hlt
    omega
end Go.Proofs.Ytkkehddpblkegaa

/- package rotor: Conj, half, Order, of every two rotors. -/
namespace Go.Proofs.Ytkkehddpblkegaa
open Go.RowKit
set_option linter.unusedVariables false

/-- The conjugate, or the fault. -/
def rConj (f n : Int) : Int × Int × Int := if rOK f n then (f, -n, 0) else (0, 0, 150)

set_option maxHeartbeats 1600000 in
set_option maxRecDepth 100000 in
theorem rconj_any (f n : Int) (w : World) (h : in32 f n) :
    Calls Try.prog 12 #[.agg #[.int .i32 f, .int .i32 n]] w fun e w' => e = .returned (.tuple #[.agg #[.int .i32 (rConj f n).1, .int .i32 (rConj f n).2.1], .int .i64 (rConj f n).2.2]) ∧ Below w.heap.size w w' := by
  have HX := hid (boxes2 w 25 #[.int .i32 f, .int .i32 n] #[.int .i32 0, .int .i32 0])
  have HC := hid (fun V => ocheck_any f n V h)
  rcases ochk_or f n with ⟨e0, h0⟩ | ⟨e0, h0⟩
  · have hR : rConj f n = (f, -n, 0) := if_pos h0
    rw [hR]
    rw [e0] at HC
    have hn1 : -1000 ≤ n := by have := h0.2.2.2.1; omega
    have hn2 : n ≤ 1000 := by have := h0.2.2.2.1; omega
    obtain ⟨⟨f0, f1⟩, _⟩ := h
    clear h0 hR e0
    go_enter Try.func12, Try.ntmps12
    go_wp2_with fail
    generalize (w.alloc (.cells #[.int .i32 f, .int .i32 n] 25)).alloc (.cells #[.int .i32 0, .int .i32 0] 25) = X at *
    refine Calls.mono (HC.out X) ?_
    rintro e w1 ⟨rfl, hb1⟩
    obtain ⟨c0, c1, g0, g1⟩ := fbox_facts HX.out.1 hb1
    obtain ⟨c2, c3, g2, g3⟩ := fbox_facts HX.out.2.1 hb1
    have HB := hid (b2 HX.out.2.2 hb1)
    clear HX HC hb1
    go_wp2_with fail
    refine bodyPost_ret (v := .tuple #[.agg #[.int .i32 f, .int .i32 (-n)], .int .i64 0]) (by simp [results, Try.results12, go_sem, c2, c3]) rfl ?_
    exact ⟨rfl, fput2 HB.out _ (by omega) _ _⟩
  · have hR : rConj f n = (0, 0, 150) := if_neg h0
    rw [hR]
    rw [e0] at HC
    clear h0 hR e0 h
    go_enter Try.func12, Try.ntmps12
    go_wp2_with fail
    generalize (w.alloc (.cells #[.int .i32 f, .int .i32 n] 25)).alloc (.cells #[.int .i32 0, .int .i32 0] 25) = X at *
    refine Calls.mono (HC.out X) ?_
    rintro e w1 ⟨rfl, hb1⟩
    obtain ⟨c0, c1, g0, g1⟩ := fbox_facts HX.out.1 hb1
    obtain ⟨c2, c3, g2, g3⟩ := fbox_facts HX.out.2.1 hb1
    have HB := hid (b2 HX.out.2.2 hb1)
    clear HX HC hb1
    go_wp2_with fail
    refine bodyPost_ret (v := .tuple #[.agg #[.int .i32 0, .int .i32 0], .int .i64 150]) (by simp [results, Try.results12, go_sem, c2, c3]) rfl ?_
    first | exact ⟨rfl, HB.out⟩ | exact ⟨rfl, fput2 HB.out _ (by omega) _ _⟩

set_option maxHeartbeats 800000 in
set_option maxRecDepth 100000 in
theorem rhalf_any (f n : Int) (w : World) (h : in32 f n) :
    Calls Try.prog 24 #[.agg #[.int .i32 f, .int .i32 n]] w fun e w' => e = .returned (.int .i64 (if 0 < n then 0 else 1)) ∧ Below w.heap.size w w' := by
  have HX := hid (boxes1 w 25 #[.int .i32 f, .int .i32 n])
  by_cases h0 : 0 < n
  · rw [if_pos h0]
    go_enter Try.func24, Try.ntmps24
    go_wp2_with fail
    go_ret
    exact ⟨rfl, HX.out.2⟩
  · rw [if_neg h0]
    go_enter Try.func24, Try.ntmps24
    go_wp2_with fail
    go_ret
    exact ⟨rfl, HX.out.2⟩
/-- Which one is ahead. -/
def cmpV (x y : Int) : Int := if x < y then -1 else if y < x then 1 else 0

set_option maxHeartbeats 800000 in
set_option maxRecDepth 100000 in
theorem cmpNaNI (x : Int) (w : World) :
    Calls Try.prog 33 #[.int .i64 x] w fun e w' => e = .returned (.bool false) ∧ w' = w := by
  go_enter Try.func33, Try.ntmps33
  go_wp2_with fail
  go_ret
  exact ⟨rfl, rfl⟩

set_option maxHeartbeats 800000 in
set_option maxRecDepth 100000 in
theorem cmpI_any (x y : Int) (w : World) :
    Calls Try.prog 23 #[.int .i64 x, .int .i64 y] w fun e w' => e = .returned (.int .i64 (cmpV x y)) ∧ w' = w := by
  have H1 := hid (fun V => cmpNaNI x V)
  have H2 := hid (fun V => cmpNaNI y V)
  unfold cmpV
  by_cases h1 : x < y
  · rw [if_pos h1]
    go_enter Try.func23, Try.ntmps23
    go_wp2_with fail
    refine Calls.mono (H1.out _) ?_
    rintro e w1 ⟨rfl, rfl⟩
    go_wp2_with fail
    refine Calls.mono (H2.out _) ?_
    rintro e w2 ⟨rfl, rfl⟩
    go_wp2_with fail
    go_ret
    exact ⟨rfl, rfl⟩
  · rw [if_neg h1]
    by_cases h2 : y < x
    · rw [if_pos h2]
      go_enter Try.func23, Try.ntmps23
      go_wp2_with fail
      refine Calls.mono (H1.out _) ?_
      rintro e w1 ⟨rfl, rfl⟩
      go_wp2_with fail
      refine Calls.mono (H2.out _) ?_
      rintro e w2 ⟨rfl, rfl⟩
      go_wp2_with fail
      go_ret
      exact ⟨rfl, rfl⟩
    · rw [if_neg h2]
      go_enter Try.func23, Try.ntmps23
      go_wp2_with fail
      refine Calls.mono (H1.out _) ?_
      rintro e w1 ⟨rfl, rfl⟩
      go_wp2_with fail
      refine Calls.mono (H2.out _) ?_
      rintro e w2 ⟨rfl, rfl⟩
      go_wp2_with fail
      go_ret
      exact ⟨rfl, rfl⟩

set_option maxHeartbeats 800000 in
set_option maxRecDepth 100000 in
theorem cmpNaNJ (x : Int) (w : World) :
    Calls Try.prog 34 #[.int .i32 x] w fun e w' => e = .returned (.bool false) ∧ w' = w := by
  go_enter Try.func34, Try.ntmps34
  go_wp2_with fail
  go_ret
  exact ⟨rfl, rfl⟩

set_option maxHeartbeats 800000 in
set_option maxRecDepth 100000 in
theorem cmpJ_any (x y : Int) (w : World) :
    Calls Try.prog 25 #[.int .i32 x, .int .i32 y] w fun e w' => e = .returned (.int .i64 (cmpV x y)) ∧ w' = w := by
  have H1 := hid (fun V => cmpNaNJ x V)
  have H2 := hid (fun V => cmpNaNJ y V)
  unfold cmpV
  by_cases h1 : x < y
  · rw [if_pos h1]
    go_enter Try.func25, Try.ntmps25
    go_wp2_with fail
    refine Calls.mono (H1.out _) ?_
    rintro e w1 ⟨rfl, rfl⟩
    go_wp2_with fail
    refine Calls.mono (H2.out _) ?_
    rintro e w2 ⟨rfl, rfl⟩
    go_wp2_with fail
    go_ret
    exact ⟨rfl, rfl⟩
  · rw [if_neg h1]
    by_cases h2 : y < x
    · rw [if_pos h2]
      go_enter Try.func25, Try.ntmps25
      go_wp2_with fail
      refine Calls.mono (H1.out _) ?_
      rintro e w1 ⟨rfl, rfl⟩
      go_wp2_with fail
      refine Calls.mono (H2.out _) ?_
      rintro e w2 ⟨rfl, rfl⟩
      go_wp2_with fail
      go_ret
      exact ⟨rfl, rfl⟩
    · rw [if_neg h2]
      go_enter Try.func25, Try.ntmps25
      go_wp2_with fail
      refine Calls.mono (H1.out _) ?_
      rintro e w1 ⟨rfl, rfl⟩
      go_wp2_with fail
      refine Calls.mono (H2.out _) ?_
      rintro e w2 ⟨rfl, rfl⟩
      go_wp2_with fail
      go_ret
      exact ⟨rfl, rfl⟩

theorem small_mul {x y : Int} (h1 : -1000 ≤ x) (h2 : x ≤ 1000) (h3 : -1000 ≤ y) (h4 : y ≤ 1000) : -1000000 ≤ x * y ∧ x * y ≤ 1000000 := by
  have a1 := Int.mul_nonneg (show 0 ≤ 1000 - x by omega) (show 0 ≤ 1000 - y by omega)
  have a2 := Int.mul_nonneg (show 0 ≤ 1000 + x by omega) (show 0 ≤ 1000 + y by omega)
  have a3 := Int.mul_nonneg (show 0 ≤ 1000 - x by omega) (show 0 ≤ 1000 + y by omega)
  have a4 := Int.mul_nonneg (show 0 ≤ 1000 + x by omega) (show 0 ≤ 1000 - y by omega)
  constructor <;> grind
/-- How two rotors stand on the way round, or the first fault. -/
def rOrd (f n g m : Int) : Int × Int := if rOK f n then (if rOK g m then (if cmpV (if 0 < n then 0 else 1) (if 0 < m then 0 else 1) = 0 then (cmpV (n * g) (m * f), 0) else (cmpV (if 0 < n then 0 else 1) (if 0 < m then 0 else 1), 0)) else (0, 150)) else (0, 150)

set_option maxHeartbeats 1600000 in
set_option maxRecDepth 100000 in
theorem rorder_any (f n g m : Int) (w : World) (h : in32 f n) (k : in32 g m) :
    Calls Try.prog 13 #[.agg #[.int .i32 f, .int .i32 n], .agg #[.int .i32 g, .int .i32 m]] w fun e w' => e = .returned (.tuple #[.int .i64 (rOrd f n g m).1, .int .i64 (rOrd f n g m).2]) ∧ Below w.heap.size w w' := by
  have HX := hid (boxes2 w 25 #[.int .i32 f, .int .i32 n] #[.int .i32 g, .int .i32 m])
  have HC1 := hid (fun V => ocheck_any f n V h)
  have HC2 := hid (fun V => ocheck_any g m V k)
  have HH1 := hid (fun V => rhalf_any f n V h)
  have HH2 := hid (fun V => rhalf_any g m V k)
  rcases ochk_or f n with ⟨e0, h0⟩ | ⟨e0, h0⟩
  · rcases ochk_or g m with ⟨e1, h1⟩ | ⟨e1, h1⟩
    · have hR : rOrd f n g m = (if cmpV (if 0 < n then 0 else 1) (if 0 < m then 0 else 1) = 0 then (cmpV (n * g) (m * f), 0) else (cmpV (if 0 < n then 0 else 1) (if 0 < m then 0 else 1), 0)) := by unfold rOrd; rw [if_pos h0, if_pos h1]
      rw [hR]
      rw [e0] at HC1
      rw [e1] at HC2
      have HV1 := hid (fun V => cmpI_any (if 0 < n then 0 else 1) (if 0 < m then 0 else 1) V)
      have HV2 := hid (fun V => cmpJ_any (n * g) (m * f) V)
      generalize (if 0 < n then (0 : Int) else 1) = a at *
      generalize (if 0 < m then (0 : Int) else 1) = b at *
      generalize cmpV a b = c at *
      generalize hc2 : cmpV (n * g) (m * f) = c2 at *
      clear hc2 hR e0 e1
      obtain ⟨A, hA⟩ : ∃ A : Int × Int, (if c = 0 then (c2, (0 : Int)) else (c, 0)) = A := ⟨_, rfl⟩
      have HA0 : Hid (c = 0 → A = (c2, 0)) := fun h => by rw [← hA, if_pos h]
      have HA1 : Hid (¬ c = 0 → A = (c, 0)) := fun h => by rw [← hA, if_neg h]
      rw [hA]
      clear hA
      obtain ⟨p1, p2, p3, p4, p5, _⟩ := h0
      obtain ⟨q1, q2, q3, q4, q5, _⟩ := h1
      have hn : -1000000 ≤ n * g ∧ n * g ≤ 1000000 := small_mul (by omega) (by omega) (by omega) (by omega)
      have hm : -1000000 ≤ m * f ∧ m * f ≤ 1000000 := small_mul (by omega) (by omega) (by omega) (by omega)
      clear p1 p2 p3 p4 p5 q1 q2 q3 q4 q5 h k
      go_enter Try.func13, Try.ntmps13
      go_wp2_with fail
      generalize (w.alloc (.cells #[.int .i32 f, .int .i32 n] 25)).alloc (.cells #[.int .i32 g, .int .i32 m] 25) = X at *
      refine Calls.mono (HC1.out X) ?_
      rintro e w1 ⟨rfl, hb1⟩
      obtain ⟨c0, c1, g0, g1⟩ := fbox_facts HX.out.1 hb1
      obtain ⟨c2', c3, g2, g3⟩ := fbox_facts HX.out.2.1 hb1
      go_wp2_with fail
      refine Calls.mono (HC2.out _) ?_
      rintro e w2 ⟨rfl, hb2⟩
      clear c0 c1 g0 g1 c2' c3 g2 g3
      go_wp2_with fail
      have HF : Hid (∀ V, Below w2.heap.size w2 V → (V.cell? ⟨w.heap.size, 0, none⟩ = some (.int .i32 f) ∧ V.cell? ⟨w.heap.size, 1, none⟩ = some (.int .i32 n) ∧ V.cell? ⟨w.heap.size + 1, 0, none⟩ = some (.int .i32 g) ∧ V.cell? ⟨w.heap.size + 1, 1, none⟩ = some (.int .i32 m))) := fun V hv => by
        obtain ⟨a0, a1, _, _⟩ := fbox_facts HX.out.1 (b2 (b2 hb1 hb2) hv)
        obtain ⟨b0, b1, _, _⟩ := fbox_facts HX.out.2.1 (b2 (b2 hb1 hb2) hv)
        exact ⟨a0, a1, b0, b1⟩
      have HB := hid (b2 HX.out.2.2 (b2 hb1 hb2))
      clear HX hb1 hb2 HC1 HC2
      have hs0 := HF.out _ (Below.refl _ w2).drew
      have hd0 := hid (Below.refl w2.heap.size w2).drew
      have H1 : Hid (∀ ww, Below w2.heap.size w2 ww → Calls Try.prog 24 #[.agg #[.int .i32 f, .int .i32 n]] ww fun e w' => e = .returned (.int .i64 a) ∧ (w'.cell? ⟨w.heap.size, 0, none⟩ = some (.int .i32 f) ∧ w'.cell? ⟨w.heap.size, 1, none⟩ = some (.int .i32 n) ∧ w'.cell? ⟨w.heap.size + 1, 0, none⟩ = some (.int .i32 g) ∧ w'.cell? ⟨w.heap.size + 1, 1, none⟩ = some (.int .i32 m)) ∧ Below w2.heap.size w2 w') := fun ww hv => by
        refine Calls.mono (HH1.out ww) ?_
        rintro e w' ⟨rfl, h⟩
        exact ⟨rfl, HF.out _ (b2 hv h), b2 hv h⟩
      have H2 : Hid (∀ ww, Below w2.heap.size w2 ww → Calls Try.prog 24 #[.agg #[.int .i32 g, .int .i32 m]] ww fun e w' => e = .returned (.int .i64 b) ∧ (w'.cell? ⟨w.heap.size, 0, none⟩ = some (.int .i32 f) ∧ w'.cell? ⟨w.heap.size, 1, none⟩ = some (.int .i32 n) ∧ w'.cell? ⟨w.heap.size + 1, 0, none⟩ = some (.int .i32 g) ∧ w'.cell? ⟨w.heap.size + 1, 1, none⟩ = some (.int .i32 m)) ∧ Below w2.heap.size w2 w') := fun ww hv => by
        refine Calls.mono (HH2.out ww) ?_
        rintro e w' ⟨rfl, h⟩
        exact ⟨rfl, HF.out _ (b2 hv h), b2 hv h⟩
      have H3 : Hid (∀ ww, Below w2.heap.size w2 ww → Calls Try.prog 23 #[.int .i64 a, .int .i64 b] ww fun e w' => e = .returned (.int .i64 c) ∧ (w'.cell? ⟨w.heap.size, 0, none⟩ = some (.int .i32 f) ∧ w'.cell? ⟨w.heap.size, 1, none⟩ = some (.int .i32 n) ∧ w'.cell? ⟨w.heap.size + 1, 0, none⟩ = some (.int .i32 g) ∧ w'.cell? ⟨w.heap.size + 1, 1, none⟩ = some (.int .i32 m)) ∧ Below w2.heap.size w2 w') := fun ww hv => by
        refine Calls.mono (HV1.out ww) ?_
        rintro e w' ⟨rfl, rfl⟩
        exact ⟨rfl, HF.out _ hv, hv⟩
      clear HF HH1 HH2 HV1
      go_region_held3 (fun V : World => V.cell? ⟨w.heap.size, 0, none⟩ = some (.int .i32 f) ∧ V.cell? ⟨w.heap.size, 1, none⟩ = some (.int .i32 n) ∧ V.cell? ⟨w.heap.size + 1, 0, none⟩ = some (.int .i32 g) ∧ V.cell? ⟨w.heap.size + 1, 1, none⟩ = some (.int .i32 m)) (first | exact hs3 | exact hs2 | exact hs1 | exact hs0)
        (first
          | (go_at_call 23; with_reducible refine Calls.mono (H3.out _ hb2) ?_; rintro e v3 ⟨rfl, hs3, hb3⟩)
          | (go_at_call 24; with_reducible refine Calls.mono (H2.out _ hb1) ?_; rintro e v2 ⟨rfl, hs2, hb2⟩)
          | (go_at_call 24; with_reducible refine Calls.mono (H1.out _ hd0.out) ?_; rintro e v1 ⟨rfl, hs1, hb1⟩))
      obtain ⟨c0, c1, c2', c3⟩ := hs3
      replace HB := hid (b2 HB.out hb3)
      clear hs0 hs1 hs2 hb1 hb2 hb3 H1 H2 H3 hd0
      by_cases hc : c = 0
      · obtain rfl := HA0.out hc
        clear HA0 HA1
        subst hc
        go_wp2_with fail
        refine Calls.mono (HV2.out _) ?_
        rintro e v4 ⟨rfl, rfl⟩
        go_wp2_with fail
        refine bodyPost_ret (v := .tuple #[.int .i64 c2, .int .i64 0]) (by simp [results, Try.results13, go_sem]) rfl ?_
        exact ⟨rfl, HB.out⟩
      · obtain rfl := HA1.out hc
        clear HA0 HA1
        go_wp2_with fail
        refine bodyPost_ret (v := .tuple #[.int .i64 c, .int .i64 0]) (by simp [results, Try.results13, go_sem]) rfl ?_
        exact ⟨rfl, HB.out⟩
    · have hR : rOrd f n g m = (0, 150) := by unfold rOrd; rw [if_pos h0, if_neg h1]
      rw [hR]
      rw [e0] at HC1
      rw [e1] at HC2
      clear hR e0 e1 h0 h1 h k HH1 HH2
      go_enter Try.func13, Try.ntmps13
      go_wp2_with fail
      generalize (w.alloc (.cells #[.int .i32 f, .int .i32 n] 25)).alloc (.cells #[.int .i32 g, .int .i32 m] 25) = X at *
      refine Calls.mono (HC1.out X) ?_
      rintro e w1 ⟨rfl, hb1⟩
      obtain ⟨c0, c1, g0, g1⟩ := fbox_facts HX.out.1 hb1
      obtain ⟨c2', c3, g2, g3⟩ := fbox_facts HX.out.2.1 hb1
      go_wp2_with fail
      refine Calls.mono (HC2.out _) ?_
      rintro e w2 ⟨rfl, hb2⟩
      have HB := hid (b2 HX.out.2.2 (b2 hb1 hb2))
      clear HX hb1 hb2 HC1 HC2
      go_wp2_with fail
      refine bodyPost_ret (v := .tuple #[.int .i64 0, .int .i64 150]) (by simp [results, Try.results13, go_sem]) rfl ?_
      exact ⟨rfl, HB.out⟩
  · have hR : rOrd f n g m = (0, 150) := by unfold rOrd; rw [if_neg h0]
    rw [hR]
    rw [e0] at HC1
    clear hR e0 h0 h k HH1 HH2 HC2
    go_enter Try.func13, Try.ntmps13
    go_wp2_with fail
    generalize (w.alloc (.cells #[.int .i32 f, .int .i32 n] 25)).alloc (.cells #[.int .i32 g, .int .i32 m] 25) = X at *
    refine Calls.mono (HC1.out X) ?_
    rintro e w1 ⟨rfl, hb1⟩
    have HB := hid (b2 HX.out.2.2 hb1)
    clear HX hb1 HC1
    go_wp2_with fail
    refine bodyPost_ret (v := .tuple #[.int .i64 0, .int .i64 150]) (by simp [results, Try.results13, go_sem]) rfl ?_
    exact ⟨rfl, HB.out⟩
end Go.Proofs.Ytkkehddpblkegaa

/- package rotor: signed; candidate and Find of words that are a rotor's number. (tools/mkrr1.py) -/
namespace Go.Proofs.Ytkkehddpblkegaa
open Go.RowKit
set_option linter.unusedVariables false
set_option linter.unusedSimpArgs false

/-- Where a list of one word lies. -/
theorem sl_one {w : World} {a : Option Addr} {ca : Nat} {x : Int} (h : Sl w (.slice a 1 ca) [x]) : ∃ bb bo, a = some ⟨bb, bo, none⟩ ∧ bb < w.heap.size ∧ w.cell? ⟨bb, bo, none⟩ = some (.int .u32 x) ∧ 0 ≤ x ∧ x ≤ 4294967295 := by
  obtain ⟨a', c', e, r⟩ := h
  cases e
  rcases r.2.2.1 with q | ⟨bb, bo, rfl, hlt, hc⟩
  · simp at q
  · exact ⟨bb, bo, rfl, hlt, by have := hc 0 (by simp); simpa using this, r.2.1 x (by simp)⟩
theorem sl_bd {w : World} {a : Option Addr} {ca : Nat} {x : Int} (h : Sl w (.slice a 1 ca) [x]) : 0 ≤ x ∧ x ≤ 4294967295 := h.wd x (by simp)
theorem wrapJ {x : Int} (h0 : -9223372036854775808 ≤ x) (h1 : x ≤ 9223372036854775807) : IntKind.i64.wrap x = x := by rw [IntKind.wrap_i64]; omega
def sgw (n : Bool) (x : Int) : Int := if n then -x else x
set_option maxHeartbeats 1600000 in
set_option maxRecDepth 100000 in
theorem osigned_any (n : Bool) (a : Option Addr) (ca : Nat) (x : Int) (b : Option Addr) (lb cb : Nat) (w : World) (sx : Sl w (.slice a 1 ca) [x]) :
    Calls Try.prog 30 #[.agg #[.bool n, .slice a 1 ca, .slice b lb cb]] w fun e w' => e = .returned (.int .i64 (sgw n x)) ∧ Below w.heap.size w w' := by
  obtain ⟨bb, bo, rfl, hlt, hc, x0, x1⟩ := sl_one sx
  obtain ⟨X, hX⟩ : ∃ X, w.alloc (.cells #[.bool n, .slice (some ⟨bb, bo, none⟩) 1 ca, .slice b lb cb] 33) = X := ⟨_, rfl⟩
  have HB : Hid (Below w.heap.size w X) := by rw [← hX]; exact alloc_later _ _
  have HR : Hid (Box X w.heap.size 33 #[.bool n, .slice (some ⟨bb, bo, none⟩) 1 ca, .slice b lb cb]) := by rw [← hX]; exact Box.made w _ _
  have k0 : X.cell? ⟨w.heap.size, 0, none⟩ = some (.bool n) := HR.out.cell 0
  have k1 : X.cell? ⟨w.heap.size, 1, none⟩ = some (.slice (some ⟨bb, bo, none⟩) 1 ca) := HR.out.cell 1
  have kx : X.cell? ⟨bb, bo, none⟩ = some (.int .u32 x) := (HB.out.cell (p := ⟨bb, bo, none⟩) hlt).trans hc
  clear sx hc
  cases n
  · go_enter Try.func30, Try.ntmps30
    go_wp2_with fail
    go_ret
    exact ⟨rfl, HB.out⟩
  · go_enter Try.func30, Try.ntmps30
    go_wp2_with fail
    go_ret
    exact ⟨rfl, HB.out⟩

/-- A rotor is read out of a box, what is beside it out of a slot. -/
theorem rores_run {fn : Func} {W : World} {b q u : Nat} {cs : Array Value} (hr : fn.results = #[.cell q 25, .tmp u]) (hb : Box W b 25 cs) (tmps : Array Value) (h4 : tmps.getD q undef = .pointer (some ⟨b, 0, none⟩)) (hi : (Try.prog.info? 25).map (·.size) = some cs.size := by kernel_rfl) : (results fn tmps).run Try.prog W = .ok (.tuple #[.agg cs, tmps.getD u undef]) W := by
  have h := run_loadVar_row (P := Try.prog) W b 25 25 cs (0, 0) _ hb Try.underlying25 rfl hi
  rw [results_cell_tmp hr, h4]
  simp [asAddr, h]
set_option maxHeartbeats 6400000 in
set_option maxRecDepth 100000 in
theorem ocand_good (n m : Bool) (a b c d : Option Addr) (ca cb cc cd : Nat) (x e y v F N : Int) (G : Nat) (w : World) (sx : Sl w (.slice a 1 ca) [x]) (sy : Sl w (.slice b 1 cb) [e]) (su : Sl w (.slice c 1 cc) [y]) (hfar : e + sgw n x = F * G) (hnear : sgw m y = N * G) (hg : Nat.gcd (F * G).toNat (N * G).natAbs = G) (f0 : 1 ≤ F) (f1 : F ≤ 1000) (n0 : N ≠ 0) (n1 : N.natAbs ≤ 1000) (hG : 0 < G) :
    Calls Try.prog 20 #[.agg #[.bool n, .slice a 1 ca, .slice b 1 cb, .bool m, .slice c 1 cc, .slice d 1 cd]] w fun r w' => r = .returned (.tuple #[.agg #[.int .i32 F, .int .i32 N], .bool true]) ∧ Below w.heap.size w w' := by
  obtain ⟨bb, bo, hbb, hlt, hce, e0, e1⟩ := sl_one sy
  have x01 := sl_bd sx
  have y01 := sl_bd su
  subst hbb
  obtain ⟨X, hX⟩ : ∃ X, (w.alloc (.cells #[.bool n, .slice a 1 ca, .slice (some ⟨bb, bo, none⟩) 1 cb, .bool m, .slice c 1 cc, .slice d 1 cd] 35)).alloc (.cells #[.int .i32 0, .int .i32 0] 25) = X := ⟨_, rfl⟩
  have HB : Hid (Below w.heap.size w X) := by rw [← hX]; exact bt (alloc_later _ _) (alloc_later _ _)
  have HR : Hid (Box X w.heap.size 35 #[.bool n, .slice a 1 ca, .slice (some ⟨bb, bo, none⟩) 1 cb, .bool m, .slice c 1 cc, .slice d 1 cd]) := by rw [← hX]; exact (Box.made w _ _).later (alloc_later _ _) (Box.made w _ _).lt
  have HZ : Hid (Box X (w.heap.size + 1) 25 #[.int .i32 0, .int .i32 0]) := by
    have q := Box.made (w.alloc (.cells #[.bool n, .slice a 1 ca, .slice (some ⟨bb, bo, none⟩) 1 cb, .bool m, .slice c 1 cc, .slice d 1 cd] 35)) 25 #[.int .i32 0, .int .i32 0]
    rw [show (w.alloc (.cells #[.bool n, .slice a 1 ca, .slice (some ⟨bb, bo, none⟩) 1 cb, .bool m, .slice c 1 cc, .slice d 1 cd] 35)).heap.size = w.heap.size + 1 by simp, hX] at q
    exact q
  obtain ⟨Y, hY⟩ : ∃ Y, X.alloc (.cells #[.slice a 1 ca, .slice (some ⟨bb, bo, none⟩) 1 cb, .slice c 1 cc, .slice d 1 cd] 31) = Y := ⟨_, rfl⟩
  have HYB : Hid (Below X.heap.size X Y) := by rw [← hY]; exact alloc_later _ _
  have HYR : Hid (Box Y X.heap.size 31 #[.slice a 1 ca, .slice (some ⟨bb, bo, none⟩) 1 cb, .slice c 1 cc, .slice d 1 cd]) := by rw [← hY]; exact Box.made X _ _
  have k0 : X.cell? ⟨w.heap.size, 0, none⟩ = some (.bool n) := HR.out.cell 0
  have k1 : X.cell? ⟨w.heap.size, 1, none⟩ = some (.slice a 1 ca) := HR.out.cell 1
  have k2 : X.cell? ⟨w.heap.size, 2, none⟩ = some (.slice (some ⟨bb, bo, none⟩) 1 cb) := HR.out.cell 2
  have k3 : X.cell? ⟨w.heap.size, 3, none⟩ = some (.bool m) := HR.out.cell 3
  have k4 : X.cell? ⟨w.heap.size, 4, none⟩ = some (.slice c 1 cc) := HR.out.cell 4
  have k5 : X.cell? ⟨w.heap.size, 5, none⟩ = some (.slice d 1 cd) := HR.out.cell 5
  have HK : Hid (∀ V, Below Y.heap.size Y V → V.cell? ⟨w.heap.size, 0, none⟩ = some (.bool n) ∧ V.cell? ⟨w.heap.size, 1, none⟩ = some (.slice a 1 ca) ∧ V.cell? ⟨w.heap.size, 2, none⟩ = some (.slice (some ⟨bb, bo, none⟩) 1 cb) ∧ V.cell? ⟨w.heap.size, 3, none⟩ = some (.bool m) ∧ V.cell? ⟨w.heap.size, 4, none⟩ = some (.slice c 1 cc) ∧ V.cell? ⟨w.heap.size, 5, none⟩ = some (.slice d 1 cd)) := fun V hv => by
    have q := HR.out.later (bt HYB.out hv) HR.out.lt
    exact ⟨q.cell 0, q.cell 1, q.cell 2, q.cell 3, q.cell 4, q.cell 5⟩
  have HS1 : Hid (∀ V, Below Y.heap.size Y V → Calls Try.prog 30 #[.agg #[.bool n, .slice a 1 ca, .slice (some ⟨bb, bo, none⟩) 1 cb]] V fun r w' => r = .returned (.int .i64 (sgw n x)) ∧ Hid (Below V.heap.size V w')) := fun V hv => osigned_any n a ca x _ 1 cb V (sx.later (bt (bt HB.out HYB.out) hv))
  have HS2 : Hid (∀ V, Below Y.heap.size Y V → Calls Try.prog 30 #[.agg #[.bool m, .slice c 1 cc, .slice d 1 cd]] V fun r w' => r = .returned (.int .i64 (N * G)) ∧ Below V.heap.size V w') := fun V hv => by
    have q := osigned_any m c cc y d 1 cd V (su.later (bt (bt HB.out HYB.out) hv))
    rw [hnear] at q
    exact q
  have HE : Hid (∀ V, Below Y.heap.size Y V → V.cell? ⟨bb, bo, none⟩ = some (.int .u32 e)) := fun V hv => ((bt (bt HB.out HYB.out) hv).cell (p := ⟨bb, bo, none⟩) hlt).trans hce
  have sb : -4294967295 ≤ sgw n x ∧ sgw n x ≤ 4294967295 := by unfold sgw; cases n <;> simp <;> omega
  have sb2 : -4294967295 ≤ N * G ∧ N * G ≤ 4294967295 := by rw [← hnear]; unfold sgw; cases m <;> simp <;> omega
  have HFG : Hid (e + sgw n x = F * G) := hfar
  have HWR : Hid (IntKind.i64.wrap (IntKind.i64.wrap e + sgw n x) = F * G) := by
    show _ = _
    rw [wrapJ (x := e) (by omega) (by omega), wrapJ (by omega) (by omega)]
    exact hfar
  have far1 : 1 ≤ F * (G : Int) := by
    have : 1 * 1 ≤ F * (G : Int) := Int.mul_le_mul f0 (by omega) (by decide) (by omega)
    omega
  have near0 : N * (G : Int) ≠ 0 := Int.mul_ne_zero n0 (by omega)
  have far2 : F * (G : Int) ≤ 8589934590 := by omega
  have HZS := hid (fun V => osize_any (N * G) V (by omega) (by omega))
  have HCD : Hid (∀ V : World, Calls Try.prog 17 #[.int .i64 (F * G), .int .i64 ((N * G).natAbs : Int)] V fun r w' => r = .returned (.int .i64 (G : Int)) ∧ Below V.heap.size V w') := fun V => by
    have q := ocommon_any (F * G).toNat (N * G).natAbs V (by omega) (by omega)
    rw [hg, show (((F * (G : Int)).toNat : Nat) : Int) = F * G by omega] at q
    exact q
  have HZT := hid (fun V => osize_any N V (by omega) (by omega))
  have t1 : Int.tdiv (F * G) (G : Int) = F := Int.mul_tdiv_cancel _ (by omega)
  have t2 : Int.tdiv (N * G) (G : Int) = N := Int.mul_tdiv_cancel _ (by omega)
  have G0 : (G : Int) ≠ 0 := by omega
  have d1 : decide (F * (G : Int) < 1) = false := decide_eq_false (by omega)
  have d2 : (N * (G : Int) == 0) = false := by simp only [beq_eq_false_iff_ne]; exact near0
  have d3 : decide ((1000 : Int) < F) = false := decide_eq_false (by omega)
  have d4 : decide ((1000 : Int) < (N.natAbs : Int)) = false := decide_eq_false (by omega)
  clear sx sy su hfar hnear hg hce hlt
  go_enter Try.func20, Try.ntmps20
  go_wp2_with fail
  clear hX hY k0 k1 k2 k3 k4 k5
  go_loopw [23] (fun t wr => ∃ k : Nat, k ≤ 4 ∧ t = .int .i64 (k : Int) ∧ wr = Y) (fun t _ => 4 - (intOf t).toNat)
  case atStart => exact ⟨0, by omega, rfl, rfl⟩
  case round =>
    obtain ⟨k, hk, rfl, rfl⟩ := hrel
    have r0 : wr.cell? ⟨X.heap.size, 0, none⟩ = some (.slice a 1 ca) := HYR.out.cell 0
    have r1 : wr.cell? ⟨X.heap.size, 1, none⟩ = some (.slice (some ⟨bb, bo, none⟩) 1 cb) := HYR.out.cell 1
    have r2 : wr.cell? ⟨X.heap.size, 2, none⟩ = some (.slice c 1 cc) := HYR.out.cell 2
    have r3 : wr.cell? ⟨X.heap.size, 3, none⟩ = some (.slice d 1 cd) := HYR.out.cell 3
    have hkk : k = 0 ∨ k = 1 ∨ k = 2 ∨ k = 3 ∨ k = 4 := by omega
    rcases hkk with rfl | rfl | rfl | rfl | rfl
    case inl =>
      go_wp2_with fail
      go_roundw
      case rel => exact ⟨1, by omega, rfl, by first | rfl | trivial⟩
      case measure => simp [intOf]
    case inr.inl =>
      go_wp2_with fail
      go_roundw
      case rel => exact ⟨2, by omega, rfl, by first | rfl | trivial⟩
      case measure => simp [intOf]
    case inr.inr.inl =>
      go_wp2_with fail
      go_roundw
      case rel => exact ⟨3, by omega, rfl, by first | rfl | trivial⟩
      case measure => simp [intOf]
    case inr.inr.inr.inl =>
      go_wp2_with fail
      go_roundw
      case rel => exact ⟨4, by omega, rfl, by first | rfl | trivial⟩
      case measure => simp [intOf]
    case inr.inr.inr.inr =>
      clear r0 r1 r2 r3 hk
      have hd0 := hid (Below.refl wr.heap.size wr).drew
      have hs0 := And.intro (HE.out _ hd0.out) (HK.out _ hd0.out)
      go_wp2_with fail
      go_region_held3 (fun V : World => V.cell? ⟨bb, bo, none⟩ = some (.int .u32 e) ∧ V.cell? ⟨w.heap.size, 0, none⟩ = some (.bool n) ∧ V.cell? ⟨w.heap.size, 1, none⟩ = some (.slice a 1 ca) ∧ V.cell? ⟨w.heap.size, 2, none⟩ = some (.slice (some ⟨bb, bo, none⟩) 1 cb) ∧ V.cell? ⟨w.heap.size, 3, none⟩ = some (.bool m) ∧ V.cell? ⟨w.heap.size, 4, none⟩ = some (.slice c 1 cc) ∧ V.cell? ⟨w.heap.size, 5, none⟩ = some (.slice d 1 cd)) (first | exact hs1 | exact hs0)
        (first | (go_at_call 30; (with_reducible refine Calls.mono (HS1.out _ hd0.out) ?_); rintro r w1 ⟨rfl, hb1⟩; have hbA := hid (bt hd0.out hb1.out); have hs1 := And.intro (HE.out _ hbA.out) (HK.out _ hbA.out)))
      rw [HWR.out]
      have HBA := hid hbA.out
      have HD2 := hid (HS2.out w1 HBA.out)
      obtain ⟨j0, j1, j2, j3, j4, j5⟩ := HK.out _ HBA.out
      clear hs0 hs1 hd0 hb1 hbA HS1 HS2 HE
      go_wp2_with fail
      refine Calls.mono HD2.out ?_
      rintro r w2 ⟨rfl, hb2⟩
      have HB2 := hid (bt HBA.out hb2)
      clear HD2 hb2 j0 j1 j2 j3 j4 j5
      have HD3 := hid (HZS.out w2)
      go_wp2_with fail
      refine Calls.mono HD3.out ?_
      rintro r w3 ⟨rfl, rfl⟩
      clear HD3
      have HD4 := hid (HCD.out w3)
      go_wp2_with fail
      refine Calls.mono HD4.out ?_
      rintro r w4 ⟨rfl, hb4⟩
      have HB4 := hid (bt HB2.out hb4)
      clear HD4 hb4 HZS HCD
      go_wp2_with fail
      go_quiet (fail)
      have HB5 : Hid (Below wr.heap.size wr (w4.drewN nq)) := bdrewN HB4.out nq
      generalize w4.drewN nq = V5 at *
      have HD5 := hid (HZT.out V5)
      have HZ5 := hid (HZ.out.later (bt HYB.out HB5.out) HZ.out.lt)
      have z0 : V5.cell? ⟨w.heap.size + 1, 0, none⟩ = some (.int .i32 0) := HZ5.out.cell 0
      have z1 : V5.cell? ⟨w.heap.size + 1, 1, none⟩ = some (.int .i32 0) := HZ5.out.cell 1
      have zf0 := HZ5.out.free 0
      have zf1 := HZ5.out.free 1
      have hN1 : -1000 ≤ N ∧ N ≤ 1000 := by omega
      go_wp2_with fail
      refine Calls.mono HD5.out ?_
      rintro r w6 ⟨rfl, rfl⟩
      clear HD5
      go_wp2_with fail
      have BX : Box ((w6.setCell ⟨w.heap.size + 1, 0, none⟩ (.int .i32 F)).setCell ⟨w.heap.size + 1, 1, none⟩ (.int .i32 N)) (w.heap.size + 1) 25 #[.int .i32 F, .int .i32 N] := (HZ5.out.set 0 _).set 1 _
      refine bodyPost_ret (rores_run (by rfl) BX _ (by rfl)) rfl ?_
      exact ⟨rfl, ((bt HB.out (bt HYB.out HB5.out)).setCell (p := ⟨w.heap.size + 1, 0, none⟩) (by show w.heap.size ≤ w.heap.size + 1; omega) _).setCell (p := ⟨w.heap.size + 1, 1, none⟩) (by show w.heap.size ≤ w.heap.size + 1; omega) _⟩
end Go.Proofs.Ytkkehddpblkegaa

/- No program: unlike rotors; their order. -/
namespace Go.Proofs.Ytkkehddpblkegaa
set_option linter.unusedVariables false

theorem o_cross {f n g m : Int} (hf : rOK f n) (hg : rOK g m) (h : n * g = m * f) : f = g ∧ n = m := by
  obtain ⟨a1, _, _, _, _, a6⟩ := hf
  obtain ⟨b1, _, _, _, _, b6⟩ := hg
  have e := congrArg Int.natAbs h
  rw [Int.natAbs_mul, Int.natAbs_mul] at e
  have hfn : f.toNat = f.natAbs := by omega
  have hgn : g.toNat = g.natAbs := by omega
  rw [hfn] at a6
  rw [hgn] at b6
  have d1 : f.natAbs ∣ g.natAbs := Nat.Coprime.dvd_of_dvd_mul_left a6 ⟨m.natAbs, by rw [e, Nat.mul_comm]⟩
  have d2 : g.natAbs ∣ f.natAbs := Nat.Coprime.dvd_of_dvd_mul_left b6 ⟨n.natAbs, by rw [← e, Nat.mul_comm]⟩
  have e2 := Nat.dvd_antisymm d1 d2
  have e3 : f = g := by omega
  subst e3
  exact ⟨rfl, Int.eq_of_mul_eq_mul_right (by omega) h⟩
/-- Before, at or behind, of rotors that may be. -/
def ordV (f n g m : Int) : Int := if cmpV (if 0 < n then 0 else 1) (if 0 < m then 0 else 1) = 0 then cmpV (n * g) (m * f) else cmpV (if 0 < n then 0 else 1) (if 0 < m then 0 else 1)
theorem cmpV_neg (x y : Int) : cmpV x y = -cmpV y x := by
  unfold cmpV
  split <;> split <;> omega
theorem cmpV_zero (x y : Int) : cmpV x y = 0 ↔ x = y := by
  unfold cmpV
  constructor
  · intro h
    split at h
    · omega
    · split at h <;> omega
  · intro h
    rw [if_neg (by omega), if_neg (by omega)]
theorem cmpV_lt (x y : Int) : cmpV x y < 0 ↔ x < y := by
  unfold cmpV
  constructor
  · intro h
    split at h
    · assumption
    · split at h <;> omega
  · intro h
    rw [if_pos h]; omega
theorem ord_neg (f n g m : Int) : ordV f n g m = -ordV g m f n := by
  unfold ordV
  generalize (if 0 < n then (0 : Int) else 1) = a
  generalize (if 0 < m then (0 : Int) else 1) = b
  have h := cmpV_neg a b
  have h2 := cmpV_neg (n * g) (m * f)
  by_cases e : cmpV a b = 0
  · rw [if_pos e, if_pos (by omega)]; exact h2
  · rw [if_neg e, if_neg (by omega)]; exact h
theorem ord_zero {f n g m : Int} (hf : rOK f n) (hg : rOK g m) : ordV f n g m = 0 ↔ f = g ∧ n = m := by
  constructor
  · intro h
    unfold ordV at h
    by_cases e : cmpV (if 0 < n then (0 : Int) else 1) (if 0 < m then (0 : Int) else 1) = 0
    · rw [if_pos e] at h
      exact o_cross hf hg ((cmpV_zero _ _).1 h)
    · rw [if_neg e] at h
      exact absurd h e
  · rintro ⟨rfl, rfl⟩
    unfold ordV
    rw [if_pos ((cmpV_zero _ _).2 rfl)]
    exact (cmpV_zero _ _).2 rfl
theorem ord_conj {f n g m : Int} (hf : rOK f n) (hg : rOK g m) : ordV f (-n) g (-m) = ordV g m f n := by
  have a1 := hf.2.2.1
  have b1 := hg.2.2.1
  unfold ordV
  rw [Int.neg_mul, Int.neg_mul]
  have e1 : cmpV (-(n * g)) (-(m * f)) = cmpV (m * f) (n * g) := by
    unfold cmpV
    by_cases h1 : n * g < m * f
    · rw [if_neg (by omega), if_pos (by omega), if_neg (by omega), if_pos h1]
    · by_cases h2 : m * f < n * g
      · rw [if_pos (by omega), if_pos h2]
      · rw [if_neg (by omega), if_neg (by omega), if_neg (by omega), if_neg (by omega)]
  rw [e1]
  by_cases p : 0 < n <;> by_cases q : 0 < m
  · rw [if_neg (show ¬ 0 < -n by omega), if_neg (show ¬ 0 < -m by omega), if_pos p, if_pos q] <;> rfl
  · rw [if_neg (show ¬ 0 < -n by omega), if_pos (show 0 < -m by omega), if_pos p, if_neg q] <;> rfl
  · rw [if_pos (show 0 < -n by omega), if_neg (show ¬ 0 < -m by omega), if_neg p, if_pos q] <;> rfl
  · rw [if_pos (show 0 < -n by omega), if_pos (show 0 < -m by omega), if_neg p, if_neg q] <;> rfl
theorem trans_mul {f n g m h l : Int} (hf : 1 ≤ f) (hg : 1 ≤ g) (hh : 1 ≤ h) (h1 : n * g < m * f) (h2 : m * h < l * g) : n * h < l * f := by
  have a : n * g * h < m * f * h := Int.mul_lt_mul_of_pos_right h1 (by omega)
  have b : m * h * f < l * g * f := Int.mul_lt_mul_of_pos_right h2 (by omega)
  have c : g * (n * h) < g * (l * f) := by
    have e1 : g * (n * h) = n * g * h := by grind
    have e2 : m * f * h = m * h * f := by grind
    have e3 : g * (l * f) = l * g * f := by grind
    omega
  exact Int.lt_of_mul_lt_mul_left c (by omega)
theorem ord_lt {f n g m : Int} : ordV f n g m < 0 ↔ ((if 0 < n then (0 : Int) else 1) < (if 0 < m then (0 : Int) else 1) ∨ ((if 0 < n then (0 : Int) else 1) = (if 0 < m then (0 : Int) else 1) ∧ n * g < m * f)) := by
  unfold ordV
  generalize (if 0 < n then (0 : Int) else 1) = a
  generalize (if 0 < m then (0 : Int) else 1) = b
  have h1 := cmpV_zero a b
  have h2 := cmpV_lt a b
  have h3 := cmpV_lt (n * g) (m * f)
  by_cases e : cmpV a b = 0
  · rw [if_pos e]
    have := h1.1 e
    constructor
    · intro q; exact .inr ⟨this, h3.1 q⟩
    · rintro (q | q)
      · omega
      · exact h3.2 q.2
  · rw [if_neg e]
    constructor
    · intro q; exact .inl (h2.1 q)
    · rintro (q | q)
      · exact h2.2 q
      · exact absurd (h1.2 q.1) e
theorem ord_trans {f n g m h l : Int} (hf : rOK f n) (hg : rOK g m) (hh : rOK h l) (h1 : ordV f n g m < 0) (h2 : ordV g m h l < 0) : ordV f n h l < 0 := by
  rw [ord_lt] at *
  generalize (if 0 < n then (0 : Int) else 1) = a at *
  generalize (if 0 < m then (0 : Int) else 1) = b at *
  generalize (if 0 < l then (0 : Int) else 1) = c at *
  rcases h1 with h1 | ⟨h1, h3⟩
  · rcases h2 with h2 | ⟨h2, h4⟩
    · exact .inl (by omega)
    · exact .inl (by omega)
  · rcases h2 with h2 | ⟨h2, h4⟩
    · exact .inl (by omega)
    · exact .inr ⟨by omega, trans_mul hf.1 hg.1 hh.1 h3 h4⟩

theorem o_inj {f n g m : Int} (hf : rOK f n) (hg : rOK g m) (h1 : Rat.divInt (oRe f n) (oNm f n) = Rat.divInt (oRe g m) (oNm g m)) (h2 : Rat.divInt (oIm f n) (oNm f n) = Rat.divInt (oIm g m) (oNm g m)) : f = g ∧ n = m := by
  have z : ∀ {f n : Int}, rOK f n → (Rat.divInt (oRe f n) (oNm f n)).num = oRe f n ∧ ((Rat.divInt (oRe f n) (oNm f n)).den : Int) = oNm f n ∧ (Rat.divInt (oIm f n) (oNm f n)).num = oIm f n := fun {f n} h => by
    have l := o_low h 1
    rw [zpow_one, Int.pow_one] at l
    obtain ⟨_, _, _, _, _, _, h5, _⟩ := o_parts h
    have a := fr_num (show 0 < oNm f n by omega) (show gcdI (oRe f n) (oNm f n) = 1 by unfold gcdI; rw [l.1]; rfl)
    have b := fr_num (show 0 < oNm f n by omega) (show gcdI (oIm f n) (oNm f n) = 1 by unfold gcdI; rw [l.2]; rfl)
    exact ⟨a.1, a.2, b.1⟩
  have p := z hf
  have q := z hg
  rw [h1] at p
  rw [h2] at p
  have e1 : oRe f n = oRe g m := by rw [← p.1, q.1]
  have e2 : oNm f n = oNm g m := by rw [← p.2.1, q.2.1]
  have e3 : oIm f n = oIm g m := by rw [← p.2.2, q.2.2]
  obtain ⟨e, he, _, a2, a3, _⟩ := o_parts hf
  obtain ⟨e', he', _, b2, b3, _⟩ := o_parts hg
  have c1 : e * (f * f) = e' * (g * g) := by omega
  have c2 : e * (f * n) = e' * (g * m) := by omega
  have c3 : e * e' * (f * g) * (n * g) = e * e' * (f * g) * (m * f) := by
    have q1 : e * (f * n) * (e' * (g * g)) = e' * (g * m) * (e * (f * f)) := by rw [c2, ← c1]
    grind
  have ne : e * e' * (f * g) ≠ 0 := by
    refine Int.mul_ne_zero (Int.mul_ne_zero (by omega) (by omega)) (Int.mul_ne_zero ?_ ?_)
    · have := hf.1; omega
    · have := hg.1; omega
  exact o_cross hf hg (Int.eq_of_mul_eq_mul_left ne c3)
end Go.Proofs.Ytkkehddpblkegaa

/- gauss.Mul of numbers as letters; package rotor: one, times. (tools/mkrq3.py) -/
namespace Go.Proofs.Ytkkehddpblkegaa
open Go.RowKit
set_option linter.unusedVariables false
set_option linter.unusedSimpArgs false

theorem o_div1 (x : Int) : Rat.divInt x 1 = (x : Rat) := by
  rw [Rat.divInt_eq_div]
  show (x : Rat) / (1 : Rat) = (x : Rat)
  grind
def o2 (k : Nat) : Nat := 2 ^ k
theorem o2_lt {m n : Nat} (h : m < n) : o2 m < o2 n := Nat.pow_lt_pow_right (by decide) h
theorem o2_wlim (k : Nat) : (4294967296 : Int) ^ k = ((o2 (32 * k) : Nat) : Int) := by
  unfold o2
  rw [Nat.pow_mul, Int.natCast_pow]
  rfl
/-- What is not long, for sure. -/
def oL : Nat := o2 60000
theorem oL_lt : (oL : Int) < wlim := by
  unfold wlim
  rw [o2_wlim]
  exact Int.ofNat_lt.2 (o2_lt (by decide))
/-- A power in two pieces: its top, and what is under it. -/
def OPw (g h : G6) (z : Int × Int) (M : Int) : Prop := g.Is (z.1 : Rat) (z.2 : Rat) ∧ h.Is (M : Rat) ((0 : Int) : Rat)
end Go.Proofs.Ytkkehddpblkegaa

/- package rotor: a power made by squaring. (tools/mkrq4.py) -/
namespace Go.Proofs.Ytkkehddpblkegaa
open Go.RowKit
set_option linter.unusedVariables false
set_option linter.unusedSimpArgs false

/-- What is read: rows that were there, or rows of the call's own. -/
def OSl (w wr : World) (g : G6) : Prop := g.Ow wr w.heap.size ∨ g.Sl4 w
theorem OSl.sl {w wr : World} {g : G6} {q1 q2 : Rat} (h : OSl w wr g) (i : g.Is q1 q2) (hb : Below w.heap.size w wr) : g.Sl4 wr := by
  rcases h with h | h
  · exact h.sl i
  · exact h.later hb
theorem OSl.later {w wr V : World} {g : G6} (h : OSl w wr g) (hb : Below wr.heap.size wr V) : OSl w V g := by
  rcases h with h | h
  · exact .inl (h.later hb)
  · exact .inr h
theorem OSl.put {w wr V : World} {g : G6} (h : OSl w wr g) (P : ∀ base v n xs, wr.ownsRow base 45 1 v n xs → V.ownsRow base 45 1 v n xs) : OSl w V g := by
  rcases h with h | h
  · exact .inl ⟨P _ _ _ _ h.1, P _ _ _ _ h.2.1, P _ _ _ _ h.2.2.1, P _ _ _ _ h.2.2.2⟩
  · exact .inr h
theorem ow_put {wr V : World} {g : G6} {base : Nat} (h : g.Ow wr base) (P : ∀ base v n xs, wr.ownsRow base 45 1 v n xs → V.ownsRow base 45 1 v n xs) : g.Ow V base := ⟨P _ _ _ _ h.1, P _ _ _ _ h.2.1, P _ _ _ _ h.2.2.1, P _ _ _ _ h.2.2.2⟩
/-- How far the squaring is. -/
structure OLp (f n : Int) (w : World) (pb mb : Nat) (i j : Nat) (g h k l : G6) (wr : World) : Prop where
  sp : OSl w wr g ∧ OSl w wr h
  vp : OPw g h (zpow (oRe f n, oIm f n) j) (oNm f n ^ j)
  bp : Box wr pb 52 #[.bool g.n, .slice g.a g.xs.length g.ca, .slice g.b g.ys.length g.cb, .bool g.m, .slice g.c g.us.length g.cc, .slice g.d g.vs.length g.cd, .bool h.n, .slice h.a h.xs.length h.ca, .slice h.b h.ys.length h.cb, .bool h.m, .slice h.c h.us.length h.cc, .slice h.d h.vs.length h.cd]
  om : k.Ow wr w.heap.size ∧ l.Ow wr w.heap.size
  vm : OPw k l (zpow (oRe f n, oIm f n) i) (oNm f n ^ i)
  bm : Box wr mb 52 #[.bool k.n, .slice k.a k.xs.length k.ca, .slice k.b k.ys.length k.cb, .bool k.m, .slice k.c k.us.length k.cc, .slice k.d k.vs.length k.cd, .bool l.n, .slice l.a l.xs.length l.ca, .slice l.b l.ys.length l.cb, .bool l.m, .slice l.c l.us.length l.cc, .slice l.d l.vs.length l.cd]
  br : Box wr (w.heap.size + 1) 52 #[.bool false, .slice none 0 0, .slice none 0 0, .bool false, .slice none 0 0, .slice none 0 0, .bool false, .slice none 0 0, .slice none 0 0, .bool false, .slice none 0 0, .slice none 0 0]
  bel : Below w.heap.size w wr
/-- What a store of twelve cells leaves. -/
def OPut (w2 : World) (b : Nat) (vs : Array Value) (V : World) : Prop := Box V b 52 vs ∧ (∀ p t' vs, p ≠ b → Box w2 p t' vs → Box V p t' vs) ∧ (∀ base v n xs, w2.ownsRow base 45 1 v n xs → V.ownsRow base 45 1 v n xs) ∧ (∀ B x, B ≤ b → Below B x w2 → Below B x V) ∧ V.heap.size = w2.heap.size
theorem OLp.mul {f n : Int} {w wr w2 V : World} {mb i j : Nat} {g h k l k2 l2 : G6} (a : OLp f n w w.heap.size mb i j g h k l wr) (hm : w.heap.size + 1 < mb) (hb : Below wr.heap.size wr w2) (ho : k2.Ow w2 wr.heap.size ∧ l2.Ow w2 wr.heap.size) (hi : OPw k2 l2 (zpow (oRe f n, oIm f n) (i + j)) (oNm f n ^ (i + j))) (c : OPut w2 mb #[.bool k2.n, .slice k2.a k2.xs.length k2.ca, .slice k2.b k2.ys.length k2.cb, .bool k2.m, .slice k2.c k2.us.length k2.cc, .slice k2.d k2.vs.length k2.cd, .bool l2.n, .slice l2.a l2.xs.length l2.ca, .slice l2.b l2.ys.length l2.cb, .bool l2.m, .slice l2.c l2.us.length l2.cc, .slice l2.d l2.vs.length l2.cd] V) : OLp f n w w.heap.size mb (i + j) j g h k2 l2 V where
  sp := ⟨(a.sp.1.later hb).put c.2.2.1, (a.sp.2.later hb).put c.2.2.1⟩
  vp := a.vp
  bp := c.2.1 _ _ _ (by omega) (a.bp.later hb a.bp.lt)
  om := ⟨ow_put (ho.1.base a.bel.size) c.2.2.1, ow_put (ho.2.base a.bel.size) c.2.2.1⟩
  vm := hi
  bm := c.1
  br := c.2.1 _ _ _ (by omega) (a.br.later hb a.br.lt)
  bel := c.2.2.2.1 _ _ (by omega) (bt a.bel hb)
theorem OLp.sq {f n : Int} {w wr w2 V : World} {mb i j : Nat} {g h k l g2 h2 : G6} (a : OLp f n w w.heap.size mb i j g h k l wr) (hm : w.heap.size + 1 < mb) (hb : Below wr.heap.size wr w2) (ho : g2.Ow w2 wr.heap.size ∧ h2.Ow w2 wr.heap.size) (hi : OPw g2 h2 (zpow (oRe f n, oIm f n) (j + j)) (oNm f n ^ (j + j))) (c : OPut w2 w.heap.size #[.bool g2.n, .slice g2.a g2.xs.length g2.ca, .slice g2.b g2.ys.length g2.cb, .bool g2.m, .slice g2.c g2.us.length g2.cc, .slice g2.d g2.vs.length g2.cd, .bool h2.n, .slice h2.a h2.xs.length h2.ca, .slice h2.b h2.ys.length h2.cb, .bool h2.m, .slice h2.c h2.us.length h2.cc, .slice h2.d h2.vs.length h2.cd] V) : OLp f n w w.heap.size mb i (j + j) g2 h2 k l V where
  sp := ⟨.inl (ow_put (ho.1.base a.bel.size) c.2.2.1), .inl (ow_put (ho.2.base a.bel.size) c.2.2.1)⟩
  vp := hi
  bp := c.1
  om := ⟨ow_put (a.om.1.later hb) c.2.2.1, ow_put (a.om.2.later hb) c.2.2.1⟩
  vm := a.vm
  bm := c.2.1 _ _ _ (by omega) (a.bm.later hb a.bm.lt)
  br := c.2.1 _ _ _ (by omega) (a.br.later hb a.br.lt)
  bel := c.2.2.2.1 _ _ (Nat.le_refl _) (bt a.bel hb)
end Go.Proofs.Ytkkehddpblkegaa

/- package rotor: Power, as a complex fraction in its one form. -/
namespace Go.Proofs.Ytkkehddpblkegaa
open Go.RowKit
set_option linter.unusedVariables false
set_option linter.unusedSimpArgs false

/-- A whole number's words. -/
theorem o_whole {n : Bool} {xs ys : List Int} {x : Int} (wx : Wd xs) (wy : Wd ys) (hc : rchk n xs ys = 0) (hq : rq n xs ys = (x : Rat)) : wval n xs = x ∧ Trimmed xs ∧ xs.length ≤ 2048 ∧ (n = false ∨ 0 < xs.length) := by
  obtain ⟨l1, l2, t1, t2, h0, hs, hg⟩ := rchk_ok hc
  have hp : 0 < val ys := val_pos' wy t2 h0
  have hg' : gcdI (wval n xs) (val ys) = 1 := by
    have e := gcd_sg n (val xs) (val ys)
    rw [← hg, ← e]
    rfl
  have h := fr_num hp hg'
  have hn : (rq n xs ys).num = x := by rw [hq, Rat.num_intCast]
  exact ⟨by rw [← h.1]; exact hn, t1, l1, hs⟩
/-- The number of a power in two pieces. -/
def oNum (g h : G6) (a1 : Option Addr) (c1 : Nat) (a2 : Option Addr) (c2 : Nat) (a3 : Option Addr) (c3 : Nat) (a4 : Option Addr) (c4 : Nat) : G6 := ⟨g.n, a1, c1, g.xs, a2, c2, h.xs, g.m, a3, c3, g.us, a4, c4, h.xs⟩
theorem onum_is {g h : G6} {z : Int × Int} {M : Int} (hp : OPw g h z M) (hM : 0 < M) (g1 : Int.gcd z.1 M = 1) (g2 : Int.gcd z.2 M = 1) (a1 : Option Addr) (c1 : Nat) (a2 : Option Addr) (c2 : Nat) (a3 : Option Addr) (c3 : Nat) (a4 : Option Addr) (c4 : Nat) : (oNum g h a1 c1 a2 c2 a3 c3 a4 c4).Is (Rat.divInt z.1 M) (Rat.divInt z.2 M) := by
  obtain ⟨⟨i1, i2⟩, ⟨i3, i4⟩, w1, w2, w3, w4⟩ := hp.1
  obtain ⟨⟨j1, j2⟩, _, v1, v2, _⟩ := hp.2
  obtain ⟨e1, t1, l1, s1⟩ := o_whole w1 w2 i1 i2
  obtain ⟨e2, t2, l2, s2⟩ := o_whole w3 w4 i3 i4
  obtain ⟨e3, t3, l3, s3⟩ := o_whole v1 v2 j1 j2
  have p3 := val_nonneg v1
  have hn : h.n = false := by
    cases hh : h.n
    · rfl
    · rw [hh] at e3; unfold wval at e3; simp at e3; omega
  have e3' : val h.xs = M := by rw [hn] at e3; unfold wval at e3; simpa using e3
  have h0 : 0 < h.xs.length := by
    rcases Nat.eq_zero_or_pos h.xs.length with q | q
    · rw [List.eq_nil_of_length_eq_zero q] at e3'
      have : val ([] : List Int) = 0 := rfl
      omega
    · exact q
  have gg : ∀ {n : Bool} {xs : List Int} {x : Int}, wval n xs = x → Int.gcd x M = 1 → gcdI (val xs) (val h.xs) = 1 := fun {n xs x} he hg => by
    have e := gcd_sg n (val xs) (val h.xs)
    rw [← e, e3', show sg n (val xs) = x from he]
    unfold gcdI
    rw [hg]; rfl
  refine ⟨⟨rchk_good l1 l3 t1 t3 h0 s1 (gg e1 g1), ?_⟩, ⟨rchk_good l2 l3 t2 t3 h0 s2 (gg e2 g2), ?_⟩, w1, v1, w3, v1⟩
  · show Rat.divInt (wval g.n g.xs) (val h.xs) = _
    rw [e1, e3']
  · show Rat.divInt (wval g.m g.us) (val h.xs) = _
    rw [e2, e3']

end Go.Proofs.Ytkkehddpblkegaa

/- No program: a rotor's powers are a group; none but the power 0 is 1; how long they are. -/
namespace Go.Proofs.Ytkkehddpblkegaa
open Go.RowKit
set_option linter.unusedVariables false

/-- Neither part of a fraction is above this. -/
def OHg (q : Rat) (B : Nat) : Prop := q.num.natAbs ≤ B ∧ q.den ≤ B
theorem OHg.up {q : Rat} {B C : Nat} (h : OHg q B) (hc : B ≤ C) : OHg q C := ⟨Nat.le_trans h.1 hc, Nat.le_trans h.2 hc⟩
theorem ohg_divInt {n : Int} {d : Nat} {B : Nat} (hd : d ≠ 0) (h1 : n.natAbs ≤ B) (h2 : d ≤ B) : OHg (Rat.divInt n d) B := by
  have e : Rat.divInt n d = mkRat n d := Rat.divInt_ofNat n d
  rw [e]
  have e2 := Rat.normalize_eq_mkRat (num := n) (den := d) hd
  rw [← e2, Rat.normalize_eq]
  exact ⟨by
    show (n / _).natAbs ≤ B
    exact Nat.le_trans (by rw [Int.natAbs_ediv_of_dvd (Int.ofNat_dvd_left.2 (Nat.gcd_dvd_left _ _)), Int.natAbs_natCast]; exact Nat.div_le_self _ _) h1, Nat.le_trans (Nat.div_le_self _ _) h2⟩
theorem OHg.neg {q : Rat} {B : Nat} (h : OHg q B) : OHg (-q) B := ⟨by show (-q).num.natAbs ≤ B; rw [Rat.neg_num, Int.natAbs_neg]; exact h.1, by show (-q).den ≤ B; rw [Rat.neg_den]; exact h.2⟩
theorem OHg.mul {p q : Rat} {B C : Nat} (h : OHg p B) (g : OHg q C) : OHg (p * q) (B * C) := by
  have e : p * q = Rat.divInt (p.num * q.num) ((p.den * q.den : Nat) : Int) := by
    have e1 := Rat.divInt_mul_divInt p.num q.num (d₁ := p.den) (d₂ := q.den)
    rw [Rat.num_divInt_den, Rat.num_divInt_den] at e1
    rw [e1]; norm_cast
  rw [e]
  exact ohg_divInt (Nat.mul_ne_zero p.den_nz q.den_nz) (by rw [Int.natAbs_mul]; exact Nat.mul_le_mul h.1 g.1) (Nat.mul_le_mul h.2 g.2)
theorem OHg.add {p q : Rat} {B C : Nat} (h : OHg p B) (g : OHg q C) : OHg (p + q) (2 * (B * C)) := by
  have e : p + q = Rat.divInt (p.num * q.den + q.num * p.den) ((p.den * q.den : Nat) : Int) := by
    have e1 := Rat.divInt_add_divInt p.num q.num (d₁ := p.den) (d₂ := q.den) (by have := p.den_nz; omega) (by have := q.den_nz; omega)
    rw [Rat.num_divInt_den, Rat.num_divInt_den] at e1
    rw [e1]; norm_cast
  rw [e]
  have h1 : (p.num * q.den).natAbs ≤ B * C := by rw [Int.natAbs_mul, Int.natAbs_natCast]; exact Nat.mul_le_mul h.1 g.2
  have h2 : (q.num * p.den).natAbs ≤ B * C := by rw [Int.natAbs_mul, Int.natAbs_natCast, Nat.mul_comm B C]; exact Nat.mul_le_mul g.1 h.2
  have h3 : p.den * q.den ≤ B * C := Nat.mul_le_mul h.2 g.2
  exact ohg_divInt (Nat.mul_ne_zero p.den_nz q.den_nz) (Nat.le_trans (Int.natAbs_add_le _ _) (by omega)) (by omega)
theorem OHg.sub {p q : Rat} {B C : Nat} (h : OHg p B) (g : OHg q C) : OHg (p - q) (2 * (B * C)) := by
  rw [Rat.sub_eq_add_neg]
  exact h.add g.neg
theorem OHg.short {q : Rat} {B : Nat} (h : OHg q B) (hb : B < oL) : ¬ rlong q := by
  have e := oL_lt
  have h1 := h.1
  have h2 := h.2
  rintro (hh | hh) <;> omega
end Go.Proofs.Ytkkehddpblkegaa

/- gauss.Same, Norm, Conj, Mul of good numbers, as letters; the laws' unit and lives of layer 5. (tools/mkrq6.py) -/
namespace Go.Proofs.Ytkkehddpblkegaa
open Go.RowKit
set_option linter.unusedVariables false
set_option linter.unusedSimpArgs false

/-- Good numbers are the same just if their words are. -/
theorem G6.Is.iff {g h : G6} {q1 q2 r1 r2 : Rat} (i : g.Is q1 q2) (j : h.Is r1 r2) : (decide (g.n = h.n ∧ g.xs = h.xs ∧ g.ys = h.ys) && decide (g.m = h.m ∧ g.us = h.us ∧ g.vs = h.vs)) = decide (q1 = r1 ∧ q2 = r2) := by
  obtain ⟨⟨i1, i2⟩, ⟨i3, i4⟩, w1, w2, w3, w4⟩ := i
  obtain ⟨⟨j1, j2⟩, ⟨j3, j4⟩, v1, v2, v3, v4⟩ := j
  by_cases e : q1 = r1 ∧ q2 = r2
  · obtain ⟨e1, e2⟩ := e
    subst e1 e2
    have a := kp_self w1 w2 i1
    have b := kp_self v1 v2 j1
    have c := kp_self w3 w4 i3
    have d := kp_self v3 v4 j3
    rw [i2] at a
    rw [j2] at b
    rw [i4] at c
    rw [j4] at d
    obtain ⟨s1, s2, s3, _⟩ := a.same b
    obtain ⟨s4, s5, s6, _⟩ := c.same d
    simp [s1, s2, s3, s4, s5, s6]
  · rw [decide_eq_false e]
    by_cases a : g.n = h.n ∧ g.xs = h.xs ∧ g.ys = h.ys
    · by_cases b : g.m = h.m ∧ g.us = h.us ∧ g.vs = h.vs
      · exfalso
        refine e ⟨?_, ?_⟩
        · rw [← i2, ← j2, a.1, a.2.1, a.2.2]
        · rw [← i4, ← j4, b.1, b.2.1, b.2.2]
      · rw [decide_eq_false b, Bool.and_false]
    · rw [decide_eq_false a, Bool.false_and]
theorem oSame_any (g h : G6) (q1 q2 r1 r2 : Rat) (w : World) (sg : g.Sl4 w) (sh : h.Sl4 w) (ig : g.Is q1 q2) (ih : h.Is r1 r2) :
    Calls Try.prog 11 #[.agg #[.bool g.n, .slice g.a g.xs.length g.ca, .slice g.b g.ys.length g.cb, .bool g.m, .slice g.c g.us.length g.cc, .slice g.d g.vs.length g.cd], .agg #[.bool h.n, .slice h.a h.xs.length h.ca, .slice h.b h.ys.length h.cb, .bool h.m, .slice h.c h.us.length h.cc, .slice h.d h.vs.length h.cd]] w fun e w' => e = .returned (.bool (decide (q1 = r1 ∧ q2 = r2))) ∧ Hid (Below w.heap.size w w') := by
  have lg := ig.len
  have lh := ih.len
  refine Calls.mono (gSame_any g.n g.a g.ca g.xs g.b g.cb g.ys g.m g.c g.cc g.us g.d g.cd g.vs h.n h.a h.ca h.xs h.b h.cb h.ys h.m h.c h.cc h.us h.d h.cd h.vs w sg.1 sg.2.1 sg.2.2.1 sg.2.2.2 sh.1 sh.2.1 sh.2.2.1 sh.2.2.2 (by omega) (by omega) (by omega) (by omega) (by omega) (by omega) (by omega) (by omega)) ?_
  rintro e w' ⟨rfl, hb⟩
  rw [ig.iff ih, ig.chk]
  exact ⟨by simp, hb⟩
theorem o_sz1 {x : Int} (h : 0 < x) : sz [x] = 1 := by
  have hx : x ≠ 0 := by omega
  simp [sz, szTo, hx]
theorem o_val1 (x : Int) : val [x] = x := by simp [val, valTo]
/-- The words of a small whole number. -/
theorem o_word {xs : List Int} {x : Int} (wx : Wd xs) (tx : Trimmed xs) (h : val xs = x) (h0 : 0 < x) (h1 : x < 4294967296) : xs = [x] := by
  refine trimmed_eq wx ?_ tx ?_ ?_
  · intro z hz
    have : z = x := by simpa using hz
    omega
  · unfold Trimmed
    exact o_sz1 h0
  · rw [h]
    exact (o_val1 x).symm
theorem o_pos1 {n : Bool} {xs : List Int} {x : Int} (wx : Wd xs) (tx : Trimmed xs) (h : wval n xs = x) (h0 : 0 < x) (h1 : x < 4294967296) : n = false ∧ xs = [x] := by
  have p := val_nonneg wx
  have hn : n = false := by
    cases n
    · rfl
    · unfold wval at h; simp at h; omega
  subst hn
  have h' : val xs = x := by unfold wval at h; simpa using h
  exact ⟨rfl, o_word wx tx h' h0 h1⟩
end Go.Proofs.Ytkkehddpblkegaa

/- package rotor: Of told by its words; Find of a rotor's number. (tools/mkrr2.py) -/
namespace Go.Proofs.Ytkkehddpblkegaa
open Go.RowKit
set_option linter.unusedVariables false
set_option linter.unusedSimpArgs false

/-- One word with its sign. -/
theorem o_word1 {n : Bool} {xs : List Int} {X : Int} (wx : Wd xs) (tx : Trimmed xs) (h : wval n xs = X) (h0 : X ≠ 0) (h1 : X.natAbs < 4294967296) : ∃ x, xs = [x] ∧ sgw n x = X := by
  have p := val_nonneg wx
  cases n
  · have h' : val xs = X := by unfold wval at h; simpa using h
    exact ⟨X, o_word wx tx h' (by omega) (by omega), rfl⟩
  · have h' : val xs = -X := by unfold wval at h; simp at h; omega
    exact ⟨-X, o_word wx tx h' (by omega) (by omega), by unfold sgw; simp⟩
theorem o_nz {f n : Int} (h : rOK f n) : oRe f n ≠ 0 ∧ oIm f n ≠ 0 ∧ (oRe f n).natAbs < 4294967296 ∧ (oIm f n).natAbs < 4294967296 ∧ 0 < oNm f n ∧ oNm f n < 4294967296 := by
  obtain ⟨e, he, h1, h2, h3, h4, h5, h6, g1, g2⟩ := o_parts h
  have hs := o_size h
  have l := o_low h 1
  rw [zpow_one, Int.pow_one] at l
  have b := o_big h 1
  rw [zpow_one, Nat.pow_one] at b
  refine ⟨fun z => ?_, fun z => ?_, ?_, ?_, by omega, by omega⟩
  · have q := l.1
    rw [show (oRe f n, oIm f n).1 = oRe f n from rfl, z, Int.gcd_zero_left] at q
    omega
  · have q := l.2
    rw [show (oRe f n, oIm f n).2 = oIm f n from rfl, z, Int.gcd_zero_left] at q
    omega
  · have q := b.1
    exact Nat.lt_of_le_of_lt q (by omega)
  · have q := b.2
    exact Nat.lt_of_le_of_lt q (by omega)
/-- What Of tells, by its words. -/
def OWd (w : World) (f r : Int) (z : Ending) (w' : World) : Prop := ∃ (n : Bool) (a : Option Addr) (ca : Nat) (b : Option Addr) (cb : Nat) (m : Bool) (c : Option Addr) (cc : Nat) (d : Option Addr) (cd : Nat) (x e y : Int), z = .returned (.tuple #[.agg #[.bool n, .slice a 1 ca, .slice b 1 cb, .bool m, .slice c 1 cc, .slice d 1 cd], .int .i64 0]) ∧ Hid ((⟨n, a, ca, [x], b, cb, [e], m, c, cc, [y], d, cd, [e]⟩ : G6).Ow w' w.heap.size) ∧ Hid ((⟨n, a, ca, [x], b, cb, [e], m, c, cc, [y], d, cd, [e]⟩ : G6).Is (Rat.divInt (oRe f r) (oNm f r)) (Rat.divInt (oIm f r) (oNm f r))) ∧ Hid (sgw n x = oRe f r ∧ e = oNm f r ∧ sgw m y = oIm f r) ∧ Hid (Below w.heap.size w w')
theorem oOf_w (f r : Int) (w : World) (hr : rOK f r) : Calls Try.prog 9 #[.agg #[.int .i32 f, .int .i32 r]] w (OWd w f r) := by
  refine Calls.mono (oOf_good f r w hr) ?_
  rintro z w' ⟨g, h, a1, c1, a2, c2, a3, c3, a4, c4, rfl, ho, hg, hh, hb, _⟩
  have ig := hg.out
  have ih := hh.out
  rw [o_div1, o_div1] at ig ih
  have hp : OPw g h (oRe f r, oIm f r) (oNm f r) := ⟨ig, ih⟩
  have nz := o_nz hr
  have l := o_low hr 1
  rw [zpow_one, Int.pow_one] at l
  have is := onum_is hp nz.2.2.2.2.1 l.1 l.2 a1 c1 a2 c2 a3 c3 a4 c4
  obtain ⟨⟨i1, i2⟩, ⟨i3, i4⟩, w1, w2, w3, w4⟩ := ig
  obtain ⟨⟨j1, j2⟩, _, v1, v2, _⟩ := ih
  obtain ⟨e1, t1, _⟩ := o_whole w1 w2 i1 i2
  obtain ⟨e2, t2, _⟩ := o_whole w3 w4 i3 i4
  obtain ⟨e3, t3, _⟩ := o_whole v1 v2 j1 j2
  obtain ⟨x, p1, p2⟩ := o_word1 w1 t1 e1 nz.1 nz.2.2.1
  obtain ⟨y, p3, p4⟩ := o_word1 w3 t2 e2 nz.2.1 nz.2.2.2.1
  obtain ⟨p5, p6⟩ := o_pos1 v1 t3 e3 nz.2.2.2.2.1 nz.2.2.2.2.2
  have ho' := ho.out
  unfold oNum at is
  rw [p1, p3, p6] at ho' is
  rw [p1, p3, p6]
  exact ⟨g.n, a1, c1, a2, c2, g.m, a3, c3, a4, c4, x, oNm f r, y, rfl, ho', is, ⟨p2, rfl, p4⟩, hb⟩

set_option maxHeartbeats 6400000 in
set_option maxRecDepth 100000 in
theorem oFind_good (f r : Int) (hr : rOK f r) (n : Bool) (a : Option Addr) (ca : Nat) (b : Option Addr) (cb : Nat) (m : Bool) (c : Option Addr) (cc : Nat) (d : Option Addr) (cd : Nat) (x e y : Int) (w : World) (sg : (⟨n, a, ca, [x], b, cb, [e], m, c, cc, [y], d, cd, [e]⟩ : G6).Sl4 w) (ig : (⟨n, a, ca, [x], b, cb, [e], m, c, cc, [y], d, cd, [e]⟩ : G6).Is (Rat.divInt (oRe f r) (oNm f r)) (Rat.divInt (oIm f r) (oNm f r))) (hw : sgw n x = oRe f r ∧ e = oNm f r ∧ sgw m y = oIm f r) :
    Calls Try.prog 10 #[.agg #[.bool n, .slice a 1 ca, .slice b 1 cb, .bool m, .slice c 1 cc, .slice d 1 cd]] w fun z w' => z = .returned (.tuple #[.agg #[.int .i32 f, .int .i32 r], .bool true]) ∧ Below w.heap.size w w' := by
  obtain ⟨X, hX⟩ : ∃ X, (w.alloc (.cells #[.bool n, .slice a 1 ca, .slice b 1 cb, .bool m, .slice c 1 cc, .slice d 1 cd] 35)).alloc (.cells #[.int .i32 0, .int .i32 0] 25) = X := ⟨_, rfl⟩
  have HB : Hid (Below w.heap.size w X) := by rw [← hX]; exact bt (alloc_later _ _) (alloc_later _ _)
  have HG : Hid (Box X w.heap.size 35 #[.bool n, .slice a 1 ca, .slice b 1 cb, .bool m, .slice c 1 cc, .slice d 1 cd]) := by rw [← hX]; exact (Box.made w _ _).later (alloc_later _ _) (Box.made w _ _).lt
  have HZ : Hid (Box X (w.heap.size + 1) 25 #[.int .i32 0, .int .i32 0]) := by
    have q := Box.made (w.alloc (.cells #[.bool n, .slice a 1 ca, .slice b 1 cb, .bool m, .slice c 1 cc, .slice d 1 cd] 35)) 25 #[.int .i32 0, .int .i32 0]
    rw [show (w.alloc (.cells #[.bool n, .slice a 1 ca, .slice b 1 cb, .bool m, .slice c 1 cc, .slice d 1 cd] 35)).heap.size = w.heap.size + 1 by simp, hX] at q
    exact q
  have HC : Hid (Calls Try.prog 20 #[.agg #[.bool n, .slice a 1 ca, .slice b 1 cb, .bool m, .slice c 1 cc, .slice d 1 cd]] X fun z w' => z = .returned (.tuple #[.agg #[.int .i32 f, .int .i32 r], .bool true]) ∧ Below X.heap.size X w') := by
    obtain ⟨E, he, h1, h2, h3, _⟩ := o_parts hr
    obtain ⟨q1, q2, q3, q4, q5, q6⟩ := hr
    have hE : 0 < E * f := Int.mul_pos (by omega) (by omega)
    obtain ⟨G, hG⟩ : ∃ G : Nat, E * f = (G : Int) := ⟨(E * f).toNat, by omega⟩
    have s := sg.later HB.out
    have hgc : Nat.gcd (f * (G : Int)).toNat (r * (G : Int)).natAbs = G := by
      have k1 : (f * (G : Int)).toNat = f.toNat * G := by
        have : (((f.toNat * G : Nat)) : Int) = f * G := by rw [Int.natCast_mul, Int.toNat_of_nonneg (by omega)]
        omega
      rw [k1, Int.natAbs_mul, Int.natAbs_natCast, Nat.gcd_mul_right, q6, Nat.one_mul]
    exact ocand_good n m a b c d ca cb cc cd x e y e f r G X s.1 s.2.1 s.2.2.1 (by rw [hw.1, hw.2.1, ← hG, h2]; grind) (by rw [hw.2.2, ← hG, h3]; grind) hgc q1 q2 (by omega) q4 (by omega)
  have HO := hid (fun V => oOf_w f r V hr)
  have HS : Hid (∀ V, Below X.heap.size X V → ∀ k : G6, k.Sl4 V → k.Is (Rat.divInt (oRe f r) (oNm f r)) (Rat.divInt (oIm f r) (oNm f r)) → Calls Try.prog 11 #[.agg #[.bool k.n, .slice k.a k.xs.length k.ca, .slice k.b k.ys.length k.cb, .bool k.m, .slice k.c k.us.length k.cc, .slice k.d k.vs.length k.cd], .agg #[.bool n, .slice a 1 ca, .slice b 1 cb, .bool m, .slice c 1 cc, .slice d 1 cd]] V fun z w' => z = .returned (.bool true) ∧ Hid (Below V.heap.size V w')) := fun V hv k sk ik => by
    have q := oSame_any k (⟨n, a, ca, [x], b, cb, [e], m, c, cc, [y], d, cd, [e]⟩ : G6) _ _ _ _ V sk (sg.later (bt HB.out hv)) ik ig
    rw [decide_eq_true (And.intro rfl rfl)] at q
    exact q
  have hr1 : -1000 ≤ r ∧ r ≤ 1000 ∧ 1 ≤ f ∧ f ≤ 1000 := by unfold rOK at hr; omega
  have p0 : X.cell? ⟨w.heap.size, 0, none⟩ = some (.bool n) := (HG.out).cell 0
  have p1 : X.cell? ⟨w.heap.size, 1, none⟩ = some (.slice a 1 ca) := (HG.out).cell 1
  have p2 : X.cell? ⟨w.heap.size, 2, none⟩ = some (.slice b 1 cb) := (HG.out).cell 2
  have p3 : X.cell? ⟨w.heap.size, 3, none⟩ = some (.bool m) := (HG.out).cell 3
  have p4 : X.cell? ⟨w.heap.size, 4, none⟩ = some (.slice c 1 cc) := (HG.out).cell 4
  have p5 : X.cell? ⟨w.heap.size, 5, none⟩ = some (.slice d 1 cd) := (HG.out).cell 5
  have zx := HZ.out.lt
  clear sg ig hw hr
  go_enter Try.func10, Try.ntmps10
  go_wp2_with fail
  clear hX
  refine Calls.mono HC.out ?_
  rintro z w1 ⟨rfl, hb1⟩
  have HB1 := hid hb1
  clear HC hb1 p0 p1 p2 p3 p4 p5
  obtain ⟨Y, hY⟩ : ∃ Y, w1.alloc (.cells #[.int .i32 0, .int .i32 0] 25) = Y := ⟨_, rfl⟩
  have HYN : Hid (Box Y w1.heap.size 25 #[.int .i32 0, .int .i32 0]) := by rw [← hY]; exact Box.made w1 _ _
  have HYB : Hid (Below w1.heap.size w1 Y) := by rw [← hY]; exact alloc_later _ _
  obtain ⟨A0, A1, qA0, qA1, ⟨rA0, rA1⟩, ⟨fA0, fA1⟩, HA⟩ := rchain2 HYN.out (by decide) (.int .i32 f) (.int .i32 r)
  have zz := HB1.out.size
  have HAX : Hid (Below X.heap.size X A1) := HA.out.2.2.2.1 _ _ (by omega) (bt HB1.out HYB.out)
  have HAR := hid HA.out.1
  have k0 : A1.cell? ⟨w1.heap.size, 0, none⟩ = some (.int .i32 f) := HAR.out.cell 0
  have k1 : A1.cell? ⟨w1.heap.size, 1, none⟩ = some (.int .i32 r) := HAR.out.cell 1
  have HD := hid (HO.out A1)
  clear HO HA HYN HYB
  go_wp2_with fail
  refine Calls.mono HD.out ?_
  rintro z w2 ⟨n2, a2, ca2, b2, cb2, m2, c2, cc2, d2, cd2, x2, e2, y2, rfl, ho, hi, _, hb2⟩
  clear HD hY qA0 qA1 rA0 rA1 fA0 fA1 k0 k1
  obtain ⟨U, hU⟩ : ∃ U, w2.alloc (.cells #[.bool false, .slice none 0 0, .slice none 0 0, .bool false, .slice none 0 0, .slice none 0 0] 35) = U := ⟨_, rfl⟩
  have HUN : Hid (Box U w2.heap.size 35 #[.bool false, .slice none 0 0, .slice none 0 0, .bool false, .slice none 0 0, .slice none 0 0]) := by rw [← hU]; exact Box.made w2 _ _
  have HUB : Hid (Below w2.heap.size w2 U) := by rw [← hU]; exact alloc_later _ _
  obtain ⟨B0, B1, B2, B3, B4, B5, qB0, qB1, qB2, qB3, qB4, qB5, ⟨rB0, rB1, rB2, rB3, rB4, rB5⟩, ⟨fB0, fB1, fB2, fB3, fB4, fB5⟩, HP⟩ := rchain6 HUN.out (by decide) (.bool n2) (.slice a2 1 ca2) (.slice b2 1 cb2) (.bool m2) (.slice c2 1 cc2) (.slice d2 1 cd2)
  have zw := hb2.out.size
  have zA := HAX.out.size
  have HBX : Hid (Below X.heap.size X B5) := HP.out.2.2.2.1 _ _ (by omega) (bt HAX.out (bt hb2.out HUB.out))
  have HBR := hid (HP.out.2.1 _ _ _ (Nat.ne_of_lt (HAR.out.later hb2.out HAR.out.lt).lt) (HAR.out.later (bt hb2.out HUB.out) HAR.out.lt))
  have HBN := hid HP.out.1
  have sl2 : (⟨n2, a2, ca2, [x2], b2, cb2, [e2], m2, c2, cc2, [y2], d2, cd2, [e2]⟩ : G6).Sl4 B5 := G6.Ow.sl (⟨HP.out.2.2.1 _ _ _ _ (owns_later ho.out.1 HUB.out), HP.out.2.2.1 _ _ _ _ (owns_later ho.out.2.1 HUB.out), HP.out.2.2.1 _ _ _ _ (owns_later ho.out.2.2.1 HUB.out), HP.out.2.2.1 _ _ _ _ (owns_later ho.out.2.2.2 HUB.out)⟩ : (⟨n2, a2, ca2, [x2], b2, cb2, [e2], m2, c2, cc2, [y2], d2, cd2, [e2]⟩ : G6).Ow B5 A1.heap.size) hi.out
  have HD : Hid (Calls Try.prog 11 #[.agg #[.bool n2, .slice a2 1 ca2, .slice b2 1 cb2, .bool m2, .slice c2 1 cc2, .slice d2 1 cd2], .agg #[.bool n, .slice a 1 ca, .slice b 1 cb, .bool m, .slice c 1 cc, .slice d 1 cd]] B5 fun z w' => z = .returned (.bool true) ∧ Hid (Below B5.heap.size B5 w')) := HS.out B5 HBX.out (⟨n2, a2, ca2, [x2], b2, cb2, [e2], m2, c2, cc2, [y2], d2, cd2, [e2]⟩ : G6) sl2 hi.out
  have HGX := hid (HG.out.later HBX.out HG.out.lt)
  have p0 : B5.cell? ⟨w.heap.size, 0, none⟩ = some (.bool n) := (HGX.out).cell 0
  have p1 : B5.cell? ⟨w.heap.size, 1, none⟩ = some (.slice a 1 ca) := (HGX.out).cell 1
  have p2 : B5.cell? ⟨w.heap.size, 2, none⟩ = some (.slice b 1 cb) := (HGX.out).cell 2
  have p3 : B5.cell? ⟨w.heap.size, 3, none⟩ = some (.bool m) := (HGX.out).cell 3
  have p4 : B5.cell? ⟨w.heap.size, 4, none⟩ = some (.slice c 1 cc) := (HGX.out).cell 4
  have p5 : B5.cell? ⟨w.heap.size, 5, none⟩ = some (.slice d 1 cd) := (HGX.out).cell 5
  have s0 : B5.cell? ⟨w2.heap.size, 0, none⟩ = some (.bool n2) := (HBN.out).cell 0
  have s1 : B5.cell? ⟨w2.heap.size, 1, none⟩ = some (.slice a2 1 ca2) := (HBN.out).cell 1
  have s2 : B5.cell? ⟨w2.heap.size, 2, none⟩ = some (.slice b2 1 cb2) := (HBN.out).cell 2
  have s3 : B5.cell? ⟨w2.heap.size, 3, none⟩ = some (.bool m2) := (HBN.out).cell 3
  have s4 : B5.cell? ⟨w2.heap.size, 4, none⟩ = some (.slice c2 1 cc2) := (HBN.out).cell 4
  have s5 : B5.cell? ⟨w2.heap.size, 5, none⟩ = some (.slice d2 1 cd2) := (HBN.out).cell 5
  clear HS sl2 ho hi HUN HUB HP HAR
  go_wp2_with fail
  refine Calls.mono HD.out ?_
  rintro z w3 ⟨rfl, hb3⟩
  clear HD hU qB0 qB1 qB2 qB3 qB4 qB5 rB0 rB1 rB2 rB3 rB4 rB5 fB0 fB1 fB2 fB3 fB4 fB5 p0 p1 p2 p3 p4 p5 s0 s1 s2 s3 s4 s5
  have HR3 := hid (HBR.out.later hb3.out HBR.out.lt)
  have HZ3 := hid (HZ.out.later (bt HBX.out hb3.out) HZ.out.lt)
  have k0 : w3.cell? ⟨w1.heap.size, 0, none⟩ = some (.int .i32 f) := HR3.out.cell 0
  have k1 : w3.cell? ⟨w1.heap.size, 1, none⟩ = some (.int .i32 r) := HR3.out.cell 1
  obtain ⟨C0, C1, qC0, qC1, ⟨rC0, rC1⟩, ⟨fC0, fC1⟩, HC⟩ := rchain2 HZ3.out (by decide) (.int .i32 f) (.int .i32 r)
  go_wp2_with fail
  refine bodyPost_ret (rores_run (by rfl) HC.out.1 _ (by rfl)) rfl ?_
  exact ⟨rfl, HC.out.2.2.2.1 _ _ (by omega) (bt HB.out (bt HBX.out hb3.out))⟩
end Go.Proofs.Ytkkehddpblkegaa

/- The laws' lives of layer 5: the chapter's first example. (tools/mkrq7.py) -/
namespace Go.Proofs.Ytkkehddpblkegaa
open Go.RowKit
set_option linter.unusedVariables false
set_option linter.unusedSimpArgs false

theorem olit (w : World) (x : Int) : (w.alloc (.cells #[.int .u32 x] 45)).ownsRow w.heap.size 45 1 (.slice (some ⟨w.heap.size, 0, none⟩) 1 1) 1 [.int .u32 x] := World.ownsRow_lit w #[.int .u32 x] 1 (Nat.le_refl _) (by decide) rfl
theorem olit' {w : World} {b : Nat} (x : Int) (h : w.heap.size = b) : (w.alloc (.cells #[.int .u32 x] 45)).ownsRow b 45 1 (.slice (some ⟨b, 0, none⟩) 1 1) 1 [.int .u32 x] := by subst h; exact olit w x
theorem owd1 {x : Int} (h0 : 0 ≤ x) (h1 : x < 4294967296) : Wd [x] := fun z hz => by
  have : z = x := by simpa using hz
  omega
theorem oOf21 (w : World) : Calls Try.prog 9 #[.agg #[.int .i32 2, .int .i32 1]] w fun e w' => ∃ a1 c1 a2 c2 a3 c3 a4 c4, e = .returned (.tuple #[.agg #[.bool false, .slice a1 1 c1, .slice a2 1 c2, .bool false, .slice a3 1 c3, .slice a4 1 c4], .int .i64 0]) ∧ Hid (w'.ownsRow w.heap.size 45 1 (.slice a1 1 c1) 1 [.int .u32 3] ∧ w'.ownsRow w.heap.size 45 1 (.slice a2 1 c2) 1 [.int .u32 5] ∧ w'.ownsRow w.heap.size 45 1 (.slice a3 1 c3) 1 [.int .u32 4] ∧ w'.ownsRow w.heap.size 45 1 (.slice a4 1 c4) 1 [.int .u32 5]) ∧ Hid (Below w.heap.size w w') := by
  refine Calls.mono (oOf_good 2 1 w (by decide)) ?_
  rintro e w' ⟨g, h, a1, c1, a2, c2, a3, c3, a4, c4, rfl, ho, hg, hh, hb, _⟩
  have ig := hg.out
  have ih := hh.out
  rw [o_div1, o_div1] at ig ih
  obtain ⟨⟨i1, i2⟩, ⟨i3, i4⟩, w1, w2, w3, w4⟩ := ig
  obtain ⟨⟨j1, j2⟩, _, v1, v2, _⟩ := ih
  obtain ⟨e1, t1, _⟩ := o_whole w1 w2 i1 i2
  obtain ⟨e2, t2, _⟩ := o_whole w3 w4 i3 i4
  obtain ⟨e3, t3, _⟩ := o_whole v1 v2 j1 j2
  obtain ⟨p1, p2⟩ := o_pos1 w1 t1 (e1.trans (show oRe 2 1 = 3 by decide)) (by decide) (by decide)
  obtain ⟨p3, p4⟩ := o_pos1 w3 t2 (e2.trans (show oIm 2 1 = 4 by decide)) (by decide) (by decide)
  obtain ⟨p5, p6⟩ := o_pos1 v1 t3 (e3.trans (show oNm 2 1 = 5 by decide)) (by decide) (by decide)
  have ho' := ho.out
  rw [p2, p4, p6] at ho'
  rw [p1, p2, p3, p4, p6]
  exact ⟨a1, c1, a2, c2, a3, c3, a4, c4, rfl, ho', hb⟩

set_option maxHeartbeats 3200000 in
set_option maxRecDepth 100000 in
theorem olives_any (w : World) : Calls Try.prog 5 #[] w fun e w' => e = .returned (.bool true) ∧ Below w.heap.size w w' := by
  have HD := hid (oOf21 w)
  go_enter Try.func5, Try.ntmps5
  go_wp2_with fail
  refine Calls.mono HD.out ?_
  rintro e w1 ⟨a1, c1, a2, c2, a3, c3, a4, c4, rfl, ho, hb⟩
  clear HD
  obtain ⟨Y, hY⟩ : ∃ Y, w1.alloc (.cells #[.bool false, .slice none 0 0, .slice none 0 0, .bool false, .slice none 0 0, .slice none 0 0] 35) = Y := ⟨_, rfl⟩
  have HY : Hid (Box Y w1.heap.size 35 #[.bool false, .slice none 0 0, .slice none 0 0, .bool false, .slice none 0 0, .slice none 0 0]) := by rw [← hY]; exact Box.made w1 _ _
  have HYB : Hid (Below w1.heap.size w1 Y) := by rw [← hY]; exact alloc_later _ _
  obtain ⟨A0, A1, A2, A3, A4, A5, qA0, qA1, qA2, qA3, qA4, qA5, ⟨rA0, rA1, rA2, rA3, rA4, rA5⟩, ⟨fA0, fA1, fA2, fA3, fA4, fA5⟩, HA⟩ := rchain6 HY.out (by decide) (.bool false) (.slice a1 1 c1) (.slice a2 1 c2) (.bool false) (.slice a3 1 c3) (.slice a4 1 c4)
  have HBA : Hid (Below w.heap.size w A5) := HA.out.2.2.2.1 _ _ hb.out.size (bt hb.out HYB.out)
  have HO : Hid (A5.ownsRow w.heap.size 45 1 (.slice a1 1 c1) 1 [.int .u32 3] ∧ A5.ownsRow w.heap.size 45 1 (.slice a2 1 c2) 1 [.int .u32 5] ∧ A5.ownsRow w.heap.size 45 1 (.slice a3 1 c3) 1 [.int .u32 4] ∧ A5.ownsRow w.heap.size 45 1 (.slice a4 1 c4) 1 [.int .u32 5]) := by
    have q := ho.out
    have P := HA.out.2.2.1
    exact ⟨P _ _ _ _ (owns_later q.1 HYB.out), P _ _ _ _ (owns_later q.2.1 HYB.out), P _ _ _ _ (owns_later q.2.2.1 HYB.out), P _ _ _ _ (owns_later q.2.2.2 HYB.out)⟩
  have p0 : A5.cell? ⟨w1.heap.size, 0, none⟩ = some (.bool false) := (HA.out.1).cell 0
  have p1 : A5.cell? ⟨w1.heap.size, 1, none⟩ = some (.slice a1 1 c1) := (HA.out.1).cell 1
  have p2 : A5.cell? ⟨w1.heap.size, 2, none⟩ = some (.slice a2 1 c2) := (HA.out.1).cell 2
  have p3 : A5.cell? ⟨w1.heap.size, 3, none⟩ = some (.bool false) := (HA.out.1).cell 3
  have p4 : A5.cell? ⟨w1.heap.size, 4, none⟩ = some (.slice a3 1 c3) := (HA.out.1).cell 4
  have p5 : A5.cell? ⟨w1.heap.size, 5, none⟩ = some (.slice a4 1 c4) := (HA.out.1).cell 5
  obtain ⟨U, hU⟩ : ∃ U, ((((A5.alloc (.cells #[.int .u32 3] 45)).alloc (.cells #[.int .u32 5] 45)).alloc (.cells #[.int .u32 4] 45)).alloc (.cells #[.int .u32 5] 45)) = U := ⟨_, rfl⟩
  have HU : Hid (Below A5.heap.size A5 U) := by rw [← hU]; exact bt (bt (bt (alloc_later _ _) (alloc_later _ _)) (alloc_later _ _)) (alloc_later _ _)
  have HL : Hid (U.ownsRow (A5.heap.size) 45 1 (.slice (some ⟨A5.heap.size, 0, none⟩) 1 1) 1 [.int .u32 3] ∧ U.ownsRow (A5.heap.size + 1) 45 1 (.slice (some ⟨A5.heap.size + 1, 0, none⟩) 1 1) 1 [.int .u32 5] ∧ U.ownsRow (A5.heap.size + 1 + 1) 45 1 (.slice (some ⟨A5.heap.size + 1 + 1, 0, none⟩) 1 1) 1 [.int .u32 4] ∧ U.ownsRow (A5.heap.size + 1 + 1 + 1) 45 1 (.slice (some ⟨A5.heap.size + 1 + 1 + 1, 0, none⟩) 1 1) 1 [.int .u32 5]) := by
    rw [← hU]
    refine ⟨?_, ?_, ?_, ?_⟩
    · exact owns_later (owns_later (owns_later (olit A5 3) (alloc_later _ _)) (alloc_later _ _)) (alloc_later _ _)
    · exact owns_later (owns_later (olit' 5 (by simp)) (alloc_later _ _)) (alloc_later _ _)
    · exact owns_later (olit' 4 (by simp)) (alloc_later _ _)
    · exact olit' 5 (by simp)
  have HS : Hid (Calls Try.prog 14 #[.agg #[.bool false, .slice a1 1 c1, .slice a2 1 c2, .bool false, .slice a3 1 c3, .slice a4 1 c4], .agg #[.bool false, .slice (some ⟨A5.heap.size, 0, none⟩) 1 1, .slice (some ⟨A5.heap.size + 1, 0, none⟩) 1 1, .bool false, .slice (some ⟨A5.heap.size + 1 + 1, 0, none⟩) 1 1, .slice (some ⟨A5.heap.size + 1 + 1 + 1, 0, none⟩) 1 1]] U fun x w' => x = .returned (.bool true) ∧ Below U.heap.size U w') :=
    gsameGauss_eq false a1 c1 [3] a2 c2 [5] false a3 c3 [4] a4 c4 [5] (some ⟨A5.heap.size, 0, none⟩) 1 (some ⟨A5.heap.size + 1, 0, none⟩) 1 (some ⟨A5.heap.size + 1 + 1, 0, none⟩) 1 (some ⟨A5.heap.size + 1 + 1 + 1, 0, none⟩) 1 U (Sl.own (owns_later HO.out.1 HU.out) (owd1 (by decide) (by decide))) (Sl.own (owns_later HO.out.2.1 HU.out) (owd1 (by decide) (by decide))) (Sl.own (owns_later HO.out.2.2.1 HU.out) (owd1 (by decide) (by decide))) (Sl.own (owns_later HO.out.2.2.2 HU.out) (owd1 (by decide) (by decide))) (Sl.own HL.out.1 (owd1 (by decide) (by decide))) (Sl.own HL.out.2.1 (owd1 (by decide) (by decide))) (Sl.own HL.out.2.2.1 (owd1 (by decide) (by decide))) (Sl.own HL.out.2.2.2 (owd1 (by decide) (by decide))) (by decide) (by decide) (by decide) (by decide)
  clear HL HO ho hb HYB HY
  go_wp2_with fail
  refine Calls.mono HS.out ?_
  rintro e w2 ⟨rfl, hb2⟩
  have HF := hid (bt (bt HBA.out HU.out) hb2)
  clear HS hb2
  go_wp2_with fail
  go_ret
  exact ⟨rfl, HF.out⟩
end Go.Proofs.Ytkkehddpblkegaa

/- The document's rotor (slackwaterref05): gcd, Check, of every rotor: the same answers as the program's. -/
namespace Go.Proofs.Ytkkehddpblkegaa
open Go.RowKit
set_option linter.unusedVariables false

end Go.Proofs.Ytkkehddpblkegaa

/- The document's rotor (slackwaterref05): Apart, of every list of rotors. -/
namespace Go.Proofs.Ytkkehddpblkegaa
open Go.RowKit
set_option linter.unusedVariables false

def xO (xs : List (Int × Int)) (j : Nat) : Int × Int := xs[j]?.getD (0, 0)
/-- Stands there ahead of it already. -/
def Met (xs : List (Int × Int)) (i : Nat) : Prop := ∃ k, k < i ∧ xO xs k = xO xs i
/-- The first that may not be; else the first that was there already; else none. -/
def RAp (xs : List (Int × Int)) (v c : Int) : Prop :=
  (c = 150 ∧ ∃ i : Nat, v = i ∧ i < xs.length ∧ ¬ rOK (xO xs i).1 (xO xs i).2 ∧ ∀ j, j < i → rOK (xO xs j).1 (xO xs j).2) ∨
  (c = 0 ∧ (∀ j, j < xs.length → rOK (xO xs j).1 (xO xs j).2) ∧ ((∃ i : Nat, v = i ∧ i < xs.length ∧ Met xs i ∧ ∀ j, j < i → ¬ Met xs j) ∨ (v = -1 ∧ ∀ j, j < xs.length → ¬ Met xs j)))
theorem RAp.one {xs : List (Int × Int)} {v c v' c' : Int} (h : RAp xs v c) (h' : RAp xs v' c') : v = v' ∧ c = c' := by
  have two : ∀ {P : Nat → Prop} {i j : Nat}, P i → (∀ k, k < i → ¬ P k) → P j → (∀ k, k < j → ¬ P k) → i = j := fun {P i j} a b c d => by
    rcases Nat.lt_trichotomy i j with g | g | g
    · exact absurd a (d i g)
    · exact g
    · exact absurd c (b j g)
  rcases h with ⟨rfl, i, rfl, a1, a2, a3⟩ | ⟨rfl, a0, a⟩ <;> rcases h' with ⟨rfl, i', rfl, b1, b2, b3⟩ | ⟨rfl, b0, b⟩
  · have := two (P := fun i => ¬ rOK (xO xs i).1 (xO xs i).2) a2 (fun k hk g => g (a3 k hk)) b2 (fun k hk g => g (b3 k hk))
    exact ⟨by rw [this], rfl⟩
  · exact absurd (b0 i a1) a2
  · exact absurd (a0 i' b1) b2
  · rcases a with ⟨i, rfl, a1, a2, a3⟩ | ⟨rfl, a3⟩ <;> rcases b with ⟨i', rfl, b1, b2, b3⟩ | ⟨rfl, b3⟩
    · exact ⟨by rw [two (P := Met xs) a2 a3 b2 b3], rfl⟩
    · exact absurd a2 (b3 i a1)
    · exact absurd b2 (a3 i' b1)
    · exact ⟨rfl, rfl⟩

theorem roEq (a b c d : Int) (w : World) : (Op.equalIn 10000 25 (.agg #[.int .i32 a, .int .i32 b]) (.agg #[.int .i32 c, .int .i32 d])).run Try.prog w = .ok (a == c && b == d) w := by
  have u1 := Try.underlying21
  have a1 := Try.isAgg21
  have z1 := Try.sizeOf21
  have hS : Try.prog.underlying 25 = some (.struct (Try.prog.fieldsOf 25)) := by kernel_rfl
  rw [show (10000 : Nat) = 9999 + 1 from rfl, run_equalIn_agg w 9999 25 _ _ hS (by kernel_rfl)]
  simp only [Program.fieldsOf, Try.underlying25]
  go_simp
  by_cases h1 : a = c <;> by_cases h2 : b = d <;> simp [h1, h2]

end Go.Proofs.Ytkkehddpblkegaa

/- The law RotorApart: unlike rotors, their order. (tools/mkrapart.py) -/
namespace Go.Proofs.Ytkkehddpblkegaa
open Go.RowKit
set_option linter.unusedVariables false
set_option linter.unusedSimpArgs false

theorem rOneg {f n : Int} (h : rOK f n) : rOK f (-n) := by
  unfold rOK at *
  rw [Int.natAbs_neg]
  exact h
theorem cmpV_small (x y : Int) : -1 ≤ cmpV x y ∧ cmpV x y ≤ 1 := by
  unfold cmpV
  split
  · omega
  · split <;> omega
theorem ord_small (f n g m : Int) : -1 ≤ ordV f n g m ∧ ordV f n g m ≤ 1 := by
  unfold ordV
  generalize (if 0 < n then (0 : Int) else 1) = a
  generalize (if 0 < m then (0 : Int) else 1) = b
  by_cases e : cmpV a b = 0
  · rw [if_pos e]; exact cmpV_small _ _
  · rw [if_neg e]; exact cmpV_small _ _
theorem ord_rOrd {f n g m : Int} (p : rOK f n) (q : rOK g m) : rOrd f n g m = (ordV f n g m, 0) := by
  unfold rOrd ordV
  rw [if_pos p, if_pos q]
  generalize (if 0 < n then (0 : Int) else 1) = a
  generalize (if 0 < m then (0 : Int) else 1) = b
  by_cases e : cmpV a b = 0
  · rw [if_pos e, if_pos e]
  · rw [if_neg e, if_neg e]

set_option maxHeartbeats 12800000 in
set_option maxRecDepth 100000 in
theorem rotorApart_go (f n g m h l : Int) (w : World) (h1 : rOK f n) (h2 : rOK g m) (h3 : rOK h l) :
    Calls Try.prog 4 #[.agg #[.int .i32 f, .int .i32 n], .agg #[.int .i32 g, .int .i32 m], .agg #[.int .i32 h, .int .i32 l]] w fun e w' => e = .returned (.bool true) ∧ Below w.heap.size w w' := by
  obtain ⟨X, hX⟩ : ∃ X, ((w.alloc (.cells #[.int .i32 f, .int .i32 n] 25)).alloc (.cells #[.int .i32 g, .int .i32 m] 25)).alloc (.cells #[.int .i32 h, .int .i32 l] 25) = X := ⟨_, rfl⟩
  have HX := hid (boxes3r w 25 #[.int .i32 f, .int .i32 n] #[.int .i32 g, .int .i32 m] #[.int .i32 h, .int .i32 l])
  rw [hX] at HX
  have HW0 := hid HX.out.2.2.2
  have Hra0 := hid HX.out.1
  have Hrb0 := hid HX.out.2.1
  have Hrc0 := hid HX.out.2.2.1
  clear HX
  have i1 : in32 f n := by unfold rOK at h1; unfold in32; omega
  have i2 : in32 g m := by unfold rOK at h2; unfold in32; omega
  have i3 : in32 h l := by unfold rOK at h3; unfold in32; omega
  have i4 : in32 f (-n) := by unfold rOK at h1; unfold in32; omega
  have i5 : in32 g (-m) := by unfold rOK at h2; unfold in32; omega
  have HC1 := hid (fun V => ocheck_any f n V i1)
  have HC2 := hid (fun V => ocheck_any g m V i2)
  have HC3 := hid (fun V => ocheck_any h l V i3)
  rw [show ochk f n = 0 from if_pos h1] at HC1
  rw [show ochk g m = 0 from if_pos h2] at HC2
  rw [show ochk h l = 0 from if_pos h3] at HC3
  have HJ1 := hid (fun V => rconj_any f n V i1)
  have HJ2 := hid (fun V => rconj_any g m V i2)
  rw [show rConj f n = (f, -n, 0) from if_pos h1] at HJ1
  rw [show rConj g m = (g, -m, 0) from if_pos h2] at HJ2
  have HO1 := hid (fun V => rorder_any f n g m V i1 i2)
  have HO2 := hid (fun V => rorder_any g m f n V i2 i1)
  have HO3 := hid (fun V => rorder_any g m h l V i2 i3)
  have HO4 := hid (fun V => rorder_any f n h l V i1 i3)
  have HO5 := hid (fun V => rorder_any f (-n) g (-m) V i4 i5)
  rw [ord_rOrd h1 h2] at HO1
  rw [ord_rOrd h2 h1] at HO2
  rw [ord_rOrd h2 h3] at HO3
  rw [ord_rOrd h1 h3] at HO4
  rw [ord_rOrd (rOneg h1) (rOneg h2), ord_conj h1 h2] at HO5
  have e1 := ord_neg f n g m
  have e2 := ord_zero h1 h2
  have e3 := ord_trans h1 h2 h3
  have HF1 := hid (fun V => oOf_w f n V h1)
  have HF2 := hid (fun V => oOf_w g m V h2)
  have HH1 := hid h1
  have HIJ : Hid (Rat.divInt (oRe f n) (oNm f n) = Rat.divInt (oRe g m) (oNm g m) ∧ Rat.divInt (oIm f n) (oNm f n) = Rat.divInt (oIm g m) (oNm g m) ↔ f = g ∧ n = m) := ⟨fun q => o_inj h1 h2 q.1 q.2, fun q => by rw [q.1, q.2]; exact ⟨rfl, rfl⟩⟩
  clear i1 i2 i3 i4 i5 h1 h2 h3
  obtain ⟨D, hD⟩ : ∃ D, (f == g && n == m) = D := ⟨_, rfl⟩
  have HDD : Hid (decide (f = g ∧ n = m) = D) := by
    show _ = _
    rw [← hD]
    by_cases q1 : f = g <;> by_cases q2 : n = m <;> simp [q1, q2]
  have hEQ : ∀ V : World, (Op.equalIn 10000 25 (.agg #[.int .i32 f, .int .i32 n]) (.agg #[.int .i32 g, .int .i32 m])).run Try.prog V = .ok D V := fun V => by rw [roEq, hD]
  have hE2 : ∀ V : World, (Op.equalIn 10000 25 (.agg #[.int .i32 f, .int .i32 n]) (.agg #[.int .i32 f, .int .i32 n])).run Try.prog V = .ok true V := fun V => by rw [roEq]; simp
  have HIJ2 : Hid (decide (Rat.divInt (oRe f n) (oNm f n) = Rat.divInt (oRe g m) (oNm g m) ∧ Rat.divInt (oIm f n) (oNm f n) = Rat.divInt (oIm g m) (oNm g m)) = D) := (decide_eq_decide.2 HIJ.out).trans HDD.out
  have u1 : (ordV f n g m == 0) = D := by
    rw [← HDD.out]
    by_cases q : f = g ∧ n = m
    · rw [decide_eq_true q, beq_iff_eq]; exact e2.2 q
    · rw [decide_eq_false q]; simp only [beq_eq_false_iff_ne]; exact fun z => q (e2.1 z)
  have HTR := hid e3
  have HAB := hid e1
  clear hD HDD HIJ e1 e2 e3
  have sz1 : -1 ≤ ordV f n g m ∧ ordV f n g m ≤ 1 := ord_small f n g m
  have sz2 : -1 ≤ ordV g m f n ∧ ordV g m f n ≤ 1 := ord_small g m f n
  have HAE : Hid (-1 ≤ ordV g m h l ∧ ordV g m h l ≤ 1) := ord_small g m h l
  generalize ordV f n g m = OA at *
  generalize ordV g m f n = OB at *
  generalize ordV g m h l = OC at *
  generalize ordV f n h l = OD at *
  go_enter Try.func4, Try.ntmps4
  have HD := hid (olives_any X)
  go_wp2_with fail
  clear hX
  refine Calls.mono HD.out ?_
  rintro e w1 ⟨rfl, hb⟩
  clear HD 
  have HW2 := hid (bt HW0.out hb)
  have Hra2 := hid (Hra0.out.later hb Hra0.out.lt)
  have Hrb2 := hid (Hrb0.out.later hb Hrb0.out.lt)
  have Hrc2 := hid (Hrc0.out.later hb Hrc0.out.lt)
  clear HW0 Hra0 Hrb0 Hrc0
  clear hb
  have HD := hid (HC1.out w1)
  have cra0 : w1.cell? ⟨w.heap.size, 0, none⟩ = some (.int .i32 f) := Hra2.out.cell 0
  have cra1 : w1.cell? ⟨w.heap.size, 1, none⟩ = some (.int .i32 n) := Hra2.out.cell 1
  go_wp2_with fail
  refine Calls.mono HD.out ?_
  rintro e w3 ⟨rfl, hb⟩
  clear HD cra0 cra1
  have HW4 := hid (bt HW2.out hb)
  have Hra4 := hid (Hra2.out.later hb Hra2.out.lt)
  have Hrb4 := hid (Hrb2.out.later hb Hrb2.out.lt)
  have Hrc4 := hid (Hrc2.out.later hb Hrc2.out.lt)
  clear HW2 Hra2 Hrb2 Hrc2
  clear hb
  have HD := hid (HC2.out w3)
  have crb0 : w3.cell? ⟨w.heap.size + 1, 0, none⟩ = some (.int .i32 g) := Hrb4.out.cell 0
  have crb1 : w3.cell? ⟨w.heap.size + 1, 1, none⟩ = some (.int .i32 m) := Hrb4.out.cell 1
  go_wp2_with fail
  refine Calls.mono HD.out ?_
  rintro e w5 ⟨rfl, hb⟩
  clear HD crb0 crb1
  have HW6 := hid (bt HW4.out hb)
  have Hra6 := hid (Hra4.out.later hb Hra4.out.lt)
  have Hrb6 := hid (Hrb4.out.later hb Hrb4.out.lt)
  have Hrc6 := hid (Hrc4.out.later hb Hrc4.out.lt)
  clear HW4 Hra4 Hrb4 Hrc4
  clear hb
  have HD := hid (HC3.out w5)
  have crc0 : w5.cell? ⟨w.heap.size + 1 + 1, 0, none⟩ = some (.int .i32 h) := Hrc6.out.cell 0
  have crc1 : w5.cell? ⟨w.heap.size + 1 + 1, 1, none⟩ = some (.int .i32 l) := Hrc6.out.cell 1
  go_wp2_with fail
  refine Calls.mono HD.out ?_
  rintro e w7 ⟨rfl, hb⟩
  clear HD crc0 crc1
  have HW8 := hid (bt HW6.out hb)
  have Hra8 := hid (Hra6.out.later hb Hra6.out.lt)
  have Hrb8 := hid (Hrb6.out.later hb Hrb6.out.lt)
  have Hrc8 := hid (Hrc6.out.later hb Hrc6.out.lt)
  clear HW6 Hra6 Hrb6 Hrc6
  clear hb
  have HD := hid (HF1.out w7)
  have cra0 : w7.cell? ⟨w.heap.size, 0, none⟩ = some (.int .i32 f) := Hra8.out.cell 0
  have cra1 : w7.cell? ⟨w.heap.size, 1, none⟩ = some (.int .i32 n) := Hra8.out.cell 1
  go_wp2_with fail
  refine Calls.mono HD.out ?_
  rintro e w9 ⟨np, ap, cap, bp, cbp, mp, cp, ccp, dp, cdp, xp, ep, yp, rfl, ok, ik, iw, hb⟩
  clear HD cra0 cra1
  have Ogp0 : Hid ((⟨np, ap, cap, [xp], bp, cbp, [ep], mp, cp, ccp, [yp], dp, cdp, [ep]⟩ : G6).Ow w9 w.heap.size) := G6.Ow.base ok.out HW8.out.size
  have Igp := hid ik.out
  have Jgp := hid iw.out
  clear ok ik iw
  have HW10 := hid (bt HW8.out hb.out)
  have Hra10 := hid (Hra8.out.later hb.out Hra8.out.lt)
  have Hrb10 := hid (Hrb8.out.later hb.out Hrb8.out.lt)
  have Hrc10 := hid (Hrc8.out.later hb.out Hrc8.out.lt)
  clear HW8 Hra8 Hrb8 Hrc8
  clear hb
  obtain ⟨Yxp, hYxp⟩ : ∃ Y, w9.alloc (.cells #[.bool false, .slice none 0 0, .slice none 0 0, .bool false, .slice none 0 0, .slice none 0 0] 35) = Y := ⟨_, rfl⟩
  have NYxp : Hid (Box Yxp w9.heap.size 35 #[.bool false, .slice none 0 0, .slice none 0 0, .bool false, .slice none 0 0, .slice none 0 0]) := by rw [← hYxp]; exact Box.made w9 _ _
  have BYxp : Hid (Below w9.heap.size w9 Yxp) := by rw [← hYxp]; exact alloc_later _ _
  obtain ⟨Kxp0, Kxp1, Kxp2, Kxp3, Kxp4, Kxp5, qKxp0, qKxp1, qKxp2, qKxp3, qKxp4, qKxp5, ⟨rKxp0, rKxp1, rKxp2, rKxp3, rKxp4, rKxp5⟩, ⟨fKxp0, fKxp1, fKxp2, fKxp3, fKxp4, fKxp5⟩, Pxp⟩ := rchain6 NYxp.out (by decide) (.bool np) (.slice ap 1 cap) (.slice bp 1 cbp) (.bool mp) (.slice cp 1 ccp) (.slice dp 1 cdp)
  have HW11 : Hid (Below w.heap.size w Kxp5) := Pxp.out.2.2.2.1 _ _ HW10.out.size (bt HW10.out BYxp.out)
  have Hra11 := hid (Pxp.out.2.1 _ _ _ (Nat.ne_of_lt Hra10.out.lt) (Hra10.out.later BYxp.out Hra10.out.lt))
  have Hrb11 := hid (Pxp.out.2.1 _ _ _ (Nat.ne_of_lt Hrb10.out.lt) (Hrb10.out.later BYxp.out Hrb10.out.lt))
  have Hrc11 := hid (Pxp.out.2.1 _ _ _ (Nat.ne_of_lt Hrc10.out.lt) (Hrc10.out.later BYxp.out Hrc10.out.lt))
  have Ogp11 := hid (ow_put (Ogp0.out.later BYxp.out) Pxp.out.2.2.1)
  have Hxp11 := hid Pxp.out.1
  clear HW10 Hra10 Hrb10 Hrc10 Ogp0 NYxp BYxp Pxp
  have HD := hid (HF2.out Kxp5)
  have crb0 : Kxp5.cell? ⟨w.heap.size + 1, 0, none⟩ = some (.int .i32 g) := Hrb11.out.cell 0
  have crb1 : Kxp5.cell? ⟨w.heap.size + 1, 1, none⟩ = some (.int .i32 m) := Hrb11.out.cell 1
  go_wp2_with fail
  clear qKxp0 qKxp1 qKxp2 qKxp3 qKxp4 qKxp5 rKxp0 rKxp1 rKxp2 rKxp3 rKxp4 rKxp5 fKxp0 fKxp1 fKxp2 fKxp3 fKxp4 fKxp5 hYxp
  refine Calls.mono HD.out ?_
  rintro e w12 ⟨nq, aq, caq, bq, cbq, mq, cq, ccq, dq, cdq, xq, eq, yq, rfl, ok, ik, iw, hb⟩
  clear HD crb0 crb1
  have Ogq0 : Hid ((⟨nq, aq, caq, [xq], bq, cbq, [eq], mq, cq, ccq, [yq], dq, cdq, [eq]⟩ : G6).Ow w12 w.heap.size) := G6.Ow.base ok.out HW11.out.size
  have Igq := hid ik.out
  have Jgq := hid iw.out
  clear ok ik iw
  have HW13 := hid (bt HW11.out hb.out)
  have Hra13 := hid (Hra11.out.later hb.out Hra11.out.lt)
  have Hrb13 := hid (Hrb11.out.later hb.out Hrb11.out.lt)
  have Hrc13 := hid (Hrc11.out.later hb.out Hrc11.out.lt)
  have Hxp13 := hid (Hxp11.out.later hb.out Hxp11.out.lt)
  have Ogp13 := hid (Ogp11.out.later hb.out)
  clear HW11 Hra11 Hrb11 Hrc11 Hxp11 Ogp11
  clear hb
  obtain ⟨Yxq, hYxq⟩ : ∃ Y, w12.alloc (.cells #[.bool false, .slice none 0 0, .slice none 0 0, .bool false, .slice none 0 0, .slice none 0 0] 35) = Y := ⟨_, rfl⟩
  have NYxq : Hid (Box Yxq w12.heap.size 35 #[.bool false, .slice none 0 0, .slice none 0 0, .bool false, .slice none 0 0, .slice none 0 0]) := by rw [← hYxq]; exact Box.made w12 _ _
  have BYxq : Hid (Below w12.heap.size w12 Yxq) := by rw [← hYxq]; exact alloc_later _ _
  obtain ⟨Kxq0, Kxq1, Kxq2, Kxq3, Kxq4, Kxq5, qKxq0, qKxq1, qKxq2, qKxq3, qKxq4, qKxq5, ⟨rKxq0, rKxq1, rKxq2, rKxq3, rKxq4, rKxq5⟩, ⟨fKxq0, fKxq1, fKxq2, fKxq3, fKxq4, fKxq5⟩, Pxq⟩ := rchain6 NYxq.out (by decide) (.bool nq) (.slice aq 1 caq) (.slice bq 1 cbq) (.bool mq) (.slice cq 1 ccq) (.slice dq 1 cdq)
  have HW14 : Hid (Below w.heap.size w Kxq5) := Pxq.out.2.2.2.1 _ _ HW13.out.size (bt HW13.out BYxq.out)
  have Hra14 := hid (Pxq.out.2.1 _ _ _ (Nat.ne_of_lt Hra13.out.lt) (Hra13.out.later BYxq.out Hra13.out.lt))
  have Hrb14 := hid (Pxq.out.2.1 _ _ _ (Nat.ne_of_lt Hrb13.out.lt) (Hrb13.out.later BYxq.out Hrb13.out.lt))
  have Hrc14 := hid (Pxq.out.2.1 _ _ _ (Nat.ne_of_lt Hrc13.out.lt) (Hrc13.out.later BYxq.out Hrc13.out.lt))
  have Hxp14 := hid (Pxq.out.2.1 _ _ _ (Nat.ne_of_lt Hxp13.out.lt) (Hxp13.out.later BYxq.out Hxp13.out.lt))
  have Ogp14 := hid (ow_put (Ogp13.out.later BYxq.out) Pxq.out.2.2.1)
  have Ogq14 := hid (ow_put (Ogq0.out.later BYxq.out) Pxq.out.2.2.1)
  have Hxq14 := hid Pxq.out.1
  clear HW13 Hra13 Hrb13 Hrc13 Hxp13 Ogp13 Ogq0 NYxq BYxq Pxq
  have HD := hid (oFind_good f n HH1.out np ap cap bp cbp mp cp ccp dp cdp xp ep yp Kxq5 (Ogp14.out.sl Igp.out) Igp.out Jgp.out)
  have cxp0 : Kxq5.cell? ⟨w9.heap.size, 0, none⟩ = some (.bool np) := Hxp14.out.cell 0
  have cxp1 : Kxq5.cell? ⟨w9.heap.size, 1, none⟩ = some (.slice ap 1 cap) := Hxp14.out.cell 1
  have cxp2 : Kxq5.cell? ⟨w9.heap.size, 2, none⟩ = some (.slice bp 1 cbp) := Hxp14.out.cell 2
  have cxp3 : Kxq5.cell? ⟨w9.heap.size, 3, none⟩ = some (.bool mp) := Hxp14.out.cell 3
  have cxp4 : Kxq5.cell? ⟨w9.heap.size, 4, none⟩ = some (.slice cp 1 ccp) := Hxp14.out.cell 4
  have cxp5 : Kxq5.cell? ⟨w9.heap.size, 5, none⟩ = some (.slice dp 1 cdp) := Hxp14.out.cell 5
  go_wp2_with fail
  clear qKxq0 qKxq1 qKxq2 qKxq3 qKxq4 qKxq5 rKxq0 rKxq1 rKxq2 rKxq3 rKxq4 rKxq5 fKxq0 fKxq1 fKxq2 fKxq3 fKxq4 fKxq5 hYxq
  refine Calls.mono HD.out ?_
  rintro e w15 ⟨rfl, hb⟩
  clear HD cxp0 cxp1 cxp2 cxp3 cxp4 cxp5
  have HW16 := hid (bt HW14.out hb)
  have Hra16 := hid (Hra14.out.later hb Hra14.out.lt)
  have Hrb16 := hid (Hrb14.out.later hb Hrb14.out.lt)
  have Hrc16 := hid (Hrc14.out.later hb Hrc14.out.lt)
  have Hxp16 := hid (Hxp14.out.later hb Hxp14.out.lt)
  have Hxq16 := hid (Hxq14.out.later hb Hxq14.out.lt)
  have Ogp16 := hid (Ogp14.out.later hb)
  have Ogq16 := hid (Ogq14.out.later hb)
  clear HW14 Hra14 Hrb14 Hrc14 Hxp14 Hxq14 Ogp14 Ogq14
  clear hb
  obtain ⟨Yrf, hYrf⟩ : ∃ Y, w15.alloc (.cells #[.int .i32 0, .int .i32 0] 25) = Y := ⟨_, rfl⟩
  have NYrf : Hid (Box Yrf w15.heap.size 25 #[.int .i32 0, .int .i32 0]) := by rw [← hYrf]; exact Box.made w15 _ _
  have BYrf : Hid (Below w15.heap.size w15 Yrf) := by rw [← hYrf]; exact alloc_later _ _
  obtain ⟨Krf0, Krf1, qKrf0, qKrf1, ⟨rKrf0, rKrf1⟩, ⟨fKrf0, fKrf1⟩, Prf⟩ := rchain2 NYrf.out (by decide) (.int .i32 f) (.int .i32 n)
  have HW17 : Hid (Below w.heap.size w Krf1) := Prf.out.2.2.2.1 _ _ HW16.out.size (bt HW16.out BYrf.out)
  have Hra17 := hid (Prf.out.2.1 _ _ _ (Nat.ne_of_lt Hra16.out.lt) (Hra16.out.later BYrf.out Hra16.out.lt))
  have Hrb17 := hid (Prf.out.2.1 _ _ _ (Nat.ne_of_lt Hrb16.out.lt) (Hrb16.out.later BYrf.out Hrb16.out.lt))
  have Hrc17 := hid (Prf.out.2.1 _ _ _ (Nat.ne_of_lt Hrc16.out.lt) (Hrc16.out.later BYrf.out Hrc16.out.lt))
  have Hxp17 := hid (Prf.out.2.1 _ _ _ (Nat.ne_of_lt Hxp16.out.lt) (Hxp16.out.later BYrf.out Hxp16.out.lt))
  have Hxq17 := hid (Prf.out.2.1 _ _ _ (Nat.ne_of_lt Hxq16.out.lt) (Hxq16.out.later BYrf.out Hxq16.out.lt))
  have Ogp17 := hid (ow_put (Ogp16.out.later BYrf.out) Prf.out.2.2.1)
  have Ogq17 := hid (ow_put (Ogq16.out.later BYrf.out) Prf.out.2.2.1)
  have Hrf17 := hid Prf.out.1
  clear HW16 Hra16 Hrb16 Hrc16 Hxp16 Hxq16 Ogp16 Ogq16 NYrf BYrf Prf
  have HK : Hid (∀ V : World, Below Krf1.heap.size Krf1 V → V.cell? ⟨w9.heap.size, 0, none⟩ = some (.bool np) ∧ V.cell? ⟨w9.heap.size, 1, none⟩ = some (.slice ap 1 cap) ∧ V.cell? ⟨w9.heap.size, 2, none⟩ = some (.slice bp 1 cbp) ∧ V.cell? ⟨w9.heap.size, 3, none⟩ = some (.bool mp) ∧ V.cell? ⟨w9.heap.size, 4, none⟩ = some (.slice cp 1 ccp) ∧ V.cell? ⟨w9.heap.size, 5, none⟩ = some (.slice dp 1 cdp) ∧ V.cell? ⟨w12.heap.size, 0, none⟩ = some (.bool nq) ∧ V.cell? ⟨w12.heap.size, 1, none⟩ = some (.slice aq 1 caq) ∧ V.cell? ⟨w12.heap.size, 2, none⟩ = some (.slice bq 1 cbq) ∧ V.cell? ⟨w12.heap.size, 3, none⟩ = some (.bool mq) ∧ V.cell? ⟨w12.heap.size, 4, none⟩ = some (.slice cq 1 ccq) ∧ V.cell? ⟨w12.heap.size, 5, none⟩ = some (.slice dq 1 cdq) ∧ V.cell? ⟨w.heap.size, 0, none⟩ = some (.int .i32 f) ∧ V.cell? ⟨w.heap.size, 1, none⟩ = some (.int .i32 n) ∧ V.cell? ⟨w.heap.size + 1, 0, none⟩ = some (.int .i32 g) ∧ V.cell? ⟨w.heap.size + 1, 1, none⟩ = some (.int .i32 m) ∧ V.cell? ⟨w15.heap.size, 0, none⟩ = some (.int .i32 f) ∧ V.cell? ⟨w15.heap.size, 1, none⟩ = some (.int .i32 n)) := fun V hv => ⟨(Hxp17.out.later hv Hxp17.out.lt).cell 0, (Hxp17.out.later hv Hxp17.out.lt).cell 1, (Hxp17.out.later hv Hxp17.out.lt).cell 2, (Hxp17.out.later hv Hxp17.out.lt).cell 3, (Hxp17.out.later hv Hxp17.out.lt).cell 4, (Hxp17.out.later hv Hxp17.out.lt).cell 5, (Hxq17.out.later hv Hxq17.out.lt).cell 0, (Hxq17.out.later hv Hxq17.out.lt).cell 1, (Hxq17.out.later hv Hxq17.out.lt).cell 2, (Hxq17.out.later hv Hxq17.out.lt).cell 3, (Hxq17.out.later hv Hxq17.out.lt).cell 4, (Hxq17.out.later hv Hxq17.out.lt).cell 5, (Hra17.out.later hv Hra17.out.lt).cell 0, (Hra17.out.later hv Hra17.out.lt).cell 1, (Hrb17.out.later hv Hrb17.out.lt).cell 0, (Hrb17.out.later hv Hrb17.out.lt).cell 1, (Hrf17.out.later hv Hrf17.out.lt).cell 0, (Hrf17.out.later hv Hrf17.out.lt).cell 1⟩
  have HSM : Hid (∀ V, Below Krf1.heap.size Krf1 V → Calls Try.prog 11 #[.agg #[.bool np, .slice ap 1 cap, .slice bp 1 cbp, .bool mp, .slice cp 1 ccp, .slice dp 1 cdp], .agg #[.bool nq, .slice aq 1 caq, .slice bq 1 cbq, .bool mq, .slice cq 1 ccq, .slice dq 1 cdq]] V fun z w' => z = .returned (.bool D) ∧ Hid (Below V.heap.size V w')) := fun V hv => by
    have q := oSame_any (⟨np, ap, cap, [xp], bp, cbp, [ep], mp, cp, ccp, [yp], dp, cdp, [ep]⟩ : G6) (⟨nq, aq, caq, [xq], bq, cbq, [eq], mq, cq, ccq, [yq], dq, cdq, [eq]⟩ : G6) _ _ _ _ V ((Ogp17.out.sl Igp.out).later hv) ((Ogq17.out.sl Igq.out).later hv) Igp.out Igq.out
    rw [HIJ2.out] at q
    exact q
  have hd0 := hid (Below.refl Krf1.heap.size Krf1).drew
  have hs0 := HK.out _ hd0.out
  go_upto_region 8 with fail
  clear qKrf0 qKrf1 rKrf0 rKrf1 fKrf0 fKrf1 hYrf
  go_region_held3 (fun V : World => V.cell? ⟨w9.heap.size, 0, none⟩ = some (.bool np) ∧ V.cell? ⟨w9.heap.size, 1, none⟩ = some (.slice ap 1 cap) ∧ V.cell? ⟨w9.heap.size, 2, none⟩ = some (.slice bp 1 cbp) ∧ V.cell? ⟨w9.heap.size, 3, none⟩ = some (.bool mp) ∧ V.cell? ⟨w9.heap.size, 4, none⟩ = some (.slice cp 1 ccp) ∧ V.cell? ⟨w9.heap.size, 5, none⟩ = some (.slice dp 1 cdp) ∧ V.cell? ⟨w12.heap.size, 0, none⟩ = some (.bool nq) ∧ V.cell? ⟨w12.heap.size, 1, none⟩ = some (.slice aq 1 caq) ∧ V.cell? ⟨w12.heap.size, 2, none⟩ = some (.slice bq 1 cbq) ∧ V.cell? ⟨w12.heap.size, 3, none⟩ = some (.bool mq) ∧ V.cell? ⟨w12.heap.size, 4, none⟩ = some (.slice cq 1 ccq) ∧ V.cell? ⟨w12.heap.size, 5, none⟩ = some (.slice dq 1 cdq) ∧ V.cell? ⟨w.heap.size, 0, none⟩ = some (.int .i32 f) ∧ V.cell? ⟨w.heap.size, 1, none⟩ = some (.int .i32 n) ∧ V.cell? ⟨w.heap.size + 1, 0, none⟩ = some (.int .i32 g) ∧ V.cell? ⟨w.heap.size + 1, 1, none⟩ = some (.int .i32 m) ∧ V.cell? ⟨w15.heap.size, 0, none⟩ = some (.int .i32 f) ∧ V.cell? ⟨w15.heap.size, 1, none⟩ = some (.int .i32 n)) (first | exact hs1 | exact hs0)
    (first | (go_at_call 11; (with_reducible refine Calls.mono (HSM.out _ hd0.out) ?_); rintro z w8 ⟨rfl, hb8⟩; have hbA := hid (bt hd0.out hb8.out); have hs1 := HK.out _ hbA.out))
  have BR := hid hbA.out
  clear hs0 hs1 hd0 hb8 hbA HK HSM
  have HW18 := hid (bt HW17.out BR.out)
  have Hra18 := hid (Hra17.out.later BR.out Hra17.out.lt)
  have Hrb18 := hid (Hrb17.out.later BR.out Hrb17.out.lt)
  have Hrc18 := hid (Hrc17.out.later BR.out Hrc17.out.lt)
  have Hxp18 := hid (Hxp17.out.later BR.out Hxp17.out.lt)
  have Hxq18 := hid (Hxq17.out.later BR.out Hxq17.out.lt)
  have Hrf18 := hid (Hrf17.out.later BR.out Hrf17.out.lt)
  have Ogp18 := hid (Ogp17.out.later BR.out)
  have Ogq18 := hid (Ogq17.out.later BR.out)
  clear HW17 Hra17 Hrb17 Hrc17 Hxp17 Hxq17 Hrf17 Ogp17 Ogq17
  clear BR
  have HD := hid (HJ1.out w8)
  have cra0 : w8.cell? ⟨w.heap.size, 0, none⟩ = some (.int .i32 f) := Hra18.out.cell 0
  have cra1 : w8.cell? ⟨w.heap.size, 1, none⟩ = some (.int .i32 n) := Hra18.out.cell 1
  go_wp2_with fail
  refine Calls.mono HD.out ?_
  rintro e w19 ⟨rfl, hb⟩
  clear HD cra0 cra1
  have HW20 := hid (bt HW18.out hb)
  have Hra20 := hid (Hra18.out.later hb Hra18.out.lt)
  have Hrb20 := hid (Hrb18.out.later hb Hrb18.out.lt)
  have Hrc20 := hid (Hrc18.out.later hb Hrc18.out.lt)
  have Hxp20 := hid (Hxp18.out.later hb Hxp18.out.lt)
  have Hxq20 := hid (Hxq18.out.later hb Hxq18.out.lt)
  have Hrf20 := hid (Hrf18.out.later hb Hrf18.out.lt)
  have Ogp20 := hid (Ogp18.out.later hb)
  have Ogq20 := hid (Ogq18.out.later hb)
  clear HW18 Hra18 Hrb18 Hrc18 Hxp18 Hxq18 Hrf18 Ogp18 Ogq18
  clear hb
  obtain ⟨Yrd, hYrd⟩ : ∃ Y, w19.alloc (.cells #[.int .i32 0, .int .i32 0] 25) = Y := ⟨_, rfl⟩
  have NYrd : Hid (Box Yrd w19.heap.size 25 #[.int .i32 0, .int .i32 0]) := by rw [← hYrd]; exact Box.made w19 _ _
  have BYrd : Hid (Below w19.heap.size w19 Yrd) := by rw [← hYrd]; exact alloc_later _ _
  obtain ⟨Krd0, Krd1, qKrd0, qKrd1, ⟨rKrd0, rKrd1⟩, ⟨fKrd0, fKrd1⟩, Prd⟩ := rchain2 NYrd.out (by decide) (.int .i32 f) (.int .i32 (-n))
  have HW21 : Hid (Below w.heap.size w Krd1) := Prd.out.2.2.2.1 _ _ HW20.out.size (bt HW20.out BYrd.out)
  have Hra21 := hid (Prd.out.2.1 _ _ _ (Nat.ne_of_lt Hra20.out.lt) (Hra20.out.later BYrd.out Hra20.out.lt))
  have Hrb21 := hid (Prd.out.2.1 _ _ _ (Nat.ne_of_lt Hrb20.out.lt) (Hrb20.out.later BYrd.out Hrb20.out.lt))
  have Hrc21 := hid (Prd.out.2.1 _ _ _ (Nat.ne_of_lt Hrc20.out.lt) (Hrc20.out.later BYrd.out Hrc20.out.lt))
  have Hxp21 := hid (Prd.out.2.1 _ _ _ (Nat.ne_of_lt Hxp20.out.lt) (Hxp20.out.later BYrd.out Hxp20.out.lt))
  have Hxq21 := hid (Prd.out.2.1 _ _ _ (Nat.ne_of_lt Hxq20.out.lt) (Hxq20.out.later BYrd.out Hxq20.out.lt))
  have Hrf21 := hid (Prd.out.2.1 _ _ _ (Nat.ne_of_lt Hrf20.out.lt) (Hrf20.out.later BYrd.out Hrf20.out.lt))
  have Ogp21 := hid (ow_put (Ogp20.out.later BYrd.out) Prd.out.2.2.1)
  have Ogq21 := hid (ow_put (Ogq20.out.later BYrd.out) Prd.out.2.2.1)
  have Hrd21 := hid Prd.out.1
  clear HW20 Hra20 Hrb20 Hrc20 Hxp20 Hxq20 Hrf20 Ogp20 Ogq20 NYrd BYrd Prd
  have HD := hid (HJ2.out Krd1)
  have crb0 : Krd1.cell? ⟨w.heap.size + 1, 0, none⟩ = some (.int .i32 g) := Hrb21.out.cell 0
  have crb1 : Krd1.cell? ⟨w.heap.size + 1, 1, none⟩ = some (.int .i32 m) := Hrb21.out.cell 1
  go_wp2_with fail
  clear qKrd0 qKrd1 rKrd0 rKrd1 fKrd0 fKrd1 hYrd
  refine Calls.mono HD.out ?_
  rintro e w22 ⟨rfl, hb⟩
  clear HD crb0 crb1
  have HW23 := hid (bt HW21.out hb)
  have Hra23 := hid (Hra21.out.later hb Hra21.out.lt)
  have Hrb23 := hid (Hrb21.out.later hb Hrb21.out.lt)
  have Hrc23 := hid (Hrc21.out.later hb Hrc21.out.lt)
  have Hxp23 := hid (Hxp21.out.later hb Hxp21.out.lt)
  have Hxq23 := hid (Hxq21.out.later hb Hxq21.out.lt)
  have Hrf23 := hid (Hrf21.out.later hb Hrf21.out.lt)
  have Hrd23 := hid (Hrd21.out.later hb Hrd21.out.lt)
  have Ogp23 := hid (Ogp21.out.later hb)
  have Ogq23 := hid (Ogq21.out.later hb)
  clear HW21 Hra21 Hrb21 Hrc21 Hxp21 Hxq21 Hrf21 Hrd21 Ogp21 Ogq21
  clear hb
  obtain ⟨Yre, hYre⟩ : ∃ Y, w22.alloc (.cells #[.int .i32 0, .int .i32 0] 25) = Y := ⟨_, rfl⟩
  have NYre : Hid (Box Yre w22.heap.size 25 #[.int .i32 0, .int .i32 0]) := by rw [← hYre]; exact Box.made w22 _ _
  have BYre : Hid (Below w22.heap.size w22 Yre) := by rw [← hYre]; exact alloc_later _ _
  obtain ⟨Kre0, Kre1, qKre0, qKre1, ⟨rKre0, rKre1⟩, ⟨fKre0, fKre1⟩, Pre⟩ := rchain2 NYre.out (by decide) (.int .i32 g) (.int .i32 (-m))
  have HW24 : Hid (Below w.heap.size w Kre1) := Pre.out.2.2.2.1 _ _ HW23.out.size (bt HW23.out BYre.out)
  have Hra24 := hid (Pre.out.2.1 _ _ _ (Nat.ne_of_lt Hra23.out.lt) (Hra23.out.later BYre.out Hra23.out.lt))
  have Hrb24 := hid (Pre.out.2.1 _ _ _ (Nat.ne_of_lt Hrb23.out.lt) (Hrb23.out.later BYre.out Hrb23.out.lt))
  have Hrc24 := hid (Pre.out.2.1 _ _ _ (Nat.ne_of_lt Hrc23.out.lt) (Hrc23.out.later BYre.out Hrc23.out.lt))
  have Hxp24 := hid (Pre.out.2.1 _ _ _ (Nat.ne_of_lt Hxp23.out.lt) (Hxp23.out.later BYre.out Hxp23.out.lt))
  have Hxq24 := hid (Pre.out.2.1 _ _ _ (Nat.ne_of_lt Hxq23.out.lt) (Hxq23.out.later BYre.out Hxq23.out.lt))
  have Hrf24 := hid (Pre.out.2.1 _ _ _ (Nat.ne_of_lt Hrf23.out.lt) (Hrf23.out.later BYre.out Hrf23.out.lt))
  have Hrd24 := hid (Pre.out.2.1 _ _ _ (Nat.ne_of_lt Hrd23.out.lt) (Hrd23.out.later BYre.out Hrd23.out.lt))
  have Ogp24 := hid (ow_put (Ogp23.out.later BYre.out) Pre.out.2.2.1)
  have Ogq24 := hid (ow_put (Ogq23.out.later BYre.out) Pre.out.2.2.1)
  have Hre24 := hid Pre.out.1
  clear HW23 Hra23 Hrb23 Hrc23 Hxp23 Hxq23 Hrf23 Hrd23 Ogp23 Ogq23 NYre BYre Pre
  have HD := hid (HO1.out Kre1)
  have cra0 : Kre1.cell? ⟨w.heap.size, 0, none⟩ = some (.int .i32 f) := Hra24.out.cell 0
  have cra1 : Kre1.cell? ⟨w.heap.size, 1, none⟩ = some (.int .i32 n) := Hra24.out.cell 1
  have crb0 : Kre1.cell? ⟨w.heap.size + 1, 0, none⟩ = some (.int .i32 g) := Hrb24.out.cell 0
  have crb1 : Kre1.cell? ⟨w.heap.size + 1, 1, none⟩ = some (.int .i32 m) := Hrb24.out.cell 1
  go_wp2_with fail
  clear qKre0 qKre1 rKre0 rKre1 fKre0 fKre1 hYre
  refine Calls.mono HD.out ?_
  rintro e w25 ⟨rfl, hb⟩
  clear HD cra0 cra1 crb0 crb1
  have HW26 := hid (bt HW24.out hb)
  have Hra26 := hid (Hra24.out.later hb Hra24.out.lt)
  have Hrb26 := hid (Hrb24.out.later hb Hrb24.out.lt)
  have Hrc26 := hid (Hrc24.out.later hb Hrc24.out.lt)
  have Hxp26 := hid (Hxp24.out.later hb Hxp24.out.lt)
  have Hxq26 := hid (Hxq24.out.later hb Hxq24.out.lt)
  have Hrf26 := hid (Hrf24.out.later hb Hrf24.out.lt)
  have Hrd26 := hid (Hrd24.out.later hb Hrd24.out.lt)
  have Hre26 := hid (Hre24.out.later hb Hre24.out.lt)
  have Ogp26 := hid (Ogp24.out.later hb)
  have Ogq26 := hid (Ogq24.out.later hb)
  clear HW24 Hra24 Hrb24 Hrc24 Hxp24 Hxq24 Hrf24 Hrd24 Hre24 Ogp24 Ogq24
  clear hb
  have HD := hid (HO2.out w25)
  have crb0 : w25.cell? ⟨w.heap.size + 1, 0, none⟩ = some (.int .i32 g) := Hrb26.out.cell 0
  have crb1 : w25.cell? ⟨w.heap.size + 1, 1, none⟩ = some (.int .i32 m) := Hrb26.out.cell 1
  have cra0 : w25.cell? ⟨w.heap.size, 0, none⟩ = some (.int .i32 f) := Hra26.out.cell 0
  have cra1 : w25.cell? ⟨w.heap.size, 1, none⟩ = some (.int .i32 n) := Hra26.out.cell 1
  go_wp2_with fail
  refine Calls.mono HD.out ?_
  rintro e w27 ⟨rfl, hb⟩
  clear HD crb0 crb1 cra0 cra1
  have HW28 := hid (bt HW26.out hb)
  have Hra28 := hid (Hra26.out.later hb Hra26.out.lt)
  have Hrb28 := hid (Hrb26.out.later hb Hrb26.out.lt)
  have Hrc28 := hid (Hrc26.out.later hb Hrc26.out.lt)
  have Hxp28 := hid (Hxp26.out.later hb Hxp26.out.lt)
  have Hxq28 := hid (Hxq26.out.later hb Hxq26.out.lt)
  have Hrf28 := hid (Hrf26.out.later hb Hrf26.out.lt)
  have Hrd28 := hid (Hrd26.out.later hb Hrd26.out.lt)
  have Hre28 := hid (Hre26.out.later hb Hre26.out.lt)
  have Ogp28 := hid (Ogp26.out.later hb)
  have Ogq28 := hid (Ogq26.out.later hb)
  clear HW26 Hra26 Hrb26 Hrc26 Hxp26 Hxq26 Hrf26 Hrd26 Hre26 Ogp26 Ogq26
  clear hb
  have HD := hid (HO3.out w27)
  have crb0 : w27.cell? ⟨w.heap.size + 1, 0, none⟩ = some (.int .i32 g) := Hrb28.out.cell 0
  have crb1 : w27.cell? ⟨w.heap.size + 1, 1, none⟩ = some (.int .i32 m) := Hrb28.out.cell 1
  have crc0 : w27.cell? ⟨w.heap.size + 1 + 1, 0, none⟩ = some (.int .i32 h) := Hrc28.out.cell 0
  have crc1 : w27.cell? ⟨w.heap.size + 1 + 1, 1, none⟩ = some (.int .i32 l) := Hrc28.out.cell 1
  go_wp2_with fail
  refine Calls.mono HD.out ?_
  rintro e w29 ⟨rfl, hb⟩
  clear HD crb0 crb1 crc0 crc1
  have HW30 := hid (bt HW28.out hb)
  have Hra30 := hid (Hra28.out.later hb Hra28.out.lt)
  have Hrb30 := hid (Hrb28.out.later hb Hrb28.out.lt)
  have Hrc30 := hid (Hrc28.out.later hb Hrc28.out.lt)
  have Hxp30 := hid (Hxp28.out.later hb Hxp28.out.lt)
  have Hxq30 := hid (Hxq28.out.later hb Hxq28.out.lt)
  have Hrf30 := hid (Hrf28.out.later hb Hrf28.out.lt)
  have Hrd30 := hid (Hrd28.out.later hb Hrd28.out.lt)
  have Hre30 := hid (Hre28.out.later hb Hre28.out.lt)
  have Ogp30 := hid (Ogp28.out.later hb)
  have Ogq30 := hid (Ogq28.out.later hb)
  clear HW28 Hra28 Hrb28 Hrc28 Hxp28 Hxq28 Hrf28 Hrd28 Hre28 Ogp28 Ogq28
  clear hb
  have HD := hid (HO4.out w29)
  have cra0 : w29.cell? ⟨w.heap.size, 0, none⟩ = some (.int .i32 f) := Hra30.out.cell 0
  have cra1 : w29.cell? ⟨w.heap.size, 1, none⟩ = some (.int .i32 n) := Hra30.out.cell 1
  have crc0 : w29.cell? ⟨w.heap.size + 1 + 1, 0, none⟩ = some (.int .i32 h) := Hrc30.out.cell 0
  have crc1 : w29.cell? ⟨w.heap.size + 1 + 1, 1, none⟩ = some (.int .i32 l) := Hrc30.out.cell 1
  go_wp2_with fail
  refine Calls.mono HD.out ?_
  rintro e w31 ⟨rfl, hb⟩
  clear HD cra0 cra1 crc0 crc1
  have HW32 := hid (bt HW30.out hb)
  have Hra32 := hid (Hra30.out.later hb Hra30.out.lt)
  have Hrb32 := hid (Hrb30.out.later hb Hrb30.out.lt)
  have Hrc32 := hid (Hrc30.out.later hb Hrc30.out.lt)
  have Hxp32 := hid (Hxp30.out.later hb Hxp30.out.lt)
  have Hxq32 := hid (Hxq30.out.later hb Hxq30.out.lt)
  have Hrf32 := hid (Hrf30.out.later hb Hrf30.out.lt)
  have Hrd32 := hid (Hrd30.out.later hb Hrd30.out.lt)
  have Hre32 := hid (Hre30.out.later hb Hre30.out.lt)
  have Ogp32 := hid (Ogp30.out.later hb)
  have Ogq32 := hid (Ogq30.out.later hb)
  clear HW30 Hra30 Hrb30 Hrc30 Hxp30 Hxq30 Hrf30 Hrd30 Hre30 Ogp30 Ogq30
  clear hb
  have HD := hid (HO5.out w31)
  have crd0 : w31.cell? ⟨w19.heap.size, 0, none⟩ = some (.int .i32 f) := Hrd32.out.cell 0
  have crd1 : w31.cell? ⟨w19.heap.size, 1, none⟩ = some (.int .i32 (-n)) := Hrd32.out.cell 1
  have cre0 : w31.cell? ⟨w22.heap.size, 0, none⟩ = some (.int .i32 g) := Hre32.out.cell 0
  have cre1 : w31.cell? ⟨w22.heap.size, 1, none⟩ = some (.int .i32 (-m)) := Hre32.out.cell 1
  go_wp2_with fail
  refine Calls.mono HD.out ?_
  rintro e w33 ⟨rfl, hb⟩
  clear HD crd0 crd1 cre0 cre1
  have HW34 := hid (bt HW32.out hb)
  have Hra34 := hid (Hra32.out.later hb Hra32.out.lt)
  have Hrb34 := hid (Hrb32.out.later hb Hrb32.out.lt)
  have Hrc34 := hid (Hrc32.out.later hb Hrc32.out.lt)
  have Hxp34 := hid (Hxp32.out.later hb Hxp32.out.lt)
  have Hxq34 := hid (Hxq32.out.later hb Hxq32.out.lt)
  have Hrf34 := hid (Hrf32.out.later hb Hrf32.out.lt)
  have Hrd34 := hid (Hrd32.out.later hb Hrd32.out.lt)
  have Hre34 := hid (Hre32.out.later hb Hre32.out.lt)
  have Ogp34 := hid (Ogp32.out.later hb)
  have Ogq34 := hid (Ogq32.out.later hb)
  clear HW32 Hra32 Hrb32 Hrc32 Hxp32 Hxq32 Hrf32 Hrd32 Hre32 Ogp32 Ogq32
  clear hb
  have cra0 : w33.cell? ⟨w.heap.size, 0, none⟩ = some (.int .i32 f) := Hra34.out.cell 0
  have cra1 : w33.cell? ⟨w.heap.size, 1, none⟩ = some (.int .i32 n) := Hra34.out.cell 1
  have crb0 : w33.cell? ⟨w.heap.size + 1, 0, none⟩ = some (.int .i32 g) := Hrb34.out.cell 0
  have crb1 : w33.cell? ⟨w.heap.size + 1, 1, none⟩ = some (.int .i32 m) := Hrb34.out.cell 1
  have v1 : (OA == -OB) = true := by rw [HAB.out]; simp
  obtain ⟨P1, hP1⟩ : ∃ P1, decide (OA < 0) = P1 := ⟨_, rfl⟩
  obtain ⟨P2, hP2⟩ : ∃ P2, decide (OC < 0) = P2 := ⟨_, rfl⟩
  obtain ⟨P3, hP3⟩ : ∃ P3, decide ((0 : Int) ≤ OD) = P3 := ⟨_, rfl⟩
  have HPP : Hid (¬ (P1 = true ∧ P2 = true ∧ P3 = true)) := by
    rintro ⟨q1, q2, q3⟩
    subst hP1 hP2 hP3
    have q4 := HTR.out (of_decide_eq_true q1) (of_decide_eq_true q2)
    have q5 := of_decide_eq_true q3
    omega
  cases P1 <;> cases P2 <;> cases P3
  all_goals first
    | exact absurd ⟨rfl, rfl, rfl⟩ HPP.out
    | (go_wp2_with fail
       go_ret
       exact ⟨rfl, HW34.out⟩)
end Go.Proofs.Ytkkehddpblkegaa

/- The law RotorApart, of whatever comes in. -/
namespace Go.Proofs.Ytkkehddpblkegaa
open Go.RowKit
set_option linter.unusedVariables false

theorem ochk_bad {f n : Int} (h : ¬ rOK f n) : ochk f n = 150 := if_neg h
theorem ochk_fine {f n : Int} (h : rOK f n) : ochk f n = 0 := if_pos h
set_option maxHeartbeats 3200000 in
set_option maxRecDepth 100000 in
theorem rotorApart_off (f n g m h l : Int) (w : World) (i1 : in32 f n) (i2 : in32 g m) (i3 : in32 h l) (c1 c2 c3 : Int) (e1 : ochk f n = c1) (e2 : ochk g m = c2) (e3 : ochk h l = c3) (hc : c1 = 150 ∨ (c1 = 0 ∧ c2 = 150) ∨ (c1 = 0 ∧ c2 = 0 ∧ c3 = 150)) :
    Calls Try.prog 4 #[.agg #[.int .i32 f, .int .i32 n], .agg #[.int .i32 g, .int .i32 m], .agg #[.int .i32 h, .int .i32 l]] w fun e w' => e = .returned (.bool true) ∧ Below w.heap.size w w' := by
  obtain ⟨X, hX⟩ : ∃ X, ((w.alloc (.cells #[.int .i32 f, .int .i32 n] 25)).alloc (.cells #[.int .i32 g, .int .i32 m] 25)).alloc (.cells #[.int .i32 h, .int .i32 l] 25) = X := ⟨_, rfl⟩
  have HX := hid (boxes3r w 25 #[.int .i32 f, .int .i32 n] #[.int .i32 g, .int .i32 m] #[.int .i32 h, .int .i32 l])
  rw [hX] at HX
  have HL := hid (olives_any X)
  have HC1 := hid (fun V => ocheck_any f n V i1)
  have HC2 := hid (fun V => ocheck_any g m V i2)
  have HC3 := hid (fun V => ocheck_any h l V i3)
  rw [e1] at HC1
  rw [e2] at HC2
  rw [e3] at HC3
  clear i1 i2 i3 e1 e2 e3
  have HK : Hid (∀ V, Below X.heap.size X V → (V.cell? ⟨w.heap.size, 0, none⟩ = some (.int .i32 f) ∧ V.cell? ⟨w.heap.size, 1, none⟩ = some (.int .i32 n)) ∧ (V.cell? ⟨w.heap.size + 1, 0, none⟩ = some (.int .i32 g) ∧ V.cell? ⟨w.heap.size + 1, 1, none⟩ = some (.int .i32 m)) ∧ (V.cell? ⟨w.heap.size + 1 + 1, 0, none⟩ = some (.int .i32 h) ∧ V.cell? ⟨w.heap.size + 1 + 1, 1, none⟩ = some (.int .i32 l))) := fun V hv => ⟨⟨(HX.out.1.later hv HX.out.1.lt).cell 0, (HX.out.1.later hv HX.out.1.lt).cell 1⟩, ⟨(HX.out.2.1.later hv HX.out.2.1.lt).cell 0, (HX.out.2.1.later hv HX.out.2.1.lt).cell 1⟩, ⟨(HX.out.2.2.1.later hv HX.out.2.2.1.lt).cell 0, (HX.out.2.2.1.later hv HX.out.2.2.1.lt).cell 1⟩⟩
  have HW := hid HX.out.2.2.2
  clear HX
  rcases hc with rfl | ⟨rfl, rfl⟩ | ⟨rfl, rfl, rfl⟩
  · go_enter Try.func4, Try.ntmps4
    go_wp2_with fail
    clear hX
    refine Calls.mono HL.out ?_
    rintro e w1 ⟨rfl, hb1⟩
    have HB1 := hid hb1
    obtain ⟨⟨k0, k1⟩, _, _⟩ := HK.out _ HB1.out
    have HD := hid (HC1.out w1)
    clear hb1 HL
    go_wp2_with fail
    refine Calls.mono HD.out ?_
    rintro e w2 ⟨rfl, hb2⟩
    have HB2 := hid (bt HB1.out hb2)
    clear hb2 HD k0 k1
    go_wp2_with fail
    go_ret
    exact ⟨rfl, bt HW.out HB2.out⟩
  · go_enter Try.func4, Try.ntmps4
    go_wp2_with fail
    clear hX
    refine Calls.mono HL.out ?_
    rintro e w1 ⟨rfl, hb1⟩
    have HB1 := hid hb1
    obtain ⟨⟨k0, k1⟩, _, _⟩ := HK.out _ HB1.out
    have HD := hid (HC1.out w1)
    clear hb1 HL
    go_wp2_with fail
    refine Calls.mono HD.out ?_
    rintro e w2 ⟨rfl, hb2⟩
    have HB2 := hid (bt HB1.out hb2)
    clear hb2 HD k0 k1
    obtain ⟨_, ⟨k0, k1⟩, _⟩ := HK.out _ HB2.out
    have HD := hid (HC2.out w2)
    go_wp2_with fail
    refine Calls.mono HD.out ?_
    rintro e w3 ⟨rfl, hb3⟩
    have HB3 := hid (bt HB2.out hb3)
    clear hb3 HD k0 k1
    go_wp2_with fail
    go_ret
    exact ⟨rfl, bt HW.out HB3.out⟩
  · go_enter Try.func4, Try.ntmps4
    go_wp2_with fail
    clear hX
    refine Calls.mono HL.out ?_
    rintro e w1 ⟨rfl, hb1⟩
    have HB1 := hid hb1
    obtain ⟨⟨k0, k1⟩, _, _⟩ := HK.out _ HB1.out
    have HD := hid (HC1.out w1)
    clear hb1 HL
    go_wp2_with fail
    refine Calls.mono HD.out ?_
    rintro e w2 ⟨rfl, hb2⟩
    have HB2 := hid (bt HB1.out hb2)
    clear hb2 HD k0 k1
    obtain ⟨_, ⟨k0, k1⟩, _⟩ := HK.out _ HB2.out
    have HD := hid (HC2.out w2)
    go_wp2_with fail
    refine Calls.mono HD.out ?_
    rintro e w3 ⟨rfl, hb3⟩
    have HB3 := hid (bt HB2.out hb3)
    clear hb3 HD k0 k1
    obtain ⟨_, _, ⟨k0, k1⟩⟩ := HK.out _ HB3.out
    have HD := hid (HC3.out w3)
    go_wp2_with fail
    refine Calls.mono HD.out ?_
    rintro e w4 ⟨rfl, hb4⟩
    have HB4 := hid (bt HB3.out hb4)
    clear hb4 HD k0 k1
    go_wp2_with fail
    go_ret
    exact ⟨rfl, bt HW.out HB4.out⟩
theorem rotorApart_in (f n g m h l : Int) (w : World) (i1 : in32 f n) (i2 : in32 g m) (i3 : in32 h l) :
    Calls Try.prog 4 #[.agg #[.int .i32 f, .int .i32 n], .agg #[.int .i32 g, .int .i32 m], .agg #[.int .i32 h, .int .i32 l]] w fun e w' => e = .returned (.bool true) ∧ Below w.heap.size w w' := by
  by_cases h1 : rOK f n
  · by_cases h2 : rOK g m
    · by_cases h3 : rOK h l
      · exact rotorApart_go f n g m h l w h1 h2 h3
      · exact rotorApart_off f n g m h l w i1 i2 i3 _ _ _ rfl rfl rfl (.inr (.inr ⟨ochk_fine h1, ochk_fine h2, ochk_bad h3⟩))
    · exact rotorApart_off f n g m h l w i1 i2 i3 _ _ _ rfl rfl rfl (.inr (.inl ⟨ochk_fine h1, ochk_bad h2⟩))
  · exact rotorApart_off f n g m h l w i1 i2 i3 _ _ _ rfl rfl rfl (.inl (ochk_bad h1))
end Go.Proofs.Ytkkehddpblkegaa

