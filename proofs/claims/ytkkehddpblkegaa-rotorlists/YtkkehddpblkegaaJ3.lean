/- My texts on the way to RotorLists, one behind the other: contracts of the program and of the document's answers. -/
import Derived.Test.YtkkehddpblkegaaJ1
import Derived.Test.YtkkehddpblkegaaJ2
import Derived.Test.YtkkehddpblkegaaChecked
import Derived.Handy
import Derived.RegionTactic
import Derived.ChangeAlike
import Derived.Deep.RegionHeld3
import Derived.Deep.QuietTactic
import Derived.BigQuiet
import Derived.DeepKeys5
import Derived.Maps.OwnSet
import Derived.LoopN
import Derived.Deep.Slices
import Derived.OpenShut
import Derived.ChangeArms
import Derived.Laws.AppendOwnNone
import Derived.Laws.AppendOwn
/- Boxes made one behind the other; drawing keeps what is below. -/
namespace Go.Proofs.Ytkkehddpblkegaa
open Go.RowKit
set_option linter.unusedVariables false

theorem boxes1 (w : World) (t : Nat) (u : Array Value) : FBox (w.alloc (.cells u t)) w.heap.size t u ∧ Below w.heap.size w (w.alloc (.cells u t)) :=
  ⟨FBox.made _ _ _, (Below.refl _ _).alloc (Nat.le_refl _) _⟩
theorem bdrewN {B : Nat} {a w : World} (h : Below B a w) (n : Nat) : Below B a (w.drewN n) := by
  induction n with
  | zero => exact h
  | succ n ih => exact ih.drew
end Go.Proofs.Ytkkehddpblkegaa

/- package rotor: size, commonDivisor, Check, Conj, half, of every rotor. -/
namespace Go.Proofs.Ytkkehddpblkegaa
open Go.RowKit
set_option linter.unusedVariables false

/-- A rotor may be. -/
def rOK (f n : Int) : Prop := 1 ≤ f ∧ f ≤ 1000 ∧ 1 ≤ n.natAbs ∧ n.natAbs ≤ 1000 ∧ f ≠ (n.natAbs : Int) ∧ Nat.gcd f.toNat n.natAbs = 1
instance (f n : Int) : Decidable (rOK f n) := by unfold rOK; infer_instance
def ochk (f n : Int) : Int := if rOK f n then 0 else 150
def in32 (f n : Int) : Prop := (-2147483648 ≤ f ∧ f ≤ 2147483647) ∧ (-2147483648 ≤ n ∧ n ≤ 2147483647)
theorem ochk_or (f n : Int) : ochk f n = 0 ∧ rOK f n ∨ ochk f n = 150 ∧ ¬ rOK f n := by
  unfold ochk
  by_cases h : rOK f n
  · rw [if_pos h]; exact .inl ⟨rfl, h⟩
  · rw [if_neg h]; exact .inr ⟨rfl, h⟩

set_option maxHeartbeats 800000 in
set_option maxRecDepth 100000 in
theorem osize_any (n : Int) (w : World) (h0 : -9223372036854775808 < n) (h1 : n ≤ 9223372036854775807) :
    Calls Try.prog 16 #[.int .i64 n] w fun e w' => e = .returned (.int .i64 (n.natAbs : Int)) ∧ w' = w := by
  by_cases h : n < 0
  · go_enter Try.func16, Try.ntmps16
    go_wp2_with fail
    go_ret
    exact ⟨ret_int (by omega), rfl⟩
  · go_enter Try.func16, Try.ntmps16
    go_wp2_with fail
    go_ret
    exact ⟨ret_int (by omega), rfl⟩

set_option maxHeartbeats 800000 in
set_option maxRecDepth 100000 in
theorem ocommon_any (a b : Nat) (w : World) (ha : a < 9223372036854775808) (hb : b < 9223372036854775808) :
    Calls Try.prog 17 #[.int .i64 (a : Int), .int .i64 (b : Int)] w fun e w' => e = .returned (.int .i64 (Nat.gcd a b : Nat)) ∧ Below w.heap.size w w' := by
  go_enter Try.func17, Try.ntmps17
  go_wp2_with fail
  go_loopw [0, 1] (fun x y wr => ∃ c d : Nat, x = .int .i64 (c : Int) ∧ y = .int .i64 (d : Int) ∧ c < 9223372036854775808 ∧ d < 9223372036854775808 ∧ Hid (Nat.gcd c d = Nat.gcd a b) ∧ Below w.heap.size w wr) (fun _ y _ => (intOf y).toNat)
  case atStart => exact ⟨a, b, rfl, rfl, ha, hb, (rfl : Nat.gcd a b = Nat.gcd a b), Below.refl _ _⟩
  case round =>
    obtain ⟨c, d, rfl, rfl, hc, hd, hg, hX⟩ := hrel
    by_cases h0 : d = 0
    · subst h0
      have HG : Hid (c = Nat.gcd a b) := by have := hg.out; rw [Nat.gcd_zero_right] at this; exact this
      clear hg
      go_wp2_with fail
      go_ret
      exact ⟨ret_int (by rw [HG.out]), hX⟩
    · have hm : c % d < d := Nat.mod_lt _ (by omega)
      have HG : Hid (Nat.gcd d (c % d) = Nat.gcd a b) := by show _ = _; rw [← hg.out, Nat.gcd_comm c d, Nat.gcd_rec d c, Nat.gcd_comm]
      have h0' : (d : Int) ≠ 0 := by omega
      have e2 : Int.tmod (c : Int) (d : Int) = ((c % d : Nat) : Int) := by
        rw [Int.tmod_eq_emod_of_nonneg (by omega)]; rfl
      clear hg
      go_wp2_with fail
      go_region
      all_goals
        go_wp2_with fail
        go_roundw
        case rel => exact ⟨d, c % d, rfl, by go_num, by omega, by omega, HG, hX.drew⟩
        case measure => simp [intOf]; omega

set_option maxHeartbeats 1600000 in
set_option maxRecDepth 100000 in
theorem ocheck_any (f n : Int) (w : World) (h : in32 f n) :
    Calls Try.prog 8 #[.agg #[.int .i32 f, .int .i32 n]] w fun e w' => e = .returned (.int .i64 (ochk f n)) ∧ Below w.heap.size w w' := by
  obtain ⟨⟨f0, f1⟩, n0, n1⟩ := h
  have hb0 : Below w.heap.size w (w.alloc (.cells #[.int .i32 f, .int .i32 n] 25)) := (Below.refl _ _).alloc (Nat.le_refl _) _
  have HN : Hid (¬ (1 ≤ f ∧ f ≤ 1000 ∧ 1 ≤ (n.natAbs : Int) ∧ (n.natAbs : Int) ≤ 1000 ∧ f ≠ (n.natAbs : Int)) → ochk f n = 150) := fun h => by unfold ochk; rw [if_neg]; unfold rOK; omega
  have HY : Hid ((1 ≤ f ∧ f ≤ 1000 ∧ 1 ≤ (n.natAbs : Int) ∧ (n.natAbs : Int) ≤ 1000 ∧ f ≠ (n.natAbs : Int)) → Nat.gcd f.toNat n.natAbs = 1 → ochk f n = 0) := fun h g => by unfold ochk; rw [if_pos]; unfold rOK; omega
  have HY' : Hid (¬ Nat.gcd f.toNat n.natAbs = 1 → ochk f n = 150) := fun g => by unfold ochk; rw [if_neg]; unfold rOK; omega
  have HD : Hid (1 ≤ f → 1 ≤ Nat.gcd f.toNat n.natAbs) := fun g => Nat.gcd_pos_of_pos_left _ (by omega)
  have HS := hid (fun V => osize_any n V (by omega) (by omega))
  have HC : Hid (∀ V : World, 1 ≤ f → Calls Try.prog 17 #[.int .i64 f, .int .i64 (n.natAbs : Int)] V fun e w' => e = .returned (.int .i64 (Nat.gcd f.toNat n.natAbs : Nat)) ∧ Below V.heap.size V w') := fun V h1 => by
    have := ocommon_any f.toNat n.natAbs V (by omega) (by omega)
    rw [show ((f.toNat : Nat) : Int) = f by omega] at this
    exact this
  obtain ⟨d, hD⟩ : ∃ d, Nat.gcd f.toNat n.natAbs = d := ⟨_, rfl⟩
  rw [hD] at HY HY' HC HD
  clear hD
  have m1 : n.natAbs ≤ 2147483648 := by omega
  generalize n.natAbs = N at *
  go_enter Try.func8, Try.ntmps8
  go_wp2_with fail
  go_quiet ((go_at_call 16; exact Calls.quiet_of_same (HS.out _)))
  clear HS
  have HB0 : Hid (Below w.heap.size w ((w.alloc (.cells #[.int .i32 f, .int .i32 n] 25)).drewN nq)) := bdrewN hb0 nq
  generalize (w.alloc (.cells #[.int .i32 f, .int .i32 n] 25)).drewN nq = X at *
  clear hb0
  go_wp2_with fail
  all_goals try (go_ret; exact ⟨ret_int (HN.out (by omega)).symm, HB0.out⟩)
  refine Calls.mono (HC.out _ (by omega)) ?_
  rintro e w1 ⟨rfl, hb1⟩
  by_cases h1 : d = 1
  · subst h1
    go_wp2_with fail
    go_ret
    exact ⟨ret_int (HY.out (by omega) (by trivial)).symm, b2 HB0.out hb1⟩
  · have h1' : (1 : Int) < (d : Int) := by have := HD.out (by omega); omega
    go_wp2_with fail
    go_ret
    exact ⟨ret_int (HY'.out h1).symm, b2 HB0.out hb1⟩
end Go.Proofs.Ytkkehddpblkegaa

/- package rotor: Conj, half, Order, of every two rotors. -/
namespace Go.Proofs.Ytkkehddpblkegaa
open Go.RowKit
set_option linter.unusedVariables false

end Go.Proofs.Ytkkehddpblkegaa

/- The document's rotor (slackwaterref05): gcd, Check, of every rotor: the same answers as the program's. -/
namespace Go.Proofs.Ytkkehddpblkegaa
open Go.RowKit
set_option linter.unusedVariables false

set_option maxHeartbeats 1600000 in
set_option maxRecDepth 100000 in
theorem pgcd_any (a b : Int) (w : World) (a0 : -9223372036854775808 < a) (a1 : a ≤ 9223372036854775807) (b0 : -9223372036854775808 < b) (b1 : b ≤ 9223372036854775807) :
    Calls Try.prog 27 #[.int .i64 a, .int .i64 b] w fun e w' => e = .returned (.int .i64 (Int.gcd a b : Nat)) ∧ Below w.heap.size w w' := by
  go_enter Try.func27, Try.ntmps27
  go_wp2_with fail
  go_loopw [0, 1] (fun x y wr => ∃ c d : Int, x = .int .i64 c ∧ y = .int .i64 d ∧ (-9223372036854775808 < c ∧ c ≤ 9223372036854775807) ∧ (-9223372036854775808 < d ∧ d ≤ 9223372036854775807) ∧ Hid (Int.gcd c d = Int.gcd a b) ∧ Below w.heap.size w wr) (fun _ y _ => (intOf y).natAbs)
  case atStart => exact ⟨a, b, rfl, rfl, ⟨a0, a1⟩, ⟨b0, b1⟩, (rfl : Int.gcd a b = Int.gcd a b), Below.refl _ _⟩
  case round =>
    obtain ⟨c, d, rfl, rfl, hc, hd, hg, hX⟩ := hrel
    by_cases h0 : d = 0
    · subst h0
      have HG : Hid (c.natAbs = Int.gcd a b) := by have := hg.out; rw [Int.gcd_zero_right] at this; exact this
      clear hg
      have hmx : max c (-c) = (c.natAbs : Int) := by omega
      go_wp2_with fail
      all_goals (go_ret; exact ⟨ret_int (by rw [← HG.out]; omega), hX⟩)
    · have hm : (Int.tmod c d).natAbs < d.natAbs := by
        rw [Int.natAbs_tmod]; exact Nat.mod_lt _ (by omega)
      have HG : Hid (Int.gcd d (Int.tmod c d) = Int.gcd a b) := by
        show _ = _
        rw [← hg.out]
        show Nat.gcd d.natAbs (Int.tmod c d).natAbs = Nat.gcd c.natAbs d.natAbs
        rw [Int.natAbs_tmod, Nat.gcd_comm c.natAbs d.natAbs, Nat.gcd_rec d.natAbs c.natAbs, Nat.gcd_comm]
      have hb : -9223372036854775808 < Int.tmod c d ∧ Int.tmod c d ≤ 9223372036854775807 := by
        clear HG hg
        generalize Int.tmod c d = t at *
        omega
      clear hg
      go_wp2_with fail
      go_region
      all_goals
        go_wp2_with fail
        go_roundw
        case rel => exact ⟨d, Int.tmod c d, rfl, by go_num, hd, hb, HG, hX.drew⟩
        case measure => first | (simp [intOf]; exact hm) | (simp [intOf, Int.natAbs_tmod]; exact Nat.mod_lt _ (by omega)) | (simp only [intOf]; exact hm)

theorem rOK_iff (f n : Int) (h : in32 f n) : rOK f n ↔ (1 ≤ f ∧ f ≤ 1000 ∧ -1000 ≤ n ∧ n ≤ 1000 ∧ n ≠ 0 ∧ f ≠ n ∧ f ≠ -n) ∧ Int.gcd f n = 1 := by
  have e : 1 ≤ f → Int.gcd f n = Nat.gcd f.toNat n.natAbs := fun h => by
    show Nat.gcd f.natAbs n.natAbs = _
    rw [show f.natAbs = f.toNat by omega]
  unfold rOK
  constructor
  · rintro ⟨a, b, c, d, g, k⟩
    exact ⟨⟨a, b, by omega, by omega, by omega, by omega, by omega⟩, by rw [e a]; exact k⟩
  · rintro ⟨⟨a, b, c, d, g, k, l⟩, q⟩
    exact ⟨a, b, by omega, by omega, by omega, by rw [← e a]; exact q⟩

set_option maxHeartbeats 3200000 in
set_option maxRecDepth 100000 in
theorem pcheck_any (f n : Int) (w : World) (h : in32 f n) :
    Calls Try.prog 15 #[.agg #[.int .i32 f, .int .i32 n]] w fun e w' => e = .returned (.int .i64 (ochk f n)) ∧ Below w.heap.size w w' := by
  have hI := rOK_iff f n h
  obtain ⟨⟨f0, f1⟩, n0, n1⟩ := h
  have HX := hid (boxes1 w 25 #[.int .i32 f, .int .i32 n])
  have HG := hid (fun V => pgcd_any f n V (by omega) (by omega) (by omega) (by omega))
  have HN : Hid (¬ (1 ≤ f ∧ f ≤ 1000 ∧ -1000 ≤ n ∧ n ≤ 1000 ∧ n ≠ 0 ∧ f ≠ n ∧ f ≠ -n) → ochk f n = 150) := fun h => by unfold ochk; rw [if_neg]; rw [hI]; exact fun g => h g.1
  have HY : Hid ((1 ≤ f ∧ f ≤ 1000 ∧ -1000 ≤ n ∧ n ≤ 1000 ∧ n ≠ 0 ∧ f ≠ n ∧ f ≠ -n) → Int.gcd f n = 1 → ochk f n = 0) := fun h g => by unfold ochk; rw [if_pos]; rw [hI]; exact ⟨h, g⟩
  have HY' : Hid (¬ Int.gcd f n = 1 → ochk f n = 150) := fun g => by unfold ochk; rw [if_neg]; rw [hI]; exact fun h => g h.2
  clear hI
  generalize Int.gcd f n = d at *
  by_cases k0 : f < 1
  · have d0 : decide (f < 1) = true := by simpa using k0
    have HR := hid (HN.out (by omega))
    clear HN HY HY' k0
    go_enter Try.func15, Try.ntmps15
    go_wp2_with fail
    go_ret
    exact ⟨ret_int HR.out.symm, HX.out.2⟩
  have d0 : decide (f < 1) = false := by simpa using k0
  by_cases k1 : 1000 < f
  · have d1 : decide (1000 < f) = true := by simpa using k1
    have HR := hid (HN.out (by omega))
    clear HN HY HY' k0 k1
    go_enter Try.func15, Try.ntmps15
    go_wp2_with fail
    go_ret
    exact ⟨ret_int HR.out.symm, HX.out.2⟩
  have d1 : decide (1000 < f) = false := by simpa using k1
  by_cases k2 : n < -1000
  · have d2 : decide (n < -1000) = true := by simpa using k2
    have HR := hid (HN.out (by omega))
    clear HN HY HY' k0 k1
    go_enter Try.func15, Try.ntmps15
    go_wp2_with fail
    go_ret
    exact ⟨ret_int HR.out.symm, HX.out.2⟩
  have d2 : decide (n < -1000) = false := by simpa using k2
  by_cases k3 : 1000 < n
  · have d3 : decide (1000 < n) = true := by simpa using k3
    have HR := hid (HN.out (by omega))
    clear HN HY HY' k0 k1 k3
    go_enter Try.func15, Try.ntmps15
    go_wp2_with fail
    go_ret
    exact ⟨ret_int HR.out.symm, HX.out.2⟩
  have d3 : decide (1000 < n) = false := by simpa using k3
  by_cases k4 : n = 0
  · have d4 : (n == 0) = true := by simpa using k4
    have HR := hid (HN.out (by omega))
    clear HN HY HY' k0 k1 k3 k4
    go_enter Try.func15, Try.ntmps15
    go_wp2_with fail
    go_ret
    exact ⟨ret_int HR.out.symm, HX.out.2⟩
  have d4 : (n == 0) = false := by simpa using k4
  by_cases k5 : f = n
  · have d5 : (f == n) = true := by simpa using k5
    have HR := hid (HN.out (by omega))
    clear HN HY HY' k0 k1 k3 k4 k5
    go_enter Try.func15, Try.ntmps15
    go_wp2_with fail
    go_ret
    exact ⟨ret_int HR.out.symm, HX.out.2⟩
  have d5 : (f == n) = false := by simpa using k5
  by_cases k6 : f = -n
  · have d6 : (f == -n) = true := by simpa using k6
    have HR := hid (HN.out (by omega))
    clear HN HY HY' k0 k1 k3 k4 k5 k6
    go_enter Try.func15, Try.ntmps15
    go_wp2_with fail
    go_ret
    exact ⟨ret_int HR.out.symm, HX.out.2⟩
  have d6 : (f == -n) = false := by simpa using k6
  have HI := hid (HY.out (by omega))
  clear HN HY k0 k1 k3 k4 k5 k6
  go_enter Try.func15, Try.ntmps15
  go_wp2_with fail
  refine Calls.mono (HG.out _) ?_
  rintro e w1 ⟨rfl, hb1⟩
  have HB := hid (b2 HX.out.2 hb1)
  by_cases h1 : d = 1
  · have HR := hid (HI.out h1)
    subst h1
    go_wp2_with fail
    go_ret
    exact ⟨ret_int HR.out.symm, HB.out⟩
  · have h1' : ¬ (d : Int) = 1 := by omega
    go_wp2_with fail
    go_ret
    exact ⟨ret_int (HY'.out h1).symm, HB.out⟩
end Go.Proofs.Ytkkehddpblkegaa

/- The document's rotor (slackwaterref05): Apart, of every list of rotors. -/
namespace Go.Proofs.Ytkkehddpblkegaa
open Go.RowKit
set_option linter.unusedVariables false

def xO (xs : List (Int × Int)) (j : Nat) : Int × Int := xs[j]?.getD (0, 0)
/-- Stands there ahead of it already. -/
def Met (xs : List (Int × Int)) (i : Nat) : Prop := ∃ k, k < i ∧ xO xs k = xO xs i
/-- The first that may not be; else the first that was there already; else none. -/
def RAp (xs : List (Int × Int)) (v c : Int) : Prop :=
  (c = 150 ∧ ∃ i : Nat, v = i ∧ i < xs.length ∧ ¬ rOK (xO xs i).1 (xO xs i).2 ∧ ∀ j, j < i → rOK (xO xs j).1 (xO xs j).2) ∨
  (c = 0 ∧ (∀ j, j < xs.length → rOK (xO xs j).1 (xO xs j).2) ∧ ((∃ i : Nat, v = i ∧ i < xs.length ∧ Met xs i ∧ ∀ j, j < i → ¬ Met xs j) ∨ (v = -1 ∧ ∀ j, j < xs.length → ¬ Met xs j)))
theorem RAp.one {xs : List (Int × Int)} {v c v' c' : Int} (h : RAp xs v c) (h' : RAp xs v' c') : v = v' ∧ c = c' := by
  have two : ∀ {P : Nat → Prop} {i j : Nat}, P i → (∀ k, k < i → ¬ P k) → P j → (∀ k, k < j → ¬ P k) → i = j := fun {P i j} a b c d => by
    rcases Nat.lt_trichotomy i j with g | g | g
    · exact absurd a (d i g)
    · exact g
    · exact absurd c (b j g)
  rcases h with ⟨rfl, i, rfl, a1, a2, a3⟩ | ⟨rfl, a0, a⟩ <;> rcases h' with ⟨rfl, i', rfl, b1, b2, b3⟩ | ⟨rfl, b0, b⟩
  · have := two (P := fun i => ¬ rOK (xO xs i).1 (xO xs i).2) a2 (fun k hk g => g (a3 k hk)) b2 (fun k hk g => g (b3 k hk))
    exact ⟨by rw [this], rfl⟩
  · exact absurd (b0 i a1) a2
  · exact absurd (a0 i' b1) b2
  · rcases a with ⟨i, rfl, a1, a2, a3⟩ | ⟨rfl, a3⟩ <;> rcases b with ⟨i', rfl, b1, b2, b3⟩ | ⟨rfl, b3⟩
    · exact ⟨by rw [two (P := Met xs) a2 a3 b2 b3], rfl⟩
    · exact absurd a2 (b3 i a1)
    · exact absurd b2 (a3 i' b1)
    · exact ⟨rfl, rfl⟩

theorem roEq (a b c d : Int) (w : World) : (Op.equalIn 10000 25 (.agg #[.int .i32 a, .int .i32 b]) (.agg #[.int .i32 c, .int .i32 d])).run Try.prog w = .ok (a == c && b == d) w := by
  have u1 := Try.underlying21
  have a1 := Try.isAgg21
  have z1 := Try.sizeOf21
  have hS : Try.prog.underlying 25 = some (.struct (Try.prog.fieldsOf 25)) := by kernel_rfl
  rw [show (10000 : Nat) = 9999 + 1 from rfl, run_equalIn_agg w 9999 25 _ _ hS (by kernel_rfl)]
  simp only [Program.fieldsOf, Try.underlying25]
  go_simp
  by_cases h1 : a = c <;> by_cases h2 : b = d <;> simp [h1, h2]

set_option maxHeartbeats 3200000 in
set_option maxRecDepth 100000 in
theorem papart_ok (b o n cap : Nat) (xs : List (Int × Int)) (w : World) (hl : xs.length = n) (h32 : ∀ j, in32 (xO xs j).1 (xO xs j).2) (hb : b < w.heap.size)
    (hx : ∀ j, j < n → w.cell? ⟨b, o + j * 2, none⟩ = some (.int .i32 (xO xs j).1) ∧ w.cell? ⟨b, o + j * 2 + 1, none⟩ = some (.int .i32 (xO xs j).2)) (hn : n ≤ 64) :
    Calls Try.prog 7 #[.slice (some ⟨b, o, none⟩) n cap] w fun e w' => ∃ v c, e = .returned (.tuple #[.int .i64 v, .int .i64 c]) ∧ RAp xs v c ∧ Below w.heap.size w w' := by
  have HX : Hid (∀ V, Below w.heap.size w V → ∀ j, j < n → V.cell? ⟨b, o + j * 2, none⟩ = some (.int .i32 (xO xs j).1) ∧ V.cell? ⟨b, o + j * 2 + 1, none⟩ = some (.int .i32 (xO xs j).2)) := fun V hV j hj => by
    have := hx j hj
    exact ⟨(hV.cell (p := ⟨b, o + j * 2, none⟩) hb).trans this.1, (hV.cell (p := ⟨b, o + j * 2 + 1, none⟩) hb).trans this.2⟩
  have HC : Hid (∀ j V, Calls Try.prog 15 #[.agg #[.int .i32 (xO xs j).1, .int .i32 (xO xs j).2]] V fun e w' => e = .returned (.int .i64 (ochk (xO xs j).1 (xO xs j).2)) ∧ Below V.heap.size V w') := fun j V => pcheck_any _ _ V (h32 j)
  clear hx h32 hb
  go_enter Try.func7, Try.ntmps7
  go_wp2_with fail
  go_loopw [4] (fun x wr => ∃ i : Nat, x = .int .i64 (i : Int) ∧ i ≤ n ∧ Hid (∀ j, j < i → rOK (xO xs j).1 (xO xs j).2) ∧ Hid (Below w.heap.size w wr)) (fun x _ => n - (intOf x).toNat)
  case atStart => exact ⟨0, rfl, by omega, (fun j hj => by omega : ∀ j, j < 0 → rOK (xO xs j).1 (xO xs j).2), (Below.refl _ _ : Below w.heap.size w w)⟩
  case round =>
    obtain ⟨i, rfl, hi, HO, HB⟩ := hrel
    by_cases hin : i < n
    · obtain ⟨c0, c1⟩ := HX.out _ HB.out i hin
      go_wp2_with fail
      refine Calls.mono (HC.out i _) ?_
      rintro e w1 ⟨rfl, hb1⟩
      have HB1 := hid (b2 HB.out hb1)
      clear c0 c1 hb1
      rcases ochk_or (xO xs i).1 (xO xs i).2 with ⟨e0, h0⟩ | ⟨e0, h0⟩
      · rw [e0]
        have HO1 : Hid (∀ j, j < i + 1 → rOK (xO xs j).1 (xO xs j).2) := fun j hj => by
          rcases (by omega : j < i ∨ j = i) with g | rfl
          · exact HO.out j g
          · exact h0
        clear HO h0 e0
        go_wp2_with fail
        go_roundw
        case rel => exact ⟨i + 1, by go_num, by omega, HO1, HB1⟩
        case measure => simp [intOf]; omega
      · rw [e0]
        have HR : Hid (RAp xs (i : Int) 150) := .inl ⟨rfl, i, rfl, by omega, h0, HO.out⟩
        clear HO h0 e0
        go_wp2_with fail
        refine bodyPost_ret (v := .tuple #[.int .i64 (i : Int), .int .i64 150]) (by simp [results, Try.results7, go_sem]) rfl ?_
        exact ⟨_, _, rfl, HR.out, HB1.out⟩
    · have HA : Hid (∀ j, j < xs.length → rOK (xO xs j).1 (xO xs j).2) := fun j hj => HO.out j (by omega)
      clear HO
      go_wp2_with fail
      clear hi hin
      go_loopw [5] (fun x ws => ∃ i : Nat, x = .int .i64 (i : Int) ∧ i ≤ n ∧ Hid (∀ j, j < i → ¬ Met xs j) ∧ Hid (Below w.heap.size w ws)) (fun x _ => n - (intOf x).toNat)
      case atStart => exact ⟨0, rfl, by omega, (fun j hj => by omega : ∀ j, j < 0 → ¬ Met xs j), HB⟩
      case round =>
        clear HB
        obtain ⟨i, rfl, hi, HO, HB⟩ := hrel
        by_cases hin : i < n
        · go_wp2_with fail
          go_loopw [6] (fun x wt => ∃ k : Nat, x = .int .i64 (k : Int) ∧ k ≤ i ∧ Hid (∀ j, j < k → ¬ xO xs j = xO xs i) ∧ Hid (Below w.heap.size w wt)) (fun x _ => i - (intOf x).toNat)
          case atStart => exact ⟨0, rfl, by omega, (fun j hj => by omega : ∀ j, j < 0 → ¬ xO xs j = xO xs i), HB⟩
          case round =>
            clear HB
            obtain ⟨k, rfl, hk, HK, HB⟩ := hrel
            by_cases hkn : k < i
            · obtain ⟨c0, c1⟩ := HX.out _ HB.out i hin
              have hkn2 : k < n := by omega
              obtain ⟨c2, c3⟩ := HX.out _ HB.out k hkn2
              have hEQ := roEq (xO xs k).1 (xO xs k).2 (xO xs i).1 (xO xs i).2
              by_cases hE : xO xs k = xO xs i
              · rw [show ((xO xs k).1 == (xO xs i).1 && (xO xs k).2 == (xO xs i).2) = true by rw [hE]; simp] at hEQ
                have HR : Hid (RAp xs (i : Int) 0) := .inr ⟨rfl, HA.out, .inl ⟨i, rfl, by omega, ⟨k, hkn, hE⟩, HO.out⟩⟩
                clear hE HO HK
                go_wp2_with fail
                go_quiet (fail)
                have HB2 := hid (bdrewN HB.out nq)
                go_wp2_with fail
                refine bodyPost_ret (v := .tuple #[.int .i64 (i : Int), .int .i64 0]) (by simp [results, Try.results7, go_sem]) rfl ?_
                exact ⟨_, _, rfl, HR.out, HB2.out⟩
              · have hf : ((xO xs k).1 == (xO xs i).1 && (xO xs k).2 == (xO xs i).2) = false := by
                  cases hc : ((xO xs k).1 == (xO xs i).1 && (xO xs k).2 == (xO xs i).2) with
                  | false => rfl
                  | true =>
                    simp only [Bool.and_eq_true, beq_iff_eq] at hc
                    exact absurd (Prod.ext hc.1 hc.2) hE
                rw [hf] at hEQ
                have HK1 : Hid (∀ j, j < k + 1 → ¬ xO xs j = xO xs i) := fun j hj => by
                  rcases (by omega : j < k ∨ j = k) with g | rfl
                  · exact HK.out j g
                  · exact hE
                clear hE HK hf
                go_wp2_with fail
                go_quiet (fail)
                have HB2 := hid (bdrewN HB.out nq)
                go_wp2_with fail
                go_roundw
                case rel => exact ⟨k + 1, by go_num, by omega, HK1, HB2⟩
                case measure => simp [intOf]; omega
            · have HM : Hid (∀ j, j < i + 1 → ¬ Met xs j) := fun j hj => by
                rcases (by omega : j < i ∨ j = i) with g | rfl
                · exact HO.out j g
                · rintro ⟨m, hm, e⟩
                  exact HK.out m (by omega) e
              clear HO HK
              go_wp2_with fail
              go_roundw
              case rel => exact ⟨i + 1, by go_num, by omega, HM, HB⟩
              case measure => simp [intOf]; omega
        · have HR : Hid (RAp xs (-1) 0) := .inr ⟨rfl, HA.out, .inr ⟨rfl, fun j hj => HO.out j (by omega)⟩⟩
          clear HO
          go_wp2_with fail
          refine bodyPost_ret (v := .tuple #[.int .i64 (-1), .int .i64 0]) (by simp [results, Try.results7, go_sem]) rfl ?_
          exact ⟨_, _, rfl, HR.out, HB.out⟩

set_option maxHeartbeats 800000 in
set_option maxRecDepth 100000 in
theorem papart_long (a : Option Addr) (n cap : Nat) (w : World) (hn : 64 < n) (hm : n ≤ 9223372036854775807) :
    Calls Try.prog 7 #[.slice a n cap] w fun e w' => e = .returned (.tuple #[.int .i64 0, .int .i64 3]) ∧ Below w.heap.size w w' := by
  have h1 : (64 : Int) < (n : Int) := by omega
  go_enter Try.func7, Try.ntmps7
  go_wp2_with fail
  refine bodyPost_ret (v := .tuple #[.int .i64 0, .int .i64 3]) (by simp [results, Try.results7, go_sem]) rfl ?_
  exact ⟨rfl, Below.refl _ _⟩
end Go.Proofs.Ytkkehddpblkegaa

/- Rotors as keys of a map. -/
namespace Go.Proofs.Ytkkehddpblkegaa
open Go.RowKit Go.Maps
set_option linter.unusedVariables false

theorem rolaw : Keyed Try.prog 25 := Keyed.of_law (deep_law_gate (by kernel_rfl) (of_decide_eq_true (by kernel_rfl)) (of_decide_eq_true (by kernel_rfl)) (by kernel_rfl) (by kernel_rfl))
theorem rozero (w : World) : (zeroValue 47).run Try.prog w = .ok (.agg #[]) w := by kernel_rfl
noncomputable def rokey (p : Int × Int) : Lit := (keyOf Try.prog 25 (.agg #[.int .i32 p.1, .int .i32 p.2])).getD (.bool true)
theorem rokey_of {p : Int × Int} (h : in32 p.1 p.2) : keyOf Try.prog 25 (.agg #[.int .i32 p.1, .int .i32 p.2]) = some (rokey p) := by
  have : (keyOf Try.prog 25 (.agg #[.int .i32 p.1, .int .i32 p.2])).isSome = true := by
    have hk : Try.prog.keyType 25 = true := by kernel_rfl
    have c1 : Try.prog.cellsOf 25 = 2 := by kernel_rfl
    have c2 : Try.prog.cellsOf 21 = 1 := by kernel_rfl
    have m1 : IntKind.i32.min = -2147483648 := by decide
    have m2 : IntKind.i32.max = 2147483647 := by decide
    have w1 : (Lit.int .i32 p.1).wf = true := by obtain ⟨⟨a, b⟩, _⟩ := h; simp [Lit.wf, m1, m2]; omega
    have w2 : (Lit.int .i32 p.2).wf = true := by obtain ⟨_, a, b⟩ := h; simp [Lit.wf, m1, m2]; omega
    have hf : Value.formed Try.prog 25 (.agg #[.int .i32 p.1, .int .i32 p.2]) = true := by simp [Value.formed, Try.underlying25, c1]
    have hs : ∀ d, (Try.prog.keyLits (d + 1 + 1) 25 [.int .i32 p.1, .int .i32 p.2]).isSome = true := fun d => by
      simp [Program.keyLits, Try.underlying25, Try.underlying21, c1, c2, w1, w2]
    obtain ⟨d, hd⟩ : ∃ d, Try.prog.types.size + 1 = d + 1 + 1 := ⟨Try.prog.types.size - 1, by kernel_rfl⟩
    unfold keyOf
    rw [hd]
    have q := hs d
    simp [Try.underlying25, hk, hf, Value.cells]
    exact q
  unfold rokey
  cases e : keyOf Try.prog 25 (.agg #[.int .i32 p.1, .int .i32 p.2]) with
  | none => rw [e] at this; simp at this
  | some l => rfl
/-- What rotors read as where they are keys. -/
def RoK (K : Int × Int → Lit) : Prop := (∀ p : Int × Int, in32 p.1 p.2 → keyOf Try.prog 25 (.agg #[.int .i32 p.1, .int .i32 p.2]) = some (K p)) ∧ (∀ p : Int × Int, in32 p.1 p.2 → WideAt.IsKeyLit (K p)) ∧ ∀ p q : Int × Int, in32 p.1 p.2 → in32 q.1 q.2 → K p = K q → p = q
set_option maxRecDepth 100000 in
theorem ro_keys : ∃ K, RoK K := by
  refine ⟨rokey, fun p h => rokey_of h, fun p h => Keyed.key rolaw (rokey_of h), fun p q hp hq h => ?_⟩
  have a := rokey_of hp
  have b := rokey_of hq
  rw [h] at a
  have e := Keyed.inj rolaw a b
  simp only [Value.agg.injEq, Array.mk.injEq, List.cons.injEq, Value.int.injEq, true_and, and_true] at e
  exact Prod.ext e.1 e.2
/-- The set of the first rotors. -/
def roSet (K : Int × Int → Lit) (xs : List (Int × Int)) (k : Nat) : DataW Unit := setOf (.agg []) ((List.range k).map fun j => K (xO xs j))
theorem roSet_zero (K : Int × Int → Lit) (xs : List (Int × Int)) : roSet K xs 0 = .map [] := rfl
theorem roSet_succ (K : Int × Int → Lit) (xs : List (Int × Int)) (k : Nat) : roSet K xs (k + 1) = (roSet K xs k).put (K (xO xs k)) (.agg []) := by
  unfold roSet
  rw [List.range_succ, List.map_append]
  exact setOf_snoc _ _ _
theorem roSet_has {K : Int × Int → Lit} (hK : RoK K) (xs : List (Int × Int)) (h32 : ∀ j, in32 (xO xs j).1 (xO xs j).2) (k : Nat) : Maps.has (roSet K xs k) (K (xO xs k)) = true ↔ Met xs k := by
  unfold roSet
  rw [has_setOf _ _ _ (fun y hy => by obtain ⟨j, _, rfl⟩ := List.mem_map.1 hy; exact hK.2.1 _ (h32 j))]
  rw [List.any_eq_true]
  constructor
  · rintro ⟨y, hy, hs⟩
    obtain ⟨j, hj, rfl⟩ := List.mem_map.1 hy
    exact ⟨j, List.mem_range.1 hj, hK.2.2 _ _ (h32 j) (h32 k) (WideAt.sameKey_eq hs)⟩
  · rintro ⟨j, hj, e⟩
    refine ⟨K (xO xs j), List.mem_map.2 ⟨j, List.mem_range.2 hj, rfl⟩, ?_⟩
    rw [e]
    exact WideAt.sameKey_self (hK.2.1 _ (h32 k))
end Go.Proofs.Ytkkehddpblkegaa

/- package rotor: Apart, of every list of rotors. -/
namespace Go.Proofs.Ytkkehddpblkegaa
open Go.RowKit Go.Maps
set_option linter.unusedVariables false
set_option linter.unusedSimpArgs false

theorem roMap_later {w w' : World} {k : TypeId} {R : Value → Option (DataW Unit × List MemPlace)} {b n : Nat} {D : DataW Unit} (h : w.ownsMap Try.prog k R b n D) (hb : Below w.heap.size w w') : w'.ownsMap Try.prog k R b n D := by
  have hlt := h.lt
  obtain ⟨es, clock, h1, F, hs, hD⟩ := h
  exact ⟨es, clock, (hb.block _ hlt).trans h1, F, hs, hD⟩
/-- A new box of two cells, filled. -/
theorem robox (w : World) (f r : Int) : ∃ A0 A1, (w.alloc (.cells #[.int .i32 0, .int .i32 0] 25)).setCell ⟨w.heap.size, 0, none⟩ (.int .i32 f) = A0 ∧ A0.setCell ⟨w.heap.size, 1, none⟩ (.int .i32 r) = A1 ∧ ((w.alloc (.cells #[.int .i32 0, .int .i32 0] 25)).cell? ⟨w.heap.size, 0, none⟩ = some (.int .i32 0) ∧ A0.cell? ⟨w.heap.size, 1, none⟩ = some (.int .i32 0)) ∧ ((w.alloc (.cells #[.int .i32 0, .int .i32 0] 25)).frozen? ⟨w.heap.size, 0, none⟩ = false ∧ A0.frozen? ⟨w.heap.size, 1, none⟩ = false) ∧ Hid (Box A1 w.heap.size 25 #[.int .i32 f, .int .i32 r] ∧ Below w.heap.size w A1 ∧ A1.heap.size = w.heap.size + 1) := by
  obtain ⟨A0, A1, q0, q1, r, f', H⟩ := rchain2 (Box.made w 25 #[.int .i32 0, .int .i32 0]) (by decide) (.int .i32 f) (.int .i32 r)
  exact ⟨A0, A1, q0, q1, r, f', H.out.1, H.out.2.2.2.1 _ _ (Nat.le_refl _) (alloc_later _ _), by rw [H.out.2.2.2.2]; simp⟩

set_option maxHeartbeats 6400000 in
set_option maxRecDepth 100000 in
theorem oapart_ok (b o n cap : Nat) (xs : List (Int × Int)) (w : World) (hl : xs.length = n) (h32 : ∀ j, in32 (xO xs j).1 (xO xs j).2) (hb : b < w.heap.size)
    (hx : ∀ j, j < n → w.cell? ⟨b, o + j * 2, none⟩ = some (.int .i32 (xO xs j).1) ∧ w.cell? ⟨b, o + j * 2 + 1, none⟩ = some (.int .i32 (xO xs j).2)) (hn : n ≤ 64) :
    Calls Try.prog 6 #[.slice (some ⟨b, o, none⟩) n cap] w fun e w' => ∃ v c, e = .returned (.tuple #[.int .i64 v, .int .i64 c]) ∧ RAp xs v c ∧ Below w.heap.size w w' := by
  have HX : Hid (∀ V, Below w.heap.size w V → ∀ j, j < n → V.cell? ⟨b, o + j * 2, none⟩ = some (.int .i32 (xO xs j).1) ∧ V.cell? ⟨b, o + j * 2 + 1, none⟩ = some (.int .i32 (xO xs j).2)) := fun V hV j hj => by
    have := hx j hj
    exact ⟨(hV.cell (p := ⟨b, o + j * 2, none⟩) hb).trans this.1, (hV.cell (p := ⟨b, o + j * 2 + 1, none⟩) hb).trans this.2⟩
  have HC : Hid (∀ j V, Calls Try.prog 8 #[.agg #[.int .i32 (xO xs j).1, .int .i32 (xO xs j).2]] V fun e w' => e = .returned (.int .i64 (ochk (xO xs j).1 (xO xs j).2)) ∧ Below V.heap.size V w') := fun j V => ocheck_any _ _ V (h32 j)
  obtain ⟨K, hK⟩ := ro_keys
  have HKY : Hid (∀ j, keyOf Try.prog 25 (.agg #[.int .i32 (xO xs j).1, .int .i32 (xO xs j).2]) = some (K (xO xs j))) := fun j => hK.1 _ (h32 j)
  have HHS : Hid (∀ k, Maps.has (roSet K xs k) (K (xO xs k)) = true ↔ Met xs k) := fun k => roSet_has hK xs h32 k
  have HLN := hid hl
  clear hx h32 hb hK hl
  have hmm := @run_makeMap Try.prog
  go_enter Try.func6, Try.ntmps6
  go_wp2_with fail
  go_loopw [17] (fun x wr => ∃ i : Nat, x = .int .i64 (i : Int) ∧ i ≤ n ∧ Hid (∀ j, j < i → rOK (xO xs j).1 (xO xs j).2) ∧ Hid (Below w.heap.size w wr)) (fun x _ => n - (intOf x).toNat)
  case atStart => exact ⟨0, rfl, by omega, (fun j hj => by omega : ∀ j, j < 0 → rOK (xO xs j).1 (xO xs j).2), (Below.refl _ _ : Below w.heap.size w w)⟩
  case round =>
    obtain ⟨i, rfl, hi, HO, HB⟩ := hrel
    by_cases hin : i < n
    · obtain ⟨c0, c1⟩ := HX.out _ HB.out i hin
      have HCi := hid (HC.out i)
      have HRAp : Hid (¬ rOK (xO xs i).1 (xO xs i).2 → RAp xs (i : Int) 150) := fun q => .inl ⟨rfl, i, rfl, by rw [HLN.out]; exact hin, q, HO.out⟩
      obtain ⟨f, hf⟩ : ∃ f, (xO xs i).1 = f := ⟨_, rfl⟩
      obtain ⟨r, hr⟩ : ∃ r, (xO xs i).2 = r := ⟨_, rfl⟩
      have HNX : Hid (rOK f r → ∀ j, j < i + 1 → rOK (xO xs j).1 (xO xs j).2) := fun q j hj => by
        rcases Nat.lt_or_ge j i with g | g
        · exact HO.out j g
        · obtain rfl : j = i := by omega
          rw [hf, hr]; exact q
      rw [hf] at c0 HCi HRAp
      rw [hr] at c1 HCi HRAp
      clear hf hr
      obtain ⟨A0, A1, q0, q1, ⟨r0, r1⟩, ⟨f0, f1⟩, HA⟩ := robox wr f r
      have k0 : A1.cell? ⟨wr.heap.size, 0, none⟩ = some (.int .i32 f) := HA.out.1.cell 0
      have k1 : A1.cell? ⟨wr.heap.size, 1, none⟩ = some (.int .i32 r) := HA.out.1.cell 1
      have HD := hid (HCi.out A1)
      have hi0 : (0 : Int) ≤ (i : Int) := by omega
      have hi1 : (i : Int) < (n : Int) := by omega
      go_wp2_with fail
      clear q0 q1 r0 r1 f0 f1 k0 k1 c0 c1
      refine Calls.mono HD.out ?_
      rintro e w1 ⟨rfl, hb1⟩
      have HB1 := hid (bt HB.out (bt HA.out.2.1 hb1))
      clear HD HCi hb1 HA
      rcases ochk_or f r with ⟨e0, h0⟩ | ⟨e0, h0⟩
      · rw [e0]
        have HN := hid (HNX.out h0)
        clear e0 HNX HRAp
        go_wp2_with fail
        go_roundw
        case rel => exact ⟨i + 1, by go_num, by omega, HN, HB1⟩
        case measure => simp [intOf]; omega
      · rw [e0]
        have HR := hid (HRAp.out h0)
        clear e0 HNX HRAp
        go_wp2_with fail
        refine bodyPost_ret (v := .tuple #[.int .i64 (i : Int), .int .i64 150]) (by simp [results, Try.results6, go_sem]) rfl ?_
        exact ⟨_, _, rfl, HR.out, HB1.out⟩
    · obtain rfl : i = n := by omega
      obtain ⟨wm, hwm⟩ : ∃ wm : World, wm = wr := ⟨_, rfl⟩
      subst hwm
      have hnin : ¬ (i : Int) < (i : Int) := by omega
      have HM0 : Hid ((wm.alloc (.map #[] 0)).ownsMap Try.prog 25 (unitElem (H := Unit)) wm.heap.size 0 (roSet K xs 0)) := by rw [roSet_zero]; exact World.ownsMap_made _ _ _ _
      have HB0 : Hid (Below w.heap.size w (wm.alloc (.map #[] 0))) := bt HB.out (alloc_later _ _)
      have hsz := HB.out.size
      go_wp2_with fail
      go_loopw [32] (fun x wr => ∃ j : Nat, x = .int .i64 (j : Int) ∧ j ≤ i ∧ Hid (∀ k, k < j → ¬ Met xs k) ∧ Hid (wr.ownsMap Try.prog 25 (unitElem (H := Unit)) wm.heap.size j (roSet K xs j)) ∧ Hid (Below w.heap.size w wr)) (fun x _ => i - (intOf x).toNat)
      case atStart => exact ⟨0, rfl, by omega, (fun k hk => by omega : ∀ k, k < 0 → ¬ Met xs k), HM0, HB0⟩
      case round =>
        obtain ⟨j, rfl, hj, HN, HM, HBq⟩ := hrel
        by_cases hjn : j < i
        · obtain ⟨c0, c1⟩ := HX.out _ HBq.out j hjn
          have HKj := hid (HKY.out j)
          have HHj := hid (HHS.out j)
          have HSU : Hid (roSet K xs (j + 1) = (roSet K xs j).put (K (xO xs j)) (.agg [])) := roSet_succ K xs j
          obtain ⟨f, hf⟩ : ∃ f, (xO xs j).1 = f := ⟨_, rfl⟩
          obtain ⟨r, hr⟩ : ∃ r, (xO xs j).2 = r := ⟨_, rfl⟩
          rw [hf] at c0 HKj
          rw [hr] at c1 HKj
          clear hf hr
          obtain ⟨kl, hkl⟩ : ∃ kl, K (xO xs j) = kl := ⟨_, rfl⟩
          rw [hkl] at HKj HHj HSU
          clear hkl
          obtain ⟨A0, A1, q0, q1, ⟨r0, r1⟩, ⟨f0, f1⟩, HA⟩ := robox wr f r
          have k0 : A1.cell? ⟨wr.heap.size, 0, none⟩ = some (.int .i32 f) := HA.out.1.cell 0
          have k1 : A1.cell? ⟨wr.heap.size, 1, none⟩ = some (.int .i32 r) := HA.out.1.cell 1
          have HMA := hid (roMap_later HM.out HA.out.2.1)
          have HBA := hid (bt HBq.out HA.out.2.1)
          have hi0 : (0 : Int) ≤ (j : Int) := by omega
          have hi1 : (j : Int) < (i : Int) := by omega
          have hAs := HBA.out.size
          by_cases hm : Met xs j
          · have hh : Maps.has (roSet K xs j) kl = true := HHj.out.2 hm
            have HR : Hid (RAp xs (j : Int) 0) := .inr ⟨rfl, fun k hk => HO.out k (by rw [← HLN.out]; exact hk), .inl ⟨j, rfl, by rw [HLN.out]; exact hjn, hm, HN.out⟩⟩
            clear HHj hm HSU HN HM
            go_wp2_with (first
              | (at_lookup; refine wpList_lookup_own_unit _ rfl _ _ 46 rfl 25 47 rolaw Try.underlying46 (rozero _) wm.heap.size j _ rfl HMA.out _ _ rfl HKj.out ?_)
              | go_in)
            refine bodyPost_ret (v := .tuple #[.int .i64 (j : Int), .int .i64 0]) (by simp [results, Try.results6, go_sem]) rfl ?_
            exact ⟨_, _, rfl, HR.out, bt HBA.out (alloc_later _ _)⟩
          · have hh : Maps.has (roSet K xs j) kl = false := by
              cases e : Maps.has (roSet K xs j) kl
              · rfl
              · exact absurd (HHj.out.1 e) hm
            have HN1 : Hid (∀ k, k < j + 1 → ¬ Met xs k) := fun k hk => by
              rcases Nat.lt_or_ge k j with g | g
              · exact HN.out k g
              · obtain rfl : k = j := by omega
                exact hm
            have k0' : (A1.alloc (.cells #[] 47)).cell? ⟨wr.heap.size, 0, none⟩ = some (.int .i32 f) := ((HA.out.1.later (alloc_later _ _) HA.out.1.lt) : Box (A1.alloc (.cells #[] 47)) _ _ _).cell 0
            have k1' : (A1.alloc (.cells #[] 47)).cell? ⟨wr.heap.size, 1, none⟩ = some (.int .i32 r) := ((HA.out.1.later (alloc_later _ _) HA.out.1.lt) : Box (A1.alloc (.cells #[] 47)) _ _ _).cell 1
            clear HHj hm HN HM
            go_wp2_with (first
              | (at_lookup; refine wpList_lookup_own_unit _ rfl _ _ 46 rfl 25 47 rolaw Try.underlying46 (rozero _) wm.heap.size j _ rfl HMA.out _ _ rfl HKj.out ?_)
              | (at_mapUpdate; refine wpList_mapUpdate_own _ rfl _ _ _ 46 rfl 25 47 rolaw Try.underlying46 (unitElem (H := Unit)) wm.heap.size j _ rfl (HMA.out.alloc _) (by unfold maxLen; omega) _ _ _ rfl rfl HKj.out _ [] unitElem_mk ?_; intro w1 hown1 hgrow1)
              | go_in)
            rw [← HSU.out] at hown1
            have HB1 : Hid (Below w.heap.size w w1) := (bt HBA.out (alloc_later A1 _)).grown hgrow1 (by simp; omega) (fun k hk => by cases hk; exact hsz)
            have HM1 := hid hown1
            clear hown1 hgrow1 k0' k1'
            go_roundw
            case rel => exact ⟨j + 1, by go_num, by omega, HN1, HM1, HB1⟩
            case measure => simp [intOf]; omega
        · obtain rfl : j = i := by omega
          have hnin2 : ¬ (j : Int) < (j : Int) := by omega
          have HR : Hid (RAp xs (-1) 0) := .inr ⟨rfl, fun k hk => HO.out k (by rw [← HLN.out]; exact hk), .inr ⟨rfl, fun k hk => HN.out k (by rw [← HLN.out]; exact hk)⟩⟩
          go_wp2_with fail
          refine bodyPost_ret (v := .tuple #[.int .i64 (-1), .int .i64 0]) (by simp [results, Try.results6, go_sem]) rfl ?_
          exact ⟨_, _, rfl, HR.out, HBq.out⟩
end Go.Proofs.Ytkkehddpblkegaa

/- A list of rotors that came in is read. -/
namespace Go.Proofs.Ytkkehddpblkegaa
open Go.RowKit Go.ChangeShapes Go.WideShapes Go.Deep
set_option linter.unusedVariables false

/-- A list of rotors in memory. -/
def RdO (w : World) (a : Option Addr) (len : Nat) (xs : List (Int × Int)) : Prop := xs.length = len ∧ (∀ j, in32 (xO xs j).1 (xO xs j).2) ∧ (len = 0 ∨ ∃ b o, a = some ⟨b, o, none⟩ ∧ b < w.heap.size ∧ ∀ j, j < len → w.cell? ⟨b, o + j * 2, none⟩ = some (.int .i32 (xO xs j).1) ∧ w.cell? ⟨b, o + j * 2 + 1, none⟩ = some (.int .i32 (xO xs j).2))
theorem ro_cell_block {w : World} {b o : Nat} {v : Value} (h : w.cell? ⟨b, o, none⟩ = some v) : b < w.heap.size := by
  apply Nat.lt_of_not_le
  intro hb
  simp [World.cell?, Array.getElem?_eq_none hb] at h
theorem ro_choose {α : Type} {n : Nat} {p : Nat → α → Prop} [Inhabited α] (h : ∀ i, i < n → ∃ a, p i a) : ∃ q : Nat → α, ∀ i, i < n → p i (q i) :=
  ⟨fun i => if hi : i < n then (h i hi).choose else default, fun i hi => by dsimp only; rw [dif_pos hi]; exact (h i hi).choose_spec⟩
theorem rol_of_trod {H : Type} {enc : TypeId × Value → H} {P : Program} {w : World} {held : Bool} {t e : TypeId} {f0 f1 : Field} {n : Nat} {v : Value} {x : DataW H × List MemPlace} (ht : P.underlying t = some (.slice e)) (he : P.underlying e = some (.struct #[f0, f1])) (ce : P.cellsOf e = 2)
    (o0 : f0.offset = 0) (o1 : f1.offset = 1) (c0 : P.cellsOf f0.type = 1) (c1 : P.cellsOf f1.type = 1) (u0 : P.underlying f0.type = some (.int .i32)) (u1 : P.underlying f1.type = some (.int .i32))
    (h : DataW.trod enc P w 0 (fun _ => true) held n t [v] = some x) :
    ∃ a len cap xs, v = .slice a len cap ∧ len ≤ cap ∧ cap ≤ maxLen ∧ (a = none → len = 0 ∧ cap = 0) ∧ RdO w a len xs := by
  have z32 : in32 0 0 := by unfold in32; omega
  rcases open_slice ht h with ⟨h0, _⟩ | ⟨a, len, cap, m, k, Dt, Pl, hcs, _, hl, hm, hmm, hx, hel⟩
  · simp at h0
    exact ⟨none, 0, 0, [], h0, Nat.le_refl _, Nat.zero_le _, fun _ => ⟨rfl, rfl⟩, rfl, fun j => z32, .inl rfl⟩
  · simp at hcs
    rw [ce] at hel
    have hlm : len ≤ m := by rw [hmm]; split <;> omega
    have each : ∀ i, i < len → ∃ q : Int × Int, w.cells? 0 (a.add (i * 2)) 2 = some [.int .i32 q.1, .int .i32 q.2] ∧ in32 q.1 q.2 := by
      intro i hi
      obtain ⟨cs, h1, h2⟩ := hel i (by omega)
      obtain ⟨ys, k', hk, hxy, hcl, hxl, hf⟩ := DataW.trod_struct he h2
      rw [ce] at hcl
      match ys, hxl, cs, hcl with
      | [y0, y1], _, [v0, v1], _ =>
        have g0 := hf 0 f0 rfl
        have g1 := hf 1 f1 rfl
        simp [o0, o1, c0, c1] at g0 g1
        obtain ⟨p, hp, _, wp⟩ := DataW.trod_int u0 g0
        obtain ⟨q, hq, _, wq⟩ := DataW.trod_int u1 g1
        simp at hp hq
        subst hp hq
        refine ⟨(p, q), h1, ?_⟩
        have kk : ∀ z : Int, (Lit.int .i32 z).wf = true → -2147483648 ≤ z ∧ z ≤ 2147483647 := fun z h => by
          simp [Lit.wf, Bool.and_eq_true] at h
          exact h
        exact ⟨kk _ wp, kk _ wq⟩
    obtain ⟨q, hq⟩ := ro_choose each
    have hxo : ∀ j, j < len → xO ((List.range len).map q) j = q j := fun j hj => by
      unfold xO
      rw [List.getElem?_map, List.getElem?_range hj]
      rfl
    have hxz : ∀ j, ¬ j < len → xO ((List.range len).map q) j = (0, 0) := fun j hj => by
      unfold xO
      rw [List.getElem?_eq_none (by simp; omega)]
      rfl
    refine ⟨some a, len, cap, (List.range len).map q, hcs, hl, hm, (fun h => by cases h), by simp, fun j => ?_, ?_⟩
    · by_cases hj : j < len
      · rw [hxo j hj]; exact (hq j hj).2
      · rw [hxz j hj]; exact z32
    · by_cases hz : len = 0
      · exact .inl hz
      right
      obtain ⟨b, o, spot⟩ := a
      have hs : spot = none := by
        obtain ⟨_, _, hc⟩ := World.cells?_some (hq 0 (by omega)).1
        have e0 := hc 0 (by omega)
        simpa [Addr.add] using World.cell?_spot e0
      subst hs
      have cells : ∀ j, j < len → w.cell? ⟨b, o + j * 2, none⟩ = some (.int .i32 (q j).1) ∧ w.cell? ⟨b, o + j * 2 + 1, none⟩ = some (.int .i32 (q j).2) := by
        intro j hj
        obtain ⟨_, _, hc⟩ := World.cells?_some (hq j hj).1
        have e0 := hc 0 (by omega)
        have e1 := hc 1 (by omega)
        rw [Addr.add_add, Addr.add_lit] at e0 e1
        rw [show o + (j * 2 + 1) = o + j * 2 + 1 by omega] at e1
        exact ⟨by simpa using e0, by simpa using e1⟩
      refine ⟨b, o, rfl, ro_cell_block (cells 0 (by omega)).1, fun j hj => ?_⟩
      rw [hxo j hj]
      exact cells j hj
end Go.Proofs.Ytkkehddpblkegaa

/- Lists of rotors: Apart of both sides, of every list; a row of rotors, cell by cell. -/
namespace Go.Proofs.Ytkkehddpblkegaa
open Go.RowKit Go.Maps
set_option linter.unusedVariables false
set_option linter.unusedSimpArgs false

/-- The cells of a row of rotors. -/
def roC (xs : List (Int × Int)) : List Value := xs.flatMap fun q => [.int .i32 q.1, .int .i32 q.2]
theorem roC_len (xs : List (Int × Int)) : (roC xs).length = xs.length * 2 := by
  unfold roC
  induction xs with
  | nil => rfl
  | cons q xs ih => rw [List.flatMap_cons, List.length_append, ih]; simp; omega
theorem roC_app (xs ys : List (Int × Int)) : roC (xs ++ ys) = roC xs ++ roC ys := by
  unfold roC; rw [List.flatMap_append]
theorem roC_one : ∀ xs, ∀ u ∈ roC xs, u.oneCell' = true := by
  intro xs u hu
  unfold roC at hu
  obtain ⟨q, _, hq⟩ := List.mem_flatMap.1 hu
  simp at hq
  rcases hq with rfl | rfl <;> rfl
theorem roC_get : ∀ (xs : List (Int × Int)) (j : Nat), j < xs.length → (roC xs)[j * 2]? = some (.int .i32 (xO xs j).1) ∧ (roC xs)[j * 2 + 1]? = some (.int .i32 (xO xs j).2)
  | [], j, h => by simp at h
  | q :: xs, 0, h => ⟨rfl, rfl⟩
  | q :: xs, j + 1, h => by
    have ih := roC_get xs j (by simpa using h)
    have e : roC (q :: xs) = .int .i32 q.1 :: .int .i32 q.2 :: roC xs := by unfold roC; rw [List.flatMap_cons]; rfl
    have ex : xO (q :: xs) (j + 1) = xO xs j := by unfold xO; rw [List.getElem?_cons_succ]
    rw [e, ex, show (j + 1) * 2 = j * 2 + 1 + 1 by omega, List.getElem?_cons_succ, List.getElem?_cons_succ, List.getElem?_cons_succ, List.getElem?_cons_succ]
    exact ih
theorem roC_news {w : World} {b o n : Nat} {xs : List (Int × Int)} (hl : xs.length = n) (hx : ∀ j, j < n → w.cell? ⟨b, o + j * 2, none⟩ = some (.int .i32 (xO xs j).1) ∧ w.cell? ⟨b, o + j * 2 + 1, none⟩ = some (.int .i32 (xO xs j).2)) : ∀ j u, (roC xs)[j]? = some u → w.cell? ((⟨b, o, none⟩ : Addr).add j) = some u := by
  intro j u h
  have hj : j < n * 2 := by have := (List.getElem?_eq_some_iff.1 h).1; rw [roC_len, hl] at this; exact this
  rw [Addr.add_lit]
  rcases Nat.mod_two_eq_zero_or_one j with g | g
  · obtain ⟨k, rfl⟩ : ∃ k, j = k * 2 := ⟨j / 2, by omega⟩
    rw [(hx k (by omega)).1, ← h, (roC_get xs k (by omega)).1]
  · obtain ⟨k, rfl⟩ : ∃ k, j = k * 2 + 1 := ⟨j / 2, by omega⟩
    rw [← Nat.add_assoc, (hx k (by omega)).2, ← h, (roC_get xs k (by omega)).2]
theorem ro_later {w w' : World} {base e n s : Nat} {v : Value} {xs : List Value} (h : w.ownsRow base e s v n xs) (hb : Below w.heap.size w w') : w'.ownsRow base e s v n xs := by
  refine ⟨h.1, h.2.imp id ?_⟩
  rintro ⟨g, cap, cur, rfl, hbg, hg, h1, h2, h3, h4⟩
  refine ⟨g, cap, cur, rfl, hbg, ?_, h1, h2, h3, h4⟩
  rw [hb.block g (by
    have : w.heap[g]?.isSome := by rw [hg]; rfl
    simpa using this)]
  exact hg
/-- What Apart tells of any list. -/
def RAq (xs : List (Int × Int)) (v c : Int) : Prop := (xs.length ≤ 64 ∧ RAp xs v c) ∨ (64 < xs.length ∧ v = 0 ∧ c = 3)
theorem RAq.one {xs : List (Int × Int)} {v c v' c' : Int} (h : RAq xs v c) (h' : RAq xs v' c') : v = v' ∧ c = c' := by
  rcases h with ⟨l, h⟩ | ⟨l, h1, h2⟩ <;> rcases h' with ⟨l', h'⟩ | ⟨l', h1', h2'⟩
  · exact h.one h'
  · omega
  · omega
  · exact ⟨h1.trans h1'.symm, h2.trans h2'.symm⟩

set_option maxHeartbeats 800000 in
set_option maxRecDepth 100000 in
theorem oapart_long (a : Option Addr) (n cap : Nat) (w : World) (hn : 64 < n) (hm : n ≤ 9223372036854775807) :
    Calls Try.prog 6 #[.slice a n cap] w fun e w' => e = .returned (.tuple #[.int .i64 0, .int .i64 3]) ∧ Below w.heap.size w w' := by
  have h1 : (64 : Int) < (n : Int) := by omega
  go_enter Try.func6, Try.ntmps6
  go_wp2_with fail
  refine bodyPost_ret (v := .tuple #[.int .i64 0, .int .i64 3]) (by simp [results, Try.results6, go_sem]) rfl ?_
  exact ⟨rfl, Below.refl _ _⟩
set_option maxHeartbeats 800000 in
set_option maxRecDepth 100000 in
theorem papart_none (a : Option Addr) (cap : Nat) (w : World) :
    Calls Try.prog 7 #[.slice a 0 cap] w fun e w' => e = .returned (.tuple #[.int .i64 (-1), .int .i64 0]) ∧ Below w.heap.size w w' := by
  go_enter Try.func7, Try.ntmps7
  go_wp2_with fail
  go_loopw [4] (fun x wr => x = .int .i64 0 ∧ Hid (Below w.heap.size w wr)) (fun _ _ => 0)
  case atStart => exact ⟨rfl, (Below.refl _ _ : Below w.heap.size w w)⟩
  case round =>
    obtain ⟨rfl, HB⟩ := hrel
    go_wp2_with fail
    go_loopw [5] (fun x ws => x = .int .i64 0 ∧ Hid (Below w.heap.size w ws)) (fun _ _ => 0)
    case atStart => exact ⟨rfl, HB⟩
    case round =>
      clear HB
      obtain ⟨rfl, HB⟩ := hrel
      go_wp2_with fail
      refine bodyPost_ret (v := .tuple #[.int .i64 (-1), .int .i64 0]) (by simp [results, Try.results7, go_sem]) rfl ?_
      exact ⟨rfl, HB.out⟩
theorem oapart_q (b o n cap : Nat) (xs : List (Int × Int)) (w : World) (hl : xs.length = n) (h32 : ∀ j, in32 (xO xs j).1 (xO xs j).2) (hb : b < w.heap.size)
    (hx : ∀ j, j < n → w.cell? ⟨b, o + j * 2, none⟩ = some (.int .i32 (xO xs j).1) ∧ w.cell? ⟨b, o + j * 2 + 1, none⟩ = some (.int .i32 (xO xs j).2)) (hn : n ≤ 100) :
    Calls Try.prog 6 #[.slice (some ⟨b, o, none⟩) n cap] w fun e w' => ∃ v c, e = .returned (.tuple #[.int .i64 v, .int .i64 c]) ∧ RAq xs v c ∧ Below w.heap.size w w' := by
  by_cases h : n ≤ 64
  · refine Calls.mono (oapart_ok b o n cap xs w hl h32 hb hx h) ?_
    rintro e w1 ⟨v, c, he, hr, hb⟩
    exact ⟨v, c, he, .inl ⟨by omega, hr⟩, hb⟩
  · refine Calls.mono (oapart_long _ n cap w (by omega) (by omega)) ?_
    rintro e w1 ⟨he, hb⟩
    exact ⟨0, 3, he, .inr ⟨by omega, rfl, rfl⟩, hb⟩
theorem papart_q (a : Option Addr) (n cap : Nat) (xs : List (Int × Int)) (w : World) (h : RdO w a n xs) (hn : n ≤ 100) :
    Calls Try.prog 7 #[.slice a n cap] w fun e w' => ∃ v c, e = .returned (.tuple #[.int .i64 v, .int .i64 c]) ∧ RAq xs v c ∧ Below w.heap.size w w' := by
  obtain ⟨hl, h32, h0⟩ := h
  by_cases hq : 64 < n
  · refine Calls.mono (papart_long _ n cap w (by omega) (by omega)) ?_
    rintro e w1 ⟨he, hb⟩
    exact ⟨0, 3, he, .inr ⟨by omega, rfl, rfl⟩, hb⟩
  rcases h0 with rfl | ⟨b, o, rfl, hb, hx⟩
  · obtain rfl : xs = [] := List.length_eq_zero_iff.1 hl
    refine Calls.mono (papart_none a cap w) ?_
    rintro e w1 ⟨he, hb⟩
    exact ⟨-1, 0, he, .inl ⟨by simp, .inr ⟨rfl, (fun j hj => by simp at hj), .inr ⟨rfl, fun j hj => by simp at hj⟩⟩⟩, hb⟩
  · refine Calls.mono (papart_ok b o n cap xs w hl h32 hb hx (by omega)) ?_
    rintro e w1 ⟨v, c, he, hr, hb⟩
    exact ⟨v, c, he, .inl ⟨by omega, hr⟩, hb⟩
end Go.Proofs.Ytkkehddpblkegaa

/- package rotor: copied, over: the same words in new memory. -/
namespace Go.Proofs.Ytkkehddpblkegaa
open Go.RowKit
set_option linter.unusedVariables false
set_option linter.unusedSimpArgs false

set_option maxHeartbeats 800000 in
set_option maxRecDepth 100000 in
theorem ocopied_any (a : Option Addr) (cap : Nat) (xs : List Int) (w : World) (h : Sl w (.slice a xs.length cap) xs) (hn : xs.length ≤ 1099511627776) :
    Calls Try.prog 37 #[.slice a xs.length cap] w fun e w' => ∃ a' c', e = .returned (.slice a' xs.length c') ∧ w'.ownsRow w.heap.size 45 1 (.slice a' xs.length c') xs.length (xs.map (Value.int .u32)) ∧ Below w.heap.size w w' := by
  obtain ⟨i0, hi, hz0, hz1, hz2⟩ := info_parts Try.infoW
  have hown : w.ownsRow w.heap.size 45 1 (.slice none 0 0) 0 [] := World.ownsRow_nil _ _ _ _
  obtain ⟨ad, c0, e0, hr⟩ := h
  cases e0
  cases a with
  | none =>
    have h0 : cap = 0 := hr.2.2.2.2.2 rfl
    subst h0
    have h1 : xs.length = 0 := by have := hr.2.2.2.1; omega
    have h2 : xs = [] := List.eq_nil_of_length_eq_zero h1
    subst h2
    clear hr
    go_enter Try.func37, Try.ntmps37
    go_wp2_with (at_builtin; refine wpList_append_own_none rfl _ _ 31 rfl w.heap.size 45 i0 1 Try.underlying31 hi _ 0 [] rfl hown rfl ?_)
    go_ret
    exact ⟨none, 0, rfl, hown, Below.refl _ _⟩
  | some ad =>
    have HN := hid (copy_news hr)
    have HLn : Hid ((xs.map (Value.int .u32)).length = xs.length * 1) := by show _ = _; simp
    clear hr
    go_enter Try.func37, Try.ntmps37
    go_wp2_with (at_builtin; refine wpList_append_own _ rfl _ _ 31 rfl w.heap.size 45 i0 (.int .u32 0) 1 4 Try.underlying31 hi hz0 hz1 hz2 rfl (by decide) _ 0 [] rfl hown ad xs.length cap (xs.map (Value.int .u32)) rfl HLn.out HN.out (ints_oneCell _ _) (by unfold maxLen; omega) (by omega) (Nat.le_refl _) ?_)
    intro v' w1 hown' hgrow _
    have hb2 : Below w.heap.size w w1 := (Below.refl w.heap.size w).grown hgrow (Nat.le_refl _) (fun k hk => by simp [Value.ownBlock] at hk)
    have r3 : w1.ownsRow w.heap.size 45 1 v' xs.length (xs.map (Value.int .u32)) := by simpa using hown'
    obtain ⟨a', c', rfl⟩ := own_slice' r3
    clear hown' hgrow
    go_wp2
    go_ret
    exact ⟨a', c', rfl, r3, hb2⟩

set_option maxHeartbeats 1600000 in
set_option maxRecDepth 100000 in
theorem oover_any (n : Bool) (a : Option Addr) (ca : Nat) (xs : List Int) (b : Option Addr) (lb cb : Nat) (m : Bool) (c : Option Addr) (cc : Nat) (us : List Int) (d : Option Addr) (ld cd : Nat) (w : World) (sx : Sl w (.slice a xs.length ca) xs) (su : Sl w (.slice c us.length cc) us) (lx : xs.length ≤ 1099511627776) (lu : us.length ≤ 1099511627776) :
    Calls Try.prog 29 #[.agg #[.bool n, .slice a xs.length ca, .slice b lb cb], .agg #[.bool m, .slice c us.length cc, .slice d ld cd]] w fun e w' => ∃ a1 c1 a2 c2, e = .returned (.agg #[.bool n, .slice a1 xs.length c1, .slice a2 us.length c2]) ∧ (w'.ownsRow w.heap.size 45 1 (.slice a1 xs.length c1) xs.length (xs.map (Value.int .u32)) ∧ w'.ownsRow w.heap.size 45 1 (.slice a2 us.length c2) us.length (us.map (Value.int .u32))) ∧ Below w.heap.size w w' ∧ Cut w (.slice a1 xs.length c1) (.slice a2 us.length c2) w' := by
  have HX := hid (boxes3r w 33 #[.bool n, .slice a xs.length ca, .slice b lb cb] #[.bool m, .slice c us.length cc, .slice d ld cd] #[.bool false, .slice none 0 0, .slice none 0 0])
  obtain ⟨X, hX⟩ : ∃ X, ((w.alloc (.cells #[.bool n, .slice a xs.length ca, .slice b lb cb] 33)).alloc (.cells #[.bool m, .slice c us.length cc, .slice d ld cd] 33)).alloc (.cells #[.bool false, .slice none 0 0, .slice none 0 0] 33) = X := ⟨_, rfl⟩
  rw [hX] at HX
  have HC1 : Hid (∀ V, Below X.heap.size X V → Calls Try.prog 37 #[.slice a xs.length ca] V fun e w' => ∃ a' c', e = .returned (.slice a' xs.length c') ∧ Hid (w'.ownsRow V.heap.size 45 1 (.slice a' xs.length c') xs.length (xs.map (Value.int .u32))) ∧ Hid (Below V.heap.size V w')) := fun V hv => ocopied_any a ca xs V (sx.later (bt HX.out.2.2.2 hv)) lx
  have HC2 : Hid (∀ V, Below X.heap.size X V → Calls Try.prog 37 #[.slice c us.length cc] V fun e w' => ∃ a' c', e = .returned (.slice a' us.length c') ∧ Hid (w'.ownsRow V.heap.size 45 1 (.slice a' us.length c') us.length (us.map (Value.int .u32))) ∧ Hid (Below V.heap.size V w')) := fun V hv => ocopied_any c cc us V (su.later (bt HX.out.2.2.2 hv)) lu
  have HK : Hid (∀ V, Below X.heap.size X V → V.cell? ⟨w.heap.size, 0, none⟩ = some (.bool n) ∧ V.cell? ⟨w.heap.size, 1, none⟩ = some (.slice a xs.length ca) ∧ V.cell? ⟨w.heap.size + 1, 1, none⟩ = some (.slice c us.length cc)) := fun V hv => ⟨(HX.out.1.later hv HX.out.1.lt).cell 0, (HX.out.1.later hv HX.out.1.lt).cell 1, (HX.out.2.1.later hv HX.out.2.1.lt).cell 1⟩
  have HKP : Hid (∀ V, Below X.heap.size X V → ∀ (v0 v1 v2 : Value), ((((V.setCell ⟨w.heap.size + 1 + 1, 0, none⟩ v0).setCell ⟨w.heap.size + 1 + 1, 1, none⟩ v1).setCell ⟨w.heap.size + 1 + 1, 2, none⟩ v2).cell? ⟨w.heap.size, 0, none⟩ = some (.bool n) ∧ (((V.setCell ⟨w.heap.size + 1 + 1, 0, none⟩ v0).setCell ⟨w.heap.size + 1 + 1, 1, none⟩ v1).setCell ⟨w.heap.size + 1 + 1, 2, none⟩ v2).cell? ⟨w.heap.size, 1, none⟩ = some (.slice a xs.length ca) ∧ (((V.setCell ⟨w.heap.size + 1 + 1, 0, none⟩ v0).setCell ⟨w.heap.size + 1 + 1, 1, none⟩ v1).setCell ⟨w.heap.size + 1 + 1, 2, none⟩ v2).cell? ⟨w.heap.size + 1, 1, none⟩ = some (.slice c us.length cc))) := fun V hv v0 v1 v2 => by
    have h := box_far3 (HX.out.1.later hv HX.out.1.lt) (show w.heap.size ≠ w.heap.size + 1 + 1 by omega) v0 v1 v2
    have h' := box_far3 (HX.out.2.1.later hv HX.out.2.1.lt) (show w.heap.size + 1 ≠ w.heap.size + 1 + 1 by omega) v0 v1 v2
    exact ⟨h.cell 0, h.cell 1, h'.cell 1⟩
  have HM : Hid (∀ V, Below X.heap.size X V → V.cell? ⟨w.heap.size + 1 + 1, 0, none⟩ = some (.bool false) ∧ V.cell? ⟨w.heap.size + 1 + 1, 1, none⟩ = some (.slice none 0 0) ∧ V.cell? ⟨w.heap.size + 1 + 1, 2, none⟩ = some (.slice none 0 0) ∧ V.frozen? ⟨w.heap.size + 1 + 1, 0, none⟩ = false ∧ V.frozen? ⟨w.heap.size + 1 + 1, 1, none⟩ = false ∧ V.frozen? ⟨w.heap.size + 1 + 1, 2, none⟩ = false) := fun V hv => by
    have h := HX.out.2.2.1.later hv HX.out.2.2.1.lt
    exact ⟨h.cell 0, h.cell 1, h.cell 2, h.free 0, h.free 1, h.free 2⟩
  have hd0 := hid (Below.refl X.heap.size X).drew
  have hs0 := HK.out _ hd0.out
  clear sx su lx lu
  go_enter Try.func29, Try.ntmps29
  go_wp2_with fail
  go_region_held3 (fun V : World => V.cell? ⟨w.heap.size, 0, none⟩ = some (.bool n) ∧ V.cell? ⟨w.heap.size, 1, none⟩ = some (.slice a xs.length ca) ∧ V.cell? ⟨w.heap.size + 1, 1, none⟩ = some (.slice c us.length cc)) (first | exact hsB | exact hsA | exact hs0 | exact HKP.out _ hbB.out _ _ _)
    (first
      | (go_at_call 37; (with_reducible refine Calls.mono (HC2.out _ hbA.out) ?_); rintro e w2 ⟨a2, c2, rfl, o2, b2⟩; have hbB := hid (bt hbA.out b2.out); have hsB := HK.out _ hbB.out; obtain ⟨m0, m1, m2, f0, f1, f2⟩ := HM.out _ hbB.out)
      | (go_at_call 37; (with_reducible refine Calls.mono (HC1.out _ hd0.out) ?_); rintro e w1 ⟨a1, c1, rfl, o1, b1⟩; have hbA := hid (bt hd0.out b1.out); have hsA := HK.out _ hbA.out))
  have HBX := hid (HX.out.2.2.1.later hbB.out HX.out.2.2.1.lt)
  have HBW := hid (bt HX.out.2.2.2 hbB.out)
  have HO1 := hid (owns_later o1.out b2.out)
  have HO2 := hid o2.out
  have HL1 : Hid (Lies (.slice a1 xs.length c1) w.heap.size w1.heap.size) := fun g hg => ⟨Nat.le_trans HX.out.2.2.2.size (o1.out.lt g hg).1, (o1.out.lt g hg).2⟩
  have HL2 : Hid (Lies (.slice a2 us.length c2) w1.heap.size w2.heap.size) := fun g hg => ⟨(o2.out.lt g hg).1, (o2.out.lt g hg).2⟩
  have hXs : w.heap.size + 1 + 1 < X.heap.size := HX.out.2.2.1.lt
  have h1s : X.heap.size ≤ w1.heap.size := hbA.out.size
  have h2s : w1.heap.size ≤ w2.heap.size := b2.out.size
  have hwX : w.heap.size ≤ X.heap.size := HX.out.2.2.2.size
  clear hs0 hsA hsB hd0 o1 o2 b1 b2 hbA hbB HK HKP HM HC1 HC2
  go_wp2_with fail
  have B1 := box_put3 HBX.out (.bool n) (.slice a1 xs.length c1) (.slice a2 us.length c2)
  have e1 : ∀ g, (Value.slice a1 xs.length c1).ownBlock = some g → g ≠ w.heap.size + 1 + 1 := fun g hg => by have := (HO1.out.lt g hg).1; have e : X.drew.heap.size = X.heap.size := rfl; omega
  have e2 : ∀ g, (Value.slice a2 us.length c2).ownBlock = some g → g ≠ w.heap.size + 1 + 1 := fun g hg => by have := (HO2.out.lt g hg).1; omega
  have V1 := own_put3' HO1.out _ e1 (.bool n) (.slice a1 xs.length c1) (.slice a2 us.length c2)
  have U1 := own_put3' HO2.out _ e2 (.bool n) (.slice a1 xs.length c1) (.slice a2 us.length c2)
  refine bodyPost_ret (results_cell_row (by rfl) _ _ (w.heap.size + 1 + 1) 33 _ (0, 0) _ (by rfl) B1 Try.underlying33 rfl (by kernel_rfl)) rfl ?_
  refine ⟨a1, c1, a2, c2, rfl, ⟨owns_base V1 hwX, owns_base U1 (by omega)⟩, below_put3 HBW.out _ (by omega) _ _ _, ?_⟩
  exact ⟨w1.heap.size, by omega, by simp [World.setCell]; omega, HL1.out, fun g hg => ⟨(HL2.out g hg).1, by have := (HL2.out g hg).2; simp [World.setCell]; omega⟩⟩

/-- number: the complex fraction of a power in two pieces, in new memory. -/
def ONum (w : World) (g h : G6) (x : Ending) (w' : World) : Prop := ∃ a1 c1 a2 c2 a3 c3 a4 c4, x = .returned (.agg #[.bool g.n, .slice a1 g.xs.length c1, .slice a2 h.xs.length c2, .bool g.m, .slice a3 g.us.length c3, .slice a4 h.xs.length c4]) ∧ Hid (w'.ownsRow w.heap.size 45 1 (.slice a1 g.xs.length c1) g.xs.length (g.xs.map (Value.int .u32)) ∧ w'.ownsRow w.heap.size 45 1 (.slice a2 h.xs.length c2) h.xs.length (h.xs.map (Value.int .u32)) ∧ w'.ownsRow w.heap.size 45 1 (.slice a3 g.us.length c3) g.us.length (g.us.map (Value.int .u32)) ∧ w'.ownsRow w.heap.size 45 1 (.slice a4 h.xs.length c4) h.xs.length (h.xs.map (Value.int .u32))) ∧ Hid (Below w.heap.size w w') ∧ Hid (∃ W1, Cut w (.slice a1 g.xs.length c1) (.slice a2 h.xs.length c2) W1 ∧ Cut W1 (.slice a3 g.us.length c3) (.slice a4 h.xs.length c4) w')
set_option maxHeartbeats 3200000 in
set_option maxRecDepth 100000 in
theorem onumber_any (g h : G6) (w : World) (sg1 : Sl w (.slice g.a g.xs.length g.ca) g.xs) (sg2 : Sl w (.slice g.c g.us.length g.cc) g.us) (sh : Sl w (.slice h.a h.xs.length h.ca) h.xs) (lg1 : g.xs.length ≤ 1099511627776) (lg2 : g.us.length ≤ 1099511627776) (lh : h.xs.length ≤ 1099511627776) :
    Calls Try.prog 19 #[.agg #[.bool g.n, .slice g.a g.xs.length g.ca, .slice g.b g.ys.length g.cb, .bool g.m, .slice g.c g.us.length g.cc, .slice g.d g.vs.length g.cd, .bool h.n, .slice h.a h.xs.length h.ca, .slice h.b h.ys.length h.cb, .bool h.m, .slice h.c h.us.length h.cc, .slice h.d h.vs.length h.cd]] w (ONum w g h) := by
  obtain ⟨X, hX⟩ : ∃ X, (w.alloc (.cells #[.bool g.n, .slice g.a g.xs.length g.ca, .slice g.b g.ys.length g.cb, .bool g.m, .slice g.c g.us.length g.cc, .slice g.d g.vs.length g.cd, .bool h.n, .slice h.a h.xs.length h.ca, .slice h.b h.ys.length h.cb, .bool h.m, .slice h.c h.us.length h.cc, .slice h.d h.vs.length h.cd] 52)).alloc (.cells #[.bool false, .slice none 0 0, .slice none 0 0, .bool false, .slice none 0 0, .slice none 0 0] 35) = X := ⟨_, rfl⟩
  have HB : Hid (Below w.heap.size w X) := by rw [← hX]; exact bt (alloc_later _ _) (alloc_later _ _)
  have HP : Hid (Box X w.heap.size 52 #[.bool g.n, .slice g.a g.xs.length g.ca, .slice g.b g.ys.length g.cb, .bool g.m, .slice g.c g.us.length g.cc, .slice g.d g.vs.length g.cd, .bool h.n, .slice h.a h.xs.length h.ca, .slice h.b h.ys.length h.cb, .bool h.m, .slice h.c h.us.length h.cc, .slice h.d h.vs.length h.cd]) := by rw [← hX]; exact (Box.made w _ _).later (alloc_later _ _) (Box.made w _ _).lt
  have HZ : Hid (Box X (w.heap.size + 1) 35 #[.bool false, .slice none 0 0, .slice none 0 0, .bool false, .slice none 0 0, .slice none 0 0]) := by
    have q := Box.made (w.alloc (.cells #[.bool g.n, .slice g.a g.xs.length g.ca, .slice g.b g.ys.length g.cb, .bool g.m, .slice g.c g.us.length g.cc, .slice g.d g.vs.length g.cd, .bool h.n, .slice h.a h.xs.length h.ca, .slice h.b h.ys.length h.cb, .bool h.m, .slice h.c h.us.length h.cc, .slice h.d h.vs.length h.cd] 52)) 35 #[.bool false, .slice none 0 0, .slice none 0 0, .bool false, .slice none 0 0, .slice none 0 0]
    rw [show (w.alloc (.cells #[.bool g.n, .slice g.a g.xs.length g.ca, .slice g.b g.ys.length g.cb, .bool g.m, .slice g.c g.us.length g.cc, .slice g.d g.vs.length g.cd, .bool h.n, .slice h.a h.xs.length h.ca, .slice h.b h.ys.length h.cb, .bool h.m, .slice h.c h.us.length h.cc, .slice h.d h.vs.length h.cd] 52)).heap.size = w.heap.size + 1 by simp, hX] at q
    exact q
  have HK : Hid (∀ V, Below X.heap.size X V → V.cell? ⟨w.heap.size, 0, none⟩ = some (.bool g.n) ∧ V.cell? ⟨w.heap.size, 1, none⟩ = some (.slice g.a g.xs.length g.ca) ∧ V.cell? ⟨w.heap.size, 2, none⟩ = some (.slice g.b g.ys.length g.cb) ∧ V.cell? ⟨w.heap.size, 3, none⟩ = some (.bool g.m) ∧ V.cell? ⟨w.heap.size, 4, none⟩ = some (.slice g.c g.us.length g.cc) ∧ V.cell? ⟨w.heap.size, 5, none⟩ = some (.slice g.d g.vs.length g.cd) ∧ V.cell? ⟨w.heap.size, 6, none⟩ = some (.bool h.n) ∧ V.cell? ⟨w.heap.size, 7, none⟩ = some (.slice h.a h.xs.length h.ca) ∧ V.cell? ⟨w.heap.size, 8, none⟩ = some (.slice h.b h.ys.length h.cb)) := fun V hv => by
    have q := HP.out.later hv HP.out.lt
    exact ⟨q.cell 0, q.cell 1, q.cell 2, q.cell 3, q.cell 4, q.cell 5, q.cell 6, q.cell 7, q.cell 8⟩
  have HKB : Hid (∀ V, Box V w.heap.size 52 #[.bool g.n, .slice g.a g.xs.length g.ca, .slice g.b g.ys.length g.cb, .bool g.m, .slice g.c g.us.length g.cc, .slice g.d g.vs.length g.cd, .bool h.n, .slice h.a h.xs.length h.ca, .slice h.b h.ys.length h.cb, .bool h.m, .slice h.c h.us.length h.cc, .slice h.d h.vs.length h.cd] → V.cell? ⟨w.heap.size, 0, none⟩ = some (.bool g.n) ∧ V.cell? ⟨w.heap.size, 1, none⟩ = some (.slice g.a g.xs.length g.ca) ∧ V.cell? ⟨w.heap.size, 2, none⟩ = some (.slice g.b g.ys.length g.cb) ∧ V.cell? ⟨w.heap.size, 3, none⟩ = some (.bool g.m) ∧ V.cell? ⟨w.heap.size, 4, none⟩ = some (.slice g.c g.us.length g.cc) ∧ V.cell? ⟨w.heap.size, 5, none⟩ = some (.slice g.d g.vs.length g.cd) ∧ V.cell? ⟨w.heap.size, 6, none⟩ = some (.bool h.n) ∧ V.cell? ⟨w.heap.size, 7, none⟩ = some (.slice h.a h.xs.length h.ca) ∧ V.cell? ⟨w.heap.size, 8, none⟩ = some (.slice h.b h.ys.length h.cb)) := fun V q => ⟨q.cell 0, q.cell 1, q.cell 2, q.cell 3, q.cell 4, q.cell 5, q.cell 6, q.cell 7, q.cell 8⟩
  have HV1 : Hid (∀ V, Below X.heap.size X V → Calls Try.prog 29 #[.agg #[.bool g.n, .slice g.a g.xs.length g.ca, .slice g.b g.ys.length g.cb], .agg #[.bool h.n, .slice h.a h.xs.length h.ca, .slice h.b h.ys.length h.cb]] V fun e w' => ∃ a1 c1 a2 c2, e = .returned (.agg #[.bool g.n, .slice a1 g.xs.length c1, .slice a2 h.xs.length c2]) ∧ Hid ((w'.ownsRow V.heap.size 45 1 (.slice a1 g.xs.length c1) g.xs.length (g.xs.map (Value.int .u32)) ∧ w'.ownsRow V.heap.size 45 1 (.slice a2 h.xs.length c2) h.xs.length (h.xs.map (Value.int .u32))) ∧ Below V.heap.size V w' ∧ Cut V (.slice a1 g.xs.length c1) (.slice a2 h.xs.length c2) w')) := fun V hv => by
    refine Calls.mono (oover_any _ _ _ _ _ _ _ _ _ _ _ _ _ _ V (sg1.later (bt HB.out hv)) (sh.later (bt HB.out hv)) lg1 lh) ?_
    rintro e w' ⟨a1, c1, a2, c2, rfl, ho, hb, hc⟩
    exact ⟨a1, c1, a2, c2, rfl, ho, hb, hc⟩
  have HV2 : Hid (∀ V, Below X.heap.size X V → Calls Try.prog 29 #[.agg #[.bool g.m, .slice g.c g.us.length g.cc, .slice g.d g.vs.length g.cd], .agg #[.bool h.n, .slice h.a h.xs.length h.ca, .slice h.b h.ys.length h.cb]] V fun e w' => ∃ a1 c1 a2 c2, e = .returned (.agg #[.bool g.m, .slice a1 g.us.length c1, .slice a2 h.xs.length c2]) ∧ Hid ((w'.ownsRow V.heap.size 45 1 (.slice a1 g.us.length c1) g.us.length (g.us.map (Value.int .u32)) ∧ w'.ownsRow V.heap.size 45 1 (.slice a2 h.xs.length c2) h.xs.length (h.xs.map (Value.int .u32))) ∧ Below V.heap.size V w' ∧ Cut V (.slice a1 g.us.length c1) (.slice a2 h.xs.length c2) w')) := fun V hv => by
    refine Calls.mono (oover_any _ _ _ _ _ _ _ _ _ _ _ _ _ _ V (sg2.later (bt HB.out hv)) (sh.later (bt HB.out hv)) lg2 lh) ?_
    rintro e w' ⟨a1, c1, a2, c2, rfl, ho, hb, hc⟩
    exact ⟨a1, c1, a2, c2, rfl, ho, hb, hc⟩
  have hd0 := hid (Below.refl X.heap.size X).drew
  have hs0 := HK.out _ hd0.out
  have hsz := HB.out.size
  clear sg1 sg2 sh lg1 lg2 lh
  go_enter Try.func19, Try.ntmps19
  go_wp2_with fail
  go_region_held3 (fun V : World => V.cell? ⟨w.heap.size, 0, none⟩ = some (.bool g.n) ∧ V.cell? ⟨w.heap.size, 1, none⟩ = some (.slice g.a g.xs.length g.ca) ∧ V.cell? ⟨w.heap.size, 2, none⟩ = some (.slice g.b g.ys.length g.cb) ∧ V.cell? ⟨w.heap.size, 3, none⟩ = some (.bool g.m) ∧ V.cell? ⟨w.heap.size, 4, none⟩ = some (.slice g.c g.us.length g.cc) ∧ V.cell? ⟨w.heap.size, 5, none⟩ = some (.slice g.d g.vs.length g.cd) ∧ V.cell? ⟨w.heap.size, 6, none⟩ = some (.bool h.n) ∧ V.cell? ⟨w.heap.size, 7, none⟩ = some (.slice h.a h.xs.length h.ca) ∧ V.cell? ⟨w.heap.size, 8, none⟩ = some (.slice h.b h.ys.length h.cb)) (first | exact hsC | exact hsB | exact hsA | exact hs0)
    (first
      | (go_at_call 29; (with_reducible refine Calls.mono (HV2.out _ hbA.out) ?_); rintro e w2 ⟨a3, c3, a4, c4, rfl, ho2⟩; have hbB := hid (bt hbA.out ho2.out.2.1); have hsB := HK.out _ hbB.out; obtain ⟨A0, A1, A2, A3, A4, A5, k0, k1, k2, k3, k4, k5, ⟨r0, r1, r2, r3, r4, r5⟩, ⟨f0, f1, f2, f3, f4, f5⟩, HA5⟩ := rchain6 (HZ.out.later hbB.out HZ.out.lt) (by decide) (.bool g.n) (.slice a1 g.xs.length c1) (.slice a2 h.xs.length c2) (.bool g.m) (.slice a3 g.us.length c3) (.slice a4 h.xs.length c4); have hsC := HKB.out _ (HA5.out.2.1 _ _ _ (by omega) (HP.out.later hbB.out HP.out.lt)))
      | (go_at_call 29; (with_reducible refine Calls.mono (HV1.out _ hd0.out) ?_); rintro e w1 ⟨a1, c1, a2, c2, rfl, ho1⟩; have hbA := hid (bt hd0.out ho1.out.2.1); have hsA := HK.out _ hbA.out))
  have h1 := hbA.out.size
  have h2 := ho2.out.2.1.size
  have h3 := HA5.out.2.2.2.2
  go_wp2_with fail
  refine bodyPost_ret (results_cell_row (by rfl) _ _ (w.heap.size + 1) 35 _ (0, 0) _ (by rfl) HA5.out.1 Try.underlying35 rfl (by kernel_rfl)) rfl ?_
  have b12 := ho2.out.2.1
  have ho2' := ho2.out.1
  refine ⟨a1, c1, a2, c2, a3, c3, a4, c4, rfl, ⟨HA5.out.2.2.1 _ _ _ _ (owns_base (owns_later ho1.out.1.1 b12) hsz), HA5.out.2.2.1 _ _ _ _ (owns_base (owns_later ho1.out.1.2 b12) hsz), HA5.out.2.2.1 _ _ _ _ (owns_base ho2'.1 (by omega)), HA5.out.2.2.1 _ _ _ _ (owns_base ho2'.2 (by omega))⟩, HA5.out.2.2.2.1 _ _ (by omega) (bt HB.out hbB.out), w1, ho1.out.2.2.up hsz (Nat.le_refl _), ho2.out.2.2.up (Nat.le_refl _) (by omega)⟩
end Go.Proofs.Ytkkehddpblkegaa

/- package rotor: first, Of. -/
namespace Go.Proofs.Ytkkehddpblkegaa
open Go.RowKit
set_option linter.unusedVariables false
set_option linter.unusedSimpArgs false

theorem osq (f : Int) (h : f.natAbs ≤ 1000) : 0 ≤ f * f ∧ f * f ≤ 1000000 := by
  have h1 : -1000 ≤ f := by omega
  have h2 : f ≤ 1000 := by omega
  have e : ((f.natAbs * f.natAbs : Nat) : Int) = f * f := Int.natAbs_mul_self
  have h3 : f.natAbs * f.natAbs ≤ 1000 * 1000 := Nat.mul_le_mul h h
  rw [← e]
  omega
theorem opr (f n : Int) (h : f.natAbs ≤ 1000) (g : n.natAbs ≤ 1000) : -1000000 ≤ f * n ∧ f * n ≤ 1000000 := by
  have h3 : (f * n).natAbs ≤ 1000 * 1000 := by rw [Int.natAbs_mul]; exact Nat.mul_le_mul h g
  omega
/-- The number of a rotor, in lowest terms: its parts' Nums, and their Den. -/
def oRe (f n : Int) : Int := if (f * f + n * n) % 2 = 0 then (f * f - n * n) / 2 else f * f - n * n
def oIm (f n : Int) : Int := if (f * f + n * n) % 2 = 0 then f * n else 2 * (f * n)
def oNm (f n : Int) : Int := if (f * f + n * n) % 2 = 0 then (f * f + n * n) / 2 else f * f + n * n

def OFst (w : World) (f n : Int) (x : Ending) (w' : World) : Prop := ∃ g h : G6, x = .returned (.agg #[.bool g.n, .slice g.a g.xs.length g.ca, .slice g.b g.ys.length g.cb, .bool g.m, .slice g.c g.us.length g.cc, .slice g.d g.vs.length g.cd, .bool h.n, .slice h.a h.xs.length h.ca, .slice h.b h.ys.length h.cb, .bool h.m, .slice h.c h.us.length h.cc, .slice h.d h.vs.length h.cd]) ∧ Hid (g.Ow w' w.heap.size ∧ h.Ow w' w.heap.size) ∧ Hid (g.Is (Rat.divInt (oRe f n) 1) (Rat.divInt (oIm f n) 1)) ∧ Hid (h.Is (Rat.divInt (oNm f n) 1) (Rat.divInt 0 1)) ∧ Hid (Below w.heap.size w w')
set_option maxHeartbeats 3200000 in
set_option maxRecDepth 100000 in
theorem ofirst_any (f n : Int) (w : World) (hf : 1 ≤ f ∧ f ≤ 1000) (hn : n.natAbs ≤ 1000) :
    Calls Try.prog 18 #[.agg #[.int .i32 f, .int .i32 n]] w (OFst w f n) := by
  obtain ⟨X, hX⟩ : ∃ X, (w.alloc (.cells #[.int .i32 f, .int .i32 n] 25)).alloc (.cells #[.bool false, .slice none 0 0, .slice none 0 0, .bool false, .slice none 0 0, .slice none 0 0, .bool false, .slice none 0 0, .slice none 0 0, .bool false, .slice none 0 0, .slice none 0 0] 52) = X := ⟨_, rfl⟩
  have HB : Hid (Below w.heap.size w X) := by rw [← hX]; exact bt (alloc_later _ _) (alloc_later _ _)
  have HR : Hid (Box X w.heap.size 25 #[.int .i32 f, .int .i32 n]) := by rw [← hX]; exact (Box.made w _ _).later (alloc_later _ _) (Box.made w _ _).lt
  have HZ : Hid (Box X (w.heap.size + 1) 52 #[.bool false, .slice none 0 0, .slice none 0 0, .bool false, .slice none 0 0, .slice none 0 0, .bool false, .slice none 0 0, .slice none 0 0, .bool false, .slice none 0 0, .slice none 0 0]) := by
    have q := Box.made (w.alloc (.cells #[.int .i32 f, .int .i32 n] 25)) 52 #[.bool false, .slice none 0 0, .slice none 0 0, .bool false, .slice none 0 0, .slice none 0 0, .bool false, .slice none 0 0, .slice none 0 0, .bool false, .slice none 0 0, .slice none 0 0]
    rw [show (w.alloc (.cells #[.int .i32 f, .int .i32 n] 25)).heap.size = w.heap.size + 1 by simp, hX] at q
    exact q
  have k0 : X.cell? ⟨w.heap.size, 0, none⟩ = some (.int .i32 f) := HR.out.cell 0
  have k1 : X.cell? ⟨w.heap.size, 1, none⟩ = some (.int .i32 n) := HR.out.cell 1
  have hF := osq f (by omega)
  have hN := osq n hn
  have hP := opr f n (by omega) hn
  have hn0 : -1000 ≤ n := by omega
  have hn1 : n ≤ 1000 := by omega
  have hQ : 2 * f * n = 2 * (f * n) := Int.mul_assoc 2 f n
  clear hn
  go_enter Try.func18, Try.ntmps18
  go_wp2_with fail
  go_quiet (fail)
  have HBN := hid (bdrewN (Below.refl X.heap.size X) nq)
  generalize X.drewN nq = Y at *
  by_cases hpar : (f * f + n * n) % 2 = 0
  · have hpt : Int.tmod (f * f + n * n) 2 = 0 := by rw [Int.tmod_eq_emod_of_nonneg (by omega)]; exact hpar
    have ht1 : Int.tdiv (f * f - n * n) 2 = (f * f - n * n) / 2 := by
      obtain ⟨k, hk⟩ : ∃ k, f * f - n * n = 2 * k := ⟨(f * f - n * n) / 2, by omega⟩
      rw [hk, Int.mul_tdiv_cancel_left _ (by decide), Int.mul_ediv_cancel_left _ (by decide)]
    have ht2 : Int.tdiv (2 * f * n) 2 = f * n := by rw [hQ, Int.mul_tdiv_cancel_left _ (by decide)]
    have ht3 : Int.tdiv (f * f + n * n) 2 = (f * f + n * n) / 2 := by rw [Int.tdiv_eq_ediv_of_nonneg (by omega)]
    have HC1 := hid (oInt_any ((f * f - n * n) / 2) (f * n) Y (by omega) (by omega) (by omega) (by omega))
    have HC2 := hid (fun V => oInt_any ((f * f + n * n) / 2) 0 V (by omega) (by omega) (by omega) (by omega))
    have E1 : Hid (oRe f n = (f * f - n * n) / 2 ∧ oIm f n = f * n ∧ oNm f n = (f * f + n * n) / 2) := by
      unfold oRe oIm oNm
      exact ⟨by rw [if_pos hpar], by rw [if_pos hpar], by rw [if_pos hpar]⟩
    go_wp2_with fail
    refine Calls.mono HC1.out ?_
    rintro e w1 ⟨g, rfl, hog, hig, hb1⟩
    have HD := hid (HC2.out w1)
    clear HC1 HC2
    go_wp2_with fail
    refine Calls.mono HD.out ?_
    rintro e w2 ⟨h, rfl, hoh, hih, hb2⟩
    clear HD
    have HBB := hid (bt HBN.out (bt hb1.out hb2.out))
    obtain ⟨A0, A1, A2, A3, A4, A5, A6, A7, A8, A9, A10, A11, q0, q1, q2, q3, q4, q5, q6, q7, q8, q9, q10, q11, ⟨r0, r1, r2, r3, r4, r5, r6, r7, r8, r9, r10, r11⟩, ⟨f0, f1, f2, f3, f4, f5, f6, f7, f8, f9, f10, f11⟩, HA⟩ := rchain12 (HZ.out.later HBB.out HZ.out.lt) (by decide) (.bool g.n) (.slice g.a g.xs.length g.ca) (.slice g.b g.ys.length g.cb) (.bool g.m) (.slice g.c g.us.length g.cc) (.slice g.d g.vs.length g.cd) (.bool h.n) (.slice h.a h.xs.length h.ca) (.slice h.b h.ys.length h.cb) (.bool h.m) (.slice h.c h.us.length h.cc) (.slice h.d h.vs.length h.cd)
    go_wp2_with fail
    refine bodyPost_ret (results_cell_row (by rfl) _ _ (w.heap.size + 1) 52 _ (0, 0) _ (by rfl) HA.out.1 Try.underlying52 rfl (by kernel_rfl)) rfl ?_
    have z1 := HB.out.size
    have z2 := HBN.out.size
    have z3 := hb1.out.size
    have P := HA.out.2.2.1
    have o1 := (hog.out.later hb2.out).base (show w.heap.size ≤ Y.heap.size by omega)
    have o2 := hoh.out.base (show w.heap.size ≤ w1.heap.size by omega)
    refine ⟨g, h, rfl, ⟨⟨P _ _ _ _ o1.1, P _ _ _ _ o1.2.1, P _ _ _ _ o1.2.2.1, P _ _ _ _ o1.2.2.2⟩, ⟨P _ _ _ _ o2.1, P _ _ _ _ o2.2.1, P _ _ _ _ o2.2.2.1, P _ _ _ _ o2.2.2.2⟩⟩, ?_, ?_, HA.out.2.2.2.1 _ _ (by omega) (bt HB.out HBB.out)⟩
    · rw [E1.out.1, E1.out.2.1]; exact hig
    · rw [E1.out.2.2]; exact hih
  · have hpt : Int.tmod (f * f + n * n) 2 = 1 := by rw [Int.tmod_eq_emod_of_nonneg (by omega)]; omega
    have HC1 := hid (oInt_any (f * f - n * n) (2 * (f * n)) Y (by omega) (by omega) (by omega) (by omega))
    have HC2 := hid (fun V => oInt_any (f * f + n * n) 0 V (by omega) (by omega) (by omega) (by omega))
    have E1 : Hid (oRe f n = f * f - n * n ∧ oIm f n = 2 * (f * n) ∧ oNm f n = f * f + n * n) := by
      unfold oRe oIm oNm
      exact ⟨by rw [if_neg hpar], by rw [if_neg hpar], by rw [if_neg hpar]⟩
    go_wp2_with fail
    refine Calls.mono HC1.out ?_
    rintro e w1 ⟨g, rfl, hog, hig, hb1⟩
    have HD := hid (HC2.out w1)
    clear HC1 HC2
    go_wp2_with fail
    refine Calls.mono HD.out ?_
    rintro e w2 ⟨h, rfl, hoh, hih, hb2⟩
    clear HD
    have HBB := hid (bt HBN.out (bt hb1.out hb2.out))
    obtain ⟨A0, A1, A2, A3, A4, A5, A6, A7, A8, A9, A10, A11, q0, q1, q2, q3, q4, q5, q6, q7, q8, q9, q10, q11, ⟨r0, r1, r2, r3, r4, r5, r6, r7, r8, r9, r10, r11⟩, ⟨f0, f1, f2, f3, f4, f5, f6, f7, f8, f9, f10, f11⟩, HA⟩ := rchain12 (HZ.out.later HBB.out HZ.out.lt) (by decide) (.bool g.n) (.slice g.a g.xs.length g.ca) (.slice g.b g.ys.length g.cb) (.bool g.m) (.slice g.c g.us.length g.cc) (.slice g.d g.vs.length g.cd) (.bool h.n) (.slice h.a h.xs.length h.ca) (.slice h.b h.ys.length h.cb) (.bool h.m) (.slice h.c h.us.length h.cc) (.slice h.d h.vs.length h.cd)
    go_wp2_with fail
    refine bodyPost_ret (results_cell_row (by rfl) _ _ (w.heap.size + 1) 52 _ (0, 0) _ (by rfl) HA.out.1 Try.underlying52 rfl (by kernel_rfl)) rfl ?_
    have z1 := HB.out.size
    have z2 := HBN.out.size
    have z3 := hb1.out.size
    have P := HA.out.2.2.1
    have o1 := (hog.out.later hb2.out).base (show w.heap.size ≤ Y.heap.size by omega)
    have o2 := hoh.out.base (show w.heap.size ≤ w1.heap.size by omega)
    refine ⟨g, h, rfl, ⟨⟨P _ _ _ _ o1.1, P _ _ _ _ o1.2.1, P _ _ _ _ o1.2.2.1, P _ _ _ _ o1.2.2.2⟩, ⟨P _ _ _ _ o2.1, P _ _ _ _ o2.2.1, P _ _ _ _ o2.2.2.1, P _ _ _ _ o2.2.2.2⟩⟩, ?_, ?_, HA.out.2.2.2.1 _ _ (by omega) (bt HB.out HBB.out)⟩
    · rw [E1.out.1, E1.out.2.1]; exact hig
    · rw [E1.out.2.2]; exact hih

/-- What Of tells of a rotor that may be. -/
def OOf (w : World) (f n : Int) (x : Ending) (w' : World) : Prop := ∃ g h : G6, ∃ a1 c1 a2 c2 a3 c3 a4 c4, x = .returned (.tuple #[.agg #[.bool g.n, .slice a1 g.xs.length c1, .slice a2 h.xs.length c2, .bool g.m, .slice a3 g.us.length c3, .slice a4 h.xs.length c4], .int .i64 0]) ∧ Hid (w'.ownsRow w.heap.size 45 1 (.slice a1 g.xs.length c1) g.xs.length (g.xs.map (Value.int .u32)) ∧ w'.ownsRow w.heap.size 45 1 (.slice a2 h.xs.length c2) h.xs.length (h.xs.map (Value.int .u32)) ∧ w'.ownsRow w.heap.size 45 1 (.slice a3 g.us.length c3) g.us.length (g.us.map (Value.int .u32)) ∧ w'.ownsRow w.heap.size 45 1 (.slice a4 h.xs.length c4) h.xs.length (h.xs.map (Value.int .u32))) ∧ Hid (g.Is (Rat.divInt (oRe f n) 1) (Rat.divInt (oIm f n) 1)) ∧ Hid (h.Is (Rat.divInt (oNm f n) 1) (Rat.divInt 0 1)) ∧ Hid (Below w.heap.size w w') ∧ Hid (∃ W1, Cut w (.slice a1 g.xs.length c1) (.slice a2 h.xs.length c2) W1 ∧ Cut W1 (.slice a3 g.us.length c3) (.slice a4 h.xs.length c4) w')
set_option maxHeartbeats 3200000 in
set_option maxRecDepth 100000 in
theorem oOf_good (f n : Int) (w : World) (hr : rOK f n) :
    Calls Try.prog 9 #[.agg #[.int .i32 f, .int .i32 n]] w (OOf w f n) := by
  obtain ⟨X, hX⟩ : ∃ X, (w.alloc (.cells #[.int .i32 f, .int .i32 n] 25)).alloc (.cells #[.bool false, .slice none 0 0, .slice none 0 0, .bool false, .slice none 0 0, .slice none 0 0] 35) = X := ⟨_, rfl⟩
  have HB : Hid (Below w.heap.size w X) := by rw [← hX]; exact bt (alloc_later _ _) (alloc_later _ _)
  have HR : Hid (Box X w.heap.size 25 #[.int .i32 f, .int .i32 n]) := by rw [← hX]; exact (Box.made w _ _).later (alloc_later _ _) (Box.made w _ _).lt
  have HZ : Hid (Box X (w.heap.size + 1) 35 #[.bool false, .slice none 0 0, .slice none 0 0, .bool false, .slice none 0 0, .slice none 0 0]) := by
    have q := Box.made (w.alloc (.cells #[.int .i32 f, .int .i32 n] 25)) 35 #[.bool false, .slice none 0 0, .slice none 0 0, .bool false, .slice none 0 0, .slice none 0 0]
    rw [show (w.alloc (.cells #[.int .i32 f, .int .i32 n] 25)).heap.size = w.heap.size + 1 by simp, hX] at q
    exact q
  have hin : in32 f n := by unfold rOK at hr; unfold in32; omega
  have HC := hid (ocheck_any f n X hin)
  have h0 : ochk f n = 0 := by unfold ochk; rw [if_pos hr]
  rw [h0] at HC
  have HF := hid (fun V => ofirst_any f n V (by unfold rOK at hr; omega) (by unfold rOK at hr; omega))
  have k0 : X.cell? ⟨w.heap.size, 0, none⟩ = some (.int .i32 f) := HR.out.cell 0
  have k1 : X.cell? ⟨w.heap.size, 1, none⟩ = some (.int .i32 n) := HR.out.cell 1
  clear h0 hin hr
  go_enter Try.func9, Try.ntmps9
  go_wp2_with fail
  clear hX
  refine Calls.mono HC.out ?_
  rintro e w1 ⟨rfl, hb1⟩
  have HB1 := hid hb1
  clear hb1 k0 k1 HC
  have k0 : w1.cell? ⟨w.heap.size, 0, none⟩ = some (.int .i32 f) := (HR.out.later HB1.out HR.out.lt).cell 0
  have k1 : w1.cell? ⟨w.heap.size, 1, none⟩ = some (.int .i32 n) := (HR.out.later HB1.out HR.out.lt).cell 1
  have HD := hid (HF.out w1)
  clear HF
  go_wp2_with fail
  refine Calls.mono HD.out ?_
  rintro e w2 ⟨g, h, rfl, ho2, hg, hh, hb2⟩
  have sg := ho2.out.1.sl hg.out
  have sh := ho2.out.2.sl hh.out
  have lg := hg.out.len
  have lh := hh.out.len
  have HN := hid (onumber_any g h w2 sg.1 sg.2.2.1 sh.1 (by omega) (by omega) (by omega))
  clear HD sg sh lg lh k0 k1
  go_wp2_with fail
  refine Calls.mono HN.out ?_
  rintro e w3 ⟨a1, c1, a2, c2, a3, c3, a4, c4, rfl, ho3, hb3, hc3⟩
  clear HN
  have HBB := hid (bt HB1.out (bt hb2.out hb3.out))
  obtain ⟨A0, A1, A2, A3, A4, A5, q0, q1, q2, q3, q4, q5, ⟨r0, r1, r2, r3, r4, r5⟩, ⟨f0, f1, f2, f3, f4, f5⟩, HA⟩ := rchain6 (HZ.out.later HBB.out HZ.out.lt) (by decide) (.bool g.n) (.slice a1 g.xs.length c1) (.slice a2 h.xs.length c2) (.bool g.m) (.slice a3 g.us.length c3) (.slice a4 h.xs.length c4)
  go_wp2_with fail
  have z1 := HB.out.size
  have z2 := HB1.out.size
  have z3 := hb2.out.size
  have P := HA.out.2.2.1
  have z4 := HA.out.2.2.2.2
  obtain ⟨W1, hc1, hc2⟩ := hc3.out
  refine bodyPost_ret (gres_run (by rfl) HA.out.1 _ (by rfl)) rfl ?_
  exact ⟨g, h, a1, c1, a2, c2, a3, c3, a4, c4, rfl, ⟨P _ _ _ _ (owns_base ho3.out.1 (by omega)), P _ _ _ _ (owns_base ho3.out.2.1 (by omega)), P _ _ _ _ (owns_base ho3.out.2.2.1 (by omega)), P _ _ _ _ (owns_base ho3.out.2.2.2 (by omega))⟩, hg, hh, HA.out.2.2.2.1 _ _ (by omega) (bt HB.out HBB.out), W1, hc1.up (by omega) (Nat.le_refl _), hc2.up (Nat.le_refl _) (by omega)⟩
end Go.Proofs.Ytkkehddpblkegaa

/- No program: powers of complex whole numbers; each power of a rotor's number is in lowest terms, and none is long. -/
namespace Go.Proofs.Ytkkehddpblkegaa
set_option linter.unusedVariables false

/-- Products and powers of complex whole numbers. -/
def zmul (p q : Int × Int) : Int × Int := (p.1 * q.1 - p.2 * q.2, p.1 * q.2 + p.2 * q.1)
def zpow (p : Int × Int) : Nat → Int × Int
  | 0 => (1, 0)
  | t + 1 => zmul (zpow p t) p
end Go.Proofs.Ytkkehddpblkegaa

/- gauss.Mul of numbers as letters; package rotor: one, times. (tools/mkrq3.py) -/
namespace Go.Proofs.Ytkkehddpblkegaa
open Go.RowKit
set_option linter.unusedVariables false
set_option linter.unusedSimpArgs false

theorem o_div1 (x : Int) : Rat.divInt x 1 = (x : Rat) := by
  rw [Rat.divInt_eq_div]
  show (x : Rat) / (1 : Rat) = (x : Rat)
  grind
def o2 (k : Nat) : Nat := 2 ^ k
theorem o2_lt {m n : Nat} (h : m < n) : o2 m < o2 n := Nat.pow_lt_pow_right (by decide) h
theorem o2_wlim (k : Nat) : (4294967296 : Int) ^ k = ((o2 (32 * k) : Nat) : Int) := by
  unfold o2
  rw [Nat.pow_mul, Int.natCast_pow]
  rfl
/-- What is not long, for sure. -/
def oL : Nat := o2 60000
theorem oL_lt : (oL : Int) < wlim := by
  unfold wlim
  rw [o2_wlim]
  exact Int.ofNat_lt.2 (o2_lt (by decide))
/-- A power in two pieces: its top, and what is under it. -/
def OPw (g h : G6) (z : Int × Int) (M : Int) : Prop := g.Is (z.1 : Rat) (z.2 : Rat) ∧ h.Is (M : Rat) ((0 : Int) : Rat)
end Go.Proofs.Ytkkehddpblkegaa

/- package rotor: a power made by squaring. (tools/mkrq4.py) -/
namespace Go.Proofs.Ytkkehddpblkegaa
open Go.RowKit
set_option linter.unusedVariables false
set_option linter.unusedSimpArgs false

/-- What is read: rows that were there, or rows of the call's own. -/
def OSl (w wr : World) (g : G6) : Prop := g.Ow wr w.heap.size ∨ g.Sl4 w
theorem OSl.sl {w wr : World} {g : G6} {q1 q2 : Rat} (h : OSl w wr g) (i : g.Is q1 q2) (hb : Below w.heap.size w wr) : g.Sl4 wr := by
  rcases h with h | h
  · exact h.sl i
  · exact h.later hb
theorem OSl.later {w wr V : World} {g : G6} (h : OSl w wr g) (hb : Below wr.heap.size wr V) : OSl w V g := by
  rcases h with h | h
  · exact .inl (h.later hb)
  · exact .inr h
theorem OSl.put {w wr V : World} {g : G6} (h : OSl w wr g) (P : ∀ base v n xs, wr.ownsRow base 45 1 v n xs → V.ownsRow base 45 1 v n xs) : OSl w V g := by
  rcases h with h | h
  · exact .inl ⟨P _ _ _ _ h.1, P _ _ _ _ h.2.1, P _ _ _ _ h.2.2.1, P _ _ _ _ h.2.2.2⟩
  · exact .inr h
theorem ow_put {wr V : World} {g : G6} {base : Nat} (h : g.Ow wr base) (P : ∀ base v n xs, wr.ownsRow base 45 1 v n xs → V.ownsRow base 45 1 v n xs) : g.Ow V base := ⟨P _ _ _ _ h.1, P _ _ _ _ h.2.1, P _ _ _ _ h.2.2.1, P _ _ _ _ h.2.2.2⟩
/-- How far the squaring is. -/
structure OLp (f n : Int) (w : World) (pb mb : Nat) (i j : Nat) (g h k l : G6) (wr : World) : Prop where
  sp : OSl w wr g ∧ OSl w wr h
  vp : OPw g h (zpow (oRe f n, oIm f n) j) (oNm f n ^ j)
  bp : Box wr pb 52 #[.bool g.n, .slice g.a g.xs.length g.ca, .slice g.b g.ys.length g.cb, .bool g.m, .slice g.c g.us.length g.cc, .slice g.d g.vs.length g.cd, .bool h.n, .slice h.a h.xs.length h.ca, .slice h.b h.ys.length h.cb, .bool h.m, .slice h.c h.us.length h.cc, .slice h.d h.vs.length h.cd]
  om : k.Ow wr w.heap.size ∧ l.Ow wr w.heap.size
  vm : OPw k l (zpow (oRe f n, oIm f n) i) (oNm f n ^ i)
  bm : Box wr mb 52 #[.bool k.n, .slice k.a k.xs.length k.ca, .slice k.b k.ys.length k.cb, .bool k.m, .slice k.c k.us.length k.cc, .slice k.d k.vs.length k.cd, .bool l.n, .slice l.a l.xs.length l.ca, .slice l.b l.ys.length l.cb, .bool l.m, .slice l.c l.us.length l.cc, .slice l.d l.vs.length l.cd]
  br : Box wr (w.heap.size + 1) 52 #[.bool false, .slice none 0 0, .slice none 0 0, .bool false, .slice none 0 0, .slice none 0 0, .bool false, .slice none 0 0, .slice none 0 0, .bool false, .slice none 0 0, .slice none 0 0]
  bel : Below w.heap.size w wr
/-- What a store of twelve cells leaves. -/
def OPut (w2 : World) (b : Nat) (vs : Array Value) (V : World) : Prop := Box V b 52 vs ∧ (∀ p t' vs, p ≠ b → Box w2 p t' vs → Box V p t' vs) ∧ (∀ base v n xs, w2.ownsRow base 45 1 v n xs → V.ownsRow base 45 1 v n xs) ∧ (∀ B x, B ≤ b → Below B x w2 → Below B x V) ∧ V.heap.size = w2.heap.size
theorem OLp.mul {f n : Int} {w wr w2 V : World} {mb i j : Nat} {g h k l k2 l2 : G6} (a : OLp f n w w.heap.size mb i j g h k l wr) (hm : w.heap.size + 1 < mb) (hb : Below wr.heap.size wr w2) (ho : k2.Ow w2 wr.heap.size ∧ l2.Ow w2 wr.heap.size) (hi : OPw k2 l2 (zpow (oRe f n, oIm f n) (i + j)) (oNm f n ^ (i + j))) (c : OPut w2 mb #[.bool k2.n, .slice k2.a k2.xs.length k2.ca, .slice k2.b k2.ys.length k2.cb, .bool k2.m, .slice k2.c k2.us.length k2.cc, .slice k2.d k2.vs.length k2.cd, .bool l2.n, .slice l2.a l2.xs.length l2.ca, .slice l2.b l2.ys.length l2.cb, .bool l2.m, .slice l2.c l2.us.length l2.cc, .slice l2.d l2.vs.length l2.cd] V) : OLp f n w w.heap.size mb (i + j) j g h k2 l2 V where
  sp := ⟨(a.sp.1.later hb).put c.2.2.1, (a.sp.2.later hb).put c.2.2.1⟩
  vp := a.vp
  bp := c.2.1 _ _ _ (by omega) (a.bp.later hb a.bp.lt)
  om := ⟨ow_put (ho.1.base a.bel.size) c.2.2.1, ow_put (ho.2.base a.bel.size) c.2.2.1⟩
  vm := hi
  bm := c.1
  br := c.2.1 _ _ _ (by omega) (a.br.later hb a.br.lt)
  bel := c.2.2.2.1 _ _ (by omega) (bt a.bel hb)
theorem OLp.sq {f n : Int} {w wr w2 V : World} {mb i j : Nat} {g h k l g2 h2 : G6} (a : OLp f n w w.heap.size mb i j g h k l wr) (hm : w.heap.size + 1 < mb) (hb : Below wr.heap.size wr w2) (ho : g2.Ow w2 wr.heap.size ∧ h2.Ow w2 wr.heap.size) (hi : OPw g2 h2 (zpow (oRe f n, oIm f n) (j + j)) (oNm f n ^ (j + j))) (c : OPut w2 w.heap.size #[.bool g2.n, .slice g2.a g2.xs.length g2.ca, .slice g2.b g2.ys.length g2.cb, .bool g2.m, .slice g2.c g2.us.length g2.cc, .slice g2.d g2.vs.length g2.cd, .bool h2.n, .slice h2.a h2.xs.length h2.ca, .slice h2.b h2.ys.length h2.cb, .bool h2.m, .slice h2.c h2.us.length h2.cc, .slice h2.d h2.vs.length h2.cd] V) : OLp f n w w.heap.size mb i (j + j) g2 h2 k l V where
  sp := ⟨.inl (ow_put (ho.1.base a.bel.size) c.2.2.1), .inl (ow_put (ho.2.base a.bel.size) c.2.2.1)⟩
  vp := hi
  bp := c.1
  om := ⟨ow_put (a.om.1.later hb) c.2.2.1, ow_put (a.om.2.later hb) c.2.2.1⟩
  vm := a.vm
  bm := c.2.1 _ _ _ (by omega) (a.bm.later hb a.bm.lt)
  br := c.2.1 _ _ _ (by omega) (a.br.later hb a.br.lt)
  bel := c.2.2.2.1 _ _ (Nat.le_refl _) (bt a.bel hb)
end Go.Proofs.Ytkkehddpblkegaa

/- package rotor: Power, as a complex fraction in its one form. -/
namespace Go.Proofs.Ytkkehddpblkegaa
open Go.RowKit
set_option linter.unusedVariables false
set_option linter.unusedSimpArgs false

/-- A whole number's words. -/
theorem o_whole {n : Bool} {xs ys : List Int} {x : Int} (wx : Wd xs) (wy : Wd ys) (hc : rchk n xs ys = 0) (hq : rq n xs ys = (x : Rat)) : wval n xs = x ∧ Trimmed xs ∧ xs.length ≤ 2048 ∧ (n = false ∨ 0 < xs.length) := by
  obtain ⟨l1, l2, t1, t2, h0, hs, hg⟩ := rchk_ok hc
  have hp : 0 < val ys := val_pos' wy t2 h0
  have hg' : gcdI (wval n xs) (val ys) = 1 := by
    have e := gcd_sg n (val xs) (val ys)
    rw [← hg, ← e]
    rfl
  have h := fr_num hp hg'
  have hn : (rq n xs ys).num = x := by rw [hq, Rat.num_intCast]
  exact ⟨by rw [← h.1]; exact hn, t1, l1, hs⟩
end Go.Proofs.Ytkkehddpblkegaa

/- No program: a rotor's powers are a group; none but the power 0 is 1; how long they are. -/
namespace Go.Proofs.Ytkkehddpblkegaa
open Go.RowKit
set_option linter.unusedVariables false

/-- Neither part of a fraction is above this. -/
def OHg (q : Rat) (B : Nat) : Prop := q.num.natAbs ≤ B ∧ q.den ≤ B
theorem OHg.up {q : Rat} {B C : Nat} (h : OHg q B) (hc : B ≤ C) : OHg q C := ⟨Nat.le_trans h.1 hc, Nat.le_trans h.2 hc⟩
theorem ohg_divInt {n : Int} {d : Nat} {B : Nat} (hd : d ≠ 0) (h1 : n.natAbs ≤ B) (h2 : d ≤ B) : OHg (Rat.divInt n d) B := by
  have e : Rat.divInt n d = mkRat n d := Rat.divInt_ofNat n d
  rw [e]
  have e2 := Rat.normalize_eq_mkRat (num := n) (den := d) hd
  rw [← e2, Rat.normalize_eq]
  exact ⟨by
    show (n / _).natAbs ≤ B
    exact Nat.le_trans (by rw [Int.natAbs_ediv_of_dvd (Int.ofNat_dvd_left.2 (Nat.gcd_dvd_left _ _)), Int.natAbs_natCast]; exact Nat.div_le_self _ _) h1, Nat.le_trans (Nat.div_le_self _ _) h2⟩
theorem OHg.neg {q : Rat} {B : Nat} (h : OHg q B) : OHg (-q) B := ⟨by show (-q).num.natAbs ≤ B; rw [Rat.neg_num, Int.natAbs_neg]; exact h.1, by show (-q).den ≤ B; rw [Rat.neg_den]; exact h.2⟩
theorem OHg.mul {p q : Rat} {B C : Nat} (h : OHg p B) (g : OHg q C) : OHg (p * q) (B * C) := by
  have e : p * q = Rat.divInt (p.num * q.num) ((p.den * q.den : Nat) : Int) := by
    have e1 := Rat.divInt_mul_divInt p.num q.num (d₁ := p.den) (d₂ := q.den)
    rw [Rat.num_divInt_den, Rat.num_divInt_den] at e1
    rw [e1]; norm_cast
  rw [e]
  exact ohg_divInt (Nat.mul_ne_zero p.den_nz q.den_nz) (by rw [Int.natAbs_mul]; exact Nat.mul_le_mul h.1 g.1) (Nat.mul_le_mul h.2 g.2)
theorem OHg.add {p q : Rat} {B C : Nat} (h : OHg p B) (g : OHg q C) : OHg (p + q) (2 * (B * C)) := by
  have e : p + q = Rat.divInt (p.num * q.den + q.num * p.den) ((p.den * q.den : Nat) : Int) := by
    have e1 := Rat.divInt_add_divInt p.num q.num (d₁ := p.den) (d₂ := q.den) (by have := p.den_nz; omega) (by have := q.den_nz; omega)
    rw [Rat.num_divInt_den, Rat.num_divInt_den] at e1
    rw [e1]; norm_cast
  rw [e]
  have h1 : (p.num * q.den).natAbs ≤ B * C := by rw [Int.natAbs_mul, Int.natAbs_natCast]; exact Nat.mul_le_mul h.1 g.2
  have h2 : (q.num * p.den).natAbs ≤ B * C := by rw [Int.natAbs_mul, Int.natAbs_natCast, Nat.mul_comm B C]; exact Nat.mul_le_mul g.1 h.2
  have h3 : p.den * q.den ≤ B * C := Nat.mul_le_mul h.2 g.2
  exact ohg_divInt (Nat.mul_ne_zero p.den_nz q.den_nz) (Nat.le_trans (Int.natAbs_add_le _ _) (by omega)) (by omega)
theorem OHg.sub {p q : Rat} {B C : Nat} (h : OHg p B) (g : OHg q C) : OHg (p - q) (2 * (B * C)) := by
  rw [Rat.sub_eq_add_neg]
  exact h.add g.neg
theorem OHg.short {q : Rat} {B : Nat} (h : OHg q B) (hb : B < oL) : ¬ rlong q := by
  have e := oL_lt
  have h1 := h.1
  have h2 := h.2
  rintro (hh | hh) <;> omega
end Go.Proofs.Ytkkehddpblkegaa

/- gauss.Same, Norm, Conj, Mul of good numbers, as letters; the laws' unit and lives of layer 5. (tools/mkrq6.py) -/
namespace Go.Proofs.Ytkkehddpblkegaa
open Go.RowKit
set_option linter.unusedVariables false
set_option linter.unusedSimpArgs false

theorem o_sz1 {x : Int} (h : 0 < x) : sz [x] = 1 := by
  have hx : x ≠ 0 := by omega
  simp [sz, szTo, hx]
theorem o_val1 (x : Int) : val [x] = x := by simp [val, valTo]
/-- The words of a small whole number. -/
theorem o_word {xs : List Int} {x : Int} (wx : Wd xs) (tx : Trimmed xs) (h : val xs = x) (h0 : 0 < x) (h1 : x < 4294967296) : xs = [x] := by
  refine trimmed_eq wx ?_ tx ?_ ?_
  · intro z hz
    have : z = x := by simpa using hz
    omega
  · unfold Trimmed
    exact o_sz1 h0
  · rw [h]
    exact (o_val1 x).symm
theorem o_pos1 {n : Bool} {xs : List Int} {x : Int} (wx : Wd xs) (tx : Trimmed xs) (h : wval n xs = x) (h0 : 0 < x) (h1 : x < 4294967296) : n = false ∧ xs = [x] := by
  have p := val_nonneg wx
  have hn : n = false := by
    cases n
    · rfl
    · unfold wval at h; simp at h; omega
  subst hn
  have h' : val xs = x := by unfold wval at h; simpa using h
  exact ⟨rfl, o_word wx tx h' h0 h1⟩
end Go.Proofs.Ytkkehddpblkegaa

/- The laws' lives of layer 5: the chapter's first example. (tools/mkrq7.py) -/
namespace Go.Proofs.Ytkkehddpblkegaa
open Go.RowKit
set_option linter.unusedVariables false
set_option linter.unusedSimpArgs false

theorem olit (w : World) (x : Int) : (w.alloc (.cells #[.int .u32 x] 45)).ownsRow w.heap.size 45 1 (.slice (some ⟨w.heap.size, 0, none⟩) 1 1) 1 [.int .u32 x] := World.ownsRow_lit w #[.int .u32 x] 1 (Nat.le_refl _) (by decide) rfl
theorem olit' {w : World} {b : Nat} (x : Int) (h : w.heap.size = b) : (w.alloc (.cells #[.int .u32 x] 45)).ownsRow b 45 1 (.slice (some ⟨b, 0, none⟩) 1 1) 1 [.int .u32 x] := by subst h; exact olit w x
theorem owd1 {x : Int} (h0 : 0 ≤ x) (h1 : x < 4294967296) : Wd [x] := fun z hz => by
  have : z = x := by simpa using hz
  omega
theorem oOf21 (w : World) : Calls Try.prog 9 #[.agg #[.int .i32 2, .int .i32 1]] w fun e w' => ∃ a1 c1 a2 c2 a3 c3 a4 c4, e = .returned (.tuple #[.agg #[.bool false, .slice a1 1 c1, .slice a2 1 c2, .bool false, .slice a3 1 c3, .slice a4 1 c4], .int .i64 0]) ∧ Hid (w'.ownsRow w.heap.size 45 1 (.slice a1 1 c1) 1 [.int .u32 3] ∧ w'.ownsRow w.heap.size 45 1 (.slice a2 1 c2) 1 [.int .u32 5] ∧ w'.ownsRow w.heap.size 45 1 (.slice a3 1 c3) 1 [.int .u32 4] ∧ w'.ownsRow w.heap.size 45 1 (.slice a4 1 c4) 1 [.int .u32 5]) ∧ Hid (Below w.heap.size w w') := by
  refine Calls.mono (oOf_good 2 1 w (by decide)) ?_
  rintro e w' ⟨g, h, a1, c1, a2, c2, a3, c3, a4, c4, rfl, ho, hg, hh, hb, _⟩
  have ig := hg.out
  have ih := hh.out
  rw [o_div1, o_div1] at ig ih
  obtain ⟨⟨i1, i2⟩, ⟨i3, i4⟩, w1, w2, w3, w4⟩ := ig
  obtain ⟨⟨j1, j2⟩, _, v1, v2, _⟩ := ih
  obtain ⟨e1, t1, _⟩ := o_whole w1 w2 i1 i2
  obtain ⟨e2, t2, _⟩ := o_whole w3 w4 i3 i4
  obtain ⟨e3, t3, _⟩ := o_whole v1 v2 j1 j2
  obtain ⟨p1, p2⟩ := o_pos1 w1 t1 (e1.trans (show oRe 2 1 = 3 by decide)) (by decide) (by decide)
  obtain ⟨p3, p4⟩ := o_pos1 w3 t2 (e2.trans (show oIm 2 1 = 4 by decide)) (by decide) (by decide)
  obtain ⟨p5, p6⟩ := o_pos1 v1 t3 (e3.trans (show oNm 2 1 = 5 by decide)) (by decide) (by decide)
  have ho' := ho.out
  rw [p2, p4, p6] at ho'
  rw [p1, p2, p3, p4, p6]
  exact ⟨a1, c1, a2, c2, a3, c3, a4, c4, rfl, ho', hb⟩

set_option maxHeartbeats 3200000 in
set_option maxRecDepth 100000 in
theorem olives_any (w : World) : Calls Try.prog 5 #[] w fun e w' => e = .returned (.bool true) ∧ Below w.heap.size w w' := by
  have HD := hid (oOf21 w)
  go_enter Try.func5, Try.ntmps5
  go_wp2_with fail
  refine Calls.mono HD.out ?_
  rintro e w1 ⟨a1, c1, a2, c2, a3, c3, a4, c4, rfl, ho, hb⟩
  clear HD
  obtain ⟨Y, hY⟩ : ∃ Y, w1.alloc (.cells #[.bool false, .slice none 0 0, .slice none 0 0, .bool false, .slice none 0 0, .slice none 0 0] 35) = Y := ⟨_, rfl⟩
  have HY : Hid (Box Y w1.heap.size 35 #[.bool false, .slice none 0 0, .slice none 0 0, .bool false, .slice none 0 0, .slice none 0 0]) := by rw [← hY]; exact Box.made w1 _ _
  have HYB : Hid (Below w1.heap.size w1 Y) := by rw [← hY]; exact alloc_later _ _
  obtain ⟨A0, A1, A2, A3, A4, A5, qA0, qA1, qA2, qA3, qA4, qA5, ⟨rA0, rA1, rA2, rA3, rA4, rA5⟩, ⟨fA0, fA1, fA2, fA3, fA4, fA5⟩, HA⟩ := rchain6 HY.out (by decide) (.bool false) (.slice a1 1 c1) (.slice a2 1 c2) (.bool false) (.slice a3 1 c3) (.slice a4 1 c4)
  have HBA : Hid (Below w.heap.size w A5) := HA.out.2.2.2.1 _ _ hb.out.size (bt hb.out HYB.out)
  have HO : Hid (A5.ownsRow w.heap.size 45 1 (.slice a1 1 c1) 1 [.int .u32 3] ∧ A5.ownsRow w.heap.size 45 1 (.slice a2 1 c2) 1 [.int .u32 5] ∧ A5.ownsRow w.heap.size 45 1 (.slice a3 1 c3) 1 [.int .u32 4] ∧ A5.ownsRow w.heap.size 45 1 (.slice a4 1 c4) 1 [.int .u32 5]) := by
    have q := ho.out
    have P := HA.out.2.2.1
    exact ⟨P _ _ _ _ (owns_later q.1 HYB.out), P _ _ _ _ (owns_later q.2.1 HYB.out), P _ _ _ _ (owns_later q.2.2.1 HYB.out), P _ _ _ _ (owns_later q.2.2.2 HYB.out)⟩
  have p0 : A5.cell? ⟨w1.heap.size, 0, none⟩ = some (.bool false) := (HA.out.1).cell 0
  have p1 : A5.cell? ⟨w1.heap.size, 1, none⟩ = some (.slice a1 1 c1) := (HA.out.1).cell 1
  have p2 : A5.cell? ⟨w1.heap.size, 2, none⟩ = some (.slice a2 1 c2) := (HA.out.1).cell 2
  have p3 : A5.cell? ⟨w1.heap.size, 3, none⟩ = some (.bool false) := (HA.out.1).cell 3
  have p4 : A5.cell? ⟨w1.heap.size, 4, none⟩ = some (.slice a3 1 c3) := (HA.out.1).cell 4
  have p5 : A5.cell? ⟨w1.heap.size, 5, none⟩ = some (.slice a4 1 c4) := (HA.out.1).cell 5
  obtain ⟨U, hU⟩ : ∃ U, ((((A5.alloc (.cells #[.int .u32 3] 45)).alloc (.cells #[.int .u32 5] 45)).alloc (.cells #[.int .u32 4] 45)).alloc (.cells #[.int .u32 5] 45)) = U := ⟨_, rfl⟩
  have HU : Hid (Below A5.heap.size A5 U) := by rw [← hU]; exact bt (bt (bt (alloc_later _ _) (alloc_later _ _)) (alloc_later _ _)) (alloc_later _ _)
  have HL : Hid (U.ownsRow (A5.heap.size) 45 1 (.slice (some ⟨A5.heap.size, 0, none⟩) 1 1) 1 [.int .u32 3] ∧ U.ownsRow (A5.heap.size + 1) 45 1 (.slice (some ⟨A5.heap.size + 1, 0, none⟩) 1 1) 1 [.int .u32 5] ∧ U.ownsRow (A5.heap.size + 1 + 1) 45 1 (.slice (some ⟨A5.heap.size + 1 + 1, 0, none⟩) 1 1) 1 [.int .u32 4] ∧ U.ownsRow (A5.heap.size + 1 + 1 + 1) 45 1 (.slice (some ⟨A5.heap.size + 1 + 1 + 1, 0, none⟩) 1 1) 1 [.int .u32 5]) := by
    rw [← hU]
    refine ⟨?_, ?_, ?_, ?_⟩
    · exact owns_later (owns_later (owns_later (olit A5 3) (alloc_later _ _)) (alloc_later _ _)) (alloc_later _ _)
    · exact owns_later (owns_later (olit' 5 (by simp)) (alloc_later _ _)) (alloc_later _ _)
    · exact owns_later (olit' 4 (by simp)) (alloc_later _ _)
    · exact olit' 5 (by simp)
  have HS : Hid (Calls Try.prog 14 #[.agg #[.bool false, .slice a1 1 c1, .slice a2 1 c2, .bool false, .slice a3 1 c3, .slice a4 1 c4], .agg #[.bool false, .slice (some ⟨A5.heap.size, 0, none⟩) 1 1, .slice (some ⟨A5.heap.size + 1, 0, none⟩) 1 1, .bool false, .slice (some ⟨A5.heap.size + 1 + 1, 0, none⟩) 1 1, .slice (some ⟨A5.heap.size + 1 + 1 + 1, 0, none⟩) 1 1]] U fun x w' => x = .returned (.bool true) ∧ Below U.heap.size U w') :=
    gsameGauss_eq false a1 c1 [3] a2 c2 [5] false a3 c3 [4] a4 c4 [5] (some ⟨A5.heap.size, 0, none⟩) 1 (some ⟨A5.heap.size + 1, 0, none⟩) 1 (some ⟨A5.heap.size + 1 + 1, 0, none⟩) 1 (some ⟨A5.heap.size + 1 + 1 + 1, 0, none⟩) 1 U (Sl.own (owns_later HO.out.1 HU.out) (owd1 (by decide) (by decide))) (Sl.own (owns_later HO.out.2.1 HU.out) (owd1 (by decide) (by decide))) (Sl.own (owns_later HO.out.2.2.1 HU.out) (owd1 (by decide) (by decide))) (Sl.own (owns_later HO.out.2.2.2 HU.out) (owd1 (by decide) (by decide))) (Sl.own HL.out.1 (owd1 (by decide) (by decide))) (Sl.own HL.out.2.1 (owd1 (by decide) (by decide))) (Sl.own HL.out.2.2.1 (owd1 (by decide) (by decide))) (Sl.own HL.out.2.2.2 (owd1 (by decide) (by decide))) (by decide) (by decide) (by decide) (by decide)
  clear HL HO ho hb HYB HY
  go_wp2_with fail
  refine Calls.mono HS.out ?_
  rintro e w2 ⟨rfl, hb2⟩
  have HF := hid (bt (bt HBA.out HU.out) hb2)
  clear HS hb2
  go_wp2_with fail
  go_ret
  exact ⟨rfl, HF.out⟩
end Go.Proofs.Ytkkehddpblkegaa

/- The law RotorLists, of whatever comes in. -/
namespace Go.Proofs.Ytkkehddpblkegaa
open Go.RowKit Go.Maps
set_option linter.unusedVariables false
set_option linter.unusedSimpArgs false

theorem Try.infoRo : (Try.prog.info? 25).map (fun i => (i.zero, i.size, i.bytes)) = some (some (.agg #[.int .i32 0, .int .i32 0]), 2, 8) := by kernel_rfl
theorem ro_two (w : World) (a b : Value) (t : Nat) : ∀ j u, [a, b][j]? = some u → (w.alloc (.cells #[a, b] t)).cell? ((⟨w.heap.size, 0, none⟩ : Addr).add j) = some u := by
  intro j u h
  have hj : j < 2 := (List.getElem?_eq_some_iff.1 h).1
  have B := Box.made w t #[a, b]
  rw [Addr.add_lit, Nat.zero_add]
  rcases (by omega : j = 0 ∨ j = 1) with rfl | rfl
  · rw [← h]; exact B.cell 0
  · rw [← h]; exact B.cell 1
theorem RdO.later {w w' : World} {a : Option Addr} {n : Nat} {xs : List (Int × Int)} (h : RdO w a n xs) (hb : Below w.heap.size w w') : RdO w' a n xs := by
  obtain ⟨hl, h32, h0⟩ := h
  refine ⟨hl, h32, h0.imp id ?_⟩
  rintro ⟨b, o, ha, hlt, hx⟩
  have := hb.size
  refine ⟨b, o, ha, by omega, fun j hj => ?_⟩
  have e := hx j hj
  exact ⟨(hb.cell (p := ⟨b, o + j * 2, none⟩) hlt).trans e.1, (hb.cell (p := ⟨b, o + j * 2 + 1, none⟩) hlt).trans e.2⟩
set_option maxHeartbeats 1600000 in
set_option maxRecDepth 100000 in
theorem rotorLists_long (a : Option Addr) (n cap : Nat) (w : World) (hn : 100 < n) (hm : n ≤ 9223372036854775807) :
    Calls Try.prog 3 #[.slice a n cap] w fun e w' => e = .returned (.bool true) ∧ Below w.heap.size w w' := by
  have h1 : (100 : Int) < (n : Int) := by omega
  have HL := hid (olives_any w)
  go_enter Try.func3, Try.ntmps3
  go_wp2_with fail
  refine Calls.mono HL.out ?_
  rintro e w1 ⟨rfl, hb1⟩
  go_wp2_with fail
  go_ret
  exact ⟨rfl, hb1⟩
/-- What is left of the law when the new list is made. -/
def RlT (w : World) (a : Option Addr) (n cap : Nat) (xs : List (Int × Int)) (g d : Nat) (W : World) : Prop :=
  Below w.heap.size w W ∧ W.ownsRow w.heap.size 25 2 (.slice (some ⟨g, 0, none⟩) (n + 1) d) (n + 1) (roC (xs ++ [(9, 0)])) ∧ n + 1 ≤ d
theorem RlT.lt {w W : World} {a : Option Addr} {n cap g d : Nat} {xs : List (Int × Int)} (h : RlT w a n cap xs g d W) : g < W.heap.size ∧ w.heap.size ≤ g := by
  have := h.2.1.lt g rfl
  exact ⟨this.2, this.1⟩
theorem xO_app {xs : List (Int × Int)} {n j : Nat} {q : Int × Int} (hl : xs.length = n) (hj : j < n) : xO (xs ++ [q]) j = xO xs j := by
  unfold xO
  rw [List.getElem?_append_left (by omega)]
theorem xO_end {xs : List (Int × Int)} {n : Nat} {q : Int × Int} (hl : xs.length = n) : xO (xs ++ [q]) n = q := by
  unfold xO
  rw [List.getElem?_append_right (by omega)]
  simp [hl]
theorem RlT.cell {w W : World} {a : Option Addr} {n cap g d : Nat} {xs : List (Int × Int)} (h : RlT w a n cap xs g d W) (hl : xs.length = n) (j : Nat) (hj : j < n) : W.cell? ⟨g, 0 + j * 2, none⟩ = some (.int .i32 (xO xs j).1) ∧ W.cell? ⟨g, 0 + j * 2 + 1, none⟩ = some (.int .i32 (xO xs j).2) := by
  have e := roC_get (xs ++ [(9, 0)]) j (by simp; omega)
  rw [xO_app hl hj] at e
  rw [Nat.zero_add, h.2.1.cellAt (j * 2) (by omega), h.2.1.cellAt (j * 2 + 1) (by omega)]
  exact e
theorem RlT.last {w W : World} {a : Option Addr} {n cap g d : Nat} {xs : List (Int × Int)} (h : RlT w a n cap xs g d W) (hl : xs.length = n) : W.cell? ⟨g, n * 2, none⟩ = some (.int .i32 9) ∧ W.cell? ⟨g, n * 2 + 1, none⟩ = some (.int .i32 0) := by
  have e := roC_get (xs ++ [(9, 0)]) n (by simp; omega)
  rw [xO_end hl] at e
  rw [h.2.1.cellAt (n * 2) (by omega), h.2.1.cellAt (n * 2 + 1) (by omega)]
  exact e
theorem RlT.later {w W W' : World} {a : Option Addr} {n cap g d : Nat} {xs : List (Int × Int)} (h : RlT w a n cap xs g d W) (hb : Below W.heap.size W W') : RlT w a n cap xs g d W' :=
  ⟨bt h.1 hb, ro_later h.2.1 hb, h.2.2⟩

set_option maxHeartbeats 6400000 in
set_option maxRecDepth 100000 in
theorem rotorLists_go (a : Option Addr) (n cap : Nat) (xs : List (Int × Int)) (w : World) (hn : n ≤ 100) (hd : RdO w a n xs) (hnil : a = none → n = 0 ∧ cap = 0) :
    Calls Try.prog 3 #[.slice a n cap] w fun e w' => e = .returned (.bool true) ∧ Below w.heap.size w w' := by
  obtain ⟨i0, hi, hz0, hz1, hz2⟩ := info_parts Try.infoRo
  have HD := hid hd
  have hl : xs.length = n := hd.1
  have h100 : ¬ (100 : Int) < (n : Int) := by omega
  have hown : (w.alloc (.cells #[] 25)).ownsRow w.heap.size 25 2 (.slice (some ⟨w.heap.size, 0, none⟩) 0 0) 0 [] := World.ownsRow_lit w #[] 0 (Nat.le_refl _) (Nat.zero_le _) rfl
  have HOw := hid hown
  have HBw : Hid (Below w.heap.size w (w.alloc (.cells #[] 25))) := (Below.refl _ _).alloc (Nat.le_refl _) _
  clear hd hown
  have HL := hid olives_any
  have HF : Hid (∀ (V : World) (v : Value), V.ownsRow w.heap.size 25 2 v n (roC xs) → Below w.heap.size w V → (V.alloc (.cells #[.int .i32 9, .int .i32 0] 25)).ownsRow w.heap.size 25 2 v n (roC xs) ∧ Below w.heap.size w (V.alloc (.cells #[.int .i32 9, .int .i32 0] 25)) ∧ w.heap.size ≤ V.heap.size) := fun V v h hb => ⟨ro_later h (alloc_later _ _), bt hb (alloc_later _ _), hb.size⟩
  have HG : Hid (∀ (V : World) (v' : Value) (W : World), W.ownsRow w.heap.size 25 2 v' (n + 1) (roC xs ++ [.int .i32 9, .int .i32 0]) → Below w.heap.size w W → ∃ g d, v' = .slice (some ⟨g, 0, none⟩) (n + 1) d ∧ RlT w a n cap xs g d W) := fun V v' W h hb => by
    rcases h.2 with ⟨_, h0⟩ | ⟨g, d, cur, hv, h1, h2, h3, h4⟩
    · omega
    · refine ⟨g, d, hv, hb, ?_, h3⟩
      rw [roC_app, ← hv]
      exact h
  cases a with
  | none =>
    obtain ⟨hn0, hc0⟩ := hnil rfl
    have HN0 := hid hn0
    have HC0 := hid hc0
    have hown1 : (w.alloc (.cells #[] 25)).ownsRow w.heap.size 25 2 (.slice (some ⟨w.heap.size, 0, none⟩) 0 0) n (roC xs) := by
      have e : xs = [] := List.length_eq_zero_iff.1 (hl.trans hn0)
      rw [e, hn0]
      exact HOw.out
    obtain ⟨o2, b2, l2⟩ := HF.out _ _ hown1 HBw.out
    have HO2 := hid o2
    have HB2 := hid b2
    clear o2 b2 hown1 hc0 hn0 hnil l2
    go_enter Try.func3, Try.ntmps3
    go_wp2_with (first | (at_builtin; refine wpList_append_own_none rfl _ _ 22 rfl w.heap.size 25 i0 2 Try.underlying22 hi _ 0 [] rfl HOw.out (show Value.slice none n cap = _ by rw [HN0.out, HC0.out]) ?_) | (at_builtin; refine wpList_append_own _ rfl _ _ 22 rfl w.heap.size 25 i0 (.agg #[.int .i32 0, .int .i32 0]) 2 8 Try.underlying22 hi hz0 hz1 hz2 rfl (by decide) _ n (roC xs) rfl HO2.out _ 1 1 [.int .i32 9, .int .i32 0] rfl rfl (by first | exact ro_two _ _ _ _ | (have h9 := ro_two (w.alloc (.cells #[] 25)) (.int .i32 9) (.int .i32 0) 25; simpa using h9)) (by simp [Value.oneCell']) (by unfold maxLen; omega) (by omega) (by simp; omega) ?_))

    intro v2 w2 hown2 hgrow2 _
    have hb2 : Below w.heap.size w w2 := HB2.out.grown hgrow2 (by simp; omega) (fun k hk => (HO2.out.lt k hk).1)
    obtain ⟨g, d, rfl, ht⟩ := HG.out (w.alloc (.cells #[] 25)) v2 w2 hown2 hb2
    have HT := hid ht
    clear hown2 hgrow2 hb2 ht HO2 HB2 HF HG HOw
    have hdd : n + 1 ≤ d := HT.out.2.2
    have hd0 : (0 : Int) ≤ (n : Int) := by omega
    have hd1 : (n : Int) ≤ (d : Int) := by omega
    have HP := hid (oapart_q g 0 n d xs w2 hl HD.out.2.1 HT.out.lt.1 (HT.out.cell hl) hn)
    go_wp2_with fail
    refine Calls.mono HP.out ?_
    rintro e w3 ⟨v, c, rfl, hr, hb3⟩
    have HR := hid hr
    have HT3 := hid (HT.out.later hb3)
    have HD3 := hid (HD.out.later HT3.out.1)
    have HP := hid (papart_q none n cap xs w3 HD3.out hn)
    clear hr hb3 HT
    go_wp2_with fail
    refine Calls.mono HP.out ?_
    rintro e w4 ⟨v', c', rfl, hr, hb4⟩
    obtain ⟨rfl, rfl⟩ := HR.out.one hr
    have HT4 := hid (HT3.out.later hb4)
    clear hr hb4 HT3 HD3 HR HP
    go_wp2_with fail
    go_loopw [8] (fun x wr => ∃ k : Nat, x = .int .i64 (k : Int) ∧ k ≤ n ∧ Hid (RlT w none n cap xs g d wr)) (fun x _ => n - (intOf x).toNat)
    case atStart => exact ⟨0, rfl, by omega, HT4⟩
    case round =>
      clear HT4
      obtain ⟨k, rfl, hk, HT⟩ := hrel
      by_cases hkn : k < n
      · exact absurd hkn (by have h9 := HN0.out; omega)
      · obtain rfl : k = n := by omega
        have hkk : ¬ (k : Int) < (k : Int) := by omega
        obtain ⟨c0, c1⟩ := HT.out.last hl
        have hEQ := roEq 9 0 9 0
        have hk0 : (0 : Int) ≤ (k : Int) := by omega
        have hk1 : (k : Int) < ((k + 1 : Nat) : Int) := by omega
        have HLL := hid (HL.out wr)
        go_wp2_with fail
        refine Calls.mono HLL.out ?_
        rintro e w5 ⟨rfl, hb5⟩
        go_wp2_with fail
        go_ret
        exact ⟨rfl, bt HT.out.1 hb5⟩
  | some ad =>
    clear hnil
    have HN : Hid (∀ j u, (roC xs)[j]? = some u → (w.alloc (.cells #[] 25)).cell? (ad.add j) = some u) := by
      rcases HD.out.2.2 with h0 | ⟨b, o, ha, hlt, hx⟩
      · intro j u hj
        have hj1 := (List.getElem?_eq_some_iff.1 hj).1
        rw [roC_len] at hj1
        omega
      · cases ha
        refine roC_news hl fun j hj => ?_
        have e := hx j hj
        exact ⟨(HBw.out.cell (p := ⟨b, o + j * 2, none⟩) hlt).trans e.1, (HBw.out.cell (p := ⟨b, o + j * 2 + 1, none⟩) hlt).trans e.2⟩
    have HLn : Hid ((roC xs).length = n * 2) := by show _ = _; rw [roC_len, hl]
    have HO := hid (roC_one xs)
    go_enter Try.func3, Try.ntmps3
    go_wp2_with (at_builtin; refine wpList_append_own _ rfl _ _ 22 rfl w.heap.size 25 i0 (.agg #[.int .i32 0, .int .i32 0]) 2 8 Try.underlying22 hi hz0 hz1 hz2 rfl (by decide) _ 0 [] rfl HOw.out ad n cap (roC xs) rfl HLn.out HN.out HO.out (by unfold maxLen; omega) (by omega) (by simp) ?_)
    intro v1 w1 hown1 hgrow1 _
    have hb1 : Below w.heap.size w w1 := HBw.out.grown hgrow1 (by simp) (fun k hk => by simp [Value.ownBlock] at hk; omega)
    clear hgrow1 HN HLn HO

    have HB1 := hid hb1
    have HO1 := hid hown1
    obtain ⟨o2, b2, l2⟩ := HF.out _ _ HO1.out HB1.out
    have HO2 := hid o2
    have HB2 := hid b2
    clear o2 b2 hb1 hown1 HBw
    go_wp2_with (at_builtin; refine wpList_append_own _ rfl _ _ 22 rfl w.heap.size 25 i0 (.agg #[.int .i32 0, .int .i32 0]) 2 8 Try.underlying22 hi hz0 hz1 hz2 rfl (by decide) _ n (roC xs) rfl HO2.out ⟨w1.heap.size, 0, none⟩ 1 1 [.int .i32 9, .int .i32 0] rfl rfl (ro_two w1 _ _ _) (by simp [Value.oneCell']) (by unfold maxLen; omega) (by omega) (by simp; omega) ?_)
    intro v2 w2 hown2 hgrow2 _
    have hb2 : Below w.heap.size w w2 := HB2.out.grown hgrow2 (by simp; omega) (fun k hk => (HO2.out.lt k hk).1)
    obtain ⟨g, d, rfl, ht⟩ := HG.out w1 v2 w2 hown2 hb2
    have HT := hid ht
    clear hown2 hgrow2 hb2 ht HO2 HB2 HO1 HB1 HF HG HOw
    have hdd : n + 1 ≤ d := HT.out.2.2
    have hd0 : (0 : Int) ≤ (n : Int) := by omega
    have hd1 : (n : Int) ≤ (d : Int) := by omega
    have HP := hid (oapart_q g 0 n d xs w2 hl HD.out.2.1 HT.out.lt.1 (HT.out.cell hl) hn)
    go_wp2_with fail
    refine Calls.mono HP.out ?_
    rintro e w3 ⟨v, c, rfl, hr, hb3⟩
    have HR := hid hr
    have HT3 := hid (HT.out.later hb3)
    have HD3 := hid (HD.out.later HT3.out.1)
    have HP := hid (papart_q (some ad) n cap xs w3 HD3.out hn)
    clear hr hb3 HT
    go_wp2_with fail
    refine Calls.mono HP.out ?_
    rintro e w4 ⟨v', c', rfl, hr, hb4⟩
    obtain ⟨rfl, rfl⟩ := HR.out.one hr
    have HT4 := hid (HT3.out.later hb4)
    clear hr hb4 HT3 HD3 HR HP
    go_wp2_with fail
    go_loopw [8] (fun x wr => ∃ k : Nat, x = .int .i64 (k : Int) ∧ k ≤ n ∧ Hid (RlT w (some ad) n cap xs g d wr)) (fun x _ => n - (intOf x).toNat)
    case atStart => exact ⟨0, rfl, by omega, HT4⟩
    case round =>
      clear HT4
      obtain ⟨k, rfl, hk, HT⟩ := hrel
      by_cases hkn : k < n
      · obtain ⟨b, o, ha, hbl, hx⟩ : ∃ b o, (some ad) = some ⟨b, o, none⟩ ∧ b < wr.heap.size ∧ ∀ j, j < n → wr.cell? ⟨b, o + j * 2, none⟩ = some (.int .i32 (xO xs j).1) ∧ wr.cell? ⟨b, o + j * 2 + 1, none⟩ = some (.int .i32 (xO xs j).2) := by
          rcases (HD.out.later HT.out.1).2.2 with h | h
          · omega
          · exact h
        obtain ⟨c2, c3⟩ := hx k hkn
        obtain ⟨c0, c1⟩ := HT.out.cell hl k hkn
        cases ha
        rw [Nat.zero_add] at c0 c1
        have hEQ := roEq (xO xs k).1 (xO xs k).2 (xO xs k).1 (xO xs k).2
        rw [show ((xO xs k).1 == (xO xs k).1 && (xO xs k).2 == (xO xs k).2) = true by simp] at hEQ
        have hk0 : (0 : Int) ≤ (k : Int) := by omega
        have hk1 : (k : Int) < (n : Int) := by omega
        have hk2 : (k : Int) < ((n + 1 : Nat) : Int) := by omega
        clear hx hbl
        go_wp2_with fail
        go_quiet (fail)
        have HT2 : Hid (RlT w (some ⟨b, o, none⟩) n cap xs g d _) := HT.out.later (bdrewN (Below.refl _ _) nq)
        go_wp2_with fail
        go_roundw
        case rel => exact ⟨k + 1, by go_num, by omega, HT2⟩
        case measure => simp [intOf]; omega
      · obtain rfl : k = n := by omega
        have hkk : ¬ (k : Int) < (k : Int) := by omega
        obtain ⟨c0, c1⟩ := HT.out.last hl
        have hEQ := roEq 9 0 9 0
        have hk0 : (0 : Int) ≤ (k : Int) := by omega
        have hk1 : (k : Int) < ((k + 1 : Nat) : Int) := by omega
        have HLL := hid (HL.out wr)
        go_wp2_with fail
        refine Calls.mono HLL.out ?_
        rintro e w5 ⟨rfl, hb5⟩
        go_wp2_with fail
        go_ret
        exact ⟨rfl, bt HT.out.1 hb5⟩
theorem rotorLists_in (a : Option Addr) (n cap : Nat) (xs : List (Int × Int)) (w : World) (h : (a = none → n = 0 ∧ cap = 0) ∧ n ≤ cap ∧ cap ≤ maxLen ∧ RdO w a n xs) :
    Calls Try.prog 3 #[.slice a n cap] w fun e w' => e = .returned (.bool true) ∧ Below w.heap.size w w' := by
  by_cases hn : n ≤ 100
  · exact rotorLists_go a n cap xs w hn h.2.2.2 h.1
  · exact rotorLists_long a n cap w (by omega) (by have h1 := h.2.1; have h2 := h.2.2.1; unfold maxLen at h2; omega)
end Go.Proofs.Ytkkehddpblkegaa

