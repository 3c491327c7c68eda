/- My texts on the way to TideBack, one behind the other: contracts of the program and of the document's answers. -/
import Derived.Test.YtiaebiaeolaocaaGreatDoorJ1
import Derived.Test.YtiaebiaeolaocaaGreatDoorJ3
import Derived.Test.YtiaebiaeolaocaaGreatDoorChecked
import Derived.Handy
import Derived.RegionTactic
import Derived.ChangeAlike
import Derived.Deep.RegionHeld3
import Derived.Deep.QuietTactic
import Derived.BigQuiet
/- Boxes made one behind the other; drawing keeps what is below. -/
namespace Go.Proofs.YtiaebiaeolaocaaGreatDoor
open Go.RowKit
set_option linter.unusedVariables false

theorem boxes1 (w : World) (t : Nat) (u : Array Value) : FBox (w.alloc (.cells u t)) w.heap.size t u ∧ Below w.heap.size w (w.alloc (.cells u t)) :=
  ⟨FBox.made _ _ _, (Below.refl _ _).alloc (Nat.le_refl _) _⟩
theorem boxes2 (w : World) (t : Nat) (u v : Array Value) : FBox ((w.alloc (.cells u t)).alloc (.cells v t)) w.heap.size t u ∧ FBox ((w.alloc (.cells u t)).alloc (.cells v t)) (w.heap.size + 1) t v ∧ Below w.heap.size w ((w.alloc (.cells u t)).alloc (.cells v t)) := by
  have a := boxes1 w t u
  have b := boxes1 (w.alloc (.cells u t)) t v
  have es : (w.alloc (.cells u t)).heap.size = w.heap.size + 1 := World.size_alloc _ _
  exact ⟨a.1.later b.2 a.1.lt, es ▸ b.1, b2 a.2 b.2⟩
theorem boxes3 (w : World) (t : Nat) (u v z : Array Value) : FBox (((w.alloc (.cells u t)).alloc (.cells v t)).alloc (.cells z t)) w.heap.size t u ∧ FBox (((w.alloc (.cells u t)).alloc (.cells v t)).alloc (.cells z t)) (w.heap.size + 1) t v ∧ FBox (((w.alloc (.cells u t)).alloc (.cells v t)).alloc (.cells z t)) (w.heap.size + 1 + 1) t z ∧ Below w.heap.size w (((w.alloc (.cells u t)).alloc (.cells v t)).alloc (.cells z t)) := by
  have a := boxes2 w t u v
  have b := boxes1 ((w.alloc (.cells u t)).alloc (.cells v t)) t z
  have es : ((w.alloc (.cells u t)).alloc (.cells v t)).heap.size = w.heap.size + 1 + 1 := by rw [World.size_alloc, World.size_alloc]
  exact ⟨a.1.later b.2 a.1.lt, a.2.1.later b.2 a.2.1.lt, es ▸ b.1, b2 a.2.2 b.2⟩
theorem bdrewN {B : Nat} {a w : World} (h : Below B a w) (n : Nat) : Below B a (w.drewN n) := by
  induction n with
  | zero => exact h
  | succ n ih => exact ih.drew
end Go.Proofs.YtiaebiaeolaocaaGreatDoor

/- package tide: letter, digit, Name. -/
namespace Go.Proofs.YtiaebiaeolaocaaGreatDoor
open Go.RowKit
set_option linter.unusedVariables false
set_option linter.unusedSimpArgs false

def tlet (c : Int) : Bool := decide (65 ≤ c) && decide (c ≤ 90) || decide (97 ≤ c) && decide (c ≤ 122)
def tdig (c : Int) : Bool := decide (48 ≤ c) && decide (c ≤ 57)
set_option maxHeartbeats 800000 in
set_option maxRecDepth 100000 in
theorem tletter_any (c : Int) (w : World) : Calls Tryz.prog 46 #[.int .u8 c] w fun e w' => e = .returned (.bool (tlet c)) ∧ w = w' := by
  by_cases a : 65 ≤ c <;> by_cases b : c ≤ 90 <;> by_cases d : 97 ≤ c <;> by_cases f : c ≤ 122
  all_goals
    have HR : Hid (tlet c = (decide (65 ≤ c) && decide (c ≤ 90) || decide (97 ≤ c) && decide (c ≤ 122))) := rfl
    go_enter Tryz.func46, Tryz.ntmps46
    go_wp2_with fail
    go_ret
    exact ⟨by rw [HR.out]; simp [a, b, d, f], rfl⟩
set_option maxHeartbeats 800000 in
set_option maxRecDepth 100000 in
theorem tdigit_any (c : Int) (w : World) : Calls Tryz.prog 47 #[.int .u8 c] w fun e w' => e = .returned (.bool (tdig c)) ∧ w = w' := by
  by_cases a : 48 ≤ c <;> by_cases b : c ≤ 57
  all_goals
    have HR : Hid (tdig c = (decide (48 ≤ c) && decide (c ≤ 57))) := rfl
    go_enter Tryz.func47, Tryz.ntmps47
    go_wp2_with fail
    go_ret
    exact ⟨by rw [HR.out]; simp [a, b], rfl⟩

/-- Is a text a name? -/
def tname (l : List UInt8) : Bool := decide (1 ≤ l.length) && decide (l.length ≤ 20) && tlet ((l[0]?.getD 0).toNat : Int) && l.all (fun c => tlet (c.toNat : Int) || tdig (c.toNat : Int))
theorem tbyte_at (s : ByteArray) (k : Nat) (h : k < s.size) : s.data.toList[k]? = some s[k] := by
  rw [List.getElem?_eq_getElem (by show k < s.data.toList.length; rw [Array.length_toList]; exact h)]
  rfl
theorem tsize_list (s : ByteArray) : s.data.toList.length = s.size := Array.length_toList
theorem tname_size {l : List UInt8} (h : l.length < 1 ∨ 20 < l.length) : tname l = false := by
  unfold tname
  rcases h with h | h
  · rw [decide_eq_false (by omega)]; rfl
  · rw [decide_eq_false (p := l.length ≤ 20) (by omega)]; simp
theorem tname_first {l : List UInt8} (h : tlet ((l[0]?.getD 0).toNat : Int) = false) : tname l = false := by
  unfold tname
  rw [h]; simp
theorem tname_all {l : List UInt8} (h1 : 1 ≤ l.length) (h2 : l.length ≤ 20) (h3 : tlet ((l[0]?.getD 0).toNat : Int) = true) (h : ∀ j, j < l.length → (tlet ((l[j]?.getD 0).toNat : Int) || tdig ((l[j]?.getD 0).toNat : Int)) = true) : tname l = true := by
  unfold tname
  rw [decide_eq_true h1, decide_eq_true h2, h3]
  simp only [Bool.and_true, Bool.true_and, Bool.and_self]
  rw [List.all_eq_true]
  intro c hc
  obtain ⟨j, hj, e⟩ := List.getElem_of_mem hc
  have := h j hj
  rw [List.getElem?_eq_getElem hj, e] at this
  exact this
theorem tname_bad {l : List UInt8} {k : Nat} {c : UInt8} (hk : l[k]? = some c) (h1 : tlet (c.toNat : Int) = false) (h2 : tdig (c.toNat : Int) = false) : tname l = false := by
  unfold tname
  have : l.all (fun c => tlet (c.toNat : Int) || tdig (c.toNat : Int)) = false := by
    rw [List.all_eq_false]
    exact ⟨c, List.mem_of_getElem? hk, by simp [h1, h2]⟩
  rw [this]; simp
set_option maxHeartbeats 1600000 in
set_option maxRecDepth 100000 in
theorem tName_any (s : ByteArray) (w : World) (hm : s.size ≤ 9223372036854775807) : Calls Tryz.prog 23 #[.string s] w fun e w' => e = .returned (.bool (tname s.data.toList)) ∧ w = w' := by
  have hl := tsize_list s
  by_cases h1 : (s.size : Int) < 1
  · have HF := hid (tname_size (l := s.data.toList) (.inl (by omega)))
    clear hl
    go_enter Tryz.func23, Tryz.ntmps23
    go_wp2_with fail
    go_ret
    exact ⟨ret_bool HF.out.symm, rfl⟩
  by_cases h2 : 20 < (s.size : Int)
  · have HF := hid (tname_size (l := s.data.toList) (.inr (by omega)))
    clear hl
    go_enter Tryz.func23, Tryz.ntmps23
    go_wp2_with fail
    go_ret
    exact ⟨ret_bool HF.out.symm, rfl⟩
  have hp : 0 < s.size := by omega
  have b0 := tbyte_at s 0 hp
  have HL := hid (fun c V => tletter_any c V)
  have HD := hid (fun c V => tdigit_any c V)
  have hS := hid (And.intro hl b0)
  have hz : (s.size : Int) ≤ 20 := by omega
  by_cases h3 : tlet (s[0].toNat : Int) = false
  · have HF := hid (tname_first (l := s.data.toList) (by rw [b0]; exact h3))
    clear hl b0
    go_enter Tryz.func23, Tryz.ntmps23
    go_wp2_with fail
    refine Calls.mono (HL.out _ _) ?_
    rintro e w' ⟨rfl, rfl⟩
    rw [h3]
    go_wp2_with fail
    go_ret
    exact ⟨ret_bool HF.out.symm, rfl⟩
  · have h3' : tlet (s[0].toNat : Int) = true := by simpa using h3
    have HALL : Hid ((∀ j, j < s.size → (tlet ((s.data.toList[j]?.getD 0).toNat : Int) || tdig ((s.data.toList[j]?.getD 0).toNat : Int)) = true) → tname s.data.toList = true) := fun h => tname_all (by omega) (by omega) (by rw [b0]; exact h3') (by rw [hl]; exact h)
    clear hl b0 h3
    go_enter Tryz.func23, Tryz.ntmps23
    go_wp2_with fail
    refine Calls.mono (HL.out _ _) ?_
    rintro e w' ⟨rfl, rfl⟩
    rw [h3']
    go_wp2_with fail
    go_loop [20] (fun t => ∃ k : Nat, k ≤ s.size ∧ t = .int .i64 k ∧ Hid (∀ j : Nat, j < k → (tlet ((s.data.toList[j]?.getD 0).toNat : Int) || tdig ((s.data.toList[j]?.getD 0).toNat : Int)) = true)) (fun t => s.size - (intOf t).toNat)
    case atStart => exact ⟨0, by omega, rfl, fun j hj => by omega⟩
    case round =>
      obtain ⟨k, hk, rfl, HJ⟩ := hrel
      by_cases hlt : k < s.size
      · have bk := tbyte_at s k hlt
        by_cases d1 : tlet (s[k].toNat : Int) = true
        · have HJ' : Hid (∀ j : Nat, j < k + 1 → (tlet ((s.data.toList[j]?.getD 0).toNat : Int) || tdig ((s.data.toList[j]?.getD 0).toNat : Int)) = true) := fun j hj => by
            by_cases e : j = k
            · rw [e, bk]; show (tlet (s[k].toNat : Int) || _) = true; rw [d1]; rfl
            · exact HJ.out j (by omega)
          clear bk
          go_wp2_with fail
          refine Calls.mono (HL.out _ _) ?_
          rintro e w1 ⟨rfl, rfl⟩
          rw [d1]
          go_wp2_with fail
          go_round
          case rel => exact ⟨k + 1, by omega, by go_num, HJ'⟩
          case measure => simp [intOf]; omega
        · have d1' : tlet (s[k].toNat : Int) = false := by simpa using d1
          by_cases d2 : tdig (s[k].toNat : Int) = true
          · have HJ' : Hid (∀ j : Nat, j < k + 1 → (tlet ((s.data.toList[j]?.getD 0).toNat : Int) || tdig ((s.data.toList[j]?.getD 0).toNat : Int)) = true) := fun j hj => by
              by_cases e : j = k
              · rw [e, bk]; show (_ || tdig (s[k].toNat : Int)) = true; rw [d2]; simp
              · exact HJ.out j (by omega)
            clear bk d1
            go_wp2_with fail
            refine Calls.mono (HL.out _ _) ?_
            rintro e w1 ⟨rfl, rfl⟩
            rw [d1']
            go_wp2_with fail
            refine Calls.mono (HD.out _ _) ?_
            rintro e w1 ⟨rfl, rfl⟩
            rw [d2]
            go_wp2_with fail
            go_round
            case rel => exact ⟨k + 1, by omega, by go_num, HJ'⟩
            case measure => simp [intOf]; omega
          · have d2' : tdig (s[k].toNat : Int) = false := by simpa using d2
            have HF := hid (tname_bad bk d1' d2')
            clear bk d1 d2
            go_wp2_with fail
            refine Calls.mono (HL.out _ _) ?_
            rintro e w1 ⟨rfl, rfl⟩
            rw [d1']
            go_wp2_with fail
            refine Calls.mono (HD.out _ _) ?_
            rintro e w1 ⟨rfl, rfl⟩
            rw [d2']
            go_wp2_with fail
            go_ret
            exact ⟨ret_bool HF.out.symm, rfl⟩
      · have HF := hid (HALL.out (fun j hj => HJ.out j (by omega)))
        go_wp2_with fail
        go_ret
        exact ⟨ret_bool HF.out.symm, rfl⟩
end Go.Proofs.YtiaebiaeolaocaaGreatDoor

/- package rotor: size, commonDivisor, Check, Conj, half, of every rotor. -/
namespace Go.Proofs.YtiaebiaeolaocaaGreatDoor
open Go.RowKit
set_option linter.unusedVariables false

/-- A rotor may be. -/
def rOK (f n : Int) : Prop := 1 ≤ f ∧ f ≤ 1000 ∧ 1 ≤ n.natAbs ∧ n.natAbs ≤ 1000 ∧ f ≠ (n.natAbs : Int) ∧ Nat.gcd f.toNat n.natAbs = 1
instance (f n : Int) : Decidable (rOK f n) := by unfold rOK; infer_instance
def ochk (f n : Int) : Int := if rOK f n then 0 else 150
def in32 (f n : Int) : Prop := (-2147483648 ≤ f ∧ f ≤ 2147483647) ∧ (-2147483648 ≤ n ∧ n ≤ 2147483647)
theorem ochk_or (f n : Int) : ochk f n = 0 ∧ rOK f n ∨ ochk f n = 150 ∧ ¬ rOK f n := by
  unfold ochk
  by_cases h : rOK f n
  · rw [if_pos h]; exact .inl ⟨rfl, h⟩
  · rw [if_neg h]; exact .inr ⟨rfl, h⟩

set_option maxHeartbeats 800000 in
set_option maxRecDepth 100000 in
theorem osize_any (n : Int) (w : World) (h0 : -9223372036854775808 < n) (h1 : n ≤ 9223372036854775807) :
    Calls Tryz.prog 48 #[.int .i64 n] w fun e w' => e = .returned (.int .i64 (n.natAbs : Int)) ∧ w' = w := by
  by_cases h : n < 0
  · go_enter Tryz.func48, Tryz.ntmps48
    go_wp2_with fail
    go_ret
    exact ⟨ret_int (by omega), rfl⟩
  · go_enter Tryz.func48, Tryz.ntmps48
    go_wp2_with fail
    go_ret
    exact ⟨ret_int (by omega), rfl⟩

set_option maxHeartbeats 800000 in
set_option maxRecDepth 100000 in
theorem ocommon_any (a b : Nat) (w : World) (ha : a < 9223372036854775808) (hb : b < 9223372036854775808) :
    Calls Tryz.prog 49 #[.int .i64 (a : Int), .int .i64 (b : Int)] w fun e w' => e = .returned (.int .i64 (Nat.gcd a b : Nat)) ∧ Below w.heap.size w w' := by
  go_enter Tryz.func49, Tryz.ntmps49
  go_wp2_with fail
  go_loopw [0, 1] (fun x y wr => ∃ c d : Nat, x = .int .i64 (c : Int) ∧ y = .int .i64 (d : Int) ∧ c < 9223372036854775808 ∧ d < 9223372036854775808 ∧ Hid (Nat.gcd c d = Nat.gcd a b) ∧ Below w.heap.size w wr) (fun _ y _ => (intOf y).toNat)
  case atStart => exact ⟨a, b, rfl, rfl, ha, hb, (rfl : Nat.gcd a b = Nat.gcd a b), Below.refl _ _⟩
  case round =>
    obtain ⟨c, d, rfl, rfl, hc, hd, hg, hX⟩ := hrel
    by_cases h0 : d = 0
    · subst h0
      have HG : Hid (c = Nat.gcd a b) := by have := hg.out; rw [Nat.gcd_zero_right] at this; exact this
      clear hg
      go_wp2_with fail
      go_ret
      exact ⟨ret_int (by rw [HG.out]), hX⟩
    · have hm : c % d < d := Nat.mod_lt _ (by omega)
      have HG : Hid (Nat.gcd d (c % d) = Nat.gcd a b) := by show _ = _; rw [← hg.out, Nat.gcd_comm c d, Nat.gcd_rec d c, Nat.gcd_comm]
      have h0' : (d : Int) ≠ 0 := by omega
      have e2 : Int.tmod (c : Int) (d : Int) = ((c % d : Nat) : Int) := by
        rw [Int.tmod_eq_emod_of_nonneg (by omega)]; rfl
      clear hg
      go_wp2_with fail
      go_region
      all_goals
        go_wp2_with fail
        go_roundw
        case rel => exact ⟨d, c % d, rfl, by go_num, by omega, by omega, HG, hX.drew⟩
        case measure => simp [intOf]; omega

set_option maxHeartbeats 1600000 in
set_option maxRecDepth 100000 in
theorem ocheck_any (f n : Int) (w : World) (h : in32 f n) :
    Calls Tryz.prog 24 #[.agg #[.int .i32 f, .int .i32 n]] w fun e w' => e = .returned (.int .i64 (ochk f n)) ∧ Below w.heap.size w w' := by
  obtain ⟨⟨f0, f1⟩, n0, n1⟩ := h
  have hb0 : Below w.heap.size w (w.alloc (.cells #[.int .i32 f, .int .i32 n] 23)) := (Below.refl _ _).alloc (Nat.le_refl _) _
  have HN : Hid (¬ (1 ≤ f ∧ f ≤ 1000 ∧ 1 ≤ (n.natAbs : Int) ∧ (n.natAbs : Int) ≤ 1000 ∧ f ≠ (n.natAbs : Int)) → ochk f n = 150) := fun h => by unfold ochk; rw [if_neg]; unfold rOK; omega
  have HY : Hid ((1 ≤ f ∧ f ≤ 1000 ∧ 1 ≤ (n.natAbs : Int) ∧ (n.natAbs : Int) ≤ 1000 ∧ f ≠ (n.natAbs : Int)) → Nat.gcd f.toNat n.natAbs = 1 → ochk f n = 0) := fun h g => by unfold ochk; rw [if_pos]; unfold rOK; omega
  have HY' : Hid (¬ Nat.gcd f.toNat n.natAbs = 1 → ochk f n = 150) := fun g => by unfold ochk; rw [if_neg]; unfold rOK; omega
  have HD : Hid (1 ≤ f → 1 ≤ Nat.gcd f.toNat n.natAbs) := fun g => Nat.gcd_pos_of_pos_left _ (by omega)
  have HS := hid (fun V => osize_any n V (by omega) (by omega))
  have HC : Hid (∀ V : World, 1 ≤ f → Calls Tryz.prog 49 #[.int .i64 f, .int .i64 (n.natAbs : Int)] V fun e w' => e = .returned (.int .i64 (Nat.gcd f.toNat n.natAbs : Nat)) ∧ Below V.heap.size V w') := fun V h1 => by
    have := ocommon_any f.toNat n.natAbs V (by omega) (by omega)
    rw [show ((f.toNat : Nat) : Int) = f by omega] at this
    exact this
  obtain ⟨d, hD⟩ : ∃ d, Nat.gcd f.toNat n.natAbs = d := ⟨_, rfl⟩
  rw [hD] at HY HY' HC HD
  clear hD
  have m1 : n.natAbs ≤ 2147483648 := by omega
  generalize n.natAbs = N at *
  go_enter Tryz.func24, Tryz.ntmps24
  go_wp2_with fail
  go_quiet ((go_at_call 48; exact Calls.quiet_of_same (HS.out _)))
  clear HS
  have HB0 : Hid (Below w.heap.size w ((w.alloc (.cells #[.int .i32 f, .int .i32 n] 23)).drewN nq)) := bdrewN hb0 nq
  generalize (w.alloc (.cells #[.int .i32 f, .int .i32 n] 23)).drewN nq = X at *
  clear hb0
  go_wp2_with fail
  all_goals try (go_ret; exact ⟨ret_int (HN.out (by omega)).symm, HB0.out⟩)
  refine Calls.mono (HC.out _ (by omega)) ?_
  rintro e w1 ⟨rfl, hb1⟩
  by_cases h1 : d = 1
  · subst h1
    go_wp2_with fail
    go_ret
    exact ⟨ret_int (HY.out (by omega) (by trivial)).symm, b2 HB0.out hb1⟩
  · have h1' : (1 : Int) < (d : Int) := by have := HD.out (by omega); omega
    go_wp2_with fail
    go_ret
    exact ⟨ret_int (HY'.out h1).symm, b2 HB0.out hb1⟩
end Go.Proofs.YtiaebiaeolaocaaGreatDoor

/- package tide: Check. -/
namespace Go.Proofs.YtiaebiaeolaocaaGreatDoor
open Go.RowKit
set_option linter.unusedVariables false

/-- What Check tells: of the name, the rotor, the number. -/
def tchk (l : List UInt8) (f n : Int) (g : Int) : Int := if tname l = true then fstE (ochk f n) g else 4
theorem tchk_name {l : List UInt8} (f n g : Int) (h : tname l = false) : tchk l f n g = 4 := by unfold tchk; rw [if_neg (by rw [h]; decide)]
theorem tchk_rest {l : List UInt8} (f n g : Int) (h : tname l = true) : tchk l f n g = fstE (ochk f n) g := by unfold tchk; rw [if_pos h]
set_option maxHeartbeats 1600000 in
set_option maxRecDepth 100000 in
theorem tCheck_any (s : ByteArray) (f r : Int) (n : Bool) (a : Option Addr) (ca : Nat) (xs : List Int) (b : Option Addr) (cb : Nat) (ys : List Int) (m : Bool) (c : Option Addr) (cc : Nat) (us : List Int) (d : Option Addr) (cd : Nat) (vs : List Int) (w : World) (hz : s.size ≤ 9223372036854775807) (hr : in32 f r) (sx : Sl w (.slice a xs.length ca) xs) (sy : Sl w (.slice b ys.length cb) ys) (su : Sl w (.slice c us.length cc) us) (sv : Sl w (.slice d vs.length cd) vs) :
    Calls Tryz.prog 7 #[.agg #[.string s, .int .i32 f, .int .i32 r, .bool n, .slice a xs.length ca, .slice b ys.length cb, .bool m, .slice c us.length cc, .slice d vs.length cd]] w fun e w' => e = .returned (.int .i64 (tchk s.data.toList f r (gchk n xs ys m us vs))) ∧ Below w.heap.size w w' := by
  have HX := hid (Box.made w 30 #[.string s, .int .i32 f, .int .i32 r, .bool n, .slice a xs.length ca, .slice b ys.length cb, .bool m, .slice c us.length cc, .slice d vs.length cd])
  have HB := hid (alloc_later w (.cells #[.string s, .int .i32 f, .int .i32 r, .bool n, .slice a xs.length ca, .slice b ys.length cb, .bool m, .slice c us.length cc, .slice d vs.length cd] 30))
  obtain ⟨X, hX⟩ : ∃ X, w.alloc (.cells #[.string s, .int .i32 f, .int .i32 r, .bool n, .slice a xs.length ca, .slice b ys.length cb, .bool m, .slice c us.length cc, .slice d vs.length cd] 30) = X := ⟨_, rfl⟩
  rw [hX] at HX HB
  have HN := hid (tName_any s X hz)
  have HR := hid (ocheck_any f r X hr)
  have HG : Hid (∀ V, Below w.heap.size w V → Calls Tryz.prog 28 #[.agg #[.bool n, .slice a xs.length ca, .slice b ys.length cb, .bool m, .slice c us.length cc, .slice d vs.length cd]] V fun e w' => e = .returned (.int .i64 (gchk n xs ys m us vs)) ∧ Below V.heap.size V w') := fun V hv => gcheck_any n _ xs _ ys m _ us _ vs V (sx.later hv) (sy.later hv) (su.later hv) (sv.later hv)
  generalize gchk n xs ys m us vs = G at *
  have HK1 := hid (tchk_name (l := s.data.toList) f r G)
  have HK2 := hid (tchk_rest (l := s.data.toList) f r G)
  generalize tchk s.data.toList f r G = T at *
  generalize tname s.data.toList = NM at *
  generalize ochk f r = E at *
  clear sx sy su sv hr
  have k0 : X.cell? ⟨w.heap.size, 0, none⟩ = some (.string s) := HX.out.cell 0
  have k1 : X.cell? ⟨w.heap.size, 1, none⟩ = some (.int .i32 f) := HX.out.cell 1
  have k2 : X.cell? ⟨w.heap.size, 2, none⟩ = some (.int .i32 r) := HX.out.cell 2
  have k3 : X.cell? ⟨w.heap.size, 3, none⟩ = some (.bool n) := HX.out.cell 3
  have k4 : X.cell? ⟨w.heap.size, 4, none⟩ = some (.slice a xs.length ca) := HX.out.cell 4
  have k5 : X.cell? ⟨w.heap.size, 5, none⟩ = some (.slice b ys.length cb) := HX.out.cell 5
  have k6 : X.cell? ⟨w.heap.size, 6, none⟩ = some (.bool m) := HX.out.cell 6
  have k7 : X.cell? ⟨w.heap.size, 7, none⟩ = some (.slice c us.length cc) := HX.out.cell 7
  have k8 : X.cell? ⟨w.heap.size, 8, none⟩ = some (.slice d vs.length cd) := HX.out.cell 8
  cases NM with
  | false =>
    have HT := hid (HK1.out rfl)
    go_enter Tryz.func7, Tryz.ntmps7
    go_wp2_with fail
    refine Calls.mono HN.out ?_
    rintro e w1 ⟨rfl, rfl⟩
    go_wp2_with fail
    go_ret
    exact ⟨ret_int HT.out.symm, HB.out⟩
  | true =>
    have HT := hid (HK2.out rfl)
    by_cases hE : E = 0
    · subst hE
      have HT2 := hid (HT.out.trans (fstE_zero G))
      clear HT
      go_enter Tryz.func7, Tryz.ntmps7
      go_wp2_with fail
      refine Calls.mono HN.out ?_
      rintro e w1 ⟨rfl, rfl⟩
      go_wp2_with fail
      refine Calls.mono HR.out ?_
      rintro e w1 ⟨rfl, hb1⟩
      have HX1 := hid (HX.out.later hb1 HX.out.lt)
      have HB1 := hid (bt HB.out hb1)
      clear k0 k1 k2 k3 k4 k5 k6 k7 k8 hb1
      have k3 : w1.cell? ⟨w.heap.size, 3, none⟩ = some (.bool n) := HX1.out.cell 3
      have k4 : w1.cell? ⟨w.heap.size, 4, none⟩ = some (.slice a xs.length ca) := HX1.out.cell 4
      have k5 : w1.cell? ⟨w.heap.size, 5, none⟩ = some (.slice b ys.length cb) := HX1.out.cell 5
      have k6 : w1.cell? ⟨w.heap.size, 6, none⟩ = some (.bool m) := HX1.out.cell 6
      have k7 : w1.cell? ⟨w.heap.size, 7, none⟩ = some (.slice c us.length cc) := HX1.out.cell 7
      have k8 : w1.cell? ⟨w.heap.size, 8, none⟩ = some (.slice d vs.length cd) := HX1.out.cell 8
      go_wp2_with fail
      refine Calls.mono (HG.out _ HB1.out) ?_
      rintro e w2 ⟨rfl, hb2⟩
      have HB2 := hid (bt HB1.out hb2)
      clear hb2 k3 k4 k5 k6 k7 k8
      go_wp2_with fail
      go_ret
      exact ⟨ret_int HT2.out.symm, HB2.out⟩
    · have HT2 := hid (HT.out.trans (fstE_err G hE))
      have hE' : (E == 0) = false := by simp [hE]
      have hE2 : (E != 0) = true := by simp [hE]
      clear HT
      go_enter Tryz.func7, Tryz.ntmps7
      go_wp2_with fail
      refine Calls.mono HN.out ?_
      rintro e w1 ⟨rfl, rfl⟩
      go_wp2_with fail
      refine Calls.mono HR.out ?_
      rintro e w1 ⟨rfl, hb1⟩
      have HB1 := hid (bt HB.out hb1)
      clear hb1 k0 k1 k2 k3 k4 k5 k6 k7 k8
      go_wp2_with fail
      go_ret
      exact ⟨ret_int HT2.out.symm, HB1.out⟩
end Go.Proofs.YtiaebiaeolaocaaGreatDoor

/- package tide: Same, of any two. -/
namespace Go.Proofs.YtiaebiaeolaocaaGreatDoor
open Go.RowKit
set_option linter.unusedVariables false
set_option linter.unusedSimpArgs false

theorem troEq (a b c d : Int) (w : World) : (Op.equalIn 10000 23 (.agg #[.int .i32 a, .int .i32 b]) (.agg #[.int .i32 c, .int .i32 d])).run Tryz.prog w = .ok (a == c && b == d) w := by
  have u1 := Tryz.underlying21
  have a1 := Tryz.isAgg21
  have z1 := Tryz.sizeOf21
  have hS : Tryz.prog.underlying 23 = some (.struct (Tryz.prog.fieldsOf 23)) := by kernel_rfl
  rw [show (10000 : Nat) = 9999 + 1 from rfl, run_equalIn_agg w 9999 23 _ _ hS (by kernel_rfl)]
  simp only [Program.fieldsOf, Tryz.underlying23]
  go_simp
  by_cases h1 : a = c <;> by_cases h2 : b = d <;> simp [h1, h2]
theorem tstr_other {s t : ByteArray} (h : ¬ s = t) : (s.toList == t.toList) = false := by
  rw [ByteArray.toList_eq, ByteArray.toList_eq]
  exact beq_eq_false_iff_ne.2 (fun e => h (ByteArray.ext (Array.toList_inj.1 e)))
set_option maxHeartbeats 1600000 in
set_option maxRecDepth 100000 in
theorem tnsame_any (n1 : Bool) (a1 : Option Addr) (ca1 : Nat) (xs1 : List Int) (b1 : Option Addr) (cb1 : Nat) (ys1 : List Int) (m1 : Bool) (c1 : Option Addr) (cc1 : Nat) (us1 : List Int) (d1 : Option Addr) (cd1 : Nat) (vs1 : List Int) (n2 : Bool) (a2 : Option Addr) (ca2 : Nat) (xs2 : List Int) (b2 : Option Addr) (cb2 : Nat) (ys2 : List Int) (m2 : Bool) (c2 : Option Addr) (cc2 : Nat) (us2 : List Int) (d2 : Option Addr) (cd2 : Nat) (vs2 : List Int) (w : World) (sx1 : Sl w (.slice a1 xs1.length ca1) xs1) (sy1 : Sl w (.slice b1 ys1.length cb1) ys1) (su1 : Sl w (.slice c1 us1.length cc1) us1) (sv1 : Sl w (.slice d1 vs1.length cd1) vs1) (sx2 : Sl w (.slice a2 xs2.length ca2) xs2) (sy2 : Sl w (.slice b2 ys2.length cb2) ys2) (su2 : Sl w (.slice c2 us2.length cc2) us2) (sv2 : Sl w (.slice d2 vs2.length cd2) vs2) (lxs1 : xs1.length ≤ 281474976710656) (lys1 : ys1.length ≤ 281474976710656) (lus1 : us1.length ≤ 281474976710656) (lvs1 : vs1.length ≤ 281474976710656) (lxs2 : xs2.length ≤ 281474976710656) (lys2 : ys2.length ≤ 281474976710656) (lus2 : us2.length ≤ 281474976710656) (lvs2 : vs2.length ≤ 281474976710656) :
    Calls Tryz.prog 30 #[.agg #[.bool n1, .slice a1 xs1.length ca1, .slice b1 ys1.length cb1, .bool m1, .slice c1 us1.length cc1, .slice d1 vs1.length cd1], .agg #[.bool n2, .slice a2 xs2.length ca2, .slice b2 ys2.length cb2, .bool m2, .slice c2 us2.length cc2, .slice d2 vs2.length cd2]] w fun x w' => x = .returned (.bool (decide (n1 = n2 ∧ xs1 = xs2 ∧ ys1 = ys2) && decide (m1 = m2 ∧ us1 = us2 ∧ vs1 = vs2))) ∧ Below w.heap.size w w' := by
  have HX := hid (boxes2r w 67 #[.bool n1, .slice a1 xs1.length ca1, .slice b1 ys1.length cb1, .bool m1, .slice c1 us1.length cc1, .slice d1 vs1.length cd1] #[.bool n2, .slice a2 xs2.length ca2, .slice b2 ys2.length cb2, .bool m2, .slice c2 us2.length cc2, .slice d2 vs2.length cd2])
  obtain ⟨X, hX⟩ : ∃ X, (w.alloc (.cells #[.bool n1, .slice a1 xs1.length ca1, .slice b1 ys1.length cb1, .bool m1, .slice c1 us1.length cc1, .slice d1 vs1.length cd1] 67)).alloc (.cells #[.bool n2, .slice a2 xs2.length ca2, .slice b2 ys2.length cb2, .bool m2, .slice c2 us2.length cc2, .slice d2 vs2.length cd2] 67) = X := ⟨_, rfl⟩
  rw [hX] at HX
  have H1 : Hid (∀ V, Below w.heap.size w V → Calls Tryz.prog 54 #[.agg #[.bool n1, .slice a1 xs1.length ca1, .slice b1 ys1.length cb1], .agg #[.bool n2, .slice a2 xs2.length ca2, .slice b2 ys2.length cb2]] V fun e w' => e = .returned (.bool (decide (n1 = n2 ∧ xs1 = xs2 ∧ ys1 = ys2))) ∧ Below V.heap.size V w') := hid (fun V hv => rSame_any n1 a1 ca1 xs1 b1 cb1 ys1 n2 a2 ca2 xs2 b2 cb2 ys2 V (sx1.later hv) (sy1.later hv) (sx2.later hv) (sy2.later hv) lxs1 lys1 lxs2 lys2)
  have H2 : Hid (∀ V, Below w.heap.size w V → Calls Tryz.prog 54 #[.agg #[.bool m1, .slice c1 us1.length cc1, .slice d1 vs1.length cd1], .agg #[.bool m2, .slice c2 us2.length cc2, .slice d2 vs2.length cd2]] V fun e w' => e = .returned (.bool (decide (m1 = m2 ∧ us1 = us2 ∧ vs1 = vs2))) ∧ Below V.heap.size V w') := hid (fun V hv => rSame_any m1 c1 cc1 us1 d1 cd1 vs1 m2 c2 cc2 us2 d2 cd2 vs2 V (su1.later hv) (sv1.later hv) (su2.later hv) (sv2.later hv) lus1 lvs1 lus2 lvs2)
  clear sx1 sy1 su1 sv1 sx2 sy2 su2 sv2 lxs1 lys1 lus1 lvs1 lxs2 lys2 lus2 lvs2
  generalize decide (n1 = n2 ∧ xs1 = xs2 ∧ ys1 = ys2) = z1 at *
  generalize decide (m1 = m2 ∧ us1 = us2 ∧ vs1 = vs2) = z2 at *
  have ka0 : X.cell? ⟨w.heap.size, 0, none⟩ = some (.bool n1) := HX.out.1.cell 0
  have ka1 : X.cell? ⟨w.heap.size, 1, none⟩ = some (.slice a1 xs1.length ca1) := HX.out.1.cell 1
  have ka2 : X.cell? ⟨w.heap.size, 2, none⟩ = some (.slice b1 ys1.length cb1) := HX.out.1.cell 2
  have ka3 : X.cell? ⟨w.heap.size, 3, none⟩ = some (.bool m1) := HX.out.1.cell 3
  have ka4 : X.cell? ⟨w.heap.size, 4, none⟩ = some (.slice c1 us1.length cc1) := HX.out.1.cell 4
  have ka5 : X.cell? ⟨w.heap.size, 5, none⟩ = some (.slice d1 vs1.length cd1) := HX.out.1.cell 5
  have kb0 : X.cell? ⟨w.heap.size + 1, 0, none⟩ = some (.bool n2) := HX.out.2.1.cell 0
  have kb1 : X.cell? ⟨w.heap.size + 1, 1, none⟩ = some (.slice a2 xs2.length ca2) := HX.out.2.1.cell 1
  have kb2 : X.cell? ⟨w.heap.size + 1, 2, none⟩ = some (.slice b2 ys2.length cb2) := HX.out.2.1.cell 2
  have kb3 : X.cell? ⟨w.heap.size + 1, 3, none⟩ = some (.bool m2) := HX.out.2.1.cell 3
  have kb4 : X.cell? ⟨w.heap.size + 1, 4, none⟩ = some (.slice c2 us2.length cc2) := HX.out.2.1.cell 4
  have kb5 : X.cell? ⟨w.heap.size + 1, 5, none⟩ = some (.slice d2 vs2.length cd2) := HX.out.2.1.cell 5
  go_enter Tryz.func30, Tryz.ntmps30
  go_wp2_with fail
  refine Calls.mono (H1.out _ HX.out.2.2) ?_
  rintro x w1 ⟨rfl, hb1⟩
  have HW1 := hid (bt HX.out.2.2 hb1)
  have HA1 := hid (HX.out.1.later hb1 HX.out.1.lt)
  have HB1 := hid (HX.out.2.1.later hb1 HX.out.2.1.lt)
  clear ka0 ka1 ka2 ka3 ka4 ka5 kb0 kb1 kb2 kb3 kb4 kb5 hb1 H1
  cases z1 with
  | false =>
    go_wp2_with fail
    go_ret
    exact ⟨rfl, HW1.out⟩
  | true =>
    have ka3 : w1.cell? ⟨w.heap.size, 3, none⟩ = some (.bool m1) := HA1.out.cell 3
    have ka4 : w1.cell? ⟨w.heap.size, 4, none⟩ = some (.slice c1 us1.length cc1) := HA1.out.cell 4
    have ka5 : w1.cell? ⟨w.heap.size, 5, none⟩ = some (.slice d1 vs1.length cd1) := HA1.out.cell 5
    have kb3 : w1.cell? ⟨w.heap.size + 1, 3, none⟩ = some (.bool m2) := HB1.out.cell 3
    have kb4 : w1.cell? ⟨w.heap.size + 1, 4, none⟩ = some (.slice c2 us2.length cc2) := HB1.out.cell 4
    have kb5 : w1.cell? ⟨w.heap.size + 1, 5, none⟩ = some (.slice d2 vs2.length cd2) := HB1.out.cell 5
    go_wp2_with fail
    refine Calls.mono (H2.out _ HW1.out) ?_
    rintro x w2 ⟨rfl, hb2⟩
    have HW2 := hid (bt HW1.out hb2)
    clear ka3 ka4 ka5 kb3 kb4 kb5 hb2 H2
    go_wp2_with fail
    go_ret
    exact ⟨by simp, HW2.out⟩
set_option maxHeartbeats 1600000 in
set_option maxRecDepth 100000 in
theorem tSame_any (s1 : ByteArray) (f1 r1 : Int) (n1 : Bool) (a1 : Option Addr) (ca1 : Nat) (xs1 : List Int) (b1 : Option Addr) (cb1 : Nat) (ys1 : List Int) (m1 : Bool) (c1 : Option Addr) (cc1 : Nat) (us1 : List Int) (d1 : Option Addr) (cd1 : Nat) (vs1 : List Int) (s2 : ByteArray) (f2 r2 : Int) (n2 : Bool) (a2 : Option Addr) (ca2 : Nat) (xs2 : List Int) (b2 : Option Addr) (cb2 : Nat) (ys2 : List Int) (m2 : Bool) (c2 : Option Addr) (cc2 : Nat) (us2 : List Int) (d2 : Option Addr) (cd2 : Nat) (vs2 : List Int) (w : World) (sx1 : Sl w (.slice a1 xs1.length ca1) xs1) (sy1 : Sl w (.slice b1 ys1.length cb1) ys1) (su1 : Sl w (.slice c1 us1.length cc1) us1) (sv1 : Sl w (.slice d1 vs1.length cd1) vs1) (sx2 : Sl w (.slice a2 xs2.length ca2) xs2) (sy2 : Sl w (.slice b2 ys2.length cb2) ys2) (su2 : Sl w (.slice c2 us2.length cc2) us2) (sv2 : Sl w (.slice d2 vs2.length cd2) vs2) (lxs1 : xs1.length ≤ 281474976710656) (lys1 : ys1.length ≤ 281474976710656) (lus1 : us1.length ≤ 281474976710656) (lvs1 : vs1.length ≤ 281474976710656) (lxs2 : xs2.length ≤ 281474976710656) (lys2 : ys2.length ≤ 281474976710656) (lus2 : us2.length ≤ 281474976710656) (lvs2 : vs2.length ≤ 281474976710656) :
    Calls Tryz.prog 9 #[.agg #[.string s1, .int .i32 f1, .int .i32 r1, .bool n1, .slice a1 xs1.length ca1, .slice b1 ys1.length cb1, .bool m1, .slice c1 us1.length cc1, .slice d1 vs1.length cd1], .agg #[.string s2, .int .i32 f2, .int .i32 r2, .bool n2, .slice a2 xs2.length ca2, .slice b2 ys2.length cb2, .bool m2, .slice c2 us2.length cc2, .slice d2 vs2.length cd2]] w fun x w' => x = .returned (.bool (decide (s1 = s2) && (f1 == f2 && r1 == r2) && (decide (n1 = n2 ∧ xs1 = xs2 ∧ ys1 = ys2) && decide (m1 = m2 ∧ us1 = us2 ∧ vs1 = vs2)))) ∧ Below w.heap.size w w' := by
  have HX := hid (boxes2r w 30 #[.string s1, .int .i32 f1, .int .i32 r1, .bool n1, .slice a1 xs1.length ca1, .slice b1 ys1.length cb1, .bool m1, .slice c1 us1.length cc1, .slice d1 vs1.length cd1] #[.string s2, .int .i32 f2, .int .i32 r2, .bool n2, .slice a2 xs2.length ca2, .slice b2 ys2.length cb2, .bool m2, .slice c2 us2.length cc2, .slice d2 vs2.length cd2])
  obtain ⟨X, hX⟩ : ∃ X, (w.alloc (.cells #[.string s1, .int .i32 f1, .int .i32 r1, .bool n1, .slice a1 xs1.length ca1, .slice b1 ys1.length cb1, .bool m1, .slice c1 us1.length cc1, .slice d1 vs1.length cd1] 30)).alloc (.cells #[.string s2, .int .i32 f2, .int .i32 r2, .bool n2, .slice a2 xs2.length ca2, .slice b2 ys2.length cb2, .bool m2, .slice c2 us2.length cc2, .slice d2 vs2.length cd2] 30) = X := ⟨_, rfl⟩
  rw [hX] at HX
  have H1 := hid (tnsame_any n1 a1 ca1 xs1 b1 cb1 ys1 m1 c1 cc1 us1 d1 cd1 vs1 n2 a2 ca2 xs2 b2 cb2 ys2 m2 c2 cc2 us2 d2 cd2 vs2 X (sx1.later HX.out.2.2) (sy1.later HX.out.2.2) (su1.later HX.out.2.2) (sv1.later HX.out.2.2) (sx2.later HX.out.2.2) (sy2.later HX.out.2.2) (su2.later HX.out.2.2) (sv2.later HX.out.2.2) lxs1 lys1 lus1 lvs1 lxs2 lys2 lus2 lvs2)
  clear sx1 sy1 su1 sv1 sx2 sy2 su2 sv2 lxs1 lys1 lus1 lvs1 lxs2 lys2 lus2 lvs2
  generalize (decide (n1 = n2 ∧ xs1 = xs2 ∧ ys1 = ys2) && decide (m1 = m2 ∧ us1 = us2 ∧ vs1 = vs2)) = z at *
  have hEQ := troEq f1 r1 f2 r2
  have ka0 : X.cell? ⟨w.heap.size, 0, none⟩ = some (.string s1) := HX.out.1.cell 0
  have ka1 : X.cell? ⟨w.heap.size, 1, none⟩ = some (.int .i32 f1) := HX.out.1.cell 1
  have ka2 : X.cell? ⟨w.heap.size, 2, none⟩ = some (.int .i32 r1) := HX.out.1.cell 2
  have ka3 : X.cell? ⟨w.heap.size, 3, none⟩ = some (.bool n1) := HX.out.1.cell 3
  have ka4 : X.cell? ⟨w.heap.size, 4, none⟩ = some (.slice a1 xs1.length ca1) := HX.out.1.cell 4
  have ka5 : X.cell? ⟨w.heap.size, 5, none⟩ = some (.slice b1 ys1.length cb1) := HX.out.1.cell 5
  have ka6 : X.cell? ⟨w.heap.size, 6, none⟩ = some (.bool m1) := HX.out.1.cell 6
  have ka7 : X.cell? ⟨w.heap.size, 7, none⟩ = some (.slice c1 us1.length cc1) := HX.out.1.cell 7
  have ka8 : X.cell? ⟨w.heap.size, 8, none⟩ = some (.slice d1 vs1.length cd1) := HX.out.1.cell 8
  have kb0 : X.cell? ⟨w.heap.size + 1, 0, none⟩ = some (.string s2) := HX.out.2.1.cell 0
  have kb1 : X.cell? ⟨w.heap.size + 1, 1, none⟩ = some (.int .i32 f2) := HX.out.2.1.cell 1
  have kb2 : X.cell? ⟨w.heap.size + 1, 2, none⟩ = some (.int .i32 r2) := HX.out.2.1.cell 2
  have kb3 : X.cell? ⟨w.heap.size + 1, 3, none⟩ = some (.bool n2) := HX.out.2.1.cell 3
  have kb4 : X.cell? ⟨w.heap.size + 1, 4, none⟩ = some (.slice a2 xs2.length ca2) := HX.out.2.1.cell 4
  have kb5 : X.cell? ⟨w.heap.size + 1, 5, none⟩ = some (.slice b2 ys2.length cb2) := HX.out.2.1.cell 5
  have kb6 : X.cell? ⟨w.heap.size + 1, 6, none⟩ = some (.bool m2) := HX.out.2.1.cell 6
  have kb7 : X.cell? ⟨w.heap.size + 1, 7, none⟩ = some (.slice c2 us2.length cc2) := HX.out.2.1.cell 7
  have kb8 : X.cell? ⟨w.heap.size + 1, 8, none⟩ = some (.slice d2 vs2.length cd2) := HX.out.2.1.cell 8
  by_cases hs : s1 = s2
  · subst hs
    generalize (f1 == f2 && r1 == r2) = y at *
    cases y with
    | false =>
      go_enter Tryz.func9, Tryz.ntmps9
      go_wp2_with fail
      go_ret
      exact ⟨by simp, HX.out.2.2⟩
    | true =>
      go_enter Tryz.func9, Tryz.ntmps9
      go_wp2_with fail
      refine Calls.mono H1.out ?_
      rintro x w1 ⟨rfl, hb1⟩
      have HW1 := hid (bt HX.out.2.2 hb1)
      clear ka0 ka1 ka2 ka3 ka4 ka5 ka6 ka7 ka8 kb0 kb1 kb2 kb3 kb4 kb5 kb6 kb7 kb8 hb1 H1
      go_wp2_with fail
      go_ret
      exact ⟨by simp, HW1.out⟩
  · have hs' := tstr_other hs
    have HD : Hid (decide (s1 = s2) = false) := decide_eq_false hs
    rw [HD.out]
    clear hs
    go_enter Tryz.func9, Tryz.ntmps9
    go_wp2_with fail
    go_ret
    exact ⟨by simp [HD.out], HX.out.2.2⟩
end Go.Proofs.YtiaebiaeolaocaaGreatDoor

/- package rotor: Conj, half, Order, of every two rotors. -/
namespace Go.Proofs.YtiaebiaeolaocaaGreatDoor
open Go.RowKit
set_option linter.unusedVariables false

/-- The conjugate, or the fault. -/
def rConj (f n : Int) : Int × Int × Int := if rOK f n then (f, -n, 0) else (0, 0, 150)

set_option maxHeartbeats 1600000 in
set_option maxRecDepth 100000 in
theorem rconj_any (f n : Int) (w : World) (h : in32 f n) :
    Calls Tryz.prog 11 #[.agg #[.int .i32 f, .int .i32 n]] w fun e w' => e = .returned (.tuple #[.agg #[.int .i32 (rConj f n).1, .int .i32 (rConj f n).2.1], .int .i64 (rConj f n).2.2]) ∧ Below w.heap.size w w' := by
  have HX := hid (boxes2 w 23 #[.int .i32 f, .int .i32 n] #[.int .i32 0, .int .i32 0])
  have HC := hid (fun V => ocheck_any f n V h)
  rcases ochk_or f n with ⟨e0, h0⟩ | ⟨e0, h0⟩
  · have hR : rConj f n = (f, -n, 0) := if_pos h0
    rw [hR]
    rw [e0] at HC
    have hn1 : -1000 ≤ n := by have := h0.2.2.2.1; omega
    have hn2 : n ≤ 1000 := by have := h0.2.2.2.1; omega
    obtain ⟨⟨f0, f1⟩, _⟩ := h
    clear h0 hR e0
    go_enter Tryz.func11, Tryz.ntmps11
    go_wp2_with fail
    generalize (w.alloc (.cells #[.int .i32 f, .int .i32 n] 23)).alloc (.cells #[.int .i32 0, .int .i32 0] 23) = X at *
    refine Calls.mono (HC.out X) ?_
    rintro e w1 ⟨rfl, hb1⟩
    obtain ⟨c0, c1, g0, g1⟩ := fbox_facts HX.out.1 hb1
    obtain ⟨c2, c3, g2, g3⟩ := fbox_facts HX.out.2.1 hb1
    have HB := hid (b2 HX.out.2.2 hb1)
    clear HX HC hb1
    go_wp2_with fail
    refine bodyPost_ret (v := .tuple #[.agg #[.int .i32 f, .int .i32 (-n)], .int .i64 0]) (by simp [results, Tryz.results11, go_sem, c2, c3]) rfl ?_
    exact ⟨rfl, fput2 HB.out _ (by omega) _ _⟩
  · have hR : rConj f n = (0, 0, 150) := if_neg h0
    rw [hR]
    rw [e0] at HC
    clear h0 hR e0 h
    go_enter Tryz.func11, Tryz.ntmps11
    go_wp2_with fail
    generalize (w.alloc (.cells #[.int .i32 f, .int .i32 n] 23)).alloc (.cells #[.int .i32 0, .int .i32 0] 23) = X at *
    refine Calls.mono (HC.out X) ?_
    rintro e w1 ⟨rfl, hb1⟩
    obtain ⟨c0, c1, g0, g1⟩ := fbox_facts HX.out.1 hb1
    obtain ⟨c2, c3, g2, g3⟩ := fbox_facts HX.out.2.1 hb1
    have HB := hid (b2 HX.out.2.2 hb1)
    clear HX HC hb1
    go_wp2_with fail
    refine bodyPost_ret (v := .tuple #[.agg #[.int .i32 0, .int .i32 0], .int .i64 150]) (by simp [results, Tryz.results11, go_sem, c2, c3]) rfl ?_
    first | exact ⟨rfl, HB.out⟩ | exact ⟨rfl, fput2 HB.out _ (by omega) _ _⟩

/-- Which one is ahead. -/
def cmpV (x y : Int) : Int := if x < y then -1 else if y < x then 1 else 0

theorem small_mul {x y : Int} (h1 : -1000 ≤ x) (h2 : x ≤ 1000) (h3 : -1000 ≤ y) (h4 : y ≤ 1000) : -1000000 ≤ x * y ∧ x * y ≤ 1000000 := by
  have a1 := Int.mul_nonneg (show 0 ≤ 1000 - x by omega) (show 0 ≤ 1000 - y by omega)
  have a2 := Int.mul_nonneg (show 0 ≤ 1000 + x by omega) (show 0 ≤ 1000 + y by omega)
  have a3 := Int.mul_nonneg (show 0 ≤ 1000 - x by omega) (show 0 ≤ 1000 + y by omega)
  have a4 := Int.mul_nonneg (show 0 ≤ 1000 + x by omega) (show 0 ≤ 1000 - y by omega)
  constructor <;> grind
/-- How two rotors stand on the way round, or the first fault. -/
def rOrd (f n g m : Int) : Int × Int := if rOK f n then (if rOK g m then (if cmpV (if 0 < n then 0 else 1) (if 0 < m then 0 else 1) = 0 then (cmpV (n * g) (m * f), 0) else (cmpV (if 0 < n then 0 else 1) (if 0 < m then 0 else 1), 0)) else (0, 150)) else (0, 150)

end Go.Proofs.YtiaebiaeolaocaaGreatDoor

/- The laws' small, Small of layers 4 and 13: have the words a length that the laws look at? -/
namespace Go.Proofs.YtiaebiaeolaocaaGreatDoor
open Go.RowKit
set_option linter.unusedVariables false
set_option linter.unusedSimpArgs false

def smallL (k : Nat) (most : Int) : Bool := decide ((k : Int) ≤ most) || (decide (2048 < (k : Int)) && decide ((k : Int) < 2057))
theorem smallL_short {k : Nat} {most : Int} (h : k ≤ 2048) : smallL k most = decide ((k : Int) ≤ most) := by
  unfold smallL
  rw [decide_eq_false (p := 2048 < (k : Int)) (by omega)]
  simp
set_option maxHeartbeats 800000 in
set_option maxRecDepth 100000 in
theorem lsmall_any (a : Option Addr) (k c : Nat) (most : Int) (w : World) : Calls Tryz.prog 53 #[.slice a k c, .int .i64 most] w fun e w' => e = .returned (.bool (smallL k most)) ∧ w = w' := by
  have HR : Hid (smallL k most = (decide ((k : Int) ≤ most) || (decide (2048 < (k : Int)) && decide ((k : Int) < 2057)))) := rfl
  by_cases h1 : (k : Int) ≤ most
  · go_enter Tryz.func53, Tryz.ntmps53
    go_wp2_with fail
    go_ret
    exact ⟨by rw [HR.out]; simp [h1], rfl⟩
  · by_cases h2 : 2048 < (k : Int)
    · by_cases h3 : (k : Int) < 2057
      · go_enter Tryz.func53, Tryz.ntmps53
        go_wp2_with fail
        go_ret
        exact ⟨by rw [HR.out]; simp [h1, h2, h3], rfl⟩
      · go_enter Tryz.func53, Tryz.ntmps53
        go_wp2_with fail
        go_ret
        exact ⟨by rw [HR.out]; simp [h1, h2, h3], rfl⟩
    · go_enter Tryz.func53, Tryz.ntmps53
      go_wp2_with fail
      go_ret
      exact ⟨by rw [HR.out, decide_eq_false (p := 2048 < (k : Int)) (by omega)]; simp [h1], rfl⟩
set_option maxHeartbeats 800000 in
set_option maxRecDepth 100000 in
theorem lSmall_any (n : Bool) (a : Option Addr) (ka ca : Nat) (b : Option Addr) (kb cb : Nat) (most : Int) (w : World) : Calls Tryz.prog 29 #[.agg #[.bool n, .slice a ka ca, .slice b kb cb], .int .i64 most] w fun e w' => e = .returned (.bool (smallL ka most && smallL kb most)) ∧ Below w.heap.size w w' := by
  have HX := hid (Box.made w 26 #[.bool n, .slice a ka ca, .slice b kb cb])
  have HB := hid (alloc_later w (.cells #[.bool n, .slice a ka ca, .slice b kb cb] 26))
  obtain ⟨X, hX⟩ : ∃ X, w.alloc (.cells #[.bool n, .slice a ka ca, .slice b kb cb] 26) = X := ⟨_, rfl⟩
  rw [hX] at HX HB
  have H1 := hid (lsmall_any a ka ca most X)
  have H2 := hid (lsmall_any b kb cb most X)
  generalize smallL ka most = z1 at *
  generalize smallL kb most = z2 at *
  have k1 : X.cell? ⟨w.heap.size, 1, none⟩ = some (.slice a ka ca) := HX.out.cell 1
  have k2 : X.cell? ⟨w.heap.size, 2, none⟩ = some (.slice b kb cb) := HX.out.cell 2
  go_enter Tryz.func29, Tryz.ntmps29
  go_wp2_with fail
  refine Calls.mono H1.out ?_
  rintro e w1 ⟨rfl, rfl⟩
  cases z1 with
  | false =>
    go_wp2_with fail
    go_ret
    exact ⟨rfl, HB.out⟩
  | true =>
    go_wp2_with fail
    refine Calls.mono H2.out ?_
    rintro e w1 ⟨rfl, rfl⟩
    go_wp2_with fail
    go_ret
    exact ⟨by simp, HB.out⟩
set_option maxHeartbeats 800000 in
set_option maxRecDepth 100000 in
theorem tSmall_any (s : ByteArray) (f r : Int) (n : Bool) (a : Option Addr) (ka ca : Nat) (b : Option Addr) (kb cb : Nat) (m : Bool) (c : Option Addr) (kc cc : Nat) (d : Option Addr) (kd cd : Nat) (most : Int) (w : World) : Calls Tryz.prog 8 #[.agg #[.string s, .int .i32 f, .int .i32 r, .bool n, .slice a ka ca, .slice b kb cb, .bool m, .slice c kc cc, .slice d kd cd], .int .i64 most] w fun e w' => e = .returned (.bool ((smallL ka most && smallL kb most) && (smallL kc most && smallL kd most))) ∧ Below w.heap.size w w' := by
  have HX := hid (Box.made w 30 #[.string s, .int .i32 f, .int .i32 r, .bool n, .slice a ka ca, .slice b kb cb, .bool m, .slice c kc cc, .slice d kd cd])
  have HB := hid (alloc_later w (.cells #[.string s, .int .i32 f, .int .i32 r, .bool n, .slice a ka ca, .slice b kb cb, .bool m, .slice c kc cc, .slice d kd cd] 30))
  obtain ⟨X, hX⟩ : ∃ X, w.alloc (.cells #[.string s, .int .i32 f, .int .i32 r, .bool n, .slice a ka ca, .slice b kb cb, .bool m, .slice c kc cc, .slice d kd cd] 30) = X := ⟨_, rfl⟩
  rw [hX] at HX HB
  have H1 : Hid (∀ V, _) := fun V => lSmall_any n a ka ca b kb cb most V
  have H2 : Hid (∀ V, _) := fun V => lSmall_any m c kc cc d kd cd most V
  generalize (smallL ka most && smallL kb most) = z1 at *
  generalize (smallL kc most && smallL kd most) = z2 at *
  have k3 : X.cell? ⟨w.heap.size, 3, none⟩ = some (.bool n) := HX.out.cell 3
  have k4 : X.cell? ⟨w.heap.size, 4, none⟩ = some (.slice a ka ca) := HX.out.cell 4
  have k5 : X.cell? ⟨w.heap.size, 5, none⟩ = some (.slice b kb cb) := HX.out.cell 5
  go_enter Tryz.func8, Tryz.ntmps8
  go_wp2_with fail
  refine Calls.mono (H1.out X) ?_
  rintro e w1 ⟨rfl, hb1⟩
  have HX1 := hid (HX.out.later hb1 HX.out.lt)
  have HB1 := hid (bt HB.out hb1)
  clear hb1 k3 k4 k5 H1
  cases z1 with
  | false =>
    go_wp2_with fail
    go_ret
    exact ⟨rfl, HB1.out⟩
  | true =>
    have k6 : w1.cell? ⟨w.heap.size, 6, none⟩ = some (.bool m) := HX1.out.cell 6
    have k7 : w1.cell? ⟨w.heap.size, 7, none⟩ = some (.slice c kc cc) := HX1.out.cell 7
    have k8 : w1.cell? ⟨w.heap.size, 8, none⟩ = some (.slice d kd cd) := HX1.out.cell 8
    go_wp2_with fail
    refine Calls.mono (H2.out w1) ?_
    rintro e w2 ⟨rfl, hb2⟩
    have HB2 := hid (bt HB1.out hb2)
    clear hb2 k6 k7 k8 H2
    go_wp2_with fail
    go_ret
    exact ⟨by simp, HB2.out⟩
end Go.Proofs.YtiaebiaeolaocaaGreatDoor

