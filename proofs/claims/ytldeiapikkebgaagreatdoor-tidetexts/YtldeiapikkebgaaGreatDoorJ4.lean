/- My texts on the way to TideTexts, one behind the other: contracts of the program and of the document's answers. -/
import Derived.Test.YtldeiapikkebgaaGreatDoorJ1
import Derived.Test.YtldeiapikkebgaaGreatDoorJ2
import Derived.Test.YtldeiapikkebgaaGreatDoorJ3
import Derived.Test.YtldeiapikkebgaaGreatDoorChecked
import Derived.Handy
import Derived.RegionTactic
import Derived.ChangeAlike
import Derived.Deep.RegionHeld3
import Derived.Deep.QuietTactic
import Derived.BigQuiet
/- Boxes made one behind the other; drawing keeps what is below. -/
namespace Go.Proofs.YtldeiapikkebgaaGreatDoor
open Go.RowKit
set_option linter.unusedVariables false

theorem boxes1 (w : World) (t : Nat) (u : Array Value) : FBox (w.alloc (.cells u t)) w.heap.size t u ∧ Below w.heap.size w (w.alloc (.cells u t)) :=
  ⟨FBox.made _ _ _, (Below.refl _ _).alloc (Nat.le_refl _) _⟩
theorem bdrewN {B : Nat} {a w : World} (h : Below B a w) (n : Nat) : Below B a (w.drewN n) := by
  induction n with
  | zero => exact h
  | succ n ih => exact ih.drew
end Go.Proofs.YtldeiapikkebgaaGreatDoor

/- package tide: letter, digit, Name. -/
namespace Go.Proofs.YtldeiapikkebgaaGreatDoor
open Go.RowKit
set_option linter.unusedVariables false
set_option linter.unusedSimpArgs false

def tlet (c : Int) : Bool := decide (65 ≤ c) && decide (c ≤ 90) || decide (97 ≤ c) && decide (c ≤ 122)
def tdig (c : Int) : Bool := decide (48 ≤ c) && decide (c ≤ 57)
set_option maxHeartbeats 800000 in
set_option maxRecDepth 100000 in
theorem tletter_any (c : Int) (w : World) : Calls Tryz.prog 50 #[.int .u8 c] w fun e w' => e = .returned (.bool (tlet c)) ∧ w = w' := by
  by_cases a : 65 ≤ c <;> by_cases b : c ≤ 90 <;> by_cases d : 97 ≤ c <;> by_cases f : c ≤ 122
  all_goals
    have HR : Hid (tlet c = (decide (65 ≤ c) && decide (c ≤ 90) || decide (97 ≤ c) && decide (c ≤ 122))) := rfl
    go_enter Tryz.func50, Tryz.ntmps50
    go_wp2_with fail
    go_ret
    exact ⟨by rw [HR.out]; simp [a, b, d, f], rfl⟩
set_option maxHeartbeats 800000 in
set_option maxRecDepth 100000 in
theorem tdigit_any (c : Int) (w : World) : Calls Tryz.prog 51 #[.int .u8 c] w fun e w' => e = .returned (.bool (tdig c)) ∧ w = w' := by
  by_cases a : 48 ≤ c <;> by_cases b : c ≤ 57
  all_goals
    have HR : Hid (tdig c = (decide (48 ≤ c) && decide (c ≤ 57))) := rfl
    go_enter Tryz.func51, Tryz.ntmps51
    go_wp2_with fail
    go_ret
    exact ⟨by rw [HR.out]; simp [a, b], rfl⟩

def tname (l : List UInt8) : Bool := decide (1 ≤ l.length) && decide (l.length ≤ 20) && tlet ((l[0]?.getD 0).toNat : Int) && l.all (fun c => tlet (c.toNat : Int) || tdig (c.toNat : Int))
theorem tbyte_at (s : ByteArray) (k : Nat) (h : k < s.size) : s.data.toList[k]? = some s[k] := by
  rw [List.getElem?_eq_getElem (by show k < s.data.toList.length; rw [Array.length_toList]; exact h)]
  rfl
theorem tsize_list (s : ByteArray) : s.data.toList.length = s.size := Array.length_toList
theorem tname_size {l : List UInt8} (h : l.length < 1 ∨ 20 < l.length) : tname l = false := by
  unfold tname
  rcases h with h | h
  · rw [decide_eq_false (by omega)]; rfl
  · rw [decide_eq_false (p := l.length ≤ 20) (by omega)]; simp
theorem tname_first {l : List UInt8} (h : tlet ((l[0]?.getD 0).toNat : Int) = false) : tname l = false := by
  unfold tname
  rw [h]; simp
theorem tname_all {l : List UInt8} (h1 : 1 ≤ l.length) (h2 : l.length ≤ 20) (h3 : tlet ((l[0]?.getD 0).toNat : Int) = true) (h : ∀ j, j < l.length → (tlet ((l[j]?.getD 0).toNat : Int) || tdig ((l[j]?.getD 0).toNat : Int)) = true) : tname l = true := by
  unfold tname
  rw [decide_eq_true h1, decide_eq_true h2, h3]
  simp only [Bool.and_true, Bool.true_and, Bool.and_self]
  rw [List.all_eq_true]
  intro c hc
  obtain ⟨j, hj, e⟩ := List.getElem_of_mem hc
  have := h j hj
  rw [List.getElem?_eq_getElem hj, e] at this
  exact this
theorem tname_bad {l : List UInt8} {k : Nat} {c : UInt8} (hk : l[k]? = some c) (h1 : tlet (c.toNat : Int) = false) (h2 : tdig (c.toNat : Int) = false) : tname l = false := by
  unfold tname
  have : l.all (fun c => tlet (c.toNat : Int) || tdig (c.toNat : Int)) = false := by
    rw [List.all_eq_false]
    exact ⟨c, List.mem_of_getElem? hk, by simp [h1, h2]⟩
  rw [this]; simp
set_option maxHeartbeats 1600000 in
set_option maxRecDepth 100000 in
theorem tName_any (s : ByteArray) (w : World) (hm : s.size ≤ 9223372036854775807) : Calls Tryz.prog 25 #[.string s] w fun e w' => e = .returned (.bool (tname s.data.toList)) ∧ w = w' := by
  have hl := tsize_list s
  by_cases h1 : (s.size : Int) < 1
  · have HF := hid (tname_size (l := s.data.toList) (.inl (by omega)))
    clear hl
    go_enter Tryz.func25, Tryz.ntmps25
    go_wp2_with fail
    go_ret
    exact ⟨ret_bool HF.out.symm, rfl⟩
  by_cases h2 : 20 < (s.size : Int)
  · have HF := hid (tname_size (l := s.data.toList) (.inr (by omega)))
    clear hl
    go_enter Tryz.func25, Tryz.ntmps25
    go_wp2_with fail
    go_ret
    exact ⟨ret_bool HF.out.symm, rfl⟩
  have hp : 0 < s.size := by omega
  have b0 := tbyte_at s 0 hp
  have HL := hid (fun c V => tletter_any c V)
  have HD := hid (fun c V => tdigit_any c V)
  have hS := hid (And.intro hl b0)
  have hz : (s.size : Int) ≤ 20 := by omega
  by_cases h3 : tlet (s[0].toNat : Int) = false
  · have HF := hid (tname_first (l := s.data.toList) (by rw [b0]; exact h3))
    clear hl b0
    go_enter Tryz.func25, Tryz.ntmps25
    go_wp2_with fail
    refine Calls.mono (HL.out _ _) ?_
    rintro e w' ⟨rfl, rfl⟩
    rw [h3]
    go_wp2_with fail
    go_ret
    exact ⟨ret_bool HF.out.symm, rfl⟩
  · have h3' : tlet (s[0].toNat : Int) = true := by simpa using h3
    have HALL : Hid ((∀ j, j < s.size → (tlet ((s.data.toList[j]?.getD 0).toNat : Int) || tdig ((s.data.toList[j]?.getD 0).toNat : Int)) = true) → tname s.data.toList = true) := fun h => tname_all (by omega) (by omega) (by rw [b0]; exact h3') (by rw [hl]; exact h)
    clear hl b0 h3
    go_enter Tryz.func25, Tryz.ntmps25
    go_wp2_with fail
    refine Calls.mono (HL.out _ _) ?_
    rintro e w' ⟨rfl, rfl⟩
    rw [h3']
    go_wp2_with fail
    go_loop [20] (fun t => ∃ k : Nat, k ≤ s.size ∧ t = .int .i64 k ∧ Hid (∀ j : Nat, j < k → (tlet ((s.data.toList[j]?.getD 0).toNat : Int) || tdig ((s.data.toList[j]?.getD 0).toNat : Int)) = true)) (fun t => s.size - (intOf t).toNat)
    case atStart => exact ⟨0, by omega, rfl, fun j hj => by omega⟩
    case round =>
      obtain ⟨k, hk, rfl, HJ⟩ := hrel
      by_cases hlt : k < s.size
      · have bk := tbyte_at s k hlt
        by_cases d1 : tlet (s[k].toNat : Int) = true
        · have HJ' : Hid (∀ j : Nat, j < k + 1 → (tlet ((s.data.toList[j]?.getD 0).toNat : Int) || tdig ((s.data.toList[j]?.getD 0).toNat : Int)) = true) := fun j hj => by
            by_cases e : j = k
            · rw [e, bk]; show (tlet (s[k].toNat : Int) || _) = true; rw [d1]; rfl
            · exact HJ.out j (by omega)
          clear bk
          go_wp2_with fail
          refine Calls.mono (HL.out _ _) ?_
          rintro e w1 ⟨rfl, rfl⟩
          rw [d1]
          go_wp2_with fail
          go_round
          case rel => exact ⟨k + 1, by omega, by go_num, HJ'⟩
          case measure => simp [intOf]; omega
        · have d1' : tlet (s[k].toNat : Int) = false := by simpa using d1
          by_cases d2 : tdig (s[k].toNat : Int) = true
          · have HJ' : Hid (∀ j : Nat, j < k + 1 → (tlet ((s.data.toList[j]?.getD 0).toNat : Int) || tdig ((s.data.toList[j]?.getD 0).toNat : Int)) = true) := fun j hj => by
              by_cases e : j = k
              · rw [e, bk]; show (_ || tdig (s[k].toNat : Int)) = true; rw [d2]; simp
              · exact HJ.out j (by omega)
            clear bk d1
            go_wp2_with fail
            refine Calls.mono (HL.out _ _) ?_
            rintro e w1 ⟨rfl, rfl⟩
            rw [d1']
            go_wp2_with fail
            refine Calls.mono (HD.out _ _) ?_
            rintro e w1 ⟨rfl, rfl⟩
            rw [d2]
            go_wp2_with fail
            go_round
            case rel => exact ⟨k + 1, by omega, by go_num, HJ'⟩
            case measure => simp [intOf]; omega
          · have d2' : tdig (s[k].toNat : Int) = false := by simpa using d2
            have HF := hid (tname_bad bk d1' d2')
            clear bk d1 d2
            go_wp2_with fail
            refine Calls.mono (HL.out _ _) ?_
            rintro e w1 ⟨rfl, rfl⟩
            rw [d1']
            go_wp2_with fail
            refine Calls.mono (HD.out _ _) ?_
            rintro e w1 ⟨rfl, rfl⟩
            rw [d2']
            go_wp2_with fail
            go_ret
            exact ⟨ret_bool HF.out.symm, rfl⟩
      · have HF := hid (HALL.out (fun j hj => HJ.out j (by omega)))
        go_wp2_with fail
        go_ret
        exact ⟨ret_bool HF.out.symm, rfl⟩
end Go.Proofs.YtldeiapikkebgaaGreatDoor

/- package rotor: size, commonDivisor, Check, Conj, half, of every rotor. -/
namespace Go.Proofs.YtldeiapikkebgaaGreatDoor
open Go.RowKit
set_option linter.unusedVariables false

def rOK (f n : Int) : Prop := 1 ≤ f ∧ f ≤ 1000 ∧ 1 ≤ n.natAbs ∧ n.natAbs ≤ 1000 ∧ f ≠ (n.natAbs : Int) ∧ Nat.gcd f.toNat n.natAbs = 1
instance (f n : Int) : Decidable (rOK f n) := by unfold rOK; infer_instance
def ochk (f n : Int) : Int := if rOK f n then 0 else 150
def in32 (f n : Int) : Prop := (-2147483648 ≤ f ∧ f ≤ 2147483647) ∧ (-2147483648 ≤ n ∧ n ≤ 2147483647)
theorem ochk_or (f n : Int) : ochk f n = 0 ∧ rOK f n ∨ ochk f n = 150 ∧ ¬ rOK f n := by
  unfold ochk
  by_cases h : rOK f n
  · rw [if_pos h]; exact .inl ⟨rfl, h⟩
  · rw [if_neg h]; exact .inr ⟨rfl, h⟩

set_option maxHeartbeats 800000 in
set_option maxRecDepth 100000 in
theorem osize_any (n : Int) (w : World) (h0 : -9223372036854775808 < n) (h1 : n ≤ 9223372036854775807) :
    Calls Tryz.prog 52 #[.int .i64 n] w fun e w' => e = .returned (.int .i64 (n.natAbs : Int)) ∧ w' = w := by
  by_cases h : n < 0
  · go_enter Tryz.func52, Tryz.ntmps52
    go_wp2_with fail
    go_ret
    exact ⟨ret_int (by omega), rfl⟩
  · go_enter Tryz.func52, Tryz.ntmps52
    go_wp2_with fail
    go_ret
    exact ⟨ret_int (by omega), rfl⟩

set_option maxHeartbeats 800000 in
set_option maxRecDepth 100000 in
theorem ocommon_any (a b : Nat) (w : World) (ha : a < 9223372036854775808) (hb : b < 9223372036854775808) :
    Calls Tryz.prog 53 #[.int .i64 (a : Int), .int .i64 (b : Int)] w fun e w' => e = .returned (.int .i64 (Nat.gcd a b : Nat)) ∧ Below w.heap.size w w' := by
  go_enter Tryz.func53, Tryz.ntmps53
  go_wp2_with fail
  go_loopw [0, 1] (fun x y wr => ∃ c d : Nat, x = .int .i64 (c : Int) ∧ y = .int .i64 (d : Int) ∧ c < 9223372036854775808 ∧ d < 9223372036854775808 ∧ Hid (Nat.gcd c d = Nat.gcd a b) ∧ Below w.heap.size w wr) (fun _ y _ => (intOf y).toNat)
  case atStart => exact ⟨a, b, rfl, rfl, ha, hb, (rfl : Nat.gcd a b = Nat.gcd a b), Below.refl _ _⟩
  case round =>
    obtain ⟨c, d, rfl, rfl, hc, hd, hg, hX⟩ := hrel
    by_cases h0 : d = 0
    · subst h0
      have HG : Hid (c = Nat.gcd a b) := by have := hg.out; rw [Nat.gcd_zero_right] at this; exact this
      clear hg
      go_wp2_with fail
      go_ret
      exact ⟨ret_int (by rw [HG.out]), hX⟩
    · have hm : c % d < d := Nat.mod_lt _ (by omega)
      have HG : Hid (Nat.gcd d (c % d) = Nat.gcd a b) := by show _ = _; rw [← hg.out, Nat.gcd_comm c d, Nat.gcd_rec d c, Nat.gcd_comm]
      have h0' : (d : Int) ≠ 0 := by omega
      have e2 : Int.tmod (c : Int) (d : Int) = ((c % d : Nat) : Int) := by
        rw [Int.tmod_eq_emod_of_nonneg (by omega)]; rfl
      clear hg
      go_wp2_with fail
      go_region
      all_goals
        go_wp2_with fail
        go_roundw
        case rel => exact ⟨d, c % d, rfl, by go_num, by omega, by omega, HG, hX.drew⟩
        case measure => simp [intOf]; omega

set_option maxHeartbeats 1600000 in
set_option maxRecDepth 100000 in
theorem ocheck_any (f n : Int) (w : World) (h : in32 f n) :
    Calls Tryz.prog 26 #[.agg #[.int .i32 f, .int .i32 n]] w fun e w' => e = .returned (.int .i64 (ochk f n)) ∧ Below w.heap.size w w' := by
  obtain ⟨⟨f0, f1⟩, n0, n1⟩ := h
  have hb0 : Below w.heap.size w (w.alloc (.cells #[.int .i32 f, .int .i32 n] 23)) := (Below.refl _ _).alloc (Nat.le_refl _) _
  have HN : Hid (¬ (1 ≤ f ∧ f ≤ 1000 ∧ 1 ≤ (n.natAbs : Int) ∧ (n.natAbs : Int) ≤ 1000 ∧ f ≠ (n.natAbs : Int)) → ochk f n = 150) := fun h => by unfold ochk; rw [if_neg]; unfold rOK; omega
  have HY : Hid ((1 ≤ f ∧ f ≤ 1000 ∧ 1 ≤ (n.natAbs : Int) ∧ (n.natAbs : Int) ≤ 1000 ∧ f ≠ (n.natAbs : Int)) → Nat.gcd f.toNat n.natAbs = 1 → ochk f n = 0) := fun h g => by unfold ochk; rw [if_pos]; unfold rOK; omega
  have HY' : Hid (¬ Nat.gcd f.toNat n.natAbs = 1 → ochk f n = 150) := fun g => by unfold ochk; rw [if_neg]; unfold rOK; omega
  have HD : Hid (1 ≤ f → 1 ≤ Nat.gcd f.toNat n.natAbs) := fun g => Nat.gcd_pos_of_pos_left _ (by omega)
  have HS := hid (fun V => osize_any n V (by omega) (by omega))
  have HC : Hid (∀ V : World, 1 ≤ f → Calls Tryz.prog 53 #[.int .i64 f, .int .i64 (n.natAbs : Int)] V fun e w' => e = .returned (.int .i64 (Nat.gcd f.toNat n.natAbs : Nat)) ∧ Below V.heap.size V w') := fun V h1 => by
    have := ocommon_any f.toNat n.natAbs V (by omega) (by omega)
    rw [show ((f.toNat : Nat) : Int) = f by omega] at this
    exact this
  obtain ⟨d, hD⟩ : ∃ d, Nat.gcd f.toNat n.natAbs = d := ⟨_, rfl⟩
  rw [hD] at HY HY' HC HD
  clear hD
  have m1 : n.natAbs ≤ 2147483648 := by omega
  generalize n.natAbs = N at *
  go_enter Tryz.func26, Tryz.ntmps26
  go_wp2_with fail
  go_quiet ((go_at_call 52; exact Calls.quiet_of_same (HS.out _)))
  clear HS
  have HB0 : Hid (Below w.heap.size w ((w.alloc (.cells #[.int .i32 f, .int .i32 n] 23)).drewN nq)) := bdrewN hb0 nq
  generalize (w.alloc (.cells #[.int .i32 f, .int .i32 n] 23)).drewN nq = X at *
  clear hb0
  go_wp2_with fail
  all_goals try (go_ret; exact ⟨ret_int (HN.out (by omega)).symm, HB0.out⟩)
  refine Calls.mono (HC.out _ (by omega)) ?_
  rintro e w1 ⟨rfl, hb1⟩
  by_cases h1 : d = 1
  · subst h1
    go_wp2_with fail
    go_ret
    exact ⟨ret_int (HY.out (by omega) (by trivial)).symm, b2 HB0.out hb1⟩
  · have h1' : (1 : Int) < (d : Int) := by have := HD.out (by omega); omega
    go_wp2_with fail
    go_ret
    exact ⟨ret_int (HY'.out h1).symm, b2 HB0.out hb1⟩
end Go.Proofs.YtldeiapikkebgaaGreatDoor

/- package tide: Check. -/
namespace Go.Proofs.YtldeiapikkebgaaGreatDoor
open Go.RowKit
set_option linter.unusedVariables false

def tchk (l : List UInt8) (f n : Int) (g : Int) : Int := if tname l = true then fstE (ochk f n) g else 4
theorem tchk_name {l : List UInt8} (f n g : Int) (h : tname l = false) : tchk l f n g = 4 := by unfold tchk; rw [if_neg (by rw [h]; decide)]
theorem tchk_rest {l : List UInt8} (f n g : Int) (h : tname l = true) : tchk l f n g = fstE (ochk f n) g := by unfold tchk; rw [if_pos h]
set_option maxHeartbeats 1600000 in
set_option maxRecDepth 100000 in
theorem tCheck_any (s : ByteArray) (f r : Int) (n : Bool) (a : Option Addr) (ca : Nat) (xs : List Int) (b : Option Addr) (cb : Nat) (ys : List Int) (m : Bool) (c : Option Addr) (cc : Nat) (us : List Int) (d : Option Addr) (cd : Nat) (vs : List Int) (w : World) (hz : s.size ≤ 9223372036854775807) (hr : in32 f r) (sx : Sl w (.slice a xs.length ca) xs) (sy : Sl w (.slice b ys.length cb) ys) (su : Sl w (.slice c us.length cc) us) (sv : Sl w (.slice d vs.length cd) vs) :
    Calls Tryz.prog 16 #[.agg #[.string s, .int .i32 f, .int .i32 r, .bool n, .slice a xs.length ca, .slice b ys.length cb, .bool m, .slice c us.length cc, .slice d vs.length cd]] w fun e w' => e = .returned (.int .i64 (tchk s.data.toList f r (gchk n xs ys m us vs))) ∧ Below w.heap.size w w' := by
  have HX := hid (Box.made w 30 #[.string s, .int .i32 f, .int .i32 r, .bool n, .slice a xs.length ca, .slice b ys.length cb, .bool m, .slice c us.length cc, .slice d vs.length cd])
  have HB := hid (alloc_later w (.cells #[.string s, .int .i32 f, .int .i32 r, .bool n, .slice a xs.length ca, .slice b ys.length cb, .bool m, .slice c us.length cc, .slice d vs.length cd] 30))
  obtain ⟨X, hX⟩ : ∃ X, w.alloc (.cells #[.string s, .int .i32 f, .int .i32 r, .bool n, .slice a xs.length ca, .slice b ys.length cb, .bool m, .slice c us.length cc, .slice d vs.length cd] 30) = X := ⟨_, rfl⟩
  rw [hX] at HX HB
  have HN := hid (tName_any s X hz)
  have HR := hid (ocheck_any f r X hr)
  have HG : Hid (∀ V, Below w.heap.size w V → Calls Tryz.prog 39 #[.agg #[.bool n, .slice a xs.length ca, .slice b ys.length cb, .bool m, .slice c us.length cc, .slice d vs.length cd]] V fun e w' => e = .returned (.int .i64 (gchk n xs ys m us vs)) ∧ Below V.heap.size V w') := fun V hv => gcheck_any n _ xs _ ys m _ us _ vs V (sx.later hv) (sy.later hv) (su.later hv) (sv.later hv)
  generalize gchk n xs ys m us vs = G at *
  have HK1 := hid (tchk_name (l := s.data.toList) f r G)
  have HK2 := hid (tchk_rest (l := s.data.toList) f r G)
  generalize tchk s.data.toList f r G = T at *
  generalize tname s.data.toList = NM at *
  generalize ochk f r = E at *
  clear sx sy su sv hr
  have k0 : X.cell? ⟨w.heap.size, 0, none⟩ = some (.string s) := HX.out.cell 0
  have k1 : X.cell? ⟨w.heap.size, 1, none⟩ = some (.int .i32 f) := HX.out.cell 1
  have k2 : X.cell? ⟨w.heap.size, 2, none⟩ = some (.int .i32 r) := HX.out.cell 2
  have k3 : X.cell? ⟨w.heap.size, 3, none⟩ = some (.bool n) := HX.out.cell 3
  have k4 : X.cell? ⟨w.heap.size, 4, none⟩ = some (.slice a xs.length ca) := HX.out.cell 4
  have k5 : X.cell? ⟨w.heap.size, 5, none⟩ = some (.slice b ys.length cb) := HX.out.cell 5
  have k6 : X.cell? ⟨w.heap.size, 6, none⟩ = some (.bool m) := HX.out.cell 6
  have k7 : X.cell? ⟨w.heap.size, 7, none⟩ = some (.slice c us.length cc) := HX.out.cell 7
  have k8 : X.cell? ⟨w.heap.size, 8, none⟩ = some (.slice d vs.length cd) := HX.out.cell 8
  cases NM with
  | false =>
    have HT := hid (HK1.out rfl)
    go_enter Tryz.func16, Tryz.ntmps16
    go_wp2_with fail
    refine Calls.mono HN.out ?_
    rintro e w1 ⟨rfl, rfl⟩
    go_wp2_with fail
    go_ret
    exact ⟨ret_int HT.out.symm, HB.out⟩
  | true =>
    have HT := hid (HK2.out rfl)
    by_cases hE : E = 0
    · subst hE
      have HT2 := hid (HT.out.trans (fstE_zero G))
      clear HT
      go_enter Tryz.func16, Tryz.ntmps16
      go_wp2_with fail
      refine Calls.mono HN.out ?_
      rintro e w1 ⟨rfl, rfl⟩
      go_wp2_with fail
      refine Calls.mono HR.out ?_
      rintro e w1 ⟨rfl, hb1⟩
      have HX1 := hid (HX.out.later hb1 HX.out.lt)
      have HB1 := hid (bt HB.out hb1)
      clear k0 k1 k2 k3 k4 k5 k6 k7 k8 hb1
      have k3 : w1.cell? ⟨w.heap.size, 3, none⟩ = some (.bool n) := HX1.out.cell 3
      have k4 : w1.cell? ⟨w.heap.size, 4, none⟩ = some (.slice a xs.length ca) := HX1.out.cell 4
      have k5 : w1.cell? ⟨w.heap.size, 5, none⟩ = some (.slice b ys.length cb) := HX1.out.cell 5
      have k6 : w1.cell? ⟨w.heap.size, 6, none⟩ = some (.bool m) := HX1.out.cell 6
      have k7 : w1.cell? ⟨w.heap.size, 7, none⟩ = some (.slice c us.length cc) := HX1.out.cell 7
      have k8 : w1.cell? ⟨w.heap.size, 8, none⟩ = some (.slice d vs.length cd) := HX1.out.cell 8
      go_wp2_with fail
      refine Calls.mono (HG.out _ HB1.out) ?_
      rintro e w2 ⟨rfl, hb2⟩
      have HB2 := hid (bt HB1.out hb2)
      clear hb2 k3 k4 k5 k6 k7 k8
      go_wp2_with fail
      go_ret
      exact ⟨ret_int HT2.out.symm, HB2.out⟩
    · have HT2 := hid (HT.out.trans (fstE_err G hE))
      have hE' : (E == 0) = false := by simp [hE]
      have hE2 : (E != 0) = true := by simp [hE]
      clear HT
      go_enter Tryz.func16, Tryz.ntmps16
      go_wp2_with fail
      refine Calls.mono HN.out ?_
      rintro e w1 ⟨rfl, rfl⟩
      go_wp2_with fail
      refine Calls.mono HR.out ?_
      rintro e w1 ⟨rfl, hb1⟩
      have HB1 := hid (bt HB.out hb1)
      clear hb1 k0 k1 k2 k3 k4 k5 k6 k7 k8
      go_wp2_with fail
      go_ret
      exact ⟨ret_int HT2.out.symm, HB1.out⟩
end Go.Proofs.YtldeiapikkebgaaGreatDoor

/- package rotor: Conj, half, Order, of every two rotors. -/
namespace Go.Proofs.YtldeiapikkebgaaGreatDoor
open Go.RowKit
set_option linter.unusedVariables false

end Go.Proofs.YtldeiapikkebgaaGreatDoor

/- The document's rotor (slackwaterref05): gcd, Check, of every rotor: the same answers as the program's. -/
namespace Go.Proofs.YtldeiapikkebgaaGreatDoor
open Go.RowKit
set_option linter.unusedVariables false

set_option maxHeartbeats 1600000 in
set_option maxRecDepth 100000 in
theorem pgcd_any (a b : Int) (w : World) (a0 : -9223372036854775808 < a) (a1 : a ≤ 9223372036854775807) (b0 : -9223372036854775808 < b) (b1 : b ≤ 9223372036854775807) :
    Calls Tryz.prog 59 #[.int .i64 a, .int .i64 b] w fun e w' => e = .returned (.int .i64 (Int.gcd a b : Nat)) ∧ Below w.heap.size w w' := by
  go_enter Tryz.func59, Tryz.ntmps59
  go_wp2_with fail
  go_loopw [0, 1] (fun x y wr => ∃ c d : Int, x = .int .i64 c ∧ y = .int .i64 d ∧ (-9223372036854775808 < c ∧ c ≤ 9223372036854775807) ∧ (-9223372036854775808 < d ∧ d ≤ 9223372036854775807) ∧ Hid (Int.gcd c d = Int.gcd a b) ∧ Below w.heap.size w wr) (fun _ y _ => (intOf y).natAbs)
  case atStart => exact ⟨a, b, rfl, rfl, ⟨a0, a1⟩, ⟨b0, b1⟩, (rfl : Int.gcd a b = Int.gcd a b), Below.refl _ _⟩
  case round =>
    obtain ⟨c, d, rfl, rfl, hc, hd, hg, hX⟩ := hrel
    by_cases h0 : d = 0
    · subst h0
      have HG : Hid (c.natAbs = Int.gcd a b) := by have := hg.out; rw [Int.gcd_zero_right] at this; exact this
      clear hg
      have hmx : max c (-c) = (c.natAbs : Int) := by omega
      go_wp2_with fail
      all_goals (go_ret; exact ⟨ret_int (by rw [← HG.out]; omega), hX⟩)
    · have hm : (Int.tmod c d).natAbs < d.natAbs := by
        rw [Int.natAbs_tmod]; exact Nat.mod_lt _ (by omega)
      have HG : Hid (Int.gcd d (Int.tmod c d) = Int.gcd a b) := by
        show _ = _
        rw [← hg.out]
        show Nat.gcd d.natAbs (Int.tmod c d).natAbs = Nat.gcd c.natAbs d.natAbs
        rw [Int.natAbs_tmod, Nat.gcd_comm c.natAbs d.natAbs, Nat.gcd_rec d.natAbs c.natAbs, Nat.gcd_comm]
      have hb : -9223372036854775808 < Int.tmod c d ∧ Int.tmod c d ≤ 9223372036854775807 := by
        clear HG hg
        generalize Int.tmod c d = t at *
        omega
      clear hg
      go_wp2_with fail
      go_region
      all_goals
        go_wp2_with fail
        go_roundw
        case rel => exact ⟨d, Int.tmod c d, rfl, by go_num, hd, hb, HG, hX.drew⟩
        case measure => first | (simp [intOf]; exact hm) | (simp [intOf, Int.natAbs_tmod]; exact Nat.mod_lt _ (by omega)) | (simp only [intOf]; exact hm)

theorem rOK_iff (f n : Int) (h : in32 f n) : rOK f n ↔ (1 ≤ f ∧ f ≤ 1000 ∧ -1000 ≤ n ∧ n ≤ 1000 ∧ n ≠ 0 ∧ f ≠ n ∧ f ≠ -n) ∧ Int.gcd f n = 1 := by
  have e : 1 ≤ f → Int.gcd f n = Nat.gcd f.toNat n.natAbs := fun h => by
    show Nat.gcd f.natAbs n.natAbs = _
    rw [show f.natAbs = f.toNat by omega]
  unfold rOK
  constructor
  · rintro ⟨a, b, c, d, g, k⟩
    exact ⟨⟨a, b, by omega, by omega, by omega, by omega, by omega⟩, by rw [e a]; exact k⟩
  · rintro ⟨⟨a, b, c, d, g, k, l⟩, q⟩
    exact ⟨a, b, by omega, by omega, by omega, by rw [← e a]; exact q⟩

set_option maxHeartbeats 3200000 in
set_option maxRecDepth 100000 in
theorem pcheck_any (f n : Int) (w : World) (h : in32 f n) :
    Calls Tryz.prog 32 #[.agg #[.int .i32 f, .int .i32 n]] w fun e w' => e = .returned (.int .i64 (ochk f n)) ∧ Below w.heap.size w w' := by
  have hI := rOK_iff f n h
  obtain ⟨⟨f0, f1⟩, n0, n1⟩ := h
  have HX := hid (boxes1 w 23 #[.int .i32 f, .int .i32 n])
  have HG := hid (fun V => pgcd_any f n V (by omega) (by omega) (by omega) (by omega))
  have HN : Hid (¬ (1 ≤ f ∧ f ≤ 1000 ∧ -1000 ≤ n ∧ n ≤ 1000 ∧ n ≠ 0 ∧ f ≠ n ∧ f ≠ -n) → ochk f n = 150) := fun h => by unfold ochk; rw [if_neg]; rw [hI]; exact fun g => h g.1
  have HY : Hid ((1 ≤ f ∧ f ≤ 1000 ∧ -1000 ≤ n ∧ n ≤ 1000 ∧ n ≠ 0 ∧ f ≠ n ∧ f ≠ -n) → Int.gcd f n = 1 → ochk f n = 0) := fun h g => by unfold ochk; rw [if_pos]; rw [hI]; exact ⟨h, g⟩
  have HY' : Hid (¬ Int.gcd f n = 1 → ochk f n = 150) := fun g => by unfold ochk; rw [if_neg]; rw [hI]; exact fun h => g h.2
  clear hI
  generalize Int.gcd f n = d at *
  by_cases k0 : f < 1
  · have d0 : decide (f < 1) = true := by simpa using k0
    have HR := hid (HN.out (by omega))
    clear HN HY HY' k0
    go_enter Tryz.func32, Tryz.ntmps32
    go_wp2_with fail
    go_ret
    exact ⟨ret_int HR.out.symm, HX.out.2⟩
  have d0 : decide (f < 1) = false := by simpa using k0
  by_cases k1 : 1000 < f
  · have d1 : decide (1000 < f) = true := by simpa using k1
    have HR := hid (HN.out (by omega))
    clear HN HY HY' k0 k1
    go_enter Tryz.func32, Tryz.ntmps32
    go_wp2_with fail
    go_ret
    exact ⟨ret_int HR.out.symm, HX.out.2⟩
  have d1 : decide (1000 < f) = false := by simpa using k1
  by_cases k2 : n < -1000
  · have d2 : decide (n < -1000) = true := by simpa using k2
    have HR := hid (HN.out (by omega))
    clear HN HY HY' k0 k1
    go_enter Tryz.func32, Tryz.ntmps32
    go_wp2_with fail
    go_ret
    exact ⟨ret_int HR.out.symm, HX.out.2⟩
  have d2 : decide (n < -1000) = false := by simpa using k2
  by_cases k3 : 1000 < n
  · have d3 : decide (1000 < n) = true := by simpa using k3
    have HR := hid (HN.out (by omega))
    clear HN HY HY' k0 k1 k3
    go_enter Tryz.func32, Tryz.ntmps32
    go_wp2_with fail
    go_ret
    exact ⟨ret_int HR.out.symm, HX.out.2⟩
  have d3 : decide (1000 < n) = false := by simpa using k3
  by_cases k4 : n = 0
  · have d4 : (n == 0) = true := by simpa using k4
    have HR := hid (HN.out (by omega))
    clear HN HY HY' k0 k1 k3 k4
    go_enter Tryz.func32, Tryz.ntmps32
    go_wp2_with fail
    go_ret
    exact ⟨ret_int HR.out.symm, HX.out.2⟩
  have d4 : (n == 0) = false := by simpa using k4
  by_cases k5 : f = n
  · have d5 : (f == n) = true := by simpa using k5
    have HR := hid (HN.out (by omega))
    clear HN HY HY' k0 k1 k3 k4 k5
    go_enter Tryz.func32, Tryz.ntmps32
    go_wp2_with fail
    go_ret
    exact ⟨ret_int HR.out.symm, HX.out.2⟩
  have d5 : (f == n) = false := by simpa using k5
  by_cases k6 : f = -n
  · have d6 : (f == -n) = true := by simpa using k6
    have HR := hid (HN.out (by omega))
    clear HN HY HY' k0 k1 k3 k4 k5 k6
    go_enter Tryz.func32, Tryz.ntmps32
    go_wp2_with fail
    go_ret
    exact ⟨ret_int HR.out.symm, HX.out.2⟩
  have d6 : (f == -n) = false := by simpa using k6
  have HI := hid (HY.out (by omega))
  clear HN HY k0 k1 k3 k4 k5 k6
  go_enter Tryz.func32, Tryz.ntmps32
  go_wp2_with fail
  refine Calls.mono (HG.out _) ?_
  rintro e w1 ⟨rfl, hb1⟩
  have HB := hid (b2 HX.out.2 hb1)
  by_cases h1 : d = 1
  · have HR := hid (HI.out h1)
    subst h1
    go_wp2_with fail
    go_ret
    exact ⟨ret_int HR.out.symm, HB.out⟩
  · have h1' : ¬ (d : Int) = 1 := by omega
    go_wp2_with fail
    go_ret
    exact ⟨ret_int (HY'.out h1).symm, HB.out⟩
end Go.Proofs.YtldeiapikkebgaaGreatDoor

/- package tide: Same, of any two. -/
namespace Go.Proofs.YtldeiapikkebgaaGreatDoor
open Go.RowKit
set_option linter.unusedVariables false
set_option linter.unusedSimpArgs false

theorem troEq (a b c d : Int) (w : World) : (Op.equalIn 10000 23 (.agg #[.int .i32 a, .int .i32 b]) (.agg #[.int .i32 c, .int .i32 d])).run Tryz.prog w = .ok (a == c && b == d) w := by
  have u1 := Tryz.underlying21
  have a1 := Tryz.isAgg21
  have z1 := Tryz.sizeOf21
  have hS : Tryz.prog.underlying 23 = some (.struct (Tryz.prog.fieldsOf 23)) := by kernel_rfl
  rw [show (10000 : Nat) = 9999 + 1 from rfl, run_equalIn_agg w 9999 23 _ _ hS (by kernel_rfl)]
  simp only [Program.fieldsOf, Tryz.underlying23]
  go_simp
  by_cases h1 : a = c <;> by_cases h2 : b = d <;> simp [h1, h2]
end Go.Proofs.YtldeiapikkebgaaGreatDoor

/- The laws' small, Small of layers 4 and 13: have the words a length that the laws look at? -/
namespace Go.Proofs.YtldeiapikkebgaaGreatDoor
open Go.RowKit
set_option linter.unusedVariables false
set_option linter.unusedSimpArgs false

def smallL (k : Nat) (most : Int) : Bool := decide ((k : Int) ≤ most) || (decide (2048 < (k : Int)) && decide ((k : Int) < 2057))
theorem smallL_short {k : Nat} {most : Int} (h : k ≤ 2048) : smallL k most = decide ((k : Int) ≤ most) := by
  unfold smallL
  rw [decide_eq_false (p := 2048 < (k : Int)) (by omega)]
  simp
set_option maxHeartbeats 800000 in
set_option maxRecDepth 100000 in
theorem lsmall_any (a : Option Addr) (k c : Nat) (most : Int) (w : World) : Calls Tryz.prog 37 #[.slice a k c, .int .i64 most] w fun e w' => e = .returned (.bool (smallL k most)) ∧ w = w' := by
  have HR : Hid (smallL k most = (decide ((k : Int) ≤ most) || (decide (2048 < (k : Int)) && decide ((k : Int) < 2057)))) := rfl
  by_cases h1 : (k : Int) ≤ most
  · go_enter Tryz.func37, Tryz.ntmps37
    go_wp2_with fail
    go_ret
    exact ⟨by rw [HR.out]; simp [h1], rfl⟩
  · by_cases h2 : 2048 < (k : Int)
    · by_cases h3 : (k : Int) < 2057
      · go_enter Tryz.func37, Tryz.ntmps37
        go_wp2_with fail
        go_ret
        exact ⟨by rw [HR.out]; simp [h1, h2, h3], rfl⟩
      · go_enter Tryz.func37, Tryz.ntmps37
        go_wp2_with fail
        go_ret
        exact ⟨by rw [HR.out]; simp [h1, h2, h3], rfl⟩
    · go_enter Tryz.func37, Tryz.ntmps37
      go_wp2_with fail
      go_ret
      exact ⟨by rw [HR.out, decide_eq_false (p := 2048 < (k : Int)) (by omega)]; simp [h1], rfl⟩
set_option maxHeartbeats 800000 in
set_option maxRecDepth 100000 in
theorem lSmall_any (n : Bool) (a : Option Addr) (ka ca : Nat) (b : Option Addr) (kb cb : Nat) (most : Int) (w : World) : Calls Tryz.prog 14 #[.agg #[.bool n, .slice a ka ca, .slice b kb cb], .int .i64 most] w fun e w' => e = .returned (.bool (smallL ka most && smallL kb most)) ∧ Below w.heap.size w w' := by
  have HX := hid (Box.made w 26 #[.bool n, .slice a ka ca, .slice b kb cb])
  have HB := hid (alloc_later w (.cells #[.bool n, .slice a ka ca, .slice b kb cb] 26))
  obtain ⟨X, hX⟩ : ∃ X, w.alloc (.cells #[.bool n, .slice a ka ca, .slice b kb cb] 26) = X := ⟨_, rfl⟩
  rw [hX] at HX HB
  have H1 := hid (lsmall_any a ka ca most X)
  have H2 := hid (lsmall_any b kb cb most X)
  generalize smallL ka most = z1 at *
  generalize smallL kb most = z2 at *
  have k1 : X.cell? ⟨w.heap.size, 1, none⟩ = some (.slice a ka ca) := HX.out.cell 1
  have k2 : X.cell? ⟨w.heap.size, 2, none⟩ = some (.slice b kb cb) := HX.out.cell 2
  go_enter Tryz.func14, Tryz.ntmps14
  go_wp2_with fail
  refine Calls.mono H1.out ?_
  rintro e w1 ⟨rfl, rfl⟩
  cases z1 with
  | false =>
    go_wp2_with fail
    go_ret
    exact ⟨rfl, HB.out⟩
  | true =>
    go_wp2_with fail
    refine Calls.mono H2.out ?_
    rintro e w1 ⟨rfl, rfl⟩
    go_wp2_with fail
    go_ret
    exact ⟨by simp, HB.out⟩
set_option maxHeartbeats 800000 in
set_option maxRecDepth 100000 in
theorem tSmall_any (s : ByteArray) (f r : Int) (n : Bool) (a : Option Addr) (ka ca : Nat) (b : Option Addr) (kb cb : Nat) (m : Bool) (c : Option Addr) (kc cc : Nat) (d : Option Addr) (kd cd : Nat) (most : Int) (w : World) : Calls Tryz.prog 4 #[.agg #[.string s, .int .i32 f, .int .i32 r, .bool n, .slice a ka ca, .slice b kb cb, .bool m, .slice c kc cc, .slice d kd cd], .int .i64 most] w fun e w' => e = .returned (.bool ((smallL ka most && smallL kb most) && (smallL kc most && smallL kd most))) ∧ Below w.heap.size w w' := by
  have HX := hid (Box.made w 30 #[.string s, .int .i32 f, .int .i32 r, .bool n, .slice a ka ca, .slice b kb cb, .bool m, .slice c kc cc, .slice d kd cd])
  have HB := hid (alloc_later w (.cells #[.string s, .int .i32 f, .int .i32 r, .bool n, .slice a ka ca, .slice b kb cb, .bool m, .slice c kc cc, .slice d kd cd] 30))
  obtain ⟨X, hX⟩ : ∃ X, w.alloc (.cells #[.string s, .int .i32 f, .int .i32 r, .bool n, .slice a ka ca, .slice b kb cb, .bool m, .slice c kc cc, .slice d kd cd] 30) = X := ⟨_, rfl⟩
  rw [hX] at HX HB
  have H1 : Hid (∀ V, _) := fun V => lSmall_any n a ka ca b kb cb most V
  have H2 : Hid (∀ V, _) := fun V => lSmall_any m c kc cc d kd cd most V
  generalize (smallL ka most && smallL kb most) = z1 at *
  generalize (smallL kc most && smallL kd most) = z2 at *
  have k3 : X.cell? ⟨w.heap.size, 3, none⟩ = some (.bool n) := HX.out.cell 3
  have k4 : X.cell? ⟨w.heap.size, 4, none⟩ = some (.slice a ka ca) := HX.out.cell 4
  have k5 : X.cell? ⟨w.heap.size, 5, none⟩ = some (.slice b kb cb) := HX.out.cell 5
  go_enter Tryz.func4, Tryz.ntmps4
  go_wp2_with fail
  refine Calls.mono (H1.out X) ?_
  rintro e w1 ⟨rfl, hb1⟩
  have HX1 := hid (HX.out.later hb1 HX.out.lt)
  have HB1 := hid (bt HB.out hb1)
  clear hb1 k3 k4 k5 H1
  cases z1 with
  | false =>
    go_wp2_with fail
    go_ret
    exact ⟨rfl, HB1.out⟩
  | true =>
    have k6 : w1.cell? ⟨w.heap.size, 6, none⟩ = some (.bool m) := HX1.out.cell 6
    have k7 : w1.cell? ⟨w.heap.size, 7, none⟩ = some (.slice c kc cc) := HX1.out.cell 7
    have k8 : w1.cell? ⟨w.heap.size, 8, none⟩ = some (.slice d kd cd) := HX1.out.cell 8
    go_wp2_with fail
    refine Calls.mono (H2.out w1) ?_
    rintro e w2 ⟨rfl, hb2⟩
    have HB2 := hid (bt HB1.out hb2)
    clear hb2 k6 k7 k8 H2
    go_wp2_with fail
    go_ret
    exact ⟨by simp, HB2.out⟩
end Go.Proofs.YtldeiapikkebgaaGreatDoor

