/- My texts on the way to AngleKnown, one behind the other: contracts of the program and of the document's answers. -/
import Derived.WalkKit
import Derived.WalkLawsBesides
import Derived.WalkSpells
import Derived.Laws.BitsAllLaws
import Derived.Laws.CopyOwn
import Derived.Laws.AppendOwnNone
import Derived.Test.YtkclkldjphhkdaaChecked
import Derived.Handy
import Derived.RegionTactic
import Derived.ChangeAlike
import Derived.Deep.RegionHeld3
import Derived.Deep.QuietTactic
import Derived.BigQuiet
/- Lists of 32-bit words as plain data: their trimmed length, their value, when they are read out of memory. Nothing here speaks of the program. -/
namespace Go.Proofs.Ytkclkldjphhkdaa
open Go.RowKit

theorem hid {p : Prop} (h : p) : Hid p := h

/-- Each number is a word of 32 bits. -/
def Wd (zs : List Int) : Prop := ∀ z ∈ zs, 0 ≤ z ∧ z ≤ 4294967295

theorem Wd.at {zs : List Int} (h : Wd zs) (j : Nat) : 0 ≤ zs[j]?.getD 0 ∧ zs[j]?.getD 0 ≤ 4294967295 := by
  by_cases hj : j < zs.length
  · rw [List.getElem?_eq_getElem hj]; exact h _ (List.getElem_mem hj)
  · rw [List.getElem?_eq_none (by omega)]; exact ⟨by decide, by decide⟩

theorem Wd.take {zs : List Int} (h : Wd zs) (k : Nat) : Wd (zs.take k) := fun z hz => h z (List.mem_of_mem_take hz)
theorem Wd.drop {zs : List Int} (h : Wd zs) (k : Nat) : Wd (zs.drop k) := fun z hz => h z (List.mem_of_mem_drop hz)
theorem Wd.append {zs ys : List Int} (h : Wd zs) (g : Wd ys) : Wd (zs ++ ys) := fun z hz => (List.mem_append.1 hz).elim (h z) (g z)
theorem Wd.nil : Wd [] := fun _ hz => by simp at hz
theorem Wd.cons {z : Int} {zs : List Int} (h0 : 0 ≤ z ∧ z ≤ 4294967295) (h : Wd zs) : Wd (z :: zs) := fun y hy => by
  rcases List.mem_cons.1 hy with rfl | hy
  · exact h0
  · exact h y hy
theorem Wd.one {z : Int} (h0 : 0 ≤ z ∧ z ≤ 4294967295) : Wd [z] := Wd.cons h0 Wd.nil
theorem Wd.replicate (n : Nat) : Wd (List.replicate n 0) := fun z hz => by
  have := (List.mem_replicate.1 hz).2; omega
theorem Wd.set {zs : List Int} (h : Wd zs) (j : Nat) {z : Int} (h0 : 0 ≤ z ∧ z ≤ 4294967295) : Wd (zs.set j z) := fun y hy => by
  rcases List.mem_or_eq_of_mem_set hy with hy | rfl
  · exact h y hy
  · exact h0
theorem Wd.tail {z : Int} {zs : List Int} (h : Wd (z :: zs)) : Wd zs := fun y hy => h y (List.mem_cons_of_mem _ hy)
theorem Wd.head {z : Int} {zs : List Int} (h : Wd (z :: zs)) : 0 ≤ z ∧ z ≤ 4294967295 := h z List.mem_cons_self

/-- How many of the first k words stay when noughts at their end are dropped. -/
def szTo (zs : List Int) : Nat → Nat
  | 0 => 0
  | k + 1 => if zs[k]?.getD 0 = 0 then szTo zs k else k + 1
def sz (zs : List Int) : Nat := szTo zs zs.length
def trimmed (zs : List Int) : List Int := zs.take (sz zs)

theorem szTo_le (zs : List Int) : ∀ k, szTo zs k ≤ k
  | 0 => Nat.le_refl _
  | k + 1 => by
    unfold szTo
    split
    · exact Nat.le_succ_of_le (szTo_le zs k)
    · exact Nat.le_refl _
theorem sz_le (zs : List Int) : sz zs ≤ zs.length := szTo_le zs _
theorem szTo_zero (zs : List Int) (k : Nat) (h : zs[k]?.getD 0 = 0) : szTo zs (k + 1) = szTo zs k := by simp [szTo, h]
theorem szTo_keep (zs : List Int) (k : Nat) (h : ¬ zs[k]?.getD 0 = 0) : szTo zs (k + 1) = k + 1 := by simp [szTo, h]
theorem length_trimmed (zs : List Int) : (trimmed zs).length = sz zs := by
  unfold trimmed; rw [List.length_take, Nat.min_eq_left (sz_le zs)]
theorem Wd.trimmed {zs : List Int} (h : Wd zs) : Wd (trimmed zs) := h.take _
/-- Behind the trimmed length stand noughts alone. -/
theorem szTo_behind (zs : List Int) : ∀ k j, szTo zs k ≤ j → j < k → zs[j]?.getD 0 = 0
  | 0, _, _, h => by omega
  | k + 1, j, h1, h2 => by
    by_cases h : zs[k]?.getD 0 = 0
    · rw [szTo_zero zs k h] at h1
      by_cases e : j = k
      · rw [e]; exact h
      · exact szTo_behind zs k j h1 (by omega)
    · rw [szTo_keep zs k h] at h1; omega
theorem sz_behind (zs : List Int) (j : Nat) (h1 : sz zs ≤ j) : zs[j]?.getD 0 = 0 := by
  by_cases h : j < zs.length
  · exact szTo_behind zs _ j h1 h
  · rw [List.getElem?_eq_none (by omega)]; rfl
/-- The last word that stays is not 0. -/
theorem szTo_top (zs : List Int) : ∀ k, 0 < szTo zs k → ¬ zs[szTo zs k - 1]?.getD 0 = 0
  | 0, h => by simp [szTo] at h
  | k + 1, h => by
    by_cases e : zs[k]?.getD 0 = 0
    · rw [szTo_zero zs k e] at h ⊢; exact szTo_top zs k h
    · rw [szTo_keep zs k e]; simpa using e
theorem sz_top (zs : List Int) (h : 0 < sz zs) : ¬ zs[sz zs - 1]?.getD 0 = 0 := szTo_top zs _ h

/-- The list is trimmed: just if it is empty or its last word is not 0. -/
theorem sz_eq_iff (zs : List Int) : sz zs = zs.length ↔ zs.length = 0 ∨ ¬ zs[zs.length - 1]?.getD 0 = 0 := by
  constructor
  · intro h
    by_cases h0 : zs.length = 0
    · exact .inl h0
    · right; have := sz_top zs (by omega); rwa [h] at this
  · rintro (h | h)
    · have := sz_le zs; omega
    · by_cases h0 : zs.length = 0
      · have := sz_le zs; omega
      · obtain ⟨m, hm⟩ : ∃ m, zs.length = m + 1 := ⟨zs.length - 1, by omega⟩
        unfold sz; rw [hm]; rw [hm] at h
        exact szTo_keep zs m (by simpa using h)

/-- The slice whose address is 'a', whose length is 'n' and whose capacity is 'cap' reads as 'zs' in the world 'w': below block number B. -/
def Reads (w : World) (B : Nat) (a : Option Addr) (n cap : Nat) (zs : List Int) : Prop :=
  zs.length = n ∧ Wd zs ∧ (n = 0 ∨ ∃ b o, a = some ⟨b, o, none⟩ ∧ b < B ∧ ∀ j, j < n → w.cell? ⟨b, o + j, none⟩ = some (.int .u32 (zs[j]?.getD 0))) ∧ n ≤ cap ∧ cap ≤ maxLen ∧ (a = none → cap = 0)

theorem Reads.later {w w' : World} {B B' : Nat} {a : Option Addr} {n cap : Nat} {zs : List Int} (h : Reads w B a n cap zs) (hb : Below B w w') (hB : B ≤ B') : Reads w' B' a n cap zs := by
  obtain ⟨h1, h2, h3, h4⟩ := h
  refine ⟨h1, h2, h3.imp id ?_, h4⟩
  rintro ⟨b, o, rfl, hlt, hc⟩
  exact ⟨b, o, rfl, by omega, fun j hj => (hb.cell (p := ⟨b, o + j, none⟩) hlt).trans (hc j hj)⟩

/-- Of a slice its first k elements. -/
theorem Reads.front {w : World} {B : Nat} {a : Option Addr} {n cap : Nat} {zs : List Int} (h : Reads w B a n cap zs) (k : Nat) (hk : k ≤ n) : Reads w B a k cap (zs.take k) := by
  obtain ⟨h1, h2, h3, h4, h5, h6⟩ := h
  refine ⟨by rw [List.length_take]; omega, h2.take k, ?_, by omega, h5, h6⟩
  rcases h3 with h3 | ⟨b, o, ha, hlt, hc⟩
  · left; omega
  · right
    refine ⟨b, o, ha, hlt, fun j hj => ?_⟩
    rw [hc j (by omega), List.getElem?_take, if_pos hj]

/-- What the call owns is read as its words. -/
theorem Reads.own {w : World} {base e : Nat} {v : Value} {zs : List Int} {n : Nat} (h : w.ownsRow base e 1 v n (zs.map (Value.int .u32))) (hw : Wd zs) :
    ∃ a cap, v = .slice a n cap ∧ Reads w w.heap.size a n cap zs := by
  have hl := h.1
  simp at hl
  rcases h.2 with ⟨rfl, rfl⟩ | ⟨g, cap, cur, rfl, hb, hg, hnc, hcm, hcs, ht⟩
  · exact ⟨none, 0, rfl, by omega, hw, .inl rfl, Nat.le_refl _, Nat.zero_le _, fun _ => rfl⟩
  · refine ⟨_, cap, rfl, by omega, hw, ?_, hnc, hcm, fun h => by simp at h⟩
    right
    refine ⟨g, 0, rfl, ?_, fun j hj => ?_⟩
    · have : w.heap[g]?.isSome := by rw [hg]; rfl
      simpa using this
    · have hc := h.cellAt j (by omega)
      rw [Nat.zero_add, hc, List.getElem?_map, List.getElem?_eq_getElem (by omega)]
      simp

/-- What is owned stays owned while only newer memory is made. -/
theorem owns_later {w w' : World} {base e : Nat} {v : Value} {n : Nat} {xs : List Value} (h : w.ownsRow base e 1 v n xs) (hb : Below w.heap.size w w') : w'.ownsRow base e 1 v n xs := by
  refine ⟨h.1, h.2.imp id ?_⟩
  rintro ⟨g, cap, cur, rfl, hbg, hg, h1, h2, h3, h4⟩
  refine ⟨g, cap, cur, rfl, hbg, ?_, h1, h2, h3, h4⟩
  rw [hb.block g (by
    have : w.heap[g]?.isSome := by rw [hg]; rfl
    simpa using this)]
  exact hg

/-- What is owned from one block number on is owned from every smaller one on. -/
theorem owns_base {w : World} {base base' e : Nat} {v : Value} {n : Nat} {xs : List Value} (h : w.ownsRow base e 1 v n xs) (hb : base' ≤ base) : w.ownsRow base' e 1 v n xs := by
  refine ⟨h.1, h.2.imp id ?_⟩
  rintro ⟨g, cap, cur, rfl, hbg, hr⟩
  exact ⟨g, cap, cur, rfl, by omega, hr⟩
/-- A slice literal, just laid, is read. -/
theorem Reads.lit (w : World) (e : Nat) (zs : List Int) (hw : Wd zs) (hm : zs.length ≤ maxLen) : Reads (w.alloc (.cells ((zs.map (Value.int .u32)).toArray) e)) (w.alloc (.cells ((zs.map (Value.int .u32)).toArray) e)).heap.size (some ⟨w.heap.size, 0, none⟩) zs.length zs.length zs := by
  have h := World.ownsRow_lit (base := w.heap.size) (e := e) (size := 1) w ((zs.map (Value.int .u32)).toArray) zs.length (Nat.le_refl _) hm (by simp)
  obtain ⟨a, cap, hv, hr⟩ := Reads.own (zs := zs) (by simpa using h) hw
  simp only [Value.slice.injEq] at hv
  obtain ⟨rfl, _, rfl⟩ := hv
  exact hr

/-- A word above a word. -/
theorem or_join (x y : Int) (hx0 : 0 ≤ x) (hx : x ≤ 4294967295) (hy0 : 0 ≤ y) (hy : y ≤ 4294967295) : bits BinOp.or IntKind.u64 (x * 4294967296) y = y + x * 4294967296 := by
  rw [u64_or _ _ (by omega) (by omega) (by omega) (by omega), nat_join 32 _ _ (by omega) (by omega)]
  omega

theorem ret_int {k : IntKind} {a b : Int} (h : a = b) : Ending.returned (.int k a) = .returned (.int k b) := by rw [h]
theorem ret_bool {a b : Bool} (h : a = b) : Ending.returned (.bool a) = .returned (.bool b) := by rw [h]
end Go.Proofs.Ytkclkldjphhkdaa

/- Turns as fractions: their sizes are rational numbers, whole turns left out. Nothing here speaks of the program. -/
namespace Go.Proofs.Ytkclkldjphhkdaa
open Go.RowKit

/-- A fraction that may be a turn. -/
def okT (p q : Nat) : Prop := 1 ≤ q ∧ q ≤ 4294967296 ∧ p < q ∧ Nat.gcd p q = 1

/-- The turn's size. -/
def vT (p q : Nat) : Rat := mkRat p q

theorem mkRat_nd (p q : Nat) (hq : 0 < q) : (mkRat p q).num = ((p / Nat.gcd p q : Nat) : Int) ∧ (mkRat p q).den = q / Nat.gcd p q := by
  have hq' : q ≠ 0 := by omega
  rw [← Rat.normalize_eq_mkRat hq', Rat.normalize_eq hq']
  simp [Int.natAbs_natCast]

theorem vT_low (p q : Nat) (hq : 0 < q) : vT (p / Nat.gcd p q) (q / Nat.gcd p q) = vT p q := by
  have h := mkRat_nd p q hq
  unfold vT
  rw [← h.1, ← h.2, Rat.mkRat_self]

theorem vT_inj {p q r s : Nat} (h : okT p q) (g : okT r s) (e : vT p q = vT r s) : p = r ∧ q = s := by
  have a := mkRat_nd p q (by have := h.1; omega)
  have b := mkRat_nd r s (by have := g.1; omega)
  have e' : mkRat p q = mkRat r s := e
  rw [h.2.2.2, Nat.div_one, Nat.div_one] at a
  rw [g.2.2.2, Nat.div_one, Nat.div_one] at b
  rw [e', b.1, b.2] at a
  omega

def frac (x : Rat) : Rat := x - x.floor

theorem frac_add_int (x : Rat) (k : Int) : frac (x + k) = frac x := by
  unfold frac
  rw [Rat.floor_add_intCast, Rat.intCast_add]
  grind

theorem frac_unique {x y : Rat} (k : Int) (h : x = y + k) (h0 : 0 ≤ y) (h1 : y < 1) : frac x = y := by
  rw [h, frac_add_int]
  unfold frac
  have : y.floor = 0 := by
    have a : y.floor < 1 := Rat.floor_lt_iff.2 (by simpa using h1)
    have b : 0 ≤ y.floor := Rat.le_floor_iff.2 (by simpa using h0)
    omega
  rw [this]; simp; grind

end Go.Proofs.Ytkclkldjphhkdaa

/- package turn: common, within, round, of every two numbers. -/
namespace Go.Proofs.Ytkclkldjphhkdaa
open Go.RowKit
set_option linter.unusedVariables false

set_option maxHeartbeats 800000 in
set_option maxRecDepth 100000 in
theorem tcommon_any (a b : Nat) (w : World) (ha : a < 18446744073709551616) (hb : b < 18446744073709551616) :
    Calls Try.prog 30 #[.int .u64 (a : Int), .int .u64 (b : Int)] w fun e w' => e = .returned (.int .u64 (Nat.gcd a b : Nat)) ∧ Below w.heap.size w w' := by
  go_enter Try.func30, Try.ntmps30
  go_wp2_with fail
  go_loopw [0, 1] (fun x y wr => ∃ c d : Nat, x = .int .u64 (c : Int) ∧ y = .int .u64 (d : Int) ∧ c < 18446744073709551616 ∧ d < 18446744073709551616 ∧ Hid (Nat.gcd c d = Nat.gcd a b) ∧ Below w.heap.size w wr) (fun _ y _ => (intOf y).toNat)
  case atStart => exact ⟨a, b, rfl, rfl, ha, hb, (rfl : Nat.gcd a b = Nat.gcd a b), Below.refl _ _⟩
  case round =>
    obtain ⟨c, d, rfl, rfl, hc, hd, hg, hX⟩ := hrel
    by_cases h0 : d = 0
    · subst h0
      have HG : Hid (c = Nat.gcd a b) := by have := hg.out; rw [Nat.gcd_zero_right] at this; exact this
      clear hg
      go_wp2_with fail
      go_ret
      exact ⟨ret_int (by rw [HG.out]), hX⟩
    · have hm : c % d < d := Nat.mod_lt _ (by omega)
      have HG : Hid (Nat.gcd d (c % d) = Nat.gcd a b) := by show _ = _; rw [← hg.out, Nat.gcd_comm c d, Nat.gcd_rec d c, Nat.gcd_comm]
      have h0' : (d : Int) ≠ 0 := by omega
      clear hg
      go_wp2_with fail
      go_region
      all_goals
        go_wp2_with fail
        go_roundw
        case rel => exact ⟨d, c % d, rfl, by go_num, by omega, by omega, HG, hX.drew⟩
        case measure => simp [intOf]; omega

theorem tcommonI (p q : Int) (w : World) (p0 : 0 ≤ p) (p1 : p < 18446744073709551616) (q0 : 0 ≤ q) (q1 : q < 18446744073709551616) :
    Calls Try.prog 30 #[.int .u64 p, .int .u64 q] w fun e w' => e = .returned (.int .u64 (Nat.gcd p.toNat q.toNat : Nat)) ∧ Below w.heap.size w w' := by
  obtain ⟨a, rfl⟩ := Int.eq_ofNat_of_zero_le p0
  obtain ⟨b, rfl⟩ := Int.eq_ofNat_of_zero_le q0
  exact tcommon_any a b w (by omega) (by omega)

set_option maxHeartbeats 800000 in
set_option maxRecDepth 100000 in
theorem twithin_any (p : Int) (q : Nat) (w : World) (h0 : -9223372036854775808 ≤ p) (h1 : p ≤ 9223372036854775807) (hq : 0 < q) (hq' : q ≤ 4294967296) :
    Calls Try.prog 28 #[.int .i64 p, .int .i64 (q : Int)] w fun e w' => e = .returned (.int .i64 (p % (q : Int))) ∧ w' = w := by
  have a := Int.emod_nonneg p (show (q : Int) ≠ 0 by omega)
  have b := Int.emod_lt_of_pos p (show (0 : Int) < q by omega)
  have b1 : Int.tmod p q = p % q ∨ (Int.tmod p q = p % q - q) := by
    rw [Int.tmod_eq_emod]
    split
    · left; omega
    · right; simp
  have b2 : 0 ≤ p → Int.tmod p q = p % q := fun h => by rw [Int.tmod_eq_emod, if_pos (.inl h)]; omega
  go_enter Try.func28, Try.ntmps28
  go_wp2_with fail
  all_goals
    go_ret
    exact ⟨ret_int (by omega), rfl⟩

end Go.Proofs.Ytkclkldjphhkdaa

/- Floats of 64 bits by their bits: which are finite, what a sum or difference of two gives, the sum of two with what was lost of it, as plain functions of the bits. Nothing here speaks of the program. -/
namespace Go.Proofs.Ytkclkldjphhkdaa

/-- Neither an infinity nor NaN: by the bits. -/
def fin (x : Nat) : Bool := x / 4503599627370496 % 2048 != 2047

theorem fin_iff (x : Nat) : fin x = true ↔ x % 9223372036854775808 < 9218868437227405312 := by
  unfold fin
  simp only [bne_iff_ne, ne_eq]
  omega

theorem dbl_sign : Ieee.double.signWeight = 9223372036854775808 := by decide
theorem dbl_inf : Ieee.double.infRung = 9218868437227405312 := by decide
theorem dbl_binade : Ieee.double.binade = 4503599627370496 := by decide

theorem read_fin {x : Nat} (h : fin x = true) : ∃ s m e, Ieee.double.read x = .number s m e := by
  rw [fin_iff] at h
  unfold Ieee.Format.read
  simp only [dbl_sign, dbl_inf, dbl_binade]
  split
  · exact ⟨_, _, _, rfl⟩
  · first | exact ⟨_, _, _, rfl⟩ | (rw [if_pos h]; exact ⟨_, _, _, rfl⟩)

theorem read_not {x : Nat} (h : fin x = false) : (∃ s, Ieee.double.read x = .infinity s) ∨ ∃ s f, Ieee.double.read x = .nan s f := by
  have h' : ¬ x % 9223372036854775808 < 9218868437227405312 := fun g => by rw [(fin_iff x).2 g] at h; exact Bool.noConfusion h
  unfold Ieee.Format.read
  simp only [dbl_sign, dbl_inf, dbl_binade]
  rw [if_neg (by omega), if_neg h']
  split
  · exact Or.inl ⟨_, rfl⟩
  · exact Or.inr ⟨_, _, rfl⟩

theorem write_inf (s : Bool) : fin (Ieee.double.write (.infinity s)) = false := by
  cases s <;> decide

theorem nan_cut (x y t : Nat) : fin (Question.cut (.nanBits .f64 x y) t) = false ∧ Question.cut (.nanBits .f64 x y) t < 18446744073709551616 := by
  simp only [Question.cut]
  have hu : (t / 2) % (2 ^ 52 - 1) < 4503599627370495 := Nat.mod_lt _ (by decide)
  have hv : t % 2 = 0 ∨ t % 2 = 1 := by omega
  generalize (t / 2) % (2 ^ 52 - 1) = u at hu ⊢
  generalize t % 2 = v at hv ⊢
  constructor
  · cases hh : fin (v * 2 ^ 63 + 0x7ff0000000000000 + 1 + u)
    · rfl
    · rw [fin_iff] at hh; rcases hv with rfl | rfl <;> omega
  · rcases hv with rfl | rfl <;> omega

/-- What the machine hands back: the bits of the answer, or, where there is none, some NaN. -/
def FR (op : BinOp) (x y r : Nat) : Prop := r < 18446744073709551616 ∧ (floatBits op .f64 x y = some r ∨ (floatBits op .f64 x y = none ∧ fin r = false))

theorem FR.det {op : BinOp} {x y r s : Nat} (h : FR op x y r) (g : floatBits op .f64 x y = some s) : r = s := by
  rcases h.2 with h | ⟨h, _⟩
  · rw [h] at g; exact Option.some.inj g
  · rw [h] at g; cases g

theorem FR.some {op : BinOp} {x y r : Nat} (h : floatBits op .f64 x y = .some r) : FR op x y r := by
  have := floatBits_wf h
  simp [Lit.wf] at this
  exact ⟨this, Or.inl h⟩
theorem FR.none {op : BinOp} {x y : Nat} (t : Nat) (h : floatBits op .f64 x y = .none) : FR op x y (Question.cut (.nanBits .f64 x y) t) :=
  ⟨(nan_cut x y t).2, Or.inr ⟨h, (nan_cut x y t).1⟩⟩

theorem sum_back {d c : Ieee.Datum} {r : Nat} (h : (d.sum c).map Ieee.double.write = .some r) (hf : fin r = true) : (∃ s m e, d = .number s m e) ∧ ∃ s m e, c = .number s m e := by
  cases d with
  | nan s f => simp [Ieee.Datum.sum] at h
  | infinity s =>
    cases c with
    | nan t f => simp [Ieee.Datum.sum] at h
    | infinity t =>
      simp only [Ieee.Datum.sum] at h
      split at h
      · cases h; rw [write_inf] at hf; cases hf
      · cases h
    | number t m e => simp only [Ieee.Datum.sum] at h; cases h; rw [write_inf] at hf; cases hf
  | number s m e =>
    cases c with
    | nan t f => simp [Ieee.Datum.sum] at h
    | infinity t => simp only [Ieee.Datum.sum] at h; cases h; rw [write_inf] at hf; cases hf
    | number t n j => exact ⟨⟨_, _, _, rfl⟩, ⟨_, _, _, rfl⟩⟩

theorem fin_of_read {x : Nat} {s : Bool} {m : Nat} {e : Int} (h : Ieee.double.read x = .number s m e) : fin x = true := by
  cases hx : fin x
  · rcases read_not hx with ⟨_, g⟩ | ⟨_, _, g⟩ <;> rw [g] at h <;> cases h
  · rfl

theorem add_back {x y r : Nat} (h : floatBits .add .f64 x y = .some r) (hf : fin r = true) : fin x = true ∧ fin y = true := by
  obtain ⟨⟨_, _, _, h1⟩, ⟨_, _, _, h2⟩⟩ := sum_back h hf
  exact ⟨fin_of_read h1, fin_of_read h2⟩
theorem sub_back {x y r : Nat} (h : floatBits .sub .f64 x y = .some r) (hf : fin r = true) : fin x = true ∧ fin y = true := by
  obtain ⟨⟨_, _, _, h1⟩, ⟨s, m, e, h2⟩⟩ := sum_back h hf
  refine ⟨fin_of_read h1, ?_⟩
  cases hy : fin y
  · rcases read_not hy with ⟨_, g⟩ | ⟨_, _, g⟩ <;> (have g' : FloatKind.f64.format.read y = _ := g; rw [g'] at h2; cases h2)
  · rfl

theorem FR.addBack {x y r : Nat} (h : FR .add x y r) (hf : fin r = true) : floatBits .add .f64 x y = .some r ∧ fin x = true ∧ fin y = true := by
  rcases h.2 with h | ⟨_, g⟩
  · exact ⟨h, add_back h hf⟩
  · rw [g] at hf; cases hf
theorem FR.subBack {x y r : Nat} (h : FR .sub x y r) (hf : fin r = true) : floatBits .sub .f64 x y = .some r ∧ fin x = true ∧ fin y = true := by
  rcases h.2 with h | ⟨_, g⟩
  · exact ⟨h, sub_back h hf⟩
  · rw [g] at hf; cases hf

theorem add_some {x y : Nat} (hx : fin x = true) (hy : fin y = true) : ∃ r, floatBits .add .f64 x y = .some r := by
  obtain ⟨s, m, e, h1⟩ := read_fin hx
  obtain ⟨t, n, j, h2⟩ := read_fin hy
  exact ⟨_, show (((Ieee.double.read x).sum (Ieee.double.read y)).map Ieee.double.write) = _ by rw [h1, h2]; rfl⟩

theorem order_self {x : Nat} (h : fin x = true) : FloatKind.f64.format.order x x = .some .eq := by
  obtain ⟨s, m, e, h1⟩ := read_fin h
  show (Ieee.double.read x).order (Ieee.double.read x) = _
  rw [h1]
  simp [Ieee.Datum.order]

theorem run_add (P : Program) (w : World) (t : TypeId) (x y : Nat) (h : floatBits .add .f64 x y = .none) :
    (binOp .add t (.float .f64 x) (.float .f64 y)).run P w = .ok (.float .f64 (Question.cut (.nanBits .f64 x y) (w.tape w.drawn (.nanBits .f64 x y)))) w.drew := by
  have h' : FloatKind.f64.format.add x y = .none := h
  simp [binOp, Op.floatArith, h', Question.forced]
theorem run_sub (P : Program) (w : World) (t : TypeId) (x y : Nat) (h : floatBits .sub .f64 x y = .none) :
    (binOp .sub t (.float .f64 x) (.float .f64 y)).run P w = .ok (.float .f64 (Question.cut (.nanBits .f64 x y) (w.tape w.drawn (.nanBits .f64 x y)))) w.drew := by
  have h' : FloatKind.f64.format.sub x y = .none := h
  simp [binOp, Op.floatArith, h', Question.forced]

/-- The sum of two finite floats and what was lost of it; nothing, where one of both is not finite. -/
def chain (a b : Nat) : Option (Nat × Nat) :=
  match floatBits .add .f64 a b with
  | .none => .none
  | .some s => if fin s then
      match floatBits .sub .f64 s a with
      | .none => .none
      | .some t =>
        match floatBits .sub .f64 s t with
        | .none => .none
        | .some d =>
          match floatBits .sub .f64 a d, floatBits .sub .f64 b t with
          | .some p, .some q =>
            match floatBits .add .f64 p q with
            | .none => .none
            | .some e => if fin e then .some (s, e) else .none
          | _, _ => .none
    else .none

/-- The steps as the machine goes them. -/
def Two (a b s e : Nat) : Prop := ∃ t d p q, FR .add a b s ∧ FR .sub s a t ∧ FR .sub s t d ∧ FR .sub a d p ∧ FR .sub b t q ∧ FR .add p q e

theorem Two.good {a b s e : Nat} (h : Two a b s e) (hs : fin s = true) (he : fin e = true) : chain a b = .some (s, e) := by
  obtain ⟨t, d, p, q, h1, h2, h3, h4, h5, h6⟩ := h
  obtain ⟨g6, fp, fq⟩ := h6.addBack he
  obtain ⟨g5, _, ft⟩ := h5.subBack fq
  obtain ⟨g4, _, fd⟩ := h4.subBack fp
  obtain ⟨g3, _, _⟩ := h3.subBack fd
  obtain ⟨g2, _, _⟩ := h2.subBack ft
  obtain ⟨g1, _, _⟩ := h1.addBack hs
  simp only [chain, g1, g2, g3, g4, g5, g6, hs, he, if_true]

theorem chain_back {a b : Nat} {u : Nat × Nat} (h : chain a b = .some u) : fin u.1 = true ∧ fin u.2 = true ∧ ∀ s e, Two a b s e → s = u.1 ∧ e = u.2 := by
  unfold chain at h
  split at h
  · cases h
  rename_i s g1
  split at h
  · rename_i hs
    split at h
    · cases h
    rename_i t g2
    split at h
    · cases h
    rename_i d g3
    split at h
    · rename_i p q g4 g5
      split at h
      · cases h
      rename_i e g6
      split at h
      · rename_i he
        cases h
        refine ⟨hs, he, fun s' e' hh => ?_⟩
        obtain ⟨t', d', p', q', h1, h2, h3, h4, h5, h6⟩ := hh
        have e1 := h1.det g1
        subst e1
        have e2 := h2.det g2
        subst e2
        have e3 := h3.det g3
        subst e3
        have e4 := h4.det g4
        subst e4
        have e5 := h5.det g5
        subst e5
        exact ⟨rfl, h6.det g6⟩
      · cases h
    · cases h
  · cases h

theorem Two.bad {a b s e : Nat} (h : Two a b s e) (hb : fin s = false ∨ fin e = false) : chain a b = .none := by
  cases hc : chain a b with
  | none => rfl
  | some u =>
    obtain ⟨h1, h2, h3⟩ := chain_back hc
    obtain ⟨e1, e2⟩ := h3 _ _ h
    rcases hb with hb | hb
    · rw [e1, h1] at hb; cases hb
    · rw [e2, h2] at hb; cases hb

/-- The first step alone. -/
theorem chain_over {a b s : Nat} (h : FR .add a b s) (hs : fin s = false) : chain a b = .none := by
  cases hc : floatBits .add .f64 a b with
  | none => simp only [chain, hc]
  | some r =>
    have := h.det hc
    subst this
    simp only [chain, hc, hs]
    rfl

/-- TwoSum: the sum, what was lost, the error. -/
def tsum (a b : Nat) : Nat × Nat × Int :=
  if fin a && fin b then
    match chain a b with
    | .some (s, e) => (s, e, 0)
    | .none => (0, 0, 9)
  else (0, 0, 8)

theorem tsum_fin (a b : Nat) : fin (tsum a b).1 = true ∧ fin (tsum a b).2.1 = true := by
  unfold tsum
  split
  · cases hc : chain a b with
    | none => exact ⟨by decide, by decide⟩
    | some u => exact ⟨(chain_back hc).1, (chain_back hc).2.1⟩
  · exact ⟨by decide, by decide⟩

theorem tsum_ok {a b s e : Nat} (ha : fin a = true) (hb : fin b = true) (h : chain a b = .some (s, e)) : tsum a b = (s, e, 0) := by
  simp only [tsum, ha, hb, h, Bool.and_true, if_true]
theorem tsum_over {a b : Nat} (ha : fin a = true) (hb : fin b = true) (h : chain a b = .none) : tsum a b = (0, 0, 9) := by
  simp only [tsum, ha, hb, h, Bool.and_true, if_true]
theorem tsum_bad {a b : Nat} (h : (fin a && fin b) = false) : tsum a b = (0, 0, 8) := by
  simp only [tsum, h]
  rfl

/-- Sum from a sum, what was lost, and a place on: the two and the fault. -/
def fsumGo : Nat → Nat → Nat → List Nat → Nat × Nat × Int × Int
  | s, c, _, [] => (s, c, 0, 0)
  | s, c, i, x :: l =>
    match chain s x with
    | .none => (0, 0, 9, (i : Int))
    | .some (t, e) =>
      match floatBits .add .f64 c e with
      | .none => (0, 0, 9, (i : Int))
      | .some d => if fin d then fsumGo t d (i + 1) l else (0, 0, 9, (i : Int))

/-- Sum: from a place on with all ahead of it finite. -/
def fsumFrom (l0 : List Nat) : Nat → List Nat → Nat × Nat × Int × Int
  | _, [] => fsumGo 0 0 0 l0
  | i, x :: l => if fin x then fsumFrom l0 (i + 1) l else (0, 0, 8, (i : Int))
def fsum (l : List Nat) : Nat × Nat × Int × Int := fsumFrom l 0 l

theorem drop_step {l : List Nat} {k : Nat} (h : k < l.length) : l.drop k = (l[k]?.getD 0) :: l.drop (k + 1) := by
  rw [List.drop_eq_getElem_cons h, List.getElem?_eq_getElem h]
  rfl

theorem fsumFrom_fin {l0 l : List Nat} {k : Nat} (h : k < l.length) (hf : fin (l[k]?.getD 0) = true) : fsumFrom l0 k (l.drop k) = fsumFrom l0 (k + 1) (l.drop (k + 1)) := by
  rw [drop_step h]
  simp only [fsumFrom, hf, if_true]
theorem fsumFrom_bad {l0 l : List Nat} {k : Nat} (h : k < l.length) (hf : fin (l[k]?.getD 0) = false) : fsumFrom l0 k (l.drop k) = (0, 0, 8, (k : Int)) := by
  rw [drop_step h]
  simp only [fsumFrom, hf]
  rfl
theorem fsumFrom_end {l0 l : List Nat} {k : Nat} (h : l.length ≤ k) : fsumFrom l0 k (l.drop k) = fsumGo 0 0 0 l0 := by
  rw [List.drop_of_length_le h]
  rfl
theorem fsumGo_end {l : List Nat} {s c k : Nat} (h : l.length ≤ k) : fsumGo s c k (l.drop k) = (s, c, 0, 0) := by
  rw [List.drop_of_length_le h]
  rfl
theorem fsumGo_none {l : List Nat} {s c k : Nat} (h : k < l.length) (g : chain s (l[k]?.getD 0) = .none) : fsumGo s c k (l.drop k) = (0, 0, 9, (k : Int)) := by
  rw [drop_step h]
  simp only [fsumGo, g]
theorem fsumGo_over {l : List Nat} {s c k t e d : Nat} (h : k < l.length) (g : chain s (l[k]?.getD 0) = .some (t, e)) (g2 : floatBits .add .f64 c e = .some d) (g3 : fin d = false) : fsumGo s c k (l.drop k) = (0, 0, 9, (k : Int)) := by
  rw [drop_step h]
  simp only [fsumGo, g, g2, g3]
  rfl
theorem fsumGo_step {l : List Nat} {s c k t e d : Nat} (h : k < l.length) (g : chain s (l[k]?.getD 0) = .some (t, e)) (g2 : floatBits .add .f64 c e = .some d) (g3 : fin d = true) : fsumGo s c k (l.drop k) = fsumGo t d (k + 1) (l.drop (k + 1)) := by
  rw [drop_step h]
  simp only [fsumGo, g, g2, g3, if_true]

/-- All of them: finite. -/
def Fins (l : List Nat) : Prop := ∀ j : Nat, fin (l[j]?.getD 0) = true

theorem fin0 : fin 0 = true := by decide

/-- A round of the program's loop. -/
theorem round_good {l : List Nat} {s c k s' e' c' : Nat} (h : k < l.length) (h2 : Two s (l[k]?.getD 0) s' e') (h3 : FR .add c e' c') (f1 : fin s' = true) (f2 : fin c' = true) :
    fsumGo s c k (l.drop k) = fsumGo s' c' (k + 1) (l.drop (k + 1)) := by
  obtain ⟨g, _, fe⟩ := h3.addBack f2
  exact fsumGo_step h (h2.good f1 fe) g f2
theorem round_bad {l : List Nat} {s c k s' e' c' : Nat} (h : k < l.length) (fc : fin c = true) (h2 : Two s (l[k]?.getD 0) s' e') (h3 : FR .add c e' c') (f : fin s' = false ∨ fin c' = false) :
    fsumGo s c k (l.drop k) = (0, 0, 9, (k : Int)) := by
  cases f1 : fin s'
  · exact fsumGo_none h (h2.bad (.inl f1))
  · cases fe : fin e'
    · exact fsumGo_none h (h2.bad (.inr fe))
    · have f2 : fin c' = false := by
        rcases f with f | f
        · rw [f1] at f; cases f
        · exact f
      obtain ⟨r, hr⟩ := add_some fc fe
      have := h3.det hr
      subst this
      exact fsumGo_over h (h2.good f1 fe) hr f2

theorem fsumGo_fin (l : List Nat) : ∀ s c i, fin s = true → fin c = true → fin (fsumGo s c i l).1 = true ∧ fin (fsumGo s c i l).2.1 = true := by
  induction l with
  | nil => intro s c i hs hc; exact ⟨hs, hc⟩
  | cons x l ih =>
    intro s c i hs hc
    simp only [fsumGo]
    split
    · exact ⟨fin0, fin0⟩
    · rename_i t e g
      split
      · exact ⟨fin0, fin0⟩
      · rename_i d g2
        split
        · rename_i hd
          exact ih t d (i + 1) (chain_back g).1 hd
        · exact ⟨fin0, fin0⟩
theorem fsumFrom_good (l0 : List Nat) (l : List Nat) : ∀ i, fin (fsumFrom l0 i l).1 = true ∧ fin (fsumFrom l0 i l).2.1 = true := by
  induction l with
  | nil => intro i; exact fsumGo_fin l0 0 0 0 (by decide) (by decide)
  | cons x l ih =>
    intro i
    simp only [fsumFrom]
    split
    · exact ih (i + 1)
    · exact ⟨fin0, fin0⟩

end Go.Proofs.Ytkclkldjphhkdaa

/- real.finite, real.twoSum, real.TwoSum and the document's Finite, TwoSum, of any floats, by their bits. -/
namespace Go.Proofs.Ytkclkldjphhkdaa
open Go.RowKit
set_option linter.unusedVariables false

theorem fin_int (x : Nat) (hx : x < 18446744073709551616) : (bits .and .u64 ((x : Int) / 4503599627370496) 2047 != 2047) = fin x := by
  have e : bits .and .u64 ((x : Int) / 4503599627370496) 2047 = ((x / 4503599627370496 % 2048 : Nat) : Int) := by
    have e0 : (x : Int) / 4503599627370496 = ((x / 4503599627370496 : Nat) : Int) := by omega
    rw [e0]
    have e1 := u64_and_nat (x / 4503599627370496) 2047 (by omega) (by omega)
    have e2 : x / 4503599627370496 &&& 2047 = x / 4503599627370496 % 2048 := Nat.and_two_pow_sub_one_eq_mod _ 11
    rw [e2] at e1
    exact e1
  rw [e]
  unfold fin
  by_cases h : x / 4503599627370496 % 2048 = 2047
  · rw [h]; rfl
  · rw [bne_iff_ne.2 h, bne_iff_ne.2 (by omega)]

/-- What the machine hands back, and the world behind it. -/
def fval (op : BinOp) (V : World) (x y : Nat) : Nat := match floatBits op .f64 x y with
  | .some r => r
  | .none => Question.cut (.nanBits .f64 x y) (V.tape V.drawn (.nanBits .f64 x y))
def fwld (op : BinOp) (V : World) (x y : Nat) : World := match floatBits op .f64 x y with
  | .some _ => V
  | .none => V.drew
theorem fval_fr (op : BinOp) (V : World) (x y : Nat) : FR op x y (fval op V x y) := by
  cases h : floatBits op .f64 x y with
  | some r => simp only [fval, h]; exact FR.some h
  | none => simp only [fval, h]; exact FR.none _ h
theorem fwld_below (op : BinOp) {B : Nat} {U V : World} (x y : Nat) (h : Below B U V) : Below B U (fwld op V x y) := by
  cases e : floatBits op .f64 x y with
  | some r => simp only [fwld, e]; exact h
  | none => simp only [fwld, e]; exact h.drew
theorem fadd_run (P : Program) (t : TypeId) (V : World) (x y : Nat) : (binOp .add t (.float .f64 x) (.float .f64 y)).run P V = .ok (.float .f64 (fval .add V x y)) (fwld .add V x y) := by
  cases h : floatBits .add .f64 x y with
  | some r => simp only [fval, fwld, h]; exact run_float_arith V _ _ _ _ _ _ h
  | none => simp only [fval, fwld, h]; exact run_add P V t x y h
theorem fsub_run (P : Program) (t : TypeId) (V : World) (x y : Nat) : (binOp .sub t (.float .f64 x) (.float .f64 y)).run P V = .ok (.float .f64 (fval .sub V x y)) (fwld .sub V x y) := by
  cases h : floatBits .sub .f64 x y with
  | some r => simp only [fval, fwld, h]; exact run_float_arith V _ _ _ _ _ _ h
  | none => simp only [fval, fwld, h]; exact run_sub P V t x y h

theorem Two.lt {a b s e : Nat} (h : Two a b s e) : s < 18446744073709551616 ∧ e < 18446744073709551616 := by
  obtain ⟨t, d, p, q, h1, h2, h3, h4, h5, h6⟩ := h
  exact ⟨h1.1, h6.1⟩

/-- What TwoSum tells. -/
def tsumV (r : Nat × Nat × Int) : Value := .tuple #[.float .f64 r.1, .float .f64 r.2.1, .int .i64 r.2.2]

end Go.Proofs.Ytkclkldjphhkdaa

/- The document's TwoSum; slackwaterkit.SameFloat, SameBits of one float twice; lists of floats: CopyFloats, LentFloats, SameFloats, KeptFloats. -/
namespace Go.Proofs.Ytkclkldjphhkdaa
open Go.RowKit
set_option linter.unusedVariables false

theorem fadd_ex (P : Program) (t : TypeId) (V : World) (x y : Nat) : ∃ r V', (binOp .add t (.float .f64 x) (.float .f64 y)).run P V = .ok (.float .f64 r) V' ∧ Hid (FR .add x y r ∧ Below V.heap.size V V') :=
  ⟨_, _, fadd_run P t V x y, fval_fr .add V x y, fwld_below .add x y (Below.refl _ _)⟩
theorem fsub_ex (P : Program) (t : TypeId) (V : World) (x y : Nat) : ∃ r V', (binOp .sub t (.float .f64 x) (.float .f64 y)).run P V = .ok (.float .f64 r) V' ∧ Hid (FR .sub x y r ∧ Below V.heap.size V V') :=
  ⟨_, _, fsub_run P t V x y, fval_fr .sub V x y, fwld_below .sub x y (Below.refl _ _)⟩
theorem b2 {a b c : World} (h : Below a.heap.size a b) (g : Below b.heap.size b c) : Below a.heap.size a c := h.trans (g.mono h.size)

/-- The slice reads as these floats. -/
def RdF (w : World) (B : Nat) (a : Option Addr) (n cap : Nat) (xs : List Nat) : Prop :=
  xs.length = n ∧ (n = 0 ∨ ∃ b o, a = some ⟨b, o, none⟩ ∧ b < B ∧ ∀ j, j < n → w.cell? ⟨b, o + j, none⟩ = some (.float .f64 (xs[j]?.getD 0))) ∧ n ≤ cap ∧ cap ≤ maxLen ∧ (a = none → cap = 0)

theorem RdF.later {w w' : World} {B B' : Nat} {a : Option Addr} {n cap : Nat} {zs : List Nat} (h : RdF w B a n cap zs) (hb : Below B w w') (hB : B ≤ B') : RdF w' B' a n cap zs := by
  obtain ⟨h1, h3, h4⟩ := h
  refine ⟨h1, h3.imp id ?_, h4⟩
  rintro ⟨b, o, rfl, hlt, hc⟩
  exact ⟨b, o, rfl, by omega, fun j hj => (hb.cell (p := ⟨b, o + j, none⟩) hlt).trans (hc j hj)⟩

theorem RdF.front {w : World} {B : Nat} {a : Option Addr} {n cap : Nat} {zs : List Nat} (h : RdF w B a n cap zs) (k : Nat) (hk : k ≤ n) : RdF w B a k cap (zs.take k) := by
  obtain ⟨h1, h3, h4, h5, h6⟩ := h
  refine ⟨by rw [List.length_take]; omega, ?_, by omega, h5, h6⟩
  rcases h3 with h3 | ⟨b, o, ha, hlt, hc⟩
  · left; omega
  · right
    refine ⟨b, o, ha, hlt, fun j hj => ?_⟩
    rw [hc j (by omega), List.getElem?_take, if_pos hj]

theorem RdF.own {w : World} {base e : Nat} {v : Value} {zs : List Nat} {n : Nat} (h : w.ownsRow base e 1 v n (zs.map (Value.float .f64))) :
    ∃ a cap, v = .slice a n cap ∧ RdF w w.heap.size a n cap zs := by
  have hl := h.1
  simp at hl
  rcases h.2 with ⟨rfl, rfl⟩ | ⟨g, cap, cur, rfl, hb, hg, hnc, hcm, hcs, ht⟩
  · exact ⟨none, 0, rfl, by omega, .inl rfl, Nat.le_refl _, Nat.zero_le _, fun _ => rfl⟩
  · refine ⟨_, cap, rfl, by omega, ?_, hnc, hcm, fun h => by simp at h⟩
    right
    refine ⟨g, 0, rfl, ?_, fun j hj => ?_⟩
    · have : w.heap[g]?.isSome := by rw [hg]; rfl
      simpa using this
    · have hc := h.cellAt j (by omega)
      rw [Nat.zero_add, hc, List.getElem?_map, List.getElem?_eq_getElem (by omega)]
      simp

theorem newsF {w : World} {B : Nat} {ad : Addr} {n cap : Nat} {zs : List Nat} (h : RdF w B (some ad) n cap zs) :
    ∀ j v, (zs.map (Value.float .f64))[j]? = some v → w.cell? (ad.add j) = some v := by
  intro j v hj
  have hj1 := (List.getElem?_eq_some_iff.1 hj).1
  have hl := h.1
  simp only [List.length_map] at hj1
  rcases h.2.1 with h0 | ⟨b, o, ha, _, hc⟩
  · omega
  · cases ha
    rw [Addr.add_lit, hc j (by omega), ← hj, List.getElem?_map, List.getElem?_eq_getElem hj1]
    rfl

theorem floats_oneCell (zs : List Nat) : ∀ u ∈ zs.map (Value.float .f64), u.oneCell' = true := by
  intro u hu
  obtain ⟨z, _, rfl⟩ := List.mem_map.1 hu
  rfl

/-- What stands behind a list of floats that is lent: 0.125, 1.125, 2.125. -/
def fmarks (k : Nat) : List Nat := [4593671619917905920, 4607745368753438720, 4611967493404098560].take k
theorem fmark_run (k : Nat) (h : k < 3) (P : Program) (t : TypeId) (V : World) : ∃ r, (binOp .add t (.float .f64 4593671619917905920) (.float .f64 (floatOfInt .f64 (k : Int)))).run P V = .ok (.float .f64 r) V ∧ fmarks (k + 1) = fmarks k ++ [r] := by
  match k, h with
  | 0, _ => exact ⟨4593671619917905920, run_float_arith V _ _ _ _ _ _ (by decide +kernel), rfl⟩
  | 1, _ => exact ⟨4607745368753438720, run_float_arith V _ _ _ _ _ _ (by decide +kernel), rfl⟩
  | 2, _ => exact ⟨4611967493404098560, run_float_arith V _ _ _ _ _ _ (by decide +kernel), rfl⟩

end Go.Proofs.Ytkclkldjphhkdaa

/- real.Sum and the document's Sum, of any list of floats. -/
namespace Go.Proofs.Ytkclkldjphhkdaa
open Go.RowKit
set_option linter.unusedVariables false

/-- A struct's memory. -/
def FBox (w : World) (b t : Nat) (vs : Array Value) : Prop := w.heap[b]? = some (.cells vs t (0, 0))
theorem FBox.cell {w : World} {b t : Nat} {vs : Array Value} (h : FBox w b t vs) (j : Nat) : w.cell? ⟨b, j, none⟩ = vs[j]? := by
  unfold FBox at h
  simp [World.cell?, h]
theorem FBox.free {w : World} {b t : Nat} {vs : Array Value} (h : FBox w b t vs) (j : Nat) : w.frozen? ⟨b, j, none⟩ = false := by
  unfold FBox at h
  simp [World.frozen?, h]
theorem FBox.later {w w' : World} {B b t : Nat} {vs : Array Value} (h : FBox w b t vs) (hb : Below B w w') (hlt : b < B) : FBox w' b t vs := by
  unfold FBox at *
  rw [hb.block b hlt]; exact h
theorem FBox.lt {w : World} {b t : Nat} {vs : Array Value} (h : FBox w b t vs) : b < w.heap.size := by
  unfold FBox at h
  have : w.heap[b]?.isSome := by rw [h]; rfl
  simpa using this
theorem FBox.made (w : World) (t : Nat) (vs : Array Value) : FBox (w.alloc (.cells vs t)) w.heap.size t vs := by
  unfold FBox
  show (w.heap.push _)[w.heap.size]? = _
  rw [Array.getElem?_push, if_pos rfl]
theorem FBox.other {w : World} {b t : Nat} {vs : Array Value} (h : FBox w b t vs) (p : Addr) (v : Value) (hne : b ≠ p.block) : FBox (w.setCell p v) b t vs := by
  unfold FBox at *
  rw [Below.heap_setCell w p v b hne]; exact h
theorem FBox.drewN {w : World} {b t : Nat} {vs : Array Value} (h : FBox w b t vs) (n : Nat) : FBox (w.drewN n) b t vs := h
theorem FBox.set {w : World} {b t : Nat} {vs : Array Value} (h : FBox w b t vs) (j : Nat) (v : Value) : FBox (w.setCell ⟨b, j, none⟩ v) b t (vs.setIfInBounds j v) := by
  unfold FBox at *
  simp only [World.setCell, Array.getElem?_modify, if_pos, h]
  simp

/-- What Sum tells. -/
def sumV (r : Nat × Nat × Int × Int) : Value := .tuple #[.float .f64 r.1, .float .f64 r.2.1, .agg #[.int .i64 r.2.2.1, .int .i64 r.2.2.2]]

/-- Each float has 64 bits. -/
def Wf (xs : List Nat) : Prop := ∀ j : Nat, xs[j]?.getD 0 < 18446744073709551616

theorem fput2 {B : Nat} {a w : World} (h : Below B a w) (b : Nat) (hb : B ≤ b) (v0 v1 : Value) : Below B a ((w.setCell ⟨b, 0, none⟩ v0).setCell ⟨b, 1, none⟩ v1) :=
  (h.setCell (p := ⟨b, 0, none⟩) hb _).setCell (p := ⟨b, 1, none⟩) hb _
theorem fbox_facts {w w' : World} {b t : Nat} {v0 v1 : Value} (h : FBox w b t #[v0, v1]) (hb : Below w.heap.size w w') : w'.cell? ⟨b, 0, none⟩ = some v0 ∧ w'.cell? ⟨b, 1, none⟩ = some v1 ∧ w'.frozen? ⟨b, 0, none⟩ = false ∧ w'.frozen? ⟨b, 1, none⟩ = false := by
  have h' := h.later hb h.lt
  exact ⟨h'.cell 0, h'.cell 1, h'.free 0, h'.free 1⟩

end Go.Proofs.Ytkclkldjphhkdaa

/- package turn: Check, both, back, lowest, of every two numbers. -/
namespace Go.Proofs.Ytkclkldjphhkdaa
open Go.RowKit
set_option linter.unusedVariables false

/-- What a call tells that tells a turn. -/
def tT (p q e : Int) : Value := .tuple #[.agg #[.int .i64 p, .int .i64 q], .int .i64 e]
/-- Part over Whole in lowest terms, or refused. -/
def lowR (p q : Nat) : Int × Int × Int := if q / Nat.gcd p q ≤ 4294967296 then (((p / Nat.gcd p q : Nat) : Int), ((q / Nat.gcd p q : Nat) : Int), 0) else (0, 0, 3)
def tV (x : Int × Int × Int) : Value := tT x.1 x.2.1 x.2.2
def lowV (p q : Nat) : Value := tV (lowR p q)
/-- A turn that may be. -/
def okI (p q : Int) : Prop := 1 ≤ q ∧ q ≤ 4294967296 ∧ 0 ≤ p ∧ p < q ∧ Nat.gcd p.toNat q.toNat = 1
instance (p q : Int) : Decidable (okI p q) := by unfold okI; infer_instance
def chk (p q : Int) : Int := if okI p q then 0 else 180

theorem tw64 (n : Nat) (h : n < 18446744073709551616) : IntKind.u64.wrap (n : Int) = (n : Int) := by rw [IntKind.wrap_u64]; omega

set_option maxHeartbeats 800000 in
set_option maxRecDepth 100000 in
theorem tlowest_any (p q : Nat) (w : World) (hp : p < q) (hq : q < 18446744073709551616) :
    Calls Try.prog 27 #[.int .u64 (p : Int), .int .u64 (q : Int)] w fun e w' => e = .returned (lowV p q) ∧ Below w.heap.size w w' := by
  have HBX : Hid (Below w.heap.size w (w.alloc (.cells #[.int .i64 0, .int .i64 0] 26))) := (Below.refl _ _).alloc (Nat.le_refl _) _
  have HX := hid (FBox.made w 26 #[.int .i64 0, .int .i64 0])
  have HC := hid (fun V => tcommon_any p q V (by omega) hq)
  have hd : 0 < Nat.gcd p q := Nat.gcd_pos_of_pos_right _ (by omega)
  have h1 : p / Nat.gcd p q ≤ p := Nat.div_le_self _ _
  have h2 : q / Nat.gcd p q ≤ q := Nat.div_le_self _ _
  have h3 : p / Nat.gcd p q < q / Nat.gcd p q := Nat.div_lt_div_of_lt_of_dvd (Nat.gcd_dvd_right p q) hp
  obtain ⟨d, hD⟩ : ∃ d, Nat.gcd p q = d := ⟨_, rfl⟩
  have HV1 : Hid (q / d ≤ 4294967296 → lowV p q = tT ((p / d : Nat) : Int) ((q / d : Nat) : Int) 0) := fun h => by unfold lowV lowR; rw [hD, if_pos h]; rfl
  have HV2 : Hid (¬ q / d ≤ 4294967296 → lowV p q = tT 0 0 3) := fun h => by unfold lowV lowR; rw [hD, if_neg h]; rfl
  rw [hD] at HC hd h1 h2 h3
  clear hD
  have x1 : IntKind.u64.wrap ((p : Int) / (d : Int)) = ((p / d : Nat) : Int) := by
    rw [show ((p : Int) / (d : Int)) = ((p / d : Nat) : Int) from rfl]; exact tw64 _ (by omega)
  have x2 : IntKind.u64.wrap ((q : Int) / (d : Int)) = ((q / d : Nat) : Int) := by
    rw [show ((q : Int) / (d : Int)) = ((q / d : Nat) : Int) from rfl]; exact tw64 _ (by omega)
  generalize p / d = P at *
  generalize q / d = Q at *
  have hd' : (d : Int) ≠ 0 := by omega
  go_enter Try.func27, Try.ntmps27
  go_wp2_with fail
  generalize w.alloc (.cells #[.int .i64 0, .int .i64 0] 26) = X at *
  refine Calls.mono (HC.out X) ?_
  rintro e w1 ⟨rfl, hb1⟩
  obtain ⟨r0, r1, f0, f1⟩ := fbox_facts HX.out hb1
  have HB := hid (b2 HBX.out hb1)
  clear hb1
  go_wp2_with fail
  by_cases h4 : Q ≤ 4294967296
  · have HR := hid (HV1.out h4)
    clear HV1 HV2 HC HX HBX
    go_region
    all_goals
      go_wp2_with fail
      refine bodyPost_ret (v := tT (P : Int) (Q : Int) 0) (by simp [results, Try.results27, go_sem, r0, r1, tT]) rfl ?_
      exact ⟨by rw [HR.out], by first | exact fput2 HB.out.drew _ (Nat.le_refl _) _ _ | exact (fput2 HB.out _ (Nat.le_refl _) _ _).drew⟩
  · have HR := hid (HV2.out h4)
    clear HV1 HV2 HC HX HBX
    go_region
    all_goals
      go_wp2_with fail
      refine bodyPost_ret (v := tT 0 0 3) (by simp [results, Try.results27, go_sem, r0, r1, tT]) rfl ?_
      exact ⟨by rw [HR.out], by first | exact fput2 HB.out.drew _ (Nat.le_refl _) _ _ | exact (fput2 HB.out _ (Nat.le_refl _) _ _).drew⟩

theorem chk_or (p q : Int) : chk p q = 0 ∧ okI p q ∨ chk p q = 180 ∧ ¬ okI p q := by
  unfold chk
  by_cases h : okI p q
  · rw [if_pos h]; exact .inl ⟨rfl, h⟩
  · rw [if_neg h]; exact .inr ⟨rfl, h⟩
/-- The first one's fault, else the second one's. -/
def chk2 (p q r s : Int) : Int := if okI p q then chk r s else 180
theorem chk2_or (p q r s : Int) : chk2 p q r s = 0 ∧ okI p q ∧ okI r s ∨ chk2 p q r s = 180 ∧ ¬ (okI p q ∧ okI r s) := by
  unfold chk2
  by_cases h : okI p q
  · rw [if_pos h]
    rcases chk_or r s with ⟨g, k⟩ | ⟨g, k⟩
    · exact .inl ⟨g, h, k⟩
    · exact .inr ⟨g, fun x => k x.2⟩
  · rw [if_neg h]; exact .inr ⟨rfl, fun x => h x.1⟩
def in64 (p q : Int) : Prop := (-9223372036854775808 ≤ p ∧ p ≤ 9223372036854775807) ∧ (-9223372036854775808 ≤ q ∧ q ≤ 9223372036854775807)

theorem boxes1 (w : World) (t : Nat) (u : Array Value) : FBox (w.alloc (.cells u t)) w.heap.size t u ∧ Below w.heap.size w (w.alloc (.cells u t)) :=
  ⟨FBox.made _ _ _, (Below.refl _ _).alloc (Nat.le_refl _) _⟩
theorem boxes2 (w : World) (t : Nat) (u v : Array Value) : FBox ((w.alloc (.cells u t)).alloc (.cells v t)) w.heap.size t u ∧ FBox ((w.alloc (.cells u t)).alloc (.cells v t)) (w.heap.size + 1) t v ∧ Below w.heap.size w ((w.alloc (.cells u t)).alloc (.cells v t)) := by
  have a := boxes1 w t u
  have b := boxes1 (w.alloc (.cells u t)) t v
  have es : (w.alloc (.cells u t)).heap.size = w.heap.size + 1 := World.size_alloc _ _
  exact ⟨a.1.later b.2 a.1.lt, es ▸ b.1, b2 a.2 b.2⟩
theorem boxes3 (w : World) (t : Nat) (u v z : Array Value) : FBox (((w.alloc (.cells u t)).alloc (.cells v t)).alloc (.cells z t)) w.heap.size t u ∧ FBox (((w.alloc (.cells u t)).alloc (.cells v t)).alloc (.cells z t)) (w.heap.size + 1) t v ∧ FBox (((w.alloc (.cells u t)).alloc (.cells v t)).alloc (.cells z t)) (w.heap.size + 1 + 1) t z ∧ Below w.heap.size w (((w.alloc (.cells u t)).alloc (.cells v t)).alloc (.cells z t)) := by
  have a := boxes2 w t u v
  have b := boxes1 ((w.alloc (.cells u t)).alloc (.cells v t)) t z
  have es : ((w.alloc (.cells u t)).alloc (.cells v t)).heap.size = w.heap.size + 1 + 1 := by rw [World.size_alloc, World.size_alloc]
  exact ⟨a.1.later b.2 a.1.lt, a.2.1.later b.2 a.2.1.lt, es ▸ b.1, b2 a.2.2 b.2⟩

end Go.Proofs.Ytkclkldjphhkdaa

/- package turn: back, sum, Add, Sub, Neg, Times, Of: of every turn, every two numbers. -/
namespace Go.Proofs.Ytkclkldjphhkdaa
open Go.RowKit
set_option linter.unusedVariables false

/-- The sum of two turns. -/
def sumR (p q r s : Nat) : Int × Int × Int := lowR ((p * (s / Nat.gcd q s) + r * (q / Nat.gcd q s)) % (q / Nat.gcd q s * s)) (q / Nat.gcd q s * s)

theorem sum_lt {q s : Nat} (hq : 0 < q) (hs : 0 < s) (hq' : q ≤ 4294967296) (hs' : s ≤ 4294967296) : q / Nat.gcd q s * s < 18446744073709551616 ∧ q / Nat.gcd q s * s = q * (s / Nat.gcd q s) ∧ 0 < q / Nat.gcd q s * s := by
  have hd : 0 < Nat.gcd q s := Nat.gcd_pos_of_pos_right _ hs
  obtain ⟨a, ha⟩ := Nat.gcd_dvd_left q s
  obtain ⟨b, hb⟩ := Nat.gcd_dvd_right q s
  have e1 : q / Nat.gcd q s = a := Nat.div_eq_of_eq_mul_right hd ha
  have e2 : s / Nat.gcd q s = b := Nat.div_eq_of_eq_mul_right hd hb
  rw [e1, e2]
  have e3 : a * s = q * b := by rw [hb.trans rfl, show q * b = Nat.gcd q s * a * b by rw [← ha]]; rw [← Nat.mul_assoc, Nat.mul_comm a]
  have a0 : 0 < a := by
    rcases Nat.eq_zero_or_pos a with h | h
    · rw [h] at ha; omega
    · exact h
  refine ⟨?_, e3, Nat.mul_pos a0 hs⟩
  by_cases hqs : q = s
  · subst hqs
    rw [Nat.gcd_self] at ha
    have : a = 1 := Nat.eq_of_mul_eq_mul_left hq (by omega)
    rw [this]; omega
  · have h1 : a ≤ q := by rw [ha]; exact Nat.le_mul_of_pos_left _ hd
    have h2 : a * s ≤ q * s := Nat.mul_le_mul_right _ h1
    have h3 : q * s < 18446744073709551616 := by
      rcases Nat.lt_or_gt_of_ne hqs with h | h
      · have : q * s ≤ 4294967295 * 4294967296 := Nat.mul_le_mul (by omega) hs'
        omega
      · have : q * s ≤ 4294967296 * 4294967295 := Nat.mul_le_mul hq' (by omega)
        omega
    omega

theorem bdrewN {B : Nat} {a w : World} (h : Below B a w) (n : Nat) : Below B a (w.drewN n) := by
  induction n with
  | zero => exact h
  | succ n ih => exact ih.drew

/-- What Add tells. -/
def addR (p q r s : Int) : Int × Int × Int := if okI p q ∧ okI r s then sumR p.toNat q.toNat r.toNat s.toNat else (0, 0, 180)

/-- What Sub tells. -/
def subR (p q r s : Int) : Int × Int × Int := if okI p q ∧ okI r s then addR p q ((-r) % s) s else (0, 0, 180)
theorem gcd_back {p q : Int} (h : okI p q) : okI ((-p) % q) q := by
  obtain ⟨h1, h2, h3, h4, h5⟩ := h
  refine ⟨h1, h2, Int.emod_nonneg _ (by omega), Int.emod_lt_of_pos _ (by omega), ?_⟩
  by_cases h0 : p = 0
  · subst h0; simpa using h5
  · have e : (-p) % q = q - p := by rw [← Int.add_emod_right, Int.emod_eq_of_lt (by omega) (by omega)]; omega
    rw [e]
    have e2 : (q - p).toNat = q.toNat - p.toNat := by omega
    rw [e2, Nat.gcd_self_sub_left (by omega)]; exact h5
end Go.Proofs.Ytkclkldjphhkdaa

/- package turn: Sub, Neg, Times, Of: of every turn, every two numbers. -/
namespace Go.Proofs.Ytkclkldjphhkdaa
open Go.RowKit
set_option linter.unusedVariables false

/-- What Neg tells. -/
def negR (p q : Int) : Int × Int × Int := if okI p q then ((-p) % q, q, 0) else (0, 0, 180)

theorem tlowI (p q : Int) (w : World) (h0 : 0 ≤ p) (h1 : p < q) (h2 : q ≤ 4294967296) :
    Calls Try.prog 27 #[.int .u64 p, .int .u64 q] w fun e w' => e = .returned (tV (lowR p.toNat q.toNat)) ∧ Below w.heap.size w w' := by
  obtain ⟨a, rfl⟩ := Int.eq_ofNat_of_zero_le h0
  obtain ⟨b, rfl⟩ := Int.eq_ofNat_of_zero_le (show 0 ≤ q by omega)
  exact tlowest_any a b w (by omega) (by omega)
theorem twithI (p q : Int) (w : World) (h0 : -9223372036854775808 ≤ p) (h1 : p ≤ 9223372036854775807) (hq : 0 < q) (hq' : q ≤ 4294967296) :
    Calls Try.prog 28 #[.int .i64 p, .int .i64 q] w fun e w' => e = .returned (.int .i64 (p % q)) ∧ w' = w := by
  obtain ⟨b, rfl⟩ := Int.eq_ofNat_of_zero_le (show 0 ≤ q by omega)
  exact twithin_any p b w h0 h1 (by omega) (by omega)

/-- What Times tells. -/
def timesR (p q n : Int) : Int × Int × Int := if okI p q then lowR ((p * n) % q).toNat q.toNat else (0, 0, 180)
theorem prod_in {p q n : Int} (h0 : 0 ≤ p) (h1 : p < q) (h2 : q ≤ 4294967296) (n0 : -2147483648 ≤ n) (n1 : n ≤ 2147483647) : -9223372036854775808 ≤ p * n ∧ p * n ≤ 9223372036854775807 := by
  have a : p * n ≤ p * 2147483647 := Int.mul_le_mul_of_nonneg_left n1 h0
  have b : p * (-2147483648) ≤ p * n := Int.mul_le_mul_of_nonneg_left n0 h0
  omega

/-- What Of tells. -/
def ofR (p q : Int) : Int × Int × Int := if q = 0 then (0, 0, 7) else if q < 0 ∨ 4294967296 < q then (0, 0, 2) else lowR (p % q).toNat q.toNat

set_option maxHeartbeats 1600000 in
set_option maxRecDepth 100000 in
theorem tof_any (p q : Int) (w : World) (h : in64 p q) :
    Calls Try.prog 24 #[.int .i64 p, .int .i64 q] w fun e w' => e = .returned (tV (ofR p q)) ∧ Below w.heap.size w w' := by
  have HX := hid (boxes1 w 26 #[.int .i64 0, .int .i64 0])
  obtain ⟨c4, c5, f4, f5⟩ := fbox_facts HX.out.1 (Below.refl _ _)
  obtain ⟨⟨p0, p1⟩, q0, q1⟩ := h
  by_cases h0 : q = 0
  · subst h0
    have HR : Hid (ofR p 0 = (0, 0, 7)) := by show _ = _; unfold ofR; rw [if_pos rfl]
    go_enter Try.func24, Try.ntmps24
    go_wp2_with fail
    refine bodyPost_ret (v := Value.tuple #[.agg #[.int .i64 0, .int .i64 0], .int .i64 7]) (by simp [results, Try.results24, go_sem, c4, c5]) rfl ?_
    exact ⟨by rw [HR.out]; rfl, HX.out.2⟩
  · by_cases h1 : q < 0 ∨ 4294967296 < q
    · have HR : Hid (ofR p q = (0, 0, 2)) := by show _ = _; unfold ofR; rw [if_neg h0, if_pos h1]
      go_enter Try.func24, Try.ntmps24
      go_wp2_with fail
      all_goals
        refine bodyPost_ret (v := Value.tuple #[.agg #[.int .i64 0, .int .i64 0], .int .i64 2]) (by simp [results, Try.results24, go_sem, c4, c5]) rfl ?_
        exact ⟨by rw [HR.out]; rfl, HX.out.2⟩
    · have HR : Hid (ofR p q = lowR (p % q).toNat q.toNat) := by show _ = _; unfold ofR; rw [if_neg h0, if_neg h1]
      have g1 : 0 < q := by omega
      have g2 : q ≤ 4294967296 := by omega
      have g7 : 0 ≤ p % q := Int.emod_nonneg _ h0
      have g8 : p % q < q := Int.emod_lt_of_pos _ g1
      have h1' : ¬ q < 0 := by omega
      clear h1
      go_enter Try.func24, Try.ntmps24
      go_wp2_with fail
      refine Calls.mono (twithI _ q _ p0 p1 g1 g2) ?_
      rintro e w2 ⟨rfl, rfl⟩
      go_wp2_with fail
      refine Calls.mono (tlowI _ q _ g7 g8 g2) ?_
      rintro e w3 ⟨rfl, hb2⟩
      clear c4 c5 f4 f5
      obtain ⟨c2, c3, f2, f3⟩ := fbox_facts HX.out.1 hb2
      have HB := hid (b2 HX.out.2 hb2)
      clear hb2 HX
      rw [← HR.out]
      obtain ⟨T, hT⟩ : ∃ T, ofR p q = T := ⟨_, rfl⟩
      have HT := hid hT
      rw [hT]
      clear hT HR
      obtain ⟨t1, t2, t3⟩ := T
      rw [show tV (t1, t2, t3) = Value.tuple #[.agg #[.int .i64 t1, .int .i64 t2], .int .i64 t3] from rfl]
      go_wp2_with fail
      refine bodyPost_ret (v := Value.tuple #[.agg #[.int .i64 t1, .int .i64 t2], .int .i64 t3]) (by simp [results, Try.results24, go_sem, c2, c3]) rfl ?_
      exact ⟨by rw [HT.out]; rfl, fput2 HB.out _ (Nat.le_refl _) _ _⟩
end Go.Proofs.Ytkclkldjphhkdaa

/- The calendar: days of years and months, the date of a day, no program. -/
namespace Go.Proofs.Ytkclkldjphhkdaa
set_option linter.unusedVariables false

def lp (y : Nat) : Bool := (y % 4 == 0 && y % 100 != 0) || y % 400 == 0
def yd (y : Nat) : Nat := if lp y then 366 else 365
def md (y m : Nat) : Nat := if m = 2 then (if lp y then 29 else 28) else if m = 4 ∨ m = 6 ∨ m = 9 ∨ m = 11 then 30 else if 1 ≤ m ∧ m ≤ 12 then 31 else 0
/-- The days of the first k years. -/
def yT : Nat → Nat
  | 0 => 0
  | k + 1 => yT k + yd (2000 + k)
/-- The days of a year's first j months. -/
def mT (y : Nat) : Nat → Nat
  | 0 => 0
  | j + 1 => mT y j + md y (j + 1)
/-- The day n is the day r (from 0 on) of the month j (from 0 on) of the year 2000 + k. -/
def IsD (n k j r : Nat) : Prop := yT k + mT (2000 + k) j + r = n ∧ j < 12 ∧ r < md (2000 + k) (j + 1)

theorem yd_or (y : Nat) : yd y = 365 ∨ yd y = 366 := by unfold yd; cases lp y <;> simp
theorem md_le (y m : Nat) : md y m ≤ 31 := by
  unfold md
  cases lp y <;> simp <;> repeat' split
  all_goals omega
theorem md_pos (y m : Nat) (h : 1 ≤ m) (h' : m ≤ 12) : 28 ≤ md y m := by
  unfold md
  cases lp y <;> simp <;> repeat' split
  all_goals omega
theorem md_none (y m : Nat) (h : ¬ (1 ≤ m ∧ m ≤ 12)) : md y m = 0 := by
  unfold md
  rw [if_neg (by omega), if_neg (by omega), if_neg h]
theorem mT12 (y : Nat) : mT y 12 = yd y := by
  unfold yd
  simp only [mT, md]
  cases lp y <;> simp
theorem mT_le (y : Nat) : ∀ j i, j ≤ i → mT y j ≤ mT y i
  | j, 0, h => by
    obtain rfl : j = 0 := by omega
    exact Nat.le_refl _
  | j, i + 1, h => by
    by_cases e : j = i + 1
    · rw [e]; exact Nat.le_refl _
    · have := mT_le y j i (by omega)
      show _ ≤ mT y i + _
      omega
theorem yT_le : ∀ j i, j ≤ i → yT j ≤ yT i
  | j, 0, h => by
    obtain rfl : j = 0 := by omega
    exact Nat.le_refl _
  | j, i + 1, h => by
    by_cases e : j = i + 1
    · rw [e]; exact Nat.le_refl _
    · have := yT_le j i (by omega)
      show _ ≤ yT i + _
      omega
theorem yT_365 : ∀ k, 365 * k ≤ yT k ∧ yT k ≤ 366 * k
  | 0 => by simp [yT]
  | k + 1 => by
    have := yT_365 k
    rcases yd_or (2000 + k) with h | h <;> simp only [yT, h] <;> omega
theorem yT119 : yT 119 = 43464 := by decide +kernel
theorem yT120 : yT 120 = 43829 := by decide +kernel
theorem IsD.in_year {n k j r : Nat} (h : IsD n k j r) : yT k ≤ n ∧ n < yT (k + 1) := by
  obtain ⟨h1, h2, h3⟩ := h
  have a : mT (2000 + k) (j + 1) = mT (2000 + k) j + md (2000 + k) (j + 1) := rfl
  have b := mT_le (2000 + k) (j + 1) 12 (by omega)
  have c := mT12 (2000 + k)
  have d : yT (k + 1) = yT k + yd (2000 + k) := rfl
  omega
theorem IsD.only {n k j r k' j' r' : Nat} (h : IsD n k j r) (g : IsD n k' j' r') : k = k' ∧ j = j' ∧ r = r' := by
  have a := h.in_year
  have b := g.in_year
  have e : k = k' := by
    rcases Nat.lt_trichotomy k k' with c | c | c
    · have := yT_le (k + 1) k' (by omega); omega
    · exact c
    · have := yT_le (k' + 1) k (by omega); omega
  subst e
  obtain ⟨h1, h2, h3⟩ := h
  obtain ⟨g1, g2, g3⟩ := g
  have a1 : mT (2000 + k) (j + 1) = mT (2000 + k) j + md (2000 + k) (j + 1) := rfl
  have a2 : mT (2000 + k) (j' + 1) = mT (2000 + k) j' + md (2000 + k) (j' + 1) := rfl
  have e : j = j' := by
    rcases Nat.lt_trichotomy j j' with c | c | c
    · have := mT_le (2000 + k) (j + 1) j' (by omega); omega
    · exact c
    · have := mT_le (2000 + k) (j' + 1) j (by omega); omega
  subst e
  exact ⟨rfl, rfl, by omega⟩
/-- A day that is a tick's lies in the years 2000 to 2119. -/
theorem IsD.small {n k j r : Nat} (h : IsD n k j r) (hn : n ≤ 43690) : k ≤ 119 := by
  have := h.in_year
  rcases Nat.lt_or_ge 119 k with c | c
  · have := yT_le 120 k (by omega)
    rw [yT120] at this; omega
  · exact c
/-- The next day is the next of the month, or the first of a later month or year. -/
theorem IsD.next {n k j r k' j' r' : Nat} (h : IsD n k j r) (g : IsD (n + 1) k' j' r') : (k' = k ∧ j' = j ∧ r' = r + 1) ∨ (k' = k ∧ j' = j + 1 ∧ r' = 0) ∨ (k' = k + 1 ∧ j' = 0 ∧ r' = 0) := by
  obtain ⟨h1, h2, h3⟩ := h
  by_cases c : r + 1 < md (2000 + k) (j + 1)
  · obtain ⟨rfl, rfl, rfl⟩ := g.only (⟨by omega, h2, c⟩ : IsD (n + 1) k j (r + 1))
    exact .inl ⟨rfl, rfl, rfl⟩
  · have a1 : mT (2000 + k) (j + 1) = mT (2000 + k) j + md (2000 + k) (j + 1) := rfl
    by_cases c2 : j + 1 < 12
    · obtain ⟨rfl, rfl, rfl⟩ := g.only (⟨by omega, c2, by have := md_pos (2000 + k) (j + 1 + 1) (by omega) (by omega); omega⟩ : IsD (n + 1) k (j + 1) 0)
      exact .inr (.inl ⟨rfl, rfl, rfl⟩)
    · have d : yT (k + 1) = yT k + yd (2000 + k) := rfl
      obtain rfl : j = 11 := by omega
      have e : mT (2000 + k) (11 + 1) = yd (2000 + k) := mT12 (2000 + k)
      obtain ⟨rfl, rfl, rfl⟩ := g.only (⟨by rw [show mT (2000 + (k + 1)) 0 = 0 from rfl]; omega, by omega, by have := md_pos (2000 + (k + 1)) (0 + 1) (by omega) (by omega); omega⟩ : IsD (n + 1) (k + 1) 0 0)
      exact .inr (.inr ⟨rfl, rfl, rfl⟩)
end Go.Proofs.Ytkclkldjphhkdaa

/- package clock: Check, Of, Week, At, leap, yearDays, monthDays, of every number. -/
namespace Go.Proofs.Ytkclkldjphhkdaa
open Go.RowKit
set_option linter.unusedVariables false

def I64 (x : Int) : Prop := -9223372036854775808 ≤ x ∧ x ≤ 9223372036854775807
def ckR (t : Int) : Int := if 0 ≤ t ∧ t ≤ 1048576 then 0 else 2
theorem ckcheck_any (t : Int) (w : World) (h : I64 t) :
    Calls Try.prog 20 #[.int .i64 t] w fun e w' => e = .returned (.int .i64 (ckR t)) ∧ w' = w := by
  have HN : Hid (¬ (0 ≤ t ∧ t ≤ 1048576) → ckR t = 2) := fun h => if_neg h
  have HY : Hid ((0 ≤ t ∧ t ≤ 1048576) → ckR t = 0) := fun h => if_pos h
  go_enter Try.func20, Try.ntmps20
  go_wp2_with fail
  all_goals
    go_ret
    first
    | exact ⟨ret_int (HN.out (by omega)).symm, rfl⟩
    | exact ⟨ret_int (HY.out (by omega)).symm, rfl⟩

/-- A day's hour that is a tick. -/
def okA (d h : Int) : Prop := 0 ≤ h ∧ h < 24 ∧ 0 ≤ d ∧ d ≤ 43690 ∧ d * 24 + h ≤ 1048576
instance (d h : Int) : Decidable (okA d h) := by unfold okA; infer_instance
def atR (d h : Int) : Int × Int := if okA d h then (d * 24 + h, 0) else (0, 2)
/-- The days of a month that there is, or is not. -/
def mdI (y : Nat) (m : Int) : Nat := if 1 ≤ m ∧ m ≤ 12 then md y m.toNat else 0
end Go.Proofs.Ytkclkldjphhkdaa

/- package argument: its table, an angle's row, its units, of every number and tick. -/
namespace Go.Proofs.Ytkclkldjphhkdaa
open Go.RowKit
set_option linter.unusedVariables false

/-- The table: names, units at the tick 0, units that a tick adds. -/
def agN : Nat → ByteArray
  | 0 => { data := #[108, 117, 110, 97, 114] }
  | 1 => { data := #[109, 111, 111, 110] }
  | 2 => { data := #[115, 117, 110] }
  | 3 => { data := #[112, 101, 114, 105, 103, 101, 101] }
  | 4 => { data := #[110, 111, 100, 101] }
  | _ => { data := #[112, 101, 114, 105, 104, 101, 108, 105, 111, 110] }
def agB : Nat → Nat
  | 0 => 31648000
  | 1 => 2770247000
  | 2 => 2801895000
  | 3 => 3343853000
  | 4 => 1008432000
  | _ => 2812209000
def agS : Nat → Nat
  | 0 => 144920521
  | 1 => 5490165
  | 2 => 410686
  | 3 => 46418
  | 4 => 22064
  | _ => 20
def agT : Array Value := #[.string { data := #[108, 117, 110, 97, 114] }, .int .i64 31648000, .int .i64 144920521, .string { data := #[109, 111, 111, 110] }, .int .i64 2770247000, .int .i64 5490165, .string { data := #[115, 117, 110] }, .int .i64 2801895000, .int .i64 410686, .string { data := #[112, 101, 114, 105, 103, 101, 101] }, .int .i64 3343853000, .int .i64 46418, .string { data := #[110, 111, 100, 101] }, .int .i64 1008432000, .int .i64 22064, .string { data := #[112, 101, 114, 105, 104, 101, 108, 105, 111, 110] }, .int .i64 2812209000, .int .i64 20]

set_option maxHeartbeats 1600000 in
set_option maxRecDepth 100000 in
theorem agrows_any (w : World) :
    Calls Try.prog 26 #[] w fun e w' => e = .returned (.agg agT) ∧ Below w.heap.size w w' := by
  have HX : Hid (FBox (w.alloc (.cells agT 53)) w.heap.size 53 agT) := FBox.made _ _ _
  have HB : Hid (Below w.heap.size w (w.alloc (.cells agT 53))) := (Below.refl _ _).alloc (Nat.le_refl _) _
  go_enter Try.func26, Try.ntmps26
  go_wp2_with fail
  exact bodyPost_ret (results_cell_row (by rfl) _ _ w.heap.size 53 agT (0, 0) _ (by rfl) HX.out Try.underlying53 rfl (by kernel_rfl)) rfl ⟨rfl, HB.out⟩
end Go.Proofs.Ytkclkldjphhkdaa

/- package argument: an angle's row, its units, its angle, its speed, of every number and tick. -/
namespace Go.Proofs.Ytkclkldjphhkdaa
open Go.RowKit
set_option linter.unusedVariables false

def rowV (k : Nat) : Array Value := #[.string (agN k), .int .i64 (agB k : Int), .int .i64 (agS k : Int)]

theorem agidx (k : Nat) (w : World) (hk : k < 6) : (Instr.index 53 (.agg agT) (.int .i64 (k : Int))).run Try.prog w = .ok (.agg (rowV k)) w := by
  rcases (show k = 0 ∨ k = 1 ∨ k = 2 ∨ k = 3 ∨ k = 4 ∨ k = 5 by omega) with rfl | rfl | rfl | rfl | rfl | rfl
  · kernel_rfl
  · kernel_rfl
  · kernel_rfl
  · kernel_rfl
  · kernel_rfl
  · kernel_rfl

theorem fput3 {B : Nat} {a w : World} (h : Below B a w) (b : Nat) (hb : B ≤ b) (v0 v1 v2 : Value) : Below B a (((w.setCell ⟨b, 0, none⟩ v0).setCell ⟨b, 1, none⟩ v1).setCell ⟨b, 2, none⟩ v2) :=
  ((h.setCell (p := ⟨b, 0, none⟩) hb _).setCell (p := ⟨b, 1, none⟩) hb _).setCell (p := ⟨b, 2, none⟩) hb _
theorem box3 {w w' : World} {b t : Nat} {v0 v1 v2 : Value} (h : FBox w b t #[v0, v1, v2]) (hb : Below w.heap.size w w') : w'.cell? ⟨b, 0, none⟩ = some v0 ∧ w'.cell? ⟨b, 1, none⟩ = some v1 ∧ w'.cell? ⟨b, 2, none⟩ = some v2 ∧ w'.frozen? ⟨b, 0, none⟩ = false ∧ w'.frozen? ⟨b, 1, none⟩ = false ∧ w'.frozen? ⟨b, 2, none⟩ = false := by
  have h' := h.later hb h.lt
  exact ⟨h'.cell 0, h'.cell 1, h'.cell 2, h'.free 0, h'.free 1, h'.free 2⟩

set_option maxHeartbeats 800000 in
set_option maxRecDepth 100000 in
theorem agfind_ok (k : Nat) (w : World) (hk : k < 6) :
    Calls Try.prog 19 #[.int .i64 (k : Int)] w fun e w' => e = .returned (.tuple #[.agg (rowV k), .int .i64 0]) ∧ Below w.heap.size w w' := by
  have HR := hid (fun V => agrows_any V)
  have HX : Hid (FBox (w.alloc (.cells #[.string { data := #[] }, .int .i64 0, .int .i64 0] 41)) w.heap.size 41 #[.string { data := #[] }, .int .i64 0, .int .i64 0]) := FBox.made _ _ _
  have HB : Hid (Below w.heap.size w (w.alloc (.cells #[.string { data := #[] }, .int .i64 0, .int .i64 0] 41))) := (Below.refl _ _).alloc (Nat.le_refl _) _
  have HI := fun V => agidx k V hk
  unfold rowV at *
  generalize agN k = n at *
  generalize agB k = b at *
  generalize agS k = s at *
  generalize agT = T at *
  go_enter Try.func19, Try.ntmps19
  go_wp2_with fail
  generalize w.alloc (.cells #[.string { data := #[] }, .int .i64 0, .int .i64 0] 41) = X at *
  refine Calls.mono (HR.out _) ?_
  rintro e w1 ⟨rfl, hb1⟩
  obtain ⟨c0, c1, c2, f0, f1, f2⟩ := box3 HX.out hb1
  have HB1 := hid (b2 HB.out hb1)
  clear hb1 HX HB
  go_wp2_with fail
  refine bodyPost_ret (v := Value.tuple #[.agg #[.string n, .int .i64 (b : Int), .int .i64 (s : Int)], .int .i64 0]) (by simp [results, Try.results19, go_sem, c0, c1, c2]) rfl ?_
  exact ⟨rfl, fput3 HB1.out _ (Nat.le_refl _) _ _ _⟩

theorem agfind_err (k : Int) (w : World) (hk : ¬ (0 ≤ k ∧ k < 6)) (h : I64 k) :
    Calls Try.prog 19 #[.int .i64 k] w fun e w' => e = .returned (.tuple #[.agg #[.string { data := #[] }, .int .i64 0, .int .i64 0], .int .i64 2]) ∧ Below w.heap.size w w' := by
  have HX : Hid (FBox (w.alloc (.cells #[.string { data := #[] }, .int .i64 0, .int .i64 0] 41)) w.heap.size 41 #[.string { data := #[] }, .int .i64 0, .int .i64 0]) := FBox.made _ _ _
  have HB : Hid (Below w.heap.size w (w.alloc (.cells #[.string { data := #[] }, .int .i64 0, .int .i64 0] 41))) := (Below.refl _ _).alloc (Nat.le_refl _) _
  obtain ⟨c0, c1, c2, f0, f1, f2⟩ := box3 HX.out (Below.refl _ _)
  obtain ⟨h0, h1⟩ := h
  go_enter Try.func19, Try.ntmps19
  go_wp2_with fail
  all_goals
    first
    | (exfalso; omega)
    | (refine bodyPost_ret (v := Value.tuple #[.agg #[.string { data := #[] }, .int .i64 0, .int .i64 0], .int .i64 2]) (by simp [results, Try.results19, go_sem, c0, c1, c2]) rfl ?_
       exact ⟨rfl, HB.out⟩)

/-- The units of an angle at a tick. -/
def agU (k t : Nat) : Nat := (agB k + t * agS k) % 3600000000
theorem ag_small (k : Nat) : agB k < 3600000000 ∧ agS k < 200000000 := by
  rcases (show k = 0 ∨ k = 1 ∨ k = 2 ∨ k = 3 ∨ k = 4 ∨ 5 ≤ k by omega) with rfl | rfl | rfl | rfl | rfl | h
  · decide
  · decide
  · decide
  · decide
  · decide
  · obtain ⟨j, rfl⟩ : ∃ j, k = j + 5 := ⟨k - 5, by omega⟩
    show 2812209000 < 3600000000 ∧ 20 < 200000000
    decide

set_option maxHeartbeats 800000 in
set_option maxRecDepth 100000 in
theorem agunits_any (n : ByteArray) (b s t : Nat) (w : World) (hb : b < 3600000000) (hs : s < 200000000) (ht : t ≤ 1048576) :
    Calls Try.prog 21 #[.agg #[.string n, .int .i64 (b : Int), .int .i64 (s : Int)], .int .i64 (t : Int)] w fun e w' => e = .returned (.int .i64 (((b + t * s) % 3600000000 : Nat) : Int)) ∧ Below w.heap.size w w' := by
  have HX : Hid (Below w.heap.size w (w.alloc (.cells #[.string n, .int .i64 (b : Int), .int .i64 (s : Int)] 41))) := (Below.refl _ _).alloc (Nat.le_refl _) _
  have hm : t * s ≤ 1048576 * 200000000 := Nat.mul_le_mul ht (by omega)
  have e1 : ((t : Int) * (s : Int)) = ((t * s : Nat) : Int) := by simp
  generalize t * s = P at *
  have e2 : IntKind.i64.wrap (P : Int) = P := by rw [IntKind.wrap_i64]; omega
  have e3 : IntKind.i64.wrap ((b : Int) + P) = (b : Int) + P := by rw [IntKind.wrap_i64]; omega
  have e4 : Int.tmod ((b : Int) + P) 3600000000 = (((b + P) % 3600000000 : Nat) : Int) := rfl
  have e5 : IntKind.i64.wrap (((b + P) % 3600000000 : Nat) : Int) = (((b + P) % 3600000000 : Nat) : Int) := by rw [IntKind.wrap_i64]; omega
  generalize (b + P) % 3600000000 = R at *
  go_enter Try.func21, Try.ntmps21
  go_wp2_with fail
  go_ret
  exact ⟨ret_int (by first | rfl | go_num), HX.out⟩
end Go.Proofs.Ytkclkldjphhkdaa

/- package argument: Units, Angle, Speed, of every number and tick. -/
namespace Go.Proofs.Ytkclkldjphhkdaa
open Go.RowKit
set_option linter.unusedVariables false

theorem agU_lt (k t : Nat) : agU k t < 3600000000 := Nat.mod_lt _ (by decide)

set_option maxHeartbeats 800000 in
set_option maxRecDepth 100000 in
theorem agUnits_ok (k t : Nat) (w : World) (hk : k < 6) (ht : t ≤ 1048576) :
    Calls Try.prog 5 #[.int .i64 (k : Int), .int .i64 (t : Int)] w fun e w' => e = .returned (.tuple #[.int .i64 (agU k t : Int), .int .i64 0]) ∧ Below w.heap.size w w' := by
  have HF := hid (fun V => agfind_ok k V hk)
  have HC := hid (fun V => ckcheck_any (t : Int) V ⟨by omega, by omega⟩)
  rw [show ckR (t : Int) = 0 from if_pos ⟨by omega, by omega⟩] at HC
  have HU := hid (fun V => agunits_any (agN k) (agB k) (agS k) t V (ag_small k).1 (ag_small k).2 ht)
  unfold agU
  generalize ((agB k + t * agS k) % 3600000000) = R at *
  unfold rowV at HF
  have HX : Hid (∀ B : Nat, ∀ V : World, B ≤ V.heap.size → Below B V (V.alloc (.cells #[.string (agN k), .int .i64 (agB k : Int), .int .i64 (agS k : Int)] 41))) := fun B V hB => (Below.refl _ _).alloc hB _
  generalize agN k = n at *
  generalize agB k = b at *
  generalize agS k = s at *
  clear ht
  go_enter Try.func5, Try.ntmps5
  go_wp2_with fail
  refine Calls.mono (HF.out _) ?_
  rintro e w1 ⟨rfl, hb1⟩
  have HA := hid (hb1.trans (HX.out _ w1 hb1.size))
  have HO := hid (FBox.made w1 41 #[.string n, .int .i64 (b : Int), .int .i64 (s : Int)])
  clear hb1 HX HF
  go_wp2_with fail
  generalize w1.alloc (.cells #[.string n, .int .i64 (b : Int), .int .i64 (s : Int)] 41) = X at *
  refine Calls.mono (HC.out _) ?_
  rintro e w2 ⟨rfl, rfl⟩
  obtain ⟨c0, c1, c2, f0, f1, f2⟩ := box3 HO.out (Below.refl _ _)
  go_wp2_with fail
  refine Calls.mono (HU.out _) ?_
  rintro e w3 ⟨rfl, hb3⟩
  go_wp2_with fail
  go_returns
  exact ⟨by rfl, b2 HA.out hb3⟩

theorem agUnits_err (k t : Int) (w : World) (hk : I64 k) (ht : I64 t) (h : ¬ ((0 ≤ k ∧ k < 6) ∧ 0 ≤ t ∧ t ≤ 1048576)) :
    Calls Try.prog 5 #[.int .i64 k, .int .i64 t] w fun e w' => e = .returned (.tuple #[.int .i64 0, .int .i64 2]) ∧ Below w.heap.size w w' := by
  by_cases h0 : 0 ≤ k ∧ k < 6
  · obtain ⟨k, rfl⟩ := Int.eq_ofNat_of_zero_le h0.1
    have HF := hid (fun V => agfind_ok k V (by omega))
    have HC := hid (fun V => ckcheck_any t V ht)
    rw [show ckR t = 2 from if_neg (fun x => h ⟨h0, x⟩)] at HC
    unfold rowV at HF
    have HX : Hid (∀ B : Nat, ∀ V : World, B ≤ V.heap.size → Below B V (V.alloc (.cells #[.string (agN k), .int .i64 (agB k : Int), .int .i64 (agS k : Int)] 41))) := fun B V hB => (Below.refl _ _).alloc hB _
    generalize agN k = n at *
    generalize agB k = b at *
    generalize agS k = s at *
    clear h h0 hk ht
    go_enter Try.func5, Try.ntmps5
    go_wp2_with fail
    refine Calls.mono (HF.out _) ?_
    rintro e w1 ⟨rfl, hb1⟩
    have HA := hid (hb1.trans (HX.out _ w1 hb1.size))
    clear hb1 HX HF
    go_wp2_with fail
    generalize w1.alloc (.cells #[.string n, .int .i64 (b : Int), .int .i64 (s : Int)] 41) = X at *
    refine Calls.mono (HC.out _) ?_
    rintro e w2 ⟨rfl, rfl⟩
    go_wp2_with fail
    go_returns
    exact ⟨by rfl, HA.out⟩
  · have HF := hid (fun V => agfind_err k V h0 hk)
    have HX : Hid (∀ B : Nat, ∀ V : World, B ≤ V.heap.size → Below B V (V.alloc (.cells #[.string { data := #[] }, .int .i64 0, .int .i64 0] 41))) := fun B V hB => (Below.refl _ _).alloc hB _
    clear h h0 hk ht
    go_enter Try.func5, Try.ntmps5
    go_wp2_with fail
    refine Calls.mono (HF.out _) ?_
    rintro e w1 ⟨rfl, hb1⟩
    have HA := hid (hb1.trans (HX.out _ w1 hb1.size))
    clear hb1 HX HF
    go_wp2_with fail
    go_returns
    first
    | exact ⟨by rfl, HA.out⟩
    | exact ⟨by rfl, HA.out.drew⟩

/-- What Angle tells. -/
def agA (k t : Nat) : Int × Int × Int := ofR (agU k t : Int) 3600000000
def agV (k : Nat) : Int × Int × Int := ofR (agS k : Int) 3600000000

set_option maxHeartbeats 800000 in
set_option maxRecDepth 100000 in
theorem agAngle_ok (k t : Nat) (w : World) (hk : k < 6) (ht : t ≤ 1048576) :
    Calls Try.prog 7 #[.int .i64 (k : Int), .int .i64 (t : Int)] w fun e w' => e = .returned (tV (agA k t)) ∧ Below w.heap.size w w' := by
  have HX := hid (boxes1 w 26 #[.int .i64 0, .int .i64 0])
  have HU := hid (fun V => agUnits_ok k t V hk ht)
  have HO := hid (fun V => tof_any (agU k t : Int) 3600000000 V ⟨⟨by omega, by have := agU_lt k t; omega⟩, by decide, by decide⟩)
  unfold agA
  generalize agU k t = U at *
  generalize ofR (U : Int) 3600000000 = T at *
  obtain ⟨t1, t2, t3⟩ := T
  rw [show tV (t1, t2, t3) = Value.tuple #[.agg #[.int .i64 t1, .int .i64 t2], .int .i64 t3] from rfl] at *
  clear hk ht
  go_enter Try.func7, Try.ntmps7
  go_wp2_with fail
  generalize w.alloc (.cells #[.int .i64 0, .int .i64 0] 26) = X at *
  refine Calls.mono (HU.out _) ?_
  rintro e w1 ⟨rfl, hb1⟩
  go_wp2_with fail
  refine Calls.mono (HO.out _) ?_
  rintro e w2 ⟨rfl, hb2⟩
  obtain ⟨c2, c3, f2, f3⟩ := fbox_facts HX.out.1 (b2 hb1 hb2)
  have HB := hid (b2 HX.out.2 (b2 hb1 hb2))
  clear hb1 hb2 HX
  go_wp2_with fail
  refine bodyPost_ret (v := Value.tuple #[.agg #[.int .i64 t1, .int .i64 t2], .int .i64 t3]) (by simp [results, Try.results7, go_sem, c2, c3]) rfl ?_
  exact ⟨rfl, fput2 HB.out _ (Nat.le_refl _) _ _⟩
set_option maxHeartbeats 800000 in
set_option maxRecDepth 100000 in
theorem agAngle_err (k t : Int) (w : World) (hk : I64 k) (ht : I64 t) (h : ¬ ((0 ≤ k ∧ k < 6) ∧ 0 ≤ t ∧ t ≤ 1048576)) :
    Calls Try.prog 7 #[.int .i64 k, .int .i64 t] w fun e w' => e = .returned (tT 0 0 2) ∧ Below w.heap.size w w' := by
  have HX := hid (boxes1 w 26 #[.int .i64 0, .int .i64 0])
  have HU := hid (fun V => agUnits_err k t V hk ht h)
  unfold tT
  clear hk ht h
  go_enter Try.func7, Try.ntmps7
  go_wp2_with fail
  generalize w.alloc (.cells #[.int .i64 0, .int .i64 0] 26) = X at *
  refine Calls.mono (HU.out _) ?_
  rintro e w1 ⟨rfl, hb1⟩
  obtain ⟨c2, c3, f2, f3⟩ := fbox_facts HX.out.1 hb1
  have HB := hid (b2 HX.out.2 hb1)
  clear hb1 HX
  go_wp2_with fail
  refine bodyPost_ret (v := Value.tuple #[.agg #[.int .i64 0, .int .i64 0], .int .i64 2]) (by simp [results, Try.results7, go_sem, c2, c3]) rfl ?_
  exact ⟨rfl, by first | exact fput2 HB.out _ (Nat.le_refl _) _ _ | exact HB.out⟩

set_option maxHeartbeats 800000 in
set_option maxRecDepth 100000 in
theorem agSpeed_ok (k : Nat) (w : World) (hk : k < 6) :
    Calls Try.prog 9 #[.int .i64 (k : Int)] w fun e w' => e = .returned (tV (agV k)) ∧ Below w.heap.size w w' := by
  have HX := hid (boxes1 w 26 #[.int .i64 0, .int .i64 0])
  have HF := hid (fun V => agfind_ok k V hk)
  have HO := hid (fun V => tof_any (agS k : Int) 3600000000 V ⟨⟨by omega, by have := (ag_small k).2; omega⟩, by decide, by decide⟩)
  unfold agV
  unfold rowV at HF
  generalize agN k = n at *
  generalize agB k = b at *
  generalize agS k = s at *
  generalize ofR (s : Int) 3600000000 = T at *
  obtain ⟨t1, t2, t3⟩ := T
  rw [show tV (t1, t2, t3) = Value.tuple #[.agg #[.int .i64 t1, .int .i64 t2], .int .i64 t3] from rfl] at *
  clear hk
  go_enter Try.func9, Try.ntmps9
  go_wp2_with fail
  generalize w.alloc (.cells #[.int .i64 0, .int .i64 0] 26) = X at *
  refine Calls.mono (HF.out _) ?_
  rintro e w1 ⟨rfl, hb1⟩
  have HA : Hid (Below X.heap.size X (w1.alloc (.cells #[.string n, .int .i64 (b : Int), .int .i64 (s : Int)] 41))) := hb1.alloc hb1.size _
  have HR := hid (FBox.made w1 41 #[.string n, .int .i64 (b : Int), .int .i64 (s : Int)])
  clear hb1 HF
  go_wp2_with fail
  generalize w1.alloc (.cells #[.string n, .int .i64 (b : Int), .int .i64 (s : Int)] 41) = Y at *
  refine Calls.mono (HO.out _) ?_
  rintro e w2 ⟨rfl, hb2⟩
  obtain ⟨c2, c3, f2, f3⟩ := fbox_facts HX.out.1 (b2 HA.out hb2)
  have HB := hid (b2 HX.out.2 (b2 HA.out hb2))
  clear hb2 HX
  go_wp2_with fail
  refine bodyPost_ret (v := Value.tuple #[.agg #[.int .i64 t1, .int .i64 t2], .int .i64 t3]) (by simp [results, Try.results9, go_sem, c2, c3]) rfl ?_
  exact ⟨rfl, fput2 HB.out _ (Nat.le_refl _) _ _⟩
set_option maxHeartbeats 800000 in
set_option maxRecDepth 100000 in
theorem agSpeed_err (k : Int) (w : World) (hk : I64 k) (h : ¬ (0 ≤ k ∧ k < 6)) :
    Calls Try.prog 9 #[.int .i64 k] w fun e w' => e = .returned (tT 0 0 2) ∧ Below w.heap.size w w' := by
  have HX := hid (boxes1 w 26 #[.int .i64 0, .int .i64 0])
  have HF := hid (fun V => agfind_err k V h hk)
  unfold tT
  clear hk h
  go_enter Try.func9, Try.ntmps9
  go_wp2_with fail
  generalize w.alloc (.cells #[.int .i64 0, .int .i64 0] 26) = X at *
  refine Calls.mono (HF.out _) ?_
  rintro e w1 ⟨rfl, hb1⟩
  have HA : Hid (Below X.heap.size X (w1.alloc (.cells #[.string { data := #[] }, .int .i64 0, .int .i64 0] 41))) := hb1.alloc hb1.size _
  have HB : Hid (Below w.heap.size w (((w1.setCell ⟨w.heap.size, 0, none⟩ (.int .i64 0)).setCell ⟨w.heap.size, 1, none⟩ (.int .i64 0)).alloc (.cells #[.string { data := #[] }, .int .i64 0, .int .i64 0] 41))) := by
    refine (fput2 (b2 HX.out.2 hb1) _ (Nat.le_refl _) _ _).alloc ?_ _
    simpa using (b2 HX.out.2 hb1).size
  have HX2 : Hid (FBox (((w1.setCell ⟨w.heap.size, 0, none⟩ (.int .i64 0)).setCell ⟨w.heap.size, 1, none⟩ (.int .i64 0)).alloc (.cells #[.string { data := #[] }, .int .i64 0, .int .i64 0] 41)) w.heap.size 26 #[.int .i64 0, .int .i64 0]) := by
    have g : FBox ((w1.setCell ⟨w.heap.size, 0, none⟩ (.int .i64 0)).setCell ⟨w.heap.size, 1, none⟩ (.int .i64 0)) w.heap.size 26 #[.int .i64 0, .int .i64 0] := ((HX.out.1.later hb1 HX.out.1.lt).set 0 (.int .i64 0)).set 1 (.int .i64 0)
    exact g.later ((Below.refl _ _).alloc (Nat.le_refl _) _) g.lt
  obtain ⟨c2, c3, f2, f3⟩ := fbox_facts HX.out.1 hb1
  have hlt : w.heap.size < w1.heap.size := Nat.lt_of_lt_of_le HX.out.1.lt hb1.size
  have hne : w.heap.size ≠ w1.heap.size := by omega
  clear hb1 HX HA
  go_wp2_with fail
  clear c2 c3 f2 f3
  generalize ((w1.setCell ⟨w.heap.size, 0, none⟩ (.int .i64 0)).setCell ⟨w.heap.size, 1, none⟩ (.int .i64 0)).alloc (.cells #[.string { data := #[] }, .int .i64 0, .int .i64 0] 41) = W at *
  obtain ⟨c2, c3, f2, f3⟩ := fbox_facts HX2.out (Below.refl _ _)
  refine bodyPost_ret (v := Value.tuple #[.agg #[.int .i64 0, .int .i64 0], .int .i64 2]) (by simp [results, Try.results9, go_sem, c2, c3]) rfl ?_
  exact ⟨rfl, by first | exact fput2 HB.out _ (Nat.le_refl _) _ _ | exact HB.out⟩
end Go.Proofs.Ytkclkldjphhkdaa

/- package argument: All, of every tick. -/
namespace Go.Proofs.Ytkclkldjphhkdaa
open Go.RowKit
set_option linter.unusedVariables false

theorem agAll_err (t : Int) (w : World) (h : I64 t) (hn : ¬ (0 ≤ t ∧ t ≤ 1048576)) :
    Calls Try.prog 15 #[.int .i64 t] w fun e w' => e = .returned (.tuple #[.slice none 0 0, .int .i64 2]) ∧ w' = w := by
  have HC := hid (ckcheck_any t w h)
  rw [show ckR t = 2 from if_neg hn] at HC
  clear hn h
  go_enter Try.func15, Try.ntmps15
  go_wp2_with fail
  refine Calls.mono HC.out ?_
  rintro e w1 ⟨rfl, rfl⟩
  go_wp2_with fail
  all_goals
    go_returns
    exact ⟨by rfl, by rfl⟩

theorem agmake (w : World) : (Instr.makeSlice 33 (.int .i64 6) (.int .i64 6)).run Try.prog w = .ok (.slice (some ⟨w.heap.size, 0, none⟩) 6 6) (w.alloc (.cells #[.int .i64 0, .int .i64 0, .int .i64 0, .int .i64 0, .int .i64 0, .int .i64 0] 2)) := by kernel_rfl

/-- The list while it is filled. -/
def agL (t k : Nat) : Array Value := ((List.range 6).map (fun j => if j < k then Value.int .i64 (agU j t : Int) else .int .i64 0)).toArray
theorem agL_set (t k : Nat) (hk : k < 6) : (agL t k).setIfInBounds k (.int .i64 (agU k t : Int)) = agL t (k + 1) := by
  rcases (show k = 0 ∨ k = 1 ∨ k = 2 ∨ k = 3 ∨ k = 4 ∨ k = 5 by omega) with rfl | rfl | rfl | rfl | rfl | rfl <;> rfl
theorem agL_at (t k : Nat) (hk : k < 6) : (agL t k)[k]? = some (.int .i64 0) := by
  rcases (show k = 0 ∨ k = 1 ∨ k = 2 ∨ k = 3 ∨ k = 4 ∨ k = 5 by omega) with rfl | rfl | rfl | rfl | rfl | rfl <;> rfl

set_option maxHeartbeats 1600000 in
set_option maxRecDepth 100000 in
theorem agAll_ok (t : Nat) (w : World) (ht : t ≤ 1048576) :
    Calls Try.prog 15 #[.int .i64 (t : Int)] w fun e w' => ∃ g, e = .returned (.tuple #[.slice (some ⟨g, 0, none⟩) 6 6, .int .i64 0]) ∧ w.heap.size ≤ g ∧ FBox w' g 2 #[.int .i64 (agU 0 t : Int), .int .i64 (agU 1 t : Int), .int .i64 (agU 2 t : Int), .int .i64 (agU 3 t : Int), .int .i64 (agU 4 t : Int), .int .i64 (agU 5 t : Int)] ∧ Below w.heap.size w w' := by
  have HC := hid (ckcheck_any (t : Int) w ⟨by omega, by omega⟩)
  rw [show ckR (t : Int) = 0 from if_pos ⟨by omega, by omega⟩] at HC
  have HR := hid (fun V => agrows_any V)
  have HI : Hid (∀ k : Nat, k < 6 → ∀ V, (Instr.index 53 (.agg agT) (.int .i64 (k : Int))).run Try.prog V = .ok (.agg (rowV k)) V) := fun k hk V => agidx k V hk
  have HU : Hid (∀ k : Nat, ∀ V, Calls Try.prog 21 #[.agg #[.string (agN k), .int .i64 (agB k : Int), .int .i64 (agS k : Int)], .int .i64 (t : Int)] V fun e w' => e = .returned (.int .i64 (agU k t : Int)) ∧ Below V.heap.size V w') := fun k V => agunits_any (agN k) (agB k) (agS k) t V (ag_small k).1 (ag_small k).2 ht
  have HM := agmake w
  have HX : Hid (FBox (w.alloc (.cells #[.int .i64 0, .int .i64 0, .int .i64 0, .int .i64 0, .int .i64 0, .int .i64 0] 2)) w.heap.size 2 (agL t 0)) := FBox.made _ _ _
  have HB : Hid (Below w.heap.size w (w.alloc (.cells #[.int .i64 0, .int .i64 0, .int .i64 0, .int .i64 0, .int .i64 0, .int .i64 0] 2))) := (Below.refl _ _).alloc (Nat.le_refl _) _
  generalize agT = T at *
  clear ht
  go_enter Try.func15, Try.ntmps15
  go_wp2_with fail
  refine Calls.mono HC.out ?_
  rintro e w1 ⟨rfl, rfl⟩
  generalize hY : w1.alloc (.cells #[.int .i64 0, .int .i64 0, .int .i64 0, .int .i64 0, .int .i64 0, .int .i64 0] 2) = Y at *
  go_wp2_with fail
  refine Calls.mono (HR.out _) ?_
  rintro e w2 ⟨rfl, hb2⟩
  have HX2 := hid (HX.out.later hb2 HX.out.lt)
  have HB2 := hid (b2 HB.out hb2)
  clear hb2 HX HB HM hY HR HC
  go_wp2_with fail
  go_loopw [15] (fun x wr => ∃ k : Nat, k ≤ 6 ∧ x = .int .i64 (k : Int) ∧ Hid (FBox wr w1.heap.size 2 (agL t k)) ∧ Hid (Below w1.heap.size w1 wr)) (fun x _ => 6 - (intOf x).toNat)
  case atStart => exact ⟨0, by decide, rfl, HX2, HB2⟩
  case round =>
    obtain ⟨k, hk, rfl, HF, HBW⟩ := hrel
    by_cases hlt : k < 6
    · have hi := HI.out k hlt
      unfold rowV at hi
      have HUk := hid (HU.out k)
      have hc : wr.cell? ⟨w1.heap.size, k, none⟩ = some (.int .i64 0) := (HF.out.cell k).trans (agL_at t k hlt)
      have hfz := HF.out.free k
      have hl0 : w1.heap.size < wr.heap.size := HF.out.lt
      have HS := hid (agL_set t k hlt)
      generalize agN k = n at *
      generalize agB k = b at *
      generalize agS k = s at *
      generalize agU k t = u at *
      have HV : Hid (Below wr.heap.size wr (wr.alloc (.cells #[.string n, .int .i64 (b : Int), .int .i64 (s : Int)] 41))) := (Below.refl _ _).alloc (Nat.le_refl _) _
      clear hc hfz
      go_wp2_with fail
      generalize wr.alloc (.cells #[.string n, .int .i64 (b : Int), .int .i64 (s : Int)] 41) = V at *
      refine Calls.mono (HUk.out _) ?_
      rintro e w3 ⟨rfl, hb3⟩
      have HF3 := hid (HF.out.later (b2 HV.out hb3) HF.out.lt)
      have HB3 := hid (b2 HBW.out (b2 HV.out hb3))
      have hc : w3.cell? ⟨w1.heap.size, k, none⟩ = some (.int .i64 0) := (HF3.out.cell k).trans (agL_at t k hlt)
      have hfz := HF3.out.free k
      clear hb3 HV HBW HF
      go_wp2_with fail
      go_roundw
      case rel =>
        refine ⟨k + 1, by omega, by go_num, ?_, ?_⟩
        · have e := HF3.out.set k (.int .i64 (u : Int))
          rw [HS.out] at e
          exact e
        · exact HB3.out.setCell (p := ⟨w1.heap.size, k, none⟩) (Nat.le_refl _) _
      case measure => simp [intOf]; omega
    · obtain rfl : k = 6 := by omega
      go_wp2_with fail
      go_returns
      exact ⟨_, by rfl, Nat.le_refl _, HF.out, HBW.out⟩
end Go.Proofs.Ytkclkldjphhkdaa

/- package argument: Name, Find, of every number and text. -/
namespace Go.Proofs.Ytkclkldjphhkdaa
open Go.RowKit
set_option linter.unusedVariables false

set_option maxHeartbeats 800000 in
set_option maxRecDepth 100000 in
theorem agName_ok (k : Nat) (w : World) (hk : k < 6) :
    Calls Try.prog 13 #[.int .i64 (k : Int)] w fun e w' => e = .returned (.string (agN k)) ∧ Below w.heap.size w w' := by
  have HF := hid (fun V => agfind_ok k V hk)
  unfold rowV at HF
  generalize agN k = n at *
  generalize agB k = b at *
  generalize agS k = s at *
  clear hk
  go_enter Try.func13, Try.ntmps13
  go_wp2_with fail
  refine Calls.mono (HF.out _) ?_
  rintro e w1 ⟨rfl, hb1⟩
  have HA : Hid (Below w.heap.size w (w1.alloc (.cells #[.string n, .int .i64 (b : Int), .int .i64 (s : Int)] 41))) := hb1.alloc hb1.size _
  clear hb1 HF
  go_wp2_with fail
  go_ret
  exact ⟨rfl, HA.out⟩
theorem agName_err (k : Int) (w : World) (hk : I64 k) (h : ¬ (0 ≤ k ∧ k < 6)) :
    Calls Try.prog 13 #[.int .i64 k] w fun e w' => e = .returned (.string { data := #[] }) ∧ Below w.heap.size w w' := by
  have HF := hid (fun V => agfind_err k V h hk)
  clear hk h
  go_enter Try.func13, Try.ntmps13
  go_wp2_with fail
  refine Calls.mono (HF.out _) ?_
  rintro e w1 ⟨rfl, hb1⟩
  have HA : Hid (Below w.heap.size w (w1.alloc (.cells #[.string { data := #[] }, .int .i64 0, .int .i64 0] 41))) := hb1.alloc hb1.size _
  clear hb1 HF
  go_wp2_with fail
  go_ret
  exact ⟨rfl, HA.out⟩

theorem agstr_other {s t : ByteArray} (h : ¬ s = t) : (s.toList == t.toList) = false := by
  cases e : (s.toList == t.toList) with
  | false => rfl
  | true =>
    refine absurd ?_ h
    rw [beq_iff_eq, ByteArray.toList_eq, ByteArray.toList_eq, Array.toList_inj] at e
    exact ByteArray.ext e
/-- Which angle has this name, from k on. -/
def agFrom (s : ByteArray) : Nat → Nat → Option Nat
  | 0, _ => none
  | m + 1, k => if agN k = s then some k else agFrom s m (k + 1)
def agF (s : ByteArray) : Option Nat := agFrom s 6 0
def agFV (o : Option Nat) : Value := match o with
  | none => .tuple #[.int .i64 0, .bool false]
  | some k => .tuple #[.int .i64 (k : Int), .bool true]
theorem agFrom_step (s : ByteArray) (m k : Nat) : (agN k = s ∧ agFrom s (m + 1) k = some k) ∨ (agN k ≠ s ∧ agFrom s (m + 1) k = agFrom s m (k + 1)) := by
  have e : agFrom s (m + 1) k = if agN k = s then some k else agFrom s m (k + 1) := rfl
  rw [e]
  by_cases h : agN k = s
  · rw [if_pos h]; exact .inl ⟨h, rfl⟩
  · rw [if_neg h]; exact .inr ⟨h, rfl⟩

set_option maxHeartbeats 800000 in
set_option maxRecDepth 100000 in
theorem agFind_any (s : ByteArray) (w : World) :
    Calls Try.prog 11 #[.string s] w fun e w' => e = .returned (agFV (agF s)) ∧ Below w.heap.size w w' := by
  have HR := hid (fun V => agrows_any V)
  have HI : Hid (∀ k : Nat, k < 6 → ∀ V, (Instr.index 53 (.agg agT) (.int .i64 (k : Int))).run Try.prog V = .ok (.agg (rowV k)) V) := fun k hk V => agidx k V hk
  generalize agT = T at *
  go_enter Try.func11, Try.ntmps11
  go_wp2_with fail
  refine Calls.mono (HR.out _) ?_
  rintro e w2 ⟨rfl, hb2⟩
  go_wp2_with fail
  go_loopw [7] (fun x wr => ∃ k : Nat, k ≤ 6 ∧ x = .int .i64 (k : Int) ∧ Hid (agF s = agFrom s (6 - k) k) ∧ Hid (Below w.heap.size w wr)) (fun x _ => 6 - (intOf x).toNat)
  case atStart => exact ⟨0, by decide, rfl, hid rfl, hid hb2⟩
  case round =>
    obtain ⟨k, hk, rfl, HF, HBW⟩ := hrel
    by_cases hlt : k < 6
    · have hi := HI.out k hlt
      unfold rowV at hi
      have HA : Hid (Below w.heap.size w (wr.alloc (.cells #[.string (agN k), .int .i64 (agB k : Int), .int .i64 (agS k : Int)] 41))) := HBW.out.alloc HBW.out.size _
      have HST := hid (agFrom_step s (5 - k) k)
      rw [show 5 - k + 1 = 6 - k by omega] at HST
      generalize agN k = n at *
      generalize agB k = b at *
      generalize agS k = u at *
      rcases HST.out with ⟨h1, h2⟩ | ⟨h1, h2⟩
      · have HE := hid (HF.out.trans h2)
        subst h1
        have h3 : (n.toList == n.toList) = true := by simp
        clear HST h2 HF
        go_wp2_with fail
        go_returns
        exact ⟨by rw [HE.out]; rfl, HA.out⟩
      · have HE : Hid (agF s = agFrom s (6 - (k + 1)) (k + 1)) := by show _ = _; rw [HF.out, h2, show 5 - k = 6 - (k + 1) by omega]
        have h3 : (n.toList == s.toList) = false := agstr_other h1
        clear HST h2 HF
        go_wp2_with fail
        go_roundw
        case rel => exact ⟨k + 1, by omega, by go_num, HE, HA⟩
        case measure => simp [intOf]; omega
    · obtain rfl : k = 6 := by omega
      have HE : Hid (agF s = none) := HF.out
      clear HF
      go_wp2_with fail
      go_returns
      exact ⟨by rw [HE.out]; rfl, HBW.out⟩
end Go.Proofs.Ytkclkldjphhkdaa

/- Turns are a group: sums, opposites, multiples of sizes, whole turns left out. Nothing here speaks of the program. -/
namespace Go.Proofs.Ytkclkldjphhkdaa
open Go.RowKit
set_option linter.unusedVariables false

/-- A size in lowest terms, or refused. -/
def canon (r : Rat) : Int × Int × Int := if r.den ≤ 4294967296 then (r.num, (r.den : Int), 0) else (0, 0, 3)

theorem frac_bounds (x : Rat) : 0 ≤ frac x ∧ frac x < 1 := by
  unfold frac
  have a := Rat.floor_le x
  have b := Rat.lt_floor_add_one x
  rw [Rat.intCast_add] at b
  constructor
  · grind
  · have : (((1 : Int) : Rat)) = 1 := rfl
    grind
theorem frac_self {x : Rat} (h0 : 0 ≤ x) (h1 : x < 1) : frac x = x := frac_unique 0 (by simp; grind) h0 h1
theorem frac_add_frac (x y : Rat) : frac (x + frac y) = frac (x + y) := by
  have e : x + y = (x + frac y) + (y.floor : Rat) := by unfold frac; grind
  rw [e, frac_add_int]
theorem frac_frac_add (x y : Rat) : frac (frac x + y) = frac (x + y) := by
  rw [Rat.add_comm, frac_add_frac, Rat.add_comm]

theorem lowR_canon (p q : Nat) (hq : 0 < q) : lowR p q = canon (mkRat p q) := by
  obtain ⟨a, b⟩ := mkRat_nd p q hq
  unfold lowR canon
  rw [a, b]

theorem mkRat_unit (z : Int) (q : Nat) (hq : 0 < q) (h0 : 0 ≤ z) (h1 : z < q) : 0 ≤ mkRat z q ∧ mkRat z q < 1 := by
  rw [Rat.mkRat_eq_div]
  have hq' : (0 : Rat) < (q : Rat) := by exact_mod_cast hq
  have h0' : (0 : Rat) ≤ (z : Rat) := by exact_mod_cast h0
  have h1' : (z : Rat) < ((q : Int) : Rat) := by exact_mod_cast h1
  have e : (((q : Int) : Rat)) = (q : Rat) := rfl
  rw [e] at h1'
  constructor
  · refine Rat.not_lt.1 fun h => ?_
    rw [Rat.div_lt_iff hq'] at h; grind
  · rw [Rat.div_lt_iff hq']; grind

/-- What is left of whole turns. -/
theorem mkRat_mod (z : Int) (q : Nat) (hq : 0 < q) : mkRat (z % q) q = frac (mkRat z q) := by
  have hb := mkRat_unit (z % q) q hq (Int.emod_nonneg _ (by omega)) (Int.emod_lt_of_pos _ (by omega))
  refine (frac_unique (z / q) ?_ hb.1 hb.2).symm
  have hq' : ((q : Rat)) ≠ 0 := by
    intro h; have : q = 0 := by exact_mod_cast h
    omega
  rw [Rat.mkRat_eq_div, Rat.mkRat_eq_div]
  have e : (z : Rat) = ((z % q : Int) : Rat) + ((z / q : Int) : Rat) * (q : Rat) := by
    have := Int.emod_add_mul_ediv z q
    have e2 : ((((z % q) + q * (z / q) : Int)) : Rat) = (z : Rat) := by rw [this]
    rw [Rat.intCast_add, Rat.intCast_mul] at e2
    have e3 : (((q : Int) : Rat)) = (q : Rat) := rfl
    rw [e3] at e2
    grind
  rw [e]
  grind

/-- A turn's size. -/
def vI (p q : Int) : Rat := mkRat p q.toNat

theorem vI_nd {p q : Int} (h : okI p q) : (vI p q).num = p ∧ ((vI p q).den : Int) = q ∧ 0 ≤ vI p q ∧ vI p q < 1 := by
  obtain ⟨h1, h2, h3, h4, h5⟩ := h
  obtain ⟨a, rfl⟩ := Int.eq_ofNat_of_zero_le h3
  obtain ⟨b, rfl⟩ := Int.eq_ofNat_of_zero_le (show 0 ≤ q by omega)
  have e := mkRat_nd a b (by omega)
  simp only [Int.toNat_natCast] at h5
  rw [h5, Nat.div_one, Nat.div_one] at e
  unfold vI
  simp only [Int.toNat_natCast]
  have u := mkRat_unit a b (by omega) (by omega) (by omega)
  exact ⟨e.1, by rw [e.2], u.1, u.2⟩
theorem canon_vI {p q : Int} (h : okI p q) : canon (vI p q) = (p, q, 0) := by
  obtain ⟨a, b, _, _⟩ := vI_nd h
  have := h.2.1
  unfold canon
  rw [if_pos (by omega), a, b]
theorem canon_ok {r : Rat} (h0 : 0 ≤ r) (h1 : r < 1) (hd : r.den ≤ 4294967296) : okI r.num r.den ∧ vI r.num r.den = r := by
  have hn : 0 ≤ r.num := Rat.num_nonneg.2 h0
  have hdp := r.den_pos
  have hl : r.num < (r.den : Int) := by
    have h2 : mkRat r.num r.den < 1 := by rw [Rat.mkRat_self]; exact h1
    have hq' : (0 : Rat) < (r.den : Rat) := by exact_mod_cast hdp
    rw [Rat.mkRat_eq_div, Rat.div_lt_iff hq'] at h2
    have e : (r.num : Rat) < (((r.den : Int)) : Rat) := by
      have e3 : ((((r.den : Int)) : Rat)) = (r.den : Rat) := rfl
      rw [e3]; grind
    exact_mod_cast e
  refine ⟨⟨by omega, by omega, hn, hl, ?_⟩, ?_⟩
  · have := r.reduced
    unfold Nat.Coprime at this
    rw [← this]
    simp only [Int.toNat_natCast]
    congr 1
    omega
  · unfold vI; simp only [Int.toNat_natCast]; exact Rat.mkRat_self r
theorem canon_cases (r : Rat) : (canon r = (r.num, (r.den : Int), 0) ∧ r.den ≤ 4294967296) ∨ (canon r = (0, 0, 3) ∧ ¬ r.den ≤ 4294967296) := by
  unfold canon
  by_cases h : r.den ≤ 4294967296
  · rw [if_pos h]; exact .inl ⟨rfl, h⟩
  · rw [if_neg h]; exact .inr ⟨rfl, h⟩

theorem sumR_canon {p q r s : Nat} (hq : 0 < q) (hs : 0 < s) : sumR p q r s = canon (frac (mkRat p q + mkRat r s)) := by
  have hd : 0 < Nat.gcd q s := Nat.gcd_pos_of_pos_right _ hs
  obtain ⟨a, ha⟩ := Nat.gcd_dvd_left q s
  obtain ⟨b, hb⟩ := Nat.gcd_dvd_right q s
  have e1 : q / Nat.gcd q s = a := Nat.div_eq_of_eq_mul_right hd ha
  have e2 : s / Nat.gcd q s = b := Nat.div_eq_of_eq_mul_right hd hb
  have a0 : 0 < a := by
    rcases Nat.eq_zero_or_pos a with h | h
    · rw [h] at ha; omega
    · exact h
  unfold sumR
  rw [e1, e2]
  have hW : 0 < a * s := Nat.mul_pos a0 hs
  rw [lowR_canon _ _ hW]
  congr 1
  have h1 := mkRat_mod ((p * b + r * a : Nat) : Int) (a * s) hW
  have h2 : (((p * b + r * a : Nat) : Int)) % ((a * s : Nat) : Int) = (((p * b + r * a) % (a * s) : Nat) : Int) := rfl
  rw [h2] at h1
  rw [h1]
  congr 1
  rw [Rat.mkRat_add_mkRat _ _ (by omega) (by omega)]
  generalize hD : Nat.gcd q s = d at *
  have e3 : ((p : Int) * (s : Int) + (r : Int) * (q : Int)) = (((p * b + r * a : Nat) : Int)) * (d : Int) := by
    rw [ha, hb]; push_cast; grind
  have e4 : q * s = (a * s) * d := by rw [ha]; grind
  rw [e3, e4, Rat.mkRat_mul_right (by omega)]

theorem nat_of {p q : Int} (h : okI p q) : ∃ a b : Nat, p = a ∧ q = b ∧ 0 < b := by
  obtain ⟨h1, h2, h3, h4, h5⟩ := h
  obtain ⟨a, rfl⟩ := Int.eq_ofNat_of_zero_le h3
  obtain ⟨b, rfl⟩ := Int.eq_ofNat_of_zero_le (show 0 ≤ q by omega)
  exact ⟨a, b, rfl, rfl, by omega⟩
theorem addR_canon {p q r s : Int} (h : okI p q) (g : okI r s) : addR p q r s = canon (frac (vI p q + vI r s)) := by
  unfold addR
  rw [if_pos ⟨h, g⟩]
  obtain ⟨a, b, rfl, rfl, hb⟩ := nat_of h
  obtain ⟨c, d, rfl, rfl, hd⟩ := nat_of g
  unfold vI
  simp only [Int.toNat_natCast]
  exact sumR_canon hb hd
theorem vI_neg {p q : Int} (h : okI p q) : vI ((-p) % q) q = frac (-(vI p q)) := by
  obtain ⟨a, b, rfl, rfl, hb⟩ := nat_of h
  unfold vI
  simp only [Int.toNat_natCast]
  rw [mkRat_mod _ _ hb, Rat.neg_mkRat]
theorem times_v {p q : Int} (h : okI p q) (n : Int) : mkRat ((p * n) % q) q.toNat = frac ((n : Rat) * vI p q) := by
  obtain ⟨a, b, rfl, rfl, hb⟩ := nat_of h
  unfold vI
  simp only [Int.toNat_natCast]
  rw [mkRat_mod _ _ hb]
  congr 1
  rw [Rat.mkRat_eq_div, Rat.mkRat_eq_div, Rat.intCast_mul]
  grind
theorem timesR_canon {p q : Int} (h : okI p q) (n : Int) : timesR p q n = canon (frac ((n : Rat) * vI p q)) := by
  unfold timesR
  rw [if_pos h, ← times_v h]
  have hq : 0 < q.toNat := by have := h.1; omega
  rw [lowR_canon _ _ hq]
  congr 2
  have := Int.emod_nonneg (p * n) (show q ≠ 0 by have := h.1; omega)
  omega
theorem times_den {p q : Int} (h : okI p q) (n : Int) : (frac ((n : Rat) * vI p q)).den ≤ 4294967296 := by
  rw [← times_v h, Rat.den_mkRat]
  have := h.2.1
  split
  · omega
  · exact Nat.le_trans (Nat.div_le_self _ _) (by omega)

/-- Sums in any order. -/
theorem add_comm' {p q r s : Int} (h : okI p q) (g : okI r s) : addR p q r s = addR r s p q := by
  rw [addR_canon h g, addR_canon g h, Rat.add_comm]
theorem add_told {p q r s : Int} (h : okI p q) (g : okI r s) (e : (addR p q r s).2.2 = 0) : okI (addR p q r s).1 (addR p q r s).2.1 ∧ vI (addR p q r s).1 (addR p q r s).2.1 = frac (vI p q + vI r s) := by
  rw [addR_canon h g] at e ⊢
  have b := frac_bounds (vI p q + vI r s)
  rcases canon_cases (frac (vI p q + vI r s)) with ⟨e1, hd⟩ | ⟨e1, _⟩
  · rw [e1]; exact canon_ok b.1 b.2 hd
  · rw [e1] at e; exact absurd e (by decide)
theorem add_assoc' {p q r s t u : Int} (h : okI p q) (g : okI r s) (k : okI t u) (e : (addR p q r s).2.2 = 0) (f : (addR r s t u).2.2 = 0) : addR (addR p q r s).1 (addR p q r s).2.1 t u = addR p q (addR r s t u).1 (addR r s t u).2.1 := by
  obtain ⟨o1, v1⟩ := add_told h g e
  obtain ⟨o2, v2⟩ := add_told g k f
  rw [addR_canon o1 k, addR_canon h o2, v1, v2, frac_frac_add, frac_add_frac, Rat.add_assoc]
theorem sub_back' {p q r s : Int} (h : okI p q) (g : okI r s) (e : (addR p q r s).2.2 = 0) : subR (addR p q r s).1 (addR p q r s).2.1 r s = (p, q, 0) := by
  obtain ⟨o1, v1⟩ := add_told h g e
  unfold subR
  rw [if_pos ⟨o1, g⟩, addR_canon o1 (gcd_back g), v1, vI_neg g, frac_frac_add, frac_add_frac]
  have e2 : vI p q + vI r s + -vI r s = vI p q := by grind
  obtain ⟨_, _, b0, b1⟩ := vI_nd h
  rw [e2, frac_self b0 b1, canon_vI h]
theorem ok01 : okI 0 1 := ⟨by decide, by decide, by decide, by decide, by decide⟩
theorem v01 : vI 0 1 = 0 := by unfold vI; simp
theorem neg_zero' {p q : Int} (h : okI p q) : negR p q = ((-p) % q, q, 0) ∧ addR p q ((-p) % q) q = (0, 1, 0) := by
  refine ⟨by unfold negR; rw [if_pos h], ?_⟩
  rw [addR_canon h (gcd_back h), vI_neg h, frac_add_frac]
  have e2 : vI p q + -vI p q = 0 := by grind
  rw [e2, frac_self (Rat.le_refl) (by decide), ← v01, canon_vI ok01]
/-- A turn added again and again. -/
def iterR (p q : Int) (i : Nat) : Int × Int × Int := canon (frac (((i : Int) : Rat) * vI p q))
theorem iter_ok {p q : Int} (h : okI p q) (i : Nat) : (iterR p q i).2.2 = 0 ∧ okI (iterR p q i).1 (iterR p q i).2.1 ∧ vI (iterR p q i).1 (iterR p q i).2.1 = frac (((i : Int) : Rat) * vI p q) := by
  have b := frac_bounds (((i : Int) : Rat) * vI p q)
  have hd := times_den h (i : Int)
  unfold iterR
  rcases canon_cases (frac (((i : Int) : Rat) * vI p q)) with ⟨e1, hd⟩ | ⟨e1, hn⟩
  · rw [e1]; exact ⟨rfl, canon_ok b.1 b.2 hd⟩
  · exact absurd hd hn
theorem iter_zero (p q : Int) : iterR p q 0 = (0, 1, 0) := by
  unfold iterR
  have e : (((0 : Nat) : Int) : Rat) * vI p q = 0 := by simp
  rw [e, frac_self (Rat.le_refl) (by decide), ← v01, canon_vI ok01]
theorem iter_succ {p q : Int} (h : okI p q) (i : Nat) : addR (iterR p q i).1 (iterR p q i).2.1 p q = iterR p q (i + 1) := by
  obtain ⟨_, o, v⟩ := iter_ok h i
  rw [addR_canon o h, v, frac_frac_add]
  unfold iterR
  congr 2
  have e : (((i + 1 : Nat) : Int) : Rat) = ((i : Int) : Rat) + 1 := by
    rw [Int.natCast_add, Rat.intCast_add]; rfl
  rw [e]; grind
theorem times_iter {p q : Int} (h : okI p q) (n : Nat) : timesR p q (n : Int) = iterR p q n := timesR_canon h n

end Go.Proofs.Ytkclkldjphhkdaa

/- Angles as turns: an angle goes on by as many of its speeds. No program. -/
namespace Go.Proofs.Ytkclkldjphhkdaa
open Go.RowKit
set_option linter.unusedVariables false

theorem of_circle (n : Nat) (h : n < 3600000000) : ∃ p q : Int, ofR (n : Int) 3600000000 = (p, q, 0) ∧ okI p q ∧ vI p q = mkRat (n : Int) 3600000000 := by
  have hb := mkRat_unit (n : Int) 3600000000 (by decide) (by omega) (by omega)
  have e : ofR (n : Int) 3600000000 = canon (mkRat (n : Int) 3600000000) := by
    unfold ofR
    rw [if_neg (by decide), if_neg (by decide), show ((n : Int) % 3600000000).toNat = n by omega]
    exact lowR_canon n 3600000000 (by decide)
  have hd : (mkRat (n : Int) 3600000000).den ≤ 4294967296 := by
    rw [Rat.den_mkRat]
    split
    · decide
    · exact Nat.le_trans (Nat.div_le_self _ _) (by decide)
  obtain ⟨o, v⟩ := canon_ok hb.1 hb.2 hd
  refine ⟨_, _, ?_, o, v⟩
  rw [e]
  rcases canon_cases (mkRat (n : Int) 3600000000) with ⟨c, _⟩ | ⟨_, c⟩
  · exact c
  · exact absurd hd c

theorem times_told {p q : Int} (h : okI p q) (n : Int) : ∃ x y : Int, timesR p q n = (x, y, 0) ∧ okI x y ∧ vI x y = frac ((n : Rat) * vI p q) := by
  have hb := frac_bounds ((n : Rat) * vI p q)
  have hd := times_den h n
  obtain ⟨o, v⟩ := canon_ok hb.1 hb.2 hd
  refine ⟨_, _, ?_, o, v⟩
  rw [timesR_canon h n]
  rcases canon_cases (frac ((n : Rat) * vI p q)) with ⟨c, _⟩ | ⟨_, c⟩
  · exact c
  · exact absurd hd c

theorem circle_sum (b s f n : Nat) : mkRat ((b + f * s : Nat) : Int) 3600000000 + (((n : Nat) : Int) : Rat) * mkRat ((s : Nat) : Int) 3600000000 = mkRat ((b + (f + n) * s : Nat) : Int) 3600000000 := by
  rw [Rat.mkRat_eq_div, Rat.mkRat_eq_div, Rat.mkRat_eq_div, Rat.div_def, Rat.div_def, Rat.div_def]
  generalize (((3600000000 : Nat) : Rat))⁻¹ = c
  have e : (((b + (f + n) * s : Nat) : Int) : Rat) = (((b + f * s : Nat) : Int) : Rat) + (((n : Nat) : Int) : Rat) * (((s : Nat) : Int) : Rat) := by
    rw [← Rat.intCast_mul, ← Rat.intCast_add]
    congr 1
    rw [Nat.add_mul, ← Nat.add_assoc]
    simp
  rw [e]
  grind

theorem agU_v (k t : Nat) : mkRat (agU k t : Int) 3600000000 = frac (mkRat ((agB k + t * agS k : Nat) : Int) 3600000000) := by
  rw [← mkRat_mod _ _ (by decide)]
  rfl

/-- From a tick to a later one an angle goes on by as many of its speeds. -/
theorem ag_goes (k f n : Nat) : ∃ a1 a2 b1 b2 s1 s2 w1 w2 : Int, agA k f = (a1, a2, 0) ∧ agA k (f + n) = (b1, b2, 0) ∧ agV k = (s1, s2, 0) ∧ timesR s1 s2 (n : Int) = (w1, w2, 0) ∧ addR a1 a2 w1 w2 = (b1, b2, 0) ∧ okI a1 a2 ∧ okI b1 b2 ∧ okI s1 s2 ∧ okI w1 w2 := by
  obtain ⟨a1, a2, ha, oa, va⟩ := of_circle (agU k f) (agU_lt k f)
  obtain ⟨b1, b2, hb, ob, vb⟩ := of_circle (agU k (f + n)) (agU_lt k (f + n))
  obtain ⟨s1, s2, hs, os, vs⟩ := of_circle (agS k) (by have := (ag_small k).2; omega)
  obtain ⟨w1, w2, hw, ow, vw⟩ := times_told os (n : Int)
  refine ⟨a1, a2, b1, b2, s1, s2, w1, w2, ha, hb, hs, hw, ?_, oa, ob, os, ow⟩
  rw [addR_canon oa ow, va, vw, vs, frac_add_frac, agU_v, frac_frac_add, circle_sum, ← agU_v, ← vb, canon_vI ob]
end Go.Proofs.Ytkclkldjphhkdaa

/- The law AngleGoes answers true, and writes nothing that was there: of every angle, tick and number of steps. -/
namespace Go.Proofs.Ytkclkldjphhkdaa
open Go.RowKit
set_option linter.unusedVariables false

theorem agok_in {p q : Int} (h : okI p q) : in64 p q := by
  obtain ⟨a, b, c, d, _⟩ := h
  exact ⟨⟨by omega, by omega⟩, by omega, by omega⟩
set_option maxHeartbeats 1600000 in
set_option maxRecDepth 100000 in
theorem agawake_any (w : World) : Calls Try.prog 18 #[] w fun e w' => e = .returned (.bool true) ∧ Below w.heap.size w w' := by
  have HU : Hid (∀ V, Calls Try.prog 5 #[.int .i64 0, .int .i64 1] V fun e w' => e = .returned (.tuple #[.int .i64 176568521, .int .i64 0]) ∧ Below V.heap.size V w') := fun V => agUnits_ok 0 1 V (by decide) (by decide)
  have HA : Hid (∀ V, Calls Try.prog 7 #[.int .i64 0, .int .i64 0] V fun e w' => e = .returned (.tuple #[.agg #[.int .i64 989, .int .i64 112500], .int .i64 0]) ∧ Below V.heap.size V w') := fun V => by
    have e := agAngle_ok 0 0 V (by decide) (by decide)
    rw [show agA 0 0 = (989, 112500, 0) by decide +kernel] at e
    exact e
  have HB := hid (Below.refl w.heap.size w)
  go_enter Try.func18, Try.ntmps18
  go_wp2_with fail
  refine Calls.mono (HU.out _) ?_
  rintro e w1 ⟨rfl, hb⟩
  replace HB := hid (b2 HB.out hb)
  clear hb
  go_wp2_with fail
  refine Calls.mono (HA.out _) ?_
  rintro e w2 ⟨rfl, hb⟩
  replace HB := hid (b2 HB.out hb)
  clear hb
  have HN := hid (boxes1 w2 26 #[.int .i64 989, .int .i64 112500])
  obtain ⟨w3, hW⟩ : ∃ w3, w2.alloc (.cells #[.int .i64 989, .int .i64 112500] 26) = w3 := ⟨_, rfl⟩
  rw [hW] at HN
  replace HB := hid (b2 HB.out HN.out.2)
  have HBb := hid HN.out.1
  clear HN
  obtain ⟨cb0, cb1, fb0, fb1⟩ := fbox_facts HBb.out (Below.refl _ _)
  go_wp2_with fail
  all_goals first | (go_ret; exact ⟨rfl, HB.out⟩) | (go_ret; exact ⟨rfl, HB.out.drew⟩)

end Go.Proofs.Ytkclkldjphhkdaa

/- The law AngleKnown answers true, and writes nothing that was there. -/
namespace Go.Proofs.Ytkclkldjphhkdaa
open Go.RowKit
set_option linter.unusedVariables false

theorem agF_back (k : Nat) (hk : k < 6) : agF (agN k) = some k := by
  rcases (show k = 0 ∨ k = 1 ∨ k = 2 ∨ k = 3 ∨ k = 4 ∨ k = 5 by omega) with rfl | rfl | rfl | rfl | rfl | rfl <;> decide +kernel
theorem agU_zero (k : Nat) : agU k 0 = agB k := by
  unfold agU
  rw [Nat.zero_mul, Nat.add_zero, Nat.mod_eq_of_lt (ag_small k).1]
theorem ag_known (k : Nat) (hk : k < 6) : (#[.string { data := #[108, 117, 110, 97, 114] }, .string { data := #[109, 111, 111, 110] }, .string { data := #[115, 117, 110] }, .string { data := #[112, 101, 114, 105, 103, 101, 101] }, .string { data := #[110, 111, 100, 101] }, .string { data := #[112, 101, 114, 105, 104, 101, 108, 105, 111, 110] }] : Array Value)[k]? = some (.string (agN k)) ∧ (#[.int .i64 31648000, .int .i64 2770247000, .int .i64 2801895000, .int .i64 3343853000, .int .i64 1008432000, .int .i64 2812209000] : Array Value)[k]? = some (.int .i64 (agB k : Int)) ∧ (#[.int .i64 144920521, .int .i64 5490165, .int .i64 410686, .int .i64 46418, .int .i64 22064, .int .i64 20] : Array Value)[k]? = some (.int .i64 (agS k : Int)) := by
  rcases (show k = 0 ∨ k = 1 ∨ k = 2 ∨ k = 3 ∨ k = 4 ∨ k = 5 by omega) with rfl | rfl | rfl | rfl | rfl | rfl <;> exact ⟨rfl, rfl, rfl⟩
theorem boxes3u (w : World) (s t r : Nat) (u v z : Array Value) : FBox (((w.alloc (.cells u s)).alloc (.cells v t)).alloc (.cells z r)) w.heap.size s u ∧ FBox (((w.alloc (.cells u s)).alloc (.cells v t)).alloc (.cells z r)) (w.heap.size + 1) t v ∧ FBox (((w.alloc (.cells u s)).alloc (.cells v t)).alloc (.cells z r)) (w.heap.size + 1 + 1) r z ∧ Below w.heap.size w (((w.alloc (.cells u s)).alloc (.cells v t)).alloc (.cells z r)) := by
  have a := boxes1 w s u
  have b := boxes1 (w.alloc (.cells u s)) t v
  have c := boxes1 ((w.alloc (.cells u s)).alloc (.cells v t)) r z
  have es : (w.alloc (.cells u s)).heap.size = w.heap.size + 1 := World.size_alloc _ _
  have et : ((w.alloc (.cells u s)).alloc (.cells v t)).heap.size = w.heap.size + 1 + 1 := by rw [World.size_alloc, World.size_alloc]
  exact ⟨(a.1.later b.2 a.1.lt).later c.2 (a.1.later b.2 a.1.lt).lt, es ▸ (b.1.later c.2 b.1.lt), et ▸ c.1, b2 a.2 (b2 b.2 c.2)⟩

set_option maxHeartbeats 6400000 in
set_option maxRecDepth 100000 in
theorem angleKnown_walk (w : World) :
    Calls Try.prog 4 #[] w fun e w' => e = .returned (.bool true) ∧ Below w.heap.size w w' := by
  have HL := hid agawake_any
  have HFk : Hid (∀ k : Nat, k < 6 → ∀ V, Calls Try.prog 11 #[.string (agN k)] V fun e w' => e = .returned (.tuple #[.int .i64 (k : Int), .bool true]) ∧ Below V.heap.size V w') := fun k hk V => by
    have e := agFind_any (agN k) V
    rw [agF_back k hk] at e
    exact e
  have HMk : Hid (∀ k : Nat, k < 6 → ∀ V, Calls Try.prog 13 #[.int .i64 (k : Int)] V fun e w' => e = .returned (.string (agN k)) ∧ Below V.heap.size V w') := fun k hk V => agName_ok k V hk
  have HUk : Hid (∀ k : Nat, k < 6 → ∀ V, Calls Try.prog 5 #[.int .i64 (k : Int), .int .i64 0] V fun e w' => e = .returned (.tuple #[.int .i64 (agB k : Int), .int .i64 0]) ∧ Below V.heap.size V w') := fun k hk V => by
    have e := agUnits_ok k 0 V hk (by decide)
    rw [agU_zero k] at e
    exact e
  have HVk : Hid (∀ k : Nat, k < 6 → ∀ V, Calls Try.prog 5 #[.int .i64 (k : Int), .int .i64 1] V fun e w' => e = .returned (.tuple #[.int .i64 (((agB k + agS k) % 3600000000 : Nat) : Int), .int .i64 0]) ∧ Below V.heap.size V w') := fun k hk V => by
    have e := agUnits_ok k 1 V hk (by decide)
    rw [show agU k 1 = (agB k + agS k) % 3600000000 by unfold agU; rw [Nat.one_mul]] at e
    exact e
  have HS5 : Hid (∀ V, Calls Try.prog 9 #[.int .i64 5] V fun e w' => e = .returned (.tuple #[.agg #[.int .i64 1, .int .i64 180000000], .int .i64 0]) ∧ Below V.heap.size V w') := fun V => by
    have e := agSpeed_ok 5 V (by decide)
    rw [show agV 5 = (1, 180000000, 0) by decide +kernel] at e
    exact e
  have HS1 : Hid (∀ V, Calls Try.prog 9 #[.int .i64 1] V fun e w' => e = .returned (.tuple #[.agg #[.int .i64 366011, .int .i64 240000000], .int .i64 0]) ∧ Below V.heap.size V w') := fun V => by
    have e := agSpeed_ok 1 V (by decide)
    rw [show agV 1 = (366011, 240000000, 0) by decide +kernel] at e
    exact e
  have HE1 : Hid (∀ V, Calls Try.prog 5 #[.int .i64 6, .int .i64 0] V fun e w' => e = .returned (.tuple #[.int .i64 0, .int .i64 2]) ∧ Below V.heap.size V w') := fun V => agUnits_err 6 0 V ⟨by decide, by decide⟩ ⟨by decide, by decide⟩ (by decide)
  have HE2 : Hid (∀ V, Calls Try.prog 5 #[.int .i64 0, .int .i64 (-1)] V fun e w' => e = .returned (.tuple #[.int .i64 0, .int .i64 2]) ∧ Below V.heap.size V w') := fun V => agUnits_err 0 (-1) V ⟨by decide, by decide⟩ ⟨by decide, by decide⟩ (by decide)
  have HE3 : Hid (∀ V, Calls Try.prog 5 #[.int .i64 0, .int .i64 1048577] V fun e w' => e = .returned (.tuple #[.int .i64 0, .int .i64 2]) ∧ Below V.heap.size V w') := fun V => agUnits_err 0 1048577 V ⟨by decide, by decide⟩ ⟨by decide, by decide⟩ (by decide)
  have HE4 : Hid (∀ V, Calls Try.prog 7 #[.int .i64 (-1), .int .i64 0] V fun e w' => e = .returned (.tuple #[.agg #[.int .i64 0, .int .i64 0], .int .i64 2]) ∧ Below V.heap.size V w') := fun V => agAngle_err (-1) 0 V ⟨by decide, by decide⟩ ⟨by decide, by decide⟩ (by decide)
  have HE5 : Hid (∀ V, Calls Try.prog 9 #[.int .i64 6] V fun e w' => e = .returned (.tuple #[.agg #[.int .i64 0, .int .i64 0], .int .i64 2]) ∧ Below V.heap.size V w') := fun V => agSpeed_err 6 V ⟨by decide, by decide⟩ (by decide)
  have HF : Hid (∀ V, Calls Try.prog 11 #[.string { data := #[83, 117, 110] }] V fun e w' => e = .returned (.tuple #[.int .i64 0, .bool false]) ∧ Below V.heap.size V w') := fun V => by
    have e := agFind_any { data := #[83, 117, 110] } V
    rw [show agF { data := #[83, 117, 110] } = none by decide +kernel] at e
    exact e
  have HN6 : Hid (∀ V, Calls Try.prog 13 #[.int .i64 6] V fun e w' => e = .returned (.string { data := #[] }) ∧ Below V.heap.size V w') := fun V => agName_err 6 V ⟨by decide, by decide⟩ (by decide)
  have HNm : Hid (∀ V, Calls Try.prog 13 #[.int .i64 (-1)] V fun e w' => e = .returned (.string { data := #[] }) ∧ Below V.heap.size V w') := fun V => agName_err (-1) V ⟨by decide, by decide⟩ (by decide)
  have HB := hid (Below.refl w.heap.size w)
  go_enter Try.func4, Try.ntmps4
  go_wp2_with fail
  have HX := hid (boxes3u w 9 2 2 #[.string { data := #[108, 117, 110, 97, 114] }, .string { data := #[109, 111, 111, 110] }, .string { data := #[115, 117, 110] }, .string { data := #[112, 101, 114, 105, 103, 101, 101] }, .string { data := #[110, 111, 100, 101] }, .string { data := #[112, 101, 114, 105, 104, 101, 108, 105, 111, 110] }] #[.int .i64 31648000, .int .i64 2770247000, .int .i64 2801895000, .int .i64 3343853000, .int .i64 1008432000, .int .i64 2812209000] #[.int .i64 144920521, .int .i64 5490165, .int .i64 410686, .int .i64 46418, .int .i64 22064, .int .i64 20])
  generalize ((w.alloc (.cells #[.string { data := #[108, 117, 110, 97, 114] }, .string { data := #[109, 111, 111, 110] }, .string { data := #[115, 117, 110] }, .string { data := #[112, 101, 114, 105, 103, 101, 101] }, .string { data := #[110, 111, 100, 101] }, .string { data := #[112, 101, 114, 105, 104, 101, 108, 105, 111, 110] }] 9)).alloc (.cells #[.int .i64 31648000, .int .i64 2770247000, .int .i64 2801895000, .int .i64 3343853000, .int .i64 1008432000, .int .i64 2812209000] 2)).alloc (.cells #[.int .i64 144920521, .int .i64 5490165, .int .i64 410686, .int .i64 46418, .int .i64 22064, .int .i64 20] 2) = W0 at *
  have HBs := hid HX.out.1
  have HBb := hid HX.out.2.1
  have HBp := hid HX.out.2.2.1
  replace HB := hid (b2 HB.out HX.out.2.2.2)
  clear HX
  go_loopw [4] (fun x wr => ∃ k : Nat, k ≤ 6 ∧ x = .int .i64 (k : Int) ∧ Hid (FBox wr w.heap.size 9 #[.string { data := #[108, 117, 110, 97, 114] }, .string { data := #[109, 111, 111, 110] }, .string { data := #[115, 117, 110] }, .string { data := #[112, 101, 114, 105, 103, 101, 101] }, .string { data := #[110, 111, 100, 101] }, .string { data := #[112, 101, 114, 105, 104, 101, 108, 105, 111, 110] }]) ∧ Hid (FBox wr (w.heap.size + 1) 2 #[.int .i64 31648000, .int .i64 2770247000, .int .i64 2801895000, .int .i64 3343853000, .int .i64 1008432000, .int .i64 2812209000]) ∧ Hid (FBox wr (w.heap.size + 1 + 1) 2 #[.int .i64 144920521, .int .i64 5490165, .int .i64 410686, .int .i64 46418, .int .i64 22064, .int .i64 20]) ∧ Hid (Below w.heap.size w wr)) (fun x _ => 6 - (intOf x).toNat)
  case atStart => exact ⟨0, by decide, rfl, HBs, HBb, HBp, HB⟩
  case round =>
    clear HBs HBb HBp HB
    obtain ⟨k, hk, rfl, HBs, HBb, HBp, HB⟩ := hrel
    by_cases hlt : k < 6
    · clear HL HS5 HS1 HE1 HE2 HE3 HE4 HE5 HF HN6 HNm
      have H1 := hid (HFk.out k hlt)
      have H2 := hid (HMk.out k hlt)
      have H3 := hid (HUk.out k hlt)
      have H4 := hid (HVk.out k hlt)
      have HC : Hid (∀ V, Below wr.heap.size wr V → V.cell? ⟨w.heap.size, k, none⟩ = some (.string (agN k)) ∧ V.cell? ⟨w.heap.size + 1, k, none⟩ = some (.int .i64 (agB k : Int)) ∧ V.cell? ⟨w.heap.size + 1 + 1, k, none⟩ = some (.int .i64 (agS k : Int))) := fun V hv => by
        obtain ⟨e1, e2, e3⟩ := ag_known k hlt
        exact ⟨((HBs.out.later hv HBs.out.lt).cell k).trans e1, ((HBb.out.later hv HBb.out.lt).cell k).trans e2, ((HBp.out.later hv HBp.out.lt).cell k).trans e3⟩
      have HFB : Hid (∀ V, Below wr.heap.size wr V → FBox V w.heap.size 9 #[.string { data := #[108, 117, 110, 97, 114] }, .string { data := #[109, 111, 111, 110] }, .string { data := #[115, 117, 110] }, .string { data := #[112, 101, 114, 105, 103, 101, 101] }, .string { data := #[110, 111, 100, 101] }, .string { data := #[112, 101, 114, 105, 104, 101, 108, 105, 111, 110] }] ∧ FBox V (w.heap.size + 1) 2 #[.int .i64 31648000, .int .i64 2770247000, .int .i64 2801895000, .int .i64 3343853000, .int .i64 1008432000, .int .i64 2812209000] ∧ FBox V (w.heap.size + 1 + 1) 2 #[.int .i64 144920521, .int .i64 5490165, .int .i64 410686, .int .i64 46418, .int .i64 22064, .int .i64 20] ∧ Below w.heap.size w V) := fun V hv => ⟨HBs.out.later hv HBs.out.lt, HBb.out.later hv HBb.out.lt, HBp.out.later hv HBp.out.lt, b2 HB.out hv⟩
      have hss := (ag_small k).2
      have hbb := (ag_small k).1
      clear HBs HBb HBp HB HFk HMk HUk HVk
      generalize agN k = n at *
      generalize agB k = b at *
      generalize agS k = s at *
      have h0 : (n.toList == n.toList) = true := by simp
      have x1 : IntKind.i64.wrap ((b : Int) + (s : Int)) = (b : Int) + (s : Int) := by rw [IntKind.wrap_i64]; omega
      have x2 : Int.tmod ((b : Int) + (s : Int)) 3600000000 = (((b + s) % 3600000000 : Nat) : Int) := rfl
      have x3 : IntKind.i64.wrap (((b + s) % 3600000000 : Nat) : Int) = (((b + s) % 3600000000 : Nat) : Int) := by rw [IntKind.wrap_i64]; omega
      generalize (b + s) % 3600000000 = M at *
      clear hss hbb
      obtain ⟨m0, m1, m2⟩ := HC.out _ (Below.refl _ _)
      go_wp2_with fail
      refine Calls.mono (H1.out _) ?_
      rintro e w1 ⟨rfl, hb⟩
      have HD := hid hb
      clear hb m0 m1 m2
      go_wp2_with fail
      refine Calls.mono (H3.out _) ?_
      rintro e w2 ⟨rfl, hb⟩
      replace HD := hid (b2 HD.out hb)
      clear hb
      go_wp2_with fail
      refine Calls.mono (H4.out _) ?_
      rintro e w3 ⟨rfl, hb⟩
      replace HD := hid (b2 HD.out hb)
      clear hb
      have HK : Hid (∀ ww, Below wr.heap.size wr ww → Calls Try.prog 13 #[.int .i64 (k : Int)] ww fun e w' => e = .returned (.string n) ∧ (w'.cell? ⟨w.heap.size, k, none⟩ = some (.string n) ∧ w'.cell? ⟨w.heap.size + 1, k, none⟩ = some (.int .i64 (b : Int)) ∧ w'.cell? ⟨w.heap.size + 1 + 1, k, none⟩ = some (.int .i64 (s : Int))) ∧ Below wr.heap.size wr w') := fun ww hv => by
        refine Calls.mono (H2.out ww) ?_
        rintro e w' ⟨rfl, h⟩
        exact ⟨rfl, HC.out _ (b2 hv h), b2 hv h⟩
      obtain ⟨m0, m1, m2⟩ := HC.out _ HD.out
      have hs0 := And.intro m0 (And.intro m1 m2)
      clear HC
      go_wp2_with fail
      go_region_held3 (fun V : World => V.cell? ⟨w.heap.size, k, none⟩ = some (.string n) ∧ V.cell? ⟨w.heap.size + 1, k, none⟩ = some (.int .i64 (b : Int)) ∧ V.cell? ⟨w.heap.size + 1 + 1, k, none⟩ = some (.int .i64 (s : Int))) (first | exact hs1 | exact hs0) (first | (go_at_call 13; with_reducible refine Calls.mono (HK.out _ HD.out.drew) ?_; rintro e w4 ⟨rfl, hs1, hb4⟩))
      all_goals
        go_wp2_with fail
        go_roundw
        case rel =>
          obtain ⟨q1, q2, q3, q4⟩ := HFB.out _ (by first | exact hb4 | exact hb4.drew)
          exact ⟨k + 1, by omega, by go_num, q1, q2, q3, q4⟩
        case measure => simp [intOf]; omega
    · obtain rfl : k = 6 := by omega
      clear HFk HMk HUk HVk HBs HBb HBp
      go_wp2_with fail
      refine Calls.mono (HS5.out _) ?_
      rintro e v1 ⟨rfl, hb⟩
      replace HB := hid (b2 HB.out hb)
      clear hb
      have HN := hid (boxes1 v1 26 #[.int .i64 1, .int .i64 180000000])
      obtain ⟨v2, hW⟩ : ∃ v2, v1.alloc (.cells #[.int .i64 1, .int .i64 180000000] 26) = v2 := ⟨_, rfl⟩
      rw [hW] at HN
      replace HB := hid (b2 HB.out HN.out.2)
      have HBs := hid HN.out.1
      clear HN
      go_wp2_with fail
      clear hW
      refine Calls.mono (HS1.out _) ?_
      rintro e v3 ⟨rfl, hb⟩
      replace HBs := hid (HBs.out.later hb HBs.out.lt)
      replace HB := hid (b2 HB.out hb)
      clear hb
      have HN := hid (boxes1 v3 26 #[.int .i64 366011, .int .i64 240000000])
      obtain ⟨v4, hW⟩ : ∃ v4, v3.alloc (.cells #[.int .i64 366011, .int .i64 240000000] 26) = v4 := ⟨_, rfl⟩
      rw [hW] at HN
      replace HBs := hid (HBs.out.later HN.out.2 HBs.out.lt)
      replace HB := hid (b2 HB.out HN.out.2)
      have HBt := hid HN.out.1
      clear HN
      obtain ⟨cs0, cs1, fs0, fs1⟩ := fbox_facts HBs.out (Below.refl _ _)
      obtain ⟨ct0, ct1, ft0, ft1⟩ := fbox_facts HBt.out (Below.refl _ _)
      go_wp2_with fail
      clear hW
      refine Calls.mono (HE1.out _) ?_
      rintro e v5 ⟨rfl, hb⟩
      replace HBs := hid (HBs.out.later hb HBs.out.lt)
      replace HBt := hid (HBt.out.later hb HBt.out.lt)
      replace HB := hid (b2 HB.out hb)
      clear hb
      clear cs0 cs1 fs0 fs1
      clear ct0 ct1 ft0 ft1
      go_wp2_with fail
      refine Calls.mono (HE2.out _) ?_
      rintro e v6 ⟨rfl, hb⟩
      replace HBs := hid (HBs.out.later hb HBs.out.lt)
      replace HBt := hid (HBt.out.later hb HBt.out.lt)
      replace HB := hid (b2 HB.out hb)
      clear hb
      go_wp2_with fail
      refine Calls.mono (HE3.out _) ?_
      rintro e v7 ⟨rfl, hb⟩
      replace HBs := hid (HBs.out.later hb HBs.out.lt)
      replace HBt := hid (HBt.out.later hb HBt.out.lt)
      replace HB := hid (b2 HB.out hb)
      clear hb
      go_wp2_with fail
      clear HBs HBt
      refine Calls.mono (HE4.out _) ?_
      rintro e v8 ⟨rfl, hb⟩
      replace HB := hid (b2 HB.out hb)
      clear hb
      have HN := hid (boxes1 v8 26 #[.int .i64 0, .int .i64 0])
      go_wp2_with fail
      generalize v8.alloc (.cells #[.int .i64 0, .int .i64 0] 26) = v8b at *
      replace HB := hid (b2 HB.out HN.out.2)
      clear HN
      refine Calls.mono (HE5.out _) ?_
      rintro e v9 ⟨rfl, hb⟩
      replace HB := hid (b2 HB.out hb)
      clear hb
      have HN := hid (boxes1 v9 26 #[.int .i64 0, .int .i64 0])
      go_wp2_with fail
      generalize v9.alloc (.cells #[.int .i64 0, .int .i64 0] 26) = v9b at *
      replace HB := hid (b2 HB.out HN.out.2)
      clear HN
      refine Calls.mono (HF.out _) ?_
      rintro e va ⟨rfl, hb⟩
      replace HB := hid (b2 HB.out hb)
      clear hb
      go_wp2_with fail
      refine Calls.mono (HL.out _) ?_
      rintro e vb ⟨rfl, hb⟩
      replace HB := hid (b2 HB.out hb)
      clear hb
      go_wp2_with fail
      refine Calls.mono (HN6.out _) ?_
      rintro e vc ⟨rfl, hb⟩
      replace HB := hid (b2 HB.out hb)
      clear hb
      go_wp2_with fail
      refine Calls.mono (HNm.out _) ?_
      rintro e vd ⟨rfl, hb⟩
      replace HB := hid (b2 HB.out hb)
      clear hb
      go_wp2_with fail
      go_ret
      exact ⟨rfl, HB.out⟩
end Go.Proofs.Ytkclkldjphhkdaa

