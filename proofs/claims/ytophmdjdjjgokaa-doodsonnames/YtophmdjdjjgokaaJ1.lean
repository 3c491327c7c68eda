/- My texts on the way to DoodsonNames, one behind the other: contracts of the program and of the document's answers. -/
import Derived.WalkKit
import Derived.WalkLawsBesides
import Derived.WalkSpells
import Derived.Laws.BitsAllLaws
import Derived.Laws.CopyOwn
import Derived.Laws.AppendOwnNone
import Derived.Test.YtophmdjdjjgokaaChecked
import Derived.Handy
import Derived.RegionTactic
import Derived.ChangeAlike
import Derived.Deep.RegionHeld3
import Derived.Deep.QuietTactic
import Derived.BigQuiet
import Derived.Shelf.Abstract
import Derived.Maps.OwnSet
import Derived.Laws.IdiomStrings
import Derived.ArgAppend
import Derived.ChangeKeysEq
import Derived.Laws.StructEq
/- Lists of 32-bit words as plain data: their trimmed length, their value, when they are read out of memory. Nothing here speaks of the program. -/
namespace Go.Proofs.Ytophmdjdjjgokaa
open Go.RowKit

theorem hid {p : Prop} (h : p) : Hid p := h

/-- Each number is a word of 32 bits. -/
def Wd (zs : List Int) : Prop := ∀ z ∈ zs, 0 ≤ z ∧ z ≤ 4294967295

theorem Wd.at {zs : List Int} (h : Wd zs) (j : Nat) : 0 ≤ zs[j]?.getD 0 ∧ zs[j]?.getD 0 ≤ 4294967295 := by
  by_cases hj : j < zs.length
  · rw [List.getElem?_eq_getElem hj]; exact h _ (List.getElem_mem hj)
  · rw [List.getElem?_eq_none (by omega)]; exact ⟨by decide, by decide⟩

theorem Wd.take {zs : List Int} (h : Wd zs) (k : Nat) : Wd (zs.take k) := fun z hz => h z (List.mem_of_mem_take hz)
theorem Wd.drop {zs : List Int} (h : Wd zs) (k : Nat) : Wd (zs.drop k) := fun z hz => h z (List.mem_of_mem_drop hz)
theorem Wd.append {zs ys : List Int} (h : Wd zs) (g : Wd ys) : Wd (zs ++ ys) := fun z hz => (List.mem_append.1 hz).elim (h z) (g z)
theorem Wd.nil : Wd [] := fun _ hz => by simp at hz
theorem Wd.cons {z : Int} {zs : List Int} (h0 : 0 ≤ z ∧ z ≤ 4294967295) (h : Wd zs) : Wd (z :: zs) := fun y hy => by
  rcases List.mem_cons.1 hy with rfl | hy
  · exact h0
  · exact h y hy
theorem Wd.one {z : Int} (h0 : 0 ≤ z ∧ z ≤ 4294967295) : Wd [z] := Wd.cons h0 Wd.nil
theorem Wd.replicate (n : Nat) : Wd (List.replicate n 0) := fun z hz => by
  have := (List.mem_replicate.1 hz).2; omega
theorem Wd.set {zs : List Int} (h : Wd zs) (j : Nat) {z : Int} (h0 : 0 ≤ z ∧ z ≤ 4294967295) : Wd (zs.set j z) := fun y hy => by
  rcases List.mem_or_eq_of_mem_set hy with hy | rfl
  · exact h y hy
  · exact h0
theorem Wd.tail {z : Int} {zs : List Int} (h : Wd (z :: zs)) : Wd zs := fun y hy => h y (List.mem_cons_of_mem _ hy)
theorem Wd.head {z : Int} {zs : List Int} (h : Wd (z :: zs)) : 0 ≤ z ∧ z ≤ 4294967295 := h z List.mem_cons_self

/-- How many of the first k words stay when noughts at their end are dropped. -/
def szTo (zs : List Int) : Nat → Nat
  | 0 => 0
  | k + 1 => if zs[k]?.getD 0 = 0 then szTo zs k else k + 1
def sz (zs : List Int) : Nat := szTo zs zs.length
def trimmed (zs : List Int) : List Int := zs.take (sz zs)

theorem szTo_le (zs : List Int) : ∀ k, szTo zs k ≤ k
  | 0 => Nat.le_refl _
  | k + 1 => by
    unfold szTo
    split
    · exact Nat.le_succ_of_le (szTo_le zs k)
    · exact Nat.le_refl _
theorem sz_le (zs : List Int) : sz zs ≤ zs.length := szTo_le zs _
theorem szTo_zero (zs : List Int) (k : Nat) (h : zs[k]?.getD 0 = 0) : szTo zs (k + 1) = szTo zs k := by simp [szTo, h]
theorem szTo_keep (zs : List Int) (k : Nat) (h : ¬ zs[k]?.getD 0 = 0) : szTo zs (k + 1) = k + 1 := by simp [szTo, h]
theorem length_trimmed (zs : List Int) : (trimmed zs).length = sz zs := by
  unfold trimmed; rw [List.length_take, Nat.min_eq_left (sz_le zs)]
theorem Wd.trimmed {zs : List Int} (h : Wd zs) : Wd (trimmed zs) := h.take _
/-- Behind the trimmed length stand noughts alone. -/
theorem szTo_behind (zs : List Int) : ∀ k j, szTo zs k ≤ j → j < k → zs[j]?.getD 0 = 0
  | 0, _, _, h => by omega
  | k + 1, j, h1, h2 => by
    by_cases h : zs[k]?.getD 0 = 0
    · rw [szTo_zero zs k h] at h1
      by_cases e : j = k
      · rw [e]; exact h
      · exact szTo_behind zs k j h1 (by omega)
    · rw [szTo_keep zs k h] at h1; omega
theorem sz_behind (zs : List Int) (j : Nat) (h1 : sz zs ≤ j) : zs[j]?.getD 0 = 0 := by
  by_cases h : j < zs.length
  · exact szTo_behind zs _ j h1 h
  · rw [List.getElem?_eq_none (by omega)]; rfl
/-- The last word that stays is not 0. -/
theorem szTo_top (zs : List Int) : ∀ k, 0 < szTo zs k → ¬ zs[szTo zs k - 1]?.getD 0 = 0
  | 0, h => by simp [szTo] at h
  | k + 1, h => by
    by_cases e : zs[k]?.getD 0 = 0
    · rw [szTo_zero zs k e] at h ⊢; exact szTo_top zs k h
    · rw [szTo_keep zs k e]; simpa using e
theorem sz_top (zs : List Int) (h : 0 < sz zs) : ¬ zs[sz zs - 1]?.getD 0 = 0 := szTo_top zs _ h

/-- The list is trimmed: just if it is empty or its last word is not 0. -/
theorem sz_eq_iff (zs : List Int) : sz zs = zs.length ↔ zs.length = 0 ∨ ¬ zs[zs.length - 1]?.getD 0 = 0 := by
  constructor
  · intro h
    by_cases h0 : zs.length = 0
    · exact .inl h0
    · right; have := sz_top zs (by omega); rwa [h] at this
  · rintro (h | h)
    · have := sz_le zs; omega
    · by_cases h0 : zs.length = 0
      · have := sz_le zs; omega
      · obtain ⟨m, hm⟩ : ∃ m, zs.length = m + 1 := ⟨zs.length - 1, by omega⟩
        unfold sz; rw [hm]; rw [hm] at h
        exact szTo_keep zs m (by simpa using h)

/-- The slice whose address is 'a', whose length is 'n' and whose capacity is 'cap' reads as 'zs' in the world 'w': below block number B. -/
def Reads (w : World) (B : Nat) (a : Option Addr) (n cap : Nat) (zs : List Int) : Prop :=
  zs.length = n ∧ Wd zs ∧ (n = 0 ∨ ∃ b o, a = some ⟨b, o, none⟩ ∧ b < B ∧ ∀ j, j < n → w.cell? ⟨b, o + j, none⟩ = some (.int .u32 (zs[j]?.getD 0))) ∧ n ≤ cap ∧ cap ≤ maxLen ∧ (a = none → cap = 0)

theorem Reads.later {w w' : World} {B B' : Nat} {a : Option Addr} {n cap : Nat} {zs : List Int} (h : Reads w B a n cap zs) (hb : Below B w w') (hB : B ≤ B') : Reads w' B' a n cap zs := by
  obtain ⟨h1, h2, h3, h4⟩ := h
  refine ⟨h1, h2, h3.imp id ?_, h4⟩
  rintro ⟨b, o, rfl, hlt, hc⟩
  exact ⟨b, o, rfl, by omega, fun j hj => (hb.cell (p := ⟨b, o + j, none⟩) hlt).trans (hc j hj)⟩

/-- Of a slice its first k elements. -/
theorem Reads.front {w : World} {B : Nat} {a : Option Addr} {n cap : Nat} {zs : List Int} (h : Reads w B a n cap zs) (k : Nat) (hk : k ≤ n) : Reads w B a k cap (zs.take k) := by
  obtain ⟨h1, h2, h3, h4, h5, h6⟩ := h
  refine ⟨by rw [List.length_take]; omega, h2.take k, ?_, by omega, h5, h6⟩
  rcases h3 with h3 | ⟨b, o, ha, hlt, hc⟩
  · left; omega
  · right
    refine ⟨b, o, ha, hlt, fun j hj => ?_⟩
    rw [hc j (by omega), List.getElem?_take, if_pos hj]

/-- What the call owns is read as its words. -/
theorem Reads.own {w : World} {base e : Nat} {v : Value} {zs : List Int} {n : Nat} (h : w.ownsRow base e 1 v n (zs.map (Value.int .u32))) (hw : Wd zs) :
    ∃ a cap, v = .slice a n cap ∧ Reads w w.heap.size a n cap zs := by
  have hl := h.1
  simp at hl
  rcases h.2 with ⟨rfl, rfl⟩ | ⟨g, cap, cur, rfl, hb, hg, hnc, hcm, hcs, ht⟩
  · exact ⟨none, 0, rfl, by omega, hw, .inl rfl, Nat.le_refl _, Nat.zero_le _, fun _ => rfl⟩
  · refine ⟨_, cap, rfl, by omega, hw, ?_, hnc, hcm, fun h => by simp at h⟩
    right
    refine ⟨g, 0, rfl, ?_, fun j hj => ?_⟩
    · have : w.heap[g]?.isSome := by rw [hg]; rfl
      simpa using this
    · have hc := h.cellAt j (by omega)
      rw [Nat.zero_add, hc, List.getElem?_map, List.getElem?_eq_getElem (by omega)]
      simp

/-- What is owned stays owned while only newer memory is made. -/
theorem owns_later {w w' : World} {base e : Nat} {v : Value} {n : Nat} {xs : List Value} (h : w.ownsRow base e 1 v n xs) (hb : Below w.heap.size w w') : w'.ownsRow base e 1 v n xs := by
  refine ⟨h.1, h.2.imp id ?_⟩
  rintro ⟨g, cap, cur, rfl, hbg, hg, h1, h2, h3, h4⟩
  refine ⟨g, cap, cur, rfl, hbg, ?_, h1, h2, h3, h4⟩
  rw [hb.block g (by
    have : w.heap[g]?.isSome := by rw [hg]; rfl
    simpa using this)]
  exact hg

/-- What is owned from one block number on is owned from every smaller one on. -/
theorem owns_base {w : World} {base base' e : Nat} {v : Value} {n : Nat} {xs : List Value} (h : w.ownsRow base e 1 v n xs) (hb : base' ≤ base) : w.ownsRow base' e 1 v n xs := by
  refine ⟨h.1, h.2.imp id ?_⟩
  rintro ⟨g, cap, cur, rfl, hbg, hr⟩
  exact ⟨g, cap, cur, rfl, by omega, hr⟩
/-- A slice literal, just laid, is read. -/
theorem Reads.lit (w : World) (e : Nat) (zs : List Int) (hw : Wd zs) (hm : zs.length ≤ maxLen) : Reads (w.alloc (.cells ((zs.map (Value.int .u32)).toArray) e)) (w.alloc (.cells ((zs.map (Value.int .u32)).toArray) e)).heap.size (some ⟨w.heap.size, 0, none⟩) zs.length zs.length zs := by
  have h := World.ownsRow_lit (base := w.heap.size) (e := e) (size := 1) w ((zs.map (Value.int .u32)).toArray) zs.length (Nat.le_refl _) hm (by simp)
  obtain ⟨a, cap, hv, hr⟩ := Reads.own (zs := zs) (by simpa using h) hw
  simp only [Value.slice.injEq] at hv
  obtain ⟨rfl, _, rfl⟩ := hv
  exact hr

/-- A word above a word. -/
theorem or_join (x y : Int) (hx0 : 0 ≤ x) (hx : x ≤ 4294967295) (hy0 : 0 ≤ y) (hy : y ≤ 4294967295) : bits BinOp.or IntKind.u64 (x * 4294967296) y = y + x * 4294967296 := by
  rw [u64_or _ _ (by omega) (by omega) (by omega) (by omega), nat_join 32 _ _ (by omega) (by omega)]
  omega

theorem ret_int {k : IntKind} {a b : Int} (h : a = b) : Ending.returned (.int k a) = .returned (.int k b) := by rw [h]
theorem ret_bool {a b : Bool} (h : a = b) : Ending.returned (.bool a) = .returned (.bool b) := by rw [h]
end Go.Proofs.Ytophmdjdjjgokaa

/- Turns as fractions: their sizes are rational numbers, whole turns left out. Nothing here speaks of the program. -/
namespace Go.Proofs.Ytophmdjdjjgokaa
open Go.RowKit

/-- A fraction that may be a turn. -/
def okT (p q : Nat) : Prop := 1 ≤ q ∧ q ≤ 4294967296 ∧ p < q ∧ Nat.gcd p q = 1

/-- The turn's size. -/
def vT (p q : Nat) : Rat := mkRat p q

theorem mkRat_nd (p q : Nat) (hq : 0 < q) : (mkRat p q).num = ((p / Nat.gcd p q : Nat) : Int) ∧ (mkRat p q).den = q / Nat.gcd p q := by
  have hq' : q ≠ 0 := by omega
  rw [← Rat.normalize_eq_mkRat hq', Rat.normalize_eq hq']
  simp [Int.natAbs_natCast]

theorem vT_low (p q : Nat) (hq : 0 < q) : vT (p / Nat.gcd p q) (q / Nat.gcd p q) = vT p q := by
  have h := mkRat_nd p q hq
  unfold vT
  rw [← h.1, ← h.2, Rat.mkRat_self]

theorem vT_inj {p q r s : Nat} (h : okT p q) (g : okT r s) (e : vT p q = vT r s) : p = r ∧ q = s := by
  have a := mkRat_nd p q (by have := h.1; omega)
  have b := mkRat_nd r s (by have := g.1; omega)
  have e' : mkRat p q = mkRat r s := e
  rw [h.2.2.2, Nat.div_one, Nat.div_one] at a
  rw [g.2.2.2, Nat.div_one, Nat.div_one] at b
  rw [e', b.1, b.2] at a
  omega

def frac (x : Rat) : Rat := x - x.floor

theorem frac_add_int (x : Rat) (k : Int) : frac (x + k) = frac x := by
  unfold frac
  rw [Rat.floor_add_intCast, Rat.intCast_add]
  grind

theorem frac_unique {x y : Rat} (k : Int) (h : x = y + k) (h0 : 0 ≤ y) (h1 : y < 1) : frac x = y := by
  rw [h, frac_add_int]
  unfold frac
  have : y.floor = 0 := by
    have a : y.floor < 1 := Rat.floor_lt_iff.2 (by simpa using h1)
    have b : 0 ≤ y.floor := Rat.le_floor_iff.2 (by simpa using h0)
    omega
  rw [this]; simp; grind

end Go.Proofs.Ytophmdjdjjgokaa

/- package turn: common, within, round, of every two numbers. -/
namespace Go.Proofs.Ytophmdjdjjgokaa
open Go.RowKit
set_option linter.unusedVariables false

set_option maxHeartbeats 800000 in
set_option maxRecDepth 100000 in
theorem tcommon_any (a b : Nat) (w : World) (ha : a < 18446744073709551616) (hb : b < 18446744073709551616) :
    Calls Try.prog 60 #[.int .u64 (a : Int), .int .u64 (b : Int)] w fun e w' => e = .returned (.int .u64 (Nat.gcd a b : Nat)) ∧ Below w.heap.size w w' := by
  go_enter Try.func60, Try.ntmps60
  go_wp2_with fail
  go_loopw [0, 1] (fun x y wr => ∃ c d : Nat, x = .int .u64 (c : Int) ∧ y = .int .u64 (d : Int) ∧ c < 18446744073709551616 ∧ d < 18446744073709551616 ∧ Hid (Nat.gcd c d = Nat.gcd a b) ∧ Below w.heap.size w wr) (fun _ y _ => (intOf y).toNat)
  case atStart => exact ⟨a, b, rfl, rfl, ha, hb, (rfl : Nat.gcd a b = Nat.gcd a b), Below.refl _ _⟩
  case round =>
    obtain ⟨c, d, rfl, rfl, hc, hd, hg, hX⟩ := hrel
    by_cases h0 : d = 0
    · subst h0
      have HG : Hid (c = Nat.gcd a b) := by have := hg.out; rw [Nat.gcd_zero_right] at this; exact this
      clear hg
      go_wp2_with fail
      go_ret
      exact ⟨ret_int (by rw [HG.out]), hX⟩
    · have hm : c % d < d := Nat.mod_lt _ (by omega)
      have HG : Hid (Nat.gcd d (c % d) = Nat.gcd a b) := by show _ = _; rw [← hg.out, Nat.gcd_comm c d, Nat.gcd_rec d c, Nat.gcd_comm]
      have h0' : (d : Int) ≠ 0 := by omega
      clear hg
      go_wp2_with fail
      go_region
      all_goals
        go_wp2_with fail
        go_roundw
        case rel => exact ⟨d, c % d, rfl, by go_num, by omega, by omega, HG, hX.drew⟩
        case measure => simp [intOf]; omega

theorem tcommonI (p q : Int) (w : World) (p0 : 0 ≤ p) (p1 : p < 18446744073709551616) (q0 : 0 ≤ q) (q1 : q < 18446744073709551616) :
    Calls Try.prog 60 #[.int .u64 p, .int .u64 q] w fun e w' => e = .returned (.int .u64 (Nat.gcd p.toNat q.toNat : Nat)) ∧ Below w.heap.size w w' := by
  obtain ⟨a, rfl⟩ := Int.eq_ofNat_of_zero_le p0
  obtain ⟨b, rfl⟩ := Int.eq_ofNat_of_zero_le q0
  exact tcommon_any a b w (by omega) (by omega)

set_option maxHeartbeats 800000 in
set_option maxRecDepth 100000 in
theorem twithin_any (p : Int) (q : Nat) (w : World) (h0 : -9223372036854775808 ≤ p) (h1 : p ≤ 9223372036854775807) (hq : 0 < q) (hq' : q ≤ 4294967296) :
    Calls Try.prog 43 #[.int .i64 p, .int .i64 (q : Int)] w fun e w' => e = .returned (.int .i64 (p % (q : Int))) ∧ w' = w := by
  have a := Int.emod_nonneg p (show (q : Int) ≠ 0 by omega)
  have b := Int.emod_lt_of_pos p (show (0 : Int) < q by omega)
  have b1 : Int.tmod p q = p % q ∨ (Int.tmod p q = p % q - q) := by
    rw [Int.tmod_eq_emod]
    split
    · left; omega
    · right; simp
  have b2 : 0 ≤ p → Int.tmod p q = p % q := fun h => by rw [Int.tmod_eq_emod, if_pos (.inl h)]; omega
  go_enter Try.func43, Try.ntmps43
  go_wp2_with fail
  all_goals
    go_ret
    exact ⟨ret_int (by omega), rfl⟩

theorem tround_any (x y v : Nat) (w : World) (hx : x < v) (hy : y < v) (hv : v < 18446744073709551616) :
    Calls Try.prog 61 #[.int .u64 (x : Int), .int .u64 (y : Int), .int .u64 (v : Int)] w fun e w' => e = .returned (.int .u64 (((x + y) % v : Nat) : Int)) ∧ w' = w := by
  by_cases h : v ≤ x + y
  · have e : (x + y) % v = x + y - v := by rw [Nat.mod_eq_sub_mod h, Nat.mod_eq_of_lt (by omega)]
    rw [e]
    go_enter Try.func61, Try.ntmps61
    go_wp2_with fail
    go_ret
    exact ⟨by go_num, rfl⟩
  · have e : (x + y) % v = x + y := Nat.mod_eq_of_lt (by omega)
    rw [e]
    go_enter Try.func61, Try.ntmps61
    go_wp2_with fail
    go_ret
    exact ⟨by go_num, rfl⟩
end Go.Proofs.Ytophmdjdjjgokaa

/- Floats of 64 bits by their bits: which are finite, what a sum or difference of two gives, the sum of two with what was lost of it, as plain functions of the bits. Nothing here speaks of the program. -/
namespace Go.Proofs.Ytophmdjdjjgokaa

/-- Neither an infinity nor NaN: by the bits. -/
def fin (x : Nat) : Bool := x / 4503599627370496 % 2048 != 2047

theorem fin_iff (x : Nat) : fin x = true ↔ x % 9223372036854775808 < 9218868437227405312 := by
  unfold fin
  simp only [bne_iff_ne, ne_eq]
  omega

theorem dbl_sign : Ieee.double.signWeight = 9223372036854775808 := by decide
theorem dbl_inf : Ieee.double.infRung = 9218868437227405312 := by decide
theorem dbl_binade : Ieee.double.binade = 4503599627370496 := by decide

theorem read_fin {x : Nat} (h : fin x = true) : ∃ s m e, Ieee.double.read x = .number s m e := by
  rw [fin_iff] at h
  unfold Ieee.Format.read
  simp only [dbl_sign, dbl_inf, dbl_binade]
  split
  · exact ⟨_, _, _, rfl⟩
  · first | exact ⟨_, _, _, rfl⟩ | (rw [if_pos h]; exact ⟨_, _, _, rfl⟩)

theorem read_not {x : Nat} (h : fin x = false) : (∃ s, Ieee.double.read x = .infinity s) ∨ ∃ s f, Ieee.double.read x = .nan s f := by
  have h' : ¬ x % 9223372036854775808 < 9218868437227405312 := fun g => by rw [(fin_iff x).2 g] at h; exact Bool.noConfusion h
  unfold Ieee.Format.read
  simp only [dbl_sign, dbl_inf, dbl_binade]
  rw [if_neg (by omega), if_neg h']
  split
  · exact Or.inl ⟨_, rfl⟩
  · exact Or.inr ⟨_, _, rfl⟩

theorem write_inf (s : Bool) : fin (Ieee.double.write (.infinity s)) = false := by
  cases s <;> decide

theorem nan_cut (x y t : Nat) : fin (Question.cut (.nanBits .f64 x y) t) = false ∧ Question.cut (.nanBits .f64 x y) t < 18446744073709551616 := by
  simp only [Question.cut]
  have hu : (t / 2) % (2 ^ 52 - 1) < 4503599627370495 := Nat.mod_lt _ (by decide)
  have hv : t % 2 = 0 ∨ t % 2 = 1 := by omega
  generalize (t / 2) % (2 ^ 52 - 1) = u at hu ⊢
  generalize t % 2 = v at hv ⊢
  constructor
  · cases hh : fin (v * 2 ^ 63 + 0x7ff0000000000000 + 1 + u)
    · rfl
    · rw [fin_iff] at hh; rcases hv with rfl | rfl <;> omega
  · rcases hv with rfl | rfl <;> omega

/-- What the machine hands back: the bits of the answer, or, where there is none, some NaN. -/
def FR (op : BinOp) (x y r : Nat) : Prop := r < 18446744073709551616 ∧ (floatBits op .f64 x y = some r ∨ (floatBits op .f64 x y = none ∧ fin r = false))

theorem FR.det {op : BinOp} {x y r s : Nat} (h : FR op x y r) (g : floatBits op .f64 x y = some s) : r = s := by
  rcases h.2 with h | ⟨h, _⟩
  · rw [h] at g; exact Option.some.inj g
  · rw [h] at g; cases g

theorem FR.some {op : BinOp} {x y r : Nat} (h : floatBits op .f64 x y = .some r) : FR op x y r := by
  have := floatBits_wf h
  simp [Lit.wf] at this
  exact ⟨this, Or.inl h⟩
theorem FR.none {op : BinOp} {x y : Nat} (t : Nat) (h : floatBits op .f64 x y = .none) : FR op x y (Question.cut (.nanBits .f64 x y) t) :=
  ⟨(nan_cut x y t).2, Or.inr ⟨h, (nan_cut x y t).1⟩⟩

theorem sum_back {d c : Ieee.Datum} {r : Nat} (h : (d.sum c).map Ieee.double.write = .some r) (hf : fin r = true) : (∃ s m e, d = .number s m e) ∧ ∃ s m e, c = .number s m e := by
  cases d with
  | nan s f => simp [Ieee.Datum.sum] at h
  | infinity s =>
    cases c with
    | nan t f => simp [Ieee.Datum.sum] at h
    | infinity t =>
      simp only [Ieee.Datum.sum] at h
      split at h
      · cases h; rw [write_inf] at hf; cases hf
      · cases h
    | number t m e => simp only [Ieee.Datum.sum] at h; cases h; rw [write_inf] at hf; cases hf
  | number s m e =>
    cases c with
    | nan t f => simp [Ieee.Datum.sum] at h
    | infinity t => simp only [Ieee.Datum.sum] at h; cases h; rw [write_inf] at hf; cases hf
    | number t n j => exact ⟨⟨_, _, _, rfl⟩, ⟨_, _, _, rfl⟩⟩

theorem fin_of_read {x : Nat} {s : Bool} {m : Nat} {e : Int} (h : Ieee.double.read x = .number s m e) : fin x = true := by
  cases hx : fin x
  · rcases read_not hx with ⟨_, g⟩ | ⟨_, _, g⟩ <;> rw [g] at h <;> cases h
  · rfl

theorem add_back {x y r : Nat} (h : floatBits .add .f64 x y = .some r) (hf : fin r = true) : fin x = true ∧ fin y = true := by
  obtain ⟨⟨_, _, _, h1⟩, ⟨_, _, _, h2⟩⟩ := sum_back h hf
  exact ⟨fin_of_read h1, fin_of_read h2⟩
theorem sub_back {x y r : Nat} (h : floatBits .sub .f64 x y = .some r) (hf : fin r = true) : fin x = true ∧ fin y = true := by
  obtain ⟨⟨_, _, _, h1⟩, ⟨s, m, e, h2⟩⟩ := sum_back h hf
  refine ⟨fin_of_read h1, ?_⟩
  cases hy : fin y
  · rcases read_not hy with ⟨_, g⟩ | ⟨_, _, g⟩ <;> (have g' : FloatKind.f64.format.read y = _ := g; rw [g'] at h2; cases h2)
  · rfl

theorem FR.addBack {x y r : Nat} (h : FR .add x y r) (hf : fin r = true) : floatBits .add .f64 x y = .some r ∧ fin x = true ∧ fin y = true := by
  rcases h.2 with h | ⟨_, g⟩
  · exact ⟨h, add_back h hf⟩
  · rw [g] at hf; cases hf
theorem FR.subBack {x y r : Nat} (h : FR .sub x y r) (hf : fin r = true) : floatBits .sub .f64 x y = .some r ∧ fin x = true ∧ fin y = true := by
  rcases h.2 with h | ⟨_, g⟩
  · exact ⟨h, sub_back h hf⟩
  · rw [g] at hf; cases hf

theorem add_some {x y : Nat} (hx : fin x = true) (hy : fin y = true) : ∃ r, floatBits .add .f64 x y = .some r := by
  obtain ⟨s, m, e, h1⟩ := read_fin hx
  obtain ⟨t, n, j, h2⟩ := read_fin hy
  exact ⟨_, show (((Ieee.double.read x).sum (Ieee.double.read y)).map Ieee.double.write) = _ by rw [h1, h2]; rfl⟩

theorem order_self {x : Nat} (h : fin x = true) : FloatKind.f64.format.order x x = .some .eq := by
  obtain ⟨s, m, e, h1⟩ := read_fin h
  show (Ieee.double.read x).order (Ieee.double.read x) = _
  rw [h1]
  simp [Ieee.Datum.order]

theorem run_add (P : Program) (w : World) (t : TypeId) (x y : Nat) (h : floatBits .add .f64 x y = .none) :
    (binOp .add t (.float .f64 x) (.float .f64 y)).run P w = .ok (.float .f64 (Question.cut (.nanBits .f64 x y) (w.tape w.drawn (.nanBits .f64 x y)))) w.drew := by
  have h' : FloatKind.f64.format.add x y = .none := h
  simp [binOp, Op.floatArith, h', Question.forced]
theorem run_sub (P : Program) (w : World) (t : TypeId) (x y : Nat) (h : floatBits .sub .f64 x y = .none) :
    (binOp .sub t (.float .f64 x) (.float .f64 y)).run P w = .ok (.float .f64 (Question.cut (.nanBits .f64 x y) (w.tape w.drawn (.nanBits .f64 x y)))) w.drew := by
  have h' : FloatKind.f64.format.sub x y = .none := h
  simp [binOp, Op.floatArith, h', Question.forced]

/-- The sum of two finite floats and what was lost of it; nothing, where one of both is not finite. -/
def chain (a b : Nat) : Option (Nat × Nat) :=
  match floatBits .add .f64 a b with
  | .none => .none
  | .some s => if fin s then
      match floatBits .sub .f64 s a with
      | .none => .none
      | .some t =>
        match floatBits .sub .f64 s t with
        | .none => .none
        | .some d =>
          match floatBits .sub .f64 a d, floatBits .sub .f64 b t with
          | .some p, .some q =>
            match floatBits .add .f64 p q with
            | .none => .none
            | .some e => if fin e then .some (s, e) else .none
          | _, _ => .none
    else .none

/-- The steps as the machine goes them. -/
def Two (a b s e : Nat) : Prop := ∃ t d p q, FR .add a b s ∧ FR .sub s a t ∧ FR .sub s t d ∧ FR .sub a d p ∧ FR .sub b t q ∧ FR .add p q e

theorem Two.good {a b s e : Nat} (h : Two a b s e) (hs : fin s = true) (he : fin e = true) : chain a b = .some (s, e) := by
  obtain ⟨t, d, p, q, h1, h2, h3, h4, h5, h6⟩ := h
  obtain ⟨g6, fp, fq⟩ := h6.addBack he
  obtain ⟨g5, _, ft⟩ := h5.subBack fq
  obtain ⟨g4, _, fd⟩ := h4.subBack fp
  obtain ⟨g3, _, _⟩ := h3.subBack fd
  obtain ⟨g2, _, _⟩ := h2.subBack ft
  obtain ⟨g1, _, _⟩ := h1.addBack hs
  simp only [chain, g1, g2, g3, g4, g5, g6, hs, he, if_true]

theorem chain_back {a b : Nat} {u : Nat × Nat} (h : chain a b = .some u) : fin u.1 = true ∧ fin u.2 = true ∧ ∀ s e, Two a b s e → s = u.1 ∧ e = u.2 := by
  unfold chain at h
  split at h
  · cases h
  rename_i s g1
  split at h
  · rename_i hs
    split at h
    · cases h
    rename_i t g2
    split at h
    · cases h
    rename_i d g3
    split at h
    · rename_i p q g4 g5
      split at h
      · cases h
      rename_i e g6
      split at h
      · rename_i he
        cases h
        refine ⟨hs, he, fun s' e' hh => ?_⟩
        obtain ⟨t', d', p', q', h1, h2, h3, h4, h5, h6⟩ := hh
        have e1 := h1.det g1
        subst e1
        have e2 := h2.det g2
        subst e2
        have e3 := h3.det g3
        subst e3
        have e4 := h4.det g4
        subst e4
        have e5 := h5.det g5
        subst e5
        exact ⟨rfl, h6.det g6⟩
      · cases h
    · cases h
  · cases h

theorem Two.bad {a b s e : Nat} (h : Two a b s e) (hb : fin s = false ∨ fin e = false) : chain a b = .none := by
  cases hc : chain a b with
  | none => rfl
  | some u =>
    obtain ⟨h1, h2, h3⟩ := chain_back hc
    obtain ⟨e1, e2⟩ := h3 _ _ h
    rcases hb with hb | hb
    · rw [e1, h1] at hb; cases hb
    · rw [e2, h2] at hb; cases hb

/-- The first step alone. -/
theorem chain_over {a b s : Nat} (h : FR .add a b s) (hs : fin s = false) : chain a b = .none := by
  cases hc : floatBits .add .f64 a b with
  | none => simp only [chain, hc]
  | some r =>
    have := h.det hc
    subst this
    simp only [chain, hc, hs]
    rfl

/-- TwoSum: the sum, what was lost, the error. -/
def tsum (a b : Nat) : Nat × Nat × Int :=
  if fin a && fin b then
    match chain a b with
    | .some (s, e) => (s, e, 0)
    | .none => (0, 0, 9)
  else (0, 0, 8)

theorem tsum_fin (a b : Nat) : fin (tsum a b).1 = true ∧ fin (tsum a b).2.1 = true := by
  unfold tsum
  split
  · cases hc : chain a b with
    | none => exact ⟨by decide, by decide⟩
    | some u => exact ⟨(chain_back hc).1, (chain_back hc).2.1⟩
  · exact ⟨by decide, by decide⟩

theorem tsum_ok {a b s e : Nat} (ha : fin a = true) (hb : fin b = true) (h : chain a b = .some (s, e)) : tsum a b = (s, e, 0) := by
  simp only [tsum, ha, hb, h, Bool.and_true, if_true]
theorem tsum_over {a b : Nat} (ha : fin a = true) (hb : fin b = true) (h : chain a b = .none) : tsum a b = (0, 0, 9) := by
  simp only [tsum, ha, hb, h, Bool.and_true, if_true]
theorem tsum_bad {a b : Nat} (h : (fin a && fin b) = false) : tsum a b = (0, 0, 8) := by
  simp only [tsum, h]
  rfl

/-- Sum from a sum, what was lost, and a place on: the two and the fault. -/
def fsumGo : Nat → Nat → Nat → List Nat → Nat × Nat × Int × Int
  | s, c, _, [] => (s, c, 0, 0)
  | s, c, i, x :: l =>
    match chain s x with
    | .none => (0, 0, 9, (i : Int))
    | .some (t, e) =>
      match floatBits .add .f64 c e with
      | .none => (0, 0, 9, (i : Int))
      | .some d => if fin d then fsumGo t d (i + 1) l else (0, 0, 9, (i : Int))

/-- Sum: from a place on with all ahead of it finite. -/
def fsumFrom (l0 : List Nat) : Nat → List Nat → Nat × Nat × Int × Int
  | _, [] => fsumGo 0 0 0 l0
  | i, x :: l => if fin x then fsumFrom l0 (i + 1) l else (0, 0, 8, (i : Int))
def fsum (l : List Nat) : Nat × Nat × Int × Int := fsumFrom l 0 l

theorem drop_step {l : List Nat} {k : Nat} (h : k < l.length) : l.drop k = (l[k]?.getD 0) :: l.drop (k + 1) := by
  rw [List.drop_eq_getElem_cons h, List.getElem?_eq_getElem h]
  rfl

theorem fsumFrom_fin {l0 l : List Nat} {k : Nat} (h : k < l.length) (hf : fin (l[k]?.getD 0) = true) : fsumFrom l0 k (l.drop k) = fsumFrom l0 (k + 1) (l.drop (k + 1)) := by
  rw [drop_step h]
  simp only [fsumFrom, hf, if_true]
theorem fsumFrom_bad {l0 l : List Nat} {k : Nat} (h : k < l.length) (hf : fin (l[k]?.getD 0) = false) : fsumFrom l0 k (l.drop k) = (0, 0, 8, (k : Int)) := by
  rw [drop_step h]
  simp only [fsumFrom, hf]
  rfl
theorem fsumFrom_end {l0 l : List Nat} {k : Nat} (h : l.length ≤ k) : fsumFrom l0 k (l.drop k) = fsumGo 0 0 0 l0 := by
  rw [List.drop_of_length_le h]
  rfl
theorem fsumGo_end {l : List Nat} {s c k : Nat} (h : l.length ≤ k) : fsumGo s c k (l.drop k) = (s, c, 0, 0) := by
  rw [List.drop_of_length_le h]
  rfl
theorem fsumGo_none {l : List Nat} {s c k : Nat} (h : k < l.length) (g : chain s (l[k]?.getD 0) = .none) : fsumGo s c k (l.drop k) = (0, 0, 9, (k : Int)) := by
  rw [drop_step h]
  simp only [fsumGo, g]
theorem fsumGo_over {l : List Nat} {s c k t e d : Nat} (h : k < l.length) (g : chain s (l[k]?.getD 0) = .some (t, e)) (g2 : floatBits .add .f64 c e = .some d) (g3 : fin d = false) : fsumGo s c k (l.drop k) = (0, 0, 9, (k : Int)) := by
  rw [drop_step h]
  simp only [fsumGo, g, g2, g3]
  rfl
theorem fsumGo_step {l : List Nat} {s c k t e d : Nat} (h : k < l.length) (g : chain s (l[k]?.getD 0) = .some (t, e)) (g2 : floatBits .add .f64 c e = .some d) (g3 : fin d = true) : fsumGo s c k (l.drop k) = fsumGo t d (k + 1) (l.drop (k + 1)) := by
  rw [drop_step h]
  simp only [fsumGo, g, g2, g3, if_true]

/-- All of them: finite. -/
def Fins (l : List Nat) : Prop := ∀ j : Nat, fin (l[j]?.getD 0) = true

theorem fin0 : fin 0 = true := by decide

/-- A round of the program's loop. -/
theorem round_good {l : List Nat} {s c k s' e' c' : Nat} (h : k < l.length) (h2 : Two s (l[k]?.getD 0) s' e') (h3 : FR .add c e' c') (f1 : fin s' = true) (f2 : fin c' = true) :
    fsumGo s c k (l.drop k) = fsumGo s' c' (k + 1) (l.drop (k + 1)) := by
  obtain ⟨g, _, fe⟩ := h3.addBack f2
  exact fsumGo_step h (h2.good f1 fe) g f2
theorem round_bad {l : List Nat} {s c k s' e' c' : Nat} (h : k < l.length) (fc : fin c = true) (h2 : Two s (l[k]?.getD 0) s' e') (h3 : FR .add c e' c') (f : fin s' = false ∨ fin c' = false) :
    fsumGo s c k (l.drop k) = (0, 0, 9, (k : Int)) := by
  cases f1 : fin s'
  · exact fsumGo_none h (h2.bad (.inl f1))
  · cases fe : fin e'
    · exact fsumGo_none h (h2.bad (.inr fe))
    · have f2 : fin c' = false := by
        rcases f with f | f
        · rw [f1] at f; cases f
        · exact f
      obtain ⟨r, hr⟩ := add_some fc fe
      have := h3.det hr
      subst this
      exact fsumGo_over h (h2.good f1 fe) hr f2

theorem fsumGo_fin (l : List Nat) : ∀ s c i, fin s = true → fin c = true → fin (fsumGo s c i l).1 = true ∧ fin (fsumGo s c i l).2.1 = true := by
  induction l with
  | nil => intro s c i hs hc; exact ⟨hs, hc⟩
  | cons x l ih =>
    intro s c i hs hc
    simp only [fsumGo]
    split
    · exact ⟨fin0, fin0⟩
    · rename_i t e g
      split
      · exact ⟨fin0, fin0⟩
      · rename_i d g2
        split
        · rename_i hd
          exact ih t d (i + 1) (chain_back g).1 hd
        · exact ⟨fin0, fin0⟩
theorem fsumFrom_good (l0 : List Nat) (l : List Nat) : ∀ i, fin (fsumFrom l0 i l).1 = true ∧ fin (fsumFrom l0 i l).2.1 = true := by
  induction l with
  | nil => intro i; exact fsumGo_fin l0 0 0 0 (by decide) (by decide)
  | cons x l ih =>
    intro i
    simp only [fsumFrom]
    split
    · exact ih (i + 1)
    · exact ⟨fin0, fin0⟩

end Go.Proofs.Ytophmdjdjjgokaa

/- real.finite, real.twoSum, real.TwoSum and the document's Finite, TwoSum, of any floats, by their bits. -/
namespace Go.Proofs.Ytophmdjdjjgokaa
open Go.RowKit
set_option linter.unusedVariables false

theorem fin_int (x : Nat) (hx : x < 18446744073709551616) : (bits .and .u64 ((x : Int) / 4503599627370496) 2047 != 2047) = fin x := by
  have e : bits .and .u64 ((x : Int) / 4503599627370496) 2047 = ((x / 4503599627370496 % 2048 : Nat) : Int) := by
    have e0 : (x : Int) / 4503599627370496 = ((x / 4503599627370496 : Nat) : Int) := by omega
    rw [e0]
    have e1 := u64_and_nat (x / 4503599627370496) 2047 (by omega) (by omega)
    have e2 : x / 4503599627370496 &&& 2047 = x / 4503599627370496 % 2048 := Nat.and_two_pow_sub_one_eq_mod _ 11
    rw [e2] at e1
    exact e1
  rw [e]
  unfold fin
  by_cases h : x / 4503599627370496 % 2048 = 2047
  · rw [h]; rfl
  · rw [bne_iff_ne.2 h, bne_iff_ne.2 (by omega)]

/-- What the machine hands back, and the world behind it. -/
def fval (op : BinOp) (V : World) (x y : Nat) : Nat := match floatBits op .f64 x y with
  | .some r => r
  | .none => Question.cut (.nanBits .f64 x y) (V.tape V.drawn (.nanBits .f64 x y))
def fwld (op : BinOp) (V : World) (x y : Nat) : World := match floatBits op .f64 x y with
  | .some _ => V
  | .none => V.drew
theorem fval_fr (op : BinOp) (V : World) (x y : Nat) : FR op x y (fval op V x y) := by
  cases h : floatBits op .f64 x y with
  | some r => simp only [fval, h]; exact FR.some h
  | none => simp only [fval, h]; exact FR.none _ h
theorem fwld_below (op : BinOp) {B : Nat} {U V : World} (x y : Nat) (h : Below B U V) : Below B U (fwld op V x y) := by
  cases e : floatBits op .f64 x y with
  | some r => simp only [fwld, e]; exact h
  | none => simp only [fwld, e]; exact h.drew
theorem fadd_run (P : Program) (t : TypeId) (V : World) (x y : Nat) : (binOp .add t (.float .f64 x) (.float .f64 y)).run P V = .ok (.float .f64 (fval .add V x y)) (fwld .add V x y) := by
  cases h : floatBits .add .f64 x y with
  | some r => simp only [fval, fwld, h]; exact run_float_arith V _ _ _ _ _ _ h
  | none => simp only [fval, fwld, h]; exact run_add P V t x y h
theorem fsub_run (P : Program) (t : TypeId) (V : World) (x y : Nat) : (binOp .sub t (.float .f64 x) (.float .f64 y)).run P V = .ok (.float .f64 (fval .sub V x y)) (fwld .sub V x y) := by
  cases h : floatBits .sub .f64 x y with
  | some r => simp only [fval, fwld, h]; exact run_float_arith V _ _ _ _ _ _ h
  | none => simp only [fval, fwld, h]; exact run_sub P V t x y h

theorem Two.lt {a b s e : Nat} (h : Two a b s e) : s < 18446744073709551616 ∧ e < 18446744073709551616 := by
  obtain ⟨t, d, p, q, h1, h2, h3, h4, h5, h6⟩ := h
  exact ⟨h1.1, h6.1⟩

/-- What TwoSum tells. -/
def tsumV (r : Nat × Nat × Int) : Value := .tuple #[.float .f64 r.1, .float .f64 r.2.1, .int .i64 r.2.2]

end Go.Proofs.Ytophmdjdjjgokaa

/- The document's TwoSum; slackwaterkit.SameFloat, SameBits of one float twice; lists of floats: CopyFloats, LentFloats, SameFloats, KeptFloats. -/
namespace Go.Proofs.Ytophmdjdjjgokaa
open Go.RowKit
set_option linter.unusedVariables false

theorem fadd_ex (P : Program) (t : TypeId) (V : World) (x y : Nat) : ∃ r V', (binOp .add t (.float .f64 x) (.float .f64 y)).run P V = .ok (.float .f64 r) V' ∧ Hid (FR .add x y r ∧ Below V.heap.size V V') :=
  ⟨_, _, fadd_run P t V x y, fval_fr .add V x y, fwld_below .add x y (Below.refl _ _)⟩
theorem fsub_ex (P : Program) (t : TypeId) (V : World) (x y : Nat) : ∃ r V', (binOp .sub t (.float .f64 x) (.float .f64 y)).run P V = .ok (.float .f64 r) V' ∧ Hid (FR .sub x y r ∧ Below V.heap.size V V') :=
  ⟨_, _, fsub_run P t V x y, fval_fr .sub V x y, fwld_below .sub x y (Below.refl _ _)⟩
theorem b2 {a b c : World} (h : Below a.heap.size a b) (g : Below b.heap.size b c) : Below a.heap.size a c := h.trans (g.mono h.size)

/-- The slice reads as these floats. -/
def RdF (w : World) (B : Nat) (a : Option Addr) (n cap : Nat) (xs : List Nat) : Prop :=
  xs.length = n ∧ (n = 0 ∨ ∃ b o, a = some ⟨b, o, none⟩ ∧ b < B ∧ ∀ j, j < n → w.cell? ⟨b, o + j, none⟩ = some (.float .f64 (xs[j]?.getD 0))) ∧ n ≤ cap ∧ cap ≤ maxLen ∧ (a = none → cap = 0)

theorem RdF.later {w w' : World} {B B' : Nat} {a : Option Addr} {n cap : Nat} {zs : List Nat} (h : RdF w B a n cap zs) (hb : Below B w w') (hB : B ≤ B') : RdF w' B' a n cap zs := by
  obtain ⟨h1, h3, h4⟩ := h
  refine ⟨h1, h3.imp id ?_, h4⟩
  rintro ⟨b, o, rfl, hlt, hc⟩
  exact ⟨b, o, rfl, by omega, fun j hj => (hb.cell (p := ⟨b, o + j, none⟩) hlt).trans (hc j hj)⟩

theorem RdF.front {w : World} {B : Nat} {a : Option Addr} {n cap : Nat} {zs : List Nat} (h : RdF w B a n cap zs) (k : Nat) (hk : k ≤ n) : RdF w B a k cap (zs.take k) := by
  obtain ⟨h1, h3, h4, h5, h6⟩ := h
  refine ⟨by rw [List.length_take]; omega, ?_, by omega, h5, h6⟩
  rcases h3 with h3 | ⟨b, o, ha, hlt, hc⟩
  · left; omega
  · right
    refine ⟨b, o, ha, hlt, fun j hj => ?_⟩
    rw [hc j (by omega), List.getElem?_take, if_pos hj]

theorem RdF.own {w : World} {base e : Nat} {v : Value} {zs : List Nat} {n : Nat} (h : w.ownsRow base e 1 v n (zs.map (Value.float .f64))) :
    ∃ a cap, v = .slice a n cap ∧ RdF w w.heap.size a n cap zs := by
  have hl := h.1
  simp at hl
  rcases h.2 with ⟨rfl, rfl⟩ | ⟨g, cap, cur, rfl, hb, hg, hnc, hcm, hcs, ht⟩
  · exact ⟨none, 0, rfl, by omega, .inl rfl, Nat.le_refl _, Nat.zero_le _, fun _ => rfl⟩
  · refine ⟨_, cap, rfl, by omega, ?_, hnc, hcm, fun h => by simp at h⟩
    right
    refine ⟨g, 0, rfl, ?_, fun j hj => ?_⟩
    · have : w.heap[g]?.isSome := by rw [hg]; rfl
      simpa using this
    · have hc := h.cellAt j (by omega)
      rw [Nat.zero_add, hc, List.getElem?_map, List.getElem?_eq_getElem (by omega)]
      simp

theorem newsF {w : World} {B : Nat} {ad : Addr} {n cap : Nat} {zs : List Nat} (h : RdF w B (some ad) n cap zs) :
    ∀ j v, (zs.map (Value.float .f64))[j]? = some v → w.cell? (ad.add j) = some v := by
  intro j v hj
  have hj1 := (List.getElem?_eq_some_iff.1 hj).1
  have hl := h.1
  simp only [List.length_map] at hj1
  rcases h.2.1 with h0 | ⟨b, o, ha, _, hc⟩
  · omega
  · cases ha
    rw [Addr.add_lit, hc j (by omega), ← hj, List.getElem?_map, List.getElem?_eq_getElem hj1]
    rfl

theorem floats_oneCell (zs : List Nat) : ∀ u ∈ zs.map (Value.float .f64), u.oneCell' = true := by
  intro u hu
  obtain ⟨z, _, rfl⟩ := List.mem_map.1 hu
  rfl

/-- What stands behind a list of floats that is lent: 0.125, 1.125, 2.125. -/
def fmarks (k : Nat) : List Nat := [4593671619917905920, 4607745368753438720, 4611967493404098560].take k
theorem fmark_run (k : Nat) (h : k < 3) (P : Program) (t : TypeId) (V : World) : ∃ r, (binOp .add t (.float .f64 4593671619917905920) (.float .f64 (floatOfInt .f64 (k : Int)))).run P V = .ok (.float .f64 r) V ∧ fmarks (k + 1) = fmarks k ++ [r] := by
  match k, h with
  | 0, _ => exact ⟨4593671619917905920, run_float_arith V _ _ _ _ _ _ (by decide +kernel), rfl⟩
  | 1, _ => exact ⟨4607745368753438720, run_float_arith V _ _ _ _ _ _ (by decide +kernel), rfl⟩
  | 2, _ => exact ⟨4611967493404098560, run_float_arith V _ _ _ _ _ _ (by decide +kernel), rfl⟩

end Go.Proofs.Ytophmdjdjjgokaa

/- real.Sum and the document's Sum, of any list of floats. -/
namespace Go.Proofs.Ytophmdjdjjgokaa
open Go.RowKit
set_option linter.unusedVariables false

/-- A struct's memory. -/
def FBox (w : World) (b t : Nat) (vs : Array Value) : Prop := w.heap[b]? = some (.cells vs t (0, 0))
theorem FBox.cell {w : World} {b t : Nat} {vs : Array Value} (h : FBox w b t vs) (j : Nat) : w.cell? ⟨b, j, none⟩ = vs[j]? := by
  unfold FBox at h
  simp [World.cell?, h]
theorem FBox.free {w : World} {b t : Nat} {vs : Array Value} (h : FBox w b t vs) (j : Nat) : w.frozen? ⟨b, j, none⟩ = false := by
  unfold FBox at h
  simp [World.frozen?, h]
theorem FBox.later {w w' : World} {B b t : Nat} {vs : Array Value} (h : FBox w b t vs) (hb : Below B w w') (hlt : b < B) : FBox w' b t vs := by
  unfold FBox at *
  rw [hb.block b hlt]; exact h
theorem FBox.lt {w : World} {b t : Nat} {vs : Array Value} (h : FBox w b t vs) : b < w.heap.size := by
  unfold FBox at h
  have : w.heap[b]?.isSome := by rw [h]; rfl
  simpa using this
theorem FBox.made (w : World) (t : Nat) (vs : Array Value) : FBox (w.alloc (.cells vs t)) w.heap.size t vs := by
  unfold FBox
  show (w.heap.push _)[w.heap.size]? = _
  rw [Array.getElem?_push, if_pos rfl]
theorem FBox.other {w : World} {b t : Nat} {vs : Array Value} (h : FBox w b t vs) (p : Addr) (v : Value) (hne : b ≠ p.block) : FBox (w.setCell p v) b t vs := by
  unfold FBox at *
  rw [Below.heap_setCell w p v b hne]; exact h
theorem FBox.drewN {w : World} {b t : Nat} {vs : Array Value} (h : FBox w b t vs) (n : Nat) : FBox (w.drewN n) b t vs := h
theorem FBox.set {w : World} {b t : Nat} {vs : Array Value} (h : FBox w b t vs) (j : Nat) (v : Value) : FBox (w.setCell ⟨b, j, none⟩ v) b t (vs.setIfInBounds j v) := by
  unfold FBox at *
  simp only [World.setCell, Array.getElem?_modify, if_pos, h]
  simp

/-- What Sum tells. -/
def sumV (r : Nat × Nat × Int × Int) : Value := .tuple #[.float .f64 r.1, .float .f64 r.2.1, .agg #[.int .i64 r.2.2.1, .int .i64 r.2.2.2]]

/-- Each float has 64 bits. -/
def Wf (xs : List Nat) : Prop := ∀ j : Nat, xs[j]?.getD 0 < 18446744073709551616

theorem fput2 {B : Nat} {a w : World} (h : Below B a w) (b : Nat) (hb : B ≤ b) (v0 v1 : Value) : Below B a ((w.setCell ⟨b, 0, none⟩ v0).setCell ⟨b, 1, none⟩ v1) :=
  (h.setCell (p := ⟨b, 0, none⟩) hb _).setCell (p := ⟨b, 1, none⟩) hb _
theorem fbox_facts {w w' : World} {b t : Nat} {v0 v1 : Value} (h : FBox w b t #[v0, v1]) (hb : Below w.heap.size w w') : w'.cell? ⟨b, 0, none⟩ = some v0 ∧ w'.cell? ⟨b, 1, none⟩ = some v1 ∧ w'.frozen? ⟨b, 0, none⟩ = false ∧ w'.frozen? ⟨b, 1, none⟩ = false := by
  have h' := h.later hb h.lt
  exact ⟨h'.cell 0, h'.cell 1, h'.free 0, h'.free 1⟩

end Go.Proofs.Ytophmdjdjjgokaa

/- package turn: Check, both, back, lowest, of every two numbers. -/
namespace Go.Proofs.Ytophmdjdjjgokaa
open Go.RowKit
set_option linter.unusedVariables false

/-- What a call tells that tells a turn. -/
def tT (p q e : Int) : Value := .tuple #[.agg #[.int .i64 p, .int .i64 q], .int .i64 e]
/-- Part over Whole in lowest terms, or refused. -/
def lowR (p q : Nat) : Int × Int × Int := if q / Nat.gcd p q ≤ 4294967296 then (((p / Nat.gcd p q : Nat) : Int), ((q / Nat.gcd p q : Nat) : Int), 0) else (0, 0, 3)
def tV (x : Int × Int × Int) : Value := tT x.1 x.2.1 x.2.2
def lowV (p q : Nat) : Value := tV (lowR p q)
/-- A turn that may be. -/
def okI (p q : Int) : Prop := 1 ≤ q ∧ q ≤ 4294967296 ∧ 0 ≤ p ∧ p < q ∧ Nat.gcd p.toNat q.toNat = 1
instance (p q : Int) : Decidable (okI p q) := by unfold okI; infer_instance
def chk (p q : Int) : Int := if okI p q then 0 else 180

theorem tw64 (n : Nat) (h : n < 18446744073709551616) : IntKind.u64.wrap (n : Int) = (n : Int) := by rw [IntKind.wrap_u64]; omega

set_option maxHeartbeats 800000 in
set_option maxRecDepth 100000 in
theorem tlowest_any (p q : Nat) (w : World) (hp : p < q) (hq : q < 18446744073709551616) :
    Calls Try.prog 42 #[.int .u64 (p : Int), .int .u64 (q : Int)] w fun e w' => e = .returned (lowV p q) ∧ Below w.heap.size w w' := by
  have HBX : Hid (Below w.heap.size w (w.alloc (.cells #[.int .i64 0, .int .i64 0] 36))) := (Below.refl _ _).alloc (Nat.le_refl _) _
  have HX := hid (FBox.made w 36 #[.int .i64 0, .int .i64 0])
  have HC := hid (fun V => tcommon_any p q V (by omega) hq)
  have hd : 0 < Nat.gcd p q := Nat.gcd_pos_of_pos_right _ (by omega)
  have h1 : p / Nat.gcd p q ≤ p := Nat.div_le_self _ _
  have h2 : q / Nat.gcd p q ≤ q := Nat.div_le_self _ _
  have h3 : p / Nat.gcd p q < q / Nat.gcd p q := Nat.div_lt_div_of_lt_of_dvd (Nat.gcd_dvd_right p q) hp
  obtain ⟨d, hD⟩ : ∃ d, Nat.gcd p q = d := ⟨_, rfl⟩
  have HV1 : Hid (q / d ≤ 4294967296 → lowV p q = tT ((p / d : Nat) : Int) ((q / d : Nat) : Int) 0) := fun h => by unfold lowV lowR; rw [hD, if_pos h]; rfl
  have HV2 : Hid (¬ q / d ≤ 4294967296 → lowV p q = tT 0 0 3) := fun h => by unfold lowV lowR; rw [hD, if_neg h]; rfl
  rw [hD] at HC hd h1 h2 h3
  clear hD
  have x1 : IntKind.u64.wrap ((p : Int) / (d : Int)) = ((p / d : Nat) : Int) := by
    rw [show ((p : Int) / (d : Int)) = ((p / d : Nat) : Int) from rfl]; exact tw64 _ (by omega)
  have x2 : IntKind.u64.wrap ((q : Int) / (d : Int)) = ((q / d : Nat) : Int) := by
    rw [show ((q : Int) / (d : Int)) = ((q / d : Nat) : Int) from rfl]; exact tw64 _ (by omega)
  generalize p / d = P at *
  generalize q / d = Q at *
  have hd' : (d : Int) ≠ 0 := by omega
  go_enter Try.func42, Try.ntmps42
  go_wp2_with fail
  generalize w.alloc (.cells #[.int .i64 0, .int .i64 0] 36) = X at *
  refine Calls.mono (HC.out X) ?_
  rintro e w1 ⟨rfl, hb1⟩
  obtain ⟨r0, r1, f0, f1⟩ := fbox_facts HX.out hb1
  have HB := hid (b2 HBX.out hb1)
  clear hb1
  go_wp2_with fail
  by_cases h4 : Q ≤ 4294967296
  · have HR := hid (HV1.out h4)
    clear HV1 HV2 HC HX HBX
    go_region
    all_goals
      go_wp2_with fail
      refine bodyPost_ret (v := tT (P : Int) (Q : Int) 0) (by simp [results, Try.results42, go_sem, r0, r1, tT]) rfl ?_
      exact ⟨by rw [HR.out], by first | exact fput2 HB.out.drew _ (Nat.le_refl _) _ _ | exact (fput2 HB.out _ (Nat.le_refl _) _ _).drew⟩
  · have HR := hid (HV2.out h4)
    clear HV1 HV2 HC HX HBX
    go_region
    all_goals
      go_wp2_with fail
      refine bodyPost_ret (v := tT 0 0 3) (by simp [results, Try.results42, go_sem, r0, r1, tT]) rfl ?_
      exact ⟨by rw [HR.out], by first | exact fput2 HB.out.drew _ (Nat.le_refl _) _ _ | exact (fput2 HB.out _ (Nat.le_refl _) _ _).drew⟩

set_option maxHeartbeats 800000 in
set_option maxRecDepth 100000 in
theorem tcheck_any (p q : Int) (w : World) (p0 : -9223372036854775808 ≤ p) (p1 : p ≤ 9223372036854775807) (q0 : -9223372036854775808 ≤ q) (q1 : q ≤ 9223372036854775807) :
    Calls Try.prog 41 #[.agg #[.int .i64 p, .int .i64 q]] w fun e w' => e = .returned (.int .i64 (chk p q)) ∧ Below w.heap.size w w' := by
  have hb0 : Below w.heap.size w (w.alloc (.cells #[.int .i64 p, .int .i64 q] 36)) := (Below.refl _ _).alloc (Nat.le_refl _) _
  have HN : Hid (¬ (1 ≤ q ∧ q ≤ 4294967296 ∧ 0 ≤ p ∧ p < q) → chk p q = 180) := fun h => by unfold chk; rw [if_neg]; unfold okI; omega
  have HY : Hid (1 ≤ q ∧ q ≤ 4294967296 ∧ 0 ≤ p ∧ p < q → (Nat.gcd p.toNat q.toNat : Nat) = 1 → chk p q = 0) := fun h g => by unfold chk; rw [if_pos]; unfold okI; omega
  have HY' : Hid (¬ (Nat.gcd p.toNat q.toNat : Nat) = 1 → chk p q = 180) := fun g => by unfold chk; rw [if_neg]; unfold okI; omega
  have HC : Hid (∀ V : World, 0 ≤ p → p < q → q ≤ 4294967296 → Calls Try.prog 60 #[.int .u64 p, .int .u64 q] V fun e w' => e = .returned (.int .u64 (Nat.gcd p.toNat q.toNat : Nat)) ∧ Below V.heap.size V w') := fun V h1 h2 h3 => tcommonI p q V h1 (by omega) (by omega) (by omega)
  obtain ⟨d, hD⟩ : ∃ d, Nat.gcd p.toNat q.toNat = d := ⟨_, rfl⟩
  rw [hD] at HY HY' HC
  clear hD
  go_enter Try.func41, Try.ntmps41
  go_wp2_with fail
  all_goals try (go_ret; exact ⟨ret_int (HN.out (by omega)).symm, hb0⟩)
  refine Calls.mono (HC.out _ (by omega) (by omega) (by omega)) ?_
  rintro e w1 ⟨rfl, hb1⟩
  by_cases h1 : d = 1
  · subst h1
    go_wp2_with fail
    go_ret
    exact ⟨ret_int (HY.out (by omega) (by trivial)).symm, b2 hb0 hb1⟩
  · have h1' : ¬ (d : Int) = 1 := by omega
    go_wp2_with fail
    go_ret
    exact ⟨ret_int (HY'.out h1).symm, b2 hb0 hb1⟩

theorem chk_or (p q : Int) : chk p q = 0 ∧ okI p q ∨ chk p q = 180 ∧ ¬ okI p q := by
  unfold chk
  by_cases h : okI p q
  · rw [if_pos h]; exact .inl ⟨rfl, h⟩
  · rw [if_neg h]; exact .inr ⟨rfl, h⟩
/-- The first one's fault, else the second one's. -/
def chk2 (p q r s : Int) : Int := if okI p q then chk r s else 180
theorem chk2_or (p q r s : Int) : chk2 p q r s = 0 ∧ okI p q ∧ okI r s ∨ chk2 p q r s = 180 ∧ ¬ (okI p q ∧ okI r s) := by
  unfold chk2
  by_cases h : okI p q
  · rw [if_pos h]
    rcases chk_or r s with ⟨g, k⟩ | ⟨g, k⟩
    · exact .inl ⟨g, h, k⟩
    · exact .inr ⟨g, fun x => k x.2⟩
  · rw [if_neg h]; exact .inr ⟨rfl, fun x => h x.1⟩
def in64 (p q : Int) : Prop := (-9223372036854775808 ≤ p ∧ p ≤ 9223372036854775807) ∧ (-9223372036854775808 ≤ q ∧ q ≤ 9223372036854775807)

theorem boxes1 (w : World) (t : Nat) (u : Array Value) : FBox (w.alloc (.cells u t)) w.heap.size t u ∧ Below w.heap.size w (w.alloc (.cells u t)) :=
  ⟨FBox.made _ _ _, (Below.refl _ _).alloc (Nat.le_refl _) _⟩
theorem boxes2 (w : World) (t : Nat) (u v : Array Value) : FBox ((w.alloc (.cells u t)).alloc (.cells v t)) w.heap.size t u ∧ FBox ((w.alloc (.cells u t)).alloc (.cells v t)) (w.heap.size + 1) t v ∧ Below w.heap.size w ((w.alloc (.cells u t)).alloc (.cells v t)) := by
  have a := boxes1 w t u
  have b := boxes1 (w.alloc (.cells u t)) t v
  have es : (w.alloc (.cells u t)).heap.size = w.heap.size + 1 := World.size_alloc _ _
  exact ⟨a.1.later b.2 a.1.lt, es ▸ b.1, b2 a.2 b.2⟩
theorem boxes3 (w : World) (t : Nat) (u v z : Array Value) : FBox (((w.alloc (.cells u t)).alloc (.cells v t)).alloc (.cells z t)) w.heap.size t u ∧ FBox (((w.alloc (.cells u t)).alloc (.cells v t)).alloc (.cells z t)) (w.heap.size + 1) t v ∧ FBox (((w.alloc (.cells u t)).alloc (.cells v t)).alloc (.cells z t)) (w.heap.size + 1 + 1) t z ∧ Below w.heap.size w (((w.alloc (.cells u t)).alloc (.cells v t)).alloc (.cells z t)) := by
  have a := boxes2 w t u v
  have b := boxes1 ((w.alloc (.cells u t)).alloc (.cells v t)) t z
  have es : ((w.alloc (.cells u t)).alloc (.cells v t)).heap.size = w.heap.size + 1 + 1 := by rw [World.size_alloc, World.size_alloc]
  exact ⟨a.1.later b.2 a.1.lt, a.2.1.later b.2 a.2.1.lt, es ▸ b.1, b2 a.2.2 b.2⟩

set_option maxHeartbeats 800000 in
set_option maxRecDepth 100000 in
theorem tboth_any (p q r s : Int) (w : World) (h : in64 p q) (g : in64 r s) :
    Calls Try.prog 44 #[.agg #[.int .i64 p, .int .i64 q], .agg #[.int .i64 r, .int .i64 s]] w fun e w' => e = .returned (.int .i64 (chk2 p q r s)) ∧ Below w.heap.size w w' := by
  have H1 := hid (fun V => tcheck_any p q V h.1.1 h.1.2 h.2.1 h.2.2)
  have H2 := hid (fun V => tcheck_any r s V g.1.1 g.1.2 g.2.1 g.2.2)
  have HX := hid (boxes2 w 36 #[.int .i64 p, .int .i64 q] #[.int .i64 r, .int .i64 s])
  have HC := hid (chk_or p q)
  have HC2 : Hid (okI p q → chk2 p q r s = chk r s) := fun h => by unfold chk2; rw [if_pos h]
  have HC3 : Hid (¬ okI p q → chk2 p q r s = 180) := fun h => by unfold chk2; rw [if_neg h]
  clear h g
  go_enter Try.func44, Try.ntmps44
  go_wp2_with fail
  generalize (w.alloc (.cells #[.int .i64 p, .int .i64 q] 36)).alloc (.cells #[.int .i64 r, .int .i64 s] 36) = X at *
  refine Calls.mono (H1.out _) ?_
  rintro e w1 ⟨rfl, hb1⟩
  obtain ⟨c0, c1, f0, f1⟩ := fbox_facts HX.out.2.1 hb1
  have HB := hid (b2 HX.out.2.2 hb1)
  clear HX hb1
  rcases HC.out with ⟨e, ho⟩ | ⟨e, ho⟩
  · rw [e]
    have HR := hid (HC2.out ho)
    clear HC HC2 HC3 e ho
    go_wp2_with fail
    refine Calls.mono (H2.out _) ?_
    rintro e w2 ⟨rfl, hb2⟩
    have HB := hid (b2 HB.out hb2)
    clear hb2
    go_wp2_with fail
    go_ret
    exact ⟨ret_int HR.out.symm, HB.out⟩
  · rw [e]
    have HR := hid (HC3.out ho)
    clear HC HC2 HC3 e ho
    go_wp2_with fail
    go_ret
    exact ⟨ret_int HR.out.symm, HB.out⟩
end Go.Proofs.Ytophmdjdjjgokaa

/- package turn: back, sum, Add, Sub, Neg, Times, Of: of every turn, every two numbers. -/
namespace Go.Proofs.Ytophmdjdjjgokaa
open Go.RowKit
set_option linter.unusedVariables false

/-- The sum of two turns. -/
def sumR (p q r s : Nat) : Int × Int × Int := lowR ((p * (s / Nat.gcd q s) + r * (q / Nat.gcd q s)) % (q / Nat.gcd q s * s)) (q / Nat.gcd q s * s)

theorem sum_lt {q s : Nat} (hq : 0 < q) (hs : 0 < s) (hq' : q ≤ 4294967296) (hs' : s ≤ 4294967296) : q / Nat.gcd q s * s < 18446744073709551616 ∧ q / Nat.gcd q s * s = q * (s / Nat.gcd q s) ∧ 0 < q / Nat.gcd q s * s := by
  have hd : 0 < Nat.gcd q s := Nat.gcd_pos_of_pos_right _ hs
  obtain ⟨a, ha⟩ := Nat.gcd_dvd_left q s
  obtain ⟨b, hb⟩ := Nat.gcd_dvd_right q s
  have e1 : q / Nat.gcd q s = a := Nat.div_eq_of_eq_mul_right hd ha
  have e2 : s / Nat.gcd q s = b := Nat.div_eq_of_eq_mul_right hd hb
  rw [e1, e2]
  have e3 : a * s = q * b := by rw [hb.trans rfl, show q * b = Nat.gcd q s * a * b by rw [← ha]]; rw [← Nat.mul_assoc, Nat.mul_comm a]
  have a0 : 0 < a := by
    rcases Nat.eq_zero_or_pos a with h | h
    · rw [h] at ha; omega
    · exact h
  refine ⟨?_, e3, Nat.mul_pos a0 hs⟩
  by_cases hqs : q = s
  · subst hqs
    rw [Nat.gcd_self] at ha
    have : a = 1 := Nat.eq_of_mul_eq_mul_left hq (by omega)
    rw [this]; omega
  · have h1 : a ≤ q := by rw [ha]; exact Nat.le_mul_of_pos_left _ hd
    have h2 : a * s ≤ q * s := Nat.mul_le_mul_right _ h1
    have h3 : q * s < 18446744073709551616 := by
      rcases Nat.lt_or_gt_of_ne hqs with h | h
      · have : q * s ≤ 4294967295 * 4294967296 := Nat.mul_le_mul (by omega) hs'
        omega
      · have : q * s ≤ 4294967296 * 4294967295 := Nat.mul_le_mul hq' (by omega)
        omega
    omega

theorem bdrewN {B : Nat} {a w : World} (h : Below B a w) (n : Nat) : Below B a (w.drewN n) := by
  induction n with
  | zero => exact h
  | succ n ih => exact ih.drew

set_option maxHeartbeats 1600000 in
set_option maxRecDepth 100000 in
theorem tsum_any (p q r s : Nat) (w : World) (hp : p < q) (hr : r < s) (hq : q ≤ 4294967296) (hs : s ≤ 4294967296) :
    Calls Try.prog 45 #[.agg #[.int .i64 (p : Int), .int .i64 (q : Int)], .agg #[.int .i64 (r : Int), .int .i64 (s : Int)]] w fun e w' => e = .returned (tV (sumR p q r s)) ∧ Below w.heap.size w w' := by
  have HX := hid (boxes3 w 36 #[.int .i64 (p : Int), .int .i64 (q : Int)] #[.int .i64 (r : Int), .int .i64 (s : Int)] #[.int .i64 0, .int .i64 0])
  obtain ⟨l1, l2, l3⟩ := sum_lt (q := q) (s := s) (by omega) (by omega) hq hs
  have HC := hid (fun V => tcommon_any q s V (by omega) (by omega))
  have hd : 0 < Nat.gcd q s := Nat.gcd_pos_of_pos_right _ (by omega)
  have k1 : q / Nat.gcd q s ≤ q := Nat.div_le_self _ _
  have k2 : s / Nat.gcd q s ≤ s := Nat.div_le_self _ _
  obtain ⟨d, hD⟩ : ∃ d, Nat.gcd q s = d := ⟨_, rfl⟩
  have HV : Hid (sumR p q r s = lowR ((p * (s / d) + r * (q / d)) % (q / d * s)) (q / d * s)) := by show _ = _; unfold sumR; rw [hD]
  rw [hD] at HC l1 l2 l3 hd k1 k2
  clear hD
  have x1 : IntKind.u64.wrap ((q : Int) / (d : Int)) = ((q / d : Nat) : Int) := by
    rw [show ((q : Int) / (d : Int)) = ((q / d : Nat) : Int) from rfl]; exact tw64 _ (by omega)
  have x2 : IntKind.u64.wrap ((s : Int) / (d : Int)) = ((s / d : Nat) : Int) := by
    rw [show ((s : Int) / (d : Int)) = ((s / d : Nat) : Int) from rfl]; exact tw64 _ (by omega)
  generalize q / d = A at *
  generalize s / d = B at *
  have m1 : p * B < A * s := by
    rw [l2]
    have hB : 0 < B := by
      rcases Nat.eq_zero_or_pos B with h | h
      · rw [h] at l2; omega
      · exact h
    exact Nat.mul_lt_mul_of_pos_right hp hB
  have m2 : r * A < A * s := by
    have hA : 0 < A := by
      rcases Nat.eq_zero_or_pos A with h | h
      · rw [h] at l3; omega
      · exact h
    rw [Nat.mul_comm A s]
    exact Nat.mul_lt_mul_of_pos_right hr hA
  have y1 : IntKind.u64.wrap ((A : Int) * (s : Int)) = ((A * s : Nat) : Int) := by rw [← Int.natCast_mul]; exact tw64 _ (by omega)
  have y2 : IntKind.u64.wrap ((p : Int) * (B : Int)) = ((p * B : Nat) : Int) := by rw [← Int.natCast_mul]; exact tw64 _ (by omega)
  have y3 : IntKind.u64.wrap ((r : Int) * (A : Int)) = ((r * A : Nat) : Int) := by rw [← Int.natCast_mul]; exact tw64 _ (by omega)
  generalize A * s = W at *
  generalize p * B = x at *
  generalize r * A = y at *
  have HR := hid (fun V => tround_any x y W V m1 m2 l1)
  have hm : (x + y) % W < W := Nat.mod_lt _ l3
  have HL := hid (fun V => tlowest_any ((x + y) % W) W V hm l1)
  obtain ⟨z, hz⟩ : ∃ z, (x + y) % W = z := ⟨_, rfl⟩
  rw [hz] at HR HL HV
  clear hz hm m1 m2 l2
  have hd' : (d : Int) ≠ 0 := by omega
  go_enter Try.func45, Try.ntmps45
  go_wp2_with fail
  generalize ((w.alloc (.cells #[.int .i64 (p : Int), .int .i64 (q : Int)] 36)).alloc (.cells #[.int .i64 (r : Int), .int .i64 (s : Int)] 36)).alloc (.cells #[.int .i64 0, .int .i64 0] 36) = X at *
  refine Calls.mono (HC.out X) ?_
  rintro e w1 ⟨rfl, hb1⟩
  obtain ⟨c0, c1, f0, f1⟩ := fbox_facts HX.out.1 hb1
  obtain ⟨c2, c3, f2, f3⟩ := fbox_facts HX.out.2.1 hb1
  go_wp2_with fail
  go_quiet (fail)
  go_wp2_with fail
  go_quiet (fail)
  go_wp2_with fail
  go_quiet (fail)
  go_wp2_with fail
  refine Calls.mono (HR.out _) ?_
  rintro e w2 ⟨rfl, rfl⟩
  go_wp2_with fail
  generalize hn : w1.drewN (_ + _ + _) = w2
  have hb1 : Below X.heap.size X w2 := by rw [← hn]; exact bdrewN hb1 _
  clear hn c0 c1 c2 c3 f0 f1 f2 f3
  refine Calls.mono (HL.out _) ?_
  rintro e w3 ⟨rfl, hb3⟩
  obtain ⟨c4, c5, f4, f5⟩ := fbox_facts HX.out.2.2.1 (b2 hb1 hb3)
  have HB := hid (b2 HX.out.2.2.2 (b2 hb1 hb3))
  clear hb1 hb3
  have hv : lowV z W = tV (sumR p q r s) := by rw [HV.out]; rfl
  rw [hv]
  clear hv HV HC HL HR
  obtain ⟨T, hT⟩ : ∃ T, sumR p q r s = T := ⟨_, rfl⟩
  have HT := hid hT
  rw [hT]
  clear hT
  obtain ⟨t1, t2, t3⟩ := T
  rw [show tV (t1, t2, t3) = Value.tuple #[.agg #[.int .i64 t1, .int .i64 t2], .int .i64 t3] from rfl]
  go_wp2_with fail
  refine bodyPost_ret (v := Value.tuple #[.agg #[.int .i64 t1, .int .i64 t2], .int .i64 t3]) (by simp [results, Try.results45, go_sem, c4, c5]) rfl ?_
  exact ⟨by rw [HT.out]; rfl, fput2 HB.out _ (by omega) _ _⟩

/-- What Add tells. -/
def addR (p q r s : Int) : Int × Int × Int := if okI p q ∧ okI r s then sumR p.toNat q.toNat r.toNat s.toNat else (0, 0, 180)

theorem tsumI (p q r s : Int) (w : World) (h : okI p q) (g : okI r s) :
    Calls Try.prog 45 #[.agg #[.int .i64 p, .int .i64 q], .agg #[.int .i64 r, .int .i64 s]] w fun e w' => e = .returned (tV (sumR p.toNat q.toNat r.toNat s.toNat)) ∧ Below w.heap.size w w' := by
  obtain ⟨h1, h2, h3, h4, _⟩ := h
  obtain ⟨g1, g2, g3, g4, _⟩ := g
  obtain ⟨a, rfl⟩ := Int.eq_ofNat_of_zero_le h3
  obtain ⟨b, rfl⟩ := Int.eq_ofNat_of_zero_le (show 0 ≤ q by omega)
  obtain ⟨c, rfl⟩ := Int.eq_ofNat_of_zero_le g3
  obtain ⟨d, rfl⟩ := Int.eq_ofNat_of_zero_le (show 0 ≤ s by omega)
  exact tsum_any a b c d w (by omega) (by omega) (by omega) (by omega)

set_option maxHeartbeats 1600000 in
set_option maxRecDepth 100000 in
theorem tadd_any (p q r s : Int) (w : World) (h : in64 p q) (g : in64 r s) :
    Calls Try.prog 34 #[.agg #[.int .i64 p, .int .i64 q], .agg #[.int .i64 r, .int .i64 s]] w fun e w' => e = .returned (tV (addR p q r s)) ∧ Below w.heap.size w w' := by
  have HX := hid (boxes3 w 36 #[.int .i64 p, .int .i64 q] #[.int .i64 r, .int .i64 s] #[.int .i64 0, .int .i64 0])
  have HC := hid (fun V => tboth_any p q r s V h g)
  have HO := hid (chk2_or p q r s)
  have HV1 : Hid (okI p q ∧ okI r s → addR p q r s = sumR p.toNat q.toNat r.toNat s.toNat) := fun h => by unfold addR; rw [if_pos h]
  have HV2 : Hid (¬ (okI p q ∧ okI r s) → addR p q r s = (0, 0, 180)) := fun h => by unfold addR; rw [if_neg h]
  have HS : Hid (okI p q ∧ okI r s → ∀ V, Calls Try.prog 45 #[.agg #[.int .i64 p, .int .i64 q], .agg #[.int .i64 r, .int .i64 s]] V fun e w' => e = .returned (tV (addR p q r s)) ∧ Below V.heap.size V w') := fun h V => by rw [HV1.out h]; exact tsumI p q r s V h.1 h.2
  clear h g
  go_enter Try.func34, Try.ntmps34
  go_wp2_with fail
  generalize ((w.alloc (.cells #[.int .i64 p, .int .i64 q] 36)).alloc (.cells #[.int .i64 r, .int .i64 s] 36)).alloc (.cells #[.int .i64 0, .int .i64 0] 36) = X at *
  refine Calls.mono (HC.out X) ?_
  rintro e w1 ⟨rfl, hb1⟩
  obtain ⟨c0, c1, f0, f1⟩ := fbox_facts HX.out.1 hb1
  obtain ⟨c2, c3, f2, f3⟩ := fbox_facts HX.out.2.1 hb1
  obtain ⟨c4, c5, f4, f5⟩ := fbox_facts HX.out.2.2.1 hb1
  rcases HO.out with ⟨e, ho⟩ | ⟨e, ho⟩
  · rw [e]
    have HS' := hid (HS.out ho)
    clear HO HV1 HV2 HS e ho HC
    go_wp2_with fail
    refine Calls.mono (HS'.out w1) ?_
    rintro e w2 ⟨rfl, hb2⟩
    clear c0 c1 c2 c3 c4 c5 f0 f1 f2 f3 f4 f5 HS'
    obtain ⟨c4, c5, f4, f5⟩ := fbox_facts HX.out.2.2.1 (b2 hb1 hb2)
    have HB := hid (b2 HX.out.2.2.2 (b2 hb1 hb2))
    clear hb1 hb2 HX
    obtain ⟨T, hT⟩ : ∃ T, addR p q r s = T := ⟨_, rfl⟩
    have HT := hid hT
    rw [hT]
    clear hT
    obtain ⟨t1, t2, t3⟩ := T
    rw [show tV (t1, t2, t3) = Value.tuple #[.agg #[.int .i64 t1, .int .i64 t2], .int .i64 t3] from rfl]
    go_wp2_with fail
    refine bodyPost_ret (v := Value.tuple #[.agg #[.int .i64 t1, .int .i64 t2], .int .i64 t3]) (by simp [results, Try.results34, go_sem, c4, c5]) rfl ?_
    exact ⟨by rw [HT.out]; rfl, fput2 HB.out _ (by omega) _ _⟩
  · rw [e]
    have HR := hid (HV2.out ho)
    have HB := hid (b2 HX.out.2.2.2 hb1)
    clear HO HV1 HV2 HS e ho HC hb1
    go_wp2_with fail
    refine bodyPost_ret (v := Value.tuple #[.agg #[.int .i64 0, .int .i64 0], .int .i64 180]) (by simp [results, Try.results34, go_sem, c4, c5]) rfl ?_
    exact ⟨by rw [HR.out]; rfl, fput2 HB.out _ (by omega) _ _⟩

/-- What Sub tells. -/
def subR (p q r s : Int) : Int × Int × Int := if okI p q ∧ okI r s then addR p q ((-r) % s) s else (0, 0, 180)
theorem gcd_back {p q : Int} (h : okI p q) : okI ((-p) % q) q := by
  obtain ⟨h1, h2, h3, h4, h5⟩ := h
  refine ⟨h1, h2, Int.emod_nonneg _ (by omega), Int.emod_lt_of_pos _ (by omega), ?_⟩
  by_cases h0 : p = 0
  · subst h0; simpa using h5
  · have e : (-p) % q = q - p := by rw [← Int.add_emod_right, Int.emod_eq_of_lt (by omega) (by omega)]; omega
    rw [e]
    have e2 : (q - p).toNat = q.toNat - p.toNat := by omega
    rw [e2, Nat.gcd_self_sub_left (by omega)]; exact h5
end Go.Proofs.Ytophmdjdjjgokaa

/- package turn: Sub, Neg, Times, Of: of every turn, every two numbers. -/
namespace Go.Proofs.Ytophmdjdjjgokaa
open Go.RowKit
set_option linter.unusedVariables false

/-- What Neg tells. -/
def negR (p q : Int) : Int × Int × Int := if okI p q then ((-p) % q, q, 0) else (0, 0, 180)

theorem tlowI (p q : Int) (w : World) (h0 : 0 ≤ p) (h1 : p < q) (h2 : q ≤ 4294967296) :
    Calls Try.prog 42 #[.int .u64 p, .int .u64 q] w fun e w' => e = .returned (tV (lowR p.toNat q.toNat)) ∧ Below w.heap.size w w' := by
  obtain ⟨a, rfl⟩ := Int.eq_ofNat_of_zero_le h0
  obtain ⟨b, rfl⟩ := Int.eq_ofNat_of_zero_le (show 0 ≤ q by omega)
  exact tlowest_any a b w (by omega) (by omega)
theorem twithI (p q : Int) (w : World) (h0 : -9223372036854775808 ≤ p) (h1 : p ≤ 9223372036854775807) (hq : 0 < q) (hq' : q ≤ 4294967296) :
    Calls Try.prog 43 #[.int .i64 p, .int .i64 q] w fun e w' => e = .returned (.int .i64 (p % q)) ∧ w' = w := by
  obtain ⟨b, rfl⟩ := Int.eq_ofNat_of_zero_le (show 0 ≤ q by omega)
  exact twithin_any p b w h0 h1 (by omega) (by omega)

/-- What Times tells. -/
def timesR (p q n : Int) : Int × Int × Int := if okI p q then lowR ((p * n) % q).toNat q.toNat else (0, 0, 180)
theorem prod_in {p q n : Int} (h0 : 0 ≤ p) (h1 : p < q) (h2 : q ≤ 4294967296) (n0 : -2147483648 ≤ n) (n1 : n ≤ 2147483647) : -9223372036854775808 ≤ p * n ∧ p * n ≤ 9223372036854775807 := by
  have a : p * n ≤ p * 2147483647 := Int.mul_le_mul_of_nonneg_left n1 h0
  have b : p * (-2147483648) ≤ p * n := Int.mul_le_mul_of_nonneg_left n0 h0
  omega

set_option maxHeartbeats 1600000 in
set_option maxRecDepth 100000 in
theorem ttimes_any (p q n : Int) (w : World) (h : in64 p q) (n0 : -2147483648 ≤ n) (n1 : n ≤ 2147483647) :
    Calls Try.prog 33 #[.agg #[.int .i64 p, .int .i64 q], .int .i32 n] w fun e w' => e = .returned (tV (timesR p q n)) ∧ Below w.heap.size w w' := by
  have HX := hid (boxes2 w 36 #[.int .i64 p, .int .i64 q] #[.int .i64 0, .int .i64 0])
  have HC := hid (fun V => tcheck_any p q V h.1.1 h.1.2 h.2.1 h.2.2)
  have HO := hid (chk_or p q)
  have HV1 : Hid (okI p q → timesR p q n = lowR ((p * n) % q).toNat q.toNat) := fun h => by unfold timesR; rw [if_pos h]
  have HV2 : Hid (¬ okI p q → timesR p q n = (0, 0, 180)) := fun h => by unfold timesR; rw [if_neg h]
  have HF : Hid (okI p q → (0 < q ∧ q ≤ 4294967296 ∧ 0 ≤ p ∧ p < q) ∧ (-9223372036854775808 ≤ p * n ∧ p * n ≤ 9223372036854775807) ∧ 0 ≤ (p * n) % q ∧ (p * n) % q < q) := fun h => ⟨⟨by have := h.1; omega, h.2.1, h.2.2.1, h.2.2.2.1⟩, prod_in h.2.2.1 h.2.2.2.1 h.2.1 n0 n1, Int.emod_nonneg _ (by have := h.1; omega), Int.emod_lt_of_pos _ (by have := h.1; omega)⟩
  clear h
  go_enter Try.func33, Try.ntmps33
  go_wp2_with fail
  generalize (w.alloc (.cells #[.int .i64 p, .int .i64 q] 36)).alloc (.cells #[.int .i64 0, .int .i64 0] 36) = X at *
  refine Calls.mono (HC.out X) ?_
  rintro e w1 ⟨rfl, hb1⟩
  obtain ⟨c0, c1, f0, f1⟩ := fbox_facts HX.out.1 hb1
  obtain ⟨c2, c3, f2, f3⟩ := fbox_facts HX.out.2.1 hb1
  rcases HO.out with ⟨e, ho⟩ | ⟨e, ho⟩
  · rw [e]
    have HR := hid (HV1.out ho)
    obtain ⟨⟨g1, g2, g3, g4⟩, ⟨g5, g6⟩, g7, g8⟩ := HF.out ho
    clear HO HV1 HV2 HF e ho HC
    clear c0 c1 c2 c3 f0 f1 f2 f3
    have HF : Hid (∀ V, Below X.heap.size X V → V.cell? ⟨w.heap.size, 0, none⟩ = some (.int .i64 p) ∧ V.cell? ⟨w.heap.size, 1, none⟩ = some (.int .i64 q) ∧ V.cell? ⟨w.heap.size + 1, 0, none⟩ = some (.int .i64 0) ∧ V.cell? ⟨w.heap.size + 1, 1, none⟩ = some (.int .i64 0) ∧ V.frozen? ⟨w.heap.size + 1, 0, none⟩ = false ∧ V.frozen? ⟨w.heap.size + 1, 1, none⟩ = false) := fun V hv => by
      obtain ⟨c0, c1, _, _⟩ := fbox_facts HX.out.1 hv
      obtain ⟨c2, c3, f2, f3⟩ := fbox_facts HX.out.2.1 hv
      exact ⟨c0, c1, c2, c3, f2, f3⟩
    obtain ⟨T, hT⟩ : ∃ T, timesR p q n = T := ⟨_, rfl⟩
    have HT := hid hT
    rw [hT] at HR
    clear hT
    obtain ⟨t1, t2, t3⟩ := T
    obtain ⟨c0, c1, c2, c3, f2, f3⟩ := HF.out _ hb1
    have hd0 := hid hb1.drew
    have H1 := hid (fun V => twithI _ q V g5 g6 g1 g2)
    have H2 : Hid (∀ ww, Below X.heap.size X ww → Calls Try.prog 42 #[.int .u64 ((p * n) % q), .int .u64 q] ww fun e w' => e = .returned (.tuple #[.agg #[.int .i64 t1, .int .i64 t2], .int .i64 t3]) ∧ (w'.cell? ⟨w.heap.size, 0, none⟩ = some (.int .i64 p) ∧ w'.cell? ⟨w.heap.size, 1, none⟩ = some (.int .i64 q) ∧ w'.cell? ⟨w.heap.size + 1, 0, none⟩ = some (.int .i64 0) ∧ w'.cell? ⟨w.heap.size + 1, 1, none⟩ = some (.int .i64 0) ∧ w'.frozen? ⟨w.heap.size + 1, 0, none⟩ = false ∧ w'.frozen? ⟨w.heap.size + 1, 1, none⟩ = false) ∧ Below X.heap.size X w') := fun ww hv => by
      refine Calls.mono (tlowI _ q ww g7 g8 g2) ?_
      rintro e w' ⟨rfl, h⟩
      exact ⟨by rw [← HR.out]; rfl, HF.out _ (b2 hv h), b2 hv h⟩
    have hw0 : IntKind.i64.wrap n = n := by rw [IntKind.wrap_i64]; omega
    have hw1 : IntKind.i64.wrap (p * n) = p * n := by rw [IntKind.wrap_i64]; omega
    have hw2 : IntKind.u64.wrap ((p * n) % q) = (p * n) % q := by rw [IntKind.wrap_u64]; omega
    have hw3 : IntKind.u64.wrap q = q := by rw [IntKind.wrap_u64]; omega
    clear HR HF
    go_wp2_with fail
    go_region_with (first
        | (go_at_call 42; with_reducible refine Calls.mono (H2.out _ hd0.out) ?_; rintro e w3 ⟨rfl, ⟨c0, c1, c2, c3, f2, f3⟩, hb3⟩)
        | (go_at_call 42; with_reducible refine Calls.mono (H2.out _ hb1) ?_; rintro e w3 ⟨rfl, ⟨c0, c1, c2, c3, f2, f3⟩, hb3⟩)
        | (go_at_call 43; with_reducible refine Calls.mono (H1.out _) ?_; rintro e w2 ⟨rfl, rfl⟩))
    all_goals
      have HB := hid (b2 HX.out.2.2 hb3)
      clear hb1 hb3 HX H1 H2 hd0
      go_wp2_with fail
      refine bodyPost_ret (v := Value.tuple #[.agg #[.int .i64 t1, .int .i64 t2], .int .i64 t3]) (by simp [results, Try.results33, go_sem, c2, c3]) rfl ?_
      exact ⟨by rw [HT.out]; rfl, by first | exact fput2 HB.out _ (by omega) _ _ | exact (fput2 HB.out _ (by omega) _ _).drew⟩
  · rw [e]
    have HR := hid (HV2.out ho)
    have HB := hid (b2 HX.out.2.2 hb1)
    clear HO HV1 HV2 HF e ho HC hb1
    go_wp2_with fail
    refine bodyPost_ret (v := Value.tuple #[.agg #[.int .i64 0, .int .i64 0], .int .i64 180]) (by simp [results, Try.results33, go_sem, c2, c3]) rfl ?_
    exact ⟨by rw [HR.out]; rfl, fput2 HB.out _ (by omega) _ _⟩

/-- What Of tells. -/
def ofR (p q : Int) : Int × Int × Int := if q = 0 then (0, 0, 7) else if q < 0 ∨ 4294967296 < q then (0, 0, 2) else lowR (p % q).toNat q.toNat

set_option maxHeartbeats 1600000 in
set_option maxRecDepth 100000 in
theorem tof_any (p q : Int) (w : World) (h : in64 p q) :
    Calls Try.prog 36 #[.int .i64 p, .int .i64 q] w fun e w' => e = .returned (tV (ofR p q)) ∧ Below w.heap.size w w' := by
  have HX := hid (boxes1 w 36 #[.int .i64 0, .int .i64 0])
  obtain ⟨c4, c5, f4, f5⟩ := fbox_facts HX.out.1 (Below.refl _ _)
  obtain ⟨⟨p0, p1⟩, q0, q1⟩ := h
  by_cases h0 : q = 0
  · subst h0
    have HR : Hid (ofR p 0 = (0, 0, 7)) := by show _ = _; unfold ofR; rw [if_pos rfl]
    go_enter Try.func36, Try.ntmps36
    go_wp2_with fail
    refine bodyPost_ret (v := Value.tuple #[.agg #[.int .i64 0, .int .i64 0], .int .i64 7]) (by simp [results, Try.results36, go_sem, c4, c5]) rfl ?_
    exact ⟨by rw [HR.out]; rfl, HX.out.2⟩
  · by_cases h1 : q < 0 ∨ 4294967296 < q
    · have HR : Hid (ofR p q = (0, 0, 2)) := by show _ = _; unfold ofR; rw [if_neg h0, if_pos h1]
      go_enter Try.func36, Try.ntmps36
      go_wp2_with fail
      all_goals
        refine bodyPost_ret (v := Value.tuple #[.agg #[.int .i64 0, .int .i64 0], .int .i64 2]) (by simp [results, Try.results36, go_sem, c4, c5]) rfl ?_
        exact ⟨by rw [HR.out]; rfl, HX.out.2⟩
    · have HR : Hid (ofR p q = lowR (p % q).toNat q.toNat) := by show _ = _; unfold ofR; rw [if_neg h0, if_neg h1]
      have g1 : 0 < q := by omega
      have g2 : q ≤ 4294967296 := by omega
      have g7 : 0 ≤ p % q := Int.emod_nonneg _ h0
      have g8 : p % q < q := Int.emod_lt_of_pos _ g1
      have h1' : ¬ q < 0 := by omega
      clear h1
      go_enter Try.func36, Try.ntmps36
      go_wp2_with fail
      refine Calls.mono (twithI _ q _ p0 p1 g1 g2) ?_
      rintro e w2 ⟨rfl, rfl⟩
      go_wp2_with fail
      refine Calls.mono (tlowI _ q _ g7 g8 g2) ?_
      rintro e w3 ⟨rfl, hb2⟩
      clear c4 c5 f4 f5
      obtain ⟨c2, c3, f2, f3⟩ := fbox_facts HX.out.1 hb2
      have HB := hid (b2 HX.out.2 hb2)
      clear hb2 HX
      rw [← HR.out]
      obtain ⟨T, hT⟩ : ∃ T, ofR p q = T := ⟨_, rfl⟩
      have HT := hid hT
      rw [hT]
      clear hT HR
      obtain ⟨t1, t2, t3⟩ := T
      rw [show tV (t1, t2, t3) = Value.tuple #[.agg #[.int .i64 t1, .int .i64 t2], .int .i64 t3] from rfl]
      go_wp2_with fail
      refine bodyPost_ret (v := Value.tuple #[.agg #[.int .i64 t1, .int .i64 t2], .int .i64 t3]) (by simp [results, Try.results36, go_sem, c2, c3]) rfl ?_
      exact ⟨by rw [HT.out]; rfl, fput2 HB.out _ (Nat.le_refl _) _ _⟩
end Go.Proofs.Ytophmdjdjjgokaa

/- Turns are a group: sums, opposites, multiples of sizes, whole turns left out. Nothing here speaks of the program. -/
namespace Go.Proofs.Ytophmdjdjjgokaa
open Go.RowKit
set_option linter.unusedVariables false

/-- A size in lowest terms, or refused. -/
def canon (r : Rat) : Int × Int × Int := if r.den ≤ 4294967296 then (r.num, (r.den : Int), 0) else (0, 0, 3)

theorem frac_bounds (x : Rat) : 0 ≤ frac x ∧ frac x < 1 := by
  unfold frac
  have a := Rat.floor_le x
  have b := Rat.lt_floor_add_one x
  rw [Rat.intCast_add] at b
  constructor
  · grind
  · have : (((1 : Int) : Rat)) = 1 := rfl
    grind
theorem frac_self {x : Rat} (h0 : 0 ≤ x) (h1 : x < 1) : frac x = x := frac_unique 0 (by simp; grind) h0 h1
theorem frac_add_frac (x y : Rat) : frac (x + frac y) = frac (x + y) := by
  have e : x + y = (x + frac y) + (y.floor : Rat) := by unfold frac; grind
  rw [e, frac_add_int]
theorem frac_frac_add (x y : Rat) : frac (frac x + y) = frac (x + y) := by
  rw [Rat.add_comm, frac_add_frac, Rat.add_comm]

theorem lowR_canon (p q : Nat) (hq : 0 < q) : lowR p q = canon (mkRat p q) := by
  obtain ⟨a, b⟩ := mkRat_nd p q hq
  unfold lowR canon
  rw [a, b]

theorem mkRat_unit (z : Int) (q : Nat) (hq : 0 < q) (h0 : 0 ≤ z) (h1 : z < q) : 0 ≤ mkRat z q ∧ mkRat z q < 1 := by
  rw [Rat.mkRat_eq_div]
  have hq' : (0 : Rat) < (q : Rat) := by exact_mod_cast hq
  have h0' : (0 : Rat) ≤ (z : Rat) := by exact_mod_cast h0
  have h1' : (z : Rat) < ((q : Int) : Rat) := by exact_mod_cast h1
  have e : (((q : Int) : Rat)) = (q : Rat) := rfl
  rw [e] at h1'
  constructor
  · refine Rat.not_lt.1 fun h => ?_
    rw [Rat.div_lt_iff hq'] at h; grind
  · rw [Rat.div_lt_iff hq']; grind

/-- What is left of whole turns. -/
theorem mkRat_mod (z : Int) (q : Nat) (hq : 0 < q) : mkRat (z % q) q = frac (mkRat z q) := by
  have hb := mkRat_unit (z % q) q hq (Int.emod_nonneg _ (by omega)) (Int.emod_lt_of_pos _ (by omega))
  refine (frac_unique (z / q) ?_ hb.1 hb.2).symm
  have hq' : ((q : Rat)) ≠ 0 := by
    intro h; have : q = 0 := by exact_mod_cast h
    omega
  rw [Rat.mkRat_eq_div, Rat.mkRat_eq_div]
  have e : (z : Rat) = ((z % q : Int) : Rat) + ((z / q : Int) : Rat) * (q : Rat) := by
    have := Int.emod_add_mul_ediv z q
    have e2 : ((((z % q) + q * (z / q) : Int)) : Rat) = (z : Rat) := by rw [this]
    rw [Rat.intCast_add, Rat.intCast_mul] at e2
    have e3 : (((q : Int) : Rat)) = (q : Rat) := rfl
    rw [e3] at e2
    grind
  rw [e]
  grind

/-- A turn's size. -/
def vI (p q : Int) : Rat := mkRat p q.toNat

theorem vI_nd {p q : Int} (h : okI p q) : (vI p q).num = p ∧ ((vI p q).den : Int) = q ∧ 0 ≤ vI p q ∧ vI p q < 1 := by
  obtain ⟨h1, h2, h3, h4, h5⟩ := h
  obtain ⟨a, rfl⟩ := Int.eq_ofNat_of_zero_le h3
  obtain ⟨b, rfl⟩ := Int.eq_ofNat_of_zero_le (show 0 ≤ q by omega)
  have e := mkRat_nd a b (by omega)
  simp only [Int.toNat_natCast] at h5
  rw [h5, Nat.div_one, Nat.div_one] at e
  unfold vI
  simp only [Int.toNat_natCast]
  have u := mkRat_unit a b (by omega) (by omega) (by omega)
  exact ⟨e.1, by rw [e.2], u.1, u.2⟩
theorem canon_vI {p q : Int} (h : okI p q) : canon (vI p q) = (p, q, 0) := by
  obtain ⟨a, b, _, _⟩ := vI_nd h
  have := h.2.1
  unfold canon
  rw [if_pos (by omega), a, b]
theorem canon_ok {r : Rat} (h0 : 0 ≤ r) (h1 : r < 1) (hd : r.den ≤ 4294967296) : okI r.num r.den ∧ vI r.num r.den = r := by
  have hn : 0 ≤ r.num := Rat.num_nonneg.2 h0
  have hdp := r.den_pos
  have hl : r.num < (r.den : Int) := by
    have h2 : mkRat r.num r.den < 1 := by rw [Rat.mkRat_self]; exact h1
    have hq' : (0 : Rat) < (r.den : Rat) := by exact_mod_cast hdp
    rw [Rat.mkRat_eq_div, Rat.div_lt_iff hq'] at h2
    have e : (r.num : Rat) < (((r.den : Int)) : Rat) := by
      have e3 : ((((r.den : Int)) : Rat)) = (r.den : Rat) := rfl
      rw [e3]; grind
    exact_mod_cast e
  refine ⟨⟨by omega, by omega, hn, hl, ?_⟩, ?_⟩
  · have := r.reduced
    unfold Nat.Coprime at this
    rw [← this]
    simp only [Int.toNat_natCast]
    congr 1
    omega
  · unfold vI; simp only [Int.toNat_natCast]; exact Rat.mkRat_self r
theorem canon_cases (r : Rat) : (canon r = (r.num, (r.den : Int), 0) ∧ r.den ≤ 4294967296) ∨ (canon r = (0, 0, 3) ∧ ¬ r.den ≤ 4294967296) := by
  unfold canon
  by_cases h : r.den ≤ 4294967296
  · rw [if_pos h]; exact .inl ⟨rfl, h⟩
  · rw [if_neg h]; exact .inr ⟨rfl, h⟩

theorem sumR_canon {p q r s : Nat} (hq : 0 < q) (hs : 0 < s) : sumR p q r s = canon (frac (mkRat p q + mkRat r s)) := by
  have hd : 0 < Nat.gcd q s := Nat.gcd_pos_of_pos_right _ hs
  obtain ⟨a, ha⟩ := Nat.gcd_dvd_left q s
  obtain ⟨b, hb⟩ := Nat.gcd_dvd_right q s
  have e1 : q / Nat.gcd q s = a := Nat.div_eq_of_eq_mul_right hd ha
  have e2 : s / Nat.gcd q s = b := Nat.div_eq_of_eq_mul_right hd hb
  have a0 : 0 < a := by
    rcases Nat.eq_zero_or_pos a with h | h
    · rw [h] at ha; omega
    · exact h
  unfold sumR
  rw [e1, e2]
  have hW : 0 < a * s := Nat.mul_pos a0 hs
  rw [lowR_canon _ _ hW]
  congr 1
  have h1 := mkRat_mod ((p * b + r * a : Nat) : Int) (a * s) hW
  have h2 : (((p * b + r * a : Nat) : Int)) % ((a * s : Nat) : Int) = (((p * b + r * a) % (a * s) : Nat) : Int) := rfl
  rw [h2] at h1
  rw [h1]
  congr 1
  rw [Rat.mkRat_add_mkRat _ _ (by omega) (by omega)]
  generalize hD : Nat.gcd q s = d at *
  have e3 : ((p : Int) * (s : Int) + (r : Int) * (q : Int)) = (((p * b + r * a : Nat) : Int)) * (d : Int) := by
    rw [ha, hb]; push_cast; grind
  have e4 : q * s = (a * s) * d := by rw [ha]; grind
  rw [e3, e4, Rat.mkRat_mul_right (by omega)]

theorem nat_of {p q : Int} (h : okI p q) : ∃ a b : Nat, p = a ∧ q = b ∧ 0 < b := by
  obtain ⟨h1, h2, h3, h4, h5⟩ := h
  obtain ⟨a, rfl⟩ := Int.eq_ofNat_of_zero_le h3
  obtain ⟨b, rfl⟩ := Int.eq_ofNat_of_zero_le (show 0 ≤ q by omega)
  exact ⟨a, b, rfl, rfl, by omega⟩
theorem addR_canon {p q r s : Int} (h : okI p q) (g : okI r s) : addR p q r s = canon (frac (vI p q + vI r s)) := by
  unfold addR
  rw [if_pos ⟨h, g⟩]
  obtain ⟨a, b, rfl, rfl, hb⟩ := nat_of h
  obtain ⟨c, d, rfl, rfl, hd⟩ := nat_of g
  unfold vI
  simp only [Int.toNat_natCast]
  exact sumR_canon hb hd
theorem vI_neg {p q : Int} (h : okI p q) : vI ((-p) % q) q = frac (-(vI p q)) := by
  obtain ⟨a, b, rfl, rfl, hb⟩ := nat_of h
  unfold vI
  simp only [Int.toNat_natCast]
  rw [mkRat_mod _ _ hb, Rat.neg_mkRat]
theorem times_v {p q : Int} (h : okI p q) (n : Int) : mkRat ((p * n) % q) q.toNat = frac ((n : Rat) * vI p q) := by
  obtain ⟨a, b, rfl, rfl, hb⟩ := nat_of h
  unfold vI
  simp only [Int.toNat_natCast]
  rw [mkRat_mod _ _ hb]
  congr 1
  rw [Rat.mkRat_eq_div, Rat.mkRat_eq_div, Rat.intCast_mul]
  grind
theorem timesR_canon {p q : Int} (h : okI p q) (n : Int) : timesR p q n = canon (frac ((n : Rat) * vI p q)) := by
  unfold timesR
  rw [if_pos h, ← times_v h]
  have hq : 0 < q.toNat := by have := h.1; omega
  rw [lowR_canon _ _ hq]
  congr 2
  have := Int.emod_nonneg (p * n) (show q ≠ 0 by have := h.1; omega)
  omega
theorem times_den {p q : Int} (h : okI p q) (n : Int) : (frac ((n : Rat) * vI p q)).den ≤ 4294967296 := by
  rw [← times_v h, Rat.den_mkRat]
  have := h.2.1
  split
  · omega
  · exact Nat.le_trans (Nat.div_le_self _ _) (by omega)

/-- Sums in any order. -/
theorem add_comm' {p q r s : Int} (h : okI p q) (g : okI r s) : addR p q r s = addR r s p q := by
  rw [addR_canon h g, addR_canon g h, Rat.add_comm]
theorem add_told {p q r s : Int} (h : okI p q) (g : okI r s) (e : (addR p q r s).2.2 = 0) : okI (addR p q r s).1 (addR p q r s).2.1 ∧ vI (addR p q r s).1 (addR p q r s).2.1 = frac (vI p q + vI r s) := by
  rw [addR_canon h g] at e ⊢
  have b := frac_bounds (vI p q + vI r s)
  rcases canon_cases (frac (vI p q + vI r s)) with ⟨e1, hd⟩ | ⟨e1, _⟩
  · rw [e1]; exact canon_ok b.1 b.2 hd
  · rw [e1] at e; exact absurd e (by decide)
theorem add_assoc' {p q r s t u : Int} (h : okI p q) (g : okI r s) (k : okI t u) (e : (addR p q r s).2.2 = 0) (f : (addR r s t u).2.2 = 0) : addR (addR p q r s).1 (addR p q r s).2.1 t u = addR p q (addR r s t u).1 (addR r s t u).2.1 := by
  obtain ⟨o1, v1⟩ := add_told h g e
  obtain ⟨o2, v2⟩ := add_told g k f
  rw [addR_canon o1 k, addR_canon h o2, v1, v2, frac_frac_add, frac_add_frac, Rat.add_assoc]
theorem sub_back' {p q r s : Int} (h : okI p q) (g : okI r s) (e : (addR p q r s).2.2 = 0) : subR (addR p q r s).1 (addR p q r s).2.1 r s = (p, q, 0) := by
  obtain ⟨o1, v1⟩ := add_told h g e
  unfold subR
  rw [if_pos ⟨o1, g⟩, addR_canon o1 (gcd_back g), v1, vI_neg g, frac_frac_add, frac_add_frac]
  have e2 : vI p q + vI r s + -vI r s = vI p q := by grind
  obtain ⟨_, _, b0, b1⟩ := vI_nd h
  rw [e2, frac_self b0 b1, canon_vI h]
theorem ok01 : okI 0 1 := ⟨by decide, by decide, by decide, by decide, by decide⟩
theorem v01 : vI 0 1 = 0 := by unfold vI; simp
theorem neg_zero' {p q : Int} (h : okI p q) : negR p q = ((-p) % q, q, 0) ∧ addR p q ((-p) % q) q = (0, 1, 0) := by
  refine ⟨by unfold negR; rw [if_pos h], ?_⟩
  rw [addR_canon h (gcd_back h), vI_neg h, frac_add_frac]
  have e2 : vI p q + -vI p q = 0 := by grind
  rw [e2, frac_self (Rat.le_refl) (by decide), ← v01, canon_vI ok01]
/-- A turn added again and again. -/
def iterR (p q : Int) (i : Nat) : Int × Int × Int := canon (frac (((i : Int) : Rat) * vI p q))
theorem iter_ok {p q : Int} (h : okI p q) (i : Nat) : (iterR p q i).2.2 = 0 ∧ okI (iterR p q i).1 (iterR p q i).2.1 ∧ vI (iterR p q i).1 (iterR p q i).2.1 = frac (((i : Int) : Rat) * vI p q) := by
  have b := frac_bounds (((i : Int) : Rat) * vI p q)
  have hd := times_den h (i : Int)
  unfold iterR
  rcases canon_cases (frac (((i : Int) : Rat) * vI p q)) with ⟨e1, hd⟩ | ⟨e1, hn⟩
  · rw [e1]; exact ⟨rfl, canon_ok b.1 b.2 hd⟩
  · exact absurd hd hn
theorem iter_zero (p q : Int) : iterR p q 0 = (0, 1, 0) := by
  unfold iterR
  have e : (((0 : Nat) : Int) : Rat) * vI p q = 0 := by simp
  rw [e, frac_self (Rat.le_refl) (by decide), ← v01, canon_vI ok01]
theorem iter_succ {p q : Int} (h : okI p q) (i : Nat) : addR (iterR p q i).1 (iterR p q i).2.1 p q = iterR p q (i + 1) := by
  obtain ⟨_, o, v⟩ := iter_ok h i
  rw [addR_canon o h, v, frac_frac_add]
  unfold iterR
  congr 2
  have e : (((i + 1 : Nat) : Int) : Rat) = ((i : Int) : Rat) + 1 := by
    rw [Int.natCast_add, Rat.intCast_add]; rfl
  rw [e]; grind
theorem times_iter {p q : Int} (h : okI p q) (n : Nat) : timesR p q (n : Int) = iterR p q n := timesR_canon h n

end Go.Proofs.Ytophmdjdjjgokaa

/- The calendar: days of years and months, the date of a day, no program. -/
namespace Go.Proofs.Ytophmdjdjjgokaa
set_option linter.unusedVariables false

def lp (y : Nat) : Bool := (y % 4 == 0 && y % 100 != 0) || y % 400 == 0
def yd (y : Nat) : Nat := if lp y then 366 else 365
def md (y m : Nat) : Nat := if m = 2 then (if lp y then 29 else 28) else if m = 4 ∨ m = 6 ∨ m = 9 ∨ m = 11 then 30 else if 1 ≤ m ∧ m ≤ 12 then 31 else 0
/-- The days of the first k years. -/
def yT : Nat → Nat
  | 0 => 0
  | k + 1 => yT k + yd (2000 + k)
/-- The days of a year's first j months. -/
def mT (y : Nat) : Nat → Nat
  | 0 => 0
  | j + 1 => mT y j + md y (j + 1)
/-- The day n is the day r (from 0 on) of the month j (from 0 on) of the year 2000 + k. -/
def IsD (n k j r : Nat) : Prop := yT k + mT (2000 + k) j + r = n ∧ j < 12 ∧ r < md (2000 + k) (j + 1)

theorem yd_or (y : Nat) : yd y = 365 ∨ yd y = 366 := by unfold yd; cases lp y <;> simp
theorem md_le (y m : Nat) : md y m ≤ 31 := by
  unfold md
  cases lp y <;> simp <;> repeat' split
  all_goals omega
theorem md_pos (y m : Nat) (h : 1 ≤ m) (h' : m ≤ 12) : 28 ≤ md y m := by
  unfold md
  cases lp y <;> simp <;> repeat' split
  all_goals omega
theorem md_none (y m : Nat) (h : ¬ (1 ≤ m ∧ m ≤ 12)) : md y m = 0 := by
  unfold md
  rw [if_neg (by omega), if_neg (by omega), if_neg h]
theorem mT12 (y : Nat) : mT y 12 = yd y := by
  unfold yd
  simp only [mT, md]
  cases lp y <;> simp
theorem mT_le (y : Nat) : ∀ j i, j ≤ i → mT y j ≤ mT y i
  | j, 0, h => by
    obtain rfl : j = 0 := by omega
    exact Nat.le_refl _
  | j, i + 1, h => by
    by_cases e : j = i + 1
    · rw [e]; exact Nat.le_refl _
    · have := mT_le y j i (by omega)
      show _ ≤ mT y i + _
      omega
theorem yT_le : ∀ j i, j ≤ i → yT j ≤ yT i
  | j, 0, h => by
    obtain rfl : j = 0 := by omega
    exact Nat.le_refl _
  | j, i + 1, h => by
    by_cases e : j = i + 1
    · rw [e]; exact Nat.le_refl _
    · have := yT_le j i (by omega)
      show _ ≤ yT i + _
      omega
theorem yT_365 : ∀ k, 365 * k ≤ yT k ∧ yT k ≤ 366 * k
  | 0 => by simp [yT]
  | k + 1 => by
    have := yT_365 k
    rcases yd_or (2000 + k) with h | h <;> simp only [yT, h] <;> omega
theorem yT119 : yT 119 = 43464 := by decide +kernel
theorem yT120 : yT 120 = 43829 := by decide +kernel
theorem IsD.in_year {n k j r : Nat} (h : IsD n k j r) : yT k ≤ n ∧ n < yT (k + 1) := by
  obtain ⟨h1, h2, h3⟩ := h
  have a : mT (2000 + k) (j + 1) = mT (2000 + k) j + md (2000 + k) (j + 1) := rfl
  have b := mT_le (2000 + k) (j + 1) 12 (by omega)
  have c := mT12 (2000 + k)
  have d : yT (k + 1) = yT k + yd (2000 + k) := rfl
  omega
theorem IsD.only {n k j r k' j' r' : Nat} (h : IsD n k j r) (g : IsD n k' j' r') : k = k' ∧ j = j' ∧ r = r' := by
  have a := h.in_year
  have b := g.in_year
  have e : k = k' := by
    rcases Nat.lt_trichotomy k k' with c | c | c
    · have := yT_le (k + 1) k' (by omega); omega
    · exact c
    · have := yT_le (k' + 1) k (by omega); omega
  subst e
  obtain ⟨h1, h2, h3⟩ := h
  obtain ⟨g1, g2, g3⟩ := g
  have a1 : mT (2000 + k) (j + 1) = mT (2000 + k) j + md (2000 + k) (j + 1) := rfl
  have a2 : mT (2000 + k) (j' + 1) = mT (2000 + k) j' + md (2000 + k) (j' + 1) := rfl
  have e : j = j' := by
    rcases Nat.lt_trichotomy j j' with c | c | c
    · have := mT_le (2000 + k) (j + 1) j' (by omega); omega
    · exact c
    · have := mT_le (2000 + k) (j' + 1) j (by omega); omega
  subst e
  exact ⟨rfl, rfl, by omega⟩
/-- A day that is a tick's lies in the years 2000 to 2119. -/
theorem IsD.small {n k j r : Nat} (h : IsD n k j r) (hn : n ≤ 43690) : k ≤ 119 := by
  have := h.in_year
  rcases Nat.lt_or_ge 119 k with c | c
  · have := yT_le 120 k (by omega)
    rw [yT120] at this; omega
  · exact c
/-- The next day is the next of the month, or the first of a later month or year. -/
theorem IsD.next {n k j r k' j' r' : Nat} (h : IsD n k j r) (g : IsD (n + 1) k' j' r') : (k' = k ∧ j' = j ∧ r' = r + 1) ∨ (k' = k ∧ j' = j + 1 ∧ r' = 0) ∨ (k' = k + 1 ∧ j' = 0 ∧ r' = 0) := by
  obtain ⟨h1, h2, h3⟩ := h
  by_cases c : r + 1 < md (2000 + k) (j + 1)
  · obtain ⟨rfl, rfl, rfl⟩ := g.only (⟨by omega, h2, c⟩ : IsD (n + 1) k j (r + 1))
    exact .inl ⟨rfl, rfl, rfl⟩
  · have a1 : mT (2000 + k) (j + 1) = mT (2000 + k) j + md (2000 + k) (j + 1) := rfl
    by_cases c2 : j + 1 < 12
    · obtain ⟨rfl, rfl, rfl⟩ := g.only (⟨by omega, c2, by have := md_pos (2000 + k) (j + 1 + 1) (by omega) (by omega); omega⟩ : IsD (n + 1) k (j + 1) 0)
      exact .inr (.inl ⟨rfl, rfl, rfl⟩)
    · have d : yT (k + 1) = yT k + yd (2000 + k) := rfl
      obtain rfl : j = 11 := by omega
      have e : mT (2000 + k) (11 + 1) = yd (2000 + k) := mT12 (2000 + k)
      obtain ⟨rfl, rfl, rfl⟩ := g.only (⟨by rw [show mT (2000 + (k + 1)) 0 = 0 from rfl]; omega, by omega, by have := md_pos (2000 + (k + 1)) (0 + 1) (by omega) (by omega); omega⟩ : IsD (n + 1) (k + 1) 0 0)
      exact .inr (.inr ⟨rfl, rfl, rfl⟩)
end Go.Proofs.Ytophmdjdjjgokaa

/- package clock: Check, Of, Week, At, leap, yearDays, monthDays, of every number. -/
namespace Go.Proofs.Ytophmdjdjjgokaa
open Go.RowKit
set_option linter.unusedVariables false

def I64 (x : Int) : Prop := -9223372036854775808 ≤ x ∧ x ≤ 9223372036854775807
def ckR (t : Int) : Int := if 0 ≤ t ∧ t ≤ 1048576 then 0 else 2
theorem ckcheck_any (t : Int) (w : World) (h : I64 t) :
    Calls Try.prog 47 #[.int .i64 t] w fun e w' => e = .returned (.int .i64 (ckR t)) ∧ w' = w := by
  have HN : Hid (¬ (0 ≤ t ∧ t ≤ 1048576) → ckR t = 2) := fun h => if_neg h
  have HY : Hid ((0 ≤ t ∧ t ≤ 1048576) → ckR t = 0) := fun h => if_pos h
  go_enter Try.func47, Try.ntmps47
  go_wp2_with fail
  all_goals
    go_ret
    first
    | exact ⟨ret_int (HN.out (by omega)).symm, rfl⟩
    | exact ⟨ret_int (HY.out (by omega)).symm, rfl⟩

/-- A day's hour that is a tick. -/
def okA (d h : Int) : Prop := 0 ≤ h ∧ h < 24 ∧ 0 ≤ d ∧ d ≤ 43690 ∧ d * 24 + h ≤ 1048576
instance (d h : Int) : Decidable (okA d h) := by unfold okA; infer_instance
def atR (d h : Int) : Int × Int := if okA d h then (d * 24 + h, 0) else (0, 2)
/-- The days of a month that there is, or is not. -/
def mdI (y : Nat) (m : Int) : Nat := if 1 ≤ m ∧ m ≤ 12 then md y m.toNat else 0
end Go.Proofs.Ytophmdjdjjgokaa

/- package argument: its table, an angle's row, its units, of every number and tick. -/
namespace Go.Proofs.Ytophmdjdjjgokaa
open Go.RowKit
set_option linter.unusedVariables false

/-- The table: names, units at the tick 0, units that a tick adds. -/
def agN : Nat → ByteArray
  | 0 => { data := #[108, 117, 110, 97, 114] }
  | 1 => { data := #[109, 111, 111, 110] }
  | 2 => { data := #[115, 117, 110] }
  | 3 => { data := #[112, 101, 114, 105, 103, 101, 101] }
  | 4 => { data := #[110, 111, 100, 101] }
  | _ => { data := #[112, 101, 114, 105, 104, 101, 108, 105, 111, 110] }
def agB : Nat → Nat
  | 0 => 31648000
  | 1 => 2770247000
  | 2 => 2801895000
  | 3 => 3343853000
  | 4 => 1008432000
  | _ => 2812209000
def agS : Nat → Nat
  | 0 => 144920521
  | 1 => 5490165
  | 2 => 410686
  | 3 => 46418
  | 4 => 22064
  | _ => 20
def agT : Array Value := #[.string { data := #[108, 117, 110, 97, 114] }, .int .i64 31648000, .int .i64 144920521, .string { data := #[109, 111, 111, 110] }, .int .i64 2770247000, .int .i64 5490165, .string { data := #[115, 117, 110] }, .int .i64 2801895000, .int .i64 410686, .string { data := #[112, 101, 114, 105, 103, 101, 101] }, .int .i64 3343853000, .int .i64 46418, .string { data := #[110, 111, 100, 101] }, .int .i64 1008432000, .int .i64 22064, .string { data := #[112, 101, 114, 105, 104, 101, 108, 105, 111, 110] }, .int .i64 2812209000, .int .i64 20]

set_option maxHeartbeats 1600000 in
set_option maxRecDepth 100000 in
theorem agrows_any (w : World) :
    Calls Try.prog 46 #[] w fun e w' => e = .returned (.agg agT) ∧ Below w.heap.size w w' := by
  have HX : Hid (FBox (w.alloc (.cells agT 81)) w.heap.size 81 agT) := FBox.made _ _ _
  have HB : Hid (Below w.heap.size w (w.alloc (.cells agT 81))) := (Below.refl _ _).alloc (Nat.le_refl _) _
  go_enter Try.func46, Try.ntmps46
  go_wp2_with fail
  exact bodyPost_ret (results_cell_row (by rfl) _ _ w.heap.size 81 agT (0, 0) _ (by rfl) HX.out Try.underlying81 rfl (by kernel_rfl)) rfl ⟨rfl, HB.out⟩
end Go.Proofs.Ytophmdjdjjgokaa

/- package argument: an angle's row, its units, its angle, its speed, of every number and tick. -/
namespace Go.Proofs.Ytophmdjdjjgokaa
open Go.RowKit
set_option linter.unusedVariables false

def rowV (k : Nat) : Array Value := #[.string (agN k), .int .i64 (agB k : Int), .int .i64 (agS k : Int)]

theorem agidx (k : Nat) (w : World) (hk : k < 6) : (Instr.index 81 (.agg agT) (.int .i64 (k : Int))).run Try.prog w = .ok (.agg (rowV k)) w := by
  rcases (show k = 0 ∨ k = 1 ∨ k = 2 ∨ k = 3 ∨ k = 4 ∨ k = 5 by omega) with rfl | rfl | rfl | rfl | rfl | rfl
  · kernel_rfl
  · kernel_rfl
  · kernel_rfl
  · kernel_rfl
  · kernel_rfl
  · kernel_rfl

theorem fput3 {B : Nat} {a w : World} (h : Below B a w) (b : Nat) (hb : B ≤ b) (v0 v1 v2 : Value) : Below B a (((w.setCell ⟨b, 0, none⟩ v0).setCell ⟨b, 1, none⟩ v1).setCell ⟨b, 2, none⟩ v2) :=
  ((h.setCell (p := ⟨b, 0, none⟩) hb _).setCell (p := ⟨b, 1, none⟩) hb _).setCell (p := ⟨b, 2, none⟩) hb _
theorem box3 {w w' : World} {b t : Nat} {v0 v1 v2 : Value} (h : FBox w b t #[v0, v1, v2]) (hb : Below w.heap.size w w') : w'.cell? ⟨b, 0, none⟩ = some v0 ∧ w'.cell? ⟨b, 1, none⟩ = some v1 ∧ w'.cell? ⟨b, 2, none⟩ = some v2 ∧ w'.frozen? ⟨b, 0, none⟩ = false ∧ w'.frozen? ⟨b, 1, none⟩ = false ∧ w'.frozen? ⟨b, 2, none⟩ = false := by
  have h' := h.later hb h.lt
  exact ⟨h'.cell 0, h'.cell 1, h'.cell 2, h'.free 0, h'.free 1, h'.free 2⟩

set_option maxHeartbeats 800000 in
set_option maxRecDepth 100000 in
theorem agfind_ok (k : Nat) (w : World) (hk : k < 6) :
    Calls Try.prog 35 #[.int .i64 (k : Int)] w fun e w' => e = .returned (.tuple #[.agg (rowV k), .int .i64 0]) ∧ Below w.heap.size w w' := by
  have HR := hid (fun V => agrows_any V)
  have HX : Hid (FBox (w.alloc (.cells #[.string { data := #[] }, .int .i64 0, .int .i64 0] 66)) w.heap.size 66 #[.string { data := #[] }, .int .i64 0, .int .i64 0]) := FBox.made _ _ _
  have HB : Hid (Below w.heap.size w (w.alloc (.cells #[.string { data := #[] }, .int .i64 0, .int .i64 0] 66))) := (Below.refl _ _).alloc (Nat.le_refl _) _
  have HI := fun V => agidx k V hk
  unfold rowV at *
  generalize agN k = n at *
  generalize agB k = b at *
  generalize agS k = s at *
  generalize agT = T at *
  go_enter Try.func35, Try.ntmps35
  go_wp2_with fail
  generalize w.alloc (.cells #[.string { data := #[] }, .int .i64 0, .int .i64 0] 66) = X at *
  refine Calls.mono (HR.out _) ?_
  rintro e w1 ⟨rfl, hb1⟩
  obtain ⟨c0, c1, c2, f0, f1, f2⟩ := box3 HX.out hb1
  have HB1 := hid (b2 HB.out hb1)
  clear hb1 HX HB
  go_wp2_with fail
  refine bodyPost_ret (v := Value.tuple #[.agg #[.string n, .int .i64 (b : Int), .int .i64 (s : Int)], .int .i64 0]) (by simp [results, Try.results35, go_sem, c0, c1, c2]) rfl ?_
  exact ⟨rfl, fput3 HB1.out _ (Nat.le_refl _) _ _ _⟩

theorem agfind_err (k : Int) (w : World) (hk : ¬ (0 ≤ k ∧ k < 6)) (h : I64 k) :
    Calls Try.prog 35 #[.int .i64 k] w fun e w' => e = .returned (.tuple #[.agg #[.string { data := #[] }, .int .i64 0, .int .i64 0], .int .i64 2]) ∧ Below w.heap.size w w' := by
  have HX : Hid (FBox (w.alloc (.cells #[.string { data := #[] }, .int .i64 0, .int .i64 0] 66)) w.heap.size 66 #[.string { data := #[] }, .int .i64 0, .int .i64 0]) := FBox.made _ _ _
  have HB : Hid (Below w.heap.size w (w.alloc (.cells #[.string { data := #[] }, .int .i64 0, .int .i64 0] 66))) := (Below.refl _ _).alloc (Nat.le_refl _) _
  obtain ⟨c0, c1, c2, f0, f1, f2⟩ := box3 HX.out (Below.refl _ _)
  obtain ⟨h0, h1⟩ := h
  go_enter Try.func35, Try.ntmps35
  go_wp2_with fail
  all_goals
    first
    | (exfalso; omega)
    | (refine bodyPost_ret (v := Value.tuple #[.agg #[.string { data := #[] }, .int .i64 0, .int .i64 0], .int .i64 2]) (by simp [results, Try.results35, go_sem, c0, c1, c2]) rfl ?_
       exact ⟨rfl, HB.out⟩)

/-- The units of an angle at a tick. -/
def agU (k t : Nat) : Nat := (agB k + t * agS k) % 3600000000
theorem ag_small (k : Nat) : agB k < 3600000000 ∧ agS k < 200000000 := by
  rcases (show k = 0 ∨ k = 1 ∨ k = 2 ∨ k = 3 ∨ k = 4 ∨ 5 ≤ k by omega) with rfl | rfl | rfl | rfl | rfl | h
  · decide
  · decide
  · decide
  · decide
  · decide
  · obtain ⟨j, rfl⟩ : ∃ j, k = j + 5 := ⟨k - 5, by omega⟩
    show 2812209000 < 3600000000 ∧ 20 < 200000000
    decide

set_option maxHeartbeats 800000 in
set_option maxRecDepth 100000 in
theorem agunits_any (n : ByteArray) (b s t : Nat) (w : World) (hb : b < 3600000000) (hs : s < 200000000) (ht : t ≤ 1048576) :
    Calls Try.prog 48 #[.agg #[.string n, .int .i64 (b : Int), .int .i64 (s : Int)], .int .i64 (t : Int)] w fun e w' => e = .returned (.int .i64 (((b + t * s) % 3600000000 : Nat) : Int)) ∧ Below w.heap.size w w' := by
  have HX : Hid (Below w.heap.size w (w.alloc (.cells #[.string n, .int .i64 (b : Int), .int .i64 (s : Int)] 66))) := (Below.refl _ _).alloc (Nat.le_refl _) _
  have hm : t * s ≤ 1048576 * 200000000 := Nat.mul_le_mul ht (by omega)
  have e1 : ((t : Int) * (s : Int)) = ((t * s : Nat) : Int) := by simp
  generalize t * s = P at *
  have e2 : IntKind.i64.wrap (P : Int) = P := by rw [IntKind.wrap_i64]; omega
  have e3 : IntKind.i64.wrap ((b : Int) + P) = (b : Int) + P := by rw [IntKind.wrap_i64]; omega
  have e4 : Int.tmod ((b : Int) + P) 3600000000 = (((b + P) % 3600000000 : Nat) : Int) := rfl
  have e5 : IntKind.i64.wrap (((b + P) % 3600000000 : Nat) : Int) = (((b + P) % 3600000000 : Nat) : Int) := by rw [IntKind.wrap_i64]; omega
  generalize (b + P) % 3600000000 = R at *
  go_enter Try.func48, Try.ntmps48
  go_wp2_with fail
  go_ret
  exact ⟨ret_int (by first | rfl | go_num), HX.out⟩
end Go.Proofs.Ytophmdjdjjgokaa

/- package argument: Units, Angle, Speed, of every number and tick. -/
namespace Go.Proofs.Ytophmdjdjjgokaa
open Go.RowKit
set_option linter.unusedVariables false

theorem agU_lt (k t : Nat) : agU k t < 3600000000 := Nat.mod_lt _ (by decide)

set_option maxHeartbeats 800000 in
set_option maxRecDepth 100000 in
theorem agUnits_ok (k t : Nat) (w : World) (hk : k < 6) (ht : t ≤ 1048576) :
    Calls Try.prog 37 #[.int .i64 (k : Int), .int .i64 (t : Int)] w fun e w' => e = .returned (.tuple #[.int .i64 (agU k t : Int), .int .i64 0]) ∧ Below w.heap.size w w' := by
  have HF := hid (fun V => agfind_ok k V hk)
  have HC := hid (fun V => ckcheck_any (t : Int) V ⟨by omega, by omega⟩)
  rw [show ckR (t : Int) = 0 from if_pos ⟨by omega, by omega⟩] at HC
  have HU := hid (fun V => agunits_any (agN k) (agB k) (agS k) t V (ag_small k).1 (ag_small k).2 ht)
  unfold agU
  generalize ((agB k + t * agS k) % 3600000000) = R at *
  unfold rowV at HF
  have HX : Hid (∀ B : Nat, ∀ V : World, B ≤ V.heap.size → Below B V (V.alloc (.cells #[.string (agN k), .int .i64 (agB k : Int), .int .i64 (agS k : Int)] 66))) := fun B V hB => (Below.refl _ _).alloc hB _
  generalize agN k = n at *
  generalize agB k = b at *
  generalize agS k = s at *
  clear ht
  go_enter Try.func37, Try.ntmps37
  go_wp2_with fail
  refine Calls.mono (HF.out _) ?_
  rintro e w1 ⟨rfl, hb1⟩
  have HA := hid (hb1.trans (HX.out _ w1 hb1.size))
  have HO := hid (FBox.made w1 66 #[.string n, .int .i64 (b : Int), .int .i64 (s : Int)])
  clear hb1 HX HF
  go_wp2_with fail
  generalize w1.alloc (.cells #[.string n, .int .i64 (b : Int), .int .i64 (s : Int)] 66) = X at *
  refine Calls.mono (HC.out _) ?_
  rintro e w2 ⟨rfl, rfl⟩
  obtain ⟨c0, c1, c2, f0, f1, f2⟩ := box3 HO.out (Below.refl _ _)
  go_wp2_with fail
  refine Calls.mono (HU.out _) ?_
  rintro e w3 ⟨rfl, hb3⟩
  go_wp2_with fail
  go_returns
  exact ⟨by rfl, b2 HA.out hb3⟩

theorem agUnits_err (k t : Int) (w : World) (hk : I64 k) (ht : I64 t) (h : ¬ ((0 ≤ k ∧ k < 6) ∧ 0 ≤ t ∧ t ≤ 1048576)) :
    Calls Try.prog 37 #[.int .i64 k, .int .i64 t] w fun e w' => e = .returned (.tuple #[.int .i64 0, .int .i64 2]) ∧ Below w.heap.size w w' := by
  by_cases h0 : 0 ≤ k ∧ k < 6
  · obtain ⟨k, rfl⟩ := Int.eq_ofNat_of_zero_le h0.1
    have HF := hid (fun V => agfind_ok k V (by omega))
    have HC := hid (fun V => ckcheck_any t V ht)
    rw [show ckR t = 2 from if_neg (fun x => h ⟨h0, x⟩)] at HC
    unfold rowV at HF
    have HX : Hid (∀ B : Nat, ∀ V : World, B ≤ V.heap.size → Below B V (V.alloc (.cells #[.string (agN k), .int .i64 (agB k : Int), .int .i64 (agS k : Int)] 66))) := fun B V hB => (Below.refl _ _).alloc hB _
    generalize agN k = n at *
    generalize agB k = b at *
    generalize agS k = s at *
    clear h h0 hk ht
    go_enter Try.func37, Try.ntmps37
    go_wp2_with fail
    refine Calls.mono (HF.out _) ?_
    rintro e w1 ⟨rfl, hb1⟩
    have HA := hid (hb1.trans (HX.out _ w1 hb1.size))
    clear hb1 HX HF
    go_wp2_with fail
    generalize w1.alloc (.cells #[.string n, .int .i64 (b : Int), .int .i64 (s : Int)] 66) = X at *
    refine Calls.mono (HC.out _) ?_
    rintro e w2 ⟨rfl, rfl⟩
    go_wp2_with fail
    go_returns
    exact ⟨by rfl, HA.out⟩
  · have HF := hid (fun V => agfind_err k V h0 hk)
    have HX : Hid (∀ B : Nat, ∀ V : World, B ≤ V.heap.size → Below B V (V.alloc (.cells #[.string { data := #[] }, .int .i64 0, .int .i64 0] 66))) := fun B V hB => (Below.refl _ _).alloc hB _
    clear h h0 hk ht
    go_enter Try.func37, Try.ntmps37
    go_wp2_with fail
    refine Calls.mono (HF.out _) ?_
    rintro e w1 ⟨rfl, hb1⟩
    have HA := hid (hb1.trans (HX.out _ w1 hb1.size))
    clear hb1 HX HF
    go_wp2_with fail
    go_returns
    first
    | exact ⟨by rfl, HA.out⟩
    | exact ⟨by rfl, HA.out.drew⟩

/-- What Angle tells. -/
def agA (k t : Nat) : Int × Int × Int := ofR (agU k t : Int) 3600000000
def agV (k : Nat) : Int × Int × Int := ofR (agS k : Int) 3600000000

set_option maxHeartbeats 800000 in
set_option maxRecDepth 100000 in
theorem agAngle_ok (k t : Nat) (w : World) (hk : k < 6) (ht : t ≤ 1048576) :
    Calls Try.prog 29 #[.int .i64 (k : Int), .int .i64 (t : Int)] w fun e w' => e = .returned (tV (agA k t)) ∧ Below w.heap.size w w' := by
  have HX := hid (boxes1 w 36 #[.int .i64 0, .int .i64 0])
  have HU := hid (fun V => agUnits_ok k t V hk ht)
  have HO := hid (fun V => tof_any (agU k t : Int) 3600000000 V ⟨⟨by omega, by have := agU_lt k t; omega⟩, by decide, by decide⟩)
  unfold agA
  generalize agU k t = U at *
  generalize ofR (U : Int) 3600000000 = T at *
  obtain ⟨t1, t2, t3⟩ := T
  rw [show tV (t1, t2, t3) = Value.tuple #[.agg #[.int .i64 t1, .int .i64 t2], .int .i64 t3] from rfl] at *
  clear hk ht
  go_enter Try.func29, Try.ntmps29
  go_wp2_with fail
  generalize w.alloc (.cells #[.int .i64 0, .int .i64 0] 36) = X at *
  refine Calls.mono (HU.out _) ?_
  rintro e w1 ⟨rfl, hb1⟩
  go_wp2_with fail
  refine Calls.mono (HO.out _) ?_
  rintro e w2 ⟨rfl, hb2⟩
  obtain ⟨c2, c3, f2, f3⟩ := fbox_facts HX.out.1 (b2 hb1 hb2)
  have HB := hid (b2 HX.out.2 (b2 hb1 hb2))
  clear hb1 hb2 HX
  go_wp2_with fail
  refine bodyPost_ret (v := Value.tuple #[.agg #[.int .i64 t1, .int .i64 t2], .int .i64 t3]) (by simp [results, Try.results29, go_sem, c2, c3]) rfl ?_
  exact ⟨rfl, fput2 HB.out _ (Nat.le_refl _) _ _⟩
set_option maxHeartbeats 800000 in
set_option maxRecDepth 100000 in
theorem agAngle_err (k t : Int) (w : World) (hk : I64 k) (ht : I64 t) (h : ¬ ((0 ≤ k ∧ k < 6) ∧ 0 ≤ t ∧ t ≤ 1048576)) :
    Calls Try.prog 29 #[.int .i64 k, .int .i64 t] w fun e w' => e = .returned (tT 0 0 2) ∧ Below w.heap.size w w' := by
  have HX := hid (boxes1 w 36 #[.int .i64 0, .int .i64 0])
  have HU := hid (fun V => agUnits_err k t V hk ht h)
  unfold tT
  clear hk ht h
  go_enter Try.func29, Try.ntmps29
  go_wp2_with fail
  generalize w.alloc (.cells #[.int .i64 0, .int .i64 0] 36) = X at *
  refine Calls.mono (HU.out _) ?_
  rintro e w1 ⟨rfl, hb1⟩
  obtain ⟨c2, c3, f2, f3⟩ := fbox_facts HX.out.1 hb1
  have HB := hid (b2 HX.out.2 hb1)
  clear hb1 HX
  go_wp2_with fail
  refine bodyPost_ret (v := Value.tuple #[.agg #[.int .i64 0, .int .i64 0], .int .i64 2]) (by simp [results, Try.results29, go_sem, c2, c3]) rfl ?_
  exact ⟨rfl, by first | exact fput2 HB.out _ (Nat.le_refl _) _ _ | exact HB.out⟩

set_option maxHeartbeats 800000 in
set_option maxRecDepth 100000 in
theorem agSpeed_ok (k : Nat) (w : World) (hk : k < 6) :
    Calls Try.prog 26 #[.int .i64 (k : Int)] w fun e w' => e = .returned (tV (agV k)) ∧ Below w.heap.size w w' := by
  have HX := hid (boxes1 w 36 #[.int .i64 0, .int .i64 0])
  have HF := hid (fun V => agfind_ok k V hk)
  have HO := hid (fun V => tof_any (agS k : Int) 3600000000 V ⟨⟨by omega, by have := (ag_small k).2; omega⟩, by decide, by decide⟩)
  unfold agV
  unfold rowV at HF
  generalize agN k = n at *
  generalize agB k = b at *
  generalize agS k = s at *
  generalize ofR (s : Int) 3600000000 = T at *
  obtain ⟨t1, t2, t3⟩ := T
  rw [show tV (t1, t2, t3) = Value.tuple #[.agg #[.int .i64 t1, .int .i64 t2], .int .i64 t3] from rfl] at *
  clear hk
  go_enter Try.func26, Try.ntmps26
  go_wp2_with fail
  generalize w.alloc (.cells #[.int .i64 0, .int .i64 0] 36) = X at *
  refine Calls.mono (HF.out _) ?_
  rintro e w1 ⟨rfl, hb1⟩
  have HA : Hid (Below X.heap.size X (w1.alloc (.cells #[.string n, .int .i64 (b : Int), .int .i64 (s : Int)] 66))) := hb1.alloc hb1.size _
  have HR := hid (FBox.made w1 66 #[.string n, .int .i64 (b : Int), .int .i64 (s : Int)])
  clear hb1 HF
  go_wp2_with fail
  generalize w1.alloc (.cells #[.string n, .int .i64 (b : Int), .int .i64 (s : Int)] 66) = Y at *
  refine Calls.mono (HO.out _) ?_
  rintro e w2 ⟨rfl, hb2⟩
  obtain ⟨c2, c3, f2, f3⟩ := fbox_facts HX.out.1 (b2 HA.out hb2)
  have HB := hid (b2 HX.out.2 (b2 HA.out hb2))
  clear hb2 HX
  go_wp2_with fail
  refine bodyPost_ret (v := Value.tuple #[.agg #[.int .i64 t1, .int .i64 t2], .int .i64 t3]) (by simp [results, Try.results26, go_sem, c2, c3]) rfl ?_
  exact ⟨rfl, fput2 HB.out _ (Nat.le_refl _) _ _⟩
set_option maxHeartbeats 800000 in
set_option maxRecDepth 100000 in
theorem agSpeed_err (k : Int) (w : World) (hk : I64 k) (h : ¬ (0 ≤ k ∧ k < 6)) :
    Calls Try.prog 26 #[.int .i64 k] w fun e w' => e = .returned (tT 0 0 2) ∧ Below w.heap.size w w' := by
  have HX := hid (boxes1 w 36 #[.int .i64 0, .int .i64 0])
  have HF := hid (fun V => agfind_err k V h hk)
  unfold tT
  clear hk h
  go_enter Try.func26, Try.ntmps26
  go_wp2_with fail
  generalize w.alloc (.cells #[.int .i64 0, .int .i64 0] 36) = X at *
  refine Calls.mono (HF.out _) ?_
  rintro e w1 ⟨rfl, hb1⟩
  have HA : Hid (Below X.heap.size X (w1.alloc (.cells #[.string { data := #[] }, .int .i64 0, .int .i64 0] 66))) := hb1.alloc hb1.size _
  have HB : Hid (Below w.heap.size w (((w1.setCell ⟨w.heap.size, 0, none⟩ (.int .i64 0)).setCell ⟨w.heap.size, 1, none⟩ (.int .i64 0)).alloc (.cells #[.string { data := #[] }, .int .i64 0, .int .i64 0] 66))) := by
    refine (fput2 (b2 HX.out.2 hb1) _ (Nat.le_refl _) _ _).alloc ?_ _
    simpa using (b2 HX.out.2 hb1).size
  have HX2 : Hid (FBox (((w1.setCell ⟨w.heap.size, 0, none⟩ (.int .i64 0)).setCell ⟨w.heap.size, 1, none⟩ (.int .i64 0)).alloc (.cells #[.string { data := #[] }, .int .i64 0, .int .i64 0] 66)) w.heap.size 36 #[.int .i64 0, .int .i64 0]) := by
    have g : FBox ((w1.setCell ⟨w.heap.size, 0, none⟩ (.int .i64 0)).setCell ⟨w.heap.size, 1, none⟩ (.int .i64 0)) w.heap.size 36 #[.int .i64 0, .int .i64 0] := ((HX.out.1.later hb1 HX.out.1.lt).set 0 (.int .i64 0)).set 1 (.int .i64 0)
    exact g.later ((Below.refl _ _).alloc (Nat.le_refl _) _) g.lt
  obtain ⟨c2, c3, f2, f3⟩ := fbox_facts HX.out.1 hb1
  have hlt : w.heap.size < w1.heap.size := Nat.lt_of_lt_of_le HX.out.1.lt hb1.size
  have hne : w.heap.size ≠ w1.heap.size := by omega
  clear hb1 HX HA
  go_wp2_with fail
  clear c2 c3 f2 f3
  generalize ((w1.setCell ⟨w.heap.size, 0, none⟩ (.int .i64 0)).setCell ⟨w.heap.size, 1, none⟩ (.int .i64 0)).alloc (.cells #[.string { data := #[] }, .int .i64 0, .int .i64 0] 66) = W at *
  obtain ⟨c2, c3, f2, f3⟩ := fbox_facts HX2.out (Below.refl _ _)
  refine bodyPost_ret (v := Value.tuple #[.agg #[.int .i64 0, .int .i64 0], .int .i64 2]) (by simp [results, Try.results26, go_sem, c2, c3]) rfl ?_
  exact ⟨rfl, by first | exact fput2 HB.out _ (Nat.le_refl _) _ _ | exact HB.out⟩
end Go.Proofs.Ytophmdjdjjgokaa

/- Angles as turns: an angle goes on by as many of its speeds. No program. -/
namespace Go.Proofs.Ytophmdjdjjgokaa
open Go.RowKit
set_option linter.unusedVariables false

theorem of_circle (n : Nat) (h : n < 3600000000) : ∃ p q : Int, ofR (n : Int) 3600000000 = (p, q, 0) ∧ okI p q ∧ vI p q = mkRat (n : Int) 3600000000 := by
  have hb := mkRat_unit (n : Int) 3600000000 (by decide) (by omega) (by omega)
  have e : ofR (n : Int) 3600000000 = canon (mkRat (n : Int) 3600000000) := by
    unfold ofR
    rw [if_neg (by decide), if_neg (by decide), show ((n : Int) % 3600000000).toNat = n by omega]
    exact lowR_canon n 3600000000 (by decide)
  have hd : (mkRat (n : Int) 3600000000).den ≤ 4294967296 := by
    rw [Rat.den_mkRat]
    split
    · decide
    · exact Nat.le_trans (Nat.div_le_self _ _) (by decide)
  obtain ⟨o, v⟩ := canon_ok hb.1 hb.2 hd
  refine ⟨_, _, ?_, o, v⟩
  rw [e]
  rcases canon_cases (mkRat (n : Int) 3600000000) with ⟨c, _⟩ | ⟨_, c⟩
  · exact c
  · exact absurd hd c

theorem times_told {p q : Int} (h : okI p q) (n : Int) : ∃ x y : Int, timesR p q n = (x, y, 0) ∧ okI x y ∧ vI x y = frac ((n : Rat) * vI p q) := by
  have hb := frac_bounds ((n : Rat) * vI p q)
  have hd := times_den h n
  obtain ⟨o, v⟩ := canon_ok hb.1 hb.2 hd
  refine ⟨_, _, ?_, o, v⟩
  rw [timesR_canon h n]
  rcases canon_cases (frac ((n : Rat) * vI p q)) with ⟨c, _⟩ | ⟨_, c⟩
  · exact c
  · exact absurd hd c

theorem circle_sum (b s f n : Nat) : mkRat ((b + f * s : Nat) : Int) 3600000000 + (((n : Nat) : Int) : Rat) * mkRat ((s : Nat) : Int) 3600000000 = mkRat ((b + (f + n) * s : Nat) : Int) 3600000000 := by
  rw [Rat.mkRat_eq_div, Rat.mkRat_eq_div, Rat.mkRat_eq_div, Rat.div_def, Rat.div_def, Rat.div_def]
  generalize (((3600000000 : Nat) : Rat))⁻¹ = c
  have e : (((b + (f + n) * s : Nat) : Int) : Rat) = (((b + f * s : Nat) : Int) : Rat) + (((n : Nat) : Int) : Rat) * (((s : Nat) : Int) : Rat) := by
    rw [← Rat.intCast_mul, ← Rat.intCast_add]
    congr 1
    rw [Nat.add_mul, ← Nat.add_assoc]
    simp
  rw [e]
  grind

theorem agU_v (k t : Nat) : mkRat (agU k t : Int) 3600000000 = frac (mkRat ((agB k + t * agS k : Nat) : Int) 3600000000) := by
  rw [← mkRat_mod _ _ (by decide)]
  rfl

/-- From a tick to a later one an angle goes on by as many of its speeds. -/
theorem ag_goes (k f n : Nat) : ∃ a1 a2 b1 b2 s1 s2 w1 w2 : Int, agA k f = (a1, a2, 0) ∧ agA k (f + n) = (b1, b2, 0) ∧ agV k = (s1, s2, 0) ∧ timesR s1 s2 (n : Int) = (w1, w2, 0) ∧ addR a1 a2 w1 w2 = (b1, b2, 0) ∧ okI a1 a2 ∧ okI b1 b2 ∧ okI s1 s2 ∧ okI w1 w2 := by
  obtain ⟨a1, a2, ha, oa, va⟩ := of_circle (agU k f) (agU_lt k f)
  obtain ⟨b1, b2, hb, ob, vb⟩ := of_circle (agU k (f + n)) (agU_lt k (f + n))
  obtain ⟨s1, s2, hs, os, vs⟩ := of_circle (agS k) (by have := (ag_small k).2; omega)
  obtain ⟨w1, w2, hw, ow, vw⟩ := times_told os (n : Int)
  refine ⟨a1, a2, b1, b2, s1, s2, w1, w2, ha, hb, hs, hw, ?_, oa, ob, os, ow⟩
  rw [addR_canon oa ow, va, vw, vs, frac_add_frac, agU_v, frac_frac_add, circle_sum, ← agU_v, ← vb, canon_vI ob]
end Go.Proofs.Ytophmdjdjjgokaa

/- Turns of a circle of 3,600,000,000 units: sums, differences, opposites and multiples of what so many units make. No program. -/
namespace Go.Proofs.Ytophmdjdjjgokaa
open Go.RowKit
set_option linter.unusedVariables false

/-- The turn of so many units. -/
def circ (z : Int) : Int × Int × Int := ofR z 3600000000

theorem circ_mod (z : Int) : circ (z % 3600000000) = circ z := by
  unfold circ ofR
  rw [if_neg (by decide), if_neg (by decide), if_neg (by decide), if_neg (by decide), Int.emod_emod]
theorem circ_add (z k : Int) : circ (z + k * 3600000000) = circ z := by
  rw [← circ_mod (z + k * 3600000000), ← circ_mod z, Int.add_mul_emod_self_right]

theorem circ_told (z : Int) : ∃ p q : Int, circ z = (p, q, 0) ∧ okI p q ∧ vI p q = frac (mkRat z 3600000000) := by
  obtain ⟨n, hn⟩ := Int.eq_ofNat_of_zero_le (Int.emod_nonneg z (show (3600000000 : Int) ≠ 0 by decide))
  have hl : z % 3600000000 < 3600000000 := Int.emod_lt_of_pos _ (by decide)
  obtain ⟨p, q, e, o, v⟩ := of_circle n (by omega)
  refine ⟨p, q, ?_, o, ?_⟩
  · rw [← circ_mod, hn]; exact e
  · rw [v, ← hn]; exact mkRat_mod z 3600000000 (by decide)

theorem circ_unique {z p q : Int} (o : okI p q) (v : vI p q = frac (mkRat z 3600000000)) : circ z = (p, q, 0) := by
  obtain ⟨p', q', e, o', v'⟩ := circ_told z
  rw [e, ← canon_vI o', ← canon_vI o, v, v']

theorem frac_idem (x : Rat) : frac (frac x) = frac x := frac_self (frac_bounds x).1 (frac_bounds x).2
theorem frac_mul_int (n : Int) (x : Rat) : frac ((n : Rat) * frac x) = frac ((n : Rat) * x) := by
  have e : (n : Rat) * x = (n : Rat) * frac x + ((n * x.floor : Int) : Rat) := by
    unfold frac; rw [Rat.intCast_mul]; grind
  rw [e, frac_add_int]
theorem frac_neg_frac (x : Rat) : frac (-(frac x)) = frac (-x) := by
  have e : -x = -(frac x) + ((-x.floor : Int) : Rat) := by
    unfold frac; rw [Rat.intCast_neg]; grind
  rw [e, frac_add_int]

theorem mkRat_sum (a b : Int) : mkRat a 3600000000 + mkRat b 3600000000 = mkRat (a + b) 3600000000 := by
  rw [Rat.mkRat_eq_div, Rat.mkRat_eq_div, Rat.mkRat_eq_div, Rat.div_def, Rat.div_def, Rat.div_def, Rat.intCast_add]
  grind
theorem mkRat_times (n a : Int) : (n : Rat) * mkRat a 3600000000 = mkRat (n * a) 3600000000 := by
  rw [Rat.mkRat_eq_div, Rat.mkRat_eq_div, Rat.div_def, Rat.div_def, Rat.intCast_mul]
  grind

theorem add_circ {a b p q r s : Int} (h : circ a = (p, q, 0)) (g : circ b = (r, s, 0)) : addR p q r s = circ (a + b) := by
  obtain ⟨p', q', e, o, v⟩ := circ_told a
  obtain ⟨r', s', f, o2, v2⟩ := circ_told b
  rw [e] at h; rw [f] at g
  cases h; cases g
  obtain ⟨x, y, e3, o3, v3⟩ := circ_told (a + b)
  rw [addR_canon o o2, v, v2, frac_frac_add, frac_add_frac, mkRat_sum, ← v3, canon_vI o3, e3]
theorem times_circ {a p q : Int} (n : Int) (h : circ a = (p, q, 0)) : timesR p q n = circ (n * a) := by
  obtain ⟨p', q', e, o, v⟩ := circ_told a
  rw [e] at h
  cases h
  obtain ⟨x, y, e3, o3, v3⟩ := circ_told (n * a)
  rw [timesR_canon o n, v, frac_mul_int, mkRat_times, ← v3, canon_vI o3, e3]
theorem neg_circ {a p q : Int} (h : circ a = (p, q, 0)) : negR p q = circ (-a) := by
  obtain ⟨p', q', e, o, v⟩ := circ_told a
  rw [e] at h
  cases h
  refine (by unfold negR; rw [if_pos o] : negR p q = _).trans (circ_unique (gcd_back o) ?_).symm
  rw [vI_neg o, v, frac_neg_frac, Rat.neg_mkRat]
theorem sub_circ {a b p q r s : Int} (h : circ a = (p, q, 0)) (g : circ b = (r, s, 0)) : subR p q r s = circ (a - b) := by
  obtain ⟨p', q', e, o, v⟩ := circ_told a
  obtain ⟨r', s', f, o2, v2⟩ := circ_told b
  rw [e] at h; rw [f] at g
  cases h; cases g
  have hn : circ (-b) = ((-r) % s, s, 0) := by rw [← neg_circ f]; unfold negR; rw [if_pos o2]
  unfold subR
  rw [if_pos ⟨o, o2⟩, add_circ e hn]
  rfl

theorem dok_in {p q : Int} (h : okI p q) : in64 p q := by
  obtain ⟨a, b, c, d, _⟩ := h
  exact ⟨⟨by omega, by omega⟩, by omega, by omega⟩

/-- So many of each angle, added up. -/
def dS (d : Nat → Int) (u : Nat → Int) : Nat → Int
  | 0 => 0
  | k + 1 => dS d u k + d k * u k
theorem dS_add (d e u : Nat → Int) (k : Nat) : dS (fun j => d j + e j) u k = dS d u k + dS e u k := by
  induction k with
  | zero => rfl
  | succ k ih => unfold dS; rw [ih, Int.add_mul]; omega
theorem dS_sub (d e u : Nat → Int) (k : Nat) : dS (fun j => d j - e j) u k = dS d u k - dS e u k := by
  induction k with
  | zero => rfl
  | succ k ih => unfold dS; rw [ih, Int.sub_mul]; omega
theorem dS_neg (d u : Nat → Int) (k : Nat) : dS (fun j => 0 - d j) u k = -dS d u k := by
  induction k with
  | zero => rfl
  | succ k ih => unfold dS; rw [ih, Int.sub_mul, Int.zero_mul]; omega
theorem dS_congr {d e u : Nat → Int} (k : Nat) (h : ∀ j, j < k → d j = e j) : dS d u k = dS e u k := by
  induction k with
  | zero => rfl
  | succ k ih => unfold dS; rw [ih (fun j hj => h j (by omega)), h k (by omega)]
/-- Angles that stand on the circle as those others do. -/
theorem dS_mod {d u v : Nat → Int} (k : Nat) (h : ∀ j, j < k → ∃ z : Int, u j = v j + z * 3600000000) : ∃ z : Int, dS d u k = dS d v k + z * 3600000000 := by
  induction k with
  | zero => exact ⟨0, rfl⟩
  | succ k ih =>
    obtain ⟨z, hz⟩ := ih (fun j hj => h j (by omega))
    obtain ⟨y, hy⟩ := h k (by omega)
    refine ⟨z + d k * y, ?_⟩
    unfold dS
    rw [hz, hy, Int.mul_add, Int.add_mul, Int.mul_assoc]
    omega
theorem dS_two (d u v : Nat → Int) (k : Nat) : dS d (fun j => u j + v j) k = dS d u k + dS d v k := by
  induction k with
  | zero => rfl
  | succ k ih => unfold dS; rw [ih, Int.mul_add]; omega
end Go.Proofs.Ytophmdjdjjgokaa

/- package doodson: Check, of every six numbers. -/
namespace Go.Proofs.Ytophmdjdjjgokaa
open Go.RowKit
set_option linter.unusedVariables false

/-- Six numbers, as an array's cells. -/
def doA (d : Nat → Int) : Array Value := #[.int .i8 (d 0), .int .i8 (d 1), .int .i8 (d 2), .int .i8 (d 3), .int .i8 (d 4), .int .i8 (d 5)]
/-- They may be. -/
def dOK (d : Nat → Int) : Prop := ∀ k, k < 6 → -4 ≤ d k ∧ d k ≤ 4
/-- Each lies in eight bits. -/
def d8 (d : Nat → Int) : Prop := ∀ k, k < 6 → -128 ≤ d k ∧ d k ≤ 127
instance (d : Nat → Int) : Decidable (dOK d) := by unfold dOK; infer_instance
def dchk (d : Nat → Int) : Int := if dOK d then 0 else 210
theorem dchk_ok {d : Nat → Int} (h : dOK d) : dchk d = 0 := if_pos h
theorem dchk_no {d : Nat → Int} (h : ¬ dOK d) : dchk d = 210 := if_neg h

theorem didx (d : Nat → Int) (k : Nat) (w : World) (hk : k < 6) : (Instr.index 29 (.agg #[.int .i8 (d 0), .int .i8 (d 1), .int .i8 (d 2), .int .i8 (d 3), .int .i8 (d 4), .int .i8 (d 5)]) (.int .i64 (k : Int))).run Try.prog w = .ok (.int .i8 (d k)) w := by
  rcases (show k = 0 ∨ k = 1 ∨ k = 2 ∨ k = 3 ∨ k = 4 ∨ k = 5 by omega) with rfl | rfl | rfl | rfl | rfl | rfl
  · kernel_rfl
  · kernel_rfl
  · kernel_rfl
  · kernel_rfl
  · kernel_rfl
  · kernel_rfl

set_option maxHeartbeats 800000 in
set_option maxRecDepth 100000 in
theorem docheck_any (d : Nat → Int) (w : World) : Calls Try.prog 17 #[.agg (doA d)] w fun e w' => e = .returned (.int .i64 (dchk d)) ∧ Below w.heap.size w w' := by
  have HB : Hid (Below w.heap.size w (w.alloc (.cells (doA d) 29))) := (Below.refl _ _).alloc (Nat.le_refl _) _
  have HI : Hid (∀ k : Nat, k < 6 → ∀ V, (Instr.index 29 (.agg #[.int .i8 (d 0), .int .i8 (d 1), .int .i8 (d 2), .int .i8 (d 3), .int .i8 (d 4), .int .i8 (d 5)]) (.int .i64 (k : Int))).run Try.prog V = .ok (.int .i8 (d k)) V) := fun k hk V => didx d k V hk
  unfold doA at *
  go_enter Try.func17, Try.ntmps17
  go_wp2_with fail
  generalize w.alloc (.cells #[.int .i8 (d 0), .int .i8 (d 1), .int .i8 (d 2), .int .i8 (d 3), .int .i8 (d 4), .int .i8 (d 5)] 29) = X at *
  go_loopw [6] (fun x wr => ∃ k : Nat, k ≤ 6 ∧ x = .int .i64 (k : Int) ∧ Hid (∀ j, j < k → -4 ≤ d j ∧ d j ≤ 4) ∧ wr = X) (fun x _ => 6 - (intOf x).toNat)
  case atStart => exact ⟨0, by decide, rfl, fun j hj => absurd hj (Nat.not_lt_zero _), rfl⟩
  case round =>
    obtain ⟨k, hk, rfl, HJ, rfl⟩ := hrel
    by_cases hlt : k < 6
    · have hi := HI.out k hlt
      have HN : Hid (¬ (-4 ≤ d k ∧ d k ≤ 4) → dchk d = 210) := fun h => dchk_no (fun g => h (g k hlt))
      have HY : Hid (-4 ≤ d k ∧ d k ≤ 4 → ∀ j, j < k + 1 → -4 ≤ d j ∧ d j ≤ 4) := fun h j hj => by
        rcases Nat.lt_succ_iff_lt_or_eq.1 hj with g | g
        · exact HJ.out j g
        · rw [g]; exact h
      generalize d k = y at *
      go_wp2_with fail
      all_goals first
        | (go_ret; exact ⟨ret_int (HN.out (by omega)).symm, HB.out⟩)
        | (go_roundw
           case rel => exact ⟨k + 1, by omega, by go_num, HY.out (by omega), by first | trivial | rfl⟩
           case measure => simp [intOf]; omega)
    · obtain rfl : k = 6 := by omega
      have HZ : Hid (dchk d = 0) := dchk_ok HJ.out
      go_wp2_with fail
      go_ret
      exact ⟨ret_int HZ.out.symm, HB.out⟩
end Go.Proofs.Ytophmdjdjjgokaa

/- package doodson: the sum of what is told of each angle. -/
namespace Go.Proofs.Ytophmdjdjjgokaa
open Go.RowKit
set_option linter.unusedVariables false

theorem FBox.off {w : World} {b t : Nat} {vs : Array Value} (h : FBox w b t vs) {c : Nat} (hc : b ≠ c) (j : Nat) (v : Value) : FBox (w.setCell ⟨c, j, none⟩ v) b t vs := by
  unfold FBox at *
  simp only [World.setCell, Array.getElem?_modify]
  rw [if_neg (fun e => hc e.symm)]; exact h
theorem FBox.off2 {w : World} {b t : Nat} {vs : Array Value} (h : FBox w b t vs) {c : Nat} (hc : b ≠ c) (v0 v1 : Value) : FBox ((w.setCell ⟨c, 0, none⟩ v0).setCell ⟨c, 1, none⟩ v1) b t vs := (h.off hc 0 v0).off hc 1 v1
theorem FBox.put2 {w : World} {b t : Nat} {u0 u1 : Value} (h : FBox w b t #[u0, u1]) (v0 v1 : Value) : FBox ((w.setCell ⟨b, 0, none⟩ v0).setCell ⟨b, 1, none⟩ v1) b t #[v0, v1] := (h.set 0 v0).set 1 v1
theorem FBox.put6 {w : World} {b t : Nat} {u0 u1 u2 u3 u4 u5 : Value} (h : FBox w b t #[u0, u1, u2, u3, u4, u5]) (v0 v1 v2 v3 v4 v5 : Value) : FBox ((((((w.setCell ⟨b, 0, none⟩ v0).setCell ⟨b, 1, none⟩ v1).setCell ⟨b, 2, none⟩ v2).setCell ⟨b, 3, none⟩ v3).setCell ⟨b, 4, none⟩ v4).setCell ⟨b, 5, none⟩ v5) b t #[v0, v1, v2, v3, v4, v5] := (((((h.set 0 v0).set 1 v1).set 2 v2).set 3 v3).set 4 v4).set 5 v5
theorem dboxes2 (w : World) (t1 t2 : Nat) (u v : Array Value) : FBox ((w.alloc (.cells u t1)).alloc (.cells v t2)) w.heap.size t1 u ∧ FBox ((w.alloc (.cells u t1)).alloc (.cells v t2)) (w.heap.size + 1) t2 v ∧ Below w.heap.size w ((w.alloc (.cells u t1)).alloc (.cells v t2)) := by
  have a := boxes1 w t1 u
  have b := boxes1 (w.alloc (.cells u t1)) t2 v
  have es : (w.alloc (.cells u t1)).heap.size = w.heap.size + 1 := World.size_alloc _ _
  exact ⟨a.1.later b.2 a.1.lt, es ▸ b.1, b2 a.2 b.2⟩
theorem dboxes3 (w : World) (t1 t2 t3 : Nat) (u v z : Array Value) : FBox (((w.alloc (.cells u t1)).alloc (.cells v t2)).alloc (.cells z t3)) w.heap.size t1 u ∧ FBox (((w.alloc (.cells u t1)).alloc (.cells v t2)).alloc (.cells z t3)) (w.heap.size + 1) t2 v ∧ FBox (((w.alloc (.cells u t1)).alloc (.cells v t2)).alloc (.cells z t3)) (w.heap.size + 1 + 1) t3 z ∧ Below w.heap.size w (((w.alloc (.cells u t1)).alloc (.cells v t2)).alloc (.cells z t3)) := by
  have a := dboxes2 w t1 t2 u v
  have b := boxes1 ((w.alloc (.cells u t1)).alloc (.cells v t2)) t3 z
  have es : ((w.alloc (.cells u t1)).alloc (.cells v t2)).heap.size = w.heap.size + 1 + 1 := by rw [World.size_alloc, World.size_alloc]
  exact ⟨a.1.later b.2 a.1.lt, a.2.1.later b.2 a.2.1.lt, es ▸ b.1, b2 a.2.2 b.2⟩

set_option maxHeartbeats 1600000 in
set_option maxRecDepth 100000 in
theorem dototal_ok (d u : Nat → Int) (hd : dOK d) (g : Nat) (cb : Array Value) (w : World) (eg : ∀ args W, (callFunc g args).run Try.prog W = .ok (.enter g args) W)
    (HF : ∀ k : Nat, k < 6 → ∀ V, Below w.heap.size w V → Calls Try.prog g (#[.int .i64 (k : Int)] ++ cb) V fun e w' => e = .returned (tV (circ (u k))) ∧ Below V.heap.size V w') :
    Calls Try.prog 25 #[.agg (doA d), .func (.func g) #[] cb] w fun e w' => e = .returned (tV (circ (dS d u 6))) ∧ Below w.heap.size w w' := by
  have HFF := hid HF
  have HI : Hid (∀ k : Nat, k < 6 → ∀ V, (Instr.index 29 (.agg #[.int .i8 (d 0), .int .i8 (d 1), .int .i8 (d 2), .int .i8 (d 3), .int .i8 (d 4), .int .i8 (d 5)]) (.int .i64 (k : Int))).run Try.prog V = .ok (.int .i8 (d k)) V) := fun k hk V => didx d k V hk
  have HX := hid (dboxes3 w 29 36 36 #[.int .i8 (d 0), .int .i8 (d 1), .int .i8 (d 2), .int .i8 (d 3), .int .i8 (d 4), .int .i8 (d 5)] #[.int .i64 0, .int .i64 0] #[.int .i64 0, .int .i64 1])
  obtain ⟨X, hX⟩ : ∃ X, ((w.alloc (.cells #[.int .i8 (d 0), .int .i8 (d 1), .int .i8 (d 2), .int .i8 (d 3), .int .i8 (d 4), .int .i8 (d 5)] 29)).alloc (.cells #[.int .i64 0, .int .i64 0] 36)).alloc (.cells #[.int .i64 0, .int .i64 1] 36) = X := ⟨_, rfl⟩
  rw [hX] at HX
  have n0 : X.cell? ⟨w.heap.size, 0, none⟩ = some (.int .i8 (d 0)) := HX.out.1.cell 0
  have n1 : X.cell? ⟨w.heap.size, 1, none⟩ = some (.int .i8 (d 1)) := HX.out.1.cell 1
  have n2 : X.cell? ⟨w.heap.size, 2, none⟩ = some (.int .i8 (d 2)) := HX.out.1.cell 2
  have n3 : X.cell? ⟨w.heap.size, 3, none⟩ = some (.int .i8 (d 3)) := HX.out.1.cell 3
  have n4 : X.cell? ⟨w.heap.size, 4, none⟩ = some (.int .i8 (d 4)) := HX.out.1.cell 4
  have n5 : X.cell? ⟨w.heap.size, 5, none⟩ = some (.int .i8 (d 5)) := HX.out.1.cell 5
  clear HF
  unfold doA
  go_enter Try.func25, Try.ntmps25
  go_wp2_with fail
  have HS0 : Hid (circ (dS d u 0) = (0, 1, 0)) := (show circ 0 = (0, 1, 0) by decide +kernel)
  clear n0 n1 n2 n3 n4 n5 hX
  go_loopw [13] (fun x wr => ∃ (k : Nat) (p q : Int), k ≤ 6 ∧ x = .int .i64 (k : Int) ∧ Hid (circ (dS d u k) = (p, q, 0)) ∧ Hid (FBox wr (w.heap.size + 1) 36 #[.int .i64 0, .int .i64 0]) ∧ Hid (FBox wr (w.heap.size + 1 + 1) 36 #[.int .i64 p, .int .i64 q]) ∧ Hid (Below w.heap.size w wr)) (fun x _ => 6 - (intOf x).toNat)
  case atStart => exact ⟨0, 0, 1, by decide, rfl, HS0, HX.out.2.1, HX.out.2.2.1, HX.out.2.2.2⟩
  case round =>
    obtain ⟨k, p, q, hk, rfl, HS, HR, HM, HB⟩ := hrel
    by_cases hlt : k < 6
    · have hi := HI.out k hlt
      obtain ⟨a1, a2, ea, oa, va⟩ := circ_told (u k)
      have HC := hid (HFF.out k hlt wr HB.out)
      rw [ea, show tV (a1, a2, 0) = Value.tuple #[.agg #[.int .i64 a1, .int .i64 a2], .int .i64 0] from rfl] at HC
      obtain ⟨x1, x2, et, ot, vt⟩ := circ_told (d k * u k)
      have b0 := (hd k hlt).1
      have b1 := (hd k hlt).2
      have HT := hid (fun V => ttimes_any a1 a2 (d k) V (dok_in oa) (by omega) (by omega))
      rw [times_circ (d k) ea, et, show tV (x1, x2, 0) = Value.tuple #[.agg #[.int .i64 x1, .int .i64 x2], .int .i64 0] from rfl] at HT
      obtain ⟨p', q', es, os, vs⟩ := circ_told (dS d u k)
      have eq : p' = p ∧ q' = q := by
        have := HS.out; rw [es] at this; simpa using this
      obtain ⟨rfl, rfl⟩ := eq
      obtain ⟨y1, y2, ey, oy, vy⟩ := circ_told (dS d u (k + 1))
      have HA := hid (fun V => tadd_any p' q' x1 x2 V (dok_in os) (dok_in ot))
      rw [add_circ es et, show dS d u k + d k * u k = dS d u (k + 1) from rfl, ey, show tV (y1, y2, 0) = Value.tuple #[.agg #[.int .i64 y1, .int .i64 y2], .int .i64 0] from rfl] at HA
      have HEY := hid ey
      clear ea oa va et ot vt es os vs ey oy vy HS
      have ew : wrap32 (d k) = d k := by unfold wrap32; omega
      have ew2 : IntKind.i32.wrap (d k) = d k := by rw [IntKind.wrap_i32]; omega
      generalize d k = y at *
      clear b0 b1
      go_wp2_with fail
      refine Calls.mono HC.out ?_
      rintro e w1 ⟨rfl, hb⟩
      have hr1 : w.heap.size + 1 < wr.heap.size := HR.out.lt
      have hr2 : w.heap.size + 1 + 1 < wr.heap.size := HM.out.lt
      have hs1 := hb.size
      have HR1 := hid (HR.out.later hb HR.out.lt)
      have HM1 := hid (HM.out.later hb HM.out.lt)
      have HB1 := hid (HB.out.trans (hb.mono HB.out.size))
      clear hb HC HR HM HB
      have HN := hid (boxes1 w1 36 #[.int .i64 a1, .int .i64 a2])
      obtain ⟨w2, hW⟩ : ∃ w2, w1.alloc (.cells #[.int .i64 a1, .int .i64 a2] 36) = w2 := ⟨_, rfl⟩
      rw [hW] at HN
      have hs2 := HN.out.2.size
      have hs3 := HN.out.1.lt
      have HR2 := hid (HR1.out.later HN.out.2 HR1.out.lt)
      have HM2 := hid (HM1.out.later HN.out.2 HM1.out.lt)
      have HB2 := hid (HB1.out.trans (HN.out.2.mono HB1.out.size))
      have HG2 := hid HN.out.1
      clear HN HR1 HM1 HB1
      obtain ⟨g0, g1, i0, i1⟩ := fbox_facts HG2.out (Below.refl _ _)
      go_wp2_with fail
      clear hW g0 g1 i0 i1
      refine Calls.mono (HT.out _) ?_
      rintro e w3 ⟨rfl, hb⟩
      have hs4 := hb.size
      have HR3 := hid (HR2.out.later hb HR2.out.lt)
      have HM3 := hid (HM2.out.later hb HM2.out.lt)
      have HG3 := hid (HG2.out.later hb HG2.out.lt)
      have HB3 := hid (HB2.out.trans (hb.mono HB2.out.size))
      clear hb HT HR2 HM2 HB2 HG2
      obtain ⟨W, hW⟩ : ∃ W, (w3.setCell ⟨w1.heap.size, 0, none⟩ (.int .i64 x1)).setCell ⟨w1.heap.size, 1, none⟩ (.int .i64 x2) = W := ⟨_, rfl⟩
      obtain ⟨g0, g1, i0, i1⟩ := fbox_facts HG3.out (Below.refl _ _)
      have HR4 := hid (HR3.out.off2 (show w.heap.size + 1 ≠ w1.heap.size by omega) (.int .i64 x1) (.int .i64 x2))
      have HM4 := hid (HM3.out.off2 (show w.heap.size + 1 + 1 ≠ w1.heap.size by omega) (.int .i64 x1) (.int .i64 x2))
      have HG4 := hid (HG3.out.put2 (.int .i64 x1) (.int .i64 x2))
      have HB4 := hid (fput2 HB3.out w1.heap.size (by omega) (.int .i64 x1) (.int .i64 x2))
      rw [hW] at HR4 HM4 HG4 HB4
      clear HR3 HM3 HG3 HB3
      obtain ⟨m0, m1, j0, j1⟩ := fbox_facts HM4.out (Below.refl _ _)
      obtain ⟨l0, l1, _, _⟩ := fbox_facts HG4.out (Below.refl _ _)
      go_wp2_with fail
      clear hW g0 g1 i0 i1 m0 m1 j0 j1 l0 l1
      refine Calls.mono (HA.out _) ?_
      rintro e w5 ⟨rfl, hb⟩
      have HR5 := hid (HR4.out.later hb HR4.out.lt)
      have HM5 := hid (HM4.out.later hb HM4.out.lt)
      have HB5 := hid (HB4.out.trans (hb.mono HB4.out.size))
      clear hb HA HR4 HM4 HB4 HG4
      obtain ⟨m0, m1, j0, j1⟩ := fbox_facts HM5.out (Below.refl _ _)
      go_wp2_with fail
      go_roundw
      case rel => exact ⟨k + 1, y1, y2, by omega, by go_num, HEY, HR5.out.off2 (by omega) _ _, HM5.out.put2 _ _, fput2 HB5.out _ (by omega) _ _⟩
      case measure => simp [intOf]; omega
    · obtain rfl : k = 6 := by omega
      obtain ⟨c0, c1, f0, f1⟩ := fbox_facts HR.out (Below.refl _ _)
      obtain ⟨e0, e1, _, _⟩ := fbox_facts HM.out (Below.refl _ _)
      go_wp2_with fail
      refine bodyPost_ret (v := Value.tuple #[.agg #[.int .i64 p, .int .i64 q], .int .i64 0]) (by simp [results, Try.results25, go_sem, c0, c1]) rfl ?_
      exact ⟨by rw [HS.out]; rfl, fput2 HB.out _ (by omega) _ _⟩

set_option maxHeartbeats 1600000 in
set_option maxRecDepth 100000 in
theorem dototal_err (d : Nat → Int) (E : Int) (hE : (E == 0) = false) (g : Nat) (cb : Array Value) (w : World) (eg : ∀ args W, (callFunc g args).run Try.prog W = .ok (.enter g args) W)
    (HF : ∀ V, Below w.heap.size w V → Calls Try.prog g (#[.int .i64 0] ++ cb) V fun e w' => e = .returned (tT 0 0 E) ∧ Below V.heap.size V w') :
    Calls Try.prog 25 #[.agg (doA d), .func (.func g) #[] cb] w fun e w' => e = .returned (tT 0 0 E) ∧ Below w.heap.size w w' := by
  have HFF := hid HF
  have hE' : (E != 0) = true := by simp [bne, hE]
  have HX := hid (dboxes3 w 29 36 36 #[.int .i8 (d 0), .int .i8 (d 1), .int .i8 (d 2), .int .i8 (d 3), .int .i8 (d 4), .int .i8 (d 5)] #[.int .i64 0, .int .i64 0] #[.int .i64 0, .int .i64 1])
  have hi : ∀ V, (Instr.index 29 (.agg #[.int .i8 (d 0), .int .i8 (d 1), .int .i8 (d 2), .int .i8 (d 3), .int .i8 (d 4), .int .i8 (d 5)]) (.int .i64 0)).run Try.prog V = .ok (.int .i8 (d 0)) V := fun V => didx d 0 V (by decide)
  obtain ⟨X, hX⟩ : ∃ X, ((w.alloc (.cells #[.int .i8 (d 0), .int .i8 (d 1), .int .i8 (d 2), .int .i8 (d 3), .int .i8 (d 4), .int .i8 (d 5)] 29)).alloc (.cells #[.int .i64 0, .int .i64 0] 36)).alloc (.cells #[.int .i64 0, .int .i64 1] 36) = X := ⟨_, rfl⟩
  rw [hX] at HX
  have n0 : X.cell? ⟨w.heap.size, 0, none⟩ = some (.int .i8 (d 0)) := HX.out.1.cell 0
  have n1 : X.cell? ⟨w.heap.size, 1, none⟩ = some (.int .i8 (d 1)) := HX.out.1.cell 1
  have n2 : X.cell? ⟨w.heap.size, 2, none⟩ = some (.int .i8 (d 2)) := HX.out.1.cell 2
  have n3 : X.cell? ⟨w.heap.size, 3, none⟩ = some (.int .i8 (d 3)) := HX.out.1.cell 3
  have n4 : X.cell? ⟨w.heap.size, 4, none⟩ = some (.int .i8 (d 4)) := HX.out.1.cell 4
  have n5 : X.cell? ⟨w.heap.size, 5, none⟩ = some (.int .i8 (d 5)) := HX.out.1.cell 5
  clear HF
  unfold doA tT at *
  go_enter Try.func25, Try.ntmps25
  go_wp2_with fail
  clear n0 n1 n2 n3 n4 n5 hX
  refine wp_loop_rounds 2 ?_
  rw [rounds_succ]
  go_wp2_with fail
  refine Calls.mono (HFF.out X HX.out.2.2.2) ?_
  rintro e w1 ⟨rfl, hb⟩
  have hs1 := hb.size
  have hr1 := HX.out.2.1.lt
  have HR1 := hid (HX.out.2.1.later hb HX.out.2.1.lt)
  have HB1 := hid (HX.out.2.2.2.trans (hb.mono HX.out.2.2.2.size))
  have HN := hid (boxes1 w1 36 #[.int .i64 0, .int .i64 0])
  obtain ⟨w2, hW⟩ : ∃ w2, w1.alloc (.cells #[.int .i64 0, .int .i64 0] 36) = w2 := ⟨_, rfl⟩
  rw [hW] at HN
  obtain ⟨g0, g1, i0, i1⟩ := fbox_facts HN.out.1 (Below.refl _ _)
  have HR2 := hid ((HR1.out.later HN.out.2 HR1.out.lt).off2 (show w.heap.size + 1 ≠ w1.heap.size by omega) (.int .i64 0) (.int .i64 0))
  have HB2 := hid (fput2 (HB1.out.trans (HN.out.2.mono HB1.out.size)) w1.heap.size (Nat.le_trans HX.out.2.2.2.size hs1) (.int .i64 0) (.int .i64 0))
  obtain ⟨w3, hW3⟩ : ∃ w3, (w2.setCell ⟨w1.heap.size, 0, none⟩ (.int .i64 0)).setCell ⟨w1.heap.size, 1, none⟩ (.int .i64 0) = w3 := ⟨_, rfl⟩
  rw [hW3] at HR2 HB2
  clear HN HR1 HB1 hb HFF
  obtain ⟨c0, c1, f0, f1⟩ := fbox_facts HR2.out (Below.refl _ _)
  go_wp2_with fail
  refine bodyPost_ret (v := Value.tuple #[.agg #[.int .i64 0, .int .i64 0], .int .i64 E]) (by simp [results, Try.results25, go_sem, c0, c1]) rfl ?_
  exact ⟨rfl, by first | exact fput2 HB2.out _ (by omega) _ _ | exact HB2.out⟩
end Go.Proofs.Ytophmdjdjjgokaa

/- package doodson: Speed and Phase, of every six numbers and every tick. -/
namespace Go.Proofs.Ytophmdjdjjgokaa
open Go.RowKit
set_option linter.unusedVariables false

/-- A constituent's units at a tick; what a tick adds to them. -/
def dU (d : Nat → Int) (t : Nat) : Int := dS d (fun k => (agU k t : Int)) 6
def dV (d : Nat → Int) : Int := dS d (fun k => (agS k : Int)) 6
theorem dU_next (d : Nat → Int) (t : Nat) : circ (dU d (t + 1)) = circ (dU d t + dV d) := by
  have h : ∀ j, j < 6 → ∃ z : Int, (fun k => (agU k (t + 1) : Int)) j = (fun k => (agU k t : Int) + (agS k : Int)) j + z * 3600000000 := by
    intro j _
    have e1 := Nat.div_add_mod (agB j + (t + 1) * agS j) 3600000000
    have e2 := Nat.div_add_mod (agB j + t * agS j) 3600000000
    have e3 : (t + 1) * agS j = t * agS j + agS j := by rw [Nat.add_mul, Nat.one_mul]
    refine ⟨((agB j + t * agS j) / 3600000000 : Nat) - ((agB j + (t + 1) * agS j) / 3600000000 : Nat), ?_⟩
    show ((agU j (t + 1) : Nat) : Int) = ((agU j t : Nat) : Int) + ((agS j : Nat) : Int) + _
    unfold agU
    rw [e3] at e1 ⊢
    generalize t * agS j = P at *
    generalize agS j = Sx at *
    generalize agB j = Bx at *
    rw [Int.sub_mul]
    omega
  obtain ⟨z, hz⟩ := dS_mod (d := d) 6 h
  unfold dU dV
  rw [hz, circ_add, ← dS_two]

set_option maxHeartbeats 800000 in
set_option maxRecDepth 100000 in
theorem doangle_ok (k t b : Nat) (V : World) (hk : k < 6) (ht : t ≤ 1048576) (hc : V.cell? ⟨b, 0, none⟩ = some (.int .i64 (t : Int))) (hlt : b < V.heap.size) :
    Calls Try.prog 28 #[.int .i64 (k : Int), .pointer (some ⟨b, 0, none⟩)] V fun e w' => e = .returned (tV (circ (agU k t : Int))) ∧ Below V.heap.size V w' := by
  have HX := hid (boxes1 V 36 #[.int .i64 0, .int .i64 0])
  have HA := hid (fun W => agAngle_ok k t W hk ht)
  obtain ⟨p, q, e, o, v⟩ := circ_told (agU k t : Int)
  rw [show agA k t = (p, q, 0) from e, show tV (p, q, 0) = Value.tuple #[.agg #[.int .i64 p, .int .i64 q], .int .i64 0] from rfl] at HA
  rw [e, show tV (p, q, 0) = Value.tuple #[.agg #[.int .i64 p, .int .i64 q], .int .i64 0] from rfl]
  clear e o v
  obtain ⟨X, hX⟩ : ∃ X, V.alloc (.cells #[.int .i64 0, .int .i64 0] 36) = X := ⟨_, rfl⟩
  rw [hX] at HX
  have hc1 : X.cell? ⟨b, 0, none⟩ = some (.int .i64 (t : Int)) := by rw [HX.out.2.cell hlt]; exact hc
  clear hc
  go_enter Try.func28, Try.ntmps28
  go_wp2_with fail
  clear hX
  refine Calls.mono (HA.out _) ?_
  rintro e w1 ⟨rfl, hb⟩
  obtain ⟨c0, c1, f0, f1⟩ := fbox_facts HX.out.1 hb
  have HB := hid (b2 HX.out.2 hb)
  clear hb HX
  go_wp2_with fail
  refine bodyPost_ret (v := Value.tuple #[.agg #[.int .i64 p, .int .i64 q], .int .i64 0]) (by simp [results, Try.results28, go_sem, c0, c1]) rfl ?_
  exact ⟨rfl, fput2 HB.out _ (Nat.le_refl _) _ _⟩
set_option maxHeartbeats 800000 in
set_option maxRecDepth 100000 in
theorem doangle_err (t : Int) (b : Nat) (V : World) (ht : I64 t) (hn : ¬ (0 ≤ t ∧ t ≤ 1048576)) (hc : V.cell? ⟨b, 0, none⟩ = some (.int .i64 t)) (hlt : b < V.heap.size) :
    Calls Try.prog 28 #[.int .i64 0, .pointer (some ⟨b, 0, none⟩)] V fun e w' => e = .returned (tT 0 0 2) ∧ Below V.heap.size V w' := by
  have HX := hid (boxes1 V 36 #[.int .i64 0, .int .i64 0])
  have HA := hid (fun W => agAngle_err 0 t W ⟨by decide, by decide⟩ ht (fun h => hn h.2))
  unfold tT at *
  obtain ⟨X, hX⟩ : ∃ X, V.alloc (.cells #[.int .i64 0, .int .i64 0] 36) = X := ⟨_, rfl⟩
  rw [hX] at HX
  have hc1 : X.cell? ⟨b, 0, none⟩ = some (.int .i64 t) := by rw [HX.out.2.cell hlt]; exact hc
  clear hc hn
  go_enter Try.func28, Try.ntmps28
  go_wp2_with fail
  clear hX
  refine Calls.mono (HA.out _) ?_
  rintro e w1 ⟨rfl, hb⟩
  obtain ⟨c0, c1, f0, f1⟩ := fbox_facts HX.out.1 hb
  have HB := hid (b2 HX.out.2 hb)
  clear hb HX
  go_wp2_with fail
  refine bodyPost_ret (v := Value.tuple #[.agg #[.int .i64 0, .int .i64 0], .int .i64 2]) (by simp [results, Try.results28, go_sem, c0, c1]) rfl ?_
  exact ⟨rfl, by first | exact fput2 HB.out _ (Nat.le_refl _) _ _ | exact HB.out⟩

theorem box6 {w w' : World} {b t : Nat} {v0 v1 v2 v3 v4 v5 : Value} (h : FBox w b t #[v0, v1, v2, v3, v4, v5]) (hb : Below w.heap.size w w') : w'.cell? ⟨b, 0, none⟩ = some v0 ∧ w'.cell? ⟨b, 1, none⟩ = some v1 ∧ w'.cell? ⟨b, 2, none⟩ = some v2 ∧ w'.cell? ⟨b, 3, none⟩ = some v3 ∧ w'.cell? ⟨b, 4, none⟩ = some v4 ∧ w'.cell? ⟨b, 5, none⟩ = some v5 := by
  have h' := h.later hb h.lt
  exact ⟨h'.cell 0, h'.cell 1, h'.cell 2, h'.cell 3, h'.cell 4, h'.cell 5⟩
theorem free6 {w w' : World} {b t : Nat} {v0 v1 v2 v3 v4 v5 : Value} (h : FBox w b t #[v0, v1, v2, v3, v4, v5]) (hb : Below w.heap.size w w') : w'.frozen? ⟨b, 0, none⟩ = false ∧ w'.frozen? ⟨b, 1, none⟩ = false ∧ w'.frozen? ⟨b, 2, none⟩ = false ∧ w'.frozen? ⟨b, 3, none⟩ = false ∧ w'.frozen? ⟨b, 4, none⟩ = false ∧ w'.frozen? ⟨b, 5, none⟩ = false := by
  have h' := h.later hb h.lt
  exact ⟨h'.free 0, h'.free 1, h'.free 2, h'.free 3, h'.free 4, h'.free 5⟩

set_option maxHeartbeats 800000 in
set_option maxRecDepth 100000 in
theorem dospeed_ok (d : Nat → Int) (w : World) (hd : dOK d) : Calls Try.prog 10 #[.agg (doA d)] w fun e w' => e = .returned (tV (circ (dV d))) ∧ Below w.heap.size w w' := by
  have HC := hid (fun V => docheck_any d V)
  rw [dchk_ok hd] at HC
  have HT := hid (fun V => dototal_ok d (fun k => (agS k : Int)) hd 26 #[] V (enters_of Try.func26 (by kernel_rfl) rfl) (fun k hk W _ => agSpeed_ok k W hk))
  rw [show dS d (fun k => (agS k : Int)) 6 = dV d from rfl] at HT
  obtain ⟨p, q, e, o, v⟩ := circ_told (dV d)
  rw [e, show tV (p, q, 0) = Value.tuple #[.agg #[.int .i64 p, .int .i64 q], .int .i64 0] from rfl] at HT ⊢
  clear e o v hd
  have HX := hid (dboxes2 w 29 36 (doA d) #[.int .i64 0, .int .i64 0])
  obtain ⟨X, hX⟩ : ∃ X, (w.alloc (.cells (doA d) 29)).alloc (.cells #[.int .i64 0, .int .i64 0] 36) = X := ⟨_, rfl⟩
  rw [hX] at HX
  unfold doA at *
  generalize d 0 = d0 at *
  generalize d 1 = d1 at *
  generalize d 2 = d2 at *
  generalize d 3 = d3 at *
  generalize d 4 = d4 at *
  generalize d 5 = d5 at *
  obtain ⟨n0, n1, n2, n3, n4, n5⟩ := box6 HX.out.1 (Below.refl _ _)
  go_enter Try.func10, Try.ntmps10
  go_wp2_with fail
  clear hX n0 n1 n2 n3 n4 n5
  refine Calls.mono (HC.out _) ?_
  rintro e w1 ⟨rfl, hb⟩
  obtain ⟨n0, n1, n2, n3, n4, n5⟩ := box6 HX.out.1 hb
  go_wp2_with fail
  refine Calls.mono (HT.out _) ?_
  rintro e w2 ⟨rfl, hb2⟩
  obtain ⟨c0, c1, f0, f1⟩ := fbox_facts HX.out.2.1 (b2 hb hb2)
  have HB := hid (b2 HX.out.2.2 (b2 hb hb2))
  clear hb hb2 HX HC HT n0 n1 n2 n3 n4 n5
  go_wp2_with fail
  refine bodyPost_ret (v := Value.tuple #[.agg #[.int .i64 p, .int .i64 q], .int .i64 0]) (by simp [results, Try.results10, go_sem, c0, c1]) rfl ?_
  exact ⟨rfl, fput2 HB.out _ (by omega) _ _⟩
set_option maxHeartbeats 800000 in
set_option maxRecDepth 100000 in
theorem dospeed_err (d : Nat → Int) (w : World) (hd : ¬ dOK d) : Calls Try.prog 10 #[.agg (doA d)] w fun e w' => e = .returned (tT 0 0 210) ∧ Below w.heap.size w w' := by
  have HC := hid (fun V => docheck_any d V)
  rw [dchk_no hd] at HC
  have HX := hid (dboxes2 w 29 36 (doA d) #[.int .i64 0, .int .i64 0])
  obtain ⟨X, hX⟩ : ∃ X, (w.alloc (.cells (doA d) 29)).alloc (.cells #[.int .i64 0, .int .i64 0] 36) = X := ⟨_, rfl⟩
  rw [hX] at HX
  clear hd
  unfold tT
  unfold doA at *
  generalize d 0 = d0 at *
  generalize d 1 = d1 at *
  generalize d 2 = d2 at *
  generalize d 3 = d3 at *
  generalize d 4 = d4 at *
  generalize d 5 = d5 at *
  obtain ⟨n0, n1, n2, n3, n4, n5⟩ := box6 HX.out.1 (Below.refl _ _)
  go_enter Try.func10, Try.ntmps10
  go_wp2_with fail
  clear hX n0 n1 n2 n3 n4 n5
  refine Calls.mono (HC.out _) ?_
  rintro e w1 ⟨rfl, hb⟩
  obtain ⟨c0, c1, f0, f1⟩ := fbox_facts HX.out.2.1 hb
  have HB := hid (b2 HX.out.2.2 hb)
  clear hb HX HC
  go_wp2_with fail
  refine bodyPost_ret (v := Value.tuple #[.agg #[.int .i64 0, .int .i64 0], .int .i64 210]) (by simp [results, Try.results10, go_sem, c0, c1]) rfl ?_
  exact ⟨rfl, by first | exact fput2 HB.out _ (by omega) _ _ | exact HB.out⟩

set_option maxHeartbeats 800000 in
set_option maxRecDepth 100000 in
theorem dophase_ok (d : Nat → Int) (t : Nat) (w : World) (hd : dOK d) (ht : t ≤ 1048576) : Calls Try.prog 15 #[.agg (doA d), .int .i64 (t : Int)] w fun e w' => e = .returned (tV (circ (dU d t))) ∧ Below w.heap.size w w' := by
  have HC := hid (fun V => docheck_any d V)
  rw [dchk_ok hd] at HC
  have HT := hid (fun (b : Nat) V (hc : V.cell? ⟨b, 0, none⟩ = some (.int .i64 (t : Int))) (hlt : b < V.heap.size) => dototal_ok d (fun k => (agU k t : Int)) hd 28 #[.pointer (some ⟨b, 0, none⟩)] V (enters_of Try.func28 (by kernel_rfl) rfl) (fun k hk W hW => doangle_ok k t b W hk ht ((hW.cell hlt).trans hc) (Nat.lt_of_lt_of_le hlt hW.size)))
  rw [show dS d (fun k => (agU k t : Int)) 6 = dU d t from rfl] at HT
  obtain ⟨p, q, e, o, v⟩ := circ_told (dU d t)
  rw [e, show tV (p, q, 0) = Value.tuple #[.agg #[.int .i64 p, .int .i64 q], .int .i64 0] from rfl] at HT ⊢
  clear e o v hd ht
  have HX := hid (dboxes3 w 29 3 36 (doA d) #[.int .i64 (t : Int)] #[.int .i64 0, .int .i64 0])
  obtain ⟨X, hX⟩ : ∃ X, ((w.alloc (.cells (doA d) 29)).alloc (.cells #[.int .i64 (t : Int)] 3)).alloc (.cells #[.int .i64 0, .int .i64 0] 36) = X := ⟨_, rfl⟩
  rw [hX] at HX
  unfold doA at *
  generalize d 0 = d0 at *
  generalize d 1 = d1 at *
  generalize d 2 = d2 at *
  generalize d 3 = d3 at *
  generalize d 4 = d4 at *
  generalize d 5 = d5 at *
  obtain ⟨n0, n1, n2, n3, n4, n5⟩ := box6 HX.out.1 (Below.refl _ _)
  go_enter Try.func15, Try.ntmps15
  go_wp2_with fail
  clear hX n0 n1 n2 n3 n4 n5
  refine Calls.mono (HC.out _) ?_
  rintro e w1 ⟨rfl, hb⟩
  obtain ⟨n0, n1, n2, n3, n4, n5⟩ := box6 HX.out.1 hb
  have ct : w1.cell? ⟨w.heap.size + 1, 0, none⟩ = some (.int .i64 (t : Int)) := (HX.out.2.1.later hb HX.out.2.1.lt).cell 0
  have hl := (HX.out.2.1.later hb HX.out.2.1.lt).lt
  have HT1 := hid (HT.out (w.heap.size + 1) w1 ct hl)
  go_wp2_with fail
  refine Calls.mono HT1.out ?_
  rintro e w2 ⟨rfl, hb2⟩
  obtain ⟨c0, c1, f0, f1⟩ := fbox_facts HX.out.2.2.1 (b2 hb hb2)
  have HB := hid (b2 HX.out.2.2.2 (b2 hb hb2))
  clear hb hb2 HX HC HT HT1 n0 n1 n2 n3 n4 n5 ct
  go_wp2_with fail
  refine bodyPost_ret (v := Value.tuple #[.agg #[.int .i64 p, .int .i64 q], .int .i64 0]) (by simp [results, Try.results15, go_sem, c0, c1]) rfl ?_
  exact ⟨rfl, fput2 HB.out _ (by omega) _ _⟩
set_option maxHeartbeats 800000 in
set_option maxRecDepth 100000 in
theorem dophase_tick (d : Nat → Int) (t : Int) (w : World) (hd : dOK d) (ht : I64 t) (hn : ¬ (0 ≤ t ∧ t ≤ 1048576)) : Calls Try.prog 15 #[.agg (doA d), .int .i64 t] w fun e w' => e = .returned (tT 0 0 2) ∧ Below w.heap.size w w' := by
  have HC := hid (fun V => docheck_any d V)
  rw [dchk_ok hd] at HC
  have HT := hid (fun (b : Nat) V (hc : V.cell? ⟨b, 0, none⟩ = some (.int .i64 t)) (hlt : b < V.heap.size) => dototal_err d 2 rfl 28 #[.pointer (some ⟨b, 0, none⟩)] V (enters_of Try.func28 (by kernel_rfl) rfl) (fun W hW => doangle_err t b W ht hn ((hW.cell hlt).trans hc) (Nat.lt_of_lt_of_le hlt hW.size)))
  clear hd ht hn
  unfold tT at *
  have HX := hid (dboxes3 w 29 3 36 (doA d) #[.int .i64 t] #[.int .i64 0, .int .i64 0])
  obtain ⟨X, hX⟩ : ∃ X, ((w.alloc (.cells (doA d) 29)).alloc (.cells #[.int .i64 t] 3)).alloc (.cells #[.int .i64 0, .int .i64 0] 36) = X := ⟨_, rfl⟩
  rw [hX] at HX
  unfold doA at *
  generalize d 0 = d0 at *
  generalize d 1 = d1 at *
  generalize d 2 = d2 at *
  generalize d 3 = d3 at *
  generalize d 4 = d4 at *
  generalize d 5 = d5 at *
  obtain ⟨n0, n1, n2, n3, n4, n5⟩ := box6 HX.out.1 (Below.refl _ _)
  go_enter Try.func15, Try.ntmps15
  go_wp2_with fail
  clear hX n0 n1 n2 n3 n4 n5
  refine Calls.mono (HC.out _) ?_
  rintro e w1 ⟨rfl, hb⟩
  obtain ⟨n0, n1, n2, n3, n4, n5⟩ := box6 HX.out.1 hb
  have ct : w1.cell? ⟨w.heap.size + 1, 0, none⟩ = some (.int .i64 t) := (HX.out.2.1.later hb HX.out.2.1.lt).cell 0
  have hl := (HX.out.2.1.later hb HX.out.2.1.lt).lt
  have HT1 := hid (HT.out (w.heap.size + 1) w1 ct hl)
  go_wp2_with fail
  refine Calls.mono HT1.out ?_
  rintro e w2 ⟨rfl, hb2⟩
  obtain ⟨c0, c1, f0, f1⟩ := fbox_facts HX.out.2.2.1 (b2 hb hb2)
  have HB := hid (b2 HX.out.2.2.2 (b2 hb hb2))
  clear hb hb2 HX HC HT HT1 n0 n1 n2 n3 n4 n5 ct
  go_wp2_with fail
  refine bodyPost_ret (v := Value.tuple #[.agg #[.int .i64 0, .int .i64 0], .int .i64 2]) (by simp [results, Try.results15, go_sem, c0, c1]) rfl ?_
  exact ⟨rfl, by first | exact fput2 HB.out _ (by omega) _ _ | exact HB.out⟩
set_option maxHeartbeats 800000 in
set_option maxRecDepth 100000 in
theorem dophase_err (d : Nat → Int) (t : Int) (w : World) (hd : ¬ dOK d) : Calls Try.prog 15 #[.agg (doA d), .int .i64 t] w fun e w' => e = .returned (tT 0 0 210) ∧ Below w.heap.size w w' := by
  have HC := hid (fun V => docheck_any d V)
  rw [dchk_no hd] at HC
  clear hd
  unfold tT at *
  have HX := hid (dboxes3 w 29 3 36 (doA d) #[.int .i64 t] #[.int .i64 0, .int .i64 0])
  obtain ⟨X, hX⟩ : ∃ X, ((w.alloc (.cells (doA d) 29)).alloc (.cells #[.int .i64 t] 3)).alloc (.cells #[.int .i64 0, .int .i64 0] 36) = X := ⟨_, rfl⟩
  rw [hX] at HX
  unfold doA at *
  generalize d 0 = d0 at *
  generalize d 1 = d1 at *
  generalize d 2 = d2 at *
  generalize d 3 = d3 at *
  generalize d 4 = d4 at *
  generalize d 5 = d5 at *
  obtain ⟨n0, n1, n2, n3, n4, n5⟩ := box6 HX.out.1 (Below.refl _ _)
  go_enter Try.func15, Try.ntmps15
  go_wp2_with fail
  clear hX n0 n1 n2 n3 n4 n5
  refine Calls.mono (HC.out _) ?_
  rintro e w1 ⟨rfl, hb⟩
  obtain ⟨c0, c1, f0, f1⟩ := fbox_facts HX.out.2.2.1 hb
  have HB := hid (b2 HX.out.2.2.2 hb)
  clear hb HX HC
  go_wp2_with fail
  refine bodyPost_ret (v := Value.tuple #[.agg #[.int .i64 0, .int .i64 0], .int .i64 210]) (by simp [results, Try.results15, go_sem, c0, c1]) rfl ?_
  exact ⟨rfl, by first | exact fput2 HB.out _ (by omega) _ _ | exact HB.out⟩
end Go.Proofs.Ytophmdjdjjgokaa

/- package doodson: products, quotients, conjugates. -/
namespace Go.Proofs.Ytophmdjdjjgokaa
open Go.RowKit
set_option linter.unusedVariables false

/-- Numbers together, number by number. -/
def dJ (a b : Nat → Int) (s : Int) (j : Nat) : Int := a j + s * b j
/-- The first k of them done. -/
def dM (a b : Nat → Int) (s : Int) (k j : Nat) : Int := if j < k then a j + s * b j else a j
theorem dM_zero (a b : Nat → Int) (s : Int) : doA (dM a b s 0) = doA a := rfl
theorem dM_six (a b : Nat → Int) (s : Int) : doA (dM a b s 6) = doA (dJ a b s) := rfl
theorem dM_at (a b : Nat → Int) (s : Int) (k : Nat) (hk : k < 6) : (doA (dM a b s k))[k]? = some (.int .i8 (a k)) := by
  rcases (show k = 0 ∨ k = 1 ∨ k = 2 ∨ k = 3 ∨ k = 4 ∨ k = 5 by omega) with rfl | rfl | rfl | rfl | rfl | rfl <;> rfl
theorem dM_set (a b : Nat → Int) (s : Int) (k : Nat) (hk : k < 6) : (doA (dM a b s k)).setIfInBounds k (.int .i8 (a k + s * b k)) = doA (dM a b s (k + 1)) := by
  rcases (show k = 0 ∨ k = 1 ∨ k = 2 ∨ k = 3 ∨ k = 4 ∨ k = 5 by omega) with rfl | rfl | rfl | rfl | rfl | rfl <;> rfl

theorem wrap8 {n : Int} (h0 : -128 ≤ n) (h1 : n ≤ 127) : IntKind.i8.wrap n = n := by
  simp [IntKind.wrap, IntKind.bits, IntKind.signed]
  split <;> omega
theorem didxa (b k : Nat) (w : World) (hk : k < 6) : (Instr.indexAt 29 (.pointer (some ⟨b, 0, none⟩)) (.int .i64 (k : Int))).run Try.prog w = .ok (.pointer (some ⟨b, k, none⟩)) w := by
  rcases (show k = 0 ∨ k = 1 ∨ k = 2 ∨ k = 3 ∨ k = 4 ∨ k = 5 by omega) with rfl | rfl | rfl | rfl | rfl | rfl
  · kernel_rfl
  · kernel_rfl
  · kernel_rfl
  · kernel_rfl
  · kernel_rfl
  · kernel_rfl

theorem dput6 {B : Nat} {a w : World} (h : Below B a w) (b : Nat) (hb : B ≤ b) (v0 v1 v2 v3 v4 v5 : Value) : Below B a ((((((w.setCell ⟨b, 0, none⟩ v0).setCell ⟨b, 1, none⟩ v1).setCell ⟨b, 2, none⟩ v2).setCell ⟨b, 3, none⟩ v3).setCell ⟨b, 4, none⟩ v4).setCell ⟨b, 5, none⟩ v5) :=
  (((((h.setCell (p := ⟨b, 0, none⟩) hb _).setCell (p := ⟨b, 1, none⟩) hb _).setCell (p := ⟨b, 2, none⟩) hb _).setCell (p := ⟨b, 3, none⟩) hb _).setCell (p := ⟨b, 4, none⟩) hb _).setCell (p := ⟨b, 5, none⟩) hb _

set_option maxHeartbeats 1600000 in
set_option maxRecDepth 100000 in
theorem dojoin_ok (a b : Nat → Int) (s : Int) (w : World) (ha : dOK a) (hb : dOK b) (hs : s = 1 ∨ s = -1) (hj : dOK (dJ a b s)) :
    Calls Try.prog 27 #[.agg (doA a), .agg (doA b), .int .i8 s] w fun e w' => e = .returned (.tuple #[.agg (doA (dJ a b s)), .int .i64 0]) ∧ Below w.heap.size w w' := by
  have HCa := hid (fun V => docheck_any a V)
  rw [dchk_ok ha] at HCa
  have HCb := hid (fun V => docheck_any b V)
  rw [dchk_ok hb] at HCb
  have HCj := hid (fun V => docheck_any (dJ a b s) V)
  rw [dchk_ok hj] at HCj
  have HI : Hid (∀ k : Nat, k < 6 → ∀ V, (Instr.index 29 (.agg (doA b)) (.int .i64 (k : Int))).run Try.prog V = .ok (.int .i8 (b k)) V) := fun k hk V => didx b k V hk
  have HX := hid (dboxes3 w 29 29 29 (doA a) (doA b) #[.int .i8 0, .int .i8 0, .int .i8 0, .int .i8 0, .int .i8 0, .int .i8 0])
  obtain ⟨X, hX⟩ : ∃ X, ((w.alloc (.cells (doA a) 29)).alloc (.cells (doA b) 29)).alloc (.cells #[.int .i8 0, .int .i8 0, .int .i8 0, .int .i8 0, .int .i8 0, .int .i8 0] 29) = X := ⟨_, rfl⟩
  rw [hX] at HX
  have HAB : Hid (∀ k : Nat, k < 6 → (-4 ≤ a k ∧ a k ≤ 4) ∧ -4 ≤ s * b k ∧ s * b k ≤ 4) := fun k hk => ⟨ha k hk, by have := hb k hk; rcases hs with rfl | rfl <;> omega⟩
  clear ha hb hs hj
  obtain ⟨n0, n1, n2, n3, n4, n5⟩ := box6 HX.out.1 (Below.refl _ _)
  rw [show doA a = #[.int .i8 (a 0), .int .i8 (a 1), .int .i8 (a 2), .int .i8 (a 3), .int .i8 (a 4), .int .i8 (a 5)] from rfl, show doA b = #[.int .i8 (b 0), .int .i8 (b 1), .int .i8 (b 2), .int .i8 (b 3), .int .i8 (b 4), .int .i8 (b 5)] from rfl] at *
  go_enter Try.func27, Try.ntmps27
  go_wp2_with fail
  clear hX n0 n1 n2 n3 n4 n5
  refine Calls.mono (HCa.out _) ?_
  rintro e w1 ⟨rfl, hb⟩
  have HX1 := hid (HX.out.1.later hb HX.out.1.lt)
  have HY1 := hid (HX.out.2.1.later hb HX.out.2.1.lt)
  have HZ1 := hid (HX.out.2.2.1.later hb HX.out.2.2.1.lt)
  have HB1 := hid (b2 HX.out.2.2.2 hb)
  clear hb HX HCa
  obtain ⟨n0, n1, n2, n3, n4, n5⟩ := box6 HY1.out (Below.refl _ _)
  go_wp2_with fail
  clear n0 n1 n2 n3 n4 n5
  refine Calls.mono (HCb.out _) ?_
  rintro e w2 ⟨rfl, hb⟩
  have HX2 := hid (HX1.out.later hb HX1.out.lt)
  have HY2 := hid (HY1.out.later hb HY1.out.lt)
  have HZ2 := hid (HZ1.out.later hb HZ1.out.lt)
  have HB2 := hid (b2 HB1.out hb)
  clear hb HX1 HY1 HZ1 HB1 HCb
  obtain ⟨n0, n1, n2, n3, n4, n5⟩ := box6 HY2.out (Below.refl _ _)
  go_wp2_with fail
  clear n0 n1 n2 n3 n4 n5
  go_loopw [26] (fun x wr => ∃ k : Nat, k ≤ 6 ∧ x = .int .i64 (k : Int) ∧ Hid (FBox wr w.heap.size 29 (doA (dM a b s k))) ∧ Hid (FBox wr (w.heap.size + 1 + 1) 29 #[.int .i8 0, .int .i8 0, .int .i8 0, .int .i8 0, .int .i8 0, .int .i8 0]) ∧ Hid (Below w.heap.size w wr)) (fun x _ => 6 - (intOf x).toNat)
  case atStart => exact ⟨0, by decide, rfl, HX2, HZ2, HB2⟩
  case round =>
    obtain ⟨k, hk, rfl, HA, HZ, HB⟩ := hrel
    by_cases hlt : k < 6
    · have hi := HI.out k hlt
      have hia := fun V => didxa w.heap.size k V hlt
      obtain ⟨⟨p0, p1⟩, q0, q1⟩ := HAB.out k hlt
      have HS := hid (dM_set a b s k hlt)
      have hc : wr.cell? ⟨w.heap.size, k, none⟩ = some (.int .i8 (a k)) := (HA.out.cell k).trans (dM_at a b s k hlt)
      have hf := HA.out.free k
      obtain ⟨P, hP⟩ : ∃ P, s * b k = P := ⟨_, rfl⟩
      rw [hP] at q0 q1 HS
      have e1 : IntKind.i8.wrap P = P := wrap8 (by omega) (by omega)
      have e2 : IntKind.i8.wrap (a k + P) = a k + P := wrap8 (by omega) (by omega)
      go_wp2_with fail
      go_roundw
      case rel =>
        refine ⟨k + 1, by omega, by go_num, ?_, HZ.out.off (by omega) _ _, HB.out.setCell (p := ⟨w.heap.size, k, none⟩) (Nat.le_refl _) _⟩
        have e := HA.out.set k (.int .i8 (a k + P))
        rw [HS.out] at e
        exact e
      case measure => simp [intOf]; omega
    · obtain rfl : k = 6 := by omega
      clear HI HAB HX2 HY2 HZ2 HB2
      rw [dM_six] at HA
      have HJE : Hid (doA (dJ a b s) = #[.int .i8 (dJ a b s 0), .int .i8 (dJ a b s 1), .int .i8 (dJ a b s 2), .int .i8 (dJ a b s 3), .int .i8 (dJ a b s 4), .int .i8 (dJ a b s 5)]) := rfl
      rw [HJE.out] at HA HCj
      generalize dJ a b s 0 = j0 at HA HCj HJE
      generalize dJ a b s 1 = j1 at HA HCj HJE
      generalize dJ a b s 2 = j2 at HA HCj HJE
      generalize dJ a b s 3 = j3 at HA HCj HJE
      generalize dJ a b s 4 = j4 at HA HCj HJE
      generalize dJ a b s 5 = j5 at HA HCj HJE
      obtain ⟨n0, n1, n2, n3, n4, n5⟩ := box6 HA.out (Below.refl _ _)
      go_wp2_with fail
      clear n0 n1 n2 n3 n4 n5
      refine Calls.mono (HCj.out _) ?_
      rintro e w3 ⟨rfl, hb⟩
      have HA3 := hid (HA.out.later hb HA.out.lt)
      have HZ3 := hid (HZ.out.later hb HZ.out.lt)
      have HB3 := hid (HB.out.trans (hb.mono HB.out.size))
      clear hb HA HZ HB HCj
      obtain ⟨n0, n1, n2, n3, n4, n5⟩ := box6 HA3.out (Below.refl _ _)
      obtain ⟨m0, m1, m2, m3, m4, m5⟩ := box6 HZ3.out (Below.refl _ _)
      obtain ⟨f0, f1, f2, f3, f4, f5⟩ := free6 HZ3.out (Below.refl _ _)
      have HR := hid (HZ3.out.put6 (.int .i8 j0) (.int .i8 j1) (.int .i8 j2) (.int .i8 j3) (.int .i8 j4) (.int .i8 j5))
      have HBR := hid (dput6 HB3.out (w.heap.size + 1 + 1) (by omega) (.int .i8 j0) (.int .i8 j1) (.int .i8 j2) (.int .i8 j3) (.int .i8 j4) (.int .i8 j5))
      obtain ⟨W, hW⟩ : ∃ W, (((((w3.setCell ⟨w.heap.size + 1 + 1, 0, none⟩ (.int .i8 j0)).setCell ⟨w.heap.size + 1 + 1, 1, none⟩ (.int .i8 j1)).setCell ⟨w.heap.size + 1 + 1, 2, none⟩ (.int .i8 j2)).setCell ⟨w.heap.size + 1 + 1, 3, none⟩ (.int .i8 j3)).setCell ⟨w.heap.size + 1 + 1, 4, none⟩ (.int .i8 j4)).setCell ⟨w.heap.size + 1 + 1, 5, none⟩ (.int .i8 j5) = W := ⟨_, rfl⟩
      rw [hW] at HR HBR
      clear HZ3 HB3 HA3
      go_wp2_with fail
      clear hW m0 m1 m2 m3 m4 m5 n0 n1 n2 n3 n4 n5 f0 f1 f2 f3 f4 f5
      obtain ⟨n0, n1, n2, n3, n4, n5⟩ := box6 HR.out (Below.refl _ _)
      refine bodyPost_ret (v := Value.tuple #[.agg #[.int .i8 j0, .int .i8 j1, .int .i8 j2, .int .i8 j3, .int .i8 j4, .int .i8 j5], .int .i64 0]) (by simp [results, Try.results27, go_sem, n0, n1, n2, n3, n4, n5]) rfl ?_
      exact ⟨by rw [HJE.out], HBR.out⟩
set_option maxHeartbeats 1600000 in
set_option maxRecDepth 100000 in
theorem dojoin_big (a b : Nat → Int) (s : Int) (w : World) (ha : dOK a) (hb : dOK b) (hs : s = 1 ∨ s = -1) (hj : ¬ dOK (dJ a b s)) :
    Calls Try.prog 27 #[.agg (doA a), .agg (doA b), .int .i8 s] w fun e w' => e = .returned (.tuple #[.agg (doA (fun _ => 0)), .int .i64 210]) ∧ Below w.heap.size w w' := by
  have HCa := hid (fun V => docheck_any a V)
  rw [dchk_ok ha] at HCa
  have HCb := hid (fun V => docheck_any b V)
  rw [dchk_ok hb] at HCb
  have HCj := hid (fun V => docheck_any (dJ a b s) V)
  rw [dchk_no hj] at HCj
  have HI : Hid (∀ k : Nat, k < 6 → ∀ V, (Instr.index 29 (.agg (doA b)) (.int .i64 (k : Int))).run Try.prog V = .ok (.int .i8 (b k)) V) := fun k hk V => didx b k V hk
  have HX := hid (dboxes3 w 29 29 29 (doA a) (doA b) #[.int .i8 0, .int .i8 0, .int .i8 0, .int .i8 0, .int .i8 0, .int .i8 0])
  obtain ⟨X, hX⟩ : ∃ X, ((w.alloc (.cells (doA a) 29)).alloc (.cells (doA b) 29)).alloc (.cells #[.int .i8 0, .int .i8 0, .int .i8 0, .int .i8 0, .int .i8 0, .int .i8 0] 29) = X := ⟨_, rfl⟩
  rw [hX] at HX
  have HAB : Hid (∀ k : Nat, k < 6 → (-4 ≤ a k ∧ a k ≤ 4) ∧ -4 ≤ s * b k ∧ s * b k ≤ 4) := fun k hk => ⟨ha k hk, by have := hb k hk; rcases hs with rfl | rfl <;> omega⟩
  clear ha hb hs hj
  obtain ⟨n0, n1, n2, n3, n4, n5⟩ := box6 HX.out.1 (Below.refl _ _)
  rw [show doA a = #[.int .i8 (a 0), .int .i8 (a 1), .int .i8 (a 2), .int .i8 (a 3), .int .i8 (a 4), .int .i8 (a 5)] from rfl, show doA b = #[.int .i8 (b 0), .int .i8 (b 1), .int .i8 (b 2), .int .i8 (b 3), .int .i8 (b 4), .int .i8 (b 5)] from rfl] at *
  go_enter Try.func27, Try.ntmps27
  go_wp2_with fail
  clear hX n0 n1 n2 n3 n4 n5
  refine Calls.mono (HCa.out _) ?_
  rintro e w1 ⟨rfl, hb⟩
  have HX1 := hid (HX.out.1.later hb HX.out.1.lt)
  have HY1 := hid (HX.out.2.1.later hb HX.out.2.1.lt)
  have HZ1 := hid (HX.out.2.2.1.later hb HX.out.2.2.1.lt)
  have HB1 := hid (b2 HX.out.2.2.2 hb)
  clear hb HX HCa
  obtain ⟨n0, n1, n2, n3, n4, n5⟩ := box6 HY1.out (Below.refl _ _)
  go_wp2_with fail
  clear n0 n1 n2 n3 n4 n5
  refine Calls.mono (HCb.out _) ?_
  rintro e w2 ⟨rfl, hb⟩
  have HX2 := hid (HX1.out.later hb HX1.out.lt)
  have HY2 := hid (HY1.out.later hb HY1.out.lt)
  have HZ2 := hid (HZ1.out.later hb HZ1.out.lt)
  have HB2 := hid (b2 HB1.out hb)
  clear hb HX1 HY1 HZ1 HB1 HCb
  obtain ⟨n0, n1, n2, n3, n4, n5⟩ := box6 HY2.out (Below.refl _ _)
  go_wp2_with fail
  clear n0 n1 n2 n3 n4 n5
  go_loopw [26] (fun x wr => ∃ k : Nat, k ≤ 6 ∧ x = .int .i64 (k : Int) ∧ Hid (FBox wr w.heap.size 29 (doA (dM a b s k))) ∧ Hid (FBox wr (w.heap.size + 1 + 1) 29 #[.int .i8 0, .int .i8 0, .int .i8 0, .int .i8 0, .int .i8 0, .int .i8 0]) ∧ Hid (Below w.heap.size w wr)) (fun x _ => 6 - (intOf x).toNat)
  case atStart => exact ⟨0, by decide, rfl, HX2, HZ2, HB2⟩
  case round =>
    obtain ⟨k, hk, rfl, HA, HZ, HB⟩ := hrel
    by_cases hlt : k < 6
    · have hi := HI.out k hlt
      have hia := fun V => didxa w.heap.size k V hlt
      obtain ⟨⟨p0, p1⟩, q0, q1⟩ := HAB.out k hlt
      have HS := hid (dM_set a b s k hlt)
      have hc : wr.cell? ⟨w.heap.size, k, none⟩ = some (.int .i8 (a k)) := (HA.out.cell k).trans (dM_at a b s k hlt)
      have hf := HA.out.free k
      obtain ⟨P, hP⟩ : ∃ P, s * b k = P := ⟨_, rfl⟩
      rw [hP] at q0 q1 HS
      have e1 : IntKind.i8.wrap P = P := wrap8 (by omega) (by omega)
      have e2 : IntKind.i8.wrap (a k + P) = a k + P := wrap8 (by omega) (by omega)
      go_wp2_with fail
      go_roundw
      case rel =>
        refine ⟨k + 1, by omega, by go_num, ?_, HZ.out.off (by omega) _ _, HB.out.setCell (p := ⟨w.heap.size, k, none⟩) (Nat.le_refl _) _⟩
        have e := HA.out.set k (.int .i8 (a k + P))
        rw [HS.out] at e
        exact e
      case measure => simp [intOf]; omega
    · obtain rfl : k = 6 := by omega
      clear HI HAB HX2 HY2 HZ2 HB2
      rw [dM_six] at HA
      have HJE : Hid (doA (dJ a b s) = #[.int .i8 (dJ a b s 0), .int .i8 (dJ a b s 1), .int .i8 (dJ a b s 2), .int .i8 (dJ a b s 3), .int .i8 (dJ a b s 4), .int .i8 (dJ a b s 5)]) := rfl
      rw [HJE.out] at HA HCj
      generalize dJ a b s 0 = j0 at HA HCj HJE
      generalize dJ a b s 1 = j1 at HA HCj HJE
      generalize dJ a b s 2 = j2 at HA HCj HJE
      generalize dJ a b s 3 = j3 at HA HCj HJE
      generalize dJ a b s 4 = j4 at HA HCj HJE
      generalize dJ a b s 5 = j5 at HA HCj HJE
      obtain ⟨n0, n1, n2, n3, n4, n5⟩ := box6 HA.out (Below.refl _ _)
      go_wp2_with fail
      clear n0 n1 n2 n3 n4 n5
      refine Calls.mono (HCj.out _) ?_
      rintro e w3 ⟨rfl, hb⟩
      have HA3 := hid (HA.out.later hb HA.out.lt)
      have HZ3 := hid (HZ.out.later hb HZ.out.lt)
      have HB3 := hid (HB.out.trans (hb.mono HB.out.size))
      clear hb HA HZ HB HCj
      obtain ⟨m0, m1, m2, m3, m4, m5⟩ := box6 HZ3.out (Below.refl _ _)
      obtain ⟨f0, f1, f2, f3, f4, f5⟩ := free6 HZ3.out (Below.refl _ _)
      have HR := hid (HZ3.out.put6 (.int .i8 0) (.int .i8 0) (.int .i8 0) (.int .i8 0) (.int .i8 0) (.int .i8 0))
      have HBR := hid (dput6 HB3.out (w.heap.size + 1 + 1) (by omega) (.int .i8 0) (.int .i8 0) (.int .i8 0) (.int .i8 0) (.int .i8 0) (.int .i8 0))
      obtain ⟨W, hW⟩ : ∃ W, (((((w3.setCell ⟨w.heap.size + 1 + 1, 0, none⟩ (.int .i8 0)).setCell ⟨w.heap.size + 1 + 1, 1, none⟩ (.int .i8 0)).setCell ⟨w.heap.size + 1 + 1, 2, none⟩ (.int .i8 0)).setCell ⟨w.heap.size + 1 + 1, 3, none⟩ (.int .i8 0)).setCell ⟨w.heap.size + 1 + 1, 4, none⟩ (.int .i8 0)).setCell ⟨w.heap.size + 1 + 1, 5, none⟩ (.int .i8 0) = W := ⟨_, rfl⟩
      rw [hW] at HR HBR
      clear HZ3 HB3 HA3
      go_wp2_with fail
      clear hW m0 m1 m2 m3 m4 m5 f0 f1 f2 f3 f4 f5
      obtain ⟨n0, n1, n2, n3, n4, n5⟩ := box6 HR.out (Below.refl _ _)
      refine bodyPost_ret (v := Value.tuple #[.agg #[.int .i8 0, .int .i8 0, .int .i8 0, .int .i8 0, .int .i8 0, .int .i8 0], .int .i64 210]) (by simp [results, Try.results27, go_sem, n0, n1, n2, n3, n4, n5]) rfl ?_
      exact ⟨rfl, HBR.out⟩
set_option maxHeartbeats 1600000 in
set_option maxRecDepth 100000 in
theorem dojoin_b (a b : Nat → Int) (s : Int) (w : World) (ha : dOK a) (hb : ¬ dOK b) :
    Calls Try.prog 27 #[.agg (doA a), .agg (doA b), .int .i8 s] w fun e w' => e = .returned (.tuple #[.agg (doA (fun _ => 0)), .int .i64 210]) ∧ Below w.heap.size w w' := by
  have HCa := hid (fun V => docheck_any a V)
  rw [dchk_ok ha] at HCa
  have HCb := hid (fun V => docheck_any b V)
  rw [dchk_no hb] at HCb
  have HX := hid (dboxes3 w 29 29 29 (doA a) (doA b) #[.int .i8 0, .int .i8 0, .int .i8 0, .int .i8 0, .int .i8 0, .int .i8 0])
  obtain ⟨X, hX⟩ : ∃ X, ((w.alloc (.cells (doA a) 29)).alloc (.cells (doA b) 29)).alloc (.cells #[.int .i8 0, .int .i8 0, .int .i8 0, .int .i8 0, .int .i8 0, .int .i8 0] 29) = X := ⟨_, rfl⟩
  rw [hX] at HX
  clear ha hb
  obtain ⟨n0, n1, n2, n3, n4, n5⟩ := box6 HX.out.1 (Below.refl _ _)
  rw [show doA a = #[.int .i8 (a 0), .int .i8 (a 1), .int .i8 (a 2), .int .i8 (a 3), .int .i8 (a 4), .int .i8 (a 5)] from rfl, show doA b = #[.int .i8 (b 0), .int .i8 (b 1), .int .i8 (b 2), .int .i8 (b 3), .int .i8 (b 4), .int .i8 (b 5)] from rfl] at *
  go_enter Try.func27, Try.ntmps27
  go_wp2_with fail
  clear hX n0 n1 n2 n3 n4 n5
  refine Calls.mono (HCa.out _) ?_
  rintro e w1 ⟨rfl, hb⟩
  have HX1 := hid (HX.out.1.later hb HX.out.1.lt)
  have HY1 := hid (HX.out.2.1.later hb HX.out.2.1.lt)
  have HZ1 := hid (HX.out.2.2.1.later hb HX.out.2.2.1.lt)
  have HB1 := hid (b2 HX.out.2.2.2 hb)
  clear hb HX HCa
  obtain ⟨n0, n1, n2, n3, n4, n5⟩ := box6 HY1.out (Below.refl _ _)
  go_wp2_with fail
  clear n0 n1 n2 n3 n4 n5
  refine Calls.mono (HCb.out _) ?_
  rintro e w2 ⟨rfl, hb⟩
  have HX2 := hid (HX1.out.later hb HX1.out.lt)
  have HY2 := hid (HY1.out.later hb HY1.out.lt)
  have HZ2 := hid (HZ1.out.later hb HZ1.out.lt)
  have HB2 := hid (b2 HB1.out hb)
  clear hb HX1 HY1 HZ1 HB1 HCb
  obtain ⟨m0, m1, m2, m3, m4, m5⟩ := box6 HZ2.out (Below.refl _ _)
  obtain ⟨f0, f1, f2, f3, f4, f5⟩ := free6 HZ2.out (Below.refl _ _)
  have HR := hid (HZ2.out.put6 (.int .i8 0) (.int .i8 0) (.int .i8 0) (.int .i8 0) (.int .i8 0) (.int .i8 0))
  have HBR := hid (dput6 HB2.out (w.heap.size + 1 + 1) (by omega) (.int .i8 0) (.int .i8 0) (.int .i8 0) (.int .i8 0) (.int .i8 0) (.int .i8 0))
  obtain ⟨W, hW⟩ : ∃ W, (((((w2.setCell ⟨w.heap.size + 1 + 1, 0, none⟩ (.int .i8 0)).setCell ⟨w.heap.size + 1 + 1, 1, none⟩ (.int .i8 0)).setCell ⟨w.heap.size + 1 + 1, 2, none⟩ (.int .i8 0)).setCell ⟨w.heap.size + 1 + 1, 3, none⟩ (.int .i8 0)).setCell ⟨w.heap.size + 1 + 1, 4, none⟩ (.int .i8 0)).setCell ⟨w.heap.size + 1 + 1, 5, none⟩ (.int .i8 0) = W := ⟨_, rfl⟩
  rw [hW] at HR HBR
  go_wp2_with fail
  clear hW m0 m1 m2 m3 m4 m5 f0 f1 f2 f3 f4 f5
  obtain ⟨n0, n1, n2, n3, n4, n5⟩ := box6 HR.out (Below.refl _ _)
  refine bodyPost_ret (v := Value.tuple #[.agg #[.int .i8 0, .int .i8 0, .int .i8 0, .int .i8 0, .int .i8 0, .int .i8 0], .int .i64 210]) (by simp [results, Try.results27, go_sem, n0, n1, n2, n3, n4, n5]) rfl ?_
  exact ⟨rfl, HBR.out⟩
set_option maxHeartbeats 1600000 in
set_option maxRecDepth 100000 in
theorem dojoin_a (a b : Nat → Int) (s : Int) (w : World) (ha : ¬ dOK a) :
    Calls Try.prog 27 #[.agg (doA a), .agg (doA b), .int .i8 s] w fun e w' => e = .returned (.tuple #[.agg (doA (fun _ => 0)), .int .i64 210]) ∧ Below w.heap.size w w' := by
  have HCa := hid (fun V => docheck_any a V)
  rw [dchk_no ha] at HCa
  have HX := hid (dboxes3 w 29 29 29 (doA a) (doA b) #[.int .i8 0, .int .i8 0, .int .i8 0, .int .i8 0, .int .i8 0, .int .i8 0])
  obtain ⟨X, hX⟩ : ∃ X, ((w.alloc (.cells (doA a) 29)).alloc (.cells (doA b) 29)).alloc (.cells #[.int .i8 0, .int .i8 0, .int .i8 0, .int .i8 0, .int .i8 0, .int .i8 0] 29) = X := ⟨_, rfl⟩
  rw [hX] at HX
  clear ha
  obtain ⟨n0, n1, n2, n3, n4, n5⟩ := box6 HX.out.1 (Below.refl _ _)
  rw [show doA a = #[.int .i8 (a 0), .int .i8 (a 1), .int .i8 (a 2), .int .i8 (a 3), .int .i8 (a 4), .int .i8 (a 5)] from rfl, show doA b = #[.int .i8 (b 0), .int .i8 (b 1), .int .i8 (b 2), .int .i8 (b 3), .int .i8 (b 4), .int .i8 (b 5)] from rfl] at *
  go_enter Try.func27, Try.ntmps27
  go_wp2_with fail
  clear hX n0 n1 n2 n3 n4 n5
  refine Calls.mono (HCa.out _) ?_
  rintro e w1 ⟨rfl, hb⟩
  have HX1 := hid (HX.out.1.later hb HX.out.1.lt)
  have HY1 := hid (HX.out.2.1.later hb HX.out.2.1.lt)
  have HZ1 := hid (HX.out.2.2.1.later hb HX.out.2.2.1.lt)
  have HB1 := hid (b2 HX.out.2.2.2 hb)
  clear hb HX HCa
  obtain ⟨m0, m1, m2, m3, m4, m5⟩ := box6 HZ1.out (Below.refl _ _)
  obtain ⟨f0, f1, f2, f3, f4, f5⟩ := free6 HZ1.out (Below.refl _ _)
  have HR := hid (HZ1.out.put6 (.int .i8 0) (.int .i8 0) (.int .i8 0) (.int .i8 0) (.int .i8 0) (.int .i8 0))
  have HBR := hid (dput6 HB1.out (w.heap.size + 1 + 1) (by omega) (.int .i8 0) (.int .i8 0) (.int .i8 0) (.int .i8 0) (.int .i8 0) (.int .i8 0))
  obtain ⟨W, hW⟩ : ∃ W, (((((w1.setCell ⟨w.heap.size + 1 + 1, 0, none⟩ (.int .i8 0)).setCell ⟨w.heap.size + 1 + 1, 1, none⟩ (.int .i8 0)).setCell ⟨w.heap.size + 1 + 1, 2, none⟩ (.int .i8 0)).setCell ⟨w.heap.size + 1 + 1, 3, none⟩ (.int .i8 0)).setCell ⟨w.heap.size + 1 + 1, 4, none⟩ (.int .i8 0)).setCell ⟨w.heap.size + 1 + 1, 5, none⟩ (.int .i8 0) = W := ⟨_, rfl⟩
  rw [hW] at HR HBR
  go_wp2_with fail
  clear hW m0 m1 m2 m3 m4 m5 f0 f1 f2 f3 f4 f5
  obtain ⟨n0, n1, n2, n3, n4, n5⟩ := box6 HR.out (Below.refl _ _)
  refine bodyPost_ret (v := Value.tuple #[.agg #[.int .i8 0, .int .i8 0, .int .i8 0, .int .i8 0, .int .i8 0, .int .i8 0], .int .i64 210]) (by simp [results, Try.results27, go_sem, n0, n1, n2, n3, n4, n5]) rfl ?_
  exact ⟨rfl, HBR.out⟩

/-- What joined tells. -/
def dJR (a b : Nat → Int) (s : Int) : Value := if dOK a ∧ dOK b ∧ dOK (dJ a b s) then .tuple #[.agg (doA (dJ a b s)), .int .i64 0] else .tuple #[.agg (doA (fun _ => 0)), .int .i64 210]
theorem dojoin_any (a b : Nat → Int) (s : Int) (w : World) (hs : s = 1 ∨ s = -1) :
    Calls Try.prog 27 #[.agg (doA a), .agg (doA b), .int .i8 s] w fun e w' => e = .returned (dJR a b s) ∧ Below w.heap.size w w' := by
  unfold dJR
  by_cases ha : dOK a
  · by_cases hb : dOK b
    · by_cases hj : dOK (dJ a b s)
      · rw [if_pos ⟨ha, hb, hj⟩]; exact dojoin_ok a b s w ha hb hs hj
      · rw [if_neg (fun h => hj h.2.2)]; exact dojoin_big a b s w ha hb hs hj
    · rw [if_neg (fun h => hb h.2.1)]; exact dojoin_b a b s w ha hb
  · rw [if_neg (fun h => ha h.1)]; exact dojoin_a a b s w ha
end Go.Proofs.Ytophmdjdjjgokaa

/- package doodson: Times, Over, Conj, of every six numbers. -/
namespace Go.Proofs.Ytophmdjdjjgokaa
open Go.RowKit
set_option linter.unusedVariables false

theorem dJR_or (a b : Nat → Int) (s : Int) : ∃ j0 j1 j2 j3 j4 j5 E : Int, dJR a b s = .tuple #[.agg #[.int .i8 j0, .int .i8 j1, .int .i8 j2, .int .i8 j3, .int .i8 j4, .int .i8 j5], .int .i64 E] := by
  unfold dJR
  split
  · exact ⟨_, _, _, _, _, _, _, rfl⟩
  · exact ⟨_, _, _, _, _, _, _, rfl⟩

set_option maxHeartbeats 1600000 in
set_option maxRecDepth 100000 in
theorem dotimes_any (a b : Nat → Int) (w : World) : Calls Try.prog 11 #[.agg (doA a), .agg (doA b)] w fun e w' => e = .returned (dJR a b 1) ∧ Below w.heap.size w w' := by
  have HJ := hid (fun V => dojoin_any a b 1 V (.inl rfl))
  obtain ⟨j0, j1, j2, j3, j4, j5, E, hj⟩ := dJR_or a b 1
  rw [hj] at HJ ⊢
  clear hj
  have HX := hid (dboxes3 w 29 29 29 (doA a) (doA b) #[.int .i8 0, .int .i8 0, .int .i8 0, .int .i8 0, .int .i8 0, .int .i8 0])
  obtain ⟨X, hX⟩ : ∃ X, ((w.alloc (.cells (doA a) 29)).alloc (.cells (doA b) 29)).alloc (.cells #[.int .i8 0, .int .i8 0, .int .i8 0, .int .i8 0, .int .i8 0, .int .i8 0] 29) = X := ⟨_, rfl⟩
  rw [hX] at HX
  unfold doA at *
  obtain ⟨n0, n1, n2, n3, n4, n5⟩ := box6 HX.out.1 (Below.refl _ _)
  obtain ⟨m0, m1, m2, m3, m4, m5⟩ := box6 HX.out.2.1 (Below.refl _ _)
  go_enter Try.func11, Try.ntmps11
  go_wp2_with fail
  clear hX n0 n1 n2 n3 n4 n5 m0 m1 m2 m3 m4 m5
  refine Calls.mono (HJ.out _) ?_
  rintro e w1 ⟨rfl, hb⟩
  have HZ1 := hid (HX.out.2.2.1.later hb HX.out.2.2.1.lt)
  have HB1 := hid (b2 HX.out.2.2.2 hb)
  clear hb HX HJ
  obtain ⟨m0, m1, m2, m3, m4, m5⟩ := box6 HZ1.out (Below.refl _ _)
  obtain ⟨f0, f1, f2, f3, f4, f5⟩ := free6 HZ1.out (Below.refl _ _)
  have HR := hid (HZ1.out.put6 (.int .i8 j0) (.int .i8 j1) (.int .i8 j2) (.int .i8 j3) (.int .i8 j4) (.int .i8 j5))
  have HBR := hid (dput6 HB1.out (w.heap.size + 1 + 1) (by omega) (.int .i8 j0) (.int .i8 j1) (.int .i8 j2) (.int .i8 j3) (.int .i8 j4) (.int .i8 j5))
  obtain ⟨W, hW⟩ : ∃ W, (((((w1.setCell ⟨w.heap.size + 1 + 1, 0, none⟩ (.int .i8 j0)).setCell ⟨w.heap.size + 1 + 1, 1, none⟩ (.int .i8 j1)).setCell ⟨w.heap.size + 1 + 1, 2, none⟩ (.int .i8 j2)).setCell ⟨w.heap.size + 1 + 1, 3, none⟩ (.int .i8 j3)).setCell ⟨w.heap.size + 1 + 1, 4, none⟩ (.int .i8 j4)).setCell ⟨w.heap.size + 1 + 1, 5, none⟩ (.int .i8 j5) = W := ⟨_, rfl⟩
  rw [hW] at HR HBR
  go_wp2_with fail
  clear hW m0 m1 m2 m3 m4 m5 f0 f1 f2 f3 f4 f5
  obtain ⟨n0, n1, n2, n3, n4, n5⟩ := box6 HR.out (Below.refl _ _)
  refine bodyPost_ret (v := Value.tuple #[.agg #[.int .i8 j0, .int .i8 j1, .int .i8 j2, .int .i8 j3, .int .i8 j4, .int .i8 j5], .int .i64 E]) (by simp [results, Try.results11, go_sem, n0, n1, n2, n3, n4, n5]) rfl ?_
  exact ⟨rfl, HBR.out⟩
end Go.Proofs.Ytophmdjdjjgokaa

/- Parse, the program's and the document's, of every text. -/
namespace Go.Proofs.Ytophmdjdjjgokaa
open Go.RowKit
set_option linter.unusedVariables false
set_option linter.unusedSimpArgs false

/-- The letter of the number k. -/
def dcc (s : ByteArray) (k : Nat) : UInt8 := s.data.getD (if k < 3 then k else k + 1) 0
/-- A text that is read. -/
def dgd (s : ByteArray) : Prop := s.size = 7 ∧ s.data.getD 3 0 = 46 ∧ ∀ k, k < 6 → 49 ≤ ((dcc s k).toNat : Int) ∧ ((dcc s k).toNat : Int) ≤ 57
instance (s : ByteArray) : Decidable (dgd s) := by unfold dgd; infer_instance
def dnum (s : ByteArray) (k : Nat) : Int := ((dcc s k).toNat : Int) - 53
def dPr (s : ByteArray) : Value := if dgd s then .tuple #[.agg (doA (dnum s)), .int .i64 0] else .tuple #[.agg (doA fun _ => 0), .int .i64 210]
theorem seven (s : ByteArray) (h : s.size = 7) : s = (⟨#[dcc s 0, dcc s 1, dcc s 2, s.data.getD 3 0, dcc s 3, dcc s 4, dcc s 5]⟩ : ByteArray) := by
  obtain ⟨a⟩ := s
  congr 1
  apply Array.ext
  · exact h
  · intro i h1 h2
    have hi : i < 7 := by simpa using h2
    have e : ∀ j, (hj : j < a.size) → a.getD j 0 = a[j] := fun j hj => by simp [Array.getD, hj]
    have ha : a.size = 7 := h
    rcases (show i = 0 ∨ i = 1 ∨ i = 2 ∨ i = 3 ∨ i = 4 ∨ i = 5 ∨ i = 6 by omega) with rfl | rfl | rfl | rfl | rfl | rfl | rfl
    · exact (e 0 h1).symm
    · exact (e 1 h1).symm
    · exact (e 2 h1).symm
    · exact (e 3 h1).symm
    · exact (e 4 h1).symm
    · exact (e 5 h1).symm
    · exact (e 6 h1).symm
/-- The first k numbers, the others nought. -/
def dPn (c : Nat → UInt8) (k j : Nat) : Int := if j < k then ((c j).toNat : Int) - 53 else 0
theorem dPn_at (c : Nat → UInt8) (k : Nat) (hk : k < 6) : (doA (dPn c k))[k]? = some (.int .i8 0) := by
  rcases (show k = 0 ∨ k = 1 ∨ k = 2 ∨ k = 3 ∨ k = 4 ∨ k = 5 by omega) with rfl | rfl | rfl | rfl | rfl | rfl <;> rfl
theorem dPn_set (c : Nat → UInt8) (k : Nat) (hk : k < 6) : (doA (dPn c k)).setIfInBounds k (.int .i8 (((c k).toNat : Int) - 53)) = doA (dPn c (k + 1)) := by
  rcases (show k = 0 ∨ k = 1 ∨ k = 2 ∨ k = 3 ∨ k = 4 ∨ k = 5 by omega) with rfl | rfl | rfl | rfl | rfl | rfl <;> rfl
theorem dPn_six (c : Nat → UInt8) : doA (dPn c 6) = doA (fun k => ((c k).toNat : Int) - 53) := rfl
theorem dqidx6 (c : Nat → UInt8) (k : Nat) (w : World) (hk : k < 6) : (Instr.index 9 (.string ⟨#[c 0, c 1, c 2, c 3, c 4, c 5]⟩) (.int .i64 (k : Int))).run Try.prog w = .ok (.int .u8 ((c k).toNat : Int)) w := by
  rcases (show k = 0 ∨ k = 1 ∨ k = 2 ∨ k = 3 ∨ k = 4 ∨ k = 5 by omega) with rfl | rfl | rfl | rfl | rfl | rfl <;> kernel_rfl
theorem dqidx7a (c : Nat → UInt8) (p : UInt8) (k : Nat) (w : World) (hk : k < 3) : (Instr.index 9 (.string ⟨#[c 0, c 1, c 2, p, c 3, c 4, c 5]⟩) (.int .i64 (k : Int))).run Try.prog w = .ok (.int .u8 ((c k).toNat : Int)) w := by
  rcases (show k = 0 ∨ k = 1 ∨ k = 2 by omega) with rfl | rfl | rfl <;> kernel_rfl
theorem dqidx7b (c : Nat → UInt8) (p : UInt8) (k : Nat) (w : World) (hk : 3 ≤ k) (h6 : k < 6) : (Instr.index 9 (.string ⟨#[c 0, c 1, c 2, p, c 3, c 4, c 5]⟩) (.int .i64 ((k : Int) + 1))).run Try.prog w = .ok (.int .u8 ((c k).toNat : Int)) w := by
  rcases (show k = 3 ∨ k = 4 ∨ k = 5 by omega) with rfl | rfl | rfl <;> kernel_rfl
theorem dqidx7c (c : Nat → UInt8) (p : UInt8) (k : Nat) (w : World) (hk : 3 ≤ k) (h6 : k < 6) : ∃ y : Int, (Instr.index 9 (.string ⟨#[c 0, c 1, c 2, p, c 3, c 4, c 5]⟩) (.int .i64 (k : Int))).run Try.prog w = .ok (.int .u8 y) w := by
  rcases (show k = 3 ∨ k = 4 ∨ k = 5 by omega) with rfl | rfl | rfl
  · exact ⟨(p.toNat : Int), by kernel_rfl⟩
  · exact ⟨((c 3).toNat : Int), by kernel_rfl⟩
  · exact ⟨((c 4).toNat : Int), by kernel_rfl⟩
theorem dqcut (c : Nat → UInt8) : (⟨#[c 0, c 1, c 2, 46, c 3, c 4, c 5]⟩ : ByteArray).extract 0 3 ++ (⟨#[c 0, c 1, c 2, 46, c 3, c 4, c 5]⟩ : ByteArray).extract 4 7 = ⟨#[c 0, c 1, c 2, c 3, c 4, c 5]⟩ := by kernel_rfl
theorem dqidx3 (c : Nat → UInt8) (p : UInt8) (w : World) : (Instr.index 9 (.string ⟨#[c 0, c 1, c 2, p, c 3, c 4, c 5]⟩) (.int .i64 3)).run Try.prog w = .ok (.int .u8 (p.toNat : Int)) w := by kernel_rfl

set_option maxHeartbeats 1600000 in
set_option maxRecDepth 100000 in
theorem doparse_no (s : ByteArray) (w : World) (h : s.size ≠ 7 ∨ s.size = 7 ∧ s.data.getD 3 0 ≠ 46) : Calls Try.prog 13 #[.string s] w fun e w' => e = .returned (dPr s) ∧ Below w.heap.size w w' := by
  have HV : Hid (dPr s = .tuple #[.agg (doA fun _ => 0), .int .i64 210]) := if_neg (fun g => by
    rcases h with h | h
    · exact h g.1
    · exact h.2 g.2.1)
  have HX := hid (boxes1 w 29 #[.int .i8 0, .int .i8 0, .int .i8 0, .int .i8 0, .int .i8 0, .int .i8 0])
  obtain ⟨X, hX⟩ : ∃ X, w.alloc (.cells #[.int .i8 0, .int .i8 0, .int .i8 0, .int .i8 0, .int .i8 0, .int .i8 0] 29) = X := ⟨_, rfl⟩
  rw [hX] at HX
  have HZx := hid HX.out.1
  have HBx := hid HX.out.2
  rcases h with h | ⟨h, hp⟩
  · have h7 : ¬ (s.size : Int) = 7 := by omega
    go_enter Try.func13, Try.ntmps13
    obtain ⟨m0, m1, m2, m3, m4, m5⟩ := box6 HZx.out (Below.refl _ _)
    obtain ⟨f0, f1, f2, f3, f4, f5⟩ := free6 HZx.out (Below.refl _ _)
    have HR := hid (HZx.out.put6 (.int .i8 0) (.int .i8 0) (.int .i8 0) (.int .i8 0) (.int .i8 0) (.int .i8 0))
    have HBR := hid (dput6 HBx.out w.heap.size (Nat.le_refl _) (.int .i8 0) (.int .i8 0) (.int .i8 0) (.int .i8 0) (.int .i8 0) (.int .i8 0))
    obtain ⟨W, hW⟩ : ∃ W, ((((((X.setCell ⟨w.heap.size, 0, none⟩ (.int .i8 0)).setCell ⟨w.heap.size, 1, none⟩ (.int .i8 0)).setCell ⟨w.heap.size, 2, none⟩ (.int .i8 0)).setCell ⟨w.heap.size, 3, none⟩ (.int .i8 0)).setCell ⟨w.heap.size, 4, none⟩ (.int .i8 0)).setCell ⟨w.heap.size, 5, none⟩ (.int .i8 0)) = W := ⟨_, rfl⟩
    rw [hW] at HR HBR
    go_wp2_with fail
    clear hW m0 m1 m2 m3 m4 m5 f0 f1 f2 f3 f4 f5
    obtain ⟨n0, n1, n2, n3, n4, n5⟩ := box6 HR.out (Below.refl _ _)
    refine bodyPost_ret (v := Value.tuple #[.agg #[.int .i8 0, .int .i8 0, .int .i8 0, .int .i8 0, .int .i8 0, .int .i8 0], .int .i64 210]) (by simp [results, Try.results13, go_sem, n0, n1, n2, n3, n4, n5]) rfl ?_
    exact ⟨by rw [HV.out]; rfl, HBR.out⟩
  · have hs := seven s h
    generalize s.data.getD 3 0 = p at *
    generalize dcc s = c at hs
    subst hs
    have hi := fun V => dqidx3 c p V
    have hp2 : ¬ (p.toNat : Int) = 46 := fun e => hp (by
      apply UInt8.toNat_inj.1
      have : p.toNat = 46 := by omega
      rw [this]; rfl)
    go_enter Try.func13, Try.ntmps13
    obtain ⟨m0, m1, m2, m3, m4, m5⟩ := box6 HZx.out (Below.refl _ _)
    obtain ⟨f0, f1, f2, f3, f4, f5⟩ := free6 HZx.out (Below.refl _ _)
    have HR := hid (HZx.out.put6 (.int .i8 0) (.int .i8 0) (.int .i8 0) (.int .i8 0) (.int .i8 0) (.int .i8 0))
    have HBR := hid (dput6 HBx.out w.heap.size (Nat.le_refl _) (.int .i8 0) (.int .i8 0) (.int .i8 0) (.int .i8 0) (.int .i8 0) (.int .i8 0))
    obtain ⟨W, hW⟩ : ∃ W, ((((((X.setCell ⟨w.heap.size, 0, none⟩ (.int .i8 0)).setCell ⟨w.heap.size, 1, none⟩ (.int .i8 0)).setCell ⟨w.heap.size, 2, none⟩ (.int .i8 0)).setCell ⟨w.heap.size, 3, none⟩ (.int .i8 0)).setCell ⟨w.heap.size, 4, none⟩ (.int .i8 0)).setCell ⟨w.heap.size, 5, none⟩ (.int .i8 0)) = W := ⟨_, rfl⟩
    rw [hW] at HR HBR
    go_wp2_with fail
    clear hW m0 m1 m2 m3 m4 m5 f0 f1 f2 f3 f4 f5
    obtain ⟨n0, n1, n2, n3, n4, n5⟩ := box6 HR.out (Below.refl _ _)
    refine bodyPost_ret (v := Value.tuple #[.agg #[.int .i8 0, .int .i8 0, .int .i8 0, .int .i8 0, .int .i8 0, .int .i8 0], .int .i64 210]) (by simp [results, Try.results13, go_sem, n0, n1, n2, n3, n4, n5]) rfl ?_
    exact ⟨by rw [HV.out]; rfl, HBR.out⟩
set_option maxHeartbeats 3200000 in
set_option maxRecDepth 100000 in
theorem doparse_dot (s : ByteArray) (w : World) (h : s.size = 7) (hp : s.data.getD 3 0 = 46) : Calls Try.prog 13 #[.string s] w fun e w' => e = .returned (dPr s) ∧ Below w.heap.size w w' := by
  have HG : Hid ((∀ k, k < 6 → 49 ≤ ((dcc s k).toNat : Int) ∧ ((dcc s k).toNat : Int) ≤ 57) → dPr s = .tuple #[.agg (doA fun k => ((dcc s k).toNat : Int) - 53), .int .i64 0]) := fun g => if_pos ⟨h, hp, g⟩
  have HN : Hid (∀ k, k < 6 → ¬ (49 ≤ ((dcc s k).toNat : Int) ∧ ((dcc s k).toNat : Int) ≤ 57) → dPr s = .tuple #[.agg (doA fun _ => 0), .int .i64 210]) := fun k hk g => if_neg (fun e => g (e.2.2 k hk))
  have hs := seven s h
  rw [hp] at hs
  clear hp h
  generalize dcc s = c at *
  generalize dPr s = R at *
  subst hs
  have hi3 := fun V => dqidx3 c 46 V
  have HX := hid (dboxes2 w 29 29 #[.int .i8 0, .int .i8 0, .int .i8 0, .int .i8 0, .int .i8 0, .int .i8 0] #[.int .i8 0, .int .i8 0, .int .i8 0, .int .i8 0, .int .i8 0, .int .i8 0])
  obtain ⟨X, hX⟩ : ∃ X, (w.alloc (.cells #[.int .i8 0, .int .i8 0, .int .i8 0, .int .i8 0, .int .i8 0, .int .i8 0] 29)).alloc (.cells #[.int .i8 0, .int .i8 0, .int .i8 0, .int .i8 0, .int .i8 0, .int .i8 0] 29) = X := ⟨_, rfl⟩
  rw [hX] at HX
  have HI : Hid (∀ k : Nat, k < 6 → ∀ V, (Instr.index 9 (.string ⟨#[c 0, c 1, c 2, c 3, c 4, c 5]⟩) (.int .i64 (k : Int))).run Try.prog V = .ok (.int .u8 ((c k).toNat : Int)) V) := fun k hk V => dqidx6 c k V hk
  have HIA : Hid (∀ k : Nat, k < 6 → ∀ V, (Instr.indexAt 29 (.pointer (some ⟨w.heap.size + 1, 0, none⟩)) (.int .i64 (k : Int))).run Try.prog V = .ok (.pointer (some ⟨w.heap.size + 1, k, none⟩)) V) := fun k hk V => didxa (w.heap.size + 1) k V hk
  have hcut := dqcut c
  obtain ⟨DD, hDD⟩ : ∃ DD : ByteArray, (⟨#[c 0, c 1, c 2, c 3, c 4, c 5]⟩ : ByteArray) = DD := ⟨_, rfl⟩
  rw [hDD] at hcut HI
  clear hDD
  go_enter Try.func13, Try.ntmps13
  go_wp2_with fail
  clear hX
  go_region
  all_goals
    go_wp2_with fail
    have HZ0 := hid HX.out.1
    have HP0 : Hid (FBox X (w.heap.size + 1) 29 (doA (dPn c 0))) := HX.out.2.1
    have HB0 := hid HX.out.2.2
    clear HX
    go_loopw [22] (fun x wr => ∃ k : Nat, k ≤ 6 ∧ x = .int .i64 (k : Int) ∧ Hid (∀ j, j < k → 49 ≤ ((c j).toNat : Int) ∧ ((c j).toNat : Int) ≤ 57) ∧ Hid (FBox wr w.heap.size 29 #[.int .i8 0, .int .i8 0, .int .i8 0, .int .i8 0, .int .i8 0, .int .i8 0]) ∧ Hid (FBox wr (w.heap.size + 1) 29 (doA (dPn c k))) ∧ Hid (Below w.heap.size w wr)) (fun x _ => 6 - (intOf x).toNat)
    case atStart => exact ⟨0, by decide, rfl, fun j hj => absurd hj (Nat.not_lt_zero _), HZ0.out, HP0.out, HB0.out.drew⟩
    case round =>
      obtain ⟨k, hk, rfl, HJ, HZ1, HP1, HB1⟩ := hrel
      by_cases hlt : k < 6
      · have hia := HIA.out k hlt
        have hi := HI.out k hlt
        have HN1 := hid (HN.out k hlt)
        have HS := hid (dPn_set c k hlt)
        have hc : wr.cell? ⟨w.heap.size + 1, k, none⟩ = some (.int .i8 0) := (HP1.out.cell k).trans (dPn_at c k hlt)
        have hf := HP1.out.free k
        have HJ1 : Hid (49 ≤ ((c k).toNat : Int) ∧ ((c k).toNat : Int) ≤ 57 → ∀ j, j < k + 1 → 49 ≤ ((c j).toNat : Int) ∧ ((c j).toNat : Int) ≤ 57) := fun h j hj => by
          rcases Nat.lt_succ_iff_lt_or_eq.1 hj with g | g
          · exact HJ.out j g
          · rw [g]; exact h
        have hy0 : 0 ≤ ((c k).toNat : Int) := by omega
        generalize ((c k).toNat : Int) = y at *
        by_cases hy : 49 ≤ y ∧ y ≤ 57
        · obtain ⟨y1, y2⟩ := hy
          have e1 : IntKind.i8.wrap y = y := wrap8 (by omega) (by omega)
          have e2 : IntKind.i8.wrap (y - 53) = y - 53 := wrap8 (by omega) (by omega)
          go_wp2_with fail
          go_roundw
          case rel =>
            refine ⟨k + 1, by omega, by go_num, HJ1.out ⟨by omega, by omega⟩, HZ1.out.off (by omega) _ _, ?_, HB1.out.setCell (p := ⟨w.heap.size + 1, k, none⟩) (Nat.le_succ _) _⟩
            have e := HP1.out.set k (.int .i8 (y - 53))
            rw [HS.out] at e
            exact e
          case measure => simp [intOf]; omega
        · have HV := hid (HN1.out hy)
          have hy2 : y < 49 ∨ 57 < y := by omega
          clear hy HN1 HN HG HS HJ1
          rcases hy2 with hy3 | hy3
          · obtain ⟨m0, m1, m2, m3, m4, m5⟩ := box6 HZ1.out (Below.refl _ _)
            obtain ⟨f0, f1, f2, f3, f4, f5⟩ := free6 HZ1.out (Below.refl _ _)
            have HR := hid (HZ1.out.put6 (.int .i8 0) (.int .i8 0) (.int .i8 0) (.int .i8 0) (.int .i8 0) (.int .i8 0))
            have HBR := hid (dput6 HB1.out w.heap.size (Nat.le_refl _) (.int .i8 0) (.int .i8 0) (.int .i8 0) (.int .i8 0) (.int .i8 0) (.int .i8 0))
            obtain ⟨W, hW⟩ : ∃ W, ((((((wr.setCell ⟨w.heap.size, 0, none⟩ (.int .i8 0)).setCell ⟨w.heap.size, 1, none⟩ (.int .i8 0)).setCell ⟨w.heap.size, 2, none⟩ (.int .i8 0)).setCell ⟨w.heap.size, 3, none⟩ (.int .i8 0)).setCell ⟨w.heap.size, 4, none⟩ (.int .i8 0)).setCell ⟨w.heap.size, 5, none⟩ (.int .i8 0)) = W := ⟨_, rfl⟩
            rw [hW] at HR HBR
            go_wp2_with fail
            clear hW m0 m1 m2 m3 m4 m5 f0 f1 f2 f3 f4 f5
            obtain ⟨n0, n1, n2, n3, n4, n5⟩ := box6 HR.out (Below.refl _ _)
            refine bodyPost_ret (v := Value.tuple #[.agg #[.int .i8 0, .int .i8 0, .int .i8 0, .int .i8 0, .int .i8 0, .int .i8 0], .int .i64 210]) (by simp [results, Try.results13, go_sem, n0, n1, n2, n3, n4, n5]) rfl ?_
            exact ⟨by rw [HV.out]; rfl, HBR.out⟩
          · obtain ⟨m0, m1, m2, m3, m4, m5⟩ := box6 HZ1.out (Below.refl _ _)
            obtain ⟨f0, f1, f2, f3, f4, f5⟩ := free6 HZ1.out (Below.refl _ _)
            have HR := hid (HZ1.out.put6 (.int .i8 0) (.int .i8 0) (.int .i8 0) (.int .i8 0) (.int .i8 0) (.int .i8 0))
            have HBR := hid (dput6 HB1.out w.heap.size (Nat.le_refl _) (.int .i8 0) (.int .i8 0) (.int .i8 0) (.int .i8 0) (.int .i8 0) (.int .i8 0))
            obtain ⟨W, hW⟩ : ∃ W, ((((((wr.setCell ⟨w.heap.size, 0, none⟩ (.int .i8 0)).setCell ⟨w.heap.size, 1, none⟩ (.int .i8 0)).setCell ⟨w.heap.size, 2, none⟩ (.int .i8 0)).setCell ⟨w.heap.size, 3, none⟩ (.int .i8 0)).setCell ⟨w.heap.size, 4, none⟩ (.int .i8 0)).setCell ⟨w.heap.size, 5, none⟩ (.int .i8 0)) = W := ⟨_, rfl⟩
            rw [hW] at HR HBR
            go_wp2_with fail
            clear hW m0 m1 m2 m3 m4 m5 f0 f1 f2 f3 f4 f5
            obtain ⟨n0, n1, n2, n3, n4, n5⟩ := box6 HR.out (Below.refl _ _)
            refine bodyPost_ret (v := Value.tuple #[.agg #[.int .i8 0, .int .i8 0, .int .i8 0, .int .i8 0, .int .i8 0, .int .i8 0], .int .i64 210]) (by simp [results, Try.results13, go_sem, n0, n1, n2, n3, n4, n5]) rfl ?_
            exact ⟨by rw [HV.out]; rfl, HBR.out⟩
      · obtain rfl : k = 6 := by omega
        have HV := hid (HG.out HJ.out)
        have HE : Hid ((doA fun k => ((c k).toNat : Int) - 53) = #[.int .i8 (((c 0).toNat : Int) - 53), .int .i8 (((c 1).toNat : Int) - 53), .int .i8 (((c 2).toNat : Int) - 53), .int .i8 (((c 3).toNat : Int) - 53), .int .i8 (((c 4).toNat : Int) - 53), .int .i8 (((c 5).toNat : Int) - 53)]) := rfl
        rw [dPn_six] at HP1
        rw [HE.out] at HP1 HV
        clear HE HG HN HJ
        generalize ((c 0).toNat : Int) - 53 = j0 at HP1 HV
        generalize ((c 1).toNat : Int) - 53 = j1 at HP1 HV
        generalize ((c 2).toNat : Int) - 53 = j2 at HP1 HV
        generalize ((c 3).toNat : Int) - 53 = j3 at HP1 HV
        generalize ((c 4).toNat : Int) - 53 = j4 at HP1 HV
        generalize ((c 5).toNat : Int) - 53 = j5 at HP1 HV
        obtain ⟨n0, n1, n2, n3, n4, n5⟩ := box6 HP1.out (Below.refl _ _)
        obtain ⟨m0, m1, m2, m3, m4, m5⟩ := box6 HZ1.out (Below.refl _ _)
        obtain ⟨f0, f1, f2, f3, f4, f5⟩ := free6 HZ1.out (Below.refl _ _)
        have HR := hid (HZ1.out.put6 (.int .i8 j0) (.int .i8 j1) (.int .i8 j2) (.int .i8 j3) (.int .i8 j4) (.int .i8 j5))
        have HBR := hid (dput6 HB1.out w.heap.size (Nat.le_refl _) (.int .i8 j0) (.int .i8 j1) (.int .i8 j2) (.int .i8 j3) (.int .i8 j4) (.int .i8 j5))
        obtain ⟨W, hW⟩ : ∃ W, ((((((wr.setCell ⟨w.heap.size, 0, none⟩ (.int .i8 j0)).setCell ⟨w.heap.size, 1, none⟩ (.int .i8 j1)).setCell ⟨w.heap.size, 2, none⟩ (.int .i8 j2)).setCell ⟨w.heap.size, 3, none⟩ (.int .i8 j3)).setCell ⟨w.heap.size, 4, none⟩ (.int .i8 j4)).setCell ⟨w.heap.size, 5, none⟩ (.int .i8 j5)) = W := ⟨_, rfl⟩
        rw [hW] at HR HBR
        clear HP1 HZ1 HB1
        go_wp2_with fail
        clear hW m0 m1 m2 m3 m4 m5 n0 n1 n2 n3 n4 n5 f0 f1 f2 f3 f4 f5
        obtain ⟨n0, n1, n2, n3, n4, n5⟩ := box6 HR.out (Below.refl _ _)
        refine bodyPost_ret (v := Value.tuple #[.agg #[.int .i8 j0, .int .i8 j1, .int .i8 j2, .int .i8 j3, .int .i8 j4, .int .i8 j5], .int .i64 0]) (by simp [results, Try.results13, go_sem, n0, n1, n2, n3, n4, n5]) rfl ?_
        exact ⟨by rw [HV.out], HBR.out⟩

theorem doparse_any (s : ByteArray) (w : World) : Calls Try.prog 13 #[.string s] w fun e w' => e = .returned (dPr s) ∧ Below w.heap.size w w' := by
  by_cases h : s.size = 7
  · by_cases hp : s.data.getD 3 0 = 46
    · exact doparse_dot s w h hp
    · exact doparse_no s w (.inr ⟨h, hp⟩)
  · exact doparse_no s w (.inl h)
set_option maxHeartbeats 1600000 in
set_option maxRecDepth 100000 in
theorem dpparse_no (s : ByteArray) (w : World) (h : s.size ≠ 7 ∨ s.size = 7 ∧ s.data.getD 3 0 ≠ 46) : Calls Try.prog 18 #[.string s] w fun e w' => e = .returned (dPr s) ∧ Below w.heap.size w w' := by
  have HV : Hid (dPr s = .tuple #[.agg (doA fun _ => 0), .int .i64 210]) := if_neg (fun g => by
    rcases h with h | h
    · exact h g.1
    · exact h.2 g.2.1)
  have HX := hid (dboxes2 w 29 29 #[.int .i8 0, .int .i8 0, .int .i8 0, .int .i8 0, .int .i8 0, .int .i8 0] #[.int .i8 0, .int .i8 0, .int .i8 0, .int .i8 0, .int .i8 0, .int .i8 0])
  obtain ⟨X, hX⟩ : ∃ X, (w.alloc (.cells #[.int .i8 0, .int .i8 0, .int .i8 0, .int .i8 0, .int .i8 0, .int .i8 0] 29)).alloc (.cells #[.int .i8 0, .int .i8 0, .int .i8 0, .int .i8 0, .int .i8 0, .int .i8 0] 29) = X := ⟨_, rfl⟩
  rw [hX] at HX
  have HZx := hid HX.out.1
  have HBx := hid HX.out.2.2
  obtain ⟨q0, q1, q2, q3, q4, q5⟩ := box6 HX.out.2.1 (Below.refl _ _)
  rcases h with h | ⟨h, hp⟩
  · have h7 : ¬ (s.size : Int) = 7 := by omega
    go_enter Try.func18, Try.ntmps18
    obtain ⟨m0, m1, m2, m3, m4, m5⟩ := box6 HZx.out (Below.refl _ _)
    obtain ⟨f0, f1, f2, f3, f4, f5⟩ := free6 HZx.out (Below.refl _ _)
    have HR := hid (HZx.out.put6 (.int .i8 0) (.int .i8 0) (.int .i8 0) (.int .i8 0) (.int .i8 0) (.int .i8 0))
    have HBR := hid (dput6 HBx.out w.heap.size (Nat.le_refl _) (.int .i8 0) (.int .i8 0) (.int .i8 0) (.int .i8 0) (.int .i8 0) (.int .i8 0))
    obtain ⟨W, hW⟩ : ∃ W, ((((((X.setCell ⟨w.heap.size, 0, none⟩ (.int .i8 0)).setCell ⟨w.heap.size, 1, none⟩ (.int .i8 0)).setCell ⟨w.heap.size, 2, none⟩ (.int .i8 0)).setCell ⟨w.heap.size, 3, none⟩ (.int .i8 0)).setCell ⟨w.heap.size, 4, none⟩ (.int .i8 0)).setCell ⟨w.heap.size, 5, none⟩ (.int .i8 0)) = W := ⟨_, rfl⟩
    rw [hW] at HR HBR
    go_wp2_with fail
    clear hW m0 m1 m2 m3 m4 m5 f0 f1 f2 f3 f4 f5
    obtain ⟨n0, n1, n2, n3, n4, n5⟩ := box6 HR.out (Below.refl _ _)
    refine bodyPost_ret (v := Value.tuple #[.agg #[.int .i8 0, .int .i8 0, .int .i8 0, .int .i8 0, .int .i8 0, .int .i8 0], .int .i64 210]) (by simp [results, Try.results18, go_sem, n0, n1, n2, n3, n4, n5]) rfl ?_
    exact ⟨by rw [HV.out]; rfl, HBR.out⟩
  · have hs := seven s h
    generalize s.data.getD 3 0 = p at *
    generalize dcc s = c at hs
    subst hs
    have hi := fun V => dqidx3 c p V
    have hp2 : ¬ (p.toNat : Int) = 46 := fun e => hp (by
      apply UInt8.toNat_inj.1
      have : p.toNat = 46 := by omega
      rw [this]; rfl)
    go_enter Try.func18, Try.ntmps18
    obtain ⟨m0, m1, m2, m3, m4, m5⟩ := box6 HZx.out (Below.refl _ _)
    obtain ⟨f0, f1, f2, f3, f4, f5⟩ := free6 HZx.out (Below.refl _ _)
    have HR := hid (HZx.out.put6 (.int .i8 0) (.int .i8 0) (.int .i8 0) (.int .i8 0) (.int .i8 0) (.int .i8 0))
    have HBR := hid (dput6 HBx.out w.heap.size (Nat.le_refl _) (.int .i8 0) (.int .i8 0) (.int .i8 0) (.int .i8 0) (.int .i8 0) (.int .i8 0))
    obtain ⟨W, hW⟩ : ∃ W, ((((((X.setCell ⟨w.heap.size, 0, none⟩ (.int .i8 0)).setCell ⟨w.heap.size, 1, none⟩ (.int .i8 0)).setCell ⟨w.heap.size, 2, none⟩ (.int .i8 0)).setCell ⟨w.heap.size, 3, none⟩ (.int .i8 0)).setCell ⟨w.heap.size, 4, none⟩ (.int .i8 0)).setCell ⟨w.heap.size, 5, none⟩ (.int .i8 0)) = W := ⟨_, rfl⟩
    rw [hW] at HR HBR
    go_wp2_with fail
    clear hW m0 m1 m2 m3 m4 m5 f0 f1 f2 f3 f4 f5
    obtain ⟨n0, n1, n2, n3, n4, n5⟩ := box6 HR.out (Below.refl _ _)
    refine bodyPost_ret (v := Value.tuple #[.agg #[.int .i8 0, .int .i8 0, .int .i8 0, .int .i8 0, .int .i8 0, .int .i8 0], .int .i64 210]) (by simp [results, Try.results18, go_sem, n0, n1, n2, n3, n4, n5]) rfl ?_
    exact ⟨by rw [HV.out]; rfl, HBR.out⟩
set_option maxHeartbeats 3200000 in
set_option maxRecDepth 100000 in
theorem dpparse_dot (s : ByteArray) (w : World) (h : s.size = 7) (hp : s.data.getD 3 0 = 46) : Calls Try.prog 18 #[.string s] w fun e w' => e = .returned (dPr s) ∧ Below w.heap.size w w' := by
  have HG : Hid ((∀ k, k < 6 → 49 ≤ ((dcc s k).toNat : Int) ∧ ((dcc s k).toNat : Int) ≤ 57) → dPr s = .tuple #[.agg (doA fun k => ((dcc s k).toNat : Int) - 53), .int .i64 0]) := fun g => if_pos ⟨h, hp, g⟩
  have HN : Hid (∀ k, k < 6 → ¬ (49 ≤ ((dcc s k).toNat : Int) ∧ ((dcc s k).toNat : Int) ≤ 57) → dPr s = .tuple #[.agg (doA fun _ => 0), .int .i64 210]) := fun k hk g => if_neg (fun e => g (e.2.2 k hk))
  have hs := seven s h
  rw [hp] at hs
  clear hp h
  generalize dcc s = c at *
  generalize dPr s = R at *
  subst hs
  have hi3 := fun V => dqidx3 c 46 V
  have HX := hid (dboxes2 w 29 29 #[.int .i8 0, .int .i8 0, .int .i8 0, .int .i8 0, .int .i8 0, .int .i8 0] #[.int .i8 0, .int .i8 0, .int .i8 0, .int .i8 0, .int .i8 0, .int .i8 0])
  obtain ⟨X, hX⟩ : ∃ X, (w.alloc (.cells #[.int .i8 0, .int .i8 0, .int .i8 0, .int .i8 0, .int .i8 0, .int .i8 0] 29)).alloc (.cells #[.int .i8 0, .int .i8 0, .int .i8 0, .int .i8 0, .int .i8 0, .int .i8 0] 29) = X := ⟨_, rfl⟩
  rw [hX] at HX
  have HIA : Hid (∀ k : Nat, k < 6 → ∀ V, (Instr.indexAt 29 (.pointer (some ⟨w.heap.size + 1, 0, none⟩)) (.int .i64 (k : Int))).run Try.prog V = .ok (.pointer (some ⟨w.heap.size + 1, k, none⟩)) V) := fun k hk V => didxa (w.heap.size + 1) k V hk
  go_enter Try.func18, Try.ntmps18
  go_wp2_with fail
  clear hX
  have HZ0 := hid HX.out.1
  have HP0 : Hid (FBox X (w.heap.size + 1) 29 (doA (dPn c 0))) := HX.out.2.1
  have HB0 := hid HX.out.2.2
  clear HX
  go_loopw [5] (fun x wr => ∃ k : Nat, k ≤ 6 ∧ x = .int .i64 (k : Int) ∧ Hid (∀ j, j < k → 49 ≤ ((c j).toNat : Int) ∧ ((c j).toNat : Int) ≤ 57) ∧ Hid (FBox wr w.heap.size 29 #[.int .i8 0, .int .i8 0, .int .i8 0, .int .i8 0, .int .i8 0, .int .i8 0]) ∧ Hid (FBox wr (w.heap.size + 1) 29 (doA (dPn c k))) ∧ Hid (Below w.heap.size w wr)) (fun x _ => 6 - (intOf x).toNat)
  case atStart => exact ⟨0, by decide, rfl, fun j hj => absurd hj (Nat.not_lt_zero _), HZ0.out, HP0.out, HB0.out⟩
  case round =>
    obtain ⟨k, hk, rfl, HJ, HZ1, HP1, HB1⟩ := hrel
    by_cases hlt : k < 6
    · have hia := HIA.out k hlt
      have hi7 : (k < 3 ∧ ∀ V, (Instr.index 9 (.string ⟨#[c 0, c 1, c 2, 46, c 3, c 4, c 5]⟩) (.int .i64 (k : Int))).run Try.prog V = .ok (.int .u8 ((c k).toNat : Int)) V) ∨ (3 ≤ k ∧ (∃ yy : Int, (Instr.index 9 (.string ⟨#[c 0, c 1, c 2, 46, c 3, c 4, c 5]⟩) (.int .i64 (k : Int))).run Try.prog wr = .ok (.int .u8 yy) wr) ∧ ∀ V, (Instr.index 9 (.string ⟨#[c 0, c 1, c 2, 46, c 3, c 4, c 5]⟩) (.int .i64 ((k : Int) + 1))).run Try.prog V = .ok (.int .u8 ((c k).toNat : Int)) V) := by
        by_cases h3 : k < 3
        · exact .inl ⟨h3, fun V => dqidx7a c 46 k V h3⟩
        · exact .inr ⟨by omega, dqidx7c c 46 k wr (by omega) hlt, fun V => dqidx7b c 46 k V (by omega) hlt⟩
      have hw1 : IntKind.i64.wrap ((k : Int) + 1) = (k : Int) + 1 := by rw [IntKind.wrap_i64]; omega
      have HN1 := hid (HN.out k hlt)
      have HS := hid (dPn_set c k hlt)
      have hc : wr.cell? ⟨w.heap.size + 1, k, none⟩ = some (.int .i8 0) := (HP1.out.cell k).trans (dPn_at c k hlt)
      have hf := HP1.out.free k
      have HJ1 : Hid (49 ≤ ((c k).toNat : Int) ∧ ((c k).toNat : Int) ≤ 57 → ∀ j, j < k + 1 → 49 ≤ ((c j).toNat : Int) ∧ ((c j).toNat : Int) ≤ 57) := fun h j hj => by
        rcases Nat.lt_succ_iff_lt_or_eq.1 hj with g | g
        · exact HJ.out j g
        · rw [g]; exact h
      have hy0 : 0 ≤ ((c k).toNat : Int) := by omega
      generalize ((c k).toNat : Int) = y at *
      by_cases hy : 49 ≤ y ∧ y ≤ 57
      · obtain ⟨y1, y2⟩ := hy
        have e1 : IntKind.i8.wrap y = y := wrap8 (by omega) (by omega)
        have e2 : IntKind.i8.wrap (y - 53) = y - 53 := wrap8 (by omega) (by omega)
        rcases hi7 with ⟨h3, hi⟩ | ⟨h3, ⟨yy, hiy⟩, hi⟩
        · have h3i : ¬ 2 < (k : Int) := by omega
          go_wp2_with fail
          go_roundw
          case rel =>
            refine ⟨k + 1, by omega, by go_num, HJ1.out ⟨by omega, by omega⟩, HZ1.out.off (by omega) _ _, ?_, HB1.out.setCell (p := ⟨w.heap.size + 1, k, none⟩) (Nat.le_succ _) _⟩
            have e := HP1.out.set k (.int .i8 (y - 53))
            rw [HS.out] at e
            exact e
          case measure => simp [intOf]; omega
        · have h3i : 2 < (k : Int) := by omega
          go_wp2_with fail
          go_roundw
          case rel =>
            refine ⟨k + 1, by omega, by go_num, HJ1.out ⟨by omega, by omega⟩, HZ1.out.off (by omega) _ _, ?_, HB1.out.setCell (p := ⟨w.heap.size + 1, k, none⟩) (Nat.le_succ _) _⟩
            have e := HP1.out.set k (.int .i8 (y - 53))
            rw [HS.out] at e
            exact e
          case measure => simp [intOf]; omega
      · have HV := hid (HN1.out hy)
        have hy2 : y < 49 ∨ 57 < y := by omega
        clear hy HN1 HN HG HS HJ1
        rcases hy2 with hy3 | hy3
        · rcases hi7 with ⟨h3, hi⟩ | ⟨h3, ⟨yy, hiy⟩, hi⟩
          · have h3i : ¬ 2 < (k : Int) := by omega
            obtain ⟨m0, m1, m2, m3, m4, m5⟩ := box6 HZ1.out (Below.refl _ _)
            obtain ⟨f0, f1, f2, f3, f4, f5⟩ := free6 HZ1.out (Below.refl _ _)
            have HR := hid (HZ1.out.put6 (.int .i8 0) (.int .i8 0) (.int .i8 0) (.int .i8 0) (.int .i8 0) (.int .i8 0))
            have HBR := hid (dput6 HB1.out w.heap.size (Nat.le_refl _) (.int .i8 0) (.int .i8 0) (.int .i8 0) (.int .i8 0) (.int .i8 0) (.int .i8 0))
            obtain ⟨W, hW⟩ : ∃ W, ((((((wr.setCell ⟨w.heap.size, 0, none⟩ (.int .i8 0)).setCell ⟨w.heap.size, 1, none⟩ (.int .i8 0)).setCell ⟨w.heap.size, 2, none⟩ (.int .i8 0)).setCell ⟨w.heap.size, 3, none⟩ (.int .i8 0)).setCell ⟨w.heap.size, 4, none⟩ (.int .i8 0)).setCell ⟨w.heap.size, 5, none⟩ (.int .i8 0)) = W := ⟨_, rfl⟩
            rw [hW] at HR HBR
            go_wp2_with fail
            clear hW m0 m1 m2 m3 m4 m5 f0 f1 f2 f3 f4 f5
            obtain ⟨n0, n1, n2, n3, n4, n5⟩ := box6 HR.out (Below.refl _ _)
            refine bodyPost_ret (v := Value.tuple #[.agg #[.int .i8 0, .int .i8 0, .int .i8 0, .int .i8 0, .int .i8 0, .int .i8 0], .int .i64 210]) (by simp [results, Try.results18, go_sem, n0, n1, n2, n3, n4, n5]) rfl ?_
            exact ⟨by rw [HV.out]; rfl, HBR.out⟩
          · have h3i : 2 < (k : Int) := by omega
            obtain ⟨m0, m1, m2, m3, m4, m5⟩ := box6 HZ1.out (Below.refl _ _)
            obtain ⟨f0, f1, f2, f3, f4, f5⟩ := free6 HZ1.out (Below.refl _ _)
            have HR := hid (HZ1.out.put6 (.int .i8 0) (.int .i8 0) (.int .i8 0) (.int .i8 0) (.int .i8 0) (.int .i8 0))
            have HBR := hid (dput6 HB1.out w.heap.size (Nat.le_refl _) (.int .i8 0) (.int .i8 0) (.int .i8 0) (.int .i8 0) (.int .i8 0) (.int .i8 0))
            obtain ⟨W, hW⟩ : ∃ W, ((((((wr.setCell ⟨w.heap.size, 0, none⟩ (.int .i8 0)).setCell ⟨w.heap.size, 1, none⟩ (.int .i8 0)).setCell ⟨w.heap.size, 2, none⟩ (.int .i8 0)).setCell ⟨w.heap.size, 3, none⟩ (.int .i8 0)).setCell ⟨w.heap.size, 4, none⟩ (.int .i8 0)).setCell ⟨w.heap.size, 5, none⟩ (.int .i8 0)) = W := ⟨_, rfl⟩
            rw [hW] at HR HBR
            go_wp2_with fail
            clear hW m0 m1 m2 m3 m4 m5 f0 f1 f2 f3 f4 f5
            obtain ⟨n0, n1, n2, n3, n4, n5⟩ := box6 HR.out (Below.refl _ _)
            refine bodyPost_ret (v := Value.tuple #[.agg #[.int .i8 0, .int .i8 0, .int .i8 0, .int .i8 0, .int .i8 0, .int .i8 0], .int .i64 210]) (by simp [results, Try.results18, go_sem, n0, n1, n2, n3, n4, n5]) rfl ?_
            exact ⟨by rw [HV.out]; rfl, HBR.out⟩
        · rcases hi7 with ⟨h3, hi⟩ | ⟨h3, ⟨yy, hiy⟩, hi⟩
          · have h3i : ¬ 2 < (k : Int) := by omega
            obtain ⟨m0, m1, m2, m3, m4, m5⟩ := box6 HZ1.out (Below.refl _ _)
            obtain ⟨f0, f1, f2, f3, f4, f5⟩ := free6 HZ1.out (Below.refl _ _)
            have HR := hid (HZ1.out.put6 (.int .i8 0) (.int .i8 0) (.int .i8 0) (.int .i8 0) (.int .i8 0) (.int .i8 0))
            have HBR := hid (dput6 HB1.out w.heap.size (Nat.le_refl _) (.int .i8 0) (.int .i8 0) (.int .i8 0) (.int .i8 0) (.int .i8 0) (.int .i8 0))
            obtain ⟨W, hW⟩ : ∃ W, ((((((wr.setCell ⟨w.heap.size, 0, none⟩ (.int .i8 0)).setCell ⟨w.heap.size, 1, none⟩ (.int .i8 0)).setCell ⟨w.heap.size, 2, none⟩ (.int .i8 0)).setCell ⟨w.heap.size, 3, none⟩ (.int .i8 0)).setCell ⟨w.heap.size, 4, none⟩ (.int .i8 0)).setCell ⟨w.heap.size, 5, none⟩ (.int .i8 0)) = W := ⟨_, rfl⟩
            rw [hW] at HR HBR
            go_wp2_with fail
            clear hW m0 m1 m2 m3 m4 m5 f0 f1 f2 f3 f4 f5
            obtain ⟨n0, n1, n2, n3, n4, n5⟩ := box6 HR.out (Below.refl _ _)
            refine bodyPost_ret (v := Value.tuple #[.agg #[.int .i8 0, .int .i8 0, .int .i8 0, .int .i8 0, .int .i8 0, .int .i8 0], .int .i64 210]) (by simp [results, Try.results18, go_sem, n0, n1, n2, n3, n4, n5]) rfl ?_
            exact ⟨by rw [HV.out]; rfl, HBR.out⟩
          · have h3i : 2 < (k : Int) := by omega
            obtain ⟨m0, m1, m2, m3, m4, m5⟩ := box6 HZ1.out (Below.refl _ _)
            obtain ⟨f0, f1, f2, f3, f4, f5⟩ := free6 HZ1.out (Below.refl _ _)
            have HR := hid (HZ1.out.put6 (.int .i8 0) (.int .i8 0) (.int .i8 0) (.int .i8 0) (.int .i8 0) (.int .i8 0))
            have HBR := hid (dput6 HB1.out w.heap.size (Nat.le_refl _) (.int .i8 0) (.int .i8 0) (.int .i8 0) (.int .i8 0) (.int .i8 0) (.int .i8 0))
            obtain ⟨W, hW⟩ : ∃ W, ((((((wr.setCell ⟨w.heap.size, 0, none⟩ (.int .i8 0)).setCell ⟨w.heap.size, 1, none⟩ (.int .i8 0)).setCell ⟨w.heap.size, 2, none⟩ (.int .i8 0)).setCell ⟨w.heap.size, 3, none⟩ (.int .i8 0)).setCell ⟨w.heap.size, 4, none⟩ (.int .i8 0)).setCell ⟨w.heap.size, 5, none⟩ (.int .i8 0)) = W := ⟨_, rfl⟩
            rw [hW] at HR HBR
            go_wp2_with fail
            clear hW m0 m1 m2 m3 m4 m5 f0 f1 f2 f3 f4 f5
            obtain ⟨n0, n1, n2, n3, n4, n5⟩ := box6 HR.out (Below.refl _ _)
            refine bodyPost_ret (v := Value.tuple #[.agg #[.int .i8 0, .int .i8 0, .int .i8 0, .int .i8 0, .int .i8 0, .int .i8 0], .int .i64 210]) (by simp [results, Try.results18, go_sem, n0, n1, n2, n3, n4, n5]) rfl ?_
            exact ⟨by rw [HV.out]; rfl, HBR.out⟩
    · obtain rfl : k = 6 := by omega
      have HV := hid (HG.out HJ.out)
      have HE : Hid ((doA fun k => ((c k).toNat : Int) - 53) = #[.int .i8 (((c 0).toNat : Int) - 53), .int .i8 (((c 1).toNat : Int) - 53), .int .i8 (((c 2).toNat : Int) - 53), .int .i8 (((c 3).toNat : Int) - 53), .int .i8 (((c 4).toNat : Int) - 53), .int .i8 (((c 5).toNat : Int) - 53)]) := rfl
      rw [dPn_six] at HP1
      rw [HE.out] at HP1 HV
      clear HE HG HN HJ
      generalize ((c 0).toNat : Int) - 53 = j0 at HP1 HV
      generalize ((c 1).toNat : Int) - 53 = j1 at HP1 HV
      generalize ((c 2).toNat : Int) - 53 = j2 at HP1 HV
      generalize ((c 3).toNat : Int) - 53 = j3 at HP1 HV
      generalize ((c 4).toNat : Int) - 53 = j4 at HP1 HV
      generalize ((c 5).toNat : Int) - 53 = j5 at HP1 HV
      obtain ⟨n0, n1, n2, n3, n4, n5⟩ := box6 HP1.out (Below.refl _ _)
      obtain ⟨m0, m1, m2, m3, m4, m5⟩ := box6 HZ1.out (Below.refl _ _)
      obtain ⟨f0, f1, f2, f3, f4, f5⟩ := free6 HZ1.out (Below.refl _ _)
      have HR := hid (HZ1.out.put6 (.int .i8 j0) (.int .i8 j1) (.int .i8 j2) (.int .i8 j3) (.int .i8 j4) (.int .i8 j5))
      have HBR := hid (dput6 HB1.out w.heap.size (Nat.le_refl _) (.int .i8 j0) (.int .i8 j1) (.int .i8 j2) (.int .i8 j3) (.int .i8 j4) (.int .i8 j5))
      obtain ⟨W, hW⟩ : ∃ W, ((((((wr.setCell ⟨w.heap.size, 0, none⟩ (.int .i8 j0)).setCell ⟨w.heap.size, 1, none⟩ (.int .i8 j1)).setCell ⟨w.heap.size, 2, none⟩ (.int .i8 j2)).setCell ⟨w.heap.size, 3, none⟩ (.int .i8 j3)).setCell ⟨w.heap.size, 4, none⟩ (.int .i8 j4)).setCell ⟨w.heap.size, 5, none⟩ (.int .i8 j5)) = W := ⟨_, rfl⟩
      rw [hW] at HR HBR
      clear HP1 HZ1 HB1
      go_wp2_with fail
      clear hW m0 m1 m2 m3 m4 m5 n0 n1 n2 n3 n4 n5 f0 f1 f2 f3 f4 f5
      obtain ⟨n0, n1, n2, n3, n4, n5⟩ := box6 HR.out (Below.refl _ _)
      refine bodyPost_ret (v := Value.tuple #[.agg #[.int .i8 j0, .int .i8 j1, .int .i8 j2, .int .i8 j3, .int .i8 j4, .int .i8 j5], .int .i64 0]) (by simp [results, Try.results18, go_sem, n0, n1, n2, n3, n4, n5]) rfl ?_
      exact ⟨by rw [HV.out], HBR.out⟩

theorem dpparse_any (s : ByteArray) (w : World) : Calls Try.prog 18 #[.string s] w fun e w' => e = .returned (dPr s) ∧ Below w.heap.size w w' := by
  by_cases h : s.size = 7
  · by_cases hp : s.data.getD 3 0 = 46
    · exact dpparse_dot s w h hp
    · exact dpparse_no s w (.inr ⟨h, hp⟩)
  · exact dpparse_no s w (.inl h)
end Go.Proofs.Ytophmdjdjjgokaa

/- package doodson: the table of known constituents, a map that the call makes. -/
namespace Go.Proofs.Ytophmdjdjjgokaa
open Go.RowKit Go.Maps
set_option linter.unusedVariables false

theorem dokeyed : Keyed Try.prog 9 := string_keyed Try.underlying9
/-- An element of the table reads as itself. -/
def vR (v : Value) : Option (DataW Value × List MemPlace) := some (.held v, [])
/-- The table. -/
def doTab : List (List UInt8 × Array Value) := [
  ([75, 49], #[.int .i8 1, .int .i8 1, .int .i8 0, .int .i8 0, .int .i8 0, .int .i8 0]),
  ([75, 50], #[.int .i8 2, .int .i8 2, .int .i8 0, .int .i8 0, .int .i8 0, .int .i8 0]),
  ([76, 50], #[.int .i8 2, .int .i8 1, .int .i8 0, .int .i8 (-1), .int .i8 0, .int .i8 0]),
  ([77, 50], #[.int .i8 2, .int .i8 0, .int .i8 0, .int .i8 0, .int .i8 0, .int .i8 0]),
  ([77, 52], #[.int .i8 4, .int .i8 0, .int .i8 0, .int .i8 0, .int .i8 0, .int .i8 0]),
  ([77, 83, 52], #[.int .i8 4, .int .i8 2, .int .i8 (-2), .int .i8 0, .int .i8 0, .int .i8 0]),
  ([77, 102], #[.int .i8 0, .int .i8 2, .int .i8 0, .int .i8 0, .int .i8 0, .int .i8 0]),
  ([77, 109], #[.int .i8 0, .int .i8 1, .int .i8 0, .int .i8 (-1), .int .i8 0, .int .i8 0]),
  ([78, 50], #[.int .i8 2, .int .i8 (-1), .int .i8 0, .int .i8 1, .int .i8 0, .int .i8 0]),
  ([78, 50, 120], #[.int .i8 2, .int .i8 (-2), .int .i8 0, .int .i8 2, .int .i8 0, .int .i8 0]),
  ([79, 49], #[.int .i8 1, .int .i8 (-1), .int .i8 0, .int .i8 0, .int .i8 0, .int .i8 0]),
  ([80, 49], #[.int .i8 1, .int .i8 1, .int .i8 (-2), .int .i8 0, .int .i8 0, .int .i8 0]),
  ([81, 49], #[.int .i8 1, .int .i8 (-2), .int .i8 0, .int .i8 1, .int .i8 0, .int .i8 0]),
  ([83, 50], #[.int .i8 2, .int .i8 2, .int .i8 (-2), .int .i8 0, .int .i8 0, .int .i8 0]),
  ([83, 97], #[.int .i8 0, .int .i8 0, .int .i8 1, .int .i8 0, .int .i8 0, .int .i8 0]),
  ([83, 115, 97], #[.int .i8 0, .int .i8 0, .int .i8 2, .int .i8 0, .int .i8 0, .int .i8 0])]
def doD : DataW Value := .map (doTab.map fun x => (Lit.string x.1, DataW.held (Value.agg x.2)))

theorem own_cast {H : Type} {P : Program} {k : TypeId} {R : Value → Option (DataW H × List MemPlace)} {w : World} {b n : Nat} {D D' : DataW H} (h : w.ownsMap P k R b n D) (e : D = D') : w.ownsMap P k R b n D' := e ▸ h

set_option maxHeartbeats 1600000 in
set_option maxRecDepth 100000 in
theorem dotable_any (w : World) : Calls Try.prog 22 #[] w fun e w' => e = .returned (.map (some w.heap.size)) ∧ w'.ownsMap Try.prog 9 vR w.heap.size 16 doD ∧ Below w.heap.size w w' := by
  have hmm := @run_makeMap Try.prog
  have o0 := World.ownsMap_made w Try.prog 9 vR
  have b0 : Below w.heap.size w (w.alloc (.map #[] 0)) := (Below.refl _ _).alloc (Nat.le_refl _) _
  generalize hw0 : w.alloc (.map #[] 0) = w0 at o0 b0
  obtain ⟨w1, r1, o1, g1⟩ := o0.update dokeyed Try.underlying51 (by decide) (key := .string ⟨#[75, 49]⟩) (val := .agg #[.int .i8 1, .int .i8 1, .int .i8 0, .int .i8 0, .int .i8 0, .int .i8 0]) (WideMaps.keyOf_string_mk Try.underlying9 (by decide)) rfl
  have b1 := b0.grown g1 b0.size (fun j hj => by cases hj; exact Nat.le_refl _)
  obtain ⟨w2, r2, o2, g2⟩ := o1.update dokeyed Try.underlying51 (by decide) (key := .string ⟨#[75, 50]⟩) (val := .agg #[.int .i8 2, .int .i8 2, .int .i8 0, .int .i8 0, .int .i8 0, .int .i8 0]) (WideMaps.keyOf_string_mk Try.underlying9 (by decide)) rfl
  have b2 := b1.grown g2 b1.size (fun j hj => by cases hj; exact Nat.le_refl _)
  obtain ⟨w3, r3, o3, g3⟩ := o2.update dokeyed Try.underlying51 (by decide) (key := .string ⟨#[76, 50]⟩) (val := .agg #[.int .i8 2, .int .i8 1, .int .i8 0, .int .i8 (-1), .int .i8 0, .int .i8 0]) (WideMaps.keyOf_string_mk Try.underlying9 (by decide)) rfl
  have b3 := b2.grown g3 b2.size (fun j hj => by cases hj; exact Nat.le_refl _)
  obtain ⟨w4, r4, o4, g4⟩ := o3.update dokeyed Try.underlying51 (by decide) (key := .string ⟨#[77, 50]⟩) (val := .agg #[.int .i8 2, .int .i8 0, .int .i8 0, .int .i8 0, .int .i8 0, .int .i8 0]) (WideMaps.keyOf_string_mk Try.underlying9 (by decide)) rfl
  have b4 := b3.grown g4 b3.size (fun j hj => by cases hj; exact Nat.le_refl _)
  obtain ⟨w5, r5, o5, g5⟩ := o4.update dokeyed Try.underlying51 (by decide) (key := .string ⟨#[77, 52]⟩) (val := .agg #[.int .i8 4, .int .i8 0, .int .i8 0, .int .i8 0, .int .i8 0, .int .i8 0]) (WideMaps.keyOf_string_mk Try.underlying9 (by decide)) rfl
  have b5 := b4.grown g5 b4.size (fun j hj => by cases hj; exact Nat.le_refl _)
  obtain ⟨w6, r6, o6, g6⟩ := o5.update dokeyed Try.underlying51 (by decide) (key := .string ⟨#[77, 83, 52]⟩) (val := .agg #[.int .i8 4, .int .i8 2, .int .i8 (-2), .int .i8 0, .int .i8 0, .int .i8 0]) (WideMaps.keyOf_string_mk Try.underlying9 (by decide)) rfl
  have b6 := b5.grown g6 b5.size (fun j hj => by cases hj; exact Nat.le_refl _)
  obtain ⟨w7, r7, o7, g7⟩ := o6.update dokeyed Try.underlying51 (by decide) (key := .string ⟨#[77, 102]⟩) (val := .agg #[.int .i8 0, .int .i8 2, .int .i8 0, .int .i8 0, .int .i8 0, .int .i8 0]) (WideMaps.keyOf_string_mk Try.underlying9 (by decide)) rfl
  have b7 := b6.grown g7 b6.size (fun j hj => by cases hj; exact Nat.le_refl _)
  obtain ⟨w8, r8, o8, g8⟩ := o7.update dokeyed Try.underlying51 (by decide) (key := .string ⟨#[77, 109]⟩) (val := .agg #[.int .i8 0, .int .i8 1, .int .i8 0, .int .i8 (-1), .int .i8 0, .int .i8 0]) (WideMaps.keyOf_string_mk Try.underlying9 (by decide)) rfl
  have b8 := b7.grown g8 b7.size (fun j hj => by cases hj; exact Nat.le_refl _)
  obtain ⟨w9, r9, o9, g9⟩ := o8.update dokeyed Try.underlying51 (by decide) (key := .string ⟨#[78, 50]⟩) (val := .agg #[.int .i8 2, .int .i8 (-1), .int .i8 0, .int .i8 1, .int .i8 0, .int .i8 0]) (WideMaps.keyOf_string_mk Try.underlying9 (by decide)) rfl
  have b9 := b8.grown g9 b8.size (fun j hj => by cases hj; exact Nat.le_refl _)
  obtain ⟨w10, r10, o10, g10⟩ := o9.update dokeyed Try.underlying51 (by decide) (key := .string ⟨#[78, 50, 120]⟩) (val := .agg #[.int .i8 2, .int .i8 (-2), .int .i8 0, .int .i8 2, .int .i8 0, .int .i8 0]) (WideMaps.keyOf_string_mk Try.underlying9 (by decide)) rfl
  have b10 := b9.grown g10 b9.size (fun j hj => by cases hj; exact Nat.le_refl _)
  obtain ⟨w11, r11, o11, g11⟩ := o10.update dokeyed Try.underlying51 (by decide) (key := .string ⟨#[79, 49]⟩) (val := .agg #[.int .i8 1, .int .i8 (-1), .int .i8 0, .int .i8 0, .int .i8 0, .int .i8 0]) (WideMaps.keyOf_string_mk Try.underlying9 (by decide)) rfl
  have b11 := b10.grown g11 b10.size (fun j hj => by cases hj; exact Nat.le_refl _)
  obtain ⟨w12, r12, o12, g12⟩ := o11.update dokeyed Try.underlying51 (by decide) (key := .string ⟨#[80, 49]⟩) (val := .agg #[.int .i8 1, .int .i8 1, .int .i8 (-2), .int .i8 0, .int .i8 0, .int .i8 0]) (WideMaps.keyOf_string_mk Try.underlying9 (by decide)) rfl
  have b12 := b11.grown g12 b11.size (fun j hj => by cases hj; exact Nat.le_refl _)
  obtain ⟨w13, r13, o13, g13⟩ := o12.update dokeyed Try.underlying51 (by decide) (key := .string ⟨#[81, 49]⟩) (val := .agg #[.int .i8 1, .int .i8 (-2), .int .i8 0, .int .i8 1, .int .i8 0, .int .i8 0]) (WideMaps.keyOf_string_mk Try.underlying9 (by decide)) rfl
  have b13 := b12.grown g13 b12.size (fun j hj => by cases hj; exact Nat.le_refl _)
  obtain ⟨w14, r14, o14, g14⟩ := o13.update dokeyed Try.underlying51 (by decide) (key := .string ⟨#[83, 50]⟩) (val := .agg #[.int .i8 2, .int .i8 2, .int .i8 (-2), .int .i8 0, .int .i8 0, .int .i8 0]) (WideMaps.keyOf_string_mk Try.underlying9 (by decide)) rfl
  have b14 := b13.grown g14 b13.size (fun j hj => by cases hj; exact Nat.le_refl _)
  obtain ⟨w15, r15, o15, g15⟩ := o14.update dokeyed Try.underlying51 (by decide) (key := .string ⟨#[83, 97]⟩) (val := .agg #[.int .i8 0, .int .i8 0, .int .i8 1, .int .i8 0, .int .i8 0, .int .i8 0]) (WideMaps.keyOf_string_mk Try.underlying9 (by decide)) rfl
  have b15 := b14.grown g15 b14.size (fun j hj => by cases hj; exact Nat.le_refl _)
  obtain ⟨w16, r16, o16, g16⟩ := o15.update dokeyed Try.underlying51 (by decide) (key := .string ⟨#[83, 115, 97]⟩) (val := .agg #[.int .i8 0, .int .i8 0, .int .i8 2, .int .i8 0, .int .i8 0, .int .i8 0]) (WideMaps.keyOf_string_mk Try.underlying9 (by decide)) rfl
  have b16 := b15.grown g16 b15.size (fun j hj => by cases hj; exact Nat.le_refl _)
  have HO := hid (own_cast o16 (show _ = doD by kernel_rfl))
  have HB := hid b16
  clear o16 b16 o15 b15 o14 b14 o13 b13 o12 b12 o11 b11 o10 b10 o9 b9 o8 b8 o7 b7 o6 b6 o5 b5 o4 b4 o3 b3 o2 b2 o1 b1 o0 b0 g16 g15 g14 g13 g12 g11 g10 g9 g8 g7 g6 g5 g4 g3 g2 g1
  go_enter Try.func22, Try.ntmps22
  go_wp2_with fail
  go_ret
  exact ⟨rfl, HO.out, HB.out⟩
end Go.Proofs.Ytophmdjdjjgokaa

/- package doodson: Known, of every name. -/
namespace Go.Proofs.Ytophmdjdjjgokaa
open Go.RowKit Go.Maps
set_option linter.unusedVariables false

/-- The numbers of a name, if it is one of the table's. -/
def kn (l : List UInt8) : Option (Array Value) := (doTab.find? (fun x => x.1 == l)).map (fun x => x.2)
def knV (l : List UInt8) : Value := match kn l with | some r => .tuple #[.agg r, .int .i64 0] | none => .tuple #[.agg (doA fun _ => 0), .int .i64 6]
theorem find_held (t : List (List UInt8 × Array Value)) (l : List UInt8) (z : DataW Value) : (DataW.map (t.map fun x => (Lit.string x.1, DataW.held (Value.agg x.2)))).atKey (.string l) z = (match (t.find? (fun x => x.1 == l)).map (fun x => x.2) with | some r => .held (.agg r) | none => z) ∧ Maps.has (DataW.map (t.map fun x => (Lit.string x.1, DataW.held (Value.agg x.2)))) (.string l) = ((t.find? (fun x => x.1 == l)).map (fun x => x.2)).isSome := by
  induction t with
  | nil => exact ⟨rfl, rfl⟩
  | cons x t ih =>
    unfold DataW.atKey Maps.has at *
    simp only [List.map_cons, List.find?_cons, List.any_cons, Lit.sameKey]
    by_cases h : (x.1 == l) = true
    · rw [h]; exact ⟨rfl, rfl⟩
    · rw [Bool.not_eq_true] at h
      rw [h]
      exact ⟨ih.1, by rw [Bool.false_or]; exact ih.2⟩
theorem doTab_six : ∀ x ∈ doTab, ∃ j : Nat → Int, x.2 = doA j := by
  intro x hx
  unfold doTab at hx
  have h : ∀ a b c d e f : Int, ∃ j : Nat → Int, (#[.int .i8 a, .int .i8 b, .int .i8 c, .int .i8 d, .int .i8 e, .int .i8 f] : Array Value) = doA j := fun a b c d e f => ⟨fun k => match k with | 0 => a | 1 => b | 2 => c | 3 => d | 4 => e | _ => f, rfl⟩
  simp only [List.mem_cons, List.not_mem_nil, or_false] at hx
  rcases hx with rfl | rfl | rfl | rfl | rfl | rfl | rfl | rfl | rfl | rfl | rfl | rfl | rfl | rfl | rfl | rfl <;> exact h _ _ _ _ _ _
theorem kn_six {l : List UInt8} {r : Array Value} (h : kn l = some r) : ∃ j : Nat → Int, r = doA j := by
  unfold kn at h
  rw [Option.map_eq_some_iff] at h
  obtain ⟨x, hx, rfl⟩ := h
  exact doTab_six x (List.mem_of_find?_eq_some hx)

theorem dozero (w : World) : (zeroValue 29).run Try.prog w = .ok (.agg (doA fun _ => 0)) w := by kernel_rfl

theorem dolook (w : World) (b n : Nat) (s : ByteArray) (hs : s.size ≤ maxLen) (h : w.ownsMap Try.prog 9 vR b n doD) :
    (kn s.data.toList = none ∧ (Instr.lookup 51 (.map (some b)) (.string s) true).run Try.prog w = .ok (.tuple #[.agg (doA fun _ => 0), .bool false]) w) ∨ (∃ j : Nat → Int, kn s.data.toList = some (doA j) ∧ (Instr.lookup 51 (.map (some b)) (.string s) true).run Try.prog w = .ok (.tuple #[.agg (doA j), .bool true]) w) := by
  obtain ⟨v, ps, hr, hv⟩ := h.look_ok dokeyed Try.underlying51 (dozero w) (zd := .held (.agg (doA fun _ => 0))) (zp := []) rfl (WideMaps.keyOf_string_mk Try.underlying9 hs)
  have e := find_held doTab s.data.toList (.held (.agg (doA fun _ => 0)))
  rw [show doD = DataW.map (doTab.map fun x => (Lit.string x.1, DataW.held (Value.agg x.2))) from rfl] at hr hv
  rw [e.2] at hr
  rw [e.1] at hv
  have ek : (doTab.find? (fun x => x.1 == s.data.toList)).map (fun x => x.2) = kn s.data.toList := rfl
  rw [ek] at hr hv
  cases hk : kn s.data.toList with
  | none =>
    rw [hk] at hr hv
    unfold vR at hv
    simp only [Option.some.injEq, Prod.mk.injEq, DataW.held.injEq] at hv
    rw [hv.1] at hr
    exact .inl ⟨rfl, hr⟩
  | some r =>
    rw [hk] at hr hv
    unfold vR at hv
    simp only [Option.some.injEq, Prod.mk.injEq, DataW.held.injEq] at hv
    rw [hv.1] at hr
    obtain ⟨j, rfl⟩ := kn_six hk
    exact .inr ⟨j, rfl, hr⟩

set_option maxHeartbeats 1600000 in
set_option maxRecDepth 100000 in
theorem doknown_any (s : ByteArray) (w : World) (hs : s.size ≤ maxLen) : Calls Try.prog 7 #[.string s] w fun e w' => e = .returned (knV s.data.toList) ∧ Below w.heap.size w w' := by
  have HT := hid (fun V => dotable_any V)
  have HX := hid (boxes1 w 29 #[.int .i8 0, .int .i8 0, .int .i8 0, .int .i8 0, .int .i8 0, .int .i8 0])
  obtain ⟨X, hX⟩ : ∃ X, w.alloc (.cells #[.int .i8 0, .int .i8 0, .int .i8 0, .int .i8 0, .int .i8 0, .int .i8 0] 29) = X := ⟨_, rfl⟩
  rw [hX] at HX
  have HS := hid hs
  clear hs
  go_enter Try.func7, Try.ntmps7
  go_wp2_with fail
  clear hX
  refine Calls.mono (HT.out _) ?_
  rintro e w1 ⟨rfl, ho, hb⟩
  have HB1 := hid (b2 HX.out.2 hb)
  have HR1 := hid (HX.out.1.later hb HX.out.1.lt)
  have hlt1 : w.heap.size < w1.heap.size := HR1.out.lt
  rcases dolook w1 X.heap.size 16 s HS.out ho with ⟨hk, hl⟩ | ⟨j, hk, hl⟩
  · have HK : Hid (knV s.data.toList = .tuple #[.agg #[.int .i8 0, .int .i8 0, .int .i8 0, .int .i8 0, .int .i8 0, .int .i8 0], .int .i64 6]) := by show _ = _; unfold knV; rw [hk]; rfl
    unfold doA at hl
    clear hk ho hb
    have HN := hid (boxes1 w1 29 #[.int .i8 0, .int .i8 0, .int .i8 0, .int .i8 0, .int .i8 0, .int .i8 0])
    obtain ⟨w2, hW⟩ : ∃ w2, w1.alloc (.cells #[.int .i8 0, .int .i8 0, .int .i8 0, .int .i8 0, .int .i8 0, .int .i8 0] 29) = w2 := ⟨_, rfl⟩
    rw [hW] at HN
    obtain ⟨m0, m1, m2, m3, m4, m5⟩ := box6 HN.out.1 (Below.refl _ _)
    obtain ⟨f0, f1, f2, f3, f4, f5⟩ := free6 HN.out.1 (Below.refl _ _)
    have HR2 := hid ((((((((HR1.out.later HN.out.2 HR1.out.lt).off (show w.heap.size ≠ w1.heap.size by omega) 0 (.int .i8 0)).off (show w.heap.size ≠ w1.heap.size by omega) 1 (.int .i8 0)).off (show w.heap.size ≠ w1.heap.size by omega) 2 (.int .i8 0)).off (show w.heap.size ≠ w1.heap.size by omega) 3 (.int .i8 0)).off (show w.heap.size ≠ w1.heap.size by omega) 4 (.int .i8 0)).off (show w.heap.size ≠ w1.heap.size by omega) 5 (.int .i8 0)))
    have HB2 := hid (dput6 (b2 HB1.out HN.out.2) w1.heap.size (by omega) (.int .i8 0) (.int .i8 0) (.int .i8 0) (.int .i8 0) (.int .i8 0) (.int .i8 0))
    obtain ⟨w3, hW3⟩ : ∃ w3, ((((((w2.setCell ⟨w1.heap.size, 0, none⟩ (.int .i8 0)).setCell ⟨w1.heap.size, 1, none⟩ (.int .i8 0)).setCell ⟨w1.heap.size, 2, none⟩ (.int .i8 0)).setCell ⟨w1.heap.size, 3, none⟩ (.int .i8 0)).setCell ⟨w1.heap.size, 4, none⟩ (.int .i8 0)).setCell ⟨w1.heap.size, 5, none⟩ (.int .i8 0)) = w3 := ⟨_, rfl⟩
    rw [hW3] at HR2 HB2
    obtain ⟨k0, k1, k2, k3, k4, k5⟩ := box6 HR2.out (Below.refl _ _)
    obtain ⟨g0, g1, g2, g3, g4, g5⟩ := free6 HR2.out (Below.refl _ _)
    have HR3 := hid (HR2.out.put6 (.int .i8 0) (.int .i8 0) (.int .i8 0) (.int .i8 0) (.int .i8 0) (.int .i8 0))
    have HB3 := hid (dput6 HB2.out w.heap.size (Nat.le_refl _) (.int .i8 0) (.int .i8 0) (.int .i8 0) (.int .i8 0) (.int .i8 0) (.int .i8 0))
    obtain ⟨w4, hW4⟩ : ∃ w4, ((((((w3.setCell ⟨w.heap.size, 0, none⟩ (.int .i8 0)).setCell ⟨w.heap.size, 1, none⟩ (.int .i8 0)).setCell ⟨w.heap.size, 2, none⟩ (.int .i8 0)).setCell ⟨w.heap.size, 3, none⟩ (.int .i8 0)).setCell ⟨w.heap.size, 4, none⟩ (.int .i8 0)).setCell ⟨w.heap.size, 5, none⟩ (.int .i8 0)) = w4 := ⟨_, rfl⟩
    rw [hW4] at HR3 HB3
    clear HN HR1 HB1 HR2 HB2 HX
    go_wp2_with fail
    clear m0 m1 m2 m3 m4 m5 f0 f1 f2 f3 f4 f5 k0 k1 k2 k3 k4 k5 g0 g1 g2 g3 g4 g5 hl hW hW3 hW4
    obtain ⟨k0, k1, k2, k3, k4, k5⟩ := box6 HR3.out (Below.refl _ _)
    refine bodyPost_ret (v := Value.tuple #[.agg #[.int .i8 0, .int .i8 0, .int .i8 0, .int .i8 0, .int .i8 0, .int .i8 0], .int .i64 6]) (by simp [results, Try.results7, go_sem, k0, k1, k2, k3, k4, k5]) rfl ?_
    exact ⟨by rw [HK.out], HB3.out⟩
  · have HK : Hid (knV s.data.toList = .tuple #[.agg (doA j), .int .i64 0]) := by show _ = _; unfold knV; rw [hk]
    unfold doA at hl HK
    clear hk ho hb
    generalize j 0 = j0 at hl HK
    generalize j 1 = j1 at hl HK
    generalize j 2 = j2 at hl HK
    generalize j 3 = j3 at hl HK
    generalize j 4 = j4 at hl HK
    generalize j 5 = j5 at hl HK
    have HN := hid (boxes1 w1 29 #[.int .i8 j0, .int .i8 j1, .int .i8 j2, .int .i8 j3, .int .i8 j4, .int .i8 j5])
    obtain ⟨w2, hW⟩ : ∃ w2, w1.alloc (.cells #[.int .i8 j0, .int .i8 j1, .int .i8 j2, .int .i8 j3, .int .i8 j4, .int .i8 j5] 29) = w2 := ⟨_, rfl⟩
    rw [hW] at HN
    obtain ⟨m0, m1, m2, m3, m4, m5⟩ := box6 HN.out.1 (Below.refl _ _)
    have HR2 := hid (HR1.out.later HN.out.2 HR1.out.lt)
    have HB2 := hid (b2 HB1.out HN.out.2)
    obtain ⟨k0, k1, k2, k3, k4, k5⟩ := box6 HR2.out (Below.refl _ _)
    obtain ⟨g0, g1, g2, g3, g4, g5⟩ := free6 HR2.out (Below.refl _ _)
    have HR3 := hid (HR2.out.put6 (.int .i8 j0) (.int .i8 j1) (.int .i8 j2) (.int .i8 j3) (.int .i8 j4) (.int .i8 j5))
    have HB3 := hid (dput6 HB2.out w.heap.size (Nat.le_refl _) (.int .i8 j0) (.int .i8 j1) (.int .i8 j2) (.int .i8 j3) (.int .i8 j4) (.int .i8 j5))
    obtain ⟨w4, hW4⟩ : ∃ w4, ((((((w2.setCell ⟨w.heap.size, 0, none⟩ (.int .i8 j0)).setCell ⟨w.heap.size, 1, none⟩ (.int .i8 j1)).setCell ⟨w.heap.size, 2, none⟩ (.int .i8 j2)).setCell ⟨w.heap.size, 3, none⟩ (.int .i8 j3)).setCell ⟨w.heap.size, 4, none⟩ (.int .i8 j4)).setCell ⟨w.heap.size, 5, none⟩ (.int .i8 j5)) = w4 := ⟨_, rfl⟩
    rw [hW4] at HR3 HB3
    clear HN HR1 HB1 HR2 HB2 HX
    go_wp2_with fail
    clear m0 m1 m2 m3 m4 m5 k0 k1 k2 k3 k4 k5 g0 g1 g2 g3 g4 g5 hl hW hW4
    obtain ⟨k0, k1, k2, k3, k4, k5⟩ := box6 HR3.out (Below.refl _ _)
    refine bodyPost_ret (v := Value.tuple #[.agg #[.int .i8 j0, .int .i8 j1, .int .i8 j2, .int .i8 j3, .int .i8 j4, .int .i8 j5], .int .i64 0]) (by simp [results, Try.results7, go_sem, k0, k1, k2, k3, k4, k5]) rfl ?_
    exact ⟨by rw [HK.out], HB3.out⟩
end Go.Proofs.Ytophmdjdjjgokaa

/- package doodson: Print, of every six numbers. -/
namespace Go.Proofs.Ytophmdjdjjgokaa
open Go.RowKit
set_option linter.unusedVariables false

/-- An append of one value where there is room. -/
theorem dappend_room1 {P : Program} (w : World) {ops : Array Oper} {rest : List Oper} {o : Oper} {a : Act} {Q : Exit → Act → World → Prop}
    (hg : o.guard = none) (s x : Operand) (t : TypeId) (hop : o.op = Op.call { callee := Callee.builtin Builtin.append, args := #[s, x], argTypes := #[t, t] })
    (e : TypeId) (i : TypeInfo) (h1 : P.underlying t = some (.slice e)) (h2 : P.info? e = some i) (h4 : i.size = 1)
    (b n cap : Nat) (hs : a.eval s = .slice (some ⟨b, 0, none⟩) n cap)
    (ad : Addr) (c : Nat) (v : Value) (hx : a.eval x = .slice (some ad) 1 c) (hc : ∀ j u, [v][j]? = some u → w.cell? (ad.add j) = some u) (h1c : v.oneCell' = true)
    (hr : n + 1 ≤ cap) (hspare : (w.cell? ⟨b, n, none⟩).isSome = true ∧ w.frozen? ⟨b, n, none⟩ = false)
    (hroom : wpList P ops Q rest (a.put o.dst (.slice (some ⟨b, 0, none⟩) (n + 1) cap)) (w.setCell ⟨b, n, none⟩ v)) :
    wpList P ops Q (o :: rest) a w := by
  refine wpList_plain hg fun K hK' => ?_
  have hrun := run_append_room_cells (P := P) w t o.type e i h1 h2 b 0 n cap ad 1 c [v] (by simp [h4]) hc (by simpa using h1c) hr (fun j hj => by
    obtain rfl : j = 0 := by simpa using hj
    simpa [h4] using hspare.1) (fun j hj => by
    obtain rfl : j = 0 := by simpa using hj
    simpa [h4] using hspare.2)
  unfold Oper.wp
  simp [execOp, hop, resolve, invoke, builtin, hs, hx, hrun, Result.andThen]
  have e2 : w.setCells b (0 + n * i.size) [v] = w.setCell ⟨b, n, none⟩ v := by rw [h4, Nat.zero_add, Nat.mul_one]; rfl
  rw [Nat.zero_add] at e2
  rw [e2]
  exact hK' _ _ hroom

/-- A number's digit. -/
def dB (x : Int) : UInt8 := UInt8.ofNat (53 + x).toNat
theorem dB_nat {x : Int} (h : -4 ≤ x ∧ x ≤ 4) : ((dB x).toNat : Int) = 53 + x := by
  obtain ⟨n, rfl⟩ : ∃ n : Nat, x = (n : Int) - 4 := ⟨(x + 4).toNat, by omega⟩
  have hn : n ≤ 8 := by omega
  rcases (show n = 0 ∨ n = 1 ∨ n = 2 ∨ n = 3 ∨ n = 4 ∨ n = 5 ∨ n = 6 ∨ n = 7 ∨ n = 8 by omega) with rfl | rfl | rfl | rfl | rfl | rfl | rfl | rfl | rfl <;> decide
/-- The numbers' text. -/
def dtxt (d : Nat → Int) : List UInt8 := [dB (d 0), dB (d 1), dB (d 2), 46, dB (d 3), dB (d 4), dB (d 5)]
/-- Its place j, as a number. -/
def dC (d : Nat → Int) (j : Nat) : Int := if j < 3 then 53 + d j else if j = 3 then 46 else 53 + d (j - 1)
theorem dC_txt {d : Nat → Int} (h : dOK d) (j : Nat) (hj : j < (dtxt d).length) : (((dtxt d)[j]).toNat : Int) = dC d j := by
  have hj7 : j < 7 := hj
  rcases (show j = 0 ∨ j = 1 ∨ j = 2 ∨ j = 3 ∨ j = 4 ∨ j = 5 ∨ j = 6 by omega) with rfl | rfl | rfl | rfl | rfl | rfl | rfl
  · exact dB_nat (h 0 (by decide))
  · exact dB_nat (h 1 (by decide))
  · exact dB_nat (h 2 (by decide))
  · rfl
  · exact dB_nat (h 3 (by decide))
  · exact dB_nat (h 4 (by decide))
  · exact dB_nat (h 5 (by decide))
/-- The text while it is written. -/
def dL (d : Nat → Int) (n : Nat) : Array Value := ((List.range 7).map (fun j => if j < n then Value.int .u8 (dC d j) else .int .u8 0)).toArray
theorem dL_set (d : Nat → Int) (n : Nat) (hn : n < 7) : (dL d n).setIfInBounds n (.int .u8 (dC d n)) = dL d (n + 1) := by
  rcases (show n = 0 ∨ n = 1 ∨ n = 2 ∨ n = 3 ∨ n = 4 ∨ n = 5 ∨ n = 6 by omega) with rfl | rfl | rfl | rfl | rfl | rfl | rfl <;> rfl
theorem dL_at (d : Nat → Int) (n : Nat) (hn : n < 7) : (dL d n)[n]? = some (.int .u8 0) := by
  rcases (show n = 0 ∨ n = 1 ∨ n = 2 ∨ n = 3 ∨ n = 4 ∨ n = 5 ∨ n = 6 by omega) with rfl | rfl | rfl | rfl | rfl | rfl | rfl <;> rfl
theorem dL_full (d : Nat → Int) (j : Nat) (hj : j < 7) : (dL d 7)[j]? = some (.int .u8 (dC d j)) := by
  rcases (show j = 0 ∨ j = 1 ∨ j = 2 ∨ j = 3 ∨ j = 4 ∨ j = 5 ∨ j = 6 by omega) with rfl | rfl | rfl | rfl | rfl | rfl | rfl <;> rfl

theorem doprint_err (d : Nat → Int) (w : World) (hd : ¬ dOK d) : Calls Try.prog 14 #[.agg (doA d)] w fun e w' => e = .returned (.tuple #[.string ⟨#[]⟩, .int .i64 210]) ∧ Below w.heap.size w w' := by
  have HC := hid (fun V => docheck_any d V)
  rw [dchk_no hd] at HC
  have HX := hid (boxes1 w 29 (doA d))
  obtain ⟨X, hX⟩ : ∃ X, w.alloc (.cells (doA d) 29) = X := ⟨_, rfl⟩
  rw [hX] at HX
  clear hd
  unfold doA at *
  obtain ⟨n0, n1, n2, n3, n4, n5⟩ := box6 HX.out.1 (Below.refl _ _)
  go_enter Try.func14, Try.ntmps14
  go_wp2_with fail
  refine Calls.mono (HC.out _) ?_
  rintro e w1 ⟨rfl, hb⟩
  have HB := hid (b2 HX.out.2 hb)
  clear hb HX HC n0 n1 n2 n3 n4 n5
  go_wp2_with fail
  go_returns
  exact ⟨rfl, HB.out⟩

set_option maxHeartbeats 1600000 in
set_option maxRecDepth 100000 in
theorem doprint_ok (d : Nat → Int) (w : World) (hd : dOK d) : Calls Try.prog 14 #[.agg (doA d)] w fun e w' => e = .returned (.tuple #[.string ⟨(dtxt d).toArray⟩, .int .i64 0]) ∧ Below w.heap.size w w' := by
  have HC := hid (fun V => docheck_any d V)
  rw [dchk_ok hd] at HC
  have HX := hid (boxes1 w 29 (doA d))
  obtain ⟨X, hX⟩ : ∃ X, w.alloc (.cells (doA d) 29) = X := ⟨_, rfl⟩
  rw [hX] at HX
  have HI : Hid (∀ k : Nat, k < 6 → ∀ V, (Instr.index 29 (.agg #[.int .i8 (d 0), .int .i8 (d 1), .int .i8 (d 2), .int .i8 (d 3), .int .i8 (d 4), .int .i8 (d 5)]) (.int .i64 (k : Int))).run Try.prog V = .ok (.int .i8 (d k)) V) := fun k hk V => didx d k V hk
  have hmk : ∀ V : World, (Instr.makeSlice 60 (.int .i64 0) (.int .i64 7)).run Try.prog V = .ok (.slice (some ⟨V.heap.size, 0, none⟩) 0 7) (V.alloc (.cells #[.int .u8 0, .int .u8 0, .int .u8 0, .int .u8 0, .int .u8 0, .int .u8 0, .int .u8 0] 5)) := fun V => by kernel_rfl
  obtain ⟨i0, hi0, hz0, hz1, hz2⟩ := info_parts (show (Try.prog.info? 5).map (fun i => (i.zero, i.size, i.bytes)) = some (some (.int .u8 0), 1, 1) by kernel_rfl)
  unfold doA at *
  obtain ⟨n0, n1, n2, n3, n4, n5⟩ := box6 HX.out.1 (Below.refl _ _)
  go_enter Try.func14, Try.ntmps14
  go_wp2_with fail
  refine Calls.mono (HC.out _) ?_
  rintro e w1 ⟨rfl, hb⟩
  clear n0 n1 n2 n3 n4 n5 hX
  have HX1 := hid (HX.out.1.later hb HX.out.1.lt)
  have HB1 := hid (b2 HX.out.2 hb)
  have HN := hid (boxes1 w1 5 (dL d 0))
  obtain ⟨w2, hW⟩ : ∃ w2, w1.alloc (.cells #[.int .u8 0, .int .u8 0, .int .u8 0, .int .u8 0, .int .u8 0, .int .u8 0, .int .u8 0] 5) = w2 := ⟨_, rfl⟩
  rw [show w1.alloc (.cells (dL d 0) 5) = w2 from hW] at HN
  have HX2 := hid (HX1.out.later HN.out.2 HX1.out.lt)
  have HB2 := hid (b2 HB1.out HN.out.2)
  have HG2 := hid HN.out.1
  have hgw : w.heap.size ≤ w1.heap.size := HB1.out.size
  clear hb HX HN HX1 HB1 HC
  obtain ⟨n0, n1, n2, n3, n4, n5⟩ := box6 HX2.out (Below.refl _ _)
  go_wp2_with fail
  clear n0 n1 n2 n3 n4 n5 hW
  generalize w1.heap.size = g at HG2 hgw ⊢
  go_loopw [5, 15] (fun x y wr => ∃ k n : Nat, k ≤ 6 ∧ y = .int .i64 (k : Int) ∧ x = .slice (some ⟨g, 0, none⟩) n 7 ∧ ((k ≤ 3 ∧ n = k) ∨ (3 < k ∧ n = k + 1)) ∧ Hid (FBox wr g 5 (dL d n)) ∧ Hid (Below w.heap.size w wr)) (fun _ y _ => 6 - (intOf y).toNat)
  case atStart => exact ⟨0, 0, by decide, rfl, rfl, .inl ⟨by decide, rfl⟩, HG2, HB2⟩
  case round =>
    obtain ⟨k, n, hk, rfl, rfl, hn, HF, HB⟩ := hrel
    by_cases hlt : k < 6
    · have hi := HI.out k hlt
      obtain ⟨p0, p1⟩ := hd k hlt
      have hgl : g < wr.heap.size := HF.out.lt
      have e1 : IntKind.i8.wrap (53 + d k) = 53 + d k := wrap8 (by omega) (by omega)
      have e2 : IntKind.u8.wrap (53 + d k) = 53 + d k := by rw [IntKind.wrap_u8]; omega
      by_cases h3 : k = 3
      · subst h3
        obtain rfl : n = 3 := by omega
        have hi : ∀ V, (Instr.index 29 (.agg #[.int .i8 (d 0), .int .i8 (d 1), .int .i8 (d 2), .int .i8 (d 3), .int .i8 (d 4), .int .i8 (d 5)]) (.int .i64 3)).run Try.prog V = .ok (.int .i8 (d 3)) V := fun V => didx d 3 V (by decide)
        have HS1 := hid (dL_set d 3 (by decide))
        have HS2 := hid (dL_set d 4 (by decide))
        rw [show dC d 3 = 46 from rfl] at HS1
        rw [show dC d 4 = 53 + d 3 from rfl] at HS2
        have HA1 := hid (HF.out.later ((Below.refl _ _).alloc (Nat.le_refl _) (.cells #[.int .u8 46] 5)) HF.out.lt)
        have HP1 : Hid ((((wr.alloc (.cells #[.int .u8 46] 5)).cell? ⟨g, 3, none⟩).isSome = true) ∧ (wr.alloc (.cells #[.int .u8 46] 5)).frozen? ⟨g, 3, none⟩ = false) := ⟨by rw [HA1.out.cell 3, dL_at d 3 (by decide)]; rfl, HA1.out.free 3⟩
        have HF1 : Hid (FBox (wr.setCell ⟨g, 3, none⟩ (.int .u8 46)) g 5 (dL d 4)) := by
          have e := HF.out.set 3 (.int .u8 46)
          rw [HS1.out] at e
          exact e
        have HF2 := hid (HF1.out.later ((Below.refl _ _).alloc (Nat.le_refl _) (.cells #[.int .u8 46] 5)) HF1.out.lt)
        have HF3 := hid (HF2.out.later ((Below.refl _ _).alloc (Nat.le_refl _) (.cells #[.int .u8 (53 + d 3)] 5)) HF2.out.lt)
        have hsz : ((wr.setCell ⟨g, 3, none⟩ (.int .u8 46)).alloc (.cells #[.int .u8 46] 5)).heap.size = wr.heap.size + 1 := by rw [World.size_alloc]; simp
        have HP2 : Hid ((((((wr.setCell ⟨g, 3, none⟩ (.int .u8 46)).alloc (.cells #[.int .u8 46] 5)).alloc (.cells #[.int .u8 (53 + d 3)] 5)).cell? ⟨g, 4, none⟩).isSome = true) ∧ (((wr.setCell ⟨g, 3, none⟩ (.int .u8 46)).alloc (.cells #[.int .u8 46] 5)).alloc (.cells #[.int .u8 (53 + d 3)] 5)).frozen? ⟨g, 4, none⟩ = false) := ⟨by rw [HF3.out.cell 4, dL_at d 4 (by decide)]; rfl, HF3.out.free 4⟩
        have HC2 : Hid (∀ (j : Nat) (u : Value), [Value.int .u8 (53 + d 3)][j]? = some u → (((wr.setCell ⟨g, 3, none⟩ (.int .u8 46)).alloc (.cells #[.int .u8 46] 5)).alloc (.cells #[.int .u8 (53 + d 3)] 5)).cell? ((⟨wr.heap.size + 1, 0, none⟩ : Addr).add j) = some u) := by
          have e := cell_one_new ((wr.setCell ⟨g, 3, none⟩ (.int .u8 46)).alloc (.cells #[.int .u8 46] 5)) (Value.int .u8 (53 + d 3)) 5
          rw [hsz] at e
          exact e
        clear hsz
        have tok : True := trivial
        go_wp2_with (at_builtin; first | (have _t := tok; refine dappend_room1 _ rfl _ _ 60 rfl 5 i0 Try.underlying60 hi0 hz1 g 3 7 rfl ⟨wr.heap.size, 0, none⟩ 1 (.int .u8 46) rfl (cell_one_new _ _ _) rfl (by omega) HP1.out ?_; clear tok) | refine dappend_room1 _ rfl _ _ 60 rfl 5 i0 Try.underlying60 hi0 hz1 g 4 7 rfl ⟨wr.heap.size + 1, 0, none⟩ 1 (.int .u8 (53 + d 3)) rfl HC2.out rfl (by omega) HP2.out ?_)
        go_roundw
        case rel =>
          have e := HF1.out.set 4 (.int .u8 (53 + d 3))
          rw [HS2.out] at e
          have e2 := e.later ((Below.refl _ _).alloc (Nat.le_refl _) (.cells #[.int .u8 46] 5)) e.lt
          have b := (HB.out.setCell (p := ⟨g, 3, none⟩) hgw (.int .u8 46)).setCell (p := ⟨g, 4, none⟩) hgw (.int .u8 (53 + d 3))
          have b' := b.alloc b.size (.cells #[.int .u8 46] 5)
          exact ⟨4, 5, by decide, by go_num, rfl, .inr ⟨by decide, rfl⟩, e2.later ((Below.refl _ _).alloc (Nat.le_refl _) (.cells #[.int .u8 (53 + d 3)] 5)) e2.lt, b'.alloc b'.size (.cells #[.int .u8 (53 + d 3)] 5)⟩
        case measure => simp [intOf]
      · have h3' : ¬ (k : Int) = 3 := by omega
        have HS1 := hid (dL_set d n (by omega))
        rw [show dC d n = 53 + d k by
          unfold dC
          rcases hn with ⟨a, rfl⟩ | ⟨a, rfl⟩
          · rw [if_pos (by omega)]
          · rw [if_neg (by omega), if_neg (by omega)]; rfl] at HS1
        have HLA := hid (dL_at d n (by omega))
        have hn7 : n < 7 := by omega
        have HNN : Hid ((k + 1 ≤ 3 ∧ n + 1 = k + 1) ∨ (3 < k + 1 ∧ n + 1 = k + 1 + 1)) := by show _ ∨ _; omega
        generalize d k = y at *
        have HA1 := hid (HF.out.later ((Below.refl _ _).alloc (Nat.le_refl _) (.cells #[.int .u8 (53 + y)] 5)) HF.out.lt)
        have HB1 := hid (HB.out.alloc HB.out.size (.cells #[.int .u8 (53 + y)] 5))
        have HP1 : Hid ((((wr.alloc (.cells #[.int .u8 (53 + y)] 5)).cell? ⟨g, n, none⟩).isSome = true) ∧ (wr.alloc (.cells #[.int .u8 (53 + y)] 5)).frozen? ⟨g, n, none⟩ = false) := ⟨by rw [HA1.out.cell n, HLA.out]; rfl, HA1.out.free n⟩
        clear hn
        go_wp2_with (at_builtin; refine dappend_room1 _ rfl _ _ 60 rfl 5 i0 Try.underlying60 hi0 hz1 g n 7 rfl ⟨wr.heap.size, 0, none⟩ 1 (.int .u8 (53 + y)) rfl (cell_one_new _ _ _) rfl (by omega) HP1.out ?_)
        go_roundw
        case rel =>
          refine ⟨k + 1, n + 1, by omega, by go_num, rfl, HNN.out, ?_, (HB.out.setCell (p := ⟨g, n, none⟩) hgw _).alloc (by simpa using HB.out.size) _⟩
          have e := HF.out.set n (.int .u8 (53 + y))
          rw [HS1.out] at e
          exact e.later ((Below.refl _ _).alloc (Nat.le_refl _) _) e.lt
        case measure => simp [intOf]; omega
    · obtain rfl : k = 6 := by omega
      obtain rfl : n = 7 := by omega
      have hcv : (convert 60 9 (.slice (some ⟨g, 0, none⟩) 7 7)).run Try.prog wr = .ok (.string ⟨(dtxt d).toArray⟩) wr := by
        refine run_convert_bytes_back wr 60 9 5 ⟨g, 0, none⟩ 7 (dtxt d) Try.underlying60 Try.underlying5 Try.underlying9 (fun j hj => ?_)
        rw [dC_txt hd j hj]
        have e := HF.out.cell j
        rw [dL_full d j hj] at e
        rw [show (⟨g, 0, none⟩ : Addr).add j = ⟨g, j, none⟩ by unfold Addr.add; split <;> simp_all]
        exact e
      obtain ⟨T, hT⟩ : ∃ T, dtxt d = T := ⟨_, rfl⟩
      have HT := hid hT
      rw [hT] at hcv
      clear hT
      go_wp2_with fail
      go_returns
      exact ⟨by rw [HT.out]; rfl, HB.out⟩
end Go.Proofs.Ytophmdjdjjgokaa

/- The statements' own lives: some of chapter 11's examples. -/
namespace Go.Proofs.Ytophmdjdjjgokaa
open Go.RowKit
set_option linter.unusedVariables false

/-- Six numbers are those. -/
def dEq (d e : Nat → Int) : Bool := d 0 == e 0 && (d 1 == e 1 && (d 2 == e 2 && (d 3 == e 3 && (d 4 == e 4 && d 5 == e 5))))
theorem dEq_iff (d e : Nat → Int) : dEq d e = true ↔ ∀ k, k < 6 → d k = e k := by
  unfold dEq
  simp only [Bool.and_eq_true, beq_iff_eq]
  constructor
  · rintro ⟨h0, h1, h2, h3, h4, h5⟩ k hk
    rcases (show k = 0 ∨ k = 1 ∨ k = 2 ∨ k = 3 ∨ k = 4 ∨ k = 5 by omega) with rfl | rfl | rfl | rfl | rfl | rfl <;> assumption
  · intro h
    exact ⟨h 0 (by decide), h 1 (by decide), h 2 (by decide), h 3 (by decide), h 4 (by decide), h 5 (by decide)⟩
theorem dEq_self (d : Nat → Int) : dEq d d = true := (dEq_iff d d).2 (fun _ _ => rfl)
theorem deq_item (w : World) (d : Nat) (xs ys : Array Value) (k : Nat) (is : List Nat) (a b : Int) (ha : xs[k]? = some (.int .i8 a)) (hb : ys[k]? = some (.int .i8 b)) :
    (Op.eqItems (d + 1) 27 1 xs ys (k :: is)).run Try.prog w = if a == b then (Op.eqItems (d + 1) 27 1 xs ys is).run Try.prog w else .ok false w := by
  have p1 := run_part_plain (P := Try.prog) w (e := 27) (by kernel_rfl) (xs := xs) (off := k * 1) (v := .int .i8 a) (by rw [Nat.mul_one]; exact ha)
  have p2 := run_part_plain (P := Try.prog) w (e := 27) (by kernel_rfl) (xs := ys) (off := k * 1) (v := .int .i8 b) (by rw [Nat.mul_one]; exact hb)
  have p3 := run_equalIn_int (P := Try.prog) w d 27 .i8 .i8 a b Try.underlying27
  simp only [Op.eqItems, Sem.run_bind, p1, p2, p3, Result.andThen_ok]
  cases h : (a == b)
  · simp
  · simp
theorem doeq (d e : Nat → Int) (w : World) : (Op.equalIn 10000 29 (.agg (doA d)) (.agg (doA e))).run Try.prog w = .ok (dEq d e) w := by
  obtain ⟨i0, hi0⟩ : ∃ i0, Try.prog.info? 27 = some i0 := by
    have h : (Try.prog.info? 27).isSome = true := by kernel_rfl
    exact Option.isSome_iff_exists.1 h
  rw [show (10000 : Nat) = 9999 + 1 from rfl, run_equalIn_array (P := Try.prog) w 9999 (doA d) (doA e) Try.underlying29 hi0, show Try.prog.cellsOf 27 = 1 by kernel_rfl]
  rw [show List.range 6 = [0, 1, 2, 3, 4, 5] from rfl, show (9999 : Nat) = 9998 + 1 from rfl]
  rw [deq_item w 9998 (doA d) (doA e) 0 _ (d 0) (e 0) rfl rfl, deq_item w 9998 (doA d) (doA e) 1 _ (d 1) (e 1) rfl rfl, deq_item w 9998 (doA d) (doA e) 2 _ (d 2) (e 2) rfl rfl, deq_item w 9998 (doA d) (doA e) 3 _ (d 3) (e 3) rfl rfl, deq_item w 9998 (doA d) (doA e) 4 _ (d 4) (e 4) rfl rfl, deq_item w 9998 (doA d) (doA e) 5 _ (d 5) (e 5) rfl rfl]
  unfold dEq
  cases (d 0 == e 0) <;> cases (d 1 == e 1) <;> cases (d 2 == e 2) <;> cases (d 3 == e 3) <;> cases (d 4 == e 4) <;> cases (d 5 == e 5) <;> simp [Op.eqItems]

/-- M2's numbers. -/
def dM2 : Nat → Int := fun k => if k = 0 then 2 else 0
theorem dM2_ok : dOK dM2 := by decide
theorem dM2_known : knV [77, 50] = .tuple #[.agg #[.int .i8 2, .int .i8 0, .int .i8 0, .int .i8 0, .int .i8 0, .int .i8 0], .int .i64 0] := by kernel_rfl

set_option maxHeartbeats 1600000 in
set_option maxRecDepth 100000 in
theorem dolives_any (w : World) : Calls Try.prog 16 #[] w fun e w' => e = .returned (.bool true) ∧ Below w.heap.size w w' := by
  have HK : Hid (∀ V, Calls Try.prog 7 #[.string ⟨#[77, 50]⟩] V fun e w' => e = .returned (.tuple #[.agg #[.int .i8 2, .int .i8 0, .int .i8 0, .int .i8 0, .int .i8 0, .int .i8 0], .int .i64 0]) ∧ Below V.heap.size V w') := fun V => by
    have e := doknown_any ⟨#[77, 50]⟩ V (by decide)
    rw [show (⟨#[77, 50]⟩ : ByteArray).data.toList = [77, 50] from rfl, dM2_known] at e
    exact e
  have HS : Hid (∀ V, Calls Try.prog 10 #[.agg #[.int .i8 2, .int .i8 0, .int .i8 0, .int .i8 0, .int .i8 0, .int .i8 0]] V fun e w' => e = .returned (.tuple #[.agg #[.int .i64 144920521, .int .i64 1800000000], .int .i64 0]) ∧ Below V.heap.size V w') := fun V => by
    have e := dospeed_ok dM2 V dM2_ok
    rw [show circ (dV dM2) = (144920521, 1800000000, 0) by decide +kernel] at e
    exact e
  have HP : Hid (∀ V, Calls Try.prog 14 #[.agg #[.int .i8 2, .int .i8 0, .int .i8 0, .int .i8 0, .int .i8 0, .int .i8 0]] V fun e w' => e = .returned (.tuple #[.string ⟨#[55, 53, 53, 46, 53, 53, 53]⟩, .int .i64 0]) ∧ Below V.heap.size V w') := fun V => doprint_ok dM2 V dM2_ok
  obtain ⟨e0, e1, e2, e3, e4, e5, HE⟩ : ∃ e0 e1 e2 e3 e4 e5 : Int, Hid (e0 = 2 ∧ e1 = 0 ∧ e2 = 0 ∧ e3 = 0 ∧ e4 = 0 ∧ e5 = 0) := ⟨_, _, _, _, _, _, ⟨rfl, rfl, rfl, rfl, rfl, rfl⟩⟩
  have hL : (#[.int .i8 2, .int .i8 0, .int .i8 0, .int .i8 0, .int .i8 0, .int .i8 0] : Array Value) = #[.int .i8 e0, .int .i8 e1, .int .i8 e2, .int .i8 e3, .int .i8 e4, .int .i8 e5] := by obtain ⟨rfl, rfl, rfl, rfl, rfl, rfl⟩ := HE.out; rfl
  rw [hL] at HK HS HP
  clear hL
  have HB := hid (Below.refl w.heap.size w)
  go_enter Try.func16, Try.ntmps16
  go_wp2_with fail
  refine Calls.mono (HK.out _) ?_
  rintro e w1 ⟨rfl, hb⟩
  replace HB := hid (b2 HB.out hb)
  clear hb
  have HN := hid (boxes1 w1 29 #[.int .i8 e0, .int .i8 e1, .int .i8 e2, .int .i8 e3, .int .i8 e4, .int .i8 e5])
  obtain ⟨w2, hW⟩ : ∃ w2, w1.alloc (.cells #[.int .i8 e0, .int .i8 e1, .int .i8 e2, .int .i8 e3, .int .i8 e4, .int .i8 e5] 29) = w2 := ⟨_, rfl⟩
  rw [hW] at HN
  replace HB := hid (b2 HB.out HN.out.2)
  have HD := hid HN.out.1
  clear HN
  obtain ⟨n0, n1, n2, n3, n4, n5⟩ := box6 HD.out (Below.refl _ _)
  go_wp2_with fail
  clear hW n0 n1 n2 n3 n4 n5
  refine Calls.mono (HS.out _) ?_
  rintro e w3 ⟨rfl, hb⟩
  replace HB := hid (b2 HB.out hb)
  replace HD := hid (HD.out.later hb HD.out.lt)
  clear hb
  have HN := hid (boxes1 w3 36 #[.int .i64 144920521, .int .i64 1800000000])
  obtain ⟨w4, hW⟩ : ∃ w4, w3.alloc (.cells #[.int .i64 144920521, .int .i64 1800000000] 36) = w4 := ⟨_, rfl⟩
  rw [hW] at HN
  replace HB := hid (b2 HB.out HN.out.2)
  replace HD := hid (HD.out.later HN.out.2 HD.out.lt)
  have HV := hid HN.out.1
  clear HN
  obtain ⟨n0, n1, n2, n3, n4, n5⟩ := box6 HD.out (Below.refl _ _)
  go_wp2_with fail
  clear hW n0 n1 n2 n3 n4 n5
  refine Calls.mono (HP.out _) ?_
  rintro e w5 ⟨rfl, hb⟩
  replace HB := hid (b2 HB.out hb)
  replace HD := hid (HD.out.later hb HD.out.lt)
  replace HV := hid (HV.out.later hb HV.out.lt)
  clear hb
  obtain ⟨n0, n1, n2, n3, n4, n5⟩ := box6 HD.out (Below.refl _ _)
  obtain ⟨v0, v1, _, _⟩ := fbox_facts HV.out (Below.refl _ _)
  obtain ⟨rfl, rfl, rfl, rfl, rfl, rfl⟩ := HE.out
  have heq : ∀ V : World, (Op.equalIn 10000 29 (.agg #[.int .i8 2, .int .i8 0, .int .i8 0, .int .i8 0, .int .i8 0, .int .i8 0]) (.agg #[.int .i8 2, .int .i8 0, .int .i8 0, .int .i8 0, .int .i8 0, .int .i8 0])).run Try.prog V = .ok true V := fun V => doeq dM2 dM2 V
  go_wp2_with fail
  all_goals first | (go_ret; exact ⟨rfl, HB.out⟩) | (go_ret; exact ⟨rfl, HB.out.drew⟩)
end Go.Proofs.Ytophmdjdjjgokaa

/- package argument: All, of every tick. -/
namespace Go.Proofs.Ytophmdjdjjgokaa
open Go.RowKit
set_option linter.unusedVariables false

/-- The list while it is filled. -/
def agL (t k : Nat) : Array Value := ((List.range 6).map (fun j => if j < k then Value.int .i64 (agU j t : Int) else .int .i64 0)).toArray
theorem agL_set (t k : Nat) (hk : k < 6) : (agL t k).setIfInBounds k (.int .i64 (agU k t : Int)) = agL t (k + 1) := by
  rcases (show k = 0 ∨ k = 1 ∨ k = 2 ∨ k = 3 ∨ k = 4 ∨ k = 5 by omega) with rfl | rfl | rfl | rfl | rfl | rfl <;> rfl
theorem agL_at (t k : Nat) (hk : k < 6) : (agL t k)[k]? = some (.int .i64 0) := by
  rcases (show k = 0 ∨ k = 1 ∨ k = 2 ∨ k = 3 ∨ k = 4 ∨ k = 5 by omega) with rfl | rfl | rfl | rfl | rfl | rfl <;> rfl

end Go.Proofs.Ytophmdjdjjgokaa

/- package argument: Name, Find, of every number and text. -/
namespace Go.Proofs.Ytophmdjdjjgokaa
open Go.RowKit
set_option linter.unusedVariables false

theorem agstr_other {s t : ByteArray} (h : ¬ s = t) : (s.toList == t.toList) = false := by
  cases e : (s.toList == t.toList) with
  | false => rfl
  | true =>
    refine absurd ?_ h
    rw [beq_iff_eq, ByteArray.toList_eq, ByteArray.toList_eq, Array.toList_inj] at e
    exact ByteArray.ext e
/-- Which angle has this name, from k on. -/
def agFrom (s : ByteArray) : Nat → Nat → Option Nat
  | 0, _ => none
  | m + 1, k => if agN k = s then some k else agFrom s m (k + 1)
def agF (s : ByteArray) : Option Nat := agFrom s 6 0
def agFV (o : Option Nat) : Value := match o with
  | none => .tuple #[.int .i64 0, .bool false]
  | some k => .tuple #[.int .i64 (k : Int), .bool true]
theorem agFrom_step (s : ByteArray) (m k : Nat) : (agN k = s ∧ agFrom s (m + 1) k = some k) ∨ (agN k ≠ s ∧ agFrom s (m + 1) k = agFrom s m (k + 1)) := by
  have e : agFrom s (m + 1) k = if agN k = s then some k else agFrom s m (k + 1) := rfl
  rw [e]
  by_cases h : agN k = s
  · rw [if_pos h]; exact .inl ⟨h, rfl⟩
  · rw [if_neg h]; exact .inr ⟨h, rfl⟩

end Go.Proofs.Ytophmdjdjjgokaa

/- The document's angles: its table, which numbers may be, its units. -/
namespace Go.Proofs.Ytophmdjdjjgokaa
open Go.RowKit
set_option linter.unusedVariables false

def agok (k t : Int) : Bool := decide ((0 ≤ k ∧ k < 6) ∧ 0 ≤ t ∧ t ≤ 1048576)
theorem ahcells {w : World} {g t : Nat} (h : FBox w g t agT) (k : Nat) (hk : k < 6) : w.cell? ⟨g, k * 3, none⟩ = some (.string (agN k)) ∧ w.cell? ⟨g, k * 3 + 1, none⟩ = some (.int .i64 (agB k : Int)) ∧ w.cell? ⟨g, k * 3 + 2, none⟩ = some (.int .i64 (agS k : Int)) := by
  rcases (show k = 0 ∨ k = 1 ∨ k = 2 ∨ k = 3 ∨ k = 4 ∨ k = 5 by omega) with rfl | rfl | rfl | rfl | rfl | rfl
  · exact ⟨h.cell 0, h.cell 1, h.cell 2⟩
  · exact ⟨h.cell 3, h.cell 4, h.cell 5⟩
  · exact ⟨h.cell 6, h.cell 7, h.cell 8⟩
  · exact ⟨h.cell 9, h.cell 10, h.cell 11⟩
  · exact ⟨h.cell 12, h.cell 13, h.cell 14⟩
  · exact ⟨h.cell 15, h.cell 16, h.cell 17⟩

end Go.Proofs.Ytophmdjdjjgokaa

/- The document's turns: gcd, Check, Of, Neg, Sub, Times, of every turn, every two numbers. -/
namespace Go.Proofs.Ytophmdjdjjgokaa
open Go.RowKit
set_option linter.unusedVariables false

theorem gcd_low (p q : Nat) (hp : p < q) (hq : q ≤ 4294967296) : lowR p q = (((p / Nat.gcd p q : Nat) : Int), ((q / Nat.gcd p q : Nat) : Int), 0) := by
  unfold lowR
  rw [if_pos (Nat.le_trans (Nat.div_le_self _ _) hq)]

theorem neg_of {p q : Int} (h : okI p q) : ofR (-p) q = negR p q := by
  obtain ⟨h1, h2, h3, h4, h5⟩ := gcd_back h
  unfold ofR negR
  rw [if_neg (by omega), if_neg (by omega), if_pos h, gcd_low _ _ (by omega) (by omega), h5, Nat.div_one, Nat.div_one]
  congr 1
  · omega
  · congr 1; omega
theorem times_of {p q : Int} (h : okI p q) (n : Int) : ofR (p * n) q = timesR p q n := by
  have h1 := h.1
  have h2 := h.2.1
  unfold ofR timesR
  rw [if_neg (by omega), if_neg (by omega), if_pos h]

end Go.Proofs.Ytophmdjdjjgokaa

/- The document's answers of layer 11: Check, Phase. -/
namespace Go.Proofs.Ytophmdjdjjgokaa
open Go.RowKit
set_option linter.unusedVariables false

theorem doA_at (d : Nat → Int) (k : Nat) (hk : k < 6) : (doA d)[k]? = some (.int .i8 (d k)) := by
  rcases (show k = 0 ∨ k = 1 ∨ k = 2 ∨ k = 3 ∨ k = 4 ∨ k = 5 by omega) with rfl | rfl | rfl | rfl | rfl | rfl <;> rfl

theorem dS_small {d : Nat → Int} (hd : dOK d) (t k : Nat) (hk : k ≤ 6) : -(4 * 3600000000 * (k : Int)) ≤ dS d (fun j => (agU j t : Int)) k ∧ dS d (fun j => (agU j t : Int)) k ≤ 4 * 3600000000 * (k : Int) := by
  induction k with
  | zero => exact ⟨by show (-(4 * 3600000000 * (0 : Int))) ≤ 0; decide, by show (0 : Int) ≤ 4 * 3600000000 * (0 : Int); decide⟩
  | succ k ih =>
    have h := ih (by omega)
    have a := hd k (by omega)
    have u := agU_lt k t
    have m1 : d k * (agU k t : Int) ≤ 4 * (agU k t : Int) := Int.mul_le_mul_of_nonneg_right a.2 (by omega)
    have m2 : -4 * (agU k t : Int) ≤ d k * (agU k t : Int) := Int.mul_le_mul_of_nonneg_right a.1 (by omega)
    unfold dS
    generalize d k * (agU k t : Int) = P at *
    generalize dS d (fun j => (agU j t : Int)) k = S at *
    omega
theorem dpmul_small {x : Int} (hx : -4 ≤ x ∧ x ≤ 4) (k t : Nat) : -14400000000 ≤ x * (agU k t : Int) ∧ x * (agU k t : Int) ≤ 14400000000 := by
  have u := agU_lt k t
  have m1 : x * (agU k t : Int) ≤ 4 * (agU k t : Int) := Int.mul_le_mul_of_nonneg_right hx.2 (by omega)
  have m2 : -4 * (agU k t : Int) ≤ x * (agU k t : Int) := Int.mul_le_mul_of_nonneg_right hx.1 (by omega)
  omega

end Go.Proofs.Ytophmdjdjjgokaa

