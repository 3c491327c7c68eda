/- My texts on the way to ClockNames, one behind the other: contracts of the program and of the document's answers. -/
import Derived.WalkKit
import Derived.WalkLawsBesides
import Derived.WalkSpells
import Derived.Laws.BitsAllLaws
import Derived.Laws.CopyOwn
import Derived.Laws.AppendOwnNone
import Derived.Test.YtfapekhmdhkioaaDoorChecked
import Derived.Handy
import Derived.Deep.RegionHeld3
import Derived.RegionTactic
import Derived.ChangeAlike
import Derived.BigQuiet
import Derived.Test.YtfapekhmdhkioaaDoorShelf
import Derived.Lib.AtoiErrMem
import Derived.Lib.IndexBytes
import Derived.Lib.CutLaws
import Derived.Lib.ItoaLen
import Derived.Shelf.RegionOpenPlain
/- Lists of 32-bit words as plain data: their trimmed length, their value, when they are read out of memory. Nothing here speaks of the program. -/
namespace Go.Proofs.YtfapekhmdhkioaaDoor
open Go.RowKit

theorem hid {p : Prop} (h : p) : Hid p := h

/-- Each number is a word of 32 bits. -/
def Wd (zs : List Int) : Prop := ∀ z ∈ zs, 0 ≤ z ∧ z ≤ 4294967295

theorem Wd.at {zs : List Int} (h : Wd zs) (j : Nat) : 0 ≤ zs[j]?.getD 0 ∧ zs[j]?.getD 0 ≤ 4294967295 := by
  by_cases hj : j < zs.length
  · rw [List.getElem?_eq_getElem hj]; exact h _ (List.getElem_mem hj)
  · rw [List.getElem?_eq_none (by omega)]; exact ⟨by decide, by decide⟩

theorem Wd.take {zs : List Int} (h : Wd zs) (k : Nat) : Wd (zs.take k) := fun z hz => h z (List.mem_of_mem_take hz)
theorem Wd.drop {zs : List Int} (h : Wd zs) (k : Nat) : Wd (zs.drop k) := fun z hz => h z (List.mem_of_mem_drop hz)
theorem Wd.append {zs ys : List Int} (h : Wd zs) (g : Wd ys) : Wd (zs ++ ys) := fun z hz => (List.mem_append.1 hz).elim (h z) (g z)
theorem Wd.nil : Wd [] := fun _ hz => by simp at hz
theorem Wd.cons {z : Int} {zs : List Int} (h0 : 0 ≤ z ∧ z ≤ 4294967295) (h : Wd zs) : Wd (z :: zs) := fun y hy => by
  rcases List.mem_cons.1 hy with rfl | hy
  · exact h0
  · exact h y hy
theorem Wd.one {z : Int} (h0 : 0 ≤ z ∧ z ≤ 4294967295) : Wd [z] := Wd.cons h0 Wd.nil
theorem Wd.replicate (n : Nat) : Wd (List.replicate n 0) := fun z hz => by
  have := (List.mem_replicate.1 hz).2; omega
theorem Wd.set {zs : List Int} (h : Wd zs) (j : Nat) {z : Int} (h0 : 0 ≤ z ∧ z ≤ 4294967295) : Wd (zs.set j z) := fun y hy => by
  rcases List.mem_or_eq_of_mem_set hy with hy | rfl
  · exact h y hy
  · exact h0
theorem Wd.tail {z : Int} {zs : List Int} (h : Wd (z :: zs)) : Wd zs := fun y hy => h y (List.mem_cons_of_mem _ hy)
theorem Wd.head {z : Int} {zs : List Int} (h : Wd (z :: zs)) : 0 ≤ z ∧ z ≤ 4294967295 := h z List.mem_cons_self

/-- How many of the first k words stay when noughts at their end are dropped. -/
def szTo (zs : List Int) : Nat → Nat
  | 0 => 0
  | k + 1 => if zs[k]?.getD 0 = 0 then szTo zs k else k + 1
def sz (zs : List Int) : Nat := szTo zs zs.length
def trimmed (zs : List Int) : List Int := zs.take (sz zs)

theorem szTo_le (zs : List Int) : ∀ k, szTo zs k ≤ k
  | 0 => Nat.le_refl _
  | k + 1 => by
    unfold szTo
    split
    · exact Nat.le_succ_of_le (szTo_le zs k)
    · exact Nat.le_refl _
theorem sz_le (zs : List Int) : sz zs ≤ zs.length := szTo_le zs _
theorem szTo_zero (zs : List Int) (k : Nat) (h : zs[k]?.getD 0 = 0) : szTo zs (k + 1) = szTo zs k := by simp [szTo, h]
theorem szTo_keep (zs : List Int) (k : Nat) (h : ¬ zs[k]?.getD 0 = 0) : szTo zs (k + 1) = k + 1 := by simp [szTo, h]
theorem length_trimmed (zs : List Int) : (trimmed zs).length = sz zs := by
  unfold trimmed; rw [List.length_take, Nat.min_eq_left (sz_le zs)]
theorem Wd.trimmed {zs : List Int} (h : Wd zs) : Wd (trimmed zs) := h.take _
/-- Behind the trimmed length stand noughts alone. -/
theorem szTo_behind (zs : List Int) : ∀ k j, szTo zs k ≤ j → j < k → zs[j]?.getD 0 = 0
  | 0, _, _, h => by omega
  | k + 1, j, h1, h2 => by
    by_cases h : zs[k]?.getD 0 = 0
    · rw [szTo_zero zs k h] at h1
      by_cases e : j = k
      · rw [e]; exact h
      · exact szTo_behind zs k j h1 (by omega)
    · rw [szTo_keep zs k h] at h1; omega
theorem sz_behind (zs : List Int) (j : Nat) (h1 : sz zs ≤ j) : zs[j]?.getD 0 = 0 := by
  by_cases h : j < zs.length
  · exact szTo_behind zs _ j h1 h
  · rw [List.getElem?_eq_none (by omega)]; rfl
/-- The last word that stays is not 0. -/
theorem szTo_top (zs : List Int) : ∀ k, 0 < szTo zs k → ¬ zs[szTo zs k - 1]?.getD 0 = 0
  | 0, h => by simp [szTo] at h
  | k + 1, h => by
    by_cases e : zs[k]?.getD 0 = 0
    · rw [szTo_zero zs k e] at h ⊢; exact szTo_top zs k h
    · rw [szTo_keep zs k e]; simpa using e
theorem sz_top (zs : List Int) (h : 0 < sz zs) : ¬ zs[sz zs - 1]?.getD 0 = 0 := szTo_top zs _ h

/-- The list is trimmed: just if it is empty or its last word is not 0. -/
theorem sz_eq_iff (zs : List Int) : sz zs = zs.length ↔ zs.length = 0 ∨ ¬ zs[zs.length - 1]?.getD 0 = 0 := by
  constructor
  · intro h
    by_cases h0 : zs.length = 0
    · exact .inl h0
    · right; have := sz_top zs (by omega); rwa [h] at this
  · rintro (h | h)
    · have := sz_le zs; omega
    · by_cases h0 : zs.length = 0
      · have := sz_le zs; omega
      · obtain ⟨m, hm⟩ : ∃ m, zs.length = m + 1 := ⟨zs.length - 1, by omega⟩
        unfold sz; rw [hm]; rw [hm] at h
        exact szTo_keep zs m (by simpa using h)

/-- The slice whose address is 'a', whose length is 'n' and whose capacity is 'cap' reads as 'zs' in the world 'w': below block number B. -/
def Reads (w : World) (B : Nat) (a : Option Addr) (n cap : Nat) (zs : List Int) : Prop :=
  zs.length = n ∧ Wd zs ∧ (n = 0 ∨ ∃ b o, a = some ⟨b, o, none⟩ ∧ b < B ∧ ∀ j, j < n → w.cell? ⟨b, o + j, none⟩ = some (.int .u32 (zs[j]?.getD 0))) ∧ n ≤ cap ∧ cap ≤ maxLen ∧ (a = none → cap = 0)

theorem Reads.later {w w' : World} {B B' : Nat} {a : Option Addr} {n cap : Nat} {zs : List Int} (h : Reads w B a n cap zs) (hb : Below B w w') (hB : B ≤ B') : Reads w' B' a n cap zs := by
  obtain ⟨h1, h2, h3, h4⟩ := h
  refine ⟨h1, h2, h3.imp id ?_, h4⟩
  rintro ⟨b, o, rfl, hlt, hc⟩
  exact ⟨b, o, rfl, by omega, fun j hj => (hb.cell (p := ⟨b, o + j, none⟩) hlt).trans (hc j hj)⟩

/-- Of a slice its first k elements. -/
theorem Reads.front {w : World} {B : Nat} {a : Option Addr} {n cap : Nat} {zs : List Int} (h : Reads w B a n cap zs) (k : Nat) (hk : k ≤ n) : Reads w B a k cap (zs.take k) := by
  obtain ⟨h1, h2, h3, h4, h5, h6⟩ := h
  refine ⟨by rw [List.length_take]; omega, h2.take k, ?_, by omega, h5, h6⟩
  rcases h3 with h3 | ⟨b, o, ha, hlt, hc⟩
  · left; omega
  · right
    refine ⟨b, o, ha, hlt, fun j hj => ?_⟩
    rw [hc j (by omega), List.getElem?_take, if_pos hj]

/-- What the call owns is read as its words. -/
theorem Reads.own {w : World} {base e : Nat} {v : Value} {zs : List Int} {n : Nat} (h : w.ownsRow base e 1 v n (zs.map (Value.int .u32))) (hw : Wd zs) :
    ∃ a cap, v = .slice a n cap ∧ Reads w w.heap.size a n cap zs := by
  have hl := h.1
  simp at hl
  rcases h.2 with ⟨rfl, rfl⟩ | ⟨g, cap, cur, rfl, hb, hg, hnc, hcm, hcs, ht⟩
  · exact ⟨none, 0, rfl, by omega, hw, .inl rfl, Nat.le_refl _, Nat.zero_le _, fun _ => rfl⟩
  · refine ⟨_, cap, rfl, by omega, hw, ?_, hnc, hcm, fun h => by simp at h⟩
    right
    refine ⟨g, 0, rfl, ?_, fun j hj => ?_⟩
    · have : w.heap[g]?.isSome := by rw [hg]; rfl
      simpa using this
    · have hc := h.cellAt j (by omega)
      rw [Nat.zero_add, hc, List.getElem?_map, List.getElem?_eq_getElem (by omega)]
      simp

/-- What is owned stays owned while only newer memory is made. -/
theorem owns_later {w w' : World} {base e : Nat} {v : Value} {n : Nat} {xs : List Value} (h : w.ownsRow base e 1 v n xs) (hb : Below w.heap.size w w') : w'.ownsRow base e 1 v n xs := by
  refine ⟨h.1, h.2.imp id ?_⟩
  rintro ⟨g, cap, cur, rfl, hbg, hg, h1, h2, h3, h4⟩
  refine ⟨g, cap, cur, rfl, hbg, ?_, h1, h2, h3, h4⟩
  rw [hb.block g (by
    have : w.heap[g]?.isSome := by rw [hg]; rfl
    simpa using this)]
  exact hg

/-- What is owned from one block number on is owned from every smaller one on. -/
theorem owns_base {w : World} {base base' e : Nat} {v : Value} {n : Nat} {xs : List Value} (h : w.ownsRow base e 1 v n xs) (hb : base' ≤ base) : w.ownsRow base' e 1 v n xs := by
  refine ⟨h.1, h.2.imp id ?_⟩
  rintro ⟨g, cap, cur, rfl, hbg, hr⟩
  exact ⟨g, cap, cur, rfl, by omega, hr⟩
/-- A slice literal, just laid, is read. -/
theorem Reads.lit (w : World) (e : Nat) (zs : List Int) (hw : Wd zs) (hm : zs.length ≤ maxLen) : Reads (w.alloc (.cells ((zs.map (Value.int .u32)).toArray) e)) (w.alloc (.cells ((zs.map (Value.int .u32)).toArray) e)).heap.size (some ⟨w.heap.size, 0, none⟩) zs.length zs.length zs := by
  have h := World.ownsRow_lit (base := w.heap.size) (e := e) (size := 1) w ((zs.map (Value.int .u32)).toArray) zs.length (Nat.le_refl _) hm (by simp)
  obtain ⟨a, cap, hv, hr⟩ := Reads.own (zs := zs) (by simpa using h) hw
  simp only [Value.slice.injEq] at hv
  obtain ⟨rfl, _, rfl⟩ := hv
  exact hr

/-- A word above a word. -/
theorem or_join (x y : Int) (hx0 : 0 ≤ x) (hx : x ≤ 4294967295) (hy0 : 0 ≤ y) (hy : y ≤ 4294967295) : bits BinOp.or IntKind.u64 (x * 4294967296) y = y + x * 4294967296 := by
  rw [u64_or _ _ (by omega) (by omega) (by omega) (by omega), nat_join 32 _ _ (by omega) (by omega)]
  omega

theorem ret_int {k : IntKind} {a b : Int} (h : a = b) : Ending.returned (.int k a) = .returned (.int k b) := by rw [h]
theorem ret_bool {a b : Bool} (h : a = b) : Ending.returned (.bool a) = .returned (.bool b) := by rw [h]
end Go.Proofs.YtfapekhmdhkioaaDoor

/- The calendar: days of years and months, the date of a day, no program. -/
namespace Go.Proofs.YtfapekhmdhkioaaDoor
set_option linter.unusedVariables false

def lp (y : Nat) : Bool := (y % 4 == 0 && y % 100 != 0) || y % 400 == 0
def yd (y : Nat) : Nat := if lp y then 366 else 365
def md (y m : Nat) : Nat := if m = 2 then (if lp y then 29 else 28) else if m = 4 ∨ m = 6 ∨ m = 9 ∨ m = 11 then 30 else if 1 ≤ m ∧ m ≤ 12 then 31 else 0
/-- The days of the first k years. -/
def yT : Nat → Nat
  | 0 => 0
  | k + 1 => yT k + yd (2000 + k)
/-- The days of a year's first j months. -/
def mT (y : Nat) : Nat → Nat
  | 0 => 0
  | j + 1 => mT y j + md y (j + 1)
/-- The day n is the day r (from 0 on) of the month j (from 0 on) of the year 2000 + k. -/
def IsD (n k j r : Nat) : Prop := yT k + mT (2000 + k) j + r = n ∧ j < 12 ∧ r < md (2000 + k) (j + 1)

theorem yd_or (y : Nat) : yd y = 365 ∨ yd y = 366 := by unfold yd; cases lp y <;> simp
theorem md_le (y m : Nat) : md y m ≤ 31 := by
  unfold md
  cases lp y <;> simp <;> repeat' split
  all_goals omega
theorem md_pos (y m : Nat) (h : 1 ≤ m) (h' : m ≤ 12) : 28 ≤ md y m := by
  unfold md
  cases lp y <;> simp <;> repeat' split
  all_goals omega
theorem md_none (y m : Nat) (h : ¬ (1 ≤ m ∧ m ≤ 12)) : md y m = 0 := by
  unfold md
  rw [if_neg (by omega), if_neg (by omega), if_neg h]
theorem mT12 (y : Nat) : mT y 12 = yd y := by
  unfold yd
  simp only [mT, md]
  cases lp y <;> simp
theorem mT_le (y : Nat) : ∀ j i, j ≤ i → mT y j ≤ mT y i
  | j, 0, h => by
    obtain rfl : j = 0 := by omega
    exact Nat.le_refl _
  | j, i + 1, h => by
    by_cases e : j = i + 1
    · rw [e]; exact Nat.le_refl _
    · have := mT_le y j i (by omega)
      show _ ≤ mT y i + _
      omega
theorem yT_le : ∀ j i, j ≤ i → yT j ≤ yT i
  | j, 0, h => by
    obtain rfl : j = 0 := by omega
    exact Nat.le_refl _
  | j, i + 1, h => by
    by_cases e : j = i + 1
    · rw [e]; exact Nat.le_refl _
    · have := yT_le j i (by omega)
      show _ ≤ yT i + _
      omega
theorem yT_365 : ∀ k, 365 * k ≤ yT k ∧ yT k ≤ 366 * k
  | 0 => by simp [yT]
  | k + 1 => by
    have := yT_365 k
    rcases yd_or (2000 + k) with h | h <;> simp only [yT, h] <;> omega
theorem yT119 : yT 119 = 43464 := by decide +kernel
theorem yT120 : yT 120 = 43829 := by decide +kernel
theorem IsD.in_year {n k j r : Nat} (h : IsD n k j r) : yT k ≤ n ∧ n < yT (k + 1) := by
  obtain ⟨h1, h2, h3⟩ := h
  have a : mT (2000 + k) (j + 1) = mT (2000 + k) j + md (2000 + k) (j + 1) := rfl
  have b := mT_le (2000 + k) (j + 1) 12 (by omega)
  have c := mT12 (2000 + k)
  have d : yT (k + 1) = yT k + yd (2000 + k) := rfl
  omega
theorem IsD.only {n k j r k' j' r' : Nat} (h : IsD n k j r) (g : IsD n k' j' r') : k = k' ∧ j = j' ∧ r = r' := by
  have a := h.in_year
  have b := g.in_year
  have e : k = k' := by
    rcases Nat.lt_trichotomy k k' with c | c | c
    · have := yT_le (k + 1) k' (by omega); omega
    · exact c
    · have := yT_le (k' + 1) k (by omega); omega
  subst e
  obtain ⟨h1, h2, h3⟩ := h
  obtain ⟨g1, g2, g3⟩ := g
  have a1 : mT (2000 + k) (j + 1) = mT (2000 + k) j + md (2000 + k) (j + 1) := rfl
  have a2 : mT (2000 + k) (j' + 1) = mT (2000 + k) j' + md (2000 + k) (j' + 1) := rfl
  have e : j = j' := by
    rcases Nat.lt_trichotomy j j' with c | c | c
    · have := mT_le (2000 + k) (j + 1) j' (by omega); omega
    · exact c
    · have := mT_le (2000 + k) (j' + 1) j (by omega); omega
  subst e
  exact ⟨rfl, rfl, by omega⟩
/-- A day that is a tick's lies in the years 2000 to 2119. -/
theorem IsD.small {n k j r : Nat} (h : IsD n k j r) (hn : n ≤ 43690) : k ≤ 119 := by
  have := h.in_year
  rcases Nat.lt_or_ge 119 k with c | c
  · have := yT_le 120 k (by omega)
    rw [yT120] at this; omega
  · exact c
/-- The next day is the next of the month, or the first of a later month or year. -/
theorem IsD.next {n k j r k' j' r' : Nat} (h : IsD n k j r) (g : IsD (n + 1) k' j' r') : (k' = k ∧ j' = j ∧ r' = r + 1) ∨ (k' = k ∧ j' = j + 1 ∧ r' = 0) ∨ (k' = k + 1 ∧ j' = 0 ∧ r' = 0) := by
  obtain ⟨h1, h2, h3⟩ := h
  by_cases c : r + 1 < md (2000 + k) (j + 1)
  · obtain ⟨rfl, rfl, rfl⟩ := g.only (⟨by omega, h2, c⟩ : IsD (n + 1) k j (r + 1))
    exact .inl ⟨rfl, rfl, rfl⟩
  · have a1 : mT (2000 + k) (j + 1) = mT (2000 + k) j + md (2000 + k) (j + 1) := rfl
    by_cases c2 : j + 1 < 12
    · obtain ⟨rfl, rfl, rfl⟩ := g.only (⟨by omega, c2, by have := md_pos (2000 + k) (j + 1 + 1) (by omega) (by omega); omega⟩ : IsD (n + 1) k (j + 1) 0)
      exact .inr (.inl ⟨rfl, rfl, rfl⟩)
    · have d : yT (k + 1) = yT k + yd (2000 + k) := rfl
      obtain rfl : j = 11 := by omega
      have e : mT (2000 + k) (11 + 1) = yd (2000 + k) := mT12 (2000 + k)
      obtain ⟨rfl, rfl, rfl⟩ := g.only (⟨by rw [show mT (2000 + (k + 1)) 0 = 0 from rfl]; omega, by omega, by have := md_pos (2000 + (k + 1)) (0 + 1) (by omega) (by omega); omega⟩ : IsD (n + 1) (k + 1) 0 0)
      exact .inr (.inr ⟨rfl, rfl, rfl⟩)
end Go.Proofs.YtfapekhmdhkioaaDoor

/- Floats of 64 bits by their bits: which are finite, what a sum or difference of two gives, the sum of two with what was lost of it, as plain functions of the bits. Nothing here speaks of the program. -/
namespace Go.Proofs.YtfapekhmdhkioaaDoor

/-- Neither an infinity nor NaN: by the bits. -/
def fin (x : Nat) : Bool := x / 4503599627370496 % 2048 != 2047

theorem fin_iff (x : Nat) : fin x = true ↔ x % 9223372036854775808 < 9218868437227405312 := by
  unfold fin
  simp only [bne_iff_ne, ne_eq]
  omega

theorem dbl_sign : Ieee.double.signWeight = 9223372036854775808 := by decide
theorem dbl_inf : Ieee.double.infRung = 9218868437227405312 := by decide
theorem dbl_binade : Ieee.double.binade = 4503599627370496 := by decide

theorem read_fin {x : Nat} (h : fin x = true) : ∃ s m e, Ieee.double.read x = .number s m e := by
  rw [fin_iff] at h
  unfold Ieee.Format.read
  simp only [dbl_sign, dbl_inf, dbl_binade]
  split
  · exact ⟨_, _, _, rfl⟩
  · first | exact ⟨_, _, _, rfl⟩ | (rw [if_pos h]; exact ⟨_, _, _, rfl⟩)

theorem read_not {x : Nat} (h : fin x = false) : (∃ s, Ieee.double.read x = .infinity s) ∨ ∃ s f, Ieee.double.read x = .nan s f := by
  have h' : ¬ x % 9223372036854775808 < 9218868437227405312 := fun g => by rw [(fin_iff x).2 g] at h; exact Bool.noConfusion h
  unfold Ieee.Format.read
  simp only [dbl_sign, dbl_inf, dbl_binade]
  rw [if_neg (by omega), if_neg h']
  split
  · exact Or.inl ⟨_, rfl⟩
  · exact Or.inr ⟨_, _, rfl⟩

theorem write_inf (s : Bool) : fin (Ieee.double.write (.infinity s)) = false := by
  cases s <;> decide

theorem nan_cut (x y t : Nat) : fin (Question.cut (.nanBits .f64 x y) t) = false ∧ Question.cut (.nanBits .f64 x y) t < 18446744073709551616 := by
  simp only [Question.cut]
  have hu : (t / 2) % (2 ^ 52 - 1) < 4503599627370495 := Nat.mod_lt _ (by decide)
  have hv : t % 2 = 0 ∨ t % 2 = 1 := by omega
  generalize (t / 2) % (2 ^ 52 - 1) = u at hu ⊢
  generalize t % 2 = v at hv ⊢
  constructor
  · cases hh : fin (v * 2 ^ 63 + 0x7ff0000000000000 + 1 + u)
    · rfl
    · rw [fin_iff] at hh; rcases hv with rfl | rfl <;> omega
  · rcases hv with rfl | rfl <;> omega

/-- What the machine hands back: the bits of the answer, or, where there is none, some NaN. -/
def FR (op : BinOp) (x y r : Nat) : Prop := r < 18446744073709551616 ∧ (floatBits op .f64 x y = some r ∨ (floatBits op .f64 x y = none ∧ fin r = false))

theorem FR.det {op : BinOp} {x y r s : Nat} (h : FR op x y r) (g : floatBits op .f64 x y = some s) : r = s := by
  rcases h.2 with h | ⟨h, _⟩
  · rw [h] at g; exact Option.some.inj g
  · rw [h] at g; cases g

theorem FR.some {op : BinOp} {x y r : Nat} (h : floatBits op .f64 x y = .some r) : FR op x y r := by
  have := floatBits_wf h
  simp [Lit.wf] at this
  exact ⟨this, Or.inl h⟩
theorem FR.none {op : BinOp} {x y : Nat} (t : Nat) (h : floatBits op .f64 x y = .none) : FR op x y (Question.cut (.nanBits .f64 x y) t) :=
  ⟨(nan_cut x y t).2, Or.inr ⟨h, (nan_cut x y t).1⟩⟩

theorem sum_back {d c : Ieee.Datum} {r : Nat} (h : (d.sum c).map Ieee.double.write = .some r) (hf : fin r = true) : (∃ s m e, d = .number s m e) ∧ ∃ s m e, c = .number s m e := by
  cases d with
  | nan s f => simp [Ieee.Datum.sum] at h
  | infinity s =>
    cases c with
    | nan t f => simp [Ieee.Datum.sum] at h
    | infinity t =>
      simp only [Ieee.Datum.sum] at h
      split at h
      · cases h; rw [write_inf] at hf; cases hf
      · cases h
    | number t m e => simp only [Ieee.Datum.sum] at h; cases h; rw [write_inf] at hf; cases hf
  | number s m e =>
    cases c with
    | nan t f => simp [Ieee.Datum.sum] at h
    | infinity t => simp only [Ieee.Datum.sum] at h; cases h; rw [write_inf] at hf; cases hf
    | number t n j => exact ⟨⟨_, _, _, rfl⟩, ⟨_, _, _, rfl⟩⟩

theorem fin_of_read {x : Nat} {s : Bool} {m : Nat} {e : Int} (h : Ieee.double.read x = .number s m e) : fin x = true := by
  cases hx : fin x
  · rcases read_not hx with ⟨_, g⟩ | ⟨_, _, g⟩ <;> rw [g] at h <;> cases h
  · rfl

theorem add_back {x y r : Nat} (h : floatBits .add .f64 x y = .some r) (hf : fin r = true) : fin x = true ∧ fin y = true := by
  obtain ⟨⟨_, _, _, h1⟩, ⟨_, _, _, h2⟩⟩ := sum_back h hf
  exact ⟨fin_of_read h1, fin_of_read h2⟩
theorem sub_back {x y r : Nat} (h : floatBits .sub .f64 x y = .some r) (hf : fin r = true) : fin x = true ∧ fin y = true := by
  obtain ⟨⟨_, _, _, h1⟩, ⟨s, m, e, h2⟩⟩ := sum_back h hf
  refine ⟨fin_of_read h1, ?_⟩
  cases hy : fin y
  · rcases read_not hy with ⟨_, g⟩ | ⟨_, _, g⟩ <;> (have g' : FloatKind.f64.format.read y = _ := g; rw [g'] at h2; cases h2)
  · rfl

theorem FR.addBack {x y r : Nat} (h : FR .add x y r) (hf : fin r = true) : floatBits .add .f64 x y = .some r ∧ fin x = true ∧ fin y = true := by
  rcases h.2 with h | ⟨_, g⟩
  · exact ⟨h, add_back h hf⟩
  · rw [g] at hf; cases hf
theorem FR.subBack {x y r : Nat} (h : FR .sub x y r) (hf : fin r = true) : floatBits .sub .f64 x y = .some r ∧ fin x = true ∧ fin y = true := by
  rcases h.2 with h | ⟨_, g⟩
  · exact ⟨h, sub_back h hf⟩
  · rw [g] at hf; cases hf

theorem add_some {x y : Nat} (hx : fin x = true) (hy : fin y = true) : ∃ r, floatBits .add .f64 x y = .some r := by
  obtain ⟨s, m, e, h1⟩ := read_fin hx
  obtain ⟨t, n, j, h2⟩ := read_fin hy
  exact ⟨_, show (((Ieee.double.read x).sum (Ieee.double.read y)).map Ieee.double.write) = _ by rw [h1, h2]; rfl⟩

theorem order_self {x : Nat} (h : fin x = true) : FloatKind.f64.format.order x x = .some .eq := by
  obtain ⟨s, m, e, h1⟩ := read_fin h
  show (Ieee.double.read x).order (Ieee.double.read x) = _
  rw [h1]
  simp [Ieee.Datum.order]

theorem run_add (P : Program) (w : World) (t : TypeId) (x y : Nat) (h : floatBits .add .f64 x y = .none) :
    (binOp .add t (.float .f64 x) (.float .f64 y)).run P w = .ok (.float .f64 (Question.cut (.nanBits .f64 x y) (w.tape w.drawn (.nanBits .f64 x y)))) w.drew := by
  have h' : FloatKind.f64.format.add x y = .none := h
  simp [binOp, Op.floatArith, h', Question.forced]
theorem run_sub (P : Program) (w : World) (t : TypeId) (x y : Nat) (h : floatBits .sub .f64 x y = .none) :
    (binOp .sub t (.float .f64 x) (.float .f64 y)).run P w = .ok (.float .f64 (Question.cut (.nanBits .f64 x y) (w.tape w.drawn (.nanBits .f64 x y)))) w.drew := by
  have h' : FloatKind.f64.format.sub x y = .none := h
  simp [binOp, Op.floatArith, h', Question.forced]

/-- The sum of two finite floats and what was lost of it; nothing, where one of both is not finite. -/
def chain (a b : Nat) : Option (Nat × Nat) :=
  match floatBits .add .f64 a b with
  | .none => .none
  | .some s => if fin s then
      match floatBits .sub .f64 s a with
      | .none => .none
      | .some t =>
        match floatBits .sub .f64 s t with
        | .none => .none
        | .some d =>
          match floatBits .sub .f64 a d, floatBits .sub .f64 b t with
          | .some p, .some q =>
            match floatBits .add .f64 p q with
            | .none => .none
            | .some e => if fin e then .some (s, e) else .none
          | _, _ => .none
    else .none

/-- The steps as the machine goes them. -/
def Two (a b s e : Nat) : Prop := ∃ t d p q, FR .add a b s ∧ FR .sub s a t ∧ FR .sub s t d ∧ FR .sub a d p ∧ FR .sub b t q ∧ FR .add p q e

theorem Two.good {a b s e : Nat} (h : Two a b s e) (hs : fin s = true) (he : fin e = true) : chain a b = .some (s, e) := by
  obtain ⟨t, d, p, q, h1, h2, h3, h4, h5, h6⟩ := h
  obtain ⟨g6, fp, fq⟩ := h6.addBack he
  obtain ⟨g5, _, ft⟩ := h5.subBack fq
  obtain ⟨g4, _, fd⟩ := h4.subBack fp
  obtain ⟨g3, _, _⟩ := h3.subBack fd
  obtain ⟨g2, _, _⟩ := h2.subBack ft
  obtain ⟨g1, _, _⟩ := h1.addBack hs
  simp only [chain, g1, g2, g3, g4, g5, g6, hs, he, if_true]

theorem chain_back {a b : Nat} {u : Nat × Nat} (h : chain a b = .some u) : fin u.1 = true ∧ fin u.2 = true ∧ ∀ s e, Two a b s e → s = u.1 ∧ e = u.2 := by
  unfold chain at h
  split at h
  · cases h
  rename_i s g1
  split at h
  · rename_i hs
    split at h
    · cases h
    rename_i t g2
    split at h
    · cases h
    rename_i d g3
    split at h
    · rename_i p q g4 g5
      split at h
      · cases h
      rename_i e g6
      split at h
      · rename_i he
        cases h
        refine ⟨hs, he, fun s' e' hh => ?_⟩
        obtain ⟨t', d', p', q', h1, h2, h3, h4, h5, h6⟩ := hh
        have e1 := h1.det g1
        subst e1
        have e2 := h2.det g2
        subst e2
        have e3 := h3.det g3
        subst e3
        have e4 := h4.det g4
        subst e4
        have e5 := h5.det g5
        subst e5
        exact ⟨rfl, h6.det g6⟩
      · cases h
    · cases h
  · cases h

theorem Two.bad {a b s e : Nat} (h : Two a b s e) (hb : fin s = false ∨ fin e = false) : chain a b = .none := by
  cases hc : chain a b with
  | none => rfl
  | some u =>
    obtain ⟨h1, h2, h3⟩ := chain_back hc
    obtain ⟨e1, e2⟩ := h3 _ _ h
    rcases hb with hb | hb
    · rw [e1, h1] at hb; cases hb
    · rw [e2, h2] at hb; cases hb

/-- The first step alone. -/
theorem chain_over {a b s : Nat} (h : FR .add a b s) (hs : fin s = false) : chain a b = .none := by
  cases hc : floatBits .add .f64 a b with
  | none => simp only [chain, hc]
  | some r =>
    have := h.det hc
    subst this
    simp only [chain, hc, hs]
    rfl

/-- TwoSum: the sum, what was lost, the error. -/
def tsum (a b : Nat) : Nat × Nat × Int :=
  if fin a && fin b then
    match chain a b with
    | .some (s, e) => (s, e, 0)
    | .none => (0, 0, 9)
  else (0, 0, 8)

theorem tsum_fin (a b : Nat) : fin (tsum a b).1 = true ∧ fin (tsum a b).2.1 = true := by
  unfold tsum
  split
  · cases hc : chain a b with
    | none => exact ⟨by decide, by decide⟩
    | some u => exact ⟨(chain_back hc).1, (chain_back hc).2.1⟩
  · exact ⟨by decide, by decide⟩

theorem tsum_ok {a b s e : Nat} (ha : fin a = true) (hb : fin b = true) (h : chain a b = .some (s, e)) : tsum a b = (s, e, 0) := by
  simp only [tsum, ha, hb, h, Bool.and_true, if_true]
theorem tsum_over {a b : Nat} (ha : fin a = true) (hb : fin b = true) (h : chain a b = .none) : tsum a b = (0, 0, 9) := by
  simp only [tsum, ha, hb, h, Bool.and_true, if_true]
theorem tsum_bad {a b : Nat} (h : (fin a && fin b) = false) : tsum a b = (0, 0, 8) := by
  simp only [tsum, h]
  rfl

/-- Sum from a sum, what was lost, and a place on: the two and the fault. -/
def fsumGo : Nat → Nat → Nat → List Nat → Nat × Nat × Int × Int
  | s, c, _, [] => (s, c, 0, 0)
  | s, c, i, x :: l =>
    match chain s x with
    | .none => (0, 0, 9, (i : Int))
    | .some (t, e) =>
      match floatBits .add .f64 c e with
      | .none => (0, 0, 9, (i : Int))
      | .some d => if fin d then fsumGo t d (i + 1) l else (0, 0, 9, (i : Int))

/-- Sum: from a place on with all ahead of it finite. -/
def fsumFrom (l0 : List Nat) : Nat → List Nat → Nat × Nat × Int × Int
  | _, [] => fsumGo 0 0 0 l0
  | i, x :: l => if fin x then fsumFrom l0 (i + 1) l else (0, 0, 8, (i : Int))
def fsum (l : List Nat) : Nat × Nat × Int × Int := fsumFrom l 0 l

theorem drop_step {l : List Nat} {k : Nat} (h : k < l.length) : l.drop k = (l[k]?.getD 0) :: l.drop (k + 1) := by
  rw [List.drop_eq_getElem_cons h, List.getElem?_eq_getElem h]
  rfl

theorem fsumFrom_fin {l0 l : List Nat} {k : Nat} (h : k < l.length) (hf : fin (l[k]?.getD 0) = true) : fsumFrom l0 k (l.drop k) = fsumFrom l0 (k + 1) (l.drop (k + 1)) := by
  rw [drop_step h]
  simp only [fsumFrom, hf, if_true]
theorem fsumFrom_bad {l0 l : List Nat} {k : Nat} (h : k < l.length) (hf : fin (l[k]?.getD 0) = false) : fsumFrom l0 k (l.drop k) = (0, 0, 8, (k : Int)) := by
  rw [drop_step h]
  simp only [fsumFrom, hf]
  rfl
theorem fsumFrom_end {l0 l : List Nat} {k : Nat} (h : l.length ≤ k) : fsumFrom l0 k (l.drop k) = fsumGo 0 0 0 l0 := by
  rw [List.drop_of_length_le h]
  rfl
theorem fsumGo_end {l : List Nat} {s c k : Nat} (h : l.length ≤ k) : fsumGo s c k (l.drop k) = (s, c, 0, 0) := by
  rw [List.drop_of_length_le h]
  rfl
theorem fsumGo_none {l : List Nat} {s c k : Nat} (h : k < l.length) (g : chain s (l[k]?.getD 0) = .none) : fsumGo s c k (l.drop k) = (0, 0, 9, (k : Int)) := by
  rw [drop_step h]
  simp only [fsumGo, g]
theorem fsumGo_over {l : List Nat} {s c k t e d : Nat} (h : k < l.length) (g : chain s (l[k]?.getD 0) = .some (t, e)) (g2 : floatBits .add .f64 c e = .some d) (g3 : fin d = false) : fsumGo s c k (l.drop k) = (0, 0, 9, (k : Int)) := by
  rw [drop_step h]
  simp only [fsumGo, g, g2, g3]
  rfl
theorem fsumGo_step {l : List Nat} {s c k t e d : Nat} (h : k < l.length) (g : chain s (l[k]?.getD 0) = .some (t, e)) (g2 : floatBits .add .f64 c e = .some d) (g3 : fin d = true) : fsumGo s c k (l.drop k) = fsumGo t d (k + 1) (l.drop (k + 1)) := by
  rw [drop_step h]
  simp only [fsumGo, g, g2, g3, if_true]

/-- All of them: finite. -/
def Fins (l : List Nat) : Prop := ∀ j : Nat, fin (l[j]?.getD 0) = true

theorem fin0 : fin 0 = true := by decide

/-- A round of the program's loop. -/
theorem round_good {l : List Nat} {s c k s' e' c' : Nat} (h : k < l.length) (h2 : Two s (l[k]?.getD 0) s' e') (h3 : FR .add c e' c') (f1 : fin s' = true) (f2 : fin c' = true) :
    fsumGo s c k (l.drop k) = fsumGo s' c' (k + 1) (l.drop (k + 1)) := by
  obtain ⟨g, _, fe⟩ := h3.addBack f2
  exact fsumGo_step h (h2.good f1 fe) g f2
theorem round_bad {l : List Nat} {s c k s' e' c' : Nat} (h : k < l.length) (fc : fin c = true) (h2 : Two s (l[k]?.getD 0) s' e') (h3 : FR .add c e' c') (f : fin s' = false ∨ fin c' = false) :
    fsumGo s c k (l.drop k) = (0, 0, 9, (k : Int)) := by
  cases f1 : fin s'
  · exact fsumGo_none h (h2.bad (.inl f1))
  · cases fe : fin e'
    · exact fsumGo_none h (h2.bad (.inr fe))
    · have f2 : fin c' = false := by
        rcases f with f | f
        · rw [f1] at f; cases f
        · exact f
      obtain ⟨r, hr⟩ := add_some fc fe
      have := h3.det hr
      subst this
      exact fsumGo_over h (h2.good f1 fe) hr f2

theorem fsumGo_fin (l : List Nat) : ∀ s c i, fin s = true → fin c = true → fin (fsumGo s c i l).1 = true ∧ fin (fsumGo s c i l).2.1 = true := by
  induction l with
  | nil => intro s c i hs hc; exact ⟨hs, hc⟩
  | cons x l ih =>
    intro s c i hs hc
    simp only [fsumGo]
    split
    · exact ⟨fin0, fin0⟩
    · rename_i t e g
      split
      · exact ⟨fin0, fin0⟩
      · rename_i d g2
        split
        · rename_i hd
          exact ih t d (i + 1) (chain_back g).1 hd
        · exact ⟨fin0, fin0⟩
theorem fsumFrom_good (l0 : List Nat) (l : List Nat) : ∀ i, fin (fsumFrom l0 i l).1 = true ∧ fin (fsumFrom l0 i l).2.1 = true := by
  induction l with
  | nil => intro i; exact fsumGo_fin l0 0 0 0 (by decide) (by decide)
  | cons x l ih =>
    intro i
    simp only [fsumFrom]
    split
    · exact ih (i + 1)
    · exact ⟨fin0, fin0⟩

end Go.Proofs.YtfapekhmdhkioaaDoor

/- real.finite, real.twoSum, real.TwoSum and the document's Finite, TwoSum, of any floats, by their bits. -/
namespace Go.Proofs.YtfapekhmdhkioaaDoor
open Go.RowKit
set_option linter.unusedVariables false

theorem fin_int (x : Nat) (hx : x < 18446744073709551616) : (bits .and .u64 ((x : Int) / 4503599627370496) 2047 != 2047) = fin x := by
  have e : bits .and .u64 ((x : Int) / 4503599627370496) 2047 = ((x / 4503599627370496 % 2048 : Nat) : Int) := by
    have e0 : (x : Int) / 4503599627370496 = ((x / 4503599627370496 : Nat) : Int) := by omega
    rw [e0]
    have e1 := u64_and_nat (x / 4503599627370496) 2047 (by omega) (by omega)
    have e2 : x / 4503599627370496 &&& 2047 = x / 4503599627370496 % 2048 := Nat.and_two_pow_sub_one_eq_mod _ 11
    rw [e2] at e1
    exact e1
  rw [e]
  unfold fin
  by_cases h : x / 4503599627370496 % 2048 = 2047
  · rw [h]; rfl
  · rw [bne_iff_ne.2 h, bne_iff_ne.2 (by omega)]

/-- What the machine hands back, and the world behind it. -/
def fval (op : BinOp) (V : World) (x y : Nat) : Nat := match floatBits op .f64 x y with
  | .some r => r
  | .none => Question.cut (.nanBits .f64 x y) (V.tape V.drawn (.nanBits .f64 x y))
def fwld (op : BinOp) (V : World) (x y : Nat) : World := match floatBits op .f64 x y with
  | .some _ => V
  | .none => V.drew
theorem fval_fr (op : BinOp) (V : World) (x y : Nat) : FR op x y (fval op V x y) := by
  cases h : floatBits op .f64 x y with
  | some r => simp only [fval, h]; exact FR.some h
  | none => simp only [fval, h]; exact FR.none _ h
theorem fwld_below (op : BinOp) {B : Nat} {U V : World} (x y : Nat) (h : Below B U V) : Below B U (fwld op V x y) := by
  cases e : floatBits op .f64 x y with
  | some r => simp only [fwld, e]; exact h
  | none => simp only [fwld, e]; exact h.drew
theorem fadd_run (P : Program) (t : TypeId) (V : World) (x y : Nat) : (binOp .add t (.float .f64 x) (.float .f64 y)).run P V = .ok (.float .f64 (fval .add V x y)) (fwld .add V x y) := by
  cases h : floatBits .add .f64 x y with
  | some r => simp only [fval, fwld, h]; exact run_float_arith V _ _ _ _ _ _ h
  | none => simp only [fval, fwld, h]; exact run_add P V t x y h
theorem fsub_run (P : Program) (t : TypeId) (V : World) (x y : Nat) : (binOp .sub t (.float .f64 x) (.float .f64 y)).run P V = .ok (.float .f64 (fval .sub V x y)) (fwld .sub V x y) := by
  cases h : floatBits .sub .f64 x y with
  | some r => simp only [fval, fwld, h]; exact run_float_arith V _ _ _ _ _ _ h
  | none => simp only [fval, fwld, h]; exact run_sub P V t x y h

theorem Two.lt {a b s e : Nat} (h : Two a b s e) : s < 18446744073709551616 ∧ e < 18446744073709551616 := by
  obtain ⟨t, d, p, q, h1, h2, h3, h4, h5, h6⟩ := h
  exact ⟨h1.1, h6.1⟩

/-- What TwoSum tells. -/
def tsumV (r : Nat × Nat × Int) : Value := .tuple #[.float .f64 r.1, .float .f64 r.2.1, .int .i64 r.2.2]

end Go.Proofs.YtfapekhmdhkioaaDoor

/- The document's TwoSum; slackwaterkit.SameFloat, SameBits of one float twice; lists of floats: CopyFloats, LentFloats, SameFloats, KeptFloats. -/
namespace Go.Proofs.YtfapekhmdhkioaaDoor
open Go.RowKit
set_option linter.unusedVariables false

theorem fadd_ex (P : Program) (t : TypeId) (V : World) (x y : Nat) : ∃ r V', (binOp .add t (.float .f64 x) (.float .f64 y)).run P V = .ok (.float .f64 r) V' ∧ Hid (FR .add x y r ∧ Below V.heap.size V V') :=
  ⟨_, _, fadd_run P t V x y, fval_fr .add V x y, fwld_below .add x y (Below.refl _ _)⟩
theorem fsub_ex (P : Program) (t : TypeId) (V : World) (x y : Nat) : ∃ r V', (binOp .sub t (.float .f64 x) (.float .f64 y)).run P V = .ok (.float .f64 r) V' ∧ Hid (FR .sub x y r ∧ Below V.heap.size V V') :=
  ⟨_, _, fsub_run P t V x y, fval_fr .sub V x y, fwld_below .sub x y (Below.refl _ _)⟩
theorem b2 {a b c : World} (h : Below a.heap.size a b) (g : Below b.heap.size b c) : Below a.heap.size a c := h.trans (g.mono h.size)

/-- The slice reads as these floats. -/
def RdF (w : World) (B : Nat) (a : Option Addr) (n cap : Nat) (xs : List Nat) : Prop :=
  xs.length = n ∧ (n = 0 ∨ ∃ b o, a = some ⟨b, o, none⟩ ∧ b < B ∧ ∀ j, j < n → w.cell? ⟨b, o + j, none⟩ = some (.float .f64 (xs[j]?.getD 0))) ∧ n ≤ cap ∧ cap ≤ maxLen ∧ (a = none → cap = 0)

theorem RdF.later {w w' : World} {B B' : Nat} {a : Option Addr} {n cap : Nat} {zs : List Nat} (h : RdF w B a n cap zs) (hb : Below B w w') (hB : B ≤ B') : RdF w' B' a n cap zs := by
  obtain ⟨h1, h3, h4⟩ := h
  refine ⟨h1, h3.imp id ?_, h4⟩
  rintro ⟨b, o, rfl, hlt, hc⟩
  exact ⟨b, o, rfl, by omega, fun j hj => (hb.cell (p := ⟨b, o + j, none⟩) hlt).trans (hc j hj)⟩

theorem RdF.front {w : World} {B : Nat} {a : Option Addr} {n cap : Nat} {zs : List Nat} (h : RdF w B a n cap zs) (k : Nat) (hk : k ≤ n) : RdF w B a k cap (zs.take k) := by
  obtain ⟨h1, h3, h4, h5, h6⟩ := h
  refine ⟨by rw [List.length_take]; omega, ?_, by omega, h5, h6⟩
  rcases h3 with h3 | ⟨b, o, ha, hlt, hc⟩
  · left; omega
  · right
    refine ⟨b, o, ha, hlt, fun j hj => ?_⟩
    rw [hc j (by omega), List.getElem?_take, if_pos hj]

theorem RdF.own {w : World} {base e : Nat} {v : Value} {zs : List Nat} {n : Nat} (h : w.ownsRow base e 1 v n (zs.map (Value.float .f64))) :
    ∃ a cap, v = .slice a n cap ∧ RdF w w.heap.size a n cap zs := by
  have hl := h.1
  simp at hl
  rcases h.2 with ⟨rfl, rfl⟩ | ⟨g, cap, cur, rfl, hb, hg, hnc, hcm, hcs, ht⟩
  · exact ⟨none, 0, rfl, by omega, .inl rfl, Nat.le_refl _, Nat.zero_le _, fun _ => rfl⟩
  · refine ⟨_, cap, rfl, by omega, ?_, hnc, hcm, fun h => by simp at h⟩
    right
    refine ⟨g, 0, rfl, ?_, fun j hj => ?_⟩
    · have : w.heap[g]?.isSome := by rw [hg]; rfl
      simpa using this
    · have hc := h.cellAt j (by omega)
      rw [Nat.zero_add, hc, List.getElem?_map, List.getElem?_eq_getElem (by omega)]
      simp

theorem newsF {w : World} {B : Nat} {ad : Addr} {n cap : Nat} {zs : List Nat} (h : RdF w B (some ad) n cap zs) :
    ∀ j v, (zs.map (Value.float .f64))[j]? = some v → w.cell? (ad.add j) = some v := by
  intro j v hj
  have hj1 := (List.getElem?_eq_some_iff.1 hj).1
  have hl := h.1
  simp only [List.length_map] at hj1
  rcases h.2.1 with h0 | ⟨b, o, ha, _, hc⟩
  · omega
  · cases ha
    rw [Addr.add_lit, hc j (by omega), ← hj, List.getElem?_map, List.getElem?_eq_getElem hj1]
    rfl

theorem floats_oneCell (zs : List Nat) : ∀ u ∈ zs.map (Value.float .f64), u.oneCell' = true := by
  intro u hu
  obtain ⟨z, _, rfl⟩ := List.mem_map.1 hu
  rfl

/-- What stands behind a list of floats that is lent: 0.125, 1.125, 2.125. -/
def fmarks (k : Nat) : List Nat := [4593671619917905920, 4607745368753438720, 4611967493404098560].take k
theorem fmark_run (k : Nat) (h : k < 3) (P : Program) (t : TypeId) (V : World) : ∃ r, (binOp .add t (.float .f64 4593671619917905920) (.float .f64 (floatOfInt .f64 (k : Int)))).run P V = .ok (.float .f64 r) V ∧ fmarks (k + 1) = fmarks k ++ [r] := by
  match k, h with
  | 0, _ => exact ⟨4593671619917905920, run_float_arith V _ _ _ _ _ _ (by decide +kernel), rfl⟩
  | 1, _ => exact ⟨4607745368753438720, run_float_arith V _ _ _ _ _ _ (by decide +kernel), rfl⟩
  | 2, _ => exact ⟨4611967493404098560, run_float_arith V _ _ _ _ _ _ (by decide +kernel), rfl⟩

end Go.Proofs.YtfapekhmdhkioaaDoor

/- real.Sum and the document's Sum, of any list of floats. -/
namespace Go.Proofs.YtfapekhmdhkioaaDoor
open Go.RowKit
set_option linter.unusedVariables false

/-- A struct's memory. -/
def FBox (w : World) (b t : Nat) (vs : Array Value) : Prop := w.heap[b]? = some (.cells vs t (0, 0))
theorem FBox.cell {w : World} {b t : Nat} {vs : Array Value} (h : FBox w b t vs) (j : Nat) : w.cell? ⟨b, j, none⟩ = vs[j]? := by
  unfold FBox at h
  simp [World.cell?, h]
theorem FBox.free {w : World} {b t : Nat} {vs : Array Value} (h : FBox w b t vs) (j : Nat) : w.frozen? ⟨b, j, none⟩ = false := by
  unfold FBox at h
  simp [World.frozen?, h]
theorem FBox.later {w w' : World} {B b t : Nat} {vs : Array Value} (h : FBox w b t vs) (hb : Below B w w') (hlt : b < B) : FBox w' b t vs := by
  unfold FBox at *
  rw [hb.block b hlt]; exact h
theorem FBox.lt {w : World} {b t : Nat} {vs : Array Value} (h : FBox w b t vs) : b < w.heap.size := by
  unfold FBox at h
  have : w.heap[b]?.isSome := by rw [h]; rfl
  simpa using this
theorem FBox.made (w : World) (t : Nat) (vs : Array Value) : FBox (w.alloc (.cells vs t)) w.heap.size t vs := by
  unfold FBox
  show (w.heap.push _)[w.heap.size]? = _
  rw [Array.getElem?_push, if_pos rfl]
theorem FBox.other {w : World} {b t : Nat} {vs : Array Value} (h : FBox w b t vs) (p : Addr) (v : Value) (hne : b ≠ p.block) : FBox (w.setCell p v) b t vs := by
  unfold FBox at *
  rw [Below.heap_setCell w p v b hne]; exact h
theorem FBox.drewN {w : World} {b t : Nat} {vs : Array Value} (h : FBox w b t vs) (n : Nat) : FBox (w.drewN n) b t vs := h
theorem FBox.set {w : World} {b t : Nat} {vs : Array Value} (h : FBox w b t vs) (j : Nat) (v : Value) : FBox (w.setCell ⟨b, j, none⟩ v) b t (vs.setIfInBounds j v) := by
  unfold FBox at *
  simp only [World.setCell, Array.getElem?_modify, if_pos, h]
  simp

/-- What Sum tells. -/
def sumV (r : Nat × Nat × Int × Int) : Value := .tuple #[.float .f64 r.1, .float .f64 r.2.1, .agg #[.int .i64 r.2.2.1, .int .i64 r.2.2.2]]

/-- Each float has 64 bits. -/
def Wf (xs : List Nat) : Prop := ∀ j : Nat, xs[j]?.getD 0 < 18446744073709551616

theorem fput2 {B : Nat} {a w : World} (h : Below B a w) (b : Nat) (hb : B ≤ b) (v0 v1 : Value) : Below B a ((w.setCell ⟨b, 0, none⟩ v0).setCell ⟨b, 1, none⟩ v1) :=
  (h.setCell (p := ⟨b, 0, none⟩) hb _).setCell (p := ⟨b, 1, none⟩) hb _
theorem fbox_facts {w w' : World} {b t : Nat} {v0 v1 : Value} (h : FBox w b t #[v0, v1]) (hb : Below w.heap.size w w') : w'.cell? ⟨b, 0, none⟩ = some v0 ∧ w'.cell? ⟨b, 1, none⟩ = some v1 ∧ w'.frozen? ⟨b, 0, none⟩ = false ∧ w'.frozen? ⟨b, 1, none⟩ = false := by
  have h' := h.later hb h.lt
  exact ⟨h'.cell 0, h'.cell 1, h'.free 0, h'.free 1⟩

end Go.Proofs.YtfapekhmdhkioaaDoor

/- package clock: Check, Of, Week, At, leap, yearDays, monthDays, of every number. -/
namespace Go.Proofs.YtfapekhmdhkioaaDoor
open Go.RowKit
set_option linter.unusedVariables false

def I64 (x : Int) : Prop := -9223372036854775808 ≤ x ∧ x ≤ 9223372036854775807
def ckR (t : Int) : Int := if 0 ≤ t ∧ t ≤ 1048576 then 0 else 2
theorem ckcheck_any (t : Int) (w : World) (h : I64 t) :
    Calls Tryd.prog 22 #[.int .i64 t] w fun e w' => e = .returned (.int .i64 (ckR t)) ∧ w' = w := by
  have HN : Hid (¬ (0 ≤ t ∧ t ≤ 1048576) → ckR t = 2) := fun h => if_neg h
  have HY : Hid ((0 ≤ t ∧ t ≤ 1048576) → ckR t = 0) := fun h => if_pos h
  go_enter Tryd.func22, Tryd.ntmps22
  go_wp2_with fail
  all_goals
    go_ret
    first
    | exact ⟨ret_int (HN.out (by omega)).symm, rfl⟩
    | exact ⟨ret_int (HY.out (by omega)).symm, rfl⟩

theorem ckof_ok (t : Nat) (w : World) (h : t ≤ 1048576) :
    Calls Tryd.prog 23 #[.int .i64 (t : Int)] w fun e w' => e = .returned (.tuple #[.int .i64 ((t / 24 : Nat) : Int), .int .i64 ((t % 24 : Nat) : Int), .int .i64 0]) ∧ w' = w := by
  have HC := hid (ckcheck_any t w ⟨by omega, by omega⟩)
  rw [show ckR (t : Int) = 0 from if_pos ⟨by omega, by omega⟩] at HC
  have a1 : Int.tdiv (t : Int) 24 = ((t / 24 : Nat) : Int) := rfl
  have a2 : Int.tmod (t : Int) 24 = ((t % 24 : Nat) : Int) := rfl
  have a3 : IntKind.i64.wrap ((t / 24 : Nat) : Int) = ((t / 24 : Nat) : Int) := by rw [IntKind.wrap_i64]; omega
  have a4 : IntKind.i64.wrap ((t % 24 : Nat) : Int) = ((t % 24 : Nat) : Int) := by rw [IntKind.wrap_i64]; omega
  go_enter Tryd.func23, Tryd.ntmps23
  go_wp2_with fail
  refine Calls.mono HC.out ?_
  rintro e w1 ⟨rfl, rfl⟩
  go_wp2_with fail
  go_returns
  exact ⟨by go_num, rfl⟩
theorem ckof_err (t : Int) (w : World) (h : I64 t) (hn : ¬ (0 ≤ t ∧ t ≤ 1048576)) :
    Calls Tryd.prog 23 #[.int .i64 t] w fun e w' => e = .returned (.tuple #[.int .i64 0, .int .i64 0, .int .i64 2]) ∧ w' = w := by
  have HC := hid (ckcheck_any t w h)
  rw [show ckR t = 2 from if_neg hn] at HC
  clear hn h
  go_enter Tryd.func23, Tryd.ntmps23
  go_wp2_with fail
  refine Calls.mono HC.out ?_
  rintro e w1 ⟨rfl, rfl⟩
  go_wp2_with fail
  go_returns
  exact ⟨rfl, rfl⟩

theorem ckweek_ok (t : Nat) (w : World) (h : t ≤ 1048576) :
    Calls Tryd.prog 17 #[.int .i64 (t : Int)] w fun e w' => e = .returned (.tuple #[.int .i64 (((t / 24 + 5) % 7 : Nat) : Int), .int .i64 0]) ∧ w' = w := by
  have HC := hid (ckof_ok t w h)
  have a2 : Int.tmod ((t / 24 : Nat) + 5 : Int) 7 = (((t / 24 + 5) % 7 : Nat) : Int) := rfl
  have a3 : IntKind.i64.wrap ((t / 24 : Nat) + 5 : Int) = ((t / 24 : Nat) + 5 : Int) := by rw [IntKind.wrap_i64]; omega
  have a4 : IntKind.i64.wrap (((t / 24 + 5) % 7 : Nat) : Int) = (((t / 24 + 5) % 7 : Nat) : Int) := by rw [IntKind.wrap_i64]; omega
  go_enter Tryd.func17, Tryd.ntmps17
  go_wp2_with fail
  refine Calls.mono HC.out ?_
  rintro e w1 ⟨rfl, rfl⟩
  go_wp2_with fail
  go_returns
  exact ⟨by go_num, rfl⟩
theorem ckweek_err (t : Int) (w : World) (h : I64 t) (hn : ¬ (0 ≤ t ∧ t ≤ 1048576)) :
    Calls Tryd.prog 17 #[.int .i64 t] w fun e w' => e = .returned (.tuple #[.int .i64 0, .int .i64 2]) ∧ w' = w := by
  have HC := hid (ckof_err t w h hn)
  clear hn h
  go_enter Tryd.func17, Tryd.ntmps17
  go_wp2_with fail
  refine Calls.mono HC.out ?_
  rintro e w1 ⟨rfl, rfl⟩
  go_wp2_with fail
  go_returns
  exact ⟨rfl, rfl⟩

/-- A day's hour that is a tick. -/
def okA (d h : Int) : Prop := 0 ≤ h ∧ h < 24 ∧ 0 ≤ d ∧ d ≤ 43690 ∧ d * 24 + h ≤ 1048576
instance (d h : Int) : Decidable (okA d h) := by unfold okA; infer_instance
def atR (d h : Int) : Int × Int := if okA d h then (d * 24 + h, 0) else (0, 2)
theorem ckat_any (d h : Int) (w : World) (hd : I64 d) (hh : I64 h) :
    Calls Tryd.prog 12 #[.int .i64 d, .int .i64 h] w fun e w' => e = .returned (.tuple #[.int .i64 (atR d h).1, .int .i64 (atR d h).2]) ∧ w' = w := by
  have HN : Hid (¬ okA d h → atR d h = (0, 2)) := fun h => if_neg h
  have HY : Hid (okA d h → atR d h = (d * 24 + h, 0)) := fun h => if_pos h
  by_cases hk : 0 ≤ h ∧ h < 24 ∧ 0 ≤ d ∧ d ≤ 43690
  · have HC := hid (ckcheck_any (d * 24 + h) w ⟨by omega, by omega⟩)
    have x1 : IntKind.i64.wrap (d * 24) = d * 24 := by rw [IntKind.wrap_i64]; omega
    have x2 : IntKind.i64.wrap (d * 24 + h) = d * 24 + h := by rw [IntKind.wrap_i64]; omega
    by_cases h1 : d * 24 + h ≤ 1048576
    · rw [HY.out ⟨hk.1, hk.2.1, hk.2.2.1, hk.2.2.2, h1⟩]
      rw [show ckR (d * 24 + h) = 0 from if_pos ⟨by omega, h1⟩] at HC
      obtain ⟨k1, k2, k3, k4⟩ := hk
      clear HN HY
      go_enter Tryd.func12, Tryd.ntmps12
      go_wp2_with fail
      refine Calls.mono HC.out ?_
      rintro e w1 ⟨rfl, rfl⟩
      go_wp2_with fail
      go_returns
      exact ⟨rfl, rfl⟩
    · rw [HN.out (fun g => h1 g.2.2.2.2)]
      rw [show ckR (d * 24 + h) = 2 from if_neg (by omega)] at HC
      obtain ⟨k1, k2, k3, k4⟩ := hk
      clear HN HY
      go_enter Tryd.func12, Tryd.ntmps12
      go_wp2_with fail
      refine Calls.mono HC.out ?_
      rintro e w1 ⟨rfl, rfl⟩
      go_wp2_with fail
      go_returns
      exact ⟨rfl, rfl⟩
  · rw [HN.out (fun g => hk ⟨g.1, g.2.1, g.2.2.1, g.2.2.2.1⟩)]
    clear HN HY
    go_enter Tryd.func12, Tryd.ntmps12
    go_wp2_with fail
    all_goals
      first
      | (go_returns; exact ⟨rfl, rfl⟩)
      | omega

theorem ckleap_any (y : Nat) (w : World) (h : y ≤ 1048576) :
    Calls Tryd.prog 29 #[.int .i64 (y : Int)] w fun e w' => e = .returned (.bool (lp y)) ∧ w' = w := by
  have a1 : Int.tmod (y : Int) 4 = ((y % 4 : Nat) : Int) := rfl
  have a2 : Int.tmod (y : Int) 100 = ((y % 100 : Nat) : Int) := rfl
  have a3 : Int.tmod (y : Int) 400 = ((y % 400 : Nat) : Int) := rfl
  have HR : Hid (∀ b : Bool, (b = true ↔ (y % 4 = 0 ∧ ¬ y % 100 = 0 ∨ y % 400 = 0)) → Ending.returned (.bool b) = .returned (.bool (lp y))) := fun b hb => by
    congr 2
    unfold lp
    rw [Bool.eq_iff_iff, hb]
    simp
  go_enter Tryd.func29, Tryd.ntmps29
  go_wp2_with fail
  all_goals
    go_returns
    refine ⟨HR.out _ ?_, rfl⟩
    simp
    omega
theorem ckyd_any (y : Nat) (w : World) (h : y ≤ 1048576) :
    Calls Tryd.prog 24 #[.int .i64 (y : Int)] w fun e w' => e = .returned (.int .i64 ((yd y : Nat) : Int)) ∧ w' = w := by
  have HC := hid (ckleap_any y w h)
  unfold yd
  cases hl : lp y
  all_goals
    rw [hl] at HC
    simp only [if_true, if_false, Bool.false_eq_true]
    clear hl
    go_enter Tryd.func24, Tryd.ntmps24
    go_wp2_with fail
    refine Calls.mono HC.out ?_
    rintro e w1 ⟨rfl, rfl⟩
    go_wp2_with fail
    go_returns
    exact ⟨rfl, rfl⟩
/-- The days of a month that there is, or is not. -/
def mdI (y : Nat) (m : Int) : Nat := if 1 ≤ m ∧ m ≤ 12 then md y m.toNat else 0
theorem ckmd_any (y : Nat) (m : Int) (w : World) (h : y ≤ 1048576) (hm : I64 m) :
    Calls Tryd.prog 25 #[.int .i64 (y : Int), .int .i64 m] w fun e w' => e = .returned (.int .i64 ((mdI y m : Nat) : Int)) ∧ w' = w := by
  have HC := hid (ckleap_any y w h)
  have HN : Hid (¬ (1 ≤ m ∧ m ≤ 12) → mdI y m = 0) := fun h => if_neg h
  have H31 : Hid (m = 1 ∨ m = 3 ∨ m = 5 ∨ m = 7 ∨ m = 8 ∨ m = 10 ∨ m = 12 → mdI y m = 31) := fun h => by
    unfold mdI md
    rw [if_pos (by omega), if_neg (by omega), if_neg (by omega), if_pos (by omega)]
  have H30 : Hid (m = 4 ∨ m = 6 ∨ m = 9 ∨ m = 11 → mdI y m = 30) := fun h => by
    unfold mdI md
    rw [if_pos (by omega), if_neg (by omega), if_pos (by omega)]
  have H2 : Hid (m = 2 → mdI y m = if lp y then 29 else 28) := fun h => by
    unfold mdI md
    rw [if_pos (by omega), if_pos (by omega)]
  obtain ⟨b, hb⟩ : ∃ b, lp y = b := ⟨_, rfl⟩
  rw [hb] at HC H2
  clear hb
  by_cases hn : 1 ≤ m ∧ m ≤ 12
  · have hc : m = 1 ∨ m = 3 ∨ m = 5 ∨ m = 7 ∨ m = 8 ∨ m = 10 ∨ m = 12 ∨ m = 4 ∨ m = 6 ∨ m = 9 ∨ m = 11 ∨ m = 2 := by omega
    clear hn hm
    rcases hc with rfl | rfl | rfl | rfl | rfl | rfl | rfl | rfl | rfl | rfl | rfl | rfl
    iterate 7
      · rw [H31.out (by omega)]
        clear H31 H30 HN H2 HC
        go_enter Tryd.func25, Tryd.ntmps25
        go_wp2_with fail
        go_returns
        exact ⟨rfl, rfl⟩
    iterate 4
      · rw [H30.out (by omega)]
        clear H31 H30 HN H2 HC
        go_enter Tryd.func25, Tryd.ntmps25
        go_wp2_with fail
        go_returns
        exact ⟨rfl, rfl⟩
    rw [H2.out rfl]
    clear H31 H30 HN H2
    cases b
    all_goals
      simp only [if_true, if_false, Bool.false_eq_true]
      go_enter Tryd.func25, Tryd.ntmps25
      go_wp2_with fail
      refine Calls.mono HC.out ?_
      rintro e w1 ⟨rfl, rfl⟩
      go_wp2_with fail
      go_returns
      exact ⟨rfl, rfl⟩
  · rw [HN.out hn]
    have n : ∀ k : Int, 1 ≤ k ∧ k ≤ 12 → (m == k) = false := fun k hk => beq_eq_false_iff_ne.2 (by rintro rfl; exact hn hk)
    have n1 := n 1 (by omega)
    have n2 := n 2 (by omega)
    have n3 := n 3 (by omega)
    have n4 := n 4 (by omega)
    have n5 := n 5 (by omega)
    have n6 := n 6 (by omega)
    have n7 := n 7 (by omega)
    have n8 := n 8 (by omega)
    have n9 := n 9 (by omega)
    have n10 := n 10 (by omega)
    have n11 := n 11 (by omega)
    have n12 := n 12 (by omega)
    clear H31 H30 HN H2 HC n
    go_enter Tryd.func25, Tryd.ntmps25
    go_wp2_with fail
    all_goals
      go_returns
      exact ⟨rfl, rfl⟩
end Go.Proofs.YtfapekhmdhkioaaDoor

/- package clock: Date, From, of every number. -/
namespace Go.Proofs.YtfapekhmdhkioaaDoor
open Go.RowKit
set_option linter.unusedVariables false
set_option linter.unusedSimpArgs false

def dA (y m d h : Int) : Array Value := #[.int .i64 y, .int .i64 m, .int .i64 d, .int .i64 h]
theorem Below.drewM {B n : Nat} {a w : World} (h : Below B a w) : Below B a (w.drewN n) := by
  induction n with
  | zero => exact h
  | succ n ih => exact ih.drew
theorem fput4 {B : Nat} {a w : World} (h : Below B a w) (b : Nat) (hb : B ≤ b) (v0 v1 v2 v3 : Value) : Below B a ((((w.setCell ⟨b, 0, none⟩ v0).setCell ⟨b, 1, none⟩ v1).setCell ⟨b, 2, none⟩ v2).setCell ⟨b, 3, none⟩ v3) :=
  (((h.setCell (p := ⟨b, 0, none⟩) hb _).setCell (p := ⟨b, 1, none⟩) hb _).setCell (p := ⟨b, 2, none⟩) hb _).setCell (p := ⟨b, 3, none⟩) hb _
theorem dbox_put {w : World} {b t : Nat} {y m d h : Int} (g : FBox w b t (dA y m d h)) (v0 v1 v2 v3 : Int) : FBox ((((w.setCell ⟨b, 0, none⟩ (.int .i64 v0)).setCell ⟨b, 1, none⟩ (.int .i64 v1)).setCell ⟨b, 2, none⟩ (.int .i64 v2)).setCell ⟨b, 3, none⟩ (.int .i64 v3)) b t (dA v0 v1 v2 v3) :=
  (((g.set 0 _).set 1 _).set 2 _).set 3 _
theorem dbox_facts {w w' : World} {b t : Nat} {y m d h : Int} (g : FBox w b t (dA y m d h)) (hb : Below w.heap.size w w') : w'.cell? ⟨b, 0, none⟩ = some (.int .i64 y) ∧ w'.cell? ⟨b, 1, none⟩ = some (.int .i64 m) ∧ w'.cell? ⟨b, 2, none⟩ = some (.int .i64 d) ∧ w'.cell? ⟨b, 3, none⟩ = some (.int .i64 h) ∧ w'.frozen? ⟨b, 0, none⟩ = false ∧ w'.frozen? ⟨b, 1, none⟩ = false ∧ w'.frozen? ⟨b, 2, none⟩ = false ∧ w'.frozen? ⟨b, 3, none⟩ = false := by
  have k := g.later hb g.lt
  exact ⟨k.cell 0, k.cell 1, k.cell 2, k.cell 3, k.free 0, k.free 1, k.free 2, k.free 3⟩

set_option maxHeartbeats 1600000 in
set_option maxRecDepth 100000 in
theorem ckdate_ok (t : Nat) (w : World) (h : t ≤ 1048576) :
    Calls Tryd.prog 13 #[.int .i64 (t : Int)] w fun e w' => (∃ k j r, IsD (t / 24) k j r ∧ e = .returned (.tuple #[.agg (dA ((2000 + k : Nat) : Int) ((j + 1 : Nat) : Int) ((r + 1 : Nat) : Int) ((t % 24 : Nat) : Int)), .int .i64 0])) ∧ Below w.heap.size w w' := by
  have HC := hid (fun V => ckof_ok t V h)
  have hD24 : t / 24 ≤ 43690 := by omega
  have hH24 : t % 24 < 24 := by omega
  generalize t / 24 = D at *
  generalize t % 24 = H at *
  have HX := hid (FBox.made w 36 (dA 0 0 0 0))
  have HBX : Hid (Below w.heap.size w (w.alloc (.cells (dA 0 0 0 0) 36))) := (Below.refl _ _).alloc (Nat.le_refl _) _
  unfold dA at HX HBX
  go_enter Tryd.func13, Tryd.ntmps13
  go_wp2_with fail
  generalize hX : w.alloc (.cells #[.int .i64 0, .int .i64 0, .int .i64 0, .int .i64 0] 36) = X at *
  refine Calls.mono (HC.out _) ?_
  rintro e w1 ⟨rfl, rfl⟩
  have hlt : w.heap.size < w1.heap.size := HX.out.lt
  clear hX HC
  go_wp2_with fail
  go_loopw [4] (fun x wr => ∃ k y : Nat, x = .int .i64 (y : Int) ∧ Hid (yT k + y = D) ∧ Hid (FBox wr w1.heap.size 36 (dA ((2000 + k : Nat) : Int) 1 0 (H : Int))) ∧ Hid (FBox wr w.heap.size 36 (dA 0 0 0 0)) ∧ Hid (Below w.heap.size w wr)) (fun x _ => (intOf x).toNat)
  case atStart =>
    refine ⟨0, D, rfl, hid (by simp [yT]), hid (FBox.made w1 36 _), ?_, ?_⟩
    · exact hid (FBox.later HX.out (Below.alloc (Below.refl _ _) (Nat.le_refl _) _) HX.out.lt)
    · exact hid (HBX.out.alloc (Nat.le_of_lt hlt) _)
  case round =>
    obtain ⟨k, y, rfl, hy, hd, hr, hbw⟩ := hrel
    have hk : k ≤ 119 := by
      have := (yT_365 k).1
      have e := hy.out
      omega
    obtain ⟨c0, c1, c2, c3, g0, g1, g2, g3⟩ := dbox_facts hd.out (Below.refl _ _)
    have HY := hid (fun V => ckyd_any (2000 + k) V (by omega))
    have hyd := yd_or (2000 + k)
    have HS : Hid (yT (k + 1) = yT k + yd (2000 + k)) := rfl
    have HYM := hid (mT12 (2000 + k))
    generalize yd (2000 + k) = Y at *
    have hyD : y ≤ D := by have := hy.out; omega
    go_wp2_with fail
    refine Calls.mono (HY.out wr) ?_
    rintro e w2 ⟨rfl, rfl⟩
    by_cases hc : Y ≤ y
    · have hc1 : decide ((Y : Int) ≤ (y : Int)) = true := by simp; omega
      have x1 : IntKind.i64.wrap ((y : Int) - (Y : Int)) = ((y - Y : Nat) : Int) := by rw [IntKind.wrap_i64]; omega
      have x2 : IntKind.i64.wrap (2000 + (k : Int) + 1) = 2000 + ((k + 1 : Nat) : Int) := by rw [IntKind.wrap_i64]; omega
      go_wp2_with fail
      refine Calls.mono (HY.out w2) ?_
      rintro e w3 ⟨rfl, rfl⟩
      go_wp2_with fail
      refine ⟨⟨k + 1, y - Y, rfl, hid (by have := hy.out; have := HS.out; omega), hid (hd.out.set 0 (.int .i64 (2000 + ((k : Int) + 1)))), hid (hr.out.other ⟨w1.heap.size, 0, none⟩ _ (Nat.ne_of_lt hlt)), hid (hbw.out.setCell (p := ⟨w1.heap.size, 0, none⟩) (Nat.le_of_lt hlt) _)⟩, ?_⟩
      simp [intOf]; omega
    · have hc1 : decide ((Y : Int) ≤ (y : Int)) = false := by simp; omega
      have H12 : Hid (y < mT (2000 + k) 12) := by show y < _; rw [HYM.out]; omega
      clear HS HY hyd HYM
      go_wp2_with fail
      clear c0 c1 c2 c3 g0 g1 g2 g3
      have HW := hid hlt
      clear hlt
      have hlt : w.heap.size < w1.heap.size := HW.out
      go_loopw [4] (fun x wr => ∃ j z : Nat, x = .int .i64 (z : Int) ∧ j < 12 ∧ Hid (mT (2000 + k) j + z = y) ∧ Hid (FBox wr w1.heap.size 36 (dA ((2000 + k : Nat) : Int) ((j + 1 : Nat) : Int) 0 (H : Int))) ∧ Hid (FBox wr w.heap.size 36 (dA 0 0 0 0)) ∧ Hid (Below w.heap.size w wr)) (fun x _ => (intOf x).toNat)
      case atStart => exact ⟨0, y, rfl, by omega, hid (by simp [mT]), hid hd.out, hid hr.out, hid hbw.out⟩
      case round =>
        obtain ⟨j, z, rfl, hj, hz, hd', hr', hbw'⟩ := hrel
        obtain ⟨c0, c1, c2, c3, g0, g1, g2, g3⟩ := dbox_facts hd'.out (Below.refl _ _)
        obtain ⟨e0, e1, e2, e3, k0, k1, k2, k3⟩ := dbox_facts hr'.out (Below.refl _ _)
        have HM := hid (fun V => ckmd_any (2000 + k) ((j + 1 : Nat) : Int) V (by omega) ⟨by omega, by omega⟩)
        rw [show mdI (2000 + k) ((j + 1 : Nat) : Int) = md (2000 + k) (j + 1) from by unfold mdI; rw [if_pos (by omega)]; rfl] at HM
        have hmp := md_pos (2000 + k) (j + 1) (by omega) (by omega)
        have hml := md_le (2000 + k) (j + 1)
        have HS : Hid (mT (2000 + k) (j + 1) = mT (2000 + k) j + md (2000 + k) (j + 1)) := rfl
        have HQ : Hid (z < md (2000 + k) (j + 1) → IsD D k j z) := fun g => ⟨by have := hz.out; have := hy.out; omega, hj, g⟩
        generalize md (2000 + k) (j + 1) = M at *
        have hzy : z ≤ y := by have := hz.out; omega
        go_wp2_with fail
        refine Calls.mono (HM.out wr) ?_
        rintro e w2 ⟨rfl, rfl⟩
        by_cases hc : M ≤ z
        · have hc1 : decide ((M : Int) ≤ (z : Int)) = true := by simp; omega
          have x1 : IntKind.i64.wrap ((z : Int) - (M : Int)) = ((z - M : Nat) : Int) := by rw [IntKind.wrap_i64]; omega
          have x2 : IntKind.i64.wrap ((j : Int) + 1 + 1) = ((j + 1 : Nat) : Int) + 1 := by rw [IntKind.wrap_i64]; omega
          have hj' : j + 1 < 12 := by
            rcases Nat.lt_or_ge (j + 1) 12 with g | g
            · exact g
            · exfalso
              obtain rfl : j = 11 := by omega
              have a := H12.out
              have b : mT (2000 + k) 12 = mT (2000 + k) 11 + M := HS.out
              have c := hz.out
              omega
          clear HQ
          go_wp2_with fail
          refine Calls.mono (HM.out w2) ?_
          rintro e w3 ⟨rfl, rfl⟩
          go_wp2_with fail
          refine ⟨⟨j + 1, z - M, rfl, hj', hid (by have := hz.out; have := HS.out; omega), hid (hd'.out.set 1 (.int .i64 ((j : Int) + 1 + 1))), hid (hr'.out.other ⟨w1.heap.size, 1, none⟩ _ (Nat.ne_of_lt hlt)), hid (hbw'.out.setCell (p := ⟨w1.heap.size, 1, none⟩) (Nat.le_of_lt hlt) _)⟩, ?_⟩
          simp [intOf]; omega
        · have hc1 : decide ((M : Int) ≤ (z : Int)) = false := by simp; omega
          have HI := hid (HQ.out (by omega))
          have x1 : IntKind.i64.wrap ((z : Int) + 1) = (z : Int) + 1 := by rw [IntKind.wrap_i64]; omega
          clear HQ HS HM
          go_wp2_with fail
          have hne : w1.heap.size ≠ w.heap.size := by omega
          refine bodyPost_ret (v := .tuple #[.agg (dA ((2000 + k : Nat) : Int) ((j + 1 : Nat) : Int) ((z + 1 : Nat) : Int) (H : Int)), .int .i64 0]) (by simp [results, Tryd.results13, go_sem, e0, e1, e2, e3, k0, k1, k2, k3, dA, hne]) rfl ?_
          exact ⟨⟨k, j, z, HI.out, rfl⟩, fput4 (hbw'.out.setCell (p := ⟨w1.heap.size, 2, none⟩) (Nat.le_of_lt hlt) _) _ (Nat.le_refl _) _ _ _ _⟩

set_option maxHeartbeats 800000 in
set_option maxRecDepth 100000 in
theorem ckdate_err (t : Int) (w : World) (h : I64 t) (hn : ¬ (0 ≤ t ∧ t ≤ 1048576)) :
    Calls Tryd.prog 13 #[.int .i64 t] w fun e w' => e = .returned (.tuple #[.agg (dA 0 0 0 0), .int .i64 2]) ∧ Below w.heap.size w w' := by
  have HC := hid (fun V => ckof_err t V h hn)
  have HX := hid (FBox.made w 36 (dA 0 0 0 0))
  have HBX : Hid (Below w.heap.size w (w.alloc (.cells (dA 0 0 0 0) 36))) := (Below.refl _ _).alloc (Nat.le_refl _) _
  unfold dA at HX HBX
  clear hn
  go_enter Tryd.func13, Tryd.ntmps13
  go_wp2_with fail
  generalize hX : w.alloc (.cells #[.int .i64 0, .int .i64 0, .int .i64 0, .int .i64 0] 36) = X at *
  refine Calls.mono (HC.out _) ?_
  rintro e w1 ⟨rfl, rfl⟩
  obtain ⟨e0, e1, e2, e3, k0, k1, k2, k3⟩ := dbox_facts (show FBox w1 w.heap.size 36 (dA 0 0 0 0) from HX.out) (Below.refl _ _)
  clear hX HC
  go_wp2_with fail
  refine bodyPost_ret (v := .tuple #[.agg (dA 0 0 0 0), .int .i64 2]) (by simp [results, Tryd.results13, go_sem, e0, e1, e2, e3, k0, k1, k2, k3, dA]) rfl ?_
  exact ⟨rfl, fput4 HBX.out _ (Nat.le_refl _) _ _ _ _⟩

/-- The day of a date that there is. -/
def okD (y m d : Int) : Prop := 2000 ≤ y ∧ y ≤ 2119 ∧ 1 ≤ d ∧ d ≤ (mdI y.toNat m : Nat)
instance (y m d : Int) : Decidable (okD y m d) := by unfold okD; infer_instance
set_option maxHeartbeats 1600000 in
set_option maxRecDepth 100000 in
theorem ckfrom_err (y m d h : Int) (w : World) (hy : I64 y) (hm : I64 m) (hd : I64 d) (hh : I64 h) (hn : ¬ okD y m d) :
    Calls Tryd.prog 15 #[.agg (dA y m d h)] w fun e w' => e = .returned (.tuple #[.int .i64 0, .int .i64 2]) ∧ Below w.heap.size w w' := by
  have HX := hid (FBox.made w 36 (dA y m d h))
  have HBX : Hid (Below w.heap.size w (w.alloc (.cells (dA y m d h) 36))) := (Below.refl _ _).alloc (Nat.le_refl _) _
  unfold dA at HX HBX ⊢
  by_cases hr : 2000 ≤ y ∧ y ≤ 2119
  · obtain ⟨k, rfl⟩ : ∃ k : Nat, y = (k : Int) := ⟨y.toNat, by omega⟩
    have HM := hid (fun V => ckmd_any k m V (by omega) hm)
    have hn' : ¬ (1 ≤ d ∧ d ≤ (mdI k m : Nat)) := fun g => hn ⟨hr.1, hr.2, g.1, g.2⟩
    have hml : mdI k m ≤ 31 := by unfold mdI; split; exact md_le _ _; omega
    generalize mdI k m = M at *
    clear hn
    obtain ⟨c0, c1, c2, c3, g0, g1, g2, g3⟩ := dbox_facts (show FBox _ w.heap.size 36 (dA (k : Int) m d h) from HX.out) (Below.refl _ _)
    have y1 : decide ((k : Int) < 2000) = false := by simp; omega
    have y2 : decide (2119 < (k : Int)) = false := by simp; omega
    go_enter Tryd.func15, Tryd.ntmps15
    go_wp2_with fail
    generalize w.alloc (.cells #[.int .i64 (k : Int), .int .i64 m, .int .i64 d, .int .i64 h] 36) = X at *
    by_cases hd1 : d < 1
    · have z1 : decide (d < 1) = true := by simp; omega
      go_quiet (fail)
      go_wp2_with fail
      go_returns
      exact ⟨rfl, Below.drewM HBX.out⟩
    · have z1 : decide (d < 1) = false := by simp; omega
      have z2 : decide ((M : Int) < d) = true := by simp; omega
      go_quiet ((go_at_call 25; exact Calls.quiet_of_same (HM.out _)))
      go_wp2_with fail
      go_returns
      exact ⟨rfl, Below.drewM HBX.out⟩
  · go_enter Tryd.func15, Tryd.ntmps15
    by_cases h1 : y < 2000
    · have z1 : decide (y < 2000) = true := by simp; omega
      go_wp2_with fail
      all_goals first | (go_returns; exact ⟨rfl, HBX.out⟩) | omega
    · have z1 : decide (y < 2000) = false := by simp; omega
      have z2 : decide (2119 < y) = true := by simp; omega
      go_wp2_with fail
      all_goals first | (go_returns; exact ⟨rfl, HBX.out⟩) | omega
set_option maxHeartbeats 1600000 in
set_option maxRecDepth 100000 in
theorem ckfrom_ok (k j r : Nat) (h : Int) (w : World) (hk : k ≤ 119) (hj : j < 12) (hr : r < md (2000 + k) (j + 1)) (hh : I64 h) :
    Calls Tryd.prog 15 #[.agg (dA (2000 + (k : Int)) ((j : Int) + 1) ((r : Int) + 1) h)] w fun e w' => e = .returned (.tuple #[.int .i64 (atR ((yT k + mT (2000 + k) j + r : Nat) : Int) h).1, .int .i64 (atR ((yT k + mT (2000 + k) j + r : Nat) : Int) h).2]) ∧ Below w.heap.size w w' := by
  have HX := hid (FBox.made w 36 (dA (2000 + (k : Int)) ((j : Int) + 1) ((r : Int) + 1) h))
  have HBX : Hid (Below w.heap.size w (w.alloc (.cells (dA (2000 + (k : Int)) ((j : Int) + 1) ((r : Int) + 1) h) 36))) := (Below.refl _ _).alloc (Nat.le_refl _) _
  have HM := hid (fun V => ckmd_any (2000 + k) ((j + 1 : Nat) : Int) V (by omega) ⟨by omega, by omega⟩)
  rw [show mdI (2000 + k) ((j + 1 : Nat) : Int) = md (2000 + k) (j + 1) from by unfold mdI; rw [if_pos (by omega)]; rfl] at HM
  have hml := md_le (2000 + k) (j + 1)
  have HR : Hid (∀ a : Nat, a = yT k + mT (2000 + k) j + r → ∀ V, Calls Tryd.prog 12 #[.int .i64 (a : Int), .int .i64 h] V fun e w' => e = .returned (.tuple #[.int .i64 (atR ((yT k + mT (2000 + k) j + r : Nat) : Int) h).1, .int .i64 (atR ((yT k + mT (2000 + k) j + r : Nat) : Int) h).2]) ∧ w' = V) := fun a ha V => by
    subst ha
    have a1 := (yT_365 k).2
    have a2 := mT_le (2000 + k) j 12 (by omega)
    have a3 := mT12 (2000 + k)
    have a4 := yd_or (2000 + k)
    exact ckat_any _ _ V ⟨by omega, by omega⟩ hh
  have hm12 : mT (2000 + k) j ≤ 366 := by
    have a2 := mT_le (2000 + k) j 12 (by omega)
    have a3 := mT12 (2000 + k)
    have a4 := yd_or (2000 + k)
    omega
  generalize hA : (atR ((yT k + mT (2000 + k) j + r : Nat) : Int) h) = A at *
  generalize hMM : md (2000 + k) (j + 1) = M at *
  unfold dA at HX HBX ⊢
  clear hA
  obtain ⟨c0, c1, c2, c3, g0, g1, g2, g3⟩ := dbox_facts (show FBox _ w.heap.size 36 (dA (2000 + (k : Int)) ((j : Int) + 1) ((r : Int) + 1) h) from HX.out) (Below.refl _ _)
  have y1 : decide (2000 + (k : Int) < 2000) = false := decide_eq_false (by omega)
  have y2 : decide (2119 < 2000 + (k : Int)) = false := by simp; omega
  have z1 : decide ((r : Int) + 1 < 1) = false := decide_eq_false (by omega)
  have z2 : decide ((M : Int) < (r : Int) + 1) = false := by simp; omega
  have x1 : IntKind.i64.wrap ((r : Int) + 1 - 1) = (r : Int) := by rw [IntKind.wrap_i64]; omega
  go_enter Tryd.func15, Tryd.ntmps15
  go_wp2_with fail
  generalize w.alloc (.cells #[.int .i64 (2000 + (k : Int)), .int .i64 ((j : Int) + 1), .int .i64 ((r : Int) + 1), .int .i64 h] 36) = X at *
  go_quiet ((go_at_call 25; exact Calls.quiet_of_same (HM.out _)))
  have hbX : FBox X w.heap.size 36 (dA ((2000 + k : Nat) : Int) ((j + 1 : Nat) : Int) ((r + 1 : Nat) : Int) h) := HX.out
  have HFX := hid hbX
  clear hbX HX
  go_wp2_with fail
  clear c0 c1 c2 c3 g0 g1 g2 g3 y1 y2 z1 z2
  go_loopw [4, 5] (fun x y wr => ∃ i : Nat, i ≤ k ∧ x = .int .i64 ((yT i : Int) + (r : Int)) ∧ y = .int .i64 (2000 + (i : Int)) ∧ Hid (FBox wr w.heap.size 36 (dA ((2000 + k : Nat) : Int) ((j + 1 : Nat) : Int) ((r + 1 : Nat) : Int) h)) ∧ Hid (Below w.heap.size w wr)) (fun _ y _ => (2000 + (k : Int) - intOf y).toNat)
  case atStart => exact ⟨0, by omega, by simp [yT], rfl, HFX, hid (Below.drewM HBX.out)⟩
  case round =>
    obtain ⟨i, hi, rfl, rfl, hfb, hbw⟩ := hrel
    obtain ⟨c0, c1, c2, c3, g0, g1, g2, g3⟩ := dbox_facts hfb.out (Below.refl _ _)
    have hyi := yT_365 i
    by_cases hc : i < k
    · have HY := hid (fun V => ckyd_any (2000 + i) V (by omega))
      have HS : Hid (yT (i + 1) = yT i + yd (2000 + i)) := rfl
      have hyd := yd_or (2000 + i)
      generalize yd (2000 + i) = Y at *
      have q1 : decide (2000 + (i : Int) < 2000 + (k : Int)) = true := decide_eq_true (by omega)
      have x2 : IntKind.i64.wrap ((yT i : Int) + (r : Int) + (Y : Int)) = ((yT i + Y + r : Nat) : Int) := by rw [IntKind.wrap_i64]; omega
      have x3 : IntKind.i64.wrap (2000 + (i : Int) + 1) = 2000 + ((i + 1 : Nat) : Int) := by rw [IntKind.wrap_i64]; omega
      go_wp2_with fail
      refine Calls.mono (HY.out _) ?_
      rintro e w2 ⟨rfl, rfl⟩
      go_wp2_with fail
      go_roundw
      case rel => exact ⟨i + 1, by omega, by rw [HS.out]; rfl, rfl, hfb, hbw⟩
      case measure => simp [intOf]; omega
    · obtain rfl : i = k := by omega
      have q1 : decide (2000 + (i : Int) < 2000 + (i : Int)) = false := decide_eq_false (by omega)
      go_wp2_with fail
      clear c0 c1 c2 c3 g0 g1 g2 g3 q1
      go_loopw [4, 6] (fun x y wr => ∃ l : Nat, l ≤ j ∧ x = .int .i64 ((yT i : Int) + (mT (2000 + i) l : Int) + (r : Int)) ∧ y = .int .i64 ((l : Int) + 1) ∧ Hid (FBox wr w.heap.size 36 (dA ((2000 + i : Nat) : Int) ((j + 1 : Nat) : Int) ((r + 1 : Nat) : Int) h)) ∧ Hid (Below w.heap.size w wr)) (fun _ y _ => ((j : Int) + 1 - intOf y).toNat)
      case atStart => exact ⟨0, by omega, by simp [mT], rfl, hfb, hbw⟩
      case round =>
        obtain ⟨l, hl, rfl, rfl, hfb, hbw⟩ := hrel
        obtain ⟨c0, c1, c2, c3, g0, g1, g2, g3⟩ := dbox_facts hfb.out (Below.refl _ _)
        have hml2 := mT_le (2000 + i) l j hl
        by_cases hc : l < j
        · have HY := hid (fun V => ckmd_any (2000 + i) ((l + 1 : Nat) : Int) V (by omega) ⟨by omega, by omega⟩)
          rw [show mdI (2000 + i) ((l + 1 : Nat) : Int) = md (2000 + i) (l + 1) from by unfold mdI; rw [if_pos (by omega)]; rfl] at HY
          have HS : Hid (mT (2000 + i) (l + 1) = mT (2000 + i) l + md (2000 + i) (l + 1)) := rfl
          have hyd := md_le (2000 + i) (l + 1)
          generalize md (2000 + i) (l + 1) = Y at *
          have q1 : decide ((l : Int) + 1 < (j : Int) + 1) = true := decide_eq_true (by omega)
          have x2 : IntKind.i64.wrap ((yT i : Int) + (mT (2000 + i) l : Int) + (r : Int) + (Y : Int)) = ((yT i + (mT (2000 + i) l + Y) + r : Nat) : Int) := by rw [IntKind.wrap_i64]; omega
          have x3 : IntKind.i64.wrap ((l : Int) + 1 + 1) = ((l + 1 : Nat) : Int) + 1 := by rw [IntKind.wrap_i64]; omega
          go_wp2_with fail
          refine Calls.mono (HY.out _) ?_
          rintro e w2 ⟨rfl, rfl⟩
          go_wp2_with fail
          go_roundw
          case rel => exact ⟨l + 1, by omega, by rw [HS.out]; rfl, rfl, hfb, hbw⟩
          case measure => simp [intOf]; omega
        · obtain rfl : l = j := by omega
          have q1 : decide ((l : Int) + 1 < (l : Int) + 1) = false := decide_eq_false (by omega)
          have HZ := hid (HR.out _ rfl)
          go_wp2_with fail
          refine Calls.mono (HZ.out _) ?_
          rintro e w2 ⟨rfl, rfl⟩
          go_wp2_with fail
          go_returns
          exact ⟨rfl, hbw.out⟩
end Go.Proofs.YtfapekhmdhkioaaDoor

/- package clock: a date's text, Text, number, strings.Cut at one byte. -/
namespace Go.Proofs.YtfapekhmdhkioaaDoor
open Go.RowKit Go.Lib
set_option linter.unusedVariables false
set_option linter.unusedSimpArgs false

/-- The table of powers of ten stands as the library's text lays it. -/
def TabC (w : World) : Prop := Lib.TabIs Tryd.prog w "internal/strconv.uint64pow10" .u64 Lib.pow10Tab
theorem TabC.later {w w' : World} (h : TabC w) (hb : Below w.heap.size w w') : TabC w' := by
  unfold TabC Lib.TabIs World.var? at *
  cases hg : Tryd.prog.globalNamed "internal/strconv.uint64pow10" with
  | none => simp [hg] at h
  | some g =>
    simp only [hg, Option.bind_some] at h ⊢
    have hlt : g < w.heap.size := by
      rcases Nat.lt_or_ge g w.heap.size with h' | h'
      · exact h'
      · rw [Array.getElem?_eq_none h'] at h; simp at h
    rw [hb.block g hlt]
    exact h
/-- strconv's two errors are values of their type. -/
def ErrT (w : World) : Prop := (∃ te pe, w.cell? ⟨1, 0, none⟩ = some (.iface te pe)) ∧ (∃ te pe, w.cell? ⟨2, 0, none⟩ = some (.iface te pe))
theorem ckcell_lt {w : World} {b j : Nat} {v : Value} (h : w.cell? ⟨b, j, none⟩ = some v) : b < w.heap.size := by
  rcases Nat.lt_or_ge b w.heap.size with h' | h'
  · exact h'
  · unfold World.cell? at h
    rw [Array.getElem?_eq_none h'] at h
    simp at h
theorem ErrT.later {w w' : World} (h : ErrT w) (hb : Below w.heap.size w w') : ErrT w' := by
  obtain ⟨⟨a, b, h1⟩, c, d, h2⟩ := h
  exact ⟨⟨a, b, (hb.cell (p := ⟨_, 0, none⟩) (ckcell_lt h1)).trans h1⟩, c, d, (hb.cell (p := ⟨_, 0, none⟩) (ckcell_lt h2)).trans h2⟩

theorem ckbytes_app (a b : List UInt8) : ((⟨a.toArray⟩ : ByteArray) ++ (⟨b.toArray⟩ : ByteArray)) = ⟨(a ++ b).toArray⟩ := by
  apply ByteArray.ext
  rw [ByteArray.data_append]
  simp
theorem ckitoa_len (n : Int) (h0 : -9223372036854775808 ≤ n) (h1 : n ≤ 9223372036854775807) : (itoa n).length ≤ 21 := by
  unfold itoa
  split
  · rw [List.length_cons, decDigits_length]
    have := nDigits_le20 n.natAbs (by omega)
    omega
  · rw [decDigits_length]
    have := nDigits_le20 n.toNat (by omega)
    omega
theorem ckitoa_any (n : Int) (w : World) (h : I64 n) (htab : TabC w) :
    Calls Tryd.prog 32 #[.int .i64 n] w fun e w' => e = .returned (.string ⟨(itoa n).toArray⟩) ∧ Below w.heap.size w w' := by
  refine Calls.mono (Tryd.strconv_Itoa n h.1 h.2 w htab) ?_
  rintro e w' ⟨rfl, k, os, rfl⟩
  refine ⟨rfl, rfl, rfl, rfl, ?_, fun b hb => ?_⟩
  · show w.heap.size ≤ (w.heap ++ os).size
    rw [Array.size_append]; omega
  · show (w.heap ++ os)[b]? = w.heap[b]?
    rw [Array.getElem?_append_left hb]

/-- A date's text. -/
def txtC (y m d h : Int) : List UInt8 := itoa y ++ (45 :: (itoa m ++ (45 :: (itoa d ++ (32 :: itoa h)))))
set_option maxHeartbeats 3200000 in
set_option maxRecDepth 100000 in
theorem cktext_any (y m d h : Int) (w : World) (hy : I64 y) (hm : I64 m) (hd : I64 d) (hh : I64 h) (htab : TabC w) :
    Calls Tryd.prog 28 #[.agg (dA y m d h)] w fun e w' => e = .returned (.string ⟨(txtC y m d h).toArray⟩) ∧ Below w.heap.size w w' := by
  have HX := hid (FBox.made w 36 (dA y m d h))
  have HBX : Hid (Below w.heap.size w (w.alloc (.cells (dA y m d h) 36))) := (Below.refl _ _).alloc (Nat.le_refl _) _
  have HT := hid htab
  have l1 := ckitoa_len y hy.1 hy.2
  have l2 := ckitoa_len m hm.1 hm.2
  have l3 := ckitoa_len d hd.1 hd.2
  have l4 := ckitoa_len h hh.1 hh.2
  have hm1 : ¬ 9223372036854775807 < (itoa y).length + 1 := by omega
  have hm2 : ¬ 9223372036854775807 < (itoa y).length + 1 + (itoa m).length := by omega
  have hm3 : ¬ 9223372036854775807 < (itoa y).length + 1 + (itoa m).length + 1 := by omega
  have hm4 : ¬ 9223372036854775807 < (itoa y).length + 1 + (itoa m).length + 1 + (itoa d).length := by omega
  have hm5 : ¬ 9223372036854775807 < (itoa y).length + 1 + (itoa m).length + 1 + (itoa d).length + 1 := by omega
  have hm6 : ¬ 9223372036854775807 < (itoa y).length + 1 + (itoa m).length + 1 + (itoa d).length + 1 + (itoa h).length := by omega
  have HE : Hid ((⟨(itoa y).toArray⟩ : ByteArray) ++ (⟨#[45]⟩ : ByteArray) ++ (⟨(itoa m).toArray⟩ : ByteArray) ++ (⟨#[45]⟩ : ByteArray) ++ (⟨(itoa d).toArray⟩ : ByteArray) ++ (⟨#[32]⟩ : ByteArray) ++ (⟨(itoa h).toArray⟩ : ByteArray) = ⟨(txtC y m d h).toArray⟩) := by
    show _ = _
    rw [show (⟨#[45]⟩ : ByteArray) = ⟨([45] : List UInt8).toArray⟩ from rfl, show (⟨#[32]⟩ : ByteArray) = ⟨([32] : List UInt8).toArray⟩ from rfl, ckbytes_app, ckbytes_app, ckbytes_app, ckbytes_app, ckbytes_app, ckbytes_app]
    unfold txtC
    simp
  have HI : Hid (I64 y ∧ I64 m ∧ I64 d ∧ I64 h) := ⟨hy, hm, hd, hh⟩
  clear hy hm hd hh htab
  unfold dA at HX HBX ⊢
  go_enter Tryd.func28, Tryd.ntmps28
  go_wp2_with fail
  generalize w.alloc (.cells #[.int .i64 y, .int .i64 m, .int .i64 d, .int .i64 h] 36) = X at *
  have HF : Hid (∀ V, Below X.heap.size X V → V.cell? ⟨w.heap.size, 0, none⟩ = some (.int .i64 y) ∧ V.cell? ⟨w.heap.size, 1, none⟩ = some (.int .i64 m) ∧ V.cell? ⟨w.heap.size, 2, none⟩ = some (.int .i64 d) ∧ V.cell? ⟨w.heap.size, 3, none⟩ = some (.int .i64 h)) := fun V hv => by
    obtain ⟨c0, c1, c2, c3, _⟩ := dbox_facts (show FBox X w.heap.size 36 (dA y m d h) from HX.out) hv
    exact ⟨c0, c1, c2, c3⟩
  have hs0 := HF.out _ (Below.refl _ X).drew
  have hd0 := hid (Below.refl X.heap.size X).drew
  have H : Hid (∀ z, I64 z → ∀ ww, Below X.heap.size X ww → Calls Tryd.prog 32 #[.int .i64 z] ww fun e w' => e = .returned (.string ⟨(itoa z).toArray⟩) ∧ (w'.cell? ⟨w.heap.size, 0, none⟩ = some (.int .i64 y) ∧ w'.cell? ⟨w.heap.size, 1, none⟩ = some (.int .i64 m) ∧ w'.cell? ⟨w.heap.size, 2, none⟩ = some (.int .i64 d) ∧ w'.cell? ⟨w.heap.size, 3, none⟩ = some (.int .i64 h)) ∧ Below X.heap.size X w') := fun z hz ww hv => by
    refine Calls.mono (ckitoa_any z ww hz (HT.out.later (b2 HBX.out hv))) ?_
    rintro e w' ⟨rfl, h⟩
    exact ⟨rfl, HF.out _ (b2 hv h), b2 hv h⟩
  have H1 := hid (H.out y HI.out.1)
  have H2 := hid (H.out m HI.out.2.1)
  have H3 := hid (H.out d HI.out.2.2.1)
  have H4 := hid (H.out h HI.out.2.2.2)
  clear HF HT HI H
  go_region_held3 (fun V : World => V.cell? ⟨w.heap.size, 0, none⟩ = some (.int .i64 y) ∧ V.cell? ⟨w.heap.size, 1, none⟩ = some (.int .i64 m) ∧ V.cell? ⟨w.heap.size, 2, none⟩ = some (.int .i64 d) ∧ V.cell? ⟨w.heap.size, 3, none⟩ = some (.int .i64 h)) (first | exact hs4 | exact hs3 | exact hs2 | exact hs1 | exact hs0)
    (first
      | (go_at_call 32; with_reducible refine Calls.mono (H4.out _ hb4) ?_; rintro e w5 ⟨rfl, hs4, hb5⟩)
      | (go_at_call 32; with_reducible refine Calls.mono (H3.out _ hb3) ?_; rintro e w4 ⟨rfl, hs3, hb4⟩)
      | (go_at_call 32; with_reducible refine Calls.mono (H2.out _ hb2) ?_; rintro e w3 ⟨rfl, hs2, hb3⟩)
      | (go_at_call 32; with_reducible refine Calls.mono (H1.out _ hd0.out) ?_; rintro e w2 ⟨rfl, hs1, hb2⟩))
  all_goals
    have HB := hid (b2 HBX.out hb5)
    clear hs0 hs1 hs2 hs3 hs4 hb2 hb3 hb4 hb5 HX H1 H2 H3 H4 hd0
    go_wp2_with fail
    go_ret
    exact ⟨congrArg (fun z => Ending.returned (.string z)) HE.out, HB.out⟩
end Go.Proofs.YtfapekhmdhkioaaDoor

/- package clock: number, strings.Cut at one byte, Text, Parse. -/
namespace Go.Proofs.YtfapekhmdhkioaaDoor
open Go.RowKit Go.Lib
set_option linter.unusedVariables false
set_option linter.unusedSimpArgs false

/-- The number that a text is, or -1. -/
def numC (l : List UInt8) : Int := match atoiAll l with
  | .ok v => v
  | _ => -1
theorem numC_in (l : List UInt8) : I64 (numC l) := by
  unfold numC
  cases hp : atoiAll l with
  | ok v => exact atoiAll_bounds hp
  | «syntax» => exact ⟨by decide, by decide⟩
  | range => exact ⟨by decide, by decide⟩

set_option maxHeartbeats 1600000 in
set_option maxRecDepth 100000 in
theorem cknumber_any (s : ByteArray) (w : World) (hs : s.size ≤ 281474976710656) (he : ErrT w) :
    Calls Tryd.prog 27 #[.string s] w fun e w' => e = .returned (.int .i64 (numC s.data.toList)) ∧ Below w.heap.size w w' := by
  obtain ⟨⟨te, pe, h1⟩, te2, pe2, h2⟩ := he
  cases hp : atoiAll s.data.toList with
  | ok v =>
    have HR : Hid (numC s.data.toList = v) := by show _ = _; unfold numC; rw [hp]
    have HC := hid (Tryd.strconv_Atoi_ok s (by omega) v hp w)
    clear hp
    go_enter Tryd.func27, Tryd.ntmps27
    go_wp2_with fail
    refine Calls.mono HC.out ?_
    rintro e w1 ⟨rfl, hw1⟩
    have HB : Hid (Below w.heap.size w w1) := by
      rcases hw1 with rfl | ⟨t, rfl⟩
      · exact Below.refl _ _
      · exact Lib.bytesWorld_below w _ t
    clear hw1
    go_wp2_with fail
    go_ret
    exact ⟨ret_int HR.out.symm, HB.out⟩
  | «syntax» =>
    have HR : Hid (numC s.data.toList = -1) := by show _ = _; unfold numC; rw [hp]
    have HC := hid (Tryd.strconv_Atoi_syntax s hs hp _ w h1 (.inr ⟨te, pe, rfl⟩))
    clear hp
    go_enter Tryd.func27, Tryd.ntmps27
    go_wp2_with fail
    refine Calls.mono HC.out ?_
    rintro e w1 ⟨N, rfl, hN, _, hb⟩
    go_wp2_with fail
    go_ret
    exact ⟨ret_int HR.out.symm, hb⟩
  | range =>
    have HR : Hid (numC s.data.toList = -1) := by show _ = _; unfold numC; rw [hp]
    have HC := hid (Tryd.strconv_Atoi_range s hs hp _ w h2 (.inr ⟨te2, pe2, rfl⟩))
    clear hp
    go_enter Tryd.func27, Tryd.ntmps27
    go_wp2_with fail
    refine Calls.mono HC.out ?_
    rintro e w1 ⟨N, rfl, hN, _, hb⟩
    go_wp2_with fail
    go_ret
    exact ⟨ret_int HR.out.symm, hb⟩

set_option maxHeartbeats 1600000 in
set_option maxRecDepth 100000 in
theorem ckcut0_any (s : ByteArray) (c : UInt8) (w : World) (hs : s.size ≤ 281474976710656) :
    Calls Tryd.prog 30 #[.string s, .string ⟨#[c]⟩] w fun e w' => e = .returned (.tuple #[.string ⟨(Lib.cut s.data.toList [c]).1.toArray⟩, .string ⟨(Lib.cut s.data.toList [c]).2.1.toArray⟩, .bool (Lib.cut s.data.toList [c]).2.2]) ∧ Below w.heap.size w w' := by
  have HI := hid (Tryd.stringslite_Index_one s c w)
  rw [← Lib.index_one] at HI
  rcases Lib.indexB_cases s ⟨#[c]⟩ with hix | ⟨i, hix, hroom⟩
  · obtain ⟨e1, e2, e3⟩ := Lib.cutB_miss s ⟨#[c]⟩ hix
    have e1' : (⟨(Lib.cut s.data.toList [c]).1.toArray⟩ : ByteArray) = _ := e1
    have e2' : (⟨(Lib.cut s.data.toList [c]).2.1.toArray⟩ : ByteArray) = _ := e2
    have e3' : (Lib.cut s.data.toList [c]).2.2 = _ := e3
    have hix' : Lib.index s.data.toList [c] = -1 := hix
    rw [hix'] at HI
    rw [e1', e2', e3']
    clear e1 e2 e3 e1' e2' e3' hix hix'
    go_enter Tryd.func30, Tryd.ntmps30
    go_wp2_with fail
    refine Calls.mono HI.out ?_
    rintro e w1 ⟨rfl, rfl⟩
    go_wp2_with fail
    go_returns
    exact ⟨rfl, Below.refl _ _⟩
  · obtain ⟨e1, e2, e3⟩ := Lib.cutB_hit s ⟨#[c]⟩ i hix
    have e1' : (⟨(Lib.cut s.data.toList [c]).1.toArray⟩ : ByteArray) = _ := e1
    have e2' : (⟨(Lib.cut s.data.toList [c]).2.1.toArray⟩ : ByteArray) = _ := e2
    have e3' : (Lib.cut s.data.toList [c]).2.2 = _ := e3
    have hix' : Lib.index s.data.toList [c] = (i : Int) := hix
    rw [hix'] at HI
    rw [e1', e2', e3']
    have hr : i + 1 ≤ s.size := hroom
    have c1 : (0 : Int) ≤ ↑i := by omega
    have c2 : (↑i : Int) ≤ ↑s.size := by omega
    have c3 : (0 : Int) ≤ ↑i + 1 := by omega
    have c4 : (↑i + 1 : Int) ≤ ↑s.size := by omega
    have hw : IntKind.i64.wrap ((i : Int) + 1) = (i : Int) + 1 := by rw [IntKind.wrap_i64]; omega
    have ht : ((i : Int) + 1).toNat = i + 1 := by omega
    clear e1 e2 e3 e1' e2' e3' hix hix' hroom
    go_enter Tryd.func30, Tryd.ntmps30
    go_wp2_with fail
    refine Calls.mono HI.out ?_
    rintro e w1 ⟨rfl, rfl⟩
    go_wp2_with fail
    go_region
    go_wp2_with fail
    go_returns
    exact ⟨rfl, (Below.refl _ _).drew⟩
set_option maxHeartbeats 1600000 in
set_option maxRecDepth 100000 in
theorem ckcut_any (s : ByteArray) (c : UInt8) (w : World) (hs : s.size ≤ 281474976710656) :
    Calls Tryd.prog 26 #[.string s, .string ⟨#[c]⟩] w fun e w' => e = .returned (.tuple #[.string ⟨(Lib.cut s.data.toList [c]).1.toArray⟩, .string ⟨(Lib.cut s.data.toList [c]).2.1.toArray⟩, .bool (Lib.cut s.data.toList [c]).2.2]) ∧ Below w.heap.size w w' := by
  have HC := hid (ckcut0_any s c w hs)
  generalize (Lib.cut s.data.toList [c]).1.toArray = A at *
  generalize (Lib.cut s.data.toList [c]).2.1.toArray = B at *
  generalize (Lib.cut s.data.toList [c]).2.2 = C at *
  go_enter Tryd.func26, Tryd.ntmps26
  go_wp2_with fail
  refine Calls.mono HC.out ?_
  rintro e w1 ⟨rfl, hb⟩
  go_wp2_with fail
  go_returns
  exact ⟨rfl, hb⟩
theorem ckcut_len (l : List UInt8) (c : UInt8) : (Lib.cut l [c]).1.length ≤ l.length ∧ (Lib.cut l [c]).2.1.length ≤ l.length := by
  unfold Lib.cut
  split
  · simp
    omega
  · simp

def fromR (y m d h : Int) : Int × Int := if okD y m d then atR ((yT (y - 2000).toNat + mT y.toNat (m - 1).toNat + (d - 1).toNat : Nat) : Int) h else (0, 2)
theorem okD_nat {y m d : Int} (h : okD y m d) : ∃ k j r : Nat, y = 2000 + (k : Int) ∧ m = (j : Int) + 1 ∧ d = (r : Int) + 1 ∧ k ≤ 119 ∧ j < 12 ∧ r < md (2000 + k) (j + 1) := by
  obtain ⟨h1, h2, h3, h4⟩ := h
  have hm : 1 ≤ m ∧ m ≤ 12 := by
    rcases Decidable.em (1 ≤ m ∧ m ≤ 12) with g | g
    · exact g
    · unfold mdI at h4; rw [if_neg g] at h4; omega
  refine ⟨(y - 2000).toNat, (m - 1).toNat, (d - 1).toNat, by omega, by omega, by omega, by omega, by omega, ?_⟩
  unfold mdI at h4
  rw [if_pos hm] at h4
  have e1 : 2000 + (y - 2000).toNat = y.toNat := by omega
  have e2 : (m - 1).toNat + 1 = m.toNat := by omega
  rw [e1, e2]; omega
theorem okD_of {k j r : Nat} (hk : k ≤ 119) (hj : j < 12) (hr : r < md (2000 + k) (j + 1)) : okD (2000 + (k : Int)) ((j : Int) + 1) ((r : Int) + 1) := by
  refine ⟨by omega, by omega, by omega, ?_⟩
  unfold mdI
  rw [if_pos (by omega), show (2000 + (k : Int)).toNat = 2000 + k by omega, show ((j : Int) + 1).toNat = j + 1 by omega]
  omega
theorem fromR_ok {k j r : Nat} (hk : k ≤ 119) (hj : j < 12) (hr : r < md (2000 + k) (j + 1)) (h : Int) : fromR (2000 + (k : Int)) ((j : Int) + 1) ((r : Int) + 1) h = atR ((yT k + mT (2000 + k) j + r : Nat) : Int) h := by
  unfold fromR
  rw [if_pos (okD_of hk hj hr), show (2000 + (k : Int) - 2000).toNat = k by omega, show (2000 + (k : Int)).toNat = 2000 + k by omega, show ((j : Int) + 1 - 1).toNat = j by omega, show ((r : Int) + 1 - 1).toNat = r by omega]
theorem ckfrom_any (y m d h : Int) (w : World) (hy : I64 y) (hm : I64 m) (hd : I64 d) (hh : I64 h) :
    Calls Tryd.prog 15 #[.agg (dA y m d h)] w fun e w' => e = .returned (.tuple #[.int .i64 (fromR y m d h).1, .int .i64 (fromR y m d h).2]) ∧ Below w.heap.size w w' := by
  by_cases hk : okD y m d
  · obtain ⟨k, j, r, rfl, rfl, rfl, h1, h2, h3⟩ := okD_nat hk
    rw [fromR_ok h1 h2 h3]
    exact ckfrom_ok k j r h w h1 h2 h3 hh
  · rw [show fromR y m d h = (0, 2) from if_neg hk]
    exact ckfrom_err y m d h w hy hm hd hh hk
theorem atR_or (d h : Int) : (okA d h ∧ atR d h = (d * 24 + h, 0)) ∨ (¬ okA d h ∧ atR d h = (0, 2)) := by
  unfold atR
  by_cases k : okA d h
  · left; rw [if_pos k]; exact ⟨k, rfl⟩
  · right; rw [if_neg k]; exact ⟨k, rfl⟩
theorem fromR_or (y m d h : Int) : (∃ k j r : Nat, y = 2000 + (k : Int) ∧ m = (j : Int) + 1 ∧ d = (r : Int) + 1 ∧ k ≤ 119 ∧ IsD (yT k + mT (2000 + k) j + r) k j r ∧ okA ((yT k + mT (2000 + k) j + r : Nat) : Int) h ∧ fromR y m d h = (((yT k + mT (2000 + k) j + r : Nat) : Int) * 24 + h, 0)) ∨ fromR y m d h = (0, 2) := by
  by_cases hk : okD y m d
  · obtain ⟨k, j, r, rfl, rfl, rfl, h1, h2, h3⟩ := okD_nat hk
    rw [fromR_ok h1 h2 h3]
    rcases atR_or ((yT k + mT (2000 + k) j + r : Nat) : Int) h with ⟨a, b⟩ | ⟨a, b⟩
    · exact .inl ⟨k, j, r, rfl, rfl, rfl, h1, ⟨rfl, h2, h3⟩, a, b⟩
    · exact .inr b
  · exact .inr (if_neg hk)
end Go.Proofs.YtfapekhmdhkioaaDoor

/- package clock: Text, Parse, of every number and text. -/
namespace Go.Proofs.YtfapekhmdhkioaaDoor
open Go.RowKit Go.Lib
set_option linter.unusedVariables false
set_option linter.unusedSimpArgs false

theorem ckstr_other {s t : ByteArray} (h : ¬ s = t) : (s.toList == t.toList) = false := by
  rw [Lib.toList_data, Lib.toList_data]
  exact beq_eq_false_iff_ne.2 (fun e => h (ByteArray.ext (Array.toList_inj.1 e)))
/-- The four pieces of a text, and the numbers that they are. -/
def pc1 (l : List UInt8) : List UInt8 := (cut l [45]).1
def pc2 (l : List UInt8) : List UInt8 := (cut (cut l [45]).2.1 [45]).1
def pc3 (l : List UInt8) : List UInt8 := (cut (cut (cut l [45]).2.1 [45]).2.1 [32]).1
def pc4 (l : List UInt8) : List UInt8 := (cut (cut (cut l [45]).2.1 [45]).2.1 [32]).2.1
/-- What Parse tells of pieces. -/
def readP (y m d h : Int) (l : List UInt8) : Int × Int := if (fromR y m d h).2 = 0 ∧ txtC y m d h = l then ((fromR y m d h).1, 0) else (0, 190)
def readC (l : List UInt8) : Int × Int := readP (numC (pc1 l)) (numC (pc2 l)) (numC (pc3 l)) (numC (pc4 l)) l
set_option maxHeartbeats 1600000 in
set_option maxRecDepth 100000 in
theorem ckparse_any (s : ByteArray) (w : World) (hs : s.size ≤ 281474976710656) (htab : TabC w) (herr : ErrT w) :
    Calls Tryd.prog 16 #[.string s] w fun e w' => e = .returned (.tuple #[.int .i64 (readC s.data.toList).1, .int .i64 (readC s.data.toList).2]) ∧ Below w.heap.size w w' := by
  have hs' : s.data.toList.length ≤ 281474976710656 := by rw [Array.length_toList]; exact hs
  have m1 := ckcut_len s.data.toList 45
  have m2 := ckcut_len (cut s.data.toList [45]).2.1 45
  have m3 := ckcut_len (cut (cut s.data.toList [45]).2.1 [45]).2.1 32
  have HC1 := hid (fun V => ckcut_any s 45 V hs)
  have HC2 := hid (fun V => ckcut_any ⟨(cut s.data.toList [45]).2.1.toArray⟩ 45 V (by show (cut s.data.toList [45]).2.1.toArray.size ≤ _; rw [List.size_toArray]; omega))
  have HC3 := hid (fun V => ckcut_any ⟨(cut (cut s.data.toList [45]).2.1 [45]).2.1.toArray⟩ 32 V (by show (cut (cut s.data.toList [45]).2.1 [45]).2.1.toArray.size ≤ _; rw [List.size_toArray]; omega))
  have HN1 := hid (fun V (hv : Below w.heap.size w V) => cknumber_any ⟨(pc1 s.data.toList).toArray⟩ V (by show (pc1 s.data.toList).toArray.size ≤ _; rw [List.size_toArray]; unfold pc1; omega) (herr.later hv))
  have HN2 := hid (fun V (hv : Below w.heap.size w V) => cknumber_any ⟨(pc2 s.data.toList).toArray⟩ V (by show (pc2 s.data.toList).toArray.size ≤ _; rw [List.size_toArray]; unfold pc2; omega) (herr.later hv))
  have HN3 := hid (fun V (hv : Below w.heap.size w V) => cknumber_any ⟨(pc3 s.data.toList).toArray⟩ V (by show (pc3 s.data.toList).toArray.size ≤ _; rw [List.size_toArray]; unfold pc3; omega) (herr.later hv))
  have HN4 := hid (fun V (hv : Below w.heap.size w V) => cknumber_any ⟨(pc4 s.data.toList).toArray⟩ V (by show (pc4 s.data.toList).toArray.size ≤ _; rw [List.size_toArray]; unfold pc4; omega) (herr.later hv))
  have HF := hid (fun V => ckfrom_any (numC (pc1 s.data.toList)) (numC (pc2 s.data.toList)) (numC (pc3 s.data.toList)) (numC (pc4 s.data.toList)) V (numC_in _) (numC_in _) (numC_in _) (numC_in _))
  have HT := hid (fun V (hv : Below w.heap.size w V) => cktext_any (numC (pc1 s.data.toList)) (numC (pc2 s.data.toList)) (numC (pc3 s.data.toList)) (numC (pc4 s.data.toList)) V (numC_in _) (numC_in _) (numC_in _) (numC_in _) (htab.later hv))
  simp only [List.toList_toArray] at HC2 HC3 HN1 HN2 HN3 HN4
  have b1 := numC_in (pc1 s.data.toList)
  have b2' := numC_in (pc2 s.data.toList)
  have b3 := numC_in (pc3 s.data.toList)
  have b4 := numC_in (pc4 s.data.toList)
  unfold readC
  rw [show (cut s.data.toList [45]).1 = pc1 s.data.toList from rfl] at HC1
  rw [show (cut (cut s.data.toList [45]).2.1 [45]).1 = pc2 s.data.toList from rfl] at HC2
  rw [show (cut (cut (cut s.data.toList [45]).2.1 [45]).2.1 [32]).1 = pc3 s.data.toList from rfl, show (cut (cut (cut s.data.toList [45]).2.1 [45]).2.1 [32]).2.1 = pc4 s.data.toList from rfl] at HC3
  clear m1 m2 m3
  generalize (cut s.data.toList [45]).2.2 = q1 at *
  generalize (cut (cut s.data.toList [45]).2.1 [45]).2.2 = q2 at *
  generalize (cut (cut (cut s.data.toList [45]).2.1 [45]).2.1 [32]).2.2 = q3 at *
  generalize (cut (cut s.data.toList [45]).2.1 [45]).2.1.toArray = R2 at *
  generalize (cut s.data.toList [45]).2.1.toArray = R1 at *
  generalize numC (pc1 s.data.toList) = y at *
  generalize numC (pc2 s.data.toList) = m at *
  generalize numC (pc3 s.data.toList) = d at *
  generalize numC (pc4 s.data.toList) = h at *
  generalize (pc1 s.data.toList).toArray = A1 at *
  generalize (pc2 s.data.toList).toArray = A2 at *
  generalize (pc3 s.data.toList).toArray = A3 at *
  generalize (pc4 s.data.toList).toArray = A4 at *
  unfold dA at HF HT
  go_enter Tryd.func16, Tryd.ntmps16
  go_wp2_with fail
  refine Calls.mono (HC1.out _) ?_
  rintro e w1 ⟨rfl, hb1⟩
  have HB1 := hid hb1
  clear hb1 HC1
  go_wp2_with fail
  refine Calls.mono (HC2.out _) ?_
  rintro e w2 ⟨rfl, hb2⟩
  have HB2 := hid (b2 HB1.out hb2)
  clear hb2 HC2 HB1
  go_wp2_with fail
  refine Calls.mono (HC3.out _) ?_
  rintro e w3 ⟨rfl, hb3⟩
  have HB3 := hid (b2 HB2.out hb3)
  clear hb3 HC3 HB2
  go_wp2_with fail
  refine Calls.mono (HN1.out _ HB3.out) ?_
  rintro e w4 ⟨rfl, hb4⟩
  have HB4 := hid (b2 HB3.out hb4)
  clear hb4 HN1 HB3
  go_wp2_with fail
  refine Calls.mono (HN2.out _ HB4.out) ?_
  rintro e w5 ⟨rfl, hb5⟩
  have HB5 := hid (b2 HB4.out hb5)
  clear hb5 HN2 HB4
  go_wp2_with fail
  refine Calls.mono (HN3.out _ HB5.out) ?_
  rintro e w6 ⟨rfl, hb6⟩
  have HB6 := hid (b2 HB5.out hb6)
  clear hb6 HN3 HB5
  go_wp2_with fail
  refine Calls.mono (HN4.out _ HB6.out) ?_
  rintro e w7 ⟨rfl, hb7⟩
  have HB7 := hid (b2 HB6.out hb7)
  clear hb7 HN4 HB6
  go_wp2_with fail
  have HX := hid (FBox.made w7 36 (dA y m d h))
  have HB8 := hid (HB7.out.alloc HB7.out.size (.cells (dA y m d h) 36))
  unfold dA at HX HB8
  generalize w7.alloc (.cells #[.int .i64 y, .int .i64 m, .int .i64 d, .int .i64 h] 36) = X at *
  refine Calls.mono (HF.out _) ?_
  rintro e w8 ⟨rfl, hb8⟩
  obtain ⟨c0, c1, c2, c3, g0, g1, g2, g3⟩ := dbox_facts (show FBox X w7.heap.size 36 (dA y m d h) from HX.out) hb8
  have HB9 := hid (b2 HB8.out hb8)
  clear hb8 HF HB8 HB7 HX
  have HV1 : Hid ((fromR y m d h).2 = 0 → txtC y m d h = s.data.toList → readP y m d h s.data.toList = ((fromR y m d h).1, 0)) := fun a b => if_pos ⟨a, b⟩
  have HV2 : Hid (¬ ((fromR y m d h).2 = 0 ∧ txtC y m d h = s.data.toList) → readP y m d h s.data.toList = (0, 190)) := fun a => if_neg a
  have hfo : (fromR y m d h).2 = 0 ∨ fromR y m d h = (0, 2) := by
    rcases fromR_or y m d h with ⟨_, _, _, _, _, _, _, _, _, hfr⟩ | hfr
    · left; rw [hfr]
    · right; exact hfr
  rcases hfo with hfr | hfr
  · generalize (fromR y m d h) = FF at *
    obtain ⟨F1, F2⟩ := FF
    obtain rfl : F2 = 0 := hfr
    by_cases hx : txtC y m d h = s.data.toList
    · have HV := hid (HV1.out rfl hx)
      have hx2 : (⟨(txtC y m d h).toArray⟩ : ByteArray) = s := by rw [hx]
      rw [hx2] at HT
      clear HV1 HV2 hx hx2
      go_wp2_with fail
      refine Calls.mono (HT.out _ HB9.out) ?_
      rintro e w9 ⟨rfl, hb9⟩
      have HB := hid (b2 HB9.out hb9)
      clear hb9 HT HB9
      go_wp2_with fail
      go_returns
      exact ⟨by rw [HV.out]; rfl, HB.out⟩
    · have HV := hid (HV2.out (fun g => hx g.2))
      have hx2 : ¬ (⟨(txtC y m d h).toArray⟩ : ByteArray) = s := fun e => hx (by rw [← e])
      clear HV1 HV2 hx
      generalize (⟨(txtC y m d h).toArray⟩ : ByteArray) = TT at *
      have hx4 := ckstr_other hx2
      go_wp2_with fail
      refine Calls.mono (HT.out _ HB9.out) ?_
      rintro e w9 ⟨rfl, hb9⟩
      have HB := hid (b2 HB9.out hb9)
      clear hb9 HT HB9
      go_wp2_with fail
      go_returns
      exact ⟨by rw [HV.out]; rfl, HB.out⟩
  · rw [hfr] at HV2 ⊢
    have HV := hid (HV2.out (fun g => absurd g.1 (by decide)))
    clear HV1 HV2
    go_wp2_with fail
    go_returns
    exact ⟨by rw [HV.out]; rfl, HB9.out⟩
end Go.Proofs.YtfapekhmdhkioaaDoor

/- The laws' own helpers of layer 9: is, number, awake; a date's text is read as that date. -/
namespace Go.Proofs.YtfapekhmdhkioaaDoor
open Go.RowKit Go.Lib
set_option linter.unusedVariables false
set_option linter.unusedSimpArgs false

set_option maxHeartbeats 1600000 in
set_option maxRecDepth 100000 in
theorem ckis_any (y m d h y' m' d' h' : Int) (w : World) :
    Calls Tryd.prog 14 #[.agg (dA y m d h), .int .i64 y', .int .i64 m', .int .i64 d', .int .i64 h'] w fun e w' => e = .returned (.bool (decide (y = y' ∧ m = m' ∧ d = d' ∧ h = h'))) ∧ Below w.heap.size w w' := by
  have HX := hid (FBox.made w 36 (dA y m d h))
  have HBX : Hid (Below w.heap.size w (w.alloc (.cells (dA y m d h) 36))) := (Below.refl _ _).alloc (Nat.le_refl _) _
  obtain ⟨c0, c1, c2, c3, g0, g1, g2, g3⟩ := dbox_facts HX.out (Below.refl _ _)
  unfold dA at HX HBX c0 c1 c2 c3 g0 g1 g2 g3 ⊢
  by_cases h1 : y = y'
  · by_cases h2 : m = m'
    · by_cases h3 : d = d'
      · by_cases h4 : h = h'
        · rw [decide_eq_true ⟨h1, h2, h3, h4⟩]
          subst h1; subst h2; subst h3; subst h4
          go_enter Tryd.func14, Tryd.ntmps14
          go_wp2_with fail
          go_returns
          exact ⟨rfl, HBX.out⟩
        · rw [decide_eq_false (fun g => h4 g.2.2.2)]
          have z4 : (h == h') = false := beq_eq_false_iff_ne.2 h4
          subst h1; subst h2; subst h3
          go_enter Tryd.func14, Tryd.ntmps14
          go_wp2_with fail
          go_returns
          exact ⟨rfl, HBX.out⟩
      · rw [decide_eq_false (fun g => h3 g.2.2.1)]
        have z3 : (d == d') = false := beq_eq_false_iff_ne.2 h3
        subst h1; subst h2
        go_enter Tryd.func14, Tryd.ntmps14
        go_wp2_with fail
        go_returns
        exact ⟨rfl, HBX.out⟩
    · rw [decide_eq_false (fun g => h2 g.2.1)]
      have z2 : (m == m') = false := beq_eq_false_iff_ne.2 h2
      subst h1
      go_enter Tryd.func14, Tryd.ntmps14
      go_wp2_with fail
      go_returns
      exact ⟨rfl, HBX.out⟩
  · rw [decide_eq_false (fun g => h1 g.1)]
    have z1 : (y == y') = false := beq_eq_false_iff_ne.2 h1
    go_enter Tryd.func14, Tryd.ntmps14
    go_wp2_with fail
    go_returns
    exact ⟨rfl, HBX.out⟩
theorem rd_awake : readC [50, 48, 48, 48, 45, 49, 45, 49, 32, 48] = (0, 0) := by decide +kernel
theorem isd59 : IsD 59 0 1 28 := ⟨by decide +kernel, by decide, by decide +kernel⟩
theorem at12 : atR 1 2 = (26, 0) := by decide

set_option maxHeartbeats 1600000 in
set_option maxRecDepth 100000 in
theorem ckawake_any (w : World) (htab : TabC w) (herr : ErrT w) :
    Calls Tryd.prog 11 #[] w fun e w' => e = .returned (.bool true) ∧ Below w.heap.size w w' := by
  have HA := hid (fun V => ckat_any 1 2 V ⟨by decide, by decide⟩ ⟨by decide, by decide⟩)
  rw [at12] at HA
  have HD : Hid (∀ V, Calls Tryd.prog 13 #[.int .i64 1416] V fun e w' => e = .returned (.tuple #[.agg #[.int .i64 2000, .int .i64 2, .int .i64 29, .int .i64 0], .int .i64 0]) ∧ Below V.heap.size V w') := fun V => by
    refine Calls.mono (ckdate_ok 1416 V (by decide)) ?_
    rintro e w' ⟨⟨k, j, r, hi, rfl⟩, hb⟩
    obtain ⟨rfl, rfl, rfl⟩ := hi.only isd59
    exact ⟨rfl, hb⟩
  have HP := hid (fun V (hv : Below w.heap.size w V) => ckparse_any ⟨#[50, 48, 48, 48, 45, 49, 45, 49, 32, 48]⟩ V (by decide) (htab.later hv) (herr.later hv))
  rw [show (⟨#[50, 48, 48, 48, 45, 49, 45, 49, 32, 48]⟩ : ByteArray).data.toList = [50, 48, 48, 48, 45, 49, 45, 49, 32, 48] from rfl, rd_awake] at HP
  have HW := hid (fun V => ckweek_ok 0 V (by decide))
  have HI := hid (fun V => ckis_any 2000 2 29 0 2000 2 29 0 V)
  rw [decide_eq_true ⟨rfl, rfl, rfl, rfl⟩] at HI
  unfold dA at HI
  go_enter Tryd.func11, Tryd.ntmps11
  go_wp2_with fail
  refine Calls.mono (HA.out _) ?_
  rintro e w1 ⟨rfl, rfl⟩
  go_wp2_with fail
  refine Calls.mono (HD.out _) ?_
  rintro e w2 ⟨rfl, hb2⟩
  have HB2 := hid hb2
  clear hb2
  go_wp2_with fail
  have HX := hid (FBox.made w2 36 (dA 2000 2 29 0))
  have HB3 := hid (HB2.out.alloc HB2.out.size (.cells (dA 2000 2 29 0) 36))
  unfold dA at HX HB3
  generalize w2.alloc (.cells #[.int .i64 2000, .int .i64 2, .int .i64 29, .int .i64 0] 36) = X at *
  refine Calls.mono (HP.out _ HB3.out) ?_
  rintro e w3 ⟨rfl, hb3⟩
  obtain ⟨c0, c1, c2, c3, g0, g1, g2, g3⟩ := dbox_facts (show FBox X w2.heap.size 36 (dA 2000 2 29 0) from HX.out) hb3
  have HB4 := hid (b2 HB3.out hb3)
  clear hb3 HX HB3 HP HA HD HB2
  go_wp2_with fail
  refine Calls.mono (HW.out _) ?_
  rintro e w4 ⟨rfl, rfl⟩
  go_wp2_with fail
  refine Calls.mono (HI.out _) ?_
  rintro e w5 ⟨rfl, hb5⟩
  have HB5 := hid (b2 HB4.out hb5)
  clear hb5
  go_wp2_with fail
  go_returns
  exact ⟨rfl, HB5.out⟩
end Go.Proofs.YtfapekhmdhkioaaDoor

/- A date's text is read as that date. Nothing here speaks of the program. -/
namespace Go.Proofs.YtfapekhmdhkioaaDoor
open Go.RowKit Go.Lib
set_option linter.unusedVariables false

theorem ckdig_one {u : Nat} (h : u < 10) : decDigits u = [UInt8.ofNat (48 + u)] := by rw [decDigits, dif_pos h]
theorem ckdig_more {u : Nat} (h : ¬ u < 10) : decDigits u = decDigits (u / 10) ++ [UInt8.ofNat (48 + u % 10)] := by rw [decDigits, dif_neg h]
theorem ckdigit_nat (d : Nat) (h : d < 10) : (UInt8.ofNat (48 + d)).toNat = 48 + d := by rw [UInt8.toNat_ofNat']; omega
theorem ckdec_all (n : Nat) : (∀ x ∈ decDigits n, 48 ≤ x.toNat ∧ x.toNat ≤ 57) ∧ decDigits n ≠ [] := by
  by_cases h : n < 10
  · rw [ckdig_one h]
    refine ⟨fun x hx => ?_, by simp⟩
    rw [List.mem_singleton] at hx
    rw [hx, ckdigit_nat n h]; omega
  · rw [ckdig_more h]
    have ih := ckdec_all (n / 10)
    refine ⟨fun x hx => ?_, by simp⟩
    rcases List.mem_append.1 hx with hx | hx
    · exact ih.1 x hx
    · rw [List.mem_singleton] at hx
      rw [hx, ckdigit_nat (n % 10) (by omega)]; omega
termination_by n
decreasing_by omega
theorem ckpum (n : Nat) (r : List UInt8) (hn : n < 9223372036854775808) : parseUint10 0 (decDigits n ++ r) = parseUint10 n r := by
  by_cases h : n < 10
  · rw [ckdig_one h]
    show parseUint10 0 (UInt8.ofNat (48 + n) :: r) = _
    rw [parseUint10, ckdigit_nat n h, if_pos (by omega), if_neg (by omega), if_neg (by omega)]
    congr 1; omega
  · rw [ckdig_more h, List.append_assoc]
    rw [ckpum (n / 10) _ (by omega)]
    show parseUint10 (n / 10) (UInt8.ofNat (48 + n % 10) :: r) = _
    rw [parseUint10, ckdigit_nat (n % 10) (by omega), if_pos (by omega), if_neg (by omega), if_neg (by omega)]
    congr 1; omega
termination_by n
decreasing_by omega
theorem numC_dec (n : Nat) (hn : n < 9223372036854775808) : numC (decDigits n) = n := by
  obtain ⟨ha, hne⟩ := ckdec_all n
  have hp := ckpum n [] (by omega)
  rw [List.append_nil] at hp
  have hp' : parseUint10 0 (decDigits n) = .ok n := hp
  unfold numC atoiAll
  cases hl : decDigits n with
  | nil => exact absurd hl hne
  | cons c r =>
    have hc := ha c (by rw [hl]; simp)
    rw [hl] at hp'
    have hu : parseMag (if c.toNat = 43 ∨ c.toNat = 45 then r else c :: r) = .ok n := by
      rw [if_neg (by omega)]
      unfold parseMag
      rw [if_neg (by simp)]
      exact hp'
    simp only [hu]
    rw [if_neg (by omega), if_neg (by omega), if_neg (by omega)]
theorem ckitoa_nat (n : Nat) : itoa (n : Int) = decDigits n := by unfold itoa; rw [if_neg (by omega)]; rfl

theorem ckindex_split (c : UInt8) (hc : c.toNat < 48) : ∀ (a b : List UInt8), (∀ x ∈ a, 48 ≤ x.toNat ∧ x.toNat ≤ 57) → indexByte (a ++ c :: b) c = (a.length : Int)
  | [], b, _ => by
    show indexByte (c :: b) c = _
    rw [indexByte]; simp
  | z :: a, b, h => by
    have hz := h z (by simp)
    have ih := ckindex_split c hc a b (fun x hx => h x (by simp [hx]))
    have hne : (z == c) = false := by
      rw [beq_eq_false_iff_ne]
      intro e; rw [e] at hz; omega
    show indexByte (z :: (a ++ c :: b)) c = _
    rw [indexByte, ih, hne]
    have h2 : (((a.length : Int)) == -1) = false := by
      rw [beq_eq_false_iff_ne]; omega
    rw [h2]
    simp
theorem ckcut_split (c : UInt8) (hc : c.toNat < 48) (a b : List UInt8) (h : ∀ x ∈ a, 48 ≤ x.toNat ∧ x.toNat ≤ 57) : cut (a ++ c :: b) [c] = (a, b, true) := by
  unfold cut
  rw [index_one, ckindex_split c hc a b h, if_pos (by omega)]
  simp

theorem pieces (a b c d : List UInt8) (ha : ∀ x ∈ a, 48 ≤ x.toNat ∧ x.toNat ≤ 57) (hb : ∀ x ∈ b, 48 ≤ x.toNat ∧ x.toNat ≤ 57) (hc : ∀ x ∈ c, 48 ≤ x.toNat ∧ x.toNat ≤ 57) :
    pc1 (a ++ (45 :: (b ++ (45 :: (c ++ (32 :: d)))))) = a ∧ pc2 (a ++ (45 :: (b ++ (45 :: (c ++ (32 :: d)))))) = b ∧ pc3 (a ++ (45 :: (b ++ (45 :: (c ++ (32 :: d)))))) = c ∧ pc4 (a ++ (45 :: (b ++ (45 :: (c ++ (32 :: d)))))) = d := by
  unfold pc1 pc2 pc3 pc4
  rw [ckcut_split 45 (by decide) a _ ha]
  simp only
  rw [ckcut_split 45 (by decide) b _ hb]
  simp only
  rw [ckcut_split 32 (by decide) c _ hc]
  simp
/-- A date's text is read as its tick. -/
theorem read_txtC {n k j r h : Nat} (hi : IsD n k j r) (hn : n ≤ 43690) (hh : h < 24) (ht : n * 24 + h ≤ 1048576) : readC (txtC (2000 + (k : Int)) ((j : Int) + 1) ((r : Int) + 1) (h : Int)) = (((n * 24 + h : Nat) : Int), 0) := by
  have hk := hi.small hn
  have e : txtC (2000 + (k : Int)) ((j : Int) + 1) ((r : Int) + 1) (h : Int) = decDigits (2000 + k) ++ (45 :: (decDigits (j + 1) ++ (45 :: (decDigits (r + 1) ++ (32 :: decDigits h))))) := by
    unfold txtC
    rw [← ckitoa_nat, ← ckitoa_nat, ← ckitoa_nat, ← ckitoa_nat]
    rfl
  obtain ⟨p1, p2, p3, p4⟩ := pieces (decDigits (2000 + k)) (decDigits (j + 1)) (decDigits (r + 1)) (decDigits h) (ckdec_all _).1 (ckdec_all _).1 (ckdec_all _).1
  have hj := hi.2.1
  have hr := hi.2.2
  have hm := md_le (2000 + k) (j + 1)
  unfold readC
  rw [e, p1, p2, p3, p4, numC_dec _ (by omega), numC_dec _ (by omega), numC_dec _ (by omega), numC_dec _ (by omega), ← e]
  have ef : fromR (2000 + (k : Int)) ((j : Int) + 1) ((r : Int) + 1) (h : Int) = (((n * 24 + h : Nat) : Int), 0) := by
    rw [fromR_ok hk hj hr, hi.1]
    unfold atR
    rw [if_pos ⟨by omega, by omega, by omega, by omega, by omega⟩]
    rfl
  show readP (2000 + (k : Int)) ((j : Int) + 1) ((r : Int) + 1) (h : Int) _ = _
  unfold readP
  rw [ef, if_pos ⟨rfl, rfl⟩]
/-- What is read is a tick, and that tick's text; or it is refused. -/
theorem readC_or (l : List UInt8) : (∃ T k j r : Nat, readC l = ((T : Int), 0) ∧ T ≤ 1048576 ∧ IsD (T / 24) k j r ∧ txtC (2000 + (k : Int)) ((j : Int) + 1) ((r : Int) + 1) ((T % 24 : Nat) : Int) = l) ∨ readC l = (0, 190) := by
  unfold readC readP
  rcases fromR_or (numC (pc1 l)) (numC (pc2 l)) (numC (pc3 l)) (numC (pc4 l)) with ⟨k, j, r, h1, h2, h3, hk, hi, ha, hf⟩ | hf
  · by_cases hx : txtC (numC (pc1 l)) (numC (pc2 l)) (numC (pc3 l)) (numC (pc4 l)) = l
    · left
      obtain ⟨a1, a2, a3, a4, a5⟩ := ha
      obtain ⟨h, hh⟩ : ∃ h : Nat, numC (pc4 l) = (h : Int) := ⟨(numC (pc4 l)).toNat, by omega⟩
      rw [hh] at a1 a2 a5
      refine ⟨(yT k + mT (2000 + k) j + r) * 24 + h, k, j, r, ?_, by omega, ?_, ?_⟩
      · rw [hf, if_pos ⟨rfl, hx⟩, hh]; rfl
      · rw [show ((yT k + mT (2000 + k) j + r) * 24 + h) / 24 = yT k + mT (2000 + k) j + r by omega]; exact hi
      · rw [show ((yT k + mT (2000 + k) j + r) * 24 + h) % 24 = h by omega, ← h1, ← h2, ← h3, ← hh]; exact hx
    · right; rw [if_neg (fun g => hx g.2)]
  · right; rw [hf, if_neg (fun g => absurd g.1 (by decide))]
/-- What From tells is a tick of that date; or the date is refused. -/
theorem fromR_tick (y m d h : Int) : (∃ T k j r : Nat, fromR y m d h = ((T : Int), 0) ∧ T ≤ 1048576 ∧ IsD (T / 24) k j r ∧ y = 2000 + (k : Int) ∧ m = (j : Int) + 1 ∧ d = (r : Int) + 1 ∧ h = ((T % 24 : Nat) : Int)) ∨ fromR y m d h = (0, 2) := by
  rcases fromR_or y m d h with ⟨k, j, r, h1, h2, h3, hk, hi, ha, hf⟩ | hf
  · left
    obtain ⟨a1, a2, a3, a4, a5⟩ := ha
    obtain ⟨h', rfl⟩ : ∃ h' : Nat, h = (h' : Int) := ⟨h.toNat, by omega⟩
    refine ⟨(yT k + mT (2000 + k) j + r) * 24 + h', k, j, r, ?_, by omega, ?_, h1, h2, h3, ?_⟩
    · rw [hf]; rfl
    · rw [show ((yT k + mT (2000 + k) j + r) * 24 + h') / 24 = yT k + mT (2000 + k) j + r by omega]; exact hi
    · rw [show ((yT k + mT (2000 + k) j + r) * 24 + h') % 24 = h' by omega]
  · exact .inr hf
end Go.Proofs.YtfapekhmdhkioaaDoor

/- package clock: Span, Days, of every two numbers; lists of numbers held against each other. -/
namespace Go.Proofs.YtfapekhmdhkioaaDoor
open Go.RowKit
set_option linter.unusedVariables false
set_option linter.unusedSimpArgs false

theorem Tryd.infoN : (Tryd.prog.info? 3).map (fun i => (i.zero, i.size, i.bytes)) = some (some (.int .i64 0), 1, 8) := by kernel_rfl

/-- What Span tells. -/
def spnR (a b : Int) : Int := if a < 0 ∨ 1048577 < b ∨ b < a then 2 else if 4096 < b - a then 3 else 0
theorem ckspn_any (a b : Int) (w : World) (ha : I64 a) (hb : I64 b) :
    Calls Tryd.prog 18 #[.int .i64 a, .int .i64 b] w fun e w' => e = .returned (.int .i64 (spnR a b)) ∧ w' = w := by
  obtain ⟨a0, a1⟩ := ha
  obtain ⟨b0, b1⟩ := hb
  by_cases h : a < 0 ∨ 1048577 < b ∨ b < a
  · have HR : Hid (spnR a b = 2) := by show _ = _; unfold spnR; rw [if_pos h]
    go_enter Tryd.func18, Tryd.ntmps18
    go_wp2_with fail
    all_goals first | (exfalso; omega) | (go_ret; exact ⟨ret_int HR.out.symm, rfl⟩)
  · have e1 : IntKind.i64.wrap (b - a) = b - a := by rw [IntKind.wrap_i64]; omega
    by_cases g : 4096 < b - a
    · have HR : Hid (spnR a b = 3) := by show _ = _; unfold spnR; rw [if_neg h, if_pos g]
      go_enter Tryd.func18, Tryd.ntmps18
      go_wp2_with fail
      all_goals first | (exfalso; omega) | (go_ret; exact ⟨ret_int HR.out.symm, rfl⟩)
    · have HR : Hid (spnR a b = 0) := by show _ = _; unfold spnR; rw [if_neg h, if_neg g]
      go_enter Tryd.func18, Tryd.ntmps18
      go_wp2_with fail
      all_goals first | (exfalso; omega) | (go_ret; exact ⟨ret_int HR.out.symm, rfl⟩)
theorem spnR_or (a b : Int) : (spnR a b = 0 ∧ 0 ≤ a ∧ b ≤ 1048577 ∧ a ≤ b ∧ b - a ≤ 4096) ∨ (spnR a b ≠ 0 ∧ ¬ (0 ≤ a ∧ b ≤ 1048577 ∧ a ≤ b ∧ b - a ≤ 4096)) := by
  unfold spnR
  by_cases h : a < 0 ∨ 1048577 < b ∨ b < a
  · rw [if_pos h]; right; exact ⟨by decide, by omega⟩
  · rw [if_neg h]
    by_cases g : 4096 < b - a
    · rw [if_pos g]; right; exact ⟨by decide, by omega⟩
    · rw [if_neg g]; left; exact ⟨rfl, by omega⟩

/-- Numbers one behind the other. -/
def upN (f n : Nat) : List Value := (List.range n).map (fun j => Value.int .i64 ((f + j : Nat) : Int))
theorem upN_succ (f n : Nat) : upN f (n + 1) = upN f n ++ [.int .i64 ((f + n : Nat) : Int)] := by
  unfold upN
  rw [List.range_succ, List.map_append]
  rfl
theorem upN_len (f n : Nat) : (upN f n).length = n := by unfold upN; simp
def dayF (a : Nat) : Nat := (a + 23) / 24
def dayE (b : Nat) : Nat := b / 24

theorem ckdays_err (a b : Int) (w : World) (ha : I64 a) (hb : I64 b) (h : spnR a b ≠ 0) :
    Calls Tryd.prog 7 #[.int .i64 a, .int .i64 b] w fun e w' => e = .returned (.slice none 0 0) ∧ w' = w := by
  have HC := hid (ckspn_any a b w ha hb)
  generalize spnR a b = E at *
  have h' : (E == 0) = false := by simp [h]
  clear ha hb
  go_enter Tryd.func7, Tryd.ntmps7
  go_wp2_with fail
  refine Calls.mono HC.out ?_
  rintro e w1 ⟨rfl, rfl⟩
  go_wp2_with fail
  go_ret
  exact ⟨rfl, rfl⟩

set_option maxHeartbeats 1600000 in
set_option maxRecDepth 100000 in
theorem ckdays_ok (a b : Nat) (w : World) (h : b ≤ 1048577) (hab : a ≤ b) (hs : spnR (a : Int) (b : Int) = 0) :
    Calls Tryd.prog 7 #[.int .i64 (a : Int), .int .i64 (b : Int)] w fun e w' => ∃ v, e = .returned v ∧ w'.ownsRow w.heap.size 3 1 v (dayE b - dayF a) (upN (dayF a) (dayE b - dayF a)) ∧ Below w.heap.size w w' := by
  obtain ⟨i0, hi, hz0, hz1, hz2⟩ := info_parts Tryd.infoN
  have HC := hid (ckspn_any (a : Int) (b : Int) w ⟨by omega, by omega⟩ ⟨by omega, by omega⟩)
  rw [hs] at HC
  have e1 : IntKind.i64.wrap ((a : Int) + 24) = (a : Int) + 24 := by rw [IntKind.wrap_i64]; omega
  have e2 : IntKind.i64.wrap ((a : Int) + 24 - 1) = (a : Int) + 23 := by rw [IntKind.wrap_i64]; omega
  have e3 : Int.tdiv ((a : Int) + 23) 24 = ((dayF a : Nat) : Int) := rfl
  have e4 : Int.tdiv (b : Int) 24 = ((dayE b : Nat) : Int) := rfl
  have l1 : dayF a ≤ 1048577 := by unfold dayF; omega
  have l2 : dayE b ≤ 1048577 := by unfold dayE; omega
  clear hs h hab
  generalize dayF a = F at *
  generalize dayE b = G at *
  have e5 : IntKind.i64.wrap (F : Int) = F := by rw [IntKind.wrap_i64]; omega
  have e6 : IntKind.i64.wrap (G : Int) = G := by rw [IntKind.wrap_i64]; omega
  go_enter Tryd.func7, Tryd.ntmps7
  go_wp2_with fail
  refine Calls.mono HC.out ?_
  rintro e w1 ⟨rfl, rfl⟩
  go_wp2_with fail
  clear e1 e2 e3 e4 HC
  go_loopw [7, 8] (fun v x wr => ∃ k : Nat, k ≤ G - F ∧ x = .int .i64 ((F + k : Nat) : Int) ∧ Hid (wr.ownsRow w1.heap.size 3 1 v k (upN F k)) ∧ Hid (Below w1.heap.size w1 wr)) (fun _ x _ => G - (intOf x).toNat)
  case atStart => exact ⟨0, Nat.zero_le _, rfl, World.ownsRow_nil _ _ _ _, Below.refl _ _⟩
  case round =>
    obtain ⟨k, hk, rfl, HO, HBW⟩ := hrel
    by_cases hlt : k < G - F
    · have HS := hid (upN_succ F k)
      have ho := HO.out
      have hb := HBW.out
      have hsz := hb.size
      obtain ⟨D, hD⟩ : ∃ D : Nat, F + k = D := ⟨_, rfl⟩
      have HD := hid hD
      have hDG : D < G := by omega
      rw [hD] at HS ⊢
      clear HO HBW hD
      generalize upN F k = R at *
      go_wp2_with (at_builtin; refine wpList_append_own _ rfl _ _ 22 rfl w1.heap.size 3 i0 (.int .i64 0) 1 8 Tryd.underlying22 hi hz0 hz1 hz2 rfl (by decide) _ _ _ rfl (ho.alloc _) ⟨wr.heap.size, 0, none⟩ 1 1 [.int .i64 (D : Int)] rfl rfl (cell_one_new _ _ _) (by simp [Value.oneCell']) (by unfold maxLen; omega) (by omega) (by simp; omega) ?_)
      intro v' w3 ho2 hg2 _
      have hb3 : Below w1.heap.size w1 w3 := (hb.alloc (by omega) _).grown hg2 (by simp; omega) (fun g hg => (ho.lt g hg).1)
      clear hg2
      go_wp2_with fail
      go_roundw
      case rel => exact ⟨k + 1, by omega, by rw [← Nat.add_assoc, HD.out]; go_num, by rw [HS.out]; exact ho2, hb3⟩
      case measure => simp [intOf]; omega
    · obtain rfl : k = G - F := by omega
      have hg : ¬ ((F + (G - F) : Nat) : Int) < (G : Int) := by omega
      have hg2 : decide (((F + (G - F) : Nat) : Int) < (G : Int)) = false := decide_eq_false hg
      generalize hq : ((F + (G - F) : Nat) : Int) = Q at *
      generalize hn : G - F = n at *
      clear hq hlt
      go_wp2_with fail
      all_goals first | (exfalso; omega) | (go_ret; exact ⟨_, rfl, HO.out, HBW.out⟩)

/-- A list is read as these numbers. -/
def RdI (w : World) (a : Option Addr) (n : Nat) (Z : Nat → Int) : Prop := n = 0 ∨ ∃ g, a = some ⟨g, 0, none⟩ ∧ ∀ j, j < n → w.cell? ⟨g, j, none⟩ = some (.int .i64 (Z j))
theorem RdI.later {w w' : World} {a : Option Addr} {n : Nat} {Z : Nat → Int} (h : RdI w a n Z) (hb : Below w.heap.size w w') : RdI w' a n Z := by
  rcases h with h | ⟨g, ha, hc⟩
  · exact .inl h
  · exact .inr ⟨g, ha, fun j hj => (hb.cell (p := ⟨g, j, none⟩) (block_lt_of_cell (hc j hj))).trans (hc j hj)⟩

set_option maxHeartbeats 1600000 in
set_option maxRecDepth 100000 in
theorem cksame_any (a b : Option Addr) (n ca cb : Nat) (Z : Nat → Int) (w : World) (hn : n ≤ 1048577) (ha : RdI w a n Z) (hb : RdI w b n Z) :
    Calls Tryd.prog 9 #[.slice a n ca, .slice b n cb] w fun e w' => e = .returned (.bool true) ∧ Below w.heap.size w w' := by
  have HA := hid ha
  have HB := hid hb
  clear ha hb
  go_enter Tryd.func9, Tryd.ntmps9
  go_wp2_with fail
  go_loopw [5] (fun x wr => ∃ k : Nat, k ≤ n ∧ x = .int .i64 (k : Int) ∧ Hid (Below w.heap.size w wr)) (fun x _ => n - (intOf x).toNat)
  case atStart => exact ⟨0, Nat.zero_le _, rfl, Below.refl _ _⟩
  case round =>
    obtain ⟨k, hk, rfl, HW⟩ := hrel
    by_cases hlt : k < n
    · rcases HA.out with h | ⟨g, rfl, hc⟩
      · omega
      rcases HB.out with h | ⟨g', rfl, hc'⟩
      · omega
      have c0 : wr.cell? ⟨g, k, none⟩ = some (.int .i64 (Z k)) := (HW.out.cell (p := ⟨g, k, none⟩) (block_lt_of_cell (hc k hlt))).trans (hc k hlt)
      have c1 : wr.cell? ⟨g', k, none⟩ = some (.int .i64 (Z k)) := (HW.out.cell (p := ⟨g', k, none⟩) (block_lt_of_cell (hc' k hlt))).trans (hc' k hlt)
      clear hc hc' HA HB
      go_wp2_with fail
      go_quiet (fail)
      go_wp2_with fail
      go_roundw
      case rel => exact ⟨k + 1, by omega, by go_num, Below.drewM HW.out⟩
      case measure => simp [intOf]; omega
    · obtain rfl : k = n := by omega
      go_wp2_with fail
      go_ret
      exact ⟨rfl, HW.out⟩
theorem RdI.own {w : World} {base n : Nat} {v : Value} {f : Nat} (h : w.ownsRow base 3 1 v n (upN f n)) : ∃ a cap, v = .slice a n cap ∧ RdI w a n (fun j => ((f + j : Nat) : Int)) := by
  rcases h.2 with ⟨rfl, rfl⟩ | ⟨g, cap, cur, rfl, hb, hg, hnc, hcm, hcs, ht⟩
  · exact ⟨none, 0, rfl, .inl rfl⟩
  · refine ⟨_, cap, rfl, .inr ⟨g, rfl, fun j hj => ?_⟩⟩
    have hc := h.cellAt j (by omega)
    rw [hc]
    unfold upN
    rw [List.getElem?_map, List.getElem?_range hj]
    rfl
end Go.Proofs.YtfapekhmdhkioaaDoor

/- The law ClockNames answers true, and writes nothing that was there. -/
namespace Go.Proofs.YtfapekhmdhkioaaDoor
open Go.RowKit
set_option linter.unusedVariables false

theorem cbox1 (w : World) (t : Nat) (u : Array Value) : FBox (w.alloc (.cells u t)) w.heap.size t u ∧ Below w.heap.size w (w.alloc (.cells u t)) :=
  ⟨FBox.made _ _ _, (Below.refl _ _).alloc (Nat.le_refl _) _⟩
theorem isd_last : IsD 43690 119 7 14 := ⟨by decide +kernel, by decide, by decide +kernel⟩

set_option maxHeartbeats 6400000 in
set_option maxRecDepth 100000 in
theorem clockNames_walk (w : World) (htab : TabC w) (herr : ErrT w) :
    Calls Tryd.prog 4 #[] w fun e w' => e = .returned (.bool true) ∧ Below w.heap.size w w' := by
  have HL : Hid (∀ V, Below w.heap.size w V → Calls Tryd.prog 11 #[] V fun e w' => e = .returned (.bool true) ∧ Below V.heap.size V w') := fun V hv => ckawake_any V (htab.later hv) (herr.later hv)
  have HA1 : Hid (∀ V, Calls Tryd.prog 12 #[.int .i64 0, .int .i64 24] V fun e w' => e = .returned (.tuple #[.int .i64 0, .int .i64 2]) ∧ w' = V) := fun V => by
    have e := ckat_any 0 24 V ⟨by decide, by decide⟩ ⟨by decide, by decide⟩
    rw [show atR 0 24 = (0, 2) by decide] at e
    exact e
  have HA2 : Hid (∀ V, Calls Tryd.prog 12 #[.int .i64 43690, .int .i64 16] V fun e w' => e = .returned (.tuple #[.int .i64 1048576, .int .i64 0]) ∧ w' = V) := fun V => by
    have e := ckat_any 43690 16 V ⟨by decide, by decide⟩ ⟨by decide, by decide⟩
    rw [show atR 43690 16 = (1048576, 0) by decide] at e
    exact e
  have HA3 : Hid (∀ V, Calls Tryd.prog 12 #[.int .i64 43690, .int .i64 17] V fun e w' => e = .returned (.tuple #[.int .i64 0, .int .i64 2]) ∧ w' = V) := fun V => by
    have e := ckat_any 43690 17 V ⟨by decide, by decide⟩ ⟨by decide, by decide⟩
    rw [show atR 43690 17 = (0, 2) by decide] at e
    exact e
  have HD1 : Hid (∀ V, Calls Tryd.prog 13 #[.int .i64 1439] V fun e w' => e = .returned (.tuple #[.agg #[.int .i64 2000, .int .i64 2, .int .i64 29, .int .i64 23], .int .i64 0]) ∧ Below V.heap.size V w') := fun V => by
    refine Calls.mono (ckdate_ok 1439 V (by decide)) ?_
    rintro e w' ⟨⟨k, j, r, hi, rfl⟩, hb⟩
    obtain ⟨rfl, rfl, rfl⟩ := hi.only isd59
    exact ⟨rfl, hb⟩
  have HD2 : Hid (∀ V, Calls Tryd.prog 13 #[.int .i64 1048576] V fun e w' => e = .returned (.tuple #[.agg #[.int .i64 2119, .int .i64 8, .int .i64 15, .int .i64 16], .int .i64 0]) ∧ Below V.heap.size V w') := fun V => by
    refine Calls.mono (ckdate_ok 1048576 V (by decide)) ?_
    rintro e w' ⟨⟨k, j, r, hi, rfl⟩, hb⟩
    obtain ⟨rfl, rfl, rfl⟩ := hi.only isd_last
    exact ⟨rfl, hb⟩
  have HI1 : Hid (∀ V, Calls Tryd.prog 14 #[.agg #[.int .i64 2000, .int .i64 2, .int .i64 29, .int .i64 23], .int .i64 2000, .int .i64 2, .int .i64 29, .int .i64 23] V fun e w' => e = .returned (.bool true) ∧ Below V.heap.size V w') := fun V => by
    have e := ckis_any 2000 2 29 23 2000 2 29 23 V
    rw [decide_eq_true ⟨rfl, rfl, rfl, rfl⟩] at e
    exact e
  have HI2 : Hid (∀ V, Calls Tryd.prog 14 #[.agg #[.int .i64 2119, .int .i64 8, .int .i64 15, .int .i64 16], .int .i64 2119, .int .i64 8, .int .i64 15, .int .i64 16] V fun e w' => e = .returned (.bool true) ∧ Below V.heap.size V w') := fun V => by
    have e := ckis_any 2119 8 15 16 2119 8 15 16 V
    rw [decide_eq_true ⟨rfl, rfl, rfl, rfl⟩] at e
    exact e
  have HF0 : Hid (∀ V, Calls Tryd.prog 15 #[.agg #[.int .i64 2000, .int .i64 2, .int .i64 30, .int .i64 0]] V fun e w' => e = .returned (.tuple #[.int .i64 0, .int .i64 2]) ∧ Below V.heap.size V w') := fun V => by
    have e := ckfrom_any (2000) (2) (30) (0) V ⟨by decide, by decide⟩ ⟨by decide, by decide⟩ ⟨by decide, by decide⟩ ⟨by decide, by decide⟩
    rw [show fromR (2000) (2) (30) (0) = (0, 2) by decide +kernel] at e
    exact e
  have HF1 : Hid (∀ V, Calls Tryd.prog 15 #[.agg #[.int .i64 2001, .int .i64 2, .int .i64 29, .int .i64 0]] V fun e w' => e = .returned (.tuple #[.int .i64 0, .int .i64 2]) ∧ Below V.heap.size V w') := fun V => by
    have e := ckfrom_any (2001) (2) (29) (0) V ⟨by decide, by decide⟩ ⟨by decide, by decide⟩ ⟨by decide, by decide⟩ ⟨by decide, by decide⟩
    rw [show fromR (2001) (2) (29) (0) = (0, 2) by decide +kernel] at e
    exact e
  have HF2 : Hid (∀ V, Calls Tryd.prog 15 #[.agg #[.int .i64 1999, .int .i64 12, .int .i64 31, .int .i64 23]] V fun e w' => e = .returned (.tuple #[.int .i64 0, .int .i64 2]) ∧ Below V.heap.size V w') := fun V => by
    have e := ckfrom_any (1999) (12) (31) (23) V ⟨by decide, by decide⟩ ⟨by decide, by decide⟩ ⟨by decide, by decide⟩ ⟨by decide, by decide⟩
    rw [show fromR (1999) (12) (31) (23) = (0, 2) by decide +kernel] at e
    exact e
  have HF3 : Hid (∀ V, Calls Tryd.prog 15 #[.agg #[.int .i64 2100, .int .i64 2, .int .i64 29, .int .i64 0]] V fun e w' => e = .returned (.tuple #[.int .i64 0, .int .i64 2]) ∧ Below V.heap.size V w') := fun V => by
    have e := ckfrom_any (2100) (2) (29) (0) V ⟨by decide, by decide⟩ ⟨by decide, by decide⟩ ⟨by decide, by decide⟩ ⟨by decide, by decide⟩
    rw [show fromR (2100) (2) (29) (0) = (0, 2) by decide +kernel] at e
    exact e
  have HF4 : Hid (∀ V, Calls Tryd.prog 15 #[.agg #[.int .i64 2000, .int .i64 13, .int .i64 1, .int .i64 0]] V fun e w' => e = .returned (.tuple #[.int .i64 0, .int .i64 2]) ∧ Below V.heap.size V w') := fun V => by
    have e := ckfrom_any (2000) (13) (1) (0) V ⟨by decide, by decide⟩ ⟨by decide, by decide⟩ ⟨by decide, by decide⟩ ⟨by decide, by decide⟩
    rw [show fromR (2000) (13) (1) (0) = (0, 2) by decide +kernel] at e
    exact e
  have HF5 : Hid (∀ V, Calls Tryd.prog 15 #[.agg #[.int .i64 2000, .int .i64 1, .int .i64 0, .int .i64 0]] V fun e w' => e = .returned (.tuple #[.int .i64 0, .int .i64 2]) ∧ Below V.heap.size V w') := fun V => by
    have e := ckfrom_any (2000) (1) (0) (0) V ⟨by decide, by decide⟩ ⟨by decide, by decide⟩ ⟨by decide, by decide⟩ ⟨by decide, by decide⟩
    rw [show fromR (2000) (1) (0) (0) = (0, 2) by decide +kernel] at e
    exact e
  have HF6 : Hid (∀ V, Calls Tryd.prog 15 #[.agg #[.int .i64 2119, .int .i64 8, .int .i64 15, .int .i64 17]] V fun e w' => e = .returned (.tuple #[.int .i64 0, .int .i64 2]) ∧ Below V.heap.size V w') := fun V => by
    have e := ckfrom_any (2119) (8) (15) (17) V ⟨by decide, by decide⟩ ⟨by decide, by decide⟩ ⟨by decide, by decide⟩ ⟨by decide, by decide⟩
    rw [show fromR (2119) (8) (15) (17) = (0, 2) by decide +kernel] at e
    exact e
  have HF7 : Hid (∀ V, Calls Tryd.prog 15 #[.agg #[.int .i64 2000, .int .i64 1, .int .i64 1, .int .i64 (-1)]] V fun e w' => e = .returned (.tuple #[.int .i64 0, .int .i64 2]) ∧ Below V.heap.size V w') := fun V => by
    have e := ckfrom_any (2000) (1) (1) (-1) V ⟨by decide, by decide⟩ ⟨by decide, by decide⟩ ⟨by decide, by decide⟩ ⟨by decide, by decide⟩
    rw [show fromR (2000) (1) (1) (-1) = (0, 2) by decide +kernel] at e
    exact e
  have HP0 : Hid (∀ V, Below w.heap.size w V → Calls Tryd.prog 16 #[.string { data := #[50, 48, 48, 48, 45, 48, 49, 45, 49, 32, 48] }] V fun e w' => e = .returned (.tuple #[.int .i64 0, .int .i64 190]) ∧ Below V.heap.size V w') := fun V hv => by
    have e := ckparse_any { data := #[50, 48, 48, 48, 45, 48, 49, 45, 49, 32, 48] } V (by decide) (htab.later hv) (herr.later hv)
    rw [show readC ({ data := #[50, 48, 48, 48, 45, 48, 49, 45, 49, 32, 48] } : ByteArray).data.toList = (0, 190) by decide +kernel] at e
    exact e
  have HP1 : Hid (∀ V, Below w.heap.size w V → Calls Tryd.prog 16 #[.string { data := #[50, 48, 48, 48, 45, 49, 45, 49] }] V fun e w' => e = .returned (.tuple #[.int .i64 0, .int .i64 190]) ∧ Below V.heap.size V w') := fun V hv => by
    have e := ckparse_any { data := #[50, 48, 48, 48, 45, 49, 45, 49] } V (by decide) (htab.later hv) (herr.later hv)
    rw [show readC ({ data := #[50, 48, 48, 48, 45, 49, 45, 49] } : ByteArray).data.toList = (0, 190) by decide +kernel] at e
    exact e
  have HP2 : Hid (∀ V, Below w.heap.size w V → Calls Tryd.prog 16 #[.string { data := #[50, 48, 48, 48, 45, 49, 45, 49, 32, 50, 52] }] V fun e w' => e = .returned (.tuple #[.int .i64 0, .int .i64 190]) ∧ Below V.heap.size V w') := fun V hv => by
    have e := ckparse_any { data := #[50, 48, 48, 48, 45, 49, 45, 49, 32, 50, 52] } V (by decide) (htab.later hv) (herr.later hv)
    rw [show readC ({ data := #[50, 48, 48, 48, 45, 49, 45, 49, 32, 50, 52] } : ByteArray).data.toList = (0, 190) by decide +kernel] at e
    exact e
  have HP3 : Hid (∀ V, Below w.heap.size w V → Calls Tryd.prog 16 #[.string { data := #[] }] V fun e w' => e = .returned (.tuple #[.int .i64 0, .int .i64 190]) ∧ Below V.heap.size V w') := fun V hv => by
    have e := ckparse_any { data := #[] } V (by decide) (htab.later hv) (herr.later hv)
    rw [show readC ({ data := #[] } : ByteArray).data.toList = (0, 190) by decide +kernel] at e
    exact e
  have HP4 : Hid (∀ V, Below w.heap.size w V → Calls Tryd.prog 16 #[.string { data := #[50, 48, 48, 48, 45, 49, 45, 49, 32, 48, 32] }] V fun e w' => e = .returned (.tuple #[.int .i64 0, .int .i64 190]) ∧ Below V.heap.size V w') := fun V hv => by
    have e := ckparse_any { data := #[50, 48, 48, 48, 45, 49, 45, 49, 32, 48, 32] } V (by decide) (htab.later hv) (herr.later hv)
    rw [show readC ({ data := #[50, 48, 48, 48, 45, 49, 45, 49, 32, 48, 32] } : ByteArray).data.toList = (0, 190) by decide +kernel] at e
    exact e
  have HP5 : Hid (∀ V, Below w.heap.size w V → Calls Tryd.prog 16 #[.string { data := #[48, 50, 48, 48, 48, 45, 49, 45, 49, 32, 48] }] V fun e w' => e = .returned (.tuple #[.int .i64 0, .int .i64 190]) ∧ Below V.heap.size V w') := fun V hv => by
    have e := ckparse_any { data := #[48, 50, 48, 48, 48, 45, 49, 45, 49, 32, 48] } V (by decide) (htab.later hv) (herr.later hv)
    rw [show readC ({ data := #[48, 50, 48, 48, 48, 45, 49, 45, 49, 32, 48] } : ByteArray).data.toList = (0, 190) by decide +kernel] at e
    exact e
  have HP6 : Hid (∀ V, Below w.heap.size w V → Calls Tryd.prog 16 #[.string { data := #[50, 48, 48, 48, 45, 49, 45, 49, 32, 32, 48] }] V fun e w' => e = .returned (.tuple #[.int .i64 0, .int .i64 190]) ∧ Below V.heap.size V w') := fun V hv => by
    have e := ckparse_any { data := #[50, 48, 48, 48, 45, 49, 45, 49, 32, 32, 48] } V (by decide) (htab.later hv) (herr.later hv)
    rw [show readC ({ data := #[50, 48, 48, 48, 45, 49, 45, 49, 32, 32, 48] } : ByteArray).data.toList = (0, 190) by decide +kernel] at e
    exact e
  have HP7 : Hid (∀ V, Below w.heap.size w V → Calls Tryd.prog 16 #[.string { data := #[50, 49, 49, 57, 45, 56, 45, 49, 53, 32, 49, 55] }] V fun e w' => e = .returned (.tuple #[.int .i64 0, .int .i64 190]) ∧ Below V.heap.size V w') := fun V hv => by
    have e := ckparse_any { data := #[50, 49, 49, 57, 45, 56, 45, 49, 53, 32, 49, 55] } V (by decide) (htab.later hv) (herr.later hv)
    rw [show readC ({ data := #[50, 49, 49, 57, 45, 56, 45, 49, 53, 32, 49, 55] } : ByteArray).data.toList = (0, 190) by decide +kernel] at e
    exact e
  have HP8 : Hid (∀ V, Below w.heap.size w V → Calls Tryd.prog 16 #[.string { data := #[45, 50, 48, 48, 48, 45, 49, 45, 49, 32, 48] }] V fun e w' => e = .returned (.tuple #[.int .i64 0, .int .i64 190]) ∧ Below V.heap.size V w') := fun V hv => by
    have e := ckparse_any { data := #[45, 50, 48, 48, 48, 45, 49, 45, 49, 32, 48] } V (by decide) (htab.later hv) (herr.later hv)
    rw [show readC ({ data := #[45, 50, 48, 48, 48, 45, 49, 45, 49, 32, 48] } : ByteArray).data.toList = (0, 190) by decide +kernel] at e
    exact e
  have HW : Hid (∀ V, Calls Tryd.prog 17 #[.int .i64 48] V fun e w' => e = .returned (.tuple #[.int .i64 0, .int .i64 0]) ∧ w' = V) := fun V => ckweek_ok 48 V (by decide)
  have HS0 : Hid (∀ V, Calls Tryd.prog 18 #[.int .i64 0, .int .i64 4096] V fun e w' => e = .returned (.int .i64 0) ∧ w' = V) := fun V => by
    have e := ckspn_any (0) (4096) V ⟨by decide, by decide⟩ ⟨by decide, by decide⟩
    rw [show spnR (0) (4096) = 0 by decide] at e
    exact e
  have HS1 : Hid (∀ V, Calls Tryd.prog 18 #[.int .i64 0, .int .i64 4097] V fun e w' => e = .returned (.int .i64 3) ∧ w' = V) := fun V => by
    have e := ckspn_any (0) (4097) V ⟨by decide, by decide⟩ ⟨by decide, by decide⟩
    rw [show spnR (0) (4097) = 3 by decide] at e
    exact e
  have HS2 : Hid (∀ V, Calls Tryd.prog 18 #[.int .i64 3, .int .i64 2] V fun e w' => e = .returned (.int .i64 2) ∧ w' = V) := fun V => by
    have e := ckspn_any (3) (2) V ⟨by decide, by decide⟩ ⟨by decide, by decide⟩
    rw [show spnR (3) (2) = 2 by decide] at e
    exact e
  have HS3 : Hid (∀ V, Calls Tryd.prog 18 #[.int .i64 1048577, .int .i64 1048577] V fun e w' => e = .returned (.int .i64 0) ∧ w' = V) := fun V => by
    have e := ckspn_any (1048577) (1048577) V ⟨by decide, by decide⟩ ⟨by decide, by decide⟩
    rw [show spnR (1048577) (1048577) = 0 by decide] at e
    exact e
  have HS4 : Hid (∀ V, Calls Tryd.prog 18 #[.int .i64 (-1), .int .i64 0] V fun e w' => e = .returned (.int .i64 2) ∧ w' = V) := fun V => by
    have e := ckspn_any (-1) (0) V ⟨by decide, by decide⟩ ⟨by decide, by decide⟩
    rw [show spnR (-1) (0) = 2 by decide] at e
    exact e
  have HY : Hid (∀ V, Calls Tryd.prog 7 #[.int .i64 1, .int .i64 49] V fun e w' => ∃ v, e = .returned v ∧ w'.ownsRow V.heap.size 3 1 v 1 (upN 1 1) ∧ Below V.heap.size V w') := fun V => ckdays_ok 1 49 V (by decide) (by decide) (by decide)
  clear htab herr
  have HB := hid (Below.refl w.heap.size w)
  go_enter Tryd.func4, Tryd.ntmps4
  go_wp2_with fail
  refine Calls.mono (HA1.out _) ?_
  rintro e w1 ⟨rfl, rfl⟩
  go_wp2_with fail
  refine Calls.mono (HA2.out _) ?_
  rintro e w2 ⟨rfl, rfl⟩
  go_wp2_with fail
  refine Calls.mono (HA3.out _) ?_
  rintro e w3 ⟨rfl, rfl⟩
  go_wp2_with fail
  refine Calls.mono (HD1.out _) ?_
  rintro e w4 ⟨rfl, hb⟩
  replace HB := hid (b2 HB.out hb)
  clear hb
  have HN := hid (cbox1 w4 36 #[.int .i64 2000, .int .i64 2, .int .i64 29, .int .i64 23])
  go_wp2_with fail
  generalize w4.alloc (.cells #[.int .i64 2000, .int .i64 2, .int .i64 29, .int .i64 23] 36) = w5 at *
  replace HB := hid (b2 HB.out HN.out.2)
  have HBd := hid HN.out.1
  clear HN
  refine Calls.mono (HD2.out _) ?_
  rintro e w6 ⟨rfl, hb⟩
  replace HBd := hid (HBd.out.later hb HBd.out.lt)
  replace HB := hid (b2 HB.out hb)
  clear hb
  have HN := hid (cbox1 w6 36 #[.int .i64 2119, .int .i64 8, .int .i64 15, .int .i64 16])
  obtain ⟨w7, hW⟩ : ∃ w7, w6.alloc (.cells #[.int .i64 2119, .int .i64 8, .int .i64 15, .int .i64 16] 36) = w7 := ⟨_, rfl⟩
  rw [hW] at HN
  replace HBd := hid (HBd.out.later HN.out.2 HBd.out.lt)
  replace HB := hid (b2 HB.out HN.out.2)
  have HBf := hid HN.out.1
  clear HN
  have md0 : w7.cell? ⟨w4.heap.size, 0, none⟩ = some (.int .i64 2000) := HBd.out.cell 0
  have md1 : w7.cell? ⟨w4.heap.size, 1, none⟩ = some (.int .i64 2) := HBd.out.cell 1
  have md2 : w7.cell? ⟨w4.heap.size, 2, none⟩ = some (.int .i64 29) := HBd.out.cell 2
  have md3 : w7.cell? ⟨w4.heap.size, 3, none⟩ = some (.int .i64 23) := HBd.out.cell 3
  go_wp2_with fail
  clear hW
  refine Calls.mono (HI1.out _) ?_
  rintro e w8 ⟨rfl, hb⟩
  replace HBd := hid (HBd.out.later hb HBd.out.lt)
  replace HBf := hid (HBf.out.later hb HBf.out.lt)
  replace HB := hid (b2 HB.out hb)
  clear hb
  clear md0 md1 md2 md3
  have mf0 : w8.cell? ⟨w6.heap.size, 0, none⟩ = some (.int .i64 2119) := HBf.out.cell 0
  have mf1 : w8.cell? ⟨w6.heap.size, 1, none⟩ = some (.int .i64 8) := HBf.out.cell 1
  have mf2 : w8.cell? ⟨w6.heap.size, 2, none⟩ = some (.int .i64 15) := HBf.out.cell 2
  have mf3 : w8.cell? ⟨w6.heap.size, 3, none⟩ = some (.int .i64 16) := HBf.out.cell 3
  go_wp2_with fail
  refine Calls.mono (HI2.out _) ?_
  rintro e w9 ⟨rfl, hb⟩
  replace HBd := hid (HBd.out.later hb HBd.out.lt)
  replace HBf := hid (HBf.out.later hb HBf.out.lt)
  replace HB := hid (b2 HB.out hb)
  clear hb
  clear mf0 mf1 mf2 mf3
  clear HBd HBf
  have HN := hid (cbox1 w9 36 #[.int .i64 2000, .int .i64 2, .int .i64 30, .int .i64 0, .int .i64 2001, .int .i64 2, .int .i64 29, .int .i64 0, .int .i64 1999, .int .i64 12, .int .i64 31, .int .i64 23, .int .i64 2100, .int .i64 2, .int .i64 29, .int .i64 0, .int .i64 2000, .int .i64 13, .int .i64 1, .int .i64 0, .int .i64 2000, .int .i64 1, .int .i64 0, .int .i64 0, .int .i64 2119, .int .i64 8, .int .i64 15, .int .i64 17, .int .i64 2000, .int .i64 1, .int .i64 1, .int .i64 (-1)])
  go_wp2_with fail
  generalize w9.alloc (.cells #[.int .i64 2000, .int .i64 2, .int .i64 30, .int .i64 0, .int .i64 2001, .int .i64 2, .int .i64 29, .int .i64 0, .int .i64 1999, .int .i64 12, .int .i64 31, .int .i64 23, .int .i64 2100, .int .i64 2, .int .i64 29, .int .i64 0, .int .i64 2000, .int .i64 13, .int .i64 1, .int .i64 0, .int .i64 2000, .int .i64 1, .int .i64 0, .int .i64 0, .int .i64 2119, .int .i64 8, .int .i64 15, .int .i64 17, .int .i64 2000, .int .i64 1, .int .i64 1, .int .i64 (-1)] 36) = wa at *
  replace HB := hid (b2 HB.out HN.out.2)
  have HBm := hid HN.out.1
  clear HN
  refine wp_loop_rounds 9 ?_
  rw [rounds_succ]
  have mm0 : wa.cell? ⟨w9.heap.size, 0, none⟩ = some (.int .i64 2000) := HBm.out.cell 0
  have mm1 : wa.cell? ⟨w9.heap.size, 1, none⟩ = some (.int .i64 2) := HBm.out.cell 1
  have mm2 : wa.cell? ⟨w9.heap.size, 2, none⟩ = some (.int .i64 30) := HBm.out.cell 2
  have mm3 : wa.cell? ⟨w9.heap.size, 3, none⟩ = some (.int .i64 0) := HBm.out.cell 3
  go_wp2_with fail
  refine Calls.mono (HF0.out _) ?_
  rintro e x0 ⟨rfl, hb⟩
  replace HBm := hid (HBm.out.later hb HBm.out.lt)
  replace HB := hid (b2 HB.out hb)
  clear hb
  clear mm0 mm1 mm2 mm3
  go_wp2_with fail
  rw [rounds_succ]
  have mm4 : x0.cell? ⟨w9.heap.size, 4, none⟩ = some (.int .i64 2001) := HBm.out.cell 4
  have mm5 : x0.cell? ⟨w9.heap.size, 5, none⟩ = some (.int .i64 2) := HBm.out.cell 5
  have mm6 : x0.cell? ⟨w9.heap.size, 6, none⟩ = some (.int .i64 29) := HBm.out.cell 6
  have mm7 : x0.cell? ⟨w9.heap.size, 7, none⟩ = some (.int .i64 0) := HBm.out.cell 7
  go_wp2_with fail
  refine Calls.mono (HF1.out _) ?_
  rintro e x1 ⟨rfl, hb⟩
  replace HBm := hid (HBm.out.later hb HBm.out.lt)
  replace HB := hid (b2 HB.out hb)
  clear hb
  clear mm4 mm5 mm6 mm7
  go_wp2_with fail
  rw [rounds_succ]
  have mm8 : x1.cell? ⟨w9.heap.size, 8, none⟩ = some (.int .i64 1999) := HBm.out.cell 8
  have mm9 : x1.cell? ⟨w9.heap.size, 9, none⟩ = some (.int .i64 12) := HBm.out.cell 9
  have mm10 : x1.cell? ⟨w9.heap.size, 10, none⟩ = some (.int .i64 31) := HBm.out.cell 10
  have mm11 : x1.cell? ⟨w9.heap.size, 11, none⟩ = some (.int .i64 23) := HBm.out.cell 11
  go_wp2_with fail
  refine Calls.mono (HF2.out _) ?_
  rintro e x2 ⟨rfl, hb⟩
  replace HBm := hid (HBm.out.later hb HBm.out.lt)
  replace HB := hid (b2 HB.out hb)
  clear hb
  clear mm8 mm9 mm10 mm11
  go_wp2_with fail
  rw [rounds_succ]
  have mm12 : x2.cell? ⟨w9.heap.size, 12, none⟩ = some (.int .i64 2100) := HBm.out.cell 12
  have mm13 : x2.cell? ⟨w9.heap.size, 13, none⟩ = some (.int .i64 2) := HBm.out.cell 13
  have mm14 : x2.cell? ⟨w9.heap.size, 14, none⟩ = some (.int .i64 29) := HBm.out.cell 14
  have mm15 : x2.cell? ⟨w9.heap.size, 15, none⟩ = some (.int .i64 0) := HBm.out.cell 15
  go_wp2_with fail
  refine Calls.mono (HF3.out _) ?_
  rintro e x3 ⟨rfl, hb⟩
  replace HBm := hid (HBm.out.later hb HBm.out.lt)
  replace HB := hid (b2 HB.out hb)
  clear hb
  clear mm12 mm13 mm14 mm15
  go_wp2_with fail
  rw [rounds_succ]
  have mm16 : x3.cell? ⟨w9.heap.size, 16, none⟩ = some (.int .i64 2000) := HBm.out.cell 16
  have mm17 : x3.cell? ⟨w9.heap.size, 17, none⟩ = some (.int .i64 13) := HBm.out.cell 17
  have mm18 : x3.cell? ⟨w9.heap.size, 18, none⟩ = some (.int .i64 1) := HBm.out.cell 18
  have mm19 : x3.cell? ⟨w9.heap.size, 19, none⟩ = some (.int .i64 0) := HBm.out.cell 19
  go_wp2_with fail
  refine Calls.mono (HF4.out _) ?_
  rintro e x4 ⟨rfl, hb⟩
  replace HBm := hid (HBm.out.later hb HBm.out.lt)
  replace HB := hid (b2 HB.out hb)
  clear hb
  clear mm16 mm17 mm18 mm19
  go_wp2_with fail
  rw [rounds_succ]
  have mm20 : x4.cell? ⟨w9.heap.size, 20, none⟩ = some (.int .i64 2000) := HBm.out.cell 20
  have mm21 : x4.cell? ⟨w9.heap.size, 21, none⟩ = some (.int .i64 1) := HBm.out.cell 21
  have mm22 : x4.cell? ⟨w9.heap.size, 22, none⟩ = some (.int .i64 0) := HBm.out.cell 22
  have mm23 : x4.cell? ⟨w9.heap.size, 23, none⟩ = some (.int .i64 0) := HBm.out.cell 23
  go_wp2_with fail
  refine Calls.mono (HF5.out _) ?_
  rintro e x5 ⟨rfl, hb⟩
  replace HBm := hid (HBm.out.later hb HBm.out.lt)
  replace HB := hid (b2 HB.out hb)
  clear hb
  clear mm20 mm21 mm22 mm23
  go_wp2_with fail
  rw [rounds_succ]
  have mm24 : x5.cell? ⟨w9.heap.size, 24, none⟩ = some (.int .i64 2119) := HBm.out.cell 24
  have mm25 : x5.cell? ⟨w9.heap.size, 25, none⟩ = some (.int .i64 8) := HBm.out.cell 25
  have mm26 : x5.cell? ⟨w9.heap.size, 26, none⟩ = some (.int .i64 15) := HBm.out.cell 26
  have mm27 : x5.cell? ⟨w9.heap.size, 27, none⟩ = some (.int .i64 17) := HBm.out.cell 27
  go_wp2_with fail
  refine Calls.mono (HF6.out _) ?_
  rintro e x6 ⟨rfl, hb⟩
  replace HBm := hid (HBm.out.later hb HBm.out.lt)
  replace HB := hid (b2 HB.out hb)
  clear hb
  clear mm24 mm25 mm26 mm27
  go_wp2_with fail
  rw [rounds_succ]
  have mm28 : x6.cell? ⟨w9.heap.size, 28, none⟩ = some (.int .i64 2000) := HBm.out.cell 28
  have mm29 : x6.cell? ⟨w9.heap.size, 29, none⟩ = some (.int .i64 1) := HBm.out.cell 29
  have mm30 : x6.cell? ⟨w9.heap.size, 30, none⟩ = some (.int .i64 1) := HBm.out.cell 30
  have mm31 : x6.cell? ⟨w9.heap.size, 31, none⟩ = some (.int .i64 (-1)) := HBm.out.cell 31
  go_wp2_with fail
  refine Calls.mono (HF7.out _) ?_
  rintro e x7 ⟨rfl, hb⟩
  replace HBm := hid (HBm.out.later hb HBm.out.lt)
  replace HB := hid (b2 HB.out hb)
  clear hb
  clear mm28 mm29 mm30 mm31
  go_wp2_with fail
  rw [rounds_succ]
  clear HBm
  have HN := hid (cbox1 x7 9 #[.string { data := #[50, 48, 48, 48, 45, 48, 49, 45, 49, 32, 48] }, .string { data := #[50, 48, 48, 48, 45, 49, 45, 49] }, .string { data := #[50, 48, 48, 48, 45, 49, 45, 49, 32, 50, 52] }, .string { data := #[] }, .string { data := #[50, 48, 48, 48, 45, 49, 45, 49, 32, 48, 32] }, .string { data := #[48, 50, 48, 48, 48, 45, 49, 45, 49, 32, 48] }, .string { data := #[50, 48, 48, 48, 45, 49, 45, 49, 32, 32, 48] }, .string { data := #[50, 49, 49, 57, 45, 56, 45, 49, 53, 32, 49, 55] }, .string { data := #[45, 50, 48, 48, 48, 45, 49, 45, 49, 32, 48] }])
  go_wp2_with fail
  generalize x7.alloc (.cells #[.string { data := #[50, 48, 48, 48, 45, 48, 49, 45, 49, 32, 48] }, .string { data := #[50, 48, 48, 48, 45, 49, 45, 49] }, .string { data := #[50, 48, 48, 48, 45, 49, 45, 49, 32, 50, 52] }, .string { data := #[] }, .string { data := #[50, 48, 48, 48, 45, 49, 45, 49, 32, 48, 32] }, .string { data := #[48, 50, 48, 48, 48, 45, 49, 45, 49, 32, 48] }, .string { data := #[50, 48, 48, 48, 45, 49, 45, 49, 32, 32, 48] }, .string { data := #[50, 49, 49, 57, 45, 56, 45, 49, 53, 32, 49, 55] }, .string { data := #[45, 50, 48, 48, 48, 45, 49, 45, 49, 32, 48] }] 9) = y at *
  replace HB := hid (b2 HB.out HN.out.2)
  have HBs := hid HN.out.1
  clear HN
  refine wp_loop_rounds 10 ?_
  rw [rounds_succ]
  have ms0 : y.cell? ⟨x7.heap.size, 0, none⟩ = some (.string { data := #[50, 48, 48, 48, 45, 48, 49, 45, 49, 32, 48] }) := HBs.out.cell 0
  go_wp2_with fail
  refine Calls.mono (HP0.out _ HB.out) ?_
  rintro e z0 ⟨rfl, hb⟩
  replace HBs := hid (HBs.out.later hb HBs.out.lt)
  replace HB := hid (b2 HB.out hb)
  clear hb
  clear ms0
  go_wp2_with fail
  rw [rounds_succ]
  have ms1 : z0.cell? ⟨x7.heap.size, 1, none⟩ = some (.string { data := #[50, 48, 48, 48, 45, 49, 45, 49] }) := HBs.out.cell 1
  go_wp2_with fail
  refine Calls.mono (HP1.out _ HB.out) ?_
  rintro e z1 ⟨rfl, hb⟩
  replace HBs := hid (HBs.out.later hb HBs.out.lt)
  replace HB := hid (b2 HB.out hb)
  clear hb
  clear ms1
  go_wp2_with fail
  rw [rounds_succ]
  have ms2 : z1.cell? ⟨x7.heap.size, 2, none⟩ = some (.string { data := #[50, 48, 48, 48, 45, 49, 45, 49, 32, 50, 52] }) := HBs.out.cell 2
  go_wp2_with fail
  refine Calls.mono (HP2.out _ HB.out) ?_
  rintro e z2 ⟨rfl, hb⟩
  replace HBs := hid (HBs.out.later hb HBs.out.lt)
  replace HB := hid (b2 HB.out hb)
  clear hb
  clear ms2
  go_wp2_with fail
  rw [rounds_succ]
  have ms3 : z2.cell? ⟨x7.heap.size, 3, none⟩ = some (.string { data := #[] }) := HBs.out.cell 3
  go_wp2_with fail
  refine Calls.mono (HP3.out _ HB.out) ?_
  rintro e z3 ⟨rfl, hb⟩
  replace HBs := hid (HBs.out.later hb HBs.out.lt)
  replace HB := hid (b2 HB.out hb)
  clear hb
  clear ms3
  go_wp2_with fail
  rw [rounds_succ]
  have ms4 : z3.cell? ⟨x7.heap.size, 4, none⟩ = some (.string { data := #[50, 48, 48, 48, 45, 49, 45, 49, 32, 48, 32] }) := HBs.out.cell 4
  go_wp2_with fail
  refine Calls.mono (HP4.out _ HB.out) ?_
  rintro e z4 ⟨rfl, hb⟩
  replace HBs := hid (HBs.out.later hb HBs.out.lt)
  replace HB := hid (b2 HB.out hb)
  clear hb
  clear ms4
  go_wp2_with fail
  rw [rounds_succ]
  have ms5 : z4.cell? ⟨x7.heap.size, 5, none⟩ = some (.string { data := #[48, 50, 48, 48, 48, 45, 49, 45, 49, 32, 48] }) := HBs.out.cell 5
  go_wp2_with fail
  refine Calls.mono (HP5.out _ HB.out) ?_
  rintro e z5 ⟨rfl, hb⟩
  replace HBs := hid (HBs.out.later hb HBs.out.lt)
  replace HB := hid (b2 HB.out hb)
  clear hb
  clear ms5
  go_wp2_with fail
  rw [rounds_succ]
  have ms6 : z5.cell? ⟨x7.heap.size, 6, none⟩ = some (.string { data := #[50, 48, 48, 48, 45, 49, 45, 49, 32, 32, 48] }) := HBs.out.cell 6
  go_wp2_with fail
  refine Calls.mono (HP6.out _ HB.out) ?_
  rintro e z6 ⟨rfl, hb⟩
  replace HBs := hid (HBs.out.later hb HBs.out.lt)
  replace HB := hid (b2 HB.out hb)
  clear hb
  clear ms6
  go_wp2_with fail
  rw [rounds_succ]
  have ms7 : z6.cell? ⟨x7.heap.size, 7, none⟩ = some (.string { data := #[50, 49, 49, 57, 45, 56, 45, 49, 53, 32, 49, 55] }) := HBs.out.cell 7
  go_wp2_with fail
  refine Calls.mono (HP7.out _ HB.out) ?_
  rintro e z7 ⟨rfl, hb⟩
  replace HBs := hid (HBs.out.later hb HBs.out.lt)
  replace HB := hid (b2 HB.out hb)
  clear hb
  clear ms7
  go_wp2_with fail
  rw [rounds_succ]
  have ms8 : z7.cell? ⟨x7.heap.size, 8, none⟩ = some (.string { data := #[45, 50, 48, 48, 48, 45, 49, 45, 49, 32, 48] }) := HBs.out.cell 8
  go_wp2_with fail
  refine Calls.mono (HP8.out _ HB.out) ?_
  rintro e z8 ⟨rfl, hb⟩
  replace HBs := hid (HBs.out.later hb HBs.out.lt)
  replace HB := hid (b2 HB.out hb)
  clear hb
  clear ms8
  go_wp2_with fail
  rw [rounds_succ]
  clear HBs
  go_wp2_with fail
  refine Calls.mono (HW.out _) ?_
  rintro e v1 ⟨rfl, rfl⟩
  go_wp2_with fail
  refine Calls.mono (HS0.out _) ?_
  rintro e u0 ⟨rfl, rfl⟩
  go_wp2_with fail
  refine Calls.mono (HS1.out _) ?_
  rintro e u1 ⟨rfl, rfl⟩
  go_wp2_with fail
  refine Calls.mono (HS2.out _) ?_
  rintro e u2 ⟨rfl, rfl⟩
  go_wp2_with fail
  refine Calls.mono (HS3.out _) ?_
  rintro e u3 ⟨rfl, rfl⟩
  go_wp2_with fail
  refine Calls.mono (HS4.out _) ?_
  rintro e u4 ⟨rfl, rfl⟩
  go_wp2_with fail
  refine Calls.mono (HL.out _ HB.out) ?_
  rintro e v2 ⟨rfl, hb⟩
  replace HB := hid (b2 HB.out hb)
  clear hb
  go_wp2_with fail
  refine Calls.mono (HY.out _) ?_
  rintro e v3 ⟨v, rfl, ho, hb⟩
  obtain ⟨a, cap, rfl, hr⟩ := RdI.own ho
  replace HB := hid (b2 HB.out hb)
  have HR := hid hr
  clear hb ho hr
  have HN := hid (cbox1 v3 3 #[.int .i64 1])
  go_wp2_with fail
  generalize v3.alloc (.cells #[.int .i64 1] 3) = v4 at *
  refine Calls.mono (cksame_any a (some ⟨v3.heap.size, 0, none⟩) 1 cap 1 _ v4 (by decide) (HR.out.later HN.out.2) (.inr ⟨_, rfl, fun j hj => ?_⟩)) ?_
  · obtain rfl : j = 0 := by omega
    exact HN.out.1.cell 0
  rintro e v5 ⟨rfl, hb⟩
  replace HB := hid (b2 HB.out (b2 HN.out.2 hb))
  clear hb
  go_wp2_with fail
  go_ret
  exact ⟨rfl, HB.out⟩
end Go.Proofs.YtfapekhmdhkioaaDoor

