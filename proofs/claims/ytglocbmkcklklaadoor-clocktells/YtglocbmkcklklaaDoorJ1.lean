/- My texts on the way to ClockTells, one behind the other: contracts of the program and of the document's answers. -/
import Derived.WalkKit
import Derived.WalkLawsBesides
import Derived.WalkSpells
import Derived.Laws.BitsAllLaws
import Derived.Laws.CopyOwn
import Derived.Laws.AppendOwnNone
import Derived.Test.YtglocbmkcklklaaDoorChecked
import Derived.Handy
import Derived.Deep.RegionHeld3
import Derived.RegionTactic
import Derived.ChangeAlike
import Derived.BigQuiet
import Derived.Test.YtglocbmkcklklaaDoorShelf
import Derived.Lib.AtoiErrMem
import Derived.Lib.IndexBytes
import Derived.Lib.CutLaws
import Derived.Lib.ItoaLen
import Derived.Shelf.RegionOpenPlain
import Derived.Laws.IdiomStrings
/- Lists of 32-bit words as plain data: their trimmed length, their value, when they are read out of memory. Nothing here speaks of the program. -/
namespace Go.Proofs.YtglocbmkcklklaaDoor
open Go.RowKit

theorem hid {p : Prop} (h : p) : Hid p := h

/-- Each number is a word of 32 bits. -/
def Wd (zs : List Int) : Prop := ∀ z ∈ zs, 0 ≤ z ∧ z ≤ 4294967295

theorem Wd.at {zs : List Int} (h : Wd zs) (j : Nat) : 0 ≤ zs[j]?.getD 0 ∧ zs[j]?.getD 0 ≤ 4294967295 := by
  by_cases hj : j < zs.length
  · rw [List.getElem?_eq_getElem hj]; exact h _ (List.getElem_mem hj)
  · rw [List.getElem?_eq_none (by omega)]; exact ⟨by decide, by decide⟩

theorem Wd.take {zs : List Int} (h : Wd zs) (k : Nat) : Wd (zs.take k) := fun z hz => h z (List.mem_of_mem_take hz)
theorem Wd.drop {zs : List Int} (h : Wd zs) (k : Nat) : Wd (zs.drop k) := fun z hz => h z (List.mem_of_mem_drop hz)
theorem Wd.append {zs ys : List Int} (h : Wd zs) (g : Wd ys) : Wd (zs ++ ys) := fun z hz => (List.mem_append.1 hz).elim (h z) (g z)
theorem Wd.nil : Wd [] := fun _ hz => by simp at hz
theorem Wd.cons {z : Int} {zs : List Int} (h0 : 0 ≤ z ∧ z ≤ 4294967295) (h : Wd zs) : Wd (z :: zs) := fun y hy => by
  rcases List.mem_cons.1 hy with rfl | hy
  · exact h0
  · exact h y hy
theorem Wd.one {z : Int} (h0 : 0 ≤ z ∧ z ≤ 4294967295) : Wd [z] := Wd.cons h0 Wd.nil
theorem Wd.replicate (n : Nat) : Wd (List.replicate n 0) := fun z hz => by
  have := (List.mem_replicate.1 hz).2; omega
theorem Wd.set {zs : List Int} (h : Wd zs) (j : Nat) {z : Int} (h0 : 0 ≤ z ∧ z ≤ 4294967295) : Wd (zs.set j z) := fun y hy => by
  rcases List.mem_or_eq_of_mem_set hy with hy | rfl
  · exact h y hy
  · exact h0
theorem Wd.tail {z : Int} {zs : List Int} (h : Wd (z :: zs)) : Wd zs := fun y hy => h y (List.mem_cons_of_mem _ hy)
theorem Wd.head {z : Int} {zs : List Int} (h : Wd (z :: zs)) : 0 ≤ z ∧ z ≤ 4294967295 := h z List.mem_cons_self

/-- How many of the first k words stay when noughts at their end are dropped. -/
def szTo (zs : List Int) : Nat → Nat
  | 0 => 0
  | k + 1 => if zs[k]?.getD 0 = 0 then szTo zs k else k + 1
def sz (zs : List Int) : Nat := szTo zs zs.length
def trimmed (zs : List Int) : List Int := zs.take (sz zs)

theorem szTo_le (zs : List Int) : ∀ k, szTo zs k ≤ k
  | 0 => Nat.le_refl _
  | k + 1 => by
    unfold szTo
    split
    · exact Nat.le_succ_of_le (szTo_le zs k)
    · exact Nat.le_refl _
theorem sz_le (zs : List Int) : sz zs ≤ zs.length := szTo_le zs _
theorem szTo_zero (zs : List Int) (k : Nat) (h : zs[k]?.getD 0 = 0) : szTo zs (k + 1) = szTo zs k := by simp [szTo, h]
theorem szTo_keep (zs : List Int) (k : Nat) (h : ¬ zs[k]?.getD 0 = 0) : szTo zs (k + 1) = k + 1 := by simp [szTo, h]
theorem length_trimmed (zs : List Int) : (trimmed zs).length = sz zs := by
  unfold trimmed; rw [List.length_take, Nat.min_eq_left (sz_le zs)]
theorem Wd.trimmed {zs : List Int} (h : Wd zs) : Wd (trimmed zs) := h.take _
/-- Behind the trimmed length stand noughts alone. -/
theorem szTo_behind (zs : List Int) : ∀ k j, szTo zs k ≤ j → j < k → zs[j]?.getD 0 = 0
  | 0, _, _, h => by omega
  | k + 1, j, h1, h2 => by
    by_cases h : zs[k]?.getD 0 = 0
    · rw [szTo_zero zs k h] at h1
      by_cases e : j = k
      · rw [e]; exact h
      · exact szTo_behind zs k j h1 (by omega)
    · rw [szTo_keep zs k h] at h1; omega
theorem sz_behind (zs : List Int) (j : Nat) (h1 : sz zs ≤ j) : zs[j]?.getD 0 = 0 := by
  by_cases h : j < zs.length
  · exact szTo_behind zs _ j h1 h
  · rw [List.getElem?_eq_none (by omega)]; rfl
/-- The last word that stays is not 0. -/
theorem szTo_top (zs : List Int) : ∀ k, 0 < szTo zs k → ¬ zs[szTo zs k - 1]?.getD 0 = 0
  | 0, h => by simp [szTo] at h
  | k + 1, h => by
    by_cases e : zs[k]?.getD 0 = 0
    · rw [szTo_zero zs k e] at h ⊢; exact szTo_top zs k h
    · rw [szTo_keep zs k e]; simpa using e
theorem sz_top (zs : List Int) (h : 0 < sz zs) : ¬ zs[sz zs - 1]?.getD 0 = 0 := szTo_top zs _ h

/-- The list is trimmed: just if it is empty or its last word is not 0. -/
theorem sz_eq_iff (zs : List Int) : sz zs = zs.length ↔ zs.length = 0 ∨ ¬ zs[zs.length - 1]?.getD 0 = 0 := by
  constructor
  · intro h
    by_cases h0 : zs.length = 0
    · exact .inl h0
    · right; have := sz_top zs (by omega); rwa [h] at this
  · rintro (h | h)
    · have := sz_le zs; omega
    · by_cases h0 : zs.length = 0
      · have := sz_le zs; omega
      · obtain ⟨m, hm⟩ : ∃ m, zs.length = m + 1 := ⟨zs.length - 1, by omega⟩
        unfold sz; rw [hm]; rw [hm] at h
        exact szTo_keep zs m (by simpa using h)

/-- The slice whose address is 'a', whose length is 'n' and whose capacity is 'cap' reads as 'zs' in the world 'w': below block number B. -/
def Reads (w : World) (B : Nat) (a : Option Addr) (n cap : Nat) (zs : List Int) : Prop :=
  zs.length = n ∧ Wd zs ∧ (n = 0 ∨ ∃ b o, a = some ⟨b, o, none⟩ ∧ b < B ∧ ∀ j, j < n → w.cell? ⟨b, o + j, none⟩ = some (.int .u32 (zs[j]?.getD 0))) ∧ n ≤ cap ∧ cap ≤ maxLen ∧ (a = none → cap = 0)

theorem Reads.later {w w' : World} {B B' : Nat} {a : Option Addr} {n cap : Nat} {zs : List Int} (h : Reads w B a n cap zs) (hb : Below B w w') (hB : B ≤ B') : Reads w' B' a n cap zs := by
  obtain ⟨h1, h2, h3, h4⟩ := h
  refine ⟨h1, h2, h3.imp id ?_, h4⟩
  rintro ⟨b, o, rfl, hlt, hc⟩
  exact ⟨b, o, rfl, by omega, fun j hj => (hb.cell (p := ⟨b, o + j, none⟩) hlt).trans (hc j hj)⟩

/-- Of a slice its first k elements. -/
theorem Reads.front {w : World} {B : Nat} {a : Option Addr} {n cap : Nat} {zs : List Int} (h : Reads w B a n cap zs) (k : Nat) (hk : k ≤ n) : Reads w B a k cap (zs.take k) := by
  obtain ⟨h1, h2, h3, h4, h5, h6⟩ := h
  refine ⟨by rw [List.length_take]; omega, h2.take k, ?_, by omega, h5, h6⟩
  rcases h3 with h3 | ⟨b, o, ha, hlt, hc⟩
  · left; omega
  · right
    refine ⟨b, o, ha, hlt, fun j hj => ?_⟩
    rw [hc j (by omega), List.getElem?_take, if_pos hj]

/-- What the call owns is read as its words. -/
theorem Reads.own {w : World} {base e : Nat} {v : Value} {zs : List Int} {n : Nat} (h : w.ownsRow base e 1 v n (zs.map (Value.int .u32))) (hw : Wd zs) :
    ∃ a cap, v = .slice a n cap ∧ Reads w w.heap.size a n cap zs := by
  have hl := h.1
  simp at hl
  rcases h.2 with ⟨rfl, rfl⟩ | ⟨g, cap, cur, rfl, hb, hg, hnc, hcm, hcs, ht⟩
  · exact ⟨none, 0, rfl, by omega, hw, .inl rfl, Nat.le_refl _, Nat.zero_le _, fun _ => rfl⟩
  · refine ⟨_, cap, rfl, by omega, hw, ?_, hnc, hcm, fun h => by simp at h⟩
    right
    refine ⟨g, 0, rfl, ?_, fun j hj => ?_⟩
    · have : w.heap[g]?.isSome := by rw [hg]; rfl
      simpa using this
    · have hc := h.cellAt j (by omega)
      rw [Nat.zero_add, hc, List.getElem?_map, List.getElem?_eq_getElem (by omega)]
      simp

/-- What is owned stays owned while only newer memory is made. -/
theorem owns_later {w w' : World} {base e : Nat} {v : Value} {n : Nat} {xs : List Value} (h : w.ownsRow base e 1 v n xs) (hb : Below w.heap.size w w') : w'.ownsRow base e 1 v n xs := by
  refine ⟨h.1, h.2.imp id ?_⟩
  rintro ⟨g, cap, cur, rfl, hbg, hg, h1, h2, h3, h4⟩
  refine ⟨g, cap, cur, rfl, hbg, ?_, h1, h2, h3, h4⟩
  rw [hb.block g (by
    have : w.heap[g]?.isSome := by rw [hg]; rfl
    simpa using this)]
  exact hg

/-- What is owned from one block number on is owned from every smaller one on. -/
theorem owns_base {w : World} {base base' e : Nat} {v : Value} {n : Nat} {xs : List Value} (h : w.ownsRow base e 1 v n xs) (hb : base' ≤ base) : w.ownsRow base' e 1 v n xs := by
  refine ⟨h.1, h.2.imp id ?_⟩
  rintro ⟨g, cap, cur, rfl, hbg, hr⟩
  exact ⟨g, cap, cur, rfl, by omega, hr⟩
/-- A slice literal, just laid, is read. -/
theorem Reads.lit (w : World) (e : Nat) (zs : List Int) (hw : Wd zs) (hm : zs.length ≤ maxLen) : Reads (w.alloc (.cells ((zs.map (Value.int .u32)).toArray) e)) (w.alloc (.cells ((zs.map (Value.int .u32)).toArray) e)).heap.size (some ⟨w.heap.size, 0, none⟩) zs.length zs.length zs := by
  have h := World.ownsRow_lit (base := w.heap.size) (e := e) (size := 1) w ((zs.map (Value.int .u32)).toArray) zs.length (Nat.le_refl _) hm (by simp)
  obtain ⟨a, cap, hv, hr⟩ := Reads.own (zs := zs) (by simpa using h) hw
  simp only [Value.slice.injEq] at hv
  obtain ⟨rfl, _, rfl⟩ := hv
  exact hr

/-- A word above a word. -/
theorem or_join (x y : Int) (hx0 : 0 ≤ x) (hx : x ≤ 4294967295) (hy0 : 0 ≤ y) (hy : y ≤ 4294967295) : bits BinOp.or IntKind.u64 (x * 4294967296) y = y + x * 4294967296 := by
  rw [u64_or _ _ (by omega) (by omega) (by omega) (by omega), nat_join 32 _ _ (by omega) (by omega)]
  omega

theorem ret_int {k : IntKind} {a b : Int} (h : a = b) : Ending.returned (.int k a) = .returned (.int k b) := by rw [h]
theorem ret_bool {a b : Bool} (h : a = b) : Ending.returned (.bool a) = .returned (.bool b) := by rw [h]
end Go.Proofs.YtglocbmkcklklaaDoor

/- The calendar: days of years and months, the date of a day, no program. -/
namespace Go.Proofs.YtglocbmkcklklaaDoor
set_option linter.unusedVariables false

def lp (y : Nat) : Bool := (y % 4 == 0 && y % 100 != 0) || y % 400 == 0
def yd (y : Nat) : Nat := if lp y then 366 else 365
def md (y m : Nat) : Nat := if m = 2 then (if lp y then 29 else 28) else if m = 4 ∨ m = 6 ∨ m = 9 ∨ m = 11 then 30 else if 1 ≤ m ∧ m ≤ 12 then 31 else 0
/-- The days of the first k years. -/
def yT : Nat → Nat
  | 0 => 0
  | k + 1 => yT k + yd (2000 + k)
/-- The days of a year's first j months. -/
def mT (y : Nat) : Nat → Nat
  | 0 => 0
  | j + 1 => mT y j + md y (j + 1)
/-- The day n is the day r (from 0 on) of the month j (from 0 on) of the year 2000 + k. -/
def IsD (n k j r : Nat) : Prop := yT k + mT (2000 + k) j + r = n ∧ j < 12 ∧ r < md (2000 + k) (j + 1)

theorem yd_or (y : Nat) : yd y = 365 ∨ yd y = 366 := by unfold yd; cases lp y <;> simp
theorem md_le (y m : Nat) : md y m ≤ 31 := by
  unfold md
  cases lp y <;> simp <;> repeat' split
  all_goals omega
theorem md_pos (y m : Nat) (h : 1 ≤ m) (h' : m ≤ 12) : 28 ≤ md y m := by
  unfold md
  cases lp y <;> simp <;> repeat' split
  all_goals omega
theorem md_none (y m : Nat) (h : ¬ (1 ≤ m ∧ m ≤ 12)) : md y m = 0 := by
  unfold md
  rw [if_neg (by omega), if_neg (by omega), if_neg h]
theorem mT12 (y : Nat) : mT y 12 = yd y := by
  unfold yd
  simp only [mT, md]
  cases lp y <;> simp
theorem mT_le (y : Nat) : ∀ j i, j ≤ i → mT y j ≤ mT y i
  | j, 0, h => by
    obtain rfl : j = 0 := by omega
    exact Nat.le_refl _
  | j, i + 1, h => by
    by_cases e : j = i + 1
    · rw [e]; exact Nat.le_refl _
    · have := mT_le y j i (by omega)
      show _ ≤ mT y i + _
      omega
theorem yT_le : ∀ j i, j ≤ i → yT j ≤ yT i
  | j, 0, h => by
    obtain rfl : j = 0 := by omega
    exact Nat.le_refl _
  | j, i + 1, h => by
    by_cases e : j = i + 1
    · rw [e]; exact Nat.le_refl _
    · have := yT_le j i (by omega)
      show _ ≤ yT i + _
      omega
theorem yT_365 : ∀ k, 365 * k ≤ yT k ∧ yT k ≤ 366 * k
  | 0 => by simp [yT]
  | k + 1 => by
    have := yT_365 k
    rcases yd_or (2000 + k) with h | h <;> simp only [yT, h] <;> omega
theorem yT119 : yT 119 = 43464 := by decide +kernel
theorem yT120 : yT 120 = 43829 := by decide +kernel
theorem IsD.in_year {n k j r : Nat} (h : IsD n k j r) : yT k ≤ n ∧ n < yT (k + 1) := by
  obtain ⟨h1, h2, h3⟩ := h
  have a : mT (2000 + k) (j + 1) = mT (2000 + k) j + md (2000 + k) (j + 1) := rfl
  have b := mT_le (2000 + k) (j + 1) 12 (by omega)
  have c := mT12 (2000 + k)
  have d : yT (k + 1) = yT k + yd (2000 + k) := rfl
  omega
theorem IsD.only {n k j r k' j' r' : Nat} (h : IsD n k j r) (g : IsD n k' j' r') : k = k' ∧ j = j' ∧ r = r' := by
  have a := h.in_year
  have b := g.in_year
  have e : k = k' := by
    rcases Nat.lt_trichotomy k k' with c | c | c
    · have := yT_le (k + 1) k' (by omega); omega
    · exact c
    · have := yT_le (k' + 1) k (by omega); omega
  subst e
  obtain ⟨h1, h2, h3⟩ := h
  obtain ⟨g1, g2, g3⟩ := g
  have a1 : mT (2000 + k) (j + 1) = mT (2000 + k) j + md (2000 + k) (j + 1) := rfl
  have a2 : mT (2000 + k) (j' + 1) = mT (2000 + k) j' + md (2000 + k) (j' + 1) := rfl
  have e : j = j' := by
    rcases Nat.lt_trichotomy j j' with c | c | c
    · have := mT_le (2000 + k) (j + 1) j' (by omega); omega
    · exact c
    · have := mT_le (2000 + k) (j' + 1) j (by omega); omega
  subst e
  exact ⟨rfl, rfl, by omega⟩
/-- A day that is a tick's lies in the years 2000 to 2119. -/
theorem IsD.small {n k j r : Nat} (h : IsD n k j r) (hn : n ≤ 43690) : k ≤ 119 := by
  have := h.in_year
  rcases Nat.lt_or_ge 119 k with c | c
  · have := yT_le 120 k (by omega)
    rw [yT120] at this; omega
  · exact c
/-- The next day is the next of the month, or the first of a later month or year. -/
theorem IsD.next {n k j r k' j' r' : Nat} (h : IsD n k j r) (g : IsD (n + 1) k' j' r') : (k' = k ∧ j' = j ∧ r' = r + 1) ∨ (k' = k ∧ j' = j + 1 ∧ r' = 0) ∨ (k' = k + 1 ∧ j' = 0 ∧ r' = 0) := by
  obtain ⟨h1, h2, h3⟩ := h
  by_cases c : r + 1 < md (2000 + k) (j + 1)
  · obtain ⟨rfl, rfl, rfl⟩ := g.only (⟨by omega, h2, c⟩ : IsD (n + 1) k j (r + 1))
    exact .inl ⟨rfl, rfl, rfl⟩
  · have a1 : mT (2000 + k) (j + 1) = mT (2000 + k) j + md (2000 + k) (j + 1) := rfl
    by_cases c2 : j + 1 < 12
    · obtain ⟨rfl, rfl, rfl⟩ := g.only (⟨by omega, c2, by have := md_pos (2000 + k) (j + 1 + 1) (by omega) (by omega); omega⟩ : IsD (n + 1) k (j + 1) 0)
      exact .inr (.inl ⟨rfl, rfl, rfl⟩)
    · have d : yT (k + 1) = yT k + yd (2000 + k) := rfl
      obtain rfl : j = 11 := by omega
      have e : mT (2000 + k) (11 + 1) = yd (2000 + k) := mT12 (2000 + k)
      obtain ⟨rfl, rfl, rfl⟩ := g.only (⟨by rw [show mT (2000 + (k + 1)) 0 = 0 from rfl]; omega, by omega, by have := md_pos (2000 + (k + 1)) (0 + 1) (by omega) (by omega); omega⟩ : IsD (n + 1) (k + 1) 0 0)
      exact .inr (.inr ⟨rfl, rfl, rfl⟩)
end Go.Proofs.YtglocbmkcklklaaDoor

/- Floats of 64 bits by their bits: which are finite, what a sum or difference of two gives, the sum of two with what was lost of it, as plain functions of the bits. Nothing here speaks of the program. -/
namespace Go.Proofs.YtglocbmkcklklaaDoor

/-- Neither an infinity nor NaN: by the bits. -/
def fin (x : Nat) : Bool := x / 4503599627370496 % 2048 != 2047

theorem fin_iff (x : Nat) : fin x = true ↔ x % 9223372036854775808 < 9218868437227405312 := by
  unfold fin
  simp only [bne_iff_ne, ne_eq]
  omega

theorem dbl_sign : Ieee.double.signWeight = 9223372036854775808 := by decide
theorem dbl_inf : Ieee.double.infRung = 9218868437227405312 := by decide
theorem dbl_binade : Ieee.double.binade = 4503599627370496 := by decide

theorem read_fin {x : Nat} (h : fin x = true) : ∃ s m e, Ieee.double.read x = .number s m e := by
  rw [fin_iff] at h
  unfold Ieee.Format.read
  simp only [dbl_sign, dbl_inf, dbl_binade]
  split
  · exact ⟨_, _, _, rfl⟩
  · first | exact ⟨_, _, _, rfl⟩ | (rw [if_pos h]; exact ⟨_, _, _, rfl⟩)

theorem read_not {x : Nat} (h : fin x = false) : (∃ s, Ieee.double.read x = .infinity s) ∨ ∃ s f, Ieee.double.read x = .nan s f := by
  have h' : ¬ x % 9223372036854775808 < 9218868437227405312 := fun g => by rw [(fin_iff x).2 g] at h; exact Bool.noConfusion h
  unfold Ieee.Format.read
  simp only [dbl_sign, dbl_inf, dbl_binade]
  rw [if_neg (by omega), if_neg h']
  split
  · exact Or.inl ⟨_, rfl⟩
  · exact Or.inr ⟨_, _, rfl⟩

theorem write_inf (s : Bool) : fin (Ieee.double.write (.infinity s)) = false := by
  cases s <;> decide

theorem nan_cut (x y t : Nat) : fin (Question.cut (.nanBits .f64 x y) t) = false ∧ Question.cut (.nanBits .f64 x y) t < 18446744073709551616 := by
  simp only [Question.cut]
  have hu : (t / 2) % (2 ^ 52 - 1) < 4503599627370495 := Nat.mod_lt _ (by decide)
  have hv : t % 2 = 0 ∨ t % 2 = 1 := by omega
  generalize (t / 2) % (2 ^ 52 - 1) = u at hu ⊢
  generalize t % 2 = v at hv ⊢
  constructor
  · cases hh : fin (v * 2 ^ 63 + 0x7ff0000000000000 + 1 + u)
    · rfl
    · rw [fin_iff] at hh; rcases hv with rfl | rfl <;> omega
  · rcases hv with rfl | rfl <;> omega

/-- What the machine hands back: the bits of the answer, or, where there is none, some NaN. -/
def FR (op : BinOp) (x y r : Nat) : Prop := r < 18446744073709551616 ∧ (floatBits op .f64 x y = some r ∨ (floatBits op .f64 x y = none ∧ fin r = false))

theorem FR.det {op : BinOp} {x y r s : Nat} (h : FR op x y r) (g : floatBits op .f64 x y = some s) : r = s := by
  rcases h.2 with h | ⟨h, _⟩
  · rw [h] at g; exact Option.some.inj g
  · rw [h] at g; cases g

theorem FR.some {op : BinOp} {x y r : Nat} (h : floatBits op .f64 x y = .some r) : FR op x y r := by
  have := floatBits_wf h
  simp [Lit.wf] at this
  exact ⟨this, Or.inl h⟩
theorem FR.none {op : BinOp} {x y : Nat} (t : Nat) (h : floatBits op .f64 x y = .none) : FR op x y (Question.cut (.nanBits .f64 x y) t) :=
  ⟨(nan_cut x y t).2, Or.inr ⟨h, (nan_cut x y t).1⟩⟩

theorem sum_back {d c : Ieee.Datum} {r : Nat} (h : (d.sum c).map Ieee.double.write = .some r) (hf : fin r = true) : (∃ s m e, d = .number s m e) ∧ ∃ s m e, c = .number s m e := by
  cases d with
  | nan s f => simp [Ieee.Datum.sum] at h
  | infinity s =>
    cases c with
    | nan t f => simp [Ieee.Datum.sum] at h
    | infinity t =>
      simp only [Ieee.Datum.sum] at h
      split at h
      · cases h; rw [write_inf] at hf; cases hf
      · cases h
    | number t m e => simp only [Ieee.Datum.sum] at h; cases h; rw [write_inf] at hf; cases hf
  | number s m e =>
    cases c with
    | nan t f => simp [Ieee.Datum.sum] at h
    | infinity t => simp only [Ieee.Datum.sum] at h; cases h; rw [write_inf] at hf; cases hf
    | number t n j => exact ⟨⟨_, _, _, rfl⟩, ⟨_, _, _, rfl⟩⟩

theorem fin_of_read {x : Nat} {s : Bool} {m : Nat} {e : Int} (h : Ieee.double.read x = .number s m e) : fin x = true := by
  cases hx : fin x
  · rcases read_not hx with ⟨_, g⟩ | ⟨_, _, g⟩ <;> rw [g] at h <;> cases h
  · rfl

theorem add_back {x y r : Nat} (h : floatBits .add .f64 x y = .some r) (hf : fin r = true) : fin x = true ∧ fin y = true := by
  obtain ⟨⟨_, _, _, h1⟩, ⟨_, _, _, h2⟩⟩ := sum_back h hf
  exact ⟨fin_of_read h1, fin_of_read h2⟩
theorem sub_back {x y r : Nat} (h : floatBits .sub .f64 x y = .some r) (hf : fin r = true) : fin x = true ∧ fin y = true := by
  obtain ⟨⟨_, _, _, h1⟩, ⟨s, m, e, h2⟩⟩ := sum_back h hf
  refine ⟨fin_of_read h1, ?_⟩
  cases hy : fin y
  · rcases read_not hy with ⟨_, g⟩ | ⟨_, _, g⟩ <;> (have g' : FloatKind.f64.format.read y = _ := g; rw [g'] at h2; cases h2)
  · rfl

theorem FR.addBack {x y r : Nat} (h : FR .add x y r) (hf : fin r = true) : floatBits .add .f64 x y = .some r ∧ fin x = true ∧ fin y = true := by
  rcases h.2 with h | ⟨_, g⟩
  · exact ⟨h, add_back h hf⟩
  · rw [g] at hf; cases hf
theorem FR.subBack {x y r : Nat} (h : FR .sub x y r) (hf : fin r = true) : floatBits .sub .f64 x y = .some r ∧ fin x = true ∧ fin y = true := by
  rcases h.2 with h | ⟨_, g⟩
  · exact ⟨h, sub_back h hf⟩
  · rw [g] at hf; cases hf

theorem add_some {x y : Nat} (hx : fin x = true) (hy : fin y = true) : ∃ r, floatBits .add .f64 x y = .some r := by
  obtain ⟨s, m, e, h1⟩ := read_fin hx
  obtain ⟨t, n, j, h2⟩ := read_fin hy
  exact ⟨_, show (((Ieee.double.read x).sum (Ieee.double.read y)).map Ieee.double.write) = _ by rw [h1, h2]; rfl⟩

theorem order_self {x : Nat} (h : fin x = true) : FloatKind.f64.format.order x x = .some .eq := by
  obtain ⟨s, m, e, h1⟩ := read_fin h
  show (Ieee.double.read x).order (Ieee.double.read x) = _
  rw [h1]
  simp [Ieee.Datum.order]

theorem run_add (P : Program) (w : World) (t : TypeId) (x y : Nat) (h : floatBits .add .f64 x y = .none) :
    (binOp .add t (.float .f64 x) (.float .f64 y)).run P w = .ok (.float .f64 (Question.cut (.nanBits .f64 x y) (w.tape w.drawn (.nanBits .f64 x y)))) w.drew := by
  have h' : FloatKind.f64.format.add x y = .none := h
  simp [binOp, Op.floatArith, h', Question.forced]
theorem run_sub (P : Program) (w : World) (t : TypeId) (x y : Nat) (h : floatBits .sub .f64 x y = .none) :
    (binOp .sub t (.float .f64 x) (.float .f64 y)).run P w = .ok (.float .f64 (Question.cut (.nanBits .f64 x y) (w.tape w.drawn (.nanBits .f64 x y)))) w.drew := by
  have h' : FloatKind.f64.format.sub x y = .none := h
  simp [binOp, Op.floatArith, h', Question.forced]

/-- The sum of two finite floats and what was lost of it; nothing, where one of both is not finite. -/
def chain (a b : Nat) : Option (Nat × Nat) :=
  match floatBits .add .f64 a b with
  | .none => .none
  | .some s => if fin s then
      match floatBits .sub .f64 s a with
      | .none => .none
      | .some t =>
        match floatBits .sub .f64 s t with
        | .none => .none
        | .some d =>
          match floatBits .sub .f64 a d, floatBits .sub .f64 b t with
          | .some p, .some q =>
            match floatBits .add .f64 p q with
            | .none => .none
            | .some e => if fin e then .some (s, e) else .none
          | _, _ => .none
    else .none

/-- The steps as the machine goes them. -/
def Two (a b s e : Nat) : Prop := ∃ t d p q, FR .add a b s ∧ FR .sub s a t ∧ FR .sub s t d ∧ FR .sub a d p ∧ FR .sub b t q ∧ FR .add p q e

theorem Two.good {a b s e : Nat} (h : Two a b s e) (hs : fin s = true) (he : fin e = true) : chain a b = .some (s, e) := by
  obtain ⟨t, d, p, q, h1, h2, h3, h4, h5, h6⟩ := h
  obtain ⟨g6, fp, fq⟩ := h6.addBack he
  obtain ⟨g5, _, ft⟩ := h5.subBack fq
  obtain ⟨g4, _, fd⟩ := h4.subBack fp
  obtain ⟨g3, _, _⟩ := h3.subBack fd
  obtain ⟨g2, _, _⟩ := h2.subBack ft
  obtain ⟨g1, _, _⟩ := h1.addBack hs
  simp only [chain, g1, g2, g3, g4, g5, g6, hs, he, if_true]

theorem chain_back {a b : Nat} {u : Nat × Nat} (h : chain a b = .some u) : fin u.1 = true ∧ fin u.2 = true ∧ ∀ s e, Two a b s e → s = u.1 ∧ e = u.2 := by
  unfold chain at h
  split at h
  · cases h
  rename_i s g1
  split at h
  · rename_i hs
    split at h
    · cases h
    rename_i t g2
    split at h
    · cases h
    rename_i d g3
    split at h
    · rename_i p q g4 g5
      split at h
      · cases h
      rename_i e g6
      split at h
      · rename_i he
        cases h
        refine ⟨hs, he, fun s' e' hh => ?_⟩
        obtain ⟨t', d', p', q', h1, h2, h3, h4, h5, h6⟩ := hh
        have e1 := h1.det g1
        subst e1
        have e2 := h2.det g2
        subst e2
        have e3 := h3.det g3
        subst e3
        have e4 := h4.det g4
        subst e4
        have e5 := h5.det g5
        subst e5
        exact ⟨rfl, h6.det g6⟩
      · cases h
    · cases h
  · cases h

theorem Two.bad {a b s e : Nat} (h : Two a b s e) (hb : fin s = false ∨ fin e = false) : chain a b = .none := by
  cases hc : chain a b with
  | none => rfl
  | some u =>
    obtain ⟨h1, h2, h3⟩ := chain_back hc
    obtain ⟨e1, e2⟩ := h3 _ _ h
    rcases hb with hb | hb
    · rw [e1, h1] at hb; cases hb
    · rw [e2, h2] at hb; cases hb

/-- The first step alone. -/
theorem chain_over {a b s : Nat} (h : FR .add a b s) (hs : fin s = false) : chain a b = .none := by
  cases hc : floatBits .add .f64 a b with
  | none => simp only [chain, hc]
  | some r =>
    have := h.det hc
    subst this
    simp only [chain, hc, hs]
    rfl

/-- TwoSum: the sum, what was lost, the error. -/
def tsum (a b : Nat) : Nat × Nat × Int :=
  if fin a && fin b then
    match chain a b with
    | .some (s, e) => (s, e, 0)
    | .none => (0, 0, 9)
  else (0, 0, 8)

theorem tsum_fin (a b : Nat) : fin (tsum a b).1 = true ∧ fin (tsum a b).2.1 = true := by
  unfold tsum
  split
  · cases hc : chain a b with
    | none => exact ⟨by decide, by decide⟩
    | some u => exact ⟨(chain_back hc).1, (chain_back hc).2.1⟩
  · exact ⟨by decide, by decide⟩

theorem tsum_ok {a b s e : Nat} (ha : fin a = true) (hb : fin b = true) (h : chain a b = .some (s, e)) : tsum a b = (s, e, 0) := by
  simp only [tsum, ha, hb, h, Bool.and_true, if_true]
theorem tsum_over {a b : Nat} (ha : fin a = true) (hb : fin b = true) (h : chain a b = .none) : tsum a b = (0, 0, 9) := by
  simp only [tsum, ha, hb, h, Bool.and_true, if_true]
theorem tsum_bad {a b : Nat} (h : (fin a && fin b) = false) : tsum a b = (0, 0, 8) := by
  simp only [tsum, h]
  rfl

/-- Sum from a sum, what was lost, and a place on: the two and the fault. -/
def fsumGo : Nat → Nat → Nat → List Nat → Nat × Nat × Int × Int
  | s, c, _, [] => (s, c, 0, 0)
  | s, c, i, x :: l =>
    match chain s x with
    | .none => (0, 0, 9, (i : Int))
    | .some (t, e) =>
      match floatBits .add .f64 c e with
      | .none => (0, 0, 9, (i : Int))
      | .some d => if fin d then fsumGo t d (i + 1) l else (0, 0, 9, (i : Int))

/-- Sum: from a place on with all ahead of it finite. -/
def fsumFrom (l0 : List Nat) : Nat → List Nat → Nat × Nat × Int × Int
  | _, [] => fsumGo 0 0 0 l0
  | i, x :: l => if fin x then fsumFrom l0 (i + 1) l else (0, 0, 8, (i : Int))
def fsum (l : List Nat) : Nat × Nat × Int × Int := fsumFrom l 0 l

theorem drop_step {l : List Nat} {k : Nat} (h : k < l.length) : l.drop k = (l[k]?.getD 0) :: l.drop (k + 1) := by
  rw [List.drop_eq_getElem_cons h, List.getElem?_eq_getElem h]
  rfl

theorem fsumFrom_fin {l0 l : List Nat} {k : Nat} (h : k < l.length) (hf : fin (l[k]?.getD 0) = true) : fsumFrom l0 k (l.drop k) = fsumFrom l0 (k + 1) (l.drop (k + 1)) := by
  rw [drop_step h]
  simp only [fsumFrom, hf, if_true]
theorem fsumFrom_bad {l0 l : List Nat} {k : Nat} (h : k < l.length) (hf : fin (l[k]?.getD 0) = false) : fsumFrom l0 k (l.drop k) = (0, 0, 8, (k : Int)) := by
  rw [drop_step h]
  simp only [fsumFrom, hf]
  rfl
theorem fsumFrom_end {l0 l : List Nat} {k : Nat} (h : l.length ≤ k) : fsumFrom l0 k (l.drop k) = fsumGo 0 0 0 l0 := by
  rw [List.drop_of_length_le h]
  rfl
theorem fsumGo_end {l : List Nat} {s c k : Nat} (h : l.length ≤ k) : fsumGo s c k (l.drop k) = (s, c, 0, 0) := by
  rw [List.drop_of_length_le h]
  rfl
theorem fsumGo_none {l : List Nat} {s c k : Nat} (h : k < l.length) (g : chain s (l[k]?.getD 0) = .none) : fsumGo s c k (l.drop k) = (0, 0, 9, (k : Int)) := by
  rw [drop_step h]
  simp only [fsumGo, g]
theorem fsumGo_over {l : List Nat} {s c k t e d : Nat} (h : k < l.length) (g : chain s (l[k]?.getD 0) = .some (t, e)) (g2 : floatBits .add .f64 c e = .some d) (g3 : fin d = false) : fsumGo s c k (l.drop k) = (0, 0, 9, (k : Int)) := by
  rw [drop_step h]
  simp only [fsumGo, g, g2, g3]
  rfl
theorem fsumGo_step {l : List Nat} {s c k t e d : Nat} (h : k < l.length) (g : chain s (l[k]?.getD 0) = .some (t, e)) (g2 : floatBits .add .f64 c e = .some d) (g3 : fin d = true) : fsumGo s c k (l.drop k) = fsumGo t d (k + 1) (l.drop (k + 1)) := by
  rw [drop_step h]
  simp only [fsumGo, g, g2, g3, if_true]

/-- All of them: finite. -/
def Fins (l : List Nat) : Prop := ∀ j : Nat, fin (l[j]?.getD 0) = true

theorem fin0 : fin 0 = true := by decide

/-- A round of the program's loop. -/
theorem round_good {l : List Nat} {s c k s' e' c' : Nat} (h : k < l.length) (h2 : Two s (l[k]?.getD 0) s' e') (h3 : FR .add c e' c') (f1 : fin s' = true) (f2 : fin c' = true) :
    fsumGo s c k (l.drop k) = fsumGo s' c' (k + 1) (l.drop (k + 1)) := by
  obtain ⟨g, _, fe⟩ := h3.addBack f2
  exact fsumGo_step h (h2.good f1 fe) g f2
theorem round_bad {l : List Nat} {s c k s' e' c' : Nat} (h : k < l.length) (fc : fin c = true) (h2 : Two s (l[k]?.getD 0) s' e') (h3 : FR .add c e' c') (f : fin s' = false ∨ fin c' = false) :
    fsumGo s c k (l.drop k) = (0, 0, 9, (k : Int)) := by
  cases f1 : fin s'
  · exact fsumGo_none h (h2.bad (.inl f1))
  · cases fe : fin e'
    · exact fsumGo_none h (h2.bad (.inr fe))
    · have f2 : fin c' = false := by
        rcases f with f | f
        · rw [f1] at f; cases f
        · exact f
      obtain ⟨r, hr⟩ := add_some fc fe
      have := h3.det hr
      subst this
      exact fsumGo_over h (h2.good f1 fe) hr f2

theorem fsumGo_fin (l : List Nat) : ∀ s c i, fin s = true → fin c = true → fin (fsumGo s c i l).1 = true ∧ fin (fsumGo s c i l).2.1 = true := by
  induction l with
  | nil => intro s c i hs hc; exact ⟨hs, hc⟩
  | cons x l ih =>
    intro s c i hs hc
    simp only [fsumGo]
    split
    · exact ⟨fin0, fin0⟩
    · rename_i t e g
      split
      · exact ⟨fin0, fin0⟩
      · rename_i d g2
        split
        · rename_i hd
          exact ih t d (i + 1) (chain_back g).1 hd
        · exact ⟨fin0, fin0⟩
theorem fsumFrom_good (l0 : List Nat) (l : List Nat) : ∀ i, fin (fsumFrom l0 i l).1 = true ∧ fin (fsumFrom l0 i l).2.1 = true := by
  induction l with
  | nil => intro i; exact fsumGo_fin l0 0 0 0 (by decide) (by decide)
  | cons x l ih =>
    intro i
    simp only [fsumFrom]
    split
    · exact ih (i + 1)
    · exact ⟨fin0, fin0⟩

end Go.Proofs.YtglocbmkcklklaaDoor

/- real.finite, real.twoSum, real.TwoSum and the document's Finite, TwoSum, of any floats, by their bits. -/
namespace Go.Proofs.YtglocbmkcklklaaDoor
open Go.RowKit
set_option linter.unusedVariables false

theorem fin_int (x : Nat) (hx : x < 18446744073709551616) : (bits .and .u64 ((x : Int) / 4503599627370496) 2047 != 2047) = fin x := by
  have e : bits .and .u64 ((x : Int) / 4503599627370496) 2047 = ((x / 4503599627370496 % 2048 : Nat) : Int) := by
    have e0 : (x : Int) / 4503599627370496 = ((x / 4503599627370496 : Nat) : Int) := by omega
    rw [e0]
    have e1 := u64_and_nat (x / 4503599627370496) 2047 (by omega) (by omega)
    have e2 : x / 4503599627370496 &&& 2047 = x / 4503599627370496 % 2048 := Nat.and_two_pow_sub_one_eq_mod _ 11
    rw [e2] at e1
    exact e1
  rw [e]
  unfold fin
  by_cases h : x / 4503599627370496 % 2048 = 2047
  · rw [h]; rfl
  · rw [bne_iff_ne.2 h, bne_iff_ne.2 (by omega)]

/-- What the machine hands back, and the world behind it. -/
def fval (op : BinOp) (V : World) (x y : Nat) : Nat := match floatBits op .f64 x y with
  | .some r => r
  | .none => Question.cut (.nanBits .f64 x y) (V.tape V.drawn (.nanBits .f64 x y))
def fwld (op : BinOp) (V : World) (x y : Nat) : World := match floatBits op .f64 x y with
  | .some _ => V
  | .none => V.drew
theorem fval_fr (op : BinOp) (V : World) (x y : Nat) : FR op x y (fval op V x y) := by
  cases h : floatBits op .f64 x y with
  | some r => simp only [fval, h]; exact FR.some h
  | none => simp only [fval, h]; exact FR.none _ h
theorem fwld_below (op : BinOp) {B : Nat} {U V : World} (x y : Nat) (h : Below B U V) : Below B U (fwld op V x y) := by
  cases e : floatBits op .f64 x y with
  | some r => simp only [fwld, e]; exact h
  | none => simp only [fwld, e]; exact h.drew
theorem fadd_run (P : Program) (t : TypeId) (V : World) (x y : Nat) : (binOp .add t (.float .f64 x) (.float .f64 y)).run P V = .ok (.float .f64 (fval .add V x y)) (fwld .add V x y) := by
  cases h : floatBits .add .f64 x y with
  | some r => simp only [fval, fwld, h]; exact run_float_arith V _ _ _ _ _ _ h
  | none => simp only [fval, fwld, h]; exact run_add P V t x y h
theorem fsub_run (P : Program) (t : TypeId) (V : World) (x y : Nat) : (binOp .sub t (.float .f64 x) (.float .f64 y)).run P V = .ok (.float .f64 (fval .sub V x y)) (fwld .sub V x y) := by
  cases h : floatBits .sub .f64 x y with
  | some r => simp only [fval, fwld, h]; exact run_float_arith V _ _ _ _ _ _ h
  | none => simp only [fval, fwld, h]; exact run_sub P V t x y h

theorem Two.lt {a b s e : Nat} (h : Two a b s e) : s < 18446744073709551616 ∧ e < 18446744073709551616 := by
  obtain ⟨t, d, p, q, h1, h2, h3, h4, h5, h6⟩ := h
  exact ⟨h1.1, h6.1⟩

/-- What TwoSum tells. -/
def tsumV (r : Nat × Nat × Int) : Value := .tuple #[.float .f64 r.1, .float .f64 r.2.1, .int .i64 r.2.2]

end Go.Proofs.YtglocbmkcklklaaDoor

/- The document's TwoSum; slackwaterkit.SameFloat, SameBits of one float twice; lists of floats: CopyFloats, LentFloats, SameFloats, KeptFloats. -/
namespace Go.Proofs.YtglocbmkcklklaaDoor
open Go.RowKit
set_option linter.unusedVariables false

theorem fadd_ex (P : Program) (t : TypeId) (V : World) (x y : Nat) : ∃ r V', (binOp .add t (.float .f64 x) (.float .f64 y)).run P V = .ok (.float .f64 r) V' ∧ Hid (FR .add x y r ∧ Below V.heap.size V V') :=
  ⟨_, _, fadd_run P t V x y, fval_fr .add V x y, fwld_below .add x y (Below.refl _ _)⟩
theorem fsub_ex (P : Program) (t : TypeId) (V : World) (x y : Nat) : ∃ r V', (binOp .sub t (.float .f64 x) (.float .f64 y)).run P V = .ok (.float .f64 r) V' ∧ Hid (FR .sub x y r ∧ Below V.heap.size V V') :=
  ⟨_, _, fsub_run P t V x y, fval_fr .sub V x y, fwld_below .sub x y (Below.refl _ _)⟩
theorem b2 {a b c : World} (h : Below a.heap.size a b) (g : Below b.heap.size b c) : Below a.heap.size a c := h.trans (g.mono h.size)

/-- The slice reads as these floats. -/
def RdF (w : World) (B : Nat) (a : Option Addr) (n cap : Nat) (xs : List Nat) : Prop :=
  xs.length = n ∧ (n = 0 ∨ ∃ b o, a = some ⟨b, o, none⟩ ∧ b < B ∧ ∀ j, j < n → w.cell? ⟨b, o + j, none⟩ = some (.float .f64 (xs[j]?.getD 0))) ∧ n ≤ cap ∧ cap ≤ maxLen ∧ (a = none → cap = 0)

theorem RdF.later {w w' : World} {B B' : Nat} {a : Option Addr} {n cap : Nat} {zs : List Nat} (h : RdF w B a n cap zs) (hb : Below B w w') (hB : B ≤ B') : RdF w' B' a n cap zs := by
  obtain ⟨h1, h3, h4⟩ := h
  refine ⟨h1, h3.imp id ?_, h4⟩
  rintro ⟨b, o, rfl, hlt, hc⟩
  exact ⟨b, o, rfl, by omega, fun j hj => (hb.cell (p := ⟨b, o + j, none⟩) hlt).trans (hc j hj)⟩

theorem RdF.front {w : World} {B : Nat} {a : Option Addr} {n cap : Nat} {zs : List Nat} (h : RdF w B a n cap zs) (k : Nat) (hk : k ≤ n) : RdF w B a k cap (zs.take k) := by
  obtain ⟨h1, h3, h4, h5, h6⟩ := h
  refine ⟨by rw [List.length_take]; omega, ?_, by omega, h5, h6⟩
  rcases h3 with h3 | ⟨b, o, ha, hlt, hc⟩
  · left; omega
  · right
    refine ⟨b, o, ha, hlt, fun j hj => ?_⟩
    rw [hc j (by omega), List.getElem?_take, if_pos hj]

theorem RdF.own {w : World} {base e : Nat} {v : Value} {zs : List Nat} {n : Nat} (h : w.ownsRow base e 1 v n (zs.map (Value.float .f64))) :
    ∃ a cap, v = .slice a n cap ∧ RdF w w.heap.size a n cap zs := by
  have hl := h.1
  simp at hl
  rcases h.2 with ⟨rfl, rfl⟩ | ⟨g, cap, cur, rfl, hb, hg, hnc, hcm, hcs, ht⟩
  · exact ⟨none, 0, rfl, by omega, .inl rfl, Nat.le_refl _, Nat.zero_le _, fun _ => rfl⟩
  · refine ⟨_, cap, rfl, by omega, ?_, hnc, hcm, fun h => by simp at h⟩
    right
    refine ⟨g, 0, rfl, ?_, fun j hj => ?_⟩
    · have : w.heap[g]?.isSome := by rw [hg]; rfl
      simpa using this
    · have hc := h.cellAt j (by omega)
      rw [Nat.zero_add, hc, List.getElem?_map, List.getElem?_eq_getElem (by omega)]
      simp

theorem newsF {w : World} {B : Nat} {ad : Addr} {n cap : Nat} {zs : List Nat} (h : RdF w B (some ad) n cap zs) :
    ∀ j v, (zs.map (Value.float .f64))[j]? = some v → w.cell? (ad.add j) = some v := by
  intro j v hj
  have hj1 := (List.getElem?_eq_some_iff.1 hj).1
  have hl := h.1
  simp only [List.length_map] at hj1
  rcases h.2.1 with h0 | ⟨b, o, ha, _, hc⟩
  · omega
  · cases ha
    rw [Addr.add_lit, hc j (by omega), ← hj, List.getElem?_map, List.getElem?_eq_getElem hj1]
    rfl

theorem floats_oneCell (zs : List Nat) : ∀ u ∈ zs.map (Value.float .f64), u.oneCell' = true := by
  intro u hu
  obtain ⟨z, _, rfl⟩ := List.mem_map.1 hu
  rfl

/-- What stands behind a list of floats that is lent: 0.125, 1.125, 2.125. -/
def fmarks (k : Nat) : List Nat := [4593671619917905920, 4607745368753438720, 4611967493404098560].take k
theorem fmark_run (k : Nat) (h : k < 3) (P : Program) (t : TypeId) (V : World) : ∃ r, (binOp .add t (.float .f64 4593671619917905920) (.float .f64 (floatOfInt .f64 (k : Int)))).run P V = .ok (.float .f64 r) V ∧ fmarks (k + 1) = fmarks k ++ [r] := by
  match k, h with
  | 0, _ => exact ⟨4593671619917905920, run_float_arith V _ _ _ _ _ _ (by decide +kernel), rfl⟩
  | 1, _ => exact ⟨4607745368753438720, run_float_arith V _ _ _ _ _ _ (by decide +kernel), rfl⟩
  | 2, _ => exact ⟨4611967493404098560, run_float_arith V _ _ _ _ _ _ (by decide +kernel), rfl⟩

end Go.Proofs.YtglocbmkcklklaaDoor

/- real.Sum and the document's Sum, of any list of floats. -/
namespace Go.Proofs.YtglocbmkcklklaaDoor
open Go.RowKit
set_option linter.unusedVariables false

/-- A struct's memory. -/
def FBox (w : World) (b t : Nat) (vs : Array Value) : Prop := w.heap[b]? = some (.cells vs t (0, 0))
theorem FBox.cell {w : World} {b t : Nat} {vs : Array Value} (h : FBox w b t vs) (j : Nat) : w.cell? ⟨b, j, none⟩ = vs[j]? := by
  unfold FBox at h
  simp [World.cell?, h]
theorem FBox.free {w : World} {b t : Nat} {vs : Array Value} (h : FBox w b t vs) (j : Nat) : w.frozen? ⟨b, j, none⟩ = false := by
  unfold FBox at h
  simp [World.frozen?, h]
theorem FBox.later {w w' : World} {B b t : Nat} {vs : Array Value} (h : FBox w b t vs) (hb : Below B w w') (hlt : b < B) : FBox w' b t vs := by
  unfold FBox at *
  rw [hb.block b hlt]; exact h
theorem FBox.lt {w : World} {b t : Nat} {vs : Array Value} (h : FBox w b t vs) : b < w.heap.size := by
  unfold FBox at h
  have : w.heap[b]?.isSome := by rw [h]; rfl
  simpa using this
theorem FBox.made (w : World) (t : Nat) (vs : Array Value) : FBox (w.alloc (.cells vs t)) w.heap.size t vs := by
  unfold FBox
  show (w.heap.push _)[w.heap.size]? = _
  rw [Array.getElem?_push, if_pos rfl]
theorem FBox.other {w : World} {b t : Nat} {vs : Array Value} (h : FBox w b t vs) (p : Addr) (v : Value) (hne : b ≠ p.block) : FBox (w.setCell p v) b t vs := by
  unfold FBox at *
  rw [Below.heap_setCell w p v b hne]; exact h
theorem FBox.drewN {w : World} {b t : Nat} {vs : Array Value} (h : FBox w b t vs) (n : Nat) : FBox (w.drewN n) b t vs := h
theorem FBox.set {w : World} {b t : Nat} {vs : Array Value} (h : FBox w b t vs) (j : Nat) (v : Value) : FBox (w.setCell ⟨b, j, none⟩ v) b t (vs.setIfInBounds j v) := by
  unfold FBox at *
  simp only [World.setCell, Array.getElem?_modify, if_pos, h]
  simp

/-- What Sum tells. -/
def sumV (r : Nat × Nat × Int × Int) : Value := .tuple #[.float .f64 r.1, .float .f64 r.2.1, .agg #[.int .i64 r.2.2.1, .int .i64 r.2.2.2]]

/-- Each float has 64 bits. -/
def Wf (xs : List Nat) : Prop := ∀ j : Nat, xs[j]?.getD 0 < 18446744073709551616

theorem fput2 {B : Nat} {a w : World} (h : Below B a w) (b : Nat) (hb : B ≤ b) (v0 v1 : Value) : Below B a ((w.setCell ⟨b, 0, none⟩ v0).setCell ⟨b, 1, none⟩ v1) :=
  (h.setCell (p := ⟨b, 0, none⟩) hb _).setCell (p := ⟨b, 1, none⟩) hb _
theorem fbox_facts {w w' : World} {b t : Nat} {v0 v1 : Value} (h : FBox w b t #[v0, v1]) (hb : Below w.heap.size w w') : w'.cell? ⟨b, 0, none⟩ = some v0 ∧ w'.cell? ⟨b, 1, none⟩ = some v1 ∧ w'.frozen? ⟨b, 0, none⟩ = false ∧ w'.frozen? ⟨b, 1, none⟩ = false := by
  have h' := h.later hb h.lt
  exact ⟨h'.cell 0, h'.cell 1, h'.free 0, h'.free 1⟩

end Go.Proofs.YtglocbmkcklklaaDoor

/- package clock: Check, Of, Week, At, leap, yearDays, monthDays, of every number. -/
namespace Go.Proofs.YtglocbmkcklklaaDoor
open Go.RowKit
set_option linter.unusedVariables false

def I64 (x : Int) : Prop := -9223372036854775808 ≤ x ∧ x ≤ 9223372036854775807
def ckR (t : Int) : Int := if 0 ≤ t ∧ t ≤ 1048576 then 0 else 2
theorem ckcheck_any (t : Int) (w : World) (h : I64 t) :
    Calls Tryd.prog 20 #[.int .i64 t] w fun e w' => e = .returned (.int .i64 (ckR t)) ∧ w' = w := by
  have HN : Hid (¬ (0 ≤ t ∧ t ≤ 1048576) → ckR t = 2) := fun h => if_neg h
  have HY : Hid ((0 ≤ t ∧ t ≤ 1048576) → ckR t = 0) := fun h => if_pos h
  go_enter Tryd.func20, Tryd.ntmps20
  go_wp2_with fail
  all_goals
    go_ret
    first
    | exact ⟨ret_int (HN.out (by omega)).symm, rfl⟩
    | exact ⟨ret_int (HY.out (by omega)).symm, rfl⟩

theorem ckof_ok (t : Nat) (w : World) (h : t ≤ 1048576) :
    Calls Tryd.prog 8 #[.int .i64 (t : Int)] w fun e w' => e = .returned (.tuple #[.int .i64 ((t / 24 : Nat) : Int), .int .i64 ((t % 24 : Nat) : Int), .int .i64 0]) ∧ w' = w := by
  have HC := hid (ckcheck_any t w ⟨by omega, by omega⟩)
  rw [show ckR (t : Int) = 0 from if_pos ⟨by omega, by omega⟩] at HC
  have a1 : Int.tdiv (t : Int) 24 = ((t / 24 : Nat) : Int) := rfl
  have a2 : Int.tmod (t : Int) 24 = ((t % 24 : Nat) : Int) := rfl
  have a3 : IntKind.i64.wrap ((t / 24 : Nat) : Int) = ((t / 24 : Nat) : Int) := by rw [IntKind.wrap_i64]; omega
  have a4 : IntKind.i64.wrap ((t % 24 : Nat) : Int) = ((t % 24 : Nat) : Int) := by rw [IntKind.wrap_i64]; omega
  go_enter Tryd.func8, Tryd.ntmps8
  go_wp2_with fail
  refine Calls.mono HC.out ?_
  rintro e w1 ⟨rfl, rfl⟩
  go_wp2_with fail
  go_returns
  exact ⟨by go_num, rfl⟩
theorem ckof_err (t : Int) (w : World) (h : I64 t) (hn : ¬ (0 ≤ t ∧ t ≤ 1048576)) :
    Calls Tryd.prog 8 #[.int .i64 t] w fun e w' => e = .returned (.tuple #[.int .i64 0, .int .i64 0, .int .i64 2]) ∧ w' = w := by
  have HC := hid (ckcheck_any t w h)
  rw [show ckR t = 2 from if_neg hn] at HC
  clear hn h
  go_enter Tryd.func8, Tryd.ntmps8
  go_wp2_with fail
  refine Calls.mono HC.out ?_
  rintro e w1 ⟨rfl, rfl⟩
  go_wp2_with fail
  go_returns
  exact ⟨rfl, rfl⟩

theorem ckweek_ok (t : Nat) (w : World) (h : t ≤ 1048576) :
    Calls Tryd.prog 14 #[.int .i64 (t : Int)] w fun e w' => e = .returned (.tuple #[.int .i64 (((t / 24 + 5) % 7 : Nat) : Int), .int .i64 0]) ∧ w' = w := by
  have HC := hid (ckof_ok t w h)
  have a2 : Int.tmod ((t / 24 : Nat) + 5 : Int) 7 = (((t / 24 + 5) % 7 : Nat) : Int) := rfl
  have a3 : IntKind.i64.wrap ((t / 24 : Nat) + 5 : Int) = ((t / 24 : Nat) + 5 : Int) := by rw [IntKind.wrap_i64]; omega
  have a4 : IntKind.i64.wrap (((t / 24 + 5) % 7 : Nat) : Int) = (((t / 24 + 5) % 7 : Nat) : Int) := by rw [IntKind.wrap_i64]; omega
  go_enter Tryd.func14, Tryd.ntmps14
  go_wp2_with fail
  refine Calls.mono HC.out ?_
  rintro e w1 ⟨rfl, rfl⟩
  go_wp2_with fail
  go_returns
  exact ⟨by go_num, rfl⟩
theorem ckweek_err (t : Int) (w : World) (h : I64 t) (hn : ¬ (0 ≤ t ∧ t ≤ 1048576)) :
    Calls Tryd.prog 14 #[.int .i64 t] w fun e w' => e = .returned (.tuple #[.int .i64 0, .int .i64 2]) ∧ w' = w := by
  have HC := hid (ckof_err t w h hn)
  clear hn h
  go_enter Tryd.func14, Tryd.ntmps14
  go_wp2_with fail
  refine Calls.mono HC.out ?_
  rintro e w1 ⟨rfl, rfl⟩
  go_wp2_with fail
  go_returns
  exact ⟨rfl, rfl⟩

/-- A day's hour that is a tick. -/
def okA (d h : Int) : Prop := 0 ≤ h ∧ h < 24 ∧ 0 ≤ d ∧ d ≤ 43690 ∧ d * 24 + h ≤ 1048576
instance (d h : Int) : Decidable (okA d h) := by unfold okA; infer_instance
def atR (d h : Int) : Int × Int := if okA d h then (d * 24 + h, 0) else (0, 2)
theorem ckat_any (d h : Int) (w : World) (hd : I64 d) (hh : I64 h) :
    Calls Tryd.prog 6 #[.int .i64 d, .int .i64 h] w fun e w' => e = .returned (.tuple #[.int .i64 (atR d h).1, .int .i64 (atR d h).2]) ∧ w' = w := by
  have HN : Hid (¬ okA d h → atR d h = (0, 2)) := fun h => if_neg h
  have HY : Hid (okA d h → atR d h = (d * 24 + h, 0)) := fun h => if_pos h
  by_cases hk : 0 ≤ h ∧ h < 24 ∧ 0 ≤ d ∧ d ≤ 43690
  · have HC := hid (ckcheck_any (d * 24 + h) w ⟨by omega, by omega⟩)
    have x1 : IntKind.i64.wrap (d * 24) = d * 24 := by rw [IntKind.wrap_i64]; omega
    have x2 : IntKind.i64.wrap (d * 24 + h) = d * 24 + h := by rw [IntKind.wrap_i64]; omega
    by_cases h1 : d * 24 + h ≤ 1048576
    · rw [HY.out ⟨hk.1, hk.2.1, hk.2.2.1, hk.2.2.2, h1⟩]
      rw [show ckR (d * 24 + h) = 0 from if_pos ⟨by omega, h1⟩] at HC
      obtain ⟨k1, k2, k3, k4⟩ := hk
      clear HN HY
      go_enter Tryd.func6, Tryd.ntmps6
      go_wp2_with fail
      refine Calls.mono HC.out ?_
      rintro e w1 ⟨rfl, rfl⟩
      go_wp2_with fail
      go_returns
      exact ⟨rfl, rfl⟩
    · rw [HN.out (fun g => h1 g.2.2.2.2)]
      rw [show ckR (d * 24 + h) = 2 from if_neg (by omega)] at HC
      obtain ⟨k1, k2, k3, k4⟩ := hk
      clear HN HY
      go_enter Tryd.func6, Tryd.ntmps6
      go_wp2_with fail
      refine Calls.mono HC.out ?_
      rintro e w1 ⟨rfl, rfl⟩
      go_wp2_with fail
      go_returns
      exact ⟨rfl, rfl⟩
  · rw [HN.out (fun g => hk ⟨g.1, g.2.1, g.2.2.1, g.2.2.2.1⟩)]
    clear HN HY
    go_enter Tryd.func6, Tryd.ntmps6
    go_wp2_with fail
    all_goals
      first
      | (go_returns; exact ⟨rfl, rfl⟩)
      | omega

theorem ckleap_any (y : Nat) (w : World) (h : y ≤ 1048576) :
    Calls Tryd.prog 43 #[.int .i64 (y : Int)] w fun e w' => e = .returned (.bool (lp y)) ∧ w' = w := by
  have a1 : Int.tmod (y : Int) 4 = ((y % 4 : Nat) : Int) := rfl
  have a2 : Int.tmod (y : Int) 100 = ((y % 100 : Nat) : Int) := rfl
  have a3 : Int.tmod (y : Int) 400 = ((y % 400 : Nat) : Int) := rfl
  have HR : Hid (∀ b : Bool, (b = true ↔ (y % 4 = 0 ∧ ¬ y % 100 = 0 ∨ y % 400 = 0)) → Ending.returned (.bool b) = .returned (.bool (lp y))) := fun b hb => by
    congr 2
    unfold lp
    rw [Bool.eq_iff_iff, hb]
    simp
  go_enter Tryd.func43, Tryd.ntmps43
  go_wp2_with fail
  all_goals
    go_returns
    refine ⟨HR.out _ ?_, rfl⟩
    simp
    omega
theorem ckyd_any (y : Nat) (w : World) (h : y ≤ 1048576) :
    Calls Tryd.prog 32 #[.int .i64 (y : Int)] w fun e w' => e = .returned (.int .i64 ((yd y : Nat) : Int)) ∧ w' = w := by
  have HC := hid (ckleap_any y w h)
  unfold yd
  cases hl : lp y
  all_goals
    rw [hl] at HC
    simp only [if_true, if_false, Bool.false_eq_true]
    clear hl
    go_enter Tryd.func32, Tryd.ntmps32
    go_wp2_with fail
    refine Calls.mono HC.out ?_
    rintro e w1 ⟨rfl, rfl⟩
    go_wp2_with fail
    go_returns
    exact ⟨rfl, rfl⟩
/-- The days of a month that there is, or is not. -/
def mdI (y : Nat) (m : Int) : Nat := if 1 ≤ m ∧ m ≤ 12 then md y m.toNat else 0
theorem ckmd_any (y : Nat) (m : Int) (w : World) (h : y ≤ 1048576) (hm : I64 m) :
    Calls Tryd.prog 33 #[.int .i64 (y : Int), .int .i64 m] w fun e w' => e = .returned (.int .i64 ((mdI y m : Nat) : Int)) ∧ w' = w := by
  have HC := hid (ckleap_any y w h)
  have HN : Hid (¬ (1 ≤ m ∧ m ≤ 12) → mdI y m = 0) := fun h => if_neg h
  have H31 : Hid (m = 1 ∨ m = 3 ∨ m = 5 ∨ m = 7 ∨ m = 8 ∨ m = 10 ∨ m = 12 → mdI y m = 31) := fun h => by
    unfold mdI md
    rw [if_pos (by omega), if_neg (by omega), if_neg (by omega), if_pos (by omega)]
  have H30 : Hid (m = 4 ∨ m = 6 ∨ m = 9 ∨ m = 11 → mdI y m = 30) := fun h => by
    unfold mdI md
    rw [if_pos (by omega), if_neg (by omega), if_pos (by omega)]
  have H2 : Hid (m = 2 → mdI y m = if lp y then 29 else 28) := fun h => by
    unfold mdI md
    rw [if_pos (by omega), if_pos (by omega)]
  obtain ⟨b, hb⟩ : ∃ b, lp y = b := ⟨_, rfl⟩
  rw [hb] at HC H2
  clear hb
  by_cases hn : 1 ≤ m ∧ m ≤ 12
  · have hc : m = 1 ∨ m = 3 ∨ m = 5 ∨ m = 7 ∨ m = 8 ∨ m = 10 ∨ m = 12 ∨ m = 4 ∨ m = 6 ∨ m = 9 ∨ m = 11 ∨ m = 2 := by omega
    clear hn hm
    rcases hc with rfl | rfl | rfl | rfl | rfl | rfl | rfl | rfl | rfl | rfl | rfl | rfl
    iterate 7
      · rw [H31.out (by omega)]
        clear H31 H30 HN H2 HC
        go_enter Tryd.func33, Tryd.ntmps33
        go_wp2_with fail
        go_returns
        exact ⟨rfl, rfl⟩
    iterate 4
      · rw [H30.out (by omega)]
        clear H31 H30 HN H2 HC
        go_enter Tryd.func33, Tryd.ntmps33
        go_wp2_with fail
        go_returns
        exact ⟨rfl, rfl⟩
    rw [H2.out rfl]
    clear H31 H30 HN H2
    cases b
    all_goals
      simp only [if_true, if_false, Bool.false_eq_true]
      go_enter Tryd.func33, Tryd.ntmps33
      go_wp2_with fail
      refine Calls.mono HC.out ?_
      rintro e w1 ⟨rfl, rfl⟩
      go_wp2_with fail
      go_returns
      exact ⟨rfl, rfl⟩
  · rw [HN.out hn]
    have n : ∀ k : Int, 1 ≤ k ∧ k ≤ 12 → (m == k) = false := fun k hk => beq_eq_false_iff_ne.2 (by rintro rfl; exact hn hk)
    have n1 := n 1 (by omega)
    have n2 := n 2 (by omega)
    have n3 := n 3 (by omega)
    have n4 := n 4 (by omega)
    have n5 := n 5 (by omega)
    have n6 := n 6 (by omega)
    have n7 := n 7 (by omega)
    have n8 := n 8 (by omega)
    have n9 := n 9 (by omega)
    have n10 := n 10 (by omega)
    have n11 := n 11 (by omega)
    have n12 := n 12 (by omega)
    clear H31 H30 HN H2 HC n
    go_enter Tryd.func33, Tryd.ntmps33
    go_wp2_with fail
    all_goals
      go_returns
      exact ⟨rfl, rfl⟩
end Go.Proofs.YtglocbmkcklklaaDoor

/- package clock: Date, From, of every number. -/
namespace Go.Proofs.YtglocbmkcklklaaDoor
open Go.RowKit
set_option linter.unusedVariables false
set_option linter.unusedSimpArgs false

def dA (y m d h : Int) : Array Value := #[.int .i64 y, .int .i64 m, .int .i64 d, .int .i64 h]
theorem Below.drewM {B n : Nat} {a w : World} (h : Below B a w) : Below B a (w.drewN n) := by
  induction n with
  | zero => exact h
  | succ n ih => exact ih.drew
theorem fput4 {B : Nat} {a w : World} (h : Below B a w) (b : Nat) (hb : B ≤ b) (v0 v1 v2 v3 : Value) : Below B a ((((w.setCell ⟨b, 0, none⟩ v0).setCell ⟨b, 1, none⟩ v1).setCell ⟨b, 2, none⟩ v2).setCell ⟨b, 3, none⟩ v3) :=
  (((h.setCell (p := ⟨b, 0, none⟩) hb _).setCell (p := ⟨b, 1, none⟩) hb _).setCell (p := ⟨b, 2, none⟩) hb _).setCell (p := ⟨b, 3, none⟩) hb _
theorem dbox_put {w : World} {b t : Nat} {y m d h : Int} (g : FBox w b t (dA y m d h)) (v0 v1 v2 v3 : Int) : FBox ((((w.setCell ⟨b, 0, none⟩ (.int .i64 v0)).setCell ⟨b, 1, none⟩ (.int .i64 v1)).setCell ⟨b, 2, none⟩ (.int .i64 v2)).setCell ⟨b, 3, none⟩ (.int .i64 v3)) b t (dA v0 v1 v2 v3) :=
  (((g.set 0 _).set 1 _).set 2 _).set 3 _
theorem dbox_facts {w w' : World} {b t : Nat} {y m d h : Int} (g : FBox w b t (dA y m d h)) (hb : Below w.heap.size w w') : w'.cell? ⟨b, 0, none⟩ = some (.int .i64 y) ∧ w'.cell? ⟨b, 1, none⟩ = some (.int .i64 m) ∧ w'.cell? ⟨b, 2, none⟩ = some (.int .i64 d) ∧ w'.cell? ⟨b, 3, none⟩ = some (.int .i64 h) ∧ w'.frozen? ⟨b, 0, none⟩ = false ∧ w'.frozen? ⟨b, 1, none⟩ = false ∧ w'.frozen? ⟨b, 2, none⟩ = false ∧ w'.frozen? ⟨b, 3, none⟩ = false := by
  have k := g.later hb g.lt
  exact ⟨k.cell 0, k.cell 1, k.cell 2, k.cell 3, k.free 0, k.free 1, k.free 2, k.free 3⟩

set_option maxHeartbeats 1600000 in
set_option maxRecDepth 100000 in
theorem ckdate_ok (t : Nat) (w : World) (h : t ≤ 1048576) :
    Calls Tryd.prog 10 #[.int .i64 (t : Int)] w fun e w' => (∃ k j r, IsD (t / 24) k j r ∧ e = .returned (.tuple #[.agg (dA ((2000 + k : Nat) : Int) ((j + 1 : Nat) : Int) ((r + 1 : Nat) : Int) ((t % 24 : Nat) : Int)), .int .i64 0])) ∧ Below w.heap.size w w' := by
  have HC := hid (fun V => ckof_ok t V h)
  have hD24 : t / 24 ≤ 43690 := by omega
  have hH24 : t % 24 < 24 := by omega
  generalize t / 24 = D at *
  generalize t % 24 = H at *
  have HX := hid (FBox.made w 23 (dA 0 0 0 0))
  have HBX : Hid (Below w.heap.size w (w.alloc (.cells (dA 0 0 0 0) 23))) := (Below.refl _ _).alloc (Nat.le_refl _) _
  unfold dA at HX HBX
  go_enter Tryd.func10, Tryd.ntmps10
  go_wp2_with fail
  generalize hX : w.alloc (.cells #[.int .i64 0, .int .i64 0, .int .i64 0, .int .i64 0] 23) = X at *
  refine Calls.mono (HC.out _) ?_
  rintro e w1 ⟨rfl, rfl⟩
  have hlt : w.heap.size < w1.heap.size := HX.out.lt
  clear hX HC
  go_wp2_with fail
  go_loopw [4] (fun x wr => ∃ k y : Nat, x = .int .i64 (y : Int) ∧ Hid (yT k + y = D) ∧ Hid (FBox wr w1.heap.size 23 (dA ((2000 + k : Nat) : Int) 1 0 (H : Int))) ∧ Hid (FBox wr w.heap.size 23 (dA 0 0 0 0)) ∧ Hid (Below w.heap.size w wr)) (fun x _ => (intOf x).toNat)
  case atStart =>
    refine ⟨0, D, rfl, hid (by simp [yT]), hid (FBox.made w1 23 _), ?_, ?_⟩
    · exact hid (FBox.later HX.out (Below.alloc (Below.refl _ _) (Nat.le_refl _) _) HX.out.lt)
    · exact hid (HBX.out.alloc (Nat.le_of_lt hlt) _)
  case round =>
    obtain ⟨k, y, rfl, hy, hd, hr, hbw⟩ := hrel
    have hk : k ≤ 119 := by
      have := (yT_365 k).1
      have e := hy.out
      omega
    obtain ⟨c0, c1, c2, c3, g0, g1, g2, g3⟩ := dbox_facts hd.out (Below.refl _ _)
    have HY := hid (fun V => ckyd_any (2000 + k) V (by omega))
    have hyd := yd_or (2000 + k)
    have HS : Hid (yT (k + 1) = yT k + yd (2000 + k)) := rfl
    have HYM := hid (mT12 (2000 + k))
    generalize yd (2000 + k) = Y at *
    have hyD : y ≤ D := by have := hy.out; omega
    go_wp2_with fail
    refine Calls.mono (HY.out wr) ?_
    rintro e w2 ⟨rfl, rfl⟩
    by_cases hc : Y ≤ y
    · have hc1 : decide ((Y : Int) ≤ (y : Int)) = true := by simp; omega
      have x1 : IntKind.i64.wrap ((y : Int) - (Y : Int)) = ((y - Y : Nat) : Int) := by rw [IntKind.wrap_i64]; omega
      have x2 : IntKind.i64.wrap (2000 + (k : Int) + 1) = 2000 + ((k + 1 : Nat) : Int) := by rw [IntKind.wrap_i64]; omega
      go_wp2_with fail
      refine Calls.mono (HY.out w2) ?_
      rintro e w3 ⟨rfl, rfl⟩
      go_wp2_with fail
      refine ⟨⟨k + 1, y - Y, rfl, hid (by have := hy.out; have := HS.out; omega), hid (hd.out.set 0 (.int .i64 (2000 + ((k : Int) + 1)))), hid (hr.out.other ⟨w1.heap.size, 0, none⟩ _ (Nat.ne_of_lt hlt)), hid (hbw.out.setCell (p := ⟨w1.heap.size, 0, none⟩) (Nat.le_of_lt hlt) _)⟩, ?_⟩
      simp [intOf]; omega
    · have hc1 : decide ((Y : Int) ≤ (y : Int)) = false := by simp; omega
      have H12 : Hid (y < mT (2000 + k) 12) := by show y < _; rw [HYM.out]; omega
      clear HS HY hyd HYM
      go_wp2_with fail
      clear c0 c1 c2 c3 g0 g1 g2 g3
      have HW := hid hlt
      clear hlt
      have hlt : w.heap.size < w1.heap.size := HW.out
      go_loopw [4] (fun x wr => ∃ j z : Nat, x = .int .i64 (z : Int) ∧ j < 12 ∧ Hid (mT (2000 + k) j + z = y) ∧ Hid (FBox wr w1.heap.size 23 (dA ((2000 + k : Nat) : Int) ((j + 1 : Nat) : Int) 0 (H : Int))) ∧ Hid (FBox wr w.heap.size 23 (dA 0 0 0 0)) ∧ Hid (Below w.heap.size w wr)) (fun x _ => (intOf x).toNat)
      case atStart => exact ⟨0, y, rfl, by omega, hid (by simp [mT]), hid hd.out, hid hr.out, hid hbw.out⟩
      case round =>
        obtain ⟨j, z, rfl, hj, hz, hd', hr', hbw'⟩ := hrel
        obtain ⟨c0, c1, c2, c3, g0, g1, g2, g3⟩ := dbox_facts hd'.out (Below.refl _ _)
        obtain ⟨e0, e1, e2, e3, k0, k1, k2, k3⟩ := dbox_facts hr'.out (Below.refl _ _)
        have HM := hid (fun V => ckmd_any (2000 + k) ((j + 1 : Nat) : Int) V (by omega) ⟨by omega, by omega⟩)
        rw [show mdI (2000 + k) ((j + 1 : Nat) : Int) = md (2000 + k) (j + 1) from by unfold mdI; rw [if_pos (by omega)]; rfl] at HM
        have hmp := md_pos (2000 + k) (j + 1) (by omega) (by omega)
        have hml := md_le (2000 + k) (j + 1)
        have HS : Hid (mT (2000 + k) (j + 1) = mT (2000 + k) j + md (2000 + k) (j + 1)) := rfl
        have HQ : Hid (z < md (2000 + k) (j + 1) → IsD D k j z) := fun g => ⟨by have := hz.out; have := hy.out; omega, hj, g⟩
        generalize md (2000 + k) (j + 1) = M at *
        have hzy : z ≤ y := by have := hz.out; omega
        go_wp2_with fail
        refine Calls.mono (HM.out wr) ?_
        rintro e w2 ⟨rfl, rfl⟩
        by_cases hc : M ≤ z
        · have hc1 : decide ((M : Int) ≤ (z : Int)) = true := by simp; omega
          have x1 : IntKind.i64.wrap ((z : Int) - (M : Int)) = ((z - M : Nat) : Int) := by rw [IntKind.wrap_i64]; omega
          have x2 : IntKind.i64.wrap ((j : Int) + 1 + 1) = ((j + 1 : Nat) : Int) + 1 := by rw [IntKind.wrap_i64]; omega
          have hj' : j + 1 < 12 := by
            rcases Nat.lt_or_ge (j + 1) 12 with g | g
            · exact g
            · exfalso
              obtain rfl : j = 11 := by omega
              have a := H12.out
              have b : mT (2000 + k) 12 = mT (2000 + k) 11 + M := HS.out
              have c := hz.out
              omega
          clear HQ
          go_wp2_with fail
          refine Calls.mono (HM.out w2) ?_
          rintro e w3 ⟨rfl, rfl⟩
          go_wp2_with fail
          refine ⟨⟨j + 1, z - M, rfl, hj', hid (by have := hz.out; have := HS.out; omega), hid (hd'.out.set 1 (.int .i64 ((j : Int) + 1 + 1))), hid (hr'.out.other ⟨w1.heap.size, 1, none⟩ _ (Nat.ne_of_lt hlt)), hid (hbw'.out.setCell (p := ⟨w1.heap.size, 1, none⟩) (Nat.le_of_lt hlt) _)⟩, ?_⟩
          simp [intOf]; omega
        · have hc1 : decide ((M : Int) ≤ (z : Int)) = false := by simp; omega
          have HI := hid (HQ.out (by omega))
          have x1 : IntKind.i64.wrap ((z : Int) + 1) = (z : Int) + 1 := by rw [IntKind.wrap_i64]; omega
          clear HQ HS HM
          go_wp2_with fail
          have hne : w1.heap.size ≠ w.heap.size := by omega
          refine bodyPost_ret (v := .tuple #[.agg (dA ((2000 + k : Nat) : Int) ((j + 1 : Nat) : Int) ((z + 1 : Nat) : Int) (H : Int)), .int .i64 0]) (by simp [results, Tryd.results10, go_sem, e0, e1, e2, e3, k0, k1, k2, k3, dA, hne]) rfl ?_
          exact ⟨⟨k, j, z, HI.out, rfl⟩, fput4 (hbw'.out.setCell (p := ⟨w1.heap.size, 2, none⟩) (Nat.le_of_lt hlt) _) _ (Nat.le_refl _) _ _ _ _⟩

set_option maxHeartbeats 800000 in
set_option maxRecDepth 100000 in
theorem ckdate_err (t : Int) (w : World) (h : I64 t) (hn : ¬ (0 ≤ t ∧ t ≤ 1048576)) :
    Calls Tryd.prog 10 #[.int .i64 t] w fun e w' => e = .returned (.tuple #[.agg (dA 0 0 0 0), .int .i64 2]) ∧ Below w.heap.size w w' := by
  have HC := hid (fun V => ckof_err t V h hn)
  have HX := hid (FBox.made w 23 (dA 0 0 0 0))
  have HBX : Hid (Below w.heap.size w (w.alloc (.cells (dA 0 0 0 0) 23))) := (Below.refl _ _).alloc (Nat.le_refl _) _
  unfold dA at HX HBX
  clear hn
  go_enter Tryd.func10, Tryd.ntmps10
  go_wp2_with fail
  generalize hX : w.alloc (.cells #[.int .i64 0, .int .i64 0, .int .i64 0, .int .i64 0] 23) = X at *
  refine Calls.mono (HC.out _) ?_
  rintro e w1 ⟨rfl, rfl⟩
  obtain ⟨e0, e1, e2, e3, k0, k1, k2, k3⟩ := dbox_facts (show FBox w1 w.heap.size 23 (dA 0 0 0 0) from HX.out) (Below.refl _ _)
  clear hX HC
  go_wp2_with fail
  refine bodyPost_ret (v := .tuple #[.agg (dA 0 0 0 0), .int .i64 2]) (by simp [results, Tryd.results10, go_sem, e0, e1, e2, e3, k0, k1, k2, k3, dA]) rfl ?_
  exact ⟨rfl, fput4 HBX.out _ (Nat.le_refl _) _ _ _ _⟩

/-- The day of a date that there is. -/
def okD (y m d : Int) : Prop := 2000 ≤ y ∧ y ≤ 2119 ∧ 1 ≤ d ∧ d ≤ (mdI y.toNat m : Nat)
instance (y m d : Int) : Decidable (okD y m d) := by unfold okD; infer_instance
set_option maxHeartbeats 1600000 in
set_option maxRecDepth 100000 in
theorem ckfrom_err (y m d h : Int) (w : World) (hy : I64 y) (hm : I64 m) (hd : I64 d) (hh : I64 h) (hn : ¬ okD y m d) :
    Calls Tryd.prog 12 #[.agg (dA y m d h)] w fun e w' => e = .returned (.tuple #[.int .i64 0, .int .i64 2]) ∧ Below w.heap.size w w' := by
  have HX := hid (FBox.made w 23 (dA y m d h))
  have HBX : Hid (Below w.heap.size w (w.alloc (.cells (dA y m d h) 23))) := (Below.refl _ _).alloc (Nat.le_refl _) _
  unfold dA at HX HBX ⊢
  by_cases hr : 2000 ≤ y ∧ y ≤ 2119
  · obtain ⟨k, rfl⟩ : ∃ k : Nat, y = (k : Int) := ⟨y.toNat, by omega⟩
    have HM := hid (fun V => ckmd_any k m V (by omega) hm)
    have hn' : ¬ (1 ≤ d ∧ d ≤ (mdI k m : Nat)) := fun g => hn ⟨hr.1, hr.2, g.1, g.2⟩
    have hml : mdI k m ≤ 31 := by unfold mdI; split; exact md_le _ _; omega
    generalize mdI k m = M at *
    clear hn
    obtain ⟨c0, c1, c2, c3, g0, g1, g2, g3⟩ := dbox_facts (show FBox _ w.heap.size 23 (dA (k : Int) m d h) from HX.out) (Below.refl _ _)
    have y1 : decide ((k : Int) < 2000) = false := by simp; omega
    have y2 : decide (2119 < (k : Int)) = false := by simp; omega
    go_enter Tryd.func12, Tryd.ntmps12
    go_wp2_with fail
    generalize w.alloc (.cells #[.int .i64 (k : Int), .int .i64 m, .int .i64 d, .int .i64 h] 23) = X at *
    by_cases hd1 : d < 1
    · have z1 : decide (d < 1) = true := by simp; omega
      go_quiet (fail)
      go_wp2_with fail
      go_returns
      exact ⟨rfl, Below.drewM HBX.out⟩
    · have z1 : decide (d < 1) = false := by simp; omega
      have z2 : decide ((M : Int) < d) = true := by simp; omega
      go_quiet ((go_at_call 33; exact Calls.quiet_of_same (HM.out _)))
      go_wp2_with fail
      go_returns
      exact ⟨rfl, Below.drewM HBX.out⟩
  · go_enter Tryd.func12, Tryd.ntmps12
    by_cases h1 : y < 2000
    · have z1 : decide (y < 2000) = true := by simp; omega
      go_wp2_with fail
      all_goals first | (go_returns; exact ⟨rfl, HBX.out⟩) | omega
    · have z1 : decide (y < 2000) = false := by simp; omega
      have z2 : decide (2119 < y) = true := by simp; omega
      go_wp2_with fail
      all_goals first | (go_returns; exact ⟨rfl, HBX.out⟩) | omega
set_option maxHeartbeats 1600000 in
set_option maxRecDepth 100000 in
theorem ckfrom_ok (k j r : Nat) (h : Int) (w : World) (hk : k ≤ 119) (hj : j < 12) (hr : r < md (2000 + k) (j + 1)) (hh : I64 h) :
    Calls Tryd.prog 12 #[.agg (dA (2000 + (k : Int)) ((j : Int) + 1) ((r : Int) + 1) h)] w fun e w' => e = .returned (.tuple #[.int .i64 (atR ((yT k + mT (2000 + k) j + r : Nat) : Int) h).1, .int .i64 (atR ((yT k + mT (2000 + k) j + r : Nat) : Int) h).2]) ∧ Below w.heap.size w w' := by
  have HX := hid (FBox.made w 23 (dA (2000 + (k : Int)) ((j : Int) + 1) ((r : Int) + 1) h))
  have HBX : Hid (Below w.heap.size w (w.alloc (.cells (dA (2000 + (k : Int)) ((j : Int) + 1) ((r : Int) + 1) h) 23))) := (Below.refl _ _).alloc (Nat.le_refl _) _
  have HM := hid (fun V => ckmd_any (2000 + k) ((j + 1 : Nat) : Int) V (by omega) ⟨by omega, by omega⟩)
  rw [show mdI (2000 + k) ((j + 1 : Nat) : Int) = md (2000 + k) (j + 1) from by unfold mdI; rw [if_pos (by omega)]; rfl] at HM
  have hml := md_le (2000 + k) (j + 1)
  have HR : Hid (∀ a : Nat, a = yT k + mT (2000 + k) j + r → ∀ V, Calls Tryd.prog 6 #[.int .i64 (a : Int), .int .i64 h] V fun e w' => e = .returned (.tuple #[.int .i64 (atR ((yT k + mT (2000 + k) j + r : Nat) : Int) h).1, .int .i64 (atR ((yT k + mT (2000 + k) j + r : Nat) : Int) h).2]) ∧ w' = V) := fun a ha V => by
    subst ha
    have a1 := (yT_365 k).2
    have a2 := mT_le (2000 + k) j 12 (by omega)
    have a3 := mT12 (2000 + k)
    have a4 := yd_or (2000 + k)
    exact ckat_any _ _ V ⟨by omega, by omega⟩ hh
  have hm12 : mT (2000 + k) j ≤ 366 := by
    have a2 := mT_le (2000 + k) j 12 (by omega)
    have a3 := mT12 (2000 + k)
    have a4 := yd_or (2000 + k)
    omega
  generalize hA : (atR ((yT k + mT (2000 + k) j + r : Nat) : Int) h) = A at *
  generalize hMM : md (2000 + k) (j + 1) = M at *
  unfold dA at HX HBX ⊢
  clear hA
  obtain ⟨c0, c1, c2, c3, g0, g1, g2, g3⟩ := dbox_facts (show FBox _ w.heap.size 23 (dA (2000 + (k : Int)) ((j : Int) + 1) ((r : Int) + 1) h) from HX.out) (Below.refl _ _)
  have y1 : decide (2000 + (k : Int) < 2000) = false := decide_eq_false (by omega)
  have y2 : decide (2119 < 2000 + (k : Int)) = false := by simp; omega
  have z1 : decide ((r : Int) + 1 < 1) = false := decide_eq_false (by omega)
  have z2 : decide ((M : Int) < (r : Int) + 1) = false := by simp; omega
  have x1 : IntKind.i64.wrap ((r : Int) + 1 - 1) = (r : Int) := by rw [IntKind.wrap_i64]; omega
  go_enter Tryd.func12, Tryd.ntmps12
  go_wp2_with fail
  generalize w.alloc (.cells #[.int .i64 (2000 + (k : Int)), .int .i64 ((j : Int) + 1), .int .i64 ((r : Int) + 1), .int .i64 h] 23) = X at *
  go_quiet ((go_at_call 33; exact Calls.quiet_of_same (HM.out _)))
  have hbX : FBox X w.heap.size 23 (dA ((2000 + k : Nat) : Int) ((j + 1 : Nat) : Int) ((r + 1 : Nat) : Int) h) := HX.out
  have HFX := hid hbX
  clear hbX HX
  go_wp2_with fail
  clear c0 c1 c2 c3 g0 g1 g2 g3 y1 y2 z1 z2
  go_loopw [4, 5] (fun x y wr => ∃ i : Nat, i ≤ k ∧ x = .int .i64 ((yT i : Int) + (r : Int)) ∧ y = .int .i64 (2000 + (i : Int)) ∧ Hid (FBox wr w.heap.size 23 (dA ((2000 + k : Nat) : Int) ((j + 1 : Nat) : Int) ((r + 1 : Nat) : Int) h)) ∧ Hid (Below w.heap.size w wr)) (fun _ y _ => (2000 + (k : Int) - intOf y).toNat)
  case atStart => exact ⟨0, by omega, by simp [yT], rfl, HFX, hid (Below.drewM HBX.out)⟩
  case round =>
    obtain ⟨i, hi, rfl, rfl, hfb, hbw⟩ := hrel
    obtain ⟨c0, c1, c2, c3, g0, g1, g2, g3⟩ := dbox_facts hfb.out (Below.refl _ _)
    have hyi := yT_365 i
    by_cases hc : i < k
    · have HY := hid (fun V => ckyd_any (2000 + i) V (by omega))
      have HS : Hid (yT (i + 1) = yT i + yd (2000 + i)) := rfl
      have hyd := yd_or (2000 + i)
      generalize yd (2000 + i) = Y at *
      have q1 : decide (2000 + (i : Int) < 2000 + (k : Int)) = true := decide_eq_true (by omega)
      have x2 : IntKind.i64.wrap ((yT i : Int) + (r : Int) + (Y : Int)) = ((yT i + Y + r : Nat) : Int) := by rw [IntKind.wrap_i64]; omega
      have x3 : IntKind.i64.wrap (2000 + (i : Int) + 1) = 2000 + ((i + 1 : Nat) : Int) := by rw [IntKind.wrap_i64]; omega
      go_wp2_with fail
      refine Calls.mono (HY.out _) ?_
      rintro e w2 ⟨rfl, rfl⟩
      go_wp2_with fail
      go_roundw
      case rel => exact ⟨i + 1, by omega, by rw [HS.out]; rfl, rfl, hfb, hbw⟩
      case measure => simp [intOf]; omega
    · obtain rfl : i = k := by omega
      have q1 : decide (2000 + (i : Int) < 2000 + (i : Int)) = false := decide_eq_false (by omega)
      go_wp2_with fail
      clear c0 c1 c2 c3 g0 g1 g2 g3 q1
      go_loopw [4, 6] (fun x y wr => ∃ l : Nat, l ≤ j ∧ x = .int .i64 ((yT i : Int) + (mT (2000 + i) l : Int) + (r : Int)) ∧ y = .int .i64 ((l : Int) + 1) ∧ Hid (FBox wr w.heap.size 23 (dA ((2000 + i : Nat) : Int) ((j + 1 : Nat) : Int) ((r + 1 : Nat) : Int) h)) ∧ Hid (Below w.heap.size w wr)) (fun _ y _ => ((j : Int) + 1 - intOf y).toNat)
      case atStart => exact ⟨0, by omega, by simp [mT], rfl, hfb, hbw⟩
      case round =>
        obtain ⟨l, hl, rfl, rfl, hfb, hbw⟩ := hrel
        obtain ⟨c0, c1, c2, c3, g0, g1, g2, g3⟩ := dbox_facts hfb.out (Below.refl _ _)
        have hml2 := mT_le (2000 + i) l j hl
        by_cases hc : l < j
        · have HY := hid (fun V => ckmd_any (2000 + i) ((l + 1 : Nat) : Int) V (by omega) ⟨by omega, by omega⟩)
          rw [show mdI (2000 + i) ((l + 1 : Nat) : Int) = md (2000 + i) (l + 1) from by unfold mdI; rw [if_pos (by omega)]; rfl] at HY
          have HS : Hid (mT (2000 + i) (l + 1) = mT (2000 + i) l + md (2000 + i) (l + 1)) := rfl
          have hyd := md_le (2000 + i) (l + 1)
          generalize md (2000 + i) (l + 1) = Y at *
          have q1 : decide ((l : Int) + 1 < (j : Int) + 1) = true := decide_eq_true (by omega)
          have x2 : IntKind.i64.wrap ((yT i : Int) + (mT (2000 + i) l : Int) + (r : Int) + (Y : Int)) = ((yT i + (mT (2000 + i) l + Y) + r : Nat) : Int) := by rw [IntKind.wrap_i64]; omega
          have x3 : IntKind.i64.wrap ((l : Int) + 1 + 1) = ((l + 1 : Nat) : Int) + 1 := by rw [IntKind.wrap_i64]; omega
          go_wp2_with fail
          refine Calls.mono (HY.out _) ?_
          rintro e w2 ⟨rfl, rfl⟩
          go_wp2_with fail
          go_roundw
          case rel => exact ⟨l + 1, by omega, by rw [HS.out]; rfl, rfl, hfb, hbw⟩
          case measure => simp [intOf]; omega
        · obtain rfl : l = j := by omega
          have q1 : decide ((l : Int) + 1 < (l : Int) + 1) = false := decide_eq_false (by omega)
          have HZ := hid (HR.out _ rfl)
          go_wp2_with fail
          refine Calls.mono (HZ.out _) ?_
          rintro e w2 ⟨rfl, rfl⟩
          go_wp2_with fail
          go_returns
          exact ⟨rfl, hbw.out⟩
end Go.Proofs.YtglocbmkcklklaaDoor

/- package clock: a date's text, Text, number, strings.Cut at one byte. -/
namespace Go.Proofs.YtglocbmkcklklaaDoor
open Go.RowKit Go.Lib
set_option linter.unusedVariables false
set_option linter.unusedSimpArgs false

/-- The table of powers of ten stands as the library's text lays it. -/
def TabC (w : World) : Prop := Lib.TabIs Tryd.prog w "internal/strconv.uint64pow10" .u64 Lib.pow10Tab
theorem TabC.later {w w' : World} (h : TabC w) (hb : Below w.heap.size w w') : TabC w' := by
  unfold TabC Lib.TabIs World.var? at *
  cases hg : Tryd.prog.globalNamed "internal/strconv.uint64pow10" with
  | none => simp [hg] at h
  | some g =>
    simp only [hg, Option.bind_some] at h ⊢
    have hlt : g < w.heap.size := by
      rcases Nat.lt_or_ge g w.heap.size with h' | h'
      · exact h'
      · rw [Array.getElem?_eq_none h'] at h; simp at h
    rw [hb.block g hlt]
    exact h
/-- strconv's two errors are values of their type. -/
def ErrT (w : World) : Prop := (∃ te pe, w.cell? ⟨1, 0, none⟩ = some (.iface te pe)) ∧ (∃ te pe, w.cell? ⟨2, 0, none⟩ = some (.iface te pe))
theorem ckcell_lt {w : World} {b j : Nat} {v : Value} (h : w.cell? ⟨b, j, none⟩ = some v) : b < w.heap.size := by
  rcases Nat.lt_or_ge b w.heap.size with h' | h'
  · exact h'
  · unfold World.cell? at h
    rw [Array.getElem?_eq_none h'] at h
    simp at h
theorem ErrT.later {w w' : World} (h : ErrT w) (hb : Below w.heap.size w w') : ErrT w' := by
  obtain ⟨⟨a, b, h1⟩, c, d, h2⟩ := h
  exact ⟨⟨a, b, (hb.cell (p := ⟨_, 0, none⟩) (ckcell_lt h1)).trans h1⟩, c, d, (hb.cell (p := ⟨_, 0, none⟩) (ckcell_lt h2)).trans h2⟩

theorem ckbytes_app (a b : List UInt8) : ((⟨a.toArray⟩ : ByteArray) ++ (⟨b.toArray⟩ : ByteArray)) = ⟨(a ++ b).toArray⟩ := by
  apply ByteArray.ext
  rw [ByteArray.data_append]
  simp
theorem ckitoa_len (n : Int) (h0 : -9223372036854775808 ≤ n) (h1 : n ≤ 9223372036854775807) : (itoa n).length ≤ 21 := by
  unfold itoa
  split
  · rw [List.length_cons, decDigits_length]
    have := nDigits_le20 n.natAbs (by omega)
    omega
  · rw [decDigits_length]
    have := nDigits_le20 n.toNat (by omega)
    omega
theorem ckitoa_any (n : Int) (w : World) (h : I64 n) (htab : TabC w) :
    Calls Tryd.prog 44 #[.int .i64 n] w fun e w' => e = .returned (.string ⟨(itoa n).toArray⟩) ∧ Below w.heap.size w w' := by
  refine Calls.mono (Tryd.strconv_Itoa n h.1 h.2 w htab) ?_
  rintro e w' ⟨rfl, k, os, rfl⟩
  refine ⟨rfl, rfl, rfl, rfl, ?_, fun b hb => ?_⟩
  · show w.heap.size ≤ (w.heap ++ os).size
    rw [Array.size_append]; omega
  · show (w.heap ++ os)[b]? = w.heap[b]?
    rw [Array.getElem?_append_left hb]

/-- A date's text. -/
def txtC (y m d h : Int) : List UInt8 := itoa y ++ (45 :: (itoa m ++ (45 :: (itoa d ++ (32 :: itoa h)))))
set_option maxHeartbeats 3200000 in
set_option maxRecDepth 100000 in
theorem cktext_any (y m d h : Int) (w : World) (hy : I64 y) (hm : I64 m) (hd : I64 d) (hh : I64 h) (htab : TabC w) :
    Calls Tryd.prog 36 #[.agg (dA y m d h)] w fun e w' => e = .returned (.string ⟨(txtC y m d h).toArray⟩) ∧ Below w.heap.size w w' := by
  have HX := hid (FBox.made w 23 (dA y m d h))
  have HBX : Hid (Below w.heap.size w (w.alloc (.cells (dA y m d h) 23))) := (Below.refl _ _).alloc (Nat.le_refl _) _
  have HT := hid htab
  have l1 := ckitoa_len y hy.1 hy.2
  have l2 := ckitoa_len m hm.1 hm.2
  have l3 := ckitoa_len d hd.1 hd.2
  have l4 := ckitoa_len h hh.1 hh.2
  have hm1 : ¬ 9223372036854775807 < (itoa y).length + 1 := by omega
  have hm2 : ¬ 9223372036854775807 < (itoa y).length + 1 + (itoa m).length := by omega
  have hm3 : ¬ 9223372036854775807 < (itoa y).length + 1 + (itoa m).length + 1 := by omega
  have hm4 : ¬ 9223372036854775807 < (itoa y).length + 1 + (itoa m).length + 1 + (itoa d).length := by omega
  have hm5 : ¬ 9223372036854775807 < (itoa y).length + 1 + (itoa m).length + 1 + (itoa d).length + 1 := by omega
  have hm6 : ¬ 9223372036854775807 < (itoa y).length + 1 + (itoa m).length + 1 + (itoa d).length + 1 + (itoa h).length := by omega
  have HE : Hid ((⟨(itoa y).toArray⟩ : ByteArray) ++ (⟨#[45]⟩ : ByteArray) ++ (⟨(itoa m).toArray⟩ : ByteArray) ++ (⟨#[45]⟩ : ByteArray) ++ (⟨(itoa d).toArray⟩ : ByteArray) ++ (⟨#[32]⟩ : ByteArray) ++ (⟨(itoa h).toArray⟩ : ByteArray) = ⟨(txtC y m d h).toArray⟩) := by
    show _ = _
    rw [show (⟨#[45]⟩ : ByteArray) = ⟨([45] : List UInt8).toArray⟩ from rfl, show (⟨#[32]⟩ : ByteArray) = ⟨([32] : List UInt8).toArray⟩ from rfl, ckbytes_app, ckbytes_app, ckbytes_app, ckbytes_app, ckbytes_app, ckbytes_app]
    unfold txtC
    simp
  have HI : Hid (I64 y ∧ I64 m ∧ I64 d ∧ I64 h) := ⟨hy, hm, hd, hh⟩
  clear hy hm hd hh htab
  unfold dA at HX HBX ⊢
  go_enter Tryd.func36, Tryd.ntmps36
  go_wp2_with fail
  generalize w.alloc (.cells #[.int .i64 y, .int .i64 m, .int .i64 d, .int .i64 h] 23) = X at *
  have HF : Hid (∀ V, Below X.heap.size X V → V.cell? ⟨w.heap.size, 0, none⟩ = some (.int .i64 y) ∧ V.cell? ⟨w.heap.size, 1, none⟩ = some (.int .i64 m) ∧ V.cell? ⟨w.heap.size, 2, none⟩ = some (.int .i64 d) ∧ V.cell? ⟨w.heap.size, 3, none⟩ = some (.int .i64 h)) := fun V hv => by
    obtain ⟨c0, c1, c2, c3, _⟩ := dbox_facts (show FBox X w.heap.size 23 (dA y m d h) from HX.out) hv
    exact ⟨c0, c1, c2, c3⟩
  have hs0 := HF.out _ (Below.refl _ X).drew
  have hd0 := hid (Below.refl X.heap.size X).drew
  have H : Hid (∀ z, I64 z → ∀ ww, Below X.heap.size X ww → Calls Tryd.prog 44 #[.int .i64 z] ww fun e w' => e = .returned (.string ⟨(itoa z).toArray⟩) ∧ (w'.cell? ⟨w.heap.size, 0, none⟩ = some (.int .i64 y) ∧ w'.cell? ⟨w.heap.size, 1, none⟩ = some (.int .i64 m) ∧ w'.cell? ⟨w.heap.size, 2, none⟩ = some (.int .i64 d) ∧ w'.cell? ⟨w.heap.size, 3, none⟩ = some (.int .i64 h)) ∧ Below X.heap.size X w') := fun z hz ww hv => by
    refine Calls.mono (ckitoa_any z ww hz (HT.out.later (b2 HBX.out hv))) ?_
    rintro e w' ⟨rfl, h⟩
    exact ⟨rfl, HF.out _ (b2 hv h), b2 hv h⟩
  have H1 := hid (H.out y HI.out.1)
  have H2 := hid (H.out m HI.out.2.1)
  have H3 := hid (H.out d HI.out.2.2.1)
  have H4 := hid (H.out h HI.out.2.2.2)
  clear HF HT HI H
  go_region_held3 (fun V : World => V.cell? ⟨w.heap.size, 0, none⟩ = some (.int .i64 y) ∧ V.cell? ⟨w.heap.size, 1, none⟩ = some (.int .i64 m) ∧ V.cell? ⟨w.heap.size, 2, none⟩ = some (.int .i64 d) ∧ V.cell? ⟨w.heap.size, 3, none⟩ = some (.int .i64 h)) (first | exact hs4 | exact hs3 | exact hs2 | exact hs1 | exact hs0)
    (first
      | (go_at_call 44; with_reducible refine Calls.mono (H4.out _ hb4) ?_; rintro e w5 ⟨rfl, hs4, hb5⟩)
      | (go_at_call 44; with_reducible refine Calls.mono (H3.out _ hb3) ?_; rintro e w4 ⟨rfl, hs3, hb4⟩)
      | (go_at_call 44; with_reducible refine Calls.mono (H2.out _ hb2) ?_; rintro e w3 ⟨rfl, hs2, hb3⟩)
      | (go_at_call 44; with_reducible refine Calls.mono (H1.out _ hd0.out) ?_; rintro e w2 ⟨rfl, hs1, hb2⟩))
  all_goals
    have HB := hid (b2 HBX.out hb5)
    clear hs0 hs1 hs2 hs3 hs4 hb2 hb3 hb4 hb5 HX H1 H2 H3 H4 hd0
    go_wp2_with fail
    go_ret
    exact ⟨congrArg (fun z => Ending.returned (.string z)) HE.out, HB.out⟩
end Go.Proofs.YtglocbmkcklklaaDoor

/- package clock: number, strings.Cut at one byte, Text, Parse. -/
namespace Go.Proofs.YtglocbmkcklklaaDoor
open Go.RowKit Go.Lib
set_option linter.unusedVariables false
set_option linter.unusedSimpArgs false

/-- The number that a text is, or -1. -/
def numC (l : List UInt8) : Int := match atoiAll l with
  | .ok v => v
  | _ => -1
theorem numC_in (l : List UInt8) : I64 (numC l) := by
  unfold numC
  cases hp : atoiAll l with
  | ok v => exact atoiAll_bounds hp
  | «syntax» => exact ⟨by decide, by decide⟩
  | range => exact ⟨by decide, by decide⟩

set_option maxHeartbeats 1600000 in
set_option maxRecDepth 100000 in
theorem cknumber_any (s : ByteArray) (w : World) (hs : s.size ≤ 281474976710656) (he : ErrT w) :
    Calls Tryd.prog 39 #[.string s] w fun e w' => e = .returned (.int .i64 (numC s.data.toList)) ∧ Below w.heap.size w w' := by
  obtain ⟨⟨te, pe, h1⟩, te2, pe2, h2⟩ := he
  cases hp : atoiAll s.data.toList with
  | ok v =>
    have HR : Hid (numC s.data.toList = v) := by show _ = _; unfold numC; rw [hp]
    have HC := hid (Tryd.strconv_Atoi_ok s (by omega) v hp w)
    clear hp
    go_enter Tryd.func39, Tryd.ntmps39
    go_wp2_with fail
    refine Calls.mono HC.out ?_
    rintro e w1 ⟨rfl, hw1⟩
    have HB : Hid (Below w.heap.size w w1) := by
      rcases hw1 with rfl | ⟨t, rfl⟩
      · exact Below.refl _ _
      · exact Lib.bytesWorld_below w _ t
    clear hw1
    go_wp2_with fail
    go_ret
    exact ⟨ret_int HR.out.symm, HB.out⟩
  | «syntax» =>
    have HR : Hid (numC s.data.toList = -1) := by show _ = _; unfold numC; rw [hp]
    have HC := hid (Tryd.strconv_Atoi_syntax s hs hp _ w h1 (.inr ⟨te, pe, rfl⟩))
    clear hp
    go_enter Tryd.func39, Tryd.ntmps39
    go_wp2_with fail
    refine Calls.mono HC.out ?_
    rintro e w1 ⟨N, rfl, hN, _, hb⟩
    go_wp2_with fail
    go_ret
    exact ⟨ret_int HR.out.symm, hb⟩
  | range =>
    have HR : Hid (numC s.data.toList = -1) := by show _ = _; unfold numC; rw [hp]
    have HC := hid (Tryd.strconv_Atoi_range s hs hp _ w h2 (.inr ⟨te2, pe2, rfl⟩))
    clear hp
    go_enter Tryd.func39, Tryd.ntmps39
    go_wp2_with fail
    refine Calls.mono HC.out ?_
    rintro e w1 ⟨N, rfl, hN, _, hb⟩
    go_wp2_with fail
    go_ret
    exact ⟨ret_int HR.out.symm, hb⟩

set_option maxHeartbeats 1600000 in
set_option maxRecDepth 100000 in
theorem ckcut0_any (s : ByteArray) (c : UInt8) (w : World) (hs : s.size ≤ 281474976710656) :
    Calls Tryd.prog 45 #[.string s, .string ⟨#[c]⟩] w fun e w' => e = .returned (.tuple #[.string ⟨(Lib.cut s.data.toList [c]).1.toArray⟩, .string ⟨(Lib.cut s.data.toList [c]).2.1.toArray⟩, .bool (Lib.cut s.data.toList [c]).2.2]) ∧ Below w.heap.size w w' := by
  have HI := hid (Tryd.stringslite_Index_one s c w)
  rw [← Lib.index_one] at HI
  rcases Lib.indexB_cases s ⟨#[c]⟩ with hix | ⟨i, hix, hroom⟩
  · obtain ⟨e1, e2, e3⟩ := Lib.cutB_miss s ⟨#[c]⟩ hix
    have e1' : (⟨(Lib.cut s.data.toList [c]).1.toArray⟩ : ByteArray) = _ := e1
    have e2' : (⟨(Lib.cut s.data.toList [c]).2.1.toArray⟩ : ByteArray) = _ := e2
    have e3' : (Lib.cut s.data.toList [c]).2.2 = _ := e3
    have hix' : Lib.index s.data.toList [c] = -1 := hix
    rw [hix'] at HI
    rw [e1', e2', e3']
    clear e1 e2 e3 e1' e2' e3' hix hix'
    go_enter Tryd.func45, Tryd.ntmps45
    go_wp2_with fail
    refine Calls.mono HI.out ?_
    rintro e w1 ⟨rfl, rfl⟩
    go_wp2_with fail
    go_returns
    exact ⟨rfl, Below.refl _ _⟩
  · obtain ⟨e1, e2, e3⟩ := Lib.cutB_hit s ⟨#[c]⟩ i hix
    have e1' : (⟨(Lib.cut s.data.toList [c]).1.toArray⟩ : ByteArray) = _ := e1
    have e2' : (⟨(Lib.cut s.data.toList [c]).2.1.toArray⟩ : ByteArray) = _ := e2
    have e3' : (Lib.cut s.data.toList [c]).2.2 = _ := e3
    have hix' : Lib.index s.data.toList [c] = (i : Int) := hix
    rw [hix'] at HI
    rw [e1', e2', e3']
    have hr : i + 1 ≤ s.size := hroom
    have c1 : (0 : Int) ≤ ↑i := by omega
    have c2 : (↑i : Int) ≤ ↑s.size := by omega
    have c3 : (0 : Int) ≤ ↑i + 1 := by omega
    have c4 : (↑i + 1 : Int) ≤ ↑s.size := by omega
    have hw : IntKind.i64.wrap ((i : Int) + 1) = (i : Int) + 1 := by rw [IntKind.wrap_i64]; omega
    have ht : ((i : Int) + 1).toNat = i + 1 := by omega
    clear e1 e2 e3 e1' e2' e3' hix hix' hroom
    go_enter Tryd.func45, Tryd.ntmps45
    go_wp2_with fail
    refine Calls.mono HI.out ?_
    rintro e w1 ⟨rfl, rfl⟩
    go_wp2_with fail
    go_region
    go_wp2_with fail
    go_returns
    exact ⟨rfl, (Below.refl _ _).drew⟩
set_option maxHeartbeats 1600000 in
set_option maxRecDepth 100000 in
theorem ckcut_any (s : ByteArray) (c : UInt8) (w : World) (hs : s.size ≤ 281474976710656) :
    Calls Tryd.prog 38 #[.string s, .string ⟨#[c]⟩] w fun e w' => e = .returned (.tuple #[.string ⟨(Lib.cut s.data.toList [c]).1.toArray⟩, .string ⟨(Lib.cut s.data.toList [c]).2.1.toArray⟩, .bool (Lib.cut s.data.toList [c]).2.2]) ∧ Below w.heap.size w w' := by
  have HC := hid (ckcut0_any s c w hs)
  generalize (Lib.cut s.data.toList [c]).1.toArray = A at *
  generalize (Lib.cut s.data.toList [c]).2.1.toArray = B at *
  generalize (Lib.cut s.data.toList [c]).2.2 = C at *
  go_enter Tryd.func38, Tryd.ntmps38
  go_wp2_with fail
  refine Calls.mono HC.out ?_
  rintro e w1 ⟨rfl, hb⟩
  go_wp2_with fail
  go_returns
  exact ⟨rfl, hb⟩
theorem ckcut_len (l : List UInt8) (c : UInt8) : (Lib.cut l [c]).1.length ≤ l.length ∧ (Lib.cut l [c]).2.1.length ≤ l.length := by
  unfold Lib.cut
  split
  · simp
    omega
  · simp

def fromR (y m d h : Int) : Int × Int := if okD y m d then atR ((yT (y - 2000).toNat + mT y.toNat (m - 1).toNat + (d - 1).toNat : Nat) : Int) h else (0, 2)
theorem okD_nat {y m d : Int} (h : okD y m d) : ∃ k j r : Nat, y = 2000 + (k : Int) ∧ m = (j : Int) + 1 ∧ d = (r : Int) + 1 ∧ k ≤ 119 ∧ j < 12 ∧ r < md (2000 + k) (j + 1) := by
  obtain ⟨h1, h2, h3, h4⟩ := h
  have hm : 1 ≤ m ∧ m ≤ 12 := by
    rcases Decidable.em (1 ≤ m ∧ m ≤ 12) with g | g
    · exact g
    · unfold mdI at h4; rw [if_neg g] at h4; omega
  refine ⟨(y - 2000).toNat, (m - 1).toNat, (d - 1).toNat, by omega, by omega, by omega, by omega, by omega, ?_⟩
  unfold mdI at h4
  rw [if_pos hm] at h4
  have e1 : 2000 + (y - 2000).toNat = y.toNat := by omega
  have e2 : (m - 1).toNat + 1 = m.toNat := by omega
  rw [e1, e2]; omega
theorem okD_of {k j r : Nat} (hk : k ≤ 119) (hj : j < 12) (hr : r < md (2000 + k) (j + 1)) : okD (2000 + (k : Int)) ((j : Int) + 1) ((r : Int) + 1) := by
  refine ⟨by omega, by omega, by omega, ?_⟩
  unfold mdI
  rw [if_pos (by omega), show (2000 + (k : Int)).toNat = 2000 + k by omega, show ((j : Int) + 1).toNat = j + 1 by omega]
  omega
theorem fromR_ok {k j r : Nat} (hk : k ≤ 119) (hj : j < 12) (hr : r < md (2000 + k) (j + 1)) (h : Int) : fromR (2000 + (k : Int)) ((j : Int) + 1) ((r : Int) + 1) h = atR ((yT k + mT (2000 + k) j + r : Nat) : Int) h := by
  unfold fromR
  rw [if_pos (okD_of hk hj hr), show (2000 + (k : Int) - 2000).toNat = k by omega, show (2000 + (k : Int)).toNat = 2000 + k by omega, show ((j : Int) + 1 - 1).toNat = j by omega, show ((r : Int) + 1 - 1).toNat = r by omega]
theorem ckfrom_any (y m d h : Int) (w : World) (hy : I64 y) (hm : I64 m) (hd : I64 d) (hh : I64 h) :
    Calls Tryd.prog 12 #[.agg (dA y m d h)] w fun e w' => e = .returned (.tuple #[.int .i64 (fromR y m d h).1, .int .i64 (fromR y m d h).2]) ∧ Below w.heap.size w w' := by
  by_cases hk : okD y m d
  · obtain ⟨k, j, r, rfl, rfl, rfl, h1, h2, h3⟩ := okD_nat hk
    rw [fromR_ok h1 h2 h3]
    exact ckfrom_ok k j r h w h1 h2 h3 hh
  · rw [show fromR y m d h = (0, 2) from if_neg hk]
    exact ckfrom_err y m d h w hy hm hd hh hk
theorem atR_or (d h : Int) : (okA d h ∧ atR d h = (d * 24 + h, 0)) ∨ (¬ okA d h ∧ atR d h = (0, 2)) := by
  unfold atR
  by_cases k : okA d h
  · left; rw [if_pos k]; exact ⟨k, rfl⟩
  · right; rw [if_neg k]; exact ⟨k, rfl⟩
theorem fromR_or (y m d h : Int) : (∃ k j r : Nat, y = 2000 + (k : Int) ∧ m = (j : Int) + 1 ∧ d = (r : Int) + 1 ∧ k ≤ 119 ∧ IsD (yT k + mT (2000 + k) j + r) k j r ∧ okA ((yT k + mT (2000 + k) j + r : Nat) : Int) h ∧ fromR y m d h = (((yT k + mT (2000 + k) j + r : Nat) : Int) * 24 + h, 0)) ∨ fromR y m d h = (0, 2) := by
  by_cases hk : okD y m d
  · obtain ⟨k, j, r, rfl, rfl, rfl, h1, h2, h3⟩ := okD_nat hk
    rw [fromR_ok h1 h2 h3]
    rcases atR_or ((yT k + mT (2000 + k) j + r : Nat) : Int) h with ⟨a, b⟩ | ⟨a, b⟩
    · exact .inl ⟨k, j, r, rfl, rfl, rfl, h1, ⟨rfl, h2, h3⟩, a, b⟩
    · exact .inr b
  · exact .inr (if_neg hk)
end Go.Proofs.YtglocbmkcklklaaDoor

/- package clock: Text, Parse, of every number and text. -/
namespace Go.Proofs.YtglocbmkcklklaaDoor
open Go.RowKit Go.Lib
set_option linter.unusedVariables false
set_option linter.unusedSimpArgs false

theorem ckstr_other {s t : ByteArray} (h : ¬ s = t) : (s.toList == t.toList) = false := by
  rw [Lib.toList_data, Lib.toList_data]
  exact beq_eq_false_iff_ne.2 (fun e => h (ByteArray.ext (Array.toList_inj.1 e)))
set_option maxHeartbeats 1600000 in
set_option maxRecDepth 100000 in
theorem cktextF_err (t : Int) (w : World) (h : I64 t) (hn : ¬ (0 ≤ t ∧ t ≤ 1048576)) :
    Calls Tryd.prog 16 #[.int .i64 t] w fun e w' => e = .returned (.tuple #[.string ⟨#[]⟩, .int .i64 2]) ∧ Below w.heap.size w w' := by
  have HC := hid (ckdate_err t w h hn)
  unfold dA at HC
  clear hn h
  go_enter Tryd.func16, Tryd.ntmps16
  go_wp2_with fail
  refine Calls.mono HC.out ?_
  rintro e w1 ⟨rfl, hb⟩
  go_wp2_with fail
  go_returns
  refine ⟨rfl, ?_⟩
  first
  | exact hb
  | exact hb.alloc hb.size _
set_option maxHeartbeats 1600000 in
set_option maxRecDepth 100000 in
theorem cktextF_ok (t : Nat) (w : World) (h : t ≤ 1048576) (htab : TabC w) :
    Calls Tryd.prog 16 #[.int .i64 (t : Int)] w fun e w' => (∃ k j r, IsD (t / 24) k j r ∧ e = .returned (.tuple #[.string ⟨(txtC (2000 + (k : Int)) ((j : Int) + 1) ((r : Int) + 1) ((t % 24 : Nat) : Int)).toArray⟩, .int .i64 0])) ∧ Below w.heap.size w w' := by
  have HC := hid (ckdate_ok t w h)
  have hD24 : t / 24 ≤ 43690 := by omega
  have hH24 : t % 24 < 24 := by omega
  have HT := hid htab
  generalize t / 24 = D at *
  generalize t % 24 = H at *
  unfold dA at HC
  go_enter Tryd.func16, Tryd.ntmps16
  go_wp2_with fail
  refine Calls.mono HC.out ?_
  rintro e w1 ⟨⟨k, j, r, hi, rfl⟩, hb⟩
  have hk := hi.small hD24
  have hj := hi.2.1
  have hr : r ≤ 30 := by have a := hi.2.2; have b := md_le (2000 + k) (j + 1); omega
  have HTX : Hid (∀ V, Below w.heap.size w V → Calls Tryd.prog 36 #[.agg #[.int .i64 (2000 + (k : Int)), .int .i64 ((j : Int) + 1), .int .i64 ((r : Int) + 1), .int .i64 (H : Int)]] V fun e w' => e = .returned (.string ⟨(txtC (2000 + (k : Int)) ((j : Int) + 1) ((r : Int) + 1) (H : Int)).toArray⟩) ∧ Below V.heap.size V w') := fun V hv => cktext_any _ _ _ _ V ⟨by omega, by omega⟩ ⟨by omega, by omega⟩ ⟨by omega, by omega⟩ ⟨by omega, by omega⟩ (HT.out.later hv)
  clear HC HT htab
  generalize hTT : (txtC (2000 + (k : Int)) ((j : Int) + 1) ((r : Int) + 1) (H : Int)).toArray = TT at *
  have HB := hid hb
  have HI := hid hi
  clear hi hb
  go_wp2_with fail
  have HB1 := hid (HB.out.alloc HB.out.size (.cells #[.int .i64 (2000 + (k : Int)), .int .i64 ((j : Int) + 1), .int .i64 ((r : Int) + 1), .int .i64 (H : Int)] 23))
  refine Calls.mono (HTX.out _ HB1.out) ?_
  rintro e w2 ⟨rfl, hb2⟩
  have HB2 := hid (b2 HB1.out hb2)
  clear HTX HB1 HB hb2
  go_wp2_with fail
  go_returns
  exact ⟨⟨k, j, r, HI.out, by rw [hTT]; rfl⟩, HB2.out⟩

/-- The four pieces of a text, and the numbers that they are. -/
def pc1 (l : List UInt8) : List UInt8 := (cut l [45]).1
def pc2 (l : List UInt8) : List UInt8 := (cut (cut l [45]).2.1 [45]).1
def pc3 (l : List UInt8) : List UInt8 := (cut (cut (cut l [45]).2.1 [45]).2.1 [32]).1
def pc4 (l : List UInt8) : List UInt8 := (cut (cut (cut l [45]).2.1 [45]).2.1 [32]).2.1
/-- What Parse tells of pieces. -/
def readP (y m d h : Int) (l : List UInt8) : Int × Int := if (fromR y m d h).2 = 0 ∧ txtC y m d h = l then ((fromR y m d h).1, 0) else (0, 190)
def readC (l : List UInt8) : Int × Int := readP (numC (pc1 l)) (numC (pc2 l)) (numC (pc3 l)) (numC (pc4 l)) l
set_option maxHeartbeats 1600000 in
set_option maxRecDepth 100000 in
theorem ckparse_any (s : ByteArray) (w : World) (hs : s.size ≤ 281474976710656) (htab : TabC w) (herr : ErrT w) :
    Calls Tryd.prog 18 #[.string s] w fun e w' => e = .returned (.tuple #[.int .i64 (readC s.data.toList).1, .int .i64 (readC s.data.toList).2]) ∧ Below w.heap.size w w' := by
  have hs' : s.data.toList.length ≤ 281474976710656 := by rw [Array.length_toList]; exact hs
  have m1 := ckcut_len s.data.toList 45
  have m2 := ckcut_len (cut s.data.toList [45]).2.1 45
  have m3 := ckcut_len (cut (cut s.data.toList [45]).2.1 [45]).2.1 32
  have HC1 := hid (fun V => ckcut_any s 45 V hs)
  have HC2 := hid (fun V => ckcut_any ⟨(cut s.data.toList [45]).2.1.toArray⟩ 45 V (by show (cut s.data.toList [45]).2.1.toArray.size ≤ _; rw [List.size_toArray]; omega))
  have HC3 := hid (fun V => ckcut_any ⟨(cut (cut s.data.toList [45]).2.1 [45]).2.1.toArray⟩ 32 V (by show (cut (cut s.data.toList [45]).2.1 [45]).2.1.toArray.size ≤ _; rw [List.size_toArray]; omega))
  have HN1 := hid (fun V (hv : Below w.heap.size w V) => cknumber_any ⟨(pc1 s.data.toList).toArray⟩ V (by show (pc1 s.data.toList).toArray.size ≤ _; rw [List.size_toArray]; unfold pc1; omega) (herr.later hv))
  have HN2 := hid (fun V (hv : Below w.heap.size w V) => cknumber_any ⟨(pc2 s.data.toList).toArray⟩ V (by show (pc2 s.data.toList).toArray.size ≤ _; rw [List.size_toArray]; unfold pc2; omega) (herr.later hv))
  have HN3 := hid (fun V (hv : Below w.heap.size w V) => cknumber_any ⟨(pc3 s.data.toList).toArray⟩ V (by show (pc3 s.data.toList).toArray.size ≤ _; rw [List.size_toArray]; unfold pc3; omega) (herr.later hv))
  have HN4 := hid (fun V (hv : Below w.heap.size w V) => cknumber_any ⟨(pc4 s.data.toList).toArray⟩ V (by show (pc4 s.data.toList).toArray.size ≤ _; rw [List.size_toArray]; unfold pc4; omega) (herr.later hv))
  have HF := hid (fun V => ckfrom_any (numC (pc1 s.data.toList)) (numC (pc2 s.data.toList)) (numC (pc3 s.data.toList)) (numC (pc4 s.data.toList)) V (numC_in _) (numC_in _) (numC_in _) (numC_in _))
  have HT := hid (fun V (hv : Below w.heap.size w V) => cktext_any (numC (pc1 s.data.toList)) (numC (pc2 s.data.toList)) (numC (pc3 s.data.toList)) (numC (pc4 s.data.toList)) V (numC_in _) (numC_in _) (numC_in _) (numC_in _) (htab.later hv))
  simp only [List.toList_toArray] at HC2 HC3 HN1 HN2 HN3 HN4
  have b1 := numC_in (pc1 s.data.toList)
  have b2' := numC_in (pc2 s.data.toList)
  have b3 := numC_in (pc3 s.data.toList)
  have b4 := numC_in (pc4 s.data.toList)
  unfold readC
  rw [show (cut s.data.toList [45]).1 = pc1 s.data.toList from rfl] at HC1
  rw [show (cut (cut s.data.toList [45]).2.1 [45]).1 = pc2 s.data.toList from rfl] at HC2
  rw [show (cut (cut (cut s.data.toList [45]).2.1 [45]).2.1 [32]).1 = pc3 s.data.toList from rfl, show (cut (cut (cut s.data.toList [45]).2.1 [45]).2.1 [32]).2.1 = pc4 s.data.toList from rfl] at HC3
  clear m1 m2 m3
  generalize (cut s.data.toList [45]).2.2 = q1 at *
  generalize (cut (cut s.data.toList [45]).2.1 [45]).2.2 = q2 at *
  generalize (cut (cut (cut s.data.toList [45]).2.1 [45]).2.1 [32]).2.2 = q3 at *
  generalize (cut (cut s.data.toList [45]).2.1 [45]).2.1.toArray = R2 at *
  generalize (cut s.data.toList [45]).2.1.toArray = R1 at *
  generalize numC (pc1 s.data.toList) = y at *
  generalize numC (pc2 s.data.toList) = m at *
  generalize numC (pc3 s.data.toList) = d at *
  generalize numC (pc4 s.data.toList) = h at *
  generalize (pc1 s.data.toList).toArray = A1 at *
  generalize (pc2 s.data.toList).toArray = A2 at *
  generalize (pc3 s.data.toList).toArray = A3 at *
  generalize (pc4 s.data.toList).toArray = A4 at *
  unfold dA at HF HT
  go_enter Tryd.func18, Tryd.ntmps18
  go_wp2_with fail
  refine Calls.mono (HC1.out _) ?_
  rintro e w1 ⟨rfl, hb1⟩
  have HB1 := hid hb1
  clear hb1 HC1
  go_wp2_with fail
  refine Calls.mono (HC2.out _) ?_
  rintro e w2 ⟨rfl, hb2⟩
  have HB2 := hid (b2 HB1.out hb2)
  clear hb2 HC2 HB1
  go_wp2_with fail
  refine Calls.mono (HC3.out _) ?_
  rintro e w3 ⟨rfl, hb3⟩
  have HB3 := hid (b2 HB2.out hb3)
  clear hb3 HC3 HB2
  go_wp2_with fail
  refine Calls.mono (HN1.out _ HB3.out) ?_
  rintro e w4 ⟨rfl, hb4⟩
  have HB4 := hid (b2 HB3.out hb4)
  clear hb4 HN1 HB3
  go_wp2_with fail
  refine Calls.mono (HN2.out _ HB4.out) ?_
  rintro e w5 ⟨rfl, hb5⟩
  have HB5 := hid (b2 HB4.out hb5)
  clear hb5 HN2 HB4
  go_wp2_with fail
  refine Calls.mono (HN3.out _ HB5.out) ?_
  rintro e w6 ⟨rfl, hb6⟩
  have HB6 := hid (b2 HB5.out hb6)
  clear hb6 HN3 HB5
  go_wp2_with fail
  refine Calls.mono (HN4.out _ HB6.out) ?_
  rintro e w7 ⟨rfl, hb7⟩
  have HB7 := hid (b2 HB6.out hb7)
  clear hb7 HN4 HB6
  go_wp2_with fail
  have HX := hid (FBox.made w7 23 (dA y m d h))
  have HB8 := hid (HB7.out.alloc HB7.out.size (.cells (dA y m d h) 23))
  unfold dA at HX HB8
  generalize w7.alloc (.cells #[.int .i64 y, .int .i64 m, .int .i64 d, .int .i64 h] 23) = X at *
  refine Calls.mono (HF.out _) ?_
  rintro e w8 ⟨rfl, hb8⟩
  obtain ⟨c0, c1, c2, c3, g0, g1, g2, g3⟩ := dbox_facts (show FBox X w7.heap.size 23 (dA y m d h) from HX.out) hb8
  have HB9 := hid (b2 HB8.out hb8)
  clear hb8 HF HB8 HB7 HX
  have HV1 : Hid ((fromR y m d h).2 = 0 → txtC y m d h = s.data.toList → readP y m d h s.data.toList = ((fromR y m d h).1, 0)) := fun a b => if_pos ⟨a, b⟩
  have HV2 : Hid (¬ ((fromR y m d h).2 = 0 ∧ txtC y m d h = s.data.toList) → readP y m d h s.data.toList = (0, 190)) := fun a => if_neg a
  have hfo : (fromR y m d h).2 = 0 ∨ fromR y m d h = (0, 2) := by
    rcases fromR_or y m d h with ⟨_, _, _, _, _, _, _, _, _, hfr⟩ | hfr
    · left; rw [hfr]
    · right; exact hfr
  rcases hfo with hfr | hfr
  · generalize (fromR y m d h) = FF at *
    obtain ⟨F1, F2⟩ := FF
    obtain rfl : F2 = 0 := hfr
    by_cases hx : txtC y m d h = s.data.toList
    · have HV := hid (HV1.out rfl hx)
      have hx2 : (⟨(txtC y m d h).toArray⟩ : ByteArray) = s := by rw [hx]
      rw [hx2] at HT
      clear HV1 HV2 hx hx2
      go_wp2_with fail
      refine Calls.mono (HT.out _ HB9.out) ?_
      rintro e w9 ⟨rfl, hb9⟩
      have HB := hid (b2 HB9.out hb9)
      clear hb9 HT HB9
      go_wp2_with fail
      go_returns
      exact ⟨by rw [HV.out]; rfl, HB.out⟩
    · have HV := hid (HV2.out (fun g => hx g.2))
      have hx2 : ¬ (⟨(txtC y m d h).toArray⟩ : ByteArray) = s := fun e => hx (by rw [← e])
      clear HV1 HV2 hx
      generalize (⟨(txtC y m d h).toArray⟩ : ByteArray) = TT at *
      have hx4 := ckstr_other hx2
      go_wp2_with fail
      refine Calls.mono (HT.out _ HB9.out) ?_
      rintro e w9 ⟨rfl, hb9⟩
      have HB := hid (b2 HB9.out hb9)
      clear hb9 HT HB9
      go_wp2_with fail
      go_returns
      exact ⟨by rw [HV.out]; rfl, HB.out⟩
  · rw [hfr] at HV2 ⊢
    have HV := hid (HV2.out (fun g => absurd g.1 (by decide)))
    clear HV1 HV2
    go_wp2_with fail
    go_returns
    exact ⟨by rw [HV.out]; rfl, HB9.out⟩
end Go.Proofs.YtglocbmkcklklaaDoor

/- A date's text is read as that date. Nothing here speaks of the program. -/
namespace Go.Proofs.YtglocbmkcklklaaDoor
open Go.RowKit Go.Lib
set_option linter.unusedVariables false

theorem ckdig_one {u : Nat} (h : u < 10) : decDigits u = [UInt8.ofNat (48 + u)] := by rw [decDigits, dif_pos h]
theorem ckdig_more {u : Nat} (h : ¬ u < 10) : decDigits u = decDigits (u / 10) ++ [UInt8.ofNat (48 + u % 10)] := by rw [decDigits, dif_neg h]
theorem ckdigit_nat (d : Nat) (h : d < 10) : (UInt8.ofNat (48 + d)).toNat = 48 + d := by rw [UInt8.toNat_ofNat']; omega
theorem ckdec_all (n : Nat) : (∀ x ∈ decDigits n, 48 ≤ x.toNat ∧ x.toNat ≤ 57) ∧ decDigits n ≠ [] := by
  by_cases h : n < 10
  · rw [ckdig_one h]
    refine ⟨fun x hx => ?_, by simp⟩
    rw [List.mem_singleton] at hx
    rw [hx, ckdigit_nat n h]; omega
  · rw [ckdig_more h]
    have ih := ckdec_all (n / 10)
    refine ⟨fun x hx => ?_, by simp⟩
    rcases List.mem_append.1 hx with hx | hx
    · exact ih.1 x hx
    · rw [List.mem_singleton] at hx
      rw [hx, ckdigit_nat (n % 10) (by omega)]; omega
termination_by n
decreasing_by omega
theorem ckpum (n : Nat) (r : List UInt8) (hn : n < 9223372036854775808) : parseUint10 0 (decDigits n ++ r) = parseUint10 n r := by
  by_cases h : n < 10
  · rw [ckdig_one h]
    show parseUint10 0 (UInt8.ofNat (48 + n) :: r) = _
    rw [parseUint10, ckdigit_nat n h, if_pos (by omega), if_neg (by omega), if_neg (by omega)]
    congr 1; omega
  · rw [ckdig_more h, List.append_assoc]
    rw [ckpum (n / 10) _ (by omega)]
    show parseUint10 (n / 10) (UInt8.ofNat (48 + n % 10) :: r) = _
    rw [parseUint10, ckdigit_nat (n % 10) (by omega), if_pos (by omega), if_neg (by omega), if_neg (by omega)]
    congr 1; omega
termination_by n
decreasing_by omega
theorem numC_dec (n : Nat) (hn : n < 9223372036854775808) : numC (decDigits n) = n := by
  obtain ⟨ha, hne⟩ := ckdec_all n
  have hp := ckpum n [] (by omega)
  rw [List.append_nil] at hp
  have hp' : parseUint10 0 (decDigits n) = .ok n := hp
  unfold numC atoiAll
  cases hl : decDigits n with
  | nil => exact absurd hl hne
  | cons c r =>
    have hc := ha c (by rw [hl]; simp)
    rw [hl] at hp'
    have hu : parseMag (if c.toNat = 43 ∨ c.toNat = 45 then r else c :: r) = .ok n := by
      rw [if_neg (by omega)]
      unfold parseMag
      rw [if_neg (by simp)]
      exact hp'
    simp only [hu]
    rw [if_neg (by omega), if_neg (by omega), if_neg (by omega)]
theorem ckitoa_nat (n : Nat) : itoa (n : Int) = decDigits n := by unfold itoa; rw [if_neg (by omega)]; rfl

theorem ckindex_split (c : UInt8) (hc : c.toNat < 48) : ∀ (a b : List UInt8), (∀ x ∈ a, 48 ≤ x.toNat ∧ x.toNat ≤ 57) → indexByte (a ++ c :: b) c = (a.length : Int)
  | [], b, _ => by
    show indexByte (c :: b) c = _
    rw [indexByte]; simp
  | z :: a, b, h => by
    have hz := h z (by simp)
    have ih := ckindex_split c hc a b (fun x hx => h x (by simp [hx]))
    have hne : (z == c) = false := by
      rw [beq_eq_false_iff_ne]
      intro e; rw [e] at hz; omega
    show indexByte (z :: (a ++ c :: b)) c = _
    rw [indexByte, ih, hne]
    have h2 : (((a.length : Int)) == -1) = false := by
      rw [beq_eq_false_iff_ne]; omega
    rw [h2]
    simp
theorem ckcut_split (c : UInt8) (hc : c.toNat < 48) (a b : List UInt8) (h : ∀ x ∈ a, 48 ≤ x.toNat ∧ x.toNat ≤ 57) : cut (a ++ c :: b) [c] = (a, b, true) := by
  unfold cut
  rw [index_one, ckindex_split c hc a b h, if_pos (by omega)]
  simp

theorem pieces (a b c d : List UInt8) (ha : ∀ x ∈ a, 48 ≤ x.toNat ∧ x.toNat ≤ 57) (hb : ∀ x ∈ b, 48 ≤ x.toNat ∧ x.toNat ≤ 57) (hc : ∀ x ∈ c, 48 ≤ x.toNat ∧ x.toNat ≤ 57) :
    pc1 (a ++ (45 :: (b ++ (45 :: (c ++ (32 :: d)))))) = a ∧ pc2 (a ++ (45 :: (b ++ (45 :: (c ++ (32 :: d)))))) = b ∧ pc3 (a ++ (45 :: (b ++ (45 :: (c ++ (32 :: d)))))) = c ∧ pc4 (a ++ (45 :: (b ++ (45 :: (c ++ (32 :: d)))))) = d := by
  unfold pc1 pc2 pc3 pc4
  rw [ckcut_split 45 (by decide) a _ ha]
  simp only
  rw [ckcut_split 45 (by decide) b _ hb]
  simp only
  rw [ckcut_split 32 (by decide) c _ hc]
  simp
/-- A date's text is read as its tick. -/
theorem read_txtC {n k j r h : Nat} (hi : IsD n k j r) (hn : n ≤ 43690) (hh : h < 24) (ht : n * 24 + h ≤ 1048576) : readC (txtC (2000 + (k : Int)) ((j : Int) + 1) ((r : Int) + 1) (h : Int)) = (((n * 24 + h : Nat) : Int), 0) := by
  have hk := hi.small hn
  have e : txtC (2000 + (k : Int)) ((j : Int) + 1) ((r : Int) + 1) (h : Int) = decDigits (2000 + k) ++ (45 :: (decDigits (j + 1) ++ (45 :: (decDigits (r + 1) ++ (32 :: decDigits h))))) := by
    unfold txtC
    rw [← ckitoa_nat, ← ckitoa_nat, ← ckitoa_nat, ← ckitoa_nat]
    rfl
  obtain ⟨p1, p2, p3, p4⟩ := pieces (decDigits (2000 + k)) (decDigits (j + 1)) (decDigits (r + 1)) (decDigits h) (ckdec_all _).1 (ckdec_all _).1 (ckdec_all _).1
  have hj := hi.2.1
  have hr := hi.2.2
  have hm := md_le (2000 + k) (j + 1)
  unfold readC
  rw [e, p1, p2, p3, p4, numC_dec _ (by omega), numC_dec _ (by omega), numC_dec _ (by omega), numC_dec _ (by omega), ← e]
  have ef : fromR (2000 + (k : Int)) ((j : Int) + 1) ((r : Int) + 1) (h : Int) = (((n * 24 + h : Nat) : Int), 0) := by
    rw [fromR_ok hk hj hr, hi.1]
    unfold atR
    rw [if_pos ⟨by omega, by omega, by omega, by omega, by omega⟩]
    rfl
  show readP (2000 + (k : Int)) ((j : Int) + 1) ((r : Int) + 1) (h : Int) _ = _
  unfold readP
  rw [ef, if_pos ⟨rfl, rfl⟩]
/-- What is read is a tick, and that tick's text; or it is refused. -/
theorem readC_or (l : List UInt8) : (∃ T k j r : Nat, readC l = ((T : Int), 0) ∧ T ≤ 1048576 ∧ IsD (T / 24) k j r ∧ txtC (2000 + (k : Int)) ((j : Int) + 1) ((r : Int) + 1) ((T % 24 : Nat) : Int) = l) ∨ readC l = (0, 190) := by
  unfold readC readP
  rcases fromR_or (numC (pc1 l)) (numC (pc2 l)) (numC (pc3 l)) (numC (pc4 l)) with ⟨k, j, r, h1, h2, h3, hk, hi, ha, hf⟩ | hf
  · by_cases hx : txtC (numC (pc1 l)) (numC (pc2 l)) (numC (pc3 l)) (numC (pc4 l)) = l
    · left
      obtain ⟨a1, a2, a3, a4, a5⟩ := ha
      obtain ⟨h, hh⟩ : ∃ h : Nat, numC (pc4 l) = (h : Int) := ⟨(numC (pc4 l)).toNat, by omega⟩
      rw [hh] at a1 a2 a5
      refine ⟨(yT k + mT (2000 + k) j + r) * 24 + h, k, j, r, ?_, by omega, ?_, ?_⟩
      · rw [hf, if_pos ⟨rfl, hx⟩, hh]; rfl
      · rw [show ((yT k + mT (2000 + k) j + r) * 24 + h) / 24 = yT k + mT (2000 + k) j + r by omega]; exact hi
      · rw [show ((yT k + mT (2000 + k) j + r) * 24 + h) % 24 = h by omega, ← h1, ← h2, ← h3, ← hh]; exact hx
    · right; rw [if_neg (fun g => hx g.2)]
  · right; rw [hf, if_neg (fun g => absurd g.1 (by decide))]
/-- What From tells is a tick of that date; or the date is refused. -/
theorem fromR_tick (y m d h : Int) : (∃ T k j r : Nat, fromR y m d h = ((T : Int), 0) ∧ T ≤ 1048576 ∧ IsD (T / 24) k j r ∧ y = 2000 + (k : Int) ∧ m = (j : Int) + 1 ∧ d = (r : Int) + 1 ∧ h = ((T % 24 : Nat) : Int)) ∨ fromR y m d h = (0, 2) := by
  rcases fromR_or y m d h with ⟨k, j, r, h1, h2, h3, hk, hi, ha, hf⟩ | hf
  · left
    obtain ⟨a1, a2, a3, a4, a5⟩ := ha
    obtain ⟨h', rfl⟩ : ∃ h' : Nat, h = (h' : Int) := ⟨h.toNat, by omega⟩
    refine ⟨(yT k + mT (2000 + k) j + r) * 24 + h', k, j, r, ?_, by omega, ?_, h1, h2, h3, ?_⟩
    · rw [hf]; rfl
    · rw [show ((yT k + mT (2000 + k) j + r) * 24 + h') / 24 = yT k + mT (2000 + k) j + r by omega]; exact hi
    · rw [show ((yT k + mT (2000 + k) j + r) * 24 + h') % 24 = h' by omega]
  · exact .inr hf
end Go.Proofs.YtglocbmkcklklaaDoor

/- The document's answers of layer 9: Check, Span, At, Of, Week, leap, days, Date. -/
namespace Go.Proofs.YtglocbmkcklklaaDoor
open Go.RowKit Go.Lib
set_option linter.unusedVariables false
set_option linter.unusedSimpArgs false

theorem cdcheck_any (t : Int) (w : World) (h : I64 t) :
    Calls Tryd.prog 21 #[.int .i64 t] w fun e w' => e = .returned (.int .i64 (ckR t)) ∧ w' = w := by
  have HN : Hid (¬ (0 ≤ t ∧ t ≤ 1048576) → ckR t = 2) := fun h => if_neg h
  have HY : Hid ((0 ≤ t ∧ t ≤ 1048576) → ckR t = 0) := fun h => if_pos h
  go_enter Tryd.func21, Tryd.ntmps21
  go_wp2_with fail
  all_goals
    go_ret
    first
    | exact ⟨ret_int (HN.out (by omega)).symm, rfl⟩
    | exact ⟨ret_int (HY.out (by omega)).symm, rfl⟩
theorem cdof_ok (t : Nat) (w : World) (h : t ≤ 1048576) :
    Calls Tryd.prog 9 #[.int .i64 (t : Int)] w fun e w' => e = .returned (.tuple #[.int .i64 ((t / 24 : Nat) : Int), .int .i64 ((t % 24 : Nat) : Int), .int .i64 0]) ∧ w' = w := by
  have HC := hid (cdcheck_any t w ⟨by omega, by omega⟩)
  rw [show ckR (t : Int) = 0 from if_pos ⟨by omega, by omega⟩] at HC
  have a1 : Int.tdiv (t : Int) 24 = ((t / 24 : Nat) : Int) := rfl
  have a2 : Int.tmod (t : Int) 24 = ((t % 24 : Nat) : Int) := rfl
  have a3 : IntKind.i64.wrap ((t / 24 : Nat) : Int) = ((t / 24 : Nat) : Int) := by rw [IntKind.wrap_i64]; omega
  have a4 : IntKind.i64.wrap ((t % 24 : Nat) : Int) = ((t % 24 : Nat) : Int) := by rw [IntKind.wrap_i64]; omega
  go_enter Tryd.func9, Tryd.ntmps9
  go_wp2_with fail
  refine Calls.mono HC.out ?_
  rintro e w1 ⟨rfl, rfl⟩
  go_wp2_with fail
  go_returns
  exact ⟨by go_num, rfl⟩
theorem cdof_err (t : Int) (w : World) (h : I64 t) (hn : ¬ (0 ≤ t ∧ t ≤ 1048576)) :
    Calls Tryd.prog 9 #[.int .i64 t] w fun e w' => e = .returned (.tuple #[.int .i64 0, .int .i64 0, .int .i64 2]) ∧ w' = w := by
  have HC := hid (cdcheck_any t w h)
  rw [show ckR t = 2 from if_neg hn] at HC
  clear hn h
  go_enter Tryd.func9, Tryd.ntmps9
  go_wp2_with fail
  refine Calls.mono HC.out ?_
  rintro e w1 ⟨rfl, rfl⟩
  go_wp2_with fail
  go_returns
  exact ⟨rfl, rfl⟩
theorem cdleap_any (y : Nat) (w : World) (h : y ≤ 1048576) :
    Calls Tryd.prog 35 #[.int .i64 (y : Int)] w fun e w' => e = .returned (.bool (lp y)) ∧ w' = w := by
  have a1 : Int.tmod (y : Int) 4 = ((y % 4 : Nat) : Int) := rfl
  have a2 : Int.tmod (y : Int) 100 = ((y % 100 : Nat) : Int) := rfl
  have a3 : Int.tmod (y : Int) 400 = ((y % 400 : Nat) : Int) := rfl
  have HR : Hid (∀ b : Bool, (b = true ↔ (y % 4 = 0 ∧ ¬ y % 100 = 0 ∨ y % 400 = 0)) → Ending.returned (.bool b) = .returned (.bool (lp y))) := fun b hb => by
    congr 2
    unfold lp
    rw [Bool.eq_iff_iff, hb]
    simp
  go_enter Tryd.func35, Tryd.ntmps35
  go_wp2_with fail
  all_goals
    go_returns
    refine ⟨HR.out _ ?_, rfl⟩
    simp
    omega

theorem cdweek_ok (t : Nat) (w : World) (h : t ≤ 1048576) :
    Calls Tryd.prog 15 #[.int .i64 (t : Int)] w fun e w' => e = .returned (.tuple #[.int .i64 (((t / 24 + 5) % 7 : Nat) : Int), .int .i64 0]) ∧ w' = w := by
  have HC := hid (cdcheck_any (t : Int) w ⟨by omega, by omega⟩)
  rw [show ckR (t : Int) = 0 from if_pos ⟨by omega, by omega⟩] at HC
  have a1 : Int.tdiv (t : Int) 24 = ((t / 24 : Nat) : Int) := rfl
  have a3 : IntKind.i64.wrap ((t / 24 : Nat) : Int) = ((t / 24 : Nat) : Int) := by rw [IntKind.wrap_i64]; omega
  have a5 : IntKind.i64.wrap (5 + ((t / 24 : Nat) : Int)) = 5 + ((t / 24 : Nat) : Int) := by rw [IntKind.wrap_i64]; omega
  have a2 : Int.tmod (5 + ((t / 24 : Nat) : Int)) 7 = (((t / 24 + 5) % 7 : Nat) : Int) := by rw [Int.add_comm]; rfl
  have a4 : IntKind.i64.wrap (((t / 24 + 5) % 7 : Nat) : Int) = (((t / 24 + 5) % 7 : Nat) : Int) := by rw [IntKind.wrap_i64]; omega
  go_enter Tryd.func15, Tryd.ntmps15
  go_wp2_with fail
  refine Calls.mono HC.out ?_
  rintro e w1 ⟨rfl, rfl⟩
  go_wp2_with fail
  go_returns
  exact ⟨by go_num, rfl⟩
theorem cdweek_err (t : Int) (w : World) (h : I64 t) (hn : ¬ (0 ≤ t ∧ t ≤ 1048576)) :
    Calls Tryd.prog 15 #[.int .i64 t] w fun e w' => e = .returned (.tuple #[.int .i64 0, .int .i64 2]) ∧ w' = w := by
  have HC := hid (cdcheck_any t w h)
  rw [show ckR t = 2 from if_neg hn] at HC
  clear hn h
  go_enter Tryd.func15, Tryd.ntmps15
  go_wp2_with fail
  refine Calls.mono HC.out ?_
  rintro e w1 ⟨rfl, rfl⟩
  go_wp2_with fail
  go_returns
  exact ⟨rfl, rfl⟩
theorem cdat_any (d h : Int) (w : World) (hd : I64 d) (hh : I64 h) :
    Calls Tryd.prog 7 #[.int .i64 d, .int .i64 h] w fun e w' => e = .returned (.tuple #[.int .i64 (atR d h).1, .int .i64 (atR d h).2]) ∧ w' = w := by
  have HN : Hid (¬ okA d h → atR d h = (0, 2)) := fun h => if_neg h
  have HY : Hid (okA d h → atR d h = (d * 24 + h, 0)) := fun h => if_pos h
  by_cases hk : 0 ≤ h ∧ h < 24 ∧ 0 ≤ d ∧ d ≤ 43690
  · have x1 : IntKind.i64.wrap (24 * d) = d * 24 := by rw [IntKind.wrap_i64]; omega
    have x2 : IntKind.i64.wrap (d * 24 + h) = d * 24 + h := by rw [IntKind.wrap_i64]; omega
    obtain ⟨k1, k2, k3, k4⟩ := hk
    have z1 : decide (h < 0) = false := decide_eq_false (by omega)
    have z2 : decide (23 < h) = false := decide_eq_false (by omega)
    have z3 : decide (d < 0) = false := decide_eq_false (by omega)
    have z4 : decide (43690 < d) = false := decide_eq_false (by omega)
    by_cases h1 : d * 24 + h ≤ 1048576
    · rw [HY.out ⟨k1, k2, k3, k4, h1⟩]
      have z5 : decide (1048576 < d * 24 + h) = false := decide_eq_false (by omega)
      clear HN HY
      go_enter Tryd.func7, Tryd.ntmps7
      go_wp2_with fail
      go_returns
      exact ⟨rfl, rfl⟩
    · rw [HN.out (fun g => h1 g.2.2.2.2)]
      have z5 : decide (1048576 < d * 24 + h) = true := decide_eq_true (by omega)
      clear HN HY
      go_enter Tryd.func7, Tryd.ntmps7
      go_wp2_with fail
      go_returns
      exact ⟨rfl, rfl⟩
  · rw [HN.out (fun g => hk ⟨g.1, g.2.1, g.2.2.1, g.2.2.2.1⟩)]
    clear HN HY
    by_cases g1 : h < 0
    · have z1 : decide (h < 0) = true := decide_eq_true g1
      go_enter Tryd.func7, Tryd.ntmps7
      go_wp2_with fail
      go_returns
      exact ⟨rfl, rfl⟩
    · have z1 : decide (h < 0) = false := decide_eq_false g1
      by_cases g2 : 23 < h
      · have z2 : decide (23 < h) = true := decide_eq_true g2
        go_enter Tryd.func7, Tryd.ntmps7
        go_wp2_with fail
        go_returns
        exact ⟨rfl, rfl⟩
      · have z2 : decide (23 < h) = false := decide_eq_false g2
        by_cases g3 : d < 0
        · have z3 : decide (d < 0) = true := decide_eq_true g3
          go_enter Tryd.func7, Tryd.ntmps7
          go_wp2_with fail
          go_returns
          exact ⟨rfl, rfl⟩
        · have z3 : decide (d < 0) = false := decide_eq_false g3
          have z4 : decide (43690 < d) = true := decide_eq_true (by omega)
          go_enter Tryd.func7, Tryd.ntmps7
          go_wp2_with fail
          go_returns
          exact ⟨rfl, rfl⟩
def spanR (a b : Int) : Int := if a < 0 ∨ 1048577 < b ∨ b < a then 2 else if 4096 < b - a then 3 else 0
theorem ckspan_any (a b : Int) (w : World) (ha : I64 a) (hb : I64 b) :
    Calls Tryd.prog 22 #[.int .i64 a, .int .i64 b] w fun e w' => e = .returned (.int .i64 (spanR a b)) ∧ w' = w := by
  unfold spanR
  by_cases h1 : a < 0
  · rw [if_pos (.inl h1)]
    have z1 : decide (a < 0) = true := decide_eq_true h1
    go_enter Tryd.func22, Tryd.ntmps22
    go_wp2_with fail
    go_ret
    exact ⟨by first | rfl | exact ret_int rfl, rfl⟩
  · have z1 : decide (a < 0) = false := decide_eq_false h1
    by_cases h2 : 1048577 < b
    · rw [if_pos (.inr (.inl h2))]
      have z2 : decide (1048577 < b) = true := decide_eq_true h2
      go_enter Tryd.func22, Tryd.ntmps22
      go_wp2_with fail
      go_ret
      exact ⟨by first | rfl | exact ret_int rfl, rfl⟩
    · have z2 : decide (1048577 < b) = false := decide_eq_false h2
      by_cases h3 : b < a
      · rw [if_pos (.inr (.inr h3))]
        have z3 : decide (b < a) = true := decide_eq_true h3
        go_enter Tryd.func22, Tryd.ntmps22
        go_wp2_with fail
        go_ret
        exact ⟨by first | rfl | exact ret_int rfl, rfl⟩
      · rw [if_neg (by omega)]
        have z3 : decide (b < a) = false := decide_eq_false h3
        obtain ⟨ha1, ha2⟩ := ha
        obtain ⟨hb1, hb2⟩ := hb
        have x1 : IntKind.i64.wrap (b - a) = b - a := by rw [IntKind.wrap_i64]; omega
        by_cases h4 : 4096 < b - a
        · rw [if_pos h4]
          have z4 : decide (4096 < b - a) = true := decide_eq_true h4
          go_enter Tryd.func22, Tryd.ntmps22
          go_wp2_with fail
          go_ret
          exact ⟨by first | rfl | exact ret_int rfl, rfl⟩
        · rw [if_neg h4]
          have z4 : decide (4096 < b - a) = false := decide_eq_false h4
          go_enter Tryd.func22, Tryd.ntmps22
          go_wp2_with fail
          go_ret
          exact ⟨by first | rfl | exact ret_int rfl, rfl⟩
theorem cdspan_any (a b : Int) (w : World) (ha : I64 a) (hb : I64 b) :
    Calls Tryd.prog 23 #[.int .i64 a, .int .i64 b] w fun e w' => e = .returned (.int .i64 (spanR a b)) ∧ w' = w := by
  unfold spanR
  by_cases h1 : a < 0
  · rw [if_pos (.inl h1)]
    have z1 : decide (a < 0) = true := decide_eq_true h1
    go_enter Tryd.func23, Tryd.ntmps23
    go_wp2_with fail
    go_ret
    exact ⟨by first | rfl | exact ret_int rfl, rfl⟩
  · have z1 : decide (a < 0) = false := decide_eq_false h1
    by_cases h2 : 1048577 < b
    · rw [if_pos (.inr (.inl h2))]
      have z2 : decide (1048577 < b) = true := decide_eq_true h2
      go_enter Tryd.func23, Tryd.ntmps23
      go_wp2_with fail
      go_ret
      exact ⟨by first | rfl | exact ret_int rfl, rfl⟩
    · have z2 : decide (1048577 < b) = false := decide_eq_false h2
      by_cases h3 : b < a
      · rw [if_pos (.inr (.inr h3))]
        have z3 : decide (b < a) = true := decide_eq_true h3
        go_enter Tryd.func23, Tryd.ntmps23
        go_wp2_with fail
        go_ret
        exact ⟨by first | rfl | exact ret_int rfl, rfl⟩
      · rw [if_neg (by omega)]
        have z3 : decide (b < a) = false := decide_eq_false h3
        obtain ⟨ha1, ha2⟩ := ha
        obtain ⟨hb1, hb2⟩ := hb
        have x1 : IntKind.i64.wrap (b - a) = b - a := by rw [IntKind.wrap_i64]; omega
        by_cases h4 : 4096 < b - a
        · rw [if_pos h4]
          have z4 : decide (4096 < b - a) = true := decide_eq_true h4
          go_enter Tryd.func23, Tryd.ntmps23
          go_wp2_with fail
          go_ret
          exact ⟨by first | rfl | exact ret_int rfl, rfl⟩
        · rw [if_neg h4]
          have z4 : decide (4096 < b - a) = false := decide_eq_false h4
          go_enter Tryd.func23, Tryd.ntmps23
          go_wp2_with fail
          go_ret
          exact ⟨by first | rfl | exact ret_int rfl, rfl⟩

theorem cddays_any (y : Nat) (m : Nat) (w : World) (h : y ≤ 1048576) (h1 : 1 ≤ m) (h2 : m ≤ 12) :
    Calls Tryd.prog 34 #[.int .i64 (y : Int), .int .i64 (m : Int)] w fun e w' => e = .returned (.int .i64 ((md y m : Nat) : Int)) ∧ w' = w := by
  have HC := hid (cdleap_any y w h)
  have H31 : Hid (m = 1 ∨ m = 3 ∨ m = 5 ∨ m = 7 ∨ m = 8 ∨ m = 10 ∨ m = 12 → md y m = 31) := fun h => by
    unfold md
    rw [if_neg (by omega), if_neg (by omega), if_pos (by omega)]
  have H30 : Hid (m = 4 ∨ m = 6 ∨ m = 9 ∨ m = 11 → md y m = 30) := fun h => by
    unfold md
    rw [if_neg (by omega), if_pos (by omega)]
  have H2 : Hid (m = 2 → md y m = if lp y then 29 else 28) := fun h => by
    unfold md
    rw [if_pos h]
  obtain ⟨b, hb⟩ : ∃ b, lp y = b := ⟨_, rfl⟩
  rw [hb] at HC H2
  clear hb
  have hc : m = 1 ∨ m = 3 ∨ m = 5 ∨ m = 7 ∨ m = 8 ∨ m = 10 ∨ m = 12 ∨ m = 4 ∨ m = 6 ∨ m = 9 ∨ m = 11 ∨ m = 2 := by omega
  clear h1 h2
  rcases hc with rfl | rfl | rfl | rfl | rfl | rfl | rfl | rfl | rfl | rfl | rfl | rfl
  iterate 7
    · rw [H31.out (by omega)]
      clear H31 H30 H2 HC
      go_enter Tryd.func34, Tryd.ntmps34
      go_wp2_with fail
      go_returns
      exact ⟨rfl, rfl⟩
  iterate 4
    · rw [H30.out (by omega)]
      clear H31 H30 H2 HC
      go_enter Tryd.func34, Tryd.ntmps34
      go_wp2_with fail
      go_returns
      exact ⟨rfl, rfl⟩
  rw [H2.out rfl]
  clear H31 H30 H2
  cases b
  all_goals
    simp only [if_true, if_false, Bool.false_eq_true]
    go_enter Tryd.func34, Tryd.ntmps34
    go_wp2_with fail
    refine Calls.mono HC.out ?_
    rintro e w1 ⟨rfl, rfl⟩
    go_wp2_with fail
    go_returns
    exact ⟨rfl, rfl⟩
end Go.Proofs.YtglocbmkcklklaaDoor

/- The document's answers of layer 9: Date, From. -/
namespace Go.Proofs.YtglocbmkcklklaaDoor
open Go.RowKit
set_option linter.unusedVariables false
set_option linter.unusedSimpArgs false

set_option maxHeartbeats 1600000 in
set_option maxRecDepth 100000 in
theorem cddate_ok (t : Nat) (w : World) (h : t ≤ 1048576) :
    Calls Tryd.prog 11 #[.int .i64 (t : Int)] w fun e w' => (∃ k j r, IsD (t / 24) k j r ∧ e = .returned (.tuple #[.agg (dA ((2000 + k : Nat) : Int) ((j + 1 : Nat) : Int) ((r + 1 : Nat) : Int) ((t % 24 : Nat) : Int)), .int .i64 0])) ∧ Below w.heap.size w w' := by
  have HC := hid (fun V => cdcheck_any (t : Int) V ⟨by omega, by omega⟩)
  rw [show ckR (t : Int) = 0 from if_pos ⟨by omega, by omega⟩] at HC
  have HX := hid (FBox.made w 23 (dA 0 0 0 0))
  have HBX : Hid (Below w.heap.size w (w.alloc (.cells (dA 0 0 0 0) 23))) := (Below.refl _ _).alloc (Nat.le_refl _) _
  have a1 : Int.tdiv (t : Int) 24 = ((t / 24 : Nat) : Int) := rfl
  have a2 : Int.tmod (t : Int) 24 = ((t % 24 : Nat) : Int) := rfl
  have a3 : IntKind.i64.wrap ((t / 24 : Nat) : Int) = ((t / 24 : Nat) : Int) := by rw [IntKind.wrap_i64]; omega
  have a4 : IntKind.i64.wrap ((t % 24 : Nat) : Int) = ((t % 24 : Nat) : Int) := by rw [IntKind.wrap_i64]; omega
  have hD24 : t / 24 ≤ 43690 := by omega
  have hH24 : t % 24 < 24 := by omega
  obtain ⟨D, hD⟩ : ∃ D, t / 24 = D := ⟨_, rfl⟩
  obtain ⟨H, hH⟩ : ∃ H, t % 24 = H := ⟨_, rfl⟩
  rw [hD] at a1 a3 hD24 ⊢
  rw [hH] at a2 a4 hH24 ⊢
  have a1' : (t : Int) / 24 = (D : Int) := by omega
  have a2' : (t : Int) % 24 = (H : Int) := by omega
  clear hD hH
  unfold dA at HX HBX
  go_enter Tryd.func11, Tryd.ntmps11
  go_wp2_with fail
  generalize hX : w.alloc (.cells #[.int .i64 0, .int .i64 0, .int .i64 0, .int .i64 0] 23) = X at *
  refine Calls.mono (HC.out _) ?_
  rintro e w1 ⟨rfl, rfl⟩
  clear hX HC
  go_wp2_with fail
  go_loopw [5, 6, 7] (fun x z u wr => ∃ k j y : Nat, x = .int .i64 (2000 + (k : Int)) ∧ z = .int .i64 ((j : Int) + 1) ∧ u = .int .i64 (y : Int) ∧ j < 12 ∧ Hid (yT k + mT (2000 + k) j + y = D) ∧ wr = w1) (fun _ _ u _ => (intOf u).toNat)
  case atStart => exact ⟨0, 0, D, rfl, rfl, rfl, by omega, hid (by simp [yT, mT]), rfl⟩
  case round =>
    obtain ⟨k, j, y, rfl, rfl, rfl, hj, hy, rfl⟩ := hrel
    have hk : k ≤ 119 := by
      have := (yT_365 k).1
      have e := hy.out
      omega
    have hyD : y ≤ D := by have := hy.out; omega
    have HY := hid (fun V => cddays_any (2000 + k) (j + 1) V (by omega) (by omega) (by omega))
    have hmp := md_pos (2000 + k) (j + 1) (by omega) (by omega)
    have hml := md_le (2000 + k) (j + 1)
    have HS : Hid (mT (2000 + k) (j + 1) = mT (2000 + k) j + md (2000 + k) (j + 1)) := rfl
    have HQ : Hid (y < md (2000 + k) (j + 1) → IsD D k j y) := fun g => ⟨hy.out, hj, g⟩
    generalize md (2000 + k) (j + 1) = M at *
    go_wp2_with fail
    refine Calls.mono (HY.out wr) ?_
    rintro e w2 ⟨rfl, rfl⟩
    by_cases hc : M ≤ y
    · have hc1 : decide ((M : Int) ≤ (y : Int)) = true := decide_eq_true (by omega)
      have x1 : IntKind.i64.wrap ((y : Int) - (M : Int)) = ((y - M : Nat) : Int) := by rw [IntKind.wrap_i64]; omega
      have x2 : IntKind.i64.wrap ((j : Int) + 1 + 1) = (j : Int) + 1 + 1 := by rw [IntKind.wrap_i64]; omega
      have x3 : IntKind.i64.wrap (2000 + (k : Int) + 1) = 2000 + ((k : Int) + 1) := by rw [IntKind.wrap_i64]; omega
      clear HQ
      by_cases hl : j + 1 < 12
      · have q1 : decide (12 < (j : Int) + 1 + 1) = false := decide_eq_false (by omega)
        go_wp2_with fail
        refine Calls.mono (HY.out w2) ?_
        rintro e w3 ⟨rfl, rfl⟩
        go_wp2_with fail
        go_roundw
        case rel => exact ⟨k, j + 1, y - M, rfl, rfl, rfl, hl, hid (by have := hy.out; have := HS.out; omega), by trivial⟩
        case measure => simp [intOf]; omega
      · obtain rfl : j = 11 := by omega
        have HZ : Hid (yT (k + 1) + mT (2000 + (k + 1)) 0 + (y - M) = D) := by
          show _ = _
          have a := mT12 (2000 + k)
          have b : yT (k + 1) = yT k + yd (2000 + k) := rfl
          have c : mT (2000 + (k + 1)) 0 = 0 := rfl
          have d : mT (2000 + k) 12 = mT (2000 + k) 11 + M := HS.out
          have e := hy.out
          omega
        have q1 : decide (12 < ((11 : Nat) : Int) + 1 + 1) = true := decide_eq_true (by omega)
        clear HS
        go_wp2_with fail
        refine Calls.mono (HY.out w2) ?_
        rintro e w3 ⟨rfl, rfl⟩
        go_wp2_with fail
        go_roundw
        case rel => exact ⟨k + 1, 0, y - M, rfl, rfl, rfl, by omega, HZ, by trivial⟩
        case measure => simp [intOf]; omega
    · have hc1 : decide ((M : Int) ≤ (y : Int)) = false := decide_eq_false (by omega)
      have HI := hid (HQ.out (by omega))
      have x1 : IntKind.i64.wrap ((y : Int) + 1) = (y : Int) + 1 := by rw [IntKind.wrap_i64]; omega
      obtain ⟨e0, e1, e2, e3, k0, k1, k2, k3⟩ := dbox_facts (show FBox w2 w.heap.size 23 (dA 0 0 0 0) from HX.out) (Below.refl _ _)
      clear HQ HS HY
      go_wp2_with fail
      refine bodyPost_ret (v := .tuple #[.agg (dA ((2000 + k : Nat) : Int) ((j + 1 : Nat) : Int) ((y + 1 : Nat) : Int) (H : Int)), .int .i64 0]) (by simp [results, Tryd.results11, go_sem, e0, e1, e2, e3, k0, k1, k2, k3, dA]) rfl ?_
      exact ⟨⟨k, j, y, HI.out, rfl⟩, fput4 HBX.out _ (Nat.le_refl _) _ _ _ _⟩
set_option maxHeartbeats 800000 in
set_option maxRecDepth 100000 in
theorem cddate_err (t : Int) (w : World) (h : I64 t) (hn : ¬ (0 ≤ t ∧ t ≤ 1048576)) :
    Calls Tryd.prog 11 #[.int .i64 t] w fun e w' => e = .returned (.tuple #[.agg (dA 0 0 0 0), .int .i64 2]) ∧ Below w.heap.size w w' := by
  have HC := hid (fun V => cdcheck_any t V h)
  rw [show ckR t = 2 from if_neg hn] at HC
  have HX := hid (FBox.made w 23 (dA 0 0 0 0))
  have HBX : Hid (Below w.heap.size w (w.alloc (.cells (dA 0 0 0 0) 23))) := (Below.refl _ _).alloc (Nat.le_refl _) _
  unfold dA at HX HBX
  clear hn
  go_enter Tryd.func11, Tryd.ntmps11
  go_wp2_with fail
  generalize hX : w.alloc (.cells #[.int .i64 0, .int .i64 0, .int .i64 0, .int .i64 0] 23) = X at *
  refine Calls.mono (HC.out _) ?_
  rintro e w1 ⟨rfl, rfl⟩
  obtain ⟨e0, e1, e2, e3, k0, k1, k2, k3⟩ := dbox_facts (show FBox w1 w.heap.size 23 (dA 0 0 0 0) from HX.out) (Below.refl _ _)
  clear hX HC
  go_wp2_with fail
  refine bodyPost_ret (v := .tuple #[.agg (dA 0 0 0 0), .int .i64 2]) (by simp [results, Tryd.results11, go_sem, e0, e1, e2, e3, k0, k1, k2, k3, dA]) rfl ?_
  exact ⟨rfl, fput4 HBX.out _ (Nat.le_refl _) _ _ _ _⟩

set_option maxHeartbeats 1600000 in
set_option maxRecDepth 100000 in
theorem cdfrom_in (k j r h : Nat) (w : World) (hk : k ≤ 200) (hj : j < 12) (hr : r < md (2000 + k) (j + 1)) (hh : h < 24) :
    Calls Tryd.prog 13 #[.agg (dA (2000 + (k : Int)) ((j : Int) + 1) ((r : Int) + 1) (h : Int))] w fun e w' => e = .returned (.tuple #[.int .i64 (atR ((yT k + mT (2000 + k) j + r : Nat) : Int) h).1, .int .i64 (atR ((yT k + mT (2000 + k) j + r : Nat) : Int) h).2]) ∧ Below w.heap.size w w' := by
  have HX := hid (FBox.made w 23 (dA (2000 + (k : Int)) ((j : Int) + 1) ((r : Int) + 1) (h : Int)))
  have HBX : Hid (Below w.heap.size w (w.alloc (.cells (dA (2000 + (k : Int)) ((j : Int) + 1) ((r : Int) + 1) (h : Int)) 23))) := (Below.refl _ _).alloc (Nat.le_refl _) _
  have HM := hid (fun V => cddays_any (2000 + k) (j + 1) V (by omega) (by omega) (by omega))
  have hml := md_le (2000 + k) (j + 1)
  have hyk := yT_365 k
  have hm12 : mT (2000 + k) j ≤ 366 := by
    have a2 := mT_le (2000 + k) j 12 (by omega)
    have a3 := mT12 (2000 + k)
    have a4 := yd_or (2000 + k)
    omega
  have HR : Hid (∀ a : Nat, a = yT k + mT (2000 + k) j + r → ∀ V, Calls Tryd.prog 7 #[.int .i64 (a : Int), .int .i64 (h : Int)] V fun e w' => e = .returned (.tuple #[.int .i64 (atR ((yT k + mT (2000 + k) j + r : Nat) : Int) h).1, .int .i64 (atR ((yT k + mT (2000 + k) j + r : Nat) : Int) h).2]) ∧ w' = V) := fun a ha V => by
    subst ha
    exact cdat_any _ _ V ⟨by omega, by omega⟩ ⟨by omega, by omega⟩
  generalize hA : (atR ((yT k + mT (2000 + k) j + r : Nat) : Int) h) = A at *
  generalize hMM : md (2000 + k) (j + 1) = M at *
  unfold dA at HX HBX ⊢
  clear hA
  obtain ⟨c0, c1, c2, c3, g0, g1, g2, g3⟩ := dbox_facts (show FBox _ w.heap.size 23 (dA (2000 + (k : Int)) ((j : Int) + 1) ((r : Int) + 1) (h : Int)) from HX.out) (Below.refl _ _)
  have y1 : decide (2000 + (k : Int) < 2000) = false := decide_eq_false (by omega)
  have y2 : decide (2200 < 2000 + (k : Int)) = false := decide_eq_false (by omega)
  have y3 : decide ((j : Int) + 1 < 1) = false := decide_eq_false (by omega)
  have y4 : decide (12 < (j : Int) + 1) = false := decide_eq_false (by omega)
  have z1 : decide ((r : Int) + 1 < 1) = false := decide_eq_false (by omega)
  have z2 : decide ((M : Int) < (r : Int) + 1) = false := decide_eq_false (by omega)
  have z3 : decide ((h : Int) < 0) = false := decide_eq_false (by omega)
  have z4 : decide (23 < (h : Int)) = false := decide_eq_false (by omega)
  have x1 : IntKind.i64.wrap ((r : Int) + 1 - 1) = (r : Int) := by rw [IntKind.wrap_i64]; omega
  go_enter Tryd.func13, Tryd.ntmps13
  go_wp2_with fail
  generalize w.alloc (.cells #[.int .i64 (2000 + (k : Int)), .int .i64 ((j : Int) + 1), .int .i64 ((r : Int) + 1), .int .i64 (h : Int)] 23) = X at *
  go_quiet ((go_at_call 34; exact Calls.quiet_of_same (HM.out _)))
  have HFX : Hid (FBox X w.heap.size 23 (dA (2000 + (k : Int)) ((j : Int) + 1) ((r : Int) + 1) (h : Int))) := HX.out
  clear HX
  go_wp2_with fail
  clear c0 c1 c2 c3 g0 g1 g2 g3 y1 y2 y3 y4 z1 z2 z3 z4
  go_loopw [4, 5] (fun x y wr => ∃ l : Nat, l ≤ j ∧ x = .int .i64 ((r : Int) + (mT (2000 + k) l : Int)) ∧ y = .int .i64 ((l : Int) + 1) ∧ Hid (FBox wr w.heap.size 23 (dA (2000 + (k : Int)) ((j : Int) + 1) ((r : Int) + 1) (h : Int))) ∧ Hid (Below w.heap.size w wr)) (fun _ y _ => ((j : Int) + 1 - intOf y).toNat)
  case atStart => exact ⟨0, by omega, by simp [mT], rfl, HFX, hid (Below.drewM HBX.out)⟩
  case round =>
    obtain ⟨l, hl, rfl, rfl, hfb, hbw⟩ := hrel
    obtain ⟨c0, c1, c2, c3, g0, g1, g2, g3⟩ := dbox_facts hfb.out (Below.refl _ _)
    have hml2 := mT_le (2000 + k) l j hl
    by_cases hc : l < j
    · have HY := hid (fun V => cddays_any (2000 + k) (l + 1) V (by omega) (by omega) (by omega))
      have HS : Hid (mT (2000 + k) (l + 1) = mT (2000 + k) l + md (2000 + k) (l + 1)) := rfl
      have hyd := md_le (2000 + k) (l + 1)
      generalize md (2000 + k) (l + 1) = Y at *
      have q1 : decide ((l : Int) + 1 < (j : Int) + 1) = true := decide_eq_true (by omega)
      have x2 : IntKind.i64.wrap ((r : Int) + (mT (2000 + k) l : Int) + (Y : Int)) = (r : Int) + ((mT (2000 + k) l + Y : Nat) : Int) := by rw [IntKind.wrap_i64]; omega
      have x3 : IntKind.i64.wrap ((l : Int) + 1 + 1) = ((l + 1 : Nat) : Int) + 1 := by rw [IntKind.wrap_i64]; omega
      go_wp2_with fail
      refine Calls.mono (HY.out _) ?_
      rintro e w2 ⟨rfl, rfl⟩
      go_wp2_with fail
      go_roundw
      case rel => exact ⟨l + 1, by omega, by rw [HS.out]; rfl, rfl, hfb, hbw⟩
      case measure => simp [intOf]; omega
    · obtain rfl : l = j := by omega
      have q1 : decide ((l : Int) + 1 < (l : Int) + 1) = false := decide_eq_false (by omega)
      go_wp2_with fail
      clear c0 c1 c2 c3 g0 g1 g2 g3 q1
      go_loopw [4, 6] (fun x y wr => ∃ i : Nat, i ≤ k ∧ x = .int .i64 ((r : Int) + (mT (2000 + k) l : Int) + (yT i : Int)) ∧ y = .int .i64 (2000 + (i : Int)) ∧ Hid (FBox wr w.heap.size 23 (dA (2000 + (k : Int)) ((l : Int) + 1) ((r : Int) + 1) (h : Int))) ∧ Hid (Below w.heap.size w wr)) (fun _ y _ => (2000 + (k : Int) - intOf y).toNat)
      case atStart => exact ⟨0, by omega, by simp [yT], rfl, hfb, hbw⟩
      case round =>
        obtain ⟨i, hi, rfl, rfl, hfb, hbw⟩ := hrel
        obtain ⟨c0, c1, c2, c3, g0, g1, g2, g3⟩ := dbox_facts hfb.out (Below.refl _ _)
        have hyi := yT_365 i
        by_cases hc : i < k
        · have HY := hid (fun V => cdleap_any (2000 + i) V (by omega))
          have HS : Hid (yT (i + 1) = yT i + (if lp (2000 + i) then 366 else 365)) := rfl
          have q1 : decide (2000 + (i : Int) < 2000 + (k : Int)) = true := decide_eq_true (by omega)
          have x2 : IntKind.i64.wrap ((r : Int) + (mT (2000 + k) l : Int) + (yT i : Int) + 365) = (r : Int) + (mT (2000 + k) l : Int) + ((yT i + 365 : Nat) : Int) := by rw [IntKind.wrap_i64]; omega
          have x4 : IntKind.i64.wrap ((r : Int) + (mT (2000 + k) l : Int) + ((yT i : Int) + 365) + 1) = (r : Int) + (mT (2000 + k) l : Int) + ((yT i + 366 : Nat) : Int) := by rw [IntKind.wrap_i64]; omega
          have x3 : IntKind.i64.wrap (2000 + (i : Int) + 1) = 2000 + ((i + 1 : Nat) : Int) := by rw [IntKind.wrap_i64]; omega
          cases hlp : lp (2000 + i)
          all_goals
            rw [hlp] at HY HS
            clear hlp
            go_wp2_with fail
            refine Calls.mono (HY.out _) ?_
            rintro e w2 ⟨rfl, rfl⟩
            go_wp2_with fail
            go_roundw
            case rel => exact ⟨i + 1, by omega, by rw [HS.out]; rfl, rfl, hfb, hbw⟩
            case measure => simp [intOf]; omega
        · obtain rfl : i = k := by omega
          have q1 : decide (2000 + (i : Int) < 2000 + (i : Int)) = false := decide_eq_false (by omega)
          have HZ := hid (fun V => HR.out (yT i + mT (2000 + i) l + r) rfl V)
          have e1 : (r : Int) + (mT (2000 + i) l : Int) + (yT i : Int) = ((yT i + mT (2000 + i) l + r : Nat) : Int) := by omega
          rw [e1]
          generalize ((yT i + mT (2000 + i) l + r : Nat) : Int) = NN at *
          go_wp2_with fail
          refine Calls.mono (HZ.out _) ?_
          rintro e w2 ⟨rfl, rfl⟩
          go_wp2_with fail
          go_returns
          exact ⟨rfl, hbw.out⟩
set_option maxHeartbeats 1600000 in
set_option maxRecDepth 100000 in
theorem cdfrom_out (y m d h : Int) (w : World) (hn : ¬ (2000 ≤ y ∧ y ≤ 2200 ∧ 1 ≤ m ∧ m ≤ 12 ∧ 1 ≤ d ∧ d ≤ (md y.toNat m.toNat : Nat) ∧ 0 ≤ h ∧ h ≤ 23)) :
    Calls Tryd.prog 13 #[.agg (dA y m d h)] w fun e w' => e = .returned (.tuple #[.int .i64 0, .int .i64 2]) ∧ Below w.heap.size w w' := by
  have HX := hid (FBox.made w 23 (dA y m d h))
  have HBX : Hid (Below w.heap.size w (w.alloc (.cells (dA y m d h) 23))) := (Below.refl _ _).alloc (Nat.le_refl _) _
  obtain ⟨c0, c1, c2, c3, g0, g1, g2, g3⟩ := dbox_facts HX.out (Below.refl _ _)
  unfold dA at HX HBX c0 c1 c2 c3 g0 g1 g2 g3 ⊢
  by_cases h0 : y < 2000
  · have z0 : decide (y < 2000) = true := decide_eq_true h0
    go_enter Tryd.func13, Tryd.ntmps13
    go_wp2_with fail
    generalize w.alloc (.cells #[.int .i64 y, .int .i64 m, .int .i64 d, .int .i64 h] 23) = X at *
    go_quiet (fail)
    go_wp2_with fail
    go_returns
    exact ⟨rfl, Below.drewM HBX.out⟩
  · have z0 : decide (y < 2000) = false := decide_eq_false h0
    by_cases h1 : 2200 < y
    · have z1 : decide (2200 < y) = true := decide_eq_true h1
      go_enter Tryd.func13, Tryd.ntmps13
      go_wp2_with fail
      generalize w.alloc (.cells #[.int .i64 y, .int .i64 m, .int .i64 d, .int .i64 h] 23) = X at *
      go_quiet (fail)
      go_wp2_with fail
      go_returns
      exact ⟨rfl, Below.drewM HBX.out⟩
    · have z1 : decide (2200 < y) = false := decide_eq_false h1
      by_cases h2 : m < 1
      · have z2 : decide (m < 1) = true := decide_eq_true h2
        go_enter Tryd.func13, Tryd.ntmps13
        go_wp2_with fail
        generalize w.alloc (.cells #[.int .i64 y, .int .i64 m, .int .i64 d, .int .i64 h] 23) = X at *
        go_quiet (fail)
        go_wp2_with fail
        go_returns
        exact ⟨rfl, Below.drewM HBX.out⟩
      · have z2 : decide (m < 1) = false := decide_eq_false h2
        by_cases h3 : 12 < m
        · have z3 : decide (12 < m) = true := decide_eq_true h3
          go_enter Tryd.func13, Tryd.ntmps13
          go_wp2_with fail
          generalize w.alloc (.cells #[.int .i64 y, .int .i64 m, .int .i64 d, .int .i64 h] 23) = X at *
          go_quiet (fail)
          go_wp2_with fail
          go_returns
          exact ⟨rfl, Below.drewM HBX.out⟩
        · have z3 : decide (12 < m) = false := decide_eq_false h3
          by_cases h4 : d < 1
          · have z4 : decide (d < 1) = true := decide_eq_true h4
            go_enter Tryd.func13, Tryd.ntmps13
            go_wp2_with fail
            generalize w.alloc (.cells #[.int .i64 y, .int .i64 m, .int .i64 d, .int .i64 h] 23) = X at *
            go_quiet (fail)
            go_wp2_with fail
            go_returns
            exact ⟨rfl, Below.drewM HBX.out⟩
          · have z4 : decide (d < 1) = false := decide_eq_false h4
            have HM : Hid (∀ V, Calls Tryd.prog 34 #[.int .i64 y, .int .i64 m] V fun e w' => e = .returned (.int .i64 ((md y.toNat m.toNat : Nat) : Int)) ∧ w' = V) := fun V => by
              have q := cddays_any y.toNat m.toNat V (by omega) (by omega) (by omega)
              rwa [show ((y.toNat : Nat) : Int) = y by omega, show ((m.toNat : Nat) : Int) = m by omega] at q
            generalize md y.toNat m.toNat = M at *
            by_cases h5 : (M : Int) < d
            · have z5 : decide ((M : Int) < d) = true := decide_eq_true h5
              go_enter Tryd.func13, Tryd.ntmps13
              go_wp2_with fail
              generalize w.alloc (.cells #[.int .i64 y, .int .i64 m, .int .i64 d, .int .i64 h] 23) = X at *
              go_quiet ((go_at_call 34; exact Calls.quiet_of_same (HM.out _)))
              go_wp2_with fail
              go_returns
              exact ⟨rfl, Below.drewM HBX.out⟩
            · have z5 : decide ((M : Int) < d) = false := decide_eq_false h5
              by_cases h6 : h < 0
              · have z6 : decide (h < 0) = true := decide_eq_true h6
                go_enter Tryd.func13, Tryd.ntmps13
                go_wp2_with fail
                generalize w.alloc (.cells #[.int .i64 y, .int .i64 m, .int .i64 d, .int .i64 h] 23) = X at *
                go_quiet ((go_at_call 34; exact Calls.quiet_of_same (HM.out _)))
                go_wp2_with fail
                go_returns
                exact ⟨rfl, Below.drewM HBX.out⟩
              · have z6 : decide (h < 0) = false := decide_eq_false h6
                have z7 : decide (23 < h) = true := decide_eq_true (by omega)
                go_enter Tryd.func13, Tryd.ntmps13
                go_wp2_with fail
                generalize w.alloc (.cells #[.int .i64 y, .int .i64 m, .int .i64 d, .int .i64 h] 23) = X at *
                go_quiet ((go_at_call 34; exact Calls.quiet_of_same (HM.out _)))
                go_wp2_with fail
                go_returns
                exact ⟨rfl, Below.drewM HBX.out⟩
theorem cdfrom_any (y m d h : Int) (w : World) (hy : I64 y) (hm : I64 m) (hd : I64 d) (hh : I64 h) :
    Calls Tryd.prog 13 #[.agg (dA y m d h)] w fun e w' => e = .returned (.tuple #[.int .i64 (fromR y m d h).1, .int .i64 (fromR y m d h).2]) ∧ Below w.heap.size w w' := by
  by_cases hk : 2000 ≤ y ∧ y ≤ 2200 ∧ 1 ≤ m ∧ m ≤ 12 ∧ 1 ≤ d ∧ d ≤ (md y.toNat m.toNat : Nat) ∧ 0 ≤ h ∧ h ≤ 23
  · obtain ⟨h1, h2, h3, h4, h5, h6, h7, h8⟩ := hk
    obtain ⟨k, rfl⟩ : ∃ k : Nat, y = 2000 + (k : Int) := ⟨(y - 2000).toNat, by omega⟩
    obtain ⟨j, rfl⟩ : ∃ j : Nat, m = (j : Int) + 1 := ⟨(m - 1).toNat, by omega⟩
    obtain ⟨r, rfl⟩ : ∃ r : Nat, d = (r : Int) + 1 := ⟨(d - 1).toNat, by omega⟩
    obtain ⟨h', rfl⟩ : ∃ h' : Nat, h = (h' : Int) := ⟨h.toNat, by omega⟩
    have hr : r < md (2000 + k) (j + 1) := by
      rw [show (2000 + (k : Int)).toNat = 2000 + k by omega, show ((j : Int) + 1).toNat = j + 1 by omega] at h6
      omega
    have e : fromR (2000 + (k : Int)) ((j : Int) + 1) ((r : Int) + 1) (h' : Int) = atR ((yT k + mT (2000 + k) j + r : Nat) : Int) (h' : Int) := by
      by_cases g : k ≤ 119
      · exact fromR_ok g (by omega) hr _
      · have a := yT_le 120 k (by omega)
        rw [yT120] at a
        unfold fromR atR
        rw [if_neg (fun q => by have := q.2.1; omega), if_neg (fun q => by have := q.2.2.2.1; omega)]
    rw [e]
    exact cdfrom_in k j r h' w (by omega) (by omega) hr (by omega)
  · have e : fromR y m d h = (0, 2) := by
      rcases fromR_tick y m d h with ⟨T, k, j, r, _, hT, hi, rfl, rfl, rfl, rfl⟩ | q
      · exfalso
        have a := hi.small (by omega)
        have b := hi.2.1
        have c := hi.2.2
        apply hk
        rw [show (2000 + (k : Int)).toNat = 2000 + k by omega, show ((j : Int) + 1).toNat = j + 1 by omega]
        omega
      · exact q
    rw [e]
    exact cdfrom_out y m d h w hk
end Go.Proofs.YtglocbmkcklklaaDoor

/- The document's answers of layer 9: digits, Text, number, Parse. -/
namespace Go.Proofs.YtglocbmkcklklaaDoor
open Go.RowKit
set_option linter.unusedVariables false
set_option linter.unusedSimpArgs false

def dval (acc : Nat) (ds : List UInt8) : Nat := ds.foldl (fun a c => 10 * a + (c.toNat - 48)) acc
/-- At most f digits, from the front of a text: the number, and how many they are. -/
def numD : Nat → Nat → List UInt8 → Nat × Nat
  | 0, acc, _ => (acc, 0)
  | _ + 1, acc, [] => (acc, 0)
  | f + 1, acc, c :: r => if 48 ≤ c.toNat ∧ c.toNat ≤ 57 then ((numD f (10 * acc + (c.toNat - 48)) r).1, (numD f (10 * acc + (c.toNat - 48)) r).2 + 1) else (acc, 0)
def Stops (l : List UInt8) : Prop := ∀ c r, l = c :: r → ¬ (48 ≤ c.toNat ∧ c.toNat ≤ 57)
theorem numD_all : ∀ (ds : List UInt8) (f acc : Nat) (rest : List UInt8), (∀ x ∈ ds, 48 ≤ x.toNat ∧ x.toNat ≤ 57) → ds.length ≤ f → Stops rest → numD f acc (ds ++ rest) = (dval acc ds, ds.length)
  | [], f, acc, rest, _, _, hs => by
    show numD f acc rest = (acc, 0)
    cases f with
    | zero => rfl
    | succ f =>
      cases rest with
      | nil => rfl
      | cons c r => rw [numD, if_neg (hs c r rfl)]
  | c :: ds, f, acc, rest, h, hl, hs => by
    cases f with
    | zero => simp at hl
    | succ f =>
      show numD (f + 1) acc (c :: (ds ++ rest)) = _
      have ih := numD_all ds f (10 * acc + (c.toNat - 48)) rest (fun x hx => h x (by simp [hx])) (by simp at hl; omega) hs
      rw [numD, if_pos (h c (by simp)), ih]
      rfl
theorem dval_dec (n : Nat) : dval 0 (Lib.decDigits n) = n := by
  by_cases h : n < 10
  · rw [ckdig_one h]
    show 10 * 0 + ((UInt8.ofNat (48 + n)).toNat - 48) = n
    rw [ckdigit_nat n h]; omega
  · rw [ckdig_more h]
    have ih := dval_dec (n / 10)
    unfold dval at ih ⊢
    rw [List.foldl_append, ih]
    show 10 * (n / 10) + ((UInt8.ofNat (48 + n % 10)).toNat - 48) = n
    rw [ckdigit_nat (n % 10) (by omega)]; omega
termination_by n
decreasing_by omega
theorem dec_len4 (n : Nat) (h : n < 10000) : (Lib.decDigits n).length ≤ 4 := by
  by_cases h1 : n < 10
  · rw [ckdig_one h1]; simp
  · rw [ckdig_more h1]
    by_cases h2 : n / 10 < 10
    · rw [ckdig_one h2]; simp
    · rw [ckdig_more h2]
      by_cases h3 : n / 10 / 10 < 10
      · rw [ckdig_one h3]; simp
      · rw [ckdig_more h3, ckdig_one (show n / 10 / 10 / 10 < 10 by omega)]; simp
theorem numD_dec (n : Nat) (h : n < 10000) (rest : List UInt8) (hs : Stops rest) : numD 4 0 (Lib.decDigits n ++ rest) = (n, (Lib.decDigits n).length) := by
  rw [numD_all _ 4 0 rest (ckdec_all n).1 (dec_len4 n h) hs, dval_dec]
theorem stops_cons (c : UInt8) (l : List UInt8) (h : c.toNat < 48) : Stops (c :: l) := fun x r e g => by
  injection e with e1 e2
  subst e1; omega
theorem stops_nil : Stops [] := fun x r e g => by cases e
theorem numD_le : ∀ (f acc P : Nat) (l : List UInt8), acc < P → (numD f acc l).1 < P * 10 ^ f ∧ (numD f acc l).2 ≤ f ∧ (numD f acc l).2 ≤ l.length
  | 0, acc, P, l, h => by simp [numD, h]
  | f + 1, acc, P, [], h => by
    refine ⟨?_, by simp [numD], by simp [numD]⟩
    show acc < _
    exact Nat.lt_of_lt_of_le h (Nat.le_mul_of_pos_right P (Nat.pow_pos (by decide)))
  | f + 1, acc, P, c :: r, h => by
    by_cases hc : 48 ≤ c.toNat ∧ c.toNat ≤ 57
    · have ih := numD_le f (10 * acc + (c.toNat - 48)) (P * 10) r (by omega)
      rw [numD, if_pos hc]
      refine ⟨?_, by simp; omega, by simp; omega⟩
      show (numD f _ r).1 < _
      have e : P * 10 ^ (f + 1) = P * 10 * 10 ^ f := by rw [Nat.pow_succ, Nat.mul_assoc, Nat.mul_comm 10]
      rw [e]; exact ih.1
    · rw [numD, if_neg hc]
      refine ⟨?_, by simp, by simp⟩
      show acc < _
      exact Nat.lt_of_lt_of_le h (Nat.le_mul_of_pos_right P (Nat.pow_pos (by decide)))
/-- The four numbers that the document's Parse reads. -/
def ce1 (l : List UInt8) : Nat := (numD 4 0 l).2
def ce2 (l : List UInt8) : Nat := ce1 l + 1 + (numD 4 0 (l.drop (ce1 l + 1))).2
def ce3 (l : List UInt8) : Nat := ce2 l + 1 + (numD 4 0 (l.drop (ce2 l + 1))).2
def cv1 (l : List UInt8) : Nat := (numD 4 0 l).1
def cv2 (l : List UInt8) : Nat := (numD 4 0 (l.drop (ce1 l + 1))).1
def cv3 (l : List UInt8) : Nat := (numD 4 0 (l.drop (ce2 l + 1))).1
def cv4 (l : List UInt8) : Nat := (numD 4 0 (l.drop (ce3 l + 1))).1
theorem doc_pieces (a b c d : Nat) (ha : a < 10000) (hb : b < 10000) (hc : c < 10000) (hd : d < 10000) (l : List UInt8) (hl : l = Lib.decDigits a ++ (45 :: (Lib.decDigits b ++ (45 :: (Lib.decDigits c ++ (32 :: Lib.decDigits d)))))) :
    cv1 l = a ∧ cv2 l = b ∧ cv3 l = c ∧ cv4 l = d := by
  have h1 : numD 4 0 l = (a, (Lib.decDigits a).length) := by rw [hl]; exact numD_dec a ha _ (stops_cons _ _ (by decide))
  have x1 : ce1 l = (Lib.decDigits a).length := by unfold ce1; rw [h1]
  have d1 : l.drop (ce1 l + 1) = Lib.decDigits b ++ (45 :: (Lib.decDigits c ++ (32 :: Lib.decDigits d))) := by rw [x1, hl]; simp
  have h2 : numD 4 0 (l.drop (ce1 l + 1)) = (b, (Lib.decDigits b).length) := by rw [d1]; exact numD_dec b hb _ (stops_cons _ _ (by decide))
  have x2 : ce2 l = ce1 l + 1 + (Lib.decDigits b).length := by unfold ce2; rw [h2]
  have d2 : l.drop (ce2 l + 1) = Lib.decDigits c ++ (32 :: Lib.decDigits d) := by
    rw [x2, show ce1 l + 1 + (Lib.decDigits b).length + 1 = (ce1 l + 1) + ((Lib.decDigits b).length + 1) by omega, ← List.drop_drop, d1]; simp
  have h3 : numD 4 0 (l.drop (ce2 l + 1)) = (c, (Lib.decDigits c).length) := by rw [d2]; exact numD_dec c hc _ (stops_cons _ _ (by decide))
  have x3 : ce3 l = ce2 l + 1 + (Lib.decDigits c).length := by unfold ce3; rw [h3]
  have d3 : l.drop (ce3 l + 1) = Lib.decDigits d := by
    rw [x3, show ce2 l + 1 + (Lib.decDigits c).length + 1 = (ce2 l + 1) + ((Lib.decDigits c).length + 1) by omega, ← List.drop_drop, d2]; simp
  have h4 : numD 4 0 (l.drop (ce3 l + 1)) = (d, (Lib.decDigits d).length) := by
    rw [d3]
    have := numD_dec d hd [] stops_nil
    rwa [List.append_nil] at this
  unfold cv1 cv2 cv3 cv4
  rw [h1, h2, h3, h4]
  exact ⟨rfl, rfl, rfl, rfl⟩
def readD (l : List UInt8) : Int × Int := readP (cv1 l : Int) (cv2 l : Int) (cv3 l : Int) (cv4 l : Int) l
theorem read_ok {T k j r : Nat} (hT : T ≤ 1048576) (hi : IsD (T / 24) k j r) (l : List UInt8) (hx : txtC (2000 + (k : Int)) ((j : Int) + 1) ((r : Int) + 1) ((T % 24 : Nat) : Int) = l) : readD l = ((T : Int), 0) ∧ readC l = ((T : Int), 0) := by
  have hk := hi.small (by omega)
  have hj := hi.2.1
  have hr := hi.2.2
  have hm := md_le (2000 + k) (j + 1)
  have hc : readC l = ((T : Int), 0) := by
    have := read_txtC hi (by omega) (show T % 24 < 24 by omega) (by omega)
    rw [hx, show T / 24 * 24 + T % 24 = T by omega] at this
    exact this
  refine ⟨?_, hc⟩
  have e : l = Lib.decDigits (2000 + k) ++ (45 :: (Lib.decDigits (j + 1) ++ (45 :: (Lib.decDigits (r + 1) ++ (32 :: Lib.decDigits (T % 24)))))) := by
    rw [← hx]
    unfold txtC
    rw [← ckitoa_nat, ← ckitoa_nat, ← ckitoa_nat, ← ckitoa_nat]
    rfl
  obtain ⟨p1, p2, p3, p4⟩ := doc_pieces (2000 + k) (j + 1) (r + 1) (T % 24) (by omega) (by omega) (by omega) (by omega) l e
  unfold readD
  rw [p1, p2, p3, p4]
  have ef : fromR (2000 + (k : Int)) ((j : Int) + 1) ((r : Int) + 1) ((T % 24 : Nat) : Int) = ((T : Int), 0) := by
    rw [fromR_ok hk hj hr, hi.1]
    unfold atR
    rw [if_pos ⟨by omega, by omega, by omega, by omega, by omega⟩]
    congr 1; omega
  show readP (2000 + (k : Int)) ((j : Int) + 1) ((r : Int) + 1) ((T % 24 : Nat) : Int) l = _
  unfold readP
  rw [ef, if_pos ⟨rfl, hx⟩]
theorem readD_eq (l : List UInt8) : readD l = readC l := by
  rcases readC_or l with ⟨T, k, j, r, h1, h2, h3, h4⟩ | h
  · rw [(read_ok h2 h3 l h4).1, h1]
  · rw [h]
    unfold readD readP
    rcases fromR_tick (cv1 l : Int) (cv2 l : Int) (cv3 l : Int) (cv4 l : Int) with ⟨T, k, j, r, g1, g2, g3, g4, g5, g6, g7⟩ | g
    · by_cases hx : txtC (cv1 l : Int) (cv2 l : Int) (cv3 l : Int) (cv4 l : Int) = l
      · exfalso
        rw [g4, g5, g6, g7] at hx
        have := (read_ok g2 g3 l hx).2
        rw [h] at this
        cases this
      · rw [if_neg (fun q => hx q.2)]
    · rw [g, if_neg (fun q => absurd q.1 (by decide))]

end Go.Proofs.YtglocbmkcklklaaDoor

/- The document's answers of layer 9: digits, Text, number, Parse: the program's part. -/
namespace Go.Proofs.YtglocbmkcklklaaDoor
open Go.RowKit
set_option linter.unusedVariables false
set_option linter.unusedSimpArgs false

set_option maxHeartbeats 800000 in
set_option maxRecDepth 100000 in
theorem cddigit_any (n : Nat) (w : World) (h : n < 10) :
    Calls Tryd.prog 37 #[.int .i64 (n : Int)] w fun e w' => e = .returned (.string ⟨(Lib.decDigits n).toArray⟩) ∧ Below w.heap.size w w' := by
  rw [ckdig_one h]
  have h1 : (n : Int) < 10 := by omega
  have x1 : IntKind.i64.wrap (48 + (n : Int)) = 48 + (n : Int) := by rw [IntKind.wrap_i64]; omega
  have x2 : IntKind.u8.wrap (48 + (n : Int)) = 48 + (n : Int) := by rw [IntKind.wrap_u8]; omega
  have HX := hid (FBox.made w 5 #[.int .u8 (48 + (n : Int))])
  have HB : Hid (Below w.heap.size w (w.alloc (.cells #[.int .u8 (48 + (n : Int))] 5))) := (Below.refl _ _).alloc (Nat.le_refl _) _
  have hcv : (convert 63 9 (.slice (some ⟨w.heap.size, 0, none⟩) 1 1)).run Tryd.prog (w.alloc (.cells #[.int .u8 (48 + (n : Int))] 5)) = .ok (.string ⟨#[UInt8.ofNat (48 + n)]⟩) (w.alloc (.cells #[.int .u8 (48 + (n : Int))] 5)) := by
    refine run_convert_bytes_back (w.alloc (.cells #[.int .u8 (48 + (n : Int))] 5)) 63 9 5 ⟨w.heap.size, 0, none⟩ 1 [UInt8.ofNat (48 + n)] Tryd.underlying63 Tryd.underlying5 Tryd.underlying9 (fun j hj => ?_)
    obtain rfl : j = 0 := by simp at hj; exact hj
    have e : ((UInt8.ofNat (48 + n)).toNat : Int) = 48 + (n : Int) := by rw [ckdigit_nat n h]; omega
    show (w.alloc _).cell? ⟨w.heap.size, 0, none⟩ = _
    rw [HX.out.cell 0]
    show some (Value.int .u8 (48 + (n : Int))) = some (Value.int .u8 ((UInt8.ofNat (48 + n)).toNat : Int))
    rw [e]
  obtain ⟨B, hB⟩ : ∃ B, UInt8.ofNat (48 + n) = B := ⟨_, rfl⟩
  rw [hB] at hcv ⊢
  clear hB
  go_enter Tryd.func37, Tryd.ntmps37
  go_wp2_with fail
  go_ret
  exact ⟨rfl, HB.out⟩

set_option maxHeartbeats 800000 in
set_option maxRecDepth 100000 in
theorem cddigits_any (n : Nat) (w : World) (h : n < 9223372036854775808) :
    Calls Tryd.prog 37 #[.int .i64 (n : Int)] w fun e w' => e = .returned (.string ⟨(Lib.decDigits n).toArray⟩) ∧ Below w.heap.size w w' := by
  by_cases h1 : n < 10
  · exact cddigit_any n w h1
  · have H1 := hid (fun V => cddigits_any (n / 10) V (by omega))
    have H2 := hid (fun V => cddigit_any (n % 10) V (by omega))
    have HE := hid (ckdig_more h1)
    have HO := hid (ckdig_one (u := n % 10) (by omega))
    have e1 : (n : Int) / 10 = ((n / 10 : Nat) : Int) := rfl
    have e2 : (n : Int) % 10 = ((n % 10 : Nat) : Int) := rfl
    have e3 : Int.tdiv (n : Int) 10 = ((n / 10 : Nat) : Int) := rfl
    have e4 : Int.tmod (n : Int) 10 = ((n % 10 : Nat) : Int) := rfl
    have h2 : ¬ (n : Int) < 10 := by omega
    have hl1 : (Lib.decDigits (n / 10)).length ≤ 20 := by rw [Lib.decDigits_length]; exact Lib.nDigits_le20 _ (by omega)
    have hl2 : (Lib.decDigits (n % 10)).length = 1 := by rw [HO.out]; rfl
    have HJ : Hid (Lib.decDigits n = Lib.decDigits (n / 10) ++ Lib.decDigits (n % 10)) := by show _ = _; rw [HE.out, HO.out]
    clear HE HO
    generalize n / 10 = a at *
    generalize n % 10 = b at *
    go_enter Tryd.func37, Tryd.ntmps37
    go_wp2_with fail
    refine Calls.mono (H1.out _) ?_
    rintro e w1 ⟨rfl, hb1⟩
    have HB1 := hid hb1
    clear hb1
    go_wp2_with fail
    refine Calls.mono (H2.out _) ?_
    rintro e w2 ⟨rfl, hb2⟩
    have HB2 := hid (b2 HB1.out hb2)
    clear hb2
    go_wp2_with fail
    go_ret
    exact ⟨by rw [HJ.out]; exact congrArg (fun z => Ending.returned (.string z)) (ckbytes_app _ _), HB2.out⟩
termination_by n
decreasing_by omega

set_option maxHeartbeats 1600000 in
set_option maxRecDepth 100000 in
theorem cdtextF_err (t : Int) (w : World) (h : I64 t) (hn : ¬ (0 ≤ t ∧ t ≤ 1048576)) :
    Calls Tryd.prog 17 #[.int .i64 t] w fun e w' => e = .returned (.tuple #[.string ⟨#[]⟩, .int .i64 2]) ∧ Below w.heap.size w w' := by
  have HC := hid (cddate_err t w h hn)
  unfold dA at HC
  clear hn h
  go_enter Tryd.func17, Tryd.ntmps17
  go_wp2_with fail
  refine Calls.mono HC.out ?_
  rintro e w1 ⟨rfl, hb⟩
  go_wp2_with fail
  go_returns
  refine ⟨rfl, ?_⟩
  first
  | exact hb
  | exact hb.alloc hb.size _
set_option maxHeartbeats 3200000 in
set_option maxRecDepth 100000 in
theorem cdtextF_ok (t : Nat) (w : World) (h : t ≤ 1048576) :
    Calls Tryd.prog 17 #[.int .i64 (t : Int)] w fun e w' => (∃ k j r, IsD (t / 24) k j r ∧ e = .returned (.tuple #[.string ⟨(txtC (2000 + (k : Int)) ((j : Int) + 1) ((r : Int) + 1) ((t % 24 : Nat) : Int)).toArray⟩, .int .i64 0])) ∧ Below w.heap.size w w' := by
  have HC := hid (cddate_ok t w h)
  have hD24 : t / 24 ≤ 43690 := by omega
  have hH24 : t % 24 < 24 := by omega
  generalize t / 24 = D at *
  generalize t % 24 = Hh at *
  unfold dA at HC
  go_enter Tryd.func17, Tryd.ntmps17
  go_wp2_with fail
  refine Calls.mono HC.out ?_
  rintro e w1 ⟨⟨k, j, r, hi, rfl⟩, hb⟩
  have hk := hi.small hD24
  have hj := hi.2.1
  have hr : r ≤ 30 := by have a := hi.2.2; have b := md_le (2000 + k) (j + 1); omega
  have HB := hid hb
  have HI := hid hi
  clear HC hb hi
  have HD : Hid (∀ z : Nat, z < 10000 → ∀ V, Calls Tryd.prog 37 #[.int .i64 (z : Int)] V fun e w' => e = .returned (.string ⟨(Lib.itoa (z : Int)).toArray⟩) ∧ Below V.heap.size V w') := fun z hz V => by
    rw [ckitoa_nat]
    exact cddigits_any z V (by omega)
  have l1 := ckitoa_len (2000 + (k : Int)) (by omega) (by omega)
  have l2 := ckitoa_len ((j : Int) + 1) (by omega) (by omega)
  have l3 := ckitoa_len ((r : Int) + 1) (by omega) (by omega)
  have l4 := ckitoa_len (Hh : Int) (by omega) (by omega)
  have P1 := hid (HD.out (2000 + k) (by omega))
  have P2 := hid (HD.out (j + 1) (by omega))
  have P3 := hid (HD.out (r + 1) (by omega))
  have P4 := hid (HD.out Hh (by omega))
  rw [show ((2000 + k : Nat) : Int) = 2000 + (k : Int) from rfl] at P1
  rw [show ((j + 1 : Nat) : Int) = (j : Int) + 1 from rfl] at P2
  rw [show ((r + 1 : Nat) : Int) = (r : Int) + 1 from rfl] at P3
  have HE : Hid ((⟨(Lib.itoa (2000 + (k : Int))).toArray⟩ : ByteArray) ++ (⟨#[45]⟩ : ByteArray) ++ (⟨(Lib.itoa ((j : Int) + 1)).toArray⟩ : ByteArray) ++ (⟨#[45]⟩ : ByteArray) ++ (⟨(Lib.itoa ((r : Int) + 1)).toArray⟩ : ByteArray) ++ (⟨#[32]⟩ : ByteArray) ++ (⟨(Lib.itoa (Hh : Int)).toArray⟩ : ByteArray) = ⟨(txtC (2000 + (k : Int)) ((j : Int) + 1) ((r : Int) + 1) (Hh : Int)).toArray⟩) := by
    show _ = _
    rw [show (⟨#[45]⟩ : ByteArray) = ⟨([45] : List UInt8).toArray⟩ from rfl, show (⟨#[32]⟩ : ByteArray) = ⟨([32] : List UInt8).toArray⟩ from rfl, ckbytes_app, ckbytes_app, ckbytes_app, ckbytes_app, ckbytes_app, ckbytes_app]
    unfold txtC
    simp
  clear HD
  generalize Lib.itoa (2000 + (k : Int)) = T1 at *
  generalize Lib.itoa ((j : Int) + 1) = T2 at *
  generalize Lib.itoa ((r : Int) + 1) = T3 at *
  generalize Lib.itoa (Hh : Int) = T4 at *
  have hm1 : ¬ 9223372036854775807 < T1.length + 1 := by omega
  have hm2 : ¬ 9223372036854775807 < T1.length + 1 + T2.length := by omega
  have hm3 : ¬ 9223372036854775807 < T1.length + 1 + T2.length + 1 := by omega
  have hm4 : ¬ 9223372036854775807 < T1.length + 1 + T2.length + 1 + T3.length := by omega
  have hm5 : ¬ 9223372036854775807 < T1.length + 1 + T2.length + 1 + T3.length + 1 := by omega
  have hm6 : ¬ 9223372036854775807 < T1.length + 1 + T2.length + 1 + T3.length + 1 + T4.length := by omega
  have HN := hid (FBox.made w1 23 (dA (2000 + (k : Int)) ((j : Int) + 1) ((r : Int) + 1) (Hh : Int)))
  have HAc := hid ((Below.refl w1.heap.size w1).alloc (Nat.le_refl _) (.cells (dA (2000 + (k : Int)) ((j : Int) + 1) ((r : Int) + 1) (Hh : Int)) 23))
  unfold dA at HN HAc
  obtain ⟨X, hW⟩ : ∃ wc, w1.alloc (.cells #[.int .i64 (2000 + (k : Int)), .int .i64 ((j : Int) + 1), .int .i64 ((r : Int) + 1), .int .i64 (Hh : Int)] 23) = wc := ⟨_, rfl⟩
  rw [hW] at HN HAc
  have HBc := hid (b2 HB.out HAc.out)
  go_wp2_with fail
  clear hW
  have HF : Hid (∀ V, Below X.heap.size X V → V.cell? ⟨w1.heap.size, 0, none⟩ = some (.int .i64 (2000 + (k : Int))) ∧ V.cell? ⟨w1.heap.size, 1, none⟩ = some (.int .i64 ((j : Int) + 1)) ∧ V.cell? ⟨w1.heap.size, 2, none⟩ = some (.int .i64 ((r : Int) + 1)) ∧ V.cell? ⟨w1.heap.size, 3, none⟩ = some (.int .i64 (Hh : Int))) := fun V hv => by
    obtain ⟨c0, c1, c2, c3, _⟩ := dbox_facts (show FBox X w1.heap.size 23 (dA (2000 + (k : Int)) ((j : Int) + 1) ((r : Int) + 1) (Hh : Int)) from HN.out) hv
    exact ⟨c0, c1, c2, c3⟩
  have hs0 := HF.out _ (Below.refl _ X).drew
  have hd0 := hid (Below.refl X.heap.size X).drew
  have H1 : Hid (∀ ww, Below X.heap.size X ww → Calls Tryd.prog 37 #[.int .i64 (2000 + (k : Int))] ww fun e w' => e = .returned (.string ⟨T1.toArray⟩) ∧ (w'.cell? ⟨w1.heap.size, 0, none⟩ = some (.int .i64 (2000 + (k : Int))) ∧ w'.cell? ⟨w1.heap.size, 1, none⟩ = some (.int .i64 ((j : Int) + 1)) ∧ w'.cell? ⟨w1.heap.size, 2, none⟩ = some (.int .i64 ((r : Int) + 1)) ∧ w'.cell? ⟨w1.heap.size, 3, none⟩ = some (.int .i64 (Hh : Int))) ∧ Below X.heap.size X w') := fun ww hv => by
    refine Calls.mono (P1.out ww) ?_
    rintro e w' ⟨rfl, h⟩
    exact ⟨rfl, HF.out _ (b2 hv h), b2 hv h⟩
  have H2 : Hid (∀ ww, Below X.heap.size X ww → Calls Tryd.prog 37 #[.int .i64 ((j : Int) + 1)] ww fun e w' => e = .returned (.string ⟨T2.toArray⟩) ∧ (w'.cell? ⟨w1.heap.size, 0, none⟩ = some (.int .i64 (2000 + (k : Int))) ∧ w'.cell? ⟨w1.heap.size, 1, none⟩ = some (.int .i64 ((j : Int) + 1)) ∧ w'.cell? ⟨w1.heap.size, 2, none⟩ = some (.int .i64 ((r : Int) + 1)) ∧ w'.cell? ⟨w1.heap.size, 3, none⟩ = some (.int .i64 (Hh : Int))) ∧ Below X.heap.size X w') := fun ww hv => by
    refine Calls.mono (P2.out ww) ?_
    rintro e w' ⟨rfl, h⟩
    exact ⟨rfl, HF.out _ (b2 hv h), b2 hv h⟩
  have H3 : Hid (∀ ww, Below X.heap.size X ww → Calls Tryd.prog 37 #[.int .i64 ((r : Int) + 1)] ww fun e w' => e = .returned (.string ⟨T3.toArray⟩) ∧ (w'.cell? ⟨w1.heap.size, 0, none⟩ = some (.int .i64 (2000 + (k : Int))) ∧ w'.cell? ⟨w1.heap.size, 1, none⟩ = some (.int .i64 ((j : Int) + 1)) ∧ w'.cell? ⟨w1.heap.size, 2, none⟩ = some (.int .i64 ((r : Int) + 1)) ∧ w'.cell? ⟨w1.heap.size, 3, none⟩ = some (.int .i64 (Hh : Int))) ∧ Below X.heap.size X w') := fun ww hv => by
    refine Calls.mono (P3.out ww) ?_
    rintro e w' ⟨rfl, h⟩
    exact ⟨rfl, HF.out _ (b2 hv h), b2 hv h⟩
  have H4 : Hid (∀ ww, Below X.heap.size X ww → Calls Tryd.prog 37 #[.int .i64 (Hh : Int)] ww fun e w' => e = .returned (.string ⟨T4.toArray⟩) ∧ (w'.cell? ⟨w1.heap.size, 0, none⟩ = some (.int .i64 (2000 + (k : Int))) ∧ w'.cell? ⟨w1.heap.size, 1, none⟩ = some (.int .i64 ((j : Int) + 1)) ∧ w'.cell? ⟨w1.heap.size, 2, none⟩ = some (.int .i64 ((r : Int) + 1)) ∧ w'.cell? ⟨w1.heap.size, 3, none⟩ = some (.int .i64 (Hh : Int))) ∧ Below X.heap.size X w') := fun ww hv => by
    refine Calls.mono (P4.out ww) ?_
    rintro e w' ⟨rfl, h⟩
    exact ⟨rfl, HF.out _ (b2 hv h), b2 hv h⟩
  clear HF P1 P2 P3 P4 HN HAc HB
  go_region_held3 (fun V : World => V.cell? ⟨w1.heap.size, 0, none⟩ = some (.int .i64 (2000 + (k : Int))) ∧ V.cell? ⟨w1.heap.size, 1, none⟩ = some (.int .i64 ((j : Int) + 1)) ∧ V.cell? ⟨w1.heap.size, 2, none⟩ = some (.int .i64 ((r : Int) + 1)) ∧ V.cell? ⟨w1.heap.size, 3, none⟩ = some (.int .i64 (Hh : Int))) (first | exact hs4 | exact hs3 | exact hs2 | exact hs1 | exact hs0)
    (first
      | (go_at_call 37; with_reducible refine Calls.mono (H4.out _ hb4) ?_; rintro e w5 ⟨rfl, hs4, hb5⟩)
      | (go_at_call 37; with_reducible refine Calls.mono (H3.out _ hb3) ?_; rintro e w4 ⟨rfl, hs3, hb4⟩)
      | (go_at_call 37; with_reducible refine Calls.mono (H2.out _ hb2) ?_; rintro e w3 ⟨rfl, hs2, hb3⟩)
      | (go_at_call 37; with_reducible refine Calls.mono (H1.out _ hd0.out) ?_; rintro e w2 ⟨rfl, hs1, hb2⟩))
  all_goals
    have HB := hid (b2 HBc.out hb5)
    clear hs0 hs1 hs2 hs3 hs4 hb2 hb3 hb4 hb5 H1 H2 H3 H4 hd0
    go_wp2_with fail
    go_returns
    exact ⟨⟨k, j, r, HI.out, by rw [← HE.out]; rfl⟩, HB.out⟩

theorem cdbyte_at (s : ByteArray) (k : Nat) (h : k < s.size) : s.data.toList.drop k = s[k] :: s.data.toList.drop (k + 1) := by
  rw [List.drop_eq_getElem_cons (by rw [Array.length_toList]; exact h)]
  rfl
end Go.Proofs.YtglocbmkcklklaaDoor

/- The document's number of layer 9. -/
namespace Go.Proofs.YtglocbmkcklklaaDoor
open Go.RowKit
set_option linter.unusedVariables false
set_option linter.unusedSimpArgs false

theorem numD_stop (f acc : Nat) (l : List UInt8) (h : f = 0 ∨ l = [] ∨ ∃ c r, l = c :: r ∧ ¬ (48 ≤ c.toNat ∧ c.toNat ≤ 57)) : numD f acc l = (acc, 0) := by
  rcases h with rfl | rfl | ⟨c, r, rfl, hc⟩
  · rfl
  · cases f <;> rfl
  · cases f with
    | zero => rfl
    | succ f => rw [numD, if_neg hc]
set_option maxHeartbeats 1600000 in
set_option maxRecDepth 100000 in
theorem cdnumber_any (s : ByteArray) (a0 : Nat) (w : World) (hs : s.size ≤ 281474976710656) (ha : a0 ≤ 562949953421312) :
    Calls Tryd.prog 40 #[.string s, .int .i64 (a0 : Int)] w fun e w' => e = .returned (.tuple #[.int .i64 ((numD 4 0 (s.data.toList.drop a0)).1 : Int), .int .i64 ((a0 + (numD 4 0 (s.data.toList.drop a0)).2 : Nat) : Int)]) ∧ w' = w := by
  have HL : Hid (s.data.toList.length = s.size) := by show _ = _; rw [Array.length_toList]; rfl
  obtain ⟨V, hV⟩ : ∃ V, (numD 4 0 (s.data.toList.drop a0)).1 = V := ⟨_, rfl⟩
  obtain ⟨E, hE⟩ : ∃ E, a0 + (numD 4 0 (s.data.toList.drop a0)).2 = E := ⟨_, rfl⟩
  rw [hV, hE]
  have HVE := hid (And.intro hV hE)
  clear hV hE
  go_enter Tryd.func40, Tryd.ntmps40
  go_wp2_with fail
  go_loopw [1, 6, 7] (fun x z u wr => ∃ a n k : Nat, x = .int .i64 (a : Int) ∧ z = .int .i64 (n : Int) ∧ u = .int .i64 (k : Int) ∧ k ≤ 4 ∧ a ≤ a0 + k ∧ Hid (n < 10 ^ k) ∧ Hid ((numD (4 - k) n (s.data.toList.drop a)).1 = V ∧ a + (numD (4 - k) n (s.data.toList.drop a)).2 = E) ∧ wr = w) (fun _ _ u _ => 4 - (intOf u).toNat)
  case atStart => exact ⟨a0, 0, 0, rfl, rfl, rfl, by omega, by omega, hid (by decide), HVE, by first | rfl | trivial⟩
  case round =>
    obtain ⟨a, n, k, rfl, rfl, rfl, hk, hak, hn, hI, rfl⟩ := hrel
    have hn4 : n < 10000 := Nat.lt_of_lt_of_le hn.out (Nat.pow_le_pow_right (by decide) hk)
    have HST : Hid (k = 4 ∨ ¬ a < s.size ∨ (∃ h : a < s.size, ¬ (48 ≤ s[a].toNat ∧ s[a].toNat ≤ 57)) → n = V ∧ a = E) := fun h => by
      have e := numD_stop (4 - k) n (s.data.toList.drop a) (by
        rcases h with h | h | ⟨h, g⟩
        · left; omega
        · right; left; rw [List.drop_eq_nil_iff, HL.out]; omega
        · right; right; exact ⟨_, _, cdbyte_at s a h, g⟩)
      have q := hI.out
      rw [e] at q
      exact ⟨q.1, q.2⟩
    by_cases h4 : k < 4
    · have q1 : decide ((k : Int) < 4) = true := decide_eq_true (by omega)
      by_cases hl : a < s.size
      · have q2 : decide ((a : Int) < (s.size : Int)) = true := decide_eq_true (by omega)
        have i1 : (a : Int) < (s.size : Int) := by omega
        have c1 : 0 ≤ (s[a].toNat : Int) := by omega
        have c2 : (s[a].toNat : Int) ≤ 255 := by have := s[a].toNat_lt; omega
        by_cases g1 : 48 ≤ s[a].toNat
        · have q3 : decide ((48 : Int) ≤ (s[a].toNat : Int)) = true := decide_eq_true (by omega)
          by_cases g2 : s[a].toNat ≤ 57
          · have q4 : decide ((s[a].toNat : Int) ≤ 57) = true := decide_eq_true (by omega)
            have HN : Hid ((numD (4 - (k + 1)) (10 * n + (s[a].toNat - 48)) (s.data.toList.drop (a + 1))).1 = V ∧ a + 1 + (numD (4 - (k + 1)) (10 * n + (s[a].toNat - 48)) (s.data.toList.drop (a + 1))).2 = E) := by
              have q := hI.out
              rw [cdbyte_at s a hl, show 4 - k = (4 - (k + 1)) + 1 by omega, numD, if_pos ⟨g1, g2⟩] at q
              refine ⟨q.1, ?_⟩
              have := q.2
              simp only at this
              omega
            have HP : Hid (10 * n + (s[a].toNat - 48) < 10 ^ (k + 1)) := by
              show _ < _
              rw [Nat.pow_succ]
              have := hn.out
              omega
            have hu : IntKind.u8.wrap ((s[a].toNat : Int) - 48) = (s[a].toNat : Int) - 48 := by rw [IntKind.wrap_u8]; omega
            have hu2 : IntKind.i64.wrap ((s[a].toNat : Int) - 48) = (s[a].toNat : Int) - 48 := by rw [IntKind.wrap_i64]; omega
            have x1 : IntKind.i64.wrap (10 * (n : Int)) = 10 * (n : Int) := by rw [IntKind.wrap_i64]; omega
            have x2 : IntKind.i64.wrap (10 * (n : Int) + ((s[a].toNat : Int) - 48)) = ((10 * n + (s[a].toNat - 48) : Nat) : Int) := by rw [IntKind.wrap_i64]; omega
            have x3 : IntKind.i64.wrap ((a : Int) + 1) = (a : Int) + 1 := by rw [IntKind.wrap_i64]; omega
            have x4 : IntKind.i64.wrap ((k : Int) + 1) = (k : Int) + 1 := by rw [IntKind.wrap_i64]; omega
            generalize 10 * n + (s[a].toNat - 48) = N at *
            clear HST hI hn
            go_wp2_with fail
            go_roundw
            case rel => exact ⟨a + 1, N, k + 1, rfl, rfl, rfl, by omega, by omega, HP, HN, by first | rfl | trivial⟩
            case measure => simp [intOf]; omega
          · have q4 : decide ((s[a].toNat : Int) ≤ 57) = false := decide_eq_false (by omega)
            obtain ⟨rfl, rfl⟩ := HST.out (.inr (.inr ⟨hl, by omega⟩))
            clear hI HVE HST hn
            go_wp2_with fail
            go_returns
            exact ⟨rfl, rfl⟩
        · have q3 : decide ((48 : Int) ≤ (s[a].toNat : Int)) = false := decide_eq_false (by omega)
          obtain ⟨rfl, rfl⟩ := HST.out (.inr (.inr ⟨hl, by omega⟩))
          clear hI HVE HST hn
          go_wp2_with fail
          go_returns
          exact ⟨rfl, rfl⟩
      · have q2 : decide ((a : Int) < (s.size : Int)) = false := decide_eq_false (by omega)
        obtain ⟨rfl, rfl⟩ := HST.out (.inr (.inl hl))
        clear hI HVE HST hn
        go_wp2_with fail
        go_returns
        exact ⟨rfl, rfl⟩
    · have q1 : decide ((k : Int) < 4) = false := decide_eq_false (by omega)
      obtain ⟨rfl, rfl⟩ := HST.out (.inl (by omega))
      clear hI HVE HST hn
      go_wp2_with fail
      go_returns
      exact ⟨rfl, rfl⟩
end Go.Proofs.YtglocbmkcklklaaDoor

/- The document's Parse of layer 9. -/
namespace Go.Proofs.YtglocbmkcklklaaDoor
open Go.RowKit
set_option linter.unusedVariables false
set_option linter.unusedSimpArgs false

set_option maxHeartbeats 3200000 in
set_option maxRecDepth 100000 in
theorem cdparse_any (s : ByteArray) (w : World) (hs : s.size ≤ 281474976710656) :
    Calls Tryd.prog 19 #[.string s] w fun e w' => e = .returned (.tuple #[.int .i64 (readC s.data.toList).1, .int .i64 (readC s.data.toList).2]) ∧ Below w.heap.size w w' := by
  rw [← readD_eq]
  unfold readD
  have n1 := numD_le 4 0 1 s.data.toList (by decide)
  have n2 := numD_le 4 0 1 (s.data.toList.drop (ce1 s.data.toList + 1)) (by decide)
  have n3 := numD_le 4 0 1 (s.data.toList.drop (ce2 s.data.toList + 1)) (by decide)
  have n4 := numD_le 4 0 1 (s.data.toList.drop (ce3 s.data.toList + 1)) (by decide)
  have u1 : ce1 s.data.toList ≤ 4 := n1.2.1
  have u2 : ce2 s.data.toList ≤ 9 := by unfold ce2; omega
  have u3 : ce3 s.data.toList ≤ 14 := by unfold ce3; omega
  have i1 : cv1 s.data.toList < 10000 := n1.1
  have i2 : cv2 s.data.toList < 10000 := n2.1
  have i3 : cv3 s.data.toList < 10000 := n3.1
  have i4 : cv4 s.data.toList < 10000 := n4.1
  have H1 : Hid (∀ V, Calls Tryd.prog 40 #[.string s, .int .i64 0] V fun e w' => e = .returned (.tuple #[.int .i64 (cv1 s.data.toList : Int), .int .i64 (ce1 s.data.toList : Int)]) ∧ w' = V) := fun V => by
    have q := cdnumber_any s 0 V hs (by omega)
    rw [List.drop_zero, Nat.zero_add] at q
    exact q
  have H2 : Hid (∀ V, Calls Tryd.prog 40 #[.string s, .int .i64 ((ce1 s.data.toList : Int) + 1)] V fun e w' => e = .returned (.tuple #[.int .i64 (cv2 s.data.toList : Int), .int .i64 (ce2 s.data.toList : Int)]) ∧ w' = V) := fun V => cdnumber_any s (ce1 s.data.toList + 1) V hs (by omega)
  have H3 : Hid (∀ V, Calls Tryd.prog 40 #[.string s, .int .i64 ((ce2 s.data.toList : Int) + 1)] V fun e w' => e = .returned (.tuple #[.int .i64 (cv3 s.data.toList : Int), .int .i64 (ce3 s.data.toList : Int)]) ∧ w' = V) := fun V => cdnumber_any s (ce2 s.data.toList + 1) V hs (by omega)
  have H4 : Hid (∀ V, ∃ z : Int, Calls Tryd.prog 40 #[.string s, .int .i64 ((ce3 s.data.toList : Int) + 1)] V fun e w' => e = .returned (.tuple #[.int .i64 (cv4 s.data.toList : Int), .int .i64 z]) ∧ w' = V) := fun V => ⟨_, cdnumber_any s (ce3 s.data.toList + 1) V hs (by omega)⟩
  have HF := hid (fun V => cdfrom_any (cv1 s.data.toList : Int) (cv2 s.data.toList : Int) (cv3 s.data.toList : Int) (cv4 s.data.toList : Int) V ⟨by omega, by omega⟩ ⟨by omega, by omega⟩ ⟨by omega, by omega⟩ ⟨by omega, by omega⟩)
  clear n1 n2 n3 n4
  generalize cv1 s.data.toList = y at *
  generalize cv2 s.data.toList = m at *
  generalize cv3 s.data.toList = d at *
  generalize cv4 s.data.toList = h at *
  generalize ce1 s.data.toList = p1 at *
  generalize ce2 s.data.toList = p2 at *
  generalize ce3 s.data.toList = p3 at *
  have x1 : IntKind.i64.wrap ((p1 : Int) + 1) = (p1 : Int) + 1 := by rw [IntKind.wrap_i64]; omega
  have x2 : IntKind.i64.wrap ((p2 : Int) + 1) = (p2 : Int) + 1 := by rw [IntKind.wrap_i64]; omega
  have x3 : IntKind.i64.wrap ((p3 : Int) + 1) = (p3 : Int) + 1 := by rw [IntKind.wrap_i64]; omega
  have HX := hid (FBox.made w 23 (dA 0 0 0 0))
  have HBX : Hid (Below w.heap.size w (w.alloc (.cells (dA 0 0 0 0) 23))) := (Below.refl _ _).alloc (Nat.le_refl _) _
  unfold dA at HX HBX HF
  go_enter Tryd.func19, Tryd.ntmps19
  go_wp2_with fail
  generalize w.alloc (.cells #[.int .i64 0, .int .i64 0, .int .i64 0, .int .i64 0] 23) = X at *
  have HX0 : Hid (FBox X w.heap.size 23 (dA 0 0 0 0)) := HX.out
  obtain ⟨c0, c1, c2, c3, g0, g1, g2, g3⟩ := dbox_facts HX0.out (Below.refl _ _)
  refine Calls.mono (H1.out _) ?_
  rintro e w1 ⟨rfl, rfl⟩
  have LB0 := hid HBX.out
  go_wp2_with fail
  have K0 : Hid (FBox (w1.setCell ⟨w.heap.size, 0, none⟩ (.int .i64 (y : Int))) w.heap.size 23 (dA (y : Int) 0 0 0)) := HX0.out.set 0 _
  have L0 := hid (LB0.out.setCell (p := ⟨w.heap.size, 0, none⟩) (Nat.le_refl _) (.int .i64 (y : Int)))
  generalize w1.setCell ⟨w.heap.size, 0, none⟩ (.int .i64 (y : Int)) = X1 at *
  have HX1 := hid K0.out
  have LB1 := hid L0.out
  clear K0 L0 HX0 LB0 c0 c1 c2 c3 g0 g1 g2 g3
  obtain ⟨c0, c1, c2, c3, g0, g1, g2, g3⟩ := dbox_facts HX1.out (Below.refl _ _)
  refine Calls.mono (H2.out _) ?_
  rintro e w2 ⟨rfl, rfl⟩
  go_wp2_with fail
  have K1 : Hid (FBox (w2.setCell ⟨w.heap.size, 1, none⟩ (.int .i64 (m : Int))) w.heap.size 23 (dA (y : Int) (m : Int) 0 0)) := HX1.out.set 1 _
  have L1 := hid (LB1.out.setCell (p := ⟨w.heap.size, 1, none⟩) (Nat.le_refl _) (.int .i64 (m : Int)))
  generalize w2.setCell ⟨w.heap.size, 1, none⟩ (.int .i64 (m : Int)) = X2 at *
  have HX2 := hid K1.out
  have LB2 := hid L1.out
  clear K1 L1 HX1 LB1 c0 c1 c2 c3 g0 g1 g2 g3
  obtain ⟨c0, c1, c2, c3, g0, g1, g2, g3⟩ := dbox_facts HX2.out (Below.refl _ _)
  refine Calls.mono (H3.out _) ?_
  rintro e w3 ⟨rfl, rfl⟩
  go_wp2_with fail
  have K2 : Hid (FBox (w3.setCell ⟨w.heap.size, 2, none⟩ (.int .i64 (d : Int))) w.heap.size 23 (dA (y : Int) (m : Int) (d : Int) 0)) := HX2.out.set 2 _
  have L2 := hid (LB2.out.setCell (p := ⟨w.heap.size, 2, none⟩) (Nat.le_refl _) (.int .i64 (d : Int)))
  generalize w3.setCell ⟨w.heap.size, 2, none⟩ (.int .i64 (d : Int)) = X3 at *
  have HX3 := hid K2.out
  have LB3 := hid L2.out
  clear K2 L2 HX2 LB2 c0 c1 c2 c3 g0 g1 g2 g3
  obtain ⟨c0, c1, c2, c3, g0, g1, g2, g3⟩ := dbox_facts HX3.out (Below.refl _ _)
  obtain ⟨z4, hz4⟩ := H4.out X3
  have HZ4 := hid hz4
  clear hz4
  refine Calls.mono HZ4.out ?_
  rintro e w4 ⟨rfl, rfl⟩
  go_wp2_with fail
  have K3 : Hid (FBox (w4.setCell ⟨w.heap.size, 3, none⟩ (.int .i64 (h : Int))) w.heap.size 23 (dA (y : Int) (m : Int) (d : Int) (h : Int))) := HX3.out.set 3 _
  have L3 := hid (LB3.out.setCell (p := ⟨w.heap.size, 3, none⟩) (Nat.le_refl _) (.int .i64 (h : Int)))
  generalize w4.setCell ⟨w.heap.size, 3, none⟩ (.int .i64 (h : Int)) = X4 at *
  have HX4 := hid K3.out
  have LB4 := hid L3.out
  clear K3 L3 HX3 LB3 c0 c1 c2 c3 g0 g1 g2 g3
  obtain ⟨c0, c1, c2, c3, g0, g1, g2, g3⟩ := dbox_facts HX4.out (Below.refl _ _)
  refine Calls.mono (HF.out _) ?_
  rintro e w8 ⟨rfl, hb8⟩
  have HB9 := hid (LB4.out.trans (hb8.mono LB4.out.size))
  clear hb8 HF H1 H2 H3 H4 HZ4 c0 c1 c2 c3 g0 g1 g2 g3 HX4 LB4 HX HBX
  have HV1 : Hid ((fromR (y : Int) (m : Int) (d : Int) (h : Int)).2 = 0 → txtC (y : Int) (m : Int) (d : Int) (h : Int) = s.data.toList → readP (y : Int) (m : Int) (d : Int) (h : Int) s.data.toList = ((fromR (y : Int) (m : Int) (d : Int) (h : Int)).1, 0)) := fun a b => if_pos ⟨a, b⟩
  have HV2 : Hid (¬ ((fromR (y : Int) (m : Int) (d : Int) (h : Int)).2 = 0 ∧ txtC (y : Int) (m : Int) (d : Int) (h : Int) = s.data.toList) → readP (y : Int) (m : Int) (d : Int) (h : Int) s.data.toList = (0, 190)) := fun a => if_neg a
  have hfo : (∃ T : Nat, fromR (y : Int) (m : Int) (d : Int) (h : Int) = ((T : Int), 0) ∧ ∀ V, Calls Tryd.prog 17 #[.int .i64 (T : Int)] V fun e w' => e = .returned (.tuple #[.string ⟨(txtC (y : Int) (m : Int) (d : Int) (h : Int)).toArray⟩, .int .i64 0]) ∧ Below V.heap.size V w') ∨ fromR (y : Int) (m : Int) (d : Int) (h : Int) = (0, 2) := by
    rcases fromR_tick (y : Int) (m : Int) (d : Int) (h : Int) with ⟨T, k, j, r, f1, f2, f3, f4, f5, f6, f7⟩ | hfr
    · refine .inl ⟨T, f1, fun V => ?_⟩
      refine Calls.mono (cdtextF_ok T V f2) ?_
      rintro e w' ⟨⟨k', j', r', hi', rfl⟩, hb⟩
      obtain ⟨rfl, rfl, rfl⟩ := hi'.only f3
      exact ⟨by rw [f4, f5, f6, f7], hb⟩
    · exact .inr hfr
  rcases hfo with ⟨T, hfr, hTX⟩ | hfr
  · have HTX := hid hTX
    clear hTX
    by_cases hx : txtC (y : Int) (m : Int) (d : Int) (h : Int) = s.data.toList
    · have HV := hid (HV1.out (by rw [hfr]) hx)
      have hx2 : (⟨(txtC (y : Int) (m : Int) (d : Int) (h : Int)).toArray⟩ : ByteArray) = s := by rw [hx]
      rw [hx2] at HTX
      rw [hfr] at HV ⊢
      have hq0 : (s.toList == s.toList) = true := by simp
      clear HV1 HV2 hx hx2 hfr
      go_wp2_with fail
      refine Calls.mono (HTX.out _) ?_
      rintro e w9 ⟨rfl, hb9⟩
      have HB := hid (b2 HB9.out hb9)
      clear hb9 HTX HB9
      go_wp2_with fail
      go_returns
      exact ⟨by rw [HV.out]; rfl, HB.out⟩
    · have HV := hid (HV2.out (fun g => hx g.2))
      have hx2 : ¬ (⟨(txtC (y : Int) (m : Int) (d : Int) (h : Int)).toArray⟩ : ByteArray) = s := fun e => hx (by rw [← e])
      rw [hfr]
      clear HV1 HV2 hx hfr
      generalize (⟨(txtC (y : Int) (m : Int) (d : Int) (h : Int)).toArray⟩ : ByteArray) = TT at *
      have hx4 := ckstr_other hx2
      go_wp2_with fail
      refine Calls.mono (HTX.out _) ?_
      rintro e w9 ⟨rfl, hb9⟩
      have HB := hid (b2 HB9.out hb9)
      clear hb9 HTX HB9
      go_wp2_with fail
      go_returns
      exact ⟨by rw [HV.out]; rfl, HB.out⟩
  · have HV := hid (HV2.out (by rw [hfr]; exact fun g => absurd g.1 (by decide)))
    rw [hfr]
    clear HV1 HV2 hfr
    go_wp2_with fail
    go_returns
    exact ⟨by rw [HV.out]; rfl, HB9.out⟩
end Go.Proofs.YtglocbmkcklklaaDoor

/- The laws' own helpers of layer 9: is, number, awake; a date's text is read as that date. -/
namespace Go.Proofs.YtglocbmkcklklaaDoor
open Go.RowKit Go.Lib
set_option linter.unusedVariables false
set_option linter.unusedSimpArgs false

set_option maxHeartbeats 1600000 in
set_option maxRecDepth 100000 in
theorem ckis_any (y m d h y' m' d' h' : Int) (w : World) :
    Calls Tryd.prog 24 #[.agg (dA y m d h), .int .i64 y', .int .i64 m', .int .i64 d', .int .i64 h'] w fun e w' => e = .returned (.bool (decide (y = y' ∧ m = m' ∧ d = d' ∧ h = h'))) ∧ Below w.heap.size w w' := by
  have HX := hid (FBox.made w 23 (dA y m d h))
  have HBX : Hid (Below w.heap.size w (w.alloc (.cells (dA y m d h) 23))) := (Below.refl _ _).alloc (Nat.le_refl _) _
  obtain ⟨c0, c1, c2, c3, g0, g1, g2, g3⟩ := dbox_facts HX.out (Below.refl _ _)
  unfold dA at HX HBX c0 c1 c2 c3 g0 g1 g2 g3 ⊢
  by_cases h1 : y = y'
  · by_cases h2 : m = m'
    · by_cases h3 : d = d'
      · by_cases h4 : h = h'
        · rw [decide_eq_true ⟨h1, h2, h3, h4⟩]
          subst h1; subst h2; subst h3; subst h4
          go_enter Tryd.func24, Tryd.ntmps24
          go_wp2_with fail
          go_returns
          exact ⟨rfl, HBX.out⟩
        · rw [decide_eq_false (fun g => h4 g.2.2.2)]
          have z4 : (h == h') = false := beq_eq_false_iff_ne.2 h4
          subst h1; subst h2; subst h3
          go_enter Tryd.func24, Tryd.ntmps24
          go_wp2_with fail
          go_returns
          exact ⟨rfl, HBX.out⟩
      · rw [decide_eq_false (fun g => h3 g.2.2.1)]
        have z3 : (d == d') = false := beq_eq_false_iff_ne.2 h3
        subst h1; subst h2
        go_enter Tryd.func24, Tryd.ntmps24
        go_wp2_with fail
        go_returns
        exact ⟨rfl, HBX.out⟩
    · rw [decide_eq_false (fun g => h2 g.2.1)]
      have z2 : (m == m') = false := beq_eq_false_iff_ne.2 h2
      subst h1
      go_enter Tryd.func24, Tryd.ntmps24
      go_wp2_with fail
      go_returns
      exact ⟨rfl, HBX.out⟩
  · rw [decide_eq_false (fun g => h1 g.1)]
    have z1 : (y == y') = false := beq_eq_false_iff_ne.2 h1
    go_enter Tryd.func24, Tryd.ntmps24
    go_wp2_with fail
    go_returns
    exact ⟨rfl, HBX.out⟩
theorem rd_awake : readC [50, 48, 48, 48, 45, 49, 45, 49, 32, 48] = (0, 0) := by decide +kernel
theorem isd59 : IsD 59 0 1 28 := ⟨by decide +kernel, by decide, by decide +kernel⟩
theorem at12 : atR 1 2 = (26, 0) := by decide

set_option maxHeartbeats 1600000 in
set_option maxRecDepth 100000 in
theorem ckawake_any (w : World) (htab : TabC w) (herr : ErrT w) :
    Calls Tryd.prog 25 #[] w fun e w' => e = .returned (.bool true) ∧ Below w.heap.size w w' := by
  have HA := hid (fun V => ckat_any 1 2 V ⟨by decide, by decide⟩ ⟨by decide, by decide⟩)
  rw [at12] at HA
  have HD : Hid (∀ V, Calls Tryd.prog 10 #[.int .i64 1416] V fun e w' => e = .returned (.tuple #[.agg #[.int .i64 2000, .int .i64 2, .int .i64 29, .int .i64 0], .int .i64 0]) ∧ Below V.heap.size V w') := fun V => by
    refine Calls.mono (ckdate_ok 1416 V (by decide)) ?_
    rintro e w' ⟨⟨k, j, r, hi, rfl⟩, hb⟩
    obtain ⟨rfl, rfl, rfl⟩ := hi.only isd59
    exact ⟨rfl, hb⟩
  have HP := hid (fun V (hv : Below w.heap.size w V) => ckparse_any ⟨#[50, 48, 48, 48, 45, 49, 45, 49, 32, 48]⟩ V (by decide) (htab.later hv) (herr.later hv))
  rw [show (⟨#[50, 48, 48, 48, 45, 49, 45, 49, 32, 48]⟩ : ByteArray).data.toList = [50, 48, 48, 48, 45, 49, 45, 49, 32, 48] from rfl, rd_awake] at HP
  have HW := hid (fun V => ckweek_ok 0 V (by decide))
  have HI := hid (fun V => ckis_any 2000 2 29 0 2000 2 29 0 V)
  rw [decide_eq_true ⟨rfl, rfl, rfl, rfl⟩] at HI
  unfold dA at HI
  go_enter Tryd.func25, Tryd.ntmps25
  go_wp2_with fail
  refine Calls.mono (HA.out _) ?_
  rintro e w1 ⟨rfl, rfl⟩
  go_wp2_with fail
  refine Calls.mono (HD.out _) ?_
  rintro e w2 ⟨rfl, hb2⟩
  have HB2 := hid hb2
  clear hb2
  go_wp2_with fail
  have HX := hid (FBox.made w2 23 (dA 2000 2 29 0))
  have HB3 := hid (HB2.out.alloc HB2.out.size (.cells (dA 2000 2 29 0) 23))
  unfold dA at HX HB3
  generalize w2.alloc (.cells #[.int .i64 2000, .int .i64 2, .int .i64 29, .int .i64 0] 23) = X at *
  refine Calls.mono (HP.out _ HB3.out) ?_
  rintro e w3 ⟨rfl, hb3⟩
  obtain ⟨c0, c1, c2, c3, g0, g1, g2, g3⟩ := dbox_facts (show FBox X w2.heap.size 23 (dA 2000 2 29 0) from HX.out) hb3
  have HB4 := hid (b2 HB3.out hb3)
  clear hb3 HX HB3 HP HA HD HB2
  go_wp2_with fail
  refine Calls.mono (HW.out _) ?_
  rintro e w4 ⟨rfl, rfl⟩
  go_wp2_with fail
  refine Calls.mono (HI.out _) ?_
  rintro e w5 ⟨rfl, hb5⟩
  have HB5 := hid (b2 HB4.out hb5)
  clear hb5
  go_wp2_with fail
  go_returns
  exact ⟨rfl, HB5.out⟩
end Go.Proofs.YtglocbmkcklklaaDoor

/- The law ClockTells. -/
namespace Go.Proofs.YtglocbmkcklklaaDoor
open Go.RowKit
set_option linter.unusedVariables false
set_option linter.unusedSimpArgs false

theorem IsD.there : ∀ n, ∃ k j r, IsD n k j r
  | 0 => ⟨0, 0, 0, by decide +kernel, by decide, by decide +kernel⟩
  | n + 1 => by
    obtain ⟨k, j, r, h1, h2, h3⟩ := IsD.there n
    by_cases c : r + 1 < md (2000 + k) (j + 1)
    · exact ⟨k, j, r + 1, by omega, h2, c⟩
    · have a1 : mT (2000 + k) (j + 1) = mT (2000 + k) j + md (2000 + k) (j + 1) := rfl
      by_cases c2 : j + 1 < 12
      · exact ⟨k, j + 1, 0, by omega, c2, by have := md_pos (2000 + k) (j + 1 + 1) (by omega) (by omega); omega⟩
      · have d : yT (k + 1) = yT k + yd (2000 + k) := rfl
        obtain rfl : j = 11 := by omega
        have e : mT (2000 + k) (11 + 1) = yd (2000 + k) := mT12 (2000 + k)
        exact ⟨k + 1, 0, 0, by rw [show mT (2000 + (k + 1)) 0 = 0 from rfl]; omega, by omega, by have := md_pos (2000 + (k + 1)) (0 + 1) (by omega) (by omega); omega⟩
/-- What is told of a tick, by the program and by the document: the same. -/
def Both (f g : Nat) (args : Array Value) (w : World) (v : Value) : Prop := (∀ V, Below w.heap.size w V → Calls Tryd.prog f args V fun e w' => e = .returned v ∧ Below V.heap.size V w') ∧ (∀ V, Below w.heap.size w V → Calls Tryd.prog g args V fun e w' => e = .returned v ∧ Below V.heap.size V w')
theorem same_below {P : Program} {f : Nat} {args : Array Value} {V : World} {v : Value} (h : Calls P f args V fun e w' => e = .returned v ∧ w' = V) : Calls P f args V fun e w' => e = .returned v ∧ Below V.heap.size V w' := by
  refine Calls.mono h ?_
  rintro e w' ⟨rfl, rfl⟩
  exact ⟨rfl, Below.refl _ _⟩
theorem tick_both (t : Int) (w : World) (ht : I64 t) (htab : TabC w) : ∃ (D H E P1 P2 P3 P4 WK : Int) (TX : ByteArray),
    Both 8 9 #[.int .i64 t] w (.tuple #[.int .i64 D, .int .i64 H, .int .i64 E]) ∧
    Both 10 11 #[.int .i64 t] w (.tuple #[.agg #[.int .i64 P1, .int .i64 P2, .int .i64 P3, .int .i64 P4], .int .i64 E]) ∧
    Both 14 15 #[.int .i64 t] w (.tuple #[.int .i64 WK, .int .i64 E]) ∧
    Both 16 17 #[.int .i64 t] w (.tuple #[.string TX, .int .i64 E]) := by
  by_cases h : 0 ≤ t ∧ t ≤ 1048576
  · obtain ⟨T, rfl⟩ : ∃ T : Nat, t = (T : Int) := ⟨t.toNat, by omega⟩
    have hT : T ≤ 1048576 := by omega
    obtain ⟨k, j, r, hi⟩ := IsD.there (T / 24)
    refine ⟨_, _, 0, ((2000 + k : Nat) : Int), ((j + 1 : Nat) : Int), ((r + 1 : Nat) : Int), ((T % 24 : Nat) : Int), _, ⟨(txtC (2000 + (k : Int)) ((j : Int) + 1) ((r : Int) + 1) ((T % 24 : Nat) : Int)).toArray⟩, ⟨fun V _ => same_below (ckof_ok T V hT), fun V _ => same_below (cdof_ok T V hT)⟩, ⟨fun V _ => ?_, fun V _ => ?_⟩, ⟨fun V _ => same_below (ckweek_ok T V hT), fun V _ => same_below (cdweek_ok T V hT)⟩, ⟨fun V hv => ?_, fun V _ => ?_⟩⟩
    · refine Calls.mono (ckdate_ok T V hT) ?_
      rintro e w' ⟨⟨k', j', r', hi', rfl⟩, hb⟩
      obtain ⟨rfl, rfl, rfl⟩ := hi'.only hi
      exact ⟨rfl, hb⟩
    · refine Calls.mono (cddate_ok T V hT) ?_
      rintro e w' ⟨⟨k', j', r', hi', rfl⟩, hb⟩
      obtain ⟨rfl, rfl, rfl⟩ := hi'.only hi
      exact ⟨rfl, hb⟩
    · refine Calls.mono (cktextF_ok T V hT (htab.later hv)) ?_
      rintro e w' ⟨⟨k', j', r', hi', rfl⟩, hb⟩
      obtain ⟨rfl, rfl, rfl⟩ := hi'.only hi
      exact ⟨rfl, hb⟩
    · refine Calls.mono (cdtextF_ok T V hT) ?_
      rintro e w' ⟨⟨k', j', r', hi', rfl⟩, hb⟩
      obtain ⟨rfl, rfl, rfl⟩ := hi'.only hi
      exact ⟨rfl, hb⟩
  · exact ⟨0, 0, 2, 0, 0, 0, 0, 0, ⟨#[]⟩, ⟨fun V _ => same_below (ckof_err t V ht h), fun V _ => same_below (cdof_err t V ht h)⟩, ⟨fun V _ => ckdate_err t V ht h, fun V _ => cddate_err t V ht h⟩, ⟨fun V _ => same_below (ckweek_err t V ht h), fun V _ => same_below (cdweek_err t V ht h)⟩, ⟨fun V _ => cktextF_err t V ht h, fun V _ => cdtextF_err t V ht h⟩⟩
set_option maxHeartbeats 6400000 in
set_option maxRecDepth 100000 in
theorem cktells_any (t dy hr y m d h : Int) (s : ByteArray) (a b : Int) (w : World) (ht : I64 t) (hdy : I64 dy) (hhr : I64 hr) (hy : I64 y) (hm : I64 m) (hd : I64 d) (hh : I64 h) (hs : s.size ≤ 281474976710656) (ha : I64 a) (hb : I64 b) (htab : TabC w) (herr : ErrT w) :
    Calls Tryd.prog 3 #[.int .i64 t, .int .i64 dy, .int .i64 hr, .agg (dA y m d h), .string s, .int .i64 a, .int .i64 b] w fun e w' => e = .returned (.bool true) ∧ Below w.heap.size w w' := by
  obtain ⟨D, Hh, E, P1, P2, P3, P4, WK, TX, bO, bD, bW, bT⟩ := tick_both t w ht htab
  have HO := hid bO
  have HD := hid bD
  have HW := hid bW
  have HT := hid bT
  have HA : Hid (Both 6 7 #[.int .i64 dy, .int .i64 hr] w (.tuple #[.int .i64 (atR dy hr).1, .int .i64 (atR dy hr).2])) := ⟨fun V _ => same_below (ckat_any dy hr V hdy hhr), fun V _ => same_below (cdat_any dy hr V hdy hhr)⟩
  have HF : Hid (Both 12 13 #[.agg (dA y m d h)] w (.tuple #[.int .i64 (fromR y m d h).1, .int .i64 (fromR y m d h).2])) := ⟨fun V _ => ckfrom_any y m d h V hy hm hd hh, fun V _ => cdfrom_any y m d h V hy hm hd hh⟩
  have HP : Hid (Both 18 19 #[.string s] w (.tuple #[.int .i64 (readC s.data.toList).1, .int .i64 (readC s.data.toList).2])) := ⟨fun V hv => ckparse_any s V hs (htab.later hv) (herr.later hv), fun V _ => cdparse_any s V hs⟩
  have HC : Hid (Both 20 21 #[.int .i64 t] w (.int .i64 (ckR t))) := ⟨fun V _ => same_below (ckcheck_any t V ht), fun V _ => same_below (cdcheck_any t V ht)⟩
  have HS : Hid (Both 22 23 #[.int .i64 a, .int .i64 b] w (.int .i64 (spanR a b))) := ⟨fun V _ => same_below (ckspan_any a b V ha hb), fun V _ => same_below (cdspan_any a b V ha hb)⟩
  have hq0 : (TX.toList == TX.toList) = true := by simp
  clear bO bD bW bT ht hdy hhr hy hm hd hh hs ha hb htab herr
  generalize (atR dy hr).1 = A1 at *
  generalize (atR dy hr).2 = A2 at *
  generalize (fromR y m d h).1 = F1 at *
  generalize (fromR y m d h).2 = F2 at *
  generalize (readC s.data.toList).1 = R1 at *
  generalize (readC s.data.toList).2 = R2 at *
  generalize ckR t = CK at *
  generalize spanR a b = SP at *
  have HX := hid (FBox.made w 23 (dA y m d h))
  have HB0 : Hid (Below w.heap.size w (w.alloc (.cells (dA y m d h) 23))) := (Below.refl _ _).alloc (Nat.le_refl _) _
  unfold dA at HX HB0 HF ⊢
  go_enter Tryd.func3, Tryd.ntmps3
  go_wp2_with fail
  generalize w.alloc (.cells #[.int .i64 y, .int .i64 m, .int .i64 d, .int .i64 h] 23) = w0 at *
  have BX : Hid (FBox w0 w.heap.size 23 (dA y m d h)) := HX.out
  clear HX
  refine Calls.mono (HA.out.1 _ HB0.out) ?_
  rintro e w1 ⟨rfl, hb1⟩
  have HB1 := hid (b2 HB0.out hb1)
  replace BX := hid (FBox.later BX.out hb1 BX.out.lt)
  clear hb1 HB0
  go_wp2_with fail
  refine Calls.mono (HA.out.2 _ HB1.out) ?_
  rintro e w2 ⟨rfl, hb2⟩
  have HB2 := hid (b2 HB1.out hb2)
  replace BX := hid (FBox.later BX.out hb2 BX.out.lt)
  clear hb2 HB1
  go_wp2_with fail
  refine Calls.mono (HO.out.1 _ HB2.out) ?_
  rintro e w3 ⟨rfl, hb3⟩
  have HB3 := hid (b2 HB2.out hb3)
  replace BX := hid (FBox.later BX.out hb3 BX.out.lt)
  clear hb3 HB2
  go_wp2_with fail
  refine Calls.mono (HO.out.2 _ HB3.out) ?_
  rintro e w4 ⟨rfl, hb4⟩
  have HB4 := hid (b2 HB3.out hb4)
  replace BX := hid (FBox.later BX.out hb4 BX.out.lt)
  clear hb4 HB3
  go_wp2_with fail
  refine Calls.mono (HD.out.1 _ HB4.out) ?_
  rintro e w5 ⟨rfl, hb5⟩
  have HB5 := hid (b2 HB4.out hb5)
  replace BX := hid (FBox.later BX.out hb5 BX.out.lt)
  clear hb5 HB4
  go_wp2_with fail
  have HN := hid (FBox.made w5 23 (dA P1 P2 P3 P4))
  have HAl := hid ((Below.refl w5.heap.size w5).alloc (Nat.le_refl _) (.cells (dA P1 P2 P3 P4) 23))
  unfold dA at HN HAl
  generalize w5.alloc (.cells #[.int .i64 P1, .int .i64 P2, .int .i64 P3, .int .i64 P4] 23) = w6 at *
  have HB6 := hid (b2 HB5.out HAl.out)
  replace BX := hid (FBox.later BX.out HAl.out BX.out.lt)
  have BP : Hid (FBox w6 w5.heap.size 23 (dA P1 P2 P3 P4)) := HN.out
  clear HN HAl HB5
  refine Calls.mono (HD.out.2 _ HB6.out) ?_
  rintro e w7 ⟨rfl, hb7⟩
  have HB7 := hid (b2 HB6.out hb7)
  replace BX := hid (FBox.later BX.out hb7 BX.out.lt)
  replace BP := hid (FBox.later BP.out hb7 BP.out.lt)
  clear hb7 HB6
  have HN := hid (FBox.made w7 23 (dA P1 P2 P3 P4))
  have HAl := hid ((Below.refl w7.heap.size w7).alloc (Nat.le_refl _) (.cells (dA P1 P2 P3 P4) 23))
  unfold dA at HN HAl
  obtain ⟨w8, hWW⟩ : ∃ z, w7.alloc (.cells #[.int .i64 P1, .int .i64 P2, .int .i64 P3, .int .i64 P4] 23) = z := ⟨_, rfl⟩
  rw [hWW] at HN HAl
  have HB8 := hid (b2 HB7.out HAl.out)
  replace BX := hid (FBox.later BX.out HAl.out BX.out.lt)
  replace BP := hid (FBox.later BP.out HAl.out BP.out.lt)
  have BQ : Hid (FBox w8 w7.heap.size 23 (dA P1 P2 P3 P4)) := HN.out
  clear HN HAl HB7
  obtain ⟨d0, d1, d2, d3, d4, d5, d6, d7⟩ := dbox_facts BX.out (Below.refl _ _)
  go_wp2_with fail
  clear hWW
  refine Calls.mono (HF.out.1 _ HB8.out) ?_
  rintro e w9 ⟨rfl, hb9⟩
  have HB9 := hid (b2 HB8.out hb9)
  replace BX := hid (FBox.later BX.out hb9 BX.out.lt)
  replace BP := hid (FBox.later BP.out hb9 BP.out.lt)
  replace BQ := hid (FBox.later BQ.out hb9 BQ.out.lt)
  clear hb9 HB8
  clear d0 d1 d2 d3 d4 d5 d6 d7
  obtain ⟨d0, d1, d2, d3, d4, d5, d6, d7⟩ := dbox_facts BX.out (Below.refl _ _)
  go_wp2_with fail
  refine Calls.mono (HF.out.2 _ HB9.out) ?_
  rintro e w10 ⟨rfl, hb10⟩
  have HB10 := hid (b2 HB9.out hb10)
  replace BX := hid (FBox.later BX.out hb10 BX.out.lt)
  replace BP := hid (FBox.later BP.out hb10 BP.out.lt)
  replace BQ := hid (FBox.later BQ.out hb10 BQ.out.lt)
  clear hb10 HB9
  clear d0 d1 d2 d3 d4 d5 d6 d7
  go_wp2_with fail
  refine Calls.mono (HW.out.1 _ HB10.out) ?_
  rintro e w11 ⟨rfl, hb11⟩
  have HB11 := hid (b2 HB10.out hb11)
  replace BX := hid (FBox.later BX.out hb11 BX.out.lt)
  replace BP := hid (FBox.later BP.out hb11 BP.out.lt)
  replace BQ := hid (FBox.later BQ.out hb11 BQ.out.lt)
  clear hb11 HB10
  go_wp2_with fail
  refine Calls.mono (HW.out.2 _ HB11.out) ?_
  rintro e w12 ⟨rfl, hb12⟩
  have HB12 := hid (b2 HB11.out hb12)
  replace BX := hid (FBox.later BX.out hb12 BX.out.lt)
  replace BP := hid (FBox.later BP.out hb12 BP.out.lt)
  replace BQ := hid (FBox.later BQ.out hb12 BQ.out.lt)
  clear hb12 HB11
  go_wp2_with fail
  refine Calls.mono (HT.out.1 _ HB12.out) ?_
  rintro e w13 ⟨rfl, hb13⟩
  have HB13 := hid (b2 HB12.out hb13)
  replace BX := hid (FBox.later BX.out hb13 BX.out.lt)
  replace BP := hid (FBox.later BP.out hb13 BP.out.lt)
  replace BQ := hid (FBox.later BQ.out hb13 BQ.out.lt)
  clear hb13 HB12
  go_wp2_with fail
  refine Calls.mono (HT.out.2 _ HB13.out) ?_
  rintro e w14 ⟨rfl, hb14⟩
  have HB14 := hid (b2 HB13.out hb14)
  replace BX := hid (FBox.later BX.out hb14 BX.out.lt)
  replace BP := hid (FBox.later BP.out hb14 BP.out.lt)
  replace BQ := hid (FBox.later BQ.out hb14 BQ.out.lt)
  clear hb14 HB13
  go_wp2_with fail
  refine Calls.mono (HP.out.1 _ HB14.out) ?_
  rintro e w15 ⟨rfl, hb15⟩
  have HB15 := hid (b2 HB14.out hb15)
  replace BX := hid (FBox.later BX.out hb15 BX.out.lt)
  replace BP := hid (FBox.later BP.out hb15 BP.out.lt)
  replace BQ := hid (FBox.later BQ.out hb15 BQ.out.lt)
  clear hb15 HB14
  go_wp2_with fail
  refine Calls.mono (HP.out.2 _ HB15.out) ?_
  rintro e w16 ⟨rfl, hb16⟩
  have HB16 := hid (b2 HB15.out hb16)
  replace BX := hid (FBox.later BX.out hb16 BX.out.lt)
  replace BP := hid (FBox.later BP.out hb16 BP.out.lt)
  replace BQ := hid (FBox.later BQ.out hb16 BQ.out.lt)
  clear hb16 HB15
  obtain ⟨p0, p1, p2, p3, p4, p5, p6, p7⟩ := dbox_facts BP.out (Below.refl _ _)
  obtain ⟨q0, q1, q2, q3, q4, q5, q6, q7⟩ := dbox_facts BQ.out (Below.refl _ _)
  go_wp2_with fail
  clear p0 p1 p2 p3 p4 p5 p6 p7 q0 q1 q2 q3 q4 q5 q6 q7 BX BP BQ
  refine Calls.mono (HC.out.1 _ HB16.out) ?_
  rintro e w17 ⟨rfl, hb17⟩
  have HB17 := hid (b2 HB16.out hb17)
  clear hb17 HB16
  go_wp2_with fail
  refine Calls.mono (HC.out.2 _ HB17.out) ?_
  rintro e w18 ⟨rfl, hb18⟩
  have HB18 := hid (b2 HB17.out hb18)
  clear hb18 HB17
  go_wp2_with fail
  refine Calls.mono (HS.out.1 _ HB18.out) ?_
  rintro e w19 ⟨rfl, hb19⟩
  have HB19 := hid (b2 HB18.out hb19)
  clear hb19 HB18
  go_wp2_with fail
  refine Calls.mono (HS.out.2 _ HB19.out) ?_
  rintro e w20 ⟨rfl, hb20⟩
  have HB20 := hid (b2 HB19.out hb20)
  clear hb20 HB19
  go_wp2_with fail
  go_returns
  exact ⟨rfl, HB20.out⟩
end Go.Proofs.YtglocbmkcklklaaDoor

