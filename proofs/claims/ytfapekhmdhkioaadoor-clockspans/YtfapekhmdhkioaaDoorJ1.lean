/- My texts on the way to ClockSpans, one behind the other: contracts of the program and of the document's answers. -/
import Derived.WalkKit
import Derived.WalkLawsBesides
import Derived.WalkSpells
import Derived.Laws.BitsAllLaws
import Derived.Laws.CopyOwn
import Derived.Laws.AppendOwnNone
import Derived.Test.YtfapekhmdhkioaaDoorChecked
import Derived.Handy
import Derived.Deep.RegionHeld3
import Derived.RegionTactic
import Derived.ChangeAlike
import Derived.BigQuiet
import Derived.Test.YtfapekhmdhkioaaDoorShelf
import Derived.Lib.AtoiErrMem
import Derived.Lib.IndexBytes
import Derived.Lib.CutLaws
import Derived.Lib.ItoaLen
import Derived.Shelf.RegionOpenPlain
import Derived.RangeFuncNested
import Derived.RangeFuncBound
import Derived.RangeFuncCalls
import Derived.RangeFuncLeaves
import Derived.RangeFuncFrom
import Derived.Shelf.Abstract
import Derived.Shelf.RegionOpen
import Derived.OwnWalkIn
import Derived.TacticsInMore
import Derived.LoopNIn
import Derived.LoopIn
import Derived.ArgAppend
/- Lists of 32-bit words as plain data: their trimmed length, their value, when they are read out of memory. Nothing here speaks of the program. -/
namespace Go.Proofs.YtfapekhmdhkioaaDoor
open Go.RowKit

theorem hid {p : Prop} (h : p) : Hid p := h

/-- Each number is a word of 32 bits. -/
def Wd (zs : List Int) : Prop := ∀ z ∈ zs, 0 ≤ z ∧ z ≤ 4294967295

theorem Wd.at {zs : List Int} (h : Wd zs) (j : Nat) : 0 ≤ zs[j]?.getD 0 ∧ zs[j]?.getD 0 ≤ 4294967295 := by
  by_cases hj : j < zs.length
  · rw [List.getElem?_eq_getElem hj]; exact h _ (List.getElem_mem hj)
  · rw [List.getElem?_eq_none (by omega)]; exact ⟨by decide, by decide⟩

theorem Wd.take {zs : List Int} (h : Wd zs) (k : Nat) : Wd (zs.take k) := fun z hz => h z (List.mem_of_mem_take hz)
theorem Wd.drop {zs : List Int} (h : Wd zs) (k : Nat) : Wd (zs.drop k) := fun z hz => h z (List.mem_of_mem_drop hz)
theorem Wd.append {zs ys : List Int} (h : Wd zs) (g : Wd ys) : Wd (zs ++ ys) := fun z hz => (List.mem_append.1 hz).elim (h z) (g z)
theorem Wd.nil : Wd [] := fun _ hz => by simp at hz
theorem Wd.cons {z : Int} {zs : List Int} (h0 : 0 ≤ z ∧ z ≤ 4294967295) (h : Wd zs) : Wd (z :: zs) := fun y hy => by
  rcases List.mem_cons.1 hy with rfl | hy
  · exact h0
  · exact h y hy
theorem Wd.one {z : Int} (h0 : 0 ≤ z ∧ z ≤ 4294967295) : Wd [z] := Wd.cons h0 Wd.nil
theorem Wd.replicate (n : Nat) : Wd (List.replicate n 0) := fun z hz => by
  have := (List.mem_replicate.1 hz).2; omega
theorem Wd.set {zs : List Int} (h : Wd zs) (j : Nat) {z : Int} (h0 : 0 ≤ z ∧ z ≤ 4294967295) : Wd (zs.set j z) := fun y hy => by
  rcases List.mem_or_eq_of_mem_set hy with hy | rfl
  · exact h y hy
  · exact h0
theorem Wd.tail {z : Int} {zs : List Int} (h : Wd (z :: zs)) : Wd zs := fun y hy => h y (List.mem_cons_of_mem _ hy)
theorem Wd.head {z : Int} {zs : List Int} (h : Wd (z :: zs)) : 0 ≤ z ∧ z ≤ 4294967295 := h z List.mem_cons_self

/-- How many of the first k words stay when noughts at their end are dropped. -/
def szTo (zs : List Int) : Nat → Nat
  | 0 => 0
  | k + 1 => if zs[k]?.getD 0 = 0 then szTo zs k else k + 1
def sz (zs : List Int) : Nat := szTo zs zs.length
def trimmed (zs : List Int) : List Int := zs.take (sz zs)

theorem szTo_le (zs : List Int) : ∀ k, szTo zs k ≤ k
  | 0 => Nat.le_refl _
  | k + 1 => by
    unfold szTo
    split
    · exact Nat.le_succ_of_le (szTo_le zs k)
    · exact Nat.le_refl _
theorem sz_le (zs : List Int) : sz zs ≤ zs.length := szTo_le zs _
theorem szTo_zero (zs : List Int) (k : Nat) (h : zs[k]?.getD 0 = 0) : szTo zs (k + 1) = szTo zs k := by simp [szTo, h]
theorem szTo_keep (zs : List Int) (k : Nat) (h : ¬ zs[k]?.getD 0 = 0) : szTo zs (k + 1) = k + 1 := by simp [szTo, h]
theorem length_trimmed (zs : List Int) : (trimmed zs).length = sz zs := by
  unfold trimmed; rw [List.length_take, Nat.min_eq_left (sz_le zs)]
theorem Wd.trimmed {zs : List Int} (h : Wd zs) : Wd (trimmed zs) := h.take _
/-- Behind the trimmed length stand noughts alone. -/
theorem szTo_behind (zs : List Int) : ∀ k j, szTo zs k ≤ j → j < k → zs[j]?.getD 0 = 0
  | 0, _, _, h => by omega
  | k + 1, j, h1, h2 => by
    by_cases h : zs[k]?.getD 0 = 0
    · rw [szTo_zero zs k h] at h1
      by_cases e : j = k
      · rw [e]; exact h
      · exact szTo_behind zs k j h1 (by omega)
    · rw [szTo_keep zs k h] at h1; omega
theorem sz_behind (zs : List Int) (j : Nat) (h1 : sz zs ≤ j) : zs[j]?.getD 0 = 0 := by
  by_cases h : j < zs.length
  · exact szTo_behind zs _ j h1 h
  · rw [List.getElem?_eq_none (by omega)]; rfl
/-- The last word that stays is not 0. -/
theorem szTo_top (zs : List Int) : ∀ k, 0 < szTo zs k → ¬ zs[szTo zs k - 1]?.getD 0 = 0
  | 0, h => by simp [szTo] at h
  | k + 1, h => by
    by_cases e : zs[k]?.getD 0 = 0
    · rw [szTo_zero zs k e] at h ⊢; exact szTo_top zs k h
    · rw [szTo_keep zs k e]; simpa using e
theorem sz_top (zs : List Int) (h : 0 < sz zs) : ¬ zs[sz zs - 1]?.getD 0 = 0 := szTo_top zs _ h

/-- The list is trimmed: just if it is empty or its last word is not 0. -/
theorem sz_eq_iff (zs : List Int) : sz zs = zs.length ↔ zs.length = 0 ∨ ¬ zs[zs.length - 1]?.getD 0 = 0 := by
  constructor
  · intro h
    by_cases h0 : zs.length = 0
    · exact .inl h0
    · right; have := sz_top zs (by omega); rwa [h] at this
  · rintro (h | h)
    · have := sz_le zs; omega
    · by_cases h0 : zs.length = 0
      · have := sz_le zs; omega
      · obtain ⟨m, hm⟩ : ∃ m, zs.length = m + 1 := ⟨zs.length - 1, by omega⟩
        unfold sz; rw [hm]; rw [hm] at h
        exact szTo_keep zs m (by simpa using h)

/-- The slice whose address is 'a', whose length is 'n' and whose capacity is 'cap' reads as 'zs' in the world 'w': below block number B. -/
def Reads (w : World) (B : Nat) (a : Option Addr) (n cap : Nat) (zs : List Int) : Prop :=
  zs.length = n ∧ Wd zs ∧ (n = 0 ∨ ∃ b o, a = some ⟨b, o, none⟩ ∧ b < B ∧ ∀ j, j < n → w.cell? ⟨b, o + j, none⟩ = some (.int .u32 (zs[j]?.getD 0))) ∧ n ≤ cap ∧ cap ≤ maxLen ∧ (a = none → cap = 0)

theorem Reads.later {w w' : World} {B B' : Nat} {a : Option Addr} {n cap : Nat} {zs : List Int} (h : Reads w B a n cap zs) (hb : Below B w w') (hB : B ≤ B') : Reads w' B' a n cap zs := by
  obtain ⟨h1, h2, h3, h4⟩ := h
  refine ⟨h1, h2, h3.imp id ?_, h4⟩
  rintro ⟨b, o, rfl, hlt, hc⟩
  exact ⟨b, o, rfl, by omega, fun j hj => (hb.cell (p := ⟨b, o + j, none⟩) hlt).trans (hc j hj)⟩

/-- Of a slice its first k elements. -/
theorem Reads.front {w : World} {B : Nat} {a : Option Addr} {n cap : Nat} {zs : List Int} (h : Reads w B a n cap zs) (k : Nat) (hk : k ≤ n) : Reads w B a k cap (zs.take k) := by
  obtain ⟨h1, h2, h3, h4, h5, h6⟩ := h
  refine ⟨by rw [List.length_take]; omega, h2.take k, ?_, by omega, h5, h6⟩
  rcases h3 with h3 | ⟨b, o, ha, hlt, hc⟩
  · left; omega
  · right
    refine ⟨b, o, ha, hlt, fun j hj => ?_⟩
    rw [hc j (by omega), List.getElem?_take, if_pos hj]

/-- What the call owns is read as its words. -/
theorem Reads.own {w : World} {base e : Nat} {v : Value} {zs : List Int} {n : Nat} (h : w.ownsRow base e 1 v n (zs.map (Value.int .u32))) (hw : Wd zs) :
    ∃ a cap, v = .slice a n cap ∧ Reads w w.heap.size a n cap zs := by
  have hl := h.1
  simp at hl
  rcases h.2 with ⟨rfl, rfl⟩ | ⟨g, cap, cur, rfl, hb, hg, hnc, hcm, hcs, ht⟩
  · exact ⟨none, 0, rfl, by omega, hw, .inl rfl, Nat.le_refl _, Nat.zero_le _, fun _ => rfl⟩
  · refine ⟨_, cap, rfl, by omega, hw, ?_, hnc, hcm, fun h => by simp at h⟩
    right
    refine ⟨g, 0, rfl, ?_, fun j hj => ?_⟩
    · have : w.heap[g]?.isSome := by rw [hg]; rfl
      simpa using this
    · have hc := h.cellAt j (by omega)
      rw [Nat.zero_add, hc, List.getElem?_map, List.getElem?_eq_getElem (by omega)]
      simp

/-- What is owned stays owned while only newer memory is made. -/
theorem owns_later {w w' : World} {base e : Nat} {v : Value} {n : Nat} {xs : List Value} (h : w.ownsRow base e 1 v n xs) (hb : Below w.heap.size w w') : w'.ownsRow base e 1 v n xs := by
  refine ⟨h.1, h.2.imp id ?_⟩
  rintro ⟨g, cap, cur, rfl, hbg, hg, h1, h2, h3, h4⟩
  refine ⟨g, cap, cur, rfl, hbg, ?_, h1, h2, h3, h4⟩
  rw [hb.block g (by
    have : w.heap[g]?.isSome := by rw [hg]; rfl
    simpa using this)]
  exact hg

/-- What is owned from one block number on is owned from every smaller one on. -/
theorem owns_base {w : World} {base base' e : Nat} {v : Value} {n : Nat} {xs : List Value} (h : w.ownsRow base e 1 v n xs) (hb : base' ≤ base) : w.ownsRow base' e 1 v n xs := by
  refine ⟨h.1, h.2.imp id ?_⟩
  rintro ⟨g, cap, cur, rfl, hbg, hr⟩
  exact ⟨g, cap, cur, rfl, by omega, hr⟩
/-- A slice literal, just laid, is read. -/
theorem Reads.lit (w : World) (e : Nat) (zs : List Int) (hw : Wd zs) (hm : zs.length ≤ maxLen) : Reads (w.alloc (.cells ((zs.map (Value.int .u32)).toArray) e)) (w.alloc (.cells ((zs.map (Value.int .u32)).toArray) e)).heap.size (some ⟨w.heap.size, 0, none⟩) zs.length zs.length zs := by
  have h := World.ownsRow_lit (base := w.heap.size) (e := e) (size := 1) w ((zs.map (Value.int .u32)).toArray) zs.length (Nat.le_refl _) hm (by simp)
  obtain ⟨a, cap, hv, hr⟩ := Reads.own (zs := zs) (by simpa using h) hw
  simp only [Value.slice.injEq] at hv
  obtain ⟨rfl, _, rfl⟩ := hv
  exact hr

/-- A word above a word. -/
theorem or_join (x y : Int) (hx0 : 0 ≤ x) (hx : x ≤ 4294967295) (hy0 : 0 ≤ y) (hy : y ≤ 4294967295) : bits BinOp.or IntKind.u64 (x * 4294967296) y = y + x * 4294967296 := by
  rw [u64_or _ _ (by omega) (by omega) (by omega) (by omega), nat_join 32 _ _ (by omega) (by omega)]
  omega

theorem ret_int {k : IntKind} {a b : Int} (h : a = b) : Ending.returned (.int k a) = .returned (.int k b) := by rw [h]
theorem ret_bool {a b : Bool} (h : a = b) : Ending.returned (.bool a) = .returned (.bool b) := by rw [h]
end Go.Proofs.YtfapekhmdhkioaaDoor

/- The calendar: days of years and months, the date of a day, no program. -/
namespace Go.Proofs.YtfapekhmdhkioaaDoor
set_option linter.unusedVariables false

def lp (y : Nat) : Bool := (y % 4 == 0 && y % 100 != 0) || y % 400 == 0
def yd (y : Nat) : Nat := if lp y then 366 else 365
def md (y m : Nat) : Nat := if m = 2 then (if lp y then 29 else 28) else if m = 4 ∨ m = 6 ∨ m = 9 ∨ m = 11 then 30 else if 1 ≤ m ∧ m ≤ 12 then 31 else 0
/-- The days of the first k years. -/
def yT : Nat → Nat
  | 0 => 0
  | k + 1 => yT k + yd (2000 + k)
/-- The days of a year's first j months. -/
def mT (y : Nat) : Nat → Nat
  | 0 => 0
  | j + 1 => mT y j + md y (j + 1)
/-- The day n is the day r (from 0 on) of the month j (from 0 on) of the year 2000 + k. -/
def IsD (n k j r : Nat) : Prop := yT k + mT (2000 + k) j + r = n ∧ j < 12 ∧ r < md (2000 + k) (j + 1)

theorem yd_or (y : Nat) : yd y = 365 ∨ yd y = 366 := by unfold yd; cases lp y <;> simp
theorem md_le (y m : Nat) : md y m ≤ 31 := by
  unfold md
  cases lp y <;> simp <;> repeat' split
  all_goals omega
theorem md_pos (y m : Nat) (h : 1 ≤ m) (h' : m ≤ 12) : 28 ≤ md y m := by
  unfold md
  cases lp y <;> simp <;> repeat' split
  all_goals omega
theorem md_none (y m : Nat) (h : ¬ (1 ≤ m ∧ m ≤ 12)) : md y m = 0 := by
  unfold md
  rw [if_neg (by omega), if_neg (by omega), if_neg h]
theorem mT12 (y : Nat) : mT y 12 = yd y := by
  unfold yd
  simp only [mT, md]
  cases lp y <;> simp
theorem mT_le (y : Nat) : ∀ j i, j ≤ i → mT y j ≤ mT y i
  | j, 0, h => by
    obtain rfl : j = 0 := by omega
    exact Nat.le_refl _
  | j, i + 1, h => by
    by_cases e : j = i + 1
    · rw [e]; exact Nat.le_refl _
    · have := mT_le y j i (by omega)
      show _ ≤ mT y i + _
      omega
theorem yT_le : ∀ j i, j ≤ i → yT j ≤ yT i
  | j, 0, h => by
    obtain rfl : j = 0 := by omega
    exact Nat.le_refl _
  | j, i + 1, h => by
    by_cases e : j = i + 1
    · rw [e]; exact Nat.le_refl _
    · have := yT_le j i (by omega)
      show _ ≤ yT i + _
      omega
theorem yT_365 : ∀ k, 365 * k ≤ yT k ∧ yT k ≤ 366 * k
  | 0 => by simp [yT]
  | k + 1 => by
    have := yT_365 k
    rcases yd_or (2000 + k) with h | h <;> simp only [yT, h] <;> omega
theorem yT119 : yT 119 = 43464 := by decide +kernel
theorem yT120 : yT 120 = 43829 := by decide +kernel
theorem IsD.in_year {n k j r : Nat} (h : IsD n k j r) : yT k ≤ n ∧ n < yT (k + 1) := by
  obtain ⟨h1, h2, h3⟩ := h
  have a : mT (2000 + k) (j + 1) = mT (2000 + k) j + md (2000 + k) (j + 1) := rfl
  have b := mT_le (2000 + k) (j + 1) 12 (by omega)
  have c := mT12 (2000 + k)
  have d : yT (k + 1) = yT k + yd (2000 + k) := rfl
  omega
theorem IsD.only {n k j r k' j' r' : Nat} (h : IsD n k j r) (g : IsD n k' j' r') : k = k' ∧ j = j' ∧ r = r' := by
  have a := h.in_year
  have b := g.in_year
  have e : k = k' := by
    rcases Nat.lt_trichotomy k k' with c | c | c
    · have := yT_le (k + 1) k' (by omega); omega
    · exact c
    · have := yT_le (k' + 1) k (by omega); omega
  subst e
  obtain ⟨h1, h2, h3⟩ := h
  obtain ⟨g1, g2, g3⟩ := g
  have a1 : mT (2000 + k) (j + 1) = mT (2000 + k) j + md (2000 + k) (j + 1) := rfl
  have a2 : mT (2000 + k) (j' + 1) = mT (2000 + k) j' + md (2000 + k) (j' + 1) := rfl
  have e : j = j' := by
    rcases Nat.lt_trichotomy j j' with c | c | c
    · have := mT_le (2000 + k) (j + 1) j' (by omega); omega
    · exact c
    · have := mT_le (2000 + k) (j' + 1) j (by omega); omega
  subst e
  exact ⟨rfl, rfl, by omega⟩
/-- A day that is a tick's lies in the years 2000 to 2119. -/
theorem IsD.small {n k j r : Nat} (h : IsD n k j r) (hn : n ≤ 43690) : k ≤ 119 := by
  have := h.in_year
  rcases Nat.lt_or_ge 119 k with c | c
  · have := yT_le 120 k (by omega)
    rw [yT120] at this; omega
  · exact c
/-- The next day is the next of the month, or the first of a later month or year. -/
theorem IsD.next {n k j r k' j' r' : Nat} (h : IsD n k j r) (g : IsD (n + 1) k' j' r') : (k' = k ∧ j' = j ∧ r' = r + 1) ∨ (k' = k ∧ j' = j + 1 ∧ r' = 0) ∨ (k' = k + 1 ∧ j' = 0 ∧ r' = 0) := by
  obtain ⟨h1, h2, h3⟩ := h
  by_cases c : r + 1 < md (2000 + k) (j + 1)
  · obtain ⟨rfl, rfl, rfl⟩ := g.only (⟨by omega, h2, c⟩ : IsD (n + 1) k j (r + 1))
    exact .inl ⟨rfl, rfl, rfl⟩
  · have a1 : mT (2000 + k) (j + 1) = mT (2000 + k) j + md (2000 + k) (j + 1) := rfl
    by_cases c2 : j + 1 < 12
    · obtain ⟨rfl, rfl, rfl⟩ := g.only (⟨by omega, c2, by have := md_pos (2000 + k) (j + 1 + 1) (by omega) (by omega); omega⟩ : IsD (n + 1) k (j + 1) 0)
      exact .inr (.inl ⟨rfl, rfl, rfl⟩)
    · have d : yT (k + 1) = yT k + yd (2000 + k) := rfl
      obtain rfl : j = 11 := by omega
      have e : mT (2000 + k) (11 + 1) = yd (2000 + k) := mT12 (2000 + k)
      obtain ⟨rfl, rfl, rfl⟩ := g.only (⟨by rw [show mT (2000 + (k + 1)) 0 = 0 from rfl]; omega, by omega, by have := md_pos (2000 + (k + 1)) (0 + 1) (by omega) (by omega); omega⟩ : IsD (n + 1) (k + 1) 0 0)
      exact .inr (.inr ⟨rfl, rfl, rfl⟩)
end Go.Proofs.YtfapekhmdhkioaaDoor

/- Floats of 64 bits by their bits: which are finite, what a sum or difference of two gives, the sum of two with what was lost of it, as plain functions of the bits. Nothing here speaks of the program. -/
namespace Go.Proofs.YtfapekhmdhkioaaDoor

/-- Neither an infinity nor NaN: by the bits. -/
def fin (x : Nat) : Bool := x / 4503599627370496 % 2048 != 2047

theorem fin_iff (x : Nat) : fin x = true ↔ x % 9223372036854775808 < 9218868437227405312 := by
  unfold fin
  simp only [bne_iff_ne, ne_eq]
  omega

theorem dbl_sign : Ieee.double.signWeight = 9223372036854775808 := by decide
theorem dbl_inf : Ieee.double.infRung = 9218868437227405312 := by decide
theorem dbl_binade : Ieee.double.binade = 4503599627370496 := by decide

theorem read_fin {x : Nat} (h : fin x = true) : ∃ s m e, Ieee.double.read x = .number s m e := by
  rw [fin_iff] at h
  unfold Ieee.Format.read
  simp only [dbl_sign, dbl_inf, dbl_binade]
  split
  · exact ⟨_, _, _, rfl⟩
  · first | exact ⟨_, _, _, rfl⟩ | (rw [if_pos h]; exact ⟨_, _, _, rfl⟩)

theorem read_not {x : Nat} (h : fin x = false) : (∃ s, Ieee.double.read x = .infinity s) ∨ ∃ s f, Ieee.double.read x = .nan s f := by
  have h' : ¬ x % 9223372036854775808 < 9218868437227405312 := fun g => by rw [(fin_iff x).2 g] at h; exact Bool.noConfusion h
  unfold Ieee.Format.read
  simp only [dbl_sign, dbl_inf, dbl_binade]
  rw [if_neg (by omega), if_neg h']
  split
  · exact Or.inl ⟨_, rfl⟩
  · exact Or.inr ⟨_, _, rfl⟩

theorem write_inf (s : Bool) : fin (Ieee.double.write (.infinity s)) = false := by
  cases s <;> decide

theorem nan_cut (x y t : Nat) : fin (Question.cut (.nanBits .f64 x y) t) = false ∧ Question.cut (.nanBits .f64 x y) t < 18446744073709551616 := by
  simp only [Question.cut]
  have hu : (t / 2) % (2 ^ 52 - 1) < 4503599627370495 := Nat.mod_lt _ (by decide)
  have hv : t % 2 = 0 ∨ t % 2 = 1 := by omega
  generalize (t / 2) % (2 ^ 52 - 1) = u at hu ⊢
  generalize t % 2 = v at hv ⊢
  constructor
  · cases hh : fin (v * 2 ^ 63 + 0x7ff0000000000000 + 1 + u)
    · rfl
    · rw [fin_iff] at hh; rcases hv with rfl | rfl <;> omega
  · rcases hv with rfl | rfl <;> omega

/-- What the machine hands back: the bits of the answer, or, where there is none, some NaN. -/
def FR (op : BinOp) (x y r : Nat) : Prop := r < 18446744073709551616 ∧ (floatBits op .f64 x y = some r ∨ (floatBits op .f64 x y = none ∧ fin r = false))

theorem FR.det {op : BinOp} {x y r s : Nat} (h : FR op x y r) (g : floatBits op .f64 x y = some s) : r = s := by
  rcases h.2 with h | ⟨h, _⟩
  · rw [h] at g; exact Option.some.inj g
  · rw [h] at g; cases g

theorem FR.some {op : BinOp} {x y r : Nat} (h : floatBits op .f64 x y = .some r) : FR op x y r := by
  have := floatBits_wf h
  simp [Lit.wf] at this
  exact ⟨this, Or.inl h⟩
theorem FR.none {op : BinOp} {x y : Nat} (t : Nat) (h : floatBits op .f64 x y = .none) : FR op x y (Question.cut (.nanBits .f64 x y) t) :=
  ⟨(nan_cut x y t).2, Or.inr ⟨h, (nan_cut x y t).1⟩⟩

theorem sum_back {d c : Ieee.Datum} {r : Nat} (h : (d.sum c).map Ieee.double.write = .some r) (hf : fin r = true) : (∃ s m e, d = .number s m e) ∧ ∃ s m e, c = .number s m e := by
  cases d with
  | nan s f => simp [Ieee.Datum.sum] at h
  | infinity s =>
    cases c with
    | nan t f => simp [Ieee.Datum.sum] at h
    | infinity t =>
      simp only [Ieee.Datum.sum] at h
      split at h
      · cases h; rw [write_inf] at hf; cases hf
      · cases h
    | number t m e => simp only [Ieee.Datum.sum] at h; cases h; rw [write_inf] at hf; cases hf
  | number s m e =>
    cases c with
    | nan t f => simp [Ieee.Datum.sum] at h
    | infinity t => simp only [Ieee.Datum.sum] at h; cases h; rw [write_inf] at hf; cases hf
    | number t n j => exact ⟨⟨_, _, _, rfl⟩, ⟨_, _, _, rfl⟩⟩

theorem fin_of_read {x : Nat} {s : Bool} {m : Nat} {e : Int} (h : Ieee.double.read x = .number s m e) : fin x = true := by
  cases hx : fin x
  · rcases read_not hx with ⟨_, g⟩ | ⟨_, _, g⟩ <;> rw [g] at h <;> cases h
  · rfl

theorem add_back {x y r : Nat} (h : floatBits .add .f64 x y = .some r) (hf : fin r = true) : fin x = true ∧ fin y = true := by
  obtain ⟨⟨_, _, _, h1⟩, ⟨_, _, _, h2⟩⟩ := sum_back h hf
  exact ⟨fin_of_read h1, fin_of_read h2⟩
theorem sub_back {x y r : Nat} (h : floatBits .sub .f64 x y = .some r) (hf : fin r = true) : fin x = true ∧ fin y = true := by
  obtain ⟨⟨_, _, _, h1⟩, ⟨s, m, e, h2⟩⟩ := sum_back h hf
  refine ⟨fin_of_read h1, ?_⟩
  cases hy : fin y
  · rcases read_not hy with ⟨_, g⟩ | ⟨_, _, g⟩ <;> (have g' : FloatKind.f64.format.read y = _ := g; rw [g'] at h2; cases h2)
  · rfl

theorem FR.addBack {x y r : Nat} (h : FR .add x y r) (hf : fin r = true) : floatBits .add .f64 x y = .some r ∧ fin x = true ∧ fin y = true := by
  rcases h.2 with h | ⟨_, g⟩
  · exact ⟨h, add_back h hf⟩
  · rw [g] at hf; cases hf
theorem FR.subBack {x y r : Nat} (h : FR .sub x y r) (hf : fin r = true) : floatBits .sub .f64 x y = .some r ∧ fin x = true ∧ fin y = true := by
  rcases h.2 with h | ⟨_, g⟩
  · exact ⟨h, sub_back h hf⟩
  · rw [g] at hf; cases hf

theorem add_some {x y : Nat} (hx : fin x = true) (hy : fin y = true) : ∃ r, floatBits .add .f64 x y = .some r := by
  obtain ⟨s, m, e, h1⟩ := read_fin hx
  obtain ⟨t, n, j, h2⟩ := read_fin hy
  exact ⟨_, show (((Ieee.double.read x).sum (Ieee.double.read y)).map Ieee.double.write) = _ by rw [h1, h2]; rfl⟩

theorem order_self {x : Nat} (h : fin x = true) : FloatKind.f64.format.order x x = .some .eq := by
  obtain ⟨s, m, e, h1⟩ := read_fin h
  show (Ieee.double.read x).order (Ieee.double.read x) = _
  rw [h1]
  simp [Ieee.Datum.order]

theorem run_add (P : Program) (w : World) (t : TypeId) (x y : Nat) (h : floatBits .add .f64 x y = .none) :
    (binOp .add t (.float .f64 x) (.float .f64 y)).run P w = .ok (.float .f64 (Question.cut (.nanBits .f64 x y) (w.tape w.drawn (.nanBits .f64 x y)))) w.drew := by
  have h' : FloatKind.f64.format.add x y = .none := h
  simp [binOp, Op.floatArith, h', Question.forced]
theorem run_sub (P : Program) (w : World) (t : TypeId) (x y : Nat) (h : floatBits .sub .f64 x y = .none) :
    (binOp .sub t (.float .f64 x) (.float .f64 y)).run P w = .ok (.float .f64 (Question.cut (.nanBits .f64 x y) (w.tape w.drawn (.nanBits .f64 x y)))) w.drew := by
  have h' : FloatKind.f64.format.sub x y = .none := h
  simp [binOp, Op.floatArith, h', Question.forced]

/-- The sum of two finite floats and what was lost of it; nothing, where one of both is not finite. -/
def chain (a b : Nat) : Option (Nat × Nat) :=
  match floatBits .add .f64 a b with
  | .none => .none
  | .some s => if fin s then
      match floatBits .sub .f64 s a with
      | .none => .none
      | .some t =>
        match floatBits .sub .f64 s t with
        | .none => .none
        | .some d =>
          match floatBits .sub .f64 a d, floatBits .sub .f64 b t with
          | .some p, .some q =>
            match floatBits .add .f64 p q with
            | .none => .none
            | .some e => if fin e then .some (s, e) else .none
          | _, _ => .none
    else .none

/-- The steps as the machine goes them. -/
def Two (a b s e : Nat) : Prop := ∃ t d p q, FR .add a b s ∧ FR .sub s a t ∧ FR .sub s t d ∧ FR .sub a d p ∧ FR .sub b t q ∧ FR .add p q e

theorem Two.good {a b s e : Nat} (h : Two a b s e) (hs : fin s = true) (he : fin e = true) : chain a b = .some (s, e) := by
  obtain ⟨t, d, p, q, h1, h2, h3, h4, h5, h6⟩ := h
  obtain ⟨g6, fp, fq⟩ := h6.addBack he
  obtain ⟨g5, _, ft⟩ := h5.subBack fq
  obtain ⟨g4, _, fd⟩ := h4.subBack fp
  obtain ⟨g3, _, _⟩ := h3.subBack fd
  obtain ⟨g2, _, _⟩ := h2.subBack ft
  obtain ⟨g1, _, _⟩ := h1.addBack hs
  simp only [chain, g1, g2, g3, g4, g5, g6, hs, he, if_true]

theorem chain_back {a b : Nat} {u : Nat × Nat} (h : chain a b = .some u) : fin u.1 = true ∧ fin u.2 = true ∧ ∀ s e, Two a b s e → s = u.1 ∧ e = u.2 := by
  unfold chain at h
  split at h
  · cases h
  rename_i s g1
  split at h
  · rename_i hs
    split at h
    · cases h
    rename_i t g2
    split at h
    · cases h
    rename_i d g3
    split at h
    · rename_i p q g4 g5
      split at h
      · cases h
      rename_i e g6
      split at h
      · rename_i he
        cases h
        refine ⟨hs, he, fun s' e' hh => ?_⟩
        obtain ⟨t', d', p', q', h1, h2, h3, h4, h5, h6⟩ := hh
        have e1 := h1.det g1
        subst e1
        have e2 := h2.det g2
        subst e2
        have e3 := h3.det g3
        subst e3
        have e4 := h4.det g4
        subst e4
        have e5 := h5.det g5
        subst e5
        exact ⟨rfl, h6.det g6⟩
      · cases h
    · cases h
  · cases h

theorem Two.bad {a b s e : Nat} (h : Two a b s e) (hb : fin s = false ∨ fin e = false) : chain a b = .none := by
  cases hc : chain a b with
  | none => rfl
  | some u =>
    obtain ⟨h1, h2, h3⟩ := chain_back hc
    obtain ⟨e1, e2⟩ := h3 _ _ h
    rcases hb with hb | hb
    · rw [e1, h1] at hb; cases hb
    · rw [e2, h2] at hb; cases hb

/-- The first step alone. -/
theorem chain_over {a b s : Nat} (h : FR .add a b s) (hs : fin s = false) : chain a b = .none := by
  cases hc : floatBits .add .f64 a b with
  | none => simp only [chain, hc]
  | some r =>
    have := h.det hc
    subst this
    simp only [chain, hc, hs]
    rfl

/-- TwoSum: the sum, what was lost, the error. -/
def tsum (a b : Nat) : Nat × Nat × Int :=
  if fin a && fin b then
    match chain a b with
    | .some (s, e) => (s, e, 0)
    | .none => (0, 0, 9)
  else (0, 0, 8)

theorem tsum_fin (a b : Nat) : fin (tsum a b).1 = true ∧ fin (tsum a b).2.1 = true := by
  unfold tsum
  split
  · cases hc : chain a b with
    | none => exact ⟨by decide, by decide⟩
    | some u => exact ⟨(chain_back hc).1, (chain_back hc).2.1⟩
  · exact ⟨by decide, by decide⟩

theorem tsum_ok {a b s e : Nat} (ha : fin a = true) (hb : fin b = true) (h : chain a b = .some (s, e)) : tsum a b = (s, e, 0) := by
  simp only [tsum, ha, hb, h, Bool.and_true, if_true]
theorem tsum_over {a b : Nat} (ha : fin a = true) (hb : fin b = true) (h : chain a b = .none) : tsum a b = (0, 0, 9) := by
  simp only [tsum, ha, hb, h, Bool.and_true, if_true]
theorem tsum_bad {a b : Nat} (h : (fin a && fin b) = false) : tsum a b = (0, 0, 8) := by
  simp only [tsum, h]
  rfl

/-- Sum from a sum, what was lost, and a place on: the two and the fault. -/
def fsumGo : Nat → Nat → Nat → List Nat → Nat × Nat × Int × Int
  | s, c, _, [] => (s, c, 0, 0)
  | s, c, i, x :: l =>
    match chain s x with
    | .none => (0, 0, 9, (i : Int))
    | .some (t, e) =>
      match floatBits .add .f64 c e with
      | .none => (0, 0, 9, (i : Int))
      | .some d => if fin d then fsumGo t d (i + 1) l else (0, 0, 9, (i : Int))

/-- Sum: from a place on with all ahead of it finite. -/
def fsumFrom (l0 : List Nat) : Nat → List Nat → Nat × Nat × Int × Int
  | _, [] => fsumGo 0 0 0 l0
  | i, x :: l => if fin x then fsumFrom l0 (i + 1) l else (0, 0, 8, (i : Int))
def fsum (l : List Nat) : Nat × Nat × Int × Int := fsumFrom l 0 l

theorem drop_step {l : List Nat} {k : Nat} (h : k < l.length) : l.drop k = (l[k]?.getD 0) :: l.drop (k + 1) := by
  rw [List.drop_eq_getElem_cons h, List.getElem?_eq_getElem h]
  rfl

theorem fsumFrom_fin {l0 l : List Nat} {k : Nat} (h : k < l.length) (hf : fin (l[k]?.getD 0) = true) : fsumFrom l0 k (l.drop k) = fsumFrom l0 (k + 1) (l.drop (k + 1)) := by
  rw [drop_step h]
  simp only [fsumFrom, hf, if_true]
theorem fsumFrom_bad {l0 l : List Nat} {k : Nat} (h : k < l.length) (hf : fin (l[k]?.getD 0) = false) : fsumFrom l0 k (l.drop k) = (0, 0, 8, (k : Int)) := by
  rw [drop_step h]
  simp only [fsumFrom, hf]
  rfl
theorem fsumFrom_end {l0 l : List Nat} {k : Nat} (h : l.length ≤ k) : fsumFrom l0 k (l.drop k) = fsumGo 0 0 0 l0 := by
  rw [List.drop_of_length_le h]
  rfl
theorem fsumGo_end {l : List Nat} {s c k : Nat} (h : l.length ≤ k) : fsumGo s c k (l.drop k) = (s, c, 0, 0) := by
  rw [List.drop_of_length_le h]
  rfl
theorem fsumGo_none {l : List Nat} {s c k : Nat} (h : k < l.length) (g : chain s (l[k]?.getD 0) = .none) : fsumGo s c k (l.drop k) = (0, 0, 9, (k : Int)) := by
  rw [drop_step h]
  simp only [fsumGo, g]
theorem fsumGo_over {l : List Nat} {s c k t e d : Nat} (h : k < l.length) (g : chain s (l[k]?.getD 0) = .some (t, e)) (g2 : floatBits .add .f64 c e = .some d) (g3 : fin d = false) : fsumGo s c k (l.drop k) = (0, 0, 9, (k : Int)) := by
  rw [drop_step h]
  simp only [fsumGo, g, g2, g3]
  rfl
theorem fsumGo_step {l : List Nat} {s c k t e d : Nat} (h : k < l.length) (g : chain s (l[k]?.getD 0) = .some (t, e)) (g2 : floatBits .add .f64 c e = .some d) (g3 : fin d = true) : fsumGo s c k (l.drop k) = fsumGo t d (k + 1) (l.drop (k + 1)) := by
  rw [drop_step h]
  simp only [fsumGo, g, g2, g3, if_true]

/-- All of them: finite. -/
def Fins (l : List Nat) : Prop := ∀ j : Nat, fin (l[j]?.getD 0) = true

theorem fin0 : fin 0 = true := by decide

/-- A round of the program's loop. -/
theorem round_good {l : List Nat} {s c k s' e' c' : Nat} (h : k < l.length) (h2 : Two s (l[k]?.getD 0) s' e') (h3 : FR .add c e' c') (f1 : fin s' = true) (f2 : fin c' = true) :
    fsumGo s c k (l.drop k) = fsumGo s' c' (k + 1) (l.drop (k + 1)) := by
  obtain ⟨g, _, fe⟩ := h3.addBack f2
  exact fsumGo_step h (h2.good f1 fe) g f2
theorem round_bad {l : List Nat} {s c k s' e' c' : Nat} (h : k < l.length) (fc : fin c = true) (h2 : Two s (l[k]?.getD 0) s' e') (h3 : FR .add c e' c') (f : fin s' = false ∨ fin c' = false) :
    fsumGo s c k (l.drop k) = (0, 0, 9, (k : Int)) := by
  cases f1 : fin s'
  · exact fsumGo_none h (h2.bad (.inl f1))
  · cases fe : fin e'
    · exact fsumGo_none h (h2.bad (.inr fe))
    · have f2 : fin c' = false := by
        rcases f with f | f
        · rw [f1] at f; cases f
        · exact f
      obtain ⟨r, hr⟩ := add_some fc fe
      have := h3.det hr
      subst this
      exact fsumGo_over h (h2.good f1 fe) hr f2

theorem fsumGo_fin (l : List Nat) : ∀ s c i, fin s = true → fin c = true → fin (fsumGo s c i l).1 = true ∧ fin (fsumGo s c i l).2.1 = true := by
  induction l with
  | nil => intro s c i hs hc; exact ⟨hs, hc⟩
  | cons x l ih =>
    intro s c i hs hc
    simp only [fsumGo]
    split
    · exact ⟨fin0, fin0⟩
    · rename_i t e g
      split
      · exact ⟨fin0, fin0⟩
      · rename_i d g2
        split
        · rename_i hd
          exact ih t d (i + 1) (chain_back g).1 hd
        · exact ⟨fin0, fin0⟩
theorem fsumFrom_good (l0 : List Nat) (l : List Nat) : ∀ i, fin (fsumFrom l0 i l).1 = true ∧ fin (fsumFrom l0 i l).2.1 = true := by
  induction l with
  | nil => intro i; exact fsumGo_fin l0 0 0 0 (by decide) (by decide)
  | cons x l ih =>
    intro i
    simp only [fsumFrom]
    split
    · exact ih (i + 1)
    · exact ⟨fin0, fin0⟩

end Go.Proofs.YtfapekhmdhkioaaDoor

/- real.finite, real.twoSum, real.TwoSum and the document's Finite, TwoSum, of any floats, by their bits. -/
namespace Go.Proofs.YtfapekhmdhkioaaDoor
open Go.RowKit
set_option linter.unusedVariables false

theorem fin_int (x : Nat) (hx : x < 18446744073709551616) : (bits .and .u64 ((x : Int) / 4503599627370496) 2047 != 2047) = fin x := by
  have e : bits .and .u64 ((x : Int) / 4503599627370496) 2047 = ((x / 4503599627370496 % 2048 : Nat) : Int) := by
    have e0 : (x : Int) / 4503599627370496 = ((x / 4503599627370496 : Nat) : Int) := by omega
    rw [e0]
    have e1 := u64_and_nat (x / 4503599627370496) 2047 (by omega) (by omega)
    have e2 : x / 4503599627370496 &&& 2047 = x / 4503599627370496 % 2048 := Nat.and_two_pow_sub_one_eq_mod _ 11
    rw [e2] at e1
    exact e1
  rw [e]
  unfold fin
  by_cases h : x / 4503599627370496 % 2048 = 2047
  · rw [h]; rfl
  · rw [bne_iff_ne.2 h, bne_iff_ne.2 (by omega)]

/-- What the machine hands back, and the world behind it. -/
def fval (op : BinOp) (V : World) (x y : Nat) : Nat := match floatBits op .f64 x y with
  | .some r => r
  | .none => Question.cut (.nanBits .f64 x y) (V.tape V.drawn (.nanBits .f64 x y))
def fwld (op : BinOp) (V : World) (x y : Nat) : World := match floatBits op .f64 x y with
  | .some _ => V
  | .none => V.drew
theorem fval_fr (op : BinOp) (V : World) (x y : Nat) : FR op x y (fval op V x y) := by
  cases h : floatBits op .f64 x y with
  | some r => simp only [fval, h]; exact FR.some h
  | none => simp only [fval, h]; exact FR.none _ h
theorem fwld_below (op : BinOp) {B : Nat} {U V : World} (x y : Nat) (h : Below B U V) : Below B U (fwld op V x y) := by
  cases e : floatBits op .f64 x y with
  | some r => simp only [fwld, e]; exact h
  | none => simp only [fwld, e]; exact h.drew
theorem fadd_run (P : Program) (t : TypeId) (V : World) (x y : Nat) : (binOp .add t (.float .f64 x) (.float .f64 y)).run P V = .ok (.float .f64 (fval .add V x y)) (fwld .add V x y) := by
  cases h : floatBits .add .f64 x y with
  | some r => simp only [fval, fwld, h]; exact run_float_arith V _ _ _ _ _ _ h
  | none => simp only [fval, fwld, h]; exact run_add P V t x y h
theorem fsub_run (P : Program) (t : TypeId) (V : World) (x y : Nat) : (binOp .sub t (.float .f64 x) (.float .f64 y)).run P V = .ok (.float .f64 (fval .sub V x y)) (fwld .sub V x y) := by
  cases h : floatBits .sub .f64 x y with
  | some r => simp only [fval, fwld, h]; exact run_float_arith V _ _ _ _ _ _ h
  | none => simp only [fval, fwld, h]; exact run_sub P V t x y h

theorem Two.lt {a b s e : Nat} (h : Two a b s e) : s < 18446744073709551616 ∧ e < 18446744073709551616 := by
  obtain ⟨t, d, p, q, h1, h2, h3, h4, h5, h6⟩ := h
  exact ⟨h1.1, h6.1⟩

/-- What TwoSum tells. -/
def tsumV (r : Nat × Nat × Int) : Value := .tuple #[.float .f64 r.1, .float .f64 r.2.1, .int .i64 r.2.2]

end Go.Proofs.YtfapekhmdhkioaaDoor

/- The document's TwoSum; slackwaterkit.SameFloat, SameBits of one float twice; lists of floats: CopyFloats, LentFloats, SameFloats, KeptFloats. -/
namespace Go.Proofs.YtfapekhmdhkioaaDoor
open Go.RowKit
set_option linter.unusedVariables false

theorem fadd_ex (P : Program) (t : TypeId) (V : World) (x y : Nat) : ∃ r V', (binOp .add t (.float .f64 x) (.float .f64 y)).run P V = .ok (.float .f64 r) V' ∧ Hid (FR .add x y r ∧ Below V.heap.size V V') :=
  ⟨_, _, fadd_run P t V x y, fval_fr .add V x y, fwld_below .add x y (Below.refl _ _)⟩
theorem fsub_ex (P : Program) (t : TypeId) (V : World) (x y : Nat) : ∃ r V', (binOp .sub t (.float .f64 x) (.float .f64 y)).run P V = .ok (.float .f64 r) V' ∧ Hid (FR .sub x y r ∧ Below V.heap.size V V') :=
  ⟨_, _, fsub_run P t V x y, fval_fr .sub V x y, fwld_below .sub x y (Below.refl _ _)⟩
theorem b2 {a b c : World} (h : Below a.heap.size a b) (g : Below b.heap.size b c) : Below a.heap.size a c := h.trans (g.mono h.size)

/-- The slice reads as these floats. -/
def RdF (w : World) (B : Nat) (a : Option Addr) (n cap : Nat) (xs : List Nat) : Prop :=
  xs.length = n ∧ (n = 0 ∨ ∃ b o, a = some ⟨b, o, none⟩ ∧ b < B ∧ ∀ j, j < n → w.cell? ⟨b, o + j, none⟩ = some (.float .f64 (xs[j]?.getD 0))) ∧ n ≤ cap ∧ cap ≤ maxLen ∧ (a = none → cap = 0)

theorem RdF.later {w w' : World} {B B' : Nat} {a : Option Addr} {n cap : Nat} {zs : List Nat} (h : RdF w B a n cap zs) (hb : Below B w w') (hB : B ≤ B') : RdF w' B' a n cap zs := by
  obtain ⟨h1, h3, h4⟩ := h
  refine ⟨h1, h3.imp id ?_, h4⟩
  rintro ⟨b, o, rfl, hlt, hc⟩
  exact ⟨b, o, rfl, by omega, fun j hj => (hb.cell (p := ⟨b, o + j, none⟩) hlt).trans (hc j hj)⟩

theorem RdF.front {w : World} {B : Nat} {a : Option Addr} {n cap : Nat} {zs : List Nat} (h : RdF w B a n cap zs) (k : Nat) (hk : k ≤ n) : RdF w B a k cap (zs.take k) := by
  obtain ⟨h1, h3, h4, h5, h6⟩ := h
  refine ⟨by rw [List.length_take]; omega, ?_, by omega, h5, h6⟩
  rcases h3 with h3 | ⟨b, o, ha, hlt, hc⟩
  · left; omega
  · right
    refine ⟨b, o, ha, hlt, fun j hj => ?_⟩
    rw [hc j (by omega), List.getElem?_take, if_pos hj]

theorem RdF.own {w : World} {base e : Nat} {v : Value} {zs : List Nat} {n : Nat} (h : w.ownsRow base e 1 v n (zs.map (Value.float .f64))) :
    ∃ a cap, v = .slice a n cap ∧ RdF w w.heap.size a n cap zs := by
  have hl := h.1
  simp at hl
  rcases h.2 with ⟨rfl, rfl⟩ | ⟨g, cap, cur, rfl, hb, hg, hnc, hcm, hcs, ht⟩
  · exact ⟨none, 0, rfl, by omega, .inl rfl, Nat.le_refl _, Nat.zero_le _, fun _ => rfl⟩
  · refine ⟨_, cap, rfl, by omega, ?_, hnc, hcm, fun h => by simp at h⟩
    right
    refine ⟨g, 0, rfl, ?_, fun j hj => ?_⟩
    · have : w.heap[g]?.isSome := by rw [hg]; rfl
      simpa using this
    · have hc := h.cellAt j (by omega)
      rw [Nat.zero_add, hc, List.getElem?_map, List.getElem?_eq_getElem (by omega)]
      simp

theorem newsF {w : World} {B : Nat} {ad : Addr} {n cap : Nat} {zs : List Nat} (h : RdF w B (some ad) n cap zs) :
    ∀ j v, (zs.map (Value.float .f64))[j]? = some v → w.cell? (ad.add j) = some v := by
  intro j v hj
  have hj1 := (List.getElem?_eq_some_iff.1 hj).1
  have hl := h.1
  simp only [List.length_map] at hj1
  rcases h.2.1 with h0 | ⟨b, o, ha, _, hc⟩
  · omega
  · cases ha
    rw [Addr.add_lit, hc j (by omega), ← hj, List.getElem?_map, List.getElem?_eq_getElem hj1]
    rfl

theorem floats_oneCell (zs : List Nat) : ∀ u ∈ zs.map (Value.float .f64), u.oneCell' = true := by
  intro u hu
  obtain ⟨z, _, rfl⟩ := List.mem_map.1 hu
  rfl

/-- What stands behind a list of floats that is lent: 0.125, 1.125, 2.125. -/
def fmarks (k : Nat) : List Nat := [4593671619917905920, 4607745368753438720, 4611967493404098560].take k
theorem fmark_run (k : Nat) (h : k < 3) (P : Program) (t : TypeId) (V : World) : ∃ r, (binOp .add t (.float .f64 4593671619917905920) (.float .f64 (floatOfInt .f64 (k : Int)))).run P V = .ok (.float .f64 r) V ∧ fmarks (k + 1) = fmarks k ++ [r] := by
  match k, h with
  | 0, _ => exact ⟨4593671619917905920, run_float_arith V _ _ _ _ _ _ (by decide +kernel), rfl⟩
  | 1, _ => exact ⟨4607745368753438720, run_float_arith V _ _ _ _ _ _ (by decide +kernel), rfl⟩
  | 2, _ => exact ⟨4611967493404098560, run_float_arith V _ _ _ _ _ _ (by decide +kernel), rfl⟩

end Go.Proofs.YtfapekhmdhkioaaDoor

/- real.Sum and the document's Sum, of any list of floats. -/
namespace Go.Proofs.YtfapekhmdhkioaaDoor
open Go.RowKit
set_option linter.unusedVariables false

/-- A struct's memory. -/
def FBox (w : World) (b t : Nat) (vs : Array Value) : Prop := w.heap[b]? = some (.cells vs t (0, 0))
theorem FBox.cell {w : World} {b t : Nat} {vs : Array Value} (h : FBox w b t vs) (j : Nat) : w.cell? ⟨b, j, none⟩ = vs[j]? := by
  unfold FBox at h
  simp [World.cell?, h]
theorem FBox.free {w : World} {b t : Nat} {vs : Array Value} (h : FBox w b t vs) (j : Nat) : w.frozen? ⟨b, j, none⟩ = false := by
  unfold FBox at h
  simp [World.frozen?, h]
theorem FBox.later {w w' : World} {B b t : Nat} {vs : Array Value} (h : FBox w b t vs) (hb : Below B w w') (hlt : b < B) : FBox w' b t vs := by
  unfold FBox at *
  rw [hb.block b hlt]; exact h
theorem FBox.lt {w : World} {b t : Nat} {vs : Array Value} (h : FBox w b t vs) : b < w.heap.size := by
  unfold FBox at h
  have : w.heap[b]?.isSome := by rw [h]; rfl
  simpa using this
theorem FBox.made (w : World) (t : Nat) (vs : Array Value) : FBox (w.alloc (.cells vs t)) w.heap.size t vs := by
  unfold FBox
  show (w.heap.push _)[w.heap.size]? = _
  rw [Array.getElem?_push, if_pos rfl]
theorem FBox.other {w : World} {b t : Nat} {vs : Array Value} (h : FBox w b t vs) (p : Addr) (v : Value) (hne : b ≠ p.block) : FBox (w.setCell p v) b t vs := by
  unfold FBox at *
  rw [Below.heap_setCell w p v b hne]; exact h
theorem FBox.drewN {w : World} {b t : Nat} {vs : Array Value} (h : FBox w b t vs) (n : Nat) : FBox (w.drewN n) b t vs := h
theorem FBox.set {w : World} {b t : Nat} {vs : Array Value} (h : FBox w b t vs) (j : Nat) (v : Value) : FBox (w.setCell ⟨b, j, none⟩ v) b t (vs.setIfInBounds j v) := by
  unfold FBox at *
  simp only [World.setCell, Array.getElem?_modify, if_pos, h]
  simp

/-- What Sum tells. -/
def sumV (r : Nat × Nat × Int × Int) : Value := .tuple #[.float .f64 r.1, .float .f64 r.2.1, .agg #[.int .i64 r.2.2.1, .int .i64 r.2.2.2]]

/-- Each float has 64 bits. -/
def Wf (xs : List Nat) : Prop := ∀ j : Nat, xs[j]?.getD 0 < 18446744073709551616

theorem fput2 {B : Nat} {a w : World} (h : Below B a w) (b : Nat) (hb : B ≤ b) (v0 v1 : Value) : Below B a ((w.setCell ⟨b, 0, none⟩ v0).setCell ⟨b, 1, none⟩ v1) :=
  (h.setCell (p := ⟨b, 0, none⟩) hb _).setCell (p := ⟨b, 1, none⟩) hb _
theorem fbox_facts {w w' : World} {b t : Nat} {v0 v1 : Value} (h : FBox w b t #[v0, v1]) (hb : Below w.heap.size w w') : w'.cell? ⟨b, 0, none⟩ = some v0 ∧ w'.cell? ⟨b, 1, none⟩ = some v1 ∧ w'.frozen? ⟨b, 0, none⟩ = false ∧ w'.frozen? ⟨b, 1, none⟩ = false := by
  have h' := h.later hb h.lt
  exact ⟨h'.cell 0, h'.cell 1, h'.free 0, h'.free 1⟩

end Go.Proofs.YtfapekhmdhkioaaDoor

/- package clock: Check, Of, Week, At, leap, yearDays, monthDays, of every number. -/
namespace Go.Proofs.YtfapekhmdhkioaaDoor
open Go.RowKit
set_option linter.unusedVariables false

def I64 (x : Int) : Prop := -9223372036854775808 ≤ x ∧ x ≤ 9223372036854775807
def ckR (t : Int) : Int := if 0 ≤ t ∧ t ≤ 1048576 then 0 else 2
theorem ckcheck_any (t : Int) (w : World) (h : I64 t) :
    Calls Tryd.prog 22 #[.int .i64 t] w fun e w' => e = .returned (.int .i64 (ckR t)) ∧ w' = w := by
  have HN : Hid (¬ (0 ≤ t ∧ t ≤ 1048576) → ckR t = 2) := fun h => if_neg h
  have HY : Hid ((0 ≤ t ∧ t ≤ 1048576) → ckR t = 0) := fun h => if_pos h
  go_enter Tryd.func22, Tryd.ntmps22
  go_wp2_with fail
  all_goals
    go_ret
    first
    | exact ⟨ret_int (HN.out (by omega)).symm, rfl⟩
    | exact ⟨ret_int (HY.out (by omega)).symm, rfl⟩

theorem ckof_ok (t : Nat) (w : World) (h : t ≤ 1048576) :
    Calls Tryd.prog 23 #[.int .i64 (t : Int)] w fun e w' => e = .returned (.tuple #[.int .i64 ((t / 24 : Nat) : Int), .int .i64 ((t % 24 : Nat) : Int), .int .i64 0]) ∧ w' = w := by
  have HC := hid (ckcheck_any t w ⟨by omega, by omega⟩)
  rw [show ckR (t : Int) = 0 from if_pos ⟨by omega, by omega⟩] at HC
  have a1 : Int.tdiv (t : Int) 24 = ((t / 24 : Nat) : Int) := rfl
  have a2 : Int.tmod (t : Int) 24 = ((t % 24 : Nat) : Int) := rfl
  have a3 : IntKind.i64.wrap ((t / 24 : Nat) : Int) = ((t / 24 : Nat) : Int) := by rw [IntKind.wrap_i64]; omega
  have a4 : IntKind.i64.wrap ((t % 24 : Nat) : Int) = ((t % 24 : Nat) : Int) := by rw [IntKind.wrap_i64]; omega
  go_enter Tryd.func23, Tryd.ntmps23
  go_wp2_with fail
  refine Calls.mono HC.out ?_
  rintro e w1 ⟨rfl, rfl⟩
  go_wp2_with fail
  go_returns
  exact ⟨by go_num, rfl⟩
theorem ckof_err (t : Int) (w : World) (h : I64 t) (hn : ¬ (0 ≤ t ∧ t ≤ 1048576)) :
    Calls Tryd.prog 23 #[.int .i64 t] w fun e w' => e = .returned (.tuple #[.int .i64 0, .int .i64 0, .int .i64 2]) ∧ w' = w := by
  have HC := hid (ckcheck_any t w h)
  rw [show ckR t = 2 from if_neg hn] at HC
  clear hn h
  go_enter Tryd.func23, Tryd.ntmps23
  go_wp2_with fail
  refine Calls.mono HC.out ?_
  rintro e w1 ⟨rfl, rfl⟩
  go_wp2_with fail
  go_returns
  exact ⟨rfl, rfl⟩

theorem ckweek_ok (t : Nat) (w : World) (h : t ≤ 1048576) :
    Calls Tryd.prog 17 #[.int .i64 (t : Int)] w fun e w' => e = .returned (.tuple #[.int .i64 (((t / 24 + 5) % 7 : Nat) : Int), .int .i64 0]) ∧ w' = w := by
  have HC := hid (ckof_ok t w h)
  have a2 : Int.tmod ((t / 24 : Nat) + 5 : Int) 7 = (((t / 24 + 5) % 7 : Nat) : Int) := rfl
  have a3 : IntKind.i64.wrap ((t / 24 : Nat) + 5 : Int) = ((t / 24 : Nat) + 5 : Int) := by rw [IntKind.wrap_i64]; omega
  have a4 : IntKind.i64.wrap (((t / 24 + 5) % 7 : Nat) : Int) = (((t / 24 + 5) % 7 : Nat) : Int) := by rw [IntKind.wrap_i64]; omega
  go_enter Tryd.func17, Tryd.ntmps17
  go_wp2_with fail
  refine Calls.mono HC.out ?_
  rintro e w1 ⟨rfl, rfl⟩
  go_wp2_with fail
  go_returns
  exact ⟨by go_num, rfl⟩
theorem ckweek_err (t : Int) (w : World) (h : I64 t) (hn : ¬ (0 ≤ t ∧ t ≤ 1048576)) :
    Calls Tryd.prog 17 #[.int .i64 t] w fun e w' => e = .returned (.tuple #[.int .i64 0, .int .i64 2]) ∧ w' = w := by
  have HC := hid (ckof_err t w h hn)
  clear hn h
  go_enter Tryd.func17, Tryd.ntmps17
  go_wp2_with fail
  refine Calls.mono HC.out ?_
  rintro e w1 ⟨rfl, rfl⟩
  go_wp2_with fail
  go_returns
  exact ⟨rfl, rfl⟩

/-- A day's hour that is a tick. -/
def okA (d h : Int) : Prop := 0 ≤ h ∧ h < 24 ∧ 0 ≤ d ∧ d ≤ 43690 ∧ d * 24 + h ≤ 1048576
instance (d h : Int) : Decidable (okA d h) := by unfold okA; infer_instance
def atR (d h : Int) : Int × Int := if okA d h then (d * 24 + h, 0) else (0, 2)
theorem ckat_any (d h : Int) (w : World) (hd : I64 d) (hh : I64 h) :
    Calls Tryd.prog 12 #[.int .i64 d, .int .i64 h] w fun e w' => e = .returned (.tuple #[.int .i64 (atR d h).1, .int .i64 (atR d h).2]) ∧ w' = w := by
  have HN : Hid (¬ okA d h → atR d h = (0, 2)) := fun h => if_neg h
  have HY : Hid (okA d h → atR d h = (d * 24 + h, 0)) := fun h => if_pos h
  by_cases hk : 0 ≤ h ∧ h < 24 ∧ 0 ≤ d ∧ d ≤ 43690
  · have HC := hid (ckcheck_any (d * 24 + h) w ⟨by omega, by omega⟩)
    have x1 : IntKind.i64.wrap (d * 24) = d * 24 := by rw [IntKind.wrap_i64]; omega
    have x2 : IntKind.i64.wrap (d * 24 + h) = d * 24 + h := by rw [IntKind.wrap_i64]; omega
    by_cases h1 : d * 24 + h ≤ 1048576
    · rw [HY.out ⟨hk.1, hk.2.1, hk.2.2.1, hk.2.2.2, h1⟩]
      rw [show ckR (d * 24 + h) = 0 from if_pos ⟨by omega, h1⟩] at HC
      obtain ⟨k1, k2, k3, k4⟩ := hk
      clear HN HY
      go_enter Tryd.func12, Tryd.ntmps12
      go_wp2_with fail
      refine Calls.mono HC.out ?_
      rintro e w1 ⟨rfl, rfl⟩
      go_wp2_with fail
      go_returns
      exact ⟨rfl, rfl⟩
    · rw [HN.out (fun g => h1 g.2.2.2.2)]
      rw [show ckR (d * 24 + h) = 2 from if_neg (by omega)] at HC
      obtain ⟨k1, k2, k3, k4⟩ := hk
      clear HN HY
      go_enter Tryd.func12, Tryd.ntmps12
      go_wp2_with fail
      refine Calls.mono HC.out ?_
      rintro e w1 ⟨rfl, rfl⟩
      go_wp2_with fail
      go_returns
      exact ⟨rfl, rfl⟩
  · rw [HN.out (fun g => hk ⟨g.1, g.2.1, g.2.2.1, g.2.2.2.1⟩)]
    clear HN HY
    go_enter Tryd.func12, Tryd.ntmps12
    go_wp2_with fail
    all_goals
      first
      | (go_returns; exact ⟨rfl, rfl⟩)
      | omega

theorem ckleap_any (y : Nat) (w : World) (h : y ≤ 1048576) :
    Calls Tryd.prog 29 #[.int .i64 (y : Int)] w fun e w' => e = .returned (.bool (lp y)) ∧ w' = w := by
  have a1 : Int.tmod (y : Int) 4 = ((y % 4 : Nat) : Int) := rfl
  have a2 : Int.tmod (y : Int) 100 = ((y % 100 : Nat) : Int) := rfl
  have a3 : Int.tmod (y : Int) 400 = ((y % 400 : Nat) : Int) := rfl
  have HR : Hid (∀ b : Bool, (b = true ↔ (y % 4 = 0 ∧ ¬ y % 100 = 0 ∨ y % 400 = 0)) → Ending.returned (.bool b) = .returned (.bool (lp y))) := fun b hb => by
    congr 2
    unfold lp
    rw [Bool.eq_iff_iff, hb]
    simp
  go_enter Tryd.func29, Tryd.ntmps29
  go_wp2_with fail
  all_goals
    go_returns
    refine ⟨HR.out _ ?_, rfl⟩
    simp
    omega
theorem ckyd_any (y : Nat) (w : World) (h : y ≤ 1048576) :
    Calls Tryd.prog 24 #[.int .i64 (y : Int)] w fun e w' => e = .returned (.int .i64 ((yd y : Nat) : Int)) ∧ w' = w := by
  have HC := hid (ckleap_any y w h)
  unfold yd
  cases hl : lp y
  all_goals
    rw [hl] at HC
    simp only [if_true, if_false, Bool.false_eq_true]
    clear hl
    go_enter Tryd.func24, Tryd.ntmps24
    go_wp2_with fail
    refine Calls.mono HC.out ?_
    rintro e w1 ⟨rfl, rfl⟩
    go_wp2_with fail
    go_returns
    exact ⟨rfl, rfl⟩
/-- The days of a month that there is, or is not. -/
def mdI (y : Nat) (m : Int) : Nat := if 1 ≤ m ∧ m ≤ 12 then md y m.toNat else 0
theorem ckmd_any (y : Nat) (m : Int) (w : World) (h : y ≤ 1048576) (hm : I64 m) :
    Calls Tryd.prog 25 #[.int .i64 (y : Int), .int .i64 m] w fun e w' => e = .returned (.int .i64 ((mdI y m : Nat) : Int)) ∧ w' = w := by
  have HC := hid (ckleap_any y w h)
  have HN : Hid (¬ (1 ≤ m ∧ m ≤ 12) → mdI y m = 0) := fun h => if_neg h
  have H31 : Hid (m = 1 ∨ m = 3 ∨ m = 5 ∨ m = 7 ∨ m = 8 ∨ m = 10 ∨ m = 12 → mdI y m = 31) := fun h => by
    unfold mdI md
    rw [if_pos (by omega), if_neg (by omega), if_neg (by omega), if_pos (by omega)]
  have H30 : Hid (m = 4 ∨ m = 6 ∨ m = 9 ∨ m = 11 → mdI y m = 30) := fun h => by
    unfold mdI md
    rw [if_pos (by omega), if_neg (by omega), if_pos (by omega)]
  have H2 : Hid (m = 2 → mdI y m = if lp y then 29 else 28) := fun h => by
    unfold mdI md
    rw [if_pos (by omega), if_pos (by omega)]
  obtain ⟨b, hb⟩ : ∃ b, lp y = b := ⟨_, rfl⟩
  rw [hb] at HC H2
  clear hb
  by_cases hn : 1 ≤ m ∧ m ≤ 12
  · have hc : m = 1 ∨ m = 3 ∨ m = 5 ∨ m = 7 ∨ m = 8 ∨ m = 10 ∨ m = 12 ∨ m = 4 ∨ m = 6 ∨ m = 9 ∨ m = 11 ∨ m = 2 := by omega
    clear hn hm
    rcases hc with rfl | rfl | rfl | rfl | rfl | rfl | rfl | rfl | rfl | rfl | rfl | rfl
    iterate 7
      · rw [H31.out (by omega)]
        clear H31 H30 HN H2 HC
        go_enter Tryd.func25, Tryd.ntmps25
        go_wp2_with fail
        go_returns
        exact ⟨rfl, rfl⟩
    iterate 4
      · rw [H30.out (by omega)]
        clear H31 H30 HN H2 HC
        go_enter Tryd.func25, Tryd.ntmps25
        go_wp2_with fail
        go_returns
        exact ⟨rfl, rfl⟩
    rw [H2.out rfl]
    clear H31 H30 HN H2
    cases b
    all_goals
      simp only [if_true, if_false, Bool.false_eq_true]
      go_enter Tryd.func25, Tryd.ntmps25
      go_wp2_with fail
      refine Calls.mono HC.out ?_
      rintro e w1 ⟨rfl, rfl⟩
      go_wp2_with fail
      go_returns
      exact ⟨rfl, rfl⟩
  · rw [HN.out hn]
    have n : ∀ k : Int, 1 ≤ k ∧ k ≤ 12 → (m == k) = false := fun k hk => beq_eq_false_iff_ne.2 (by rintro rfl; exact hn hk)
    have n1 := n 1 (by omega)
    have n2 := n 2 (by omega)
    have n3 := n 3 (by omega)
    have n4 := n 4 (by omega)
    have n5 := n 5 (by omega)
    have n6 := n 6 (by omega)
    have n7 := n 7 (by omega)
    have n8 := n 8 (by omega)
    have n9 := n 9 (by omega)
    have n10 := n 10 (by omega)
    have n11 := n 11 (by omega)
    have n12 := n 12 (by omega)
    clear H31 H30 HN H2 HC n
    go_enter Tryd.func25, Tryd.ntmps25
    go_wp2_with fail
    all_goals
      go_returns
      exact ⟨rfl, rfl⟩
end Go.Proofs.YtfapekhmdhkioaaDoor

/- package clock: Date, From, of every number. -/
namespace Go.Proofs.YtfapekhmdhkioaaDoor
open Go.RowKit
set_option linter.unusedVariables false
set_option linter.unusedSimpArgs false

def dA (y m d h : Int) : Array Value := #[.int .i64 y, .int .i64 m, .int .i64 d, .int .i64 h]
theorem Below.drewM {B n : Nat} {a w : World} (h : Below B a w) : Below B a (w.drewN n) := by
  induction n with
  | zero => exact h
  | succ n ih => exact ih.drew
theorem fput4 {B : Nat} {a w : World} (h : Below B a w) (b : Nat) (hb : B ≤ b) (v0 v1 v2 v3 : Value) : Below B a ((((w.setCell ⟨b, 0, none⟩ v0).setCell ⟨b, 1, none⟩ v1).setCell ⟨b, 2, none⟩ v2).setCell ⟨b, 3, none⟩ v3) :=
  (((h.setCell (p := ⟨b, 0, none⟩) hb _).setCell (p := ⟨b, 1, none⟩) hb _).setCell (p := ⟨b, 2, none⟩) hb _).setCell (p := ⟨b, 3, none⟩) hb _
theorem dbox_put {w : World} {b t : Nat} {y m d h : Int} (g : FBox w b t (dA y m d h)) (v0 v1 v2 v3 : Int) : FBox ((((w.setCell ⟨b, 0, none⟩ (.int .i64 v0)).setCell ⟨b, 1, none⟩ (.int .i64 v1)).setCell ⟨b, 2, none⟩ (.int .i64 v2)).setCell ⟨b, 3, none⟩ (.int .i64 v3)) b t (dA v0 v1 v2 v3) :=
  (((g.set 0 _).set 1 _).set 2 _).set 3 _
theorem dbox_facts {w w' : World} {b t : Nat} {y m d h : Int} (g : FBox w b t (dA y m d h)) (hb : Below w.heap.size w w') : w'.cell? ⟨b, 0, none⟩ = some (.int .i64 y) ∧ w'.cell? ⟨b, 1, none⟩ = some (.int .i64 m) ∧ w'.cell? ⟨b, 2, none⟩ = some (.int .i64 d) ∧ w'.cell? ⟨b, 3, none⟩ = some (.int .i64 h) ∧ w'.frozen? ⟨b, 0, none⟩ = false ∧ w'.frozen? ⟨b, 1, none⟩ = false ∧ w'.frozen? ⟨b, 2, none⟩ = false ∧ w'.frozen? ⟨b, 3, none⟩ = false := by
  have k := g.later hb g.lt
  exact ⟨k.cell 0, k.cell 1, k.cell 2, k.cell 3, k.free 0, k.free 1, k.free 2, k.free 3⟩

set_option maxHeartbeats 1600000 in
set_option maxRecDepth 100000 in
theorem ckdate_ok (t : Nat) (w : World) (h : t ≤ 1048576) :
    Calls Tryd.prog 13 #[.int .i64 (t : Int)] w fun e w' => (∃ k j r, IsD (t / 24) k j r ∧ e = .returned (.tuple #[.agg (dA ((2000 + k : Nat) : Int) ((j + 1 : Nat) : Int) ((r + 1 : Nat) : Int) ((t % 24 : Nat) : Int)), .int .i64 0])) ∧ Below w.heap.size w w' := by
  have HC := hid (fun V => ckof_ok t V h)
  have hD24 : t / 24 ≤ 43690 := by omega
  have hH24 : t % 24 < 24 := by omega
  generalize t / 24 = D at *
  generalize t % 24 = H at *
  have HX := hid (FBox.made w 36 (dA 0 0 0 0))
  have HBX : Hid (Below w.heap.size w (w.alloc (.cells (dA 0 0 0 0) 36))) := (Below.refl _ _).alloc (Nat.le_refl _) _
  unfold dA at HX HBX
  go_enter Tryd.func13, Tryd.ntmps13
  go_wp2_with fail
  generalize hX : w.alloc (.cells #[.int .i64 0, .int .i64 0, .int .i64 0, .int .i64 0] 36) = X at *
  refine Calls.mono (HC.out _) ?_
  rintro e w1 ⟨rfl, rfl⟩
  have hlt : w.heap.size < w1.heap.size := HX.out.lt
  clear hX HC
  go_wp2_with fail
  go_loopw [4] (fun x wr => ∃ k y : Nat, x = .int .i64 (y : Int) ∧ Hid (yT k + y = D) ∧ Hid (FBox wr w1.heap.size 36 (dA ((2000 + k : Nat) : Int) 1 0 (H : Int))) ∧ Hid (FBox wr w.heap.size 36 (dA 0 0 0 0)) ∧ Hid (Below w.heap.size w wr)) (fun x _ => (intOf x).toNat)
  case atStart =>
    refine ⟨0, D, rfl, hid (by simp [yT]), hid (FBox.made w1 36 _), ?_, ?_⟩
    · exact hid (FBox.later HX.out (Below.alloc (Below.refl _ _) (Nat.le_refl _) _) HX.out.lt)
    · exact hid (HBX.out.alloc (Nat.le_of_lt hlt) _)
  case round =>
    obtain ⟨k, y, rfl, hy, hd, hr, hbw⟩ := hrel
    have hk : k ≤ 119 := by
      have := (yT_365 k).1
      have e := hy.out
      omega
    obtain ⟨c0, c1, c2, c3, g0, g1, g2, g3⟩ := dbox_facts hd.out (Below.refl _ _)
    have HY := hid (fun V => ckyd_any (2000 + k) V (by omega))
    have hyd := yd_or (2000 + k)
    have HS : Hid (yT (k + 1) = yT k + yd (2000 + k)) := rfl
    have HYM := hid (mT12 (2000 + k))
    generalize yd (2000 + k) = Y at *
    have hyD : y ≤ D := by have := hy.out; omega
    go_wp2_with fail
    refine Calls.mono (HY.out wr) ?_
    rintro e w2 ⟨rfl, rfl⟩
    by_cases hc : Y ≤ y
    · have hc1 : decide ((Y : Int) ≤ (y : Int)) = true := by simp; omega
      have x1 : IntKind.i64.wrap ((y : Int) - (Y : Int)) = ((y - Y : Nat) : Int) := by rw [IntKind.wrap_i64]; omega
      have x2 : IntKind.i64.wrap (2000 + (k : Int) + 1) = 2000 + ((k + 1 : Nat) : Int) := by rw [IntKind.wrap_i64]; omega
      go_wp2_with fail
      refine Calls.mono (HY.out w2) ?_
      rintro e w3 ⟨rfl, rfl⟩
      go_wp2_with fail
      refine ⟨⟨k + 1, y - Y, rfl, hid (by have := hy.out; have := HS.out; omega), hid (hd.out.set 0 (.int .i64 (2000 + ((k : Int) + 1)))), hid (hr.out.other ⟨w1.heap.size, 0, none⟩ _ (Nat.ne_of_lt hlt)), hid (hbw.out.setCell (p := ⟨w1.heap.size, 0, none⟩) (Nat.le_of_lt hlt) _)⟩, ?_⟩
      simp [intOf]; omega
    · have hc1 : decide ((Y : Int) ≤ (y : Int)) = false := by simp; omega
      have H12 : Hid (y < mT (2000 + k) 12) := by show y < _; rw [HYM.out]; omega
      clear HS HY hyd HYM
      go_wp2_with fail
      clear c0 c1 c2 c3 g0 g1 g2 g3
      have HW := hid hlt
      clear hlt
      have hlt : w.heap.size < w1.heap.size := HW.out
      go_loopw [4] (fun x wr => ∃ j z : Nat, x = .int .i64 (z : Int) ∧ j < 12 ∧ Hid (mT (2000 + k) j + z = y) ∧ Hid (FBox wr w1.heap.size 36 (dA ((2000 + k : Nat) : Int) ((j + 1 : Nat) : Int) 0 (H : Int))) ∧ Hid (FBox wr w.heap.size 36 (dA 0 0 0 0)) ∧ Hid (Below w.heap.size w wr)) (fun x _ => (intOf x).toNat)
      case atStart => exact ⟨0, y, rfl, by omega, hid (by simp [mT]), hid hd.out, hid hr.out, hid hbw.out⟩
      case round =>
        obtain ⟨j, z, rfl, hj, hz, hd', hr', hbw'⟩ := hrel
        obtain ⟨c0, c1, c2, c3, g0, g1, g2, g3⟩ := dbox_facts hd'.out (Below.refl _ _)
        obtain ⟨e0, e1, e2, e3, k0, k1, k2, k3⟩ := dbox_facts hr'.out (Below.refl _ _)
        have HM := hid (fun V => ckmd_any (2000 + k) ((j + 1 : Nat) : Int) V (by omega) ⟨by omega, by omega⟩)
        rw [show mdI (2000 + k) ((j + 1 : Nat) : Int) = md (2000 + k) (j + 1) from by unfold mdI; rw [if_pos (by omega)]; rfl] at HM
        have hmp := md_pos (2000 + k) (j + 1) (by omega) (by omega)
        have hml := md_le (2000 + k) (j + 1)
        have HS : Hid (mT (2000 + k) (j + 1) = mT (2000 + k) j + md (2000 + k) (j + 1)) := rfl
        have HQ : Hid (z < md (2000 + k) (j + 1) → IsD D k j z) := fun g => ⟨by have := hz.out; have := hy.out; omega, hj, g⟩
        generalize md (2000 + k) (j + 1) = M at *
        have hzy : z ≤ y := by have := hz.out; omega
        go_wp2_with fail
        refine Calls.mono (HM.out wr) ?_
        rintro e w2 ⟨rfl, rfl⟩
        by_cases hc : M ≤ z
        · have hc1 : decide ((M : Int) ≤ (z : Int)) = true := by simp; omega
          have x1 : IntKind.i64.wrap ((z : Int) - (M : Int)) = ((z - M : Nat) : Int) := by rw [IntKind.wrap_i64]; omega
          have x2 : IntKind.i64.wrap ((j : Int) + 1 + 1) = ((j + 1 : Nat) : Int) + 1 := by rw [IntKind.wrap_i64]; omega
          have hj' : j + 1 < 12 := by
            rcases Nat.lt_or_ge (j + 1) 12 with g | g
            · exact g
            · exfalso
              obtain rfl : j = 11 := by omega
              have a := H12.out
              have b : mT (2000 + k) 12 = mT (2000 + k) 11 + M := HS.out
              have c := hz.out
              omega
          clear HQ
          go_wp2_with fail
          refine Calls.mono (HM.out w2) ?_
          rintro e w3 ⟨rfl, rfl⟩
          go_wp2_with fail
          refine ⟨⟨j + 1, z - M, rfl, hj', hid (by have := hz.out; have := HS.out; omega), hid (hd'.out.set 1 (.int .i64 ((j : Int) + 1 + 1))), hid (hr'.out.other ⟨w1.heap.size, 1, none⟩ _ (Nat.ne_of_lt hlt)), hid (hbw'.out.setCell (p := ⟨w1.heap.size, 1, none⟩) (Nat.le_of_lt hlt) _)⟩, ?_⟩
          simp [intOf]; omega
        · have hc1 : decide ((M : Int) ≤ (z : Int)) = false := by simp; omega
          have HI := hid (HQ.out (by omega))
          have x1 : IntKind.i64.wrap ((z : Int) + 1) = (z : Int) + 1 := by rw [IntKind.wrap_i64]; omega
          clear HQ HS HM
          go_wp2_with fail
          have hne : w1.heap.size ≠ w.heap.size := by omega
          refine bodyPost_ret (v := .tuple #[.agg (dA ((2000 + k : Nat) : Int) ((j + 1 : Nat) : Int) ((z + 1 : Nat) : Int) (H : Int)), .int .i64 0]) (by simp [results, Tryd.results13, go_sem, e0, e1, e2, e3, k0, k1, k2, k3, dA, hne]) rfl ?_
          exact ⟨⟨k, j, z, HI.out, rfl⟩, fput4 (hbw'.out.setCell (p := ⟨w1.heap.size, 2, none⟩) (Nat.le_of_lt hlt) _) _ (Nat.le_refl _) _ _ _ _⟩

set_option maxHeartbeats 800000 in
set_option maxRecDepth 100000 in
theorem ckdate_err (t : Int) (w : World) (h : I64 t) (hn : ¬ (0 ≤ t ∧ t ≤ 1048576)) :
    Calls Tryd.prog 13 #[.int .i64 t] w fun e w' => e = .returned (.tuple #[.agg (dA 0 0 0 0), .int .i64 2]) ∧ Below w.heap.size w w' := by
  have HC := hid (fun V => ckof_err t V h hn)
  have HX := hid (FBox.made w 36 (dA 0 0 0 0))
  have HBX : Hid (Below w.heap.size w (w.alloc (.cells (dA 0 0 0 0) 36))) := (Below.refl _ _).alloc (Nat.le_refl _) _
  unfold dA at HX HBX
  clear hn
  go_enter Tryd.func13, Tryd.ntmps13
  go_wp2_with fail
  generalize hX : w.alloc (.cells #[.int .i64 0, .int .i64 0, .int .i64 0, .int .i64 0] 36) = X at *
  refine Calls.mono (HC.out _) ?_
  rintro e w1 ⟨rfl, rfl⟩
  obtain ⟨e0, e1, e2, e3, k0, k1, k2, k3⟩ := dbox_facts (show FBox w1 w.heap.size 36 (dA 0 0 0 0) from HX.out) (Below.refl _ _)
  clear hX HC
  go_wp2_with fail
  refine bodyPost_ret (v := .tuple #[.agg (dA 0 0 0 0), .int .i64 2]) (by simp [results, Tryd.results13, go_sem, e0, e1, e2, e3, k0, k1, k2, k3, dA]) rfl ?_
  exact ⟨rfl, fput4 HBX.out _ (Nat.le_refl _) _ _ _ _⟩

/-- The day of a date that there is. -/
def okD (y m d : Int) : Prop := 2000 ≤ y ∧ y ≤ 2119 ∧ 1 ≤ d ∧ d ≤ (mdI y.toNat m : Nat)
instance (y m d : Int) : Decidable (okD y m d) := by unfold okD; infer_instance
set_option maxHeartbeats 1600000 in
set_option maxRecDepth 100000 in
theorem ckfrom_err (y m d h : Int) (w : World) (hy : I64 y) (hm : I64 m) (hd : I64 d) (hh : I64 h) (hn : ¬ okD y m d) :
    Calls Tryd.prog 15 #[.agg (dA y m d h)] w fun e w' => e = .returned (.tuple #[.int .i64 0, .int .i64 2]) ∧ Below w.heap.size w w' := by
  have HX := hid (FBox.made w 36 (dA y m d h))
  have HBX : Hid (Below w.heap.size w (w.alloc (.cells (dA y m d h) 36))) := (Below.refl _ _).alloc (Nat.le_refl _) _
  unfold dA at HX HBX ⊢
  by_cases hr : 2000 ≤ y ∧ y ≤ 2119
  · obtain ⟨k, rfl⟩ : ∃ k : Nat, y = (k : Int) := ⟨y.toNat, by omega⟩
    have HM := hid (fun V => ckmd_any k m V (by omega) hm)
    have hn' : ¬ (1 ≤ d ∧ d ≤ (mdI k m : Nat)) := fun g => hn ⟨hr.1, hr.2, g.1, g.2⟩
    have hml : mdI k m ≤ 31 := by unfold mdI; split; exact md_le _ _; omega
    generalize mdI k m = M at *
    clear hn
    obtain ⟨c0, c1, c2, c3, g0, g1, g2, g3⟩ := dbox_facts (show FBox _ w.heap.size 36 (dA (k : Int) m d h) from HX.out) (Below.refl _ _)
    have y1 : decide ((k : Int) < 2000) = false := by simp; omega
    have y2 : decide (2119 < (k : Int)) = false := by simp; omega
    go_enter Tryd.func15, Tryd.ntmps15
    go_wp2_with fail
    generalize w.alloc (.cells #[.int .i64 (k : Int), .int .i64 m, .int .i64 d, .int .i64 h] 36) = X at *
    by_cases hd1 : d < 1
    · have z1 : decide (d < 1) = true := by simp; omega
      go_quiet (fail)
      go_wp2_with fail
      go_returns
      exact ⟨rfl, Below.drewM HBX.out⟩
    · have z1 : decide (d < 1) = false := by simp; omega
      have z2 : decide ((M : Int) < d) = true := by simp; omega
      go_quiet ((go_at_call 25; exact Calls.quiet_of_same (HM.out _)))
      go_wp2_with fail
      go_returns
      exact ⟨rfl, Below.drewM HBX.out⟩
  · go_enter Tryd.func15, Tryd.ntmps15
    by_cases h1 : y < 2000
    · have z1 : decide (y < 2000) = true := by simp; omega
      go_wp2_with fail
      all_goals first | (go_returns; exact ⟨rfl, HBX.out⟩) | omega
    · have z1 : decide (y < 2000) = false := by simp; omega
      have z2 : decide (2119 < y) = true := by simp; omega
      go_wp2_with fail
      all_goals first | (go_returns; exact ⟨rfl, HBX.out⟩) | omega
set_option maxHeartbeats 1600000 in
set_option maxRecDepth 100000 in
theorem ckfrom_ok (k j r : Nat) (h : Int) (w : World) (hk : k ≤ 119) (hj : j < 12) (hr : r < md (2000 + k) (j + 1)) (hh : I64 h) :
    Calls Tryd.prog 15 #[.agg (dA (2000 + (k : Int)) ((j : Int) + 1) ((r : Int) + 1) h)] w fun e w' => e = .returned (.tuple #[.int .i64 (atR ((yT k + mT (2000 + k) j + r : Nat) : Int) h).1, .int .i64 (atR ((yT k + mT (2000 + k) j + r : Nat) : Int) h).2]) ∧ Below w.heap.size w w' := by
  have HX := hid (FBox.made w 36 (dA (2000 + (k : Int)) ((j : Int) + 1) ((r : Int) + 1) h))
  have HBX : Hid (Below w.heap.size w (w.alloc (.cells (dA (2000 + (k : Int)) ((j : Int) + 1) ((r : Int) + 1) h) 36))) := (Below.refl _ _).alloc (Nat.le_refl _) _
  have HM := hid (fun V => ckmd_any (2000 + k) ((j + 1 : Nat) : Int) V (by omega) ⟨by omega, by omega⟩)
  rw [show mdI (2000 + k) ((j + 1 : Nat) : Int) = md (2000 + k) (j + 1) from by unfold mdI; rw [if_pos (by omega)]; rfl] at HM
  have hml := md_le (2000 + k) (j + 1)
  have HR : Hid (∀ a : Nat, a = yT k + mT (2000 + k) j + r → ∀ V, Calls Tryd.prog 12 #[.int .i64 (a : Int), .int .i64 h] V fun e w' => e = .returned (.tuple #[.int .i64 (atR ((yT k + mT (2000 + k) j + r : Nat) : Int) h).1, .int .i64 (atR ((yT k + mT (2000 + k) j + r : Nat) : Int) h).2]) ∧ w' = V) := fun a ha V => by
    subst ha
    have a1 := (yT_365 k).2
    have a2 := mT_le (2000 + k) j 12 (by omega)
    have a3 := mT12 (2000 + k)
    have a4 := yd_or (2000 + k)
    exact ckat_any _ _ V ⟨by omega, by omega⟩ hh
  have hm12 : mT (2000 + k) j ≤ 366 := by
    have a2 := mT_le (2000 + k) j 12 (by omega)
    have a3 := mT12 (2000 + k)
    have a4 := yd_or (2000 + k)
    omega
  generalize hA : (atR ((yT k + mT (2000 + k) j + r : Nat) : Int) h) = A at *
  generalize hMM : md (2000 + k) (j + 1) = M at *
  unfold dA at HX HBX ⊢
  clear hA
  obtain ⟨c0, c1, c2, c3, g0, g1, g2, g3⟩ := dbox_facts (show FBox _ w.heap.size 36 (dA (2000 + (k : Int)) ((j : Int) + 1) ((r : Int) + 1) h) from HX.out) (Below.refl _ _)
  have y1 : decide (2000 + (k : Int) < 2000) = false := decide_eq_false (by omega)
  have y2 : decide (2119 < 2000 + (k : Int)) = false := by simp; omega
  have z1 : decide ((r : Int) + 1 < 1) = false := decide_eq_false (by omega)
  have z2 : decide ((M : Int) < (r : Int) + 1) = false := by simp; omega
  have x1 : IntKind.i64.wrap ((r : Int) + 1 - 1) = (r : Int) := by rw [IntKind.wrap_i64]; omega
  go_enter Tryd.func15, Tryd.ntmps15
  go_wp2_with fail
  generalize w.alloc (.cells #[.int .i64 (2000 + (k : Int)), .int .i64 ((j : Int) + 1), .int .i64 ((r : Int) + 1), .int .i64 h] 36) = X at *
  go_quiet ((go_at_call 25; exact Calls.quiet_of_same (HM.out _)))
  have hbX : FBox X w.heap.size 36 (dA ((2000 + k : Nat) : Int) ((j + 1 : Nat) : Int) ((r + 1 : Nat) : Int) h) := HX.out
  have HFX := hid hbX
  clear hbX HX
  go_wp2_with fail
  clear c0 c1 c2 c3 g0 g1 g2 g3 y1 y2 z1 z2
  go_loopw [4, 5] (fun x y wr => ∃ i : Nat, i ≤ k ∧ x = .int .i64 ((yT i : Int) + (r : Int)) ∧ y = .int .i64 (2000 + (i : Int)) ∧ Hid (FBox wr w.heap.size 36 (dA ((2000 + k : Nat) : Int) ((j + 1 : Nat) : Int) ((r + 1 : Nat) : Int) h)) ∧ Hid (Below w.heap.size w wr)) (fun _ y _ => (2000 + (k : Int) - intOf y).toNat)
  case atStart => exact ⟨0, by omega, by simp [yT], rfl, HFX, hid (Below.drewM HBX.out)⟩
  case round =>
    obtain ⟨i, hi, rfl, rfl, hfb, hbw⟩ := hrel
    obtain ⟨c0, c1, c2, c3, g0, g1, g2, g3⟩ := dbox_facts hfb.out (Below.refl _ _)
    have hyi := yT_365 i
    by_cases hc : i < k
    · have HY := hid (fun V => ckyd_any (2000 + i) V (by omega))
      have HS : Hid (yT (i + 1) = yT i + yd (2000 + i)) := rfl
      have hyd := yd_or (2000 + i)
      generalize yd (2000 + i) = Y at *
      have q1 : decide (2000 + (i : Int) < 2000 + (k : Int)) = true := decide_eq_true (by omega)
      have x2 : IntKind.i64.wrap ((yT i : Int) + (r : Int) + (Y : Int)) = ((yT i + Y + r : Nat) : Int) := by rw [IntKind.wrap_i64]; omega
      have x3 : IntKind.i64.wrap (2000 + (i : Int) + 1) = 2000 + ((i + 1 : Nat) : Int) := by rw [IntKind.wrap_i64]; omega
      go_wp2_with fail
      refine Calls.mono (HY.out _) ?_
      rintro e w2 ⟨rfl, rfl⟩
      go_wp2_with fail
      go_roundw
      case rel => exact ⟨i + 1, by omega, by rw [HS.out]; rfl, rfl, hfb, hbw⟩
      case measure => simp [intOf]; omega
    · obtain rfl : i = k := by omega
      have q1 : decide (2000 + (i : Int) < 2000 + (i : Int)) = false := decide_eq_false (by omega)
      go_wp2_with fail
      clear c0 c1 c2 c3 g0 g1 g2 g3 q1
      go_loopw [4, 6] (fun x y wr => ∃ l : Nat, l ≤ j ∧ x = .int .i64 ((yT i : Int) + (mT (2000 + i) l : Int) + (r : Int)) ∧ y = .int .i64 ((l : Int) + 1) ∧ Hid (FBox wr w.heap.size 36 (dA ((2000 + i : Nat) : Int) ((j + 1 : Nat) : Int) ((r + 1 : Nat) : Int) h)) ∧ Hid (Below w.heap.size w wr)) (fun _ y _ => ((j : Int) + 1 - intOf y).toNat)
      case atStart => exact ⟨0, by omega, by simp [mT], rfl, hfb, hbw⟩
      case round =>
        obtain ⟨l, hl, rfl, rfl, hfb, hbw⟩ := hrel
        obtain ⟨c0, c1, c2, c3, g0, g1, g2, g3⟩ := dbox_facts hfb.out (Below.refl _ _)
        have hml2 := mT_le (2000 + i) l j hl
        by_cases hc : l < j
        · have HY := hid (fun V => ckmd_any (2000 + i) ((l + 1 : Nat) : Int) V (by omega) ⟨by omega, by omega⟩)
          rw [show mdI (2000 + i) ((l + 1 : Nat) : Int) = md (2000 + i) (l + 1) from by unfold mdI; rw [if_pos (by omega)]; rfl] at HY
          have HS : Hid (mT (2000 + i) (l + 1) = mT (2000 + i) l + md (2000 + i) (l + 1)) := rfl
          have hyd := md_le (2000 + i) (l + 1)
          generalize md (2000 + i) (l + 1) = Y at *
          have q1 : decide ((l : Int) + 1 < (j : Int) + 1) = true := decide_eq_true (by omega)
          have x2 : IntKind.i64.wrap ((yT i : Int) + (mT (2000 + i) l : Int) + (r : Int) + (Y : Int)) = ((yT i + (mT (2000 + i) l + Y) + r : Nat) : Int) := by rw [IntKind.wrap_i64]; omega
          have x3 : IntKind.i64.wrap ((l : Int) + 1 + 1) = ((l + 1 : Nat) : Int) + 1 := by rw [IntKind.wrap_i64]; omega
          go_wp2_with fail
          refine Calls.mono (HY.out _) ?_
          rintro e w2 ⟨rfl, rfl⟩
          go_wp2_with fail
          go_roundw
          case rel => exact ⟨l + 1, by omega, by rw [HS.out]; rfl, rfl, hfb, hbw⟩
          case measure => simp [intOf]; omega
        · obtain rfl : l = j := by omega
          have q1 : decide ((l : Int) + 1 < (l : Int) + 1) = false := decide_eq_false (by omega)
          have HZ := hid (HR.out _ rfl)
          go_wp2_with fail
          refine Calls.mono (HZ.out _) ?_
          rintro e w2 ⟨rfl, rfl⟩
          go_wp2_with fail
          go_returns
          exact ⟨rfl, hbw.out⟩
end Go.Proofs.YtfapekhmdhkioaaDoor

/- package clock: a date's text, Text, number, strings.Cut at one byte. -/
namespace Go.Proofs.YtfapekhmdhkioaaDoor
open Go.RowKit Go.Lib
set_option linter.unusedVariables false
set_option linter.unusedSimpArgs false

/-- The table of powers of ten stands as the library's text lays it. -/
def TabC (w : World) : Prop := Lib.TabIs Tryd.prog w "internal/strconv.uint64pow10" .u64 Lib.pow10Tab
theorem TabC.later {w w' : World} (h : TabC w) (hb : Below w.heap.size w w') : TabC w' := by
  unfold TabC Lib.TabIs World.var? at *
  cases hg : Tryd.prog.globalNamed "internal/strconv.uint64pow10" with
  | none => simp [hg] at h
  | some g =>
    simp only [hg, Option.bind_some] at h ⊢
    have hlt : g < w.heap.size := by
      rcases Nat.lt_or_ge g w.heap.size with h' | h'
      · exact h'
      · rw [Array.getElem?_eq_none h'] at h; simp at h
    rw [hb.block g hlt]
    exact h
/-- strconv's two errors are values of their type. -/
def ErrT (w : World) : Prop := (∃ te pe, w.cell? ⟨1, 0, none⟩ = some (.iface te pe)) ∧ (∃ te pe, w.cell? ⟨2, 0, none⟩ = some (.iface te pe))
theorem ckcell_lt {w : World} {b j : Nat} {v : Value} (h : w.cell? ⟨b, j, none⟩ = some v) : b < w.heap.size := by
  rcases Nat.lt_or_ge b w.heap.size with h' | h'
  · exact h'
  · unfold World.cell? at h
    rw [Array.getElem?_eq_none h'] at h
    simp at h
theorem ErrT.later {w w' : World} (h : ErrT w) (hb : Below w.heap.size w w') : ErrT w' := by
  obtain ⟨⟨a, b, h1⟩, c, d, h2⟩ := h
  exact ⟨⟨a, b, (hb.cell (p := ⟨_, 0, none⟩) (ckcell_lt h1)).trans h1⟩, c, d, (hb.cell (p := ⟨_, 0, none⟩) (ckcell_lt h2)).trans h2⟩

theorem ckbytes_app (a b : List UInt8) : ((⟨a.toArray⟩ : ByteArray) ++ (⟨b.toArray⟩ : ByteArray)) = ⟨(a ++ b).toArray⟩ := by
  apply ByteArray.ext
  rw [ByteArray.data_append]
  simp
theorem ckitoa_len (n : Int) (h0 : -9223372036854775808 ≤ n) (h1 : n ≤ 9223372036854775807) : (itoa n).length ≤ 21 := by
  unfold itoa
  split
  · rw [List.length_cons, decDigits_length]
    have := nDigits_le20 n.natAbs (by omega)
    omega
  · rw [decDigits_length]
    have := nDigits_le20 n.toNat (by omega)
    omega
theorem ckitoa_any (n : Int) (w : World) (h : I64 n) (htab : TabC w) :
    Calls Tryd.prog 32 #[.int .i64 n] w fun e w' => e = .returned (.string ⟨(itoa n).toArray⟩) ∧ Below w.heap.size w w' := by
  refine Calls.mono (Tryd.strconv_Itoa n h.1 h.2 w htab) ?_
  rintro e w' ⟨rfl, k, os, rfl⟩
  refine ⟨rfl, rfl, rfl, rfl, ?_, fun b hb => ?_⟩
  · show w.heap.size ≤ (w.heap ++ os).size
    rw [Array.size_append]; omega
  · show (w.heap ++ os)[b]? = w.heap[b]?
    rw [Array.getElem?_append_left hb]

/-- A date's text. -/
def txtC (y m d h : Int) : List UInt8 := itoa y ++ (45 :: (itoa m ++ (45 :: (itoa d ++ (32 :: itoa h)))))
set_option maxHeartbeats 3200000 in
set_option maxRecDepth 100000 in
theorem cktext_any (y m d h : Int) (w : World) (hy : I64 y) (hm : I64 m) (hd : I64 d) (hh : I64 h) (htab : TabC w) :
    Calls Tryd.prog 28 #[.agg (dA y m d h)] w fun e w' => e = .returned (.string ⟨(txtC y m d h).toArray⟩) ∧ Below w.heap.size w w' := by
  have HX := hid (FBox.made w 36 (dA y m d h))
  have HBX : Hid (Below w.heap.size w (w.alloc (.cells (dA y m d h) 36))) := (Below.refl _ _).alloc (Nat.le_refl _) _
  have HT := hid htab
  have l1 := ckitoa_len y hy.1 hy.2
  have l2 := ckitoa_len m hm.1 hm.2
  have l3 := ckitoa_len d hd.1 hd.2
  have l4 := ckitoa_len h hh.1 hh.2
  have hm1 : ¬ 9223372036854775807 < (itoa y).length + 1 := by omega
  have hm2 : ¬ 9223372036854775807 < (itoa y).length + 1 + (itoa m).length := by omega
  have hm3 : ¬ 9223372036854775807 < (itoa y).length + 1 + (itoa m).length + 1 := by omega
  have hm4 : ¬ 9223372036854775807 < (itoa y).length + 1 + (itoa m).length + 1 + (itoa d).length := by omega
  have hm5 : ¬ 9223372036854775807 < (itoa y).length + 1 + (itoa m).length + 1 + (itoa d).length + 1 := by omega
  have hm6 : ¬ 9223372036854775807 < (itoa y).length + 1 + (itoa m).length + 1 + (itoa d).length + 1 + (itoa h).length := by omega
  have HE : Hid ((⟨(itoa y).toArray⟩ : ByteArray) ++ (⟨#[45]⟩ : ByteArray) ++ (⟨(itoa m).toArray⟩ : ByteArray) ++ (⟨#[45]⟩ : ByteArray) ++ (⟨(itoa d).toArray⟩ : ByteArray) ++ (⟨#[32]⟩ : ByteArray) ++ (⟨(itoa h).toArray⟩ : ByteArray) = ⟨(txtC y m d h).toArray⟩) := by
    show _ = _
    rw [show (⟨#[45]⟩ : ByteArray) = ⟨([45] : List UInt8).toArray⟩ from rfl, show (⟨#[32]⟩ : ByteArray) = ⟨([32] : List UInt8).toArray⟩ from rfl, ckbytes_app, ckbytes_app, ckbytes_app, ckbytes_app, ckbytes_app, ckbytes_app]
    unfold txtC
    simp
  have HI : Hid (I64 y ∧ I64 m ∧ I64 d ∧ I64 h) := ⟨hy, hm, hd, hh⟩
  clear hy hm hd hh htab
  unfold dA at HX HBX ⊢
  go_enter Tryd.func28, Tryd.ntmps28
  go_wp2_with fail
  generalize w.alloc (.cells #[.int .i64 y, .int .i64 m, .int .i64 d, .int .i64 h] 36) = X at *
  have HF : Hid (∀ V, Below X.heap.size X V → V.cell? ⟨w.heap.size, 0, none⟩ = some (.int .i64 y) ∧ V.cell? ⟨w.heap.size, 1, none⟩ = some (.int .i64 m) ∧ V.cell? ⟨w.heap.size, 2, none⟩ = some (.int .i64 d) ∧ V.cell? ⟨w.heap.size, 3, none⟩ = some (.int .i64 h)) := fun V hv => by
    obtain ⟨c0, c1, c2, c3, _⟩ := dbox_facts (show FBox X w.heap.size 36 (dA y m d h) from HX.out) hv
    exact ⟨c0, c1, c2, c3⟩
  have hs0 := HF.out _ (Below.refl _ X).drew
  have hd0 := hid (Below.refl X.heap.size X).drew
  have H : Hid (∀ z, I64 z → ∀ ww, Below X.heap.size X ww → Calls Tryd.prog 32 #[.int .i64 z] ww fun e w' => e = .returned (.string ⟨(itoa z).toArray⟩) ∧ (w'.cell? ⟨w.heap.size, 0, none⟩ = some (.int .i64 y) ∧ w'.cell? ⟨w.heap.size, 1, none⟩ = some (.int .i64 m) ∧ w'.cell? ⟨w.heap.size, 2, none⟩ = some (.int .i64 d) ∧ w'.cell? ⟨w.heap.size, 3, none⟩ = some (.int .i64 h)) ∧ Below X.heap.size X w') := fun z hz ww hv => by
    refine Calls.mono (ckitoa_any z ww hz (HT.out.later (b2 HBX.out hv))) ?_
    rintro e w' ⟨rfl, h⟩
    exact ⟨rfl, HF.out _ (b2 hv h), b2 hv h⟩
  have H1 := hid (H.out y HI.out.1)
  have H2 := hid (H.out m HI.out.2.1)
  have H3 := hid (H.out d HI.out.2.2.1)
  have H4 := hid (H.out h HI.out.2.2.2)
  clear HF HT HI H
  go_region_held3 (fun V : World => V.cell? ⟨w.heap.size, 0, none⟩ = some (.int .i64 y) ∧ V.cell? ⟨w.heap.size, 1, none⟩ = some (.int .i64 m) ∧ V.cell? ⟨w.heap.size, 2, none⟩ = some (.int .i64 d) ∧ V.cell? ⟨w.heap.size, 3, none⟩ = some (.int .i64 h)) (first | exact hs4 | exact hs3 | exact hs2 | exact hs1 | exact hs0)
    (first
      | (go_at_call 32; with_reducible refine Calls.mono (H4.out _ hb4) ?_; rintro e w5 ⟨rfl, hs4, hb5⟩)
      | (go_at_call 32; with_reducible refine Calls.mono (H3.out _ hb3) ?_; rintro e w4 ⟨rfl, hs3, hb4⟩)
      | (go_at_call 32; with_reducible refine Calls.mono (H2.out _ hb2) ?_; rintro e w3 ⟨rfl, hs2, hb3⟩)
      | (go_at_call 32; with_reducible refine Calls.mono (H1.out _ hd0.out) ?_; rintro e w2 ⟨rfl, hs1, hb2⟩))
  all_goals
    have HB := hid (b2 HBX.out hb5)
    clear hs0 hs1 hs2 hs3 hs4 hb2 hb3 hb4 hb5 HX H1 H2 H3 H4 hd0
    go_wp2_with fail
    go_ret
    exact ⟨congrArg (fun z => Ending.returned (.string z)) HE.out, HB.out⟩
end Go.Proofs.YtfapekhmdhkioaaDoor

/- package clock: number, strings.Cut at one byte, Text, Parse. -/
namespace Go.Proofs.YtfapekhmdhkioaaDoor
open Go.RowKit Go.Lib
set_option linter.unusedVariables false
set_option linter.unusedSimpArgs false

/-- The number that a text is, or -1. -/
def numC (l : List UInt8) : Int := match atoiAll l with
  | .ok v => v
  | _ => -1
theorem numC_in (l : List UInt8) : I64 (numC l) := by
  unfold numC
  cases hp : atoiAll l with
  | ok v => exact atoiAll_bounds hp
  | «syntax» => exact ⟨by decide, by decide⟩
  | range => exact ⟨by decide, by decide⟩

set_option maxHeartbeats 1600000 in
set_option maxRecDepth 100000 in
theorem cknumber_any (s : ByteArray) (w : World) (hs : s.size ≤ 281474976710656) (he : ErrT w) :
    Calls Tryd.prog 27 #[.string s] w fun e w' => e = .returned (.int .i64 (numC s.data.toList)) ∧ Below w.heap.size w w' := by
  obtain ⟨⟨te, pe, h1⟩, te2, pe2, h2⟩ := he
  cases hp : atoiAll s.data.toList with
  | ok v =>
    have HR : Hid (numC s.data.toList = v) := by show _ = _; unfold numC; rw [hp]
    have HC := hid (Tryd.strconv_Atoi_ok s (by omega) v hp w)
    clear hp
    go_enter Tryd.func27, Tryd.ntmps27
    go_wp2_with fail
    refine Calls.mono HC.out ?_
    rintro e w1 ⟨rfl, hw1⟩
    have HB : Hid (Below w.heap.size w w1) := by
      rcases hw1 with rfl | ⟨t, rfl⟩
      · exact Below.refl _ _
      · exact Lib.bytesWorld_below w _ t
    clear hw1
    go_wp2_with fail
    go_ret
    exact ⟨ret_int HR.out.symm, HB.out⟩
  | «syntax» =>
    have HR : Hid (numC s.data.toList = -1) := by show _ = _; unfold numC; rw [hp]
    have HC := hid (Tryd.strconv_Atoi_syntax s hs hp _ w h1 (.inr ⟨te, pe, rfl⟩))
    clear hp
    go_enter Tryd.func27, Tryd.ntmps27
    go_wp2_with fail
    refine Calls.mono HC.out ?_
    rintro e w1 ⟨N, rfl, hN, _, hb⟩
    go_wp2_with fail
    go_ret
    exact ⟨ret_int HR.out.symm, hb⟩
  | range =>
    have HR : Hid (numC s.data.toList = -1) := by show _ = _; unfold numC; rw [hp]
    have HC := hid (Tryd.strconv_Atoi_range s hs hp _ w h2 (.inr ⟨te2, pe2, rfl⟩))
    clear hp
    go_enter Tryd.func27, Tryd.ntmps27
    go_wp2_with fail
    refine Calls.mono HC.out ?_
    rintro e w1 ⟨N, rfl, hN, _, hb⟩
    go_wp2_with fail
    go_ret
    exact ⟨ret_int HR.out.symm, hb⟩

set_option maxHeartbeats 1600000 in
set_option maxRecDepth 100000 in
theorem ckcut0_any (s : ByteArray) (c : UInt8) (w : World) (hs : s.size ≤ 281474976710656) :
    Calls Tryd.prog 30 #[.string s, .string ⟨#[c]⟩] w fun e w' => e = .returned (.tuple #[.string ⟨(Lib.cut s.data.toList [c]).1.toArray⟩, .string ⟨(Lib.cut s.data.toList [c]).2.1.toArray⟩, .bool (Lib.cut s.data.toList [c]).2.2]) ∧ Below w.heap.size w w' := by
  have HI := hid (Tryd.stringslite_Index_one s c w)
  rw [← Lib.index_one] at HI
  rcases Lib.indexB_cases s ⟨#[c]⟩ with hix | ⟨i, hix, hroom⟩
  · obtain ⟨e1, e2, e3⟩ := Lib.cutB_miss s ⟨#[c]⟩ hix
    have e1' : (⟨(Lib.cut s.data.toList [c]).1.toArray⟩ : ByteArray) = _ := e1
    have e2' : (⟨(Lib.cut s.data.toList [c]).2.1.toArray⟩ : ByteArray) = _ := e2
    have e3' : (Lib.cut s.data.toList [c]).2.2 = _ := e3
    have hix' : Lib.index s.data.toList [c] = -1 := hix
    rw [hix'] at HI
    rw [e1', e2', e3']
    clear e1 e2 e3 e1' e2' e3' hix hix'
    go_enter Tryd.func30, Tryd.ntmps30
    go_wp2_with fail
    refine Calls.mono HI.out ?_
    rintro e w1 ⟨rfl, rfl⟩
    go_wp2_with fail
    go_returns
    exact ⟨rfl, Below.refl _ _⟩
  · obtain ⟨e1, e2, e3⟩ := Lib.cutB_hit s ⟨#[c]⟩ i hix
    have e1' : (⟨(Lib.cut s.data.toList [c]).1.toArray⟩ : ByteArray) = _ := e1
    have e2' : (⟨(Lib.cut s.data.toList [c]).2.1.toArray⟩ : ByteArray) = _ := e2
    have e3' : (Lib.cut s.data.toList [c]).2.2 = _ := e3
    have hix' : Lib.index s.data.toList [c] = (i : Int) := hix
    rw [hix'] at HI
    rw [e1', e2', e3']
    have hr : i + 1 ≤ s.size := hroom
    have c1 : (0 : Int) ≤ ↑i := by omega
    have c2 : (↑i : Int) ≤ ↑s.size := by omega
    have c3 : (0 : Int) ≤ ↑i + 1 := by omega
    have c4 : (↑i + 1 : Int) ≤ ↑s.size := by omega
    have hw : IntKind.i64.wrap ((i : Int) + 1) = (i : Int) + 1 := by rw [IntKind.wrap_i64]; omega
    have ht : ((i : Int) + 1).toNat = i + 1 := by omega
    clear e1 e2 e3 e1' e2' e3' hix hix' hroom
    go_enter Tryd.func30, Tryd.ntmps30
    go_wp2_with fail
    refine Calls.mono HI.out ?_
    rintro e w1 ⟨rfl, rfl⟩
    go_wp2_with fail
    go_region
    go_wp2_with fail
    go_returns
    exact ⟨rfl, (Below.refl _ _).drew⟩
set_option maxHeartbeats 1600000 in
set_option maxRecDepth 100000 in
theorem ckcut_any (s : ByteArray) (c : UInt8) (w : World) (hs : s.size ≤ 281474976710656) :
    Calls Tryd.prog 26 #[.string s, .string ⟨#[c]⟩] w fun e w' => e = .returned (.tuple #[.string ⟨(Lib.cut s.data.toList [c]).1.toArray⟩, .string ⟨(Lib.cut s.data.toList [c]).2.1.toArray⟩, .bool (Lib.cut s.data.toList [c]).2.2]) ∧ Below w.heap.size w w' := by
  have HC := hid (ckcut0_any s c w hs)
  generalize (Lib.cut s.data.toList [c]).1.toArray = A at *
  generalize (Lib.cut s.data.toList [c]).2.1.toArray = B at *
  generalize (Lib.cut s.data.toList [c]).2.2 = C at *
  go_enter Tryd.func26, Tryd.ntmps26
  go_wp2_with fail
  refine Calls.mono HC.out ?_
  rintro e w1 ⟨rfl, hb⟩
  go_wp2_with fail
  go_returns
  exact ⟨rfl, hb⟩
theorem ckcut_len (l : List UInt8) (c : UInt8) : (Lib.cut l [c]).1.length ≤ l.length ∧ (Lib.cut l [c]).2.1.length ≤ l.length := by
  unfold Lib.cut
  split
  · simp
    omega
  · simp

def fromR (y m d h : Int) : Int × Int := if okD y m d then atR ((yT (y - 2000).toNat + mT y.toNat (m - 1).toNat + (d - 1).toNat : Nat) : Int) h else (0, 2)
theorem okD_nat {y m d : Int} (h : okD y m d) : ∃ k j r : Nat, y = 2000 + (k : Int) ∧ m = (j : Int) + 1 ∧ d = (r : Int) + 1 ∧ k ≤ 119 ∧ j < 12 ∧ r < md (2000 + k) (j + 1) := by
  obtain ⟨h1, h2, h3, h4⟩ := h
  have hm : 1 ≤ m ∧ m ≤ 12 := by
    rcases Decidable.em (1 ≤ m ∧ m ≤ 12) with g | g
    · exact g
    · unfold mdI at h4; rw [if_neg g] at h4; omega
  refine ⟨(y - 2000).toNat, (m - 1).toNat, (d - 1).toNat, by omega, by omega, by omega, by omega, by omega, ?_⟩
  unfold mdI at h4
  rw [if_pos hm] at h4
  have e1 : 2000 + (y - 2000).toNat = y.toNat := by omega
  have e2 : (m - 1).toNat + 1 = m.toNat := by omega
  rw [e1, e2]; omega
theorem okD_of {k j r : Nat} (hk : k ≤ 119) (hj : j < 12) (hr : r < md (2000 + k) (j + 1)) : okD (2000 + (k : Int)) ((j : Int) + 1) ((r : Int) + 1) := by
  refine ⟨by omega, by omega, by omega, ?_⟩
  unfold mdI
  rw [if_pos (by omega), show (2000 + (k : Int)).toNat = 2000 + k by omega, show ((j : Int) + 1).toNat = j + 1 by omega]
  omega
theorem fromR_ok {k j r : Nat} (hk : k ≤ 119) (hj : j < 12) (hr : r < md (2000 + k) (j + 1)) (h : Int) : fromR (2000 + (k : Int)) ((j : Int) + 1) ((r : Int) + 1) h = atR ((yT k + mT (2000 + k) j + r : Nat) : Int) h := by
  unfold fromR
  rw [if_pos (okD_of hk hj hr), show (2000 + (k : Int) - 2000).toNat = k by omega, show (2000 + (k : Int)).toNat = 2000 + k by omega, show ((j : Int) + 1 - 1).toNat = j by omega, show ((r : Int) + 1 - 1).toNat = r by omega]
theorem ckfrom_any (y m d h : Int) (w : World) (hy : I64 y) (hm : I64 m) (hd : I64 d) (hh : I64 h) :
    Calls Tryd.prog 15 #[.agg (dA y m d h)] w fun e w' => e = .returned (.tuple #[.int .i64 (fromR y m d h).1, .int .i64 (fromR y m d h).2]) ∧ Below w.heap.size w w' := by
  by_cases hk : okD y m d
  · obtain ⟨k, j, r, rfl, rfl, rfl, h1, h2, h3⟩ := okD_nat hk
    rw [fromR_ok h1 h2 h3]
    exact ckfrom_ok k j r h w h1 h2 h3 hh
  · rw [show fromR y m d h = (0, 2) from if_neg hk]
    exact ckfrom_err y m d h w hy hm hd hh hk
theorem atR_or (d h : Int) : (okA d h ∧ atR d h = (d * 24 + h, 0)) ∨ (¬ okA d h ∧ atR d h = (0, 2)) := by
  unfold atR
  by_cases k : okA d h
  · left; rw [if_pos k]; exact ⟨k, rfl⟩
  · right; rw [if_neg k]; exact ⟨k, rfl⟩
theorem fromR_or (y m d h : Int) : (∃ k j r : Nat, y = 2000 + (k : Int) ∧ m = (j : Int) + 1 ∧ d = (r : Int) + 1 ∧ k ≤ 119 ∧ IsD (yT k + mT (2000 + k) j + r) k j r ∧ okA ((yT k + mT (2000 + k) j + r : Nat) : Int) h ∧ fromR y m d h = (((yT k + mT (2000 + k) j + r : Nat) : Int) * 24 + h, 0)) ∨ fromR y m d h = (0, 2) := by
  by_cases hk : okD y m d
  · obtain ⟨k, j, r, rfl, rfl, rfl, h1, h2, h3⟩ := okD_nat hk
    rw [fromR_ok h1 h2 h3]
    rcases atR_or ((yT k + mT (2000 + k) j + r : Nat) : Int) h with ⟨a, b⟩ | ⟨a, b⟩
    · exact .inl ⟨k, j, r, rfl, rfl, rfl, h1, ⟨rfl, h2, h3⟩, a, b⟩
    · exact .inr b
  · exact .inr (if_neg hk)
end Go.Proofs.YtfapekhmdhkioaaDoor

/- package clock: Text, Parse, of every number and text. -/
namespace Go.Proofs.YtfapekhmdhkioaaDoor
open Go.RowKit Go.Lib
set_option linter.unusedVariables false
set_option linter.unusedSimpArgs false

theorem ckstr_other {s t : ByteArray} (h : ¬ s = t) : (s.toList == t.toList) = false := by
  rw [Lib.toList_data, Lib.toList_data]
  exact beq_eq_false_iff_ne.2 (fun e => h (ByteArray.ext (Array.toList_inj.1 e)))
/-- The four pieces of a text, and the numbers that they are. -/
def pc1 (l : List UInt8) : List UInt8 := (cut l [45]).1
def pc2 (l : List UInt8) : List UInt8 := (cut (cut l [45]).2.1 [45]).1
def pc3 (l : List UInt8) : List UInt8 := (cut (cut (cut l [45]).2.1 [45]).2.1 [32]).1
def pc4 (l : List UInt8) : List UInt8 := (cut (cut (cut l [45]).2.1 [45]).2.1 [32]).2.1
/-- What Parse tells of pieces. -/
def readP (y m d h : Int) (l : List UInt8) : Int × Int := if (fromR y m d h).2 = 0 ∧ txtC y m d h = l then ((fromR y m d h).1, 0) else (0, 190)
def readC (l : List UInt8) : Int × Int := readP (numC (pc1 l)) (numC (pc2 l)) (numC (pc3 l)) (numC (pc4 l)) l
set_option maxHeartbeats 1600000 in
set_option maxRecDepth 100000 in
theorem ckparse_any (s : ByteArray) (w : World) (hs : s.size ≤ 281474976710656) (htab : TabC w) (herr : ErrT w) :
    Calls Tryd.prog 16 #[.string s] w fun e w' => e = .returned (.tuple #[.int .i64 (readC s.data.toList).1, .int .i64 (readC s.data.toList).2]) ∧ Below w.heap.size w w' := by
  have hs' : s.data.toList.length ≤ 281474976710656 := by rw [Array.length_toList]; exact hs
  have m1 := ckcut_len s.data.toList 45
  have m2 := ckcut_len (cut s.data.toList [45]).2.1 45
  have m3 := ckcut_len (cut (cut s.data.toList [45]).2.1 [45]).2.1 32
  have HC1 := hid (fun V => ckcut_any s 45 V hs)
  have HC2 := hid (fun V => ckcut_any ⟨(cut s.data.toList [45]).2.1.toArray⟩ 45 V (by show (cut s.data.toList [45]).2.1.toArray.size ≤ _; rw [List.size_toArray]; omega))
  have HC3 := hid (fun V => ckcut_any ⟨(cut (cut s.data.toList [45]).2.1 [45]).2.1.toArray⟩ 32 V (by show (cut (cut s.data.toList [45]).2.1 [45]).2.1.toArray.size ≤ _; rw [List.size_toArray]; omega))
  have HN1 := hid (fun V (hv : Below w.heap.size w V) => cknumber_any ⟨(pc1 s.data.toList).toArray⟩ V (by show (pc1 s.data.toList).toArray.size ≤ _; rw [List.size_toArray]; unfold pc1; omega) (herr.later hv))
  have HN2 := hid (fun V (hv : Below w.heap.size w V) => cknumber_any ⟨(pc2 s.data.toList).toArray⟩ V (by show (pc2 s.data.toList).toArray.size ≤ _; rw [List.size_toArray]; unfold pc2; omega) (herr.later hv))
  have HN3 := hid (fun V (hv : Below w.heap.size w V) => cknumber_any ⟨(pc3 s.data.toList).toArray⟩ V (by show (pc3 s.data.toList).toArray.size ≤ _; rw [List.size_toArray]; unfold pc3; omega) (herr.later hv))
  have HN4 := hid (fun V (hv : Below w.heap.size w V) => cknumber_any ⟨(pc4 s.data.toList).toArray⟩ V (by show (pc4 s.data.toList).toArray.size ≤ _; rw [List.size_toArray]; unfold pc4; omega) (herr.later hv))
  have HF := hid (fun V => ckfrom_any (numC (pc1 s.data.toList)) (numC (pc2 s.data.toList)) (numC (pc3 s.data.toList)) (numC (pc4 s.data.toList)) V (numC_in _) (numC_in _) (numC_in _) (numC_in _))
  have HT := hid (fun V (hv : Below w.heap.size w V) => cktext_any (numC (pc1 s.data.toList)) (numC (pc2 s.data.toList)) (numC (pc3 s.data.toList)) (numC (pc4 s.data.toList)) V (numC_in _) (numC_in _) (numC_in _) (numC_in _) (htab.later hv))
  simp only [List.toList_toArray] at HC2 HC3 HN1 HN2 HN3 HN4
  have b1 := numC_in (pc1 s.data.toList)
  have b2' := numC_in (pc2 s.data.toList)
  have b3 := numC_in (pc3 s.data.toList)
  have b4 := numC_in (pc4 s.data.toList)
  unfold readC
  rw [show (cut s.data.toList [45]).1 = pc1 s.data.toList from rfl] at HC1
  rw [show (cut (cut s.data.toList [45]).2.1 [45]).1 = pc2 s.data.toList from rfl] at HC2
  rw [show (cut (cut (cut s.data.toList [45]).2.1 [45]).2.1 [32]).1 = pc3 s.data.toList from rfl, show (cut (cut (cut s.data.toList [45]).2.1 [45]).2.1 [32]).2.1 = pc4 s.data.toList from rfl] at HC3
  clear m1 m2 m3
  generalize (cut s.data.toList [45]).2.2 = q1 at *
  generalize (cut (cut s.data.toList [45]).2.1 [45]).2.2 = q2 at *
  generalize (cut (cut (cut s.data.toList [45]).2.1 [45]).2.1 [32]).2.2 = q3 at *
  generalize (cut (cut s.data.toList [45]).2.1 [45]).2.1.toArray = R2 at *
  generalize (cut s.data.toList [45]).2.1.toArray = R1 at *
  generalize numC (pc1 s.data.toList) = y at *
  generalize numC (pc2 s.data.toList) = m at *
  generalize numC (pc3 s.data.toList) = d at *
  generalize numC (pc4 s.data.toList) = h at *
  generalize (pc1 s.data.toList).toArray = A1 at *
  generalize (pc2 s.data.toList).toArray = A2 at *
  generalize (pc3 s.data.toList).toArray = A3 at *
  generalize (pc4 s.data.toList).toArray = A4 at *
  unfold dA at HF HT
  go_enter Tryd.func16, Tryd.ntmps16
  go_wp2_with fail
  refine Calls.mono (HC1.out _) ?_
  rintro e w1 ⟨rfl, hb1⟩
  have HB1 := hid hb1
  clear hb1 HC1
  go_wp2_with fail
  refine Calls.mono (HC2.out _) ?_
  rintro e w2 ⟨rfl, hb2⟩
  have HB2 := hid (b2 HB1.out hb2)
  clear hb2 HC2 HB1
  go_wp2_with fail
  refine Calls.mono (HC3.out _) ?_
  rintro e w3 ⟨rfl, hb3⟩
  have HB3 := hid (b2 HB2.out hb3)
  clear hb3 HC3 HB2
  go_wp2_with fail
  refine Calls.mono (HN1.out _ HB3.out) ?_
  rintro e w4 ⟨rfl, hb4⟩
  have HB4 := hid (b2 HB3.out hb4)
  clear hb4 HN1 HB3
  go_wp2_with fail
  refine Calls.mono (HN2.out _ HB4.out) ?_
  rintro e w5 ⟨rfl, hb5⟩
  have HB5 := hid (b2 HB4.out hb5)
  clear hb5 HN2 HB4
  go_wp2_with fail
  refine Calls.mono (HN3.out _ HB5.out) ?_
  rintro e w6 ⟨rfl, hb6⟩
  have HB6 := hid (b2 HB5.out hb6)
  clear hb6 HN3 HB5
  go_wp2_with fail
  refine Calls.mono (HN4.out _ HB6.out) ?_
  rintro e w7 ⟨rfl, hb7⟩
  have HB7 := hid (b2 HB6.out hb7)
  clear hb7 HN4 HB6
  go_wp2_with fail
  have HX := hid (FBox.made w7 36 (dA y m d h))
  have HB8 := hid (HB7.out.alloc HB7.out.size (.cells (dA y m d h) 36))
  unfold dA at HX HB8
  generalize w7.alloc (.cells #[.int .i64 y, .int .i64 m, .int .i64 d, .int .i64 h] 36) = X at *
  refine Calls.mono (HF.out _) ?_
  rintro e w8 ⟨rfl, hb8⟩
  obtain ⟨c0, c1, c2, c3, g0, g1, g2, g3⟩ := dbox_facts (show FBox X w7.heap.size 36 (dA y m d h) from HX.out) hb8
  have HB9 := hid (b2 HB8.out hb8)
  clear hb8 HF HB8 HB7 HX
  have HV1 : Hid ((fromR y m d h).2 = 0 → txtC y m d h = s.data.toList → readP y m d h s.data.toList = ((fromR y m d h).1, 0)) := fun a b => if_pos ⟨a, b⟩
  have HV2 : Hid (¬ ((fromR y m d h).2 = 0 ∧ txtC y m d h = s.data.toList) → readP y m d h s.data.toList = (0, 190)) := fun a => if_neg a
  have hfo : (fromR y m d h).2 = 0 ∨ fromR y m d h = (0, 2) := by
    rcases fromR_or y m d h with ⟨_, _, _, _, _, _, _, _, _, hfr⟩ | hfr
    · left; rw [hfr]
    · right; exact hfr
  rcases hfo with hfr | hfr
  · generalize (fromR y m d h) = FF at *
    obtain ⟨F1, F2⟩ := FF
    obtain rfl : F2 = 0 := hfr
    by_cases hx : txtC y m d h = s.data.toList
    · have HV := hid (HV1.out rfl hx)
      have hx2 : (⟨(txtC y m d h).toArray⟩ : ByteArray) = s := by rw [hx]
      rw [hx2] at HT
      clear HV1 HV2 hx hx2
      go_wp2_with fail
      refine Calls.mono (HT.out _ HB9.out) ?_
      rintro e w9 ⟨rfl, hb9⟩
      have HB := hid (b2 HB9.out hb9)
      clear hb9 HT HB9
      go_wp2_with fail
      go_returns
      exact ⟨by rw [HV.out]; rfl, HB.out⟩
    · have HV := hid (HV2.out (fun g => hx g.2))
      have hx2 : ¬ (⟨(txtC y m d h).toArray⟩ : ByteArray) = s := fun e => hx (by rw [← e])
      clear HV1 HV2 hx
      generalize (⟨(txtC y m d h).toArray⟩ : ByteArray) = TT at *
      have hx4 := ckstr_other hx2
      go_wp2_with fail
      refine Calls.mono (HT.out _ HB9.out) ?_
      rintro e w9 ⟨rfl, hb9⟩
      have HB := hid (b2 HB9.out hb9)
      clear hb9 HT HB9
      go_wp2_with fail
      go_returns
      exact ⟨by rw [HV.out]; rfl, HB.out⟩
  · rw [hfr] at HV2 ⊢
    have HV := hid (HV2.out (fun g => absurd g.1 (by decide)))
    clear HV1 HV2
    go_wp2_with fail
    go_returns
    exact ⟨by rw [HV.out]; rfl, HB9.out⟩
end Go.Proofs.YtfapekhmdhkioaaDoor

/- The laws' own helpers of layer 9: is, number, awake; a date's text is read as that date. -/
namespace Go.Proofs.YtfapekhmdhkioaaDoor
open Go.RowKit Go.Lib
set_option linter.unusedVariables false
set_option linter.unusedSimpArgs false

set_option maxHeartbeats 1600000 in
set_option maxRecDepth 100000 in
theorem ckis_any (y m d h y' m' d' h' : Int) (w : World) :
    Calls Tryd.prog 14 #[.agg (dA y m d h), .int .i64 y', .int .i64 m', .int .i64 d', .int .i64 h'] w fun e w' => e = .returned (.bool (decide (y = y' ∧ m = m' ∧ d = d' ∧ h = h'))) ∧ Below w.heap.size w w' := by
  have HX := hid (FBox.made w 36 (dA y m d h))
  have HBX : Hid (Below w.heap.size w (w.alloc (.cells (dA y m d h) 36))) := (Below.refl _ _).alloc (Nat.le_refl _) _
  obtain ⟨c0, c1, c2, c3, g0, g1, g2, g3⟩ := dbox_facts HX.out (Below.refl _ _)
  unfold dA at HX HBX c0 c1 c2 c3 g0 g1 g2 g3 ⊢
  by_cases h1 : y = y'
  · by_cases h2 : m = m'
    · by_cases h3 : d = d'
      · by_cases h4 : h = h'
        · rw [decide_eq_true ⟨h1, h2, h3, h4⟩]
          subst h1; subst h2; subst h3; subst h4
          go_enter Tryd.func14, Tryd.ntmps14
          go_wp2_with fail
          go_returns
          exact ⟨rfl, HBX.out⟩
        · rw [decide_eq_false (fun g => h4 g.2.2.2)]
          have z4 : (h == h') = false := beq_eq_false_iff_ne.2 h4
          subst h1; subst h2; subst h3
          go_enter Tryd.func14, Tryd.ntmps14
          go_wp2_with fail
          go_returns
          exact ⟨rfl, HBX.out⟩
      · rw [decide_eq_false (fun g => h3 g.2.2.1)]
        have z3 : (d == d') = false := beq_eq_false_iff_ne.2 h3
        subst h1; subst h2
        go_enter Tryd.func14, Tryd.ntmps14
        go_wp2_with fail
        go_returns
        exact ⟨rfl, HBX.out⟩
    · rw [decide_eq_false (fun g => h2 g.2.1)]
      have z2 : (m == m') = false := beq_eq_false_iff_ne.2 h2
      subst h1
      go_enter Tryd.func14, Tryd.ntmps14
      go_wp2_with fail
      go_returns
      exact ⟨rfl, HBX.out⟩
  · rw [decide_eq_false (fun g => h1 g.1)]
    have z1 : (y == y') = false := beq_eq_false_iff_ne.2 h1
    go_enter Tryd.func14, Tryd.ntmps14
    go_wp2_with fail
    go_returns
    exact ⟨rfl, HBX.out⟩
theorem rd_awake : readC [50, 48, 48, 48, 45, 49, 45, 49, 32, 48] = (0, 0) := by decide +kernel
theorem isd59 : IsD 59 0 1 28 := ⟨by decide +kernel, by decide, by decide +kernel⟩
theorem at12 : atR 1 2 = (26, 0) := by decide

set_option maxHeartbeats 1600000 in
set_option maxRecDepth 100000 in
theorem ckawake_any (w : World) (htab : TabC w) (herr : ErrT w) :
    Calls Tryd.prog 11 #[] w fun e w' => e = .returned (.bool true) ∧ Below w.heap.size w w' := by
  have HA := hid (fun V => ckat_any 1 2 V ⟨by decide, by decide⟩ ⟨by decide, by decide⟩)
  rw [at12] at HA
  have HD : Hid (∀ V, Calls Tryd.prog 13 #[.int .i64 1416] V fun e w' => e = .returned (.tuple #[.agg #[.int .i64 2000, .int .i64 2, .int .i64 29, .int .i64 0], .int .i64 0]) ∧ Below V.heap.size V w') := fun V => by
    refine Calls.mono (ckdate_ok 1416 V (by decide)) ?_
    rintro e w' ⟨⟨k, j, r, hi, rfl⟩, hb⟩
    obtain ⟨rfl, rfl, rfl⟩ := hi.only isd59
    exact ⟨rfl, hb⟩
  have HP := hid (fun V (hv : Below w.heap.size w V) => ckparse_any ⟨#[50, 48, 48, 48, 45, 49, 45, 49, 32, 48]⟩ V (by decide) (htab.later hv) (herr.later hv))
  rw [show (⟨#[50, 48, 48, 48, 45, 49, 45, 49, 32, 48]⟩ : ByteArray).data.toList = [50, 48, 48, 48, 45, 49, 45, 49, 32, 48] from rfl, rd_awake] at HP
  have HW := hid (fun V => ckweek_ok 0 V (by decide))
  have HI := hid (fun V => ckis_any 2000 2 29 0 2000 2 29 0 V)
  rw [decide_eq_true ⟨rfl, rfl, rfl, rfl⟩] at HI
  unfold dA at HI
  go_enter Tryd.func11, Tryd.ntmps11
  go_wp2_with fail
  refine Calls.mono (HA.out _) ?_
  rintro e w1 ⟨rfl, rfl⟩
  go_wp2_with fail
  refine Calls.mono (HD.out _) ?_
  rintro e w2 ⟨rfl, hb2⟩
  have HB2 := hid hb2
  clear hb2
  go_wp2_with fail
  have HX := hid (FBox.made w2 36 (dA 2000 2 29 0))
  have HB3 := hid (HB2.out.alloc HB2.out.size (.cells (dA 2000 2 29 0) 36))
  unfold dA at HX HB3
  generalize w2.alloc (.cells #[.int .i64 2000, .int .i64 2, .int .i64 29, .int .i64 0] 36) = X at *
  refine Calls.mono (HP.out _ HB3.out) ?_
  rintro e w3 ⟨rfl, hb3⟩
  obtain ⟨c0, c1, c2, c3, g0, g1, g2, g3⟩ := dbox_facts (show FBox X w2.heap.size 36 (dA 2000 2 29 0) from HX.out) hb3
  have HB4 := hid (b2 HB3.out hb3)
  clear hb3 HX HB3 HP HA HD HB2
  go_wp2_with fail
  refine Calls.mono (HW.out _) ?_
  rintro e w4 ⟨rfl, rfl⟩
  go_wp2_with fail
  refine Calls.mono (HI.out _) ?_
  rintro e w5 ⟨rfl, hb5⟩
  have HB5 := hid (b2 HB4.out hb5)
  clear hb5
  go_wp2_with fail
  go_returns
  exact ⟨rfl, HB5.out⟩
end Go.Proofs.YtfapekhmdhkioaaDoor

/- A date's text is read as that date. Nothing here speaks of the program. -/
namespace Go.Proofs.YtfapekhmdhkioaaDoor
open Go.RowKit Go.Lib
set_option linter.unusedVariables false

theorem ckdig_one {u : Nat} (h : u < 10) : decDigits u = [UInt8.ofNat (48 + u)] := by rw [decDigits, dif_pos h]
theorem ckdig_more {u : Nat} (h : ¬ u < 10) : decDigits u = decDigits (u / 10) ++ [UInt8.ofNat (48 + u % 10)] := by rw [decDigits, dif_neg h]
theorem ckdigit_nat (d : Nat) (h : d < 10) : (UInt8.ofNat (48 + d)).toNat = 48 + d := by rw [UInt8.toNat_ofNat']; omega
theorem ckdec_all (n : Nat) : (∀ x ∈ decDigits n, 48 ≤ x.toNat ∧ x.toNat ≤ 57) ∧ decDigits n ≠ [] := by
  by_cases h : n < 10
  · rw [ckdig_one h]
    refine ⟨fun x hx => ?_, by simp⟩
    rw [List.mem_singleton] at hx
    rw [hx, ckdigit_nat n h]; omega
  · rw [ckdig_more h]
    have ih := ckdec_all (n / 10)
    refine ⟨fun x hx => ?_, by simp⟩
    rcases List.mem_append.1 hx with hx | hx
    · exact ih.1 x hx
    · rw [List.mem_singleton] at hx
      rw [hx, ckdigit_nat (n % 10) (by omega)]; omega
termination_by n
decreasing_by omega
theorem ckpum (n : Nat) (r : List UInt8) (hn : n < 9223372036854775808) : parseUint10 0 (decDigits n ++ r) = parseUint10 n r := by
  by_cases h : n < 10
  · rw [ckdig_one h]
    show parseUint10 0 (UInt8.ofNat (48 + n) :: r) = _
    rw [parseUint10, ckdigit_nat n h, if_pos (by omega), if_neg (by omega), if_neg (by omega)]
    congr 1; omega
  · rw [ckdig_more h, List.append_assoc]
    rw [ckpum (n / 10) _ (by omega)]
    show parseUint10 (n / 10) (UInt8.ofNat (48 + n % 10) :: r) = _
    rw [parseUint10, ckdigit_nat (n % 10) (by omega), if_pos (by omega), if_neg (by omega), if_neg (by omega)]
    congr 1; omega
termination_by n
decreasing_by omega
theorem numC_dec (n : Nat) (hn : n < 9223372036854775808) : numC (decDigits n) = n := by
  obtain ⟨ha, hne⟩ := ckdec_all n
  have hp := ckpum n [] (by omega)
  rw [List.append_nil] at hp
  have hp' : parseUint10 0 (decDigits n) = .ok n := hp
  unfold numC atoiAll
  cases hl : decDigits n with
  | nil => exact absurd hl hne
  | cons c r =>
    have hc := ha c (by rw [hl]; simp)
    rw [hl] at hp'
    have hu : parseMag (if c.toNat = 43 ∨ c.toNat = 45 then r else c :: r) = .ok n := by
      rw [if_neg (by omega)]
      unfold parseMag
      rw [if_neg (by simp)]
      exact hp'
    simp only [hu]
    rw [if_neg (by omega), if_neg (by omega), if_neg (by omega)]
theorem ckitoa_nat (n : Nat) : itoa (n : Int) = decDigits n := by unfold itoa; rw [if_neg (by omega)]; rfl

theorem ckindex_split (c : UInt8) (hc : c.toNat < 48) : ∀ (a b : List UInt8), (∀ x ∈ a, 48 ≤ x.toNat ∧ x.toNat ≤ 57) → indexByte (a ++ c :: b) c = (a.length : Int)
  | [], b, _ => by
    show indexByte (c :: b) c = _
    rw [indexByte]; simp
  | z :: a, b, h => by
    have hz := h z (by simp)
    have ih := ckindex_split c hc a b (fun x hx => h x (by simp [hx]))
    have hne : (z == c) = false := by
      rw [beq_eq_false_iff_ne]
      intro e; rw [e] at hz; omega
    show indexByte (z :: (a ++ c :: b)) c = _
    rw [indexByte, ih, hne]
    have h2 : (((a.length : Int)) == -1) = false := by
      rw [beq_eq_false_iff_ne]; omega
    rw [h2]
    simp
theorem ckcut_split (c : UInt8) (hc : c.toNat < 48) (a b : List UInt8) (h : ∀ x ∈ a, 48 ≤ x.toNat ∧ x.toNat ≤ 57) : cut (a ++ c :: b) [c] = (a, b, true) := by
  unfold cut
  rw [index_one, ckindex_split c hc a b h, if_pos (by omega)]
  simp

theorem pieces (a b c d : List UInt8) (ha : ∀ x ∈ a, 48 ≤ x.toNat ∧ x.toNat ≤ 57) (hb : ∀ x ∈ b, 48 ≤ x.toNat ∧ x.toNat ≤ 57) (hc : ∀ x ∈ c, 48 ≤ x.toNat ∧ x.toNat ≤ 57) :
    pc1 (a ++ (45 :: (b ++ (45 :: (c ++ (32 :: d)))))) = a ∧ pc2 (a ++ (45 :: (b ++ (45 :: (c ++ (32 :: d)))))) = b ∧ pc3 (a ++ (45 :: (b ++ (45 :: (c ++ (32 :: d)))))) = c ∧ pc4 (a ++ (45 :: (b ++ (45 :: (c ++ (32 :: d)))))) = d := by
  unfold pc1 pc2 pc3 pc4
  rw [ckcut_split 45 (by decide) a _ ha]
  simp only
  rw [ckcut_split 45 (by decide) b _ hb]
  simp only
  rw [ckcut_split 32 (by decide) c _ hc]
  simp
/-- A date's text is read as its tick. -/
theorem read_txtC {n k j r h : Nat} (hi : IsD n k j r) (hn : n ≤ 43690) (hh : h < 24) (ht : n * 24 + h ≤ 1048576) : readC (txtC (2000 + (k : Int)) ((j : Int) + 1) ((r : Int) + 1) (h : Int)) = (((n * 24 + h : Nat) : Int), 0) := by
  have hk := hi.small hn
  have e : txtC (2000 + (k : Int)) ((j : Int) + 1) ((r : Int) + 1) (h : Int) = decDigits (2000 + k) ++ (45 :: (decDigits (j + 1) ++ (45 :: (decDigits (r + 1) ++ (32 :: decDigits h))))) := by
    unfold txtC
    rw [← ckitoa_nat, ← ckitoa_nat, ← ckitoa_nat, ← ckitoa_nat]
    rfl
  obtain ⟨p1, p2, p3, p4⟩ := pieces (decDigits (2000 + k)) (decDigits (j + 1)) (decDigits (r + 1)) (decDigits h) (ckdec_all _).1 (ckdec_all _).1 (ckdec_all _).1
  have hj := hi.2.1
  have hr := hi.2.2
  have hm := md_le (2000 + k) (j + 1)
  unfold readC
  rw [e, p1, p2, p3, p4, numC_dec _ (by omega), numC_dec _ (by omega), numC_dec _ (by omega), numC_dec _ (by omega), ← e]
  have ef : fromR (2000 + (k : Int)) ((j : Int) + 1) ((r : Int) + 1) (h : Int) = (((n * 24 + h : Nat) : Int), 0) := by
    rw [fromR_ok hk hj hr, hi.1]
    unfold atR
    rw [if_pos ⟨by omega, by omega, by omega, by omega, by omega⟩]
    rfl
  show readP (2000 + (k : Int)) ((j : Int) + 1) ((r : Int) + 1) (h : Int) _ = _
  unfold readP
  rw [ef, if_pos ⟨rfl, rfl⟩]
/-- What is read is a tick, and that tick's text; or it is refused. -/
theorem readC_or (l : List UInt8) : (∃ T k j r : Nat, readC l = ((T : Int), 0) ∧ T ≤ 1048576 ∧ IsD (T / 24) k j r ∧ txtC (2000 + (k : Int)) ((j : Int) + 1) ((r : Int) + 1) ((T % 24 : Nat) : Int) = l) ∨ readC l = (0, 190) := by
  unfold readC readP
  rcases fromR_or (numC (pc1 l)) (numC (pc2 l)) (numC (pc3 l)) (numC (pc4 l)) with ⟨k, j, r, h1, h2, h3, hk, hi, ha, hf⟩ | hf
  · by_cases hx : txtC (numC (pc1 l)) (numC (pc2 l)) (numC (pc3 l)) (numC (pc4 l)) = l
    · left
      obtain ⟨a1, a2, a3, a4, a5⟩ := ha
      obtain ⟨h, hh⟩ : ∃ h : Nat, numC (pc4 l) = (h : Int) := ⟨(numC (pc4 l)).toNat, by omega⟩
      rw [hh] at a1 a2 a5
      refine ⟨(yT k + mT (2000 + k) j + r) * 24 + h, k, j, r, ?_, by omega, ?_, ?_⟩
      · rw [hf, if_pos ⟨rfl, hx⟩, hh]; rfl
      · rw [show ((yT k + mT (2000 + k) j + r) * 24 + h) / 24 = yT k + mT (2000 + k) j + r by omega]; exact hi
      · rw [show ((yT k + mT (2000 + k) j + r) * 24 + h) % 24 = h by omega, ← h1, ← h2, ← h3, ← hh]; exact hx
    · right; rw [if_neg (fun g => hx g.2)]
  · right; rw [hf, if_neg (fun g => absurd g.1 (by decide))]
/-- What From tells is a tick of that date; or the date is refused. -/
theorem fromR_tick (y m d h : Int) : (∃ T k j r : Nat, fromR y m d h = ((T : Int), 0) ∧ T ≤ 1048576 ∧ IsD (T / 24) k j r ∧ y = 2000 + (k : Int) ∧ m = (j : Int) + 1 ∧ d = (r : Int) + 1 ∧ h = ((T % 24 : Nat) : Int)) ∨ fromR y m d h = (0, 2) := by
  rcases fromR_or y m d h with ⟨k, j, r, h1, h2, h3, hk, hi, ha, hf⟩ | hf
  · left
    obtain ⟨a1, a2, a3, a4, a5⟩ := ha
    obtain ⟨h', rfl⟩ : ∃ h' : Nat, h = (h' : Int) := ⟨h.toNat, by omega⟩
    refine ⟨(yT k + mT (2000 + k) j + r) * 24 + h', k, j, r, ?_, by omega, ?_, h1, h2, h3, ?_⟩
    · rw [hf]; rfl
    · rw [show ((yT k + mT (2000 + k) j + r) * 24 + h') / 24 = yT k + mT (2000 + k) j + r by omega]; exact hi
    · rw [show ((yT k + mT (2000 + k) j + r) * 24 + h') % 24 = h' by omega]
  · exact .inr hf
end Go.Proofs.YtfapekhmdhkioaaDoor

/- package clock: Span, Days, of every two numbers; lists of numbers held against each other. -/
namespace Go.Proofs.YtfapekhmdhkioaaDoor
open Go.RowKit
set_option linter.unusedVariables false
set_option linter.unusedSimpArgs false

theorem Tryd.infoN : (Tryd.prog.info? 3).map (fun i => (i.zero, i.size, i.bytes)) = some (some (.int .i64 0), 1, 8) := by kernel_rfl

/-- What Span tells. -/
def spnR (a b : Int) : Int := if a < 0 ∨ 1048577 < b ∨ b < a then 2 else if 4096 < b - a then 3 else 0
theorem ckspn_any (a b : Int) (w : World) (ha : I64 a) (hb : I64 b) :
    Calls Tryd.prog 18 #[.int .i64 a, .int .i64 b] w fun e w' => e = .returned (.int .i64 (spnR a b)) ∧ w' = w := by
  obtain ⟨a0, a1⟩ := ha
  obtain ⟨b0, b1⟩ := hb
  by_cases h : a < 0 ∨ 1048577 < b ∨ b < a
  · have HR : Hid (spnR a b = 2) := by show _ = _; unfold spnR; rw [if_pos h]
    go_enter Tryd.func18, Tryd.ntmps18
    go_wp2_with fail
    all_goals first | (exfalso; omega) | (go_ret; exact ⟨ret_int HR.out.symm, rfl⟩)
  · have e1 : IntKind.i64.wrap (b - a) = b - a := by rw [IntKind.wrap_i64]; omega
    by_cases g : 4096 < b - a
    · have HR : Hid (spnR a b = 3) := by show _ = _; unfold spnR; rw [if_neg h, if_pos g]
      go_enter Tryd.func18, Tryd.ntmps18
      go_wp2_with fail
      all_goals first | (exfalso; omega) | (go_ret; exact ⟨ret_int HR.out.symm, rfl⟩)
    · have HR : Hid (spnR a b = 0) := by show _ = _; unfold spnR; rw [if_neg h, if_neg g]
      go_enter Tryd.func18, Tryd.ntmps18
      go_wp2_with fail
      all_goals first | (exfalso; omega) | (go_ret; exact ⟨ret_int HR.out.symm, rfl⟩)
theorem spnR_or (a b : Int) : (spnR a b = 0 ∧ 0 ≤ a ∧ b ≤ 1048577 ∧ a ≤ b ∧ b - a ≤ 4096) ∨ (spnR a b ≠ 0 ∧ ¬ (0 ≤ a ∧ b ≤ 1048577 ∧ a ≤ b ∧ b - a ≤ 4096)) := by
  unfold spnR
  by_cases h : a < 0 ∨ 1048577 < b ∨ b < a
  · rw [if_pos h]; right; exact ⟨by decide, by omega⟩
  · rw [if_neg h]
    by_cases g : 4096 < b - a
    · rw [if_pos g]; right; exact ⟨by decide, by omega⟩
    · rw [if_neg g]; left; exact ⟨rfl, by omega⟩

/-- Numbers one behind the other. -/
def upN (f n : Nat) : List Value := (List.range n).map (fun j => Value.int .i64 ((f + j : Nat) : Int))
theorem upN_succ (f n : Nat) : upN f (n + 1) = upN f n ++ [.int .i64 ((f + n : Nat) : Int)] := by
  unfold upN
  rw [List.range_succ, List.map_append]
  rfl
theorem upN_len (f n : Nat) : (upN f n).length = n := by unfold upN; simp
def dayF (a : Nat) : Nat := (a + 23) / 24
def dayE (b : Nat) : Nat := b / 24

theorem ckdays_err (a b : Int) (w : World) (ha : I64 a) (hb : I64 b) (h : spnR a b ≠ 0) :
    Calls Tryd.prog 7 #[.int .i64 a, .int .i64 b] w fun e w' => e = .returned (.slice none 0 0) ∧ w' = w := by
  have HC := hid (ckspn_any a b w ha hb)
  generalize spnR a b = E at *
  have h' : (E == 0) = false := by simp [h]
  clear ha hb
  go_enter Tryd.func7, Tryd.ntmps7
  go_wp2_with fail
  refine Calls.mono HC.out ?_
  rintro e w1 ⟨rfl, rfl⟩
  go_wp2_with fail
  go_ret
  exact ⟨rfl, rfl⟩

set_option maxHeartbeats 1600000 in
set_option maxRecDepth 100000 in
theorem ckdays_ok (a b : Nat) (w : World) (h : b ≤ 1048577) (hab : a ≤ b) (hs : spnR (a : Int) (b : Int) = 0) :
    Calls Tryd.prog 7 #[.int .i64 (a : Int), .int .i64 (b : Int)] w fun e w' => ∃ v, e = .returned v ∧ w'.ownsRow w.heap.size 3 1 v (dayE b - dayF a) (upN (dayF a) (dayE b - dayF a)) ∧ Below w.heap.size w w' := by
  obtain ⟨i0, hi, hz0, hz1, hz2⟩ := info_parts Tryd.infoN
  have HC := hid (ckspn_any (a : Int) (b : Int) w ⟨by omega, by omega⟩ ⟨by omega, by omega⟩)
  rw [hs] at HC
  have e1 : IntKind.i64.wrap ((a : Int) + 24) = (a : Int) + 24 := by rw [IntKind.wrap_i64]; omega
  have e2 : IntKind.i64.wrap ((a : Int) + 24 - 1) = (a : Int) + 23 := by rw [IntKind.wrap_i64]; omega
  have e3 : Int.tdiv ((a : Int) + 23) 24 = ((dayF a : Nat) : Int) := rfl
  have e4 : Int.tdiv (b : Int) 24 = ((dayE b : Nat) : Int) := rfl
  have l1 : dayF a ≤ 1048577 := by unfold dayF; omega
  have l2 : dayE b ≤ 1048577 := by unfold dayE; omega
  clear hs h hab
  generalize dayF a = F at *
  generalize dayE b = G at *
  have e5 : IntKind.i64.wrap (F : Int) = F := by rw [IntKind.wrap_i64]; omega
  have e6 : IntKind.i64.wrap (G : Int) = G := by rw [IntKind.wrap_i64]; omega
  go_enter Tryd.func7, Tryd.ntmps7
  go_wp2_with fail
  refine Calls.mono HC.out ?_
  rintro e w1 ⟨rfl, rfl⟩
  go_wp2_with fail
  clear e1 e2 e3 e4 HC
  go_loopw [7, 8] (fun v x wr => ∃ k : Nat, k ≤ G - F ∧ x = .int .i64 ((F + k : Nat) : Int) ∧ Hid (wr.ownsRow w1.heap.size 3 1 v k (upN F k)) ∧ Hid (Below w1.heap.size w1 wr)) (fun _ x _ => G - (intOf x).toNat)
  case atStart => exact ⟨0, Nat.zero_le _, rfl, World.ownsRow_nil _ _ _ _, Below.refl _ _⟩
  case round =>
    obtain ⟨k, hk, rfl, HO, HBW⟩ := hrel
    by_cases hlt : k < G - F
    · have HS := hid (upN_succ F k)
      have ho := HO.out
      have hb := HBW.out
      have hsz := hb.size
      obtain ⟨D, hD⟩ : ∃ D : Nat, F + k = D := ⟨_, rfl⟩
      have HD := hid hD
      have hDG : D < G := by omega
      rw [hD] at HS ⊢
      clear HO HBW hD
      generalize upN F k = R at *
      go_wp2_with (at_builtin; refine wpList_append_own _ rfl _ _ 22 rfl w1.heap.size 3 i0 (.int .i64 0) 1 8 Tryd.underlying22 hi hz0 hz1 hz2 rfl (by decide) _ _ _ rfl (ho.alloc _) ⟨wr.heap.size, 0, none⟩ 1 1 [.int .i64 (D : Int)] rfl rfl (cell_one_new _ _ _) (by simp [Value.oneCell']) (by unfold maxLen; omega) (by omega) (by simp; omega) ?_)
      intro v' w3 ho2 hg2 _
      have hb3 : Below w1.heap.size w1 w3 := (hb.alloc (by omega) _).grown hg2 (by simp; omega) (fun g hg => (ho.lt g hg).1)
      clear hg2
      go_wp2_with fail
      go_roundw
      case rel => exact ⟨k + 1, by omega, by rw [← Nat.add_assoc, HD.out]; go_num, by rw [HS.out]; exact ho2, hb3⟩
      case measure => simp [intOf]; omega
    · obtain rfl : k = G - F := by omega
      have hg : ¬ ((F + (G - F) : Nat) : Int) < (G : Int) := by omega
      have hg2 : decide (((F + (G - F) : Nat) : Int) < (G : Int)) = false := decide_eq_false hg
      generalize hq : ((F + (G - F) : Nat) : Int) = Q at *
      generalize hn : G - F = n at *
      clear hq hlt
      go_wp2_with fail
      all_goals first | (exfalso; omega) | (go_ret; exact ⟨_, rfl, HO.out, HBW.out⟩)

/-- A list is read as these numbers. -/
def RdI (w : World) (a : Option Addr) (n : Nat) (Z : Nat → Int) : Prop := n = 0 ∨ ∃ g, a = some ⟨g, 0, none⟩ ∧ ∀ j, j < n → w.cell? ⟨g, j, none⟩ = some (.int .i64 (Z j))
theorem RdI.later {w w' : World} {a : Option Addr} {n : Nat} {Z : Nat → Int} (h : RdI w a n Z) (hb : Below w.heap.size w w') : RdI w' a n Z := by
  rcases h with h | ⟨g, ha, hc⟩
  · exact .inl h
  · exact .inr ⟨g, ha, fun j hj => (hb.cell (p := ⟨g, j, none⟩) (block_lt_of_cell (hc j hj))).trans (hc j hj)⟩

set_option maxHeartbeats 1600000 in
set_option maxRecDepth 100000 in
theorem cksame_any (a b : Option Addr) (n ca cb : Nat) (Z : Nat → Int) (w : World) (hn : n ≤ 1048577) (ha : RdI w a n Z) (hb : RdI w b n Z) :
    Calls Tryd.prog 9 #[.slice a n ca, .slice b n cb] w fun e w' => e = .returned (.bool true) ∧ Below w.heap.size w w' := by
  have HA := hid ha
  have HB := hid hb
  clear ha hb
  go_enter Tryd.func9, Tryd.ntmps9
  go_wp2_with fail
  go_loopw [5] (fun x wr => ∃ k : Nat, k ≤ n ∧ x = .int .i64 (k : Int) ∧ Hid (Below w.heap.size w wr)) (fun x _ => n - (intOf x).toNat)
  case atStart => exact ⟨0, Nat.zero_le _, rfl, Below.refl _ _⟩
  case round =>
    obtain ⟨k, hk, rfl, HW⟩ := hrel
    by_cases hlt : k < n
    · rcases HA.out with h | ⟨g, rfl, hc⟩
      · omega
      rcases HB.out with h | ⟨g', rfl, hc'⟩
      · omega
      have c0 : wr.cell? ⟨g, k, none⟩ = some (.int .i64 (Z k)) := (HW.out.cell (p := ⟨g, k, none⟩) (block_lt_of_cell (hc k hlt))).trans (hc k hlt)
      have c1 : wr.cell? ⟨g', k, none⟩ = some (.int .i64 (Z k)) := (HW.out.cell (p := ⟨g', k, none⟩) (block_lt_of_cell (hc' k hlt))).trans (hc' k hlt)
      clear hc hc' HA HB
      go_wp2_with fail
      go_quiet (fail)
      go_wp2_with fail
      go_roundw
      case rel => exact ⟨k + 1, by omega, by go_num, Below.drewM HW.out⟩
      case measure => simp [intOf]; omega
    · obtain rfl : k = n := by omega
      go_wp2_with fail
      go_ret
      exact ⟨rfl, HW.out⟩
theorem RdI.own {w : World} {base n : Nat} {v : Value} {f : Nat} (h : w.ownsRow base 3 1 v n (upN f n)) : ∃ a cap, v = .slice a n cap ∧ RdI w a n (fun j => ((f + j : Nat) : Int)) := by
  rcases h.2 with ⟨rfl, rfl⟩ | ⟨g, cap, cur, rfl, hb, hg, hnc, hcm, hcs, ht⟩
  · exact ⟨none, 0, rfl, .inl rfl⟩
  · refine ⟨_, cap, rfl, .inr ⟨g, rfl, fun j hj => ?_⟩⟩
    have hc := h.cellAt j (by omega)
    rw [hc]
    unfold upN
    rw [List.getElem?_map, List.getElem?_range hj]
    rfl
end Go.Proofs.YtfapekhmdhkioaaDoor

/- package clock: Ticks: the function that it tells, and what that goes over. -/
namespace Go.Proofs.YtfapekhmdhkioaaDoor
open Go.RowKit Go.Shelf
set_option linter.unusedVariables false
set_option linter.unusedSimpArgs false
attribute [local go_sem] Oper.semAt_some

theorem cbox2 (w : World) (t : Nat) (u v : Array Value) : FBox ((w.alloc (.cells u t)).alloc (.cells v t)) w.heap.size t u ∧ FBox ((w.alloc (.cells u t)).alloc (.cells v t)) (w.heap.size + 1) t v ∧ Below w.heap.size w ((w.alloc (.cells u t)).alloc (.cells v t)) := by
  have a : FBox (w.alloc (.cells u t)) w.heap.size t u ∧ Below w.heap.size w (w.alloc (.cells u t)) := ⟨FBox.made _ _ _, (Below.refl _ _).alloc (Nat.le_refl _) _⟩
  have b : FBox ((w.alloc (.cells u t)).alloc (.cells v t)) (w.alloc (.cells u t)).heap.size t v ∧ Below (w.alloc (.cells u t)).heap.size (w.alloc (.cells u t)) ((w.alloc (.cells u t)).alloc (.cells v t)) := ⟨FBox.made _ _ _, (Below.refl _ _).alloc (Nat.le_refl _) _⟩
  have es : (w.alloc (.cells u t)).heap.size = w.heap.size + 1 := World.size_alloc _ _
  exact ⟨a.1.later b.2 a.1.lt, es ▸ b.1, b2 a.2 b.2⟩
/-- Where a span that may not be ends. -/
def tkE (a b : Int) : Int := if spnR a b = 0 then b else a

set_option maxHeartbeats 800000 in
set_option maxRecDepth 100000 in
theorem ckticks_any (a b : Int) (w : World) (ha : I64 a) (hb : I64 b) :
    Calls Tryd.prog 6 #[.int .i64 a, .int .i64 b] w fun e w' => ∃ pa pb, e = .returned (.func (.func 20) #[] #[.pointer (some ⟨pa, 0, none⟩), .pointer (some ⟨pb, 0, none⟩)]) ∧ w.heap.size ≤ pa ∧ w.heap.size ≤ pb ∧ FBox w' pa 3 #[.int .i64 a] ∧ FBox w' pb 3 #[.int .i64 (tkE a b)] ∧ Below w.heap.size w w' := by
  have HC := hid (fun V => ckspn_any a b V ha hb)
  have HY : Hid (spnR a b = 0 → tkE a b = b) := fun h => if_pos h
  have HN : Hid (¬ spnR a b = 0 → tkE a b = a) := fun h => if_neg h
  generalize spnR a b = E at *
  generalize tkE a b = X at *
  clear ha hb
  go_enter Tryd.func6, Tryd.ntmps6
  go_wp2_with fail
  have HX := hid (cbox2 w 3 #[.int .i64 a] #[.int .i64 b])
  generalize (w.alloc (.cells #[.int .i64 a] 3)).alloc (.cells #[.int .i64 b] 3) = V at *
  refine Calls.mono (HC.out _) ?_
  rintro e w1 ⟨rfl, rfl⟩
  by_cases h : E = 0
  · subst h
    have HE := hid (HY.out rfl)
    clear HY HN HC
    go_wp2_with fail
    go_ret
    exact ⟨_, _, rfl, Nat.le_refl _, Nat.le_succ _, HX.out.1, by rw [HE.out]; exact HX.out.2.1, HX.out.2.2⟩
  · have HE := hid (HN.out h)
    have h' : (E == 0) = false := by simp [h]
    have k0 : w1.cell? ⟨w.heap.size, 0, none⟩ = some (.int .i64 a) := HX.out.1.cell 0
    have k1 : w1.cell? ⟨w.heap.size + 1, 0, none⟩ = some (.int .i64 b) := HX.out.2.1.cell 0
    have k2 := HX.out.2.1.free 0
    clear HY HN HC
    go_wp2_with fail
    go_ret
    refine ⟨_, _, rfl, Nat.le_refl _, Nat.le_succ _, HX.out.1.other _ _ (by simp), ?_, HX.out.2.2.setCell (p := ⟨w.heap.size + 1, 0, none⟩) (Nat.le_succ _) _⟩
    rw [HE.out]
    exact HX.out.2.1.set 0 _

/-- Numbers one behind the other, from a on. -/
def upI (a : Int) (k : Nat) : List Int := (List.range k).map (fun j : Nat => a + (j : Int))
theorem upI_succ (a : Int) (k : Nat) : upI a (k + 1) = upI a k ++ [a + (k : Int)] := by
  unfold upI
  rw [List.range_succ, List.map_append]
  rfl
theorem upI_len (a : Int) (k : Nat) : (upI a k).length = k := by unfold upI; simp

set_option maxHeartbeats 1600000 in
set_option maxRecDepth 100000 in
theorem ckticks1_stops (F : Fence) (n : Nat) (h6 : F.fn 20) (hro : F.round = none) (hn : 1 ≤ n) (pa pb n₀ : Nat) (a : Int) (m : Nat) (w : World) (ha : I64 a) (hm : a + (m : Int) ≤ 9223372036854775807) (l1 : pa < n₀) (l2 : pb < n₀) (hl : n₀ ≤ w.heap.size) (c1 : w.cell? ⟨pa, 0, none⟩ = some (.int .i64 a)) (c2 : w.cell? ⟨pb, 0, none⟩ = some (.int .i64 (a + (m : Int)))) :
    SeqStopsK F n Tryd.prog 20 #[.pointer (some ⟨pa, 0, none⟩), .pointer (some ⟨pb, 0, none⟩)] (fun x : Int => #[.int .i64 x]) (Below n₀) (fun xs => xs = upI a m) (fun pre => ∃ k, k ≤ m ∧ pre = upI a k) m w := fun l J Jx W hW hJ hJx hY h0 => by
  refine callsIn_of_wp Tryd.func20 rfl h6 ?_ hro
  simp only [Tryd.ntmps20, List.size_toArray, List.length_cons, List.length_nil, Nat.reduceAdd, Nat.reduceSub, Array.replicate_succ, Array.replicate_zero, List.push_toArray, List.append_toArray, List.nil_append, List.cons_append]
  obtain ⟨a0, a1⟩ := ha
  have d1 : W.cell? ⟨pa, 0, none⟩ = some (.int .i64 a) := (hW.cell (p := ⟨pa, 0, none⟩) (show pa < _ by omega)).trans c1
  have d2 : W.cell? ⟨pb, 0, none⟩ = some (.int .i64 (a + (m : Int))) := (hW.cell (p := ⟨pb, 0, none⟩) (show pb < _ by omega)).trans c2
  have HY := hid hY
  clear hY c1 c2
  obtain ⟨e, he⟩ : ∃ e : Int, e = a + (m : Int) := ⟨_, rfl⟩
  rw [← he] at d2
  have HE := hid he
  have he1 : e ≤ 9223372036854775807 := by omega
  have hJ0 : Hid (J (upI a 0) W) := h0
  clear h0 he
  gi_wp2
  gi_loopw [4] (fun x wr => ∃ (k : Nat) (y : Int), k ≤ m ∧ x = .int .i64 y ∧ Hid (y = a + (k : Int)) ∧ wr.cell? ⟨pb, 0, none⟩ = some (.int .i64 e) ∧ Hid (J (upI a k) wr)) (fun x _ => (e - intOf x).toNat)
  case atStart => exact ⟨0, a, Nat.zero_le _, rfl, by show a = a + (0 : Int); omega, d2, hJ0⟩
  case round =>
    obtain ⟨k, y, hk, rfl, HYK, d3, HJ⟩ := hrel
    by_cases hlt : k < m
    · have HS := hid (upI_succ a k)
      rw [← HYK.out] at HS
      have hye : y < e := by have := HYK.out; have := HE.out; omega
      have hy0 : -9223372036854775808 ≤ y := by have := HYK.out; omega
      have hw1 : IntKind.i64.wrap (y + 1) = y + 1 := by rw [IntKind.wrap_i64]; omega
      obtain ⟨fn, tmps, assign, body, hy, hR⟩ := HY.out _ y wr HJ.out (by rw [upI_len]; omega)
      gi_wp2
      refine hR.mono ?_
      rintro e' W3 (⟨rfl, hJ3, hk3⟩ | ⟨rfl, hJx3⟩)
      · have d4 : W3.cell? ⟨pb, 0, none⟩ = some (.int .i64 e) := (hk3.cell (p := ⟨pb, 0, none⟩) l2).trans d3
        gi_wp2
        go_roundw
        case rel => exact ⟨k + 1, y + 1, by omega, by first | rfl | go_num, by have := HYK.out; show y + 1 = a + ((k + 1 : Nat) : Int); omega, d4, by rw [HS.out]; exact hJ3⟩
        case measure => simp [intOf]; omega
      · gi_wp2
        refine bodyPost_ret (results_none rfl _ _ _) rfl ?_
        exact ⟨⟨_, rfl⟩, .inr ⟨_, ⟨k + 1, by omega, rfl⟩, by rw [HS.out]; exact hJx3⟩⟩
    · obtain rfl : k = m := by omega
      have hxe : ¬ y < e := by have := HYK.out; have := HE.out; omega
      have hJ9 := HJ.out
      gi_wp2
      all_goals first
        | (exfalso; omega)
        | (go_end0
           refine ⟨⟨_, rfl⟩, .inl ?_⟩
           simpa using hJ9)
end Go.Proofs.YtfapekhmdhkioaaDoor

/- The document's answers of layer 9: Ticks, Days. -/
namespace Go.Proofs.YtfapekhmdhkioaaDoor
open Go.RowKit
set_option linter.unusedVariables false
set_option linter.unusedSimpArgs false

theorem cdspn_any (a b : Int) (w : World) (ha : I64 a) (hb : I64 b) :
    Calls Tryd.prog 19 #[.int .i64 a, .int .i64 b] w fun e w' => e = .returned (.int .i64 (spnR a b)) ∧ w' = w := by
  obtain ⟨a0, a1⟩ := ha
  obtain ⟨b0, b1⟩ := hb
  by_cases h : a < 0 ∨ 1048577 < b ∨ b < a
  · have HR : Hid (spnR a b = 2) := by show _ = _; unfold spnR; rw [if_pos h]
    go_enter Tryd.func19, Tryd.ntmps19
    go_wp2_with fail
    all_goals first | (exfalso; omega) | (go_ret; exact ⟨ret_int HR.out.symm, rfl⟩)
  · have e1 : IntKind.i64.wrap (b - a) = b - a := by rw [IntKind.wrap_i64]; omega
    by_cases g : 4096 < b - a
    · have HR : Hid (spnR a b = 3) := by show _ = _; unfold spnR; rw [if_neg h, if_pos g]
      go_enter Tryd.func19, Tryd.ntmps19
      go_wp2_with fail
      all_goals first | (exfalso; omega) | (go_ret; exact ⟨ret_int HR.out.symm, rfl⟩)
    · have HR : Hid (spnR a b = 0) := by show _ = _; unfold spnR; rw [if_neg h, if_neg g]
      go_enter Tryd.func19, Tryd.ntmps19
      go_wp2_with fail
      all_goals first | (exfalso; omega) | (go_ret; exact ⟨ret_int HR.out.symm, rfl⟩)

theorem cddays_err (a b : Int) (w : World) (ha : I64 a) (hb : I64 b) (h : spnR a b ≠ 0) :
    Calls Tryd.prog 8 #[.int .i64 a, .int .i64 b] w fun e w' => e = .returned (.slice none 0 0) ∧ w' = w := by
  have HC := hid (cdspn_any a b w ha hb)
  generalize spnR a b = E at *
  have h' : (E == 0) = false := by simp [h]
  clear ha hb
  go_enter Tryd.func8, Tryd.ntmps8
  go_wp2_with fail
  refine Calls.mono HC.out ?_
  rintro e w1 ⟨rfl, rfl⟩
  go_wp2_with fail
  go_ret
  exact ⟨rfl, rfl⟩
theorem cdticks_err (a b : Int) (w : World) (ha : I64 a) (hb : I64 b) (h : spnR a b ≠ 0) :
    Calls Tryd.prog 5 #[.int .i64 a, .int .i64 b] w fun e w' => e = .returned (.slice none 0 0) ∧ w' = w := by
  have HC := hid (cdspn_any a b w ha hb)
  generalize spnR a b = E at *
  have h' : (E == 0) = false := by simp [h]
  clear ha hb
  go_enter Tryd.func5, Tryd.ntmps5
  go_wp2_with fail
  refine Calls.mono HC.out ?_
  rintro e w1 ⟨rfl, rfl⟩
  go_wp2_with fail
  refine wp_loop_rounds 1 ?_
  rw [rounds_succ]
  go_wp2_with fail
  go_ret
  exact ⟨rfl, rfl⟩

set_option maxHeartbeats 1600000 in
set_option maxRecDepth 100000 in
theorem cdticks_ok (a b : Nat) (w : World) (h : b ≤ 1048577) (hab : a ≤ b) (hs : spnR (a : Int) (b : Int) = 0) :
    Calls Tryd.prog 5 #[.int .i64 (a : Int), .int .i64 (b : Int)] w fun e w' => ∃ v, e = .returned v ∧ w'.ownsRow w.heap.size 3 1 v (b - a) (upN a (b - a)) ∧ Below w.heap.size w w' := by
  obtain ⟨i0, hi, hz0, hz1, hz2⟩ := info_parts Tryd.infoN
  have HC := hid (cdspn_any (a : Int) (b : Int) w ⟨by omega, by omega⟩ ⟨by omega, by omega⟩)
  rw [hs] at HC
  clear hs
  go_enter Tryd.func5, Tryd.ntmps5
  go_wp2_with fail
  refine Calls.mono HC.out ?_
  rintro e w1 ⟨rfl, rfl⟩
  go_wp2_with fail
  clear HC
  go_loopw [5, 7] (fun v x wr => ∃ k : Nat, k ≤ b - a ∧ x = .int .i64 ((a + k : Nat) : Int) ∧ Hid (wr.ownsRow w1.heap.size 3 1 v k (upN a k)) ∧ Hid (Below w1.heap.size w1 wr)) (fun _ x _ => b - (intOf x).toNat)
  case atStart => exact ⟨0, Nat.zero_le _, rfl, World.ownsRow_nil _ _ _ _, Below.refl _ _⟩
  case round =>
    obtain ⟨k, hk, rfl, HO, HBW⟩ := hrel
    by_cases hlt : k < b - a
    · have HS := hid (upN_succ a k)
      have ho := HO.out
      have hb := HBW.out
      have hsz := hb.size
      obtain ⟨D, hD⟩ : ∃ D : Nat, a + k = D := ⟨_, rfl⟩
      have HD := hid hD
      have hDG : D < b := by omega
      rw [hD] at HS ⊢
      clear HO HBW hD
      generalize upN a k = R at *
      go_wp2_with (at_builtin; refine wpList_append_own _ rfl _ _ 22 rfl w1.heap.size 3 i0 (.int .i64 0) 1 8 Tryd.underlying22 hi hz0 hz1 hz2 rfl (by decide) _ _ _ rfl (ho.alloc _) ⟨wr.heap.size, 0, none⟩ 1 1 [.int .i64 (D : Int)] rfl rfl (cell_one_new _ _ _) (by simp [Value.oneCell']) (by unfold maxLen; omega) (by omega) (by simp; omega) ?_)
      intro v' w3 ho2 hg2 _
      have hb3 : Below w1.heap.size w1 w3 := (hb.alloc (by omega) _).grown hg2 (by simp; omega) (fun g hg => (ho.lt g hg).1)
      clear hg2
      go_wp2_with fail
      go_roundw
      case rel => exact ⟨k + 1, by omega, by rw [← Nat.add_assoc, HD.out]; go_num, by rw [HS.out]; exact ho2, hb3⟩
      case measure => simp [intOf]; omega
    · obtain rfl : k = b - a := by omega
      have hg : ¬ ((a + (b - a) : Nat) : Int) < (b : Int) := by omega
      have hg2 : decide (((a + (b - a) : Nat) : Int) < (b : Int)) = false := decide_eq_false hg
      generalize hq : ((a + (b - a) : Nat) : Int) = Q at *
      generalize hn : b - a = n at *
      clear hq hlt
      go_wp2_with fail
      all_goals first | (exfalso; omega) | (go_ret; exact ⟨_, rfl, HO.out, HBW.out⟩)
set_option maxHeartbeats 1600000 in
set_option maxRecDepth 100000 in
theorem cddays_ok (a b : Nat) (w : World) (h : b ≤ 1048577) (hab : a ≤ b) (hs : spnR (a : Int) (b : Int) = 0) :
    Calls Tryd.prog 8 #[.int .i64 (a : Int), .int .i64 (b : Int)] w fun e w' => ∃ v, e = .returned v ∧ w'.ownsRow w.heap.size 3 1 v (dayE b - dayF a) (upN (dayF a) (dayE b - dayF a)) ∧ Below w.heap.size w w' := by
  obtain ⟨i0, hi, hz0, hz1, hz2⟩ := info_parts Tryd.infoN
  have HC := hid (cdspn_any (a : Int) (b : Int) w ⟨by omega, by omega⟩ ⟨by omega, by omega⟩)
  rw [hs] at HC
  clear hs
  have e4 : Int.tdiv (a : Int) 24 = ((a / 24 : Nat) : Int) := rfl
  have l2 : a / 24 ≤ 1048577 := by omega
  have HQ : Hid (a / 24 ≤ dayF a ∧ dayF a ≤ a / 24 + 1 ∧ a / 24 ≤ dayE b ∧ (∀ d : Nat, a ≤ 24 * d ↔ dayF a ≤ d) ∧ (∀ d : Nat, 24 * d + 24 ≤ b ↔ d < dayE b)) := by
    unfold dayF dayE
    exact ⟨by omega, by omega, by omega, fun d => by omega, fun d => by omega⟩
  have l3 : dayE b ≤ 43691 := by unfold dayE; omega
  generalize dayF a = F at *
  generalize dayE b = G at *
  generalize a / 24 = A at *
  have e5 : IntKind.i64.wrap (A : Int) = A := by rw [IntKind.wrap_i64]; omega
  go_enter Tryd.func8, Tryd.ntmps8
  go_wp2_with fail
  refine Calls.mono HC.out ?_
  rintro e w1 ⟨rfl, rfl⟩
  go_wp2_with fail
  clear HC e4 e5
  go_loopw [5, 7] (fun v x wr => ∃ d : Nat, A ≤ d ∧ d ≤ G ∧ x = .int .i64 (d : Int) ∧ Hid (wr.ownsRow w1.heap.size 3 1 v (d - F) (upN F (d - F))) ∧ Hid (Below w1.heap.size w1 wr)) (fun _ x _ => G - (intOf x).toNat)
  case atStart =>
    have q := HQ.out
    refine ⟨A, Nat.le_refl _, q.2.2.1, rfl, ?_, Below.refl _ _⟩
    rw [show A - F = 0 by omega]
    exact World.ownsRow_nil _ _ _ _
  case round =>
    obtain ⟨d, hA, hG, rfl, HO, HBW⟩ := hrel
    have x1 : IntKind.i64.wrap (24 * (d : Int)) = 24 * (d : Int) := by rw [IntKind.wrap_i64]; omega
    have x2 : IntKind.i64.wrap (24 * (d : Int) + 24) = 24 * (d : Int) + 24 := by rw [IntKind.wrap_i64]; omega
    have q4 := HQ.out.2.2.2.1 d
    have q5 := HQ.out.2.2.2.2 d
    by_cases hlt : d < G
    · have hle : 24 * (d : Int) + 24 ≤ (b : Int) := by have := q5.2 hlt; omega
      by_cases hF : F ≤ d
      · have hge : (a : Int) ≤ 24 * (d : Int) := by have := q4.2 hF; omega
        have HS := hid (upN_succ F (d - F))
        rw [show F + (d - F) = d by omega, show d - F + 1 = d + 1 - F by omega] at HS
        have ho := HO.out
        have hb := HBW.out
        have hsz := hb.size
        have hc : d - F ≤ 43691 := by omega
        clear HO HBW q4 q5 HQ
        generalize upN F (d - F) = R at *
        generalize hcq : d - F = c at *
        have HCQ := hid hcq
        clear hcq
        go_wp2_with (at_builtin; refine wpList_append_own _ rfl _ _ 22 rfl w1.heap.size 3 i0 (.int .i64 0) 1 8 Tryd.underlying22 hi hz0 hz1 hz2 rfl (by decide) _ _ _ rfl (ho.alloc _) ⟨wr.heap.size, 0, none⟩ 1 1 [.int .i64 (d : Int)] rfl rfl (cell_one_new _ _ _) (by simp [Value.oneCell']) (by unfold maxLen; omega) (by omega) (by simp; omega) ?_)
        intro v' w3 ho2 hg2 _
        have hb3 : Below w1.heap.size w1 w3 := (hb.alloc (by omega) _).grown hg2 (by simp; omega) (fun g hg => (ho.lt g hg).1)
        clear hg2
        go_wp2_with fail
        go_roundw
        case rel => exact ⟨d + 1, by omega, by omega, by go_num, by have e := HCQ.out; rw [HS.out, show d + 1 - F = c + 1 by omega]; exact ho2, hb3⟩
        case measure => simp [intOf]; omega
      · have hge : ¬ (a : Int) ≤ 24 * (d : Int) := by have := q4.1; omega
        have hge2 : decide ((a : Int) ≤ 24 * (d : Int)) = false := decide_eq_false hge
        have HO2 := hid HO.out
        rw [show d - F = d + 1 - F by omega] at HO2
        clear q4 q5 HQ HO
        go_wp2_with fail
        go_roundw
        case rel => exact ⟨d + 1, by omega, by omega, by go_num, HO2.out, HBW.out⟩
        case measure => simp [intOf]; omega
    · obtain rfl : d = G := by omega
      have hle : ¬ 24 * (d : Int) + 24 ≤ (b : Int) := by have := q5.1; omega
      clear q4 q5 HQ
      go_wp2_with fail
      all_goals first | (exfalso; omega) | (go_ret; exact ⟨_, rfl, HO.out, HBW.out⟩)
end Go.Proofs.YtfapekhmdhkioaaDoor

/- Lists of numbers: a copy; two that lie apart. -/
namespace Go.Proofs.YtfapekhmdhkioaaDoor
open Go.RowKit
set_option linter.unusedVariables false
set_option linter.unusedSimpArgs false

theorem upN_one (f n : Nat) : ∀ u ∈ upN f n, u.oneCell' = true := by
  intro u hu
  unfold upN at hu
  obtain ⟨j, _, rfl⟩ := List.mem_map.1 hu
  rfl
theorem upN_at (f n j : Nat) (hj : j < n) : (upN f n)[j]? = some (.int .i64 ((f + j : Nat) : Int)) := by
  unfold upN
  rw [List.getElem?_map, List.getElem?_range hj]
  rfl

set_option maxHeartbeats 800000 in
set_option maxRecDepth 100000 in
theorem cicopy_any (base f n : Nat) (v : Value) (w : World) (h : w.ownsRow base 3 1 v n (upN f n)) (hn : n ≤ 1048577) :
    Calls Tryd.prog 21 #[v] w fun e w' => ∃ v', e = .returned v' ∧ w'.ownsRow w.heap.size 3 1 v' n (upN f n) ∧ Below w.heap.size w w' := by
  obtain ⟨i0, hi, hz0, hz1, hz2⟩ := info_parts Tryd.infoN
  have hown : (w.alloc (.cells #[] 3)).ownsRow w.heap.size 3 1 (.slice (some ⟨w.heap.size, 0, none⟩) 0 0) 0 [] := World.ownsRow_lit w #[] 0 (Nat.le_refl _) (Nat.zero_le _) rfl
  have hbel : Below w.heap.size w (w.alloc (.cells #[] 3)) := (Below.refl _ _).alloc (Nat.le_refl _) _
  rcases h.2 with ⟨rfl, rfl⟩ | ⟨g, cap, cur, rfl, hb, hg, hnc, hcm, hcs, ht⟩
  · clear h
    go_enter Tryd.func21, Tryd.ntmps21
    go_wp2_with (at_builtin; refine wpList_append_own_none rfl _ _ 22 rfl w.heap.size 3 i0 1 Tryd.underlying22 hi _ 0 [] rfl hown rfl ?_)
    go_ret
    exact ⟨_, rfl, hown, hbel⟩
  · have HN : Hid (∀ j u, (upN f n)[j]? = some u → (w.alloc (.cells #[] 3)).cell? ((⟨g, 0, none⟩ : Addr).add j) = some u) := fun j u hj => by
      have hj1 : j < n := by have := (List.getElem?_eq_some_iff.1 hj).1; rw [upN_len] at this; exact this
      rw [Addr.add_lit, Nat.zero_add]
      have hlt : g < w.heap.size := by
        have : w.heap[g]?.isSome := by rw [hg]; rfl
        simpa using this
      rw [hbel.cell (p := ⟨g, j, none⟩) hlt, h.cellAt j (by omega)]
      exact hj
    have HLn : Hid ((upN f n).length = n * 1) := by show _ = _; rw [upN_len, Nat.mul_one]
    have HO := hid (upN_one f n)
    clear h ht hg hcs
    generalize upN f n = R at *
    go_enter Tryd.func21, Tryd.ntmps21
    go_wp2_with (at_builtin; refine wpList_append_own _ rfl _ _ 22 rfl w.heap.size 3 i0 (.int .i64 0) 1 8 Tryd.underlying22 hi hz0 hz1 hz2 rfl (by decide) _ 0 [] rfl hown ⟨g, 0, none⟩ n cap R rfl HLn.out HN.out HO.out (by unfold maxLen; omega) (by omega) (by simp) ?_)
    intro v' w1 hown' hgrow _
    have hb2 : Below w.heap.size w w1 := hbel.grown hgrow (by simp) (fun k hk => by simp [Value.ownBlock] at hk; omega)
    go_wp2_with fail
    go_ret
    exact ⟨_, rfl, by simpa using hown', hb2⟩

/-- An append of one value where there is room. -/
theorem wpList_append_room1 {P : Program} (w : World) {ops : Array Oper} {rest : List Oper} {o : Oper} {a : Act} {Q : Exit → Act → World → Prop}
    (hg : o.guard = none) (s x : Operand) (t : TypeId) (hop : o.op = Op.call { callee := Callee.builtin Builtin.append, args := #[s, x], argTypes := #[t, t] })
    (e : TypeId) (i : TypeInfo) (h1 : P.underlying t = some (.slice e)) (h2 : P.info? e = some i) (h4 : i.size = 1)
    (b n cap : Nat) (hs : a.eval s = .slice (some ⟨b, 0, none⟩) n cap)
    (ad : Addr) (c : Nat) (v : Value) (hx : a.eval x = .slice (some ad) 1 c) (hc : ∀ j u, [v][j]? = some u → w.cell? (ad.add j) = some u) (h1c : v.oneCell' = true)
    (hr : n + 1 ≤ cap) (hspare : (w.cell? ⟨b, n, none⟩).isSome = true ∧ w.frozen? ⟨b, n, none⟩ = false)
    (hroom : wpList P ops Q rest (a.put o.dst (.slice (some ⟨b, 0, none⟩) (n + 1) cap)) (w.setCell ⟨b, n, none⟩ v)) :
    wpList P ops Q (o :: rest) a w := by
  refine wpList_plain hg fun K hK' => ?_
  have hrun := run_append_room_cells (P := P) w t o.type e i h1 h2 b 0 n cap ad 1 c [v] (by simp [h4]) hc (by simpa using h1c) hr (fun j hj => by
    obtain rfl : j = 0 := by simpa using hj
    simpa [h4] using hspare.1) (fun j hj => by
    obtain rfl : j = 0 := by simpa using hj
    simpa [h4] using hspare.2)
  unfold Oper.wp
  simp [execOp, hop, resolve, invoke, builtin, hs, hx, hrun, Result.andThen]
  have e2 : w.setCells b (0 + n * i.size) [v] = w.setCell ⟨b, n, none⟩ v := by rw [h4, Nat.zero_add, Nat.mul_one]; rfl
  rw [Nat.zero_add] at e2
  rw [e2]
  exact hK' _ _ hroom

theorem RdI.set {w : World} {a : Option Addr} {n : Nat} {Z : Nat → Int} (h : RdI w a n Z) (p : Addr) (v : Value) (hne : ∀ g, a = some ⟨g, 0, none⟩ → g ≠ p.block) : RdI (w.setCell p v) a n Z := by
  rcases h with h | ⟨g, ha, hc⟩
  · exact .inl h
  · refine .inr ⟨g, ha, fun j hj => ?_⟩
    have e := hc j hj
    have hg := hne g ha
    have hh : (w.setCell p v).heap[g]? = w.heap[g]? := heap_setCell_other w p g v hg
    unfold World.cell? at e ⊢
    simp only [hh]
    exact e
/-- What must stay while a list is written over. -/
def CiK (m go n : Nat) (a1 ay : Option Addr) (c1 cy : Nat) (Z : Nat → Int) (W : World) : Prop := FBox W m 22 #[.slice a1 n c1] ∧ FBox W go 22 #[.slice ay n cy] ∧ RdI W a1 n Z ∧ RdI W ay n Z
theorem CiK.set {m go n : Nat} {a1 ay : Option Addr} {c1 cy : Nat} {Z : Nat → Int} {W : World} (h : CiK m go n a1 ay c1 cy Z W) (g j : Nat) (v : Value) (hg : m ≠ g ∧ go ≠ g ∧ (∀ b, a1 = some ⟨b, 0, none⟩ → b ≠ g) ∧ (∀ b, ay = some ⟨b, 0, none⟩ → b ≠ g)) : CiK m go n a1 ay c1 cy Z (W.setCell ⟨g, j, none⟩ v) :=
  ⟨h.1.other _ _ hg.1, h.2.1.other _ _ hg.2.1, h.2.2.1.set _ _ hg.2.2.1, h.2.2.2.set _ _ hg.2.2.2⟩
theorem CiK.later {m go n : Nat} {a1 ay : Option Addr} {c1 cy : Nat} {Z : Nat → Int} {W W' : World} (h : CiK m go n a1 ay c1 cy Z W) (hb : Below W.heap.size W W') : CiK m go n a1 ay c1 cy Z W' :=
  ⟨h.1.later hb h.1.lt, h.2.1.later hb h.2.1.lt, h.2.2.1.later hb, h.2.2.2.later hb⟩
/-- A list that a call may write over. -/
def Spare (w : World) (base n : Nat) (v : Value) (g cap : Nat) (cur : Array Value) : Prop := v = .slice (some ⟨g, 0, none⟩) n cap ∧ base ≤ g ∧ FBox w g 3 cur ∧ n ≤ cap ∧ cur.size = cap ∧ ∀ j, j < n → ∃ z : Int, cur[j]? = some (.int .i64 z)

set_option maxHeartbeats 1600000 in
set_option maxRecDepth 100000 in
theorem ciapart_any (base b2' f n go : Nat) (vx vy : Value) (w : World) (hn : n ≤ 1048577) (hbs : base ≤ w.heap.size)
    (hx : (vx = .slice none 0 0 ∧ n = 0) ∨ ∃ g cap cur, Spare w base n vx g cap cur ∧ vy.ownBlock ≠ some g ∧ go ≠ g)
    (hy : w.ownsRow b2' 3 1 vy n (upN f n)) (ho : FBox w go 22 #[vy]) :
    Calls Tryd.prog 10 #[vx, .slice (some ⟨go, 0, none⟩) 1 1] w fun e w' => e = .returned (.bool true) ∧ Below base w w' := by
  have hmk : ∀ V : World, (Instr.makeSlice 29 (.int .i64 1) (.int .i64 1)).run Tryd.prog V = .ok (.slice (some ⟨V.heap.size, 0, none⟩) 1 1) (V.alloc (.cells #[.slice none 0 0] 22)) := fun V => by kernel_rfl
  obtain ⟨i0, hi, hz0, hz1, hz2⟩ := info_parts Tryd.infoN
  obtain ⟨ay, cy, hvy, hry⟩ := RdI.own hy
  have HX := hid hx
  have HY := hid hy
  have HO := hid ho
  have HM : Hid (FBox (w.alloc (.cells #[.slice none 0 0] 22)) w.heap.size 22 #[.slice none 0 0]) := FBox.made _ _ _
  have HB : Hid (Below w.heap.size w (w.alloc (.cells #[.slice none 0 0] 22))) := (Below.refl _ _).alloc (Nat.le_refl _) _
  obtain ⟨ax, nx, cx, hvx⟩ : ∃ ax nx cx, vx = .slice ax nx cx := by
    rcases hx with ⟨rfl, _⟩ | ⟨g, cap, cur, ⟨rfl, _⟩, _⟩
    · exact ⟨_, _, _, rfl⟩
    · exact ⟨_, _, _, rfl⟩
  clear hx hy ho
  subst hvx
  subst hvy
  go_enter Tryd.func10, Tryd.ntmps10
  go_wp2_with fail
  generalize w.alloc (.cells #[.slice none 0 0] 22) = V at *
  refine wp_loop_rounds 2 ?_
  rw [rounds_succ]
  have k0 : V.cell? ⟨go, 0, none⟩ = some (.slice ay n cy) := (HO.out.later HB.out HO.out.lt).cell 0
  go_wp2_with fail
  clear k0
  refine Calls.mono (cicopy_any b2' f n _ V (owns_later HY.out HB.out) hn) ?_
  rintro e w1 ⟨v', rfl, ho1, hb1⟩
  have HLY : Hid (∀ g, ay = some ⟨g, 0, none⟩ → g < w.heap.size) := fun g hg => by
    subst hg
    exact (HY.out.lt g rfl).2
  have HLT : Hid (∀ g, v'.ownBlock = some g → V.heap.size ≤ g) := fun g hg => (ho1.lt g hg).1
  obtain ⟨a1, c1, rfl, hr1⟩ := RdI.own ho1
  have HM1 := hid (HM.out.later hb1 HM.out.lt)
  have m0 : w1.cell? ⟨w.heap.size, 0, none⟩ = some (.slice none 0 0) := HM1.out.cell 0
  have m1 := HM1.out.free 0
  have hVw : w.heap.size < V.heap.size := HM.out.lt
  have HB1 := hid (b2 HB.out hb1)
  have HR1 := hid hr1
  have HRY := hid (hry.later HB1.out)
  have HO1 := hid (HO.out.later HB1.out HO.out.lt)
  have hgo : go < w.heap.size := HO.out.lt
  clear ho1 hr1 hry hb1 HM HY HO
  go_wp2_with fail
  have HK : Hid (CiK w.heap.size go n a1 ay c1 cy (fun j => ((f + j : Nat) : Int)) (w1.setCell ⟨w.heap.size, 0, none⟩ (.slice a1 n c1))) := ⟨HM1.out.set 0 _, HO1.out.other _ _ (by simp; omega), RdI.set HR1.out _ _ (fun g hg => by
    subst hg
    have := HLT.out g rfl
    show g ≠ w.heap.size
    omega), RdI.set HRY.out _ _ (fun g hg => by
    have := HLY.out g hg
    show g ≠ w.heap.size
    omega)⟩
  have HB2 : Hid (Below w.heap.size w (w1.setCell ⟨w.heap.size, 0, none⟩ (.slice a1 n c1))) := HB1.out.setCell (p := ⟨w.heap.size, 0, none⟩) (Nat.le_refl _) _
  generalize w1.setCell ⟨w.heap.size, 0, none⟩ (.slice a1 n c1) = W2 at *
  clear HM1 HO1 HR1 HRY HB1 m0 m1
  rw [rounds_succ]
  go_wp2_with fail
  rcases HX.out with ⟨e, hn0⟩ | ⟨g, cap, cur, ⟨e, hg0, hgf, hnc, hcs, hcz⟩, hgy, hgo2⟩
  · simp only [Value.slice.injEq] at e
    obtain ⟨rfl, rfl, rfl⟩ := e
    clear hn0
    refine wp_loop_rounds 1 ?_
    rw [rounds_succ]
    go_wp2_with fail
    refine wp_loop_rounds 1 ?_
    rw [rounds_succ]
    go_wp2_with fail
    refine wp_loop_rounds 2 ?_
    rw [rounds_succ]
    have k0 : W2.cell? ⟨go, 0, none⟩ = some (.slice ay n cy) := HK.out.2.1.cell 0
    have k1 : W2.cell? ⟨w.heap.size, 0, none⟩ = some (.slice a1 n c1) := HK.out.1.cell 0
    have hs0 := And.intro k0 k1
    have HSM : Hid (∀ ww, Below W2.heap.size W2 ww → Calls Tryd.prog 9 #[.slice ay n cy, .slice a1 n c1] ww fun e w' => e = .returned (.bool true) ∧ (w'.cell? ⟨go, 0, none⟩ = some (.slice ay n cy) ∧ w'.cell? ⟨w.heap.size, 0, none⟩ = some (.slice a1 n c1)) ∧ Below W2.heap.size W2 w') := fun ww hv => by
      have K := HK.out.later hv
      refine Calls.mono (cksame_any ay a1 n cy c1 _ ww hn K.2.2.2 K.2.2.1) ?_
      rintro e w' ⟨rfl, hb⟩
      exact ⟨rfl, ⟨(K.2.1.later hb K.2.1.lt).cell 0, (K.1.later hb K.1.lt).cell 0⟩, b2 hv hb⟩
    have hb0 : Below W2.heap.size W2 W2.drew := (Below.refl _ _).drew
    go_wp2_with fail
    go_region_held3 (fun V : World => V.cell? ⟨go, 0, none⟩ = some (.slice ay n cy) ∧ V.cell? ⟨w.heap.size, 0, none⟩ = some (.slice a1 n c1)) (first | exact hs1 | exact hs0) (first | (go_at_call 9; with_reducible refine Calls.mono (HSM.out _ hb0) ?_; rintro e w5 ⟨rfl, hs1, hb5⟩))
    go_wp2_with fail
    rw [rounds_succ]
    go_wp2_with fail
    go_ret
    exact ⟨rfl, (HB2.out.mono hbs).trans (hb5.mono (Nat.le_trans hbs HB2.out.size))⟩
  · simp only [Value.slice.injEq] at e
    obtain ⟨e1, e2, e3⟩ := e
    subst e1
    subst nx
    subst e3
    have hgw : g < w.heap.size := hgf.lt
    have HG : Hid (w.heap.size ≠ g ∧ go ≠ g ∧ (∀ b, a1 = some ⟨b, 0, none⟩ → b ≠ g) ∧ (∀ b, ay = some ⟨b, 0, none⟩ → b ≠ g)) := ⟨by omega, hgo2, fun b hb => by
      subst hb
      have := HLT.out b rfl
      omega, fun b hb => by
      subst hb
      intro e
      subst e
      exact hgy rfl⟩
    have HF0 := hid (hgf.later HB2.out hgw)
    have HB3 := hid (HB2.out.mono hbs)
    clear HX HLT HLY hgy hgo2 hgf
    have HS : Hid (∃ cr : Array Value, FBox W2 g 3 cr ∧ cr.size = cx ∧ ∀ j, j < n → ∃ z : Int, cr[j]? = some (.int .i64 z)) := ⟨cur, HF0.out, hcs, hcz⟩
    clear HF0 hcs hcz HB2
    go_loopw [7] (fun t wr => ∃ k : Nat, k ≤ n ∧ t = .int .i64 (k : Int) ∧ Hid (CiK w.heap.size go n a1 ay c1 cy (fun j => ((f + j : Nat) : Int)) wr) ∧ Hid (Below base w wr) ∧ Hid (∃ cr : Array Value, FBox wr g 3 cr ∧ cr.size = cx ∧ ∀ j, j < n → ∃ z : Int, cr[j]? = some (.int .i64 z))) (fun t _ => n - (intOf t).toNat)
    case atStart => exact ⟨0, Nat.zero_le _, rfl, HK, HB3, HS⟩
    case round =>
      clear HK HB3 HS
      obtain ⟨k, hk, rfl, HK, HB3, HS⟩ := hrel
      by_cases hlt : k < n
      · obtain ⟨cr, hf, hsz, hz⟩ := HS.out
        obtain ⟨z, hz1'⟩ := hz k hlt
        have c0 : wr.cell? ⟨g, k, none⟩ = some (.int .i64 z) := (hf.cell k).trans hz1'
        have f0 := hf.free k
        have HF := hid hf
        have HZ := hid hz
        clear hf hz HS
        go_wp2_with fail
        go_roundw
        case rel =>
          refine ⟨k + 1, by omega, by go_num, HK.out.set g k _ HG.out, HB3.out.setCell (p := ⟨g, k, none⟩) hg0 _, _, HF.out.set k _, by simpa using hsz, fun j hj => ?_⟩
          by_cases e : k = j
          · subst e
            exact ⟨_, by rw [Array.getElem?_setIfInBounds_self_of_lt (by omega)]⟩
          · rw [Array.getElem?_setIfInBounds_ne e]
            exact HZ.out j hj
        case measure => simp [intOf]; omega
      · obtain rfl : k = n := by omega
        go_wp2_with fail
        go_loopw [0, 8] (fun v t wq => ∃ i m : Nat, m ≤ cx ∧ m ≤ k + i ∧ t = .int .i64 (i : Int) ∧ i ≤ 3 ∧ v = .slice (some ⟨g, 0, none⟩) m cx ∧ Hid (CiK w.heap.size go k a1 ay c1 cy (fun j => ((f + j : Nat) : Int)) wq) ∧ Hid (Below base w wq) ∧ Hid (∃ cr : Array Value, FBox wq g 3 cr ∧ cr.size = cx)) (fun _ t _ => 3 - (intOf t).toNat)
        case atStart => exact ⟨0, k, hnc, Nat.le_refl _, rfl, by decide, rfl, HK, HB3, by obtain ⟨cr, h1, h2, _⟩ := HS.out; exact ⟨cr, h1, h2⟩⟩
        case round =>
          clear HK HB3 HS
          obtain ⟨i, m, hm, hmi, rfl, hi3, rfl, HK, HB3, HS⟩ := hrel
          by_cases h3 : i < 3
          · by_cases hr : m < cx
            · obtain ⟨cr, hf, hsz⟩ := HS.out
              have hVB : Below wr.heap.size wr (wr.alloc (.cells #[.int .i64 55] 3)) := (Below.refl _ _).alloc (Nat.le_refl _) _
              have hf2 := hf.later hVB hf.lt
              have HSP : Hid (((wr.alloc (.cells #[.int .i64 55] 3)).cell? ⟨g, m, none⟩).isSome = true ∧ (wr.alloc (.cells #[.int .i64 55] 3)).frozen? ⟨g, m, none⟩ = false) := ⟨by rw [hf2.cell m, Array.getElem?_eq_getElem (by omega)]; rfl, hf2.free m⟩
              have HF := hid hf2
              have HK2 := hid (HK.out.later hVB)
              have HB4 := hid (HB3.out.alloc (Nat.le_trans hbs HB3.out.size) (.cells #[.int .i64 55] 3))
              clear hf hf2 hVB HS HK
              go_wp2_with (at_builtin; refine wpList_append_room1 _ rfl _ _ 22 rfl 3 i0 Tryd.underlying22 hi hz1 g m cx rfl ⟨wr.heap.size, 0, none⟩ 1 (.int .i64 55) rfl (cell_one_new _ _ _) rfl (by omega) HSP.out ?_)
              go_roundw
              case rel =>
                exact ⟨i + 1, m + 1, by omega, by omega, by go_num, by omega, rfl, HK2.out.set g m _ HG.out, HB4.out.setCell (p := ⟨g, m, none⟩) hg0 _, _, HF.out.set m _, by simpa using hsz⟩
              case measure => simp [intOf]; omega
            · go_wp2_with fail
              refine wp_loop_rounds 2 ?_
              rw [rounds_succ]
              have k0 : wr.cell? ⟨go, 0, none⟩ = some (.slice ay k cy) := HK.out.2.1.cell 0
              have k1 : wr.cell? ⟨w.heap.size, 0, none⟩ = some (.slice a1 k c1) := HK.out.1.cell 0
              have hs0 := And.intro k0 k1
              have HSM : Hid (∀ ww, Below wr.heap.size wr ww → Calls Tryd.prog 9 #[.slice ay k cy, .slice a1 k c1] ww fun e w' => e = .returned (.bool true) ∧ (w'.cell? ⟨go, 0, none⟩ = some (.slice ay k cy) ∧ w'.cell? ⟨w.heap.size, 0, none⟩ = some (.slice a1 k c1)) ∧ Below wr.heap.size wr w') := fun ww hv => by
                have K := HK.out.later hv
                refine Calls.mono (cksame_any ay a1 k cy c1 _ ww hn K.2.2.2 K.2.2.1) ?_
                rintro e w' ⟨rfl, hb⟩
                exact ⟨rfl, ⟨(K.2.1.later hb K.2.1.lt).cell 0, (K.1.later hb K.1.lt).cell 0⟩, b2 hv hb⟩
              have hb0 : Below wr.heap.size wr wr.drew := (Below.refl _ _).drew
              go_wp2_with fail
              go_region_held3 (fun V : World => V.cell? ⟨go, 0, none⟩ = some (.slice ay k cy) ∧ V.cell? ⟨w.heap.size, 0, none⟩ = some (.slice a1 k c1)) (first | exact hs1 | exact hs0) (first | (go_at_call 9; with_reducible refine Calls.mono (HSM.out _ hb0) ?_; rintro e w5 ⟨rfl, hs1, hb5⟩))
              go_wp2_with fail
              rw [rounds_succ]
              go_wp2_with fail
              go_ret
              exact ⟨rfl, HB3.out.trans (hb5.mono (Nat.le_trans hbs HB3.out.size))⟩
          · go_wp2_with fail
            refine wp_loop_rounds 2 ?_
            rw [rounds_succ]
            have k0 : wr.cell? ⟨go, 0, none⟩ = some (.slice ay k cy) := HK.out.2.1.cell 0
            have k1 : wr.cell? ⟨w.heap.size, 0, none⟩ = some (.slice a1 k c1) := HK.out.1.cell 0
            have hs0 := And.intro k0 k1
            have HSM : Hid (∀ ww, Below wr.heap.size wr ww → Calls Tryd.prog 9 #[.slice ay k cy, .slice a1 k c1] ww fun e w' => e = .returned (.bool true) ∧ (w'.cell? ⟨go, 0, none⟩ = some (.slice ay k cy) ∧ w'.cell? ⟨w.heap.size, 0, none⟩ = some (.slice a1 k c1)) ∧ Below wr.heap.size wr w') := fun ww hv => by
              have K := HK.out.later hv
              refine Calls.mono (cksame_any ay a1 k cy c1 _ ww hn K.2.2.2 K.2.2.1) ?_
              rintro e w' ⟨rfl, hb⟩
              exact ⟨rfl, ⟨(K.2.1.later hb K.2.1.lt).cell 0, (K.1.later hb K.1.lt).cell 0⟩, b2 hv hb⟩
            have hb0 : Below wr.heap.size wr wr.drew := (Below.refl _ _).drew
            go_wp2_with fail
            go_region_held3 (fun V : World => V.cell? ⟨go, 0, none⟩ = some (.slice ay k cy) ∧ V.cell? ⟨w.heap.size, 0, none⟩ = some (.slice a1 k c1)) (first | exact hs1 | exact hs0) (first | (go_at_call 9; with_reducible refine Calls.mono (HSM.out _ hb0) ?_; rintro e w5 ⟨rfl, hs1, hb5⟩))
            go_wp2_with fail
            rw [rounds_succ]
            go_wp2_with fail
            go_ret
            exact ⟨rfl, HB3.out.trans (hb5.mono (Nat.le_trans hbs HB3.out.size))⟩
end Go.Proofs.YtfapekhmdhkioaaDoor

/- The law ClockSpans answers true, and writes nothing that was there: of every three numbers. -/
namespace Go.Proofs.YtfapekhmdhkioaaDoor
open Go.RowKit Go.Shelf
set_option linter.unusedVariables false
set_option linter.unusedSimpArgs false
attribute [local go_sem] Oper.semAt_some

theorem cbox2u (w : World) (t t' : Nat) (u v : Array Value) : FBox ((w.alloc (.cells u t)).alloc (.cells v t')) w.heap.size t u ∧ FBox ((w.alloc (.cells u t)).alloc (.cells v t')) (w.heap.size + 1) t' v ∧ Below w.heap.size w ((w.alloc (.cells u t)).alloc (.cells v t')) := by
  have a : FBox (w.alloc (.cells u t)) w.heap.size t u ∧ Below w.heap.size w (w.alloc (.cells u t)) := ⟨FBox.made _ _ _, (Below.refl _ _).alloc (Nat.le_refl _) _⟩
  have b : FBox ((w.alloc (.cells u t)).alloc (.cells v t')) (w.alloc (.cells u t)).heap.size t' v ∧ Below (w.alloc (.cells u t)).heap.size (w.alloc (.cells u t)) ((w.alloc (.cells u t)).alloc (.cells v t')) := ⟨FBox.made _ _ _, (Below.refl _ _).alloc (Nat.le_refl _) _⟩
  have es : (w.alloc (.cells u t)).heap.size = w.heap.size + 1 := World.size_alloc _ _
  exact ⟨a.1.later b.2 a.1.lt, es ▸ b.1, b2 a.2 b.2⟩
theorem cboxN (w : World) (t : Nat) (u : Array Value) : FBox (w.alloc (.cells u t)) w.heap.size t u ∧ Below w.heap.size w (w.alloc (.cells u t)) :=
  ⟨FBox.made _ _ _, (Below.refl _ _).alloc (Nat.le_refl _) _⟩

/-- What is known of the world while the law goes over ticks. -/
structure SpK (w V : World) (stop a : Int) (m : Nat) (g : Option Addr) (cap ws pa pb : Nat) : Prop where
  st : FBox V w.heap.size 3 #[.int .i64 stop]
  rs : FBox V (w.heap.size + 1) 4 #[.bool false]
  wt : FBox V ws 22 #[.slice g m cap]
  rd : RdI V g m (fun j => a + (j : Int))
  pA : FBox V pa 3 #[.int .i64 a]
  pB : FBox V pb 3 #[.int .i64 (a + (m : Int))]
  bl : Below w.heap.size w V
theorem SpK.later {w V V' : World} {stop a : Int} {m : Nat} {g : Option Addr} {cap ws pa pb : Nat} (h : SpK w V stop a m g cap ws pa pb) (hb : Below V.heap.size V V') : SpK w V' stop a m g cap ws pa pb :=
  ⟨h.st.later hb h.st.lt, h.rs.later hb h.rs.lt, h.wt.later hb h.wt.lt, h.rd.later hb, h.pA.later hb h.pA.lt, h.pB.later hb h.pB.lt, b2 h.bl hb⟩
theorem defer_later {V V' : World} {D : Nat} (h : V.heap[D]? = some (.deferred (some []))) (hb : Below V.heap.size V V') : V'.heap[D]? = some (.deferred (some [])) :=
  (hb.block D (Array.getElem?_eq_some_iff.1 h).1).trans h

/-- A range over the ticks: the law of the kit, at the slots of this function. -/
theorem ckrange {g : Operand} {assign body : Code} {Q : Exit → Act → World → Prop} {a : Act} {w : World} {gf : Nat} {lb : Array Value}
    (hg : a.eval g = .func (.func gf) #[] lb) (eg : ∀ args w, (callFunc gf args).run Tryd.prog w = .ok (.enter gf args) w)
    {S Sp : List Int → Prop} {N n₀ : Nat} (hseq : SeqStopsK Fence.wide 2 Tryd.prog gf lb (fun x : Int => #[.int .i64 x]) (Below n₀) S Sp N w) (hn₀ : n₀ ≤ w.heap.size)
    (I : List Int → World → Prop) (Ix : Code → List Int → World → Prop) (hI : OwnFrom w.heap.size I) (hIx : ∀ c, OwnFrom w.heap.size (Ix c)) (h0 : I [] w)
    (hassign : ∀ (l : Nat) (x : Int) (W : World) (K : Act → World → Prop), K { tmps := (a.tmps.setIfInBounds 28 (.int .i64 x)).setIfInBounds 11 (.int .i64 x), defers := [] } W →
      assign.wpIn (Fence.wide.inRound l) 1 Tryd.prog (Exit.then K (fun _ _ _ => False)) { tmps := a.tmps.setIfInBounds 28 (.int .i64 x), defers := [] } W)
    (hbody : ∀ (l : Nat) (pre : List Int) (x : Int) (W : World), I pre W → pre.length < N → body.wpIn (Fence.wide.inRound l) 1 Tryd.prog (ownPostK (Below n₀) I Ix (pre ++ [x]) W) { tmps := (a.tmps.setIfInBounds 28 (.int .i64 x)).setIfInBounds 11 (.int .i64 x), defers := [] } W)
    (hdone : ∀ (D : Nat) (xs : List Int) (W : World), w.heap.size ≤ D → S xs → I xs W → W.heap[D]? = some (.deferred (some [])) → Q .normal { a with defers := { target := .collected D, args := #[] } :: a.defers } W)
    (hstop : ∀ (D : Nat) (c : Code) (pre : List Int) (W : World), w.heap.size ≤ D → Sp pre → Ix c pre W → W.heap[D]? = some (.deferred (some [])) → c.wpIn Fence.wide 3 Tryd.prog Q { a with defers := { target := .collected D, args := #[] } :: a.defers } W) :
    (Code.rangeFunc g #[28] assign body).wpIn Fence.wide 3 Tryd.prog Q a w :=
  wpIn_rangeFunc_ownF rfl (by decide) hg trivial eg hseq belowK_t (belowK_b hn₀) (Below.refl _ _) (fun _ => rfl) I Ix hI hIx h0
    (fun x => { tmps := (a.tmps.setIfInBounds 28 (.int .i64 x)).setIfInBounds 11 (.int .i64 x), defers := [] })
    (fun l x W K hK => by
      have e := hassign l x W K hK
      simpa using e) hbody hdone hstop

set_option maxHeartbeats 6400000 in
set_option maxRecDepth 100000 in
theorem clockSpans_in (a b stop : Int) (m f n : Nat) (w : World) (ha : I64 a) (hb : I64 b) (hst : I64 stop) (hm : m ≤ 4096) (hn : n ≤ 1048577) (hE : tkE a b = a + (m : Int)) (hE2 : a + (m : Int) ≤ 9223372036854775807) (htab : TabC w) (herr : ErrT w)
    (HT : Hid (∀ V, Calls Tryd.prog 5 #[.int .i64 a, .int .i64 b] V fun e w' => ∃ g cap, e = .returned (.slice g m cap) ∧ RdI w' g m (fun j => a + (j : Int)) ∧ Below V.heap.size V w'))
    (HY : Hid (∀ V, Calls Tryd.prog 7 #[.int .i64 a, .int .i64 b] V fun e w' => ∃ v, e = .returned v ∧ w'.ownsRow V.heap.size 3 1 v n (upN f n) ∧ Below V.heap.size V w'))
    (HZ : Hid (∀ V, Calls Tryd.prog 8 #[.int .i64 a, .int .i64 b] V fun e w' => ∃ v, e = .returned v ∧ w'.ownsRow V.heap.size 3 1 v n (upN f n) ∧ Below V.heap.size V w')) :
    Calls Tryd.prog 3 #[.int .i64 a, .int .i64 b, .int .i64 stop] w fun e w' => e = .returned (.bool true) ∧ Below w.heap.size w w' := by
  have HQ := hid (fun V => ckticks_any a b V ha hb)
  rw [hE] at HQ
  have HAW : Hid (∀ V, Below w.heap.size w V → Calls Tryd.prog 11 #[] V fun e w' => e = .returned (.bool true) ∧ Below V.heap.size V w') := fun V hv => ckawake_any V (htab.later hv) (herr.later hv)
  obtain ⟨s0, s1⟩ := hst
  have HI := hid (And.intro ha hE2)
  clear htab herr hE ha hb hE2
  refine (callsIn_wide (n := 3)).1 ?_
  refine callsIn_of_wp_marks Tryd.func3 rfl trivial ?_ rfl
  simp only [Tryd.ntmps3, List.size_toArray, List.length_cons, List.length_nil, Nat.reduceAdd, Nat.reduceSub, Array.replicate_succ, Array.replicate_zero, List.push_toArray, List.append_toArray, List.nil_append, List.cons_append]
  gi_wp2
  have HX := hid (cbox2u w 3 4 #[.int .i64 stop] #[.bool false])
  generalize (w.alloc (.cells #[.int .i64 stop] 3)).alloc (.cells #[.bool false] 4) = V0 at *
  refine ⟨trivial, ?_⟩
  refine (callsIn_wide.2 (HT.out _)).mono ?_
  rintro e w1 ⟨g, cap, rfl, hr, hb1⟩
  have HR := hid hr
  have HS := hid (HX.out.1.later hb1 HX.out.1.lt)
  have HRS := hid (HX.out.2.1.later hb1 HX.out.2.1.lt)
  have HB := hid (b2 HX.out.2.2 hb1)
  clear hr hb1 HX
  gi_wp2
  have HN := hid (cboxN w1 22 #[.slice g m cap])
  generalize w1.alloc (.cells #[.slice g m cap] 22) = V1 at *
  refine ⟨trivial, ?_⟩
  refine (callsIn_wide.2 (HQ.out _)).mono ?_
  rintro e w2 ⟨pa, pb, rfl, hpa, hpb, fa, fb, hb2⟩
  have HK : Hid (SpK w w2 stop a m g cap w1.heap.size pa pb) := ⟨HS.out.later (b2 HN.out.2 hb2) HS.out.lt, HRS.out.later (b2 HN.out.2 hb2) HRS.out.lt, HN.out.1.later hb2 HN.out.1.lt, HR.out.later (b2 HN.out.2 hb2), fa, fb, b2 HB.out (b2 HN.out.2 hb2)⟩
  clear fa fb hb2 HT HQ hpa hpb HN HR HS HRS HB
  have hnil : (binOp BinOp.eql 25 (.func (.func 20) #[] #[.pointer (some ⟨pa, 0, none⟩), .pointer (some ⟨pb, 0, none⟩)]) .nilFunc).run Tryd.prog w2 = .ok (.bool false) w2 := by first | rfl | kernel_rfl | simp [binOp, go_sem]
  gi_wp2
  have HN := hid (cboxN w2 3 #[.int .i64 0])
  generalize w2.alloc (.cells #[.int .i64 0] 3) = V2 at *
  replace HK := hid (HK.out.later HN.out.2)
  have HRD := hid HN.out.1
  clear HN hnil
  refine wpIn_loop_rounds 3 ?_
  rw [roundsIn_succ]
  have r0 : V2.cell? ⟨w2.heap.size, 0, none⟩ = some (.int .i64 0) := HRD.out.cell 0
  gi_wp2
  clear r0
  have HN0 := hid (cboxN V2 3 #[.int .i64 0])
  generalize V2.alloc (.cells #[.int .i64 0] 3) = Y0 at *
  have HKY := hid (HK.out.later HN0.out.2)
  have hlt0 : V2.heap.size < Y0.heap.size := HN0.out.1.lt
  refine ckrange (n₀ := V2.heap.size) rfl (enters_of Tryd.func20 (by kernel_rfl) rfl) (ckticks1_stops Fence.wide 2 trivial rfl (by decide) pa pb V2.heap.size a m Y0 HI.out.1 HI.out.2 HK.out.pA.lt HK.out.pB.lt (Nat.le_of_lt hlt0) (HKY.out.pA.cell 0) (HKY.out.pB.cell 0)) (Nat.le_of_lt hlt0)
    (fun pre W => (W.cell? ⟨V2.heap.size, 0, none⟩ = some (.int .i64 (pre.length : Int)) ∧ W.frozen? ⟨V2.heap.size, 0, none⟩ = false ∧ pre = upI a pre.length ∧ ¬ (1 ≤ stop ∧ stop ≤ (pre.length : Int))) ∧ Below V2.heap.size Y0 W)
    (fun c pre W => (c = .ret ∧ pre ≠ upI a pre.length) ∨ (c = .exit 2 ∧ W.cell? ⟨V2.heap.size, 0, none⟩ = some (.int .i64 (pre.length : Int)) ∧ stop = (pre.length : Int) ∧ 1 ≤ stop ∧ Below V2.heap.size Y0 W))
    (OwnFrom.and (Own.from (fun s A B row hs hg hr => ⟨cell_kept hs.1 hg hr, (frozen_kept hs.1 hg hr).trans hs.2.1, hs.2.2⟩) _) (ownFrom_below (Nat.le_of_lt hlt0) (Nat.le_of_lt hlt0)))
    ?hIx ⟨⟨HN0.out.1.cell 0, HN0.out.1.free 0, rfl, by simp; omega⟩, Below.refl _ _⟩ ?assign ?body ?done ?stop
  case hIx =>
    intro c s A B row hs hg hr
    rcases hs with h | ⟨h1, h2, h3, h4, h5⟩
    · exact .inl h
    · exact .inr ⟨h1, cell_kept h2 hg (fun r e => (hr r e).2), h3, h4, ownFrom_below (β := Unit) (Nat.le_of_lt hlt0) (Nat.le_of_lt hlt0) () A B row h5 hg hr⟩
  case assign =>
    intro l x W K hK
    gi_wp2
    exact hK
  case body =>
    rintro l pre x W ⟨⟨hc, hf, hp, hns⟩, hB⟩ hlen
    have hVW : Below V2.heap.size V2 W := HN0.out.2.trans hB
    have HKW := hid (HK.out.later hVW)
    have kD : W.cell? ⟨w2.heap.size, 0, none⟩ = some (.int .i64 0) := (HRD.out.later hVW HRD.out.lt).cell 0
    have kS : W.cell? ⟨w.heap.size, 0, none⟩ = some (.int .i64 stop) := HKW.out.st.cell 0
    have kR : W.cell? ⟨w.heap.size + 1, 0, none⟩ = some (.bool false) := HKW.out.rs.cell 0
    have kF := HKW.out.rs.free 0
    have kW : W.cell? ⟨w1.heap.size, 0, none⟩ = some (.slice g m cap) := HKW.out.wt.cell 0
    obtain ⟨L, hL⟩ : ∃ L : Nat, pre.length = L := ⟨_, rfl⟩
    rw [hL] at hc hp hlen hns
    rcases HKW.out.rd with h | ⟨gg, hgg, hcc⟩
    · omega
    subst hgg
    have kC : W.cell? ⟨gg, L, none⟩ = some (.int .i64 (a + (L : Int))) := hcc L hlen
    have HC := hid hc
    have HF := hid hf
    have HBW := hid hB
    have HP := hid hp
    have HLL := hid hL
    have HLN : Hid (((pre ++ [x]).length : Int) = (L : Int) + 1) := by show _ = _; rw [List.length_append, HLL.out]; rfl
    have hlm : (L : Int) < (m : Int) := by omega
    have hlm2 : ¬ (m : Int) ≤ (L : Int) := by omega
    have hlb : (L : Int) ≤ 4096 := by omega
    have hw1 : IntKind.i64.wrap ((L : Int) + 1) = (L : Int) + 1 := by rw [IntKind.wrap_i64]; omega
    have hn1 : w2.heap.size ≠ V2.heap.size := by have := HRD.out.lt; omega
    have hn2 : w.heap.size ≠ V2.heap.size := by have := HK.out.st.lt; omega
    have hn3 : w1.heap.size ≠ V2.heap.size := by have := HK.out.wt.lt; omega
    clear hcc hB hp hL hVW HKW
    by_cases hx : x = a + (L : Int)
    · have HUP : Hid (pre ++ [x] = upI a (pre ++ [x]).length) := by
        show _ = _
        rw [List.length_append, HLL.out]
        show pre ++ [x] = upI a (L + 1)
        rw [upI_succ, ← HP.out, hx]
      have hxe : (x == a + (L : Int)) = true := by simp [hx]
      generalize a + (L : Int) = Z at *
      subst hx
      by_cases hsp : (L : Int) + 1 = stop
      · have hsb : ((L : Int) + 1 == stop) = true := by simp [hsp]
        have HSP := hid hsp
        clear hsp
        gi_wp2
        exact ⟨KeepsOthers.setCell _ _ _, .inr ⟨rfl, by rw [HLN.out]; exact World.cell?_setCell_same' _ _ _ (by rw [HC.out]; rfl), HSP.out.symm.trans HLN.out.symm, by have := HSP.out; omega, HBW.out.setCell (p := ⟨V2.heap.size, 0, none⟩) (Nat.le_refl _) _⟩⟩
      · have hsb : ((L : Int) + 1 == stop) = false := by simp [hsp]
        have HSP := hid hsp
        clear hsp
        gi_wp2
        exact ⟨KeepsOthers.setCell _ _ _, (Below.refl V2.heap.size W).setCell (p := ⟨V2.heap.size, 0, none⟩) (Nat.le_refl _) _, ⟨by rw [HLN.out]; exact World.cell?_setCell_same' _ _ _ (by rw [HC.out]; rfl), by rw [World.frozen?_setCell]; exact HF.out, HUP.out, by rw [HLN.out]; have := HSP.out; omega⟩, HBW.out.setCell (p := ⟨V2.heap.size, 0, none⟩) (Nat.le_refl _) _⟩
    · have hxe : (x == a + (L : Int)) = false := by simp [hx]
      have HUP : Hid (pre ++ [x] ≠ upI a (pre ++ [x]).length) := by
        intro e
        rw [List.length_append, HLL.out] at e
        have e2 : pre ++ [x] = upI a (L + 1) := e
        rw [upI_succ, ← HP.out] at e2
        have e3 := List.append_cancel_left e2
        simp at e3
        exact hx e3
      generalize a + (L : Int) = Z at *
      clear hx
      gi_wp2
      exact ⟨KeepsOthers.setCell _ _ _, .inl ⟨rfl, HUP.out⟩⟩
  case done =>
    rintro D0 xs W0 hD rfl ⟨⟨hc, hf, hp, hns⟩, hB⟩ hKD
    rw [upI_len] at hc hns
    have hVW : Below V2.heap.size V2 W0 := HN0.out.2.trans hB
    have HK0 := HK
    replace HK := hid (HK.out.later hVW)
    replace HRD := hid (HRD.out.later hVW HRD.out.lt)
    have HD0 := hid hKD
    have hDlt0 : Hid (w.heap.size ≤ D0) := by have h1 := HK0.out.st.lt; have h2 := hlt0; show w.heap.size ≤ D0; omega
    have kD : W0.cell? ⟨w2.heap.size, 0, none⟩ = some (.int .i64 0) := HRD.out.cell 0
    have kS : W0.cell? ⟨w.heap.size, 0, none⟩ = some (.int .i64 stop) := HK.out.st.cell 0
    have kW : W0.cell? ⟨w1.heap.size, 0, none⟩ = some (.slice g m cap) := HK.out.wt.cell 0
    clear hVW hB hKD HN0 hD HK0 HKY
    have HMM := hid hm
    have HNN := hid hn
    clear hm hn
    by_cases hp0 : 0 < stop
    · have hms : (m : Int) < stop := by omega
      have hmin : ∀ (ts : Array TypeId) (t : TypeId) (P : Program) (W : World), (Builtin.min_ ts t #[.int .i64 stop, .int .i64 (m : Int)]).run P W = .ok (.int .i64 (m : Int)) W := fun ts t P W => by rw [run_min_int2, if_pos hms]
      clear hns hp hms s0 s1
      gi_wp2
      clear hmin kD kS kW hc hf hp0
      have HNr := hid (cboxN W0 3 #[.int .i64 1])
      generalize W0.alloc (.cells #[.int .i64 1] 3) = V3 at *
      replace HK := hid (HK.out.later HNr.out.2)
      replace HD0 := hid (defer_later HD0.out HNr.out.2)
      replace HRD := hid HNr.out.1
      clear HNr
      rw [roundsIn_succ]
      have r1 : V3.cell? ⟨W0.heap.size, 0, none⟩ = some (.int .i64 1) := HRD.out.cell 0
      gi_wp2
      clear r1
      have hm := HMM.out
      have hn := HNN.out
      clear HMM HNN
      have HN1 := hid (cboxN V3 3 #[.int .i64 0])
      generalize V3.alloc (.cells #[.int .i64 0] 3) = Y1 at *
      have HKY := hid (HK.out.later HN1.out.2)
      have hlt1 : V3.heap.size < Y1.heap.size := HN1.out.1.lt
      refine ckrange (n₀ := V3.heap.size) rfl (enters_of Tryd.func20 (by kernel_rfl) rfl) (ckticks1_stops Fence.wide 2 trivial rfl (by decide) pa pb V3.heap.size a m Y1 HI.out.1 HI.out.2 HK.out.pA.lt HK.out.pB.lt (Nat.le_of_lt hlt1) (HKY.out.pA.cell 0) (HKY.out.pB.cell 0)) (Nat.le_of_lt hlt1)
        (fun pre W => (W.cell? ⟨V3.heap.size, 0, none⟩ = some (.int .i64 (pre.length : Int)) ∧ W.frozen? ⟨V3.heap.size, 0, none⟩ = false ∧ pre = upI a pre.length) ∧ Below V3.heap.size Y1 W)
        (fun c pre W => (c = .ret ∧ pre ≠ upI a pre.length))
        (OwnFrom.and (Own.from (fun s A B row hs hg hr => ⟨cell_kept hs.1 hg hr, (frozen_kept hs.1 hg hr).trans hs.2.1, hs.2.2⟩) _) (ownFrom_below (Nat.le_of_lt hlt1) (Nat.le_of_lt hlt1)))
        ?hIxa ⟨⟨HN1.out.1.cell 0, HN1.out.1.free 0, rfl⟩, Below.refl _ _⟩ ?assigna ?bodya ?donea ?stopa
      case hIxa =>
        intro c s A B row hs hg hr
        exact hs
      case assigna =>
        intro l x W K hK
        gi_wp2
        exact hK
      case bodya =>
        rintro l pre x W ⟨⟨hc, hf, hp⟩, hB⟩ hlen
        have hVW : Below V3.heap.size V3 W := HN1.out.2.trans hB
        have HKW := hid (HK.out.later hVW)
        have kD : W.cell? ⟨W0.heap.size, 0, none⟩ = some (.int .i64 1) := (HRD.out.later hVW HRD.out.lt).cell 0
        have kS : W.cell? ⟨w.heap.size, 0, none⟩ = some (.int .i64 stop) := HKW.out.st.cell 0
        have kR : W.cell? ⟨w.heap.size + 1, 0, none⟩ = some (.bool false) := HKW.out.rs.cell 0
        have kF := HKW.out.rs.free 0
        have kW : W.cell? ⟨w1.heap.size, 0, none⟩ = some (.slice g m cap) := HKW.out.wt.cell 0
        obtain ⟨L, hL⟩ : ∃ L : Nat, pre.length = L := ⟨_, rfl⟩
        rw [hL] at hc hp hlen
        rcases HKW.out.rd with h | ⟨gg, hgg, hcc⟩
        · omega
        subst hgg
        have kC : W.cell? ⟨gg, L, none⟩ = some (.int .i64 (a + (L : Int))) := hcc L hlen
        have HC := hid hc
        have HF := hid hf
        have HBW := hid hB
        have HP := hid hp
        have HLL := hid hL
        have HLN : Hid (((pre ++ [x]).length : Int) = (L : Int) + 1) := by show _ = _; rw [List.length_append, HLL.out]; rfl
        have hlm : (L : Int) < (m : Int) := by omega
        have hlm2 : ¬ (m : Int) ≤ (L : Int) := by omega
        have hlb : (L : Int) ≤ 4096 := by omega
        have hw1 : IntKind.i64.wrap ((L : Int) + 1) = (L : Int) + 1 := by rw [IntKind.wrap_i64]; omega
        have hn1 : W0.heap.size ≠ V3.heap.size := by have := HRD.out.lt; omega
        have hn2 : w.heap.size ≠ V3.heap.size := by have := HK.out.st.lt; omega
        have hn3 : w1.heap.size ≠ V3.heap.size := by have := HK.out.wt.lt; omega
        clear hcc hB hp hL hVW HKW
        by_cases hx : x = a + (L : Int)
        · have HUP : Hid (pre ++ [x] = upI a (pre ++ [x]).length) := by
            show _ = _
            rw [List.length_append, HLL.out]
            show pre ++ [x] = upI a (L + 1)
            rw [upI_succ, ← HP.out, hx]
          have hxe : (x == a + (L : Int)) = true := by simp [hx]
          generalize a + (L : Int) = Z at *
          subst hx
          gi_wp2
          exact ⟨KeepsOthers.setCell _ _ _, (Below.refl V3.heap.size W).setCell (p := ⟨V3.heap.size, 0, none⟩) (Nat.le_refl _) _, ⟨by rw [HLN.out]; exact World.cell?_setCell_same' _ _ _ (by rw [HC.out]; rfl), by rw [World.frozen?_setCell]; exact HF.out, HUP.out⟩, HBW.out.setCell (p := ⟨V3.heap.size, 0, none⟩) (Nat.le_refl _) _⟩
        · have hxe : (x == a + (L : Int)) = false := by simp [hx]
          have HUP : Hid (pre ++ [x] ≠ upI a (pre ++ [x]).length) := by
            intro e
            rw [List.length_append, HLL.out] at e
            have e2 : pre ++ [x] = upI a (L + 1) := e
            rw [upI_succ, ← HP.out] at e2
            have e3 := List.append_cancel_left e2
            simp at e3
            exact hx e3
          generalize a + (L : Int) = Z at *
          clear hx
          gi_wp2
          exact ⟨KeepsOthers.setCell _ _ _, ⟨rfl, HUP.out⟩⟩
      case donea =>
        rintro D1 xs W1 hD rfl ⟨⟨hc, hf, hp⟩, hB⟩ hKD
        rw [upI_len] at hc
        have hVW : Below V3.heap.size V3 W1 := HN1.out.2.trans hB
        have HK0 := HK
        replace HK := hid (HK.out.later hVW)
        replace HRD := hid (HRD.out.later hVW HRD.out.lt)
        have HNE : Hid (D0 < D1) := by have h1 := (Array.getElem?_eq_some_iff.1 HD0.out).1; have h2 := hlt1; show D0 < D1; omega
        replace HD0 := hid (defer_later HD0.out hVW)
        have HD1 := hid hKD
        have hDlt1 : Hid (w.heap.size ≤ D1) := by have h1 := HK0.out.st.lt; have h2 := hlt1; show w.heap.size ≤ D1; omega
        have kD : W1.cell? ⟨W0.heap.size, 0, none⟩ = some (.int .i64 1) := HRD.out.cell 0
        have kS : W1.cell? ⟨w.heap.size, 0, none⟩ = some (.int .i64 stop) := HK.out.st.cell 0
        have kW : W1.cell? ⟨w1.heap.size, 0, none⟩ = some (.slice g m cap) := HK.out.wt.cell 0
        clear hVW hB hKD HN1 hD HK0 HKY
        have HMM := hid hm
        have HNN := hid hn
        clear hm hn
        gi_wp2
        clear kD kS kW hc hf hp
        have HNs := hid (cboxN W1 3 #[.int .i64 2])
        generalize W1.alloc (.cells #[.int .i64 2] 3) = V4 at *
        replace HK := hid (HK.out.later HNs.out.2)
        replace HD0 := hid (defer_later HD0.out HNs.out.2)
        replace HD1 := hid (defer_later HD1.out HNs.out.2)
        have HRT := hid HNs.out.1
        have HK4 := HK
        have HD04 := HD0
        have HD14 := HD1
        clear HNs HRD
        rw [roundsIn_succ]
        have r2 : V4.cell? ⟨W1.heap.size, 0, none⟩ = some (.int .i64 2) := HRT.out.cell 0
        gi_wp2
        clear r2 HRT
        refine ⟨trivial, ?_⟩
        refine (callsIn_wide.2 (HY.out _)).mono ?_
        rintro e x1 ⟨vx, rfl, ox, hb1⟩
        obtain ⟨ax, cx, rfl, rx⟩ := RdI.own ox
        replace HK := hid (HK.out.later hb1)
        replace HD0 := hid (defer_later HD0.out hb1)
        replace HD1 := hid (defer_later HD1.out hb1)
        have HOX := hid ox
        have HB4 := hid hb1
        have HRX := hid rx
        clear ox rx hb1
        gi_wp2
        refine ⟨trivial, ?_⟩
        refine (callsIn_wide.2 (HY.out _)).mono ?_
        rintro e x2 ⟨vy, rfl, oy, hb1⟩
        obtain ⟨ay, cy, rfl, ry⟩ := RdI.own oy
        replace HK := hid (HK.out.later hb1)
        replace HD0 := hid (defer_later HD0.out hb1)
        replace HD1 := hid (defer_later HD1.out hb1)
        have HGX : Hid (∀ b, (Value.slice ax n cx).ownBlock = some b → b < x1.heap.size) := fun b hb => (HOX.out.lt b hb).2
        replace HOX := hid (owns_later HOX.out hb1)
        have HOY := hid oy
        replace HB4 := hid (b2 HB4.out hb1)
        replace HRX := hid (HRX.out.later hb1)
        have HRY := hid ry
        clear oy ry hb1
        gi_wp2
        refine ⟨trivial, ?_⟩
        refine (callsIn_wide.2 (HZ.out _)).mono ?_
        rintro e x3 ⟨vz, rfl, oz, hb1⟩
        obtain ⟨az, cz, rfl, rz⟩ := RdI.own oz
        replace HK := hid (HK.out.later hb1)
        replace HD0 := hid (defer_later HD0.out hb1)
        replace HD1 := hid (defer_later HD1.out hb1)
        replace HOX := hid (owns_later HOX.out hb1)
        replace HOY := hid (owns_later HOY.out hb1)
        replace HB4 := hid (b2 HB4.out hb1)
        replace HRX := hid (HRX.out.later hb1)
        replace HRY := hid (HRY.out.later hb1)
        have HRZ := hid rz
        clear oz rz hb1
        gi_wp2
        refine ⟨trivial, ?_⟩
        refine (callsIn_wide.2 (cksame_any ax az n cx cz _ x3 HNN.out HRX.out HRZ.out)).mono ?_
        rintro e x4 ⟨rfl, hb1⟩
        replace HK := hid (HK.out.later hb1)
        replace HD0 := hid (defer_later HD0.out hb1)
        replace HD1 := hid (defer_later HD1.out hb1)
        replace HOX := hid (owns_later HOX.out hb1)
        replace HOY := hid (owns_later HOY.out hb1)
        replace HB4 := hid (b2 HB4.out hb1)
        replace HRY := hid (HRY.out.later hb1)
        replace HRZ := hid (HRZ.out.later hb1)
        clear hb1 HRX
        gi_wp2
        refine ⟨trivial, ?_⟩
        refine (callsIn_wide.2 (cksame_any ay az n cy cz _ x4 HNN.out HRY.out HRZ.out)).mono ?_
        rintro e x5 ⟨rfl, hb1⟩
        replace HK := hid (HK.out.later hb1)
        replace HD0 := hid (defer_later HD0.out hb1)
        replace HD1 := hid (defer_later HD1.out hb1)
        replace HOX := hid (owns_later HOX.out hb1)
        replace HOY := hid (owns_later HOY.out hb1)
        replace HB4 := hid (b2 HB4.out hb1)
        clear hb1 HRY HRZ
        gi_wp2
        have HNo := hid (cboxN x5 22 #[.slice ay n cy])
        generalize x5.alloc (.cells #[.slice ay n cy] 22) = x6 at *
        replace HK := hid (HK.out.later HNo.out.2)
        replace HD0 := hid (defer_later HD0.out HNo.out.2)
        replace HD1 := hid (defer_later HD1.out HNo.out.2)
        have HX5 : Hid (∀ b, (Value.slice ax n cx).ownBlock = some b → b < x5.heap.size) := fun b hb => (HOX.out.lt b hb).2
        replace HOX := hid (owns_later HOX.out HNo.out.2)
        replace HOY := hid (owns_later HOY.out HNo.out.2)
        replace HB4 := hid (b2 HB4.out HNo.out.2)
        have HSPR : Hid ((Value.slice ax n cx = .slice none 0 0 ∧ n = 0) ∨ ∃ g cap cur, Spare x6 V4.heap.size n (.slice ax n cx) g cap cur ∧ (Value.slice ay n cy).ownBlock ≠ some g ∧ x5.heap.size ≠ g) := by
          rcases HOX.out.2 with h | ⟨g, cap, cur, hv, hbg, hg, hnc, hcm, hcs, ht⟩
          · exact .inl h
          · refine .inr ⟨g, cap, cur, ⟨hv, hbg, hg, hnc, by omega, fun j hj => ?_⟩, fun e => ?_, ?_⟩
            · simp only [Value.slice.injEq] at hv
              obtain ⟨rfl, _, rfl⟩ := hv
              have hc := HOX.out.cellAt j (by omega)
              rw [FBox.cell (t := 3) hg j, upN_at f n j hj] at hc
              exact ⟨_, hc⟩
            · have h1 := (HOY.out.lt g e).1
              have h2 := HGX.out g (by rw [hv]; rfl)
              omega
            · have h2 := HX5.out g (by rw [hv]; rfl)
              omega
        refine ⟨trivial, ?_⟩
        refine (callsIn_wide.2 (ciapart_any V4.heap.size x1.heap.size f n x5.heap.size (.slice ax n cx) (.slice ay n cy) x6 HNN.out HB4.out.size HSPR.out HOY.out HNo.out.1)).mono ?_
        rintro e x7 ⟨rfl, hb1⟩
        have HB5 := hid (HB4.out.trans hb1)
        have HK7 := hid (HK4.out.later HB5.out)
        replace HD0 := hid (defer_later HD04.out HB5.out)
        replace HD1 := hid (defer_later HD14.out HB5.out)
        clear hb1 HOX HOY HSPR HX5 HGX HNo HK HB4
        gi_wp2
        refine ⟨trivial, ?_⟩
        refine (callsIn_wide.2 (HAW.out _ HK7.out.bl)).mono ?_
        rintro e x8 ⟨rfl, hb1⟩
        replace HK7 := hid (HK7.out.later hb1)
        replace HD0 := hid (defer_later HD0.out hb1)
        replace HD1 := hid (defer_later HD1.out hb1)
        have q0 : x8.cell? ⟨w.heap.size + 1, 0, none⟩ = some (.bool false) := HK7.out.rs.cell 0
        have q1 := HK7.out.rs.free 0
        clear hb1
        gi_wp2
        have hk1 := (KeepsOthers.setCell x8 ⟨w.heap.size + 1, 0, none⟩ (.bool true)).same D1 _ HD1.out rfl
        have hk0 := (KeepsOthers.setCell x8 ⟨w.heap.size + 1, 0, none⟩ (.bool true)).same D0 _ HD0.out rfl
        have hc1 := World.cell?_setCell_same' x8 ⟨w.heap.size + 1, 0, none⟩ (.bool true) (by rw [q0]; rfl)
        have hbz := HK7.out.bl.setCell (p := ⟨w.heap.size + 1, 0, none⟩) (Nat.le_succ _) (.bool true)
        refine ⟨by simp, .inl ⟨_, _, rfl, run_takeDeferred hk1, ?_⟩⟩
        have hc2 := cell_kept hc1 (grownBy_putObj' _ D1 (.deferred none)) (fun r e => by cases e; exact ⟨_, hk1, rfl⟩)
        have hk0' := (World.putObj_heap_other (o := .deferred none) (Nat.ne_of_lt HNE.out)).trans hk0
        have hb3 := hbz.trans (belowK_b (w := w) (Nat.le_refl _) _ D1 _ (.deferred none) hDlt1.out hk1 rfl rfl)
        refine ⟨by simp, .inl ⟨_, _, rfl, run_takeDeferred hk0', ?_⟩⟩
        have hc3 := cell_kept hc2 (grownBy_putObj' _ D0 (.deferred none)) (fun r e => by cases e; exact ⟨_, hk0', rfl⟩)
        refine ⟨.bool true, ?_, rfl, hb3.trans (belowK_b (w := w) (Nat.le_refl _) _ D0 _ (.deferred none) hDlt0.out hk0' rfl rfl)⟩
        simp [results, Tryd.results3, go_sem, hc3]
      case stopa =>
        rintro D1 c pre W1 hD hSp hIx hKD
        obtain ⟨k, hk, hpre⟩ := hSp
        exact absurd (by rw [hpre, upI_len]) hIx.2
    · have hp1 : stop ≤ 0 := by omega
      clear hns hp s0 s1
      gi_wp2
      clear kD kS kW hc hf hp0 hp1
      have HNr := hid (cboxN W0 3 #[.int .i64 1])
      generalize W0.alloc (.cells #[.int .i64 1] 3) = V3 at *
      replace HK := hid (HK.out.later HNr.out.2)
      replace HD0 := hid (defer_later HD0.out HNr.out.2)
      replace HRD := hid HNr.out.1
      clear HNr
      rw [roundsIn_succ]
      have r1 : V3.cell? ⟨W0.heap.size, 0, none⟩ = some (.int .i64 1) := HRD.out.cell 0
      gi_wp2
      clear r1
      have hm := HMM.out
      have hn := HNN.out
      clear HMM HNN
      have HN1 := hid (cboxN V3 3 #[.int .i64 0])
      generalize V3.alloc (.cells #[.int .i64 0] 3) = Y1 at *
      have HKY := hid (HK.out.later HN1.out.2)
      have hlt1 : V3.heap.size < Y1.heap.size := HN1.out.1.lt
      refine ckrange (n₀ := V3.heap.size) rfl (enters_of Tryd.func20 (by kernel_rfl) rfl) (ckticks1_stops Fence.wide 2 trivial rfl (by decide) pa pb V3.heap.size a m Y1 HI.out.1 HI.out.2 HK.out.pA.lt HK.out.pB.lt (Nat.le_of_lt hlt1) (HKY.out.pA.cell 0) (HKY.out.pB.cell 0)) (Nat.le_of_lt hlt1)
        (fun pre W => (W.cell? ⟨V3.heap.size, 0, none⟩ = some (.int .i64 (pre.length : Int)) ∧ W.frozen? ⟨V3.heap.size, 0, none⟩ = false ∧ pre = upI a pre.length) ∧ Below V3.heap.size Y1 W)
        (fun c pre W => (c = .ret ∧ pre ≠ upI a pre.length))
        (OwnFrom.and (Own.from (fun s A B row hs hg hr => ⟨cell_kept hs.1 hg hr, (frozen_kept hs.1 hg hr).trans hs.2.1, hs.2.2⟩) _) (ownFrom_below (Nat.le_of_lt hlt1) (Nat.le_of_lt hlt1)))
        ?hIxb ⟨⟨HN1.out.1.cell 0, HN1.out.1.free 0, rfl⟩, Below.refl _ _⟩ ?assignb ?bodyb ?doneb ?stopb
      case hIxb =>
        intro c s A B row hs hg hr
        exact hs
      case assignb =>
        intro l x W K hK
        gi_wp2
        exact hK
      case bodyb =>
        rintro l pre x W ⟨⟨hc, hf, hp⟩, hB⟩ hlen
        have hVW : Below V3.heap.size V3 W := HN1.out.2.trans hB
        have HKW := hid (HK.out.later hVW)
        have kD : W.cell? ⟨W0.heap.size, 0, none⟩ = some (.int .i64 1) := (HRD.out.later hVW HRD.out.lt).cell 0
        have kS : W.cell? ⟨w.heap.size, 0, none⟩ = some (.int .i64 stop) := HKW.out.st.cell 0
        have kR : W.cell? ⟨w.heap.size + 1, 0, none⟩ = some (.bool false) := HKW.out.rs.cell 0
        have kF := HKW.out.rs.free 0
        have kW : W.cell? ⟨w1.heap.size, 0, none⟩ = some (.slice g m cap) := HKW.out.wt.cell 0
        obtain ⟨L, hL⟩ : ∃ L : Nat, pre.length = L := ⟨_, rfl⟩
        rw [hL] at hc hp hlen
        rcases HKW.out.rd with h | ⟨gg, hgg, hcc⟩
        · omega
        subst hgg
        have kC : W.cell? ⟨gg, L, none⟩ = some (.int .i64 (a + (L : Int))) := hcc L hlen
        have HC := hid hc
        have HF := hid hf
        have HBW := hid hB
        have HP := hid hp
        have HLL := hid hL
        have HLN : Hid (((pre ++ [x]).length : Int) = (L : Int) + 1) := by show _ = _; rw [List.length_append, HLL.out]; rfl
        have hlm : (L : Int) < (m : Int) := by omega
        have hlm2 : ¬ (m : Int) ≤ (L : Int) := by omega
        have hlb : (L : Int) ≤ 4096 := by omega
        have hw1 : IntKind.i64.wrap ((L : Int) + 1) = (L : Int) + 1 := by rw [IntKind.wrap_i64]; omega
        have hn1 : W0.heap.size ≠ V3.heap.size := by have := HRD.out.lt; omega
        have hn2 : w.heap.size ≠ V3.heap.size := by have := HK.out.st.lt; omega
        have hn3 : w1.heap.size ≠ V3.heap.size := by have := HK.out.wt.lt; omega
        clear hcc hB hp hL hVW HKW
        by_cases hx : x = a + (L : Int)
        · have HUP : Hid (pre ++ [x] = upI a (pre ++ [x]).length) := by
            show _ = _
            rw [List.length_append, HLL.out]
            show pre ++ [x] = upI a (L + 1)
            rw [upI_succ, ← HP.out, hx]
          have hxe : (x == a + (L : Int)) = true := by simp [hx]
          generalize a + (L : Int) = Z at *
          subst hx
          gi_wp2
          exact ⟨KeepsOthers.setCell _ _ _, (Below.refl V3.heap.size W).setCell (p := ⟨V3.heap.size, 0, none⟩) (Nat.le_refl _) _, ⟨by rw [HLN.out]; exact World.cell?_setCell_same' _ _ _ (by rw [HC.out]; rfl), by rw [World.frozen?_setCell]; exact HF.out, HUP.out⟩, HBW.out.setCell (p := ⟨V3.heap.size, 0, none⟩) (Nat.le_refl _) _⟩
        · have hxe : (x == a + (L : Int)) = false := by simp [hx]
          have HUP : Hid (pre ++ [x] ≠ upI a (pre ++ [x]).length) := by
            intro e
            rw [List.length_append, HLL.out] at e
            have e2 : pre ++ [x] = upI a (L + 1) := e
            rw [upI_succ, ← HP.out] at e2
            have e3 := List.append_cancel_left e2
            simp at e3
            exact hx e3
          generalize a + (L : Int) = Z at *
          clear hx
          gi_wp2
          exact ⟨KeepsOthers.setCell _ _ _, ⟨rfl, HUP.out⟩⟩
      case doneb =>
        rintro D1 xs W1 hD rfl ⟨⟨hc, hf, hp⟩, hB⟩ hKD
        rw [upI_len] at hc
        have hVW : Below V3.heap.size V3 W1 := HN1.out.2.trans hB
        have HK0 := HK
        replace HK := hid (HK.out.later hVW)
        replace HRD := hid (HRD.out.later hVW HRD.out.lt)
        have HNE : Hid (D0 < D1) := by have h1 := (Array.getElem?_eq_some_iff.1 HD0.out).1; have h2 := hlt1; show D0 < D1; omega
        replace HD0 := hid (defer_later HD0.out hVW)
        have HD1 := hid hKD
        have hDlt1 : Hid (w.heap.size ≤ D1) := by have h1 := HK0.out.st.lt; have h2 := hlt1; show w.heap.size ≤ D1; omega
        have kD : W1.cell? ⟨W0.heap.size, 0, none⟩ = some (.int .i64 1) := HRD.out.cell 0
        have kS : W1.cell? ⟨w.heap.size, 0, none⟩ = some (.int .i64 stop) := HK.out.st.cell 0
        have kW : W1.cell? ⟨w1.heap.size, 0, none⟩ = some (.slice g m cap) := HK.out.wt.cell 0
        clear hVW hB hKD HN1 hD HK0 HKY
        have HMM := hid hm
        have HNN := hid hn
        clear hm hn
        gi_wp2
        clear kD kS kW hc hf hp
        have HNs := hid (cboxN W1 3 #[.int .i64 2])
        generalize W1.alloc (.cells #[.int .i64 2] 3) = V4 at *
        replace HK := hid (HK.out.later HNs.out.2)
        replace HD0 := hid (defer_later HD0.out HNs.out.2)
        replace HD1 := hid (defer_later HD1.out HNs.out.2)
        have HRT := hid HNs.out.1
        have HK4 := HK
        have HD04 := HD0
        have HD14 := HD1
        clear HNs HRD
        rw [roundsIn_succ]
        have r2 : V4.cell? ⟨W1.heap.size, 0, none⟩ = some (.int .i64 2) := HRT.out.cell 0
        gi_wp2
        clear r2 HRT
        refine ⟨trivial, ?_⟩
        refine (callsIn_wide.2 (HY.out _)).mono ?_
        rintro e x1 ⟨vx, rfl, ox, hb1⟩
        obtain ⟨ax, cx, rfl, rx⟩ := RdI.own ox
        replace HK := hid (HK.out.later hb1)
        replace HD0 := hid (defer_later HD0.out hb1)
        replace HD1 := hid (defer_later HD1.out hb1)
        have HOX := hid ox
        have HB4 := hid hb1
        have HRX := hid rx
        clear ox rx hb1
        gi_wp2
        refine ⟨trivial, ?_⟩
        refine (callsIn_wide.2 (HY.out _)).mono ?_
        rintro e x2 ⟨vy, rfl, oy, hb1⟩
        obtain ⟨ay, cy, rfl, ry⟩ := RdI.own oy
        replace HK := hid (HK.out.later hb1)
        replace HD0 := hid (defer_later HD0.out hb1)
        replace HD1 := hid (defer_later HD1.out hb1)
        have HGX : Hid (∀ b, (Value.slice ax n cx).ownBlock = some b → b < x1.heap.size) := fun b hb => (HOX.out.lt b hb).2
        replace HOX := hid (owns_later HOX.out hb1)
        have HOY := hid oy
        replace HB4 := hid (b2 HB4.out hb1)
        replace HRX := hid (HRX.out.later hb1)
        have HRY := hid ry
        clear oy ry hb1
        gi_wp2
        refine ⟨trivial, ?_⟩
        refine (callsIn_wide.2 (HZ.out _)).mono ?_
        rintro e x3 ⟨vz, rfl, oz, hb1⟩
        obtain ⟨az, cz, rfl, rz⟩ := RdI.own oz
        replace HK := hid (HK.out.later hb1)
        replace HD0 := hid (defer_later HD0.out hb1)
        replace HD1 := hid (defer_later HD1.out hb1)
        replace HOX := hid (owns_later HOX.out hb1)
        replace HOY := hid (owns_later HOY.out hb1)
        replace HB4 := hid (b2 HB4.out hb1)
        replace HRX := hid (HRX.out.later hb1)
        replace HRY := hid (HRY.out.later hb1)
        have HRZ := hid rz
        clear oz rz hb1
        gi_wp2
        refine ⟨trivial, ?_⟩
        refine (callsIn_wide.2 (cksame_any ax az n cx cz _ x3 HNN.out HRX.out HRZ.out)).mono ?_
        rintro e x4 ⟨rfl, hb1⟩
        replace HK := hid (HK.out.later hb1)
        replace HD0 := hid (defer_later HD0.out hb1)
        replace HD1 := hid (defer_later HD1.out hb1)
        replace HOX := hid (owns_later HOX.out hb1)
        replace HOY := hid (owns_later HOY.out hb1)
        replace HB4 := hid (b2 HB4.out hb1)
        replace HRY := hid (HRY.out.later hb1)
        replace HRZ := hid (HRZ.out.later hb1)
        clear hb1 HRX
        gi_wp2
        refine ⟨trivial, ?_⟩
        refine (callsIn_wide.2 (cksame_any ay az n cy cz _ x4 HNN.out HRY.out HRZ.out)).mono ?_
        rintro e x5 ⟨rfl, hb1⟩
        replace HK := hid (HK.out.later hb1)
        replace HD0 := hid (defer_later HD0.out hb1)
        replace HD1 := hid (defer_later HD1.out hb1)
        replace HOX := hid (owns_later HOX.out hb1)
        replace HOY := hid (owns_later HOY.out hb1)
        replace HB4 := hid (b2 HB4.out hb1)
        clear hb1 HRY HRZ
        gi_wp2
        have HNo := hid (cboxN x5 22 #[.slice ay n cy])
        generalize x5.alloc (.cells #[.slice ay n cy] 22) = x6 at *
        replace HK := hid (HK.out.later HNo.out.2)
        replace HD0 := hid (defer_later HD0.out HNo.out.2)
        replace HD1 := hid (defer_later HD1.out HNo.out.2)
        have HX5 : Hid (∀ b, (Value.slice ax n cx).ownBlock = some b → b < x5.heap.size) := fun b hb => (HOX.out.lt b hb).2
        replace HOX := hid (owns_later HOX.out HNo.out.2)
        replace HOY := hid (owns_later HOY.out HNo.out.2)
        replace HB4 := hid (b2 HB4.out HNo.out.2)
        have HSPR : Hid ((Value.slice ax n cx = .slice none 0 0 ∧ n = 0) ∨ ∃ g cap cur, Spare x6 V4.heap.size n (.slice ax n cx) g cap cur ∧ (Value.slice ay n cy).ownBlock ≠ some g ∧ x5.heap.size ≠ g) := by
          rcases HOX.out.2 with h | ⟨g, cap, cur, hv, hbg, hg, hnc, hcm, hcs, ht⟩
          · exact .inl h
          · refine .inr ⟨g, cap, cur, ⟨hv, hbg, hg, hnc, by omega, fun j hj => ?_⟩, fun e => ?_, ?_⟩
            · simp only [Value.slice.injEq] at hv
              obtain ⟨rfl, _, rfl⟩ := hv
              have hc := HOX.out.cellAt j (by omega)
              rw [FBox.cell (t := 3) hg j, upN_at f n j hj] at hc
              exact ⟨_, hc⟩
            · have h1 := (HOY.out.lt g e).1
              have h2 := HGX.out g (by rw [hv]; rfl)
              omega
            · have h2 := HX5.out g (by rw [hv]; rfl)
              omega
        refine ⟨trivial, ?_⟩
        refine (callsIn_wide.2 (ciapart_any V4.heap.size x1.heap.size f n x5.heap.size (.slice ax n cx) (.slice ay n cy) x6 HNN.out HB4.out.size HSPR.out HOY.out HNo.out.1)).mono ?_
        rintro e x7 ⟨rfl, hb1⟩
        have HB5 := hid (HB4.out.trans hb1)
        have HK7 := hid (HK4.out.later HB5.out)
        replace HD0 := hid (defer_later HD04.out HB5.out)
        replace HD1 := hid (defer_later HD14.out HB5.out)
        clear hb1 HOX HOY HSPR HX5 HGX HNo HK HB4
        gi_wp2
        refine ⟨trivial, ?_⟩
        refine (callsIn_wide.2 (HAW.out _ HK7.out.bl)).mono ?_
        rintro e x8 ⟨rfl, hb1⟩
        replace HK7 := hid (HK7.out.later hb1)
        replace HD0 := hid (defer_later HD0.out hb1)
        replace HD1 := hid (defer_later HD1.out hb1)
        have q0 : x8.cell? ⟨w.heap.size + 1, 0, none⟩ = some (.bool false) := HK7.out.rs.cell 0
        have q1 := HK7.out.rs.free 0
        clear hb1
        gi_wp2
        have hk1 := (KeepsOthers.setCell x8 ⟨w.heap.size + 1, 0, none⟩ (.bool true)).same D1 _ HD1.out rfl
        have hk0 := (KeepsOthers.setCell x8 ⟨w.heap.size + 1, 0, none⟩ (.bool true)).same D0 _ HD0.out rfl
        have hc1 := World.cell?_setCell_same' x8 ⟨w.heap.size + 1, 0, none⟩ (.bool true) (by rw [q0]; rfl)
        have hbz := HK7.out.bl.setCell (p := ⟨w.heap.size + 1, 0, none⟩) (Nat.le_succ _) (.bool true)
        refine ⟨by simp, .inl ⟨_, _, rfl, run_takeDeferred hk1, ?_⟩⟩
        have hc2 := cell_kept hc1 (grownBy_putObj' _ D1 (.deferred none)) (fun r e => by cases e; exact ⟨_, hk1, rfl⟩)
        have hk0' := (World.putObj_heap_other (o := .deferred none) (Nat.ne_of_lt HNE.out)).trans hk0
        have hb3 := hbz.trans (belowK_b (w := w) (Nat.le_refl _) _ D1 _ (.deferred none) hDlt1.out hk1 rfl rfl)
        refine ⟨by simp, .inl ⟨_, _, rfl, run_takeDeferred hk0', ?_⟩⟩
        have hc3 := cell_kept hc2 (grownBy_putObj' _ D0 (.deferred none)) (fun r e => by cases e; exact ⟨_, hk0', rfl⟩)
        refine ⟨.bool true, ?_, rfl, hb3.trans (belowK_b (w := w) (Nat.le_refl _) _ D0 _ (.deferred none) hDlt0.out hk0' rfl rfl)⟩
        simp [results, Tryd.results3, go_sem, hc3]
      case stopb =>
        rintro D1 c pre W1 hD hSp hIx hKD
        obtain ⟨k, hk, hpre⟩ := hSp
        exact absurd (by rw [hpre, upI_len]) hIx.2
  case stop =>
    rintro D0 c pre W0 hD hSp hIx hKD
    obtain ⟨k, hk, hpre⟩ := hSp
    rcases hIx with ⟨rfl, hne⟩ | ⟨rfl, hc, hs1', hs2', hB⟩
    · exact absurd (by rw [hpre, upI_len]) hne
    rw [hpre, upI_len] at hc hs1'
    rw [← hs1'] at hc
    have hmk : ¬ (m : Int) < stop := by omega
    have hmp : 0 < stop := by omega
    clear hpre hs1' hs2' hk
    have hVW : Below V2.heap.size V2 W0 := HN0.out.2.trans hB
    have HK0 := HK
    replace HK := hid (HK.out.later hVW)
    replace HRD := hid (HRD.out.later hVW HRD.out.lt)
    have HD0 := hid hKD
    have hDlt0 : Hid (w.heap.size ≤ D0) := by have h1 := HK0.out.st.lt; have h2 := hlt0; show w.heap.size ≤ D0; omega
    have kD : W0.cell? ⟨w2.heap.size, 0, none⟩ = some (.int .i64 0) := HRD.out.cell 0
    have kS : W0.cell? ⟨w.heap.size, 0, none⟩ = some (.int .i64 stop) := HK.out.st.cell 0
    have kW : W0.cell? ⟨w1.heap.size, 0, none⟩ = some (.slice g m cap) := HK.out.wt.cell 0
    clear hVW hB hKD HN0 hD HK0 HKY
    have HMM := hid hm
    have HNN := hid hn
    clear hm hn
    have hmin : ∀ (ts : Array TypeId) (t : TypeId) (P : Program) (W : World), (Builtin.min_ ts t #[.int .i64 stop, .int .i64 (m : Int)]).run P W = .ok (.int .i64 stop) W := fun ts t P W => by rw [run_min_int2, if_neg hmk]
    clear hmk s0 s1
    gi_wp2
    clear hmin kD kS kW hc hmp
    have HNr := hid (cboxN W0 3 #[.int .i64 1])
    generalize W0.alloc (.cells #[.int .i64 1] 3) = V3 at *
    replace HK := hid (HK.out.later HNr.out.2)
    replace HD0 := hid (defer_later HD0.out HNr.out.2)
    replace HRD := hid HNr.out.1
    clear HNr
    rw [roundsIn_succ]
    have r1 : V3.cell? ⟨W0.heap.size, 0, none⟩ = some (.int .i64 1) := HRD.out.cell 0
    gi_wp2
    clear r1
    have hm := HMM.out
    have hn := HNN.out
    clear HMM HNN
    have HN1 := hid (cboxN V3 3 #[.int .i64 0])
    generalize V3.alloc (.cells #[.int .i64 0] 3) = Y1 at *
    have HKY := hid (HK.out.later HN1.out.2)
    have hlt1 : V3.heap.size < Y1.heap.size := HN1.out.1.lt
    refine ckrange (n₀ := V3.heap.size) rfl (enters_of Tryd.func20 (by kernel_rfl) rfl) (ckticks1_stops Fence.wide 2 trivial rfl (by decide) pa pb V3.heap.size a m Y1 HI.out.1 HI.out.2 HK.out.pA.lt HK.out.pB.lt (Nat.le_of_lt hlt1) (HKY.out.pA.cell 0) (HKY.out.pB.cell 0)) (Nat.le_of_lt hlt1)
      (fun pre W => (W.cell? ⟨V3.heap.size, 0, none⟩ = some (.int .i64 (pre.length : Int)) ∧ W.frozen? ⟨V3.heap.size, 0, none⟩ = false ∧ pre = upI a pre.length) ∧ Below V3.heap.size Y1 W)
      (fun c pre W => (c = .ret ∧ pre ≠ upI a pre.length))
      (OwnFrom.and (Own.from (fun s A B row hs hg hr => ⟨cell_kept hs.1 hg hr, (frozen_kept hs.1 hg hr).trans hs.2.1, hs.2.2⟩) _) (ownFrom_below (Nat.le_of_lt hlt1) (Nat.le_of_lt hlt1)))
      ?hIxc ⟨⟨HN1.out.1.cell 0, HN1.out.1.free 0, rfl⟩, Below.refl _ _⟩ ?assignc ?bodyc ?donec ?stopc
    case hIxc =>
      intro c s A B row hs hg hr
      exact hs
    case assignc =>
      intro l x W K hK
      gi_wp2
      exact hK
    case bodyc =>
      rintro l pre x W ⟨⟨hc, hf, hp⟩, hB⟩ hlen
      have hVW : Below V3.heap.size V3 W := HN1.out.2.trans hB
      have HKW := hid (HK.out.later hVW)
      have kD : W.cell? ⟨W0.heap.size, 0, none⟩ = some (.int .i64 1) := (HRD.out.later hVW HRD.out.lt).cell 0
      have kS : W.cell? ⟨w.heap.size, 0, none⟩ = some (.int .i64 stop) := HKW.out.st.cell 0
      have kR : W.cell? ⟨w.heap.size + 1, 0, none⟩ = some (.bool false) := HKW.out.rs.cell 0
      have kF := HKW.out.rs.free 0
      have kW : W.cell? ⟨w1.heap.size, 0, none⟩ = some (.slice g m cap) := HKW.out.wt.cell 0
      obtain ⟨L, hL⟩ : ∃ L : Nat, pre.length = L := ⟨_, rfl⟩
      rw [hL] at hc hp hlen
      rcases HKW.out.rd with h | ⟨gg, hgg, hcc⟩
      · omega
      subst hgg
      have kC : W.cell? ⟨gg, L, none⟩ = some (.int .i64 (a + (L : Int))) := hcc L hlen
      have HC := hid hc
      have HF := hid hf
      have HBW := hid hB
      have HP := hid hp
      have HLL := hid hL
      have HLN : Hid (((pre ++ [x]).length : Int) = (L : Int) + 1) := by show _ = _; rw [List.length_append, HLL.out]; rfl
      have hlm : (L : Int) < (m : Int) := by omega
      have hlm2 : ¬ (m : Int) ≤ (L : Int) := by omega
      have hlb : (L : Int) ≤ 4096 := by omega
      have hw1 : IntKind.i64.wrap ((L : Int) + 1) = (L : Int) + 1 := by rw [IntKind.wrap_i64]; omega
      have hn1 : W0.heap.size ≠ V3.heap.size := by have := HRD.out.lt; omega
      have hn2 : w.heap.size ≠ V3.heap.size := by have := HK.out.st.lt; omega
      have hn3 : w1.heap.size ≠ V3.heap.size := by have := HK.out.wt.lt; omega
      clear hcc hB hp hL hVW HKW
      by_cases hx : x = a + (L : Int)
      · have HUP : Hid (pre ++ [x] = upI a (pre ++ [x]).length) := by
          show _ = _
          rw [List.length_append, HLL.out]
          show pre ++ [x] = upI a (L + 1)
          rw [upI_succ, ← HP.out, hx]
        have hxe : (x == a + (L : Int)) = true := by simp [hx]
        generalize a + (L : Int) = Z at *
        subst hx
        gi_wp2
        exact ⟨KeepsOthers.setCell _ _ _, (Below.refl V3.heap.size W).setCell (p := ⟨V3.heap.size, 0, none⟩) (Nat.le_refl _) _, ⟨by rw [HLN.out]; exact World.cell?_setCell_same' _ _ _ (by rw [HC.out]; rfl), by rw [World.frozen?_setCell]; exact HF.out, HUP.out⟩, HBW.out.setCell (p := ⟨V3.heap.size, 0, none⟩) (Nat.le_refl _) _⟩
      · have hxe : (x == a + (L : Int)) = false := by simp [hx]
        have HUP : Hid (pre ++ [x] ≠ upI a (pre ++ [x]).length) := by
          intro e
          rw [List.length_append, HLL.out] at e
          have e2 : pre ++ [x] = upI a (L + 1) := e
          rw [upI_succ, ← HP.out] at e2
          have e3 := List.append_cancel_left e2
          simp at e3
          exact hx e3
        generalize a + (L : Int) = Z at *
        clear hx
        gi_wp2
        exact ⟨KeepsOthers.setCell _ _ _, ⟨rfl, HUP.out⟩⟩
    case donec =>
      rintro D1 xs W1 hD rfl ⟨⟨hc, hf, hp⟩, hB⟩ hKD
      rw [upI_len] at hc
      have hVW : Below V3.heap.size V3 W1 := HN1.out.2.trans hB
      have HK0 := HK
      replace HK := hid (HK.out.later hVW)
      replace HRD := hid (HRD.out.later hVW HRD.out.lt)
      have HNE : Hid (D0 < D1) := by have h1 := (Array.getElem?_eq_some_iff.1 HD0.out).1; have h2 := hlt1; show D0 < D1; omega
      replace HD0 := hid (defer_later HD0.out hVW)
      have HD1 := hid hKD
      have hDlt1 : Hid (w.heap.size ≤ D1) := by have h1 := HK0.out.st.lt; have h2 := hlt1; show w.heap.size ≤ D1; omega
      have kD : W1.cell? ⟨W0.heap.size, 0, none⟩ = some (.int .i64 1) := HRD.out.cell 0
      have kS : W1.cell? ⟨w.heap.size, 0, none⟩ = some (.int .i64 stop) := HK.out.st.cell 0
      have kW : W1.cell? ⟨w1.heap.size, 0, none⟩ = some (.slice g m cap) := HK.out.wt.cell 0
      clear hVW hB hKD HN1 hD HK0 HKY
      have HMM := hid hm
      have HNN := hid hn
      clear hm hn
      gi_wp2
      clear kD kS kW hc hf hp
      have HNs := hid (cboxN W1 3 #[.int .i64 2])
      generalize W1.alloc (.cells #[.int .i64 2] 3) = V4 at *
      replace HK := hid (HK.out.later HNs.out.2)
      replace HD0 := hid (defer_later HD0.out HNs.out.2)
      replace HD1 := hid (defer_later HD1.out HNs.out.2)
      have HRT := hid HNs.out.1
      have HK4 := HK
      have HD04 := HD0
      have HD14 := HD1
      clear HNs HRD
      rw [roundsIn_succ]
      have r2 : V4.cell? ⟨W1.heap.size, 0, none⟩ = some (.int .i64 2) := HRT.out.cell 0
      gi_wp2
      clear r2 HRT
      refine ⟨trivial, ?_⟩
      refine (callsIn_wide.2 (HY.out _)).mono ?_
      rintro e x1 ⟨vx, rfl, ox, hb1⟩
      obtain ⟨ax, cx, rfl, rx⟩ := RdI.own ox
      replace HK := hid (HK.out.later hb1)
      replace HD0 := hid (defer_later HD0.out hb1)
      replace HD1 := hid (defer_later HD1.out hb1)
      have HOX := hid ox
      have HB4 := hid hb1
      have HRX := hid rx
      clear ox rx hb1
      gi_wp2
      refine ⟨trivial, ?_⟩
      refine (callsIn_wide.2 (HY.out _)).mono ?_
      rintro e x2 ⟨vy, rfl, oy, hb1⟩
      obtain ⟨ay, cy, rfl, ry⟩ := RdI.own oy
      replace HK := hid (HK.out.later hb1)
      replace HD0 := hid (defer_later HD0.out hb1)
      replace HD1 := hid (defer_later HD1.out hb1)
      have HGX : Hid (∀ b, (Value.slice ax n cx).ownBlock = some b → b < x1.heap.size) := fun b hb => (HOX.out.lt b hb).2
      replace HOX := hid (owns_later HOX.out hb1)
      have HOY := hid oy
      replace HB4 := hid (b2 HB4.out hb1)
      replace HRX := hid (HRX.out.later hb1)
      have HRY := hid ry
      clear oy ry hb1
      gi_wp2
      refine ⟨trivial, ?_⟩
      refine (callsIn_wide.2 (HZ.out _)).mono ?_
      rintro e x3 ⟨vz, rfl, oz, hb1⟩
      obtain ⟨az, cz, rfl, rz⟩ := RdI.own oz
      replace HK := hid (HK.out.later hb1)
      replace HD0 := hid (defer_later HD0.out hb1)
      replace HD1 := hid (defer_later HD1.out hb1)
      replace HOX := hid (owns_later HOX.out hb1)
      replace HOY := hid (owns_later HOY.out hb1)
      replace HB4 := hid (b2 HB4.out hb1)
      replace HRX := hid (HRX.out.later hb1)
      replace HRY := hid (HRY.out.later hb1)
      have HRZ := hid rz
      clear oz rz hb1
      gi_wp2
      refine ⟨trivial, ?_⟩
      refine (callsIn_wide.2 (cksame_any ax az n cx cz _ x3 HNN.out HRX.out HRZ.out)).mono ?_
      rintro e x4 ⟨rfl, hb1⟩
      replace HK := hid (HK.out.later hb1)
      replace HD0 := hid (defer_later HD0.out hb1)
      replace HD1 := hid (defer_later HD1.out hb1)
      replace HOX := hid (owns_later HOX.out hb1)
      replace HOY := hid (owns_later HOY.out hb1)
      replace HB4 := hid (b2 HB4.out hb1)
      replace HRY := hid (HRY.out.later hb1)
      replace HRZ := hid (HRZ.out.later hb1)
      clear hb1 HRX
      gi_wp2
      refine ⟨trivial, ?_⟩
      refine (callsIn_wide.2 (cksame_any ay az n cy cz _ x4 HNN.out HRY.out HRZ.out)).mono ?_
      rintro e x5 ⟨rfl, hb1⟩
      replace HK := hid (HK.out.later hb1)
      replace HD0 := hid (defer_later HD0.out hb1)
      replace HD1 := hid (defer_later HD1.out hb1)
      replace HOX := hid (owns_later HOX.out hb1)
      replace HOY := hid (owns_later HOY.out hb1)
      replace HB4 := hid (b2 HB4.out hb1)
      clear hb1 HRY HRZ
      gi_wp2
      have HNo := hid (cboxN x5 22 #[.slice ay n cy])
      generalize x5.alloc (.cells #[.slice ay n cy] 22) = x6 at *
      replace HK := hid (HK.out.later HNo.out.2)
      replace HD0 := hid (defer_later HD0.out HNo.out.2)
      replace HD1 := hid (defer_later HD1.out HNo.out.2)
      have HX5 : Hid (∀ b, (Value.slice ax n cx).ownBlock = some b → b < x5.heap.size) := fun b hb => (HOX.out.lt b hb).2
      replace HOX := hid (owns_later HOX.out HNo.out.2)
      replace HOY := hid (owns_later HOY.out HNo.out.2)
      replace HB4 := hid (b2 HB4.out HNo.out.2)
      have HSPR : Hid ((Value.slice ax n cx = .slice none 0 0 ∧ n = 0) ∨ ∃ g cap cur, Spare x6 V4.heap.size n (.slice ax n cx) g cap cur ∧ (Value.slice ay n cy).ownBlock ≠ some g ∧ x5.heap.size ≠ g) := by
        rcases HOX.out.2 with h | ⟨g, cap, cur, hv, hbg, hg, hnc, hcm, hcs, ht⟩
        · exact .inl h
        · refine .inr ⟨g, cap, cur, ⟨hv, hbg, hg, hnc, by omega, fun j hj => ?_⟩, fun e => ?_, ?_⟩
          · simp only [Value.slice.injEq] at hv
            obtain ⟨rfl, _, rfl⟩ := hv
            have hc := HOX.out.cellAt j (by omega)
            rw [FBox.cell (t := 3) hg j, upN_at f n j hj] at hc
            exact ⟨_, hc⟩
          · have h1 := (HOY.out.lt g e).1
            have h2 := HGX.out g (by rw [hv]; rfl)
            omega
          · have h2 := HX5.out g (by rw [hv]; rfl)
            omega
      refine ⟨trivial, ?_⟩
      refine (callsIn_wide.2 (ciapart_any V4.heap.size x1.heap.size f n x5.heap.size (.slice ax n cx) (.slice ay n cy) x6 HNN.out HB4.out.size HSPR.out HOY.out HNo.out.1)).mono ?_
      rintro e x7 ⟨rfl, hb1⟩
      have HB5 := hid (HB4.out.trans hb1)
      have HK7 := hid (HK4.out.later HB5.out)
      replace HD0 := hid (defer_later HD04.out HB5.out)
      replace HD1 := hid (defer_later HD14.out HB5.out)
      clear hb1 HOX HOY HSPR HX5 HGX HNo HK HB4
      gi_wp2
      refine ⟨trivial, ?_⟩
      refine (callsIn_wide.2 (HAW.out _ HK7.out.bl)).mono ?_
      rintro e x8 ⟨rfl, hb1⟩
      replace HK7 := hid (HK7.out.later hb1)
      replace HD0 := hid (defer_later HD0.out hb1)
      replace HD1 := hid (defer_later HD1.out hb1)
      have q0 : x8.cell? ⟨w.heap.size + 1, 0, none⟩ = some (.bool false) := HK7.out.rs.cell 0
      have q1 := HK7.out.rs.free 0
      clear hb1
      gi_wp2
      have hk1 := (KeepsOthers.setCell x8 ⟨w.heap.size + 1, 0, none⟩ (.bool true)).same D1 _ HD1.out rfl
      have hk0 := (KeepsOthers.setCell x8 ⟨w.heap.size + 1, 0, none⟩ (.bool true)).same D0 _ HD0.out rfl
      have hc1 := World.cell?_setCell_same' x8 ⟨w.heap.size + 1, 0, none⟩ (.bool true) (by rw [q0]; rfl)
      have hbz := HK7.out.bl.setCell (p := ⟨w.heap.size + 1, 0, none⟩) (Nat.le_succ _) (.bool true)
      refine ⟨by simp, .inl ⟨_, _, rfl, run_takeDeferred hk1, ?_⟩⟩
      have hc2 := cell_kept hc1 (grownBy_putObj' _ D1 (.deferred none)) (fun r e => by cases e; exact ⟨_, hk1, rfl⟩)
      have hk0' := (World.putObj_heap_other (o := .deferred none) (Nat.ne_of_lt HNE.out)).trans hk0
      have hb3 := hbz.trans (belowK_b (w := w) (Nat.le_refl _) _ D1 _ (.deferred none) hDlt1.out hk1 rfl rfl)
      refine ⟨by simp, .inl ⟨_, _, rfl, run_takeDeferred hk0', ?_⟩⟩
      have hc3 := cell_kept hc2 (grownBy_putObj' _ D0 (.deferred none)) (fun r e => by cases e; exact ⟨_, hk0', rfl⟩)
      refine ⟨.bool true, ?_, rfl, hb3.trans (belowK_b (w := w) (Nat.le_refl _) _ D0 _ (.deferred none) hDlt0.out hk0' rfl rfl)⟩
      simp [results, Tryd.results3, go_sem, hc3]
    case stopc =>
      rintro D1 c pre W1 hD hSp hIx hKD
      obtain ⟨k, hk, hpre⟩ := hSp
      exact absurd (by rw [hpre, upI_len]) hIx.2
theorem clockSpans_walk (a b stop : Int) (w : World) (ha : I64 a) (hb : I64 b) (hst : I64 stop) (htab : TabC w) (herr : ErrT w) :
    Calls Tryd.prog 3 #[.int .i64 a, .int .i64 b, .int .i64 stop] w fun e w' => e = .returned (.bool true) ∧ Below w.heap.size w w' := by
  rcases spnR_or a b with ⟨h0, h1, h2, h3, h4⟩ | ⟨hne, _⟩
  · obtain ⟨A, rfl⟩ := Int.eq_ofNat_of_zero_le h1
    obtain ⟨B, rfl⟩ := Int.eq_ofNat_of_zero_le (show 0 ≤ b by omega)
    have hAB : A ≤ B := by omega
    have hB : B ≤ 1048577 := by omega
    refine clockSpans_in (A : Int) (B : Int) stop (B - A) (dayF A) (dayE B - dayF A) w ha hb hst (by omega) (by unfold dayE; omega) ?_ (by omega) htab herr (fun V => ?_) (fun V => ckdays_ok A B V hB hAB h0) (fun V => cddays_ok A B V hB hAB h0)
    · unfold tkE
      rw [if_pos h0]
      omega
    · refine Calls.mono (cdticks_ok A B V hB hAB h0) ?_
      rintro e w' ⟨v, rfl, ho, hbb⟩
      obtain ⟨x, c, rfl, hr⟩ := RdI.own ho
      refine ⟨x, c, rfl, ?_, hbb⟩
      have e : (fun j : Nat => ((A + j : Nat) : Int)) = fun j : Nat => (A : Int) + (j : Int) := by
        funext j
        omega
      rw [← e]
      exact hr
  · refine clockSpans_in a b stop 0 0 0 w ha hb hst (by decide) (by decide) ?_ (by have := ha.2; omega) htab herr (fun V => ?_) (fun V => ?_) (fun V => ?_)
    · unfold tkE
      rw [if_neg hne]
      omega
    · refine Calls.mono (cdticks_err a b V ha hb hne) ?_
      rintro e w' ⟨rfl, rfl⟩
      exact ⟨none, 0, rfl, .inl rfl, Below.refl _ _⟩
    · refine Calls.mono (ckdays_err a b V ha hb hne) ?_
      rintro e w' ⟨rfl, rfl⟩
      exact ⟨_, rfl, World.ownsRow_nil _ _ _ _, Below.refl _ _⟩
    · refine Calls.mono (cddays_err a b V ha hb hne) ?_
      rintro e w' ⟨rfl, rfl⟩
      exact ⟨_, rfl, World.ownsRow_nil _ _ _ _, Below.refl _ _⟩

end Go.Proofs.YtfapekhmdhkioaaDoor

