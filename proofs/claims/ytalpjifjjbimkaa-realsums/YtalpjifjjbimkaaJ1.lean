/- My texts on the way to RealSums, one behind the other: contracts of the program and of the document's answers. -/
import Derived.WalkKit
import Derived.WalkLawsBesides
import Derived.WalkSpells
import Derived.Laws.BitsAllLaws
import Derived.Laws.CopyOwn
import Derived.Laws.AppendOwnNone
import Derived.Test.YtalpjifjjbimkaaChecked
import Derived.Handy
import Derived.Deep.RegionHeld3
/- Lists of 32-bit words as plain data: their trimmed length, their value, when they are read out of memory. Nothing here speaks of the program. -/
namespace Go.Proofs.Ytalpjifjjbimkaa
open Go.RowKit

theorem hid {p : Prop} (h : p) : Hid p := h

/-- Each number is a word of 32 bits. -/
def Wd (zs : List Int) : Prop := ∀ z ∈ zs, 0 ≤ z ∧ z ≤ 4294967295

theorem Wd.at {zs : List Int} (h : Wd zs) (j : Nat) : 0 ≤ zs[j]?.getD 0 ∧ zs[j]?.getD 0 ≤ 4294967295 := by
  by_cases hj : j < zs.length
  · rw [List.getElem?_eq_getElem hj]; exact h _ (List.getElem_mem hj)
  · rw [List.getElem?_eq_none (by omega)]; exact ⟨by decide, by decide⟩

theorem Wd.take {zs : List Int} (h : Wd zs) (k : Nat) : Wd (zs.take k) := fun z hz => h z (List.mem_of_mem_take hz)
theorem Wd.drop {zs : List Int} (h : Wd zs) (k : Nat) : Wd (zs.drop k) := fun z hz => h z (List.mem_of_mem_drop hz)
theorem Wd.append {zs ys : List Int} (h : Wd zs) (g : Wd ys) : Wd (zs ++ ys) := fun z hz => (List.mem_append.1 hz).elim (h z) (g z)
theorem Wd.nil : Wd [] := fun _ hz => by simp at hz
theorem Wd.cons {z : Int} {zs : List Int} (h0 : 0 ≤ z ∧ z ≤ 4294967295) (h : Wd zs) : Wd (z :: zs) := fun y hy => by
  rcases List.mem_cons.1 hy with rfl | hy
  · exact h0
  · exact h y hy
theorem Wd.one {z : Int} (h0 : 0 ≤ z ∧ z ≤ 4294967295) : Wd [z] := Wd.cons h0 Wd.nil
theorem Wd.replicate (n : Nat) : Wd (List.replicate n 0) := fun z hz => by
  have := (List.mem_replicate.1 hz).2; omega
theorem Wd.set {zs : List Int} (h : Wd zs) (j : Nat) {z : Int} (h0 : 0 ≤ z ∧ z ≤ 4294967295) : Wd (zs.set j z) := fun y hy => by
  rcases List.mem_or_eq_of_mem_set hy with hy | rfl
  · exact h y hy
  · exact h0
theorem Wd.tail {z : Int} {zs : List Int} (h : Wd (z :: zs)) : Wd zs := fun y hy => h y (List.mem_cons_of_mem _ hy)
theorem Wd.head {z : Int} {zs : List Int} (h : Wd (z :: zs)) : 0 ≤ z ∧ z ≤ 4294967295 := h z List.mem_cons_self

/-- How many of the first k words stay when noughts at their end are dropped. -/
def szTo (zs : List Int) : Nat → Nat
  | 0 => 0
  | k + 1 => if zs[k]?.getD 0 = 0 then szTo zs k else k + 1
def sz (zs : List Int) : Nat := szTo zs zs.length
def trimmed (zs : List Int) : List Int := zs.take (sz zs)

theorem szTo_le (zs : List Int) : ∀ k, szTo zs k ≤ k
  | 0 => Nat.le_refl _
  | k + 1 => by
    unfold szTo
    split
    · exact Nat.le_succ_of_le (szTo_le zs k)
    · exact Nat.le_refl _
theorem sz_le (zs : List Int) : sz zs ≤ zs.length := szTo_le zs _
theorem szTo_zero (zs : List Int) (k : Nat) (h : zs[k]?.getD 0 = 0) : szTo zs (k + 1) = szTo zs k := by simp [szTo, h]
theorem szTo_keep (zs : List Int) (k : Nat) (h : ¬ zs[k]?.getD 0 = 0) : szTo zs (k + 1) = k + 1 := by simp [szTo, h]
theorem length_trimmed (zs : List Int) : (trimmed zs).length = sz zs := by
  unfold trimmed; rw [List.length_take, Nat.min_eq_left (sz_le zs)]
theorem Wd.trimmed {zs : List Int} (h : Wd zs) : Wd (trimmed zs) := h.take _
/-- Behind the trimmed length stand noughts alone. -/
theorem szTo_behind (zs : List Int) : ∀ k j, szTo zs k ≤ j → j < k → zs[j]?.getD 0 = 0
  | 0, _, _, h => by omega
  | k + 1, j, h1, h2 => by
    by_cases h : zs[k]?.getD 0 = 0
    · rw [szTo_zero zs k h] at h1
      by_cases e : j = k
      · rw [e]; exact h
      · exact szTo_behind zs k j h1 (by omega)
    · rw [szTo_keep zs k h] at h1; omega
theorem sz_behind (zs : List Int) (j : Nat) (h1 : sz zs ≤ j) : zs[j]?.getD 0 = 0 := by
  by_cases h : j < zs.length
  · exact szTo_behind zs _ j h1 h
  · rw [List.getElem?_eq_none (by omega)]; rfl
/-- The last word that stays is not 0. -/
theorem szTo_top (zs : List Int) : ∀ k, 0 < szTo zs k → ¬ zs[szTo zs k - 1]?.getD 0 = 0
  | 0, h => by simp [szTo] at h
  | k + 1, h => by
    by_cases e : zs[k]?.getD 0 = 0
    · rw [szTo_zero zs k e] at h ⊢; exact szTo_top zs k h
    · rw [szTo_keep zs k e]; simpa using e
theorem sz_top (zs : List Int) (h : 0 < sz zs) : ¬ zs[sz zs - 1]?.getD 0 = 0 := szTo_top zs _ h

/-- The list is trimmed: just if it is empty or its last word is not 0. -/
theorem sz_eq_iff (zs : List Int) : sz zs = zs.length ↔ zs.length = 0 ∨ ¬ zs[zs.length - 1]?.getD 0 = 0 := by
  constructor
  · intro h
    by_cases h0 : zs.length = 0
    · exact .inl h0
    · right; have := sz_top zs (by omega); rwa [h] at this
  · rintro (h | h)
    · have := sz_le zs; omega
    · by_cases h0 : zs.length = 0
      · have := sz_le zs; omega
      · obtain ⟨m, hm⟩ : ∃ m, zs.length = m + 1 := ⟨zs.length - 1, by omega⟩
        unfold sz; rw [hm]; rw [hm] at h
        exact szTo_keep zs m (by simpa using h)

/-- The slice whose address is 'a', whose length is 'n' and whose capacity is 'cap' reads as 'zs' in the world 'w': below block number B. -/
def Reads (w : World) (B : Nat) (a : Option Addr) (n cap : Nat) (zs : List Int) : Prop :=
  zs.length = n ∧ Wd zs ∧ (n = 0 ∨ ∃ b o, a = some ⟨b, o, none⟩ ∧ b < B ∧ ∀ j, j < n → w.cell? ⟨b, o + j, none⟩ = some (.int .u32 (zs[j]?.getD 0))) ∧ n ≤ cap ∧ cap ≤ maxLen ∧ (a = none → cap = 0)

theorem Reads.later {w w' : World} {B B' : Nat} {a : Option Addr} {n cap : Nat} {zs : List Int} (h : Reads w B a n cap zs) (hb : Below B w w') (hB : B ≤ B') : Reads w' B' a n cap zs := by
  obtain ⟨h1, h2, h3, h4⟩ := h
  refine ⟨h1, h2, h3.imp id ?_, h4⟩
  rintro ⟨b, o, rfl, hlt, hc⟩
  exact ⟨b, o, rfl, by omega, fun j hj => (hb.cell (p := ⟨b, o + j, none⟩) hlt).trans (hc j hj)⟩

/-- Of a slice its first k elements. -/
theorem Reads.front {w : World} {B : Nat} {a : Option Addr} {n cap : Nat} {zs : List Int} (h : Reads w B a n cap zs) (k : Nat) (hk : k ≤ n) : Reads w B a k cap (zs.take k) := by
  obtain ⟨h1, h2, h3, h4, h5, h6⟩ := h
  refine ⟨by rw [List.length_take]; omega, h2.take k, ?_, by omega, h5, h6⟩
  rcases h3 with h3 | ⟨b, o, ha, hlt, hc⟩
  · left; omega
  · right
    refine ⟨b, o, ha, hlt, fun j hj => ?_⟩
    rw [hc j (by omega), List.getElem?_take, if_pos hj]

/-- What the call owns is read as its words. -/
theorem Reads.own {w : World} {base e : Nat} {v : Value} {zs : List Int} {n : Nat} (h : w.ownsRow base e 1 v n (zs.map (Value.int .u32))) (hw : Wd zs) :
    ∃ a cap, v = .slice a n cap ∧ Reads w w.heap.size a n cap zs := by
  have hl := h.1
  simp at hl
  rcases h.2 with ⟨rfl, rfl⟩ | ⟨g, cap, cur, rfl, hb, hg, hnc, hcm, hcs, ht⟩
  · exact ⟨none, 0, rfl, by omega, hw, .inl rfl, Nat.le_refl _, Nat.zero_le _, fun _ => rfl⟩
  · refine ⟨_, cap, rfl, by omega, hw, ?_, hnc, hcm, fun h => by simp at h⟩
    right
    refine ⟨g, 0, rfl, ?_, fun j hj => ?_⟩
    · have : w.heap[g]?.isSome := by rw [hg]; rfl
      simpa using this
    · have hc := h.cellAt j (by omega)
      rw [Nat.zero_add, hc, List.getElem?_map, List.getElem?_eq_getElem (by omega)]
      simp

/-- What is owned stays owned while only newer memory is made. -/
theorem owns_later {w w' : World} {base e : Nat} {v : Value} {n : Nat} {xs : List Value} (h : w.ownsRow base e 1 v n xs) (hb : Below w.heap.size w w') : w'.ownsRow base e 1 v n xs := by
  refine ⟨h.1, h.2.imp id ?_⟩
  rintro ⟨g, cap, cur, rfl, hbg, hg, h1, h2, h3, h4⟩
  refine ⟨g, cap, cur, rfl, hbg, ?_, h1, h2, h3, h4⟩
  rw [hb.block g (by
    have : w.heap[g]?.isSome := by rw [hg]; rfl
    simpa using this)]
  exact hg

/-- What is owned from one block number on is owned from every smaller one on. -/
theorem owns_base {w : World} {base base' e : Nat} {v : Value} {n : Nat} {xs : List Value} (h : w.ownsRow base e 1 v n xs) (hb : base' ≤ base) : w.ownsRow base' e 1 v n xs := by
  refine ⟨h.1, h.2.imp id ?_⟩
  rintro ⟨g, cap, cur, rfl, hbg, hr⟩
  exact ⟨g, cap, cur, rfl, by omega, hr⟩
/-- A slice literal, just laid, is read. -/
theorem Reads.lit (w : World) (e : Nat) (zs : List Int) (hw : Wd zs) (hm : zs.length ≤ maxLen) : Reads (w.alloc (.cells ((zs.map (Value.int .u32)).toArray) e)) (w.alloc (.cells ((zs.map (Value.int .u32)).toArray) e)).heap.size (some ⟨w.heap.size, 0, none⟩) zs.length zs.length zs := by
  have h := World.ownsRow_lit (base := w.heap.size) (e := e) (size := 1) w ((zs.map (Value.int .u32)).toArray) zs.length (Nat.le_refl _) hm (by simp)
  obtain ⟨a, cap, hv, hr⟩ := Reads.own (zs := zs) (by simpa using h) hw
  simp only [Value.slice.injEq] at hv
  obtain ⟨rfl, _, rfl⟩ := hv
  exact hr

/-- A word above a word. -/
theorem or_join (x y : Int) (hx0 : 0 ≤ x) (hx : x ≤ 4294967295) (hy0 : 0 ≤ y) (hy : y ≤ 4294967295) : bits BinOp.or IntKind.u64 (x * 4294967296) y = y + x * 4294967296 := by
  rw [u64_or _ _ (by omega) (by omega) (by omega) (by omega), nat_join 32 _ _ (by omega) (by omega)]
  omega

theorem ret_int {k : IntKind} {a b : Int} (h : a = b) : Ending.returned (.int k a) = .returned (.int k b) := by rw [h]
theorem ret_bool {a b : Bool} (h : a = b) : Ending.returned (.bool a) = .returned (.bool b) := by rw [h]
end Go.Proofs.Ytalpjifjjbimkaa

/- Floats of 64 bits by their bits: which are finite, what a sum or difference of two gives, the sum of two with what was lost of it, as plain functions of the bits. Nothing here speaks of the program. -/
namespace Go.Proofs.Ytalpjifjjbimkaa

/-- Neither an infinity nor NaN: by the bits. -/
def fin (x : Nat) : Bool := x / 4503599627370496 % 2048 != 2047

theorem fin_iff (x : Nat) : fin x = true ↔ x % 9223372036854775808 < 9218868437227405312 := by
  unfold fin
  simp only [bne_iff_ne, ne_eq]
  omega

theorem dbl_sign : Ieee.double.signWeight = 9223372036854775808 := by decide
theorem dbl_inf : Ieee.double.infRung = 9218868437227405312 := by decide
theorem dbl_binade : Ieee.double.binade = 4503599627370496 := by decide

theorem read_fin {x : Nat} (h : fin x = true) : ∃ s m e, Ieee.double.read x = .number s m e := by
  rw [fin_iff] at h
  unfold Ieee.Format.read
  simp only [dbl_sign, dbl_inf, dbl_binade]
  split
  · exact ⟨_, _, _, rfl⟩
  · first | exact ⟨_, _, _, rfl⟩ | (rw [if_pos h]; exact ⟨_, _, _, rfl⟩)

theorem read_not {x : Nat} (h : fin x = false) : (∃ s, Ieee.double.read x = .infinity s) ∨ ∃ s f, Ieee.double.read x = .nan s f := by
  have h' : ¬ x % 9223372036854775808 < 9218868437227405312 := fun g => by rw [(fin_iff x).2 g] at h; exact Bool.noConfusion h
  unfold Ieee.Format.read
  simp only [dbl_sign, dbl_inf, dbl_binade]
  rw [if_neg (by omega), if_neg h']
  split
  · exact Or.inl ⟨_, rfl⟩
  · exact Or.inr ⟨_, _, rfl⟩

theorem write_inf (s : Bool) : fin (Ieee.double.write (.infinity s)) = false := by
  cases s <;> decide

theorem nan_cut (x y t : Nat) : fin (Question.cut (.nanBits .f64 x y) t) = false ∧ Question.cut (.nanBits .f64 x y) t < 18446744073709551616 := by
  simp only [Question.cut]
  have hu : (t / 2) % (2 ^ 52 - 1) < 4503599627370495 := Nat.mod_lt _ (by decide)
  have hv : t % 2 = 0 ∨ t % 2 = 1 := by omega
  generalize (t / 2) % (2 ^ 52 - 1) = u at hu ⊢
  generalize t % 2 = v at hv ⊢
  constructor
  · cases hh : fin (v * 2 ^ 63 + 0x7ff0000000000000 + 1 + u)
    · rfl
    · rw [fin_iff] at hh; rcases hv with rfl | rfl <;> omega
  · rcases hv with rfl | rfl <;> omega

/-- What the machine hands back: the bits of the answer, or, where there is none, some NaN. -/
def FR (op : BinOp) (x y r : Nat) : Prop := r < 18446744073709551616 ∧ (floatBits op .f64 x y = some r ∨ (floatBits op .f64 x y = none ∧ fin r = false))

theorem FR.det {op : BinOp} {x y r s : Nat} (h : FR op x y r) (g : floatBits op .f64 x y = some s) : r = s := by
  rcases h.2 with h | ⟨h, _⟩
  · rw [h] at g; exact Option.some.inj g
  · rw [h] at g; cases g

theorem FR.some {op : BinOp} {x y r : Nat} (h : floatBits op .f64 x y = .some r) : FR op x y r := by
  have := floatBits_wf h
  simp [Lit.wf] at this
  exact ⟨this, Or.inl h⟩
theorem FR.none {op : BinOp} {x y : Nat} (t : Nat) (h : floatBits op .f64 x y = .none) : FR op x y (Question.cut (.nanBits .f64 x y) t) :=
  ⟨(nan_cut x y t).2, Or.inr ⟨h, (nan_cut x y t).1⟩⟩

theorem sum_back {d c : Ieee.Datum} {r : Nat} (h : (d.sum c).map Ieee.double.write = .some r) (hf : fin r = true) : (∃ s m e, d = .number s m e) ∧ ∃ s m e, c = .number s m e := by
  cases d with
  | nan s f => simp [Ieee.Datum.sum] at h
  | infinity s =>
    cases c with
    | nan t f => simp [Ieee.Datum.sum] at h
    | infinity t =>
      simp only [Ieee.Datum.sum] at h
      split at h
      · cases h; rw [write_inf] at hf; cases hf
      · cases h
    | number t m e => simp only [Ieee.Datum.sum] at h; cases h; rw [write_inf] at hf; cases hf
  | number s m e =>
    cases c with
    | nan t f => simp [Ieee.Datum.sum] at h
    | infinity t => simp only [Ieee.Datum.sum] at h; cases h; rw [write_inf] at hf; cases hf
    | number t n j => exact ⟨⟨_, _, _, rfl⟩, ⟨_, _, _, rfl⟩⟩

theorem fin_of_read {x : Nat} {s : Bool} {m : Nat} {e : Int} (h : Ieee.double.read x = .number s m e) : fin x = true := by
  cases hx : fin x
  · rcases read_not hx with ⟨_, g⟩ | ⟨_, _, g⟩ <;> rw [g] at h <;> cases h
  · rfl

theorem add_back {x y r : Nat} (h : floatBits .add .f64 x y = .some r) (hf : fin r = true) : fin x = true ∧ fin y = true := by
  obtain ⟨⟨_, _, _, h1⟩, ⟨_, _, _, h2⟩⟩ := sum_back h hf
  exact ⟨fin_of_read h1, fin_of_read h2⟩
theorem sub_back {x y r : Nat} (h : floatBits .sub .f64 x y = .some r) (hf : fin r = true) : fin x = true ∧ fin y = true := by
  obtain ⟨⟨_, _, _, h1⟩, ⟨s, m, e, h2⟩⟩ := sum_back h hf
  refine ⟨fin_of_read h1, ?_⟩
  cases hy : fin y
  · rcases read_not hy with ⟨_, g⟩ | ⟨_, _, g⟩ <;> (have g' : FloatKind.f64.format.read y = _ := g; rw [g'] at h2; cases h2)
  · rfl

theorem FR.addBack {x y r : Nat} (h : FR .add x y r) (hf : fin r = true) : floatBits .add .f64 x y = .some r ∧ fin x = true ∧ fin y = true := by
  rcases h.2 with h | ⟨_, g⟩
  · exact ⟨h, add_back h hf⟩
  · rw [g] at hf; cases hf
theorem FR.subBack {x y r : Nat} (h : FR .sub x y r) (hf : fin r = true) : floatBits .sub .f64 x y = .some r ∧ fin x = true ∧ fin y = true := by
  rcases h.2 with h | ⟨_, g⟩
  · exact ⟨h, sub_back h hf⟩
  · rw [g] at hf; cases hf

theorem add_some {x y : Nat} (hx : fin x = true) (hy : fin y = true) : ∃ r, floatBits .add .f64 x y = .some r := by
  obtain ⟨s, m, e, h1⟩ := read_fin hx
  obtain ⟨t, n, j, h2⟩ := read_fin hy
  exact ⟨_, show (((Ieee.double.read x).sum (Ieee.double.read y)).map Ieee.double.write) = _ by rw [h1, h2]; rfl⟩

theorem order_self {x : Nat} (h : fin x = true) : FloatKind.f64.format.order x x = .some .eq := by
  obtain ⟨s, m, e, h1⟩ := read_fin h
  show (Ieee.double.read x).order (Ieee.double.read x) = _
  rw [h1]
  simp [Ieee.Datum.order]

theorem run_add (P : Program) (w : World) (t : TypeId) (x y : Nat) (h : floatBits .add .f64 x y = .none) :
    (binOp .add t (.float .f64 x) (.float .f64 y)).run P w = .ok (.float .f64 (Question.cut (.nanBits .f64 x y) (w.tape w.drawn (.nanBits .f64 x y)))) w.drew := by
  have h' : FloatKind.f64.format.add x y = .none := h
  simp [binOp, Op.floatArith, h', Question.forced]
theorem run_sub (P : Program) (w : World) (t : TypeId) (x y : Nat) (h : floatBits .sub .f64 x y = .none) :
    (binOp .sub t (.float .f64 x) (.float .f64 y)).run P w = .ok (.float .f64 (Question.cut (.nanBits .f64 x y) (w.tape w.drawn (.nanBits .f64 x y)))) w.drew := by
  have h' : FloatKind.f64.format.sub x y = .none := h
  simp [binOp, Op.floatArith, h', Question.forced]

/-- The sum of two finite floats and what was lost of it; nothing, where one of both is not finite. -/
def chain (a b : Nat) : Option (Nat × Nat) :=
  match floatBits .add .f64 a b with
  | .none => .none
  | .some s => if fin s then
      match floatBits .sub .f64 s a with
      | .none => .none
      | .some t =>
        match floatBits .sub .f64 s t with
        | .none => .none
        | .some d =>
          match floatBits .sub .f64 a d, floatBits .sub .f64 b t with
          | .some p, .some q =>
            match floatBits .add .f64 p q with
            | .none => .none
            | .some e => if fin e then .some (s, e) else .none
          | _, _ => .none
    else .none

/-- The steps as the machine goes them. -/
def Two (a b s e : Nat) : Prop := ∃ t d p q, FR .add a b s ∧ FR .sub s a t ∧ FR .sub s t d ∧ FR .sub a d p ∧ FR .sub b t q ∧ FR .add p q e

theorem Two.good {a b s e : Nat} (h : Two a b s e) (hs : fin s = true) (he : fin e = true) : chain a b = .some (s, e) := by
  obtain ⟨t, d, p, q, h1, h2, h3, h4, h5, h6⟩ := h
  obtain ⟨g6, fp, fq⟩ := h6.addBack he
  obtain ⟨g5, _, ft⟩ := h5.subBack fq
  obtain ⟨g4, _, fd⟩ := h4.subBack fp
  obtain ⟨g3, _, _⟩ := h3.subBack fd
  obtain ⟨g2, _, _⟩ := h2.subBack ft
  obtain ⟨g1, _, _⟩ := h1.addBack hs
  simp only [chain, g1, g2, g3, g4, g5, g6, hs, he, if_true]

theorem chain_back {a b : Nat} {u : Nat × Nat} (h : chain a b = .some u) : fin u.1 = true ∧ fin u.2 = true ∧ ∀ s e, Two a b s e → s = u.1 ∧ e = u.2 := by
  unfold chain at h
  split at h
  · cases h
  rename_i s g1
  split at h
  · rename_i hs
    split at h
    · cases h
    rename_i t g2
    split at h
    · cases h
    rename_i d g3
    split at h
    · rename_i p q g4 g5
      split at h
      · cases h
      rename_i e g6
      split at h
      · rename_i he
        cases h
        refine ⟨hs, he, fun s' e' hh => ?_⟩
        obtain ⟨t', d', p', q', h1, h2, h3, h4, h5, h6⟩ := hh
        have e1 := h1.det g1
        subst e1
        have e2 := h2.det g2
        subst e2
        have e3 := h3.det g3
        subst e3
        have e4 := h4.det g4
        subst e4
        have e5 := h5.det g5
        subst e5
        exact ⟨rfl, h6.det g6⟩
      · cases h
    · cases h
  · cases h

theorem Two.bad {a b s e : Nat} (h : Two a b s e) (hb : fin s = false ∨ fin e = false) : chain a b = .none := by
  cases hc : chain a b with
  | none => rfl
  | some u =>
    obtain ⟨h1, h2, h3⟩ := chain_back hc
    obtain ⟨e1, e2⟩ := h3 _ _ h
    rcases hb with hb | hb
    · rw [e1, h1] at hb; cases hb
    · rw [e2, h2] at hb; cases hb

/-- The first step alone. -/
theorem chain_over {a b s : Nat} (h : FR .add a b s) (hs : fin s = false) : chain a b = .none := by
  cases hc : floatBits .add .f64 a b with
  | none => simp only [chain, hc]
  | some r =>
    have := h.det hc
    subst this
    simp only [chain, hc, hs]
    rfl

/-- TwoSum: the sum, what was lost, the error. -/
def tsum (a b : Nat) : Nat × Nat × Int :=
  if fin a && fin b then
    match chain a b with
    | .some (s, e) => (s, e, 0)
    | .none => (0, 0, 9)
  else (0, 0, 8)

theorem tsum_fin (a b : Nat) : fin (tsum a b).1 = true ∧ fin (tsum a b).2.1 = true := by
  unfold tsum
  split
  · cases hc : chain a b with
    | none => exact ⟨by decide, by decide⟩
    | some u => exact ⟨(chain_back hc).1, (chain_back hc).2.1⟩
  · exact ⟨by decide, by decide⟩

theorem tsum_ok {a b s e : Nat} (ha : fin a = true) (hb : fin b = true) (h : chain a b = .some (s, e)) : tsum a b = (s, e, 0) := by
  simp only [tsum, ha, hb, h, Bool.and_true, if_true]
theorem tsum_over {a b : Nat} (ha : fin a = true) (hb : fin b = true) (h : chain a b = .none) : tsum a b = (0, 0, 9) := by
  simp only [tsum, ha, hb, h, Bool.and_true, if_true]
theorem tsum_bad {a b : Nat} (h : (fin a && fin b) = false) : tsum a b = (0, 0, 8) := by
  simp only [tsum, h]
  rfl

/-- Sum from a sum, what was lost, and a place on: the two and the fault. -/
def fsumGo : Nat → Nat → Nat → List Nat → Nat × Nat × Int × Int
  | s, c, _, [] => (s, c, 0, 0)
  | s, c, i, x :: l =>
    match chain s x with
    | .none => (0, 0, 9, (i : Int))
    | .some (t, e) =>
      match floatBits .add .f64 c e with
      | .none => (0, 0, 9, (i : Int))
      | .some d => if fin d then fsumGo t d (i + 1) l else (0, 0, 9, (i : Int))

/-- Sum: from a place on with all ahead of it finite. -/
def fsumFrom (l0 : List Nat) : Nat → List Nat → Nat × Nat × Int × Int
  | _, [] => fsumGo 0 0 0 l0
  | i, x :: l => if fin x then fsumFrom l0 (i + 1) l else (0, 0, 8, (i : Int))
def fsum (l : List Nat) : Nat × Nat × Int × Int := fsumFrom l 0 l

theorem drop_step {l : List Nat} {k : Nat} (h : k < l.length) : l.drop k = (l[k]?.getD 0) :: l.drop (k + 1) := by
  rw [List.drop_eq_getElem_cons h, List.getElem?_eq_getElem h]
  rfl

theorem fsumFrom_fin {l0 l : List Nat} {k : Nat} (h : k < l.length) (hf : fin (l[k]?.getD 0) = true) : fsumFrom l0 k (l.drop k) = fsumFrom l0 (k + 1) (l.drop (k + 1)) := by
  rw [drop_step h]
  simp only [fsumFrom, hf, if_true]
theorem fsumFrom_bad {l0 l : List Nat} {k : Nat} (h : k < l.length) (hf : fin (l[k]?.getD 0) = false) : fsumFrom l0 k (l.drop k) = (0, 0, 8, (k : Int)) := by
  rw [drop_step h]
  simp only [fsumFrom, hf]
  rfl
theorem fsumFrom_end {l0 l : List Nat} {k : Nat} (h : l.length ≤ k) : fsumFrom l0 k (l.drop k) = fsumGo 0 0 0 l0 := by
  rw [List.drop_of_length_le h]
  rfl
theorem fsumGo_end {l : List Nat} {s c k : Nat} (h : l.length ≤ k) : fsumGo s c k (l.drop k) = (s, c, 0, 0) := by
  rw [List.drop_of_length_le h]
  rfl
theorem fsumGo_none {l : List Nat} {s c k : Nat} (h : k < l.length) (g : chain s (l[k]?.getD 0) = .none) : fsumGo s c k (l.drop k) = (0, 0, 9, (k : Int)) := by
  rw [drop_step h]
  simp only [fsumGo, g]
theorem fsumGo_over {l : List Nat} {s c k t e d : Nat} (h : k < l.length) (g : chain s (l[k]?.getD 0) = .some (t, e)) (g2 : floatBits .add .f64 c e = .some d) (g3 : fin d = false) : fsumGo s c k (l.drop k) = (0, 0, 9, (k : Int)) := by
  rw [drop_step h]
  simp only [fsumGo, g, g2, g3]
  rfl
theorem fsumGo_step {l : List Nat} {s c k t e d : Nat} (h : k < l.length) (g : chain s (l[k]?.getD 0) = .some (t, e)) (g2 : floatBits .add .f64 c e = .some d) (g3 : fin d = true) : fsumGo s c k (l.drop k) = fsumGo t d (k + 1) (l.drop (k + 1)) := by
  rw [drop_step h]
  simp only [fsumGo, g, g2, g3, if_true]

/-- All of them: finite. -/
def Fins (l : List Nat) : Prop := ∀ j : Nat, fin (l[j]?.getD 0) = true

theorem fin0 : fin 0 = true := by decide

/-- A round of the program's loop. -/
theorem round_good {l : List Nat} {s c k s' e' c' : Nat} (h : k < l.length) (h2 : Two s (l[k]?.getD 0) s' e') (h3 : FR .add c e' c') (f1 : fin s' = true) (f2 : fin c' = true) :
    fsumGo s c k (l.drop k) = fsumGo s' c' (k + 1) (l.drop (k + 1)) := by
  obtain ⟨g, _, fe⟩ := h3.addBack f2
  exact fsumGo_step h (h2.good f1 fe) g f2
theorem round_bad {l : List Nat} {s c k s' e' c' : Nat} (h : k < l.length) (fc : fin c = true) (h2 : Two s (l[k]?.getD 0) s' e') (h3 : FR .add c e' c') (f : fin s' = false ∨ fin c' = false) :
    fsumGo s c k (l.drop k) = (0, 0, 9, (k : Int)) := by
  cases f1 : fin s'
  · exact fsumGo_none h (h2.bad (.inl f1))
  · cases fe : fin e'
    · exact fsumGo_none h (h2.bad (.inr fe))
    · have f2 : fin c' = false := by
        rcases f with f | f
        · rw [f1] at f; cases f
        · exact f
      obtain ⟨r, hr⟩ := add_some fc fe
      have := h3.det hr
      subst this
      exact fsumGo_over h (h2.good f1 fe) hr f2

theorem fsumGo_fin (l : List Nat) : ∀ s c i, fin s = true → fin c = true → fin (fsumGo s c i l).1 = true ∧ fin (fsumGo s c i l).2.1 = true := by
  induction l with
  | nil => intro s c i hs hc; exact ⟨hs, hc⟩
  | cons x l ih =>
    intro s c i hs hc
    simp only [fsumGo]
    split
    · exact ⟨fin0, fin0⟩
    · rename_i t e g
      split
      · exact ⟨fin0, fin0⟩
      · rename_i d g2
        split
        · rename_i hd
          exact ih t d (i + 1) (chain_back g).1 hd
        · exact ⟨fin0, fin0⟩
theorem fsumFrom_good (l0 : List Nat) (l : List Nat) : ∀ i, fin (fsumFrom l0 i l).1 = true ∧ fin (fsumFrom l0 i l).2.1 = true := by
  induction l with
  | nil => intro i; exact fsumGo_fin l0 0 0 0 (by decide) (by decide)
  | cons x l ih =>
    intro i
    simp only [fsumFrom]
    split
    · exact ih (i + 1)
    · exact ⟨fin0, fin0⟩

end Go.Proofs.Ytalpjifjjbimkaa

/- real.finite, real.twoSum, real.TwoSum and the document's Finite, TwoSum, of any floats, by their bits. -/
namespace Go.Proofs.Ytalpjifjjbimkaa
open Go.RowKit
set_option linter.unusedVariables false

theorem fin_int (x : Nat) (hx : x < 18446744073709551616) : (bits .and .u64 ((x : Int) / 4503599627370496) 2047 != 2047) = fin x := by
  have e : bits .and .u64 ((x : Int) / 4503599627370496) 2047 = ((x / 4503599627370496 % 2048 : Nat) : Int) := by
    have e0 : (x : Int) / 4503599627370496 = ((x / 4503599627370496 : Nat) : Int) := by omega
    rw [e0]
    have e1 := u64_and_nat (x / 4503599627370496) 2047 (by omega) (by omega)
    have e2 : x / 4503599627370496 &&& 2047 = x / 4503599627370496 % 2048 := Nat.and_two_pow_sub_one_eq_mod _ 11
    rw [e2] at e1
    exact e1
  rw [e]
  unfold fin
  by_cases h : x / 4503599627370496 % 2048 = 2047
  · rw [h]; rfl
  · rw [bne_iff_ne.2 h, bne_iff_ne.2 (by omega)]

/-- What the machine hands back, and the world behind it. -/
def fval (op : BinOp) (V : World) (x y : Nat) : Nat := match floatBits op .f64 x y with
  | .some r => r
  | .none => Question.cut (.nanBits .f64 x y) (V.tape V.drawn (.nanBits .f64 x y))
def fwld (op : BinOp) (V : World) (x y : Nat) : World := match floatBits op .f64 x y with
  | .some _ => V
  | .none => V.drew
theorem fval_fr (op : BinOp) (V : World) (x y : Nat) : FR op x y (fval op V x y) := by
  cases h : floatBits op .f64 x y with
  | some r => simp only [fval, h]; exact FR.some h
  | none => simp only [fval, h]; exact FR.none _ h
theorem fwld_below (op : BinOp) {B : Nat} {U V : World} (x y : Nat) (h : Below B U V) : Below B U (fwld op V x y) := by
  cases e : floatBits op .f64 x y with
  | some r => simp only [fwld, e]; exact h
  | none => simp only [fwld, e]; exact h.drew
theorem fadd_run (P : Program) (t : TypeId) (V : World) (x y : Nat) : (binOp .add t (.float .f64 x) (.float .f64 y)).run P V = .ok (.float .f64 (fval .add V x y)) (fwld .add V x y) := by
  cases h : floatBits .add .f64 x y with
  | some r => simp only [fval, fwld, h]; exact run_float_arith V _ _ _ _ _ _ h
  | none => simp only [fval, fwld, h]; exact run_add P V t x y h
theorem fsub_run (P : Program) (t : TypeId) (V : World) (x y : Nat) : (binOp .sub t (.float .f64 x) (.float .f64 y)).run P V = .ok (.float .f64 (fval .sub V x y)) (fwld .sub V x y) := by
  cases h : floatBits .sub .f64 x y with
  | some r => simp only [fval, fwld, h]; exact run_float_arith V _ _ _ _ _ _ h
  | none => simp only [fval, fwld, h]; exact run_sub P V t x y h

theorem bits_run (x : Nat) (w : World) : (callFunc 17 #[.float .f64 x]).run Try.prog w = .ok (.value (.int .u64 (x : Int))) w := by
  rw [run_callFunc_extern (fn := Try.f17) Try.func17 (by kernel_rfl) (by kernel_rfl) (by kernel_rfl) (e := Extern.MathFloatBits.float64bits) (by kernel_rfl)]
  rfl
theorem from_run (x : Nat) (w : World) : (callFunc 4 #[.int .u64 (x : Int)]).run Try.prog w = .ok (.value (.float .f64 x)) w := by
  rw [run_callFunc_extern (fn := Try.f4) Try.func4 (by kernel_rfl) (by kernel_rfl) (by kernel_rfl) (e := Extern.MathFloatBits.float64frombits) (by kernel_rfl)]
  rfl

set_option maxHeartbeats 800000 in
set_option maxRecDepth 100000 in
theorem finite_any (x : Nat) (w : World) (hx : x < 18446744073709551616) :
    Calls Try.prog 12 #[.float .f64 x] w fun e w' => e = .returned (.bool (fin x)) ∧ w' = w := by
  have HB := bits_run x w
  have HI := hid (fin_int x hx)
  clear hx
  go_enter Try.func12, Try.ntmps12
  go_wp2
  go_ret
  exact ⟨congrArg (fun b => Ending.returned (.bool b)) HI.out, rfl⟩

set_option maxHeartbeats 800000 in
set_option maxRecDepth 100000 in
theorem refFinite_any (x : Nat) (w : World) (hx : x < 18446744073709551616) :
    Calls Try.prog 14 #[.float .f64 x] w fun e w' => e = .returned (.bool (fin x)) ∧ w' = w := by
  have HB := bits_run x w
  have HI := hid (fin_int x hx)
  clear hx
  go_enter Try.func14, Try.ntmps14
  go_wp2
  go_ret
  exact ⟨congrArg (fun b => Ending.returned (.bool b)) HI.out, rfl⟩

set_option maxHeartbeats 800000 in
set_option maxRecDepth 100000 in
theorem twoSum_any (a b : Nat) (w : World) :
    Calls Try.prog 13 #[.float .f64 a, .float .f64 b] w fun x w' => ∃ s e, x = .returned (.tuple #[.float .f64 s, .float .f64 e]) ∧ Two a b s e ∧ Below w.heap.size w w' := by
  have rA := fadd_run Try.prog 24
  have rS := fsub_run Try.prog 24
  go_enter Try.func13, Try.ntmps13
  go_wp2
  go_returns
  refine ⟨_, _, rfl, ⟨_, _, _, _, fval_fr .add _ _ _, fval_fr .sub _ _ _, fval_fr .sub _ _ _, fval_fr .sub _ _ _, fval_fr .sub _ _ _, fval_fr .add _ _ _⟩, ?_⟩
  repeat refine fwld_below _ _ _ ?_
  exact Below.refl _ _

theorem Two.lt {a b s e : Nat} (h : Two a b s e) : s < 18446744073709551616 ∧ e < 18446744073709551616 := by
  obtain ⟨t, d, p, q, h1, h2, h3, h4, h5, h6⟩ := h
  exact ⟨h1.1, h6.1⟩

/-- What TwoSum tells. -/
def tsumV (r : Nat × Nat × Int) : Value := .tuple #[.float .f64 r.1, .float .f64 r.2.1, .int .i64 r.2.2]

set_option maxHeartbeats 1600000 in
set_option maxRecDepth 100000 in
theorem TwoSum_any (a b : Nat) (w : World) (ha : a < 18446744073709551616) (hb : b < 18446744073709551616) :
    Calls Try.prog 5 #[.float .f64 a, .float .f64 b] w fun x w' => x = .returned (tsumV (tsum a b)) ∧ Below w.heap.size w w' := by
  have HA := hid (finite_any a w ha)
  have HB := hid (finite_any b w hb)
  clear ha hb
  cases fa : fin a
  · have HT := hid (tsum_bad (a := a) (b := b) (by rw [fa]; rfl))
    rw [fa] at HA
    go_enter Try.func5, Try.ntmps5
    go_wp2_with (go_at_call 12; refine Calls.mono HA.out ?_; rintro e w' ⟨rfl, rfl⟩)
    go_returns
    rw [HT.out]
    exact ⟨rfl, Below.refl _ _⟩
  cases fb : fin b
  · have HT := hid (tsum_bad (a := a) (b := b) (by rw [fb, Bool.and_false]))
    rw [fa] at HA
    rw [fb] at HB
    go_enter Try.func5, Try.ntmps5
    go_wp2_with fail
    refine Calls.mono HA.out ?_
    rintro e w1 ⟨rfl, rfl⟩
    go_wp2_with fail
    refine Calls.mono HB.out ?_
    rintro e w1 ⟨rfl, rfl⟩
    go_wp2_with fail
    go_returns
    rw [HT.out]
    exact ⟨rfl, Below.refl _ _⟩
  have FA := hid fa
  have FB := hid fb
  rw [fa] at HA
  rw [fb] at HB
  clear fa fb
  have HW := hid (twoSum_any a b w)
  go_enter Try.func5, Try.ntmps5
  go_wp2_with fail
  refine Calls.mono HA.out ?_
  rintro e w1 ⟨rfl, rfl⟩
  go_wp2_with fail
  refine Calls.mono HB.out ?_
  rintro e w1 ⟨rfl, rfl⟩
  go_wp2_with fail
  refine Calls.mono HW.out ?_
  clear HA HB HW
  rintro x w2 ⟨s, e, rfl, h2, hb⟩
  have HT := hid h2
  have HB2 := hid hb
  have HS := hid (finite_any s w2 h2.lt.1)
  have HE := hid (finite_any e w2 h2.lt.2)
  clear h2 hb
  cases fs : fin s
  · have HR := hid (tsum_over FA.out FB.out (HT.out.bad (.inl fs)))
    rw [fs] at HS
    clear fs
    go_wp2_with fail
    refine Calls.mono HS.out ?_
    rintro x w3 ⟨rfl, rfl⟩
    go_wp2_with fail
    go_returns
    rw [HR.out]
    exact ⟨rfl, HB2.out⟩
  cases fe : fin e
  · have HR := hid (tsum_over FA.out FB.out (HT.out.bad (.inr fe)))
    rw [fs] at HS
    rw [fe] at HE
    clear fs fe
    go_wp2_with fail
    refine Calls.mono HS.out ?_
    rintro x w3 ⟨rfl, rfl⟩
    go_wp2_with fail
    refine Calls.mono HE.out ?_
    rintro x w3 ⟨rfl, rfl⟩
    go_wp2_with fail
    go_returns
    rw [HR.out]
    exact ⟨rfl, HB2.out⟩
  have HR := hid (tsum_ok FA.out FB.out (HT.out.good fs fe))
  rw [fs] at HS
  rw [fe] at HE
  clear fs fe
  go_wp2_with fail
  refine Calls.mono HS.out ?_
  rintro x w3 ⟨rfl, rfl⟩
  go_wp2_with fail
  refine Calls.mono HE.out ?_
  rintro x w3 ⟨rfl, rfl⟩
  go_wp2_with fail
  go_returns
  rw [HR.out]
  exact ⟨rfl, HB2.out⟩

end Go.Proofs.Ytalpjifjjbimkaa

/- The document's TwoSum; slackwaterkit.SameFloat, SameBits of one float twice; lists of floats: CopyFloats, LentFloats, SameFloats, KeptFloats. -/
namespace Go.Proofs.Ytalpjifjjbimkaa
open Go.RowKit
set_option linter.unusedVariables false

theorem fadd_ex (P : Program) (t : TypeId) (V : World) (x y : Nat) : ∃ r V', (binOp .add t (.float .f64 x) (.float .f64 y)).run P V = .ok (.float .f64 r) V' ∧ Hid (FR .add x y r ∧ Below V.heap.size V V') :=
  ⟨_, _, fadd_run P t V x y, fval_fr .add V x y, fwld_below .add x y (Below.refl _ _)⟩
theorem fsub_ex (P : Program) (t : TypeId) (V : World) (x y : Nat) : ∃ r V', (binOp .sub t (.float .f64 x) (.float .f64 y)).run P V = .ok (.float .f64 r) V' ∧ Hid (FR .sub x y r ∧ Below V.heap.size V V') :=
  ⟨_, _, fsub_run P t V x y, fval_fr .sub V x y, fwld_below .sub x y (Below.refl _ _)⟩
theorem b2 {a b c : World} (h : Below a.heap.size a b) (g : Below b.heap.size b c) : Below a.heap.size a c := h.trans (g.mono h.size)

set_option maxHeartbeats 1600000 in
set_option maxRecDepth 100000 in
theorem refTwoSum_any (a b : Nat) (w : World) (ha : a < 18446744073709551616) (hb : b < 18446744073709551616) :
    Calls Try.prog 6 #[.float .f64 a, .float .f64 b] w fun x w' => x = .returned (tsumV (tsum a b)) ∧ Below w.heap.size w w' := by
  have HA := hid (refFinite_any a w ha)
  have HB := hid (refFinite_any b w hb)
  clear ha hb
  cases fa : fin a
  · have HT := hid (tsum_bad (a := a) (b := b) (by rw [fa]; rfl))
    rw [fa] at HA
    go_enter Try.func6, Try.ntmps6
    go_wp2_with fail
    refine Calls.mono HA.out ?_
    rintro e w1 ⟨rfl, rfl⟩
    go_wp2_with fail
    go_returns
    rw [HT.out]
    exact ⟨rfl, Below.refl _ _⟩
  cases fb : fin b
  · have HT := hid (tsum_bad (a := a) (b := b) (by rw [fb, Bool.and_false]))
    rw [fa] at HA
    rw [fb] at HB
    go_enter Try.func6, Try.ntmps6
    go_wp2_with fail
    refine Calls.mono HA.out ?_
    rintro e w1 ⟨rfl, rfl⟩
    go_wp2_with fail
    refine Calls.mono HB.out ?_
    rintro e w1 ⟨rfl, rfl⟩
    go_wp2_with fail
    go_returns
    rw [HT.out]
    exact ⟨rfl, Below.refl _ _⟩
  have FA := hid fa
  have FB := hid fb
  rw [fa] at HA
  rw [fb] at HB
  clear fa fb
  obtain ⟨s, w1, r1, H1⟩ := fadd_ex Try.prog 24 w a b
  have HS := hid (refFinite_any s w1 H1.out.1.1)
  cases fs : fin s
  · have HR := hid (tsum_over FA.out FB.out (chain_over H1.out.1 fs))
    rw [fs] at HS
    clear fs
    go_enter Try.func6, Try.ntmps6
    go_wp2_with fail
    refine Calls.mono HA.out ?_
    rintro e w2 ⟨rfl, rfl⟩
    go_wp2_with fail
    refine Calls.mono HB.out ?_
    rintro e w2 ⟨rfl, rfl⟩
    go_wp2_with fail
    refine Calls.mono HS.out ?_
    rintro e w2 ⟨rfl, rfl⟩
    go_wp2_with fail
    go_returns
    rw [HR.out]
    exact ⟨rfl, H1.out.2⟩
  obtain ⟨t, w2, r2, H2⟩ := fsub_ex Try.prog 24 w1 s a
  obtain ⟨d, w3, r3, H3⟩ := fsub_ex Try.prog 24 w2 s t
  obtain ⟨p, w4, r4, H4⟩ := fsub_ex Try.prog 24 w3 a d
  obtain ⟨q, w5, r5, H5⟩ := fsub_ex Try.prog 24 w4 b t
  obtain ⟨e, w6, r6, H6⟩ := fadd_ex Try.prog 24 w5 p q
  have HE := hid (refFinite_any e w6 H6.out.1.1)
  have HT : Hid (Two a b s e) := ⟨t, d, p, q, H1.out.1, H2.out.1, H3.out.1, H4.out.1, H5.out.1, H6.out.1⟩
  have HB6 := hid (b2 H1.out.2 (b2 H2.out.2 (b2 H3.out.2 (b2 H4.out.2 (b2 H5.out.2 H6.out.2)))))
  clear H1 H2 H3 H4 H5 H6
  rw [fs] at HS
  cases fe : fin e
  · have HR := hid (tsum_over FA.out FB.out (HT.out.bad (.inr fe)))
    rw [fe] at HE
    clear fs fe
    go_enter Try.func6, Try.ntmps6
    go_wp2_with fail
    refine Calls.mono HA.out ?_
    rintro x u ⟨rfl, rfl⟩
    go_wp2_with fail
    refine Calls.mono HB.out ?_
    rintro x u ⟨rfl, rfl⟩
    go_wp2_with fail
    refine Calls.mono HS.out ?_
    rintro x u ⟨rfl, rfl⟩
    go_wp2_with fail
    refine Calls.mono HE.out ?_
    rintro x u ⟨rfl, rfl⟩
    go_wp2_with fail
    go_returns
    rw [HR.out]
    exact ⟨rfl, HB6.out⟩
  have HR := hid (tsum_ok FA.out FB.out (HT.out.good fs fe))
  rw [fe] at HE
  clear fs fe
  go_enter Try.func6, Try.ntmps6
  go_wp2_with fail
  refine Calls.mono HA.out ?_
  rintro x u ⟨rfl, rfl⟩
  go_wp2_with fail
  refine Calls.mono HB.out ?_
  rintro x u ⟨rfl, rfl⟩
  go_wp2_with fail
  refine Calls.mono HS.out ?_
  rintro x u ⟨rfl, rfl⟩
  go_wp2_with fail
  refine Calls.mono HE.out ?_
  rintro x u ⟨rfl, rfl⟩
  go_wp2_with fail
  go_returns
  rw [HR.out]
  exact ⟨rfl, HB6.out⟩

set_option maxHeartbeats 800000 in
set_option maxRecDepth 100000 in
theorem sameFloat_eq (x : Nat) (w : World) (hx : fin x = true) :
    Calls Try.prog 10 #[.float .f64 x, .float .f64 x] w fun e w' => e = .returned (.bool true) ∧ w' = w := by
  have HO : (FloatKind.f64.format.order x x == some .eq) = true := by rw [order_self hx]; rfl
  clear hx
  go_enter Try.func10, Try.ntmps10
  go_wp2
  go_ret
  exact ⟨rfl, rfl⟩

set_option maxHeartbeats 800000 in
set_option maxRecDepth 100000 in
theorem sameBits_eq (x : Nat) (w : World) :
    Calls Try.prog 18 #[.float .f64 x, .float .f64 x] w fun e w' => e = .returned (.bool true) ∧ w' = w := by
  have HB : ∀ V, (callFunc 17 #[.float .f64 x]).run Try.prog V = .ok (.value (.int .u64 (x : Int))) V := bits_run x
  go_enter Try.func18, Try.ntmps18
  go_wp2
  go_ret
  exact ⟨rfl, rfl⟩

theorem Try.infoF : (Try.prog.info? 24).map (fun i => (i.zero, i.size, i.bytes)) = some (some (.float .f64 0), 1, 8) := by kernel_rfl

/-- The slice reads as these floats. -/
def RdF (w : World) (B : Nat) (a : Option Addr) (n cap : Nat) (xs : List Nat) : Prop :=
  xs.length = n ∧ (n = 0 ∨ ∃ b o, a = some ⟨b, o, none⟩ ∧ b < B ∧ ∀ j, j < n → w.cell? ⟨b, o + j, none⟩ = some (.float .f64 (xs[j]?.getD 0))) ∧ n ≤ cap ∧ cap ≤ maxLen ∧ (a = none → cap = 0)

theorem RdF.later {w w' : World} {B B' : Nat} {a : Option Addr} {n cap : Nat} {zs : List Nat} (h : RdF w B a n cap zs) (hb : Below B w w') (hB : B ≤ B') : RdF w' B' a n cap zs := by
  obtain ⟨h1, h3, h4⟩ := h
  refine ⟨h1, h3.imp id ?_, h4⟩
  rintro ⟨b, o, rfl, hlt, hc⟩
  exact ⟨b, o, rfl, by omega, fun j hj => (hb.cell (p := ⟨b, o + j, none⟩) hlt).trans (hc j hj)⟩

theorem RdF.front {w : World} {B : Nat} {a : Option Addr} {n cap : Nat} {zs : List Nat} (h : RdF w B a n cap zs) (k : Nat) (hk : k ≤ n) : RdF w B a k cap (zs.take k) := by
  obtain ⟨h1, h3, h4, h5, h6⟩ := h
  refine ⟨by rw [List.length_take]; omega, ?_, by omega, h5, h6⟩
  rcases h3 with h3 | ⟨b, o, ha, hlt, hc⟩
  · left; omega
  · right
    refine ⟨b, o, ha, hlt, fun j hj => ?_⟩
    rw [hc j (by omega), List.getElem?_take, if_pos hj]

theorem RdF.own {w : World} {base e : Nat} {v : Value} {zs : List Nat} {n : Nat} (h : w.ownsRow base e 1 v n (zs.map (Value.float .f64))) :
    ∃ a cap, v = .slice a n cap ∧ RdF w w.heap.size a n cap zs := by
  have hl := h.1
  simp at hl
  rcases h.2 with ⟨rfl, rfl⟩ | ⟨g, cap, cur, rfl, hb, hg, hnc, hcm, hcs, ht⟩
  · exact ⟨none, 0, rfl, by omega, .inl rfl, Nat.le_refl _, Nat.zero_le _, fun _ => rfl⟩
  · refine ⟨_, cap, rfl, by omega, ?_, hnc, hcm, fun h => by simp at h⟩
    right
    refine ⟨g, 0, rfl, ?_, fun j hj => ?_⟩
    · have : w.heap[g]?.isSome := by rw [hg]; rfl
      simpa using this
    · have hc := h.cellAt j (by omega)
      rw [Nat.zero_add, hc, List.getElem?_map, List.getElem?_eq_getElem (by omega)]
      simp

theorem newsF {w : World} {B : Nat} {ad : Addr} {n cap : Nat} {zs : List Nat} (h : RdF w B (some ad) n cap zs) :
    ∀ j v, (zs.map (Value.float .f64))[j]? = some v → w.cell? (ad.add j) = some v := by
  intro j v hj
  have hj1 := (List.getElem?_eq_some_iff.1 hj).1
  have hl := h.1
  simp only [List.length_map] at hj1
  rcases h.2.1 with h0 | ⟨b, o, ha, _, hc⟩
  · omega
  · cases ha
    rw [Addr.add_lit, hc j (by omega), ← hj, List.getElem?_map, List.getElem?_eq_getElem hj1]
    rfl

theorem floats_oneCell (zs : List Nat) : ∀ u ∈ zs.map (Value.float .f64), u.oneCell' = true := by
  intro u hu
  obtain ⟨z, _, rfl⟩ := List.mem_map.1 hu
  rfl

set_option maxHeartbeats 800000 in
set_option maxRecDepth 100000 in
theorem copyFloats_any (a : Option Addr) (n cap : Nat) (xs : List Nat) (w : World) (h : RdF w w.heap.size a n cap xs) (hn : n ≤ 1099511627776) :
    Calls Try.prog 15 #[.slice a n cap] w fun e w' => ∃ v, e = .returned v ∧ w'.ownsRow w.heap.size 24 1 v n (xs.map (Value.float .f64)) ∧ Below w.heap.size w w' := by
  obtain ⟨i0, hi, hz0, hz1, hz2⟩ := info_parts Try.infoF
  have hl := h.1
  have HL : Hid (xs.length = n) := hl
  have hown : (w.alloc (.cells #[] 24)).ownsRow w.heap.size 24 1 (.slice (some ⟨w.heap.size, 0, none⟩) 0 0) 0 [] := World.ownsRow_lit w #[] 0 (Nat.le_refl _) (Nat.zero_le _) rfl
  have hbel : Below w.heap.size w (w.alloc (.cells #[] 24)) := (Below.refl _ _).alloc (Nat.le_refl _) _
  cases a with
  | none =>
    have h0 : cap = 0 := h.2.2.2.2 rfl
    subst h0
    have h1 : n = 0 := by have := h.2.2.1; omega
    subst h1
    have hx : xs = [] := List.eq_nil_of_length_eq_zero hl
    subst hx
    clear h hl
    go_enter Try.func15, Try.ntmps15
    go_wp2_with (at_builtin; refine wpList_append_own_none rfl _ _ 26 rfl w.heap.size 24 i0 1 Try.underlying26 hi _ 0 [] rfl hown rfl ?_)
    go_ret
    exact ⟨_, rfl, hown, hbel⟩
  | some ad =>
    have hnews := newsF (h.later hbel (Nat.le_refl _))
    have HN : Hid (∀ j v, (xs.map (Value.float .f64))[j]? = some v → (w.alloc (.cells #[] 24)).cell? (ad.add j) = some v) := hnews
    have HLn : Hid ((xs.map (Value.float .f64)).length = n * 1) := by show _ = _; simp [hl]
    clear hnews h hl
    go_enter Try.func15, Try.ntmps15
    go_wp2_with (at_builtin; refine wpList_append_own _ rfl _ _ 26 rfl w.heap.size 24 i0 (.float .f64 0) 1 8 Try.underlying26 hi hz0 hz1 hz2 rfl (by decide) _ 0 [] rfl hown ad n cap (xs.map (Value.float .f64)) rfl HLn.out HN.out (floats_oneCell _) (by unfold maxLen; omega) (by omega) (by simp) ?_)
    intro v' w1 hown' hgrow _
    have hb2 : Below w.heap.size w w1 := hbel.grown hgrow (by simp) (fun k hk => by simp [Value.ownBlock] at hk; omega)
    go_wp2
    go_ret
    exact ⟨_, rfl, hown', hb2⟩

/-- What stands behind a list of floats that is lent: 0.125, 1.125, 2.125. -/
def fmarks (k : Nat) : List Nat := [4593671619917905920, 4607745368753438720, 4611967493404098560].take k
theorem fmark_run (k : Nat) (h : k < 3) (P : Program) (t : TypeId) (V : World) : ∃ r, (binOp .add t (.float .f64 4593671619917905920) (.float .f64 (floatOfInt .f64 (k : Int)))).run P V = .ok (.float .f64 r) V ∧ fmarks (k + 1) = fmarks k ++ [r] := by
  match k, h with
  | 0, _ => exact ⟨4593671619917905920, run_float_arith V _ _ _ _ _ _ (by decide +kernel), rfl⟩
  | 1, _ => exact ⟨4607745368753438720, run_float_arith V _ _ _ _ _ _ (by decide +kernel), rfl⟩
  | 2, _ => exact ⟨4611967493404098560, run_float_arith V _ _ _ _ _ _ (by decide +kernel), rfl⟩

set_option maxHeartbeats 1600000 in
set_option maxRecDepth 100000 in
theorem lentFloats_any (a : Option Addr) (n cap : Nat) (xs : List Nat) (w : World) (h : RdF w w.heap.size a n cap xs) (hn : n ≤ 549755813888) :
    Calls Try.prog 7 #[.slice a n cap] w fun e w' => ∃ v, e = .returned v ∧ w'.ownsRow w.heap.size 24 1 v (n + 3) ((xs ++ fmarks 3).map (Value.float .f64)) ∧ Below w.heap.size w w' := by
  obtain ⟨i0, hi, hz0, hz1, hz2⟩ := info_parts Try.infoF
  go_enter Try.func7, Try.ntmps7
  go_wp2_with fail
  refine (copyFloats_any a n cap xs w h (by omega)).mono ?_
  rintro e w1 ⟨v, rfl, hown, hbel⟩
  go_wp2_with fail
  go_loopw [3, 4] (fun v t wr => ∃ k : Nat, k ≤ 3 ∧ t = .int .i64 k ∧ wr.ownsRow w.heap.size 24 1 v (n + k) ((xs ++ fmarks k).map (Value.float .f64)) ∧ Below w.heap.size w wr) (fun _ t _ => 3 - (intOf t).toNat)
  case atStart => exact ⟨0, by omega, rfl, by simpa [fmarks] using hown, hbel⟩
  case round =>
    obtain ⟨k, hk, rfl, ho, hb⟩ := hrel
    by_cases hlt : k < 3
    · have hsz := hb.size
      obtain ⟨R, hR⟩ : ∃ R, R = (xs ++ fmarks k).map (Value.float .f64) := ⟨_, rfl⟩
      rw [← hR] at ho
      obtain ⟨r, hr, hm⟩ := fmark_run k hlt Try.prog 24 wr
      have HM : Hid ((xs ++ fmarks (k + 1)).map (Value.float .f64) = R ++ [.float .f64 r]) := by
        show _ = _
        rw [hm, hR]; simp
      clear hR hm
      go_wp2_with (at_builtin; refine wpList_append_own _ rfl _ _ 26 rfl w.heap.size 24 i0 (.float .f64 0) 1 8 Try.underlying26 hi hz0 hz1 hz2 rfl (by decide) _ _ _ rfl (ho.alloc _) ⟨wr.heap.size, 0, none⟩ 1 1 [.float .f64 r] rfl rfl (cell_one_new _ _ _) (by simp [Value.oneCell']) (by unfold maxLen; omega) (by omega) (by simp; omega) ?_)
      intro v' w2 ho2 hg2 _
      have hb2 : Below w.heap.size w w2 := (hb.alloc (by omega) _).grown hg2 (by simp; omega) (fun g hg => (ho.lt g hg).1)
      clear hg2
      go_wp2
      go_roundw
      case rel => exact ⟨k + 1, by omega, by go_num, by rw [HM.out]; exact ho2, hb2⟩
      case measure => simp [intOf]; omega
    · have hk3 : k = 3 := by omega
      subst hk3
      go_wp2
      go_ret
      exact ⟨_, rfl, ho, hb⟩

set_option maxHeartbeats 800000 in
set_option maxRecDepth 100000 in
theorem sameFloats_eq (a : Option Addr) (n cap : Nat) (xs : List Nat) (b : Option Addr) (cap' : Nat) (w : World) (h : RdF w w.heap.size a n cap xs) (g : RdF w w.heap.size b n cap' xs) (hn : n ≤ 281474976710656) :
    Calls Try.prog 16 #[.slice a n cap, .slice b n cap'] w fun e w' => e = .returned (.bool true) ∧ Below w.heap.size w w' := by
  obtain ⟨hl, hc, hcap⟩ := h
  obtain ⟨gl, gc, gcap⟩ := g
  have htt : ((n : Int) != (n : Int)) = false := by simp
  rcases hc with h0 | ⟨b1, o1, rfl, hb1, hc⟩
  · subst h0
    go_enter Try.func16, Try.ntmps16
    go_wp2
    refine wp_loop_rounds 1 ?_
    rw [rounds_succ]
    go_wp2
    go_ret
    exact ⟨rfl, Below.refl _ _⟩
  · rcases gc with g0 | ⟨b2', o2, rfl, hb2, gc⟩
    · subst g0
      go_enter Try.func16, Try.ntmps16
      go_wp2
      refine wp_loop_rounds 1 ?_
      rw [rounds_succ]
      go_wp2
      go_ret
      exact ⟨rfl, Below.refl _ _⟩
    · clear hl gl
      go_enter Try.func16, Try.ntmps16
      go_wp2
      go_loopw [5] (fun t wr => ∃ k : Nat, k ≤ n ∧ t = .int .i64 k ∧ Below w.heap.size w wr) (fun t _ => n - (intOf t).toNat)
      case atStart => exact ⟨0, Nat.zero_le _, rfl, Below.refl _ _⟩
      case round =>
        obtain ⟨k, hk, rfl, hbel⟩ := hrel
        by_cases hlt : k < n
        · have hcx : wr.cell? ⟨b1, o1 + k, none⟩ = some (.float .f64 (xs[k]?.getD 0)) := (hbel.cell (p := ⟨b1, o1 + k, none⟩) hb1).trans (hc k hlt)
          have hcy : wr.cell? ⟨b2', o2 + k, none⟩ = some (.float .f64 (xs[k]?.getD 0)) := (hbel.cell (p := ⟨b2', o2 + k, none⟩) hb2).trans (gc k hlt)
          obtain ⟨z, hz⟩ : ∃ z, z = xs[k]?.getD 0 := ⟨_, rfl⟩
          rw [← hz] at hcx hcy
          have HSB : Hid (∀ V, Calls Try.prog 18 #[.float .f64 z, .float .f64 z] V fun e w' => e = .returned (.bool true) ∧ w' = V) := sameBits_eq z
          have hs0 : wr.drew.cell? ⟨b1, o1 + k, none⟩ = some (.float .f64 z) ∧ wr.drew.cell? ⟨b2', o2 + k, none⟩ = some (.float .f64 z) := ⟨hcx, hcy⟩
          have hk0 : (0 : Int) ≤ ↑k := by omega
          have hk1 : (↑k : Int) < ↑n := by omega
          have HBL := hid (hbel.drew)
          clear hz hc gc hbel
          go_wp2_with fail
          go_region_held3 (fun V : World => V.cell? ⟨b1, o1 + k, none⟩ = some (.float .f64 z) ∧ V.cell? ⟨b2', o2 + k, none⟩ = some (.float .f64 z)) (exact hs0) ((go_at_call 18; with_reducible refine Calls.mono (HSB.out _) ?_; rintro e w2 ⟨rfl, rfl⟩))
          all_goals
            go_wp2
            go_roundw
            case rel => exact ⟨k + 1, by omega, by go_num, HBL.out⟩
            case measure => simp [intOf]; omega
        · have hkn : k = n := by omega
          subst hkn
          go_wp2
          go_ret
          exact ⟨rfl, hbel⟩

set_option maxHeartbeats 800000 in
set_option maxRecDepth 100000 in
theorem keptFloats_eq (a : Option Addr) (n cap : Nat) (xs : List Nat) (b : Option Addr) (cap' : Nat) (w : World) (g : RdF w w.heap.size b (n + 3) cap' (xs ++ fmarks 3)) (h : RdF w w.heap.size a n cap xs) (hn : n ≤ 1048576) :
    Calls Try.prog 11 #[.slice b (n + 3) cap', .slice a n cap] w fun e w' => e = .returned (.bool true) ∧ Below w.heap.size w w' := by
  have HL := hid (lentFloats_any a n cap xs w h (by omega))
  clear h
  go_enter Try.func11, Try.ntmps11
  go_wp2_with fail
  refine Calls.mono HL.out ?_
  rintro e w1 ⟨v, rfl, ho, hb⟩
  obtain ⟨a1, c1, rfl, hr⟩ := RdF.own ho
  have HS := hid (sameFloats_eq _ _ _ _ _ _ w1 (g.later hb hb.size) hr (by omega))
  have HB := hid hb
  clear HL ho hr hb g
  go_wp2_with fail
  refine Calls.mono HS.out ?_
  rintro e w2 ⟨rfl, hb2⟩
  have HB2 := hid (b2 HB.out hb2)
  clear hb2
  go_wp2_with fail
  go_ret
  exact ⟨rfl, HB2.out⟩

end Go.Proofs.Ytalpjifjjbimkaa

/- real.Sum and the document's Sum, of any list of floats. -/
namespace Go.Proofs.Ytalpjifjjbimkaa
open Go.RowKit
set_option linter.unusedVariables false

/-- A struct's memory. -/
def FBox (w : World) (b t : Nat) (vs : Array Value) : Prop := w.heap[b]? = some (.cells vs t (0, 0))
theorem FBox.cell {w : World} {b t : Nat} {vs : Array Value} (h : FBox w b t vs) (j : Nat) : w.cell? ⟨b, j, none⟩ = vs[j]? := by
  unfold FBox at h
  simp [World.cell?, h]
theorem FBox.free {w : World} {b t : Nat} {vs : Array Value} (h : FBox w b t vs) (j : Nat) : w.frozen? ⟨b, j, none⟩ = false := by
  unfold FBox at h
  simp [World.frozen?, h]
theorem FBox.later {w w' : World} {B b t : Nat} {vs : Array Value} (h : FBox w b t vs) (hb : Below B w w') (hlt : b < B) : FBox w' b t vs := by
  unfold FBox at *
  rw [hb.block b hlt]; exact h
theorem FBox.lt {w : World} {b t : Nat} {vs : Array Value} (h : FBox w b t vs) : b < w.heap.size := by
  unfold FBox at h
  have : w.heap[b]?.isSome := by rw [h]; rfl
  simpa using this
theorem FBox.made (w : World) (t : Nat) (vs : Array Value) : FBox (w.alloc (.cells vs t)) w.heap.size t vs := by
  unfold FBox
  show (w.heap.push _)[w.heap.size]? = _
  rw [Array.getElem?_push, if_pos rfl]
theorem FBox.other {w : World} {b t : Nat} {vs : Array Value} (h : FBox w b t vs) (p : Addr) (v : Value) (hne : b ≠ p.block) : FBox (w.setCell p v) b t vs := by
  unfold FBox at *
  rw [Below.heap_setCell w p v b hne]; exact h
theorem FBox.drewN {w : World} {b t : Nat} {vs : Array Value} (h : FBox w b t vs) (n : Nat) : FBox (w.drewN n) b t vs := h
theorem FBox.set {w : World} {b t : Nat} {vs : Array Value} (h : FBox w b t vs) (j : Nat) (v : Value) : FBox (w.setCell ⟨b, j, none⟩ v) b t (vs.setIfInBounds j v) := by
  unfold FBox at *
  simp only [World.setCell, Array.getElem?_modify, if_pos, h]
  simp

/-- What Sum tells. -/
def sumV (r : Nat × Nat × Int × Int) : Value := .tuple #[.float .f64 r.1, .float .f64 r.2.1, .agg #[.int .i64 r.2.2.1, .int .i64 r.2.2.2]]

/-- Each float has 64 bits. -/
def Wf (xs : List Nat) : Prop := ∀ j : Nat, xs[j]?.getD 0 < 18446744073709551616

theorem fput2 {B : Nat} {a w : World} (h : Below B a w) (b : Nat) (hb : B ≤ b) (v0 v1 : Value) : Below B a ((w.setCell ⟨b, 0, none⟩ v0).setCell ⟨b, 1, none⟩ v1) :=
  (h.setCell (p := ⟨b, 0, none⟩) hb _).setCell (p := ⟨b, 1, none⟩) hb _
theorem fbox_facts {w w' : World} {b t : Nat} {v0 v1 : Value} (h : FBox w b t #[v0, v1]) (hb : Below w.heap.size w w') : w'.cell? ⟨b, 0, none⟩ = some v0 ∧ w'.cell? ⟨b, 1, none⟩ = some v1 ∧ w'.frozen? ⟨b, 0, none⟩ = false ∧ w'.frozen? ⟨b, 1, none⟩ = false := by
  have h' := h.later hb h.lt
  exact ⟨h'.cell 0, h'.cell 1, h'.free 0, h'.free 1⟩

set_option maxHeartbeats 3200000 in
set_option maxRecDepth 100000 in
theorem Sum_some (b o n cap : Nat) (xs : List Nat) (w : World) (hl : xs.length = n) (hb : b < w.heap.size) (hc : ∀ j, j < n → w.cell? ⟨b, o + j, none⟩ = some (.float .f64 (xs[j]?.getD 0))) (hcap : n ≤ cap) (hw : Wf xs) (hn : n ≤ 1048576) :
    Calls Try.prog 8 #[.slice (some ⟨b, o, none⟩) n cap] w fun x w' => x = .returned (sumV (fsum xs)) ∧ Below w.heap.size w w' := by
  have HW := hid hw
  have HL := hid hl
  have HBX : Hid (Below w.heap.size w (w.alloc (.cells #[.int .i64 0, .int .i64 0] 32))) := (Below.refl _ _).alloc (Nat.le_refl _) _
  have HX := hid (FBox.made w 32 #[.int .i64 0, .int .i64 0])
  have HC : Hid (∀ V, Below (w.alloc (.cells #[.int .i64 0, .int .i64 0] 32)).heap.size (w.alloc (.cells #[.int .i64 0, .int .i64 0] 32)) V → ∀ j, j < n → V.cell? ⟨b, o + j, none⟩ = some (.float .f64 (xs[j]?.getD 0))) := fun V hV j hj => ((HBX.out.trans (hV.mono HBX.out.size)).cell (p := ⟨b, o + j, none⟩) hb).trans (hc j hj)
  clear hw hl hc hb
  go_enter Try.func8, Try.ntmps8
  go_wp2_with fail
  generalize w.alloc (.cells #[.int .i64 0, .int .i64 0] 32) = X at *
  go_loopw [14] (fun t wr => ∃ k : Nat, k ≤ n ∧ t = .int .i64 k ∧ Hid (fsum xs = fsumFrom xs k (xs.drop k)) ∧ wr = X) (fun t _ => n - (intOf t).toNat)
  case atStart => exact ⟨0, Nat.zero_le _, rfl, (rfl : fsum xs = fsumFrom xs 0 xs), rfl⟩
  case round =>
    obtain ⟨k, hk, rfl, hF, hX⟩ := hrel
    have hX' := hX.symm
    clear hX
    subst hX'
    by_cases hlt : k < n
    · have hcx := HC.out X (Below.refl _ _) k hlt
      have hz64 := HW.out k
      have HG := hid (fsumFrom_fin (l0 := xs) (l := xs) (k := k) (by rw [HL.out]; exact hlt))
      have HG2 := hid (fsumFrom_bad (l0 := xs) (l := xs) (k := k) (by rw [HL.out]; exact hlt))
      generalize xs[k]?.getD 0 = z at *
      have HFI := hid (finite_any z X hz64)
      obtain ⟨r0, r1, f0, f1⟩ := fbox_facts HX.out (Below.refl _ _)
      clear hz64
      cases hf : fin z
      · rw [hf] at HFI
        have HR : Hid (fsum xs = (0, 0, 8, (k : Int))) := hF.out.trans (HG2.out hf)
        clear hf HG HG2 hF
        go_wp2_with fail
        refine Calls.mono HFI.out ?_
        rintro e w1 ⟨rfl, rfl⟩
        go_wp2_with fail
        refine bodyPost_ret (v := .tuple #[.float .f64 0, .float .f64 0, .agg #[.int .i64 8, .int .i64 (k : Int)]]) (by simp [results, Try.results8, go_sem, r0, r1]) rfl ?_
        exact ⟨by rw [HR.out]; rfl, fput2 HBX.out _ (Nat.le_refl _) _ _⟩
      · rw [hf] at HFI
        have HR : Hid (fsum xs = fsumFrom xs (k + 1) (xs.drop (k + 1))) := hF.out.trans (HG.out hf)
        clear hf HG HG2 hF
        go_wp2_with fail
        refine Calls.mono HFI.out ?_
        rintro e w1 ⟨rfl, rfl⟩
        go_wp2_with fail
        go_roundw
        case rel => exact ⟨k + 1, by omega, by go_num, HR, by first | rfl | trivial⟩
        case measure => simp [intOf]; omega
    · have hkn : k = n := by omega
      have HR : Hid (fsum xs = fsumGo 0 0 0 (xs.drop 0)) := by
        have e := hF.out
        rw [fsumFrom_end (by rw [HL.out]; omega)] at e
        exact e
      subst hkn
      clear hF hlt hk
      go_wp2_with fail
      go_loopw [7, 8, 27] (fun s c t wq => ∃ j S C : Nat, j ≤ k ∧ t = .int .i64 j ∧ s = .float .f64 S ∧ c = .float .f64 C ∧ Hid (fsum xs = fsumGo S C j (xs.drop j) ∧ fin S = true ∧ fin C = true ∧ Below X.heap.size X wq)) (fun _ _ t _ => k - (intOf t).toNat)
      case atStart => exact ⟨0, 0, 0, Nat.zero_le _, rfl, rfl, rfl, HR.out, fin0, fin0, Below.refl _ _⟩
      case round =>
        obtain ⟨j, S, C, hj, rfl, rfl, rfl, HI⟩ := hrel
        by_cases hlt : j < k
        · have hcx := HC.out wr HI.out.2.2.2 j hlt
          have HJ : Hid (j < xs.length) := by show _; rw [HL.out]; exact hlt
          obtain ⟨z, hz⟩ : ∃ z, z = xs[j]?.getD 0 := ⟨_, rfl⟩
          have HZ := hid hz
          rw [← hz] at hcx
          have HTW := hid (twoSum_any S z wr)
          clear hz
          go_wp2_with fail
          refine Calls.mono HTW.out ?_
          rintro e w1 ⟨s', e', rfl, h2, hb1⟩
          have H2 := hid h2
          have HB1 := hid (HI.out.2.2.2.trans (hb1.mono HI.out.2.2.2.size))
          clear h2 hb1 HTW
          obtain ⟨c', w2, rr, H3⟩ := fadd_ex Try.prog 24 w1 C e'
          have HB2 := hid (HB1.out.trans (H3.out.2.mono HB1.out.size))
          have HFS := hid (finite_any s' w2 H2.out.lt.1)
          have HFC := hid (finite_any c' w2 H3.out.1.1)
          obtain ⟨r0, r1, f0, f1⟩ := fbox_facts HX.out HB2.out
          have H2' : Hid (Two S (xs[j]?.getD 0) s' e') := by show _; rw [← HZ.out]; exact H2.out
          cases fs : fin s'
          · rw [fs] at HFS
            have HE : Hid (fsum xs = (0, 0, 9, (j : Int))) := HI.out.1.trans (round_bad HJ.out HI.out.2.2.1 H2'.out H3.out.1 (.inl fs))
            clear fs
            go_wp2_with fail
            refine Calls.mono HFS.out ?_
            rintro e u1 ⟨rfl, rfl⟩
            go_wp2_with fail
            refine bodyPost_ret (v := .tuple #[.float .f64 0, .float .f64 0, .agg #[.int .i64 9, .int .i64 (j : Int)]]) (by simp [results, Try.results8, go_sem, r0, r1]) rfl ?_
            exact ⟨by rw [HE.out]; rfl, fput2 (HBX.out.trans (HB2.out.mono HBX.out.size)) _ (Nat.le_refl _) _ _⟩
          cases fc : fin c'
          · rw [fs] at HFS
            rw [fc] at HFC
            have HE : Hid (fsum xs = (0, 0, 9, (j : Int))) := HI.out.1.trans (round_bad HJ.out HI.out.2.2.1 H2'.out H3.out.1 (.inr fc))
            clear fs fc
            go_wp2_with fail
            refine Calls.mono HFS.out ?_
            rintro e u1 ⟨rfl, rfl⟩
            go_wp2_with fail
            refine Calls.mono HFC.out ?_
            rintro e u1 ⟨rfl, rfl⟩
            go_wp2_with fail
            refine bodyPost_ret (v := .tuple #[.float .f64 0, .float .f64 0, .agg #[.int .i64 9, .int .i64 (j : Int)]]) (by simp [results, Try.results8, go_sem, r0, r1]) rfl ?_
            exact ⟨by rw [HE.out]; rfl, fput2 (HBX.out.trans (HB2.out.mono HBX.out.size)) _ (Nat.le_refl _) _ _⟩
          rw [fs] at HFS
          rw [fc] at HFC
          have HE : Hid (fsum xs = fsumGo s' c' (j + 1) (xs.drop (j + 1)) ∧ fin s' = true ∧ fin c' = true) := ⟨HI.out.1.trans (round_good HJ.out H2'.out H3.out.1 fs fc), fs, fc⟩
          clear fs fc
          go_wp2_with fail
          refine Calls.mono HFS.out ?_
          rintro e u1 ⟨rfl, rfl⟩
          go_wp2_with fail
          refine Calls.mono HFC.out ?_
          rintro e u1 ⟨rfl, rfl⟩
          go_wp2_with fail
          go_roundw
          case rel => exact ⟨j + 1, s', c', by omega, by go_num, rfl, rfl, HE.out.1, HE.out.2.1, HE.out.2.2, HB2.out⟩
          case measure => simp [intOf]; omega
        · have hjk : j = k := by omega
          subst hjk
          have HE : Hid (fsum xs = (S, C, 0, 0)) := by
            have e := HI.out.1
            rw [fsumGo_end (by rw [HL.out]; omega)] at e
            exact e
          obtain ⟨r0, r1, f0, f1⟩ := fbox_facts HX.out HI.out.2.2.2
          have HBW := hid (HBX.out.trans (HI.out.2.2.2.mono HBX.out.size))
          clear HI
          go_wp2_with fail
          refine bodyPost_ret (v := .tuple #[.float .f64 S, .float .f64 C, .agg #[.int .i64 0, .int .i64 0]]) (by simp [results, Try.results8, go_sem, r0, r1]) rfl ?_
          exact ⟨by rw [HE.out]; rfl, fput2 HBW.out _ (Nat.le_refl _) _ _⟩

end Go.Proofs.Ytalpjifjjbimkaa

/- The document's Sum of any list of floats. -/
namespace Go.Proofs.Ytalpjifjjbimkaa
open Go.RowKit
set_option linter.unusedVariables false

theorem chain_lt {a b : Nat} {u : Nat × Nat} (h : chain a b = .some u) : u.1 < 18446744073709551616 := by
  unfold chain at h
  split at h
  · cases h
  rename_i s g1
  have := (FR.some g1).1
  split at h
  · split at h
    · cases h
    split at h
    · cases h
    split at h
    · split at h
      · cases h
      split at h
      · cases h; exact this
      · cases h
    · cases h
  · cases h

set_option maxHeartbeats 3200000 in
set_option maxRecDepth 100000 in
theorem refSum_some (b o n cap : Nat) (xs : List Nat) (w : World) (hl : xs.length = n) (hb : b < w.heap.size) (hc : ∀ j, j < n → w.cell? ⟨b, o + j, none⟩ = some (.float .f64 (xs[j]?.getD 0))) (hcap : n ≤ cap) (hw : Wf xs) (hn : n ≤ 1048576) :
    Calls Try.prog 9 #[.slice (some ⟨b, o, none⟩) n cap] w fun x w' => x = .returned (sumV (fsum xs)) ∧ Below w.heap.size w w' := by
  have HW := hid hw
  have HL := hid hl
  have HBX : Hid (Below w.heap.size w (w.alloc (.cells #[.int .i64 0, .int .i64 0] 32))) := (Below.refl _ _).alloc (Nat.le_refl _) _
  have HX := hid (FBox.made w 32 #[.int .i64 0, .int .i64 0])
  have HC : Hid (∀ V, Below (w.alloc (.cells #[.int .i64 0, .int .i64 0] 32)).heap.size (w.alloc (.cells #[.int .i64 0, .int .i64 0] 32)) V → ∀ j, j < n → V.cell? ⟨b, o + j, none⟩ = some (.float .f64 (xs[j]?.getD 0))) := fun V hV j hj => ((HBX.out.trans (hV.mono HBX.out.size)).cell (p := ⟨b, o + j, none⟩) hb).trans (hc j hj)
  clear hw hl hc hb
  go_enter Try.func9, Try.ntmps9
  go_wp2_with fail
  generalize w.alloc (.cells #[.int .i64 0, .int .i64 0] 32) = X at *
  go_loopw [5] (fun t wr => ∃ k : Nat, k ≤ n ∧ t = .int .i64 k ∧ Hid (fsum xs = fsumFrom xs k (xs.drop k) ∧ ∀ i, i < k → fin (xs[i]?.getD 0) = true) ∧ wr = X) (fun t _ => n - (intOf t).toNat)
  case atStart => exact ⟨0, Nat.zero_le _, rfl, ⟨(rfl : fsum xs = fsumFrom xs 0 xs), fun i hi => absurd hi (Nat.not_lt_zero _)⟩, rfl⟩
  case round =>
    obtain ⟨k, hk, rfl, hF, hX⟩ := hrel
    have hX' := hX.symm
    clear hX
    subst hX'
    by_cases hlt : k < n
    · have hcx := HC.out X (Below.refl _ _) k hlt
      have hz64 := HW.out k
      have HG := hid (fsumFrom_fin (l0 := xs) (l := xs) (k := k) (by rw [HL.out]; exact hlt))
      have HG2 := hid (fsumFrom_bad (l0 := xs) (l := xs) (k := k) (by rw [HL.out]; exact hlt))
      have HQ : Hid (∀ y, xs[k]?.getD 0 = y → fin y = true → ∀ i, i < k + 1 → fin (xs[i]?.getD 0) = true) := fun y hy hf i hi => by
        by_cases hik : i = k
        · subst hik; rw [hy]; exact hf
        · exact hF.out.2 i (by omega)
      obtain ⟨z, hz⟩ : ∃ z, xs[k]?.getD 0 = z := ⟨_, rfl⟩
      have HZ := hid hz
      rw [hz] at hcx hz64 HG HG2
      have HFI := hid (refFinite_any z X hz64)
      obtain ⟨r0, r1, f0, f1⟩ := fbox_facts HX.out (Below.refl _ _)
      clear hz64 hz
      cases hf : fin z
      · rw [hf] at HFI
        have HR : Hid (fsum xs = (0, 0, 8, (k : Int))) := hF.out.1.trans (HG2.out hf)
        clear hf HG HG2 hF HQ
        go_wp2_with fail
        refine Calls.mono HFI.out ?_
        rintro e w1 ⟨rfl, rfl⟩
        go_wp2_with fail
        refine bodyPost_ret (v := .tuple #[.float .f64 0, .float .f64 0, .agg #[.int .i64 8, .int .i64 (k : Int)]]) (by simp [results, Try.results9, go_sem, r0, r1]) rfl ?_
        exact ⟨by rw [HR.out]; rfl, fput2 HBX.out _ (Nat.le_refl _) _ _⟩
      · rw [hf] at HFI
        have HR : Hid (fsum xs = fsumFrom xs (k + 1) (xs.drop (k + 1)) ∧ ∀ i, i < k + 1 → fin (xs[i]?.getD 0) = true) := ⟨hF.out.1.trans (HG.out hf), HQ.out z HZ.out hf⟩
        clear hf HG HG2 hF HQ
        go_wp2_with fail
        refine Calls.mono HFI.out ?_
        rintro e w1 ⟨rfl, rfl⟩
        go_wp2_with fail
        go_roundw
        case rel => exact ⟨k + 1, by omega, by go_num, HR, by first | rfl | trivial⟩
        case measure => simp [intOf]; omega
    · have hkn : k = n := by omega
      have HR : Hid (fsum xs = fsumGo 0 0 0 (xs.drop 0)) := by
        have e := hF.out.1
        rw [fsumFrom_end (by rw [HL.out]; omega)] at e
        exact e
      have HFN := hid hF.out.2
      subst hkn
      clear hF hlt hk
      go_wp2_with fail
      go_loopw [6, 7, 8] (fun s c t wq => ∃ j S C : Nat, j ≤ k ∧ t = .int .i64 j ∧ s = .float .f64 S ∧ c = .float .f64 C ∧ Hid (fsum xs = fsumGo S C j (xs.drop j) ∧ fin S = true ∧ fin C = true ∧ S < 18446744073709551616 ∧ Below X.heap.size X wq)) (fun _ _ t _ => k - (intOf t).toNat)
      case atStart => exact ⟨0, 0, 0, Nat.zero_le _, rfl, rfl, rfl, HR.out, fin0, fin0, by decide, Below.refl _ _⟩
      case round =>
        obtain ⟨j, S, C, hj, rfl, rfl, rfl, HI⟩ := hrel
        by_cases hlt : j < k
        · have hcx := HC.out wr HI.out.2.2.2.2 j hlt
          have HJ : Hid (j < xs.length) := by show _; rw [HL.out]; exact hlt
          have HFZ := hid (HFN.out j hlt)
          have HWZ := hid (HW.out j)
          have HNO := hid (fsumGo_none (s := S) (c := C) HJ.out)
          have HOV : Hid (∀ t e d, chain S (xs[j]?.getD 0) = some (t, e) → floatBits .add .f64 C e = some d → fin d = false → fsumGo S C j (xs.drop j) = (0, 0, 9, (j : Int))) := fun t e d g1 g2 g3 => fsumGo_over HJ.out g1 g2 g3
          have HST : Hid (∀ t e d, chain S (xs[j]?.getD 0) = some (t, e) → floatBits .add .f64 C e = some d → fin d = true → fsumGo S C j (xs.drop j) = fsumGo t d (j + 1) (xs.drop (j + 1))) := fun t e d g1 g2 g3 => fsumGo_step HJ.out g1 g2 g3
          generalize xs[j]?.getD 0 = z at *
          have HTW := hid (refTwoSum_any S z wr HI.out.2.2.2.1 HWZ.out)
          cases hch : chain S z with
          | none =>
            rw [tsum_over HI.out.2.1 HFZ.out hch] at HTW
            have HTV : Hid (Calls Try.prog 6 #[.float .f64 S, .float .f64 z] wr fun x w' => x = .returned (.tuple #[.float .f64 0, .float .f64 0, .int .i64 9]) ∧ Below wr.heap.size wr w') := HTW.out
            have HE : Hid (fsum xs = (0, 0, 9, (j : Int))) := HI.out.1.trans (HNO.out hch)
            clear hch HTW HNO HOV HST
            go_wp2_with fail
            refine Calls.mono HTV.out ?_
            rintro e w1 ⟨rfl, hb1⟩
            have HB2 := hid (HI.out.2.2.2.2.trans (hb1.mono HI.out.2.2.2.2.size))
            obtain ⟨r0, r1, f0, f1⟩ := fbox_facts HX.out HB2.out
            clear hb1 HTV
            go_wp2_with fail
            refine bodyPost_ret (v := .tuple #[.float .f64 0, .float .f64 0, .agg #[.int .i64 9, .int .i64 (j : Int)]]) (by simp [results, Try.results9, go_sem, r0, r1]) rfl ?_
            exact ⟨by rw [HE.out]; rfl, fput2 (HBX.out.trans (HB2.out.mono HBX.out.size)) _ (Nat.le_refl _) _ _⟩
          | some u =>
            obtain ⟨t, e'⟩ := u
            rw [tsum_ok HI.out.2.1 HFZ.out hch] at HTW
            have HTV : Hid (Calls Try.prog 6 #[.float .f64 S, .float .f64 z] wr fun x w' => x = .returned (.tuple #[.float .f64 t, .float .f64 e', .int .i64 0]) ∧ Below wr.heap.size wr w') := HTW.out
            obtain ⟨d, hd⟩ := add_some HI.out.2.2.1 (chain_back hch).2.1
            have HD := hid (FR.some hd).1
            have hrun : ∀ V, (binOp .add 24 (.float .f64 C) (.float .f64 e')).run Try.prog V = .ok (.float .f64 d) V := fun V => run_float_arith V _ _ _ _ _ _ hd
            cases fd : fin d
            · have HE : Hid (fsum xs = (0, 0, 9, (j : Int))) := HI.out.1.trans (HOV.out t e' d hch hd fd)
              have FD := hid fd
              clear hch HTW HNO HOV HST hd fd
              go_wp2_with fail
              refine Calls.mono HTV.out ?_
              rintro e w1 ⟨rfl, hb1⟩
              have HB2 := hid (HI.out.2.2.2.2.trans (hb1.mono HI.out.2.2.2.2.size))
              obtain ⟨r0, r1, f0, f1⟩ := fbox_facts HX.out HB2.out
              have HFI := hid (refFinite_any d w1 HD.out)
              rw [FD.out] at HFI
              clear hb1 HTV
              go_wp2_with fail
              refine Calls.mono HFI.out ?_
              rintro e u1 ⟨rfl, rfl⟩
              go_wp2_with fail
              refine bodyPost_ret (v := .tuple #[.float .f64 0, .float .f64 0, .agg #[.int .i64 9, .int .i64 (j : Int)]]) (by simp [results, Try.results9, go_sem, r0, r1]) rfl ?_
              exact ⟨by rw [HE.out]; rfl, fput2 (HBX.out.trans (HB2.out.mono HBX.out.size)) _ (Nat.le_refl _) _ _⟩
            · have HE : Hid (fsum xs = fsumGo t d (j + 1) (xs.drop (j + 1)) ∧ fin t = true ∧ fin d = true ∧ t < 18446744073709551616) := ⟨HI.out.1.trans (HST.out t e' d hch hd fd), (chain_back hch).1, fd, chain_lt hch⟩
              have FD := hid fd
              clear hch HTW HNO HOV HST hd fd
              go_wp2_with fail
              refine Calls.mono HTV.out ?_
              rintro e w1 ⟨rfl, hb1⟩
              have HB2 := hid (HI.out.2.2.2.2.trans (hb1.mono HI.out.2.2.2.2.size))
              have HFI := hid (refFinite_any d w1 HD.out)
              rw [FD.out] at HFI
              clear hb1 HTV
              go_wp2_with fail
              refine Calls.mono HFI.out ?_
              rintro e u1 ⟨rfl, rfl⟩
              go_wp2_with fail
              go_roundw
              case rel => exact ⟨j + 1, t, d, by omega, by go_num, rfl, rfl, HE.out.1, HE.out.2.1, HE.out.2.2.1, HE.out.2.2.2, HB2.out⟩
              case measure => simp [intOf]; omega
        · have hjk : j = k := by omega
          subst hjk
          have HE : Hid (fsum xs = (S, C, 0, 0)) := by
            have e := HI.out.1
            rw [fsumGo_end (by rw [HL.out]; omega)] at e
            exact e
          obtain ⟨r0, r1, f0, f1⟩ := fbox_facts HX.out HI.out.2.2.2.2
          have HBW := hid (HBX.out.trans (HI.out.2.2.2.2.mono HBX.out.size))
          clear HI
          go_wp2_with fail
          refine bodyPost_ret (v := .tuple #[.float .f64 S, .float .f64 C, .agg #[.int .i64 0, .int .i64 0]]) (by simp [results, Try.results9, go_sem, r0, r1]) rfl ?_
          exact ⟨by rw [HE.out]; rfl, fput2 HBW.out _ (Nat.le_refl _) _ _⟩

end Go.Proofs.Ytalpjifjjbimkaa

/- Sum of both sides, of any list of floats; what the law RealSums does with them. -/
namespace Go.Proofs.Ytalpjifjjbimkaa
open Go.RowKit
set_option linter.unusedVariables false

set_option maxHeartbeats 1600000 in
set_option maxRecDepth 100000 in
theorem Sum_nil (a : Option Addr) (cap : Nat) (w : World) :
    Calls Try.prog 8 #[.slice a 0 cap] w fun x w' => x = .returned (sumV (fsum [])) ∧ Below w.heap.size w w' := by
  have HBX : Hid (Below w.heap.size w (w.alloc (.cells #[.int .i64 0, .int .i64 0] 32))) := (Below.refl _ _).alloc (Nat.le_refl _) _
  have HX := hid (FBox.made w 32 #[.int .i64 0, .int .i64 0])
  go_enter Try.func8, Try.ntmps8
  go_wp2_with fail
  generalize w.alloc (.cells #[.int .i64 0, .int .i64 0] 32) = X at *
  obtain ⟨r0, r1, f0, f1⟩ := fbox_facts HX.out (Below.refl _ _)
  refine wp_loop_rounds 1 ?_
  rw [rounds_succ]
  go_wp2_with fail
  refine wp_loop_rounds 1 ?_
  rw [rounds_succ]
  go_wp2_with fail
  refine bodyPost_ret (v := .tuple #[.float .f64 0, .float .f64 0, .agg #[.int .i64 0, .int .i64 0]]) (by simp [results, Try.results8, go_sem, r0, r1]) rfl ?_
  exact ⟨rfl, fput2 HBX.out _ (Nat.le_refl _) _ _⟩

theorem Sum_any (a : Option Addr) (n cap : Nat) (xs : List Nat) (w : World) (h : RdF w w.heap.size a n cap xs) (hw : Wf xs) (hn : n ≤ 1048576) :
    Calls Try.prog 8 #[.slice a n cap] w fun x w' => x = .returned (sumV (fsum xs)) ∧ Below w.heap.size w w' := by
  obtain ⟨hl, hc, hcap, _⟩ := h
  rcases hc with h0 | ⟨b, o, rfl, hb, hc⟩
  · subst h0
    have hx : xs = [] := List.eq_nil_of_length_eq_zero hl
    subst hx
    exact Sum_nil a cap w
  · exact Sum_some b o n cap xs w hl hb hc hcap hw hn

set_option maxHeartbeats 1600000 in
set_option maxRecDepth 100000 in
theorem refSum_nil (a : Option Addr) (cap : Nat) (w : World) :
    Calls Try.prog 9 #[.slice a 0 cap] w fun x w' => x = .returned (sumV (fsum [])) ∧ Below w.heap.size w w' := by
  have HBX : Hid (Below w.heap.size w (w.alloc (.cells #[.int .i64 0, .int .i64 0] 32))) := (Below.refl _ _).alloc (Nat.le_refl _) _
  have HX := hid (FBox.made w 32 #[.int .i64 0, .int .i64 0])
  go_enter Try.func9, Try.ntmps9
  go_wp2_with fail
  generalize w.alloc (.cells #[.int .i64 0, .int .i64 0] 32) = X at *
  obtain ⟨r0, r1, f0, f1⟩ := fbox_facts HX.out (Below.refl _ _)
  refine wp_loop_rounds 1 ?_
  rw [rounds_succ]
  go_wp2_with fail
  refine wp_loop_rounds 1 ?_
  rw [rounds_succ]
  go_wp2_with fail
  refine bodyPost_ret (v := .tuple #[.float .f64 0, .float .f64 0, .agg #[.int .i64 0, .int .i64 0]]) (by simp [results, Try.results9, go_sem, r0, r1]) rfl ?_
  exact ⟨rfl, fput2 HBX.out _ (Nat.le_refl _) _ _⟩

theorem refSum_any (a : Option Addr) (n cap : Nat) (xs : List Nat) (w : World) (h : RdF w w.heap.size a n cap xs) (hw : Wf xs) (hn : n ≤ 1048576) :
    Calls Try.prog 9 #[.slice a n cap] w fun x w' => x = .returned (sumV (fsum xs)) ∧ Below w.heap.size w w' := by
  obtain ⟨hl, hc, hcap, _⟩ := h
  rcases hc with h0 | ⟨b, o, rfl, hb, hc⟩
  · subst h0
    have hx : xs = [] := List.eq_nil_of_length_eq_zero hl
    subst hx
    exact refSum_nil a cap w
  · exact refSum_some b o n cap xs w hl hb hc hcap hw hn

end Go.Proofs.Ytalpjifjjbimkaa

/- The law RealSums answers true, and writes nothing that was there: whatever two floats and list of floats come in, by their bits. -/
namespace Go.Proofs.Ytalpjifjjbimkaa
open Go.RowKit
set_option linter.unusedVariables false

/-- The slice reads as these numbers of 64 bits. -/
def RdU (w : World) (B : Nat) (a : Option Addr) (n cap : Nat) (xs : List Nat) : Prop :=
  xs.length = n ∧ Wf xs ∧ (n = 0 ∨ ∃ b o, a = some ⟨b, o, none⟩ ∧ b < B ∧ ∀ j, j < n → w.cell? ⟨b, o + j, none⟩ = some (.int .u64 ((xs[j]?.getD 0 : Nat) : Int))) ∧ n ≤ cap

theorem eqFault (a b : Int) (w : World) : (Op.equalIn 10000 32 (.agg #[.int .i64 a, .int .i64 b]) (.agg #[.int .i64 a, .int .i64 b])).run Try.prog w = .ok true w := by
  have u1 := Try.underlying27
  have a1 := Try.isAgg27
  have z1 := Try.sizeOf27
  have u3 := Try.underlying3
  have a3 := Try.isAgg3
  have z3 := Try.sizeOf3
  have hS : Try.prog.underlying 32 = some (.struct (Try.prog.fieldsOf 32)) := by kernel_rfl
  rw [show (10000 : Nat) = 9999 + 1 from rfl, run_equalIn_agg w 9999 32 _ _ hS (by kernel_rfl)]
  simp only [Program.fieldsOf, Try.underlying32]
  go_simp

set_option maxHeartbeats 3200000 in
set_option maxRecDepth 100000 in
theorem realSums_walk (x y : Nat) (a : Option Addr) (n cap : Nat) (xs : List Nat) (w : World) (hx : x < 18446744073709551616) (hy : y < 18446744073709551616) (h : RdU w w.heap.size a n cap xs) (hn : n ≤ 9223372036854775807) :
    Calls Try.prog 3 #[.int .u64 (x : Int), .int .u64 (y : Int), .slice a n cap] w fun e w' => e = .returned (.bool true) ∧ Below w.heap.size w w' := by
  by_cases hbig : 3000 < n
  · clear h hx hy
    go_enter Try.func3, Try.ntmps3
    go_wp2_with fail
    go_ret
    exact ⟨rfl, Below.refl _ _⟩
  have fx := from_run x
  have fy := from_run y
  go_enter Try.func3, Try.ntmps3
  go_wp2_with fail
  obtain ⟨i0, hi, hz0, hz1, hz2⟩ := info_parts Try.infoF
  obtain ⟨hl, hwf, hc, hcap⟩ := h
  have HL := hid hl
  have HWF := hid hwf
  have HXY := hid (And.intro hx hy)
  have HC : Hid (∀ V, Below w.heap.size w V → n = 0 ∨ ∃ b o, a = some ⟨b, o, none⟩ ∧ ∀ j, j < n → V.cell? ⟨b, o + j, none⟩ = some (.int .u64 ((xs[j]?.getD 0 : Nat) : Int))) := fun V hb => hc.imp id (fun ⟨b, o, ha, hlt, hcc⟩ => ⟨b, o, ha, fun j hj => (hb.cell (p := ⟨b, o + j, none⟩) hlt).trans (hcc j hj)⟩)
  clear hl hwf hc hx hy
  go_loopw [9, 10] (fun v t wr => ∃ k : Nat, k ≤ n ∧ t = .int .i64 k ∧ wr.ownsRow w.heap.size 24 1 v k ((xs.take k).map (Value.float .f64)) ∧ Below w.heap.size w wr) (fun _ t _ => n - (intOf t).toNat)
  case atStart => exact ⟨0, Nat.zero_le _, rfl, by simpa using World.ownsRow_nil w w.heap.size 24 1, Below.refl _ _⟩
  case round =>
    obtain ⟨k, hk, rfl, ho, hb⟩ := hrel
    by_cases hlt : k < n
    · rcases HC.out wr hb with h0 | ⟨b, o, rfl, hcc⟩
      · omega
      have hcx := hcc k hlt
      have hsz := hb.size
      have HM : Hid ((xs.take (k + 1)).map (Value.float .f64) = (xs.take k).map (Value.float .f64) ++ [.float .f64 (xs[k]?.getD 0)]) := by
        show _ = _
        have hk' : k < xs.length := by rw [HL.out]; exact hlt
        rw [List.take_succ_eq_append_getElem hk', List.map_append, List.getElem?_eq_getElem hk']
        rfl
      generalize xs[k]?.getD 0 = z at *
      generalize (xs.take k).map (Value.float .f64) = R at *
      have fz := from_run z
      clear hcc
      go_wp2_with (at_builtin; refine wpList_append_own _ rfl _ _ 26 rfl w.heap.size 24 i0 (.float .f64 0) 1 8 Try.underlying26 hi hz0 hz1 hz2 rfl (by decide) _ _ _ rfl (ho.alloc _) ⟨wr.heap.size, 0, none⟩ 1 1 [.float .f64 z] rfl rfl (cell_one_new _ _ _) (by simp [Value.oneCell']) (by unfold maxLen; omega) (by omega) (by simp; omega) ?_)
      intro v' w2 ho2 hg2 _
      have hb2 : Below w.heap.size w w2 := (hb.alloc (by omega) _).grown hg2 (by simp; omega) (fun g hg => (ho.lt g hg).1)
      clear hg2
      go_wp2
      go_roundw
      case rel => exact ⟨k + 1, by omega, by go_num, by rw [HM.out]; exact ho2, hb2⟩
      case measure => simp [intOf]; omega
    · have hkn : k = n := by omega
      subst hkn
      have e0 : xs.take k = xs := List.take_of_length_le (by rw [HL.out]; omega)
      rw [e0] at ho
      have ho' := ho
      clear e0 ho hlt hk HC
      obtain ⟨a1, c1, rfl, hr⟩ := RdF.own ho'
      have HR := hid hr
      have HB := hid hb
      clear hr hb ho'
      have HT1 := hid (TwoSum_any x y wr HXY.out.1 HXY.out.2)
      have HTF := hid (tsum_fin x y)
      obtain ⟨S, T, E, hT⟩ : ∃ S T E, tsum x y = (S, T, E) := ⟨_, _, _, rfl⟩
      have HTE := hid hT
      rw [hT] at HT1 HTF
      have HT1' : Hid (Calls Try.prog 5 #[.float .f64 x, .float .f64 y] wr fun e w' => e = .returned (.tuple #[.float .f64 S, .float .f64 T, .int .i64 E]) ∧ Below wr.heap.size wr w') := HT1.out
      clear hT HT1
      go_wp2_with fail
      refine Calls.mono HT1'.out ?_
      clear HT1'
      rintro e w1 ⟨rfl, hb1⟩
      have HB1 := hid hb1
      have HT2 := hid (refTwoSum_any x y w1 HXY.out.1 HXY.out.2)
      rw [HTE.out] at HT2
      have HT2' : Hid (Calls Try.prog 6 #[.float .f64 x, .float .f64 y] w1 fun e w' => e = .returned (.tuple #[.float .f64 S, .float .f64 T, .int .i64 E]) ∧ Below w1.heap.size w1 w') := HT2.out
      clear hb1 HT2
      go_wp2_with fail
      refine Calls.mono HT2'.out ?_
      clear HT2'
      rintro e w2 ⟨rfl, hb2⟩
      have HB2 := hid (b2 HB1.out hb2)
      have HR2 := hid (HR.out.later HB2.out HB2.out.size)
      have HLF := hid (lentFloats_any a1 k c1 xs w2 HR2.out (by omega))
      clear hb2
      go_wp2_with fail
      refine Calls.mono HLF.out ?_
      clear HLF
      rintro e w3 ⟨v3, rfl, ho3, hb3⟩
      obtain ⟨a3, c3, rfl, hr3⟩ := RdF.own ho3
      have HR3 := hid hr3
      have HB3 := hid (b2 HB2.out hb3)
      have hcap3 : k + 3 ≤ c3 := hr3.2.2.1
      have HFR := hid (hr3.front k (by omega))
      have HTK : Hid ((xs ++ fmarks 3).take k = xs) := by
        show _ = _
        rw [List.take_append_of_le_length (by rw [HL.out]; omega), List.take_of_length_le (by rw [HL.out]; omega)]
      rw [HTK.out] at HFR
      have HS1 := hid (Sum_any a3 k c3 xs w3 HFR.out HWF.out (by omega))
      have HFF := hid (fsumFrom_good xs xs 0)
      obtain ⟨P, Q, G1, G2, hS⟩ : ∃ P Q G1 G2, fsum xs = (P, Q, G1, G2) := ⟨_, _, _, _, rfl⟩
      have HSE := hid hS
      have HFF' : Hid (fin P = true ∧ fin Q = true) := by
        have e := HFF.out
        have e2 : fsumFrom xs 0 xs = (P, Q, G1, G2) := hS
        rw [e2] at e
        exact e
      rw [hS] at HS1
      have HS1' : Hid (Calls Try.prog 8 #[.slice a3 k c3] w3 fun e w' => e = .returned (.tuple #[.float .f64 P, .float .f64 Q, .agg #[.int .i64 G1, .int .i64 G2]]) ∧ Below w3.heap.size w3 w') := HS1.out
      obtain ⟨ad, rfl⟩ : ∃ ad, a3 = some ad := by
        cases a3 with
        | none => have := hr3.2.2.2.2 rfl; omega
        | some ad => exact ⟨ad, rfl⟩
      clear hS HS1 HFF ho3 hr3 hb3 HFR
      go_wp2_with fail
      refine Calls.mono HS1'.out ?_
      clear HS1'
      rintro e w4 ⟨rfl, hb4⟩
      have HB4 := hid (b2 HB3.out hb4)
      have HB5 : Hid (Below wr.heap.size wr (w4.alloc (.cells #[.int .i64 G1, .int .i64 G2] 32))) := b2 HB4.out ((Below.refl _ _).alloc (Nat.le_refl _) _)
      have HG := hid (FBox.made w4 32 #[.int .i64 G1, .int .i64 G2])
      have H35 : Hid (Below w3.heap.size w3 (w4.alloc (.cells #[.int .i64 G1, .int .i64 G2] 32))) := b2 hb4 ((Below.refl _ _).alloc (Nat.le_refl _) _)
      have HS2 := hid (refSum_any a1 k c1 xs _ (HR.out.later HB5.out HB5.out.size) HWF.out (by omega))
      rw [HSE.out] at HS2
      have HS2' : Hid (Calls Try.prog 9 #[.slice a1 k c1] (w4.alloc (.cells #[.int .i64 G1, .int .i64 G2] 32)) fun e w' => e = .returned (.tuple #[.float .f64 P, .float .f64 Q, .agg #[.int .i64 G1, .int .i64 G2]]) ∧ Below (w4.alloc (.cells #[.int .i64 G1, .int .i64 G2] 32)).heap.size (w4.alloc (.cells #[.int .i64 G1, .int .i64 G2] 32)) w') := HS2.out
      clear hb4 HS2 HB4
      go_wp2_with fail
      generalize w4.alloc (.cells #[.int .i64 G1, .int .i64 G2] 32) = w5 at *
      refine Calls.mono HS2'.out ?_
      clear HS2'
      rintro e w6 ⟨rfl, hb6⟩
      have HB67 : Hid (Below w6.heap.size w6 (w6.alloc (.cells #[.int .i64 G1, .int .i64 G2] 32))) := (Below.refl _ _).alloc (Nat.le_refl _) _
      have HB57 := hid (b2 hb6 HB67.out)
      have HB7 := hid (b2 HB5.out HB57.out)
      have H37 := hid (b2 H35.out HB57.out)
      obtain ⟨g0, g1, _, _⟩ := fbox_facts HG.out HB57.out
      obtain ⟨k0, k1, _, _⟩ := fbox_facts (FBox.made w6 32 #[.int .i64 G1, .int .i64 G2]) (Below.refl _ _)
      have hEQ := eqFault G1 G2
      have hF1 : Hid (∀ V, Calls Try.prog 10 #[.float .f64 S, .float .f64 S] V fun e w' => e = .returned (.bool true) ∧ w' = V) := fun V => sameFloat_eq S V HTF.out.1
      have hF2 : Hid (∀ V, Calls Try.prog 10 #[.float .f64 T, .float .f64 T] V fun e w' => e = .returned (.bool true) ∧ w' = V) := fun V => sameFloat_eq T V HTF.out.2
      have hF3 : Hid (∀ V, Calls Try.prog 10 #[.float .f64 P, .float .f64 P] V fun e w' => e = .returned (.bool true) ∧ w' = V) := fun V => sameFloat_eq P V HFF'.out.1
      have hF4 : Hid (∀ V, Calls Try.prog 10 #[.float .f64 Q, .float .f64 Q] V fun e w' => e = .returned (.bool true) ∧ w' = V) := fun V => sameFloat_eq Q V HFF'.out.2
      have hKP := hid (keptFloats_eq a1 k c1 xs (some ad) c3 _ (HR3.out.later H37.out H37.out.size) (HR.out.later HB7.out HB7.out.size) (by omega))
      clear hb6 HB67
      go_wp2_with fail
      generalize w6.alloc (.cells #[.int .i64 G1, .int .i64 G2] 32) = w7 at *
      refine Calls.mono (hF1.out _) ?_
      rintro e u1 ⟨rfl, rfl⟩
      go_wp2_with fail
      refine Calls.mono (hF2.out _) ?_
      rintro e u2 ⟨rfl, rfl⟩
      go_wp2_with fail
      refine Calls.mono (hF3.out _) ?_
      rintro e u3 ⟨rfl, rfl⟩
      go_wp2_with fail
      refine Calls.mono (hF4.out _) ?_
      rintro e u4 ⟨rfl, rfl⟩
      go_wp2_with fail
      refine Calls.mono hKP.out ?_
      rintro e u5 ⟨rfl, hb8⟩
      have HB8 := hid (b2 HB.out (b2 HB7.out hb8))
      clear hb8
      go_wp2_with fail
      go_ret
      exact ⟨rfl, HB8.out⟩

theorem cell_blk {w : World} {b o : Nat} {v : Value} (h : w.cell? ⟨b, o, none⟩ = some v) : b < w.heap.size := by
  by_cases hb : b < w.heap.size
  · exact hb
  · have : w.heap[b]? = none := by simp; omega
    simp [World.cell?, this] at h

/-- A slice of numbers of 64 bits that came in is read. -/
theorem rdu_of_row {w : World} {a : Option Addr} {len cap : Nat} {zs : List Int}
    (h : (a = none ∧ len = 0 ∧ cap = 0 ∧ zs = []) ∨ ∃ x, a = some x ∧ len ≤ cap ∧ cap ≤ maxLen ∧ zs.length = cap ∧ (∀ i, i < zs.length → w.cell? (x.add i) = some (.int .u64 (zs.getD i 0))) ∧ ∀ n ∈ zs, (Lit.int .u64 n).wf = true) :
    RdU w w.heap.size a len cap ((zs.take len).map Int.toNat) ∧ len ≤ 9223372036854775807 := by
  have hu : ∀ n ∈ zs, 0 ≤ n ∧ n < 18446744073709551616 := by
    rcases h with ⟨_, _, _, rfl⟩ | ⟨x, _, _, _, _, _, hw⟩
    · intro n hn; simp at hn
    · intro n hn
      have := hw n hn
      have h1 : IntKind.u64.min = 0 := rfl
      have h2 : IntKind.u64.max = 18446744073709551615 := rfl
      simp only [Lit.wf, Bool.and_eq_true, decide_eq_true_eq] at this
      omega
  have hwf : Wf ((zs.take len).map Int.toNat) := by
    intro j
    by_cases hj : j < ((zs.take len).map Int.toNat).length
    · rw [List.getElem?_eq_getElem hj]
      have hm := List.getElem_mem hj
      obtain ⟨z, hz, e⟩ := List.mem_map.1 hm
      have := hu z (List.mem_of_mem_take hz)
      show ((zs.take len).map Int.toNat)[j] < _
      rw [← e]
      omega
    · rw [List.getElem?_eq_none (by omega)]; show 0 < _; omega
  rcases h with ⟨rfl, rfl, rfl, rfl⟩ | ⟨x, rfl, hl, hm, hz, hc, hw⟩
  · exact ⟨⟨rfl, hwf, .inl rfl, Nat.le_refl _⟩, by omega⟩
  · refine ⟨⟨by rw [List.length_map, List.length_take]; omega, hwf, ?_, hl⟩, by unfold maxLen at hm; omega⟩
    by_cases h0 : len = 0
    · exact .inl h0
    · right
      obtain ⟨b, o, spot⟩ := x
      have hc0 := hc 0 (by omega)
      have hs : spot = none := by simpa [Addr.add] using World.cell?_spot hc0
      subst hs
      refine ⟨b, o, rfl, cell_blk (by simpa [Addr.add] using hc0), fun j hj => ?_⟩
      have := hc j (by omega)
      rw [Addr.add_lit] at this
      have hjl : j < zs.length := by omega
      have e : (((zs.take len).map Int.toNat)[j]?.getD 0 : Nat) = (zs.getD j 0).toNat := by
        rw [List.getElem?_map, List.getElem?_take, if_pos hj, List.getElem?_eq_getElem hjl]
        simp [List.getD, hjl]
      have hmem : zs.getD j 0 ∈ zs := by
        simp only [List.getD, List.getElem?_eq_getElem hjl, Option.getD_some]
        exact List.getElem_mem hjl
      rw [this, e, Int.toNat_of_nonneg (hu _ hmem).1]

theorem realSums_law (x y : Int) (a : Option Addr) (n cap : Nat) (zs : List Int) (w : World) (hx : 0 ≤ x ∧ x ≤ 18446744073709551615) (hy : 0 ≤ y ∧ y ≤ 18446744073709551615)
    (h : (a = none ∧ n = 0 ∧ cap = 0 ∧ zs = []) ∨ ∃ x, a = some x ∧ n ≤ cap ∧ cap ≤ maxLen ∧ zs.length = cap ∧ (∀ i, i < zs.length → w.cell? (x.add i) = some (.int .u64 (zs.getD i 0))) ∧ ∀ n ∈ zs, (Lit.int .u64 n).wf = true) :
    Calls Try.prog 3 #[.int .u64 x, .int .u64 y, .slice a n cap] w fun e w' => e = .returned (.bool true) ∧ Below w.heap.size w w' := by
  obtain ⟨X, rfl⟩ := Int.eq_ofNat_of_zero_le hx.1
  obtain ⟨Y, rfl⟩ := Int.eq_ofNat_of_zero_le hy.1
  obtain ⟨h1, h2⟩ := rdu_of_row h
  exact realSums_walk X Y a n cap _ w (by omega) (by omega) h1 h2

end Go.Proofs.Ytalpjifjjbimkaa

