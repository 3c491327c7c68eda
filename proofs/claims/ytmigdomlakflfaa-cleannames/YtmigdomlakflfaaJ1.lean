/- My texts on the way to CleanNames, one behind the other: contracts of the program and of the document's answers. -/
import Derived.WalkKit
import Derived.WalkLawsBesides
import Derived.WalkSpells
import Derived.Laws.BitsAllLaws
import Derived.Laws.CopyOwn
import Derived.Laws.AppendOwnNone
import Derived.Maps.OwnSet
import Derived.Maps.Ext
import Derived.Maps.RangeWalk
import Derived.Test.YtmigdomlakflfaaChecked
import Derived.Handy
import Derived.Deep.RegionHeld3
import Derived.RegionTactic
import Derived.ChangeAlike
import Derived.Carry
import Derived.Deep.Cut
import Derived.Maps.AppendAt
import Derived.Sort.OwnSortedInts
import Derived.Deep.Slices
import Derived.OpenShut
import Derived.ChangeArms
import Derived.Lib.SmallJoins
import Derived.Deep.RegionLaw
/- Lists of 32-bit words as plain data: their trimmed length, their value, when they are read out of memory. Nothing here speaks of the program. -/
namespace Go.Proofs.Ytmigdomlakflfaa
open Go.RowKit

theorem hid {p : Prop} (h : p) : Hid p := h

/-- Each number is a word of 32 bits. -/
def Wd (zs : List Int) : Prop := ∀ z ∈ zs, 0 ≤ z ∧ z ≤ 4294967295

theorem Wd.at {zs : List Int} (h : Wd zs) (j : Nat) : 0 ≤ zs[j]?.getD 0 ∧ zs[j]?.getD 0 ≤ 4294967295 := by
  by_cases hj : j < zs.length
  · rw [List.getElem?_eq_getElem hj]; exact h _ (List.getElem_mem hj)
  · rw [List.getElem?_eq_none (by omega)]; exact ⟨by decide, by decide⟩

theorem Wd.take {zs : List Int} (h : Wd zs) (k : Nat) : Wd (zs.take k) := fun z hz => h z (List.mem_of_mem_take hz)
theorem Wd.drop {zs : List Int} (h : Wd zs) (k : Nat) : Wd (zs.drop k) := fun z hz => h z (List.mem_of_mem_drop hz)
theorem Wd.append {zs ys : List Int} (h : Wd zs) (g : Wd ys) : Wd (zs ++ ys) := fun z hz => (List.mem_append.1 hz).elim (h z) (g z)
theorem Wd.nil : Wd [] := fun _ hz => by simp at hz
theorem Wd.cons {z : Int} {zs : List Int} (h0 : 0 ≤ z ∧ z ≤ 4294967295) (h : Wd zs) : Wd (z :: zs) := fun y hy => by
  rcases List.mem_cons.1 hy with rfl | hy
  · exact h0
  · exact h y hy
theorem Wd.one {z : Int} (h0 : 0 ≤ z ∧ z ≤ 4294967295) : Wd [z] := Wd.cons h0 Wd.nil
theorem Wd.replicate (n : Nat) : Wd (List.replicate n 0) := fun z hz => by
  have := (List.mem_replicate.1 hz).2; omega
theorem Wd.set {zs : List Int} (h : Wd zs) (j : Nat) {z : Int} (h0 : 0 ≤ z ∧ z ≤ 4294967295) : Wd (zs.set j z) := fun y hy => by
  rcases List.mem_or_eq_of_mem_set hy with hy | rfl
  · exact h y hy
  · exact h0
/-- How many of the first k words stay when noughts at their end are dropped. -/
def szTo (zs : List Int) : Nat → Nat
  | 0 => 0
  | k + 1 => if zs[k]?.getD 0 = 0 then szTo zs k else k + 1
def sz (zs : List Int) : Nat := szTo zs zs.length
def trimmed (zs : List Int) : List Int := zs.take (sz zs)

theorem Wd.trimmed {zs : List Int} (h : Wd zs) : Wd (trimmed zs) := h.take _
/-- The slice whose address is 'a', whose length is 'n' and whose capacity is 'cap' reads as 'zs' in the world 'w': below block number B. -/
def Reads (w : World) (B : Nat) (a : Option Addr) (n cap : Nat) (zs : List Int) : Prop :=
  zs.length = n ∧ Wd zs ∧ (n = 0 ∨ ∃ b o, a = some ⟨b, o, none⟩ ∧ b < B ∧ ∀ j, j < n → w.cell? ⟨b, o + j, none⟩ = some (.int .u32 (zs[j]?.getD 0))) ∧ n ≤ cap ∧ cap ≤ maxLen ∧ (a = none → cap = 0)

theorem Reads.later {w w' : World} {B B' : Nat} {a : Option Addr} {n cap : Nat} {zs : List Int} (h : Reads w B a n cap zs) (hb : Below B w w') (hB : B ≤ B') : Reads w' B' a n cap zs := by
  obtain ⟨h1, h2, h3, h4⟩ := h
  refine ⟨h1, h2, h3.imp id ?_, h4⟩
  rintro ⟨b, o, rfl, hlt, hc⟩
  exact ⟨b, o, rfl, by omega, fun j hj => (hb.cell (p := ⟨b, o + j, none⟩) hlt).trans (hc j hj)⟩

/-- What the call owns is read as its words. -/
theorem Reads.own {w : World} {base e : Nat} {v : Value} {zs : List Int} {n : Nat} (h : w.ownsRow base e 1 v n (zs.map (Value.int .u32))) (hw : Wd zs) :
    ∃ a cap, v = .slice a n cap ∧ Reads w w.heap.size a n cap zs := by
  have hl := h.1
  simp at hl
  rcases h.2 with ⟨rfl, rfl⟩ | ⟨g, cap, cur, rfl, hb, hg, hnc, hcm, hcs, ht⟩
  · exact ⟨none, 0, rfl, by omega, hw, .inl rfl, Nat.le_refl _, Nat.zero_le _, fun _ => rfl⟩
  · refine ⟨_, cap, rfl, by omega, hw, ?_, hnc, hcm, fun h => by simp at h⟩
    right
    refine ⟨g, 0, rfl, ?_, fun j hj => ?_⟩
    · have : w.heap[g]?.isSome := by rw [hg]; rfl
      simpa using this
    · have hc := h.cellAt j (by omega)
      rw [Nat.zero_add, hc, List.getElem?_map, List.getElem?_eq_getElem (by omega)]
      simp

/-- What is owned from one block number on is owned from every smaller one on. -/
theorem owns_base {w : World} {base base' e : Nat} {v : Value} {n : Nat} {xs : List Value} (h : w.ownsRow base e 1 v n xs) (hb : base' ≤ base) : w.ownsRow base' e 1 v n xs := by
  refine ⟨h.1, h.2.imp id ?_⟩
  rintro ⟨g, cap, cur, rfl, hbg, hr⟩
  exact ⟨g, cap, cur, rfl, by omega, hr⟩
/-- A slice literal, just laid, is read. -/
theorem Reads.lit (w : World) (e : Nat) (zs : List Int) (hw : Wd zs) (hm : zs.length ≤ maxLen) : Reads (w.alloc (.cells ((zs.map (Value.int .u32)).toArray) e)) (w.alloc (.cells ((zs.map (Value.int .u32)).toArray) e)).heap.size (some ⟨w.heap.size, 0, none⟩) zs.length zs.length zs := by
  have h := World.ownsRow_lit (base := w.heap.size) (e := e) (size := 1) w ((zs.map (Value.int .u32)).toArray) zs.length (Nat.le_refl _) hm (by simp)
  obtain ⟨a, cap, hv, hr⟩ := Reads.own (zs := zs) (by simpa using h) hw
  simp only [Value.slice.injEq] at hv
  obtain ⟨rfl, _, rfl⟩ := hv
  exact hr

theorem ret_int {k : IntKind} {a b : Int} (h : a = b) : Ending.returned (.int k a) = .returned (.int k b) := by rw [h]
end Go.Proofs.Ytmigdomlakflfaa

/- Floats of 64 bits by their bits: which are finite, what a sum or difference of two gives, the sum of two with what was lost of it, as plain functions of the bits. Nothing here speaks of the program. -/
namespace Go.Proofs.Ytmigdomlakflfaa

/-- Neither an infinity nor NaN: by the bits. -/
def fin (x : Nat) : Bool := x / 4503599627370496 % 2048 != 2047

theorem fin_iff (x : Nat) : fin x = true ↔ x % 9223372036854775808 < 9218868437227405312 := by
  unfold fin
  simp only [bne_iff_ne, ne_eq]
  omega

theorem dbl_sign : Ieee.double.signWeight = 9223372036854775808 := by decide
theorem dbl_inf : Ieee.double.infRung = 9218868437227405312 := by decide
theorem dbl_binade : Ieee.double.binade = 4503599627370496 := by decide

theorem read_fin {x : Nat} (h : fin x = true) : ∃ s m e, Ieee.double.read x = .number s m e := by
  rw [fin_iff] at h
  unfold Ieee.Format.read
  simp only [dbl_sign, dbl_inf, dbl_binade]
  split
  · exact ⟨_, _, _, rfl⟩
  · first | exact ⟨_, _, _, rfl⟩ | (rw [if_pos h]; exact ⟨_, _, _, rfl⟩)

theorem read_not {x : Nat} (h : fin x = false) : (∃ s, Ieee.double.read x = .infinity s) ∨ ∃ s f, Ieee.double.read x = .nan s f := by
  have h' : ¬ x % 9223372036854775808 < 9218868437227405312 := fun g => by rw [(fin_iff x).2 g] at h; exact Bool.noConfusion h
  unfold Ieee.Format.read
  simp only [dbl_sign, dbl_inf, dbl_binade]
  rw [if_neg (by omega), if_neg h']
  split
  · exact Or.inl ⟨_, rfl⟩
  · exact Or.inr ⟨_, _, rfl⟩

theorem write_inf (s : Bool) : fin (Ieee.double.write (.infinity s)) = false := by
  cases s <;> decide

theorem nan_cut (x y t : Nat) : fin (Question.cut (.nanBits .f64 x y) t) = false ∧ Question.cut (.nanBits .f64 x y) t < 18446744073709551616 := by
  simp only [Question.cut]
  have hu : (t / 2) % (2 ^ 52 - 1) < 4503599627370495 := Nat.mod_lt _ (by decide)
  have hv : t % 2 = 0 ∨ t % 2 = 1 := by omega
  generalize (t / 2) % (2 ^ 52 - 1) = u at hu ⊢
  generalize t % 2 = v at hv ⊢
  constructor
  · cases hh : fin (v * 2 ^ 63 + 0x7ff0000000000000 + 1 + u)
    · rfl
    · rw [fin_iff] at hh; rcases hv with rfl | rfl <;> omega
  · rcases hv with rfl | rfl <;> omega

/-- What the machine hands back: the bits of the answer, or, where there is none, some NaN. -/
def FR (op : BinOp) (x y r : Nat) : Prop := r < 18446744073709551616 ∧ (floatBits op .f64 x y = some r ∨ (floatBits op .f64 x y = none ∧ fin r = false))

theorem FR.det {op : BinOp} {x y r s : Nat} (h : FR op x y r) (g : floatBits op .f64 x y = some s) : r = s := by
  rcases h.2 with h | ⟨h, _⟩
  · rw [h] at g; exact Option.some.inj g
  · rw [h] at g; cases g

theorem FR.some {op : BinOp} {x y r : Nat} (h : floatBits op .f64 x y = .some r) : FR op x y r := by
  have := floatBits_wf h
  simp [Lit.wf] at this
  exact ⟨this, Or.inl h⟩
theorem FR.none {op : BinOp} {x y : Nat} (t : Nat) (h : floatBits op .f64 x y = .none) : FR op x y (Question.cut (.nanBits .f64 x y) t) :=
  ⟨(nan_cut x y t).2, Or.inr ⟨h, (nan_cut x y t).1⟩⟩

theorem sum_back {d c : Ieee.Datum} {r : Nat} (h : (d.sum c).map Ieee.double.write = .some r) (hf : fin r = true) : (∃ s m e, d = .number s m e) ∧ ∃ s m e, c = .number s m e := by
  cases d with
  | nan s f => simp [Ieee.Datum.sum] at h
  | infinity s =>
    cases c with
    | nan t f => simp [Ieee.Datum.sum] at h
    | infinity t =>
      simp only [Ieee.Datum.sum] at h
      split at h
      · cases h; rw [write_inf] at hf; cases hf
      · cases h
    | number t m e => simp only [Ieee.Datum.sum] at h; cases h; rw [write_inf] at hf; cases hf
  | number s m e =>
    cases c with
    | nan t f => simp [Ieee.Datum.sum] at h
    | infinity t => simp only [Ieee.Datum.sum] at h; cases h; rw [write_inf] at hf; cases hf
    | number t n j => exact ⟨⟨_, _, _, rfl⟩, ⟨_, _, _, rfl⟩⟩

theorem fin_of_read {x : Nat} {s : Bool} {m : Nat} {e : Int} (h : Ieee.double.read x = .number s m e) : fin x = true := by
  cases hx : fin x
  · rcases read_not hx with ⟨_, g⟩ | ⟨_, _, g⟩ <;> rw [g] at h <;> cases h
  · rfl

theorem add_back {x y r : Nat} (h : floatBits .add .f64 x y = .some r) (hf : fin r = true) : fin x = true ∧ fin y = true := by
  obtain ⟨⟨_, _, _, h1⟩, ⟨_, _, _, h2⟩⟩ := sum_back h hf
  exact ⟨fin_of_read h1, fin_of_read h2⟩
theorem sub_back {x y r : Nat} (h : floatBits .sub .f64 x y = .some r) (hf : fin r = true) : fin x = true ∧ fin y = true := by
  obtain ⟨⟨_, _, _, h1⟩, ⟨s, m, e, h2⟩⟩ := sum_back h hf
  refine ⟨fin_of_read h1, ?_⟩
  cases hy : fin y
  · rcases read_not hy with ⟨_, g⟩ | ⟨_, _, g⟩ <;> (have g' : FloatKind.f64.format.read y = _ := g; rw [g'] at h2; cases h2)
  · rfl

theorem FR.addBack {x y r : Nat} (h : FR .add x y r) (hf : fin r = true) : floatBits .add .f64 x y = .some r ∧ fin x = true ∧ fin y = true := by
  rcases h.2 with h | ⟨_, g⟩
  · exact ⟨h, add_back h hf⟩
  · rw [g] at hf; cases hf
theorem FR.subBack {x y r : Nat} (h : FR .sub x y r) (hf : fin r = true) : floatBits .sub .f64 x y = .some r ∧ fin x = true ∧ fin y = true := by
  rcases h.2 with h | ⟨_, g⟩
  · exact ⟨h, sub_back h hf⟩
  · rw [g] at hf; cases hf

theorem add_some {x y : Nat} (hx : fin x = true) (hy : fin y = true) : ∃ r, floatBits .add .f64 x y = .some r := by
  obtain ⟨s, m, e, h1⟩ := read_fin hx
  obtain ⟨t, n, j, h2⟩ := read_fin hy
  exact ⟨_, show (((Ieee.double.read x).sum (Ieee.double.read y)).map Ieee.double.write) = _ by rw [h1, h2]; rfl⟩

theorem order_self {x : Nat} (h : fin x = true) : FloatKind.f64.format.order x x = .some .eq := by
  obtain ⟨s, m, e, h1⟩ := read_fin h
  show (Ieee.double.read x).order (Ieee.double.read x) = _
  rw [h1]
  simp [Ieee.Datum.order]

theorem run_add (P : Program) (w : World) (t : TypeId) (x y : Nat) (h : floatBits .add .f64 x y = .none) :
    (binOp .add t (.float .f64 x) (.float .f64 y)).run P w = .ok (.float .f64 (Question.cut (.nanBits .f64 x y) (w.tape w.drawn (.nanBits .f64 x y)))) w.drew := by
  have h' : FloatKind.f64.format.add x y = .none := h
  simp [binOp, Op.floatArith, h', Question.forced]
theorem run_sub (P : Program) (w : World) (t : TypeId) (x y : Nat) (h : floatBits .sub .f64 x y = .none) :
    (binOp .sub t (.float .f64 x) (.float .f64 y)).run P w = .ok (.float .f64 (Question.cut (.nanBits .f64 x y) (w.tape w.drawn (.nanBits .f64 x y)))) w.drew := by
  have h' : FloatKind.f64.format.sub x y = .none := h
  simp [binOp, Op.floatArith, h', Question.forced]

/-- The sum of two finite floats and what was lost of it; nothing, where one of both is not finite. -/
def chain (a b : Nat) : Option (Nat × Nat) :=
  match floatBits .add .f64 a b with
  | .none => .none
  | .some s => if fin s then
      match floatBits .sub .f64 s a with
      | .none => .none
      | .some t =>
        match floatBits .sub .f64 s t with
        | .none => .none
        | .some d =>
          match floatBits .sub .f64 a d, floatBits .sub .f64 b t with
          | .some p, .some q =>
            match floatBits .add .f64 p q with
            | .none => .none
            | .some e => if fin e then .some (s, e) else .none
          | _, _ => .none
    else .none

/-- The steps as the machine goes them. -/
def Two (a b s e : Nat) : Prop := ∃ t d p q, FR .add a b s ∧ FR .sub s a t ∧ FR .sub s t d ∧ FR .sub a d p ∧ FR .sub b t q ∧ FR .add p q e

theorem Two.good {a b s e : Nat} (h : Two a b s e) (hs : fin s = true) (he : fin e = true) : chain a b = .some (s, e) := by
  obtain ⟨t, d, p, q, h1, h2, h3, h4, h5, h6⟩ := h
  obtain ⟨g6, fp, fq⟩ := h6.addBack he
  obtain ⟨g5, _, ft⟩ := h5.subBack fq
  obtain ⟨g4, _, fd⟩ := h4.subBack fp
  obtain ⟨g3, _, _⟩ := h3.subBack fd
  obtain ⟨g2, _, _⟩ := h2.subBack ft
  obtain ⟨g1, _, _⟩ := h1.addBack hs
  simp only [chain, g1, g2, g3, g4, g5, g6, hs, he, if_true]

theorem chain_back {a b : Nat} {u : Nat × Nat} (h : chain a b = .some u) : fin u.1 = true ∧ fin u.2 = true ∧ ∀ s e, Two a b s e → s = u.1 ∧ e = u.2 := by
  unfold chain at h
  split at h
  · cases h
  rename_i s g1
  split at h
  · rename_i hs
    split at h
    · cases h
    rename_i t g2
    split at h
    · cases h
    rename_i d g3
    split at h
    · rename_i p q g4 g5
      split at h
      · cases h
      rename_i e g6
      split at h
      · rename_i he
        cases h
        refine ⟨hs, he, fun s' e' hh => ?_⟩
        obtain ⟨t', d', p', q', h1, h2, h3, h4, h5, h6⟩ := hh
        have e1 := h1.det g1
        subst e1
        have e2 := h2.det g2
        subst e2
        have e3 := h3.det g3
        subst e3
        have e4 := h4.det g4
        subst e4
        have e5 := h5.det g5
        subst e5
        exact ⟨rfl, h6.det g6⟩
      · cases h
    · cases h
  · cases h

theorem Two.bad {a b s e : Nat} (h : Two a b s e) (hb : fin s = false ∨ fin e = false) : chain a b = .none := by
  cases hc : chain a b with
  | none => rfl
  | some u =>
    obtain ⟨h1, h2, h3⟩ := chain_back hc
    obtain ⟨e1, e2⟩ := h3 _ _ h
    rcases hb with hb | hb
    · rw [e1, h1] at hb; cases hb
    · rw [e2, h2] at hb; cases hb

end Go.Proofs.Ytmigdomlakflfaa

/- Floats of 64 bits that are NaN, by their bits; which answers are alike; the order of sizes is that of their bits. Nothing here speaks of the program. -/
namespace Go.Proofs.Ytmigdomlakflfaa

/-- NaN, by the bits. -/
def isnan (x : Nat) : Bool := decide (9218868437227405312 < x % 9223372036854775808)

theorem isnan_iff (x : Nat) : isnan x = true ↔ 9218868437227405312 < x % 9223372036854775808 := by simp [isnan]

theorem read_isnan {x : Nat} (h : isnan x = true) : ∃ s f, Ieee.double.read x = .nan s f := by
  rw [isnan_iff] at h
  unfold Ieee.Format.read
  simp only [dbl_sign, dbl_inf, dbl_binade]
  rw [if_neg (by omega), if_neg (by omega), if_neg (by omega)]
  exact ⟨_, _, rfl⟩

theorem read_notnan {x : Nat} (h : isnan x = false) : (∃ s, Ieee.double.read x = .infinity s) ∨ ∃ s m e, Ieee.double.read x = .number s m e := by
  have h' : ¬ 9218868437227405312 < x % 9223372036854775808 := fun g => by rw [(isnan_iff x).2 g] at h; cases h
  unfold Ieee.Format.read
  simp only [dbl_sign, dbl_inf, dbl_binade]
  split
  · exact Or.inr ⟨_, _, _, rfl⟩
  split
  · exact Or.inr ⟨_, _, _, rfl⟩
  rw [if_pos (by omega)]
  exact Or.inl ⟨_, rfl⟩

theorem order_nan_l {x y : Nat} (h : isnan x = true) : FloatKind.f64.format.order x y = none := by
  obtain ⟨s, f, e⟩ := read_isnan h
  show (Ieee.double.read x).order (Ieee.double.read y) = none
  rw [e]
  cases Ieee.double.read y <;> rfl
theorem order_refl {x : Nat} (h : isnan x = false) : FloatKind.f64.format.order x x = some .eq := by
  show (Ieee.double.read x).order (Ieee.double.read x) = _
  rcases read_notnan h with ⟨s, e⟩ | ⟨s, m, i, e⟩ <;> rw [e] <;> simp [Ieee.Datum.order]
theorem neq_self (x : Nat) : (FloatKind.f64.format.order x x != some .eq) = isnan x := by
  cases h : isnan x
  · rw [order_refl h]; rfl
  · rw [order_nan_l h]; rfl

theorem fb_nan_l {op : BinOp} {x y : Nat} (h : isnan x = true) : floatBits op .f64 x y = none := by
  obtain ⟨s, f, e⟩ := read_isnan h
  have k : FloatKind.f64.format.read x = .nan s f := e
  cases op <;> try rfl
  · show (((FloatKind.f64.format.read x).sum (FloatKind.f64.format.read y)).map _) = none
    rw [k]; cases FloatKind.f64.format.read y <;> rfl
  · show (((FloatKind.f64.format.read x).sum (FloatKind.f64.format.read y).opposite).map _) = none
    rw [k]; cases (FloatKind.f64.format.read y).opposite <;> rfl
  · show (((FloatKind.f64.format.read x).product (FloatKind.f64.format.read y)).map _) = none
    rw [k]; cases FloatKind.f64.format.read y <;> rfl
  · show (((FloatKind.f64.format.read x).quotient _ (FloatKind.f64.format.read y)).map _) = none
    rw [k]; cases FloatKind.f64.format.read y <;> rfl
theorem fb_nan_r {op : BinOp} {x y : Nat} (h : isnan y = true) : floatBits op .f64 x y = none := by
  obtain ⟨s, f, e⟩ := read_isnan h
  have k : FloatKind.f64.format.read y = .nan s f := e
  cases op <;> try rfl
  · show (((FloatKind.f64.format.read x).sum (FloatKind.f64.format.read y)).map _) = none
    rw [k]; cases FloatKind.f64.format.read x <;> rfl
  · show (((FloatKind.f64.format.read x).sum (FloatKind.f64.format.read y).opposite).map _) = none
    rw [k]; cases FloatKind.f64.format.read x <;> rfl
  · show (((FloatKind.f64.format.read x).product (FloatKind.f64.format.read y)).map _) = none
    rw [k]; cases FloatKind.f64.format.read x <;> rfl
  · show (((FloatKind.f64.format.read x).quotient _ (FloatKind.f64.format.read y)).map _) = none
    rw [k]; cases FloatKind.f64.format.read x <;> rfl

theorem isnan_cut (x y t : Nat) : isnan (Question.cut (.nanBits .f64 x y) t) = true ∧ Question.cut (.nanBits .f64 x y) t < 18446744073709551616 := by
  refine ⟨?_, (nan_cut x y t).2⟩
  rw [isnan_iff]
  simp only [Question.cut]
  have hu : (t / 2) % (2 ^ 52 - 1) < 4503599627370495 := Nat.mod_lt _ (by decide)
  have hv : t % 2 = 0 ∨ t % 2 = 1 := by omega
  generalize (t / 2) % (2 ^ 52 - 1) = u at hu ⊢
  generalize t % 2 = v at hv ⊢
  rcases hv with rfl | rfl <;> omega

/-- What the machine hands back: the bits of the answer, or, where there is none, some NaN. -/
def FN (op : BinOp) (x y r : Nat) : Prop := r < 18446744073709551616 ∧ (floatBits op .f64 x y = some r ∨ (floatBits op .f64 x y = none ∧ isnan r = true))
/-- The same bits, or NaN both. -/
def Al (x y : Nat) : Prop := x = y ∨ (isnan x = true ∧ isnan y = true)

theorem Al.refl (x : Nat) : Al x x := .inl rfl

theorem FN.al {op : BinOp} {x y r x' y' r' : Nat} (h : FN op x y r) (h' : FN op x' y' r') (ax : Al x x') (ay : Al y y') : Al r r' := by
  have none_none : floatBits op .f64 x y = none → floatBits op .f64 x' y' = none → Al r r' := by
    intro e e'
    right
    refine ⟨?_, ?_⟩
    · rcases h.2 with g | ⟨_, g⟩
      · rw [e] at g; cases g
      · exact g
    · rcases h'.2 with g | ⟨_, g⟩
      · rw [e'] at g; cases g
      · exact g
  rcases ax with rfl | ⟨n1, n2⟩
  · rcases ay with rfl | ⟨n1, n2⟩
    · rcases h.2 with g | ⟨g, k⟩
      · rcases h'.2 with g' | ⟨g', _⟩
        · rw [g] at g'; exact .inl (Option.some.inj g')
        · rw [g] at g'; cases g'
      · exact none_none g g
    · exact none_none (fb_nan_r n1) (fb_nan_r n2)
  · exact none_none (fb_nan_l n1) (fb_nan_l n2)

theorem FN.some {op : BinOp} {x y r : Nat} (h : floatBits op .f64 x y = .some r) : FN op x y r := by
  have := floatBits_wf h
  simp [Lit.wf] at this
  exact ⟨this, Or.inl h⟩
theorem FN.none {op : BinOp} {x y : Nat} (t : Nat) (h : floatBits op .f64 x y = .none) : FN op x y (Question.cut (.nanBits .f64 x y) t) :=
  ⟨(isnan_cut x y t).2, Or.inr ⟨h, (isnan_cut x y t).1⟩⟩

/-- The root: its bits, or some NaN. -/
def FQ (x r : Nat) : Prop := r < 18446744073709551616 ∧ (Ieee.double.sqrt x = some r ∨ (Ieee.double.sqrt x = none ∧ isnan r = true))
theorem FQ.al {x r x' r' : Nat} (h : FQ x r) (h' : FQ x' r') (ax : Al x x') : Al r r' := by
  have none_none : Ieee.double.sqrt x = none → Ieee.double.sqrt x' = none → Al r r' := by
    intro e e'
    right
    refine ⟨?_, ?_⟩
    · rcases h.2 with g | ⟨_, g⟩
      · rw [e] at g; cases g
      · exact g
    · rcases h'.2 with g | ⟨_, g⟩
      · rw [e'] at g; cases g
      · exact g
  have nn : ∀ z, isnan z = true → Ieee.double.sqrt z = none := by
    intro z hz
    obtain ⟨s, f, e⟩ := read_isnan hz
    show ((Ieee.double.read z).root _).map _ = none
    rw [e]; rfl
  rcases ax with rfl | ⟨n1, n2⟩
  · rcases h.2 with g | ⟨g, k⟩
    · rcases h'.2 with g' | ⟨g', _⟩
      · rw [g] at g'; exact .inl (Option.some.inj g')
      · rw [g] at g'; cases g'
    · exact none_none g g
  · exact none_none (nn _ n1) (nn _ n2)

/-- Same, of reals. -/
def sameR (x y : Nat) : Bool := isnan x && isnan y || x == y
theorem Al.same {x y : Nat} (h : Al x y) : sameR x y = true := by
  rcases h with rfl | ⟨h1, h2⟩
  · simp [sameR]
  · simp [sameR, h1, h2]

/-! ### The order of sizes -/

/-- The number at a rung, in units of the least float. -/
def rungVal (r : Nat) : Nat := if r < 4503599627370496 then r else (4503599627370496 + r % 4503599627370496) * 2 ^ (r / 4503599627370496 - 1)

theorem rungVal_lt {r s : Nat} (h : r < s) : rungVal r < rungVal s := by
  unfold rungVal
  by_cases hr : r < 4503599627370496
  · rw [if_pos hr]
    by_cases hs : s < 4503599627370496
    · rw [if_pos hs]; exact h
    · rw [if_neg hs]
      have hp : 0 < 2 ^ (s / 4503599627370496 - 1) := Nat.two_pow_pos _
      have : 4503599627370496 * 1 ≤ (4503599627370496 + s % 4503599627370496) * 2 ^ (s / 4503599627370496 - 1) := Nat.mul_le_mul (by omega) hp
      omega
  · have hs : ¬ s < 4503599627370496 := by omega
    rw [if_neg hr, if_neg hs]
    have hd : r / 4503599627370496 ≤ s / 4503599627370496 := Nat.div_le_div_right (by omega)
    rcases Nat.lt_or_eq_of_le hd with hd | hd
    · have e1 : s / 4503599627370496 - 1 = (r / 4503599627370496 - 1) + 1 + (s / 4503599627370496 - r / 4503599627370496 - 1) := by omega
      generalize hk : s / 4503599627370496 - r / 4503599627370496 - 1 = k at e1
      rw [e1, Nat.pow_add, Nat.pow_succ]
      have hp : 0 < 2 ^ (r / 4503599627370496 - 1) := Nat.two_pow_pos _
      have hq : 0 < 2 ^ k := Nat.two_pow_pos _
      have a1 : (4503599627370496 + r % 4503599627370496) * 2 ^ (r / 4503599627370496 - 1) < (4503599627370496 * 2) * 2 ^ (r / 4503599627370496 - 1) := Nat.mul_lt_mul_of_pos_right (by omega) hp
      have a2 : (4503599627370496 * 2) * 2 ^ (r / 4503599627370496 - 1) = 4503599627370496 * (2 ^ (r / 4503599627370496 - 1) * 2) * 1 := by rw [Nat.mul_assoc, Nat.mul_comm 2, Nat.mul_one]
      have a3 : 4503599627370496 * (2 ^ (r / 4503599627370496 - 1) * 2) * 1 ≤ 4503599627370496 * (2 ^ (r / 4503599627370496 - 1) * 2) * 2 ^ k := Nat.mul_le_mul_left _ hq
      have a4 : 4503599627370496 * (2 ^ (r / 4503599627370496 - 1) * 2) * 2 ^ k = 4503599627370496 * (2 ^ (r / 4503599627370496 - 1) * 2 * 2 ^ k) := Nat.mul_assoc _ _ _
      have a5 : 4503599627370496 * (2 ^ (r / 4503599627370496 - 1) * 2 * 2 ^ k) ≤ (4503599627370496 + s % 4503599627370496) * (2 ^ (r / 4503599627370496 - 1) * 2 * 2 ^ k) := Nat.mul_le_mul_right _ (by omega)
      omega
    · rw [← hd]
      exact Nat.mul_lt_mul_of_pos_right (by omega) (Nat.two_pow_pos _)

theorem rungVal_le {r s : Nat} (h : r ≤ s) : rungVal r ≤ rungVal s := by
  rcases Nat.lt_or_eq_of_le h with h | rfl
  · exact Nat.le_of_lt (rungVal_lt h)
  · exact Nat.le_refl _

theorem rungVal_cmp (r s : Nat) : compare (rungVal r) (rungVal s) = compare r s := by
  rcases Nat.lt_trichotomy r s with h | rfl | h
  · rw [Nat.compare_eq_lt.2 h, Nat.compare_eq_lt.2 (rungVal_lt h)]
  · simp
  · rw [Nat.compare_eq_gt.2 h, Nat.compare_eq_gt.2 (rungVal_lt h)]

theorem dbl_least : Ieee.double.leastPlace = -1074 := by decide

/-- What a finite word stands for. -/
theorem read_num {x : Nat} (h : x % 9223372036854775808 < 9218868437227405312) :
    ∃ m a, Ieee.double.read x = .number (x / 9223372036854775808 % 2 == 1) m (-1074 + (a : Nat)) ∧ m * 2 ^ a = rungVal (x % 9223372036854775808) := by
  unfold Ieee.Format.read
  simp only [dbl_sign, dbl_inf, dbl_binade, dbl_least]
  by_cases hb : x % 9223372036854775808 < 4503599627370496
  · rw [if_pos hb]
    exact ⟨_, 0, rfl, by rw [rungVal, if_pos hb]; simp⟩
  · rw [if_neg hb, if_pos h]
    exact ⟨_, _, rfl, by rw [rungVal, if_neg hb]⟩

theorem shl_cmp (m n a b : Nat) : compare (Ieee.signed false m (((-1074 + (a : Nat) : Int) - min (-1074 + (a : Nat) : Int) (-1074 + (b : Nat) : Int))).toNat) (Ieee.signed false n (((-1074 + (b : Nat) : Int) - min (-1074 + (a : Nat) : Int) (-1074 + (b : Nat) : Int))).toNat) = compare (m * 2 ^ a) (n * 2 ^ b) := by
  have e1 : ((-1074 + (a : Nat) : Int) - min (-1074 + (a : Nat) : Int) (-1074 + (b : Nat) : Int)).toNat = a - min a b := by omega
  have e2 : ((-1074 + (b : Nat) : Int) - min (-1074 + (a : Nat) : Int) (-1074 + (b : Nat) : Int)).toNat = b - min a b := by omega
  rw [e1, e2]
  simp only [Ieee.signed, Nat.shiftLeft_eq]
  have hp : 0 < 2 ^ min a b := Nat.two_pow_pos _
  have f1 : m * 2 ^ a = m * 2 ^ (a - min a b) * 2 ^ min a b := by rw [Nat.mul_assoc, ← Nat.pow_add]; congr 2; omega
  have f2 : n * 2 ^ b = n * 2 ^ (b - min a b) * 2 ^ min a b := by rw [Nat.mul_assoc, ← Nat.pow_add]; congr 2; omega
  rw [f1, f2]
  generalize m * 2 ^ (a - min a b) = u
  generalize n * 2 ^ (b - min a b) = v
  generalize 2 ^ min a b = p at hp
  simp only [Bool.false_eq_true, if_false]
  rcases Nat.lt_trichotomy u v with h | rfl | h
  · rw [Nat.compare_eq_lt.2 (Nat.mul_lt_mul_of_pos_right h hp)]
    exact Int.compare_eq_lt.2 (by omega)
  · simp
  · rw [Nat.compare_eq_gt.2 (Nat.mul_lt_mul_of_pos_right h hp)]
    exact Int.compare_eq_gt.2 (by omega)

/-- Of sizes the order is that of their bits. -/
theorem order_pos {x y : Nat} (hx : x ≤ 9218868437227405312) (hy : y ≤ 9218868437227405312) : FloatKind.f64.format.order x y = some (compare x y) := by
  show (Ieee.double.read x).order (Ieee.double.read y) = _
  have inf : Ieee.double.read 9218868437227405312 = .infinity false := by decide
  have hm : ∀ z : Nat, z < 9218868437227405312 → z % 9223372036854775808 = z ∧ (z / 9223372036854775808 % 2 == 1) = false := fun z hz => ⟨Nat.mod_eq_of_lt (by omega), by rw [Nat.div_eq_of_lt (by omega)]; rfl⟩
  rcases Nat.lt_or_eq_of_le hx with gx | rfl
  · obtain ⟨m, a, ex, vx⟩ := read_num (x := x) (by rw [(hm x gx).1]; exact gx)
    rw [(hm x gx).1] at vx
    rw [(hm x gx).2] at ex
    rcases Nat.lt_or_eq_of_le hy with gy | rfl
    · obtain ⟨n, b, ey, vy⟩ := read_num (x := y) (by rw [(hm y gy).1]; exact gy)
      rw [(hm y gy).1] at vy
      rw [(hm y gy).2] at ey
      rw [ex, ey]
      simp only [Ieee.Datum.order]
      rw [shl_cmp, vx, vy, rungVal_cmp]
    · rw [ex, inf, Nat.compare_eq_lt.2 gx]; rfl
  · rcases Nat.lt_or_eq_of_le hy with gy | rfl
    · obtain ⟨n, b, ey, vy⟩ := read_num (x := y) (by rw [(hm y gy).1]; exact gy)
      rw [ey, inf, Nat.compare_eq_gt.2 gy]; rfl
    · rw [inf]; simp [Ieee.Datum.order]

end Go.Proofs.Ytmigdomlakflfaa

/- Records, no program: a rising list of ticks and heights, and the datum of the map that holds them. -/
namespace Go.Proofs.Ytmigdomlakflfaa
open Go.RowKit
set_option linter.unusedVariables false

/-- How a height reads, in a map. -/
def flElem (v : Value) : Option (DataW Unit × List MemPlace) :=
  match v with
  | .float .f64 b => some (.lit (.float .f64 b), [])
  | _ => none
theorem flElem_mk (b : Nat) : flElem (.float .f64 b) = some (.lit (.float .f64 b), []) := rfl
theorem flElem_inv {v : Value} {z : DataW Unit × List MemPlace} (h : flElem v = some z) : ∃ b, v = .float .f64 b ∧ z = (.lit (.float .f64 b), []) := by
  unfold flElem at h
  split at h
  · cases h; exact ⟨_, rfl, rfl⟩
  · cases h
/-- The map's datum of a list of ticks and heights. -/
def recD (L : List (Int × Nat)) : DataW Unit := .map (L.map fun p => (.int .i64 p.1, .lit (.float .f64 p.2)))
def rhas (L : List (Int × Nat)) (t : Int) : Bool := L.any (fun p => p.1 == t)
def rget (L : List (Int × Nat)) (t : Int) : Option Nat := (L.find? (fun p => p.1 == t)).map (·.2)
def rdel (L : List (Int × Nat)) (t : Int) : List (Int × Nat) := L.filter (fun p => !(p.1 == t))
def rins (x : Int × Nat) : List (Int × Nat) → List (Int × Nat)
  | [] => [x]
  | y :: r => if x.1 < y.1 then x :: y :: r else y :: rins x r
theorem sameK (a b : Int) : (Lit.int .i64 a).sameKey (.int .i64 b) = (a == b) := by
  simp [Lit.sameKey, BEq.beq]
theorem recD_has (L : List (Int × Nat)) (t : Int) : Maps.has (recD L) (.int .i64 t) = rhas L t := by
  unfold recD rhas
  rw [Maps.has_eq, List.any_map]
  congr 1
  funext p
  exact sameK p.1 t
theorem recD_size (L : List (Int × Nat)) : Maps.size (recD L) = L.length := by
  unfold recD
  rw [Maps.size_eq, List.length_map]
theorem recD_del (L : List (Int × Nat)) (t : Int) : (recD L).del (.int .i64 t) = recD (rdel L t) := by
  unfold recD rdel DataW.del
  dsimp only
  rw [List.filter_map]
  have e : ((fun p : Lit × DataW Unit => !p.1.sameKey (.int .i64 t)) ∘ fun p : Int × Nat => ((.int .i64 p.1, .lit (.float .f64 p.2)) : Lit × DataW Unit)) = fun p => !(p.1 == t) := by
    funext p
    exact congrArg (!·) (sameK p.1 t)
  rw [e]
theorem recD_at (L : List (Int × Nat)) (t : Int) (z : Nat) : (recD L).atKey (.int .i64 t) (.lit (.float .f64 z)) = .lit (.float .f64 ((rget L t).getD z)) := by
  unfold recD rget DataW.atKey
  dsimp only
  rw [List.find?_map]
  have e : ((fun p : Lit × DataW Unit => p.1.sameKey (.int .i64 t)) ∘ fun p : Int × Nat => ((.int .i64 p.1, .lit (.float .f64 p.2)) : Lit × DataW Unit)) = fun p => p.1 == t := by
    funext p
    exact sameK p.1 t
  rw [e]
  cases L.find? (fun p => p.1 == t) <;> rfl
theorem recD_ins (t : Int) (b : Nat) : ∀ L : List (Int × Nat), DataW.insert ((.int .i64 t, .lit (.float .f64 b)) : Lit × DataW Unit) (L.map fun p => (.int .i64 p.1, .lit (.float .f64 p.2))) = (rins (t, b) L).map fun p => (.int .i64 p.1, .lit (.float .f64 p.2))
  | [] => rfl
  | y :: r => by
    unfold rins
    rw [List.map_cons]
    unfold DataW.insert
    have e : (Lit.int .i64 t).before (.int .i64 y.1) = decide (t < y.1) := rfl
    dsimp only
    rw [e]
    by_cases h : t < y.1
    · simp [h]
    · simp [h, recD_ins t b r]
theorem recD_put (L : List (Int × Nat)) (t : Int) (b : Nat) : (recD L).put (.int .i64 t) (.lit (.float .f64 b)) = recD (rins (t, b) (rdel L t)) := by
  have h := recD_del L t
  unfold recD DataW.del at h
  dsimp only at h
  unfold recD DataW.put
  dsimp only
  injection h with h
  rw [h, recD_ins]
theorem rdel_no {L : List (Int × Nat)} {t : Int} (h : rhas L t = false) : rdel L t = L := by
  unfold rdel rhas at *
  rw [List.filter_eq_self]
  intro p hp
  have := List.any_eq_false.1 h p hp
  simpa using this
/-- A record that may be: its ticks rise, each is a tick, each height has 64 bits, there are not too many. -/
structure RecOk (L : List (Int × Nat)) : Prop where
  rise : L.Pairwise (fun p q => p.1 < q.1)
  tick : ∀ p ∈ L, 0 ≤ p.1 ∧ p.1 ≤ 1048576 ∧ p.2 < 18446744073709551616
  few : L.length ≤ 4096
theorem RecOk.nil : RecOk [] := ⟨.nil, by simp, by simp⟩
theorem mem_rins {x p : Int × Nat} : ∀ {L : List (Int × Nat)}, p ∈ rins x L ↔ p = x ∨ p ∈ L
  | [] => by simp [rins]
  | y :: r => by
    unfold rins
    split
    · simp
    · rw [List.mem_cons, mem_rins (L := r), List.mem_cons]
      constructor
      · rintro (h | h | h)
        · exact .inr (.inl h)
        · exact .inl h
        · exact .inr (.inr h)
      · rintro (h | h | h)
        · exact .inr (.inl h)
        · exact .inl h
        · exact .inr (.inr h)
theorem len_rins (x : Int × Nat) : ∀ L : List (Int × Nat), (rins x L).length = L.length + 1
  | [] => rfl
  | y :: r => by
    unfold rins
    split
    · rfl
    · rw [List.length_cons, len_rins x r, List.length_cons]
theorem rise_rins {x : Int × Nat} : ∀ {L : List (Int × Nat)}, L.Pairwise (fun p q => p.1 < q.1) → (∀ p ∈ L, p.1 ≠ x.1) → (rins x L).Pairwise (fun p q => p.1 < q.1)
  | [], _, _ => by simp [rins]
  | y :: r, h, hn => by
    unfold rins
    rw [List.pairwise_cons] at h
    split
    · rename_i hlt
      refine List.pairwise_cons.2 ⟨fun p hp => ?_, List.pairwise_cons.2 h⟩
      rcases List.mem_cons.1 hp with rfl | hp
      · exact hlt
      · exact Int.lt_trans hlt (h.1 p hp)
    · rename_i hlt
      have hy := hn y List.mem_cons_self
      refine List.pairwise_cons.2 ⟨fun p hp => ?_, rise_rins h.2 (fun p hp => hn p (List.mem_cons_of_mem _ hp))⟩
      rcases mem_rins.1 hp with rfl | hp
      · omega
      · exact h.1 p hp
theorem rhas_no {L : List (Int × Nat)} {t : Int} (h : rhas L t = false) : ∀ p ∈ L, p.1 ≠ t := by
  intro p hp
  have := List.any_eq_false.1 h p hp
  simpa using this
theorem rhas_yes {L : List (Int × Nat)} {t : Int} (h : rhas L t = true) : ∃ b, (t, b) ∈ L := by
  obtain ⟨p, hp, e⟩ := List.any_eq_true.1 h
  have e : p.1 = t := by simpa using e
  exact ⟨p.2, e ▸ hp⟩
theorem RecOk.ins {L : List (Int × Nat)} (h : RecOk L) {t : Int} {b : Nat} (ht : 0 ≤ t ∧ t ≤ 1048576) (hb : b < 18446744073709551616) (hn : rhas L t = false) (hl : L.length < 4096) : RecOk (rins (t, b) L) := by
  refine ⟨rise_rins h.rise (rhas_no hn), fun p hp => ?_, by rw [len_rins]; omega⟩
  rcases mem_rins.1 hp with rfl | hp
  · exact ⟨ht.1, ht.2, hb⟩
  · exact h.tick p hp
theorem RecOk.del {L : List (Int × Nat)} (h : RecOk L) (t : Int) : RecOk (rdel L t) :=
  ⟨h.rise.filter _, fun p hp => h.tick p (List.mem_filter.1 hp).1, Nat.le_trans (List.length_filter_le _ _) h.few⟩
/-- What Add tells, and what stands behind it. -/
def addR (L : List (Int × Nat)) (t : Int) (b : Nat) : Int × List (Int × Nat) :=
  if ¬ (0 ≤ t ∧ t ≤ 1048576) then (2, L) else if rhas L t = true then (5, L) else if 4096 ≤ L.length then (3, L) else (0, rins (t, b) L)
def takeR (L : List (Int × Nat)) (t : Int) : Int × List (Int × Nat) := if rhas L t = true then (0, rdel L t) else (6, L)
theorem RecOk.add {L : List (Int × Nat)} (h : RecOk L) (t : Int) {b : Nat} (hb : b < 18446744073709551616) : RecOk (addR L t b).2 := by
  unfold addR
  split
  · exact h
  · split
    · exact h
    · split
      · exact h
      · rename_i h1 h2 h3
        exact h.ins (by omega) hb (by simpa using h2) (by omega)
theorem RecOk.take {L : List (Int × Nat)} (h : RecOk L) (t : Int) : RecOk (takeR L t).2 := by
  unfold takeR
  split
  · exact h.del t
  · exact h
/-- Is a height a number? -/
def isone (b : Nat) : Bool := decide (b % 9223372036854775808 < 9218868437227405312)
/-- The samples that are ones, those that are not. -/
def onesL (L : List (Int × Nat)) (o : Bool) : List (Int × Nat) := L.filter (fun p => isone p.2 == o)
theorem RecOk.ones {L : List (Int × Nat)} (h : RecOk L) (o : Bool) : RecOk (onesL L o) :=
  ⟨h.rise.filter _, fun p hp => h.tick p (List.mem_filter.1 hp).1, Nat.le_trans (List.length_filter_le _ _) h.few⟩
theorem RecOk.fst {L : List (Int × Nat)} (h : RecOk L) : (L.map (·.1)).Pairwise (· < ·) := List.pairwise_map.2 h.rise
theorem RecOk.get {L : List (Int × Nat)} (h : RecOk L) {t : Int} {b : Nat} (hm : (t, b) ∈ L) : rget L t = some b := by
  unfold rget
  have key : ∀ M : List (Int × Nat), M.Pairwise (fun p q => p.1 < q.1) → (t, b) ∈ M → (M.find? (fun p => p.1 == t)).map (·.2) = some b := by
    intro M
    induction M with
    | nil => intro _ h; cases h
    | cons y r ih =>
      intro hp hm
      rw [List.pairwise_cons] at hp
      rcases List.mem_cons.1 hm with rfl | hm
      · simp
      · have hlt := hp.1 _ hm
        have hne : (y.1 == t) = false := by simp; dsimp only at hlt; omega
        rw [List.find?_cons, hne]
        exact ih hp.2 hm
  exact key L h.rise hm
/-- Keys that were met, in whatever order, come to the rising list when they are sorted. -/
theorem keys_sorted {L : List (Int × Nat)} (h : RecOk L) {ks : List Int} (hn : ks.Nodup) (hm : ∀ t, t ∈ ks ↔ ∃ b, (t, b) ∈ L) : ks.mergeSort (fun x y => decide (x ≤ y)) = L.map (·.1) := by
  have hr := h.fst
  have hnd : (L.map (·.1)).Nodup := hr.imp (fun h => by omega)
  have hp : ks.Perm (L.map (·.1)) := by
    rw [List.perm_ext_iff_of_nodup hn hnd]
    intro t
    rw [hm t, List.mem_map]
    constructor
    · rintro ⟨b, hb⟩; exact ⟨(t, b), hb, rfl⟩
    · rintro ⟨p, hp, rfl⟩; exact ⟨p.2, hp⟩
  refine List.Perm.eq_of_pairwise (le := fun x y : Int => x ≤ y) (fun a b _ _ h1 h2 => by omega) ?_ (hr.imp (fun h => by omega)) ((List.mergeSort_perm ks _).trans hp)
  have := List.pairwise_mergeSort (le := fun x y : Int => decide (x ≤ y)) (by intro a b c; simp; omega) (by intro a b; simp; omega) ks
  exact this.imp (fun h => by simpa using h)
end Go.Proofs.Ytmigdomlakflfaa

/- real.finite, real.twoSum, real.TwoSum and the document's Finite, TwoSum, of any floats, by their bits. -/
namespace Go.Proofs.Ytmigdomlakflfaa
open Go.RowKit
set_option linter.unusedVariables false

/-- What the machine hands back, and the world behind it. -/
def fval (op : BinOp) (V : World) (x y : Nat) : Nat := match floatBits op .f64 x y with
  | .some r => r
  | .none => Question.cut (.nanBits .f64 x y) (V.tape V.drawn (.nanBits .f64 x y))
def fwld (op : BinOp) (V : World) (x y : Nat) : World := match floatBits op .f64 x y with
  | .some _ => V
  | .none => V.drew
theorem fwld_below (op : BinOp) {B : Nat} {U V : World} (x y : Nat) (h : Below B U V) : Below B U (fwld op V x y) := by
  cases e : floatBits op .f64 x y with
  | some r => simp only [fwld, e]; exact h
  | none => simp only [fwld, e]; exact h.drew
theorem fadd_run (P : Program) (t : TypeId) (V : World) (x y : Nat) : (binOp .add t (.float .f64 x) (.float .f64 y)).run P V = .ok (.float .f64 (fval .add V x y)) (fwld .add V x y) := by
  cases h : floatBits .add .f64 x y with
  | some r => simp only [fval, fwld, h]; exact run_float_arith V _ _ _ _ _ _ h
  | none => simp only [fval, fwld, h]; exact run_add P V t x y h
theorem fsub_run (P : Program) (t : TypeId) (V : World) (x y : Nat) : (binOp .sub t (.float .f64 x) (.float .f64 y)).run P V = .ok (.float .f64 (fval .sub V x y)) (fwld .sub V x y) := by
  cases h : floatBits .sub .f64 x y with
  | some r => simp only [fval, fwld, h]; exact run_float_arith V _ _ _ _ _ _ h
  | none => simp only [fval, fwld, h]; exact run_sub P V t x y h

theorem bits_run (x : Nat) (w : World) : (callFunc 65 #[.float .f64 x]).run Try.prog w = .ok (.value (.int .u64 (x : Int))) w := by
  rw [run_callFunc_extern (fn := Try.f65) Try.func65 (by kernel_rfl) (by kernel_rfl) (by kernel_rfl) (e := Extern.MathFloatBits.float64bits) (by kernel_rfl)]
  rfl
theorem from_run (x : Nat) (w : World) : (callFunc 23 #[.int .u64 (x : Int)]).run Try.prog w = .ok (.value (.float .f64 x)) w := by
  rw [run_callFunc_extern (fn := Try.f23) Try.func23 (by kernel_rfl) (by kernel_rfl) (by kernel_rfl) (e := Extern.MathFloatBits.float64frombits) (by kernel_rfl)]
  rfl

theorem Two.lt {a b s e : Nat} (h : Two a b s e) : s < 18446744073709551616 ∧ e < 18446744073709551616 := by
  obtain ⟨t, d, p, q, h1, h2, h3, h4, h5, h6⟩ := h
  exact ⟨h1.1, h6.1⟩

end Go.Proofs.Ytmigdomlakflfaa

/- The calls of parts and of the document's answers for it, of any complex numbers, by their parts' bits. -/
namespace Go.Proofs.Ytmigdomlakflfaa
open Go.RowKit
set_option linter.unusedVariables false

theorem fval_fn (op : BinOp) (V : World) (x y : Nat) : FN op x y (fval op V x y) := by
  cases h : floatBits op .f64 x y with
  | some r => simp only [fval, h]; exact FN.some h
  | none => simp only [fval, h]; exact FN.none _ h
theorem fmul_run (P : Program) (t : TypeId) (V : World) (x y : Nat) : (binOp .mul t (.float .f64 x) (.float .f64 y)).run P V = .ok (.float .f64 (fval .mul V x y)) (fwld .mul V x y) := by
  cases h : floatBits .mul .f64 x y with
  | some r => simp only [fval, fwld, h]; exact run_float_arith V _ _ _ _ _ _ h
  | none =>
    have h' : FloatKind.f64.format.mul x y = .none := h
    simp only [fval, fwld, h]
    simp [binOp, Op.floatArith, h', Question.forced]
theorem fquo_run (P : Program) (t : TypeId) (V : World) (x y : Nat) : (binOp .quo t (.float .f64 x) (.float .f64 y)).run P V = .ok (.float .f64 (fval .quo V x y)) (fwld .quo V x y) := by
  cases h : floatBits .quo .f64 x y with
  | some r => simp only [fval, fwld, h]; exact run_float_arith V _ _ _ _ _ _ h
  | none =>
    have h' : FloatKind.f64.format.div x y = .none := h
    simp only [fval, fwld, h]
    simp [binOp, Op.floatArith, h', Question.forced]

/-- What a product is made of. -/
def MulR (a b c d re im : Nat) : Prop := ∃ x y u v, FN .mul a c x ∧ FN .mul b d y ∧ FN .sub x y re ∧ FN .mul a d u ∧ FN .mul b c v ∧ FN .add u v im
theorem MulR.al {a b c d re im re' im' : Nat} (h : MulR a b c d re im) (h' : MulR a b c d re' im') : Al re re' ∧ Al im im' := by
  obtain ⟨x, y, u, v, h1, h2, h3, h4, h5, h6⟩ := h
  obtain ⟨x', y', u', v', h1', h2', h3', h4', h5', h6'⟩ := h'
  exact ⟨h3.al h3' (h1.al h1' (.refl _) (.refl _)) (h2.al h2' (.refl _) (.refl _)), h6.al h6' (h4.al h4' (.refl _) (.refl _)) (h5.al h5' (.refl _) (.refl _))⟩

set_option maxHeartbeats 800000 in
set_option maxRecDepth 100000 in
theorem mIsNaN_any (x : Nat) (w : World) :
    Calls Try.prog 51 #[.float .f64 x] w fun e w' => e = .returned (.bool (isnan x)) ∧ w' = w := by
  have h := neq_self x
  go_enter Try.func51, Try.ntmps51
  go_wp2
  go_ret
  exact ⟨rfl, rfl⟩

theorem absBits (x : Nat) (h : x < 18446744073709551616) : bits .andNot .u64 (x : Int) 9223372036854775808 = ((x % 9223372036854775808 : Nat) : Int) := by
  have e := u64_andNot_nat x 9223372036854775808 h (by decide)
  have e2 : x &&& (18446744073709551615 - 9223372036854775808) = x % 9223372036854775808 := Nat.and_two_pow_sub_one_eq_mod _ 63
  rw [e2] at e
  exact e

set_option maxHeartbeats 800000 in
set_option maxRecDepth 100000 in
theorem mAbs_any (x : Nat) (w : World) (h : x < 18446744073709551616) :
    Calls Try.prog 53 #[.float .f64 x] w fun e w' => e = .returned (.float .f64 (x % 9223372036854775808)) ∧ w' = w := by
  have HB := bits_run x
  have HF := from_run (x % 9223372036854775808)
  have HA := absBits x h
  generalize x % 9223372036854775808 = y at *
  clear h
  go_enter Try.func53, Try.ntmps53
  go_wp2
  go_ret
  exact ⟨rfl, rfl⟩

set_option maxHeartbeats 800000 in
set_option maxRecDepth 100000 in
theorem mNaN_any (w : World) :
    Calls Try.prog 6 #[] w fun e w' => e = .returned (.float .f64 9221120237041090561) ∧ w' = w := by
  have HF : ∀ V, (callFunc 23 #[.int .u64 9221120237041090561]).run Try.prog V = .ok (.value (.float .f64 9221120237041090561)) V := from_run 9221120237041090561
  go_enter Try.func6, Try.ntmps6
  go_wp2
  go_ret
  exact ⟨rfl, rfl⟩

set_option maxHeartbeats 800000 in
set_option maxRecDepth 100000 in
theorem mInf_any (w : World) :
    Calls Try.prog 7 #[.int .i64 1] w fun e w' => e = .returned (.float .f64 9218868437227405312) ∧ w' = w := by
  have HF : ∀ V, (callFunc 23 #[.int .u64 9218868437227405312]).run Try.prog V = .ok (.value (.float .f64 9218868437227405312)) V := from_run 9218868437227405312
  go_enter Try.func7, Try.ntmps7
  go_wp2
  go_ret
  exact ⟨rfl, rfl⟩

/-- An infinity, by the size's bits. -/
def isinf (x : Nat) : Bool := x == 9218868437227405312

theorem gt_max {x : Nat} (h : x < 9223372036854775808) : (FloatKind.f64.format.order x 9218868437227405311 == some .gt) = isinf x := by
  by_cases hn : isnan x = true
  · rw [order_nan_l hn]
    rw [isnan_iff] at hn
    have : x ≠ 9218868437227405312 := by rintro rfl; revert hn; decide
    simp [isinf, this]
  · have hx : x ≤ 9218868437227405312 := by rw [isnan_iff] at hn; omega
    rw [order_pos hx (by decide)]
    by_cases e : x = 9218868437227405312
    · subst e; decide
    · have : x ≤ 9218868437227405311 := by omega
      have hc : compare x 9218868437227405311 ≠ .gt := by
        intro g; rw [Nat.compare_eq_gt] at g; omega
      cases hh : compare x 9218868437227405311
      · simp [isinf, e]
      · simp [isinf, e]
      · exact absurd hh hc

set_option maxHeartbeats 800000 in
set_option maxRecDepth 100000 in
theorem mIsInf0_any (x : Nat) (w : World) (h : x < 18446744073709551616) :
    Calls Try.prog 52 #[.float .f64 x, .int .i64 0] w fun e w' => e = .returned (.bool (isinf (x % 9223372036854775808))) ∧ w' = w := by
  have HA := hid (mAbs_any x w h)
  have HG := gt_max (x := x % 9223372036854775808) (by omega)
  generalize x % 9223372036854775808 = y at *
  clear h
  go_enter Try.func52, Try.ntmps52
  go_wp2_with fail
  refine Calls.mono HA.out ?_
  rintro e w2 ⟨rfl, rfl⟩
  go_wp2
  go_ret
  exact ⟨rfl, rfl⟩

end Go.Proofs.Ytmigdomlakflfaa

/- The calendar: days of years and months, the date of a day, no program. -/
namespace Go.Proofs.Ytmigdomlakflfaa
set_option linter.unusedVariables false

def lp (y : Nat) : Bool := (y % 4 == 0 && y % 100 != 0) || y % 400 == 0
def yd (y : Nat) : Nat := if lp y then 366 else 365
def md (y m : Nat) : Nat := if m = 2 then (if lp y then 29 else 28) else if m = 4 ∨ m = 6 ∨ m = 9 ∨ m = 11 then 30 else if 1 ≤ m ∧ m ≤ 12 then 31 else 0
/-- The days of the first k years. -/
def yT : Nat → Nat
  | 0 => 0
  | k + 1 => yT k + yd (2000 + k)
/-- The days of a year's first j months. -/
def mT (y : Nat) : Nat → Nat
  | 0 => 0
  | j + 1 => mT y j + md y (j + 1)
/-- The day n is the day r (from 0 on) of the month j (from 0 on) of the year 2000 + k. -/
def IsD (n k j r : Nat) : Prop := yT k + mT (2000 + k) j + r = n ∧ j < 12 ∧ r < md (2000 + k) (j + 1)

theorem md_pos (y m : Nat) (h : 1 ≤ m) (h' : m ≤ 12) : 28 ≤ md y m := by
  unfold md
  cases lp y <;> simp <;> repeat' split
  all_goals omega
theorem mT12 (y : Nat) : mT y 12 = yd y := by
  unfold yd
  simp only [mT, md]
  cases lp y <;> simp
theorem mT_le (y : Nat) : ∀ j i, j ≤ i → mT y j ≤ mT y i
  | j, 0, h => by
    obtain rfl : j = 0 := by omega
    exact Nat.le_refl _
  | j, i + 1, h => by
    by_cases e : j = i + 1
    · rw [e]; exact Nat.le_refl _
    · have := mT_le y j i (by omega)
      show _ ≤ mT y i + _
      omega
theorem yT_le : ∀ j i, j ≤ i → yT j ≤ yT i
  | j, 0, h => by
    obtain rfl : j = 0 := by omega
    exact Nat.le_refl _
  | j, i + 1, h => by
    by_cases e : j = i + 1
    · rw [e]; exact Nat.le_refl _
    · have := yT_le j i (by omega)
      show _ ≤ yT i + _
      omega
theorem yT120 : yT 120 = 43829 := by decide +kernel
theorem IsD.in_year {n k j r : Nat} (h : IsD n k j r) : yT k ≤ n ∧ n < yT (k + 1) := by
  obtain ⟨h1, h2, h3⟩ := h
  have a : mT (2000 + k) (j + 1) = mT (2000 + k) j + md (2000 + k) (j + 1) := rfl
  have b := mT_le (2000 + k) (j + 1) 12 (by omega)
  have c := mT12 (2000 + k)
  have d : yT (k + 1) = yT k + yd (2000 + k) := rfl
  omega
theorem IsD.only {n k j r k' j' r' : Nat} (h : IsD n k j r) (g : IsD n k' j' r') : k = k' ∧ j = j' ∧ r = r' := by
  have a := h.in_year
  have b := g.in_year
  have e : k = k' := by
    rcases Nat.lt_trichotomy k k' with c | c | c
    · have := yT_le (k + 1) k' (by omega); omega
    · exact c
    · have := yT_le (k' + 1) k (by omega); omega
  subst e
  obtain ⟨h1, h2, h3⟩ := h
  obtain ⟨g1, g2, g3⟩ := g
  have a1 : mT (2000 + k) (j + 1) = mT (2000 + k) j + md (2000 + k) (j + 1) := rfl
  have a2 : mT (2000 + k) (j' + 1) = mT (2000 + k) j' + md (2000 + k) (j' + 1) := rfl
  have e : j = j' := by
    rcases Nat.lt_trichotomy j j' with c | c | c
    · have := mT_le (2000 + k) (j + 1) j' (by omega); omega
    · exact c
    · have := mT_le (2000 + k) (j' + 1) j (by omega); omega
  subst e
  exact ⟨rfl, rfl, by omega⟩
/-- A day that is a tick's lies in the years 2000 to 2119. -/
theorem IsD.small {n k j r : Nat} (h : IsD n k j r) (hn : n ≤ 43690) : k ≤ 119 := by
  have := h.in_year
  rcases Nat.lt_or_ge 119 k with c | c
  · have := yT_le 120 k (by omega)
    rw [yT120] at this; omega
  · exact c
/-- The next day is the next of the month, or the first of a later month or year. -/
theorem IsD.next {n k j r k' j' r' : Nat} (h : IsD n k j r) (g : IsD (n + 1) k' j' r') : (k' = k ∧ j' = j ∧ r' = r + 1) ∨ (k' = k ∧ j' = j + 1 ∧ r' = 0) ∨ (k' = k + 1 ∧ j' = 0 ∧ r' = 0) := by
  obtain ⟨h1, h2, h3⟩ := h
  by_cases c : r + 1 < md (2000 + k) (j + 1)
  · obtain ⟨rfl, rfl, rfl⟩ := g.only (⟨by omega, h2, c⟩ : IsD (n + 1) k j (r + 1))
    exact .inl ⟨rfl, rfl, rfl⟩
  · have a1 : mT (2000 + k) (j + 1) = mT (2000 + k) j + md (2000 + k) (j + 1) := rfl
    by_cases c2 : j + 1 < 12
    · obtain ⟨rfl, rfl, rfl⟩ := g.only (⟨by omega, c2, by have := md_pos (2000 + k) (j + 1 + 1) (by omega) (by omega); omega⟩ : IsD (n + 1) k (j + 1) 0)
      exact .inr (.inl ⟨rfl, rfl, rfl⟩)
    · have d : yT (k + 1) = yT k + yd (2000 + k) := rfl
      obtain rfl : j = 11 := by omega
      have e : mT (2000 + k) (11 + 1) = yd (2000 + k) := mT12 (2000 + k)
      obtain ⟨rfl, rfl, rfl⟩ := g.only (⟨by rw [show mT (2000 + (k + 1)) 0 = 0 from rfl]; omega, by omega, by have := md_pos (2000 + (k + 1)) (0 + 1) (by omega) (by omega); omega⟩ : IsD (n + 1) (k + 1) 0 0)
      exact .inr (.inr ⟨rfl, rfl, rfl⟩)
end Go.Proofs.Ytmigdomlakflfaa

/- The document's TwoSum; slackwaterkit.SameFloat, SameBits of one float twice; lists of floats: CopyFloats, LentFloats, SameFloats, KeptFloats. -/
namespace Go.Proofs.Ytmigdomlakflfaa
open Go.RowKit
set_option linter.unusedVariables false

theorem b2 {a b c : World} (h : Below a.heap.size a b) (g : Below b.heap.size b c) : Below a.heap.size a c := h.trans (g.mono h.size)

set_option maxHeartbeats 800000 in
set_option maxRecDepth 100000 in
theorem sameFloat_eq (x : Nat) (w : World) (hx : fin x = true) :
    Calls Try.prog 28 #[.float .f64 x, .float .f64 x] w fun e w' => e = .returned (.bool true) ∧ w' = w := by
  have HO : (FloatKind.f64.format.order x x == some .eq) = true := by rw [order_self hx]; rfl
  clear hx
  go_enter Try.func28, Try.ntmps28
  go_wp2
  go_ret
  exact ⟨rfl, rfl⟩

theorem Try.infoF : (Try.prog.info? 22).map (fun i => (i.zero, i.size, i.bytes)) = some (some (.float .f64 0), 1, 8) := by kernel_rfl

/-- The slice reads as these floats. -/
def RdF (w : World) (B : Nat) (a : Option Addr) (n cap : Nat) (xs : List Nat) : Prop :=
  xs.length = n ∧ (n = 0 ∨ ∃ b o, a = some ⟨b, o, none⟩ ∧ b < B ∧ ∀ j, j < n → w.cell? ⟨b, o + j, none⟩ = some (.float .f64 (xs[j]?.getD 0))) ∧ n ≤ cap ∧ cap ≤ maxLen ∧ (a = none → cap = 0)

theorem RdF.later {w w' : World} {B B' : Nat} {a : Option Addr} {n cap : Nat} {zs : List Nat} (h : RdF w B a n cap zs) (hb : Below B w w') (hB : B ≤ B') : RdF w' B' a n cap zs := by
  obtain ⟨h1, h3, h4⟩ := h
  refine ⟨h1, h3.imp id ?_, h4⟩
  rintro ⟨b, o, rfl, hlt, hc⟩
  exact ⟨b, o, rfl, by omega, fun j hj => (hb.cell (p := ⟨b, o + j, none⟩) hlt).trans (hc j hj)⟩

theorem RdF.own {w : World} {base e : Nat} {v : Value} {zs : List Nat} {n : Nat} (h : w.ownsRow base e 1 v n (zs.map (Value.float .f64))) :
    ∃ a cap, v = .slice a n cap ∧ RdF w w.heap.size a n cap zs := by
  have hl := h.1
  simp at hl
  rcases h.2 with ⟨rfl, rfl⟩ | ⟨g, cap, cur, rfl, hb, hg, hnc, hcm, hcs, ht⟩
  · exact ⟨none, 0, rfl, by omega, .inl rfl, Nat.le_refl _, Nat.zero_le _, fun _ => rfl⟩
  · refine ⟨_, cap, rfl, by omega, ?_, hnc, hcm, fun h => by simp at h⟩
    right
    refine ⟨g, 0, rfl, ?_, fun j hj => ?_⟩
    · have : w.heap[g]?.isSome := by rw [hg]; rfl
      simpa using this
    · have hc := h.cellAt j (by omega)
      rw [Nat.zero_add, hc, List.getElem?_map, List.getElem?_eq_getElem (by omega)]
      simp

end Go.Proofs.Ytmigdomlakflfaa

/- real.Sum and the document's Sum, of any list of floats. -/
namespace Go.Proofs.Ytmigdomlakflfaa
open Go.RowKit
set_option linter.unusedVariables false

/-- A struct's memory. -/
def FBox (w : World) (b t : Nat) (vs : Array Value) : Prop := w.heap[b]? = some (.cells vs t (0, 0))
theorem FBox.cell {w : World} {b t : Nat} {vs : Array Value} (h : FBox w b t vs) (j : Nat) : w.cell? ⟨b, j, none⟩ = vs[j]? := by
  unfold FBox at h
  simp [World.cell?, h]
theorem FBox.free {w : World} {b t : Nat} {vs : Array Value} (h : FBox w b t vs) (j : Nat) : w.frozen? ⟨b, j, none⟩ = false := by
  unfold FBox at h
  simp [World.frozen?, h]
theorem FBox.later {w w' : World} {B b t : Nat} {vs : Array Value} (h : FBox w b t vs) (hb : Below B w w') (hlt : b < B) : FBox w' b t vs := by
  unfold FBox at *
  rw [hb.block b hlt]; exact h
theorem FBox.lt {w : World} {b t : Nat} {vs : Array Value} (h : FBox w b t vs) : b < w.heap.size := by
  unfold FBox at h
  have : w.heap[b]?.isSome := by rw [h]; rfl
  simpa using this
theorem FBox.made (w : World) (t : Nat) (vs : Array Value) : FBox (w.alloc (.cells vs t)) w.heap.size t vs := by
  unfold FBox
  show (w.heap.push _)[w.heap.size]? = _
  rw [Array.getElem?_push, if_pos rfl]
theorem FBox.other {w : World} {b t : Nat} {vs : Array Value} (h : FBox w b t vs) (p : Addr) (v : Value) (hne : b ≠ p.block) : FBox (w.setCell p v) b t vs := by
  unfold FBox at *
  rw [Below.heap_setCell w p v b hne]; exact h
theorem FBox.drewN {w : World} {b t : Nat} {vs : Array Value} (h : FBox w b t vs) (n : Nat) : FBox (w.drewN n) b t vs := h
theorem FBox.set {w : World} {b t : Nat} {vs : Array Value} (h : FBox w b t vs) (j : Nat) (v : Value) : FBox (w.setCell ⟨b, j, none⟩ v) b t (vs.setIfInBounds j v) := by
  unfold FBox at *
  simp only [World.setCell, Array.getElem?_modify, if_pos, h]
  simp

end Go.Proofs.Ytmigdomlakflfaa

/- Turns as fractions: their sizes are rational numbers, whole turns left out. Nothing here speaks of the program. -/
namespace Go.Proofs.Ytmigdomlakflfaa
open Go.RowKit

end Go.Proofs.Ytmigdomlakflfaa

/- package clock: Check, Of, Week, At, leap, yearDays, monthDays, of every number. -/
namespace Go.Proofs.Ytmigdomlakflfaa
open Go.RowKit
set_option linter.unusedVariables false

def I64 (x : Int) : Prop := -9223372036854775808 ≤ x ∧ x ≤ 9223372036854775807
def ckR (t : Int) : Int := if 0 ≤ t ∧ t ≤ 1048576 then 0 else 2
theorem ckcheck_any (t : Int) (w : World) (h : I64 t) :
    Calls Try.prog 90 #[.int .i64 t] w fun e w' => e = .returned (.int .i64 (ckR t)) ∧ w' = w := by
  have HN : Hid (¬ (0 ≤ t ∧ t ≤ 1048576) → ckR t = 2) := fun h => if_neg h
  have HY : Hid ((0 ≤ t ∧ t ≤ 1048576) → ckR t = 0) := fun h => if_pos h
  go_enter Try.func90, Try.ntmps90
  go_wp2_with fail
  all_goals
    go_ret
    first
    | exact ⟨ret_int (HN.out (by omega)).symm, rfl⟩
    | exact ⟨ret_int (HY.out (by omega)).symm, rfl⟩

/-- A day's hour that is a tick. -/
def okA (d h : Int) : Prop := 0 ≤ h ∧ h < 24 ∧ 0 ≤ d ∧ d ≤ 43690 ∧ d * 24 + h ≤ 1048576
instance (d h : Int) : Decidable (okA d h) := by unfold okA; infer_instance
end Go.Proofs.Ytmigdomlakflfaa

/- package clock: Span, of every two numbers. -/
namespace Go.Proofs.Ytmigdomlakflfaa
open Go.RowKit
set_option linter.unusedVariables false
set_option linter.unusedSimpArgs false

end Go.Proofs.Ytmigdomlakflfaa

/- package record: New, made, isOne. -/
namespace Go.Proofs.Ytmigdomlakflfaa
open Go.RowKit
set_option linter.unusedVariables false
set_option linter.unusedSimpArgs false

theorem ykeys : Maps.Keyed Try.prog 3 := Maps.int_keyed Try.underlying3
theorem yzeroF (w : World) : (zeroValue 22).run Try.prog w = .ok (.float .f64 0) w := by kernel_rfl
/-- A record stands in memory: its struct, its map. -/
structure RecAt (w : World) (rb mb : Nat) (L : List (Int × Nat)) : Prop where
  box : FBox w rb 101 #[.map (some mb)]
  own : w.ownsMap Try.prog 3 flElem mb L.length (recD L)
  ok : RecOk L
theorem RecAt.kept {w w' : World} {rb mb : Nat} {L : List (Int × Nat)} (h : RecAt w rb mb L) (hr : w'.heap[rb]? = w.heap[rb]?) (hm : w'.heap[mb]? = w.heap[mb]?) : RecAt w' rb mb L := by
  refine ⟨hr.trans h.box, ?_, h.ok⟩
  obtain ⟨es, clock, hb, r⟩ := h.own
  exact ⟨es, clock, hm.trans hb, r⟩
theorem RecAt.later {w w' : World} {rb mb : Nat} {L : List (Int × Nat)} (h : RecAt w rb mb L) (hb : Below w.heap.size w w') : RecAt w' rb mb L := h.kept (hb.block _ h.box.lt) (hb.block _ h.own.lt)
theorem RecAt.ne {w : World} {rb mb : Nat} {L : List (Int × Nat)} (h : RecAt w rb mb L) : rb ≠ mb := by
  obtain ⟨es, clock, hb, r⟩ := h.own
  intro e
  have q := h.box
  unfold FBox at q
  rw [e, hb] at q
  cases q
theorem yown_sz {w : World} {mb n : Nat} {L : List (Int × Nat)} (h : w.ownsMap Try.prog 3 flElem mb n (recD L)) : w.ownsMap Try.prog 3 flElem mb L.length (recD L) := by
  obtain ⟨es, clock, hb, F, hs, hD⟩ := h
  refine ⟨es, clock, hb, F, ?_, hD⟩
  have e := congrArg Maps.size hD
  rw [recD_size] at e
  simp [Maps.size, length_sorted] at e
  omega

theorem ynew_any (w : World) : Calls Try.prog 66 #[] w fun e w' => e = .returned (.pointer (some ⟨w.heap.size + 1, 0, none⟩)) ∧ RecAt w' (w.heap.size + 1) w.heap.size [] ∧ Below w.heap.size w w' := by
  have hmm := @run_makeMap Try.prog
  go_enter Try.func66, Try.ntmps66
  go_wp2_with fail
  go_ret
  refine ⟨by simp, ⟨?_, (World.ownsMap_made w _ _ _).alloc _, RecOk.nil⟩, ((Below.refl _ w).alloc (Nat.le_refl _) _).alloc (by simp) _⟩
  have := FBox.made (w.alloc (.map #[] 0)) 101 #[.map (some w.heap.size)]
  simpa using this
theorem ymade_any (rb mb : Nat) (w : World) (h : FBox w rb 101 #[.map (some mb)]) : Calls Try.prog 89 #[.pointer (some ⟨rb, 0, none⟩)] w fun e w' => e = .returned (.bool true) ∧ w' = w := by
  have c0 : w.cell? ⟨rb, 0, none⟩ = some (.map (some mb)) := h.cell 0
  have hnn := fun w r => run_neq_map_nil w 99 3 22 r Try.underlying99
  go_enter Try.func89, Try.ntmps89
  go_wp2_with fail
  go_ret
  exact ⟨rfl, rfl⟩
theorem yisone_any (b : Nat) (w : World) (hb : b < 18446744073709551616) : Calls Try.prog 91 #[.float .f64 b] w fun e w' => e = .returned (.bool (isone b)) ∧ w' = w := by
  have H1 := hid (mIsNaN_any b w)
  have H2 := hid (mIsInf0_any b w hb)
  have e : isone b = (!isnan b && !isinf (b % 9223372036854775808)) := by
    unfold isone isnan isinf
    by_cases h1 : b % 9223372036854775808 < 9218868437227405312
    · have : ¬ 9218868437227405312 < b % 9223372036854775808 := by omega
      have : b % 9223372036854775808 ≠ 9218868437227405312 := by omega
      simp [*]
    · by_cases h2 : b % 9223372036854775808 = 9218868437227405312
      · simp [h2]
      · have : 9218868437227405312 < b % 9223372036854775808 := by omega
        simp [h1, h2, this]
  rw [e]
  generalize isnan b = N at *
  generalize isinf (b % 9223372036854775808) = I at *
  clear e hb
  cases N
  · go_enter Try.func91, Try.ntmps91
    go_wp2_with fail
    refine Calls.mono H1.out ?_
    rintro e w1 ⟨rfl, rfl⟩
    go_wp2_with fail
    refine Calls.mono H2.out ?_
    rintro e w1 ⟨rfl, rfl⟩
    go_wp2_with fail
    go_ret
    exact ⟨by simp, rfl⟩
  · go_enter Try.func91, Try.ntmps91
    go_wp2_with fail
    refine Calls.mono H1.out ?_
    rintro e w1 ⟨rfl, rfl⟩
    go_wp2_with fail
    go_ret
    exact ⟨by simp, rfl⟩
end Go.Proofs.Ytmigdomlakflfaa

/- package record: Add, Take. -/
namespace Go.Proofs.Ytmigdomlakflfaa
open Go.RowKit
set_option linter.unusedVariables false
set_option linter.unusedSimpArgs false

theorem ykey {t : Int} (h : I64 t) : keyOf Try.prog 3 (.int .i64 t) = some (.int .i64 t) := Maps.keyOf_int_mk Try.underlying3 (WalkArith.wf_i64 h)
/-- The look-up, as the walk takes it. -/
theorem ylook {w : World} {mb : Nat} {L : List (Int × Nat)} (h : w.ownsMap Try.prog 3 flElem mb L.length (recD L)) {t : Int} (ht : I64 t) (c : Bool) : (Instr.lookup 99 (.map (some mb)) (.int .i64 t) c).run Try.prog w = .ok (if c then .tuple #[.float .f64 ((rget L t).getD 0), .bool (rhas L t)] else .float .f64 ((rget L t).getD 0)) w := by
  cases c
  · obtain ⟨v, ps, hrun, hv⟩ := h.lookup ykeys Try.underlying99 (yzeroF w) (flElem_mk 0) (ykey ht)
    obtain ⟨b, rfl, e⟩ := flElem_inv hv
    rw [recD_at] at e
    have e1 : (rget L t).getD 0 = b := by simpa using congrArg Prod.fst e
    rw [hrun, e1]
    rfl
  · obtain ⟨v, ps, hrun, hv⟩ := h.look_ok ykeys Try.underlying99 (yzeroF w) (flElem_mk 0) (ykey ht)
    obtain ⟨b, rfl, e⟩ := flElem_inv hv
    rw [recD_at] at e
    have e1 : (rget L t).getD 0 = b := by simpa using congrArg Prod.fst e
    rw [hrun, e1, recD_has]
    rfl
/-- But for this block, and new ones, the world is as it was. -/
def But (m : Nat) (w w' : World) : Prop := w.grownBy w' (some m)
theorem But.drew {m : Nat} {a w : World} (h : But m a w) : But m a w.drew := ⟨h.os, h.tape, h.output, h.size, h.block⟩
theorem But.trans {m : Nat} {a b c : World} (h : But m a b) (k : But m b c) : But m a c :=
  ⟨k.os.trans h.os, k.tape.trans h.tape, k.output.trans h.output, Nat.le_trans h.size k.size, fun i hi hr => (k.block i (Nat.lt_of_lt_of_le hi h.size) hr).trans (h.block i hi hr)⟩
theorem But.below {m : Nat} {w w' : World} (h : But m w w') {B : Nat} (hB : B ≤ m) (hs : B ≤ w.heap.size) : Below B w w' := (Below.refl B w).grown h hs (fun k e => by cases e; exact hB)
theorem RecAt.other {m : Nat} {w w' : World} {rb mb : Nat} {L : List (Int × Nat)} (h : RecAt w rb mb L) (hb : But m w w') (h1 : rb ≠ m) (h2 : mb ≠ m) : RecAt w' rb mb L := h.kept (hb.block _ h.box.lt (fun e => h1 (by injection e))) (hb.block _ h.own.lt (fun e => h2 (by injection e)))
theorem FBox.but {m : Nat} {w w' : World} {b t : Nat} {vs : Array Value} (h : FBox w b t vs) (hb : But m w w') (h1 : b ≠ m) : FBox w' b t vs := (hb.block _ h.lt (fun e => h1 (by injection e))).trans h
set_option maxHeartbeats 1600000 in
set_option maxRecDepth 100000 in
theorem yadd_any (rb mb : Nat) (L : List (Int × Nat)) (t : Int) (b : Nat) (w : World) (h : RecAt w rb mb L) (ht : I64 t) (hb : b < 18446744073709551616) :
    Calls Try.prog 67 #[.pointer (some ⟨rb, 0, none⟩), .agg #[.int .i64 t, .float .f64 b]] w fun e w' => e = .returned (.int .i64 (addR L t b).1) ∧ RecAt w' rb mb (addR L t b).2 ∧ But mb w w' := by
  obtain ⟨X, hX⟩ : ∃ X, w.alloc (.cells #[.int .i64 t, .float .f64 b] 32) = X := ⟨_, rfl⟩
  have HS : Hid (FBox X w.heap.size 32 #[.int .i64 t, .float .f64 b]) := by rw [← hX]; exact FBox.made _ _ _
  have HB : Hid (Below w.heap.size w X) := by rw [← hX]; exact (Below.refl _ w).alloc (Nat.le_refl _) _
  have HG : Hid (w.grownBy X (some mb)) := by rw [← hX]; exact World.grownBy_alloc w _ _
  have HR := hid (h.later HB.out)
  have HM := hid (ymade_any rb mb X HR.out.box)
  have HC := hid (ckcheck_any t X ht)
  have c0 : X.cell? ⟨w.heap.size, 0, none⟩ = some (.int .i64 t) := HS.out.cell 0
  have c1 : X.cell? ⟨w.heap.size, 1, none⟩ = some (.float .f64 b) := HS.out.cell 1
  have c2 : X.cell? ⟨rb, 0, none⟩ = some (.map (some mb)) := HR.out.box.cell 0
  have HT := hid ht
  have HBB := hid hb
  clear h ht hb
  go_enter Try.func67, Try.ntmps67
  go_wp2_with fail
  clear hX
  refine Calls.mono HM.out ?_
  rintro e w1 ⟨rfl, rfl⟩
  go_wp2_with fail
  refine Calls.mono HC.out ?_
  rintro e w1 ⟨rfl, rfl⟩
  by_cases hk : 0 ≤ t ∧ t ≤ 1048576
  · have e0 : ckR t = 0 := if_pos hk
    rw [e0]
    have HK := hid hk
    clear hk e0
    have HD1 : Hid (RecAt w1.drew rb mb L) := HR.out.kept rfl rfl
    have HD2 : Hid (RecAt w1.drew.drew rb mb L) := HR.out.kept rfl rfl
    have hl : (Instr.lookup 99 (.map (some mb)) (.int .i64 t) true).run Try.prog w1.drew = .ok (.tuple #[.float .f64 ((rget L t).getD 0), .bool (rhas L t)]) w1.drew := ylook HD1.out.own HT.out true
    go_upto_region 6 with fail
    cases hh : rhas L t
    · rw [hh] at hl
      go_region
      clear hl
      have hlen : ∀ ty, (Builtin.len_ #[99] ty #[.map (some mb)]).run Try.prog w1.drew = .ok (.int .i64 (L.length : Int)) w1.drew := fun ty => by
        have q := HD1.out.own.len Try.underlying99 ty
        rw [recD_size] at q
        exact q
      by_cases hf : 4096 ≤ L.length
      · have hf' : ((4096 : Int) ≤ (L.length : Int)) := by omega
        have e1 : addR L t b = (3, L) := by
          unfold addR
          rw [if_neg (by have := HK.out; omega), if_neg (by rw [hh]; simp), if_pos hf]
        have HE := hid e1
        clear e1 hf hh
        go_wp2_with fail
        go_ret
        rw [HE.out]
        exact ⟨rfl, HD1.out, But.drew HG.out⟩
      · have hf' : ¬ ((4096 : Int) ≤ (L.length : Int)) := by omega
        have e1 : addR L t b = (0, rins (t, b) L) := by
          unfold addR
          rw [if_neg (by have := HK.out; omega), if_neg (by rw [hh]; simp), if_neg hf]
        have HE := hid e1
        obtain ⟨w', hu, hown, hg⟩ := HD2.out.own.update ykeys Try.underlying99 (by unfold maxLen; omega) (ykey HT.out) (flElem_mk b)
        rw [recD_put, rdel_no hh] at hown
        have HOK := hid (HD2.out.ok.ins HK.out HBB.out hh (by omega))
        have HO := hid (yown_sz hown)
        have HGG := hid hg
        clear e1 hf hh hown hg
        go_upto_region 11 with fail
        clear hlen hf'
        go_region
        clear hu
        go_wp2_with fail
        go_ret
        rw [HE.out]
        exact ⟨rfl, ⟨HD2.out.box.but HGG.out HD2.out.ne, HO.out, HOK.out⟩, But.trans (But.drew (But.drew HG.out)) HGG.out⟩
    · rw [hh] at hl
      have e1 : addR L t b = (5, L) := by
        unfold addR
        rw [if_neg (by have := HK.out; omega), if_pos hh]
      have HE := hid e1
      clear e1 hh
      go_region
      clear hl
      go_wp2_with fail
      go_ret
      rw [HE.out]
      exact ⟨rfl, HD1.out, But.drew HG.out⟩
  · have e0 : ckR t = 2 := if_neg hk
    have e1 : addR L t b = (2, L) := if_pos hk
    rw [e0]
    have HE := hid e1
    clear e0 e1 hk
    go_wp2_with fail
    go_ret
    rw [HE.out]
    exact ⟨rfl, HR.out, HG.out⟩
end Go.Proofs.Ytmigdomlakflfaa

/- package record: ticks: the ticks of those that are ones, or of those that are not, in whatever order the map tells them. -/
namespace Go.Proofs.Ytmigdomlakflfaa
open Go.RowKit
set_option linter.unusedVariables false
set_option linter.unusedSimpArgs false

theorem Try.yinfoI : (Try.prog.info? 3).map (fun i => (i.zero, i.size, i.bytes)) = some (some (.int .i64 0), 1, 8) := by kernel_rfl
/-- The step of a range over a map of heights by ticks. -/
theorem ynext {P : Program} (w : World) {ops : Array Oper} {rest : List Oper} {o : Oper} {a : Act} {Q : Exit → Act → World → Prop} (hg : o.guard = none) (it : Operand) (hop : o.op = Op.next it false) (k : TypeId) (K : Maps.Keyed P k) (hk : P.underlying k = some (.int .i64))
    (b r n : Nat) (L : List (Int × Nat)) (left : Lit → Bool) (cnt : Nat) (hit : a.eval it = .pointer (some ⟨r, 0, none⟩)) (h : w.ranges P k flElem b r n (recD L) left cnt)
    (hDone : cnt = 0 → (∀ kl, left kl = false) → wpList P ops Q rest (a.put o.dst (.tuple #[.bool false])) w)
    (hMore : ∀ (x : Int) (c : Nat) (w' : World) (cnt' : Nat), (x, c) ∈ L → left (.int .i64 x) = true → w'.ranges P k flElem b r n (recD L) (fun z => left z && !z.sameKey (.int .i64 x)) cnt' → cnt' < cnt →
      w.grownBy w' (some r) → w'.heap.size = w.heap.size → (Instr.entry (.pointer (some ⟨r, 0, none⟩))).run P w' = .ok (.tuple #[.int .i64 x, .float .f64 c]) w' → wpList P ops Q rest (a.put o.dst (.tuple #[.bool true, .int .i64 x, .float .f64 c])) w') :
    wpList P ops Q (o :: rest) a w :=
  wpList_next_ranges w hg it hop k K flElem (Value.int .i64) (Value.float .f64) (fun key kl hkey => by obtain ⟨x, rfl, _⟩ := Maps.keyOf_int_inv hk hkey; exact ⟨x, rfl⟩) (fun v y hv => by obtain ⟨c, rfl, _⟩ := flElem_inv hv; exact ⟨c, rfl⟩)
    b r n (recD L) left cnt hit h hDone (fun x c kl y w' cnt' hkey hlk hv hat hrg hlt hgr hsz hen => by
      obtain ⟨x', ex, rfl, hwx⟩ := Maps.keyOf_int_inv hk hkey
      cases ex
      obtain ⟨c', ec, rfl⟩ := flElem_inv hv
      cases ec
      refine hMore x c w' cnt' ?_ hlk hrg hlt hgr hsz hen
      have q := hat (.lit (.float .f64 (c + 1)))
      rw [recD_at] at q
      have e1 : (rget L x).getD (c + 1) = c := by simpa using q
      unfold rget at e1
      cases hf : L.find? (fun p => p.1 == x) with
      | none => rw [hf] at e1; simp at e1
      | some p =>
        rw [hf] at e1
        have e2 : p.2 = c := by simpa using e1
        have e3 : p.1 = x := by simpa using List.find?_some hf
        have := List.mem_of_find?_eq_some hf
        rw [← e2, ← e3]
        exact this)
/-- What was met so far. -/
structure Col (L : List (Int × Nat)) (o : Bool) (left : Lit → Bool) (cnt : Nat) (ks : List Int) : Prop where
  nod : ks.Nodup
  mem : ∀ t, t ∈ ks ↔ ∃ b, (t, b) ∈ L ∧ isone b = o ∧ left (.int .i64 t) = false
  few : ks.length + cnt ≤ L.length
theorem Col.yes {L : List (Int × Nat)} {o : Bool} {left : Lit → Bool} {cnt cnt' : Nat} {ks : List Int} (h : Col L o left cnt ks) {x : Int} {c : Nat} (hx : (x, c) ∈ L) (hl : left (.int .i64 x) = true) (hc : isone c = o) (hn : cnt' < cnt) : Col L o (fun z => left z && !z.sameKey (.int .i64 x)) cnt' (ks ++ [x]) := by
  have hno : x ∉ ks := fun hm => by
    obtain ⟨b, _, _, e⟩ := (h.mem x).1 hm
    rw [hl] at e
    cases e
  refine ⟨?_, fun t => ?_, ?_⟩
  · rw [List.nodup_append]
    exact ⟨h.nod, by simp, fun a ha b hb => by rw [List.mem_singleton.1 hb]; rintro rfl; exact hno ha⟩
  · rw [List.mem_append, h.mem t, List.mem_singleton]
    constructor
    · rintro (⟨b, h1, h2, h3⟩ | rfl)
      · exact ⟨b, h1, h2, by rw [h3]; rfl⟩
      · exact ⟨c, hx, hc, by rw [sameK]; simp⟩
    · rintro ⟨b, h1, h2, h3⟩
      rw [sameK] at h3
      by_cases e : t = x
      · exact .inr e
      · exact .inl ⟨b, h1, h2, by simpa [e] using h3⟩
  · have := h.few
    rw [List.length_append]
    simp
    omega
theorem Col.no {L : List (Int × Nat)} (ok : RecOk L) {o : Bool} {left : Lit → Bool} {cnt cnt' : Nat} {ks : List Int} (h : Col L o left cnt ks) {x : Int} {c : Nat} (hx : (x, c) ∈ L) (hl : left (.int .i64 x) = true) (hc : isone c ≠ o) (hn : cnt' < cnt) : Col L o (fun z => left z && !z.sameKey (.int .i64 x)) cnt' ks := by
  refine ⟨h.nod, fun t => ?_, by have := h.few; omega⟩
  rw [h.mem t]
  constructor
  · rintro ⟨b, h1, h2, h3⟩
    exact ⟨b, h1, h2, by rw [h3]; rfl⟩
  · rintro ⟨b, h1, h2, h3⟩
    rw [sameK] at h3
    by_cases e : t = x
    · subst e
      have q1 := ok.get h1
      have q2 := ok.get hx
      rw [q1] at q2
      injection q2 with q2
      subst q2
      exact absurd h2 hc
    · exact ⟨b, h1, h2, by simpa [e] using h3⟩
theorem has_left (L : List (Int × Nat)) (o : Bool) : Col L o (Maps.has (recD L)) (Maps.size (recD L)) [] := by
  refine ⟨.nil, fun t => ?_, by rw [recD_size]; simp⟩
  constructor
  · intro h; cases h
  · rintro ⟨b, h1, h2, h3⟩
    rw [recD_has] at h3
    exact absurd rfl (rhas_no h3 (t, b) h1)
set_option maxHeartbeats 3200000 in
set_option maxRecDepth 100000 in
theorem yticks_any (rb mb : Nat) (L : List (Int × Nat)) (o : Bool) (w : World) (h : RecAt w rb mb L) :
    Calls Try.prog 68 #[.pointer (some ⟨rb, 0, none⟩), .bool o] w fun e w' => ∃ (v : Value) (ks : List Int), e = .returned v ∧ Hid (w'.ownsRow w.heap.size 3 1 v ks.length (ks.map (Value.int .i64))) ∧ Hid (ks.mergeSort (fun x y => decide (x ≤ y)) = (onesL L o).map (·.1)) ∧ Hid (ks.length ≤ 4096) ∧ Below w.heap.size w w' := by
  have HM := hid (ymade_any rb mb w h.box)
  have HR := hid h
  have hown := h.own
  have c0 : w.cell? ⟨rb, 0, none⟩ = some (.map (some mb)) := h.box.cell 0
  obtain ⟨i0, hi, hz0, hz1, hz2⟩ := info_parts Try.yinfoI
  have hlen := h.ok.few
  have hmb := h.own.lt
  clear h
  go_enter Try.func68, Try.ntmps68
  go_wp2_with fail
  refine Calls.mono HM.out ?_
  rintro e w1 ⟨rfl, rfl⟩
  go_wp2_with (first
    | (at_range; refine wpList_range_own _ rfl _ 99 rfl 3 22 ykeys Try.underlying99 _ mb _ _ rfl hown ?_; intro w0 hrg0 hg0 hs0)
    | go_in)
  go_frame
  clear hown
  go_loopw [5] (fun v wr => ∃ (left : Lit → Bool) (cnt : Nat) (ks : List Int), Hid (wr.ranges Try.prog 3 flElem mb w1.heap.size L.length (recD L) left cnt) ∧ Hid (wr.ownsRow (w1.heap.size + 1) 3 1 v ks.length (ks.map (Value.int .i64))) ∧ Hid (Col L o left cnt ks) ∧ Hid (Below w1.heap.size w1 wr) ∧ w1.heap.size + 1 ≤ wr.heap.size)
    (fun _ wr => wr.rangeLeft mb w1.heap.size)
  case atStart => exact ⟨_, _, [], hrg0, World.ownsRow_nil _ _ _ _, has_left L o, (Below.refl _ _).grown hg0 (Nat.le_refl _) (fun k e => by cases e), by omega⟩
  case round =>
    obtain ⟨left, cnt, ks, HRG, HO, HC, HB, hsz⟩ := hrel
    have hrg := HRG.out
    go_wp2_with (first
      | (at_next; refine ynext _ rfl _ rfl 3 ykeys Try.underlying3 mb w1.heap.size L.length L _ _ rfl hrg ?_ ?_)
      | go_in)
    · intro _ hl0
      clear hrg
      go_wp2_with fail
      go_ret
      refine ⟨_, ks, rfl, owns_base HO.out (by omega), ?_, ?_, HB.out⟩
      · refine keys_sorted (HR.out.ok.ones o) HC.out.nod (fun t => ?_)
        rw [HC.out.mem t]
        unfold onesL
        constructor
        · rintro ⟨b, h1, h2, _⟩; exact ⟨b, List.mem_filter.2 ⟨h1, by simp [h2]⟩⟩
        · rintro ⟨b, h1⟩
          obtain ⟨h1, h2⟩ := List.mem_filter.1 h1
          exact ⟨b, h1, by simpa using h2, hl0 _⟩
      · have := HC.out.few
        show _ ≤ _
        omega
    · intro x c w2 cnt1 hx hlx hrg1 hlt hg1 hs1 hen
      have HX := hid hx
      have HLX := hid hlx
      have HRG1 := hid hrg1
      have HLT := hid hlt
      have HRGO := hid hrg
      have HO1 : Hid (w2.ownsRow (w1.heap.size + 1) 3 1 u5 ks.length (ks.map (Value.int .i64))) := HO.out.kept hg1 (.inr (fun e => by have := (HO.out.lt _ e).1; omega))
      have HB1 : Hid (Below w1.heap.size w1 w2) := HB.out.grown hg1 HB.out.size (fun k e => by cases e; exact Nat.le_refl _)
      have HI := hid (yisone_any c w2 (HR.out.ok.tick _ hx).2.2)
      have hsz2 : w1.heap.size + 1 ≤ w2.heap.size := by omega
      clear hx hlx hrg1 hlt hg1 hs1 hrg hsz
      have ho := HO1.out
      have hls : ks.length ≤ 4096 := by have := HC.out.few; omega
      by_cases hc : isone c = o
      · have hq : (isone c == o) = true := by simp [hc]
        have HCC := hid hc
        clear hc
        go_wp2_with fail
        clear hen
        refine Calls.mono HI.out ?_
        rintro e w3 ⟨rfl, rfl⟩
        have hrs := HB1.out.size
        go_wp2_with (first
          | (at_builtin; refine wpList_append_own _ rfl _ _ 40 rfl (w1.heap.size + 1) 3 i0 (.int .i64 0) 1 8 Try.underlying40 hi hz0 hz1 hz2 rfl (by decide) _ _ _ rfl (ho.alloc _) ⟨w3.heap.size, 0, none⟩ 1 1 [.int .i64 x] rfl rfl (cell_one_new _ _ _) (by simp [Value.oneCell']) (by unfold maxLen; omega) (by omega) (by simp; omega) ?_; intro v' w4 ho2 hg2 _)
          | go_in)
        have HA : Hid (w3.grownBy w4 u5.ownBlock) := (World.grownBy_alloc _ _ _).trans hg2
        have HB4 : Hid (Below w1.heap.size w1 w4) := HB1.out.grown HA.out HB1.out.size (fun g hg => by have := (HO1.out.lt g hg).1; omega)
        have HR4 : Hid (w4.ranges Try.prog 3 flElem mb w1.heap.size L.length (recD L) (fun z => left z && !z.sameKey (.int .i64 x)) cnt1) := HRG1.out.kept HA.out (fun e => by have := (HO1.out.lt _ e.symm).1; omega) (fun e => by have := (HO1.out.lt _ e.symm).1; omega)
        have hz4 : w1.heap.size + 1 ≤ w4.heap.size := by have := HA.out.size; omega
        clear hg2
        go_wp2_with fail
        go_roundw
        case rel => exact ⟨_, cnt1, ks ++ [x], HR4.out, by rw [List.length_append, List.map_append]; exact ho2, HC.out.yes HX.out HLX.out HCC.out HLT.out, HB4.out, hz4⟩
        case measure => rw [HR4.out.left_eq, HRGO.out.left_eq]; exact HLT.out
      · have hq : (isone c == o) = false := by simp [hc]
        have HCC := hid hc
        clear hc
        go_wp2_with fail
        clear hen
        refine Calls.mono HI.out ?_
        rintro e w3 ⟨rfl, rfl⟩
        go_wp2_with fail
        go_roundw
        case rel => exact ⟨_, cnt1, ks, HRG1.out, HO1.out, HC.out.no HR.out.ok HX.out HLX.out HCC.out HLT.out, HB1.out, hsz2⟩
        case measure => rw [HRG1.out.left_eq, HRGO.out.left_eq]; exact HLT.out
end Go.Proofs.Ytmigdomlakflfaa

/- Records, no program: rising lists are what their members are. -/
namespace Go.Proofs.Ytmigdomlakflfaa
open Go.RowKit
set_option linter.unusedVariables false

theorem rise_len : ∀ {M L : List (Int × Nat)}, L.Pairwise (fun p q => p.1 < q.1) → M.Pairwise (fun p q => p.1 < q.1) → (∀ p ∈ L, p ∈ M) → L.length ≤ M.length
  | [], [], _, _, _ => Nat.le_refl _
  | [], x :: r, _, _, h => by have := h x List.mem_cons_self; simp at this
  | y :: M, [], _, _, _ => Nat.zero_le _
  | y :: M, x :: r, hL, hM, h => by
    rw [List.pairwise_cons] at hL hM
    have key : ∀ p ∈ r, p ∈ M := fun p hp => by
      rcases List.mem_cons.1 (h p (List.mem_cons_of_mem _ hp)) with rfl | hq
      · exfalso
        have h1 := hL.1 _ hp
        rcases List.mem_cons.1 (h x List.mem_cons_self) with rfl | hx
        · omega
        · have := hM.1 _ hx; omega
      · exact hq
    have := rise_len hL.2 hM.2 key
    simp only [List.length_cons]
    omega
theorem rise_eq : ∀ {L M : List (Int × Nat)}, L.Pairwise (fun p q => p.1 < q.1) → M.Pairwise (fun p q => p.1 < q.1) → (∀ p, p ∈ L ↔ p ∈ M) → L = M
  | [], [], _, _, _ => rfl
  | [], y :: M, _, _, h => by have := (h y).2 List.mem_cons_self; simp at this
  | x :: L, [], _, _, h => by have := (h x).1 List.mem_cons_self; simp at this
  | x :: L, y :: M, hL, hM, h => by
    rw [List.pairwise_cons] at hL hM
    have hxy : x = y := by
      rcases List.mem_cons.1 ((h x).1 List.mem_cons_self) with e | hx
      · exact e
      · rcases List.mem_cons.1 ((h y).2 List.mem_cons_self) with e | hy
        · exact e.symm
        · have := hL.1 _ hy; have := hM.1 _ hx; omega
    subst hxy
    rw [rise_eq hL.2 hM.2 (fun p => ?_)]
    constructor
    · intro hp
      rcases List.mem_cons.1 ((h p).1 (List.mem_cons_of_mem _ hp)) with rfl | hq
      · have := hL.1 _ hp; omega
      · exact hq
    · intro hp
      rcases List.mem_cons.1 ((h p).2 (List.mem_cons_of_mem _ hp)) with rfl | hq
      · have := hM.1 _ hp; omega
      · exact hq
theorem mem_rdel {L : List (Int × Nat)} {t : Int} {p : Int × Nat} : p ∈ rdel L t ↔ p ∈ L ∧ p.1 ≠ t := by
  unfold rdel
  rw [List.mem_filter]
  simp
/-- What was added, one behind the other, and the record of it. -/
structure InOk (La ins : List (Int × Nat)) : Prop where
  ok : RecOk La
  mem : ∀ p, p ∈ La ↔ p ∈ ins
  far : ins.Pairwise (fun p q => p.1 ≠ q.1)
theorem InOk.nil : InOk [] [] := ⟨RecOk.nil, fun _ => Iff.rfl, .nil⟩
theorem InOk.tick {La ins : List (Int × Nat)} (h : InOk La ins) {p : Int × Nat} (hp : p ∈ ins) : 0 ≤ p.1 ∧ p.1 ≤ 1048576 ∧ p.2 < 18446744073709551616 := h.ok.tick p ((h.mem p).2 hp)
theorem InOk.inj {La ins : List (Int × Nat)} (h : InOk La ins) {i j : Nat} {p q : Int × Nat} (hi : ins[i]? = some p) (hj : ins[j]? = some q) (e : p.1 = q.1) : i = j := by
  have key : ∀ (l : List (Int × Nat)), l.Pairwise (fun p q => p.1 ≠ q.1) → ∀ i j : Nat, i < j → l[i]? = some p → l[j]? = some q → False := by
    intro l hl i j hlt h1 h2
    obtain ⟨l1, e1⟩ := List.getElem?_eq_some_iff.1 h1
    obtain ⟨l2, e2⟩ := List.getElem?_eq_some_iff.1 h2
    have := List.pairwise_iff_getElem.1 hl i j l1 l2 hlt
    rw [e1, e2] at this
    exact this e
  rcases Nat.lt_trichotomy i j with hlt | he | hgt
  · exact (key ins h.far i j hlt hi hj).elim
  · exact he
  · have key2 : ∀ (l : List (Int × Nat)), l.Pairwise (fun p q => p.1 ≠ q.1) → ∀ i j : Nat, i < j → l[i]? = some q → l[j]? = some p → False := by
      intro l hl i j hlt h1 h2
      obtain ⟨l1, e1⟩ := List.getElem?_eq_some_iff.1 h1
      obtain ⟨l2, e2⟩ := List.getElem?_eq_some_iff.1 h2
      have := List.pairwise_iff_getElem.1 hl i j l1 l2 hlt
      rw [e1, e2] at this
      exact this e.symm
    exact (key2 ins h.far j i hgt hj hi).elim
theorem InOk.len {La ins : List (Int × Nat)} (h : InOk La ins) : La.length = ins.length := by
  have n1 : La.Nodup := h.ok.rise.imp (fun h e => by rw [e] at h; omega)
  have n2 : ins.Nodup := h.far.imp (fun h e => h (by rw [e]))
  exact ((List.perm_ext_iff_of_nodup n1 n2).2 h.mem).length_eq
/-- One more was added. -/
theorem InOk.more {La ins : List (Int × Nat)} (h : InOk La ins) {t : Int} {b : Nat} (hb : b < 18446744073709551616) (h0 : (addR La t b).1 = 0) : (addR La t b).2 = rins (t, b) La ∧ InOk (rins (t, b) La) (ins ++ [(t, b)]) := by
  unfold addR at h0 ⊢
  by_cases h1 : ¬ (0 ≤ t ∧ t ≤ 1048576)
  · rw [if_pos h1] at h0; simp at h0
  · rw [if_neg h1] at h0 ⊢
    by_cases h2 : rhas La t = true
    · rw [if_pos h2] at h0; simp at h0
    · rw [if_neg h2] at h0 ⊢
      by_cases h3 : 4096 ≤ La.length
      · rw [if_pos h3] at h0; simp at h0
      · rw [if_neg h3]
        refine ⟨rfl, h.ok.ins (by omega) hb (by simpa using h2) (by omega), fun p => ?_, ?_⟩
        · rw [mem_rins, List.mem_append, h.mem p, List.mem_singleton]
          exact Or.comm
        · refine List.pairwise_append.2 ⟨h.far, by simp, fun p hp q hq => ?_⟩
          rw [List.mem_singleton] at hq
          subst hq
          exact rhas_no (by simpa using h2) p ((h.mem p).2 hp)
theorem addR_no {L : List (Int × Nat)} {t : Int} {b : Nat} (h : (addR L t b).1 ≠ 0) : (addR L t b).2 = L := by
  unfold addR at h ⊢
  split
  · rfl
  · rename_i h1
    rw [if_neg h1] at h
    split
    · rfl
    · rename_i h2
      rw [if_neg h2] at h
      split
      · rfl
      · rename_i h3
        rw [if_neg h3] at h
        exact absurd rfl h
/-- The second record holds just those that were added at places which P names. -/
structure HasOf (La ins : List (Int × Nat)) (P : Nat → Prop) (L : List (Int × Nat)) : Prop where
  ok : RecOk L
  mem : ∀ p, p ∈ L ↔ ∃ j, ins[j]? = some p ∧ P j
theorem HasOf.all {La ins L : List (Int × Nat)} {P : Nat → Prop} (hi : InOk La ins) (h : HasOf La ins P L) (hP : ∀ j, j < ins.length → P j) : L = La := by
  refine rise_eq h.ok.rise hi.ok.rise fun p => ?_
  rw [h.mem, hi.mem]
  constructor
  · rintro ⟨j, hj, _⟩; exact List.mem_of_getElem? hj
  · intro hp
    obtain ⟨j, hj⟩ := List.getElem?_of_mem hp
    exact ⟨j, hj, hP j (List.getElem?_eq_some_iff.1 hj).1⟩
theorem HasOf.add {La ins L : List (Int × Nat)} {P Q : Nat → Prop} (hi : InOk La ins) (h : HasOf La ins P L) {i : Nat} {t : Int} {b : Nat} (hx : ins[i]? = some (t, b)) (hn : ¬ P i) (hQ : ∀ j, j < ins.length → (Q j ↔ j = i ∨ P j)) :
    addR L t b = (0, rins (t, b) L) ∧ HasOf La ins Q (rins (t, b) L) := by
  have hm : (t, b) ∈ ins := List.mem_of_getElem? hx
  have ht := hi.tick hm
  dsimp only at ht
  have hno : rhas L t = false := by
    cases hh : rhas L t
    · rfl
    · obtain ⟨c, hc⟩ := rhas_yes hh
      obtain ⟨j, hj, hp⟩ := (h.mem _).1 hc
      have := hi.inj hx hj rfl
      subst this
      exact (hn hp).elim
  have hr := rise_rins (x := (t, b)) h.ok.rise (rhas_no hno)
  have hsub : ∀ p ∈ rins (t, b) L, p ∈ La := fun p hp => by
    rw [hi.mem]
    rcases mem_rins.1 hp with rfl | hp
    · exact hm
    · obtain ⟨j, hj, _⟩ := (h.mem p).1 hp
      exact List.mem_of_getElem? hj
  have hl := rise_len hr hi.ok.rise hsub
  rw [len_rins] at hl
  have h4 := hi.ok.few
  refine ⟨?_, h.ok.ins ⟨ht.1, ht.2.1⟩ ht.2.2 hno (by omega), fun p => ?_⟩
  · unfold addR
    rw [if_neg (by omega), if_neg (by rw [hno]; simp), if_neg (by omega)]
  · rw [mem_rins, h.mem]
    constructor
    · rintro (rfl | ⟨j, hj, hp⟩)
      · exact ⟨i, hx, (hQ i (List.getElem?_eq_some_iff.1 hx).1).2 (.inl rfl)⟩
      · exact ⟨j, hj, (hQ j (List.getElem?_eq_some_iff.1 hj).1).2 (.inr hp)⟩
    · rintro ⟨j, hj, hq⟩
      rcases (hQ j (List.getElem?_eq_some_iff.1 hj).1).1 hq with rfl | hp
      · left
        rw [hj] at hx
        injection hx
      · exact .inr ⟨j, hj, hp⟩
theorem HasOf.take {La ins L : List (Int × Nat)} {P Q : Nat → Prop} (hi : InOk La ins) (h : HasOf La ins P L) {i : Nat} {t : Int} {b : Nat} (hx : ins[i]? = some (t, b)) (hn : P i) (hQ : ∀ j, j < ins.length → (Q j ↔ j ≠ i ∧ P j)) :
    takeR L t = (0, rdel L t) ∧ takeR (rdel L t) t = (6, rdel L t) ∧ HasOf La ins Q (rdel L t) := by
  have hy : rhas L t = true := by
    unfold rhas
    rw [List.any_eq_true]
    exact ⟨(t, b), (h.mem _).2 ⟨i, hx, hn⟩, by simp⟩
  have hno : rhas (rdel L t) t = false := by
    cases hh : rhas (rdel L t) t
    · rfl
    · obtain ⟨c, hc⟩ := rhas_yes hh
      exact ((mem_rdel.1 hc).2 rfl).elim
  refine ⟨if_pos hy, by unfold takeR; rw [if_neg (by rw [hno]; simp)], h.ok.del t, fun p => ?_⟩
  rw [mem_rdel, h.mem]
  constructor
  · rintro ⟨⟨j, hj, hp⟩, hne⟩
    refine ⟨j, hj, (hQ j (List.getElem?_eq_some_iff.1 hj).1).2 ⟨?_, hp⟩⟩
    rintro rfl
    rw [hx] at hj
    injection hj with hj
    exact hne (by rw [← hj])
  · rintro ⟨j, hj, hq⟩
    obtain ⟨hne, hp⟩ := (hQ j (List.getElem?_eq_some_iff.1 hj).1).1 hq
    refine ⟨⟨j, hj, hp⟩, fun e => hne ?_⟩
    exact hi.inj hj hx e
theorem HasOf.nil {La ins : List (Int × Nat)} {P : Nat → Prop} (hP : ∀ j, j < ins.length → ¬ P j) : HasOf La ins P [] :=
  ⟨RecOk.nil, fun p => ⟨fun h => by simp at h, fun ⟨j, hj, hp⟩ => (hP j (List.getElem?_eq_some_iff.1 hj).1 hp).elim⟩⟩
end Go.Proofs.Ytmigdomlakflfaa

/- Rounding to the nearest float: where the rung that is told stands to the number. Nothing here speaks of the program. -/
namespace Go.Proofs.Ytmigdomlakflfaa

theorem dbl_frac : Ieee.double.fractionBits = 52 := rfl

/-- Half-even of n / 2^k: twice the error is at most a unit. -/
theorem cut_even (neg : Bool) (n k : Nat) (hn : n ≠ 0) :
    2 * n ≤ (2 * Ieee.Toward.even.cut neg n k + 1) * 2 ^ k ∧ (2 * Ieee.Toward.even.cut neg n k) * 2 ^ k ≤ 2 * n + 2 ^ k ∧
    (2 * n = (2 * Ieee.Toward.even.cut neg n k + 1) * 2 ^ k → Ieee.Toward.even.cut neg n k % 2 = 0) ∧ ((2 * Ieee.Toward.even.cut neg n k) * 2 ^ k = 2 * n + 2 ^ k → Ieee.Toward.even.cut neg n k % 2 = 0) := by
  unfold Ieee.Toward.cut
  simp only [Nat.shiftLeft_eq, Nat.one_mul]
  by_cases hk : k ≤ n.log2 + 2
  · rw [Nat.min_eq_left hk]
    have hp : 0 < 2 ^ k := Nat.two_pow_pos k
    generalize 2 ^ k = G at hp
    have hd := Nat.div_add_mod n G
    have hm := Nat.mod_lt n hp
    generalize n / G = q at hd
    generalize n % G = r at hd hm
    subst hd
    by_cases h1 : G < 2 * r
    · have e : (decide (G < 2 * r) || G == 2 * r && q % 2 == 1).toNat = 1 := by simp [h1]
      rw [e]
      have a1 : (2 * (q + 1) + 1) * G = 2 * (G * q) + 3 * G := by rw [Nat.add_mul, Nat.mul_comm (2 * (q + 1)), Nat.mul_add, Nat.mul_add, Nat.mul_left_comm]; omega
      have a2 : (2 * (q + 1)) * G = 2 * (G * q) + 2 * G := by rw [Nat.mul_comm (2 * (q + 1)), Nat.mul_add, Nat.mul_add, Nat.mul_left_comm]; omega
      rw [a1, a2]
      refine ⟨by omega, by omega, by omega, by omega⟩
    · by_cases h2 : G = 2 * r
      · by_cases h3 : q % 2 = 1
        · have e : (decide (G < 2 * r) || G == 2 * r && q % 2 == 1).toNat = 1 := by simp [h2, h3]
          rw [e]
          have a1 : (2 * (q + 1) + 1) * G = 2 * (G * q) + 3 * G := by rw [Nat.add_mul, Nat.mul_comm (2 * (q + 1)), Nat.mul_add, Nat.mul_add, Nat.mul_left_comm]; omega
          have a2 : (2 * (q + 1)) * G = 2 * (G * q) + 2 * G := by rw [Nat.mul_comm (2 * (q + 1)), Nat.mul_add, Nat.mul_add, Nat.mul_left_comm]; omega
          rw [a1, a2]
          refine ⟨by omega, by omega, by omega, by omega⟩
        · have e : (decide (G < 2 * r) || G == 2 * r && q % 2 == 1).toNat = 0 := by simp [h1, h3]
          rw [e]
          have a1 : (2 * (q + 0) + 1) * G = 2 * (G * q) + G := by rw [Nat.add_mul, Nat.mul_comm (2 * (q + 0)), Nat.add_zero, Nat.mul_left_comm]; omega
          have a2 : (2 * (q + 0)) * G = 2 * (G * q) := by rw [Nat.mul_comm (2 * (q + 0)), Nat.add_zero, Nat.mul_left_comm]
          rw [a1, a2]
          refine ⟨by omega, by omega, by omega, by omega⟩
      · have e : (decide (G < 2 * r) || G == 2 * r && q % 2 == 1).toNat = 0 := by simp [h1, h2]
        rw [e]
        have a1 : (2 * (q + 0) + 1) * G = 2 * (G * q) + G := by rw [Nat.add_mul, Nat.mul_comm (2 * (q + 0)), Nat.add_zero, Nat.mul_left_comm]; omega
        have a2 : (2 * (q + 0)) * G = 2 * (G * q) := by rw [Nat.mul_comm (2 * (q + 0)), Nat.add_zero, Nat.mul_left_comm]
        rw [a1, a2]
        refine ⟨by omega, by omega, by omega, by omega⟩
  · rw [Nat.min_eq_right (by omega)]
    have hl : n < 2 ^ (n.log2 + 1) := Nat.lt_log2_self
    have e2 : 2 ^ (n.log2 + 2) = 2 ^ (n.log2 + 1) * 2 := Nat.pow_succ ..
    have hle : 2 ^ (n.log2 + 2) ≤ 2 ^ k := Nat.pow_le_pow_right (by decide) (by omega)
    have hdiv : n / 2 ^ (n.log2 + 2) = 0 := Nat.div_eq_of_lt (by omega)
    have hmod : n % 2 ^ (n.log2 + 2) = n := Nat.mod_eq_of_lt (by omega)
    rw [hdiv, hmod]
    have e : (decide (2 ^ (n.log2 + 2) < 2 * n) || 2 ^ (n.log2 + 2) == 2 * n && 0 % 2 == 1).toNat = 0 := by
      have h1 : ¬ 2 ^ (n.log2 + 2) < 2 * n := by omega
      simp [h1]
    rw [e]
    simp only [Nat.add_zero, Nat.mul_zero, Nat.zero_mul, Nat.zero_add, Nat.one_mul]
    refine ⟨by omega, by omega, by omega, fun _ => trivial⟩

/-- The rung that nearest tells, of a number above 0, and what is known ahead of the least and the greatest. -/
theorem near_core (neg : Bool) (mag : Nat) (place : Int) (h0 : mag ≠ 0) :
    ∃ E kept, Ieee.double.nearest neg mag place = Ieee.double.word neg (min (E * 4503599627370496 + kept) 9218868437227405312) ∧ kept ≤ 9007199254740992 ∧ (0 < E → 4503599627370496 ≤ kept) ∧
      2 * (mag * 2 ^ (place + 1074).toNat) ≤ (2 * kept + 1) * 2 ^ E * 2 ^ (-(place + 1074)).toNat ∧
      (2 * kept) * 2 ^ E * 2 ^ (-(place + 1074)).toNat ≤ 2 * (mag * 2 ^ (place + 1074).toNat) + 2 ^ E * 2 ^ (-(place + 1074)).toNat ∧
      (0 < E → 4503599627370496 * 2 ^ E * 2 ^ (-(place + 1074)).toNat ≤ mag * 2 ^ (place + 1074).toNat) ∧
      (2 * (mag * 2 ^ (place + 1074).toNat) = (2 * kept + 1) * 2 ^ E * 2 ^ (-(place + 1074)).toNat → kept % 2 = 0) ∧
      ((2 * kept) * 2 ^ E * 2 ^ (-(place + 1074)).toNat = 2 * (mag * 2 ^ (place + 1074).toNat) + 2 ^ E * 2 ^ (-(place + 1074)).toNat → kept % 2 = 0) := by
  unfold Ieee.Format.nearest
  rw [if_neg h0]
  simp only [dbl_inf, dbl_binade, dbl_least, dbl_frac]
  generalize hL : mag.log2 = L
  have hlo : 2 ^ L ≤ mag := by rw [← hL]; exact Nat.log2_self_le h0
  have hhi : mag < 2 ^ (L + 1) := by rw [← hL]; exact Nat.lt_log2_self
  generalize hlast : max (place + (L : Int) - ((52 : Nat) : Int)) (-1074) = last
  have hle : -1074 ≤ last := by omega
  refine ⟨(last - -1074).toNat, _, rfl, ?_⟩
  obtain ⟨E, hE⟩ : ∃ E : Nat, last = -1074 + (E : Int) := ⟨(last + 1074).toNat, by omega⟩
  have eE : (last - -1074).toNat = E := by omega
  rw [eE]
  by_cases hd : last ≤ place
  · -- nothing is dropped
    obtain ⟨u, hu⟩ : ∃ u : Nat, place = last + (u : Int) := ⟨(place - last).toNat, by omega⟩
    have e1 : (place - last).toNat = u := by omega
    have e2 : (last - place).toNat = 0 := by omega
    have e3 : (place + 1074).toNat = E + u := by omega
    have e4 : (-(place + 1074)).toNat = 0 := by omega
    rw [e1, e2, e3, e4]
    have hk : Ieee.Toward.even.cut neg (mag <<< u) 0 = mag * 2 ^ u := by
      have hm : mag <<< u ≠ 0 := by rw [Nat.shiftLeft_eq]; exact Nat.mul_ne_zero h0 (Nat.ne_of_gt (Nat.two_pow_pos u))
      obtain ⟨c1, c2, _⟩ := cut_even neg (mag <<< u) 0 hm
      rw [Nat.shiftLeft_eq] at *
      simp only [Nat.pow_zero, Nat.mul_one] at c1 c2
      omega
    rw [hk]
    have hp : 2 ^ (E + u) = 2 ^ u * 2 ^ E := by rw [Nat.add_comm, Nat.pow_add]
    have hv : mag * 2 ^ (E + u) = mag * 2 ^ u * 2 ^ E := by rw [hp, Nat.mul_assoc]
    rw [hv]
    have hpE : 0 < 2 ^ E := Nat.two_pow_pos E
    have hub : mag * 2 ^ u ≤ 9007199254740992 := by
      have : L + u ≤ 52 := by omega
      have h1 : mag * 2 ^ u ≤ 2 ^ (L + 1) * 2 ^ u := Nat.mul_le_mul_right _ (Nat.le_of_lt hhi)
      have h2 : 2 ^ (L + 1) * 2 ^ u = 2 ^ (L + 1 + u) := (Nat.pow_add ..).symm
      have h3 : 2 ^ (L + 1 + u) ≤ 2 ^ 53 := Nat.pow_le_pow_right (by decide) (by omega)
      have h4 : (2 : Nat) ^ 53 = 9007199254740992 := by decide
      omega
    have hlb : 0 < E → 4503599627370496 ≤ mag * 2 ^ u := by
      intro hE0
      have h1 : 2 ^ L * 2 ^ u ≤ mag * 2 ^ u := Nat.mul_le_mul_right _ hlo
      have h2 : 2 ^ L * 2 ^ u = 2 ^ (L + u) := (Nat.pow_add ..).symm
      have h3 : L + u = 52 := by omega
      have h4 : (2 : Nat) ^ 52 = 4503599627370496 := by decide
      rw [h3] at h2
      omega
    generalize mag * 2 ^ u = K at *
    generalize 2 ^ E = P at *
    simp only [Nat.pow_zero, Nat.mul_one]
    have a1 : 2 * (K * P) = 2 * K * P := (Nat.mul_assoc ..).symm
    have a2 : (2 * K + 1) * P = 2 * K * P + P := by rw [Nat.add_mul, Nat.one_mul]
    rw [a1, a2]
    refine ⟨hub, hlb, by omega, by omega, fun h => Nat.mul_le_mul_right _ (hlb h), fun h => ?_, fun h => ?_⟩
    · omega
    · omega
  · -- some bits are dropped
    obtain ⟨k, hk⟩ : ∃ k : Nat, last = place + (k : Int) := ⟨(last - place).toNat, by omega⟩
    have e1 : (place - last).toNat = 0 := by omega
    have e2 : (last - place).toNat = k := by omega
    rw [e1, e2, Nat.shiftLeft_zero]
    obtain ⟨c1, c2, c3, c4⟩ := cut_even neg mag k h0
    generalize hK : Ieee.Toward.even.cut neg mag k = K at *
    -- the place's part
    have key : 2 ^ k * 2 ^ (place + 1074).toNat = 2 ^ E * 2 ^ (-(place + 1074)).toNat := by
      rw [← Nat.pow_add, ← Nat.pow_add]
      congr 1
      omega
    generalize hA : 2 ^ (place + 1074).toNat = A at *
    generalize hB : 2 ^ (-(place + 1074)).toNat = B at *
    have hA0 : 0 < A := by rw [← hA]; exact Nat.two_pow_pos _
    have hkp : 0 < 2 ^ k := Nat.two_pow_pos k
    have m1 : (2 * K + 1) * 2 ^ E * B = (2 * K + 1) * 2 ^ k * A := by rw [Nat.mul_assoc (2 * K + 1) (2 ^ E) B, ← key, Nat.mul_assoc (2 * K + 1) (2 ^ k) A]
    have m2 : (2 * K) * 2 ^ E * B = (2 * K) * 2 ^ k * A := by rw [Nat.mul_assoc (2 * K) (2 ^ E) B, ← key, Nat.mul_assoc (2 * K) (2 ^ k) A]
    have m3 : 2 ^ E * B = 2 ^ k * A := key.symm
    have m4 : 2 * (mag * A) = 2 * mag * A := (Nat.mul_assoc ..).symm
    rw [m1, m2, m3, m4]
    have m5 : 2 * mag * A + 2 ^ k * A = (2 * mag + 2 ^ k) * A := (Nat.add_mul ..).symm
    rw [m5]
    have b52 : (2 : Nat) ^ 52 = 4503599627370496 := by decide
    have b53 : (2 : Nat) ^ 53 = 9007199254740992 := by decide
    refine ⟨?_, ?_, Nat.mul_le_mul_right _ c1, Nat.mul_le_mul_right _ c2, ?_, fun h => c3 (Nat.eq_of_mul_eq_mul_right hA0 h), fun h => c4 (Nat.eq_of_mul_eq_mul_right hA0 h)⟩
    · -- the count is at most 2^53
      have hlk : L ≤ 52 + k := by omega
      have h1 : mag < 9007199254740992 * 2 ^ k := by
        have h2 : 2 ^ (L + 1) ≤ 2 ^ (53 + k) := Nat.pow_le_pow_right (by decide) (by omega)
        rw [Nat.pow_add 2 53 k, b53] at h2
        omega
      have h3 : 2 * K * 2 ^ k < (2 * 9007199254740992 + 1) * 2 ^ k := by
        have : 2 * mag + 2 ^ k < 2 * (9007199254740992 * 2 ^ k) + 2 ^ k := by omega
        have e : (2 * 9007199254740992 + 1) * 2 ^ k = 2 * (9007199254740992 * 2 ^ k) + 2 ^ k := by rw [Nat.add_mul, Nat.one_mul, Nat.mul_assoc]
        omega
      have := Nat.lt_of_mul_lt_mul_right h3
      omega
    · intro hE0
      have hlk : L = 52 + k := by omega
      have h1 : 4503599627370496 * 2 ^ k ≤ mag := by
        have h2 := hlo
        rw [hlk, Nat.pow_add, b52] at h2
        exact h2
      have h3 : 2 * 4503599627370496 * 2 ^ k ≤ (2 * K + 1) * 2 ^ k := by
        have e : 2 * 4503599627370496 * 2 ^ k = 2 * (4503599627370496 * 2 ^ k) := Nat.mul_assoc ..
        omega
      have := Nat.le_of_mul_le_mul_right h3 hkp
      omega
    · intro hE0
      have hlk : L = 52 + k := by omega
      have h1 : 4503599627370496 * 2 ^ k ≤ mag := by
        have h2 := hlo
        rw [hlk, Nat.pow_add, b52] at h2
        exact h2
      have e : 4503599627370496 * 2 ^ E * B = 4503599627370496 * 2 ^ k * A := by rw [Nat.mul_assoc, ← key, Nat.mul_assoc]
      rw [e]
      exact Nat.mul_le_mul_right _ h1

/-- The number at a rung that is told by a unit and a count. -/
theorem rungVal_count {E K : Nat} (hK : K ≤ 9007199254740992) (hE : 0 < E → 4503599627370496 ≤ K) : rungVal (E * 4503599627370496 + K) = K * 2 ^ E := by
  unfold rungVal
  by_cases h0 : E = 0 ∧ K < 4503599627370496
  · obtain ⟨rfl, h⟩ := h0
    rw [if_pos (by omega)]
    simp
  · have hK2 : 4503599627370496 ≤ K := by
      by_cases hz : 0 < E
      · exact hE hz
      · omega
    rw [if_neg (by omega)]
    by_cases h53 : K = 9007199254740992
    · subst h53
      have e1 : (E * 4503599627370496 + 9007199254740992) % 4503599627370496 = 0 := by omega
      have e2 : (E * 4503599627370496 + 9007199254740992) / 4503599627370496 - 1 = E + 1 := by omega
      rw [e1, e2, Nat.pow_succ]
      omega
    · have e1 : (E * 4503599627370496 + K) % 4503599627370496 = K - 4503599627370496 := by omega
      have e2 : (E * 4503599627370496 + K) / 4503599627370496 - 1 = E := by omega
      rw [e1, e2, show 4503599627370496 + (K - 4503599627370496) = K by omega]

theorem rungVal_step {E K : Nat} (hK : K ≤ 9007199254740992) (hE : 0 < E → 4503599627370496 ≤ K) : K * 2 ^ E + 2 ^ E ≤ rungVal (E * 4503599627370496 + K + 1) := by
  by_cases h53 : K = 9007199254740992
  · subst h53
    have e0 : E * 4503599627370496 + 9007199254740992 + 1 = (E + 1) * 4503599627370496 + (4503599627370496 + 1) := by omega
    rw [e0, rungVal_count (by omega) (fun _ => by omega), Nat.pow_succ]
    have := Nat.two_pow_pos E
    omega
  · rw [Nat.add_assoc, rungVal_count (by omega) (fun h => by have := hE h; omega), Nat.add_mul, Nat.one_mul]
    exact Nat.le_refl _

end Go.Proofs.Ytmigdomlakflfaa

/- The nearest float is the only one: between the midpoints, the even one at a tie. Nothing here speaks of the program. -/
namespace Go.Proofs.Ytmigdomlakflfaa

/-- A rung is the nearest to A / D: it lies between the midpoints, and is even where it is at one. -/
structure Mid (A D s : Nat) : Prop where
  top : s ≤ 9218868437227405312
  up : s < 9218868437227405312 → 2 * A ≤ (rungVal s + rungVal (s + 1)) * D
  down : 1 ≤ s → (rungVal (s - 1) + rungVal s) * D ≤ 2 * A
  tieUp : s < 9218868437227405312 → 2 * A = (rungVal s + rungVal (s + 1)) * D → s % 2 = 0
  tieDown : 1 ≤ s → (rungVal (s - 1) + rungVal s) * D = 2 * A → s % 2 = 0

theorem Mid.lt_no {A D s t : Nat} (hD : 0 < D) (h : Mid A D s) (g : Mid A D t) : ¬ s < t := by
  intro hlt
  have h1 := h.up (by have := g.top; omega)
  have g1 := g.down (by omega)
  by_cases c : s + 1 = t
  · subst c
    have e : s + 1 - 1 = s := by omega
    rw [e] at g1
    have e2 : 2 * A = (rungVal s + rungVal (s + 1)) * D := by omega
    have p1 := h.tieUp (by have := g.top; omega) e2
    have p2 := g.tieDown (by omega) (by rw [e]; exact e2.symm)
    omega
  · have v1 : rungVal s < rungVal (t - 1) := rungVal_lt (by omega)
    have v2 : rungVal (s + 1) < rungVal t := rungVal_lt (by omega)
    have : (rungVal s + rungVal (s + 1)) * D < (rungVal (t - 1) + rungVal t) * D := Nat.mul_lt_mul_of_pos_right (by omega) hD
    omega
theorem Mid.unique {A D s t : Nat} (hD : 0 < D) (h : Mid A D s) (g : Mid A D t) : s = t := by
  have h1 := h.lt_no hD g
  have h2 := g.lt_no hD h
  omega
/-- It hangs on the number alone. -/
theorem Mid.scale {A D s : Nat} (k : Nat) (hk : 0 < k) (h : Mid A D s) : Mid (A * k) (D * k) s where
  top := h.top
  up hs := by have := Nat.mul_le_mul_right k (h.up hs); rw [Nat.mul_assoc 2, Nat.mul_assoc] at this; exact this
  down hs := by have := Nat.mul_le_mul_right k (h.down hs); rw [Nat.mul_assoc 2, Nat.mul_assoc] at this; exact this
  tieUp hs e := h.tieUp hs (by rw [← Nat.mul_assoc, ← Nat.mul_assoc] at e; exact Nat.eq_of_mul_eq_mul_right hk e)
  tieDown hs e := h.tieDown hs (by rw [← Nat.mul_assoc, ← Nat.mul_assoc] at e; exact Nat.eq_of_mul_eq_mul_right hk e)
theorem Mid.back {A D s : Nat} (k : Nat) (hk : 0 < k) (h : Mid (A * k) (D * k) s) : Mid A D s where
  top := h.top
  up hs := by have := h.up hs; rw [← Nat.mul_assoc, ← Nat.mul_assoc] at this; exact Nat.le_of_mul_le_mul_right this hk
  down hs := by have := h.down hs; rw [← Nat.mul_assoc, ← Nat.mul_assoc] at this; exact Nat.le_of_mul_le_mul_right this hk
  tieUp hs e := h.tieUp hs (by rw [← Nat.mul_assoc, ← Nat.mul_assoc, e])
  tieDown hs e := h.tieDown hs (by rw [← Nat.mul_assoc, ← Nat.mul_assoc, e])

theorem min_low {a b : Nat} (h : min a b < b) : min a b = a := by omega
theorem mod_even (E K : Nat) (h : K % 2 = 0) : (E * 4503599627370496 + K) % 2 = 0 := by omega
/-- A unit and a count that are the number, rounded to a whole count: the rung is the nearest. -/
theorem mid_of_count {A D E K : Nat} (hD : 0 < D) (hK : K ≤ 9007199254740992) (hE : 0 < E → 4503599627370496 ≤ K)
    (b1 : 2 * A ≤ (2 * K + 1) * 2 ^ E * D) (b2 : (2 * K) * 2 ^ E * D ≤ 2 * A + 2 ^ E * D) (b3 : 0 < E → 4503599627370496 * 2 ^ E * D ≤ A)
    (t1 : 2 * A = (2 * K + 1) * 2 ^ E * D → K % 2 = 0) (t2 : (2 * K) * 2 ^ E * D = 2 * A + 2 ^ E * D → K % 2 = 0) :
    Mid A D (min (E * 4503599627370496 + K) 9218868437227405312) := by
  have hP := Nat.two_pow_pos E
  have hv := rungVal_count hK hE
  have hst := rungVal_step hK hE
  -- below: of the rung ahead of the cut
  have low : 1 ≤ E * 4503599627370496 + K → (rungVal (E * 4503599627370496 + K - 1) + rungVal (E * 4503599627370496 + K)) * D ≤ 2 * A ∧ ((rungVal (E * 4503599627370496 + K - 1) + rungVal (E * 4503599627370496 + K)) * D = 2 * A → K % 2 = 0) := by
    intro hs
    by_cases hc : 0 < E ∧ K = 4503599627370496
    · have k3 := b3 hc.1
      have hl : rungVal (E * 4503599627370496 + K - 1) < rungVal (E * 4503599627370496 + K) := rungVal_lt (by omega)
      rw [hv] at hl ⊢
      generalize rungVal (E * 4503599627370496 + K - 1) = V0 at *
      clear hv hst
      rw [hc.2] at hl ⊢
      have m1 : (V0 + 4503599627370496 * 2 ^ E) * D < (2 * (4503599627370496 * 2 ^ E)) * D := Nat.mul_lt_mul_of_pos_right (by omega) hD
      rw [Nat.mul_assoc 2] at m1
      exact ⟨by omega, fun e => by omega⟩
    · have hK1 : 1 ≤ K := by
        by_cases hz : 0 < E
        · have := hE hz; omega
        · omega
      have e1 : rungVal (E * 4503599627370496 + K - 1) = (K - 1) * 2 ^ E := by
        rw [show E * 4503599627370496 + K - 1 = E * 4503599627370496 + (K - 1) by omega]
        exact rungVal_count (by omega) (fun h => by have := hE h; omega)
      rw [e1, hv]
      clear e1 hv hst
      have e3 : (K - 1) * 2 ^ E + 2 ^ E = K * 2 ^ E := by
        have e4 : (K - 1 + 1) * 2 ^ E = (K - 1) * 2 ^ E + 2 ^ E := Nat.succ_mul _ _
        rw [Nat.sub_add_cancel hK1] at e4
        exact e4.symm
      have e2 : ((K - 1) * 2 ^ E + K * 2 ^ E) * D + 2 ^ E * D = (2 * K) * 2 ^ E * D := by
        have e5 : (K - 1) * 2 ^ E + K * 2 ^ E + 2 ^ E = 2 * K * 2 ^ E := by rw [Nat.mul_assoc 2]; omega
        rw [← Nat.add_mul, e5]
      exact ⟨by omega, fun e => t2 (by omega)⟩
  have e2 : (2 * K + 1) * 2 ^ E = K * 2 ^ E + (K * 2 ^ E + 2 ^ E) := by rw [Nat.add_mul, Nat.mul_assoc, Nat.one_mul]; omega
  have hup : (K * 2 ^ E + (K * 2 ^ E + 2 ^ E)) * D ≤ (K * 2 ^ E + rungVal (E * 4503599627370496 + K + 1)) * D := Nat.mul_le_mul_right _ (Nat.add_le_add_left hst _)
  clear hst
  rw [e2] at b1 t1
  clear e2
  refine ⟨Nat.min_le_right _ _, fun hs => ?_, fun hs => ?_, fun hs e => ?_, fun hs e => ?_⟩
  · rw [min_low hs, hv]
    exact Nat.le_trans b1 hup
  · by_cases hi : E * 4503599627370496 + K ≤ 9218868437227405312
    · rw [Nat.min_eq_left hi] at hs ⊢
      exact (low hs).1
    · have hi2 : 9218868437227405312 ≤ E * 4503599627370496 + K := Nat.le_of_lt (Nat.lt_of_not_le hi)
      rw [Nat.min_eq_right hi2] at hs ⊢
      exact Nat.le_trans (Nat.mul_le_mul_right _ (Nat.add_le_add (rungVal_le (Nat.sub_le_sub_right hi2 1)) (rungVal_le hi2))) (low (Nat.le_trans hs hi2)).1
  · rw [min_low hs] at e ⊢
    rw [hv] at e
    exact mod_even E K (t1 (Nat.le_antisymm b1 (Nat.le_trans hup (Nat.le_of_eq e.symm))))
  · by_cases hi : E * 4503599627370496 + K ≤ 9218868437227405312
    · rw [Nat.min_eq_left hi] at hs e ⊢
      exact mod_even E K ((low hs).2 e)
    · rw [Nat.min_eq_right (Nat.le_of_lt (Nat.lt_of_not_le hi))]

/-- IEEE's nearest is it. -/
theorem near_is_mid (neg : Bool) (mag : Nat) (place : Int) (h0 : mag ≠ 0) : ∃ s, Ieee.double.nearest neg mag place = Ieee.double.word neg s ∧ Mid (mag * 2 ^ (place + 1074).toNat) (2 ^ (-(place + 1074)).toNat) s := by
  obtain ⟨E, K, h1, hK, hE, b1, b2, b3, t1, t2⟩ := near_core neg mag place h0
  exact ⟨_, h1, mid_of_count (Nat.two_pow_pos _) hK hE b1 b2 b3 t1 t2⟩

end Go.Proofs.Ytmigdomlakflfaa

/- Quotients, products, sums and roots of sizes, against floats that bound them. Nothing here speaks of the program. -/
namespace Go.Proofs.Ytmigdomlakflfaa

theorem FN.eq {op : BinOp} {x y r s : Nat} (h : FN op x y r) (g : floatBits op .f64 x y = .some s) : r = s := by
  rcases h.2 with h | ⟨h, _⟩
  · rw [h] at g; exact Option.some.inj g
  · rw [h] at g; cases g
theorem FQ.eq {x r s : Nat} (h : FQ x r) (g : Ieee.double.sqrt x = .some s) : r = s := by
  rcases h.2 with h | ⟨h, _⟩
  · rw [h] at g; exact Option.some.inj g
  · rw [h] at g; cases g

end Go.Proofs.Ytmigdomlakflfaa

/- The root of what lies from 1 to 2; products by at most one and a half; products in the other order, of opposites. Nothing here speaks of the program. -/
namespace Go.Proofs.Ytmigdomlakflfaa

end Go.Proofs.Ytmigdomlakflfaa

/- Opposites: of products, of sums; the conjugate of a product. Nothing here speaks of the program. -/
namespace Go.Proofs.Ytmigdomlakflfaa

/-- The other sign, by the bits. -/
def fopp (x : Nat) : Nat := x ^^^ 9223372036854775808
theorem fopp_low {x : Nat} (h : x < 9223372036854775808) : fopp x = 9223372036854775808 + x := by
  have e := nat_join 63 9223372036854775808 x (by decide) h
  unfold fopp
  have e2 : x ^^^ 9223372036854775808 = 9223372036854775808 ||| x := by
    apply Nat.eq_of_testBit_eq
    intro i
    rw [Nat.testBit_xor, Nat.testBit_or, show (9223372036854775808 : Nat) = 2 ^ 63 from rfl, Nat.testBit_two_pow]
    by_cases hi : 63 = i
    · subst hi
      rw [Nat.testBit_lt_two_pow h]; simp
    · simp [hi]
  rw [e2, e]
theorem fopp_fopp (x : Nat) : fopp (fopp x) = x := by unfold fopp; rw [Nat.xor_assoc, Nat.xor_self, Nat.xor_zero]
theorem fopp_high {x : Nat} (h : x < 18446744073709551616) (h1 : 9223372036854775808 ≤ x) : fopp x = x - 9223372036854775808 := by
  have e := fopp_low (x := x - 9223372036854775808) (by omega)
  rw [show 9223372036854775808 + (x - 9223372036854775808) = x by omega] at e
  rw [← e, fopp_fopp]
  omega
theorem fopp_mod {x : Nat} (h : x < 18446744073709551616) : fopp x % 9223372036854775808 = x % 9223372036854775808 ∧ fopp x < 18446744073709551616 := by
  by_cases h1 : x < 9223372036854775808
  · rw [fopp_low h1]; omega
  · rw [fopp_high h (by omega)]; omega
theorem read_fopp {x : Nat} (h : x < 18446744073709551616) : Ieee.double.read (fopp x) = (Ieee.double.read x).opposite := by
  have hm := (fopp_mod h).1
  have hs : (fopp x / 9223372036854775808 % 2 == 1) = !(x / 9223372036854775808 % 2 == 1) := by
    by_cases h1 : x < 9223372036854775808
    · rw [fopp_low h1, show (9223372036854775808 + x) / 9223372036854775808 = 1 by omega, show x / 9223372036854775808 = 0 by omega]; rfl
    · rw [fopp_high h (by omega), show (x - 9223372036854775808) / 9223372036854775808 = 0 by omega, show x / 9223372036854775808 = 1 by omega]; rfl
  unfold Ieee.Format.read
  simp only [dbl_sign, dbl_inf, dbl_binade]
  rw [hm, hs]
  split
  · rfl
  split
  · rfl
  split
  · rfl
  · rfl

end Go.Proofs.Ytmigdomlakflfaa

/- Finite floats as whole numbers of 2^-1074: what sums, differences and products tell, and bounds that go with them. Nothing here speaks of the program. -/
namespace Go.Proofs.Ytmigdomlakflfaa

/-- Finite, by the bits. -/
def Fi (x : Nat) : Prop := x < 18446744073709551616 ∧ x % 9223372036854775808 < 9218868437227405312
/-- The number that finite bits stand for, in units of 2^-1074. -/
def sv (x : Nat) : Int := if (x / 9223372036854775808 % 2 == 1) = true then -(rungVal (x % 9223372036854775808) : Int) else (rungVal (x % 9223372036854775808) : Int)

theorem sv_low {x : Nat} (h : x < 9223372036854775808) : sv x = (rungVal x : Int) := by
  unfold sv
  rw [Nat.div_eq_of_lt h, Nat.mod_eq_of_lt h]; rfl
theorem sv_high {x : Nat} (h : x < 9223372036854775808) : sv (9223372036854775808 + x) = -(rungVal x : Int) := by
  unfold sv
  rw [show (9223372036854775808 + x) / 9223372036854775808 = 1 by omega, show (9223372036854775808 + x) % 9223372036854775808 = x by omega]; rfl
theorem sv_word (neg : Bool) (s : Nat) (h : s ≤ 9218868437227405312) : sv (Ieee.double.word neg s) = if neg = true then -(rungVal s : Int) else (rungVal s : Int) := by
  cases neg
  · exact sv_low (x := s) (by omega)
  · show sv (Ieee.double.signWeight + s) = _
    rw [dbl_sign]; exact sv_high (by omega)
theorem sv_abs (x : Nat) : (sv x).natAbs = rungVal (x % 9223372036854775808) := by
  unfold sv; split <;> omega
theorem Fi.opp {x : Nat} (h : Fi x) : Fi (fopp x) := ⟨(fopp_mod h.1).2, by rw [(fopp_mod h.1).1]; exact h.2⟩
theorem sv_opp {x : Nat} (h : x < 18446744073709551616) : sv (fopp x) = -sv x := by
  by_cases h1 : x < 9223372036854775808
  · rw [fopp_low h1, sv_high h1, sv_low h1]
  · have e : x = 9223372036854775808 + (x - 9223372036854775808) := by omega
    rw [fopp_high h (by omega), sv_low (by omega)]
    rw [e, sv_high (by omega)]
    simp
theorem Fi.notnan {x : Nat} (h : Fi x) : isnan x = false := by
  unfold isnan; exact decide_eq_false (by have := h.2; omega)
/-- r is the float nearest to A / D. -/
def RN (A : Int) (D r : Nat) : Prop := ∃ neg s, r = Ieee.double.word neg s ∧ (A < 0 → neg = true) ∧ (0 < A → neg = false) ∧ Mid A.natAbs D s

theorem mid_zero (D : Nat) : Mid 0 D 0 := ⟨by omega, fun _ => by omega, fun h => by omega, fun _ _ => rfl, fun h => by omega⟩

theorem near_rn {neg : Bool} {mag : Nat} {place : Int} {A : Int} {D : Nat} (hD : 0 < D) (e : mag * 2 ^ (place + 1074).toNat * D = A.natAbs * 2 ^ (-(place + 1074)).toNat) (h1 : A < 0 → neg = true) (h2 : 0 < A → neg = false) :
    RN A D (Ieee.double.nearest neg mag place) := by
  have hB : 0 < 2 ^ (-(place + 1074)).toNat := Nat.two_pow_pos _
  by_cases h0 : mag = 0
  · subst h0
    rw [Nat.zero_mul, Nat.zero_mul] at e
    have hA : A.natAbs = 0 := by
      rcases Nat.mul_eq_zero.1 e.symm with h | h
      · exact h
      · omega
    exact ⟨neg, 0, by simp [Ieee.Format.nearest], h1, h2, by rw [hA]; exact mid_zero D⟩
  · obtain ⟨s, e1, m⟩ := near_is_mid neg mag place h0
    refine ⟨neg, s, e1, h1, h2, ?_⟩
    have m2 := m.scale D hD
    rw [e, Nat.mul_comm (2 ^ (-(place + 1074)).toNat) D] at m2
    exact m2.back _ hB

theorem FN.bits {op : BinOp} {x y r s : Nat} (h : FN op x y r) (g : floatBits op .f64 x y = .some s) : r = s := by
  rcases h.2 with h | ⟨h, _⟩
  · rw [h] at g; exact Option.some.inj g
  · rw [h] at g; cases g

theorem sv_sign {x : Nat} {s : Bool} (hs : (x / 9223372036854775808 % 2 == 1) = s) : sv x = if s = true then -(rungVal (x % 9223372036854775808) : Int) else (rungVal (x % 9223372036854775808) : Int) := by
  unfold sv; rw [hs]

theorem pow_join (E a b m n : Nat) (hE : E = 1074) : m * n * 2 ^ (-1074 + (a : Int) + (-1074 + (b : Int)) + 1074).toNat * 2 ^ E = (m * 2 ^ a) * (n * 2 ^ b) * 2 ^ (-(-1074 + (a : Int) + (-1074 + (b : Int)) + 1074)).toNat := by
  by_cases h : 1074 ≤ a + b
  · have t1 : (-1074 + (a : Int) + (-1074 + (b : Int)) + 1074).toNat = a + b - 1074 := by omega
    have t2 : (-(-1074 + (a : Int) + (-1074 + (b : Int)) + 1074)).toNat = 0 := by omega
    rw [t1, t2, Nat.mul_assoc (m * n), ← Nat.pow_add, show a + b - 1074 + E = a + b by omega, Nat.pow_add, Nat.pow_zero, Nat.mul_one]
    rw [Nat.mul_assoc, Nat.mul_assoc, Nat.mul_left_comm n]
  · have t1 : (-1074 + (a : Int) + (-1074 + (b : Int)) + 1074).toNat = 0 := by omega
    have t2 : (-(-1074 + (a : Int) + (-1074 + (b : Int)) + 1074)).toNat = E - (a + b) := by omega
    rw [t1, t2, Nat.pow_zero, Nat.mul_one]
    have e : 2 ^ E = 2 ^ a * 2 ^ b * 2 ^ (E - (a + b)) := by rw [← Nat.pow_add, ← Nat.pow_add]; congr 1; omega
    rw [e]
    generalize 2 ^ a = A
    generalize 2 ^ b = B
    generalize 2 ^ (E - (a + b)) = C
    rw [← Nat.mul_assoc, ← Nat.mul_assoc]
    congr 1
    rw [Nat.mul_assoc m A, Nat.mul_left_comm A n B, ← Nat.mul_assoc m n, Nat.mul_assoc (m * n)]

/-- A product. -/
theorem mul_rn {x y r : Nat} (E : Nat) (hE : E = 1074) (hx : Fi x) (hy : Fi y) (h : FN .mul x y r) : RN (sv x * sv y) (2 ^ E) r := by
  obtain ⟨m, a, e1, v1⟩ := read_num hx.2
  obtain ⟨n, b, e2, v2⟩ := read_num hy.2
  generalize hs : (x / 9223372036854775808 % 2 == 1) = s at e1
  generalize ht : (y / 9223372036854775808 % 2 == 1) = t at e2
  have hb : floatBits .mul .f64 x y = some (Ieee.double.nearest (s ^^ t) (m * n) (-1074 + (a : Int) + (-1074 + (b : Int)))) := by
    show (((Ieee.double.read x).product (Ieee.double.read y)).map Ieee.double.write) = _
    rw [e1, e2]; rfl
  rw [h.bits hb]
  have hX := sv_sign hs
  have hY := sv_sign ht
  refine near_rn (Nat.two_pow_pos _) ?_ ?_ ?_
  · rw [Int.natAbs_mul, sv_abs, sv_abs, ← v1, ← v2]
    exact pow_join E a b m n hE
  · intro hA
    cases s <;> cases t <;> simp only [Bool.false_eq_true, if_false, if_true] at hX hY <;> rw [hX, hY] at hA
    · exfalso
      have := Int.mul_nonneg (Int.natCast_nonneg (rungVal (x % 9223372036854775808))) (Int.natCast_nonneg (rungVal (y % 9223372036854775808)))
      omega
    · rfl
    · rfl
    · exfalso
      rw [Int.neg_mul_neg] at hA
      have := Int.mul_nonneg (Int.natCast_nonneg (rungVal (x % 9223372036854775808))) (Int.natCast_nonneg (rungVal (y % 9223372036854775808)))
      omega
  · intro hA
    cases s <;> cases t <;> simp only [Bool.false_eq_true, if_false, if_true] at hX hY <;> rw [hX, hY] at hA
    · rfl
    · exfalso
      rw [Int.mul_neg] at hA
      have := Int.mul_nonneg (Int.natCast_nonneg (rungVal (x % 9223372036854775808))) (Int.natCast_nonneg (rungVal (y % 9223372036854775808)))
      omega
    · exfalso
      rw [Int.neg_mul] at hA
      have := Int.mul_nonneg (Int.natCast_nonneg (rungVal (x % 9223372036854775808))) (Int.natCast_nonneg (rungVal (y % 9223372036854775808)))
      omega
    · rfl

theorem signed_pow (s : Bool) (m a c : Nat) (h : c ≤ a) : Ieee.signed s m (a - c) * ((2 ^ c : Nat) : Int) = if s = true then -((m * 2 ^ a : Nat) : Int) else ((m * 2 ^ a : Nat) : Int) := by
  have e : m * 2 ^ a = m * 2 ^ (a - c) * 2 ^ c := by rw [Nat.mul_assoc, ← Nat.pow_add, show a - c + c = a by omega]
  rw [e]
  unfold Ieee.signed
  rw [Nat.shiftLeft_eq]
  generalize m * 2 ^ (a - c) = u
  generalize 2 ^ c = p
  cases s
  · simp
  · simp only [if_true]; rw [Int.neg_mul, Int.natCast_mul]

/-- A sum. -/
theorem add_rn {x y r : Nat} (hx : Fi x) (hy : Fi y) (h : FN .add x y r) : RN (sv x + sv y) 1 r := by
  obtain ⟨m, a, e1, v1⟩ := read_num hx.2
  obtain ⟨n, b, e2, v2⟩ := read_num hy.2
  generalize hs : (x / 9223372036854775808 % 2 == 1) = s at e1
  generalize ht : (y / 9223372036854775808 % 2 == 1) = t at e2
  have t1 : (-1074 + (a : Int) - min (-1074 + (a : Int)) (-1074 + (b : Int))).toNat = a - min a b := by omega
  have t2 : (-1074 + (b : Int) - min (-1074 + (a : Int)) (-1074 + (b : Int))).toNat = b - min a b := by omega
  obtain ⟨T, hT⟩ : ∃ T, Ieee.signed s m (a - min a b) + Ieee.signed t n (b - min a b) = T := ⟨_, rfl⟩
  have hb : floatBits .add .f64 x y = some (Ieee.double.nearest (if T = 0 then s && t else decide (T < 0)) T.natAbs (min (-1074 + (a : Int)) (-1074 + (b : Int)))) := by
    show (((Ieee.double.read x).sum (Ieee.double.read y)).map Ieee.double.write) = _
    rw [e1, e2]
    simp only [Ieee.Datum.sum, t1, t2, hT]
    rfl
  rw [h.bits hb]
  have hp : 0 < 2 ^ min a b := Nat.two_pow_pos _
  have key : sv x + sv y = T * ((2 ^ min a b : Nat) : Int) := by
    rw [← hT, Int.add_mul, signed_pow s m a _ (Nat.min_le_left ..), signed_pow t n b _ (Nat.min_le_right ..), v1, v2, sv_sign hs, sv_sign ht]
  rw [key]
  have hp' : (0 : Int) < ((2 ^ min a b : Nat) : Int) := by omega
  refine near_rn (by omega) ?_ ?_ ?_
  · rw [Int.natAbs_mul, Int.natAbs_natCast, show (min (-1074 + (a : Int)) (-1074 + (b : Int)) + 1074).toNat = min a b by omega, show (-(min (-1074 + (a : Int)) (-1074 + (b : Int)) + 1074)).toNat = 0 by omega, Nat.pow_zero]
  · intro hA
    have h0 : T < 0 := by
      by_cases hz : T < 0
      · exact hz
      · have := Int.mul_nonneg (show 0 ≤ T by omega) (Int.le_of_lt hp'); omega
    rw [if_neg (by omega)]; exact decide_eq_true h0
  · intro hA
    have h0 : 0 < T := by
      by_cases hz : 0 < T
      · exact hz
      · have := Int.mul_nonneg (show 0 ≤ -T by omega) (Int.le_of_lt hp'); rw [Int.neg_mul] at this; omega
    rw [if_neg (by omega)]; exact decide_eq_false (by omega)

theorem sub_fopp {x y r : Nat} (hy : y < 18446744073709551616) (h : FN .sub x y r) : FN .add x (fopp y) r := by
  have e : floatBits .sub .f64 x y = floatBits .add .f64 x (fopp y) := by
    show (((Ieee.double.read x).sum (Ieee.double.read y).opposite).map Ieee.double.write) = (((Ieee.double.read x).sum (Ieee.double.read (fopp y))).map Ieee.double.write)
    rw [read_fopp hy]
  exact ⟨h.1, by rw [← e]; exact h.2⟩
/-- A difference. -/
theorem sub_rn {x y r : Nat} (hx : Fi x) (hy : Fi y) (h : FN .sub x y r) : RN (sv x - sv y) 1 r := by
  have := add_rn hx hy.opp (sub_fopp hy.1 h)
  rw [sv_opp hy.1] at this
  exact this

/-- Not above a float: so is the nearest. -/
theorem Mid.le {A D s r : Nat} (hD : 0 < D) (h : Mid A D s) (g : A ≤ rungVal r * D) : s ≤ r := by
  by_cases hlt : s ≤ r
  · exact hlt
  · exfalso
    have m := h.down (by omega)
    have g1 : rungVal r < rungVal s := rungVal_lt (by omega)
    have g2 : rungVal r ≤ rungVal (s - 1) := rungVal_le (by omega)
    have g3 : (2 * rungVal r) * D < (rungVal (s - 1) + rungVal s) * D := Nat.mul_lt_mul_of_pos_right (by omega) hD
    rw [Nat.mul_assoc 2] at g3
    omega
theorem Mid.ge {A D s r : Nat} (hD : 0 < D) (h : Mid A D s) (hr : r ≤ 9218868437227405312) (g : rungVal r * D ≤ A) : r ≤ s := by
  by_cases hlt : r ≤ s
  · exact hlt
  · exfalso
    have m := h.up (by omega)
    have g1 : rungVal s < rungVal r := rungVal_lt (by omega)
    have g2 : rungVal (s + 1) ≤ rungVal r := rungVal_le (by omega)
    have g3 : (rungVal s + rungVal (s + 1)) * D < (2 * rungVal r) * D := Nat.mul_lt_mul_of_pos_right (by omega) hD
    rw [Nat.mul_assoc 2] at g3
    omega

/-- A whole number of at most 2^53 in some unit is a float. -/
theorem rep (m k : Nat) (hm : m ≤ 9007199254740992) (h1 : 53 ≤ k) (h2 : k ≤ 2044) : ∃ r, r < 9218868437227405312 ∧ rungVal r = m * 2 ^ k := by
  by_cases h0 : m = 0
  · subst h0; exact ⟨0, by omega, by rw [Nat.zero_mul]; rfl⟩
  by_cases hb : 4503599627370496 ≤ m
  · exact ⟨k * 4503599627370496 + m, by omega, rungVal_count hm (fun _ => hb)⟩
  · have hlo := Nat.log2_self_le h0
    have hhi : m < 2 ^ (m.log2 + 1) := Nat.lt_log2_self
    generalize m.log2 = L at hlo hhi
    have b52 : (2 : Nat) ^ 52 = 4503599627370496 := by decide
    have hL : L < 52 := by
      by_cases hc : L < 52
      · exact hc
      · have := Nat.pow_le_pow_right (show 0 < 2 by decide) (show 52 ≤ L by omega); omega
    have e1 : 2 ^ L * 2 ^ (52 - L) = 4503599627370496 := by rw [← Nat.pow_add, ← b52]; congr 1; omega
    have e2 : 2 ^ (L + 1) * 2 ^ (52 - L) = 9007199254740992 := by rw [← Nat.pow_add, show L + 1 + (52 - L) = 53 by omega]
    have k1 := Nat.mul_le_mul_right (2 ^ (52 - L)) hlo
    have k2 := Nat.mul_le_mul_right (2 ^ (52 - L)) (Nat.le_of_lt hhi)
    rw [e1] at k1
    rw [e2] at k2
    refine ⟨(k - (52 - L)) * 4503599627370496 + m * 2 ^ (52 - L), by omega, ?_⟩
    rw [rungVal_count k2 (fun _ => k1), Nat.mul_assoc, ← Nat.pow_add, show 52 - L + (k - (52 - L)) = k by omega]

/-- From lo to hi units of 2^(k - 1074). -/
def In (k : Nat) (lo hi : Int) (x : Nat) : Prop := Fi x ∧ lo * ((2 ^ k : Nat) : Int) ≤ sv x ∧ sv x ≤ hi * ((2 ^ k : Nat) : Int)

theorem word_fi (neg : Bool) {s : Nat} (h : s < 9218868437227405312) : Fi (Ieee.double.word neg s) := by
  cases neg
  · exact ⟨by show s < _; omega, by show s % _ < _; rw [Nat.mod_eq_of_lt (by omega)]; exact h⟩
  · have e : Ieee.double.word true s = 9223372036854775808 + s := by show Ieee.double.signWeight + s = _; rw [dbl_sign]
    rw [e]; exact ⟨by omega, by omega⟩

theorem mulD_le {a b : Int} {D : Nat} (hD : 0 < D) (h : a * (D : Int) ≤ b * (D : Int)) : a ≤ b := Int.le_of_mul_le_mul_right h (by omega)

/-- Bounds that are floats hold for the nearest too. -/
theorem RN.bounds {A : Int} {D r : Nat} (h : RN A D r) (hD : 0 < D) {k : Nat} {lo hi : Int} (k1 : 53 ≤ k) (k2 : k ≤ 2044) (b1 : -9007199254740992 ≤ lo) (b2 : hi ≤ 9007199254740992)
    (hl : lo * ((2 ^ k : Nat) : Int) * (D : Int) ≤ A) (hh : A ≤ hi * ((2 ^ k : Nat) : Int) * (D : Int)) : In k lo hi r := by
  obtain ⟨neg, s, rfl, n1, n2, m⟩ := h
  have hP : 0 < 2 ^ k := Nat.two_pow_pos k
  have hlh : lo ≤ hi := mulD_le hP (mulD_le hD (Int.le_trans hl hh))
  have hPD : 0 < 2 ^ k * D := Nat.mul_pos hP hD
  have hl' : lo * ((2 ^ k * D : Nat) : Int) ≤ A := by rw [Int.natCast_mul, ← Int.mul_assoc]; exact hl
  have hh' : A ≤ hi * ((2 ^ k * D : Nat) : Int) := by rw [Int.natCast_mul, ← Int.mul_assoc]; exact hh
  -- a whole number c of units, not below 0
  have up : ∀ c : Nat, c ≤ 9007199254740992 → (A.natAbs : Int) ≤ (c : Int) * ((2 ^ k * D : Nat) : Int) → s < 9218868437227405312 ∧ (rungVal s : Int) ≤ (c : Int) * ((2 ^ k : Nat) : Int) := by
    intro c hc hA
    obtain ⟨r, hr, hv⟩ := rep c k hc k1 k2
    have g : A.natAbs ≤ rungVal r * D := by
      rw [hv, Nat.mul_assoc]
      rw [← Int.natCast_mul] at hA
      exact Int.ofNat_le.1 hA
    have hs := m.le hD g
    refine ⟨by omega, ?_⟩
    have := rungVal_le hs
    rw [hv] at this
    rw [← Int.natCast_mul]
    exact Int.ofNat_le.2 this
  have down : ∀ c : Nat, c ≤ 9007199254740992 → (c : Int) * ((2 ^ k * D : Nat) : Int) ≤ (A.natAbs : Int) → (c : Int) * ((2 ^ k : Nat) : Int) ≤ (rungVal s : Int) := by
    intro c hc hA
    obtain ⟨r, hr, hv⟩ := rep c k hc k1 k2
    have g : rungVal r * D ≤ A.natAbs := by
      rw [hv, Nat.mul_assoc]
      rw [← Int.natCast_mul] at hA
      exact Int.ofNat_le.1 hA
    have hs := m.ge hD (by omega) g
    have := rungVal_le hs
    rw [hv] at this
    rw [← Int.natCast_mul]
    exact Int.ofNat_le.2 this
  unfold In
  generalize hQ : 2 ^ k * D = Q at *
  generalize 2 ^ k = P at *
  have key : ∀ n c : Int, n ≤ c → n * (P : Int) ≤ c * (P : Int) := fun n c h => Int.mul_le_mul_of_nonneg_right h (by omega)
  have hrv : (0 : Int) ≤ (rungVal s : Int) := by omega
  cases neg with
  | false =>
    have hA : 0 ≤ A := by
      by_cases hz : A < 0
      · cases n1 hz
      · omega
    have hi0 : 0 ≤ hi := by
      by_cases hz : 0 ≤ hi
      · exact hz
      · have := Int.mul_le_mul_of_nonneg_right (show hi ≤ -1 by omega) (show (0 : Int) ≤ (Q : Int) by omega)
        omega
    obtain ⟨u1, u2⟩ := up hi.toNat (by omega) (by rw [Int.toNat_of_nonneg hi0]; omega)
    rw [Int.toNat_of_nonneg hi0] at u2
    refine ⟨word_fi _ u1, ?_, ?_⟩
    · rw [sv_word _ _ (by omega)]
      simp only [Bool.false_eq_true, if_false]
      by_cases hz : 0 ≤ lo
      · have := down lo.toNat (by omega) (by rw [Int.toNat_of_nonneg hz]; omega)
        rw [Int.toNat_of_nonneg hz] at this
        exact this
      · have := key lo 0 (by omega); omega
    · rw [sv_word _ _ (by omega)]
      simp only [Bool.false_eq_true, if_false]
      exact u2
  | true =>
    have hA : A ≤ 0 := by
      by_cases hz : 0 < A
      · cases n2 hz
      · omega
    have lo0 : 0 ≤ -lo := by
      by_cases hz : 0 ≤ -lo
      · exact hz
      · have := Int.mul_le_mul_of_nonneg_right (show 1 ≤ lo by omega) (show (0 : Int) ≤ (Q : Int) by omega)
        omega
    obtain ⟨u1, u2⟩ := up (-lo).toNat (by omega) (by rw [Int.toNat_of_nonneg lo0, Int.neg_mul]; omega)
    rw [Int.toNat_of_nonneg lo0, Int.neg_mul] at u2
    refine ⟨word_fi _ u1, ?_, ?_⟩
    · rw [sv_word _ _ (by omega)]
      simp only [if_true]
      omega
    · rw [sv_word _ _ (by omega)]
      simp only [if_true]
      by_cases hz : 0 ≤ -hi
      · have := down (-hi).toNat (by omega) (by rw [Int.toNat_of_nonneg hz, Int.neg_mul]; omega)
        rw [Int.toNat_of_nonneg hz, Int.neg_mul] at this
        omega
      · have := key 0 hi (by omega); omega

/-- A product lies between the least and the greatest of the corners. -/
theorem corner_ge {a b c d x y M : Int} (h1 : a ≤ x) (h2 : x ≤ b) (h3 : c ≤ y) (h4 : y ≤ d) (k1 : M ≤ a * c) (k2 : M ≤ a * d) (k3 : M ≤ b * c) (k4 : M ≤ b * d) : M ≤ x * y := by
  have side : ∀ u : Int, M ≤ u * c → M ≤ u * d → M ≤ u * y := by
    intro u g1 g2
    by_cases hu : 0 ≤ u
    · have := Int.mul_le_mul_of_nonneg_left h3 hu; omega
    · have := Int.mul_le_mul_of_nonneg_left h4 (show 0 ≤ -u by omega)
      rw [Int.neg_mul, Int.neg_mul] at this; omega
  have ga := side a k1 k2
  have gb := side b k3 k4
  by_cases hy : 0 ≤ y
  · have := Int.mul_le_mul_of_nonneg_right h1 hy; omega
  · have := Int.mul_le_mul_of_nonneg_right h2 (show 0 ≤ -y by omega)
    rw [Int.mul_neg, Int.mul_neg] at this; omega
theorem corner_le {a b c d x y M : Int} (h1 : a ≤ x) (h2 : x ≤ b) (h3 : c ≤ y) (h4 : y ≤ d) (k1 : a * c ≤ M) (k2 : a * d ≤ M) (k3 : b * c ≤ M) (k4 : b * d ≤ M) : x * y ≤ M := by
  have := corner_ge (a := -b) (b := -a) (c := c) (d := d) (x := -x) (y := y) (M := -M) (by omega) (by omega) h3 h4 (by rw [Int.neg_mul]; omega) (by rw [Int.neg_mul]; omega) (by rw [Int.neg_mul]; omega) (by rw [Int.neg_mul]; omega)
  rw [Int.neg_mul] at this
  omega

theorem In.mul {k k' k'' s x y r : Nat} {a b c d L U : Int} (hx : In k a b x) (hy : In k' c d y) (h : FN .mul x y r) (e : k + k' + s = k'' + 1074) (k1 : 53 ≤ k'') (k2 : k'' ≤ 2044) (b1 : -9007199254740992 ≤ L) (b2 : U ≤ 9007199254740992)
    (l1 : L * ((2 ^ s : Nat) : Int) ≤ a * c) (l2 : L * ((2 ^ s : Nat) : Int) ≤ a * d) (l3 : L * ((2 ^ s : Nat) : Int) ≤ b * c) (l4 : L * ((2 ^ s : Nat) : Int) ≤ b * d)
    (u1 : a * c ≤ U * ((2 ^ s : Nat) : Int)) (u2 : a * d ≤ U * ((2 ^ s : Nat) : Int)) (u3 : b * c ≤ U * ((2 ^ s : Nat) : Int)) (u4 : b * d ≤ U * ((2 ^ s : Nat) : Int)) : In k'' L U r := by
  obtain ⟨fx, x1, x2⟩ := hx
  obtain ⟨fy, y1, y2⟩ := hy
  obtain ⟨E, hE⟩ : ∃ E, E = 1074 := ⟨_, rfl⟩
  have R := mul_rn E hE fx fy h
  have ep : 2 ^ k'' * 2 ^ E = 2 ^ s * (2 ^ k * 2 ^ k') := by
    rw [← Nat.pow_add, ← Nat.pow_add, ← Nat.pow_add]; congr 1; omega
  refine R.bounds (Nat.two_pow_pos _) k1 k2 b1 b2 ?_ ?_
  · have g : L * ((2 ^ k'' : Nat) : Int) * ((2 ^ E : Nat) : Int) = L * ((2 ^ s : Nat) : Int) * (((2 ^ k : Nat) : Int) * ((2 ^ k' : Nat) : Int)) := by
      rw [Int.mul_assoc, ← Int.natCast_mul, ep, Int.natCast_mul, Int.natCast_mul, Int.mul_assoc]
    rw [g]
    have hp : (0 : Int) ≤ ((2 ^ k : Nat) : Int) * ((2 ^ k' : Nat) : Int) := Int.mul_nonneg (Int.natCast_nonneg _) (Int.natCast_nonneg _)
    have sh : ∀ u v : Int, u * ((2 ^ k : Nat) : Int) * (v * ((2 ^ k' : Nat) : Int)) = u * v * (((2 ^ k : Nat) : Int) * ((2 ^ k' : Nat) : Int)) := fun u v => by
      rw [Int.mul_assoc, Int.mul_left_comm ((2 ^ k : Nat) : Int) v, ← Int.mul_assoc u v]
    refine corner_ge x1 x2 y1 y2 ?_ ?_ ?_ ?_ <;> rw [sh] <;> exact Int.mul_le_mul_of_nonneg_right (by assumption) hp
  · have g : U * ((2 ^ k'' : Nat) : Int) * ((2 ^ E : Nat) : Int) = U * ((2 ^ s : Nat) : Int) * (((2 ^ k : Nat) : Int) * ((2 ^ k' : Nat) : Int)) := by
      rw [Int.mul_assoc, ← Int.natCast_mul, ep, Int.natCast_mul, Int.natCast_mul, Int.mul_assoc]
    rw [g]
    have hp : (0 : Int) ≤ ((2 ^ k : Nat) : Int) * ((2 ^ k' : Nat) : Int) := Int.mul_nonneg (Int.natCast_nonneg _) (Int.natCast_nonneg _)
    have sh : ∀ u v : Int, u * ((2 ^ k : Nat) : Int) * (v * ((2 ^ k' : Nat) : Int)) = u * v * (((2 ^ k : Nat) : Int) * ((2 ^ k' : Nat) : Int)) := fun u v => by
      rw [Int.mul_assoc, Int.mul_left_comm ((2 ^ k : Nat) : Int) v, ← Int.mul_assoc u v]
    refine corner_le x1 x2 y1 y2 ?_ ?_ ?_ ?_ <;> rw [sh] <;> exact Int.mul_le_mul_of_nonneg_right (by assumption) hp
theorem In.add {k x y r : Nat} {a b c d L U : Int} (hx : In k a b x) (hy : In k c d y) (h : FN .add x y r) (k1 : 53 ≤ k) (k2 : k ≤ 2044) (b1 : -9007199254740992 ≤ L) (b2 : U ≤ 9007199254740992) (l : L ≤ a + c) (u : b + d ≤ U) : In k L U r := by
  obtain ⟨fx, x1, x2⟩ := hx
  obtain ⟨fy, y1, y2⟩ := hy
  have hp : (0 : Int) ≤ ((2 ^ k : Nat) : Int) := Int.natCast_nonneg _
  refine (add_rn fx fy h).bounds (by decide) k1 k2 b1 b2 ?_ ?_
  · have := Int.mul_le_mul_of_nonneg_right l hp
    rw [Int.add_mul] at this
    omega
  · have := Int.mul_le_mul_of_nonneg_right u hp
    rw [Int.add_mul] at this
    omega
theorem In.opp {k x : Nat} {a b : Int} (h : In k a b x) : In k (-b) (-a) (fopp x) := by
  obtain ⟨f, h1, h2⟩ := h
  refine ⟨f.opp, ?_, ?_⟩ <;> rw [sv_opp f.1, Int.neg_mul] <;> omega
theorem In.wide {k x : Nat} {a b c d : Int} (h : In k a b x) (h1 : c ≤ a) (h2 : b ≤ d) : In k c d x := by
  obtain ⟨f, g1, g2⟩ := h
  have hp : (0 : Int) ≤ ((2 ^ k : Nat) : Int) := Int.natCast_nonneg _
  exact ⟨f, Int.le_trans (Int.mul_le_mul_of_nonneg_right h1 hp) g1, Int.le_trans g2 (Int.mul_le_mul_of_nonneg_right h2 hp)⟩
end Go.Proofs.Ytmigdomlakflfaa

/- Heights in their order, no program: finite floats by a key of their bits; rows that the library has sorted. -/
namespace Go.Proofs.Ytmigdomlakflfaa
open Go.RowKit Go.Sort
set_option linter.unusedVariables false

theorem ycmp_scale (u v : Int) {p : Nat} (hp : 0 < p) : compare (u * (p : Int)) (v * (p : Int)) = compare u v := by
  have hp' : (0 : Int) < (p : Int) := by omega
  rcases Int.lt_trichotomy u v with h | rfl | h
  · rw [Int.compare_eq_lt.2 h, Int.compare_eq_lt.2 (Int.mul_lt_mul_of_pos_right h hp')]
  · simp
  · rw [Int.compare_eq_gt.2 h, Int.compare_eq_gt.2 (Int.mul_lt_mul_of_pos_right h hp')]
/-- The order of finite floats is that of their numbers. -/
theorem yorder {x y : Nat} (hx : Fi x) (hy : Fi y) : FloatKind.f64.format.order x y = some (compare (sv x) (sv y)) := by
  show (Ieee.double.read x).order (Ieee.double.read y) = _
  obtain ⟨m, a, e1, v1⟩ := read_num hx.2
  obtain ⟨n, b, e2, v2⟩ := read_num hy.2
  generalize hs : (x / 9223372036854775808 % 2 == 1) = s at e1
  generalize ht : (y / 9223372036854775808 % 2 == 1) = t at e2
  have t1 : (-1074 + (a : Int) - min (-1074 + (a : Int)) (-1074 + (b : Int))).toNat = a - min a b := by omega
  have t2 : (-1074 + (b : Int) - min (-1074 + (a : Int)) (-1074 + (b : Int))).toNat = b - min a b := by omega
  rw [e1, e2]
  simp only [Ieee.Datum.order, t1, t2]
  rw [← ycmp_scale _ _ (Nat.two_pow_pos (min a b)), signed_pow s m a _ (Nat.min_le_left ..), signed_pow t n b _ (Nat.min_le_right ..), v1, v2, sv_sign hs, sv_sign ht]
theorem Fi.of {x : Nat} (hx : x < 18446744073709551616) (h : isone x = true) : Fi x := ⟨hx, by unfold isone at h; simpa using h⟩
theorem Fi.isone {x : Nat} (h : Fi x) : isone x = true := by unfold Proofs.Ytmigdomlakflfaa.isone; simpa using h.2
/-- The key of a height: by value, -0 ahead of +0. -/
def kz (x : Nat) : Int := if x < 9223372036854775808 then (x : Int) else 9223372036854775807 - (x : Int)
theorem kz_inj {x y : Nat} (h : kz x = kz y) : x = y := by
  unfold kz at h
  split at h <;> split at h <;> omega
theorem sv_le_of {x y : Nat} (hx : Fi x) (hy : Fi y) (h : kz x ≤ kz y) : sv x ≤ sv y := by
  unfold kz at h
  have h1 := hx.1
  have h2 := hy.1
  by_cases a : x < 9223372036854775808
  · by_cases b : y < 9223372036854775808
    · rw [if_pos a, if_pos b] at h
      rw [sv_low a, sv_low b]
      have := rungVal_le (r := x) (s := y) (by omega)
      omega
    · rw [if_pos a, if_neg b] at h
      omega
  · obtain ⟨m, rfl⟩ : ∃ m, x = 9223372036854775808 + m := ⟨x - 9223372036854775808, by omega⟩
    by_cases b : y < 9223372036854775808
    · rw [sv_high (by omega), sv_low b]
      omega
    · obtain ⟨n, rfl⟩ : ∃ n, y = 9223372036854775808 + n := ⟨y - 9223372036854775808, by omega⟩
      rw [if_neg a, if_neg b] at h
      rw [sv_high (by omega), sv_high (by omega)]
      have := rungVal_le (r := n) (s := m) (by omega)
      omega
theorem kz_of_lt {x y : Nat} (hx : Fi x) (hy : Fi y) (h : sv x < sv y) : kz x < kz y := by
  rcases Int.lt_or_le (kz x) (kz y) with h1 | h1
  · exact h1
  · have := sv_le_of hy hx h1
    omega
/-- Two heights of one value and one sign are one. -/
theorem kz_same {x y : Nat} (hx : Fi x) (hy : Fi y) (h : sv x = sv y) (hs : (x / 9223372036854775808 % 2 == 1) = (y / 9223372036854775808 % 2 == 1)) : x = y := by
  have h1 := hx.1
  have h2 := hy.1
  have key : ∀ a b : Nat, rungVal a = rungVal b → a = b := fun a b e => by
    rcases Nat.lt_trichotomy a b with h | h | h
    · have := rungVal_lt h; omega
    · exact h
    · have := rungVal_lt h; omega
  by_cases a : x < 9223372036854775808
  · by_cases b : y < 9223372036854775808
    · rw [sv_low a, sv_low b] at h
      exact key x y (by omega)
    · exfalso
      have e1 : x / 9223372036854775808 % 2 = 0 := by omega
      have e2 : y / 9223372036854775808 % 2 = 1 := by omega
      rw [e1, e2] at hs
      simp at hs
  · by_cases b : y < 9223372036854775808
    · exfalso
      have e1 : x / 9223372036854775808 % 2 = 1 := by omega
      have e2 : y / 9223372036854775808 % 2 = 0 := by omega
      rw [e1, e2] at hs
      simp at hs
    · obtain ⟨m, rfl⟩ : ∃ m, x = 9223372036854775808 + m := ⟨x - 9223372036854775808, by omega⟩
      obtain ⟨n, rfl⟩ : ∃ n, y = 9223372036854775808 + n := ⟨y - 9223372036854775808, by omega⟩
      rw [sv_high (by omega), sv_high (by omega)] at h
      have := key m n (by omega)
      omega
/-- What rising tells. -/
def risR (x y : Nat) : Int := if kz x < kz y then -1 else if kz y < kz x then 1 else 0
/-- The heights that are finite, in their order. -/
def srtF (xs : List Nat) : List Nat := (xs.filter isone).mergeSort (fun x y => decide (kz x ≤ kz y))
theorem srtF_perm (xs : List Nat) : (srtF xs).Perm (xs.filter isone) := List.mergeSort_perm _ _
theorem srtF_rise (xs : List Nat) : (srtF xs).Pairwise (fun x y => kz x ≤ kz y) := by
  have := List.pairwise_mergeSort (le := fun x y : Nat => decide (kz x ≤ kz y)) (by intro a b c; simp; omega) (by intro a b; simp; omega) (xs.filter isone)
  exact this.imp (fun h => by simpa using h)
theorem srtF_eq {xs ys : List Nat} (hp : ys.Perm (xs.filter isone)) (hr : ys.Pairwise (fun x y => kz x ≤ kz y)) : srtF xs = ys :=
  List.Perm.eq_of_pairwise (le := fun x y : Nat => kz x ≤ kz y) (fun a b _ _ h1 h2 => kz_inj (by omega)) (srtF_rise xs) hr ((srtF_perm xs).trans hp.symm)
theorem srtF_mem {xs : List Nat} {x : Nat} : x ∈ srtF xs ↔ x ∈ xs ∧ isone x = true := by
  rw [(srtF_perm xs).mem_iff, List.mem_filter]
theorem srtF_len (xs : List Nat) : (srtF xs).length = (xs.filter isone).length := (srtF_perm xs).length_eq
/-! ### Rows that are sorted -/
theorem holdsG {α : Type} [Inhabited α] (enc : α → Value) {w : World} {g : Nat} {cur : Array Value} {e : TypeId} {ss : List α} (hb : w.heap[g]? = some (.cells cur e (0, 0))) (ht : cur.toList.take ss.length = ss.map enc) : Holds enc w g 0 ss.toArray := by
  intro j hj
  have hj' : j < ss.length := by simpa using hj
  refine ⟨?_, by simp [World.frozen?, hb]⟩
  have h1 : (cur.toList.take ss.length)[j]? = (ss.map enc)[j]? := by rw [ht]
  rw [List.getElem?_take_of_lt hj'] at h1
  simp only [World.cell?, hb, Nat.zero_add]
  simp only [Option.isSome_none, Bool.false_eq_true, if_false]
  rw [← Array.getElem?_toList, h1]
  simp [hj']
theorem heapG {α : Type} [Inhabited α] (enc : α → Value) {w : World} {g n : Nat} {os : Array Obj} {cur : Array Value} {e : TypeId} {fr : Nat × Nat} (d : Array α) (hb : w.heap[g]? = some (.cells cur e fr)) :
    (grow (putRow enc (Sort.ahead w n) g 0 d) os).heap[g]? = some (.cells (putCells enc 0 d cur) e fr) := by
  have hg : g < w.heap.size := (Array.getElem?_eq_some_iff.1 hb).1
  rw [heap_grow_old _ _ (by simpa using hg)]
  simp [putRow, mapBlock, Sort.ahead, Array.getElem?_modify, hb, onCells]
theorem grownG {α : Type} [Inhabited α] (enc : α → Value) {w : World} {g n : Nat} {os : Array Obj} (d : Array α) : w.grownBy (grow (putRow enc (Sort.ahead w n) g 0 d) os) (some g) := by
  refine ⟨rfl, rfl, rfl, by simp, fun k hk hne => ?_⟩
  rw [heap_grow_old _ _ (by simpa using hk)]
  have : g ≠ k := fun e => hne (by rw [e])
  simp [putRow, mapBlock, Sort.ahead, Array.getElem?_modify, this]
theorem takeG {α : Type} [Inhabited α] (enc : α → Value) (cur : Array Value) (ts : List α) (h : ts.length ≤ cur.size) : (putCells enc 0 ts.toArray cur).toList.take ts.length = ts.map enc := by
  apply List.ext_getElem?
  intro j
  by_cases hj : j < ts.length
  · rw [List.getElem?_take_of_lt hj, Array.getElem?_toList]
    simp [putCells, hj, show j < cur.size by omega]
  · rw [List.getElem?_take_eq_none (by omega), List.getElem?_eq_none (by simp; omega)]
theorem ownsG {α : Type} [Inhabited α] (enc : α → Value) {w : World} {base g cap n : Nat} {e : TypeId} {os : Array Obj} {cur : Array Value} {ss ts : List α} (hl : ts.length = ss.length) (hbase : base ≤ g) (hb : w.heap[g]? = some (.cells cur e (0, 0)))
    (h1 : ss.length ≤ cap) (h2 : cap ≤ maxLen) (h3 : cur.size = cap * 1) :
    (grow (putRow enc (Sort.ahead w n) g 0 ts.toArray) os).ownsRow base e 1 (.slice (some ⟨g, 0, none⟩) ss.length cap) ss.length (ts.map enc) :=
  ⟨by simp [hl], .inr ⟨g, cap, _, rfl, hbase, heapG enc _ hb, h1, h2, by simp [putCells, h3], by rw [Nat.mul_one, ← hl]; exact takeG enc cur ts (by omega)⟩⟩
end Go.Proofs.Ytmigdomlakflfaa

/- Same, Equal, Finite, Abs of parts and of the document's answers, of any complex numbers, by their parts' bits. -/
namespace Go.Proofs.Ytmigdomlakflfaa
open Go.RowKit
set_option linter.unusedVariables false

end Go.Proofs.Ytmigdomlakflfaa

/- Samples by their bits that came in, one behind the other; a call that came in. -/
namespace Go.Proofs.Ytmigdomlakflfaa
open Go.RowKit Go.ChangeShapes Go.WideShapes Go.Deep Go.Joins
set_option linter.unusedVariables false

/-- A list of samples by their bits, in memory. -/
def RdB (w : World) (a : Option Addr) (len : Nat) (xs : List (Int × Nat)) : Prop := xs.length = len ∧ (∀ p ∈ xs, I64 p.1 ∧ p.2 < 18446744073709551616) ∧ (len = 0 ∨ ∃ b o, a = some ⟨b, o, none⟩ ∧ b < w.heap.size ∧ ∀ j p, xs[j]? = some p → w.cell? ⟨b, o + j * 2, none⟩ = some (.int .i64 p.1) ∧ w.cell? ⟨b, o + j * 2 + 1, none⟩ = some (.int .u64 (p.2 : Int)))
theorem RdB.later {w w' : World} {a : Option Addr} {n : Nat} {xs : List (Int × Nat)} (h : RdB w a n xs) (hb : Below w.heap.size w w') : RdB w' a n xs := by
  obtain ⟨hl, h64, h0⟩ := h
  refine ⟨hl, h64, h0.imp id ?_⟩
  rintro ⟨b, o, ha, hlt, hx⟩
  have := hb.size
  refine ⟨b, o, ha, by omega, fun j p hj => ?_⟩
  have e := hx j p hj
  exact ⟨(hb.cell (p := ⟨b, o + j * 2, none⟩) hlt).trans e.1, (hb.cell (p := ⟨b, o + j * 2 + 1, none⟩) hlt).trans e.2⟩
end Go.Proofs.Ytmigdomlakflfaa

/- append to a row of the call's own, as one step of a region: where the row lies behind it is told. -/
namespace Go.Proofs.Ytmigdomlakflfaa
open Go.RowKit
set_option linter.unusedVariables false

theorem step_append_own_at {P : Program} {ops : Array Oper} {o : Oper} {a : Act} {w : World} {K : Act → World → Prop} {Q : Exit → Act → World → Prop} {E : Prop}
    (hg : o.guard = none) (s x : Operand) (t : TypeId) (hop : o.op = Op.call { callee := Callee.builtin Builtin.append, args := #[s, x], argTypes := #[t, t] })
    (base : Nat) (e : TypeId) (i : TypeInfo) (z : Value) (size bytes : Nat) (h1 : P.underlying t = some (.slice e)) (h2 : P.info? e = some i) (h3 : i.zero = some z) (h4 : i.size = size) (h5 : i.bytes = bytes) (h6 : z.cells.size = size) (h7 : 0 < size)
    (v : Value) (n : Nat) (xs : List Value) (hs : a.eval s = v) (hown : w.ownsRow base e size v n xs)
    (ad : Addr) (m c : Nat) (news : List Value) (hx : a.eval x = .slice (some ad) m c) (hn : news.length = m * size) (hc : ∀ j u, news[j]? = some u → w.cell? (ad.add j) = some u) (h1c : ∀ u ∈ news, u.oneCell' = true)
    (b1 : n + m ≤ maxLen) (b2 : (n + m) * bytes ≤ 140737488355328) (hbase : base ≤ w.heap.size)
    (hK : ∀ v' w', w'.ownsRow base e size v' (n + m) (xs ++ news) → w.grownBy w' v.ownBlock → (v'.ownBlock = v.ownBlock ∨ v'.ownBlock = some w.heap.size) → K (a.put o.dst v') w') :
    if Region.wanted o (yielded ops a.tmps) = true then Oper.wp P o a w K Q else E := by
  have hw : Region.wanted o (yielded ops a.tmps) = true := by simp [Region.wanted, hg]
  rw [if_pos hw]
  obtain ⟨v', w', hrun, r1, r2, _, r3⟩ := run_append_own_at (P := P) w base t o.type e i z size bytes h1 h2 h3 h4 h5 h6 h7 v n xs hown ad m c news hn hc h1c b1 b2 hbase
  unfold Oper.wp
  simp [execOp, hop, resolve, invoke, builtin, hs, hx, hrun, Result.andThen]
  exact hK v' w' r1 r2 r3
end Go.Proofs.Ytmigdomlakflfaa

