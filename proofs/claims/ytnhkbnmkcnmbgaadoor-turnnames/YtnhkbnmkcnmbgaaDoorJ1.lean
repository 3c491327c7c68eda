/- My texts on the way to TurnNames, one behind the other: contracts of the program and of the document's answers. -/
import Derived.WalkKit
import Derived.WalkLawsBesides
import Derived.WalkSpells
import Derived.Laws.BitsAllLaws
import Derived.Laws.CopyOwn
import Derived.Laws.AppendOwnNone
import Derived.Test.YtnhkbnmkcnmbgaaDoorChecked
import Derived.Handy
import Derived.Deep.RegionHeld3
import Derived.RegionTactic
import Derived.ChangeAlike
import Derived.Deep.QuietTactic
import Derived.BigQuiet
import Derived.KernelRfl
import Derived.Test.YtnhkbnmkcnmbgaaDoorShelf
import Derived.Lib.ItoaLen
import Derived.Lib.AtoiErrMem
import Derived.Lib.IndexBytes
import Derived.Lib.CutLaws
import Derived.Shelf.RegionOpenPlain
/- Floats of 64 bits by their bits: which are finite, what a sum or difference of two gives, the sum of two with what was lost of it, as plain functions of the bits. Nothing here speaks of the program. -/
namespace Go.Proofs.YtnhkbnmkcnmbgaaDoor

/-- Neither an infinity nor NaN: by the bits. -/
def fin (x : Nat) : Bool := x / 4503599627370496 % 2048 != 2047

theorem fin_iff (x : Nat) : fin x = true ↔ x % 9223372036854775808 < 9218868437227405312 := by
  unfold fin
  simp only [bne_iff_ne, ne_eq]
  omega

theorem dbl_sign : Ieee.double.signWeight = 9223372036854775808 := by decide
theorem dbl_inf : Ieee.double.infRung = 9218868437227405312 := by decide
theorem dbl_binade : Ieee.double.binade = 4503599627370496 := by decide

theorem read_fin {x : Nat} (h : fin x = true) : ∃ s m e, Ieee.double.read x = .number s m e := by
  rw [fin_iff] at h
  unfold Ieee.Format.read
  simp only [dbl_sign, dbl_inf, dbl_binade]
  split
  · exact ⟨_, _, _, rfl⟩
  · first | exact ⟨_, _, _, rfl⟩ | (rw [if_pos h]; exact ⟨_, _, _, rfl⟩)

theorem read_not {x : Nat} (h : fin x = false) : (∃ s, Ieee.double.read x = .infinity s) ∨ ∃ s f, Ieee.double.read x = .nan s f := by
  have h' : ¬ x % 9223372036854775808 < 9218868437227405312 := fun g => by rw [(fin_iff x).2 g] at h; exact Bool.noConfusion h
  unfold Ieee.Format.read
  simp only [dbl_sign, dbl_inf, dbl_binade]
  rw [if_neg (by omega), if_neg h']
  split
  · exact Or.inl ⟨_, rfl⟩
  · exact Or.inr ⟨_, _, rfl⟩

theorem write_inf (s : Bool) : fin (Ieee.double.write (.infinity s)) = false := by
  cases s <;> decide

theorem nan_cut (x y t : Nat) : fin (Question.cut (.nanBits .f64 x y) t) = false ∧ Question.cut (.nanBits .f64 x y) t < 18446744073709551616 := by
  simp only [Question.cut]
  have hu : (t / 2) % (2 ^ 52 - 1) < 4503599627370495 := Nat.mod_lt _ (by decide)
  have hv : t % 2 = 0 ∨ t % 2 = 1 := by omega
  generalize (t / 2) % (2 ^ 52 - 1) = u at hu ⊢
  generalize t % 2 = v at hv ⊢
  constructor
  · cases hh : fin (v * 2 ^ 63 + 0x7ff0000000000000 + 1 + u)
    · rfl
    · rw [fin_iff] at hh; rcases hv with rfl | rfl <;> omega
  · rcases hv with rfl | rfl <;> omega

/-- What the machine hands back: the bits of the answer, or, where there is none, some NaN. -/
def FR (op : BinOp) (x y r : Nat) : Prop := r < 18446744073709551616 ∧ (floatBits op .f64 x y = some r ∨ (floatBits op .f64 x y = none ∧ fin r = false))

theorem FR.det {op : BinOp} {x y r s : Nat} (h : FR op x y r) (g : floatBits op .f64 x y = some s) : r = s := by
  rcases h.2 with h | ⟨h, _⟩
  · rw [h] at g; exact Option.some.inj g
  · rw [h] at g; cases g

theorem FR.some {op : BinOp} {x y r : Nat} (h : floatBits op .f64 x y = .some r) : FR op x y r := by
  have := floatBits_wf h
  simp [Lit.wf] at this
  exact ⟨this, Or.inl h⟩
theorem FR.none {op : BinOp} {x y : Nat} (t : Nat) (h : floatBits op .f64 x y = .none) : FR op x y (Question.cut (.nanBits .f64 x y) t) :=
  ⟨(nan_cut x y t).2, Or.inr ⟨h, (nan_cut x y t).1⟩⟩

theorem sum_back {d c : Ieee.Datum} {r : Nat} (h : (d.sum c).map Ieee.double.write = .some r) (hf : fin r = true) : (∃ s m e, d = .number s m e) ∧ ∃ s m e, c = .number s m e := by
  cases d with
  | nan s f => simp [Ieee.Datum.sum] at h
  | infinity s =>
    cases c with
    | nan t f => simp [Ieee.Datum.sum] at h
    | infinity t =>
      simp only [Ieee.Datum.sum] at h
      split at h
      · cases h; rw [write_inf] at hf; cases hf
      · cases h
    | number t m e => simp only [Ieee.Datum.sum] at h; cases h; rw [write_inf] at hf; cases hf
  | number s m e =>
    cases c with
    | nan t f => simp [Ieee.Datum.sum] at h
    | infinity t => simp only [Ieee.Datum.sum] at h; cases h; rw [write_inf] at hf; cases hf
    | number t n j => exact ⟨⟨_, _, _, rfl⟩, ⟨_, _, _, rfl⟩⟩

theorem fin_of_read {x : Nat} {s : Bool} {m : Nat} {e : Int} (h : Ieee.double.read x = .number s m e) : fin x = true := by
  cases hx : fin x
  · rcases read_not hx with ⟨_, g⟩ | ⟨_, _, g⟩ <;> rw [g] at h <;> cases h
  · rfl

theorem add_back {x y r : Nat} (h : floatBits .add .f64 x y = .some r) (hf : fin r = true) : fin x = true ∧ fin y = true := by
  obtain ⟨⟨_, _, _, h1⟩, ⟨_, _, _, h2⟩⟩ := sum_back h hf
  exact ⟨fin_of_read h1, fin_of_read h2⟩
theorem sub_back {x y r : Nat} (h : floatBits .sub .f64 x y = .some r) (hf : fin r = true) : fin x = true ∧ fin y = true := by
  obtain ⟨⟨_, _, _, h1⟩, ⟨s, m, e, h2⟩⟩ := sum_back h hf
  refine ⟨fin_of_read h1, ?_⟩
  cases hy : fin y
  · rcases read_not hy with ⟨_, g⟩ | ⟨_, _, g⟩ <;> (have g' : FloatKind.f64.format.read y = _ := g; rw [g'] at h2; cases h2)
  · rfl

theorem FR.addBack {x y r : Nat} (h : FR .add x y r) (hf : fin r = true) : floatBits .add .f64 x y = .some r ∧ fin x = true ∧ fin y = true := by
  rcases h.2 with h | ⟨_, g⟩
  · exact ⟨h, add_back h hf⟩
  · rw [g] at hf; cases hf
theorem FR.subBack {x y r : Nat} (h : FR .sub x y r) (hf : fin r = true) : floatBits .sub .f64 x y = .some r ∧ fin x = true ∧ fin y = true := by
  rcases h.2 with h | ⟨_, g⟩
  · exact ⟨h, sub_back h hf⟩
  · rw [g] at hf; cases hf

theorem add_some {x y : Nat} (hx : fin x = true) (hy : fin y = true) : ∃ r, floatBits .add .f64 x y = .some r := by
  obtain ⟨s, m, e, h1⟩ := read_fin hx
  obtain ⟨t, n, j, h2⟩ := read_fin hy
  exact ⟨_, show (((Ieee.double.read x).sum (Ieee.double.read y)).map Ieee.double.write) = _ by rw [h1, h2]; rfl⟩

theorem order_self {x : Nat} (h : fin x = true) : FloatKind.f64.format.order x x = .some .eq := by
  obtain ⟨s, m, e, h1⟩ := read_fin h
  show (Ieee.double.read x).order (Ieee.double.read x) = _
  rw [h1]
  simp [Ieee.Datum.order]

theorem run_add (P : Program) (w : World) (t : TypeId) (x y : Nat) (h : floatBits .add .f64 x y = .none) :
    (binOp .add t (.float .f64 x) (.float .f64 y)).run P w = .ok (.float .f64 (Question.cut (.nanBits .f64 x y) (w.tape w.drawn (.nanBits .f64 x y)))) w.drew := by
  have h' : FloatKind.f64.format.add x y = .none := h
  simp [binOp, Op.floatArith, h', Question.forced]
theorem run_sub (P : Program) (w : World) (t : TypeId) (x y : Nat) (h : floatBits .sub .f64 x y = .none) :
    (binOp .sub t (.float .f64 x) (.float .f64 y)).run P w = .ok (.float .f64 (Question.cut (.nanBits .f64 x y) (w.tape w.drawn (.nanBits .f64 x y)))) w.drew := by
  have h' : FloatKind.f64.format.sub x y = .none := h
  simp [binOp, Op.floatArith, h', Question.forced]

/-- The sum of two finite floats and what was lost of it; nothing, where one of both is not finite. -/
def chain (a b : Nat) : Option (Nat × Nat) :=
  match floatBits .add .f64 a b with
  | .none => .none
  | .some s => if fin s then
      match floatBits .sub .f64 s a with
      | .none => .none
      | .some t =>
        match floatBits .sub .f64 s t with
        | .none => .none
        | .some d =>
          match floatBits .sub .f64 a d, floatBits .sub .f64 b t with
          | .some p, .some q =>
            match floatBits .add .f64 p q with
            | .none => .none
            | .some e => if fin e then .some (s, e) else .none
          | _, _ => .none
    else .none

/-- The steps as the machine goes them. -/
def Two (a b s e : Nat) : Prop := ∃ t d p q, FR .add a b s ∧ FR .sub s a t ∧ FR .sub s t d ∧ FR .sub a d p ∧ FR .sub b t q ∧ FR .add p q e

theorem Two.good {a b s e : Nat} (h : Two a b s e) (hs : fin s = true) (he : fin e = true) : chain a b = .some (s, e) := by
  obtain ⟨t, d, p, q, h1, h2, h3, h4, h5, h6⟩ := h
  obtain ⟨g6, fp, fq⟩ := h6.addBack he
  obtain ⟨g5, _, ft⟩ := h5.subBack fq
  obtain ⟨g4, _, fd⟩ := h4.subBack fp
  obtain ⟨g3, _, _⟩ := h3.subBack fd
  obtain ⟨g2, _, _⟩ := h2.subBack ft
  obtain ⟨g1, _, _⟩ := h1.addBack hs
  simp only [chain, g1, g2, g3, g4, g5, g6, hs, he, if_true]

theorem chain_back {a b : Nat} {u : Nat × Nat} (h : chain a b = .some u) : fin u.1 = true ∧ fin u.2 = true ∧ ∀ s e, Two a b s e → s = u.1 ∧ e = u.2 := by
  unfold chain at h
  split at h
  · cases h
  rename_i s g1
  split at h
  · rename_i hs
    split at h
    · cases h
    rename_i t g2
    split at h
    · cases h
    rename_i d g3
    split at h
    · rename_i p q g4 g5
      split at h
      · cases h
      rename_i e g6
      split at h
      · rename_i he
        cases h
        refine ⟨hs, he, fun s' e' hh => ?_⟩
        obtain ⟨t', d', p', q', h1, h2, h3, h4, h5, h6⟩ := hh
        have e1 := h1.det g1
        subst e1
        have e2 := h2.det g2
        subst e2
        have e3 := h3.det g3
        subst e3
        have e4 := h4.det g4
        subst e4
        have e5 := h5.det g5
        subst e5
        exact ⟨rfl, h6.det g6⟩
      · cases h
    · cases h
  · cases h

theorem Two.bad {a b s e : Nat} (h : Two a b s e) (hb : fin s = false ∨ fin e = false) : chain a b = .none := by
  cases hc : chain a b with
  | none => rfl
  | some u =>
    obtain ⟨h1, h2, h3⟩ := chain_back hc
    obtain ⟨e1, e2⟩ := h3 _ _ h
    rcases hb with hb | hb
    · rw [e1, h1] at hb; cases hb
    · rw [e2, h2] at hb; cases hb

/-- The first step alone. -/
theorem chain_over {a b s : Nat} (h : FR .add a b s) (hs : fin s = false) : chain a b = .none := by
  cases hc : floatBits .add .f64 a b with
  | none => simp only [chain, hc]
  | some r =>
    have := h.det hc
    subst this
    simp only [chain, hc, hs]
    rfl

/-- TwoSum: the sum, what was lost, the error. -/
def tsum (a b : Nat) : Nat × Nat × Int :=
  if fin a && fin b then
    match chain a b with
    | .some (s, e) => (s, e, 0)
    | .none => (0, 0, 9)
  else (0, 0, 8)

theorem tsum_fin (a b : Nat) : fin (tsum a b).1 = true ∧ fin (tsum a b).2.1 = true := by
  unfold tsum
  split
  · cases hc : chain a b with
    | none => exact ⟨by decide, by decide⟩
    | some u => exact ⟨(chain_back hc).1, (chain_back hc).2.1⟩
  · exact ⟨by decide, by decide⟩

theorem tsum_ok {a b s e : Nat} (ha : fin a = true) (hb : fin b = true) (h : chain a b = .some (s, e)) : tsum a b = (s, e, 0) := by
  simp only [tsum, ha, hb, h, Bool.and_true, if_true]
theorem tsum_over {a b : Nat} (ha : fin a = true) (hb : fin b = true) (h : chain a b = .none) : tsum a b = (0, 0, 9) := by
  simp only [tsum, ha, hb, h, Bool.and_true, if_true]
theorem tsum_bad {a b : Nat} (h : (fin a && fin b) = false) : tsum a b = (0, 0, 8) := by
  simp only [tsum, h]
  rfl

/-- Sum from a sum, what was lost, and a place on: the two and the fault. -/
def fsumGo : Nat → Nat → Nat → List Nat → Nat × Nat × Int × Int
  | s, c, _, [] => (s, c, 0, 0)
  | s, c, i, x :: l =>
    match chain s x with
    | .none => (0, 0, 9, (i : Int))
    | .some (t, e) =>
      match floatBits .add .f64 c e with
      | .none => (0, 0, 9, (i : Int))
      | .some d => if fin d then fsumGo t d (i + 1) l else (0, 0, 9, (i : Int))

/-- Sum: from a place on with all ahead of it finite. -/
def fsumFrom (l0 : List Nat) : Nat → List Nat → Nat × Nat × Int × Int
  | _, [] => fsumGo 0 0 0 l0
  | i, x :: l => if fin x then fsumFrom l0 (i + 1) l else (0, 0, 8, (i : Int))
def fsum (l : List Nat) : Nat × Nat × Int × Int := fsumFrom l 0 l

theorem drop_step {l : List Nat} {k : Nat} (h : k < l.length) : l.drop k = (l[k]?.getD 0) :: l.drop (k + 1) := by
  rw [List.drop_eq_getElem_cons h, List.getElem?_eq_getElem h]
  rfl

theorem fsumFrom_fin {l0 l : List Nat} {k : Nat} (h : k < l.length) (hf : fin (l[k]?.getD 0) = true) : fsumFrom l0 k (l.drop k) = fsumFrom l0 (k + 1) (l.drop (k + 1)) := by
  rw [drop_step h]
  simp only [fsumFrom, hf, if_true]
theorem fsumFrom_bad {l0 l : List Nat} {k : Nat} (h : k < l.length) (hf : fin (l[k]?.getD 0) = false) : fsumFrom l0 k (l.drop k) = (0, 0, 8, (k : Int)) := by
  rw [drop_step h]
  simp only [fsumFrom, hf]
  rfl
theorem fsumFrom_end {l0 l : List Nat} {k : Nat} (h : l.length ≤ k) : fsumFrom l0 k (l.drop k) = fsumGo 0 0 0 l0 := by
  rw [List.drop_of_length_le h]
  rfl
theorem fsumGo_end {l : List Nat} {s c k : Nat} (h : l.length ≤ k) : fsumGo s c k (l.drop k) = (s, c, 0, 0) := by
  rw [List.drop_of_length_le h]
  rfl
theorem fsumGo_none {l : List Nat} {s c k : Nat} (h : k < l.length) (g : chain s (l[k]?.getD 0) = .none) : fsumGo s c k (l.drop k) = (0, 0, 9, (k : Int)) := by
  rw [drop_step h]
  simp only [fsumGo, g]
theorem fsumGo_over {l : List Nat} {s c k t e d : Nat} (h : k < l.length) (g : chain s (l[k]?.getD 0) = .some (t, e)) (g2 : floatBits .add .f64 c e = .some d) (g3 : fin d = false) : fsumGo s c k (l.drop k) = (0, 0, 9, (k : Int)) := by
  rw [drop_step h]
  simp only [fsumGo, g, g2, g3]
  rfl
theorem fsumGo_step {l : List Nat} {s c k t e d : Nat} (h : k < l.length) (g : chain s (l[k]?.getD 0) = .some (t, e)) (g2 : floatBits .add .f64 c e = .some d) (g3 : fin d = true) : fsumGo s c k (l.drop k) = fsumGo t d (k + 1) (l.drop (k + 1)) := by
  rw [drop_step h]
  simp only [fsumGo, g, g2, g3, if_true]

/-- All of them: finite. -/
def Fins (l : List Nat) : Prop := ∀ j : Nat, fin (l[j]?.getD 0) = true

theorem fin0 : fin 0 = true := by decide

/-- A round of the program's loop. -/
theorem round_good {l : List Nat} {s c k s' e' c' : Nat} (h : k < l.length) (h2 : Two s (l[k]?.getD 0) s' e') (h3 : FR .add c e' c') (f1 : fin s' = true) (f2 : fin c' = true) :
    fsumGo s c k (l.drop k) = fsumGo s' c' (k + 1) (l.drop (k + 1)) := by
  obtain ⟨g, _, fe⟩ := h3.addBack f2
  exact fsumGo_step h (h2.good f1 fe) g f2
theorem round_bad {l : List Nat} {s c k s' e' c' : Nat} (h : k < l.length) (fc : fin c = true) (h2 : Two s (l[k]?.getD 0) s' e') (h3 : FR .add c e' c') (f : fin s' = false ∨ fin c' = false) :
    fsumGo s c k (l.drop k) = (0, 0, 9, (k : Int)) := by
  cases f1 : fin s'
  · exact fsumGo_none h (h2.bad (.inl f1))
  · cases fe : fin e'
    · exact fsumGo_none h (h2.bad (.inr fe))
    · have f2 : fin c' = false := by
        rcases f with f | f
        · rw [f1] at f; cases f
        · exact f
      obtain ⟨r, hr⟩ := add_some fc fe
      have := h3.det hr
      subst this
      exact fsumGo_over h (h2.good f1 fe) hr f2

theorem fsumGo_fin (l : List Nat) : ∀ s c i, fin s = true → fin c = true → fin (fsumGo s c i l).1 = true ∧ fin (fsumGo s c i l).2.1 = true := by
  induction l with
  | nil => intro s c i hs hc; exact ⟨hs, hc⟩
  | cons x l ih =>
    intro s c i hs hc
    simp only [fsumGo]
    split
    · exact ⟨fin0, fin0⟩
    · rename_i t e g
      split
      · exact ⟨fin0, fin0⟩
      · rename_i d g2
        split
        · rename_i hd
          exact ih t d (i + 1) (chain_back g).1 hd
        · exact ⟨fin0, fin0⟩
theorem fsumFrom_good (l0 : List Nat) (l : List Nat) : ∀ i, fin (fsumFrom l0 i l).1 = true ∧ fin (fsumFrom l0 i l).2.1 = true := by
  induction l with
  | nil => intro i; exact fsumGo_fin l0 0 0 0 (by decide) (by decide)
  | cons x l ih =>
    intro i
    simp only [fsumFrom]
    split
    · exact ih (i + 1)
    · exact ⟨fin0, fin0⟩

end Go.Proofs.YtnhkbnmkcnmbgaaDoor

/- Floats of 64 bits that are NaN, by their bits; which answers are alike; the order of sizes is that of their bits. Nothing here speaks of the program. -/
namespace Go.Proofs.YtnhkbnmkcnmbgaaDoor

/-- NaN, by the bits. -/
def isnan (x : Nat) : Bool := decide (9218868437227405312 < x % 9223372036854775808)

theorem isnan_iff (x : Nat) : isnan x = true ↔ 9218868437227405312 < x % 9223372036854775808 := by simp [isnan]

theorem read_isnan {x : Nat} (h : isnan x = true) : ∃ s f, Ieee.double.read x = .nan s f := by
  rw [isnan_iff] at h
  unfold Ieee.Format.read
  simp only [dbl_sign, dbl_inf, dbl_binade]
  rw [if_neg (by omega), if_neg (by omega), if_neg (by omega)]
  exact ⟨_, _, rfl⟩

theorem read_notnan {x : Nat} (h : isnan x = false) : (∃ s, Ieee.double.read x = .infinity s) ∨ ∃ s m e, Ieee.double.read x = .number s m e := by
  have h' : ¬ 9218868437227405312 < x % 9223372036854775808 := fun g => by rw [(isnan_iff x).2 g] at h; cases h
  unfold Ieee.Format.read
  simp only [dbl_sign, dbl_inf, dbl_binade]
  split
  · exact Or.inr ⟨_, _, _, rfl⟩
  split
  · exact Or.inr ⟨_, _, _, rfl⟩
  rw [if_pos (by omega)]
  exact Or.inl ⟨_, rfl⟩

theorem order_nan_l {x y : Nat} (h : isnan x = true) : FloatKind.f64.format.order x y = none := by
  obtain ⟨s, f, e⟩ := read_isnan h
  show (Ieee.double.read x).order (Ieee.double.read y) = none
  rw [e]
  cases Ieee.double.read y <;> rfl
theorem order_nan_r {x y : Nat} (h : isnan y = true) : FloatKind.f64.format.order x y = none := by
  obtain ⟨s, f, e⟩ := read_isnan h
  show (Ieee.double.read x).order (Ieee.double.read y) = none
  rw [e]
  cases Ieee.double.read x <;> rfl
theorem order_refl {x : Nat} (h : isnan x = false) : FloatKind.f64.format.order x x = some .eq := by
  show (Ieee.double.read x).order (Ieee.double.read x) = _
  rcases read_notnan h with ⟨s, e⟩ | ⟨s, m, i, e⟩ <;> rw [e] <;> simp [Ieee.Datum.order]
theorem neq_self (x : Nat) : (FloatKind.f64.format.order x x != some .eq) = isnan x := by
  cases h : isnan x
  · rw [order_refl h]; rfl
  · rw [order_nan_l h]; rfl

/-- One of the four operations. -/
def isop (op : BinOp) : Prop := op = .add ∨ op = .sub ∨ op = .mul ∨ op = .quo

theorem fb_nan_l {op : BinOp} {x y : Nat} (h : isnan x = true) : floatBits op .f64 x y = none := by
  obtain ⟨s, f, e⟩ := read_isnan h
  have k : FloatKind.f64.format.read x = .nan s f := e
  cases op <;> try rfl
  · show (((FloatKind.f64.format.read x).sum (FloatKind.f64.format.read y)).map _) = none
    rw [k]; cases FloatKind.f64.format.read y <;> rfl
  · show (((FloatKind.f64.format.read x).sum (FloatKind.f64.format.read y).opposite).map _) = none
    rw [k]; cases (FloatKind.f64.format.read y).opposite <;> rfl
  · show (((FloatKind.f64.format.read x).product (FloatKind.f64.format.read y)).map _) = none
    rw [k]; cases FloatKind.f64.format.read y <;> rfl
  · show (((FloatKind.f64.format.read x).quotient _ (FloatKind.f64.format.read y)).map _) = none
    rw [k]; cases FloatKind.f64.format.read y <;> rfl
theorem fb_nan_r {op : BinOp} {x y : Nat} (h : isnan y = true) : floatBits op .f64 x y = none := by
  obtain ⟨s, f, e⟩ := read_isnan h
  have k : FloatKind.f64.format.read y = .nan s f := e
  cases op <;> try rfl
  · show (((FloatKind.f64.format.read x).sum (FloatKind.f64.format.read y)).map _) = none
    rw [k]; cases FloatKind.f64.format.read x <;> rfl
  · show (((FloatKind.f64.format.read x).sum (FloatKind.f64.format.read y).opposite).map _) = none
    rw [k]; cases FloatKind.f64.format.read x <;> rfl
  · show (((FloatKind.f64.format.read x).product (FloatKind.f64.format.read y)).map _) = none
    rw [k]; cases FloatKind.f64.format.read x <;> rfl
  · show (((FloatKind.f64.format.read x).quotient _ (FloatKind.f64.format.read y)).map _) = none
    rw [k]; cases FloatKind.f64.format.read x <;> rfl

theorem isnan_cut (x y t : Nat) : isnan (Question.cut (.nanBits .f64 x y) t) = true ∧ Question.cut (.nanBits .f64 x y) t < 18446744073709551616 := by
  refine ⟨?_, (nan_cut x y t).2⟩
  rw [isnan_iff]
  simp only [Question.cut]
  have hu : (t / 2) % (2 ^ 52 - 1) < 4503599627370495 := Nat.mod_lt _ (by decide)
  have hv : t % 2 = 0 ∨ t % 2 = 1 := by omega
  generalize (t / 2) % (2 ^ 52 - 1) = u at hu ⊢
  generalize t % 2 = v at hv ⊢
  rcases hv with rfl | rfl <;> omega

/-- What the machine hands back: the bits of the answer, or, where there is none, some NaN. -/
def FN (op : BinOp) (x y r : Nat) : Prop := r < 18446744073709551616 ∧ (floatBits op .f64 x y = some r ∨ (floatBits op .f64 x y = none ∧ isnan r = true))
/-- The same bits, or NaN both. -/
def Al (x y : Nat) : Prop := x = y ∨ (isnan x = true ∧ isnan y = true)

theorem Al.refl (x : Nat) : Al x x := .inl rfl

theorem FN.al {op : BinOp} {x y r x' y' r' : Nat} (h : FN op x y r) (h' : FN op x' y' r') (ax : Al x x') (ay : Al y y') : Al r r' := by
  have none_none : floatBits op .f64 x y = none → floatBits op .f64 x' y' = none → Al r r' := by
    intro e e'
    right
    refine ⟨?_, ?_⟩
    · rcases h.2 with g | ⟨_, g⟩
      · rw [e] at g; cases g
      · exact g
    · rcases h'.2 with g | ⟨_, g⟩
      · rw [e'] at g; cases g
      · exact g
  rcases ax with rfl | ⟨n1, n2⟩
  · rcases ay with rfl | ⟨n1, n2⟩
    · rcases h.2 with g | ⟨g, k⟩
      · rcases h'.2 with g' | ⟨g', _⟩
        · rw [g] at g'; exact .inl (Option.some.inj g')
        · rw [g] at g'; cases g'
      · exact none_none g g
    · exact none_none (fb_nan_r n1) (fb_nan_r n2)
  · exact none_none (fb_nan_l n1) (fb_nan_l n2)

theorem FN.some {op : BinOp} {x y r : Nat} (h : floatBits op .f64 x y = .some r) : FN op x y r := by
  have := floatBits_wf h
  simp [Lit.wf] at this
  exact ⟨this, Or.inl h⟩
theorem FN.none {op : BinOp} {x y : Nat} (t : Nat) (h : floatBits op .f64 x y = .none) : FN op x y (Question.cut (.nanBits .f64 x y) t) :=
  ⟨(isnan_cut x y t).2, Or.inr ⟨h, (isnan_cut x y t).1⟩⟩

/-- The root: its bits, or some NaN. -/
def FQ (x r : Nat) : Prop := r < 18446744073709551616 ∧ (Ieee.double.sqrt x = some r ∨ (Ieee.double.sqrt x = none ∧ isnan r = true))
theorem FQ.al {x r x' r' : Nat} (h : FQ x r) (h' : FQ x' r') (ax : Al x x') : Al r r' := by
  have none_none : Ieee.double.sqrt x = none → Ieee.double.sqrt x' = none → Al r r' := by
    intro e e'
    right
    refine ⟨?_, ?_⟩
    · rcases h.2 with g | ⟨_, g⟩
      · rw [e] at g; cases g
      · exact g
    · rcases h'.2 with g | ⟨_, g⟩
      · rw [e'] at g; cases g
      · exact g
  have nn : ∀ z, isnan z = true → Ieee.double.sqrt z = none := by
    intro z hz
    obtain ⟨s, f, e⟩ := read_isnan hz
    show ((Ieee.double.read z).root _).map _ = none
    rw [e]; rfl
  rcases ax with rfl | ⟨n1, n2⟩
  · rcases h.2 with g | ⟨g, k⟩
    · rcases h'.2 with g' | ⟨g', _⟩
      · rw [g] at g'; exact .inl (Option.some.inj g')
      · rw [g] at g'; cases g'
    · exact none_none g g
  · exact none_none (nn _ n1) (nn _ n2)

/-- Same, of reals. -/
def sameR (x y : Nat) : Bool := isnan x && isnan y || x == y
theorem Al.same {x y : Nat} (h : Al x y) : sameR x y = true := by
  rcases h with rfl | ⟨h1, h2⟩
  · simp [sameR]
  · simp [sameR, h1, h2]

/-! ### The order of sizes -/

/-- The number at a rung, in units of the least float. -/
def rungVal (r : Nat) : Nat := if r < 4503599627370496 then r else (4503599627370496 + r % 4503599627370496) * 2 ^ (r / 4503599627370496 - 1)

theorem rungVal_lt {r s : Nat} (h : r < s) : rungVal r < rungVal s := by
  unfold rungVal
  by_cases hr : r < 4503599627370496
  · rw [if_pos hr]
    by_cases hs : s < 4503599627370496
    · rw [if_pos hs]; exact h
    · rw [if_neg hs]
      have hp : 0 < 2 ^ (s / 4503599627370496 - 1) := Nat.two_pow_pos _
      have : 4503599627370496 * 1 ≤ (4503599627370496 + s % 4503599627370496) * 2 ^ (s / 4503599627370496 - 1) := Nat.mul_le_mul (by omega) hp
      omega
  · have hs : ¬ s < 4503599627370496 := by omega
    rw [if_neg hr, if_neg hs]
    have hd : r / 4503599627370496 ≤ s / 4503599627370496 := Nat.div_le_div_right (by omega)
    rcases Nat.lt_or_eq_of_le hd with hd | hd
    · have e1 : s / 4503599627370496 - 1 = (r / 4503599627370496 - 1) + 1 + (s / 4503599627370496 - r / 4503599627370496 - 1) := by omega
      generalize hk : s / 4503599627370496 - r / 4503599627370496 - 1 = k at e1
      rw [e1, Nat.pow_add, Nat.pow_succ]
      have hp : 0 < 2 ^ (r / 4503599627370496 - 1) := Nat.two_pow_pos _
      have hq : 0 < 2 ^ k := Nat.two_pow_pos _
      have a1 : (4503599627370496 + r % 4503599627370496) * 2 ^ (r / 4503599627370496 - 1) < (4503599627370496 * 2) * 2 ^ (r / 4503599627370496 - 1) := Nat.mul_lt_mul_of_pos_right (by omega) hp
      have a2 : (4503599627370496 * 2) * 2 ^ (r / 4503599627370496 - 1) = 4503599627370496 * (2 ^ (r / 4503599627370496 - 1) * 2) * 1 := by rw [Nat.mul_assoc, Nat.mul_comm 2, Nat.mul_one]
      have a3 : 4503599627370496 * (2 ^ (r / 4503599627370496 - 1) * 2) * 1 ≤ 4503599627370496 * (2 ^ (r / 4503599627370496 - 1) * 2) * 2 ^ k := Nat.mul_le_mul_left _ hq
      have a4 : 4503599627370496 * (2 ^ (r / 4503599627370496 - 1) * 2) * 2 ^ k = 4503599627370496 * (2 ^ (r / 4503599627370496 - 1) * 2 * 2 ^ k) := Nat.mul_assoc _ _ _
      have a5 : 4503599627370496 * (2 ^ (r / 4503599627370496 - 1) * 2 * 2 ^ k) ≤ (4503599627370496 + s % 4503599627370496) * (2 ^ (r / 4503599627370496 - 1) * 2 * 2 ^ k) := Nat.mul_le_mul_right _ (by omega)
      omega
    · rw [← hd]
      exact Nat.mul_lt_mul_of_pos_right (by omega) (Nat.two_pow_pos _)

theorem rungVal_le {r s : Nat} (h : r ≤ s) : rungVal r ≤ rungVal s := by
  rcases Nat.lt_or_eq_of_le h with h | rfl
  · exact Nat.le_of_lt (rungVal_lt h)
  · exact Nat.le_refl _

theorem rungVal_cmp (r s : Nat) : compare (rungVal r) (rungVal s) = compare r s := by
  rcases Nat.lt_trichotomy r s with h | rfl | h
  · rw [Nat.compare_eq_lt.2 h, Nat.compare_eq_lt.2 (rungVal_lt h)]
  · simp
  · rw [Nat.compare_eq_gt.2 h, Nat.compare_eq_gt.2 (rungVal_lt h)]

theorem dbl_least : Ieee.double.leastPlace = -1074 := by decide

/-- What a finite word stands for. -/
theorem read_num {x : Nat} (h : x % 9223372036854775808 < 9218868437227405312) :
    ∃ m a, Ieee.double.read x = .number (x / 9223372036854775808 % 2 == 1) m (-1074 + (a : Nat)) ∧ m * 2 ^ a = rungVal (x % 9223372036854775808) := by
  unfold Ieee.Format.read
  simp only [dbl_sign, dbl_inf, dbl_binade, dbl_least]
  by_cases hb : x % 9223372036854775808 < 4503599627370496
  · rw [if_pos hb]
    exact ⟨_, 0, rfl, by rw [rungVal, if_pos hb]; simp⟩
  · rw [if_neg hb, if_pos h]
    exact ⟨_, _, rfl, by rw [rungVal, if_neg hb]⟩

theorem shl_cmp (m n a b : Nat) : compare (Ieee.signed false m (((-1074 + (a : Nat) : Int) - min (-1074 + (a : Nat) : Int) (-1074 + (b : Nat) : Int))).toNat) (Ieee.signed false n (((-1074 + (b : Nat) : Int) - min (-1074 + (a : Nat) : Int) (-1074 + (b : Nat) : Int))).toNat) = compare (m * 2 ^ a) (n * 2 ^ b) := by
  have e1 : ((-1074 + (a : Nat) : Int) - min (-1074 + (a : Nat) : Int) (-1074 + (b : Nat) : Int)).toNat = a - min a b := by omega
  have e2 : ((-1074 + (b : Nat) : Int) - min (-1074 + (a : Nat) : Int) (-1074 + (b : Nat) : Int)).toNat = b - min a b := by omega
  rw [e1, e2]
  simp only [Ieee.signed, Nat.shiftLeft_eq]
  have hp : 0 < 2 ^ min a b := Nat.two_pow_pos _
  have f1 : m * 2 ^ a = m * 2 ^ (a - min a b) * 2 ^ min a b := by rw [Nat.mul_assoc, ← Nat.pow_add]; congr 2; omega
  have f2 : n * 2 ^ b = n * 2 ^ (b - min a b) * 2 ^ min a b := by rw [Nat.mul_assoc, ← Nat.pow_add]; congr 2; omega
  rw [f1, f2]
  generalize m * 2 ^ (a - min a b) = u
  generalize n * 2 ^ (b - min a b) = v
  generalize 2 ^ min a b = p at hp
  simp only [Bool.false_eq_true, if_false]
  rcases Nat.lt_trichotomy u v with h | rfl | h
  · rw [Nat.compare_eq_lt.2 (Nat.mul_lt_mul_of_pos_right h hp)]
    exact Int.compare_eq_lt.2 (by omega)
  · simp
  · rw [Nat.compare_eq_gt.2 (Nat.mul_lt_mul_of_pos_right h hp)]
    exact Int.compare_eq_gt.2 (by omega)

/-- Of sizes the order is that of their bits. -/
theorem order_pos {x y : Nat} (hx : x ≤ 9218868437227405312) (hy : y ≤ 9218868437227405312) : FloatKind.f64.format.order x y = some (compare x y) := by
  show (Ieee.double.read x).order (Ieee.double.read y) = _
  have inf : Ieee.double.read 9218868437227405312 = .infinity false := by decide
  have hm : ∀ z : Nat, z < 9218868437227405312 → z % 9223372036854775808 = z ∧ (z / 9223372036854775808 % 2 == 1) = false := fun z hz => ⟨Nat.mod_eq_of_lt (by omega), by rw [Nat.div_eq_of_lt (by omega)]; rfl⟩
  rcases Nat.lt_or_eq_of_le hx with gx | rfl
  · obtain ⟨m, a, ex, vx⟩ := read_num (x := x) (by rw [(hm x gx).1]; exact gx)
    rw [(hm x gx).1] at vx
    rw [(hm x gx).2] at ex
    rcases Nat.lt_or_eq_of_le hy with gy | rfl
    · obtain ⟨n, b, ey, vy⟩ := read_num (x := y) (by rw [(hm y gy).1]; exact gy)
      rw [(hm y gy).1] at vy
      rw [(hm y gy).2] at ey
      rw [ex, ey]
      simp only [Ieee.Datum.order]
      rw [shl_cmp, vx, vy, rungVal_cmp]
    · rw [ex, inf, Nat.compare_eq_lt.2 gx]; rfl
  · rcases Nat.lt_or_eq_of_le hy with gy | rfl
    · obtain ⟨n, b, ey, vy⟩ := read_num (x := y) (by rw [(hm y gy).1]; exact gy)
      rw [ey, inf, Nat.compare_eq_gt.2 gy]; rfl
    · rw [inf]; simp [Ieee.Datum.order]

end Go.Proofs.YtnhkbnmkcnmbgaaDoor

/- Lists of 32-bit words as plain data: their trimmed length, their value, when they are read out of memory. Nothing here speaks of the program. -/
namespace Go.Proofs.YtnhkbnmkcnmbgaaDoor
open Go.RowKit

theorem hid {p : Prop} (h : p) : Hid p := h

/-- Each number is a word of 32 bits. -/
def Wd (zs : List Int) : Prop := ∀ z ∈ zs, 0 ≤ z ∧ z ≤ 4294967295

theorem Wd.at {zs : List Int} (h : Wd zs) (j : Nat) : 0 ≤ zs[j]?.getD 0 ∧ zs[j]?.getD 0 ≤ 4294967295 := by
  by_cases hj : j < zs.length
  · rw [List.getElem?_eq_getElem hj]; exact h _ (List.getElem_mem hj)
  · rw [List.getElem?_eq_none (by omega)]; exact ⟨by decide, by decide⟩

theorem Wd.take {zs : List Int} (h : Wd zs) (k : Nat) : Wd (zs.take k) := fun z hz => h z (List.mem_of_mem_take hz)
theorem Wd.drop {zs : List Int} (h : Wd zs) (k : Nat) : Wd (zs.drop k) := fun z hz => h z (List.mem_of_mem_drop hz)
theorem Wd.append {zs ys : List Int} (h : Wd zs) (g : Wd ys) : Wd (zs ++ ys) := fun z hz => (List.mem_append.1 hz).elim (h z) (g z)
theorem Wd.nil : Wd [] := fun _ hz => by simp at hz
theorem Wd.cons {z : Int} {zs : List Int} (h0 : 0 ≤ z ∧ z ≤ 4294967295) (h : Wd zs) : Wd (z :: zs) := fun y hy => by
  rcases List.mem_cons.1 hy with rfl | hy
  · exact h0
  · exact h y hy
theorem Wd.one {z : Int} (h0 : 0 ≤ z ∧ z ≤ 4294967295) : Wd [z] := Wd.cons h0 Wd.nil
theorem Wd.replicate (n : Nat) : Wd (List.replicate n 0) := fun z hz => by
  have := (List.mem_replicate.1 hz).2; omega
theorem Wd.set {zs : List Int} (h : Wd zs) (j : Nat) {z : Int} (h0 : 0 ≤ z ∧ z ≤ 4294967295) : Wd (zs.set j z) := fun y hy => by
  rcases List.mem_or_eq_of_mem_set hy with hy | rfl
  · exact h y hy
  · exact h0
theorem Wd.tail {z : Int} {zs : List Int} (h : Wd (z :: zs)) : Wd zs := fun y hy => h y (List.mem_cons_of_mem _ hy)
theorem Wd.head {z : Int} {zs : List Int} (h : Wd (z :: zs)) : 0 ≤ z ∧ z ≤ 4294967295 := h z List.mem_cons_self

/-- How many of the first k words stay when noughts at their end are dropped. -/
def szTo (zs : List Int) : Nat → Nat
  | 0 => 0
  | k + 1 => if zs[k]?.getD 0 = 0 then szTo zs k else k + 1
def sz (zs : List Int) : Nat := szTo zs zs.length
def trimmed (zs : List Int) : List Int := zs.take (sz zs)

theorem szTo_le (zs : List Int) : ∀ k, szTo zs k ≤ k
  | 0 => Nat.le_refl _
  | k + 1 => by
    unfold szTo
    split
    · exact Nat.le_succ_of_le (szTo_le zs k)
    · exact Nat.le_refl _
theorem sz_le (zs : List Int) : sz zs ≤ zs.length := szTo_le zs _
theorem szTo_zero (zs : List Int) (k : Nat) (h : zs[k]?.getD 0 = 0) : szTo zs (k + 1) = szTo zs k := by simp [szTo, h]
theorem szTo_keep (zs : List Int) (k : Nat) (h : ¬ zs[k]?.getD 0 = 0) : szTo zs (k + 1) = k + 1 := by simp [szTo, h]
theorem length_trimmed (zs : List Int) : (trimmed zs).length = sz zs := by
  unfold trimmed; rw [List.length_take, Nat.min_eq_left (sz_le zs)]
theorem Wd.trimmed {zs : List Int} (h : Wd zs) : Wd (trimmed zs) := h.take _
/-- Behind the trimmed length stand noughts alone. -/
theorem szTo_behind (zs : List Int) : ∀ k j, szTo zs k ≤ j → j < k → zs[j]?.getD 0 = 0
  | 0, _, _, h => by omega
  | k + 1, j, h1, h2 => by
    by_cases h : zs[k]?.getD 0 = 0
    · rw [szTo_zero zs k h] at h1
      by_cases e : j = k
      · rw [e]; exact h
      · exact szTo_behind zs k j h1 (by omega)
    · rw [szTo_keep zs k h] at h1; omega
theorem sz_behind (zs : List Int) (j : Nat) (h1 : sz zs ≤ j) : zs[j]?.getD 0 = 0 := by
  by_cases h : j < zs.length
  · exact szTo_behind zs _ j h1 h
  · rw [List.getElem?_eq_none (by omega)]; rfl
/-- The last word that stays is not 0. -/
theorem szTo_top (zs : List Int) : ∀ k, 0 < szTo zs k → ¬ zs[szTo zs k - 1]?.getD 0 = 0
  | 0, h => by simp [szTo] at h
  | k + 1, h => by
    by_cases e : zs[k]?.getD 0 = 0
    · rw [szTo_zero zs k e] at h ⊢; exact szTo_top zs k h
    · rw [szTo_keep zs k e]; simpa using e
theorem sz_top (zs : List Int) (h : 0 < sz zs) : ¬ zs[sz zs - 1]?.getD 0 = 0 := szTo_top zs _ h

/-- The list is trimmed: just if it is empty or its last word is not 0. -/
theorem sz_eq_iff (zs : List Int) : sz zs = zs.length ↔ zs.length = 0 ∨ ¬ zs[zs.length - 1]?.getD 0 = 0 := by
  constructor
  · intro h
    by_cases h0 : zs.length = 0
    · exact .inl h0
    · right; have := sz_top zs (by omega); rwa [h] at this
  · rintro (h | h)
    · have := sz_le zs; omega
    · by_cases h0 : zs.length = 0
      · have := sz_le zs; omega
      · obtain ⟨m, hm⟩ : ∃ m, zs.length = m + 1 := ⟨zs.length - 1, by omega⟩
        unfold sz; rw [hm]; rw [hm] at h
        exact szTo_keep zs m (by simpa using h)

/-- The slice whose address is 'a', whose length is 'n' and whose capacity is 'cap' reads as 'zs' in the world 'w': below block number B. -/
def Reads (w : World) (B : Nat) (a : Option Addr) (n cap : Nat) (zs : List Int) : Prop :=
  zs.length = n ∧ Wd zs ∧ (n = 0 ∨ ∃ b o, a = some ⟨b, o, none⟩ ∧ b < B ∧ ∀ j, j < n → w.cell? ⟨b, o + j, none⟩ = some (.int .u32 (zs[j]?.getD 0))) ∧ n ≤ cap ∧ cap ≤ maxLen ∧ (a = none → cap = 0)

theorem Reads.later {w w' : World} {B B' : Nat} {a : Option Addr} {n cap : Nat} {zs : List Int} (h : Reads w B a n cap zs) (hb : Below B w w') (hB : B ≤ B') : Reads w' B' a n cap zs := by
  obtain ⟨h1, h2, h3, h4⟩ := h
  refine ⟨h1, h2, h3.imp id ?_, h4⟩
  rintro ⟨b, o, rfl, hlt, hc⟩
  exact ⟨b, o, rfl, by omega, fun j hj => (hb.cell (p := ⟨b, o + j, none⟩) hlt).trans (hc j hj)⟩

/-- Of a slice its first k elements. -/
theorem Reads.front {w : World} {B : Nat} {a : Option Addr} {n cap : Nat} {zs : List Int} (h : Reads w B a n cap zs) (k : Nat) (hk : k ≤ n) : Reads w B a k cap (zs.take k) := by
  obtain ⟨h1, h2, h3, h4, h5, h6⟩ := h
  refine ⟨by rw [List.length_take]; omega, h2.take k, ?_, by omega, h5, h6⟩
  rcases h3 with h3 | ⟨b, o, ha, hlt, hc⟩
  · left; omega
  · right
    refine ⟨b, o, ha, hlt, fun j hj => ?_⟩
    rw [hc j (by omega), List.getElem?_take, if_pos hj]

/-- What the call owns is read as its words. -/
theorem Reads.own {w : World} {base e : Nat} {v : Value} {zs : List Int} {n : Nat} (h : w.ownsRow base e 1 v n (zs.map (Value.int .u32))) (hw : Wd zs) :
    ∃ a cap, v = .slice a n cap ∧ Reads w w.heap.size a n cap zs := by
  have hl := h.1
  simp at hl
  rcases h.2 with ⟨rfl, rfl⟩ | ⟨g, cap, cur, rfl, hb, hg, hnc, hcm, hcs, ht⟩
  · exact ⟨none, 0, rfl, by omega, hw, .inl rfl, Nat.le_refl _, Nat.zero_le _, fun _ => rfl⟩
  · refine ⟨_, cap, rfl, by omega, hw, ?_, hnc, hcm, fun h => by simp at h⟩
    right
    refine ⟨g, 0, rfl, ?_, fun j hj => ?_⟩
    · have : w.heap[g]?.isSome := by rw [hg]; rfl
      simpa using this
    · have hc := h.cellAt j (by omega)
      rw [Nat.zero_add, hc, List.getElem?_map, List.getElem?_eq_getElem (by omega)]
      simp

/-- What is owned stays owned while only newer memory is made. -/
theorem owns_later {w w' : World} {base e : Nat} {v : Value} {n : Nat} {xs : List Value} (h : w.ownsRow base e 1 v n xs) (hb : Below w.heap.size w w') : w'.ownsRow base e 1 v n xs := by
  refine ⟨h.1, h.2.imp id ?_⟩
  rintro ⟨g, cap, cur, rfl, hbg, hg, h1, h2, h3, h4⟩
  refine ⟨g, cap, cur, rfl, hbg, ?_, h1, h2, h3, h4⟩
  rw [hb.block g (by
    have : w.heap[g]?.isSome := by rw [hg]; rfl
    simpa using this)]
  exact hg

/-- What is owned from one block number on is owned from every smaller one on. -/
theorem owns_base {w : World} {base base' e : Nat} {v : Value} {n : Nat} {xs : List Value} (h : w.ownsRow base e 1 v n xs) (hb : base' ≤ base) : w.ownsRow base' e 1 v n xs := by
  refine ⟨h.1, h.2.imp id ?_⟩
  rintro ⟨g, cap, cur, rfl, hbg, hr⟩
  exact ⟨g, cap, cur, rfl, by omega, hr⟩
/-- A slice literal, just laid, is read. -/
theorem Reads.lit (w : World) (e : Nat) (zs : List Int) (hw : Wd zs) (hm : zs.length ≤ maxLen) : Reads (w.alloc (.cells ((zs.map (Value.int .u32)).toArray) e)) (w.alloc (.cells ((zs.map (Value.int .u32)).toArray) e)).heap.size (some ⟨w.heap.size, 0, none⟩) zs.length zs.length zs := by
  have h := World.ownsRow_lit (base := w.heap.size) (e := e) (size := 1) w ((zs.map (Value.int .u32)).toArray) zs.length (Nat.le_refl _) hm (by simp)
  obtain ⟨a, cap, hv, hr⟩ := Reads.own (zs := zs) (by simpa using h) hw
  simp only [Value.slice.injEq] at hv
  obtain ⟨rfl, _, rfl⟩ := hv
  exact hr

/-- A word above a word. -/
theorem or_join (x y : Int) (hx0 : 0 ≤ x) (hx : x ≤ 4294967295) (hy0 : 0 ≤ y) (hy : y ≤ 4294967295) : bits BinOp.or IntKind.u64 (x * 4294967296) y = y + x * 4294967296 := by
  rw [u64_or _ _ (by omega) (by omega) (by omega) (by omega), nat_join 32 _ _ (by omega) (by omega)]
  omega

theorem ret_int {k : IntKind} {a b : Int} (h : a = b) : Ending.returned (.int k a) = .returned (.int k b) := by rw [h]
theorem ret_bool {a b : Bool} (h : a = b) : Ending.returned (.bool a) = .returned (.bool b) := by rw [h]
end Go.Proofs.YtnhkbnmkcnmbgaaDoor

/- real.finite, real.twoSum, real.TwoSum and the document's Finite, TwoSum, of any floats, by their bits. -/
namespace Go.Proofs.YtnhkbnmkcnmbgaaDoor
open Go.RowKit
set_option linter.unusedVariables false

theorem fin_int (x : Nat) (hx : x < 18446744073709551616) : (bits .and .u64 ((x : Int) / 4503599627370496) 2047 != 2047) = fin x := by
  have e : bits .and .u64 ((x : Int) / 4503599627370496) 2047 = ((x / 4503599627370496 % 2048 : Nat) : Int) := by
    have e0 : (x : Int) / 4503599627370496 = ((x / 4503599627370496 : Nat) : Int) := by omega
    rw [e0]
    have e1 := u64_and_nat (x / 4503599627370496) 2047 (by omega) (by omega)
    have e2 : x / 4503599627370496 &&& 2047 = x / 4503599627370496 % 2048 := Nat.and_two_pow_sub_one_eq_mod _ 11
    rw [e2] at e1
    exact e1
  rw [e]
  unfold fin
  by_cases h : x / 4503599627370496 % 2048 = 2047
  · rw [h]; rfl
  · rw [bne_iff_ne.2 h, bne_iff_ne.2 (by omega)]

/-- What the machine hands back, and the world behind it. -/
def fval (op : BinOp) (V : World) (x y : Nat) : Nat := match floatBits op .f64 x y with
  | .some r => r
  | .none => Question.cut (.nanBits .f64 x y) (V.tape V.drawn (.nanBits .f64 x y))
def fwld (op : BinOp) (V : World) (x y : Nat) : World := match floatBits op .f64 x y with
  | .some _ => V
  | .none => V.drew
theorem fval_fr (op : BinOp) (V : World) (x y : Nat) : FR op x y (fval op V x y) := by
  cases h : floatBits op .f64 x y with
  | some r => simp only [fval, h]; exact FR.some h
  | none => simp only [fval, h]; exact FR.none _ h
theorem fwld_below (op : BinOp) {B : Nat} {U V : World} (x y : Nat) (h : Below B U V) : Below B U (fwld op V x y) := by
  cases e : floatBits op .f64 x y with
  | some r => simp only [fwld, e]; exact h
  | none => simp only [fwld, e]; exact h.drew
theorem fadd_run (P : Program) (t : TypeId) (V : World) (x y : Nat) : (binOp .add t (.float .f64 x) (.float .f64 y)).run P V = .ok (.float .f64 (fval .add V x y)) (fwld .add V x y) := by
  cases h : floatBits .add .f64 x y with
  | some r => simp only [fval, fwld, h]; exact run_float_arith V _ _ _ _ _ _ h
  | none => simp only [fval, fwld, h]; exact run_add P V t x y h
theorem fsub_run (P : Program) (t : TypeId) (V : World) (x y : Nat) : (binOp .sub t (.float .f64 x) (.float .f64 y)).run P V = .ok (.float .f64 (fval .sub V x y)) (fwld .sub V x y) := by
  cases h : floatBits .sub .f64 x y with
  | some r => simp only [fval, fwld, h]; exact run_float_arith V _ _ _ _ _ _ h
  | none => simp only [fval, fwld, h]; exact run_sub P V t x y h

theorem from_run (x : Nat) (w : World) : (callFunc 24 #[.int .u64 (x : Int)]).run Tryd.prog w = .ok (.value (.float .f64 x)) w := by
  rw [run_callFunc_extern (fn := Tryd.f24) Tryd.func24 (by kernel_rfl) (by kernel_rfl) (by kernel_rfl) (e := Extern.MathFloatBits.float64frombits) (by kernel_rfl)]
  rfl

theorem Two.lt {a b s e : Nat} (h : Two a b s e) : s < 18446744073709551616 ∧ e < 18446744073709551616 := by
  obtain ⟨t, d, p, q, h1, h2, h3, h4, h5, h6⟩ := h
  exact ⟨h1.1, h6.1⟩

/-- What TwoSum tells. -/
def tsumV (r : Nat × Nat × Int) : Value := .tuple #[.float .f64 r.1, .float .f64 r.2.1, .int .i64 r.2.2]

end Go.Proofs.YtnhkbnmkcnmbgaaDoor

/- The calls of parts and of the document's answers for it, of any complex numbers, by their parts' bits. -/
namespace Go.Proofs.YtnhkbnmkcnmbgaaDoor
open Go.RowKit
set_option linter.unusedVariables false

theorem fval_fn (op : BinOp) (V : World) (x y : Nat) : FN op x y (fval op V x y) := by
  cases h : floatBits op .f64 x y with
  | some r => simp only [fval, h]; exact FN.some h
  | none => simp only [fval, h]; exact FN.none _ h
theorem fmul_run (P : Program) (t : TypeId) (V : World) (x y : Nat) : (binOp .mul t (.float .f64 x) (.float .f64 y)).run P V = .ok (.float .f64 (fval .mul V x y)) (fwld .mul V x y) := by
  cases h : floatBits .mul .f64 x y with
  | some r => simp only [fval, fwld, h]; exact run_float_arith V _ _ _ _ _ _ h
  | none =>
    have h' : FloatKind.f64.format.mul x y = .none := h
    simp only [fval, fwld, h]
    simp [binOp, Op.floatArith, h', Question.forced]
theorem fquo_run (P : Program) (t : TypeId) (V : World) (x y : Nat) : (binOp .quo t (.float .f64 x) (.float .f64 y)).run P V = .ok (.float .f64 (fval .quo V x y)) (fwld .quo V x y) := by
  cases h : floatBits .quo .f64 x y with
  | some r => simp only [fval, fwld, h]; exact run_float_arith V _ _ _ _ _ _ h
  | none =>
    have h' : FloatKind.f64.format.div x y = .none := h
    simp only [fval, fwld, h]
    simp [binOp, Op.floatArith, h', Question.forced]

/-- The root as the machine makes it, and the world behind it. -/
def qval (V : World) (x : Nat) : Nat := match Ieee.double.sqrt x with
  | .some r => r
  | .none => Question.cut (.nanBits .f64 x x) (V.tape V.drawn (.nanBits .f64 x x))
def qwld (V : World) (x : Nat) : World := match Ieee.double.sqrt x with
  | .some _ => V
  | .none => V.drew
theorem qval_fq (V : World) (x : Nat) : FQ x (qval V x) := by
  cases h : Ieee.double.sqrt x with
  | some r =>
    simp only [qval, h]
    have := Ieee.Format.sqrt_lt Ieee.double h
    exact ⟨this, Or.inl h⟩
  | none => simp only [qval, h]; exact ⟨(isnan_cut x x _).2, Or.inr ⟨h, (isnan_cut x x _).1⟩⟩
theorem qwld_below {B : Nat} {U V : World} (x : Nat) (h : Below B U V) : Below B U (qwld V x) := by
  cases e : Ieee.double.sqrt x with
  | some r => simp only [qwld, e]; exact h
  | none => simp only [qwld, e]; exact h.drew
theorem sqrt_eq (x : Nat) : Extern.MathSqrt.sqrt #[.float .f64 x] = (match FloatKind.f64.format.sqrt x with
    | some r => pure (.float .f64 r)
    | none => do pure (.float .f64 (← choose (.nanBits .f64 x x)))) := rfl
/-- What a product is made of. -/
def MulR (a b c d re im : Nat) : Prop := ∃ x y u v, FN .mul a c x ∧ FN .mul b d y ∧ FN .sub x y re ∧ FN .mul a d u ∧ FN .mul b c v ∧ FN .add u v im
theorem MulR.al {a b c d re im re' im' : Nat} (h : MulR a b c d re im) (h' : MulR a b c d re' im') : Al re re' ∧ Al im im' := by
  obtain ⟨x, y, u, v, h1, h2, h3, h4, h5, h6⟩ := h
  obtain ⟨x', y', u', v', h1', h2', h3', h4', h5', h6'⟩ := h'
  exact ⟨h3.al h3' (h1.al h1' (.refl _) (.refl _)) (h2.al h2' (.refl _) (.refl _)), h6.al h6' (h4.al h4' (.refl _) (.refl _)) (h5.al h5' (.refl _) (.refl _))⟩

/-- The other sign. -/
def fneg (x : Nat) : Nat := Op.negFloat .f64 x

set_option maxHeartbeats 800000 in
set_option maxRecDepth 100000 in
theorem zpNeg_any (a b : Nat) (w : World) :
    Calls Tryd.prog 43 #[.complex .f64 a b] w fun e w' => e = .returned (.complex .f64 (fneg a) (fneg b)) ∧ w' = w := by
  have HN : ∀ x, Op.unary .neg (.float .f64 x) = pure (.float .f64 (fneg x)) := fun _ => rfl
  go_enter Tryd.func43, Tryd.ntmps43
  go_wp2
  go_ret
  exact ⟨rfl, rfl⟩
theorem absBits (x : Nat) (h : x < 18446744073709551616) : bits .andNot .u64 (x : Int) 9223372036854775808 = ((x % 9223372036854775808 : Nat) : Int) := by
  have e := u64_andNot_nat x 9223372036854775808 h (by decide)
  have e2 : x &&& (18446744073709551615 - 9223372036854775808) = x % 9223372036854775808 := Nat.and_two_pow_sub_one_eq_mod _ 63
  rw [e2] at e
  exact e

/-- An infinity, by the size's bits. -/
def isinf (x : Nat) : Bool := x == 9218868437227405312

theorem gt_max {x : Nat} (h : x < 9223372036854775808) : (FloatKind.f64.format.order x 9218868437227405311 == some .gt) = isinf x := by
  by_cases hn : isnan x = true
  · rw [order_nan_l hn]
    rw [isnan_iff] at hn
    have : x ≠ 9218868437227405312 := by rintro rfl; revert hn; decide
    simp [isinf, this]
  · have hx : x ≤ 9218868437227405312 := by rw [isnan_iff] at hn; omega
    rw [order_pos hx (by decide)]
    by_cases e : x = 9218868437227405312
    · subst e; decide
    · have : x ≤ 9218868437227405311 := by omega
      have hc : compare x 9218868437227405311 ≠ .gt := by
        intro g; rw [Nat.compare_eq_gt] at g; omega
      cases hh : compare x 9218868437227405311
      · simp [isinf, e]
      · simp [isinf, e]
      · exact absurd hh hc

theorem natBeq (x y : Nat) : ((x : Int) == (y : Int)) = (x == y) := by
  by_cases h : x = y
  · subst h; simp
  · rw [beq_eq_false_iff_ne.2 h, beq_eq_false_iff_ne.2 (by omega)]

end Go.Proofs.YtnhkbnmkcnmbgaaDoor

/- The document's TwoSum; slackwaterkit.SameFloat, SameBits of one float twice; lists of floats: CopyFloats, LentFloats, SameFloats, KeptFloats. -/
namespace Go.Proofs.YtnhkbnmkcnmbgaaDoor
open Go.RowKit
set_option linter.unusedVariables false

theorem fadd_ex (P : Program) (t : TypeId) (V : World) (x y : Nat) : ∃ r V', (binOp .add t (.float .f64 x) (.float .f64 y)).run P V = .ok (.float .f64 r) V' ∧ Hid (FR .add x y r ∧ Below V.heap.size V V') :=
  ⟨_, _, fadd_run P t V x y, fval_fr .add V x y, fwld_below .add x y (Below.refl _ _)⟩
theorem fsub_ex (P : Program) (t : TypeId) (V : World) (x y : Nat) : ∃ r V', (binOp .sub t (.float .f64 x) (.float .f64 y)).run P V = .ok (.float .f64 r) V' ∧ Hid (FR .sub x y r ∧ Below V.heap.size V V') :=
  ⟨_, _, fsub_run P t V x y, fval_fr .sub V x y, fwld_below .sub x y (Below.refl _ _)⟩
theorem b2 {a b c : World} (h : Below a.heap.size a b) (g : Below b.heap.size b c) : Below a.heap.size a c := h.trans (g.mono h.size)

set_option maxHeartbeats 800000 in
set_option maxRecDepth 100000 in
theorem sameFloat_eq (x : Nat) (w : World) (hx : fin x = true) :
    Calls Tryd.prog 29 #[.float .f64 x, .float .f64 x] w fun e w' => e = .returned (.bool true) ∧ w' = w := by
  have HO : (FloatKind.f64.format.order x x == some .eq) = true := by rw [order_self hx]; rfl
  clear hx
  go_enter Tryd.func29, Tryd.ntmps29
  go_wp2
  go_ret
  exact ⟨rfl, rfl⟩

theorem Tryd.infoF : (Tryd.prog.info? 51).map (fun i => (i.zero, i.size, i.bytes)) = some (some (.float .f64 0), 1, 8) := by kernel_rfl

/-- The slice reads as these floats. -/
def RdF (w : World) (B : Nat) (a : Option Addr) (n cap : Nat) (xs : List Nat) : Prop :=
  xs.length = n ∧ (n = 0 ∨ ∃ b o, a = some ⟨b, o, none⟩ ∧ b < B ∧ ∀ j, j < n → w.cell? ⟨b, o + j, none⟩ = some (.float .f64 (xs[j]?.getD 0))) ∧ n ≤ cap ∧ cap ≤ maxLen ∧ (a = none → cap = 0)

theorem RdF.later {w w' : World} {B B' : Nat} {a : Option Addr} {n cap : Nat} {zs : List Nat} (h : RdF w B a n cap zs) (hb : Below B w w') (hB : B ≤ B') : RdF w' B' a n cap zs := by
  obtain ⟨h1, h3, h4⟩ := h
  refine ⟨h1, h3.imp id ?_, h4⟩
  rintro ⟨b, o, rfl, hlt, hc⟩
  exact ⟨b, o, rfl, by omega, fun j hj => (hb.cell (p := ⟨b, o + j, none⟩) hlt).trans (hc j hj)⟩

theorem RdF.front {w : World} {B : Nat} {a : Option Addr} {n cap : Nat} {zs : List Nat} (h : RdF w B a n cap zs) (k : Nat) (hk : k ≤ n) : RdF w B a k cap (zs.take k) := by
  obtain ⟨h1, h3, h4, h5, h6⟩ := h
  refine ⟨by rw [List.length_take]; omega, ?_, by omega, h5, h6⟩
  rcases h3 with h3 | ⟨b, o, ha, hlt, hc⟩
  · left; omega
  · right
    refine ⟨b, o, ha, hlt, fun j hj => ?_⟩
    rw [hc j (by omega), List.getElem?_take, if_pos hj]

theorem RdF.own {w : World} {base e : Nat} {v : Value} {zs : List Nat} {n : Nat} (h : w.ownsRow base e 1 v n (zs.map (Value.float .f64))) :
    ∃ a cap, v = .slice a n cap ∧ RdF w w.heap.size a n cap zs := by
  have hl := h.1
  simp at hl
  rcases h.2 with ⟨rfl, rfl⟩ | ⟨g, cap, cur, rfl, hb, hg, hnc, hcm, hcs, ht⟩
  · exact ⟨none, 0, rfl, by omega, .inl rfl, Nat.le_refl _, Nat.zero_le _, fun _ => rfl⟩
  · refine ⟨_, cap, rfl, by omega, ?_, hnc, hcm, fun h => by simp at h⟩
    right
    refine ⟨g, 0, rfl, ?_, fun j hj => ?_⟩
    · have : w.heap[g]?.isSome := by rw [hg]; rfl
      simpa using this
    · have hc := h.cellAt j (by omega)
      rw [Nat.zero_add, hc, List.getElem?_map, List.getElem?_eq_getElem (by omega)]
      simp

theorem newsF {w : World} {B : Nat} {ad : Addr} {n cap : Nat} {zs : List Nat} (h : RdF w B (some ad) n cap zs) :
    ∀ j v, (zs.map (Value.float .f64))[j]? = some v → w.cell? (ad.add j) = some v := by
  intro j v hj
  have hj1 := (List.getElem?_eq_some_iff.1 hj).1
  have hl := h.1
  simp only [List.length_map] at hj1
  rcases h.2.1 with h0 | ⟨b, o, ha, _, hc⟩
  · omega
  · cases ha
    rw [Addr.add_lit, hc j (by omega), ← hj, List.getElem?_map, List.getElem?_eq_getElem hj1]
    rfl

theorem floats_oneCell (zs : List Nat) : ∀ u ∈ zs.map (Value.float .f64), u.oneCell' = true := by
  intro u hu
  obtain ⟨z, _, rfl⟩ := List.mem_map.1 hu
  rfl

/-- What stands behind a list of floats that is lent: 0.125, 1.125, 2.125. -/
def fmarks (k : Nat) : List Nat := [4593671619917905920, 4607745368753438720, 4611967493404098560].take k
theorem fmark_run (k : Nat) (h : k < 3) (P : Program) (t : TypeId) (V : World) : ∃ r, (binOp .add t (.float .f64 4593671619917905920) (.float .f64 (floatOfInt .f64 (k : Int)))).run P V = .ok (.float .f64 r) V ∧ fmarks (k + 1) = fmarks k ++ [r] := by
  match k, h with
  | 0, _ => exact ⟨4593671619917905920, run_float_arith V _ _ _ _ _ _ (by decide +kernel), rfl⟩
  | 1, _ => exact ⟨4607745368753438720, run_float_arith V _ _ _ _ _ _ (by decide +kernel), rfl⟩
  | 2, _ => exact ⟨4611967493404098560, run_float_arith V _ _ _ _ _ _ (by decide +kernel), rfl⟩

end Go.Proofs.YtnhkbnmkcnmbgaaDoor

/- real.Sum and the document's Sum, of any list of floats. -/
namespace Go.Proofs.YtnhkbnmkcnmbgaaDoor
open Go.RowKit
set_option linter.unusedVariables false

/-- A struct's memory. -/
def FBox (w : World) (b t : Nat) (vs : Array Value) : Prop := w.heap[b]? = some (.cells vs t (0, 0))
theorem FBox.cell {w : World} {b t : Nat} {vs : Array Value} (h : FBox w b t vs) (j : Nat) : w.cell? ⟨b, j, none⟩ = vs[j]? := by
  unfold FBox at h
  simp [World.cell?, h]
theorem FBox.free {w : World} {b t : Nat} {vs : Array Value} (h : FBox w b t vs) (j : Nat) : w.frozen? ⟨b, j, none⟩ = false := by
  unfold FBox at h
  simp [World.frozen?, h]
theorem FBox.later {w w' : World} {B b t : Nat} {vs : Array Value} (h : FBox w b t vs) (hb : Below B w w') (hlt : b < B) : FBox w' b t vs := by
  unfold FBox at *
  rw [hb.block b hlt]; exact h
theorem FBox.lt {w : World} {b t : Nat} {vs : Array Value} (h : FBox w b t vs) : b < w.heap.size := by
  unfold FBox at h
  have : w.heap[b]?.isSome := by rw [h]; rfl
  simpa using this
theorem FBox.made (w : World) (t : Nat) (vs : Array Value) : FBox (w.alloc (.cells vs t)) w.heap.size t vs := by
  unfold FBox
  show (w.heap.push _)[w.heap.size]? = _
  rw [Array.getElem?_push, if_pos rfl]
theorem FBox.other {w : World} {b t : Nat} {vs : Array Value} (h : FBox w b t vs) (p : Addr) (v : Value) (hne : b ≠ p.block) : FBox (w.setCell p v) b t vs := by
  unfold FBox at *
  rw [Below.heap_setCell w p v b hne]; exact h
theorem FBox.drewN {w : World} {b t : Nat} {vs : Array Value} (h : FBox w b t vs) (n : Nat) : FBox (w.drewN n) b t vs := h
theorem FBox.set {w : World} {b t : Nat} {vs : Array Value} (h : FBox w b t vs) (j : Nat) (v : Value) : FBox (w.setCell ⟨b, j, none⟩ v) b t (vs.setIfInBounds j v) := by
  unfold FBox at *
  simp only [World.setCell, Array.getElem?_modify, if_pos, h]
  simp

/-- What Sum tells. -/
def sumV (r : Nat × Nat × Int × Int) : Value := .tuple #[.float .f64 r.1, .float .f64 r.2.1, .agg #[.int .i64 r.2.2.1, .int .i64 r.2.2.2]]

/-- Each float has 64 bits. -/
def Wf (xs : List Nat) : Prop := ∀ j : Nat, xs[j]?.getD 0 < 18446744073709551616

theorem fput2 {B : Nat} {a w : World} (h : Below B a w) (b : Nat) (hb : B ≤ b) (v0 v1 : Value) : Below B a ((w.setCell ⟨b, 0, none⟩ v0).setCell ⟨b, 1, none⟩ v1) :=
  (h.setCell (p := ⟨b, 0, none⟩) hb _).setCell (p := ⟨b, 1, none⟩) hb _
theorem fbox_facts {w w' : World} {b t : Nat} {v0 v1 : Value} (h : FBox w b t #[v0, v1]) (hb : Below w.heap.size w w') : w'.cell? ⟨b, 0, none⟩ = some v0 ∧ w'.cell? ⟨b, 1, none⟩ = some v1 ∧ w'.frozen? ⟨b, 0, none⟩ = false ∧ w'.frozen? ⟨b, 1, none⟩ = false := by
  have h' := h.later hb h.lt
  exact ⟨h'.cell 0, h'.cell 1, h'.free 0, h'.free 1⟩

end Go.Proofs.YtnhkbnmkcnmbgaaDoor

/- package turn: nested, sine, cosine, the constants, of any float. -/
namespace Go.Proofs.YtnhkbnmkcnmbgaaDoor
open Go.RowKit
set_option linter.unusedVariables false

/-- The steps of a nested sum, as the machine goes them. -/
def Horn (q h : Nat) : List Nat → Nat → Prop
  | [], r => r = h
  | c :: cs, r => ∃ p s, FN .mul h q p ∧ FN .add p c s ∧ Horn q s cs r

theorem Horn.al {q q' : Nat} (aq : Al q q') : ∀ {l : List Nat} {h h' r r' : Nat}, Al h h' → Horn q h l r → Horn q' h' l r' → Al r r'
  | [], h, h', r, r', ah, g, g' => by
    have e : r = h := g
    have e' : r' = h' := g'
    rw [e, e']; exact ah
  | c :: cs, h, h', r, r', ah, g, g' => by
    obtain ⟨p, s, h1, h2, h3⟩ := g
    obtain ⟨p', s', h1', h2', h3'⟩ := g'
    exact Horn.al aq (h2.al h2' (h1.al h1' ah aq) (.refl _)) h3 h3'

theorem drop_at (xs : List Nat) (k : Nat) (h : k < xs.length) : xs.drop k = xs[k]?.getD 0 :: xs.drop (k + 1) := by
  rw [List.drop_eq_getElem_cons h, List.getElem?_eq_getElem h]; rfl

set_option maxHeartbeats 3200000 in
set_option maxRecDepth 100000 in
theorem tnested_any (q b m cap : Nat) (xs : List Nat) (w : World) (hl : xs.length = m + 1) (h0 : 0 < m) (hb : b < w.heap.size) (hc : ∀ j, j < m + 1 → w.cell? ⟨b, j, none⟩ = some (.float .f64 (xs[j]?.getD 0))) (hcap : m + 1 ≤ cap) (hn : m ≤ 1048576) (hcm : cap ≤ 1048576) :
    Calls Tryd.prog 39 #[.float .f64 q, .slice (some ⟨b, 0, none⟩) (m + 1) cap] w fun e w' => ∃ r, e = .returned (.float .f64 r) ∧ Horn q (xs[0]?.getD 0) (xs.drop 1) r ∧ Below w.heap.size w w' := by
  have rA := fadd_run Tryd.prog 51
  have rM := fmul_run Tryd.prog 51
  have c0 := hc 0 (by omega)
  have HC : Hid (∀ V, Below w.heap.size w V → ∀ j, j < m + 1 → V.cell? ⟨b, j, none⟩ = some (.float .f64 (xs[j]?.getD 0))) := fun V hV j hj => (hV.cell (p := ⟨b, j, none⟩) hb).trans (hc j hj)
  have HL := hid hl
  clear hl hc hb
  obtain ⟨x0, hx0⟩ : ∃ x0, xs[0]?.getD 0 = x0 := ⟨_, rfl⟩
  rw [hx0] at c0 ⊢
  clear hx0
  have n1 : (1 : Int) ≤ ((m + 1 : Nat) : Int) := by omega
  have n2 : (0 : Int) < ((m + 1 : Nat) : Int) := by omega
  have n3 : ((m + 1 : Nat) : Int) ≤ cap := by omega
  have n4 : ¬ cap = 1 := by omega
  have e1 : m + 1 - 1 = m := by omega
  go_enter Tryd.func39, Tryd.ntmps39
  go_wp2_with fail
  go_loopw [5, 14] (fun h t wr => ∃ k y : Nat, k ≤ m ∧ t = .int .i64 k ∧ h = .float .f64 y ∧ Hid (∀ r, Horn q y (xs.drop (k + 1)) r → Horn q x0 (xs.drop 1) r) ∧ Below w.heap.size w wr) (fun _ t _ => m - (intOf t).toNat)
  case atStart => exact ⟨0, x0, Nat.zero_le _, rfl, rfl, fun r hr => hr, Below.refl _ _⟩
  case round =>
    obtain ⟨k, y, hk, rfl, rfl, HI, hb⟩ := hrel
    by_cases hlt : k < m
    · have hcx := HC.out _ hb (1 + k) (by omega)
      have HS : Hid (∀ p s, FN .mul y q p → FN .add p (xs[1 + k]?.getD 0) s → ∀ r, Horn q s (xs.drop (k + 1 + 1)) r → Horn q x0 (xs.drop 1) r) := fun p s h1 h2 r hr => HI.out r (by
        rw [drop_at xs (k + 1) (by have := HL.out; omega)]
        rw [Nat.add_comm 1 k] at h2
        exact ⟨p, s, h1, h2, hr⟩)
      generalize xs[1 + k]?.getD 0 = z at *
      clear HI
      have k0 : (k : Int) < (m : Int) := by omega
      go_wp2_with fail
      go_roundw
      case rel => exact ⟨k + 1, _, by omega, by go_num, rfl, HS.out _ _ (fval_fn .mul _ _ _) (fval_fn .add _ _ _), fwld_below _ _ _ (fwld_below _ _ _ hb)⟩
      case measure => simp [intOf]; omega
    · obtain rfl : k = m := by omega
      have HR := hid (HI.out y (by rw [List.drop_eq_nil_of_le (by have := HL.out; omega)]; rfl))
      clear HI
      go_wp2_with fail
      go_returns
      exact ⟨y, rfl, HR.out, hb⟩

end Go.Proofs.YtnhkbnmkcnmbgaaDoor

/- package turn: sine, cosine, the constants, of any float. -/
namespace Go.Proofs.YtnhkbnmkcnmbgaaDoor
open Go.RowKit
set_option linter.unusedVariables false

/-- The constants of the sine and of the cosine, by their bits. -/
def sinC : List Nat := [13648976655441704991, 4460272573143870729, 13716528800881525988, 4523617214285662004, 13774824197408792602, 4575957461383581969, 13818544856648471893]
def cosC : List Nat := [4407590220077447199, 13666517717442657437, 4477122120089393304, 13732177094651715420, 4537941361671905306, 13787419979223755799, 4586165620538955093, 13826050856027422720]
/-- The sine of y as the machine makes it. -/
def SineR (y r : Nat) : Prop := ∃ q h a b, FN .mul y y q ∧ Horn q 13648976655441704991 (sinC.drop 1) h ∧ FN .mul y q a ∧ FN .mul a h b ∧ FN .add y b r
def CosR (y r : Nat) : Prop := ∃ q h b, FN .mul y y q ∧ Horn q 4407590220077447199 (cosC.drop 1) h ∧ FN .mul q h b ∧ FN .add 4607182418800017408 b r
theorem SineR.al {y y' r r' : Nat} (h : SineR y r) (h' : SineR y' r') (a : Al y y') : Al r r' := by
  obtain ⟨q, g, u, v, h1, h2, h3, h4, h5⟩ := h
  obtain ⟨q', g', u', v', h1', h2', h3', h4', h5'⟩ := h'
  have aq := h1.al h1' a a
  exact h5.al h5' a (h4.al h4' (h3.al h3' a aq) (Horn.al aq (.refl _) h2 h2'))
theorem CosR.al {y y' r r' : Nat} (h : CosR y r) (h' : CosR y' r') (a : Al y y') : Al r r' := by
  obtain ⟨q, g, v, h1, h2, h4, h5⟩ := h
  obtain ⟨q', g', v', h1', h2', h4', h5'⟩ := h'
  have aq := h1.al h1' a a
  exact h5.al h5' (.refl _) (h4.al h4' aq (Horn.al aq (.refl _) h2 h2'))

/-- A float is one cell. -/
theorem store_flt (P : Program) (w : World) (a : Addr) (k : FloatKind) (x : Nat) (m : Mode) : (store a (.float k x) m).run P w = stored P w a (.float k x) m := run_store P w a _ m rfl
/-- A store into one cell of a box that is named. -/
theorem store_box (P : Program) {w : World} {b t : Nat} {vs : Array Value} (h : FBox w b t vs) (j : Nat) (hj : j < vs.size) (x : Nat) : ∃ w', (store ⟨b, j, none⟩ (.float .f64 x)).run P w = .ok () w' ∧ FBox w' b t (vs.setIfInBounds j (.float .f64 x)) ∧ ∀ B a, B ≤ b → Below B a w → Below B a w' := by
  refine ⟨w.setCell ⟨b, j, none⟩ (.float .f64 x), ?_, h.set j _, fun B a hB hb => hb.setCell (p := ⟨b, j, none⟩) hB _⟩
  have c : w.cell? ⟨b, j, none⟩ = some vs[j] := by rw [h.cell j]; simp [hj]
  have f := h.free j
  rw [store_flt]
  simp [go_sem, c, f]

set_option maxHeartbeats 1600000 in
set_option maxRecDepth 100000 in
theorem tsines_any (w : World) : Calls Tryd.prog 40 #[] w fun e w' => e = .returned (.agg #[.float .f64 13648976655441704991, .float .f64 4460272573143870729, .float .f64 13716528800881525988, .float .f64 4523617214285662004, .float .f64 13774824197408792602, .float .f64 4575957461383581969, .float .f64 13818544856648471893]) ∧ Below w.heap.size w w' := by
  have HX := hid (FBox.made w 67 #[.float .f64 0, .float .f64 0, .float .f64 0, .float .f64 0, .float .f64 0, .float .f64 0, .float .f64 0])
  have HB : Hid (Below w.heap.size w (w.alloc (.cells #[.float .f64 0, .float .f64 0, .float .f64 0, .float .f64 0, .float .f64 0, .float .f64 0, .float .f64 0] 67))) := (Below.refl _ _).alloc (Nat.le_refl _) _
  obtain ⟨X, hX⟩ : ∃ X, w.alloc (.cells #[.float .f64 0, .float .f64 0, .float .f64 0, .float .f64 0, .float .f64 0, .float .f64 0, .float .f64 0] 67) = X := ⟨_, rfl⟩
  rw [hX] at HX HB
  obtain ⟨X1, s1, h1, bl1⟩ := store_box Tryd.prog HX.out 0 (by simp) 13648976655441704991
  obtain ⟨X2, s2, h2, bl2⟩ := store_box Tryd.prog h1 1 (by simp) 4460272573143870729
  obtain ⟨X3, s3, h3, bl3⟩ := store_box Tryd.prog h2 2 (by simp) 13716528800881525988
  obtain ⟨X4, s4, h4, bl4⟩ := store_box Tryd.prog h3 3 (by simp) 4523617214285662004
  obtain ⟨X5, s5, h5, bl5⟩ := store_box Tryd.prog h4 4 (by simp) 13774824197408792602
  obtain ⟨X6, s6, h6, bl6⟩ := store_box Tryd.prog h5 5 (by simp) 4575957461383581969
  obtain ⟨X7, s7, h7, bl7⟩ := store_box Tryd.prog h6 6 (by simp) 13818544856648471893
  have g0 : X7.cell? ⟨w.heap.size, 0, none⟩ = some (.float .f64 13648976655441704991) := h7.cell 0
  have g1 : X7.cell? ⟨w.heap.size, 1, none⟩ = some (.float .f64 4460272573143870729) := h7.cell 1
  have g2 : X7.cell? ⟨w.heap.size, 2, none⟩ = some (.float .f64 13716528800881525988) := h7.cell 2
  have g3 : X7.cell? ⟨w.heap.size, 3, none⟩ = some (.float .f64 4523617214285662004) := h7.cell 3
  have g4 : X7.cell? ⟨w.heap.size, 4, none⟩ = some (.float .f64 13774824197408792602) := h7.cell 4
  have g5 : X7.cell? ⟨w.heap.size, 5, none⟩ = some (.float .f64 4575957461383581969) := h7.cell 5
  have g6 : X7.cell? ⟨w.heap.size, 6, none⟩ = some (.float .f64 13818544856648471893) := h7.cell 6
  have HB7 : Hid (Below w.heap.size w X7) := (bl7 _ _ (Nat.le_refl _) (bl6 _ _ (Nat.le_refl _) (bl5 _ _ (Nat.le_refl _) (bl4 _ _ (Nat.le_refl _) (bl3 _ _ (Nat.le_refl _) (bl2 _ _ (Nat.le_refl _) (bl1 _ _ (Nat.le_refl _) (HB.out))))))))
  clear bl1 h1 bl2 h2 bl3 h3 bl4 h4 bl5 h5 bl6 h6 bl7 h7
  go_enter Tryd.func40, Tryd.ntmps40
  go_wp2_with fail
  refine bodyPost_ret (v := .agg #[.float .f64 13648976655441704991, .float .f64 4460272573143870729, .float .f64 13716528800881525988, .float .f64 4523617214285662004, .float .f64 13774824197408792602, .float .f64 4575957461383581969, .float .f64 13818544856648471893]) (by simp [results, Tryd.results40, go_sem, g0, g1, g2, g3, g4, g5, g6]) rfl ?_
  exact ⟨rfl, HB7.out⟩

set_option maxHeartbeats 1600000 in
set_option maxRecDepth 100000 in
theorem tsine_any (y : Nat) (w : World) : Calls Tryd.prog 26 #[.float .f64 y] w fun e w' => ∃ r, e = .returned (.float .f64 r) ∧ SineR y r ∧ Below w.heap.size w w' := by
  have rA := fadd_run Tryd.prog 51
  have rM := fmul_run Tryd.prog 51
  have HB0 := hid (fwld_below .mul y y (Below.refl w.heap.size w))
  have HQ := hid (fval_fn .mul w y y)
  go_enter Tryd.func26, Tryd.ntmps26
  go_wp2_with fail
  generalize fval .mul w y y = q at *
  generalize fwld .mul w y y = w0 at *
  refine Calls.mono (tsines_any _) ?_
  rintro e w1 ⟨rfl, hb1⟩
  have HX := hid (FBox.made w1 67 #[.float .f64 0, .float .f64 0, .float .f64 0, .float .f64 0, .float .f64 0, .float .f64 0, .float .f64 0])
  have HB : Hid (Below w1.heap.size w1 (w1.alloc (.cells #[.float .f64 0, .float .f64 0, .float .f64 0, .float .f64 0, .float .f64 0, .float .f64 0, .float .f64 0] 67))) := (Below.refl _ _).alloc (Nat.le_refl _) _
  obtain ⟨X, hX⟩ : ∃ X, w1.alloc (.cells #[.float .f64 0, .float .f64 0, .float .f64 0, .float .f64 0, .float .f64 0, .float .f64 0, .float .f64 0] 67) = X := ⟨_, rfl⟩
  rw [hX] at HX HB
  obtain ⟨X1, s1, h1, bl1⟩ := store_box Tryd.prog HX.out 0 (by simp) 13648976655441704991
  obtain ⟨X2, s2, h2, bl2⟩ := store_box Tryd.prog h1 1 (by simp) 4460272573143870729
  obtain ⟨X3, s3, h3, bl3⟩ := store_box Tryd.prog h2 2 (by simp) 13716528800881525988
  obtain ⟨X4, s4, h4, bl4⟩ := store_box Tryd.prog h3 3 (by simp) 4523617214285662004
  obtain ⟨X5, s5, h5, bl5⟩ := store_box Tryd.prog h4 4 (by simp) 13774824197408792602
  obtain ⟨X6, s6, h6, bl6⟩ := store_box Tryd.prog h5 5 (by simp) 4575957461383581969
  obtain ⟨X7, s7, h7, bl7⟩ := store_box Tryd.prog h6 6 (by simp) 13818544856648471893
  have g0 : X7.cell? ⟨w1.heap.size, 0, none⟩ = some (.float .f64 13648976655441704991) := h7.cell 0
  have g1 : X7.cell? ⟨w1.heap.size, 1, none⟩ = some (.float .f64 4460272573143870729) := h7.cell 1
  have g2 : X7.cell? ⟨w1.heap.size, 2, none⟩ = some (.float .f64 13716528800881525988) := h7.cell 2
  have g3 : X7.cell? ⟨w1.heap.size, 3, none⟩ = some (.float .f64 4523617214285662004) := h7.cell 3
  have g4 : X7.cell? ⟨w1.heap.size, 4, none⟩ = some (.float .f64 13774824197408792602) := h7.cell 4
  have g5 : X7.cell? ⟨w1.heap.size, 5, none⟩ = some (.float .f64 4575957461383581969) := h7.cell 5
  have g6 : X7.cell? ⟨w1.heap.size, 6, none⟩ = some (.float .f64 13818544856648471893) := h7.cell 6
  have HB7 : Hid (Below w1.heap.size w1 X7) := (bl7 _ _ (Nat.le_refl _) (bl6 _ _ (Nat.le_refl _) (bl5 _ _ (Nat.le_refl _) (bl4 _ _ (Nat.le_refl _) (bl3 _ _ (Nat.le_refl _) (bl2 _ _ (Nat.le_refl _) (bl1 _ _ (Nat.le_refl _) (HB.out))))))))
  have HF := hid h7
  have HBA := hid (b2 HB0.out (b2 hb1 HB7.out))
  clear bl1 h1 bl2 h2 bl3 h3 bl4 h4 bl5 h5 bl6 h6 bl7 h7 hb1 HB HB0
  go_wp2_with fail
  refine Calls.mono (tnested_any q w1.heap.size 6 7 sinC X7 rfl (by omega) HF.out.lt (fun j hj => ?_) (by omega) (by omega) (by omega)) ?_
  · rw [HF.out.cell j]
    match j, hj with
    | 0, _ => rfl
    | 1, _ => rfl
    | 2, _ => rfl
    | 3, _ => rfl
    | 4, _ => rfl
    | 5, _ => rfl
    | 6, _ => rfl
    | j + 7, hj => omega
  rintro e w3 ⟨r, rfl, hr, hb3⟩
  have HR := hid hr
  have HBE := hid (b2 HBA.out hb3)
  clear hr hb3 s1 s2 s3 s4 s5 s6 s7 g0 g1 g2 g3 g4 g5 g6
  go_wp2_with fail
  go_returns
  have hr := HR.out
  refine ⟨_, rfl, ⟨_, _, _, _, HQ.out, hr, fval_fn .mul _ _ _, fval_fn .mul _ _ _, fval_fn .add _ _ _⟩, ?_⟩
  repeat refine fwld_below _ _ _ ?_
  exact HBE.out

set_option maxHeartbeats 1600000 in
set_option maxRecDepth 100000 in
theorem tcosines_any (w : World) : Calls Tryd.prog 38 #[] w fun e w' => e = .returned (.agg #[.float .f64 4407590220077447199, .float .f64 13666517717442657437, .float .f64 4477122120089393304, .float .f64 13732177094651715420, .float .f64 4537941361671905306, .float .f64 13787419979223755799, .float .f64 4586165620538955093, .float .f64 13826050856027422720]) ∧ Below w.heap.size w w' := by
  have HX := hid (FBox.made w 63 #[.float .f64 0, .float .f64 0, .float .f64 0, .float .f64 0, .float .f64 0, .float .f64 0, .float .f64 0, .float .f64 0])
  have HB : Hid (Below w.heap.size w (w.alloc (.cells #[.float .f64 0, .float .f64 0, .float .f64 0, .float .f64 0, .float .f64 0, .float .f64 0, .float .f64 0, .float .f64 0] 63))) := (Below.refl _ _).alloc (Nat.le_refl _) _
  obtain ⟨X, hX⟩ : ∃ X, w.alloc (.cells #[.float .f64 0, .float .f64 0, .float .f64 0, .float .f64 0, .float .f64 0, .float .f64 0, .float .f64 0, .float .f64 0] 63) = X := ⟨_, rfl⟩
  rw [hX] at HX HB
  obtain ⟨X1, s1, h1, bl1⟩ := store_box Tryd.prog HX.out 0 (by simp) 4407590220077447199
  obtain ⟨X2, s2, h2, bl2⟩ := store_box Tryd.prog h1 1 (by simp) 13666517717442657437
  obtain ⟨X3, s3, h3, bl3⟩ := store_box Tryd.prog h2 2 (by simp) 4477122120089393304
  obtain ⟨X4, s4, h4, bl4⟩ := store_box Tryd.prog h3 3 (by simp) 13732177094651715420
  obtain ⟨X5, s5, h5, bl5⟩ := store_box Tryd.prog h4 4 (by simp) 4537941361671905306
  obtain ⟨X6, s6, h6, bl6⟩ := store_box Tryd.prog h5 5 (by simp) 13787419979223755799
  obtain ⟨X7, s7, h7, bl7⟩ := store_box Tryd.prog h6 6 (by simp) 4586165620538955093
  obtain ⟨X8, s8, h8, bl8⟩ := store_box Tryd.prog h7 7 (by simp) 13826050856027422720
  have g0 : X8.cell? ⟨w.heap.size, 0, none⟩ = some (.float .f64 4407590220077447199) := h8.cell 0
  have g1 : X8.cell? ⟨w.heap.size, 1, none⟩ = some (.float .f64 13666517717442657437) := h8.cell 1
  have g2 : X8.cell? ⟨w.heap.size, 2, none⟩ = some (.float .f64 4477122120089393304) := h8.cell 2
  have g3 : X8.cell? ⟨w.heap.size, 3, none⟩ = some (.float .f64 13732177094651715420) := h8.cell 3
  have g4 : X8.cell? ⟨w.heap.size, 4, none⟩ = some (.float .f64 4537941361671905306) := h8.cell 4
  have g5 : X8.cell? ⟨w.heap.size, 5, none⟩ = some (.float .f64 13787419979223755799) := h8.cell 5
  have g6 : X8.cell? ⟨w.heap.size, 6, none⟩ = some (.float .f64 4586165620538955093) := h8.cell 6
  have g7 : X8.cell? ⟨w.heap.size, 7, none⟩ = some (.float .f64 13826050856027422720) := h8.cell 7
  have HB7 : Hid (Below w.heap.size w X8) := (bl8 _ _ (Nat.le_refl _) (bl7 _ _ (Nat.le_refl _) (bl6 _ _ (Nat.le_refl _) (bl5 _ _ (Nat.le_refl _) (bl4 _ _ (Nat.le_refl _) (bl3 _ _ (Nat.le_refl _) (bl2 _ _ (Nat.le_refl _) (bl1 _ _ (Nat.le_refl _) (HB.out)))))))))
  clear bl1 h1 bl2 h2 bl3 h3 bl4 h4 bl5 h5 bl6 h6 bl7 h7 bl8 h8
  go_enter Tryd.func38, Tryd.ntmps38
  go_wp2_with fail
  refine bodyPost_ret (v := .agg #[.float .f64 4407590220077447199, .float .f64 13666517717442657437, .float .f64 4477122120089393304, .float .f64 13732177094651715420, .float .f64 4537941361671905306, .float .f64 13787419979223755799, .float .f64 4586165620538955093, .float .f64 13826050856027422720]) (by simp [results, Tryd.results38, go_sem, g0, g1, g2, g3, g4, g5, g6, g7]) rfl ?_
  exact ⟨rfl, HB7.out⟩

set_option maxHeartbeats 1600000 in
set_option maxRecDepth 100000 in
theorem tcosine_any (y : Nat) (w : World) : Calls Tryd.prog 25 #[.float .f64 y] w fun e w' => ∃ r, e = .returned (.float .f64 r) ∧ CosR y r ∧ Below w.heap.size w w' := by
  have rA := fadd_run Tryd.prog 51
  have rM := fmul_run Tryd.prog 51
  have HB0 := hid (fwld_below .mul y y (Below.refl w.heap.size w))
  have HQ := hid (fval_fn .mul w y y)
  go_enter Tryd.func25, Tryd.ntmps25
  go_wp2_with fail
  generalize fval .mul w y y = q at *
  generalize fwld .mul w y y = w0 at *
  refine Calls.mono (tcosines_any _) ?_
  rintro e w1 ⟨rfl, hb1⟩
  have HX := hid (FBox.made w1 63 #[.float .f64 0, .float .f64 0, .float .f64 0, .float .f64 0, .float .f64 0, .float .f64 0, .float .f64 0, .float .f64 0])
  have HB : Hid (Below w1.heap.size w1 (w1.alloc (.cells #[.float .f64 0, .float .f64 0, .float .f64 0, .float .f64 0, .float .f64 0, .float .f64 0, .float .f64 0, .float .f64 0] 63))) := (Below.refl _ _).alloc (Nat.le_refl _) _
  obtain ⟨X, hX⟩ : ∃ X, w1.alloc (.cells #[.float .f64 0, .float .f64 0, .float .f64 0, .float .f64 0, .float .f64 0, .float .f64 0, .float .f64 0, .float .f64 0] 63) = X := ⟨_, rfl⟩
  rw [hX] at HX HB
  obtain ⟨X1, s1, h1, bl1⟩ := store_box Tryd.prog HX.out 0 (by simp) 4407590220077447199
  obtain ⟨X2, s2, h2, bl2⟩ := store_box Tryd.prog h1 1 (by simp) 13666517717442657437
  obtain ⟨X3, s3, h3, bl3⟩ := store_box Tryd.prog h2 2 (by simp) 4477122120089393304
  obtain ⟨X4, s4, h4, bl4⟩ := store_box Tryd.prog h3 3 (by simp) 13732177094651715420
  obtain ⟨X5, s5, h5, bl5⟩ := store_box Tryd.prog h4 4 (by simp) 4537941361671905306
  obtain ⟨X6, s6, h6, bl6⟩ := store_box Tryd.prog h5 5 (by simp) 13787419979223755799
  obtain ⟨X7, s7, h7, bl7⟩ := store_box Tryd.prog h6 6 (by simp) 4586165620538955093
  obtain ⟨X8, s8, h8, bl8⟩ := store_box Tryd.prog h7 7 (by simp) 13826050856027422720
  have g0 : X8.cell? ⟨w1.heap.size, 0, none⟩ = some (.float .f64 4407590220077447199) := h8.cell 0
  have g1 : X8.cell? ⟨w1.heap.size, 1, none⟩ = some (.float .f64 13666517717442657437) := h8.cell 1
  have g2 : X8.cell? ⟨w1.heap.size, 2, none⟩ = some (.float .f64 4477122120089393304) := h8.cell 2
  have g3 : X8.cell? ⟨w1.heap.size, 3, none⟩ = some (.float .f64 13732177094651715420) := h8.cell 3
  have g4 : X8.cell? ⟨w1.heap.size, 4, none⟩ = some (.float .f64 4537941361671905306) := h8.cell 4
  have g5 : X8.cell? ⟨w1.heap.size, 5, none⟩ = some (.float .f64 13787419979223755799) := h8.cell 5
  have g6 : X8.cell? ⟨w1.heap.size, 6, none⟩ = some (.float .f64 4586165620538955093) := h8.cell 6
  have g7 : X8.cell? ⟨w1.heap.size, 7, none⟩ = some (.float .f64 13826050856027422720) := h8.cell 7
  have HB7 : Hid (Below w1.heap.size w1 X8) := (bl8 _ _ (Nat.le_refl _) (bl7 _ _ (Nat.le_refl _) (bl6 _ _ (Nat.le_refl _) (bl5 _ _ (Nat.le_refl _) (bl4 _ _ (Nat.le_refl _) (bl3 _ _ (Nat.le_refl _) (bl2 _ _ (Nat.le_refl _) (bl1 _ _ (Nat.le_refl _) (HB.out)))))))))
  have HF := hid h8
  have HBA := hid (b2 HB0.out (b2 hb1 HB7.out))
  clear bl1 h1 bl2 h2 bl3 h3 bl4 h4 bl5 h5 bl6 h6 bl7 h7 bl8 h8 hb1 HB HB0
  go_wp2_with fail
  refine Calls.mono (tnested_any q w1.heap.size 7 8 cosC X8 rfl (by omega) HF.out.lt (fun j hj => ?_) (by omega) (by omega) (by omega)) ?_
  · rw [HF.out.cell j]
    match j, hj with
    | 0, _ => rfl
    | 1, _ => rfl
    | 2, _ => rfl
    | 3, _ => rfl
    | 4, _ => rfl
    | 5, _ => rfl
    | 6, _ => rfl
    | 7, _ => rfl
    | j + 8, hj => omega
  rintro e w3 ⟨r, rfl, hr, hb3⟩
  have HR := hid hr
  have HBE := hid (b2 HBA.out hb3)
  clear hr hb3 s1 s2 s3 s4 s5 s6 s7 s8 g0 g1 g2 g3 g4 g5 g6 g7
  go_wp2_with fail
  go_returns
  have hr := HR.out
  refine ⟨_, rfl, ⟨_, _, _, HQ.out, hr, fval_fn .mul _ _ _, fval_fn .add _ _ _⟩, ?_⟩
  repeat refine fwld_below _ _ _ ?_
  exact HBE.out
end Go.Proofs.YtnhkbnmkcnmbgaaDoor

/- Turns as fractions: their sizes are rational numbers, whole turns left out. Nothing here speaks of the program. -/
namespace Go.Proofs.YtnhkbnmkcnmbgaaDoor
open Go.RowKit

/-- A fraction that may be a turn. -/
def okT (p q : Nat) : Prop := 1 ≤ q ∧ q ≤ 4294967296 ∧ p < q ∧ Nat.gcd p q = 1

/-- The turn's size. -/
def vT (p q : Nat) : Rat := mkRat p q

theorem mkRat_nd (p q : Nat) (hq : 0 < q) : (mkRat p q).num = ((p / Nat.gcd p q : Nat) : Int) ∧ (mkRat p q).den = q / Nat.gcd p q := by
  have hq' : q ≠ 0 := by omega
  rw [← Rat.normalize_eq_mkRat hq', Rat.normalize_eq hq']
  simp [Int.natAbs_natCast]

theorem vT_low (p q : Nat) (hq : 0 < q) : vT (p / Nat.gcd p q) (q / Nat.gcd p q) = vT p q := by
  have h := mkRat_nd p q hq
  unfold vT
  rw [← h.1, ← h.2, Rat.mkRat_self]

theorem vT_inj {p q r s : Nat} (h : okT p q) (g : okT r s) (e : vT p q = vT r s) : p = r ∧ q = s := by
  have a := mkRat_nd p q (by have := h.1; omega)
  have b := mkRat_nd r s (by have := g.1; omega)
  have e' : mkRat p q = mkRat r s := e
  rw [h.2.2.2, Nat.div_one, Nat.div_one] at a
  rw [g.2.2.2, Nat.div_one, Nat.div_one] at b
  rw [e', b.1, b.2] at a
  omega

def frac (x : Rat) : Rat := x - x.floor

theorem frac_add_int (x : Rat) (k : Int) : frac (x + k) = frac x := by
  unfold frac
  rw [Rat.floor_add_intCast, Rat.intCast_add]
  grind

theorem frac_unique {x y : Rat} (k : Int) (h : x = y + k) (h0 : 0 ≤ y) (h1 : y < 1) : frac x = y := by
  rw [h, frac_add_int]
  unfold frac
  have : y.floor = 0 := by
    have a : y.floor < 1 := Rat.floor_lt_iff.2 (by simpa using h1)
    have b : 0 ≤ y.floor := Rat.le_floor_iff.2 (by simpa using h0)
    omega
  rw [this]; simp; grind

end Go.Proofs.YtnhkbnmkcnmbgaaDoor

/- package turn: common, within, round, of every two numbers. -/
namespace Go.Proofs.YtnhkbnmkcnmbgaaDoor
open Go.RowKit
set_option linter.unusedVariables false

set_option maxHeartbeats 800000 in
set_option maxRecDepth 100000 in
theorem tcommon_any (a b : Nat) (w : World) (ha : a < 18446744073709551616) (hb : b < 18446744073709551616) :
    Calls Tryd.prog 23 #[.int .u64 (a : Int), .int .u64 (b : Int)] w fun e w' => e = .returned (.int .u64 (Nat.gcd a b : Nat)) ∧ Below w.heap.size w w' := by
  go_enter Tryd.func23, Tryd.ntmps23
  go_wp2_with fail
  go_loopw [0, 1] (fun x y wr => ∃ c d : Nat, x = .int .u64 (c : Int) ∧ y = .int .u64 (d : Int) ∧ c < 18446744073709551616 ∧ d < 18446744073709551616 ∧ Hid (Nat.gcd c d = Nat.gcd a b) ∧ Below w.heap.size w wr) (fun _ y _ => (intOf y).toNat)
  case atStart => exact ⟨a, b, rfl, rfl, ha, hb, (rfl : Nat.gcd a b = Nat.gcd a b), Below.refl _ _⟩
  case round =>
    obtain ⟨c, d, rfl, rfl, hc, hd, hg, hX⟩ := hrel
    by_cases h0 : d = 0
    · subst h0
      have HG : Hid (c = Nat.gcd a b) := by have := hg.out; rw [Nat.gcd_zero_right] at this; exact this
      clear hg
      go_wp2_with fail
      go_ret
      exact ⟨ret_int (by rw [HG.out]), hX⟩
    · have hm : c % d < d := Nat.mod_lt _ (by omega)
      have HG : Hid (Nat.gcd d (c % d) = Nat.gcd a b) := by show _ = _; rw [← hg.out, Nat.gcd_comm c d, Nat.gcd_rec d c, Nat.gcd_comm]
      have h0' : (d : Int) ≠ 0 := by omega
      clear hg
      go_wp2_with fail
      go_region
      all_goals
        go_wp2_with fail
        go_roundw
        case rel => exact ⟨d, c % d, rfl, by go_num, by omega, by omega, HG, hX.drew⟩
        case measure => simp [intOf]; omega

theorem tcommonI (p q : Int) (w : World) (p0 : 0 ≤ p) (p1 : p < 18446744073709551616) (q0 : 0 ≤ q) (q1 : q < 18446744073709551616) :
    Calls Tryd.prog 23 #[.int .u64 p, .int .u64 q] w fun e w' => e = .returned (.int .u64 (Nat.gcd p.toNat q.toNat : Nat)) ∧ Below w.heap.size w w' := by
  obtain ⟨a, rfl⟩ := Int.eq_ofNat_of_zero_le p0
  obtain ⟨b, rfl⟩ := Int.eq_ofNat_of_zero_le q0
  exact tcommon_any a b w (by omega) (by omega)

set_option maxHeartbeats 800000 in
set_option maxRecDepth 100000 in
theorem twithin_any (p : Int) (q : Nat) (w : World) (h0 : -9223372036854775808 ≤ p) (h1 : p ≤ 9223372036854775807) (hq : 0 < q) (hq' : q ≤ 4294967296) :
    Calls Tryd.prog 19 #[.int .i64 p, .int .i64 (q : Int)] w fun e w' => e = .returned (.int .i64 (p % (q : Int))) ∧ w' = w := by
  have a := Int.emod_nonneg p (show (q : Int) ≠ 0 by omega)
  have b := Int.emod_lt_of_pos p (show (0 : Int) < q by omega)
  have b1 : Int.tmod p q = p % q ∨ (Int.tmod p q = p % q - q) := by
    rw [Int.tmod_eq_emod]
    split
    · left; omega
    · right; simp
  have b2 : 0 ≤ p → Int.tmod p q = p % q := fun h => by rw [Int.tmod_eq_emod, if_pos (.inl h)]; omega
  go_enter Tryd.func19, Tryd.ntmps19
  go_wp2_with fail
  all_goals
    go_ret
    exact ⟨ret_int (by omega), rfl⟩

theorem tround_any (x y v : Nat) (w : World) (hx : x < v) (hy : y < v) (hv : v < 18446744073709551616) :
    Calls Tryd.prog 36 #[.int .u64 (x : Int), .int .u64 (y : Int), .int .u64 (v : Int)] w fun e w' => e = .returned (.int .u64 (((x + y) % v : Nat) : Int)) ∧ w' = w := by
  by_cases h : v ≤ x + y
  · have e : (x + y) % v = x + y - v := by rw [Nat.mod_eq_sub_mod h, Nat.mod_eq_of_lt (by omega)]
    rw [e]
    go_enter Tryd.func36, Tryd.ntmps36
    go_wp2_with fail
    go_ret
    exact ⟨by go_num, rfl⟩
  · have e : (x + y) % v = x + y := Nat.mod_eq_of_lt (by omega)
    rw [e]
    go_enter Tryd.func36, Tryd.ntmps36
    go_wp2_with fail
    go_ret
    exact ⟨by go_num, rfl⟩
end Go.Proofs.YtnhkbnmkcnmbgaaDoor

/- package turn: Check, both, back, lowest, of every two numbers. -/
namespace Go.Proofs.YtnhkbnmkcnmbgaaDoor
open Go.RowKit
set_option linter.unusedVariables false

/-- What a call tells that tells a turn. -/
def tT (p q e : Int) : Value := .tuple #[.agg #[.int .i64 p, .int .i64 q], .int .i64 e]
/-- Part over Whole in lowest terms, or refused. -/
def lowR (p q : Nat) : Int × Int × Int := if q / Nat.gcd p q ≤ 4294967296 then (((p / Nat.gcd p q : Nat) : Int), ((q / Nat.gcd p q : Nat) : Int), 0) else (0, 0, 3)
def tV (x : Int × Int × Int) : Value := tT x.1 x.2.1 x.2.2
def lowV (p q : Nat) : Value := tV (lowR p q)
/-- A turn that may be. -/
def okI (p q : Int) : Prop := 1 ≤ q ∧ q ≤ 4294967296 ∧ 0 ≤ p ∧ p < q ∧ Nat.gcd p.toNat q.toNat = 1
instance (p q : Int) : Decidable (okI p q) := by unfold okI; infer_instance
def chk (p q : Int) : Int := if okI p q then 0 else 180

theorem tw64 (n : Nat) (h : n < 18446744073709551616) : IntKind.u64.wrap (n : Int) = (n : Int) := by rw [IntKind.wrap_u64]; omega

set_option maxHeartbeats 800000 in
set_option maxRecDepth 100000 in
theorem tlowest_any (p q : Nat) (w : World) (hp : p < q) (hq : q < 18446744073709551616) :
    Calls Tryd.prog 18 #[.int .u64 (p : Int), .int .u64 (q : Int)] w fun e w' => e = .returned (lowV p q) ∧ Below w.heap.size w w' := by
  have HBX : Hid (Below w.heap.size w (w.alloc (.cells #[.int .i64 0, .int .i64 0] 23))) := (Below.refl _ _).alloc (Nat.le_refl _) _
  have HX := hid (FBox.made w 23 #[.int .i64 0, .int .i64 0])
  have HC := hid (fun V => tcommon_any p q V (by omega) hq)
  have hd : 0 < Nat.gcd p q := Nat.gcd_pos_of_pos_right _ (by omega)
  have h1 : p / Nat.gcd p q ≤ p := Nat.div_le_self _ _
  have h2 : q / Nat.gcd p q ≤ q := Nat.div_le_self _ _
  have h3 : p / Nat.gcd p q < q / Nat.gcd p q := Nat.div_lt_div_of_lt_of_dvd (Nat.gcd_dvd_right p q) hp
  obtain ⟨d, hD⟩ : ∃ d, Nat.gcd p q = d := ⟨_, rfl⟩
  have HV1 : Hid (q / d ≤ 4294967296 → lowV p q = tT ((p / d : Nat) : Int) ((q / d : Nat) : Int) 0) := fun h => by unfold lowV lowR; rw [hD, if_pos h]; rfl
  have HV2 : Hid (¬ q / d ≤ 4294967296 → lowV p q = tT 0 0 3) := fun h => by unfold lowV lowR; rw [hD, if_neg h]; rfl
  rw [hD] at HC hd h1 h2 h3
  clear hD
  have x1 : IntKind.u64.wrap ((p : Int) / (d : Int)) = ((p / d : Nat) : Int) := by
    rw [show ((p : Int) / (d : Int)) = ((p / d : Nat) : Int) from rfl]; exact tw64 _ (by omega)
  have x2 : IntKind.u64.wrap ((q : Int) / (d : Int)) = ((q / d : Nat) : Int) := by
    rw [show ((q : Int) / (d : Int)) = ((q / d : Nat) : Int) from rfl]; exact tw64 _ (by omega)
  generalize p / d = P at *
  generalize q / d = Q at *
  have hd' : (d : Int) ≠ 0 := by omega
  go_enter Tryd.func18, Tryd.ntmps18
  go_wp2_with fail
  generalize w.alloc (.cells #[.int .i64 0, .int .i64 0] 23) = X at *
  refine Calls.mono (HC.out X) ?_
  rintro e w1 ⟨rfl, hb1⟩
  obtain ⟨r0, r1, f0, f1⟩ := fbox_facts HX.out hb1
  have HB := hid (b2 HBX.out hb1)
  clear hb1
  go_wp2_with fail
  by_cases h4 : Q ≤ 4294967296
  · have HR := hid (HV1.out h4)
    clear HV1 HV2 HC HX HBX
    go_region
    all_goals
      go_wp2_with fail
      refine bodyPost_ret (v := tT (P : Int) (Q : Int) 0) (by simp [results, Tryd.results18, go_sem, r0, r1, tT]) rfl ?_
      exact ⟨by rw [HR.out], by first | exact fput2 HB.out.drew _ (Nat.le_refl _) _ _ | exact (fput2 HB.out _ (Nat.le_refl _) _ _).drew⟩
  · have HR := hid (HV2.out h4)
    clear HV1 HV2 HC HX HBX
    go_region
    all_goals
      go_wp2_with fail
      refine bodyPost_ret (v := tT 0 0 3) (by simp [results, Tryd.results18, go_sem, r0, r1, tT]) rfl ?_
      exact ⟨by rw [HR.out], by first | exact fput2 HB.out.drew _ (Nat.le_refl _) _ _ | exact (fput2 HB.out _ (Nat.le_refl _) _ _).drew⟩

set_option maxHeartbeats 800000 in
set_option maxRecDepth 100000 in
theorem tcheck_any (p q : Int) (w : World) (p0 : -9223372036854775808 ≤ p) (p1 : p ≤ 9223372036854775807) (q0 : -9223372036854775808 ≤ q) (q1 : q ≤ 9223372036854775807) :
    Calls Tryd.prog 10 #[.agg #[.int .i64 p, .int .i64 q]] w fun e w' => e = .returned (.int .i64 (chk p q)) ∧ Below w.heap.size w w' := by
  have hb0 : Below w.heap.size w (w.alloc (.cells #[.int .i64 p, .int .i64 q] 23)) := (Below.refl _ _).alloc (Nat.le_refl _) _
  have HN : Hid (¬ (1 ≤ q ∧ q ≤ 4294967296 ∧ 0 ≤ p ∧ p < q) → chk p q = 180) := fun h => by unfold chk; rw [if_neg]; unfold okI; omega
  have HY : Hid (1 ≤ q ∧ q ≤ 4294967296 ∧ 0 ≤ p ∧ p < q → (Nat.gcd p.toNat q.toNat : Nat) = 1 → chk p q = 0) := fun h g => by unfold chk; rw [if_pos]; unfold okI; omega
  have HY' : Hid (¬ (Nat.gcd p.toNat q.toNat : Nat) = 1 → chk p q = 180) := fun g => by unfold chk; rw [if_neg]; unfold okI; omega
  have HC : Hid (∀ V : World, 0 ≤ p → p < q → q ≤ 4294967296 → Calls Tryd.prog 23 #[.int .u64 p, .int .u64 q] V fun e w' => e = .returned (.int .u64 (Nat.gcd p.toNat q.toNat : Nat)) ∧ Below V.heap.size V w') := fun V h1 h2 h3 => tcommonI p q V h1 (by omega) (by omega) (by omega)
  obtain ⟨d, hD⟩ : ∃ d, Nat.gcd p.toNat q.toNat = d := ⟨_, rfl⟩
  rw [hD] at HY HY' HC
  clear hD
  go_enter Tryd.func10, Tryd.ntmps10
  go_wp2_with fail
  all_goals try (go_ret; exact ⟨ret_int (HN.out (by omega)).symm, hb0⟩)
  refine Calls.mono (HC.out _ (by omega) (by omega) (by omega)) ?_
  rintro e w1 ⟨rfl, hb1⟩
  by_cases h1 : d = 1
  · subst h1
    go_wp2_with fail
    go_ret
    exact ⟨ret_int (HY.out (by omega) (by trivial)).symm, b2 hb0 hb1⟩
  · have h1' : ¬ (d : Int) = 1 := by omega
    go_wp2_with fail
    go_ret
    exact ⟨ret_int (HY'.out h1).symm, b2 hb0 hb1⟩

theorem chk_or (p q : Int) : chk p q = 0 ∧ okI p q ∨ chk p q = 180 ∧ ¬ okI p q := by
  unfold chk
  by_cases h : okI p q
  · rw [if_pos h]; exact .inl ⟨rfl, h⟩
  · rw [if_neg h]; exact .inr ⟨rfl, h⟩
/-- The first one's fault, else the second one's. -/
def chk2 (p q r s : Int) : Int := if okI p q then chk r s else 180
theorem chk2_or (p q r s : Int) : chk2 p q r s = 0 ∧ okI p q ∧ okI r s ∨ chk2 p q r s = 180 ∧ ¬ (okI p q ∧ okI r s) := by
  unfold chk2
  by_cases h : okI p q
  · rw [if_pos h]
    rcases chk_or r s with ⟨g, k⟩ | ⟨g, k⟩
    · exact .inl ⟨g, h, k⟩
    · exact .inr ⟨g, fun x => k x.2⟩
  · rw [if_neg h]; exact .inr ⟨rfl, fun x => h x.1⟩
def in64 (p q : Int) : Prop := (-9223372036854775808 ≤ p ∧ p ≤ 9223372036854775807) ∧ (-9223372036854775808 ≤ q ∧ q ≤ 9223372036854775807)

theorem boxes1 (w : World) (t : Nat) (u : Array Value) : FBox (w.alloc (.cells u t)) w.heap.size t u ∧ Below w.heap.size w (w.alloc (.cells u t)) :=
  ⟨FBox.made _ _ _, (Below.refl _ _).alloc (Nat.le_refl _) _⟩
theorem boxes2 (w : World) (t : Nat) (u v : Array Value) : FBox ((w.alloc (.cells u t)).alloc (.cells v t)) w.heap.size t u ∧ FBox ((w.alloc (.cells u t)).alloc (.cells v t)) (w.heap.size + 1) t v ∧ Below w.heap.size w ((w.alloc (.cells u t)).alloc (.cells v t)) := by
  have a := boxes1 w t u
  have b := boxes1 (w.alloc (.cells u t)) t v
  have es : (w.alloc (.cells u t)).heap.size = w.heap.size + 1 := World.size_alloc _ _
  exact ⟨a.1.later b.2 a.1.lt, es ▸ b.1, b2 a.2 b.2⟩
theorem boxes3 (w : World) (t : Nat) (u v z : Array Value) : FBox (((w.alloc (.cells u t)).alloc (.cells v t)).alloc (.cells z t)) w.heap.size t u ∧ FBox (((w.alloc (.cells u t)).alloc (.cells v t)).alloc (.cells z t)) (w.heap.size + 1) t v ∧ FBox (((w.alloc (.cells u t)).alloc (.cells v t)).alloc (.cells z t)) (w.heap.size + 1 + 1) t z ∧ Below w.heap.size w (((w.alloc (.cells u t)).alloc (.cells v t)).alloc (.cells z t)) := by
  have a := boxes2 w t u v
  have b := boxes1 ((w.alloc (.cells u t)).alloc (.cells v t)) t z
  have es : ((w.alloc (.cells u t)).alloc (.cells v t)).heap.size = w.heap.size + 1 + 1 := by rw [World.size_alloc, World.size_alloc]
  exact ⟨a.1.later b.2 a.1.lt, a.2.1.later b.2 a.2.1.lt, es ▸ b.1, b2 a.2.2 b.2⟩

set_option maxHeartbeats 800000 in
set_option maxRecDepth 100000 in
theorem tboth_any (p q r s : Int) (w : World) (h : in64 p q) (g : in64 r s) :
    Calls Tryd.prog 20 #[.agg #[.int .i64 p, .int .i64 q], .agg #[.int .i64 r, .int .i64 s]] w fun e w' => e = .returned (.int .i64 (chk2 p q r s)) ∧ Below w.heap.size w w' := by
  have H1 := hid (fun V => tcheck_any p q V h.1.1 h.1.2 h.2.1 h.2.2)
  have H2 := hid (fun V => tcheck_any r s V g.1.1 g.1.2 g.2.1 g.2.2)
  have HX := hid (boxes2 w 23 #[.int .i64 p, .int .i64 q] #[.int .i64 r, .int .i64 s])
  have HC := hid (chk_or p q)
  have HC2 : Hid (okI p q → chk2 p q r s = chk r s) := fun h => by unfold chk2; rw [if_pos h]
  have HC3 : Hid (¬ okI p q → chk2 p q r s = 180) := fun h => by unfold chk2; rw [if_neg h]
  clear h g
  go_enter Tryd.func20, Tryd.ntmps20
  go_wp2_with fail
  generalize (w.alloc (.cells #[.int .i64 p, .int .i64 q] 23)).alloc (.cells #[.int .i64 r, .int .i64 s] 23) = X at *
  refine Calls.mono (H1.out _) ?_
  rintro e w1 ⟨rfl, hb1⟩
  obtain ⟨c0, c1, f0, f1⟩ := fbox_facts HX.out.2.1 hb1
  have HB := hid (b2 HX.out.2.2 hb1)
  clear HX hb1
  rcases HC.out with ⟨e, ho⟩ | ⟨e, ho⟩
  · rw [e]
    have HR := hid (HC2.out ho)
    clear HC HC2 HC3 e ho
    go_wp2_with fail
    refine Calls.mono (H2.out _) ?_
    rintro e w2 ⟨rfl, hb2⟩
    have HB := hid (b2 HB.out hb2)
    clear hb2
    go_wp2_with fail
    go_ret
    exact ⟨ret_int HR.out.symm, HB.out⟩
  · rw [e]
    have HR := hid (HC3.out ho)
    clear HC HC2 HC3 e ho
    go_wp2_with fail
    go_ret
    exact ⟨ret_int HR.out.symm, HB.out⟩
end Go.Proofs.YtnhkbnmkcnmbgaaDoor

/- package turn: back, sum, Add, Sub, Neg, Times, Of: of every turn, every two numbers. -/
namespace Go.Proofs.YtnhkbnmkcnmbgaaDoor
open Go.RowKit
set_option linter.unusedVariables false

/-- The sum of two turns. -/
def sumR (p q r s : Nat) : Int × Int × Int := lowR ((p * (s / Nat.gcd q s) + r * (q / Nat.gcd q s)) % (q / Nat.gcd q s * s)) (q / Nat.gcd q s * s)

theorem sum_lt {q s : Nat} (hq : 0 < q) (hs : 0 < s) (hq' : q ≤ 4294967296) (hs' : s ≤ 4294967296) : q / Nat.gcd q s * s < 18446744073709551616 ∧ q / Nat.gcd q s * s = q * (s / Nat.gcd q s) ∧ 0 < q / Nat.gcd q s * s := by
  have hd : 0 < Nat.gcd q s := Nat.gcd_pos_of_pos_right _ hs
  obtain ⟨a, ha⟩ := Nat.gcd_dvd_left q s
  obtain ⟨b, hb⟩ := Nat.gcd_dvd_right q s
  have e1 : q / Nat.gcd q s = a := Nat.div_eq_of_eq_mul_right hd ha
  have e2 : s / Nat.gcd q s = b := Nat.div_eq_of_eq_mul_right hd hb
  rw [e1, e2]
  have e3 : a * s = q * b := by rw [hb.trans rfl, show q * b = Nat.gcd q s * a * b by rw [← ha]]; rw [← Nat.mul_assoc, Nat.mul_comm a]
  have a0 : 0 < a := by
    rcases Nat.eq_zero_or_pos a with h | h
    · rw [h] at ha; omega
    · exact h
  refine ⟨?_, e3, Nat.mul_pos a0 hs⟩
  by_cases hqs : q = s
  · subst hqs
    rw [Nat.gcd_self] at ha
    have : a = 1 := Nat.eq_of_mul_eq_mul_left hq (by omega)
    rw [this]; omega
  · have h1 : a ≤ q := by rw [ha]; exact Nat.le_mul_of_pos_left _ hd
    have h2 : a * s ≤ q * s := Nat.mul_le_mul_right _ h1
    have h3 : q * s < 18446744073709551616 := by
      rcases Nat.lt_or_gt_of_ne hqs with h | h
      · have : q * s ≤ 4294967295 * 4294967296 := Nat.mul_le_mul (by omega) hs'
        omega
      · have : q * s ≤ 4294967296 * 4294967295 := Nat.mul_le_mul hq' (by omega)
        omega
    omega

theorem bdrewN {B : Nat} {a w : World} (h : Below B a w) (n : Nat) : Below B a (w.drewN n) := by
  induction n with
  | zero => exact h
  | succ n ih => exact ih.drew

set_option maxHeartbeats 1600000 in
set_option maxRecDepth 100000 in
theorem tsum_any (p q r s : Nat) (w : World) (hp : p < q) (hr : r < s) (hq : q ≤ 4294967296) (hs : s ≤ 4294967296) :
    Calls Tryd.prog 21 #[.agg #[.int .i64 (p : Int), .int .i64 (q : Int)], .agg #[.int .i64 (r : Int), .int .i64 (s : Int)]] w fun e w' => e = .returned (tV (sumR p q r s)) ∧ Below w.heap.size w w' := by
  have HX := hid (boxes3 w 23 #[.int .i64 (p : Int), .int .i64 (q : Int)] #[.int .i64 (r : Int), .int .i64 (s : Int)] #[.int .i64 0, .int .i64 0])
  obtain ⟨l1, l2, l3⟩ := sum_lt (q := q) (s := s) (by omega) (by omega) hq hs
  have HC := hid (fun V => tcommon_any q s V (by omega) (by omega))
  have hd : 0 < Nat.gcd q s := Nat.gcd_pos_of_pos_right _ (by omega)
  have k1 : q / Nat.gcd q s ≤ q := Nat.div_le_self _ _
  have k2 : s / Nat.gcd q s ≤ s := Nat.div_le_self _ _
  obtain ⟨d, hD⟩ : ∃ d, Nat.gcd q s = d := ⟨_, rfl⟩
  have HV : Hid (sumR p q r s = lowR ((p * (s / d) + r * (q / d)) % (q / d * s)) (q / d * s)) := by show _ = _; unfold sumR; rw [hD]
  rw [hD] at HC l1 l2 l3 hd k1 k2
  clear hD
  have x1 : IntKind.u64.wrap ((q : Int) / (d : Int)) = ((q / d : Nat) : Int) := by
    rw [show ((q : Int) / (d : Int)) = ((q / d : Nat) : Int) from rfl]; exact tw64 _ (by omega)
  have x2 : IntKind.u64.wrap ((s : Int) / (d : Int)) = ((s / d : Nat) : Int) := by
    rw [show ((s : Int) / (d : Int)) = ((s / d : Nat) : Int) from rfl]; exact tw64 _ (by omega)
  generalize q / d = A at *
  generalize s / d = B at *
  have m1 : p * B < A * s := by
    rw [l2]
    have hB : 0 < B := by
      rcases Nat.eq_zero_or_pos B with h | h
      · rw [h] at l2; omega
      · exact h
    exact Nat.mul_lt_mul_of_pos_right hp hB
  have m2 : r * A < A * s := by
    have hA : 0 < A := by
      rcases Nat.eq_zero_or_pos A with h | h
      · rw [h] at l3; omega
      · exact h
    rw [Nat.mul_comm A s]
    exact Nat.mul_lt_mul_of_pos_right hr hA
  have y1 : IntKind.u64.wrap ((A : Int) * (s : Int)) = ((A * s : Nat) : Int) := by rw [← Int.natCast_mul]; exact tw64 _ (by omega)
  have y2 : IntKind.u64.wrap ((p : Int) * (B : Int)) = ((p * B : Nat) : Int) := by rw [← Int.natCast_mul]; exact tw64 _ (by omega)
  have y3 : IntKind.u64.wrap ((r : Int) * (A : Int)) = ((r * A : Nat) : Int) := by rw [← Int.natCast_mul]; exact tw64 _ (by omega)
  generalize A * s = W at *
  generalize p * B = x at *
  generalize r * A = y at *
  have HR := hid (fun V => tround_any x y W V m1 m2 l1)
  have hm : (x + y) % W < W := Nat.mod_lt _ l3
  have HL := hid (fun V => tlowest_any ((x + y) % W) W V hm l1)
  obtain ⟨z, hz⟩ : ∃ z, (x + y) % W = z := ⟨_, rfl⟩
  rw [hz] at HR HL HV
  clear hz hm m1 m2 l2
  have hd' : (d : Int) ≠ 0 := by omega
  go_enter Tryd.func21, Tryd.ntmps21
  go_wp2_with fail
  generalize ((w.alloc (.cells #[.int .i64 (p : Int), .int .i64 (q : Int)] 23)).alloc (.cells #[.int .i64 (r : Int), .int .i64 (s : Int)] 23)).alloc (.cells #[.int .i64 0, .int .i64 0] 23) = X at *
  refine Calls.mono (HC.out X) ?_
  rintro e w1 ⟨rfl, hb1⟩
  obtain ⟨c0, c1, f0, f1⟩ := fbox_facts HX.out.1 hb1
  obtain ⟨c2, c3, f2, f3⟩ := fbox_facts HX.out.2.1 hb1
  go_wp2_with fail
  go_quiet (fail)
  go_wp2_with fail
  go_quiet (fail)
  go_wp2_with fail
  go_quiet (fail)
  go_wp2_with fail
  refine Calls.mono (HR.out _) ?_
  rintro e w2 ⟨rfl, rfl⟩
  go_wp2_with fail
  generalize hn : w1.drewN (_ + _ + _) = w2
  have hb1 : Below X.heap.size X w2 := by rw [← hn]; exact bdrewN hb1 _
  clear hn c0 c1 c2 c3 f0 f1 f2 f3
  refine Calls.mono (HL.out _) ?_
  rintro e w3 ⟨rfl, hb3⟩
  obtain ⟨c4, c5, f4, f5⟩ := fbox_facts HX.out.2.2.1 (b2 hb1 hb3)
  have HB := hid (b2 HX.out.2.2.2 (b2 hb1 hb3))
  clear hb1 hb3
  have hv : lowV z W = tV (sumR p q r s) := by rw [HV.out]; rfl
  rw [hv]
  clear hv HV HC HL HR
  obtain ⟨T, hT⟩ : ∃ T, sumR p q r s = T := ⟨_, rfl⟩
  have HT := hid hT
  rw [hT]
  clear hT
  obtain ⟨t1, t2, t3⟩ := T
  rw [show tV (t1, t2, t3) = Value.tuple #[.agg #[.int .i64 t1, .int .i64 t2], .int .i64 t3] from rfl]
  go_wp2_with fail
  refine bodyPost_ret (v := Value.tuple #[.agg #[.int .i64 t1, .int .i64 t2], .int .i64 t3]) (by simp [results, Tryd.results21, go_sem, c4, c5]) rfl ?_
  exact ⟨by rw [HT.out]; rfl, fput2 HB.out _ (by omega) _ _⟩

/-- What Add tells. -/
def addR (p q r s : Int) : Int × Int × Int := if okI p q ∧ okI r s then sumR p.toNat q.toNat r.toNat s.toNat else (0, 0, 180)

theorem tsumI (p q r s : Int) (w : World) (h : okI p q) (g : okI r s) :
    Calls Tryd.prog 21 #[.agg #[.int .i64 p, .int .i64 q], .agg #[.int .i64 r, .int .i64 s]] w fun e w' => e = .returned (tV (sumR p.toNat q.toNat r.toNat s.toNat)) ∧ Below w.heap.size w w' := by
  obtain ⟨h1, h2, h3, h4, _⟩ := h
  obtain ⟨g1, g2, g3, g4, _⟩ := g
  obtain ⟨a, rfl⟩ := Int.eq_ofNat_of_zero_le h3
  obtain ⟨b, rfl⟩ := Int.eq_ofNat_of_zero_le (show 0 ≤ q by omega)
  obtain ⟨c, rfl⟩ := Int.eq_ofNat_of_zero_le g3
  obtain ⟨d, rfl⟩ := Int.eq_ofNat_of_zero_le (show 0 ≤ s by omega)
  exact tsum_any a b c d w (by omega) (by omega) (by omega) (by omega)

set_option maxHeartbeats 1600000 in
set_option maxRecDepth 100000 in
theorem tadd_any (p q r s : Int) (w : World) (h : in64 p q) (g : in64 r s) :
    Calls Tryd.prog 7 #[.agg #[.int .i64 p, .int .i64 q], .agg #[.int .i64 r, .int .i64 s]] w fun e w' => e = .returned (tV (addR p q r s)) ∧ Below w.heap.size w w' := by
  have HX := hid (boxes3 w 23 #[.int .i64 p, .int .i64 q] #[.int .i64 r, .int .i64 s] #[.int .i64 0, .int .i64 0])
  have HC := hid (fun V => tboth_any p q r s V h g)
  have HO := hid (chk2_or p q r s)
  have HV1 : Hid (okI p q ∧ okI r s → addR p q r s = sumR p.toNat q.toNat r.toNat s.toNat) := fun h => by unfold addR; rw [if_pos h]
  have HV2 : Hid (¬ (okI p q ∧ okI r s) → addR p q r s = (0, 0, 180)) := fun h => by unfold addR; rw [if_neg h]
  have HS : Hid (okI p q ∧ okI r s → ∀ V, Calls Tryd.prog 21 #[.agg #[.int .i64 p, .int .i64 q], .agg #[.int .i64 r, .int .i64 s]] V fun e w' => e = .returned (tV (addR p q r s)) ∧ Below V.heap.size V w') := fun h V => by rw [HV1.out h]; exact tsumI p q r s V h.1 h.2
  clear h g
  go_enter Tryd.func7, Tryd.ntmps7
  go_wp2_with fail
  generalize ((w.alloc (.cells #[.int .i64 p, .int .i64 q] 23)).alloc (.cells #[.int .i64 r, .int .i64 s] 23)).alloc (.cells #[.int .i64 0, .int .i64 0] 23) = X at *
  refine Calls.mono (HC.out X) ?_
  rintro e w1 ⟨rfl, hb1⟩
  obtain ⟨c0, c1, f0, f1⟩ := fbox_facts HX.out.1 hb1
  obtain ⟨c2, c3, f2, f3⟩ := fbox_facts HX.out.2.1 hb1
  obtain ⟨c4, c5, f4, f5⟩ := fbox_facts HX.out.2.2.1 hb1
  rcases HO.out with ⟨e, ho⟩ | ⟨e, ho⟩
  · rw [e]
    have HS' := hid (HS.out ho)
    clear HO HV1 HV2 HS e ho HC
    go_wp2_with fail
    refine Calls.mono (HS'.out w1) ?_
    rintro e w2 ⟨rfl, hb2⟩
    clear c0 c1 c2 c3 c4 c5 f0 f1 f2 f3 f4 f5 HS'
    obtain ⟨c4, c5, f4, f5⟩ := fbox_facts HX.out.2.2.1 (b2 hb1 hb2)
    have HB := hid (b2 HX.out.2.2.2 (b2 hb1 hb2))
    clear hb1 hb2 HX
    obtain ⟨T, hT⟩ : ∃ T, addR p q r s = T := ⟨_, rfl⟩
    have HT := hid hT
    rw [hT]
    clear hT
    obtain ⟨t1, t2, t3⟩ := T
    rw [show tV (t1, t2, t3) = Value.tuple #[.agg #[.int .i64 t1, .int .i64 t2], .int .i64 t3] from rfl]
    go_wp2_with fail
    refine bodyPost_ret (v := Value.tuple #[.agg #[.int .i64 t1, .int .i64 t2], .int .i64 t3]) (by simp [results, Tryd.results7, go_sem, c4, c5]) rfl ?_
    exact ⟨by rw [HT.out]; rfl, fput2 HB.out _ (by omega) _ _⟩
  · rw [e]
    have HR := hid (HV2.out ho)
    have HB := hid (b2 HX.out.2.2.2 hb1)
    clear HO HV1 HV2 HS e ho HC hb1
    go_wp2_with fail
    refine bodyPost_ret (v := Value.tuple #[.agg #[.int .i64 0, .int .i64 0], .int .i64 180]) (by simp [results, Tryd.results7, go_sem, c4, c5]) rfl ?_
    exact ⟨by rw [HR.out]; rfl, fput2 HB.out _ (by omega) _ _⟩

/-- What Sub tells. -/
def subR (p q r s : Int) : Int × Int × Int := if okI p q ∧ okI r s then addR p q ((-r) % s) s else (0, 0, 180)
theorem gcd_back {p q : Int} (h : okI p q) : okI ((-p) % q) q := by
  obtain ⟨h1, h2, h3, h4, h5⟩ := h
  refine ⟨h1, h2, Int.emod_nonneg _ (by omega), Int.emod_lt_of_pos _ (by omega), ?_⟩
  by_cases h0 : p = 0
  · subst h0; simpa using h5
  · have e : (-p) % q = q - p := by rw [← Int.add_emod_right, Int.emod_eq_of_lt (by omega) (by omega)]; omega
    rw [e]
    have e2 : (q - p).toNat = q.toNat - p.toNat := by omega
    rw [e2, Nat.gcd_self_sub_left (by omega)]; exact h5
end Go.Proofs.YtnhkbnmkcnmbgaaDoor

/- package turn: nought, quarter, plain, place, Root, of any turn. -/
namespace Go.Proofs.YtnhkbnmkcnmbgaaDoor
open Go.RowKit
set_option linter.unusedVariables false

/-- A nought is +0. -/
def nz (x : Nat) : Nat := if FloatKind.f64.format.order x 0 == some .eq then 0 else x

set_option maxHeartbeats 800000 in
set_option maxRecDepth 100000 in
theorem tnought_any (x : Nat) (w : World) :
    Calls Tryd.prog 41 #[.float .f64 x] w fun e w' => e = .returned (.float .f64 (nz x)) ∧ w' = w := by
  cases h : (FloatKind.f64.format.order x 0 == some .eq)
  · have HR : Hid (nz x = x) := by show _ = _; unfold nz; rw [h]; rfl
    go_enter Tryd.func41, Tryd.ntmps41
    go_wp2
    go_ret
    exact ⟨by rw [HR.out]; rfl, rfl⟩
  · have HR : Hid (nz x = 0) := by show _ = _; unfold nz; rw [h]; rfl
    go_enter Tryd.func41, Tryd.ntmps41
    go_wp2
    go_ret
    exact ⟨by rw [HR.out]; rfl, rfl⟩
set_option maxHeartbeats 800000 in
set_option maxRecDepth 100000 in
theorem tquarter_any (a b : Nat) (w : World) :
    Calls Tryd.prog 42 #[.complex .f64 a b] w fun e w' => e = .returned (.complex .f64 (fneg b) a) ∧ w' = w := by
  have HN : ∀ x, Op.unary .neg (.float .f64 x) = pure (.float .f64 (fneg x)) := fun _ => rfl
  go_enter Tryd.func42, Tryd.ntmps42
  go_wp2
  go_ret
  exact ⟨rfl, rfl⟩
set_option maxHeartbeats 800000 in
set_option maxRecDepth 100000 in
theorem tplain_any (a b : Nat) (w : World) :
    Calls Tryd.prog 27 #[.complex .f64 a b] w fun e w' => e = .returned (.complex .f64 (nz a) (nz b)) ∧ w' = w := by
  go_enter Tryd.func27, Tryd.ntmps27
  go_wp2_with fail
  refine Calls.mono (tnought_any a _) ?_
  rintro e w1 ⟨rfl, rfl⟩
  go_wp2_with fail
  refine Calls.mono (tnought_any b _) ?_
  rintro e w2 ⟨rfl, rfl⟩
  go_wp2_with fail
  go_ret
  exact ⟨rfl, rfl⟩

/-- The number of the first quarter, put into the quarter in which an eighth is. -/
def plV (k a b : Nat) : Nat × Nat := if k ≤ 1 then (a, b) else if k ≤ 3 then (fneg b, a) else if k ≤ 5 then (fneg a, fneg b) else (fneg (fneg b), fneg a)

set_option maxHeartbeats 800000 in
set_option maxRecDepth 100000 in
theorem tplace_any (a b k : Nat) (w : World) (hk : k < 8) :
    Calls Tryd.prog 28 #[.complex .f64 a b, .int .i64 (k : Int)] w fun e w' => e = .returned (.complex .f64 (plV k a b).1 (plV k a b).2) ∧ w' = w := by
  have HQ := hid (fun V => tquarter_any a b V)
  have HN := hid (fun V => zpNeg_any a b V)
  have HN2 := hid (fun V => zpNeg_any (fneg b) a V)
  match k, hk with
  | 0, _ | 1, _ =>
    go_enter Tryd.func28, Tryd.ntmps28
    go_wp2_with fail
    go_ret
    exact ⟨rfl, rfl⟩
  | 2, _ | 3, _ =>
    go_enter Tryd.func28, Tryd.ntmps28
    go_wp2_with fail
    refine Calls.mono (HQ.out _) ?_
    rintro e w1 ⟨rfl, rfl⟩
    go_wp2_with fail
    go_ret
    exact ⟨rfl, rfl⟩
  | 4, _ | 5, _ =>
    go_enter Tryd.func28, Tryd.ntmps28
    go_wp2_with fail
    refine Calls.mono (HN.out _) ?_
    rintro e w1 ⟨rfl, rfl⟩
    go_wp2_with fail
    go_ret
    exact ⟨rfl, rfl⟩
  | 6, _ | 7, _ =>
    go_enter Tryd.func28, Tryd.ntmps28
    go_wp2_with fail
    refine Calls.mono (HQ.out _) ?_
    rintro e w1 ⟨rfl, rfl⟩
    go_wp2_with fail
    refine Calls.mono (HN2.out _) ?_
    rintro e w1 ⟨rfl, rfl⟩
    go_wp2_with fail
    go_ret
    exact ⟨rfl, rfl⟩

/-- Where the first eighth's cosine and sine go. -/
def octV (k c s : Nat) : Nat × Nat := if k % 2 = 1 then plV k s c else plV k c s
/-- How far into the eighth, or from its end, as an odd one is gone through backward. -/
def rootA (p q : Nat) : Nat := if 8 * p / q % 2 = 1 then q - 8 * p % q else 8 * p % q
/-- The number at an eighth k, a over q of an eighth into it. -/
def RootK (k a q re im : Nat) : Prop := ∃ f y c s, FN .quo (floatOfInt .f64 (a : Int)) (floatOfInt .f64 (q : Int)) f ∧ FN .mul f 4605249457297304856 y ∧ CosR y c ∧ SineR y s ∧ re = nz (octV k c s).1 ∧ im = nz (octV k c s).2
def RootR (p q re im : Nat) : Prop := RootK (8 * p / q) (rootA p q) q re im

set_option maxHeartbeats 3200000 in
set_option maxRecDepth 100000 in
theorem troot_ok (p q : Nat) (w : World) (hp : p < q) (hq : q ≤ 4294967296) (hg : Nat.gcd p q = 1) :
    Calls Tryd.prog 11 #[.agg #[.int .i64 (p : Int), .int .i64 (q : Int)]] w fun e w' => ∃ re im, e = .returned (.tuple #[.complex .f64 re im, .int .i64 0]) ∧ RootR p q re im ∧ Below w.heap.size w w' := by
  have rA := fadd_run Tryd.prog 51
  have rM := fmul_run Tryd.prog 51
  have rQ := fquo_run Tryd.prog 51
  have fr : ∀ V, (callFunc 24 #[.int .u64 4605249457297304856]).run Tryd.prog V = .ok (.value (.float .f64 4605249457297304856)) V := from_run 4605249457297304856
  have HX := hid (boxes1 w 23 #[.int .i64 (p : Int), .int .i64 (q : Int)])
  have HC := hid (fun V => tcheck_any p q V (by omega) (by omega) (by omega) (by omega))
  have hO : chk p q = 0 := by unfold chk; rw [if_pos]; exact ⟨by omega, by omega, by omega, by omega, by simpa using hg⟩
  rw [hO] at HC
  clear hO hg
  have hk : 8 * p / q < 8 := Nat.div_lt_of_lt_mul (by omega)
  have ha : 8 * p % q < q := Nat.mod_lt _ (by omega)
  have e1 : Int.tdiv (8 * (p : Int)) (q : Int) = ((8 * p / q : Nat) : Int) := by
    rw [Int.tdiv_eq_ediv_of_nonneg (by omega)]; rfl
  have e2 : Int.tmod (8 * (p : Int)) (q : Int) = ((8 * p % q : Nat) : Int) := by
    rw [Int.tmod_eq_emod_of_nonneg (by omega)]; rfl
  have HRR : Hid (∀ re im, RootR p q re im = RootK (8 * p / q) (if 8 * p / q % 2 = 1 then q - 8 * p % q else 8 * p % q) q re im) := fun re im => rfl
  generalize 8 * p / q = k at *
  generalize 8 * p % q = a at *
  have q0 : (q : Int) ≠ 0 := by omega
  by_cases ho : k % 2 = 1
  · rw [if_pos ho] at HRR
    have o1 : (k : Int) % 2 = 1 := by omega
    have HO := hid ho
    clear ho
    go_enter Tryd.func11, Tryd.ntmps11
    go_wp2_with fail
    generalize w.alloc (.cells #[.int .i64 (p : Int), .int .i64 (q : Int)] 23) = X at *
    refine Calls.mono (HC.out X) ?_
    rintro e w1 ⟨rfl, hb1⟩
    obtain ⟨c0, c1, f0, f1⟩ := fbox_facts HX.out.1 hb1
    go_wp2_with fail
    go_quiet (fail)
    go_wp2_with fail
    have HB2 : Hid (Below X.heap.size X (w1.drewN _)) := bdrewN hb1 nq
    generalize w1.drewN nq = w2 at *
    clear hb1 c0 c1 f0 f1
    have HF := hid (fval_fn .quo w2 (floatOfInt .f64 (↑q - ↑a)) (floatOfInt .f64 (q : Int)))
    have HBF := hid (fwld_below .quo (floatOfInt .f64 (↑q - ↑a)) (floatOfInt .f64 (q : Int)) HB2.out)
    generalize fval .quo w2 (floatOfInt .f64 (↑q - ↑a)) (floatOfInt .f64 (q : Int)) = f at *
    generalize fwld .quo w2 (floatOfInt .f64 (↑q - ↑a)) (floatOfInt .f64 (q : Int)) = w3 at *
    have HY := hid (fval_fn .mul w3 f 4605249457297304856)
    have HBY := hid (fwld_below .mul f 4605249457297304856 HBF.out)
    generalize fval .mul w3 f 4605249457297304856 = y at *
    generalize fwld .mul w3 f 4605249457297304856 = w4 at *
    clear HB2 HBF
    refine Calls.mono (tcosine_any y _) ?_
    rintro e w5 ⟨c, rfl, hc, hb5⟩
    have HCO := hid hc
    clear hc
    go_wp2_with fail
    refine Calls.mono (tsine_any y _) ?_
    rintro e w6 ⟨s, rfl, hs, hb6⟩
    have HSI := hid hs
    have HB6 := hid (b2 HX.out.2 (b2 HBY.out (b2 hb5 hb6)))
    clear hs hb5 hb6 HBY
    go_wp2_with fail
    refine Calls.mono (tplace_any s c k _ hk) ?_
    rintro e w7 ⟨rfl, rfl⟩
    go_wp2_with fail
    refine Calls.mono (tplain_any _ _ _) ?_
    rintro e w8 ⟨rfl, rfl⟩
    go_wp2_with fail
    go_returns
    refine ⟨_, _, rfl, ?_, HB6.out⟩
    rw [HRR.out]
    have ho := HO.out
    exact ⟨f, y, c, s, by rw [show (((q - a : Nat) : Int)) = (q : Int) - (a : Int) by omega]; exact HF.out, HY.out, HCO.out, HSI.out, by unfold octV; rw [if_pos ho], by unfold octV; rw [if_pos ho]⟩
  · rw [if_neg ho] at HRR
    have o1 : (k : Int) % 2 = 0 := by omega
    have HO := hid ho
    clear ho
    go_enter Tryd.func11, Tryd.ntmps11
    go_wp2_with fail
    generalize w.alloc (.cells #[.int .i64 (p : Int), .int .i64 (q : Int)] 23) = X at *
    refine Calls.mono (HC.out X) ?_
    rintro e w1 ⟨rfl, hb1⟩
    obtain ⟨c0, c1, f0, f1⟩ := fbox_facts HX.out.1 hb1
    go_wp2_with fail
    go_quiet (fail)
    go_wp2_with fail
    have HB2 : Hid (Below X.heap.size X (w1.drewN _)) := bdrewN hb1 nq
    generalize w1.drewN nq = w2 at *
    clear hb1 c0 c1 f0 f1
    have HF := hid (fval_fn .quo w2 (floatOfInt .f64 ↑a) (floatOfInt .f64 (q : Int)))
    have HBF := hid (fwld_below .quo (floatOfInt .f64 ↑a) (floatOfInt .f64 (q : Int)) HB2.out)
    generalize fval .quo w2 (floatOfInt .f64 ↑a) (floatOfInt .f64 (q : Int)) = f at *
    generalize fwld .quo w2 (floatOfInt .f64 ↑a) (floatOfInt .f64 (q : Int)) = w3 at *
    have HY := hid (fval_fn .mul w3 f 4605249457297304856)
    have HBY := hid (fwld_below .mul f 4605249457297304856 HBF.out)
    generalize fval .mul w3 f 4605249457297304856 = y at *
    generalize fwld .mul w3 f 4605249457297304856 = w4 at *
    clear HB2 HBF
    refine Calls.mono (tcosine_any y _) ?_
    rintro e w5 ⟨c, rfl, hc, hb5⟩
    have HCO := hid hc
    clear hc
    go_wp2_with fail
    refine Calls.mono (tsine_any y _) ?_
    rintro e w6 ⟨s, rfl, hs, hb6⟩
    have HSI := hid hs
    have HB6 := hid (b2 HX.out.2 (b2 HBY.out (b2 hb5 hb6)))
    clear hs hb5 hb6 HBY
    go_wp2_with fail
    refine Calls.mono (tplace_any c s k _ hk) ?_
    rintro e w7 ⟨rfl, rfl⟩
    go_wp2_with fail
    refine Calls.mono (tplain_any _ _ _) ?_
    rintro e w8 ⟨rfl, rfl⟩
    go_wp2_with fail
    go_returns
    refine ⟨_, _, rfl, ?_, HB6.out⟩
    rw [HRR.out]
    have ho := HO.out
    exact ⟨f, y, c, s, HF.out, HY.out, HCO.out, HSI.out, by unfold octV; rw [if_neg ho], by unfold octV; rw [if_neg ho]⟩

set_option maxHeartbeats 1600000 in
set_option maxRecDepth 100000 in
theorem troot_err (p q : Int) (w : World) (h : in64 p q) (hn : ¬ okI p q) :
    Calls Tryd.prog 11 #[.agg #[.int .i64 p, .int .i64 q]] w fun e w' => e = .returned (.tuple #[.complex .f64 0 0, .int .i64 180]) ∧ Below w.heap.size w w' := by
  have HX := hid (boxes1 w 23 #[.int .i64 p, .int .i64 q])
  have HC := hid (fun V => tcheck_any p q V h.1.1 h.1.2 h.2.1 h.2.2)
  have hO : chk p q = 180 := by unfold chk; rw [if_neg hn]
  rw [hO] at HC
  clear hO hn h
  go_enter Tryd.func11, Tryd.ntmps11
  go_wp2_with fail
  generalize w.alloc (.cells #[.int .i64 p, .int .i64 q] 23) = X at *
  refine Calls.mono (HC.out X) ?_
  rintro e w1 ⟨rfl, hb1⟩
  have HB := hid (b2 HX.out.2 hb1)
  clear hb1 HX HC
  go_wp2_with fail
  go_returns
  exact ⟨rfl, HB.out⟩
end Go.Proofs.YtnhkbnmkcnmbgaaDoor

/- package turn: Sub, Neg, Times, Of: of every turn, every two numbers. -/
namespace Go.Proofs.YtnhkbnmkcnmbgaaDoor
open Go.RowKit
set_option linter.unusedVariables false

/-- What Neg tells. -/
def negR (p q : Int) : Int × Int × Int := if okI p q then ((-p) % q, q, 0) else (0, 0, 180)

theorem tlowI (p q : Int) (w : World) (h0 : 0 ≤ p) (h1 : p < q) (h2 : q ≤ 4294967296) :
    Calls Tryd.prog 18 #[.int .u64 p, .int .u64 q] w fun e w' => e = .returned (tV (lowR p.toNat q.toNat)) ∧ Below w.heap.size w w' := by
  obtain ⟨a, rfl⟩ := Int.eq_ofNat_of_zero_le h0
  obtain ⟨b, rfl⟩ := Int.eq_ofNat_of_zero_le (show 0 ≤ q by omega)
  exact tlowest_any a b w (by omega) (by omega)
theorem twithI (p q : Int) (w : World) (h0 : -9223372036854775808 ≤ p) (h1 : p ≤ 9223372036854775807) (hq : 0 < q) (hq' : q ≤ 4294967296) :
    Calls Tryd.prog 19 #[.int .i64 p, .int .i64 q] w fun e w' => e = .returned (.int .i64 (p % q)) ∧ w' = w := by
  obtain ⟨b, rfl⟩ := Int.eq_ofNat_of_zero_le (show 0 ≤ q by omega)
  exact twithin_any p b w h0 h1 (by omega) (by omega)

/-- What Times tells. -/
def timesR (p q n : Int) : Int × Int × Int := if okI p q then lowR ((p * n) % q).toNat q.toNat else (0, 0, 180)
theorem prod_in {p q n : Int} (h0 : 0 ≤ p) (h1 : p < q) (h2 : q ≤ 4294967296) (n0 : -2147483648 ≤ n) (n1 : n ≤ 2147483647) : -9223372036854775808 ≤ p * n ∧ p * n ≤ 9223372036854775807 := by
  have a : p * n ≤ p * 2147483647 := Int.mul_le_mul_of_nonneg_left n1 h0
  have b : p * (-2147483648) ≤ p * n := Int.mul_le_mul_of_nonneg_left n0 h0
  omega

set_option maxHeartbeats 1600000 in
set_option maxRecDepth 100000 in
theorem ttimes_any (p q n : Int) (w : World) (h : in64 p q) (n0 : -2147483648 ≤ n) (n1 : n ≤ 2147483647) :
    Calls Tryd.prog 8 #[.agg #[.int .i64 p, .int .i64 q], .int .i32 n] w fun e w' => e = .returned (tV (timesR p q n)) ∧ Below w.heap.size w w' := by
  have HX := hid (boxes2 w 23 #[.int .i64 p, .int .i64 q] #[.int .i64 0, .int .i64 0])
  have HC := hid (fun V => tcheck_any p q V h.1.1 h.1.2 h.2.1 h.2.2)
  have HO := hid (chk_or p q)
  have HV1 : Hid (okI p q → timesR p q n = lowR ((p * n) % q).toNat q.toNat) := fun h => by unfold timesR; rw [if_pos h]
  have HV2 : Hid (¬ okI p q → timesR p q n = (0, 0, 180)) := fun h => by unfold timesR; rw [if_neg h]
  have HF : Hid (okI p q → (0 < q ∧ q ≤ 4294967296 ∧ 0 ≤ p ∧ p < q) ∧ (-9223372036854775808 ≤ p * n ∧ p * n ≤ 9223372036854775807) ∧ 0 ≤ (p * n) % q ∧ (p * n) % q < q) := fun h => ⟨⟨by have := h.1; omega, h.2.1, h.2.2.1, h.2.2.2.1⟩, prod_in h.2.2.1 h.2.2.2.1 h.2.1 n0 n1, Int.emod_nonneg _ (by have := h.1; omega), Int.emod_lt_of_pos _ (by have := h.1; omega)⟩
  clear h
  go_enter Tryd.func8, Tryd.ntmps8
  go_wp2_with fail
  generalize (w.alloc (.cells #[.int .i64 p, .int .i64 q] 23)).alloc (.cells #[.int .i64 0, .int .i64 0] 23) = X at *
  refine Calls.mono (HC.out X) ?_
  rintro e w1 ⟨rfl, hb1⟩
  obtain ⟨c0, c1, f0, f1⟩ := fbox_facts HX.out.1 hb1
  obtain ⟨c2, c3, f2, f3⟩ := fbox_facts HX.out.2.1 hb1
  rcases HO.out with ⟨e, ho⟩ | ⟨e, ho⟩
  · rw [e]
    have HR := hid (HV1.out ho)
    obtain ⟨⟨g1, g2, g3, g4⟩, ⟨g5, g6⟩, g7, g8⟩ := HF.out ho
    clear HO HV1 HV2 HF e ho HC
    clear c0 c1 c2 c3 f0 f1 f2 f3
    have HF : Hid (∀ V, Below X.heap.size X V → V.cell? ⟨w.heap.size, 0, none⟩ = some (.int .i64 p) ∧ V.cell? ⟨w.heap.size, 1, none⟩ = some (.int .i64 q) ∧ V.cell? ⟨w.heap.size + 1, 0, none⟩ = some (.int .i64 0) ∧ V.cell? ⟨w.heap.size + 1, 1, none⟩ = some (.int .i64 0) ∧ V.frozen? ⟨w.heap.size + 1, 0, none⟩ = false ∧ V.frozen? ⟨w.heap.size + 1, 1, none⟩ = false) := fun V hv => by
      obtain ⟨c0, c1, _, _⟩ := fbox_facts HX.out.1 hv
      obtain ⟨c2, c3, f2, f3⟩ := fbox_facts HX.out.2.1 hv
      exact ⟨c0, c1, c2, c3, f2, f3⟩
    obtain ⟨T, hT⟩ : ∃ T, timesR p q n = T := ⟨_, rfl⟩
    have HT := hid hT
    rw [hT] at HR
    clear hT
    obtain ⟨t1, t2, t3⟩ := T
    obtain ⟨c0, c1, c2, c3, f2, f3⟩ := HF.out _ hb1
    have hd0 := hid hb1.drew
    have H1 := hid (fun V => twithI _ q V g5 g6 g1 g2)
    have H2 : Hid (∀ ww, Below X.heap.size X ww → Calls Tryd.prog 18 #[.int .u64 ((p * n) % q), .int .u64 q] ww fun e w' => e = .returned (.tuple #[.agg #[.int .i64 t1, .int .i64 t2], .int .i64 t3]) ∧ (w'.cell? ⟨w.heap.size, 0, none⟩ = some (.int .i64 p) ∧ w'.cell? ⟨w.heap.size, 1, none⟩ = some (.int .i64 q) ∧ w'.cell? ⟨w.heap.size + 1, 0, none⟩ = some (.int .i64 0) ∧ w'.cell? ⟨w.heap.size + 1, 1, none⟩ = some (.int .i64 0) ∧ w'.frozen? ⟨w.heap.size + 1, 0, none⟩ = false ∧ w'.frozen? ⟨w.heap.size + 1, 1, none⟩ = false) ∧ Below X.heap.size X w') := fun ww hv => by
      refine Calls.mono (tlowI _ q ww g7 g8 g2) ?_
      rintro e w' ⟨rfl, h⟩
      exact ⟨by rw [← HR.out]; rfl, HF.out _ (b2 hv h), b2 hv h⟩
    have hw0 : IntKind.i64.wrap n = n := by rw [IntKind.wrap_i64]; omega
    have hw1 : IntKind.i64.wrap (p * n) = p * n := by rw [IntKind.wrap_i64]; omega
    have hw2 : IntKind.u64.wrap ((p * n) % q) = (p * n) % q := by rw [IntKind.wrap_u64]; omega
    have hw3 : IntKind.u64.wrap q = q := by rw [IntKind.wrap_u64]; omega
    clear HR HF
    go_wp2_with fail
    go_region_with (first
        | (go_at_call 18; with_reducible refine Calls.mono (H2.out _ hd0.out) ?_; rintro e w3 ⟨rfl, ⟨c0, c1, c2, c3, f2, f3⟩, hb3⟩)
        | (go_at_call 18; with_reducible refine Calls.mono (H2.out _ hb1) ?_; rintro e w3 ⟨rfl, ⟨c0, c1, c2, c3, f2, f3⟩, hb3⟩)
        | (go_at_call 19; with_reducible refine Calls.mono (H1.out _) ?_; rintro e w2 ⟨rfl, rfl⟩))
    all_goals
      have HB := hid (b2 HX.out.2.2 hb3)
      clear hb1 hb3 HX H1 H2 hd0
      go_wp2_with fail
      refine bodyPost_ret (v := Value.tuple #[.agg #[.int .i64 t1, .int .i64 t2], .int .i64 t3]) (by simp [results, Tryd.results8, go_sem, c2, c3]) rfl ?_
      exact ⟨by rw [HT.out]; rfl, by first | exact fput2 HB.out _ (by omega) _ _ | exact (fput2 HB.out _ (by omega) _ _).drew⟩
  · rw [e]
    have HR := hid (HV2.out ho)
    have HB := hid (b2 HX.out.2.2 hb1)
    clear HO HV1 HV2 HF e ho HC hb1
    go_wp2_with fail
    refine bodyPost_ret (v := Value.tuple #[.agg #[.int .i64 0, .int .i64 0], .int .i64 180]) (by simp [results, Tryd.results8, go_sem, c2, c3]) rfl ?_
    exact ⟨by rw [HR.out]; rfl, fput2 HB.out _ (by omega) _ _⟩

/-- What Of tells. -/
def ofR (p q : Int) : Int × Int × Int := if q = 0 then (0, 0, 7) else if q < 0 ∨ 4294967296 < q then (0, 0, 2) else lowR (p % q).toNat q.toNat

set_option maxHeartbeats 1600000 in
set_option maxRecDepth 100000 in
theorem tof_any (p q : Int) (w : World) (h : in64 p q) :
    Calls Tryd.prog 6 #[.int .i64 p, .int .i64 q] w fun e w' => e = .returned (tV (ofR p q)) ∧ Below w.heap.size w w' := by
  have HX := hid (boxes1 w 23 #[.int .i64 0, .int .i64 0])
  obtain ⟨c4, c5, f4, f5⟩ := fbox_facts HX.out.1 (Below.refl _ _)
  obtain ⟨⟨p0, p1⟩, q0, q1⟩ := h
  by_cases h0 : q = 0
  · subst h0
    have HR : Hid (ofR p 0 = (0, 0, 7)) := by show _ = _; unfold ofR; rw [if_pos rfl]
    go_enter Tryd.func6, Tryd.ntmps6
    go_wp2_with fail
    refine bodyPost_ret (v := Value.tuple #[.agg #[.int .i64 0, .int .i64 0], .int .i64 7]) (by simp [results, Tryd.results6, go_sem, c4, c5]) rfl ?_
    exact ⟨by rw [HR.out]; rfl, HX.out.2⟩
  · by_cases h1 : q < 0 ∨ 4294967296 < q
    · have HR : Hid (ofR p q = (0, 0, 2)) := by show _ = _; unfold ofR; rw [if_neg h0, if_pos h1]
      go_enter Tryd.func6, Tryd.ntmps6
      go_wp2_with fail
      all_goals
        refine bodyPost_ret (v := Value.tuple #[.agg #[.int .i64 0, .int .i64 0], .int .i64 2]) (by simp [results, Tryd.results6, go_sem, c4, c5]) rfl ?_
        exact ⟨by rw [HR.out]; rfl, HX.out.2⟩
    · have HR : Hid (ofR p q = lowR (p % q).toNat q.toNat) := by show _ = _; unfold ofR; rw [if_neg h0, if_neg h1]
      have g1 : 0 < q := by omega
      have g2 : q ≤ 4294967296 := by omega
      have g7 : 0 ≤ p % q := Int.emod_nonneg _ h0
      have g8 : p % q < q := Int.emod_lt_of_pos _ g1
      have h1' : ¬ q < 0 := by omega
      clear h1
      go_enter Tryd.func6, Tryd.ntmps6
      go_wp2_with fail
      refine Calls.mono (twithI _ q _ p0 p1 g1 g2) ?_
      rintro e w2 ⟨rfl, rfl⟩
      go_wp2_with fail
      refine Calls.mono (tlowI _ q _ g7 g8 g2) ?_
      rintro e w3 ⟨rfl, hb2⟩
      clear c4 c5 f4 f5
      obtain ⟨c2, c3, f2, f3⟩ := fbox_facts HX.out.1 hb2
      have HB := hid (b2 HX.out.2 hb2)
      clear hb2 HX
      rw [← HR.out]
      obtain ⟨T, hT⟩ : ∃ T, ofR p q = T := ⟨_, rfl⟩
      have HT := hid hT
      rw [hT]
      clear hT HR
      obtain ⟨t1, t2, t3⟩ := T
      rw [show tV (t1, t2, t3) = Value.tuple #[.agg #[.int .i64 t1, .int .i64 t2], .int .i64 t3] from rfl]
      go_wp2_with fail
      refine bodyPost_ret (v := Value.tuple #[.agg #[.int .i64 t1, .int .i64 t2], .int .i64 t3]) (by simp [results, Tryd.results6, go_sem, c2, c3]) rfl ?_
      exact ⟨by rw [HT.out]; rfl, fput2 HB.out _ (Nat.le_refl _) _ _⟩
end Go.Proofs.YtnhkbnmkcnmbgaaDoor

/- The number at nought and at the quarters; slackwaterkit.SameNumber; the law's own add and lives. -/
namespace Go.Proofs.YtnhkbnmkcnmbgaaDoor
open Go.RowKit
set_option linter.unusedVariables false

theorem fn_det {op : BinOp} {x y r s : Nat} (h : FN op x y r) (g : floatBits op .f64 x y = some s) : r = s := by
  rcases h.2 with h | ⟨h, _⟩
  · rw [h] at g; exact Option.some.inj g
  · rw [h] at g; cases g

theorem hornS0 {r : Nat} (h : Horn 0 13648976655441704991 (sinC.drop 1) r) : r = 13818544856648471893 := by
  obtain ⟨p1, s1, m1, a1, ⟨p2, s2, m2, a2, ⟨p3, s3, m3, a3, ⟨p4, s4, m4, a4, ⟨p5, s5, m5, a5, ⟨p6, s6, m6, a6, rfl⟩⟩⟩⟩⟩⟩ := h
  obtain rfl := fn_det m1 (show floatBits .mul .f64 13648976655441704991 0 = some 9223372036854775808 by kernel_rfl)
  obtain rfl := fn_det a1 (show floatBits .add .f64 9223372036854775808 4460272573143870729 = some 4460272573143870729 by kernel_rfl)
  obtain rfl := fn_det m2 (show floatBits .mul .f64 4460272573143870729 0 = some 0 by kernel_rfl)
  obtain rfl := fn_det a2 (show floatBits .add .f64 0 13716528800881525988 = some 13716528800881525988 by kernel_rfl)
  obtain rfl := fn_det m3 (show floatBits .mul .f64 13716528800881525988 0 = some 9223372036854775808 by kernel_rfl)
  obtain rfl := fn_det a3 (show floatBits .add .f64 9223372036854775808 4523617214285662004 = some 4523617214285662004 by kernel_rfl)
  obtain rfl := fn_det m4 (show floatBits .mul .f64 4523617214285662004 0 = some 0 by kernel_rfl)
  obtain rfl := fn_det a4 (show floatBits .add .f64 0 13774824197408792602 = some 13774824197408792602 by kernel_rfl)
  obtain rfl := fn_det m5 (show floatBits .mul .f64 13774824197408792602 0 = some 9223372036854775808 by kernel_rfl)
  obtain rfl := fn_det a5 (show floatBits .add .f64 9223372036854775808 4575957461383581969 = some 4575957461383581969 by kernel_rfl)
  obtain rfl := fn_det m6 (show floatBits .mul .f64 4575957461383581969 0 = some 0 by kernel_rfl)
  obtain rfl := fn_det a6 (show floatBits .add .f64 0 13818544856648471893 = some 13818544856648471893 by kernel_rfl)
  rfl
theorem hornC0 {r : Nat} (h : Horn 0 4407590220077447199 (cosC.drop 1) r) : r = 13826050856027422720 := by
  obtain ⟨p1, s1, m1, a1, ⟨p2, s2, m2, a2, ⟨p3, s3, m3, a3, ⟨p4, s4, m4, a4, ⟨p5, s5, m5, a5, ⟨p6, s6, m6, a6, ⟨p7, s7, m7, a7, rfl⟩⟩⟩⟩⟩⟩⟩ := h
  obtain rfl := fn_det m1 (show floatBits .mul .f64 4407590220077447199 0 = some 0 by kernel_rfl)
  obtain rfl := fn_det a1 (show floatBits .add .f64 0 13666517717442657437 = some 13666517717442657437 by kernel_rfl)
  obtain rfl := fn_det m2 (show floatBits .mul .f64 13666517717442657437 0 = some 9223372036854775808 by kernel_rfl)
  obtain rfl := fn_det a2 (show floatBits .add .f64 9223372036854775808 4477122120089393304 = some 4477122120089393304 by kernel_rfl)
  obtain rfl := fn_det m3 (show floatBits .mul .f64 4477122120089393304 0 = some 0 by kernel_rfl)
  obtain rfl := fn_det a3 (show floatBits .add .f64 0 13732177094651715420 = some 13732177094651715420 by kernel_rfl)
  obtain rfl := fn_det m4 (show floatBits .mul .f64 13732177094651715420 0 = some 9223372036854775808 by kernel_rfl)
  obtain rfl := fn_det a4 (show floatBits .add .f64 9223372036854775808 4537941361671905306 = some 4537941361671905306 by kernel_rfl)
  obtain rfl := fn_det m5 (show floatBits .mul .f64 4537941361671905306 0 = some 0 by kernel_rfl)
  obtain rfl := fn_det a5 (show floatBits .add .f64 0 13787419979223755799 = some 13787419979223755799 by kernel_rfl)
  obtain rfl := fn_det m6 (show floatBits .mul .f64 13787419979223755799 0 = some 9223372036854775808 by kernel_rfl)
  obtain rfl := fn_det a6 (show floatBits .add .f64 9223372036854775808 4586165620538955093 = some 4586165620538955093 by kernel_rfl)
  obtain rfl := fn_det m7 (show floatBits .mul .f64 4586165620538955093 0 = some 0 by kernel_rfl)
  obtain rfl := fn_det a7 (show floatBits .add .f64 0 13826050856027422720 = some 13826050856027422720 by kernel_rfl)
  rfl
theorem sine0 {r : Nat} (h : SineR 0 r) : r = 0 := by
  obtain ⟨q, h, a, b, h1, h2, h3, h4, h5⟩ := h
  obtain rfl := fn_det h1 (show floatBits .mul .f64 0 0 = some 0 by kernel_rfl)
  obtain rfl := hornS0 h2
  obtain rfl := fn_det h3 (show floatBits .mul .f64 0 0 = some 0 by kernel_rfl)
  obtain rfl := fn_det h4 (show floatBits .mul .f64 0 13818544856648471893 = some 9223372036854775808 by kernel_rfl)
  exact fn_det h5 (by kernel_rfl)
theorem cos0 {r : Nat} (h : CosR 0 r) : r = 4607182418800017408 := by
  obtain ⟨q, h, b, h1, h2, h4, h5⟩ := h
  obtain rfl := fn_det h1 (show floatBits .mul .f64 0 0 = some 0 by kernel_rfl)
  obtain rfl := hornC0 h2
  obtain rfl := fn_det h4 (show floatBits .mul .f64 0 13826050856027422720 = some 9223372036854775808 by kernel_rfl)
  exact fn_det h5 (by kernel_rfl)
/-- At the beginning of an even eighth. -/
theorem rootK0 {k q re im : Nat} (hq : floatBits .quo .f64 (floatOfInt .f64 ((0 : Nat) : Int)) (floatOfInt .f64 (q : Int)) = some 0) (h : RootK k 0 q re im) : re = nz (octV k 4607182418800017408 0).1 ∧ im = nz (octV k 4607182418800017408 0).2 := by
  obtain ⟨f, y, c, s, h1, h2, h3, h4, h5, h6⟩ := h
  obtain rfl := fn_det h1 hq
  obtain rfl := fn_det h2 (show floatBits .mul .f64 0 4605249457297304856 = some 0 by kernel_rfl)
  obtain rfl := cos0 h3
  obtain rfl := sine0 h4
  exact ⟨h5, h6⟩
theorem root34 {re im : Nat} (h : RootR 3 4 re im) : re = 0 ∧ im = 13830554455654793216 := by
  have h' : RootK 6 0 4 re im := h
  have e := rootK0 (by kernel_rfl) h'
  rw [e.1, e.2]
  decide

set_option maxHeartbeats 800000 in
set_option maxRecDepth 100000 in
theorem sameNumber_eq (a b : Nat) (w : World) (ha : fin a = true) (hb : fin b = true) :
    Calls Tryd.prog 12 #[.complex .f64 a b, .complex .f64 a b] w fun e w' => e = .returned (.bool true) ∧ w' = w := by
  have H1 := hid (sameFloat_eq a w ha)
  have H2 := hid (sameFloat_eq b w hb)
  clear ha hb
  go_enter Tryd.func12, Tryd.ntmps12
  go_wp2_with fail
  refine Calls.mono H1.out ?_
  rintro e w1 ⟨rfl, rfl⟩
  go_wp2_with fail
  refine Calls.mono H2.out ?_
  rintro e w2 ⟨rfl, rfl⟩
  go_wp2_with fail
  go_ret
  exact ⟨rfl, rfl⟩

set_option maxHeartbeats 800000 in
set_option maxRecDepth 100000 in
theorem tlives_any (w : World) :
    Calls Tryd.prog 14 #[] w fun e w' => e = .returned (.bool true) ∧ Below w.heap.size w w' := by
  go_enter Tryd.func14, Tryd.ntmps14
  go_wp2_with fail
  refine Calls.mono (tof_any (-1) 4 _ ⟨⟨by decide, by decide⟩, by decide, by decide⟩) ?_
  rintro e w1 ⟨rfl, hb1⟩
  rw [show tV (ofR (-1) 4) = Value.tuple #[.agg #[.int .i64 3, .int .i64 4], .int .i64 0] by unfold tV; rw [show ofR (-1) 4 = (3, 4, 0) by decide]; rfl]
  have HX := hid (boxes1 w1 23 #[.int .i64 3, .int .i64 4])
  have HR := hid (fun V => troot_ok 3 4 V (by decide) (by decide) (by decide))
  have HN := hid (fun V => sameNumber_eq 0 13830554455654793216 V (by decide) (by decide))
  go_wp2_with fail
  generalize w1.alloc (.cells #[.int .i64 3, .int .i64 4] 23) = X at *
  refine Calls.mono (HR.out X) ?_
  rintro e w2 ⟨re, im, rfl, hr, hb2⟩
  obtain ⟨rfl, rfl⟩ := root34 hr
  obtain ⟨c0, c1, f0, f1⟩ := fbox_facts HX.out.1 hb2
  have HB := hid (b2 hb1 (b2 HX.out.2 hb2))
  clear hr hb1 hb2 HX HR
  go_wp2_with fail
  refine Calls.mono (HN.out _) ?_
  rintro e w3 ⟨rfl, rfl⟩
  go_wp2_with fail
  go_ret
  exact ⟨rfl, HB.out⟩
end Go.Proofs.YtnhkbnmkcnmbgaaDoor

/- The document's turns: gcd, Check, Of, Neg, Sub, Times, of every turn, every two numbers. -/
namespace Go.Proofs.YtnhkbnmkcnmbgaaDoor
open Go.RowKit
set_option linter.unusedVariables false

set_option maxHeartbeats 800000 in
set_option maxRecDepth 100000 in
theorem dgcd_any (a b : Nat) (w : World) (ha : a < 18446744073709551616) (hb : b < 18446744073709551616) :
    Calls Tryd.prog 33 #[.int .u64 (a : Int), .int .u64 (b : Int)] w fun e w' => e = .returned (.int .u64 (Nat.gcd a b : Nat)) ∧ Below w.heap.size w w' := by
  go_enter Tryd.func33, Tryd.ntmps33
  go_wp2_with fail
  go_loopw [0, 1] (fun x y wr => ∃ c d : Nat, x = .int .u64 (c : Int) ∧ y = .int .u64 (d : Int) ∧ c < 18446744073709551616 ∧ d < 18446744073709551616 ∧ Hid (Nat.gcd c d = Nat.gcd a b) ∧ Below w.heap.size w wr) (fun _ y _ => (intOf y).toNat)
  case atStart => exact ⟨a, b, rfl, rfl, ha, hb, (rfl : Nat.gcd a b = Nat.gcd a b), Below.refl _ _⟩
  case round =>
    obtain ⟨c, d, rfl, rfl, hc, hd, hg, hX⟩ := hrel
    by_cases h0 : d = 0
    · subst h0
      have HG : Hid (c = Nat.gcd a b) := by have := hg.out; rw [Nat.gcd_zero_right] at this; exact this
      clear hg
      go_wp2_with fail
      go_ret
      exact ⟨ret_int (by rw [HG.out]), hX⟩
    · have hm : c % d < d := Nat.mod_lt _ (by omega)
      have HG : Hid (Nat.gcd d (c % d) = Nat.gcd a b) := by show _ = _; rw [← hg.out, Nat.gcd_comm c d, Nat.gcd_rec d c, Nat.gcd_comm]
      have h0' : (d : Int) ≠ 0 := by omega
      clear hg
      go_wp2_with fail
      go_region
      all_goals
        go_wp2_with fail
        go_roundw
        case rel => exact ⟨d, c % d, rfl, by go_num, by omega, by omega, HG, hX.drew⟩
        case measure => simp [intOf]; omega

theorem dgcdI (p q : Int) (w : World) (p0 : 0 ≤ p) (p1 : p < 18446744073709551616) (q0 : 0 ≤ q) (q1 : q < 18446744073709551616) :
    Calls Tryd.prog 33 #[.int .u64 p, .int .u64 q] w fun e w' => e = .returned (.int .u64 (Nat.gcd p.toNat q.toNat : Nat)) ∧ Below w.heap.size w w' := by
  obtain ⟨a, rfl⟩ := Int.eq_ofNat_of_zero_le p0
  obtain ⟨b, rfl⟩ := Int.eq_ofNat_of_zero_le q0
  exact dgcd_any a b w (by omega) (by omega)

set_option maxHeartbeats 800000 in
set_option maxRecDepth 100000 in
theorem dcheck_any (p q : Int) (w : World) (p0 : -9223372036854775808 ≤ p) (p1 : p ≤ 9223372036854775807) (q0 : -9223372036854775808 ≤ q) (q1 : q ≤ 9223372036854775807) :
    Calls Tryd.prog 47 #[.agg #[.int .i64 p, .int .i64 q]] w fun e w' => e = .returned (.int .i64 (chk p q)) ∧ Below w.heap.size w w' := by
  have hb0 : Below w.heap.size w (w.alloc (.cells #[.int .i64 p, .int .i64 q] 23)) := (Below.refl _ _).alloc (Nat.le_refl _) _
  have HN : Hid (¬ (1 ≤ q ∧ q ≤ 4294967296 ∧ 0 ≤ p ∧ p < q) → chk p q = 180) := fun h => by unfold chk; rw [if_neg]; unfold okI; omega
  have HY : Hid (1 ≤ q ∧ q ≤ 4294967296 ∧ 0 ≤ p ∧ p < q → (Nat.gcd p.toNat q.toNat : Nat) = 1 → chk p q = 0) := fun h g => by unfold chk; rw [if_pos]; unfold okI; omega
  have HY' : Hid (¬ (Nat.gcd p.toNat q.toNat : Nat) = 1 → chk p q = 180) := fun g => by unfold chk; rw [if_neg]; unfold okI; omega
  have HC : Hid (∀ V : World, 0 ≤ p → p < q → q ≤ 4294967296 → Calls Tryd.prog 33 #[.int .u64 p, .int .u64 q] V fun e w' => e = .returned (.int .u64 (Nat.gcd p.toNat q.toNat : Nat)) ∧ Below V.heap.size V w') := fun V h1 h2 h3 => dgcdI p q V h1 (by omega) (by omega) (by omega)
  obtain ⟨d, hD⟩ : ∃ d, Nat.gcd p.toNat q.toNat = d := ⟨_, rfl⟩
  rw [hD] at HY HY' HC
  clear hD
  go_enter Tryd.func47, Tryd.ntmps47
  go_wp2_with fail
  all_goals try (go_ret; exact ⟨ret_int (HN.out (by omega)).symm, hb0⟩)
  refine Calls.mono (HC.out _ (by omega) (by omega) (by omega)) ?_
  rintro e w1 ⟨rfl, hb1⟩
  by_cases h1 : d = 1
  · subst h1
    go_wp2_with fail
    go_ret
    exact ⟨ret_int (HY.out (by omega) (by trivial)).symm, b2 hb0 hb1⟩
  · have h1' : ((d : Int) != 1) = true := by simp; omega
    go_wp2_with fail
    all_goals first
      | (go_ret; exact ⟨ret_int (HY'.out h1).symm, b2 hb0 hb1⟩)
      | (exfalso; rename_i hx; rw [h1'] at hx; exact absurd hx.2 (by decide))


theorem gcd_low (p q : Nat) (hp : p < q) (hq : q ≤ 4294967296) : lowR p q = (((p / Nat.gcd p q : Nat) : Int), ((q / Nat.gcd p q : Nat) : Int), 0) := by
  unfold lowR
  rw [if_pos (Nat.le_trans (Nat.div_le_self _ _) hq)]

set_option maxHeartbeats 1600000 in
set_option maxRecDepth 100000 in
theorem dof_any (p q : Int) (w : World) (h : in64 p q) :
    Calls Tryd.prog 15 #[.int .i64 p, .int .i64 q] w fun e w' => e = .returned (tV (ofR p q)) ∧ Below w.heap.size w w' := by
  have HX := hid (boxes1 w 23 #[.int .i64 0, .int .i64 0])
  obtain ⟨c4, c5, f4, f5⟩ := fbox_facts HX.out.1 (Below.refl _ _)
  obtain ⟨⟨p0, p1⟩, q0, q1⟩ := h
  by_cases h0 : q = 0
  · subst h0
    have HR : Hid (ofR p 0 = (0, 0, 7)) := by show _ = _; unfold ofR; rw [if_pos rfl]
    go_enter Tryd.func15, Tryd.ntmps15
    go_wp2_with fail
    refine bodyPost_ret (v := Value.tuple #[.agg #[.int .i64 0, .int .i64 0], .int .i64 7]) (by simp [results, Tryd.results15, go_sem, c4, c5]) rfl ?_
    exact ⟨by rw [HR.out]; rfl, HX.out.2⟩
  · by_cases h1 : q < 0 ∨ 4294967296 < q
    · have HR : Hid (ofR p q = (0, 0, 2)) := by show _ = _; unfold ofR; rw [if_neg h0, if_pos h1]
      go_enter Tryd.func15, Tryd.ntmps15
      go_wp2_with fail
      all_goals
        refine bodyPost_ret (v := Value.tuple #[.agg #[.int .i64 0, .int .i64 0], .int .i64 2]) (by simp [results, Tryd.results15, go_sem, c4, c5]) rfl ?_
        exact ⟨by rw [HR.out]; rfl, HX.out.2⟩
    · have HR : Hid (ofR p q = lowR (p % q).toNat q.toNat) := by show _ = _; unfold ofR; rw [if_neg h0, if_neg h1]
      have g1 : 0 < q := by omega
      have g2 : q ≤ 4294967296 := by omega
      have g7 : 0 ≤ p % q := Int.emod_nonneg _ h0
      have g8 : p % q < q := Int.emod_lt_of_pos _ g1
      have h1' : ¬ q < 0 := by omega
      have b1 : Int.tmod p q = p % q ∨ (Int.tmod p q = p % q - q) := by
        rw [Int.tmod_eq_emod]
        split
        · left; omega
        · right; omega
      obtain ⟨a, ha⟩ := Int.eq_ofNat_of_zero_le g7
      obtain ⟨b, hb⟩ := Int.eq_ofNat_of_zero_le (show 0 ≤ q by omega)
      subst hb
      rw [ha] at HR g8 b1
      simp only [Int.toNat_natCast] at HR
      have HC := hid (fun V => dgcd_any a b V (by omega) (by omega))
      have hd : 0 < Nat.gcd a b := Nat.gcd_pos_of_pos_right _ (by omega)
      have hl := gcd_low a b (by omega) (by omega)
      have k1 : a / Nat.gcd a b ≤ a := Nat.div_le_self _ _
      have k2 : b / Nat.gcd a b ≤ b := Nat.div_le_self _ _
      have hdl : Nat.gcd a b ≤ b := Nat.gcd_le_right _ (by omega)
      rw [hl] at HR
      clear hl
      generalize Nat.gcd a b = d at *
      have d0 : (d : Int) ≠ 0 := by omega
      have e1 : Int.tdiv (a : Int) (d : Int) = ((a / d : Nat) : Int) := by rw [Int.tdiv_eq_ediv_of_nonneg (by omega)]; rfl
      have e2 : Int.tdiv (b : Int) (d : Int) = ((b / d : Nat) : Int) := by rw [Int.tdiv_eq_ediv_of_nonneg (by omega)]; rfl
      generalize a / d = P at *
      generalize b / d = Q at *
      have hsp : (Int.tmod p b < 0 ∧ Int.tmod p b + b = a) ∨ (¬ Int.tmod p b < 0 ∧ Int.tmod p b = a) := by omega
      clear ha b1 h1 g7
      rcases hsp with ⟨s1, s2⟩ | ⟨s1, s2⟩
      all_goals
        clear c4 c5 f4 f5
        go_enter Tryd.func15, Tryd.ntmps15
        go_wp2_with fail
        generalize w.alloc (.cells #[.int .i64 0, .int .i64 0] 23) = X at *
        refine Calls.mono (HC.out X) ?_
        rintro e w1 ⟨rfl, hb1⟩
        obtain ⟨c4, c5, f4, f5⟩ := fbox_facts HX.out.1 hb1
        have HB := hid (b2 HX.out.2 hb1)
        clear hb1 HX HC
        go_wp2_with fail
        go_region
        all_goals
          go_wp2_with fail
          refine bodyPost_ret (v := Value.tuple #[.agg #[.int .i64 (P : Int), .int .i64 (Q : Int)], .int .i64 0]) (by simp [results, Tryd.results15, go_sem, c4, c5]) rfl ?_
          exact ⟨by rw [HR.out]; rfl, by first | exact fput2 HB.out.drew _ (Nat.le_refl _) _ _ | exact (fput2 HB.out _ (Nat.le_refl _) _ _).drew⟩

theorem neg_of {p q : Int} (h : okI p q) : ofR (-p) q = negR p q := by
  obtain ⟨h1, h2, h3, h4, h5⟩ := gcd_back h
  unfold ofR negR
  rw [if_neg (by omega), if_neg (by omega), if_pos h, gcd_low _ _ (by omega) (by omega), h5, Nat.div_one, Nat.div_one]
  congr 1
  · omega
  · congr 1; omega
theorem times_of {p q : Int} (h : okI p q) (n : Int) : ofR (p * n) q = timesR p q n := by
  have h1 := h.1
  have h2 := h.2.1
  unfold ofR timesR
  rw [if_neg (by omega), if_neg (by omega), if_pos h]

end Go.Proofs.YtnhkbnmkcnmbgaaDoor

/- The document's digits of a number. -/
namespace Go.Proofs.YtnhkbnmkcnmbgaaDoor
open Go.RowKit
open Go.Lib
set_option linter.unusedVariables false

theorem dig_one {u : Nat} (h : u < 10) : decDigits u = [UInt8.ofNat (48 + u)] := by rw [decDigits, dif_pos h]
theorem dig_more {u : Nat} (h : ¬ u < 10) : decDigits u = decDigits (u / 10) ++ [UInt8.ofNat (48 + u % 10)] := by rw [decDigits, dif_neg h]

theorem bytes_app (a b : List UInt8) : ((⟨a.toArray⟩ : ByteArray) ++ (⟨b.toArray⟩ : ByteArray)) = ⟨(a ++ b).toArray⟩ := by
  apply ByteArray.ext
  simp [ByteArray.data_append]

set_option maxHeartbeats 800000 in
set_option maxRecDepth 100000 in
theorem ddigit_any (n : Nat) (w : World) (h : n < 10) :
    Calls Tryd.prog 48 #[.int .i64 (n : Int)] w fun e w' => e = .returned (.string ⟨(decDigits n).toArray⟩) ∧ w' = w := by
  rw [dig_one h]
  match n, h with
  | 0, _ | 1, _ | 2, _ | 3, _ | 4, _ | 5, _ | 6, _ | 7, _ | 8, _ | 9, _ =>
    go_enter Tryd.func48, Tryd.ntmps48
    go_wp2_with fail
    go_ret
    exact ⟨rfl, rfl⟩

set_option maxHeartbeats 800000 in
set_option maxRecDepth 100000 in
theorem ddigits_any (n : Nat) (w : World) (h : n < 9223372036854775808) :
    Calls Tryd.prog 48 #[.int .i64 (n : Int)] w fun e w' => e = .returned (.string ⟨(decDigits n).toArray⟩) ∧ w' = w := by
  by_cases h1 : n < 10
  · exact ddigit_any n w h1
  · have H1 := hid (fun V => ddigits_any (n / 10) V (by omega))
    have H2 := hid (fun V => ddigit_any (n % 10) V (by omega))
    have HE := hid (dig_more h1)
    have HO := hid (dig_one (u := n % 10) (by omega))
    have e1 : (n : Int) / 10 = ((n / 10 : Nat) : Int) := rfl
    have e2 : (n : Int) % 10 = ((n % 10 : Nat) : Int) := rfl
    have e3 : Int.tdiv (n : Int) 10 = ((n / 10 : Nat) : Int) := by rw [Int.tdiv_eq_ediv_of_nonneg (by omega)]; rfl
    have e4 : Int.tmod (n : Int) 10 = ((n % 10 : Nat) : Int) := by rw [Int.tmod_eq_emod_of_nonneg (by omega)]; rfl
    have h2 : ¬ (n : Int) < 10 := by omega
    have hl1 : (decDigits (n / 10)).length ≤ 20 := by rw [decDigits_length]; exact nDigits_le20 _ (by omega)
    have hl2 : (decDigits (n % 10)).length = 1 := by rw [HO.out]; rfl
    have HJ : Hid (decDigits n = decDigits (n / 10) ++ decDigits (n % 10)) := by show _ = _; rw [HE.out, HO.out]
    clear HE HO
    generalize n / 10 = a at *
    generalize n % 10 = b at *
    go_enter Tryd.func48, Tryd.ntmps48
    go_wp2_with fail
    refine Calls.mono (H1.out _) ?_
    rintro e w1 ⟨rfl, rfl⟩
    go_wp2_with fail
    refine Calls.mono (H2.out _) ?_
    rintro e w1 ⟨rfl, rfl⟩
    go_wp2_with fail
    go_ret
    exact ⟨by rw [HJ.out]; exact congrArg (fun z => Ending.returned (.string z)) (bytes_app _ _), rfl⟩
termination_by n
decreasing_by omega

/-- The table of powers of ten stands as the library's text lays it. -/
def TabT (w : World) : Prop := Lib.TabIs Tryd.prog w "internal/strconv.uint64pow10" .u64 Lib.pow10Tab
theorem TabT.later {w w' : World} (h : TabT w) (hb : Below w.heap.size w w') : TabT w' := by
  unfold TabT Lib.TabIs World.var? at *
  cases hg : Tryd.prog.globalNamed "internal/strconv.uint64pow10" with
  | none => simp [hg] at h
  | some g =>
    simp only [hg, Option.bind_some] at h ⊢
    have hlt : g < w.heap.size := by
      rcases Nat.lt_or_ge g w.heap.size with h' | h'
      · exact h'
      · rw [Array.getElem?_eq_none h'] at h; simp at h
    rw [hb.block g hlt]
    exact h

/-- A turn's text. -/
def txtT (p q : Int) : List UInt8 := itoa p ++ (47 :: itoa q)
def printR (p q : Int) : List UInt8 × Int := if okI p q then (txtT p q, 0) else ([], 180)
def pV (x : List UInt8 × Int) : Value := .tuple #[.string ⟨x.1.toArray⟩, .int .i64 x.2]

theorem itoa_len (n : Int) (h0 : -9223372036854775808 ≤ n) (h1 : n ≤ 9223372036854775807) : (itoa n).length ≤ 21 := by
  unfold itoa
  split
  · rw [List.length_cons, decDigits_length]
    have := nDigits_le20 n.natAbs (by omega)
    omega
  · rw [decDigits_length]
    have := nDigits_le20 n.toNat (by omega)
    omega

theorem tformat_any (n : Int) (w : World) (h0 : -9223372036854775808 ≤ n) (h1 : n ≤ 9223372036854775807) (htab : TabT w) :
    Calls Tryd.prog 46 #[.int .i64 n, .int .i64 10] w fun e w' => e = .returned (.string ⟨(itoa n).toArray⟩) ∧ Below w.heap.size w w' := by
  refine Calls.mono (Tryd.strconv_FormatInt_10 n h0 h1 w htab) ?_
  rintro e w' ⟨rfl, k, os, rfl⟩
  refine ⟨rfl, rfl, rfl, rfl, ?_, fun b hb => ?_⟩
  · show w.heap.size ≤ (w.heap ++ os).size
    rw [Array.size_append]; omega
  · show (w.heap ++ os)[b]? = w.heap[b]?
    rw [Array.getElem?_append_left hb]

set_option maxHeartbeats 1600000 in
set_option maxRecDepth 100000 in
theorem ttext_any (p q : Int) (w : World) (h : in64 p q) (htab : TabT w) :
    Calls Tryd.prog 32 #[.agg #[.int .i64 p, .int .i64 q]] w fun e w' => e = .returned (.string ⟨(txtT p q).toArray⟩) ∧ Below w.heap.size w w' := by
  have HX := hid (boxes1 w 23 #[.int .i64 p, .int .i64 q])
  have HT := hid htab
  have l1 := itoa_len p h.1.1 h.1.2
  have l2 := itoa_len q h.2.1 h.2.2
  have hm1 : ¬ 9223372036854775807 < (itoa p).length + 1 := by omega
  have hm2 : ¬ 9223372036854775807 < (itoa p).length + 1 + (itoa q).length := by omega
  have HI := hid h
  have HE : Hid ((⟨(itoa p).toArray⟩ : ByteArray) ++ (⟨#[47]⟩ : ByteArray) ++ (⟨(itoa q).toArray⟩ : ByteArray) = ⟨(txtT p q).toArray⟩) := by
    show _ = _
    rw [show (⟨#[47]⟩ : ByteArray) = ⟨([47] : List UInt8).toArray⟩ from rfl, bytes_app, bytes_app]
    unfold txtT
    simp
  clear h htab
  go_enter Tryd.func32, Tryd.ntmps32
  go_wp2_with fail
  generalize w.alloc (.cells #[.int .i64 p, .int .i64 q] 23) = X at *
  have HF : Hid (∀ V, Below X.heap.size X V → V.cell? ⟨w.heap.size, 0, none⟩ = some (.int .i64 p) ∧ V.cell? ⟨w.heap.size, 1, none⟩ = some (.int .i64 q)) := fun V hv => by
    obtain ⟨c0, c1, _, _⟩ := fbox_facts HX.out.1 hv
    exact ⟨c0, c1⟩
  have hs0 := HF.out _ (Below.refl _ X).drew
  have hd0 := hid (Below.refl X.heap.size X).drew
  have H1 : Hid (∀ ww, Below X.heap.size X ww → Calls Tryd.prog 46 #[.int .i64 p, .int .i64 10] ww fun e w' => e = .returned (.string ⟨(itoa p).toArray⟩) ∧ (w'.cell? ⟨w.heap.size, 0, none⟩ = some (.int .i64 p) ∧ w'.cell? ⟨w.heap.size, 1, none⟩ = some (.int .i64 q)) ∧ Below X.heap.size X w') := fun ww hv => by
    refine Calls.mono (tformat_any p ww HI.out.1.1 HI.out.1.2 (HT.out.later (b2 HX.out.2 hv))) ?_
    rintro e w' ⟨rfl, h⟩
    exact ⟨rfl, HF.out _ (b2 hv h), b2 hv h⟩
  have H2 : Hid (∀ ww, Below X.heap.size X ww → Calls Tryd.prog 46 #[.int .i64 q, .int .i64 10] ww fun e w' => e = .returned (.string ⟨(itoa q).toArray⟩) ∧ (w'.cell? ⟨w.heap.size, 0, none⟩ = some (.int .i64 p) ∧ w'.cell? ⟨w.heap.size, 1, none⟩ = some (.int .i64 q)) ∧ Below X.heap.size X w') := fun ww hv => by
    refine Calls.mono (tformat_any q ww HI.out.2.1 HI.out.2.2 (HT.out.later (b2 HX.out.2 hv))) ?_
    rintro e w' ⟨rfl, h⟩
    exact ⟨rfl, HF.out _ (b2 hv h), b2 hv h⟩
  clear HF HT HI
  go_region_held3 (fun V : World => V.cell? ⟨w.heap.size, 0, none⟩ = some (.int .i64 p) ∧ V.cell? ⟨w.heap.size, 1, none⟩ = some (.int .i64 q)) (first | exact hs2 | exact hs1 | exact hs0)
    (first
      | (go_at_call 46; with_reducible refine Calls.mono (H2.out _ hb2) ?_; rintro e w3 ⟨rfl, hs2, hb3⟩)
      | (go_at_call 46; with_reducible refine Calls.mono (H1.out _ hd0.out) ?_; rintro e w2 ⟨rfl, hs1, hb2⟩))
  all_goals
    have HB := hid (b2 HX.out.2 hb3)
    clear hs0 hs1 hs2 hb2 hb3 HX H1 H2 hd0
    go_wp2_with fail
    go_ret
    exact ⟨congrArg (fun z => Ending.returned (.string z)) HE.out, HB.out⟩

set_option maxHeartbeats 1600000 in
set_option maxRecDepth 100000 in
theorem tprint_any (p q : Int) (w : World) (h : in64 p q) (htab : TabT w) :
    Calls Tryd.prog 17 #[.agg #[.int .i64 p, .int .i64 q]] w fun e w' => e = .returned (pV (printR p q)) ∧ Below w.heap.size w w' := by
  have HX := hid (boxes1 w 23 #[.int .i64 p, .int .i64 q])
  have HC := hid (fun V => tcheck_any p q V h.1.1 h.1.2 h.2.1 h.2.2)
  have HT : Hid (∀ V, Below w.heap.size w V → Calls Tryd.prog 32 #[.agg #[.int .i64 p, .int .i64 q]] V fun e w' => e = .returned (.string ⟨(txtT p q).toArray⟩) ∧ Below V.heap.size V w') := fun V hv => ttext_any p q V h (htab.later hv)
  have HO := hid (chk_or p q)
  have HV1 : Hid (okI p q → printR p q = (txtT p q, 0)) := fun h => by unfold printR; rw [if_pos h]
  have HV2 : Hid (¬ okI p q → printR p q = ([], 180)) := fun h => by unfold printR; rw [if_neg h]
  clear h htab
  go_enter Tryd.func17, Tryd.ntmps17
  go_wp2_with fail
  generalize w.alloc (.cells #[.int .i64 p, .int .i64 q] 23) = X at *
  refine Calls.mono (HC.out X) ?_
  rintro e w1 ⟨rfl, hb1⟩
  obtain ⟨c0, c1, f0, f1⟩ := fbox_facts HX.out.1 hb1
  have HB := hid (b2 HX.out.2 hb1)
  clear hb1
  rcases HO.out with ⟨e, ho⟩ | ⟨e, ho⟩
  · rw [e]
    have HR := hid (HV1.out ho)
    clear HO HV1 HV2 e ho HC
    go_wp2_with fail
    refine Calls.mono (HT.out _ HB.out) ?_
    rintro e w2 ⟨rfl, hb2⟩
    have HB2 := hid (b2 HB.out hb2)
    clear hb2 c0 c1 f0 f1 HX HB HT
    go_wp2_with fail
    go_returns
    exact ⟨by rw [HR.out]; rfl, HB2.out⟩
  · rw [e]
    have HR := hid (HV2.out ho)
    clear HO HV1 HV2 e ho HC HT HX
    go_wp2_with fail
    go_returns
    exact ⟨by rw [HR.out]; rfl, HB.out⟩

set_option maxHeartbeats 1600000 in
set_option maxRecDepth 100000 in
theorem dprint_any (p q : Int) (w : World) (h : in64 p q) :
    Calls Tryd.prog 35 #[.agg #[.int .i64 p, .int .i64 q]] w fun e w' => e = .returned (pV (printR p q)) ∧ Below w.heap.size w w' := by
  have HX := hid (boxes1 w 23 #[.int .i64 p, .int .i64 q])
  have HC := hid (fun V => dcheck_any p q V h.1.1 h.1.2 h.2.1 h.2.2)
  have HO := hid (chk_or p q)
  have HV1 : Hid (okI p q → printR p q = (txtT p q, 0)) := fun h => by unfold printR; rw [if_pos h]
  have HV2 : Hid (¬ okI p q → printR p q = ([], 180)) := fun h => by unfold printR; rw [if_neg h]
  have HD : Hid (okI p q → (itoa p).length ≤ 21 ∧ (itoa q).length ≤ 21 ∧ (∀ V, Calls Tryd.prog 48 #[.int .i64 p] V fun e w' => e = .returned (.string ⟨(itoa p).toArray⟩) ∧ w' = V) ∧ (∀ V, Calls Tryd.prog 48 #[.int .i64 q] V fun e w' => e = .returned (.string ⟨(itoa q).toArray⟩) ∧ w' = V)) := fun ho => by
    obtain ⟨h1, h2, h3, h4, _⟩ := ho
    refine ⟨itoa_len p (by omega) (by omega), itoa_len q (by omega) (by omega), fun V => ?_, fun V => ?_⟩
    · obtain ⟨a, rfl⟩ := Int.eq_ofNat_of_zero_le h3
      have e := ddigits_any a V (by omega)
      unfold itoa
      rw [if_neg (by omega), Int.toNat_natCast]
      exact e
    · obtain ⟨a, rfl⟩ := Int.eq_ofNat_of_zero_le (show 0 ≤ q by omega)
      have e := ddigits_any a V (by omega)
      unfold itoa
      rw [if_neg (by omega), Int.toNat_natCast]
      exact e
  have HE : Hid ((⟨(itoa p).toArray⟩ : ByteArray) ++ (⟨#[47]⟩ : ByteArray) ++ (⟨(itoa q).toArray⟩ : ByteArray) = ⟨(txtT p q).toArray⟩) := by
    show _ = _
    rw [show (⟨#[47]⟩ : ByteArray) = ⟨([47] : List UInt8).toArray⟩ from rfl, bytes_app, bytes_app]
    unfold txtT
    simp
  clear h
  go_enter Tryd.func35, Tryd.ntmps35
  go_wp2_with fail
  generalize w.alloc (.cells #[.int .i64 p, .int .i64 q] 23) = X at *
  refine Calls.mono (HC.out X) ?_
  rintro e w1 ⟨rfl, hb1⟩
  obtain ⟨c0, c1, f0, f1⟩ := fbox_facts HX.out.1 hb1
  have HB := hid (b2 HX.out.2 hb1)
  clear hb1
  rcases HO.out with ⟨e, ho⟩ | ⟨e, ho⟩
  · rw [e]
    have HR := hid (HV1.out ho)
    obtain ⟨l1, l2, hd1, hd2⟩ := HD.out ho
    have HD1 := hid hd1
    have HD2 := hid hd2
    have hm1 : ¬ 9223372036854775807 < (itoa p).length + 1 := by omega
    have hm2 : ¬ 9223372036854775807 < (itoa p).length + 1 + (itoa q).length := by omega
    clear HO HV1 HV2 e ho HC hd1 hd2 HD HX l1 l2
    generalize itoa p = A at *
    generalize itoa q = B at *
    go_wp2_with fail
    go_quiet ((go_at_call 48; first | with_reducible exact Calls.quiet_of_same (HD1.out _) | with_reducible exact Calls.quiet_of_same (HD2.out _)))
    go_wp2_with fail
    go_returns
    exact ⟨by rw [HR.out]; exact congrArg (fun z => Ending.returned (.tuple #[.string z, .int .i64 0])) HE.out, bdrewN HB.out _⟩
  · rw [e]
    have HR := hid (HV2.out ho)
    clear HO HV1 HV2 e ho HC HX HD
    go_wp2_with fail
    go_returns
    exact ⟨by rw [HR.out]; rfl, HB.out⟩
end Go.Proofs.YtnhkbnmkcnmbgaaDoor

/- strings.Cut at one byte; turn.number of any text. -/
namespace Go.Proofs.YtnhkbnmkcnmbgaaDoor
open Go.RowKit
set_option linter.unusedVariables false

/-- strconv's two errors are values of their type. -/
def ErrT (w : World) : Prop := (∃ te pe, w.cell? ⟨2, 0, none⟩ = some (.iface te pe)) ∧ (∃ te pe, w.cell? ⟨3, 0, none⟩ = some (.iface te pe))
theorem cell_lt {w : World} {b j : Nat} {v : Value} (h : w.cell? ⟨b, j, none⟩ = some v) : b < w.heap.size := by
  rcases Nat.lt_or_ge b w.heap.size with h' | h'
  · exact h'
  · unfold World.cell? at h
    rw [Array.getElem?_eq_none h'] at h
    simp at h
theorem ErrT.later {w w' : World} (h : ErrT w) (hb : Below w.heap.size w w') : ErrT w' := by
  obtain ⟨⟨a, b, h1⟩, c, d, h2⟩ := h
  exact ⟨⟨a, b, (hb.cell (p := ⟨_, 0, none⟩) (cell_lt h1)).trans h1⟩, c, d, (hb.cell (p := ⟨_, 0, none⟩) (cell_lt h2)).trans h2⟩

/-- The number that a text is, or -1. -/
def numB (l : List UInt8) : Int := match Lib.parseIntB 64 l with
  | .ok v => v
  | _ => -1

set_option maxHeartbeats 1600000 in
set_option maxRecDepth 100000 in
theorem tnumber_any (s : ByteArray) (w : World) (hs : s.size ≤ 281474976710656) (he : ErrT w) :
    Calls Tryd.prog 31 #[.string s] w fun e w' => e = .returned (.int .i64 (numB s.data.toList)) ∧ Below w.heap.size w w' := by
  obtain ⟨⟨te, pe, h1⟩, te2, pe2, h2⟩ := he
  cases hp : Lib.parseIntB 64 s.data.toList with
  | ok v =>
    have HR : Hid (numB s.data.toList = v) := by show _ = _; unfold numB; rw [hp]
    have HC := hid (Tryd.strconv_ParseInt_10_at64_ok s (by omega) v hp w)
    clear hp
    go_enter Tryd.func31, Tryd.ntmps31
    go_wp2_with fail
    refine Calls.mono HC.out ?_
    rintro e w1 ⟨rfl, hw1⟩
    have HB : Hid (Below w.heap.size w w1) := by
      rcases hw1 with rfl | ⟨t, rfl⟩
      · exact Below.refl _ _
      · exact Lib.bytesWorld_below w _ t
    clear hw1
    go_wp2_with fail
    go_ret
    exact ⟨ret_int HR.out.symm, HB.out⟩
  | «syntax» =>
    have HR : Hid (numB s.data.toList = -1) := by show _ = _; unfold numB; rw [hp]
    have HC := hid (Tryd.strconv_ParseInt_10_at64_syntax s hs hp _ w h1 (.inr ⟨te, pe, rfl⟩))
    clear hp
    go_enter Tryd.func31, Tryd.ntmps31
    go_wp2_with fail
    refine Calls.mono HC.out ?_
    rintro e w1 ⟨N, rfl, hN, _, hb⟩
    go_wp2_with fail
    go_ret
    exact ⟨ret_int HR.out.symm, hb⟩
  | range =>
    have HR : Hid (numB s.data.toList = -1) := by show _ = _; unfold numB; rw [hp]
    have HC := hid (Tryd.strconv_ParseInt_10_at64_range s hs hp _ w h2 (.inr ⟨te2, pe2, rfl⟩))
    clear hp
    go_enter Tryd.func31, Tryd.ntmps31
    go_wp2_with fail
    refine Calls.mono HC.out ?_
    rintro e w1 ⟨N, rfl, hN, _, hb⟩
    go_wp2_with fail
    go_ret
    exact ⟨ret_int HR.out.symm, hb⟩

set_option maxHeartbeats 1600000 in
set_option maxRecDepth 100000 in
theorem cut_any (s : ByteArray) (w : World) (hs : s.size ≤ 281474976710656) :
    Calls Tryd.prog 44 #[.string s, .string ⟨#[47]⟩] w fun e w' => e = .returned (.tuple #[.string ⟨(Lib.cut s.data.toList [47]).1.toArray⟩, .string ⟨(Lib.cut s.data.toList [47]).2.1.toArray⟩, .bool (Lib.cut s.data.toList [47]).2.2]) ∧ Below w.heap.size w w' := by
  have HI := hid (Tryd.stringslite_Index_one s 47 w)
  rw [← Lib.index_one] at HI
  rcases Lib.indexB_cases s ⟨#[47]⟩ with hix | ⟨i, hix, hroom⟩
  · obtain ⟨e1, e2, e3⟩ := Lib.cutB_miss s ⟨#[47]⟩ hix
    have e1' : (⟨(Lib.cut s.data.toList [47]).1.toArray⟩ : ByteArray) = _ := e1
    have e2' : (⟨(Lib.cut s.data.toList [47]).2.1.toArray⟩ : ByteArray) = _ := e2
    have e3' : (Lib.cut s.data.toList [47]).2.2 = _ := e3
    have hix' : Lib.index s.data.toList [47] = -1 := hix
    rw [hix'] at HI
    rw [e1', e2', e3']
    clear e1 e2 e3 e1' e2' e3' hix hix'
    go_enter Tryd.func44, Tryd.ntmps44
    go_wp2_with fail
    refine Calls.mono HI.out ?_
    rintro e w1 ⟨rfl, rfl⟩
    go_wp2_with fail
    go_returns
    exact ⟨rfl, Below.refl _ _⟩
  · obtain ⟨e1, e2, e3⟩ := Lib.cutB_hit s ⟨#[47]⟩ i hix
    have e1' : (⟨(Lib.cut s.data.toList [47]).1.toArray⟩ : ByteArray) = _ := e1
    have e2' : (⟨(Lib.cut s.data.toList [47]).2.1.toArray⟩ : ByteArray) = _ := e2
    have e3' : (Lib.cut s.data.toList [47]).2.2 = _ := e3
    have hix' : Lib.index s.data.toList [47] = (i : Int) := hix
    rw [hix'] at HI
    rw [e1', e2', e3']
    have hr : i + 1 ≤ s.size := hroom
    have c1 : (0 : Int) ≤ ↑i := by omega
    have c2 : (↑i : Int) ≤ ↑s.size := by omega
    have c3 : (0 : Int) ≤ ↑i + 1 := by omega
    have c4 : (↑i + 1 : Int) ≤ ↑s.size := by omega
    have hw : IntKind.i64.wrap ((i : Int) + 1) = (i : Int) + 1 := by rw [IntKind.wrap_i64]; omega
    have ht : ((i : Int) + 1).toNat = i + 1 := by omega
    clear e1 e2 e3 e1' e2' e3' hix hix' hroom
    go_enter Tryd.func44, Tryd.ntmps44
    go_wp2_with fail
    refine Calls.mono HI.out ?_
    rintro e w1 ⟨rfl, rfl⟩
    go_wp2_with fail
    go_region
    go_wp2_with fail
    go_returns
    exact ⟨rfl, (Below.refl _ _).drew⟩
set_option maxHeartbeats 1600000 in
set_option maxRecDepth 100000 in
theorem scut_any (s : ByteArray) (w : World) (hs : s.size ≤ 281474976710656) :
    Calls Tryd.prog 30 #[.string s, .string ⟨#[47]⟩] w fun e w' => e = .returned (.tuple #[.string ⟨(Lib.cut s.data.toList [47]).1.toArray⟩, .string ⟨(Lib.cut s.data.toList [47]).2.1.toArray⟩, .bool (Lib.cut s.data.toList [47]).2.2]) ∧ Below w.heap.size w w' := by
  have HC := hid (cut_any s w hs)
  generalize (Lib.cut s.data.toList [47]).1.toArray = A at *
  generalize (Lib.cut s.data.toList [47]).2.1.toArray = B at *
  generalize (Lib.cut s.data.toList [47]).2.2 = C at *
  go_enter Tryd.func30, Tryd.ntmps30
  go_wp2_with fail
  refine Calls.mono HC.out ?_
  rintro e w1 ⟨rfl, hb⟩
  go_wp2_with fail
  go_returns
  exact ⟨rfl, hb⟩

/-- What Parse tells. -/
def readR (s : List UInt8) : Int × Int × Int := if okI (numB (Lib.cut s [47]).1) (numB (Lib.cut s [47]).2.1) ∧ txtT (numB (Lib.cut s [47]).1) (numB (Lib.cut s [47]).2.1) = s then (numB (Lib.cut s [47]).1, numB (Lib.cut s [47]).2.1, 0) else (0, 0, 180)

theorem numB_in (l : List UInt8) : -9223372036854775808 ≤ numB l ∧ numB l ≤ 9223372036854775807 := by
  unfold numB
  cases hp : Lib.parseIntB 64 l with
  | ok v =>
    simp only
    unfold Lib.parseIntB at hp
    split at hp
    · cases hp
    · simp only at hp
      split at hp
      · cases hp
      · cases hp
      · split at hp
        · cases hp
        · split at hp
          · cases hp
          · cases hp
            split <;> simp_all <;> omega
  | «syntax» => exact ⟨by decide, by decide⟩
  | range => exact ⟨by decide, by decide⟩
end Go.Proofs.YtnhkbnmkcnmbgaaDoor

/- turn.Parse of any text. -/
namespace Go.Proofs.YtnhkbnmkcnmbgaaDoor
open Go.RowKit
set_option linter.unusedVariables false

theorem str_other2 {s t : ByteArray} (h : ¬ s = t) : (s.toList == t.toList) = false := by
  rw [Lib.toList_data, Lib.toList_data]
  exact beq_eq_false_iff_ne.2 (fun e => h (ByteArray.ext (Array.toList_inj.1 e)))
theorem cut_len (l : List UInt8) : (Lib.cut l [47]).1.length ≤ l.length ∧ (Lib.cut l [47]).2.1.length ≤ l.length := by
  unfold Lib.cut
  split
  · exact ⟨by rw [List.length_take]; omega, by rw [List.length_drop]; omega⟩
  · exact ⟨Nat.le_refl _, Nat.zero_le _⟩

set_option maxHeartbeats 1600000 in
set_option maxRecDepth 100000 in
theorem tparse_any (s : ByteArray) (w : World) (hs : s.size ≤ 281474976710656) (he : ErrT w) (ht : TabT w) :
    Calls Tryd.prog 13 #[.string s] w fun e w' => e = .returned (tV (readR s.data.toList)) ∧ Below w.heap.size w w' := by
  have HX := hid (boxes1 w 23 #[.int .i64 0, .int .i64 0])
  have HE := hid he
  have HT := hid ht
  have HCU := hid (fun V => scut_any s V hs)
  have hl := cut_len s.data.toList
  have hsz : s.data.toList.length = s.size := by rw [Array.length_toList]; rfl
  obtain ⟨A, hA⟩ : ∃ A, (Lib.cut s.data.toList [47]).1 = A := ⟨_, rfl⟩
  obtain ⟨B, hB⟩ : ∃ B, (Lib.cut s.data.toList [47]).2.1 = B := ⟨_, rfl⟩
  have HV : Hid (readR s.data.toList = if okI (numB A) (numB B) ∧ txtT (numB A) (numB B) = s.data.toList then (numB A, numB B, 0) else (0, 0, 180)) := by show _ = _; unfold readR; rw [hA, hB]
  rw [hA, hB] at hl HCU
  generalize (Lib.cut s.data.toList [47]).2.2 = C at *
  clear hA hB
  have HN1 : Hid (∀ V, Below w.heap.size w V → Calls Tryd.prog 31 #[.string ⟨A.toArray⟩] V fun e w' => e = .returned (.int .i64 (numB A)) ∧ Below V.heap.size V w') := fun V hv => by
    have e := tnumber_any ⟨A.toArray⟩ V (by show A.toArray.size ≤ _; rw [List.size_toArray]; omega) (HE.out.later hv)
    exact e
  have HN2 : Hid (∀ V, Below w.heap.size w V → Calls Tryd.prog 31 #[.string ⟨B.toArray⟩] V fun e w' => e = .returned (.int .i64 (numB B)) ∧ Below V.heap.size V w') := fun V hv => by
    have e := tnumber_any ⟨B.toArray⟩ V (by show B.toArray.size ≤ _; rw [List.size_toArray]; omega) (HE.out.later hv)
    exact e
  have bA := numB_in A
  have bB := numB_in B
  have HK := hid (fun V => tcheck_any (numB A) (numB B) V bA.1 bA.2 bB.1 bB.2)
  have HTX : Hid (∀ V, Below w.heap.size w V → Calls Tryd.prog 32 #[.agg #[.int .i64 (numB A), .int .i64 (numB B)]] V fun e w' => e = .returned (.string ⟨(txtT (numB A) (numB B)).toArray⟩) ∧ Below V.heap.size V w') := fun V hv => ttext_any (numB A) (numB B) V ⟨bA, bB⟩ (HT.out.later hv)
  have HO := hid (chk_or (numB A) (numB B))
  generalize numB A = a at *
  generalize numB B = b at *
  clear hl hsz he ht
  go_enter Tryd.func13, Tryd.ntmps13
  go_wp2_with fail
  generalize w.alloc (.cells #[.int .i64 0, .int .i64 0] 23) = X at *
  refine Calls.mono (HCU.out X) ?_
  rintro e w1 ⟨rfl, hb1⟩
  have HB1 := hid (b2 HX.out.2 hb1)
  go_wp2_with fail
  refine Calls.mono (HN1.out _ HB1.out) ?_
  rintro e w2 ⟨rfl, hb2⟩
  have HB2 := hid (b2 HB1.out hb2)
  go_wp2_with fail
  refine Calls.mono (HN2.out _ HB2.out) ?_
  rintro e w3 ⟨rfl, hb3⟩
  have HB3 := hid (b2 HB2.out hb3)
  have BR := hid (HX.out.1.later (b2 hb1 (b2 hb2 hb3)) HX.out.1.lt)
  clear HX hb1 hb2 hb3 HB1 HB2 HN1 HN2 HCU
  have HN := hid (boxes1 w3 23 #[.int .i64 a, .int .i64 b])
  obtain ⟨w4, hW⟩ : ∃ w4, w3.alloc (.cells #[.int .i64 a, .int .i64 b] 23) = w4 := ⟨_, rfl⟩
  rw [hW] at HN
  have HB4 := hid (b2 HB3.out HN.out.2)
  replace BR := hid (BR.out.later HN.out.2 BR.out.lt)
  have BT := hid HN.out.1
  clear HN HB3
  obtain ⟨c0, c1, f0, f1⟩ := fbox_facts BT.out (Below.refl _ _)
  go_wp2_with fail
  clear hW
  refine Calls.mono (HK.out _) ?_
  rintro e w5 ⟨rfl, hb5⟩
  have HB5 := hid (b2 HB4.out hb5)
  replace BR := hid (BR.out.later hb5 BR.out.lt)
  replace BT := hid (BT.out.later hb5 BT.out.lt)
  clear c0 c1 f0 f1 hb5 HB4 HK
  obtain ⟨c0, c1, f0, f1⟩ := fbox_facts BT.out (Below.refl _ _)
  obtain ⟨c4, c5, f4, f5⟩ := fbox_facts BR.out (Below.refl _ _)
  rcases HO.out with ⟨e, ho⟩ | ⟨e, ho⟩
  · rw [e]
    clear e
    go_wp2_with fail
    refine Calls.mono (HTX.out _ HB5.out) ?_
    rintro e w6 ⟨rfl, hb6⟩
    have HB6 := hid (b2 HB5.out hb6)
    replace BR := hid (BR.out.later hb6 BR.out.lt)
    replace BT := hid (BT.out.later hb6 BT.out.lt)
    clear c0 c1 f0 f1 c4 c5 f4 f5 hb6 HB5 HTX HO
    obtain ⟨c0, c1, f0, f1⟩ := fbox_facts BT.out (Below.refl _ _)
    obtain ⟨c4, c5, f4, f5⟩ := fbox_facts BR.out (Below.refl _ _)
    by_cases h : txtT a b = s.data.toList
    · have HR : Hid (readR s.data.toList = (a, b, 0)) := by show _ = _; rw [HV.out, if_pos ⟨ho, h⟩]
      have hst : (⟨(txtT a b).toArray⟩ : ByteArray) = s := ByteArray.ext (by show (txtT a b).toArray = s.data; rw [h, Array.toArray_toList])
      rw [hst]
      clear hst h ho HV
      go_wp2_with fail
      refine bodyPost_ret (v := Value.tuple #[.agg #[.int .i64 a, .int .i64 b], .int .i64 0]) (by simp [results, Tryd.results13, go_sem, c4, c5]) rfl ?_
      exact ⟨by rw [HR.out]; rfl, fput2 HB6.out _ (Nat.le_refl _) _ _⟩
    · have HR : Hid (readR s.data.toList = (0, 0, 180)) := by show _ = _; rw [HV.out, if_neg (fun k => h k.2)]
      have hst := str_other2 (s := ⟨(txtT a b).toArray⟩) (t := s) (fun e => h (by rw [← e]))
      generalize (⟨(txtT a b).toArray⟩ : ByteArray) = T at *
      clear h ho HV
      go_wp2_with fail
      refine bodyPost_ret (v := Value.tuple #[.agg #[.int .i64 0, .int .i64 0], .int .i64 180]) (by simp [results, Tryd.results13, go_sem, c4, c5]) rfl ?_
      exact ⟨by rw [HR.out]; rfl, fput2 HB6.out _ (Nat.le_refl _) _ _⟩
  · rw [e]
    have HR : Hid (readR s.data.toList = (0, 0, 180)) := by show _ = _; rw [HV.out, if_neg (fun k => ho k.1)]
    clear e ho HV HO HTX
    go_wp2_with fail
    refine bodyPost_ret (v := Value.tuple #[.agg #[.int .i64 0, .int .i64 0], .int .i64 180]) (by simp [results, Tryd.results13, go_sem, c4, c5]) rfl ?_
    exact ⟨by rw [HR.out]; rfl, fput2 HB5.out _ (Nat.le_refl _) _ _⟩
end Go.Proofs.YtnhkbnmkcnmbgaaDoor

/- Turns are a group: sums, opposites, multiples of sizes, whole turns left out. Nothing here speaks of the program. -/
namespace Go.Proofs.YtnhkbnmkcnmbgaaDoor
open Go.RowKit
set_option linter.unusedVariables false

/-- A size in lowest terms, or refused. -/
def canon (r : Rat) : Int × Int × Int := if r.den ≤ 4294967296 then (r.num, (r.den : Int), 0) else (0, 0, 3)

theorem frac_bounds (x : Rat) : 0 ≤ frac x ∧ frac x < 1 := by
  unfold frac
  have a := Rat.floor_le x
  have b := Rat.lt_floor_add_one x
  rw [Rat.intCast_add] at b
  constructor
  · grind
  · have : (((1 : Int) : Rat)) = 1 := rfl
    grind
theorem frac_self {x : Rat} (h0 : 0 ≤ x) (h1 : x < 1) : frac x = x := frac_unique 0 (by simp; grind) h0 h1
theorem frac_add_frac (x y : Rat) : frac (x + frac y) = frac (x + y) := by
  have e : x + y = (x + frac y) + (y.floor : Rat) := by unfold frac; grind
  rw [e, frac_add_int]
theorem frac_frac_add (x y : Rat) : frac (frac x + y) = frac (x + y) := by
  rw [Rat.add_comm, frac_add_frac, Rat.add_comm]

theorem lowR_canon (p q : Nat) (hq : 0 < q) : lowR p q = canon (mkRat p q) := by
  obtain ⟨a, b⟩ := mkRat_nd p q hq
  unfold lowR canon
  rw [a, b]

theorem mkRat_unit (z : Int) (q : Nat) (hq : 0 < q) (h0 : 0 ≤ z) (h1 : z < q) : 0 ≤ mkRat z q ∧ mkRat z q < 1 := by
  rw [Rat.mkRat_eq_div]
  have hq' : (0 : Rat) < (q : Rat) := by exact_mod_cast hq
  have h0' : (0 : Rat) ≤ (z : Rat) := by exact_mod_cast h0
  have h1' : (z : Rat) < ((q : Int) : Rat) := by exact_mod_cast h1
  have e : (((q : Int) : Rat)) = (q : Rat) := rfl
  rw [e] at h1'
  constructor
  · refine Rat.not_lt.1 fun h => ?_
    rw [Rat.div_lt_iff hq'] at h; grind
  · rw [Rat.div_lt_iff hq']; grind

/-- What is left of whole turns. -/
theorem mkRat_mod (z : Int) (q : Nat) (hq : 0 < q) : mkRat (z % q) q = frac (mkRat z q) := by
  have hb := mkRat_unit (z % q) q hq (Int.emod_nonneg _ (by omega)) (Int.emod_lt_of_pos _ (by omega))
  refine (frac_unique (z / q) ?_ hb.1 hb.2).symm
  have hq' : ((q : Rat)) ≠ 0 := by
    intro h; have : q = 0 := by exact_mod_cast h
    omega
  rw [Rat.mkRat_eq_div, Rat.mkRat_eq_div]
  have e : (z : Rat) = ((z % q : Int) : Rat) + ((z / q : Int) : Rat) * (q : Rat) := by
    have := Int.emod_add_mul_ediv z q
    have e2 : ((((z % q) + q * (z / q) : Int)) : Rat) = (z : Rat) := by rw [this]
    rw [Rat.intCast_add, Rat.intCast_mul] at e2
    have e3 : (((q : Int) : Rat)) = (q : Rat) := rfl
    rw [e3] at e2
    grind
  rw [e]
  grind

/-- A turn's size. -/
def vI (p q : Int) : Rat := mkRat p q.toNat

theorem vI_nd {p q : Int} (h : okI p q) : (vI p q).num = p ∧ ((vI p q).den : Int) = q ∧ 0 ≤ vI p q ∧ vI p q < 1 := by
  obtain ⟨h1, h2, h3, h4, h5⟩ := h
  obtain ⟨a, rfl⟩ := Int.eq_ofNat_of_zero_le h3
  obtain ⟨b, rfl⟩ := Int.eq_ofNat_of_zero_le (show 0 ≤ q by omega)
  have e := mkRat_nd a b (by omega)
  simp only [Int.toNat_natCast] at h5
  rw [h5, Nat.div_one, Nat.div_one] at e
  unfold vI
  simp only [Int.toNat_natCast]
  have u := mkRat_unit a b (by omega) (by omega) (by omega)
  exact ⟨e.1, by rw [e.2], u.1, u.2⟩
theorem canon_vI {p q : Int} (h : okI p q) : canon (vI p q) = (p, q, 0) := by
  obtain ⟨a, b, _, _⟩ := vI_nd h
  have := h.2.1
  unfold canon
  rw [if_pos (by omega), a, b]
theorem canon_ok {r : Rat} (h0 : 0 ≤ r) (h1 : r < 1) (hd : r.den ≤ 4294967296) : okI r.num r.den ∧ vI r.num r.den = r := by
  have hn : 0 ≤ r.num := Rat.num_nonneg.2 h0
  have hdp := r.den_pos
  have hl : r.num < (r.den : Int) := by
    have h2 : mkRat r.num r.den < 1 := by rw [Rat.mkRat_self]; exact h1
    have hq' : (0 : Rat) < (r.den : Rat) := by exact_mod_cast hdp
    rw [Rat.mkRat_eq_div, Rat.div_lt_iff hq'] at h2
    have e : (r.num : Rat) < (((r.den : Int)) : Rat) := by
      have e3 : ((((r.den : Int)) : Rat)) = (r.den : Rat) := rfl
      rw [e3]; grind
    exact_mod_cast e
  refine ⟨⟨by omega, by omega, hn, hl, ?_⟩, ?_⟩
  · have := r.reduced
    unfold Nat.Coprime at this
    rw [← this]
    simp only [Int.toNat_natCast]
    congr 1
    omega
  · unfold vI; simp only [Int.toNat_natCast]; exact Rat.mkRat_self r
theorem canon_cases (r : Rat) : (canon r = (r.num, (r.den : Int), 0) ∧ r.den ≤ 4294967296) ∨ (canon r = (0, 0, 3) ∧ ¬ r.den ≤ 4294967296) := by
  unfold canon
  by_cases h : r.den ≤ 4294967296
  · rw [if_pos h]; exact .inl ⟨rfl, h⟩
  · rw [if_neg h]; exact .inr ⟨rfl, h⟩

theorem sumR_canon {p q r s : Nat} (hq : 0 < q) (hs : 0 < s) : sumR p q r s = canon (frac (mkRat p q + mkRat r s)) := by
  have hd : 0 < Nat.gcd q s := Nat.gcd_pos_of_pos_right _ hs
  obtain ⟨a, ha⟩ := Nat.gcd_dvd_left q s
  obtain ⟨b, hb⟩ := Nat.gcd_dvd_right q s
  have e1 : q / Nat.gcd q s = a := Nat.div_eq_of_eq_mul_right hd ha
  have e2 : s / Nat.gcd q s = b := Nat.div_eq_of_eq_mul_right hd hb
  have a0 : 0 < a := by
    rcases Nat.eq_zero_or_pos a with h | h
    · rw [h] at ha; omega
    · exact h
  unfold sumR
  rw [e1, e2]
  have hW : 0 < a * s := Nat.mul_pos a0 hs
  rw [lowR_canon _ _ hW]
  congr 1
  have h1 := mkRat_mod ((p * b + r * a : Nat) : Int) (a * s) hW
  have h2 : (((p * b + r * a : Nat) : Int)) % ((a * s : Nat) : Int) = (((p * b + r * a) % (a * s) : Nat) : Int) := rfl
  rw [h2] at h1
  rw [h1]
  congr 1
  rw [Rat.mkRat_add_mkRat _ _ (by omega) (by omega)]
  generalize hD : Nat.gcd q s = d at *
  have e3 : ((p : Int) * (s : Int) + (r : Int) * (q : Int)) = (((p * b + r * a : Nat) : Int)) * (d : Int) := by
    rw [ha, hb]; push_cast; grind
  have e4 : q * s = (a * s) * d := by rw [ha]; grind
  rw [e3, e4, Rat.mkRat_mul_right (by omega)]

theorem nat_of {p q : Int} (h : okI p q) : ∃ a b : Nat, p = a ∧ q = b ∧ 0 < b := by
  obtain ⟨h1, h2, h3, h4, h5⟩ := h
  obtain ⟨a, rfl⟩ := Int.eq_ofNat_of_zero_le h3
  obtain ⟨b, rfl⟩ := Int.eq_ofNat_of_zero_le (show 0 ≤ q by omega)
  exact ⟨a, b, rfl, rfl, by omega⟩
theorem addR_canon {p q r s : Int} (h : okI p q) (g : okI r s) : addR p q r s = canon (frac (vI p q + vI r s)) := by
  unfold addR
  rw [if_pos ⟨h, g⟩]
  obtain ⟨a, b, rfl, rfl, hb⟩ := nat_of h
  obtain ⟨c, d, rfl, rfl, hd⟩ := nat_of g
  unfold vI
  simp only [Int.toNat_natCast]
  exact sumR_canon hb hd
theorem vI_neg {p q : Int} (h : okI p q) : vI ((-p) % q) q = frac (-(vI p q)) := by
  obtain ⟨a, b, rfl, rfl, hb⟩ := nat_of h
  unfold vI
  simp only [Int.toNat_natCast]
  rw [mkRat_mod _ _ hb, Rat.neg_mkRat]
theorem times_v {p q : Int} (h : okI p q) (n : Int) : mkRat ((p * n) % q) q.toNat = frac ((n : Rat) * vI p q) := by
  obtain ⟨a, b, rfl, rfl, hb⟩ := nat_of h
  unfold vI
  simp only [Int.toNat_natCast]
  rw [mkRat_mod _ _ hb]
  congr 1
  rw [Rat.mkRat_eq_div, Rat.mkRat_eq_div, Rat.intCast_mul]
  grind
theorem timesR_canon {p q : Int} (h : okI p q) (n : Int) : timesR p q n = canon (frac ((n : Rat) * vI p q)) := by
  unfold timesR
  rw [if_pos h, ← times_v h]
  have hq : 0 < q.toNat := by have := h.1; omega
  rw [lowR_canon _ _ hq]
  congr 2
  have := Int.emod_nonneg (p * n) (show q ≠ 0 by have := h.1; omega)
  omega
theorem times_den {p q : Int} (h : okI p q) (n : Int) : (frac ((n : Rat) * vI p q)).den ≤ 4294967296 := by
  rw [← times_v h, Rat.den_mkRat]
  have := h.2.1
  split
  · omega
  · exact Nat.le_trans (Nat.div_le_self _ _) (by omega)

/-- Sums in any order. -/
theorem add_comm' {p q r s : Int} (h : okI p q) (g : okI r s) : addR p q r s = addR r s p q := by
  rw [addR_canon h g, addR_canon g h, Rat.add_comm]
theorem add_told {p q r s : Int} (h : okI p q) (g : okI r s) (e : (addR p q r s).2.2 = 0) : okI (addR p q r s).1 (addR p q r s).2.1 ∧ vI (addR p q r s).1 (addR p q r s).2.1 = frac (vI p q + vI r s) := by
  rw [addR_canon h g] at e ⊢
  have b := frac_bounds (vI p q + vI r s)
  rcases canon_cases (frac (vI p q + vI r s)) with ⟨e1, hd⟩ | ⟨e1, _⟩
  · rw [e1]; exact canon_ok b.1 b.2 hd
  · rw [e1] at e; exact absurd e (by decide)
theorem add_assoc' {p q r s t u : Int} (h : okI p q) (g : okI r s) (k : okI t u) (e : (addR p q r s).2.2 = 0) (f : (addR r s t u).2.2 = 0) : addR (addR p q r s).1 (addR p q r s).2.1 t u = addR p q (addR r s t u).1 (addR r s t u).2.1 := by
  obtain ⟨o1, v1⟩ := add_told h g e
  obtain ⟨o2, v2⟩ := add_told g k f
  rw [addR_canon o1 k, addR_canon h o2, v1, v2, frac_frac_add, frac_add_frac, Rat.add_assoc]
theorem sub_back' {p q r s : Int} (h : okI p q) (g : okI r s) (e : (addR p q r s).2.2 = 0) : subR (addR p q r s).1 (addR p q r s).2.1 r s = (p, q, 0) := by
  obtain ⟨o1, v1⟩ := add_told h g e
  unfold subR
  rw [if_pos ⟨o1, g⟩, addR_canon o1 (gcd_back g), v1, vI_neg g, frac_frac_add, frac_add_frac]
  have e2 : vI p q + vI r s + -vI r s = vI p q := by grind
  obtain ⟨_, _, b0, b1⟩ := vI_nd h
  rw [e2, frac_self b0 b1, canon_vI h]
theorem ok01 : okI 0 1 := ⟨by decide, by decide, by decide, by decide, by decide⟩
theorem v01 : vI 0 1 = 0 := by unfold vI; simp
theorem neg_zero' {p q : Int} (h : okI p q) : negR p q = ((-p) % q, q, 0) ∧ addR p q ((-p) % q) q = (0, 1, 0) := by
  refine ⟨by unfold negR; rw [if_pos h], ?_⟩
  rw [addR_canon h (gcd_back h), vI_neg h, frac_add_frac]
  have e2 : vI p q + -vI p q = 0 := by grind
  rw [e2, frac_self (Rat.le_refl) (by decide), ← v01, canon_vI ok01]
/-- A turn added again and again. -/
def iterR (p q : Int) (i : Nat) : Int × Int × Int := canon (frac (((i : Int) : Rat) * vI p q))
theorem iter_ok {p q : Int} (h : okI p q) (i : Nat) : (iterR p q i).2.2 = 0 ∧ okI (iterR p q i).1 (iterR p q i).2.1 ∧ vI (iterR p q i).1 (iterR p q i).2.1 = frac (((i : Int) : Rat) * vI p q) := by
  have b := frac_bounds (((i : Int) : Rat) * vI p q)
  have hd := times_den h (i : Int)
  unfold iterR
  rcases canon_cases (frac (((i : Int) : Rat) * vI p q)) with ⟨e1, hd⟩ | ⟨e1, hn⟩
  · rw [e1]; exact ⟨rfl, canon_ok b.1 b.2 hd⟩
  · exact absurd hd hn
theorem iter_zero (p q : Int) : iterR p q 0 = (0, 1, 0) := by
  unfold iterR
  have e : (((0 : Nat) : Int) : Rat) * vI p q = 0 := by simp
  rw [e, frac_self (Rat.le_refl) (by decide), ← v01, canon_vI ok01]
theorem iter_succ {p q : Int} (h : okI p q) (i : Nat) : addR (iterR p q i).1 (iterR p q i).2.1 p q = iterR p q (i + 1) := by
  obtain ⟨_, o, v⟩ := iter_ok h i
  rw [addR_canon o h, v, frac_frac_add]
  unfold iterR
  congr 2
  have e : (((i + 1 : Nat) : Int) : Rat) = ((i : Int) : Rat) + 1 := by
    rw [Int.natCast_add, Rat.intCast_add]; rfl
  rw [e]; grind
theorem times_iter {p q : Int} (h : okI p q) (n : Nat) : timesR p q (n : Int) = iterR p q n := timesR_canon h n

end Go.Proofs.YtnhkbnmkcnmbgaaDoor

/- bits.Add64; bits.Div64 where the higher word is 0, or is 1 and the quotient is 1. -/
namespace Go.Proofs.YtnhkbnmkcnmbgaaDoor
open Go.RowKit
set_option linter.unusedVariables false

theorem tdw64 (n : Nat) (h : n < 18446744073709551616) : IntKind.u64.wrap (n : Int) = (n : Int) := by rw [IntKind.wrap_u64]; omega

end Go.Proofs.YtnhkbnmkcnmbgaaDoor

/- The document's Add and Sub of turns. -/
namespace Go.Proofs.YtnhkbnmkcnmbgaaDoor
open Go.RowKit
set_option linter.unusedVariables false

theorem chk_ok {p q : Int} (h : okI p q) : chk p q = 0 := by unfold chk; rw [if_pos h]
theorem chk_no {p q : Int} (h : ¬ okI p q) : chk p q = 180 := by unfold chk; rw [if_neg h]

end Go.Proofs.YtnhkbnmkcnmbgaaDoor

/- Compare, the program's and the document's. -/
namespace Go.Proofs.YtnhkbnmkcnmbgaaDoor
open Go.RowKit
set_option linter.unusedVariables false

/-- Less, the same, more. -/
def ordI (x y : Int) : Int := if x < y then -1 else if y < x then 1 else 0
/-- What Compare tells. -/
def cmpR (p q r s : Int) : Int × Int := if okI p q ∧ okI r s then (ordI (p * s) (r * q), 0) else (0, 180)
def cV (x : Int × Int) : Value := .tuple #[.int .i64 x.1, .int .i64 x.2]

set_option maxHeartbeats 800000 in
set_option maxRecDepth 100000 in
theorem isnan64_any (x : Int) (w : World) :
    Calls Tryd.prog 37 #[.int .u64 x] w fun e w' => e = .returned (.bool false) ∧ w' = w := by
  go_enter Tryd.func37, Tryd.ntmps37
  go_wp2_with fail
  go_ret
  exact ⟨rfl, rfl⟩
set_option maxHeartbeats 800000 in
set_option maxRecDepth 100000 in
theorem cmp64_any (x y : Int) (w : World) :
    Calls Tryd.prog 22 #[.int .u64 x, .int .u64 y] w fun e w' => e = .returned (.int .i64 (ordI x y)) ∧ w' = w := by
  have H1 := hid (fun V => isnan64_any x V)
  have H2 := hid (fun V => isnan64_any y V)
  have HR1 : Hid (x < y → ordI x y = -1) := fun h => by unfold ordI; rw [if_pos h]
  have HR2 : Hid (y < x → ordI x y = 1) := fun h => by unfold ordI; rw [if_neg (by omega), if_pos h]
  have HR3 : Hid (¬ x < y → ¬ y < x → ordI x y = 0) := fun h g => by unfold ordI; rw [if_neg h, if_neg g]
  go_enter Tryd.func22, Tryd.ntmps22
  go_wp2_with fail
  refine Calls.mono (H1.out _) ?_
  rintro e w1 ⟨rfl, rfl⟩
  go_wp2_with fail
  refine Calls.mono (H2.out _) ?_
  rintro e w1 ⟨rfl, rfl⟩
  go_wp2_with fail
  all_goals
    go_ret
    refine ⟨ret_int ?_, rfl⟩
    first | exact (HR1.out (by omega)).symm | exact (HR2.out (by omega)).symm | exact (HR3.out (by omega) (by omega)).symm

theorem cprod {p q r s : Int} (h : okI p q) (g : okI r s) : IntKind.u64.wrap (p * s) = p * s ∧ 0 ≤ p * s ∧ p * s < 18446744073709551616 := by
  obtain ⟨h1, h2, h3, h4, _⟩ := h
  obtain ⟨g1, g2, g3, g4, _⟩ := g
  have a : p * s ≤ 4294967295 * s := Int.mul_le_mul_of_nonneg_right (by omega) (by omega)
  have b : 0 ≤ p * s := Int.mul_nonneg h3 (by omega)
  refine ⟨?_, b, by omega⟩
  rw [IntKind.wrap_u64]
  generalize p * s = z at *
  omega

set_option maxHeartbeats 1600000 in
set_option maxRecDepth 100000 in
theorem tcompare_any (p q r s : Int) (w : World) (h : in64 p q) (g : in64 r s) :
    Calls Tryd.prog 9 #[.agg #[.int .i64 p, .int .i64 q], .agg #[.int .i64 r, .int .i64 s]] w fun e w' => e = .returned (cV (cmpR p q r s)) ∧ Below w.heap.size w w' := by
  have HX := hid (boxes2 w 23 #[.int .i64 p, .int .i64 q] #[.int .i64 r, .int .i64 s])
  have HC := hid (fun V => tboth_any p q r s V h g)
  have HO := hid (chk2_or p q r s)
  have HV1 : Hid (okI p q ∧ okI r s → cmpR p q r s = (ordI (p * s) (r * q), 0)) := fun h => by unfold cmpR; rw [if_pos h]
  have HV2 : Hid (¬ (okI p q ∧ okI r s) → cmpR p q r s = (0, 180)) := fun h => by unfold cmpR; rw [if_neg h]
  clear h g
  go_enter Tryd.func9, Tryd.ntmps9
  go_wp2_with fail
  generalize (w.alloc (.cells #[.int .i64 p, .int .i64 q] 23)).alloc (.cells #[.int .i64 r, .int .i64 s] 23) = X at *
  refine Calls.mono (HC.out X) ?_
  rintro e w1 ⟨rfl, hb1⟩
  obtain ⟨c0, c1, f0, f1⟩ := fbox_facts HX.out.1 hb1
  obtain ⟨c2, c3, f2, f3⟩ := fbox_facts HX.out.2.1 hb1
  have HB := hid (b2 HX.out.2.2 hb1)
  clear hb1 HX
  rcases HO.out with ⟨e, ho⟩ | ⟨e, ho⟩
  · rw [e]
    have HR := hid (HV1.out ho)
    obtain ⟨x1, x2, x3⟩ := cprod ho.1 ho.2
    obtain ⟨y1, y2, y3⟩ := cprod ho.2 ho.1
    obtain ⟨⟨o1, o2, o3, o4, _⟩, p1, p2, p3, p4, _⟩ := ho
    have wp : IntKind.u64.wrap p = p := by rw [IntKind.wrap_u64]; omega
    have wq : IntKind.u64.wrap q = q := by rw [IntKind.wrap_u64]; omega
    have wr' : IntKind.u64.wrap r = r := by rw [IntKind.wrap_u64]; omega
    have ws : IntKind.u64.wrap s = s := by rw [IntKind.wrap_u64]; omega
    have HM := hid (fun V => cmp64_any (p * s) (r * q) V)
    clear HO HV1 HV2 e HC
    go_wp2_with fail
    refine Calls.mono (HM.out _) ?_
    rintro e w2 ⟨rfl, rfl⟩
    go_wp2_with fail
    go_returns
    exact ⟨by rw [HR.out]; rfl, HB.out⟩
  · rw [e]
    have HR := hid (HV2.out ho)
    clear HO HV1 HV2 e ho HC
    go_wp2_with fail
    go_returns
    exact ⟨by rw [HR.out]; rfl, HB.out⟩

end Go.Proofs.YtnhkbnmkcnmbgaaDoor

/- A turn's text is read as that turn. Nothing here speaks of the program. -/
namespace Go.Proofs.YtnhkbnmkcnmbgaaDoor
open Go.RowKit Go.Lib
set_option linter.unusedVariables false

theorem digit_nat (d : Nat) (h : d < 10) : (UInt8.ofNat (48 + d)).toNat = 48 + d := by rw [UInt8.toNat_ofNat']; omega
theorem dec_all (n : Nat) : (∀ x ∈ decDigits n, 48 ≤ x.toNat ∧ x.toNat ≤ 57) ∧ decDigits n ≠ [] := by
  by_cases h : n < 10
  · rw [dig_one h]
    refine ⟨fun x hx => ?_, by simp⟩
    rw [List.mem_singleton] at hx
    rw [hx, digit_nat n h]; omega
  · rw [dig_more h]
    have ih := dec_all (n / 10)
    refine ⟨fun x hx => ?_, by simp⟩
    rcases List.mem_append.1 hx with hx | hx
    · exact ih.1 x hx
    · rw [List.mem_singleton] at hx
      rw [hx, digit_nat (n % 10) (by omega)]; omega
termination_by n
decreasing_by omega
theorem pum (n : Nat) (r : List UInt8) (hn : n < 18446744073709551616) : parseUintM (2 ^ 64 - 1) 0 (decDigits n ++ r) = parseUintM (2 ^ 64 - 1) n r := by
  by_cases h : n < 10
  · rw [dig_one h]
    show parseUintM (2 ^ 64 - 1) 0 (UInt8.ofNat (48 + n) :: r) = _
    rw [parseUintM, digit_nat n h, if_pos (by omega), if_neg (by omega), if_neg (by omega)]
    congr 1; omega
  · rw [dig_more h, List.append_assoc]
    rw [pum (n / 10) _ (by omega)]
    show parseUintM (2 ^ 64 - 1) (n / 10) (UInt8.ofNat (48 + n % 10) :: r) = _
    rw [parseUintM, digit_nat (n % 10) (by omega), if_pos (by omega), if_neg (by omega), if_neg (by omega)]
    congr 1; omega
termination_by n
decreasing_by omega
theorem numB_dec (n : Nat) (hn : n < 9223372036854775808) : numB (decDigits n) = n := by
  obtain ⟨ha, hne⟩ := dec_all n
  have hp := pum n [] (by omega)
  rw [List.append_nil] at hp
  have hp' : parseUintM (2 ^ 64 - 1) 0 (decDigits n) = .ok n := hp
  unfold numB parseIntB
  cases hl : decDigits n with
  | nil => exact absurd hl hne
  | cons c r =>
    have hc := ha c (by rw [hl]; simp)
    rw [hl] at hp'
    have hu : parseUintB 64 (if c.toNat = 43 ∨ c.toNat = 45 then r else c :: r) = .ok n := by
      rw [if_neg (by omega)]
      unfold parseUintB
      rw [if_neg (by simp)]
      exact hp'
    simp only [hu]
    rw [if_neg (by omega), if_neg (by omega), if_neg (by omega)]
theorem itoa_nat {p : Int} (h0 : 0 ≤ p) : itoa p = decDigits p.toNat := by unfold itoa; rw [if_neg (by omega)]
theorem numB_itoa {p : Int} (h0 : 0 ≤ p) (h1 : p ≤ 4294967296) : numB (itoa p) = p := by
  rw [itoa_nat h0, numB_dec _ (by omega)]; omega

theorem index_split : ∀ (a b : List UInt8), (∀ x ∈ a, 48 ≤ x.toNat ∧ x.toNat ≤ 57) → indexByte (a ++ 47 :: b) 47 = (a.length : Int)
  | [], b, _ => by
    show indexByte (47 :: b) 47 = _
    rw [indexByte]; simp
  | c :: a, b, h => by
    have hc := h c (by simp)
    have ih := index_split a b (fun x hx => h x (by simp [hx]))
    have hne : (c == 47) = false := by
      rw [beq_eq_false_iff_ne]
      intro e; rw [e] at hc; exact absurd hc.1 (by decide)
    show indexByte (c :: (a ++ 47 :: b)) 47 = _
    rw [indexByte, ih, hne]
    have h2 : (((a.length : Int)) == -1) = false := by
      rw [beq_eq_false_iff_ne]; omega
    rw [h2]
    simp
theorem cut_split (a b : List UInt8) (h : ∀ x ∈ a, 48 ≤ x.toNat ∧ x.toNat ≤ 57) : cut (a ++ 47 :: b) [47] = (a, b, true) := by
  unfold cut
  rw [index_one, index_split a b h, if_pos (by omega)]
  simp

/-- A turn's text is read as that turn. -/
theorem read_txt {p q : Int} (h : okI p q) : readR (txtT p q) = (p, q, 0) := by
  obtain ⟨h1, h2, h3, h4, _⟩ := id h
  have hc : cut (txtT p q) [47] = (itoa p, itoa q, true) := by
    unfold txtT
    rw [itoa_nat h3]
    exact cut_split _ _ (dec_all _).1
  unfold readR
  rw [hc]
  simp only [numB_itoa h3 (by omega), numB_itoa (show 0 ≤ q by omega) h2]
  rw [if_pos ⟨h, by trivial⟩]
theorem read_cases (s : List UInt8) : (∃ p q, readR s = (p, q, 0) ∧ okI p q ∧ txtT p q = s) ∨ readR s = (0, 0, 180) := by
  unfold readR
  by_cases h : okI (numB (cut s [47]).1) (numB (cut s [47]).2.1) ∧ txtT (numB (cut s [47]).1) (numB (cut s [47]).2.1) = s
  · left; rw [if_pos h]; exact ⟨_, _, rfl, h⟩
  · right; rw [if_neg h]
theorem of_self {p q : Int} (h : okI p q) : ofR p q = (p, q, 0) := by
  obtain ⟨h1, h2, h3, h4, h5⟩ := h
  unfold ofR
  rw [if_neg (by omega), if_neg (by omega), Int.emod_eq_of_lt h3 h4, gcd_low _ _ (by omega) (by omega), h5, Nat.div_one, Nat.div_one]
  congr 1
  · omega
  · congr 1; omega
theorem ord_neg (x y : Int) : ordI x y = -ordI y x := by
  unfold ordI
  by_cases a : x < y
  · rw [if_pos a, if_neg (by omega), if_pos a]
  · rw [if_neg a]
    by_cases b : y < x
    · rw [if_pos b, if_pos b]; rfl
    · rw [if_neg b, if_neg b, if_neg a]; rfl
theorem ord_zero {p q r s : Int} (h : okI p q) (g : okI r s) : ordI (p * s) (r * q) = 0 ↔ p = r ∧ q = s := by
  have hz : ordI (p * s) (r * q) = 0 ↔ p * s = r * q := by
    unfold ordI
    split
    · omega
    · split <;> omega
  rw [hz]
  constructor
  · intro e
    have hv : vI p q = vI r s := by
      unfold vI
      obtain ⟨a1, _, _, _, _⟩ := h
      obtain ⟨b1, _, _, _, _⟩ := g
      rw [Rat.mkRat_eq_iff (by omega) (by omega)]
      have e1 : ((s.toNat : Nat) : Int) = s := by omega
      have e2 : ((q.toNat : Nat) : Int) = q := by omega
      rw [e1, e2]; exact e
    have hc := canon_vI h
    rw [hv, canon_vI g] at hc
    simp only [Prod.mk.injEq] at hc
    exact ⟨hc.1.symm, hc.2.1.symm⟩
  · rintro ⟨rfl, rfl⟩; rfl
end Go.Proofs.YtnhkbnmkcnmbgaaDoor

/- The law TurnNames answers true, and writes nothing that was there, where the library's variables stand as its text lays them. -/
namespace Go.Proofs.YtnhkbnmkcnmbgaaDoor
open Go.RowKit
set_option linter.unusedVariables false

set_option maxHeartbeats 6400000 in
set_option maxRecDepth 100000 in
theorem turnNames_walk (w : World) (htab : TabT w) (herr : ErrT w) :
    Calls Tryd.prog 3 #[] w fun e w' => e = .returned (.bool true) ∧ Below w.heap.size w w' := by
  have HLV := hid tlives_any
  have HO1 : Hid (∀ V, Calls Tryd.prog 6 #[.int .i64 3, .int .i64 12] V fun e w' => e = .returned (.tuple #[.agg #[.int .i64 1, .int .i64 4], .int .i64 0]) ∧ Below V.heap.size V w') := fun V => by
    have e := tof_any (3) (12) V ⟨⟨by decide, by decide⟩, by decide, by decide⟩
    rw [show ofR (3) (12) = (1, 4, 0) by decide +kernel] at e
    exact e
  have HO2 : Hid (∀ V, Calls Tryd.prog 6 #[.int .i64 8, .int .i64 4] V fun e w' => e = .returned (.tuple #[.agg #[.int .i64 0, .int .i64 1], .int .i64 0]) ∧ Below V.heap.size V w') := fun V => by
    have e := tof_any (8) (4) V ⟨⟨by decide, by decide⟩, by decide, by decide⟩
    rw [show ofR (8) (4) = (0, 1, 0) by decide +kernel] at e
    exact e
  have HO3 : Hid (∀ V, Calls Tryd.prog 6 #[.int .i64 1, .int .i64 0] V fun e w' => e = .returned (.tuple #[.agg #[.int .i64 0, .int .i64 0], .int .i64 7]) ∧ Below V.heap.size V w') := fun V => by
    have e := tof_any (1) (0) V ⟨⟨by decide, by decide⟩, by decide, by decide⟩
    rw [show ofR (1) (0) = (0, 0, 7) by decide +kernel] at e
    exact e
  have HO4 : Hid (∀ V, Calls Tryd.prog 6 #[.int .i64 1, .int .i64 (-2)] V fun e w' => e = .returned (.tuple #[.agg #[.int .i64 0, .int .i64 0], .int .i64 2]) ∧ Below V.heap.size V w') := fun V => by
    have e := tof_any (1) (-2) V ⟨⟨by decide, by decide⟩, by decide, by decide⟩
    rw [show ofR (1) (-2) = (0, 0, 2) by decide +kernel] at e
    exact e
  have HO5 : Hid (∀ V, Calls Tryd.prog 6 #[.int .i64 1, .int .i64 4294967297] V fun e w' => e = .returned (.tuple #[.agg #[.int .i64 0, .int .i64 0], .int .i64 2]) ∧ Below V.heap.size V w') := fun V => by
    have e := tof_any (1) (4294967297) V ⟨⟨by decide, by decide⟩, by decide, by decide⟩
    rw [show ofR (1) (4294967297) = (0, 0, 2) by decide +kernel] at e
    exact e
  have HA1 : Hid (∀ V, Calls Tryd.prog 7 #[.agg #[.int .i64 1, .int .i64 3], .agg #[.int .i64 1, .int .i64 6]] V fun e w' => e = .returned (.tuple #[.agg #[.int .i64 1, .int .i64 2], .int .i64 0]) ∧ Below V.heap.size V w') := fun V => by
    have e := tadd_any 1 3 1 6 V ⟨⟨by decide, by decide⟩, by decide, by decide⟩ ⟨⟨by decide, by decide⟩, by decide, by decide⟩
    rw [show addR 1 3 1 6 = (1, 2, 0) by decide +kernel] at e
    exact e
  have HA2 : Hid (∀ V, Calls Tryd.prog 7 #[.agg #[.int .i64 1, .int .i64 4294967295], .agg #[.int .i64 1, .int .i64 4294967296]] V fun e w' => e = .returned (.tuple #[.agg #[.int .i64 0, .int .i64 0], .int .i64 3]) ∧ Below V.heap.size V w') := fun V => by
    have e := tadd_any 1 4294967295 1 4294967296 V ⟨⟨by decide, by decide⟩, by decide, by decide⟩ ⟨⟨by decide, by decide⟩, by decide, by decide⟩
    rw [show addR 1 4294967295 1 4294967296 = (0, 0, 3) by decide +kernel] at e
    exact e
  have HT1 : Hid (∀ V, Calls Tryd.prog 8 #[.agg #[.int .i64 1, .int .i64 3], .int .i32 3] V fun e w' => e = .returned (.tuple #[.agg #[.int .i64 0, .int .i64 1], .int .i64 0]) ∧ Below V.heap.size V w') := fun V => by
    have e := ttimes_any 1 3 3 V ⟨⟨by decide, by decide⟩, by decide, by decide⟩ (by decide) (by decide)
    rw [show timesR 1 3 3 = (0, 1, 0) by decide +kernel] at e
    exact e
  have HC1 : Hid (∀ V, Calls Tryd.prog 9 #[.agg #[.int .i64 1, .int .i64 3], .agg #[.int .i64 2, .int .i64 5]] V fun e w' => e = .returned (.tuple #[.int .i64 (-1), .int .i64 0]) ∧ Below V.heap.size V w') := fun V => by
    have e := tcompare_any 1 3 2 5 V ⟨⟨by decide, by decide⟩, by decide, by decide⟩ ⟨⟨by decide, by decide⟩, by decide, by decide⟩
    rw [show cmpR 1 3 2 5 = (-1, 0) by decide +kernel] at e
    exact e
  have HK0 : Hid (∀ V, Calls Tryd.prog 10 #[.agg #[.int .i64 2, .int .i64 4]] V fun e w' => e = .returned (.int .i64 180) ∧ Below V.heap.size V w') := fun V => by
    have e := tcheck_any (2) (4) V (by decide) (by decide) (by decide) (by decide)
    rw [show chk (2) (4) = 180 by decide +kernel] at e
    exact e
  have HK1 : Hid (∀ V, Calls Tryd.prog 10 #[.agg #[.int .i64 1, .int .i64 1]] V fun e w' => e = .returned (.int .i64 180) ∧ Below V.heap.size V w') := fun V => by
    have e := tcheck_any (1) (1) V (by decide) (by decide) (by decide) (by decide)
    rw [show chk (1) (1) = 180 by decide +kernel] at e
    exact e
  have HK2 : Hid (∀ V, Calls Tryd.prog 10 #[.agg #[.int .i64 0, .int .i64 2]] V fun e w' => e = .returned (.int .i64 180) ∧ Below V.heap.size V w') := fun V => by
    have e := tcheck_any (0) (2) V (by decide) (by decide) (by decide) (by decide)
    rw [show chk (0) (2) = 180 by decide +kernel] at e
    exact e
  have HK3 : Hid (∀ V, Calls Tryd.prog 10 #[.agg #[.int .i64 0, .int .i64 0]] V fun e w' => e = .returned (.int .i64 180) ∧ Below V.heap.size V w') := fun V => by
    have e := tcheck_any (0) (0) V (by decide) (by decide) (by decide) (by decide)
    rw [show chk (0) (0) = 180 by decide +kernel] at e
    exact e
  have HK4 : Hid (∀ V, Calls Tryd.prog 10 #[.agg #[.int .i64 (-1), .int .i64 3]] V fun e w' => e = .returned (.int .i64 180) ∧ Below V.heap.size V w') := fun V => by
    have e := tcheck_any (-1) (3) V (by decide) (by decide) (by decide) (by decide)
    rw [show chk (-1) (3) = 180 by decide +kernel] at e
    exact e
  have HK5 : Hid (∀ V, Calls Tryd.prog 10 #[.agg #[.int .i64 3, .int .i64 2]] V fun e w' => e = .returned (.int .i64 180) ∧ Below V.heap.size V w') := fun V => by
    have e := tcheck_any (3) (2) V (by decide) (by decide) (by decide) (by decide)
    rw [show chk (3) (2) = 180 by decide +kernel] at e
    exact e
  have HP0 : Hid (∀ V, Calls Tryd.prog 6 #[.int .i64 0, .int .i64 4] V fun e w' => e = .returned (.tuple #[.agg #[.int .i64 0, .int .i64 1], .int .i64 0]) ∧ Below V.heap.size V w') := fun V => by
    have e := tof_any (0) (4) V ⟨⟨by decide, by decide⟩, by decide, by decide⟩
    rw [show ofR (0) (4) = (0, 1, 0) by decide +kernel] at e
    exact e
  have HZ0 : Hid (∀ V, Calls Tryd.prog 11 #[.agg #[.int .i64 0, .int .i64 1]] V fun e w' => e = .returned (.tuple #[.complex .f64 4607182418800017408 0, .int .i64 0]) ∧ Below V.heap.size V w') := fun V => by
    refine Calls.mono (troot_ok 0 1 V (by decide) (by decide) (by decide)) ?_
    rintro e w2 ⟨re, im, rfl, hr, hb2⟩
    have h' : RootK 0 0 1 re im := hr
    have e := rootK0 (by kernel_rfl) h'
    have e1 : re = 4607182418800017408 := by rw [e.1]; decide
    have e2 : im = 0 := by rw [e.2]; decide
    exact ⟨by rw [e1, e2], hb2⟩
  have HS0 : Hid (∀ V, Calls Tryd.prog 12 #[.complex .f64 4607182418800017408 0, .complex .f64 4607182418800017408 0] V fun e w' => e = .returned (.bool true) ∧ Below V.heap.size V w') := fun V => by
    refine Calls.mono (sameNumber_eq 4607182418800017408 0 V (by decide) (by decide)) ?_
    rintro e w2 ⟨rfl, rfl⟩
    exact ⟨rfl, Below.refl _ _⟩
  have HP1 : Hid (∀ V, Calls Tryd.prog 6 #[.int .i64 1, .int .i64 4] V fun e w' => e = .returned (.tuple #[.agg #[.int .i64 1, .int .i64 4], .int .i64 0]) ∧ Below V.heap.size V w') := fun V => by
    have e := tof_any (1) (4) V ⟨⟨by decide, by decide⟩, by decide, by decide⟩
    rw [show ofR (1) (4) = (1, 4, 0) by decide +kernel] at e
    exact e
  have HZ1 : Hid (∀ V, Calls Tryd.prog 11 #[.agg #[.int .i64 1, .int .i64 4]] V fun e w' => e = .returned (.tuple #[.complex .f64 0 4607182418800017408, .int .i64 0]) ∧ Below V.heap.size V w') := fun V => by
    refine Calls.mono (troot_ok 1 4 V (by decide) (by decide) (by decide)) ?_
    rintro e w2 ⟨re, im, rfl, hr, hb2⟩
    have h' : RootK 2 0 4 re im := hr
    have e := rootK0 (by kernel_rfl) h'
    have e1 : re = 0 := by rw [e.1]; decide
    have e2 : im = 4607182418800017408 := by rw [e.2]; decide
    exact ⟨by rw [e1, e2], hb2⟩
  have HS1 : Hid (∀ V, Calls Tryd.prog 12 #[.complex .f64 0 4607182418800017408, .complex .f64 0 4607182418800017408] V fun e w' => e = .returned (.bool true) ∧ Below V.heap.size V w') := fun V => by
    refine Calls.mono (sameNumber_eq 0 4607182418800017408 V (by decide) (by decide)) ?_
    rintro e w2 ⟨rfl, rfl⟩
    exact ⟨rfl, Below.refl _ _⟩
  have HP2 : Hid (∀ V, Calls Tryd.prog 6 #[.int .i64 2, .int .i64 4] V fun e w' => e = .returned (.tuple #[.agg #[.int .i64 1, .int .i64 2], .int .i64 0]) ∧ Below V.heap.size V w') := fun V => by
    have e := tof_any (2) (4) V ⟨⟨by decide, by decide⟩, by decide, by decide⟩
    rw [show ofR (2) (4) = (1, 2, 0) by decide +kernel] at e
    exact e
  have HZ2 : Hid (∀ V, Calls Tryd.prog 11 #[.agg #[.int .i64 1, .int .i64 2]] V fun e w' => e = .returned (.tuple #[.complex .f64 13830554455654793216 0, .int .i64 0]) ∧ Below V.heap.size V w') := fun V => by
    refine Calls.mono (troot_ok 1 2 V (by decide) (by decide) (by decide)) ?_
    rintro e w2 ⟨re, im, rfl, hr, hb2⟩
    have h' : RootK 4 0 2 re im := hr
    have e := rootK0 (by kernel_rfl) h'
    have e1 : re = 13830554455654793216 := by rw [e.1]; decide
    have e2 : im = 0 := by rw [e.2]; decide
    exact ⟨by rw [e1, e2], hb2⟩
  have HS2 : Hid (∀ V, Calls Tryd.prog 12 #[.complex .f64 13830554455654793216 0, .complex .f64 13830554455654793216 0] V fun e w' => e = .returned (.bool true) ∧ Below V.heap.size V w') := fun V => by
    refine Calls.mono (sameNumber_eq 13830554455654793216 0 V (by decide) (by decide)) ?_
    rintro e w2 ⟨rfl, rfl⟩
    exact ⟨rfl, Below.refl _ _⟩
  have HP3 : Hid (∀ V, Calls Tryd.prog 6 #[.int .i64 3, .int .i64 4] V fun e w' => e = .returned (.tuple #[.agg #[.int .i64 3, .int .i64 4], .int .i64 0]) ∧ Below V.heap.size V w') := fun V => by
    have e := tof_any (3) (4) V ⟨⟨by decide, by decide⟩, by decide, by decide⟩
    rw [show ofR (3) (4) = (3, 4, 0) by decide +kernel] at e
    exact e
  have HZ3 : Hid (∀ V, Calls Tryd.prog 11 #[.agg #[.int .i64 3, .int .i64 4]] V fun e w' => e = .returned (.tuple #[.complex .f64 0 13830554455654793216, .int .i64 0]) ∧ Below V.heap.size V w') := fun V => by
    refine Calls.mono (troot_ok 3 4 V (by decide) (by decide) (by decide)) ?_
    rintro e w2 ⟨re, im, rfl, hr, hb2⟩
    have h' : RootK 6 0 4 re im := hr
    have e := rootK0 (by kernel_rfl) h'
    have e1 : re = 0 := by rw [e.1]; decide
    have e2 : im = 13830554455654793216 := by rw [e.2]; decide
    exact ⟨by rw [e1, e2], hb2⟩
  have HS3 : Hid (∀ V, Calls Tryd.prog 12 #[.complex .f64 0 13830554455654793216, .complex .f64 0 13830554455654793216] V fun e w' => e = .returned (.bool true) ∧ Below V.heap.size V w') := fun V => by
    refine Calls.mono (sameNumber_eq 0 13830554455654793216 V (by decide) (by decide)) ?_
    rintro e w2 ⟨rfl, rfl⟩
    exact ⟨rfl, Below.refl _ _⟩
  have HQ : Hid (∀ V, Below w.heap.size w V → Calls Tryd.prog 13 #[.string ⟨#[49, 47, 52]⟩] V fun e w' => e = .returned (.tuple #[.agg #[.int .i64 1, .int .i64 4], .int .i64 0]) ∧ Below V.heap.size V w') := fun V hv => by
    have e := tparse_any ⟨#[49, 47, 52]⟩ V (by decide) (herr.later hv) (htab.later hv)
    rw [show readR (⟨#[49, 47, 52]⟩ : ByteArray).data.toList = (1, 4, 0) by decide +kernel] at e
    exact e
  have HW0 : Hid (∀ V, Below w.heap.size w V → Calls Tryd.prog 13 #[.string ⟨#[50, 47, 56]⟩] V fun e w' => e = .returned (.tuple #[.agg #[.int .i64 0, .int .i64 0], .int .i64 180]) ∧ Below V.heap.size V w') := fun V hv => by
    have e := tparse_any ⟨#[50, 47, 56]⟩ V (by decide) (herr.later hv) (htab.later hv)
    rw [show readR (⟨#[50, 47, 56]⟩ : ByteArray).data.toList = (0, 0, 180) by decide +kernel] at e
    exact e
  have HW1 : Hid (∀ V, Below w.heap.size w V → Calls Tryd.prog 13 #[.string ⟨#[49, 32, 47, 32, 52]⟩] V fun e w' => e = .returned (.tuple #[.agg #[.int .i64 0, .int .i64 0], .int .i64 180]) ∧ Below V.heap.size V w') := fun V hv => by
    have e := tparse_any ⟨#[49, 32, 47, 32, 52]⟩ V (by decide) (herr.later hv) (htab.later hv)
    rw [show readR (⟨#[49, 32, 47, 32, 52]⟩ : ByteArray).data.toList = (0, 0, 180) by decide +kernel] at e
    exact e
  have HW2 : Hid (∀ V, Below w.heap.size w V → Calls Tryd.prog 13 #[.string ⟨#[48, 49, 47, 52]⟩] V fun e w' => e = .returned (.tuple #[.agg #[.int .i64 0, .int .i64 0], .int .i64 180]) ∧ Below V.heap.size V w') := fun V hv => by
    have e := tparse_any ⟨#[48, 49, 47, 52]⟩ V (by decide) (herr.later hv) (htab.later hv)
    rw [show readR (⟨#[48, 49, 47, 52]⟩ : ByteArray).data.toList = (0, 0, 180) by decide +kernel] at e
    exact e
  have HW3 : Hid (∀ V, Below w.heap.size w V → Calls Tryd.prog 13 #[.string ⟨#[]⟩] V fun e w' => e = .returned (.tuple #[.agg #[.int .i64 0, .int .i64 0], .int .i64 180]) ∧ Below V.heap.size V w') := fun V hv => by
    have e := tparse_any ⟨#[]⟩ V (by decide) (herr.later hv) (htab.later hv)
    rw [show readR (⟨#[]⟩ : ByteArray).data.toList = (0, 0, 180) by decide +kernel] at e
    exact e
  have HW4 : Hid (∀ V, Below w.heap.size w V → Calls Tryd.prog 13 #[.string ⟨#[47]⟩] V fun e w' => e = .returned (.tuple #[.agg #[.int .i64 0, .int .i64 0], .int .i64 180]) ∧ Below V.heap.size V w') := fun V hv => by
    have e := tparse_any ⟨#[47]⟩ V (by decide) (herr.later hv) (htab.later hv)
    rw [show readR (⟨#[47]⟩ : ByteArray).data.toList = (0, 0, 180) by decide +kernel] at e
    exact e
  have HW5 : Hid (∀ V, Below w.heap.size w V → Calls Tryd.prog 13 #[.string ⟨#[49, 47]⟩] V fun e w' => e = .returned (.tuple #[.agg #[.int .i64 0, .int .i64 0], .int .i64 180]) ∧ Below V.heap.size V w') := fun V hv => by
    have e := tparse_any ⟨#[49, 47]⟩ V (by decide) (herr.later hv) (htab.later hv)
    rw [show readR (⟨#[49, 47]⟩ : ByteArray).data.toList = (0, 0, 180) by decide +kernel] at e
    exact e
  have HW6 : Hid (∀ V, Below w.heap.size w V → Calls Tryd.prog 13 #[.string ⟨#[49]⟩] V fun e w' => e = .returned (.tuple #[.agg #[.int .i64 0, .int .i64 0], .int .i64 180]) ∧ Below V.heap.size V w') := fun V hv => by
    have e := tparse_any ⟨#[49]⟩ V (by decide) (herr.later hv) (htab.later hv)
    rw [show readR (⟨#[49]⟩ : ByteArray).data.toList = (0, 0, 180) by decide +kernel] at e
    exact e
  have HW7 : Hid (∀ V, Below w.heap.size w V → Calls Tryd.prog 13 #[.string ⟨#[45, 49, 47, 52]⟩] V fun e w' => e = .returned (.tuple #[.agg #[.int .i64 0, .int .i64 0], .int .i64 180]) ∧ Below V.heap.size V w') := fun V hv => by
    have e := tparse_any ⟨#[45, 49, 47, 52]⟩ V (by decide) (herr.later hv) (htab.later hv)
    rw [show readR (⟨#[45, 49, 47, 52]⟩ : ByteArray).data.toList = (0, 0, 180) by decide +kernel] at e
    exact e
  have HW8 : Hid (∀ V, Below w.heap.size w V → Calls Tryd.prog 13 #[.string ⟨#[49, 47, 52, 32]⟩] V fun e w' => e = .returned (.tuple #[.agg #[.int .i64 0, .int .i64 0], .int .i64 180]) ∧ Below V.heap.size V w') := fun V hv => by
    have e := tparse_any ⟨#[49, 47, 52, 32]⟩ V (by decide) (herr.later hv) (htab.later hv)
    rw [show readR (⟨#[49, 47, 52, 32]⟩ : ByteArray).data.toList = (0, 0, 180) by decide +kernel] at e
    exact e
  clear htab herr
  have HKZ : Hid (∀ V, Calls Tryd.prog 10 #[.agg #[.int .i64 0, .int .i64 1]] V fun e w' => e = .returned (.int .i64 0) ∧ Below V.heap.size V w') := fun V => by
    have e := tcheck_any 0 1 V (by decide) (by decide) (by decide) (by decide)
    rw [show chk 0 1 = 0 by decide +kernel] at e
    exact e
  have HB := hid (Below.refl w.heap.size w)
  go_enter Tryd.func3, Tryd.ntmps3
  go_wp2_with fail
  refine Calls.mono (HO1.out _) ?_
  rintro e w1 ⟨rfl, hb⟩
  replace HB := hid (b2 HB.out hb)
  clear hb
  have HN := hid (boxes1 w1 23 #[.int .i64 1, .int .i64 4])
  obtain ⟨w2, hW⟩ : ∃ w2, w1.alloc (.cells #[.int .i64 1, .int .i64 4] 23) = w2 := ⟨_, rfl⟩
  rw [hW] at HN
  replace HB := hid (b2 HB.out HN.out.2)
  have HBa := hid HN.out.1
  clear HN
  go_wp2_with fail
  clear hW
  refine Calls.mono (HO2.out _) ?_
  rintro e w3 ⟨rfl, hb⟩
  replace HBa := hid (HBa.out.later hb HBa.out.lt)
  replace HB := hid (b2 HB.out hb)
  clear hb
  have HN := hid (boxes1 w3 23 #[.int .i64 0, .int .i64 1])
  obtain ⟨w4, hW⟩ : ∃ w4, w3.alloc (.cells #[.int .i64 0, .int .i64 1] 23) = w4 := ⟨_, rfl⟩
  rw [hW] at HN
  replace HBa := hid (HBa.out.later HN.out.2 HBa.out.lt)
  replace HB := hid (b2 HB.out HN.out.2)
  have HBb := hid HN.out.1
  clear HN
  go_wp2_with fail
  clear hW
  refine Calls.mono (HO3.out _) ?_
  rintro e w5 ⟨rfl, hb⟩
  replace HBa := hid (HBa.out.later hb HBa.out.lt)
  replace HBb := hid (HBb.out.later hb HBb.out.lt)
  replace HB := hid (b2 HB.out hb)
  clear hb
  have HN := hid (boxes1 w5 23 #[.int .i64 0, .int .i64 0])
  go_wp2_with fail
  generalize w5.alloc (.cells #[.int .i64 0, .int .i64 0] 23) = w6 at *
  replace HBa := hid (HBa.out.later HN.out.2 HBa.out.lt)
  replace HBb := hid (HBb.out.later HN.out.2 HBb.out.lt)
  replace HB := hid (b2 HB.out HN.out.2)
  clear HN
  refine Calls.mono (HO4.out _) ?_
  rintro e w7 ⟨rfl, hb⟩
  replace HBa := hid (HBa.out.later hb HBa.out.lt)
  replace HBb := hid (HBb.out.later hb HBb.out.lt)
  replace HB := hid (b2 HB.out hb)
  clear hb
  have HN := hid (boxes1 w7 23 #[.int .i64 0, .int .i64 0])
  go_wp2_with fail
  generalize w7.alloc (.cells #[.int .i64 0, .int .i64 0] 23) = w8 at *
  replace HBa := hid (HBa.out.later HN.out.2 HBa.out.lt)
  replace HBb := hid (HBb.out.later HN.out.2 HBb.out.lt)
  replace HB := hid (b2 HB.out HN.out.2)
  clear HN
  refine Calls.mono (HO5.out _) ?_
  rintro e w9 ⟨rfl, hb⟩
  replace HBa := hid (HBa.out.later hb HBa.out.lt)
  replace HBb := hid (HBb.out.later hb HBb.out.lt)
  replace HB := hid (b2 HB.out hb)
  clear hb
  have HN := hid (boxes1 w9 23 #[.int .i64 0, .int .i64 0])
  obtain ⟨wa, hW⟩ : ∃ wa, w9.alloc (.cells #[.int .i64 0, .int .i64 0] 23) = wa := ⟨_, rfl⟩
  rw [hW] at HN
  obtain ⟨z0, z1, y0, y1⟩ := fbox_facts HN.out.1 (Below.refl _ _)
  obtain ⟨wb, hWb⟩ : ∃ wb, (wa.setCell ⟨w9.heap.size, 0, none⟩ (.int .i64 0)).setCell ⟨w9.heap.size, 1, none⟩ (.int .i64 0) = wb := ⟨_, rfl⟩
  have hN2 : Below w9.heap.size w9 wb := by rw [← hWb]; exact fput2 HN.out.2 _ (Nat.le_refl _) _ _
  clear HN
  replace HBa := hid (HBa.out.later hN2 HBa.out.lt)
  replace HBb := hid (HBb.out.later hN2 HBb.out.lt)
  replace HB := hid (b2 HB.out hN2)
  clear hN2
  obtain ⟨ca0, ca1, fa0, fa1⟩ := fbox_facts HBa.out (Below.refl _ _)
  obtain ⟨cb0, cb1, fb0, fb1⟩ := fbox_facts HBb.out (Below.refl _ _)
  go_wp2_with fail
  clear hW hWb z0 z1 y0 y1
  have HX := hid (boxes2 wb 23 #[.int .i64 1, .int .i64 3] #[.int .i64 1, .int .i64 6])
  generalize (wb.alloc (.cells #[.int .i64 1, .int .i64 3] 23)).alloc (.cells #[.int .i64 1, .int .i64 6] 23) = wc at *
  replace HBa := hid (HBa.out.later HX.out.2.2 HBa.out.lt)
  replace HBb := hid (HBb.out.later HX.out.2.2 HBb.out.lt)
  replace HB := hid (b2 HB.out HX.out.2.2)
  have HBt := hid HX.out.1
  clear HX
  clear ca0 ca1 fa0 fa1
  clear cb0 cb1 fb0 fb1
  refine Calls.mono (HA1.out _) ?_
  rintro e wd ⟨rfl, hb⟩
  replace HBa := hid (HBa.out.later hb HBa.out.lt)
  replace HBb := hid (HBb.out.later hb HBb.out.lt)
  replace HBt := hid (HBt.out.later hb HBt.out.lt)
  replace HB := hid (b2 HB.out hb)
  clear hb
  have HN := hid (boxes1 wd 23 #[.int .i64 1, .int .i64 2])
  obtain ⟨we, hW⟩ : ∃ we, wd.alloc (.cells #[.int .i64 1, .int .i64 2] 23) = we := ⟨_, rfl⟩
  rw [hW] at HN
  replace HBa := hid (HBa.out.later HN.out.2 HBa.out.lt)
  replace HBb := hid (HBb.out.later HN.out.2 HBb.out.lt)
  replace HBt := hid (HBt.out.later HN.out.2 HBt.out.lt)
  replace HB := hid (b2 HB.out HN.out.2)
  have HBc := hid HN.out.1
  clear HN
  obtain ⟨ct0, ct1, ft0, ft1⟩ := fbox_facts HBt.out (Below.refl _ _)
  go_wp2_with fail
  clear hW
  refine Calls.mono (HT1.out _) ?_
  rintro e wf ⟨rfl, hb⟩
  replace HBa := hid (HBa.out.later hb HBa.out.lt)
  replace HBb := hid (HBb.out.later hb HBb.out.lt)
  replace HBt := hid (HBt.out.later hb HBt.out.lt)
  replace HBc := hid (HBc.out.later hb HBc.out.lt)
  replace HB := hid (b2 HB.out hb)
  clear hb
  clear ct0 ct1 ft0 ft1
  have HN := hid (boxes1 wf 23 #[.int .i64 0, .int .i64 1])
  obtain ⟨wg, hW⟩ : ∃ wg, wf.alloc (.cells #[.int .i64 0, .int .i64 1] 23) = wg := ⟨_, rfl⟩
  rw [hW] at HN
  replace HBa := hid (HBa.out.later HN.out.2 HBa.out.lt)
  replace HBb := hid (HBb.out.later HN.out.2 HBb.out.lt)
  replace HBt := hid (HBt.out.later HN.out.2 HBt.out.lt)
  replace HBc := hid (HBc.out.later HN.out.2 HBc.out.lt)
  replace HB := hid (b2 HB.out HN.out.2)
  have HBd := hid HN.out.1
  clear HN
  go_wp2_with fail
  clear hW
  refine Calls.mono (HA2.out _) ?_
  rintro e wh ⟨rfl, hb⟩
  replace HBa := hid (HBa.out.later hb HBa.out.lt)
  replace HBb := hid (HBb.out.later hb HBb.out.lt)
  replace HBt := hid (HBt.out.later hb HBt.out.lt)
  replace HBc := hid (HBc.out.later hb HBc.out.lt)
  replace HBd := hid (HBd.out.later hb HBd.out.lt)
  replace HB := hid (b2 HB.out hb)
  clear hb
  obtain ⟨ct0, ct1, ft0, ft1⟩ := fbox_facts HBt.out (Below.refl _ _)
  go_wp2_with fail
  refine Calls.mono (HC1.out _) ?_
  rintro e wi ⟨rfl, hb⟩
  replace HBa := hid (HBa.out.later hb HBa.out.lt)
  replace HBb := hid (HBb.out.later hb HBb.out.lt)
  replace HBt := hid (HBt.out.later hb HBt.out.lt)
  replace HBc := hid (HBc.out.later hb HBc.out.lt)
  replace HBd := hid (HBd.out.later hb HBd.out.lt)
  replace HB := hid (b2 HB.out hb)
  clear hb
  clear ct0 ct1 ft0 ft1
  obtain ⟨cc0, cc1, fc0, fc1⟩ := fbox_facts HBc.out (Below.refl _ _)
  obtain ⟨cd0, cd1, fd0, fd1⟩ := fbox_facts HBd.out (Below.refl _ _)
  go_wp2_with fail
  have HN := hid (boxes1 wi 23 #[.int .i64 2, .int .i64 4, .int .i64 1, .int .i64 1, .int .i64 0, .int .i64 2, .int .i64 0, .int .i64 0, .int .i64 (-1), .int .i64 3, .int .i64 3, .int .i64 2])
  generalize wi.alloc (.cells #[.int .i64 2, .int .i64 4, .int .i64 1, .int .i64 1, .int .i64 0, .int .i64 2, .int .i64 0, .int .i64 0, .int .i64 (-1), .int .i64 3, .int .i64 3, .int .i64 2] 23) = wj at *
  replace HBa := hid (HBa.out.later HN.out.2 HBa.out.lt)
  replace HBb := hid (HBb.out.later HN.out.2 HBb.out.lt)
  replace HBt := hid (HBt.out.later HN.out.2 HBt.out.lt)
  replace HBc := hid (HBc.out.later HN.out.2 HBc.out.lt)
  replace HBd := hid (HBd.out.later HN.out.2 HBd.out.lt)
  replace HB := hid (b2 HB.out HN.out.2)
  have HBm := hid HN.out.1
  clear HN
  clear cc0 cc1 fc0 fc1
  clear cd0 cd1 fd0 fd1
  refine wp_loop_rounds 7 ?_
  rw [rounds_succ]
  have m0 : wj.cell? ⟨wi.heap.size, 0, none⟩ = some (.int .i64 2) := HBm.out.cell 0
  have m1 : wj.cell? ⟨wi.heap.size, 1, none⟩ = some (.int .i64 4) := HBm.out.cell 1
  go_wp2_with fail
  refine Calls.mono (HK0.out _) ?_
  rintro e x0 ⟨rfl, hb⟩
  replace HBa := hid (HBa.out.later hb HBa.out.lt)
  replace HBb := hid (HBb.out.later hb HBb.out.lt)
  replace HBt := hid (HBt.out.later hb HBt.out.lt)
  replace HBc := hid (HBc.out.later hb HBc.out.lt)
  replace HBd := hid (HBd.out.later hb HBd.out.lt)
  replace HBm := hid (HBm.out.later hb HBm.out.lt)
  replace HB := hid (b2 HB.out hb)
  clear hb
  clear m0 m1
  go_wp2_with fail
  rw [rounds_succ]
  have m0 : x0.cell? ⟨wi.heap.size, 2, none⟩ = some (.int .i64 1) := HBm.out.cell 2
  have m1 : x0.cell? ⟨wi.heap.size, 3, none⟩ = some (.int .i64 1) := HBm.out.cell 3
  go_wp2_with fail
  refine Calls.mono (HK1.out _) ?_
  rintro e x1 ⟨rfl, hb⟩
  replace HBa := hid (HBa.out.later hb HBa.out.lt)
  replace HBb := hid (HBb.out.later hb HBb.out.lt)
  replace HBt := hid (HBt.out.later hb HBt.out.lt)
  replace HBc := hid (HBc.out.later hb HBc.out.lt)
  replace HBd := hid (HBd.out.later hb HBd.out.lt)
  replace HBm := hid (HBm.out.later hb HBm.out.lt)
  replace HB := hid (b2 HB.out hb)
  clear hb
  clear m0 m1
  go_wp2_with fail
  rw [rounds_succ]
  have m0 : x1.cell? ⟨wi.heap.size, 4, none⟩ = some (.int .i64 0) := HBm.out.cell 4
  have m1 : x1.cell? ⟨wi.heap.size, 5, none⟩ = some (.int .i64 2) := HBm.out.cell 5
  go_wp2_with fail
  refine Calls.mono (HK2.out _) ?_
  rintro e x2 ⟨rfl, hb⟩
  replace HBa := hid (HBa.out.later hb HBa.out.lt)
  replace HBb := hid (HBb.out.later hb HBb.out.lt)
  replace HBt := hid (HBt.out.later hb HBt.out.lt)
  replace HBc := hid (HBc.out.later hb HBc.out.lt)
  replace HBd := hid (HBd.out.later hb HBd.out.lt)
  replace HBm := hid (HBm.out.later hb HBm.out.lt)
  replace HB := hid (b2 HB.out hb)
  clear hb
  clear m0 m1
  go_wp2_with fail
  rw [rounds_succ]
  have m0 : x2.cell? ⟨wi.heap.size, 6, none⟩ = some (.int .i64 0) := HBm.out.cell 6
  have m1 : x2.cell? ⟨wi.heap.size, 7, none⟩ = some (.int .i64 0) := HBm.out.cell 7
  go_wp2_with fail
  refine Calls.mono (HK3.out _) ?_
  rintro e x3 ⟨rfl, hb⟩
  replace HBa := hid (HBa.out.later hb HBa.out.lt)
  replace HBb := hid (HBb.out.later hb HBb.out.lt)
  replace HBt := hid (HBt.out.later hb HBt.out.lt)
  replace HBc := hid (HBc.out.later hb HBc.out.lt)
  replace HBd := hid (HBd.out.later hb HBd.out.lt)
  replace HBm := hid (HBm.out.later hb HBm.out.lt)
  replace HB := hid (b2 HB.out hb)
  clear hb
  clear m0 m1
  go_wp2_with fail
  rw [rounds_succ]
  have m0 : x3.cell? ⟨wi.heap.size, 8, none⟩ = some (.int .i64 (-1)) := HBm.out.cell 8
  have m1 : x3.cell? ⟨wi.heap.size, 9, none⟩ = some (.int .i64 3) := HBm.out.cell 9
  go_wp2_with fail
  refine Calls.mono (HK4.out _) ?_
  rintro e x4 ⟨rfl, hb⟩
  replace HBa := hid (HBa.out.later hb HBa.out.lt)
  replace HBb := hid (HBb.out.later hb HBb.out.lt)
  replace HBt := hid (HBt.out.later hb HBt.out.lt)
  replace HBc := hid (HBc.out.later hb HBc.out.lt)
  replace HBd := hid (HBd.out.later hb HBd.out.lt)
  replace HBm := hid (HBm.out.later hb HBm.out.lt)
  replace HB := hid (b2 HB.out hb)
  clear hb
  clear m0 m1
  go_wp2_with fail
  rw [rounds_succ]
  have m0 : x4.cell? ⟨wi.heap.size, 10, none⟩ = some (.int .i64 3) := HBm.out.cell 10
  have m1 : x4.cell? ⟨wi.heap.size, 11, none⟩ = some (.int .i64 2) := HBm.out.cell 11
  go_wp2_with fail
  refine Calls.mono (HK5.out _) ?_
  rintro e x5 ⟨rfl, hb⟩
  replace HBa := hid (HBa.out.later hb HBa.out.lt)
  replace HBb := hid (HBb.out.later hb HBb.out.lt)
  replace HBt := hid (HBt.out.later hb HBt.out.lt)
  replace HBc := hid (HBc.out.later hb HBc.out.lt)
  replace HBd := hid (HBd.out.later hb HBd.out.lt)
  replace HBm := hid (HBm.out.later hb HBm.out.lt)
  replace HB := hid (b2 HB.out hb)
  clear hb
  clear m0 m1
  go_wp2_with fail
  rw [rounds_succ]
  go_wp2_with fail
  have HN := hid (boxes1 x5 33 #[.complex .f64 4607182418800017408 0, .complex .f64 0 4607182418800017408, .complex .f64 13830554455654793216 0, .complex .f64 0 13830554455654793216])
  generalize x5.alloc (.cells #[.complex .f64 4607182418800017408 0, .complex .f64 0 4607182418800017408, .complex .f64 13830554455654793216 0, .complex .f64 0 13830554455654793216] 33) = y0 at *
  replace HBa := hid (HBa.out.later HN.out.2 HBa.out.lt)
  replace HBb := hid (HBb.out.later HN.out.2 HBb.out.lt)
  replace HBt := hid (HBt.out.later HN.out.2 HBt.out.lt)
  replace HBc := hid (HBc.out.later HN.out.2 HBc.out.lt)
  replace HBd := hid (HBd.out.later HN.out.2 HBd.out.lt)
  replace HBm := hid (HBm.out.later HN.out.2 HBm.out.lt)
  replace HB := hid (b2 HB.out HN.out.2)
  have HBn := hid HN.out.1
  clear HN
  refine wp_loop_rounds 5 ?_
  rw [rounds_succ]
  go_wp2_with fail
  refine Calls.mono (HP0.out _) ?_
  rintro e y0a ⟨rfl, hb⟩
  replace HBa := hid (HBa.out.later hb HBa.out.lt)
  replace HBb := hid (HBb.out.later hb HBb.out.lt)
  replace HBt := hid (HBt.out.later hb HBt.out.lt)
  replace HBc := hid (HBc.out.later hb HBc.out.lt)
  replace HBd := hid (HBd.out.later hb HBd.out.lt)
  replace HBm := hid (HBm.out.later hb HBm.out.lt)
  replace HBn := hid (HBn.out.later hb HBn.out.lt)
  replace HB := hid (b2 HB.out hb)
  clear hb
  have HN := hid (boxes1 y0a 23 #[.int .i64 0, .int .i64 1])
  obtain ⟨y0b, hW⟩ : ∃ y0b, y0a.alloc (.cells #[.int .i64 0, .int .i64 1] 23) = y0b := ⟨_, rfl⟩
  rw [hW] at HN
  replace HBa := hid (HBa.out.later HN.out.2 HBa.out.lt)
  replace HBb := hid (HBb.out.later HN.out.2 HBb.out.lt)
  replace HBt := hid (HBt.out.later HN.out.2 HBt.out.lt)
  replace HBc := hid (HBc.out.later HN.out.2 HBc.out.lt)
  replace HBd := hid (HBd.out.later HN.out.2 HBd.out.lt)
  replace HBm := hid (HBm.out.later HN.out.2 HBm.out.lt)
  replace HBn := hid (HBn.out.later HN.out.2 HBn.out.lt)
  replace HB := hid (b2 HB.out HN.out.2)
  have HBq0 := hid HN.out.1
  clear HN
  obtain ⟨cq00, cq01, fq00, fq01⟩ := fbox_facts HBq0.out (Below.refl _ _)
  go_wp2_with fail
  clear hW
  clear cq00 cq01 fq00 fq01
  clear HBq0
  refine Calls.mono (HZ0.out _) ?_
  rintro e y0c ⟨rfl, hb⟩
  replace HBa := hid (HBa.out.later hb HBa.out.lt)
  replace HBb := hid (HBb.out.later hb HBb.out.lt)
  replace HBt := hid (HBt.out.later hb HBt.out.lt)
  replace HBc := hid (HBc.out.later hb HBc.out.lt)
  replace HBd := hid (HBd.out.later hb HBd.out.lt)
  replace HBm := hid (HBm.out.later hb HBm.out.lt)
  replace HBn := hid (HBn.out.later hb HBn.out.lt)
  replace HB := hid (b2 HB.out hb)
  clear hb
  have m0 : y0c.cell? ⟨x5.heap.size, 0, none⟩ = some (.complex .f64 4607182418800017408 0) := HBn.out.cell 0
  go_wp2_with fail
  refine Calls.mono (HS0.out _) ?_
  rintro e y0d ⟨rfl, hb⟩
  replace HBa := hid (HBa.out.later hb HBa.out.lt)
  replace HBb := hid (HBb.out.later hb HBb.out.lt)
  replace HBt := hid (HBt.out.later hb HBt.out.lt)
  replace HBc := hid (HBc.out.later hb HBc.out.lt)
  replace HBd := hid (HBd.out.later hb HBd.out.lt)
  replace HBm := hid (HBm.out.later hb HBm.out.lt)
  replace HBn := hid (HBn.out.later hb HBn.out.lt)
  replace HB := hid (b2 HB.out hb)
  clear hb
  clear m0
  go_wp2_with fail
  rw [rounds_succ]
  go_wp2_with fail
  refine Calls.mono (HP1.out _) ?_
  rintro e y1a ⟨rfl, hb⟩
  replace HBa := hid (HBa.out.later hb HBa.out.lt)
  replace HBb := hid (HBb.out.later hb HBb.out.lt)
  replace HBt := hid (HBt.out.later hb HBt.out.lt)
  replace HBc := hid (HBc.out.later hb HBc.out.lt)
  replace HBd := hid (HBd.out.later hb HBd.out.lt)
  replace HBm := hid (HBm.out.later hb HBm.out.lt)
  replace HBn := hid (HBn.out.later hb HBn.out.lt)
  replace HB := hid (b2 HB.out hb)
  clear hb
  have HN := hid (boxes1 y1a 23 #[.int .i64 1, .int .i64 4])
  obtain ⟨y1b, hW⟩ : ∃ y1b, y1a.alloc (.cells #[.int .i64 1, .int .i64 4] 23) = y1b := ⟨_, rfl⟩
  rw [hW] at HN
  replace HBa := hid (HBa.out.later HN.out.2 HBa.out.lt)
  replace HBb := hid (HBb.out.later HN.out.2 HBb.out.lt)
  replace HBt := hid (HBt.out.later HN.out.2 HBt.out.lt)
  replace HBc := hid (HBc.out.later HN.out.2 HBc.out.lt)
  replace HBd := hid (HBd.out.later HN.out.2 HBd.out.lt)
  replace HBm := hid (HBm.out.later HN.out.2 HBm.out.lt)
  replace HBn := hid (HBn.out.later HN.out.2 HBn.out.lt)
  replace HB := hid (b2 HB.out HN.out.2)
  have HBq1 := hid HN.out.1
  clear HN
  obtain ⟨cq10, cq11, fq10, fq11⟩ := fbox_facts HBq1.out (Below.refl _ _)
  go_wp2_with fail
  clear hW
  clear cq10 cq11 fq10 fq11
  clear HBq1
  refine Calls.mono (HZ1.out _) ?_
  rintro e y1c ⟨rfl, hb⟩
  replace HBa := hid (HBa.out.later hb HBa.out.lt)
  replace HBb := hid (HBb.out.later hb HBb.out.lt)
  replace HBt := hid (HBt.out.later hb HBt.out.lt)
  replace HBc := hid (HBc.out.later hb HBc.out.lt)
  replace HBd := hid (HBd.out.later hb HBd.out.lt)
  replace HBm := hid (HBm.out.later hb HBm.out.lt)
  replace HBn := hid (HBn.out.later hb HBn.out.lt)
  replace HB := hid (b2 HB.out hb)
  clear hb
  have m0 : y1c.cell? ⟨x5.heap.size, 1, none⟩ = some (.complex .f64 0 4607182418800017408) := HBn.out.cell 1
  go_wp2_with fail
  refine Calls.mono (HS1.out _) ?_
  rintro e y1d ⟨rfl, hb⟩
  replace HBa := hid (HBa.out.later hb HBa.out.lt)
  replace HBb := hid (HBb.out.later hb HBb.out.lt)
  replace HBt := hid (HBt.out.later hb HBt.out.lt)
  replace HBc := hid (HBc.out.later hb HBc.out.lt)
  replace HBd := hid (HBd.out.later hb HBd.out.lt)
  replace HBm := hid (HBm.out.later hb HBm.out.lt)
  replace HBn := hid (HBn.out.later hb HBn.out.lt)
  replace HB := hid (b2 HB.out hb)
  clear hb
  clear m0
  go_wp2_with fail
  rw [rounds_succ]
  go_wp2_with fail
  refine Calls.mono (HP2.out _) ?_
  rintro e y2a ⟨rfl, hb⟩
  replace HBa := hid (HBa.out.later hb HBa.out.lt)
  replace HBb := hid (HBb.out.later hb HBb.out.lt)
  replace HBt := hid (HBt.out.later hb HBt.out.lt)
  replace HBc := hid (HBc.out.later hb HBc.out.lt)
  replace HBd := hid (HBd.out.later hb HBd.out.lt)
  replace HBm := hid (HBm.out.later hb HBm.out.lt)
  replace HBn := hid (HBn.out.later hb HBn.out.lt)
  replace HB := hid (b2 HB.out hb)
  clear hb
  have HN := hid (boxes1 y2a 23 #[.int .i64 1, .int .i64 2])
  obtain ⟨y2b, hW⟩ : ∃ y2b, y2a.alloc (.cells #[.int .i64 1, .int .i64 2] 23) = y2b := ⟨_, rfl⟩
  rw [hW] at HN
  replace HBa := hid (HBa.out.later HN.out.2 HBa.out.lt)
  replace HBb := hid (HBb.out.later HN.out.2 HBb.out.lt)
  replace HBt := hid (HBt.out.later HN.out.2 HBt.out.lt)
  replace HBc := hid (HBc.out.later HN.out.2 HBc.out.lt)
  replace HBd := hid (HBd.out.later HN.out.2 HBd.out.lt)
  replace HBm := hid (HBm.out.later HN.out.2 HBm.out.lt)
  replace HBn := hid (HBn.out.later HN.out.2 HBn.out.lt)
  replace HB := hid (b2 HB.out HN.out.2)
  have HBq2 := hid HN.out.1
  clear HN
  obtain ⟨cq20, cq21, fq20, fq21⟩ := fbox_facts HBq2.out (Below.refl _ _)
  go_wp2_with fail
  clear hW
  clear cq20 cq21 fq20 fq21
  clear HBq2
  refine Calls.mono (HZ2.out _) ?_
  rintro e y2c ⟨rfl, hb⟩
  replace HBa := hid (HBa.out.later hb HBa.out.lt)
  replace HBb := hid (HBb.out.later hb HBb.out.lt)
  replace HBt := hid (HBt.out.later hb HBt.out.lt)
  replace HBc := hid (HBc.out.later hb HBc.out.lt)
  replace HBd := hid (HBd.out.later hb HBd.out.lt)
  replace HBm := hid (HBm.out.later hb HBm.out.lt)
  replace HBn := hid (HBn.out.later hb HBn.out.lt)
  replace HB := hid (b2 HB.out hb)
  clear hb
  have m0 : y2c.cell? ⟨x5.heap.size, 2, none⟩ = some (.complex .f64 13830554455654793216 0) := HBn.out.cell 2
  go_wp2_with fail
  refine Calls.mono (HS2.out _) ?_
  rintro e y2d ⟨rfl, hb⟩
  replace HBa := hid (HBa.out.later hb HBa.out.lt)
  replace HBb := hid (HBb.out.later hb HBb.out.lt)
  replace HBt := hid (HBt.out.later hb HBt.out.lt)
  replace HBc := hid (HBc.out.later hb HBc.out.lt)
  replace HBd := hid (HBd.out.later hb HBd.out.lt)
  replace HBm := hid (HBm.out.later hb HBm.out.lt)
  replace HBn := hid (HBn.out.later hb HBn.out.lt)
  replace HB := hid (b2 HB.out hb)
  clear hb
  clear m0
  go_wp2_with fail
  rw [rounds_succ]
  go_wp2_with fail
  refine Calls.mono (HP3.out _) ?_
  rintro e y3a ⟨rfl, hb⟩
  replace HBa := hid (HBa.out.later hb HBa.out.lt)
  replace HBb := hid (HBb.out.later hb HBb.out.lt)
  replace HBt := hid (HBt.out.later hb HBt.out.lt)
  replace HBc := hid (HBc.out.later hb HBc.out.lt)
  replace HBd := hid (HBd.out.later hb HBd.out.lt)
  replace HBm := hid (HBm.out.later hb HBm.out.lt)
  replace HBn := hid (HBn.out.later hb HBn.out.lt)
  replace HB := hid (b2 HB.out hb)
  clear hb
  have HN := hid (boxes1 y3a 23 #[.int .i64 3, .int .i64 4])
  obtain ⟨y3b, hW⟩ : ∃ y3b, y3a.alloc (.cells #[.int .i64 3, .int .i64 4] 23) = y3b := ⟨_, rfl⟩
  rw [hW] at HN
  replace HBa := hid (HBa.out.later HN.out.2 HBa.out.lt)
  replace HBb := hid (HBb.out.later HN.out.2 HBb.out.lt)
  replace HBt := hid (HBt.out.later HN.out.2 HBt.out.lt)
  replace HBc := hid (HBc.out.later HN.out.2 HBc.out.lt)
  replace HBd := hid (HBd.out.later HN.out.2 HBd.out.lt)
  replace HBm := hid (HBm.out.later HN.out.2 HBm.out.lt)
  replace HBn := hid (HBn.out.later HN.out.2 HBn.out.lt)
  replace HB := hid (b2 HB.out HN.out.2)
  have HBq3 := hid HN.out.1
  clear HN
  obtain ⟨cq30, cq31, fq30, fq31⟩ := fbox_facts HBq3.out (Below.refl _ _)
  go_wp2_with fail
  clear hW
  clear cq30 cq31 fq30 fq31
  clear HBq3
  refine Calls.mono (HZ3.out _) ?_
  rintro e y3c ⟨rfl, hb⟩
  replace HBa := hid (HBa.out.later hb HBa.out.lt)
  replace HBb := hid (HBb.out.later hb HBb.out.lt)
  replace HBt := hid (HBt.out.later hb HBt.out.lt)
  replace HBc := hid (HBc.out.later hb HBc.out.lt)
  replace HBd := hid (HBd.out.later hb HBd.out.lt)
  replace HBm := hid (HBm.out.later hb HBm.out.lt)
  replace HBn := hid (HBn.out.later hb HBn.out.lt)
  replace HB := hid (b2 HB.out hb)
  clear hb
  have m0 : y3c.cell? ⟨x5.heap.size, 3, none⟩ = some (.complex .f64 0 13830554455654793216) := HBn.out.cell 3
  go_wp2_with fail
  refine Calls.mono (HS3.out _) ?_
  rintro e y3d ⟨rfl, hb⟩
  replace HBa := hid (HBa.out.later hb HBa.out.lt)
  replace HBb := hid (HBb.out.later hb HBb.out.lt)
  replace HBt := hid (HBt.out.later hb HBt.out.lt)
  replace HBc := hid (HBc.out.later hb HBc.out.lt)
  replace HBd := hid (HBd.out.later hb HBd.out.lt)
  replace HBm := hid (HBm.out.later hb HBm.out.lt)
  replace HBn := hid (HBn.out.later hb HBn.out.lt)
  replace HB := hid (b2 HB.out hb)
  clear hb
  clear m0
  go_wp2_with fail
  rw [rounds_succ]
  go_wp2_with fail
  refine Calls.mono (HQ.out _ HB.out) ?_
  rintro e v0 ⟨rfl, hb⟩
  replace HBa := hid (HBa.out.later hb HBa.out.lt)
  replace HBb := hid (HBb.out.later hb HBb.out.lt)
  replace HBt := hid (HBt.out.later hb HBt.out.lt)
  replace HBc := hid (HBc.out.later hb HBc.out.lt)
  replace HBd := hid (HBd.out.later hb HBd.out.lt)
  replace HBm := hid (HBm.out.later hb HBm.out.lt)
  replace HBn := hid (HBn.out.later hb HBn.out.lt)
  replace HB := hid (b2 HB.out hb)
  clear hb
  have HN := hid (boxes1 v0 23 #[.int .i64 1, .int .i64 4])
  obtain ⟨v1, hW⟩ : ∃ v1, v0.alloc (.cells #[.int .i64 1, .int .i64 4] 23) = v1 := ⟨_, rfl⟩
  rw [hW] at HN
  replace HBa := hid (HBa.out.later HN.out.2 HBa.out.lt)
  replace HBb := hid (HBb.out.later HN.out.2 HBb.out.lt)
  replace HBt := hid (HBt.out.later HN.out.2 HBt.out.lt)
  replace HBc := hid (HBc.out.later HN.out.2 HBc.out.lt)
  replace HBd := hid (HBd.out.later HN.out.2 HBd.out.lt)
  replace HBm := hid (HBm.out.later HN.out.2 HBm.out.lt)
  replace HBn := hid (HBn.out.later HN.out.2 HBn.out.lt)
  replace HB := hid (b2 HB.out HN.out.2)
  have HBp := hid HN.out.1
  clear HN
  obtain ⟨cp0, cp1, fp0, fp1⟩ := fbox_facts HBp.out (Below.refl _ _)
  obtain ⟨ca0, ca1, fa0, fa1⟩ := fbox_facts HBa.out (Below.refl _ _)
  go_wp2_with fail
  clear hW
  clear cp0 cp1 fp0 fp1
  clear ca0 ca1 fa0 fa1
  have HN := hid (boxes1 v1 9 #[.string ⟨#[50, 47, 56]⟩, .string ⟨#[49, 32, 47, 32, 52]⟩, .string ⟨#[48, 49, 47, 52]⟩, .string ⟨#[]⟩, .string ⟨#[47]⟩, .string ⟨#[49, 47]⟩, .string ⟨#[49]⟩, .string ⟨#[45, 49, 47, 52]⟩, .string ⟨#[49, 47, 52, 32]⟩])
  generalize v1.alloc (.cells #[.string ⟨#[50, 47, 56]⟩, .string ⟨#[49, 32, 47, 32, 52]⟩, .string ⟨#[48, 49, 47, 52]⟩, .string ⟨#[]⟩, .string ⟨#[47]⟩, .string ⟨#[49, 47]⟩, .string ⟨#[49]⟩, .string ⟨#[45, 49, 47, 52]⟩, .string ⟨#[49, 47, 52, 32]⟩] 9) = u0 at *
  replace HBa := hid (HBa.out.later HN.out.2 HBa.out.lt)
  replace HBb := hid (HBb.out.later HN.out.2 HBb.out.lt)
  replace HBt := hid (HBt.out.later HN.out.2 HBt.out.lt)
  replace HBc := hid (HBc.out.later HN.out.2 HBc.out.lt)
  replace HBd := hid (HBd.out.later HN.out.2 HBd.out.lt)
  replace HBm := hid (HBm.out.later HN.out.2 HBm.out.lt)
  replace HBn := hid (HBn.out.later HN.out.2 HBn.out.lt)
  replace HBp := hid (HBp.out.later HN.out.2 HBp.out.lt)
  replace HB := hid (b2 HB.out HN.out.2)
  have HBs := hid HN.out.1
  clear HN
  refine wp_loop_rounds 10 ?_
  rw [rounds_succ]
  have m0 : u0.cell? ⟨v1.heap.size, 0, none⟩ = some (.string ⟨#[50, 47, 56]⟩) := HBs.out.cell 0
  go_wp2_with fail
  refine Calls.mono (HW0.out _ HB.out) ?_
  rintro e u1 ⟨rfl, hb⟩
  replace HBa := hid (HBa.out.later hb HBa.out.lt)
  replace HBb := hid (HBb.out.later hb HBb.out.lt)
  replace HBt := hid (HBt.out.later hb HBt.out.lt)
  replace HBc := hid (HBc.out.later hb HBc.out.lt)
  replace HBd := hid (HBd.out.later hb HBd.out.lt)
  replace HBm := hid (HBm.out.later hb HBm.out.lt)
  replace HBn := hid (HBn.out.later hb HBn.out.lt)
  replace HBp := hid (HBp.out.later hb HBp.out.lt)
  replace HBs := hid (HBs.out.later hb HBs.out.lt)
  replace HB := hid (b2 HB.out hb)
  clear hb
  clear m0
  go_wp2_with fail
  rw [rounds_succ]
  have m0 : u1.cell? ⟨v1.heap.size, 1, none⟩ = some (.string ⟨#[49, 32, 47, 32, 52]⟩) := HBs.out.cell 1
  go_wp2_with fail
  refine Calls.mono (HW1.out _ HB.out) ?_
  rintro e u2 ⟨rfl, hb⟩
  replace HBa := hid (HBa.out.later hb HBa.out.lt)
  replace HBb := hid (HBb.out.later hb HBb.out.lt)
  replace HBt := hid (HBt.out.later hb HBt.out.lt)
  replace HBc := hid (HBc.out.later hb HBc.out.lt)
  replace HBd := hid (HBd.out.later hb HBd.out.lt)
  replace HBm := hid (HBm.out.later hb HBm.out.lt)
  replace HBn := hid (HBn.out.later hb HBn.out.lt)
  replace HBp := hid (HBp.out.later hb HBp.out.lt)
  replace HBs := hid (HBs.out.later hb HBs.out.lt)
  replace HB := hid (b2 HB.out hb)
  clear hb
  clear m0
  go_wp2_with fail
  rw [rounds_succ]
  have m0 : u2.cell? ⟨v1.heap.size, 2, none⟩ = some (.string ⟨#[48, 49, 47, 52]⟩) := HBs.out.cell 2
  go_wp2_with fail
  refine Calls.mono (HW2.out _ HB.out) ?_
  rintro e u3 ⟨rfl, hb⟩
  replace HBa := hid (HBa.out.later hb HBa.out.lt)
  replace HBb := hid (HBb.out.later hb HBb.out.lt)
  replace HBt := hid (HBt.out.later hb HBt.out.lt)
  replace HBc := hid (HBc.out.later hb HBc.out.lt)
  replace HBd := hid (HBd.out.later hb HBd.out.lt)
  replace HBm := hid (HBm.out.later hb HBm.out.lt)
  replace HBn := hid (HBn.out.later hb HBn.out.lt)
  replace HBp := hid (HBp.out.later hb HBp.out.lt)
  replace HBs := hid (HBs.out.later hb HBs.out.lt)
  replace HB := hid (b2 HB.out hb)
  clear hb
  clear m0
  go_wp2_with fail
  rw [rounds_succ]
  have m0 : u3.cell? ⟨v1.heap.size, 3, none⟩ = some (.string ⟨#[]⟩) := HBs.out.cell 3
  go_wp2_with fail
  refine Calls.mono (HW3.out _ HB.out) ?_
  rintro e u4 ⟨rfl, hb⟩
  replace HBa := hid (HBa.out.later hb HBa.out.lt)
  replace HBb := hid (HBb.out.later hb HBb.out.lt)
  replace HBt := hid (HBt.out.later hb HBt.out.lt)
  replace HBc := hid (HBc.out.later hb HBc.out.lt)
  replace HBd := hid (HBd.out.later hb HBd.out.lt)
  replace HBm := hid (HBm.out.later hb HBm.out.lt)
  replace HBn := hid (HBn.out.later hb HBn.out.lt)
  replace HBp := hid (HBp.out.later hb HBp.out.lt)
  replace HBs := hid (HBs.out.later hb HBs.out.lt)
  replace HB := hid (b2 HB.out hb)
  clear hb
  clear m0
  go_wp2_with fail
  rw [rounds_succ]
  have m0 : u4.cell? ⟨v1.heap.size, 4, none⟩ = some (.string ⟨#[47]⟩) := HBs.out.cell 4
  go_wp2_with fail
  refine Calls.mono (HW4.out _ HB.out) ?_
  rintro e u5 ⟨rfl, hb⟩
  replace HBa := hid (HBa.out.later hb HBa.out.lt)
  replace HBb := hid (HBb.out.later hb HBb.out.lt)
  replace HBt := hid (HBt.out.later hb HBt.out.lt)
  replace HBc := hid (HBc.out.later hb HBc.out.lt)
  replace HBd := hid (HBd.out.later hb HBd.out.lt)
  replace HBm := hid (HBm.out.later hb HBm.out.lt)
  replace HBn := hid (HBn.out.later hb HBn.out.lt)
  replace HBp := hid (HBp.out.later hb HBp.out.lt)
  replace HBs := hid (HBs.out.later hb HBs.out.lt)
  replace HB := hid (b2 HB.out hb)
  clear hb
  clear m0
  go_wp2_with fail
  rw [rounds_succ]
  have m0 : u5.cell? ⟨v1.heap.size, 5, none⟩ = some (.string ⟨#[49, 47]⟩) := HBs.out.cell 5
  go_wp2_with fail
  refine Calls.mono (HW5.out _ HB.out) ?_
  rintro e u6 ⟨rfl, hb⟩
  replace HBa := hid (HBa.out.later hb HBa.out.lt)
  replace HBb := hid (HBb.out.later hb HBb.out.lt)
  replace HBt := hid (HBt.out.later hb HBt.out.lt)
  replace HBc := hid (HBc.out.later hb HBc.out.lt)
  replace HBd := hid (HBd.out.later hb HBd.out.lt)
  replace HBm := hid (HBm.out.later hb HBm.out.lt)
  replace HBn := hid (HBn.out.later hb HBn.out.lt)
  replace HBp := hid (HBp.out.later hb HBp.out.lt)
  replace HBs := hid (HBs.out.later hb HBs.out.lt)
  replace HB := hid (b2 HB.out hb)
  clear hb
  clear m0
  go_wp2_with fail
  rw [rounds_succ]
  have m0 : u6.cell? ⟨v1.heap.size, 6, none⟩ = some (.string ⟨#[49]⟩) := HBs.out.cell 6
  go_wp2_with fail
  refine Calls.mono (HW6.out _ HB.out) ?_
  rintro e u7 ⟨rfl, hb⟩
  replace HBa := hid (HBa.out.later hb HBa.out.lt)
  replace HBb := hid (HBb.out.later hb HBb.out.lt)
  replace HBt := hid (HBt.out.later hb HBt.out.lt)
  replace HBc := hid (HBc.out.later hb HBc.out.lt)
  replace HBd := hid (HBd.out.later hb HBd.out.lt)
  replace HBm := hid (HBm.out.later hb HBm.out.lt)
  replace HBn := hid (HBn.out.later hb HBn.out.lt)
  replace HBp := hid (HBp.out.later hb HBp.out.lt)
  replace HBs := hid (HBs.out.later hb HBs.out.lt)
  replace HB := hid (b2 HB.out hb)
  clear hb
  clear m0
  go_wp2_with fail
  rw [rounds_succ]
  have m0 : u7.cell? ⟨v1.heap.size, 7, none⟩ = some (.string ⟨#[45, 49, 47, 52]⟩) := HBs.out.cell 7
  go_wp2_with fail
  refine Calls.mono (HW7.out _ HB.out) ?_
  rintro e u8 ⟨rfl, hb⟩
  replace HBa := hid (HBa.out.later hb HBa.out.lt)
  replace HBb := hid (HBb.out.later hb HBb.out.lt)
  replace HBt := hid (HBt.out.later hb HBt.out.lt)
  replace HBc := hid (HBc.out.later hb HBc.out.lt)
  replace HBd := hid (HBd.out.later hb HBd.out.lt)
  replace HBm := hid (HBm.out.later hb HBm.out.lt)
  replace HBn := hid (HBn.out.later hb HBn.out.lt)
  replace HBp := hid (HBp.out.later hb HBp.out.lt)
  replace HBs := hid (HBs.out.later hb HBs.out.lt)
  replace HB := hid (b2 HB.out hb)
  clear hb
  clear m0
  go_wp2_with fail
  rw [rounds_succ]
  have m0 : u8.cell? ⟨v1.heap.size, 8, none⟩ = some (.string ⟨#[49, 47, 52, 32]⟩) := HBs.out.cell 8
  go_wp2_with fail
  refine Calls.mono (HW8.out _ HB.out) ?_
  rintro e u9 ⟨rfl, hb⟩
  replace HBa := hid (HBa.out.later hb HBa.out.lt)
  replace HBb := hid (HBb.out.later hb HBb.out.lt)
  replace HBt := hid (HBt.out.later hb HBt.out.lt)
  replace HBc := hid (HBc.out.later hb HBc.out.lt)
  replace HBd := hid (HBd.out.later hb HBd.out.lt)
  replace HBm := hid (HBm.out.later hb HBm.out.lt)
  replace HBn := hid (HBn.out.later hb HBn.out.lt)
  replace HBp := hid (HBp.out.later hb HBp.out.lt)
  replace HBs := hid (HBs.out.later hb HBs.out.lt)
  replace HB := hid (b2 HB.out hb)
  clear hb
  clear m0
  go_wp2_with fail
  rw [rounds_succ]
  go_wp2_with fail
  refine Calls.mono (HLV.out _) ?_
  rintro e ua ⟨rfl, hb⟩
  replace HBa := hid (HBa.out.later hb HBa.out.lt)
  replace HBb := hid (HBb.out.later hb HBb.out.lt)
  replace HBt := hid (HBt.out.later hb HBt.out.lt)
  replace HBc := hid (HBc.out.later hb HBc.out.lt)
  replace HBd := hid (HBd.out.later hb HBd.out.lt)
  replace HBm := hid (HBm.out.later hb HBm.out.lt)
  replace HBn := hid (HBn.out.later hb HBn.out.lt)
  replace HBp := hid (HBp.out.later hb HBp.out.lt)
  replace HBs := hid (HBs.out.later hb HBs.out.lt)
  replace HB := hid (b2 HB.out hb)
  clear hb
  go_wp2_with fail
  refine Calls.mono (HKZ.out _) ?_
  rintro e ub ⟨rfl, hb⟩
  replace HBa := hid (HBa.out.later hb HBa.out.lt)
  replace HBb := hid (HBb.out.later hb HBb.out.lt)
  replace HBt := hid (HBt.out.later hb HBt.out.lt)
  replace HBc := hid (HBc.out.later hb HBc.out.lt)
  replace HBd := hid (HBd.out.later hb HBd.out.lt)
  replace HBm := hid (HBm.out.later hb HBm.out.lt)
  replace HBn := hid (HBn.out.later hb HBn.out.lt)
  replace HBp := hid (HBp.out.later hb HBp.out.lt)
  replace HBs := hid (HBs.out.later hb HBs.out.lt)
  replace HB := hid (b2 HB.out hb)
  clear hb
  go_wp2_with fail
  go_ret
  exact ⟨rfl, HB.out⟩
end Go.Proofs.YtnhkbnmkcnmbgaaDoor

