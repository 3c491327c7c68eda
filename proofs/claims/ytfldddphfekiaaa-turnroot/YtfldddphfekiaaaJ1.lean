/- My texts on the way to TurnRoot, one behind the other: contracts of the program and of the document's answers. -/
import Derived.WalkKit
import Derived.WalkLawsBesides
import Derived.WalkSpells
import Derived.Laws.BitsAllLaws
import Derived.Laws.CopyOwn
import Derived.Laws.AppendOwnNone
import Derived.Test.YtfldddphfekiaaaChecked
import Derived.Handy
import Derived.Deep.RegionHeld3
import Derived.RegionTactic
import Derived.ChangeAlike
import Derived.Deep.QuietTactic
import Derived.BigQuiet
/- Floats of 64 bits by their bits: which are finite, what a sum or difference of two gives, the sum of two with what was lost of it, as plain functions of the bits. Nothing here speaks of the program. -/
namespace Go.Proofs.Ytfldddphfekiaaa

/-- Neither an infinity nor NaN: by the bits. -/
def fin (x : Nat) : Bool := x / 4503599627370496 % 2048 != 2047

theorem fin_iff (x : Nat) : fin x = true ↔ x % 9223372036854775808 < 9218868437227405312 := by
  unfold fin
  simp only [bne_iff_ne, ne_eq]
  omega

theorem dbl_sign : Ieee.double.signWeight = 9223372036854775808 := by decide
theorem dbl_inf : Ieee.double.infRung = 9218868437227405312 := by decide
theorem dbl_binade : Ieee.double.binade = 4503599627370496 := by decide

theorem read_fin {x : Nat} (h : fin x = true) : ∃ s m e, Ieee.double.read x = .number s m e := by
  rw [fin_iff] at h
  unfold Ieee.Format.read
  simp only [dbl_sign, dbl_inf, dbl_binade]
  split
  · exact ⟨_, _, _, rfl⟩
  · first | exact ⟨_, _, _, rfl⟩ | (rw [if_pos h]; exact ⟨_, _, _, rfl⟩)

theorem read_not {x : Nat} (h : fin x = false) : (∃ s, Ieee.double.read x = .infinity s) ∨ ∃ s f, Ieee.double.read x = .nan s f := by
  have h' : ¬ x % 9223372036854775808 < 9218868437227405312 := fun g => by rw [(fin_iff x).2 g] at h; exact Bool.noConfusion h
  unfold Ieee.Format.read
  simp only [dbl_sign, dbl_inf, dbl_binade]
  rw [if_neg (by omega), if_neg h']
  split
  · exact Or.inl ⟨_, rfl⟩
  · exact Or.inr ⟨_, _, rfl⟩

theorem write_inf (s : Bool) : fin (Ieee.double.write (.infinity s)) = false := by
  cases s <;> decide

theorem nan_cut (x y t : Nat) : fin (Question.cut (.nanBits .f64 x y) t) = false ∧ Question.cut (.nanBits .f64 x y) t < 18446744073709551616 := by
  simp only [Question.cut]
  have hu : (t / 2) % (2 ^ 52 - 1) < 4503599627370495 := Nat.mod_lt _ (by decide)
  have hv : t % 2 = 0 ∨ t % 2 = 1 := by omega
  generalize (t / 2) % (2 ^ 52 - 1) = u at hu ⊢
  generalize t % 2 = v at hv ⊢
  constructor
  · cases hh : fin (v * 2 ^ 63 + 0x7ff0000000000000 + 1 + u)
    · rfl
    · rw [fin_iff] at hh; rcases hv with rfl | rfl <;> omega
  · rcases hv with rfl | rfl <;> omega

/-- What the machine hands back: the bits of the answer, or, where there is none, some NaN. -/
def FR (op : BinOp) (x y r : Nat) : Prop := r < 18446744073709551616 ∧ (floatBits op .f64 x y = some r ∨ (floatBits op .f64 x y = none ∧ fin r = false))

theorem FR.det {op : BinOp} {x y r s : Nat} (h : FR op x y r) (g : floatBits op .f64 x y = some s) : r = s := by
  rcases h.2 with h | ⟨h, _⟩
  · rw [h] at g; exact Option.some.inj g
  · rw [h] at g; cases g

theorem FR.some {op : BinOp} {x y r : Nat} (h : floatBits op .f64 x y = .some r) : FR op x y r := by
  have := floatBits_wf h
  simp [Lit.wf] at this
  exact ⟨this, Or.inl h⟩
theorem FR.none {op : BinOp} {x y : Nat} (t : Nat) (h : floatBits op .f64 x y = .none) : FR op x y (Question.cut (.nanBits .f64 x y) t) :=
  ⟨(nan_cut x y t).2, Or.inr ⟨h, (nan_cut x y t).1⟩⟩

theorem sum_back {d c : Ieee.Datum} {r : Nat} (h : (d.sum c).map Ieee.double.write = .some r) (hf : fin r = true) : (∃ s m e, d = .number s m e) ∧ ∃ s m e, c = .number s m e := by
  cases d with
  | nan s f => simp [Ieee.Datum.sum] at h
  | infinity s =>
    cases c with
    | nan t f => simp [Ieee.Datum.sum] at h
    | infinity t =>
      simp only [Ieee.Datum.sum] at h
      split at h
      · cases h; rw [write_inf] at hf; cases hf
      · cases h
    | number t m e => simp only [Ieee.Datum.sum] at h; cases h; rw [write_inf] at hf; cases hf
  | number s m e =>
    cases c with
    | nan t f => simp [Ieee.Datum.sum] at h
    | infinity t => simp only [Ieee.Datum.sum] at h; cases h; rw [write_inf] at hf; cases hf
    | number t n j => exact ⟨⟨_, _, _, rfl⟩, ⟨_, _, _, rfl⟩⟩

theorem fin_of_read {x : Nat} {s : Bool} {m : Nat} {e : Int} (h : Ieee.double.read x = .number s m e) : fin x = true := by
  cases hx : fin x
  · rcases read_not hx with ⟨_, g⟩ | ⟨_, _, g⟩ <;> rw [g] at h <;> cases h
  · rfl

theorem add_back {x y r : Nat} (h : floatBits .add .f64 x y = .some r) (hf : fin r = true) : fin x = true ∧ fin y = true := by
  obtain ⟨⟨_, _, _, h1⟩, ⟨_, _, _, h2⟩⟩ := sum_back h hf
  exact ⟨fin_of_read h1, fin_of_read h2⟩
theorem sub_back {x y r : Nat} (h : floatBits .sub .f64 x y = .some r) (hf : fin r = true) : fin x = true ∧ fin y = true := by
  obtain ⟨⟨_, _, _, h1⟩, ⟨s, m, e, h2⟩⟩ := sum_back h hf
  refine ⟨fin_of_read h1, ?_⟩
  cases hy : fin y
  · rcases read_not hy with ⟨_, g⟩ | ⟨_, _, g⟩ <;> (have g' : FloatKind.f64.format.read y = _ := g; rw [g'] at h2; cases h2)
  · rfl

theorem FR.addBack {x y r : Nat} (h : FR .add x y r) (hf : fin r = true) : floatBits .add .f64 x y = .some r ∧ fin x = true ∧ fin y = true := by
  rcases h.2 with h | ⟨_, g⟩
  · exact ⟨h, add_back h hf⟩
  · rw [g] at hf; cases hf
theorem FR.subBack {x y r : Nat} (h : FR .sub x y r) (hf : fin r = true) : floatBits .sub .f64 x y = .some r ∧ fin x = true ∧ fin y = true := by
  rcases h.2 with h | ⟨_, g⟩
  · exact ⟨h, sub_back h hf⟩
  · rw [g] at hf; cases hf

theorem add_some {x y : Nat} (hx : fin x = true) (hy : fin y = true) : ∃ r, floatBits .add .f64 x y = .some r := by
  obtain ⟨s, m, e, h1⟩ := read_fin hx
  obtain ⟨t, n, j, h2⟩ := read_fin hy
  exact ⟨_, show (((Ieee.double.read x).sum (Ieee.double.read y)).map Ieee.double.write) = _ by rw [h1, h2]; rfl⟩

theorem order_self {x : Nat} (h : fin x = true) : FloatKind.f64.format.order x x = .some .eq := by
  obtain ⟨s, m, e, h1⟩ := read_fin h
  show (Ieee.double.read x).order (Ieee.double.read x) = _
  rw [h1]
  simp [Ieee.Datum.order]

theorem run_add (P : Program) (w : World) (t : TypeId) (x y : Nat) (h : floatBits .add .f64 x y = .none) :
    (binOp .add t (.float .f64 x) (.float .f64 y)).run P w = .ok (.float .f64 (Question.cut (.nanBits .f64 x y) (w.tape w.drawn (.nanBits .f64 x y)))) w.drew := by
  have h' : FloatKind.f64.format.add x y = .none := h
  simp [binOp, Op.floatArith, h', Question.forced]
theorem run_sub (P : Program) (w : World) (t : TypeId) (x y : Nat) (h : floatBits .sub .f64 x y = .none) :
    (binOp .sub t (.float .f64 x) (.float .f64 y)).run P w = .ok (.float .f64 (Question.cut (.nanBits .f64 x y) (w.tape w.drawn (.nanBits .f64 x y)))) w.drew := by
  have h' : FloatKind.f64.format.sub x y = .none := h
  simp [binOp, Op.floatArith, h', Question.forced]

/-- The sum of two finite floats and what was lost of it; nothing, where one of both is not finite. -/
def chain (a b : Nat) : Option (Nat × Nat) :=
  match floatBits .add .f64 a b with
  | .none => .none
  | .some s => if fin s then
      match floatBits .sub .f64 s a with
      | .none => .none
      | .some t =>
        match floatBits .sub .f64 s t with
        | .none => .none
        | .some d =>
          match floatBits .sub .f64 a d, floatBits .sub .f64 b t with
          | .some p, .some q =>
            match floatBits .add .f64 p q with
            | .none => .none
            | .some e => if fin e then .some (s, e) else .none
          | _, _ => .none
    else .none

/-- The steps as the machine goes them. -/
def Two (a b s e : Nat) : Prop := ∃ t d p q, FR .add a b s ∧ FR .sub s a t ∧ FR .sub s t d ∧ FR .sub a d p ∧ FR .sub b t q ∧ FR .add p q e

theorem Two.good {a b s e : Nat} (h : Two a b s e) (hs : fin s = true) (he : fin e = true) : chain a b = .some (s, e) := by
  obtain ⟨t, d, p, q, h1, h2, h3, h4, h5, h6⟩ := h
  obtain ⟨g6, fp, fq⟩ := h6.addBack he
  obtain ⟨g5, _, ft⟩ := h5.subBack fq
  obtain ⟨g4, _, fd⟩ := h4.subBack fp
  obtain ⟨g3, _, _⟩ := h3.subBack fd
  obtain ⟨g2, _, _⟩ := h2.subBack ft
  obtain ⟨g1, _, _⟩ := h1.addBack hs
  simp only [chain, g1, g2, g3, g4, g5, g6, hs, he, if_true]

theorem chain_back {a b : Nat} {u : Nat × Nat} (h : chain a b = .some u) : fin u.1 = true ∧ fin u.2 = true ∧ ∀ s e, Two a b s e → s = u.1 ∧ e = u.2 := by
  unfold chain at h
  split at h
  · cases h
  rename_i s g1
  split at h
  · rename_i hs
    split at h
    · cases h
    rename_i t g2
    split at h
    · cases h
    rename_i d g3
    split at h
    · rename_i p q g4 g5
      split at h
      · cases h
      rename_i e g6
      split at h
      · rename_i he
        cases h
        refine ⟨hs, he, fun s' e' hh => ?_⟩
        obtain ⟨t', d', p', q', h1, h2, h3, h4, h5, h6⟩ := hh
        have e1 := h1.det g1
        subst e1
        have e2 := h2.det g2
        subst e2
        have e3 := h3.det g3
        subst e3
        have e4 := h4.det g4
        subst e4
        have e5 := h5.det g5
        subst e5
        exact ⟨rfl, h6.det g6⟩
      · cases h
    · cases h
  · cases h

theorem Two.bad {a b s e : Nat} (h : Two a b s e) (hb : fin s = false ∨ fin e = false) : chain a b = .none := by
  cases hc : chain a b with
  | none => rfl
  | some u =>
    obtain ⟨h1, h2, h3⟩ := chain_back hc
    obtain ⟨e1, e2⟩ := h3 _ _ h
    rcases hb with hb | hb
    · rw [e1, h1] at hb; cases hb
    · rw [e2, h2] at hb; cases hb

/-- The first step alone. -/
theorem chain_over {a b s : Nat} (h : FR .add a b s) (hs : fin s = false) : chain a b = .none := by
  cases hc : floatBits .add .f64 a b with
  | none => simp only [chain, hc]
  | some r =>
    have := h.det hc
    subst this
    simp only [chain, hc, hs]
    rfl

/-- TwoSum: the sum, what was lost, the error. -/
def tsum (a b : Nat) : Nat × Nat × Int :=
  if fin a && fin b then
    match chain a b with
    | .some (s, e) => (s, e, 0)
    | .none => (0, 0, 9)
  else (0, 0, 8)

theorem tsum_fin (a b : Nat) : fin (tsum a b).1 = true ∧ fin (tsum a b).2.1 = true := by
  unfold tsum
  split
  · cases hc : chain a b with
    | none => exact ⟨by decide, by decide⟩
    | some u => exact ⟨(chain_back hc).1, (chain_back hc).2.1⟩
  · exact ⟨by decide, by decide⟩

theorem tsum_ok {a b s e : Nat} (ha : fin a = true) (hb : fin b = true) (h : chain a b = .some (s, e)) : tsum a b = (s, e, 0) := by
  simp only [tsum, ha, hb, h, Bool.and_true, if_true]
theorem tsum_over {a b : Nat} (ha : fin a = true) (hb : fin b = true) (h : chain a b = .none) : tsum a b = (0, 0, 9) := by
  simp only [tsum, ha, hb, h, Bool.and_true, if_true]
theorem tsum_bad {a b : Nat} (h : (fin a && fin b) = false) : tsum a b = (0, 0, 8) := by
  simp only [tsum, h]
  rfl

/-- Sum from a sum, what was lost, and a place on: the two and the fault. -/
def fsumGo : Nat → Nat → Nat → List Nat → Nat × Nat × Int × Int
  | s, c, _, [] => (s, c, 0, 0)
  | s, c, i, x :: l =>
    match chain s x with
    | .none => (0, 0, 9, (i : Int))
    | .some (t, e) =>
      match floatBits .add .f64 c e with
      | .none => (0, 0, 9, (i : Int))
      | .some d => if fin d then fsumGo t d (i + 1) l else (0, 0, 9, (i : Int))

/-- Sum: from a place on with all ahead of it finite. -/
def fsumFrom (l0 : List Nat) : Nat → List Nat → Nat × Nat × Int × Int
  | _, [] => fsumGo 0 0 0 l0
  | i, x :: l => if fin x then fsumFrom l0 (i + 1) l else (0, 0, 8, (i : Int))
def fsum (l : List Nat) : Nat × Nat × Int × Int := fsumFrom l 0 l

theorem drop_step {l : List Nat} {k : Nat} (h : k < l.length) : l.drop k = (l[k]?.getD 0) :: l.drop (k + 1) := by
  rw [List.drop_eq_getElem_cons h, List.getElem?_eq_getElem h]
  rfl

theorem fsumFrom_fin {l0 l : List Nat} {k : Nat} (h : k < l.length) (hf : fin (l[k]?.getD 0) = true) : fsumFrom l0 k (l.drop k) = fsumFrom l0 (k + 1) (l.drop (k + 1)) := by
  rw [drop_step h]
  simp only [fsumFrom, hf, if_true]
theorem fsumFrom_bad {l0 l : List Nat} {k : Nat} (h : k < l.length) (hf : fin (l[k]?.getD 0) = false) : fsumFrom l0 k (l.drop k) = (0, 0, 8, (k : Int)) := by
  rw [drop_step h]
  simp only [fsumFrom, hf]
  rfl
theorem fsumFrom_end {l0 l : List Nat} {k : Nat} (h : l.length ≤ k) : fsumFrom l0 k (l.drop k) = fsumGo 0 0 0 l0 := by
  rw [List.drop_of_length_le h]
  rfl
theorem fsumGo_end {l : List Nat} {s c k : Nat} (h : l.length ≤ k) : fsumGo s c k (l.drop k) = (s, c, 0, 0) := by
  rw [List.drop_of_length_le h]
  rfl
theorem fsumGo_none {l : List Nat} {s c k : Nat} (h : k < l.length) (g : chain s (l[k]?.getD 0) = .none) : fsumGo s c k (l.drop k) = (0, 0, 9, (k : Int)) := by
  rw [drop_step h]
  simp only [fsumGo, g]
theorem fsumGo_over {l : List Nat} {s c k t e d : Nat} (h : k < l.length) (g : chain s (l[k]?.getD 0) = .some (t, e)) (g2 : floatBits .add .f64 c e = .some d) (g3 : fin d = false) : fsumGo s c k (l.drop k) = (0, 0, 9, (k : Int)) := by
  rw [drop_step h]
  simp only [fsumGo, g, g2, g3]
  rfl
theorem fsumGo_step {l : List Nat} {s c k t e d : Nat} (h : k < l.length) (g : chain s (l[k]?.getD 0) = .some (t, e)) (g2 : floatBits .add .f64 c e = .some d) (g3 : fin d = true) : fsumGo s c k (l.drop k) = fsumGo t d (k + 1) (l.drop (k + 1)) := by
  rw [drop_step h]
  simp only [fsumGo, g, g2, g3, if_true]

/-- All of them: finite. -/
def Fins (l : List Nat) : Prop := ∀ j : Nat, fin (l[j]?.getD 0) = true

theorem fin0 : fin 0 = true := by decide

/-- A round of the program's loop. -/
theorem round_good {l : List Nat} {s c k s' e' c' : Nat} (h : k < l.length) (h2 : Two s (l[k]?.getD 0) s' e') (h3 : FR .add c e' c') (f1 : fin s' = true) (f2 : fin c' = true) :
    fsumGo s c k (l.drop k) = fsumGo s' c' (k + 1) (l.drop (k + 1)) := by
  obtain ⟨g, _, fe⟩ := h3.addBack f2
  exact fsumGo_step h (h2.good f1 fe) g f2
theorem round_bad {l : List Nat} {s c k s' e' c' : Nat} (h : k < l.length) (fc : fin c = true) (h2 : Two s (l[k]?.getD 0) s' e') (h3 : FR .add c e' c') (f : fin s' = false ∨ fin c' = false) :
    fsumGo s c k (l.drop k) = (0, 0, 9, (k : Int)) := by
  cases f1 : fin s'
  · exact fsumGo_none h (h2.bad (.inl f1))
  · cases fe : fin e'
    · exact fsumGo_none h (h2.bad (.inr fe))
    · have f2 : fin c' = false := by
        rcases f with f | f
        · rw [f1] at f; cases f
        · exact f
      obtain ⟨r, hr⟩ := add_some fc fe
      have := h3.det hr
      subst this
      exact fsumGo_over h (h2.good f1 fe) hr f2

theorem fsumGo_fin (l : List Nat) : ∀ s c i, fin s = true → fin c = true → fin (fsumGo s c i l).1 = true ∧ fin (fsumGo s c i l).2.1 = true := by
  induction l with
  | nil => intro s c i hs hc; exact ⟨hs, hc⟩
  | cons x l ih =>
    intro s c i hs hc
    simp only [fsumGo]
    split
    · exact ⟨fin0, fin0⟩
    · rename_i t e g
      split
      · exact ⟨fin0, fin0⟩
      · rename_i d g2
        split
        · rename_i hd
          exact ih t d (i + 1) (chain_back g).1 hd
        · exact ⟨fin0, fin0⟩
theorem fsumFrom_good (l0 : List Nat) (l : List Nat) : ∀ i, fin (fsumFrom l0 i l).1 = true ∧ fin (fsumFrom l0 i l).2.1 = true := by
  induction l with
  | nil => intro i; exact fsumGo_fin l0 0 0 0 (by decide) (by decide)
  | cons x l ih =>
    intro i
    simp only [fsumFrom]
    split
    · exact ih (i + 1)
    · exact ⟨fin0, fin0⟩

end Go.Proofs.Ytfldddphfekiaaa

/- Floats of 64 bits that are NaN, by their bits; which answers are alike; the order of sizes is that of their bits. Nothing here speaks of the program. -/
namespace Go.Proofs.Ytfldddphfekiaaa

/-- NaN, by the bits. -/
def isnan (x : Nat) : Bool := decide (9218868437227405312 < x % 9223372036854775808)

theorem isnan_iff (x : Nat) : isnan x = true ↔ 9218868437227405312 < x % 9223372036854775808 := by simp [isnan]

theorem read_isnan {x : Nat} (h : isnan x = true) : ∃ s f, Ieee.double.read x = .nan s f := by
  rw [isnan_iff] at h
  unfold Ieee.Format.read
  simp only [dbl_sign, dbl_inf, dbl_binade]
  rw [if_neg (by omega), if_neg (by omega), if_neg (by omega)]
  exact ⟨_, _, rfl⟩

theorem read_notnan {x : Nat} (h : isnan x = false) : (∃ s, Ieee.double.read x = .infinity s) ∨ ∃ s m e, Ieee.double.read x = .number s m e := by
  have h' : ¬ 9218868437227405312 < x % 9223372036854775808 := fun g => by rw [(isnan_iff x).2 g] at h; cases h
  unfold Ieee.Format.read
  simp only [dbl_sign, dbl_inf, dbl_binade]
  split
  · exact Or.inr ⟨_, _, _, rfl⟩
  split
  · exact Or.inr ⟨_, _, _, rfl⟩
  rw [if_pos (by omega)]
  exact Or.inl ⟨_, rfl⟩

theorem order_nan_l {x y : Nat} (h : isnan x = true) : FloatKind.f64.format.order x y = none := by
  obtain ⟨s, f, e⟩ := read_isnan h
  show (Ieee.double.read x).order (Ieee.double.read y) = none
  rw [e]
  cases Ieee.double.read y <;> rfl
theorem order_nan_r {x y : Nat} (h : isnan y = true) : FloatKind.f64.format.order x y = none := by
  obtain ⟨s, f, e⟩ := read_isnan h
  show (Ieee.double.read x).order (Ieee.double.read y) = none
  rw [e]
  cases Ieee.double.read x <;> rfl
theorem order_refl {x : Nat} (h : isnan x = false) : FloatKind.f64.format.order x x = some .eq := by
  show (Ieee.double.read x).order (Ieee.double.read x) = _
  rcases read_notnan h with ⟨s, e⟩ | ⟨s, m, i, e⟩ <;> rw [e] <;> simp [Ieee.Datum.order]
theorem neq_self (x : Nat) : (FloatKind.f64.format.order x x != some .eq) = isnan x := by
  cases h : isnan x
  · rw [order_refl h]; rfl
  · rw [order_nan_l h]; rfl

/-- One of the four operations. -/
def isop (op : BinOp) : Prop := op = .add ∨ op = .sub ∨ op = .mul ∨ op = .quo

theorem fb_nan_l {op : BinOp} {x y : Nat} (h : isnan x = true) : floatBits op .f64 x y = none := by
  obtain ⟨s, f, e⟩ := read_isnan h
  have k : FloatKind.f64.format.read x = .nan s f := e
  cases op <;> try rfl
  · show (((FloatKind.f64.format.read x).sum (FloatKind.f64.format.read y)).map _) = none
    rw [k]; cases FloatKind.f64.format.read y <;> rfl
  · show (((FloatKind.f64.format.read x).sum (FloatKind.f64.format.read y).opposite).map _) = none
    rw [k]; cases (FloatKind.f64.format.read y).opposite <;> rfl
  · show (((FloatKind.f64.format.read x).product (FloatKind.f64.format.read y)).map _) = none
    rw [k]; cases FloatKind.f64.format.read y <;> rfl
  · show (((FloatKind.f64.format.read x).quotient _ (FloatKind.f64.format.read y)).map _) = none
    rw [k]; cases FloatKind.f64.format.read y <;> rfl
theorem fb_nan_r {op : BinOp} {x y : Nat} (h : isnan y = true) : floatBits op .f64 x y = none := by
  obtain ⟨s, f, e⟩ := read_isnan h
  have k : FloatKind.f64.format.read y = .nan s f := e
  cases op <;> try rfl
  · show (((FloatKind.f64.format.read x).sum (FloatKind.f64.format.read y)).map _) = none
    rw [k]; cases FloatKind.f64.format.read x <;> rfl
  · show (((FloatKind.f64.format.read x).sum (FloatKind.f64.format.read y).opposite).map _) = none
    rw [k]; cases FloatKind.f64.format.read x <;> rfl
  · show (((FloatKind.f64.format.read x).product (FloatKind.f64.format.read y)).map _) = none
    rw [k]; cases FloatKind.f64.format.read x <;> rfl
  · show (((FloatKind.f64.format.read x).quotient _ (FloatKind.f64.format.read y)).map _) = none
    rw [k]; cases FloatKind.f64.format.read x <;> rfl

theorem isnan_cut (x y t : Nat) : isnan (Question.cut (.nanBits .f64 x y) t) = true ∧ Question.cut (.nanBits .f64 x y) t < 18446744073709551616 := by
  refine ⟨?_, (nan_cut x y t).2⟩
  rw [isnan_iff]
  simp only [Question.cut]
  have hu : (t / 2) % (2 ^ 52 - 1) < 4503599627370495 := Nat.mod_lt _ (by decide)
  have hv : t % 2 = 0 ∨ t % 2 = 1 := by omega
  generalize (t / 2) % (2 ^ 52 - 1) = u at hu ⊢
  generalize t % 2 = v at hv ⊢
  rcases hv with rfl | rfl <;> omega

/-- What the machine hands back: the bits of the answer, or, where there is none, some NaN. -/
def FN (op : BinOp) (x y r : Nat) : Prop := r < 18446744073709551616 ∧ (floatBits op .f64 x y = some r ∨ (floatBits op .f64 x y = none ∧ isnan r = true))
/-- The same bits, or NaN both. -/
def Al (x y : Nat) : Prop := x = y ∨ (isnan x = true ∧ isnan y = true)

theorem Al.refl (x : Nat) : Al x x := .inl rfl

theorem FN.al {op : BinOp} {x y r x' y' r' : Nat} (h : FN op x y r) (h' : FN op x' y' r') (ax : Al x x') (ay : Al y y') : Al r r' := by
  have none_none : floatBits op .f64 x y = none → floatBits op .f64 x' y' = none → Al r r' := by
    intro e e'
    right
    refine ⟨?_, ?_⟩
    · rcases h.2 with g | ⟨_, g⟩
      · rw [e] at g; cases g
      · exact g
    · rcases h'.2 with g | ⟨_, g⟩
      · rw [e'] at g; cases g
      · exact g
  rcases ax with rfl | ⟨n1, n2⟩
  · rcases ay with rfl | ⟨n1, n2⟩
    · rcases h.2 with g | ⟨g, k⟩
      · rcases h'.2 with g' | ⟨g', _⟩
        · rw [g] at g'; exact .inl (Option.some.inj g')
        · rw [g] at g'; cases g'
      · exact none_none g g
    · exact none_none (fb_nan_r n1) (fb_nan_r n2)
  · exact none_none (fb_nan_l n1) (fb_nan_l n2)

theorem FN.some {op : BinOp} {x y r : Nat} (h : floatBits op .f64 x y = .some r) : FN op x y r := by
  have := floatBits_wf h
  simp [Lit.wf] at this
  exact ⟨this, Or.inl h⟩
theorem FN.none {op : BinOp} {x y : Nat} (t : Nat) (h : floatBits op .f64 x y = .none) : FN op x y (Question.cut (.nanBits .f64 x y) t) :=
  ⟨(isnan_cut x y t).2, Or.inr ⟨h, (isnan_cut x y t).1⟩⟩

/-- The root: its bits, or some NaN. -/
def FQ (x r : Nat) : Prop := r < 18446744073709551616 ∧ (Ieee.double.sqrt x = some r ∨ (Ieee.double.sqrt x = none ∧ isnan r = true))
theorem FQ.al {x r x' r' : Nat} (h : FQ x r) (h' : FQ x' r') (ax : Al x x') : Al r r' := by
  have none_none : Ieee.double.sqrt x = none → Ieee.double.sqrt x' = none → Al r r' := by
    intro e e'
    right
    refine ⟨?_, ?_⟩
    · rcases h.2 with g | ⟨_, g⟩
      · rw [e] at g; cases g
      · exact g
    · rcases h'.2 with g | ⟨_, g⟩
      · rw [e'] at g; cases g
      · exact g
  have nn : ∀ z, isnan z = true → Ieee.double.sqrt z = none := by
    intro z hz
    obtain ⟨s, f, e⟩ := read_isnan hz
    show ((Ieee.double.read z).root _).map _ = none
    rw [e]; rfl
  rcases ax with rfl | ⟨n1, n2⟩
  · rcases h.2 with g | ⟨g, k⟩
    · rcases h'.2 with g' | ⟨g', _⟩
      · rw [g] at g'; exact .inl (Option.some.inj g')
      · rw [g] at g'; cases g'
    · exact none_none g g
  · exact none_none (nn _ n1) (nn _ n2)

/-- Same, of reals. -/
def sameR (x y : Nat) : Bool := isnan x && isnan y || x == y
theorem Al.same {x y : Nat} (h : Al x y) : sameR x y = true := by
  rcases h with rfl | ⟨h1, h2⟩
  · simp [sameR]
  · simp [sameR, h1, h2]

/-! ### The order of sizes -/

/-- The number at a rung, in units of the least float. -/
def rungVal (r : Nat) : Nat := if r < 4503599627370496 then r else (4503599627370496 + r % 4503599627370496) * 2 ^ (r / 4503599627370496 - 1)

theorem rungVal_lt {r s : Nat} (h : r < s) : rungVal r < rungVal s := by
  unfold rungVal
  by_cases hr : r < 4503599627370496
  · rw [if_pos hr]
    by_cases hs : s < 4503599627370496
    · rw [if_pos hs]; exact h
    · rw [if_neg hs]
      have hp : 0 < 2 ^ (s / 4503599627370496 - 1) := Nat.two_pow_pos _
      have : 4503599627370496 * 1 ≤ (4503599627370496 + s % 4503599627370496) * 2 ^ (s / 4503599627370496 - 1) := Nat.mul_le_mul (by omega) hp
      omega
  · have hs : ¬ s < 4503599627370496 := by omega
    rw [if_neg hr, if_neg hs]
    have hd : r / 4503599627370496 ≤ s / 4503599627370496 := Nat.div_le_div_right (by omega)
    rcases Nat.lt_or_eq_of_le hd with hd | hd
    · have e1 : s / 4503599627370496 - 1 = (r / 4503599627370496 - 1) + 1 + (s / 4503599627370496 - r / 4503599627370496 - 1) := by omega
      generalize hk : s / 4503599627370496 - r / 4503599627370496 - 1 = k at e1
      rw [e1, Nat.pow_add, Nat.pow_succ]
      have hp : 0 < 2 ^ (r / 4503599627370496 - 1) := Nat.two_pow_pos _
      have hq : 0 < 2 ^ k := Nat.two_pow_pos _
      have a1 : (4503599627370496 + r % 4503599627370496) * 2 ^ (r / 4503599627370496 - 1) < (4503599627370496 * 2) * 2 ^ (r / 4503599627370496 - 1) := Nat.mul_lt_mul_of_pos_right (by omega) hp
      have a2 : (4503599627370496 * 2) * 2 ^ (r / 4503599627370496 - 1) = 4503599627370496 * (2 ^ (r / 4503599627370496 - 1) * 2) * 1 := by rw [Nat.mul_assoc, Nat.mul_comm 2, Nat.mul_one]
      have a3 : 4503599627370496 * (2 ^ (r / 4503599627370496 - 1) * 2) * 1 ≤ 4503599627370496 * (2 ^ (r / 4503599627370496 - 1) * 2) * 2 ^ k := Nat.mul_le_mul_left _ hq
      have a4 : 4503599627370496 * (2 ^ (r / 4503599627370496 - 1) * 2) * 2 ^ k = 4503599627370496 * (2 ^ (r / 4503599627370496 - 1) * 2 * 2 ^ k) := Nat.mul_assoc _ _ _
      have a5 : 4503599627370496 * (2 ^ (r / 4503599627370496 - 1) * 2 * 2 ^ k) ≤ (4503599627370496 + s % 4503599627370496) * (2 ^ (r / 4503599627370496 - 1) * 2 * 2 ^ k) := Nat.mul_le_mul_right _ (by omega)
      omega
    · rw [← hd]
      exact Nat.mul_lt_mul_of_pos_right (by omega) (Nat.two_pow_pos _)

theorem rungVal_le {r s : Nat} (h : r ≤ s) : rungVal r ≤ rungVal s := by
  rcases Nat.lt_or_eq_of_le h with h | rfl
  · exact Nat.le_of_lt (rungVal_lt h)
  · exact Nat.le_refl _

theorem rungVal_cmp (r s : Nat) : compare (rungVal r) (rungVal s) = compare r s := by
  rcases Nat.lt_trichotomy r s with h | rfl | h
  · rw [Nat.compare_eq_lt.2 h, Nat.compare_eq_lt.2 (rungVal_lt h)]
  · simp
  · rw [Nat.compare_eq_gt.2 h, Nat.compare_eq_gt.2 (rungVal_lt h)]

theorem dbl_least : Ieee.double.leastPlace = -1074 := by decide

/-- What a finite word stands for. -/
theorem read_num {x : Nat} (h : x % 9223372036854775808 < 9218868437227405312) :
    ∃ m a, Ieee.double.read x = .number (x / 9223372036854775808 % 2 == 1) m (-1074 + (a : Nat)) ∧ m * 2 ^ a = rungVal (x % 9223372036854775808) := by
  unfold Ieee.Format.read
  simp only [dbl_sign, dbl_inf, dbl_binade, dbl_least]
  by_cases hb : x % 9223372036854775808 < 4503599627370496
  · rw [if_pos hb]
    exact ⟨_, 0, rfl, by rw [rungVal, if_pos hb]; simp⟩
  · rw [if_neg hb, if_pos h]
    exact ⟨_, _, rfl, by rw [rungVal, if_neg hb]⟩

theorem shl_cmp (m n a b : Nat) : compare (Ieee.signed false m (((-1074 + (a : Nat) : Int) - min (-1074 + (a : Nat) : Int) (-1074 + (b : Nat) : Int))).toNat) (Ieee.signed false n (((-1074 + (b : Nat) : Int) - min (-1074 + (a : Nat) : Int) (-1074 + (b : Nat) : Int))).toNat) = compare (m * 2 ^ a) (n * 2 ^ b) := by
  have e1 : ((-1074 + (a : Nat) : Int) - min (-1074 + (a : Nat) : Int) (-1074 + (b : Nat) : Int)).toNat = a - min a b := by omega
  have e2 : ((-1074 + (b : Nat) : Int) - min (-1074 + (a : Nat) : Int) (-1074 + (b : Nat) : Int)).toNat = b - min a b := by omega
  rw [e1, e2]
  simp only [Ieee.signed, Nat.shiftLeft_eq]
  have hp : 0 < 2 ^ min a b := Nat.two_pow_pos _
  have f1 : m * 2 ^ a = m * 2 ^ (a - min a b) * 2 ^ min a b := by rw [Nat.mul_assoc, ← Nat.pow_add]; congr 2; omega
  have f2 : n * 2 ^ b = n * 2 ^ (b - min a b) * 2 ^ min a b := by rw [Nat.mul_assoc, ← Nat.pow_add]; congr 2; omega
  rw [f1, f2]
  generalize m * 2 ^ (a - min a b) = u
  generalize n * 2 ^ (b - min a b) = v
  generalize 2 ^ min a b = p at hp
  simp only [Bool.false_eq_true, if_false]
  rcases Nat.lt_trichotomy u v with h | rfl | h
  · rw [Nat.compare_eq_lt.2 (Nat.mul_lt_mul_of_pos_right h hp)]
    exact Int.compare_eq_lt.2 (by omega)
  · simp
  · rw [Nat.compare_eq_gt.2 (Nat.mul_lt_mul_of_pos_right h hp)]
    exact Int.compare_eq_gt.2 (by omega)

/-- Of sizes the order is that of their bits. -/
theorem order_pos {x y : Nat} (hx : x ≤ 9218868437227405312) (hy : y ≤ 9218868437227405312) : FloatKind.f64.format.order x y = some (compare x y) := by
  show (Ieee.double.read x).order (Ieee.double.read y) = _
  have inf : Ieee.double.read 9218868437227405312 = .infinity false := by decide
  have hm : ∀ z : Nat, z < 9218868437227405312 → z % 9223372036854775808 = z ∧ (z / 9223372036854775808 % 2 == 1) = false := fun z hz => ⟨Nat.mod_eq_of_lt (by omega), by rw [Nat.div_eq_of_lt (by omega)]; rfl⟩
  rcases Nat.lt_or_eq_of_le hx with gx | rfl
  · obtain ⟨m, a, ex, vx⟩ := read_num (x := x) (by rw [(hm x gx).1]; exact gx)
    rw [(hm x gx).1] at vx
    rw [(hm x gx).2] at ex
    rcases Nat.lt_or_eq_of_le hy with gy | rfl
    · obtain ⟨n, b, ey, vy⟩ := read_num (x := y) (by rw [(hm y gy).1]; exact gy)
      rw [(hm y gy).1] at vy
      rw [(hm y gy).2] at ey
      rw [ex, ey]
      simp only [Ieee.Datum.order]
      rw [shl_cmp, vx, vy, rungVal_cmp]
    · rw [ex, inf, Nat.compare_eq_lt.2 gx]; rfl
  · rcases Nat.lt_or_eq_of_le hy with gy | rfl
    · obtain ⟨n, b, ey, vy⟩ := read_num (x := y) (by rw [(hm y gy).1]; exact gy)
      rw [ey, inf, Nat.compare_eq_gt.2 gy]; rfl
    · rw [inf]; simp [Ieee.Datum.order]

end Go.Proofs.Ytfldddphfekiaaa

/- Rounding to the nearest float: where the rung that is told stands to the number. Nothing here speaks of the program. -/
namespace Go.Proofs.Ytfldddphfekiaaa

theorem dbl_frac : Ieee.double.fractionBits = 52 := rfl

/-- Half-even of n / 2^k: twice the error is at most a unit. -/
theorem cut_even (neg : Bool) (n k : Nat) (hn : n ≠ 0) :
    2 * n ≤ (2 * Ieee.Toward.even.cut neg n k + 1) * 2 ^ k ∧ (2 * Ieee.Toward.even.cut neg n k) * 2 ^ k ≤ 2 * n + 2 ^ k ∧
    (2 * n = (2 * Ieee.Toward.even.cut neg n k + 1) * 2 ^ k → Ieee.Toward.even.cut neg n k % 2 = 0) ∧ ((2 * Ieee.Toward.even.cut neg n k) * 2 ^ k = 2 * n + 2 ^ k → Ieee.Toward.even.cut neg n k % 2 = 0) := by
  unfold Ieee.Toward.cut
  simp only [Nat.shiftLeft_eq, Nat.one_mul]
  by_cases hk : k ≤ n.log2 + 2
  · rw [Nat.min_eq_left hk]
    have hp : 0 < 2 ^ k := Nat.two_pow_pos k
    generalize 2 ^ k = G at hp
    have hd := Nat.div_add_mod n G
    have hm := Nat.mod_lt n hp
    generalize n / G = q at hd
    generalize n % G = r at hd hm
    subst hd
    by_cases h1 : G < 2 * r
    · have e : (decide (G < 2 * r) || G == 2 * r && q % 2 == 1).toNat = 1 := by simp [h1]
      rw [e]
      have a1 : (2 * (q + 1) + 1) * G = 2 * (G * q) + 3 * G := by rw [Nat.add_mul, Nat.mul_comm (2 * (q + 1)), Nat.mul_add, Nat.mul_add, Nat.mul_left_comm]; omega
      have a2 : (2 * (q + 1)) * G = 2 * (G * q) + 2 * G := by rw [Nat.mul_comm (2 * (q + 1)), Nat.mul_add, Nat.mul_add, Nat.mul_left_comm]; omega
      rw [a1, a2]
      refine ⟨by omega, by omega, by omega, by omega⟩
    · by_cases h2 : G = 2 * r
      · by_cases h3 : q % 2 = 1
        · have e : (decide (G < 2 * r) || G == 2 * r && q % 2 == 1).toNat = 1 := by simp [h2, h3]
          rw [e]
          have a1 : (2 * (q + 1) + 1) * G = 2 * (G * q) + 3 * G := by rw [Nat.add_mul, Nat.mul_comm (2 * (q + 1)), Nat.mul_add, Nat.mul_add, Nat.mul_left_comm]; omega
          have a2 : (2 * (q + 1)) * G = 2 * (G * q) + 2 * G := by rw [Nat.mul_comm (2 * (q + 1)), Nat.mul_add, Nat.mul_add, Nat.mul_left_comm]; omega
          rw [a1, a2]
          refine ⟨by omega, by omega, by omega, by omega⟩
        · have e : (decide (G < 2 * r) || G == 2 * r && q % 2 == 1).toNat = 0 := by simp [h1, h3]
          rw [e]
          have a1 : (2 * (q + 0) + 1) * G = 2 * (G * q) + G := by rw [Nat.add_mul, Nat.mul_comm (2 * (q + 0)), Nat.add_zero, Nat.mul_left_comm]; omega
          have a2 : (2 * (q + 0)) * G = 2 * (G * q) := by rw [Nat.mul_comm (2 * (q + 0)), Nat.add_zero, Nat.mul_left_comm]
          rw [a1, a2]
          refine ⟨by omega, by omega, by omega, by omega⟩
      · have e : (decide (G < 2 * r) || G == 2 * r && q % 2 == 1).toNat = 0 := by simp [h1, h2]
        rw [e]
        have a1 : (2 * (q + 0) + 1) * G = 2 * (G * q) + G := by rw [Nat.add_mul, Nat.mul_comm (2 * (q + 0)), Nat.add_zero, Nat.mul_left_comm]; omega
        have a2 : (2 * (q + 0)) * G = 2 * (G * q) := by rw [Nat.mul_comm (2 * (q + 0)), Nat.add_zero, Nat.mul_left_comm]
        rw [a1, a2]
        refine ⟨by omega, by omega, by omega, by omega⟩
  · rw [Nat.min_eq_right (by omega)]
    have hl : n < 2 ^ (n.log2 + 1) := Nat.lt_log2_self
    have e2 : 2 ^ (n.log2 + 2) = 2 ^ (n.log2 + 1) * 2 := Nat.pow_succ ..
    have hle : 2 ^ (n.log2 + 2) ≤ 2 ^ k := Nat.pow_le_pow_right (by decide) (by omega)
    have hdiv : n / 2 ^ (n.log2 + 2) = 0 := Nat.div_eq_of_lt (by omega)
    have hmod : n % 2 ^ (n.log2 + 2) = n := Nat.mod_eq_of_lt (by omega)
    rw [hdiv, hmod]
    have e : (decide (2 ^ (n.log2 + 2) < 2 * n) || 2 ^ (n.log2 + 2) == 2 * n && 0 % 2 == 1).toNat = 0 := by
      have h1 : ¬ 2 ^ (n.log2 + 2) < 2 * n := by omega
      simp [h1]
    rw [e]
    simp only [Nat.add_zero, Nat.mul_zero, Nat.zero_mul, Nat.zero_add, Nat.one_mul]
    refine ⟨by omega, by omega, by omega, fun _ => trivial⟩

/-- The rung that nearest tells, of a number above 0, and what is known ahead of the least and the greatest. -/
theorem near_core (neg : Bool) (mag : Nat) (place : Int) (h0 : mag ≠ 0) :
    ∃ E kept, Ieee.double.nearest neg mag place = Ieee.double.word neg (min (E * 4503599627370496 + kept) 9218868437227405312) ∧ kept ≤ 9007199254740992 ∧ (0 < E → 4503599627370496 ≤ kept) ∧
      2 * (mag * 2 ^ (place + 1074).toNat) ≤ (2 * kept + 1) * 2 ^ E * 2 ^ (-(place + 1074)).toNat ∧
      (2 * kept) * 2 ^ E * 2 ^ (-(place + 1074)).toNat ≤ 2 * (mag * 2 ^ (place + 1074).toNat) + 2 ^ E * 2 ^ (-(place + 1074)).toNat ∧
      (0 < E → 4503599627370496 * 2 ^ E * 2 ^ (-(place + 1074)).toNat ≤ mag * 2 ^ (place + 1074).toNat) ∧
      (2 * (mag * 2 ^ (place + 1074).toNat) = (2 * kept + 1) * 2 ^ E * 2 ^ (-(place + 1074)).toNat → kept % 2 = 0) ∧
      ((2 * kept) * 2 ^ E * 2 ^ (-(place + 1074)).toNat = 2 * (mag * 2 ^ (place + 1074).toNat) + 2 ^ E * 2 ^ (-(place + 1074)).toNat → kept % 2 = 0) := by
  unfold Ieee.Format.nearest
  rw [if_neg h0]
  simp only [dbl_inf, dbl_binade, dbl_least, dbl_frac]
  generalize hL : mag.log2 = L
  have hlo : 2 ^ L ≤ mag := by rw [← hL]; exact Nat.log2_self_le h0
  have hhi : mag < 2 ^ (L + 1) := by rw [← hL]; exact Nat.lt_log2_self
  generalize hlast : max (place + (L : Int) - ((52 : Nat) : Int)) (-1074) = last
  have hle : -1074 ≤ last := by omega
  refine ⟨(last - -1074).toNat, _, rfl, ?_⟩
  obtain ⟨E, hE⟩ : ∃ E : Nat, last = -1074 + (E : Int) := ⟨(last + 1074).toNat, by omega⟩
  have eE : (last - -1074).toNat = E := by omega
  rw [eE]
  by_cases hd : last ≤ place
  · -- nothing is dropped
    obtain ⟨u, hu⟩ : ∃ u : Nat, place = last + (u : Int) := ⟨(place - last).toNat, by omega⟩
    have e1 : (place - last).toNat = u := by omega
    have e2 : (last - place).toNat = 0 := by omega
    have e3 : (place + 1074).toNat = E + u := by omega
    have e4 : (-(place + 1074)).toNat = 0 := by omega
    rw [e1, e2, e3, e4]
    have hk : Ieee.Toward.even.cut neg (mag <<< u) 0 = mag * 2 ^ u := by
      have hm : mag <<< u ≠ 0 := by rw [Nat.shiftLeft_eq]; exact Nat.mul_ne_zero h0 (Nat.ne_of_gt (Nat.two_pow_pos u))
      obtain ⟨c1, c2, _⟩ := cut_even neg (mag <<< u) 0 hm
      rw [Nat.shiftLeft_eq] at *
      simp only [Nat.pow_zero, Nat.mul_one] at c1 c2
      omega
    rw [hk]
    have hp : 2 ^ (E + u) = 2 ^ u * 2 ^ E := by rw [Nat.add_comm, Nat.pow_add]
    have hv : mag * 2 ^ (E + u) = mag * 2 ^ u * 2 ^ E := by rw [hp, Nat.mul_assoc]
    rw [hv]
    have hpE : 0 < 2 ^ E := Nat.two_pow_pos E
    have hub : mag * 2 ^ u ≤ 9007199254740992 := by
      have : L + u ≤ 52 := by omega
      have h1 : mag * 2 ^ u ≤ 2 ^ (L + 1) * 2 ^ u := Nat.mul_le_mul_right _ (Nat.le_of_lt hhi)
      have h2 : 2 ^ (L + 1) * 2 ^ u = 2 ^ (L + 1 + u) := (Nat.pow_add ..).symm
      have h3 : 2 ^ (L + 1 + u) ≤ 2 ^ 53 := Nat.pow_le_pow_right (by decide) (by omega)
      have h4 : (2 : Nat) ^ 53 = 9007199254740992 := by decide
      omega
    have hlb : 0 < E → 4503599627370496 ≤ mag * 2 ^ u := by
      intro hE0
      have h1 : 2 ^ L * 2 ^ u ≤ mag * 2 ^ u := Nat.mul_le_mul_right _ hlo
      have h2 : 2 ^ L * 2 ^ u = 2 ^ (L + u) := (Nat.pow_add ..).symm
      have h3 : L + u = 52 := by omega
      have h4 : (2 : Nat) ^ 52 = 4503599627370496 := by decide
      rw [h3] at h2
      omega
    generalize mag * 2 ^ u = K at *
    generalize 2 ^ E = P at *
    simp only [Nat.pow_zero, Nat.mul_one]
    have a1 : 2 * (K * P) = 2 * K * P := (Nat.mul_assoc ..).symm
    have a2 : (2 * K + 1) * P = 2 * K * P + P := by rw [Nat.add_mul, Nat.one_mul]
    rw [a1, a2]
    refine ⟨hub, hlb, by omega, by omega, fun h => Nat.mul_le_mul_right _ (hlb h), fun h => ?_, fun h => ?_⟩
    · omega
    · omega
  · -- some bits are dropped
    obtain ⟨k, hk⟩ : ∃ k : Nat, last = place + (k : Int) := ⟨(last - place).toNat, by omega⟩
    have e1 : (place - last).toNat = 0 := by omega
    have e2 : (last - place).toNat = k := by omega
    rw [e1, e2, Nat.shiftLeft_zero]
    obtain ⟨c1, c2, c3, c4⟩ := cut_even neg mag k h0
    generalize hK : Ieee.Toward.even.cut neg mag k = K at *
    -- the place's part
    have key : 2 ^ k * 2 ^ (place + 1074).toNat = 2 ^ E * 2 ^ (-(place + 1074)).toNat := by
      rw [← Nat.pow_add, ← Nat.pow_add]
      congr 1
      omega
    generalize hA : 2 ^ (place + 1074).toNat = A at *
    generalize hB : 2 ^ (-(place + 1074)).toNat = B at *
    have hA0 : 0 < A := by rw [← hA]; exact Nat.two_pow_pos _
    have hkp : 0 < 2 ^ k := Nat.two_pow_pos k
    have m1 : (2 * K + 1) * 2 ^ E * B = (2 * K + 1) * 2 ^ k * A := by rw [Nat.mul_assoc (2 * K + 1) (2 ^ E) B, ← key, Nat.mul_assoc (2 * K + 1) (2 ^ k) A]
    have m2 : (2 * K) * 2 ^ E * B = (2 * K) * 2 ^ k * A := by rw [Nat.mul_assoc (2 * K) (2 ^ E) B, ← key, Nat.mul_assoc (2 * K) (2 ^ k) A]
    have m3 : 2 ^ E * B = 2 ^ k * A := key.symm
    have m4 : 2 * (mag * A) = 2 * mag * A := (Nat.mul_assoc ..).symm
    rw [m1, m2, m3, m4]
    have m5 : 2 * mag * A + 2 ^ k * A = (2 * mag + 2 ^ k) * A := (Nat.add_mul ..).symm
    rw [m5]
    have b52 : (2 : Nat) ^ 52 = 4503599627370496 := by decide
    have b53 : (2 : Nat) ^ 53 = 9007199254740992 := by decide
    refine ⟨?_, ?_, Nat.mul_le_mul_right _ c1, Nat.mul_le_mul_right _ c2, ?_, fun h => c3 (Nat.eq_of_mul_eq_mul_right hA0 h), fun h => c4 (Nat.eq_of_mul_eq_mul_right hA0 h)⟩
    · -- the count is at most 2^53
      have hlk : L ≤ 52 + k := by omega
      have h1 : mag < 9007199254740992 * 2 ^ k := by
        have h2 : 2 ^ (L + 1) ≤ 2 ^ (53 + k) := Nat.pow_le_pow_right (by decide) (by omega)
        rw [Nat.pow_add 2 53 k, b53] at h2
        omega
      have h3 : 2 * K * 2 ^ k < (2 * 9007199254740992 + 1) * 2 ^ k := by
        have : 2 * mag + 2 ^ k < 2 * (9007199254740992 * 2 ^ k) + 2 ^ k := by omega
        have e : (2 * 9007199254740992 + 1) * 2 ^ k = 2 * (9007199254740992 * 2 ^ k) + 2 ^ k := by rw [Nat.add_mul, Nat.one_mul, Nat.mul_assoc]
        omega
      have := Nat.lt_of_mul_lt_mul_right h3
      omega
    · intro hE0
      have hlk : L = 52 + k := by omega
      have h1 : 4503599627370496 * 2 ^ k ≤ mag := by
        have h2 := hlo
        rw [hlk, Nat.pow_add, b52] at h2
        exact h2
      have h3 : 2 * 4503599627370496 * 2 ^ k ≤ (2 * K + 1) * 2 ^ k := by
        have e : 2 * 4503599627370496 * 2 ^ k = 2 * (4503599627370496 * 2 ^ k) := Nat.mul_assoc ..
        omega
      have := Nat.le_of_mul_le_mul_right h3 hkp
      omega
    · intro hE0
      have hlk : L = 52 + k := by omega
      have h1 : 4503599627370496 * 2 ^ k ≤ mag := by
        have h2 := hlo
        rw [hlk, Nat.pow_add, b52] at h2
        exact h2
      have e : 4503599627370496 * 2 ^ E * B = 4503599627370496 * 2 ^ k * A := by rw [Nat.mul_assoc, ← key, Nat.mul_assoc]
      rw [e]
      exact Nat.mul_le_mul_right _ h1

/-- The number at a rung that is told by a unit and a count. -/
theorem rungVal_count {E K : Nat} (hK : K ≤ 9007199254740992) (hE : 0 < E → 4503599627370496 ≤ K) : rungVal (E * 4503599627370496 + K) = K * 2 ^ E := by
  unfold rungVal
  by_cases h0 : E = 0 ∧ K < 4503599627370496
  · obtain ⟨rfl, h⟩ := h0
    rw [if_pos (by omega)]
    simp
  · have hK2 : 4503599627370496 ≤ K := by
      by_cases hz : 0 < E
      · exact hE hz
      · omega
    rw [if_neg (by omega)]
    by_cases h53 : K = 9007199254740992
    · subst h53
      have e1 : (E * 4503599627370496 + 9007199254740992) % 4503599627370496 = 0 := by omega
      have e2 : (E * 4503599627370496 + 9007199254740992) / 4503599627370496 - 1 = E + 1 := by omega
      rw [e1, e2, Nat.pow_succ]
      omega
    · have e1 : (E * 4503599627370496 + K) % 4503599627370496 = K - 4503599627370496 := by omega
      have e2 : (E * 4503599627370496 + K) / 4503599627370496 - 1 = E := by omega
      rw [e1, e2, show 4503599627370496 + (K - 4503599627370496) = K by omega]

theorem rungVal_step {E K : Nat} (hK : K ≤ 9007199254740992) (hE : 0 < E → 4503599627370496 ≤ K) : K * 2 ^ E + 2 ^ E ≤ rungVal (E * 4503599627370496 + K + 1) := by
  by_cases h53 : K = 9007199254740992
  · subst h53
    have e0 : E * 4503599627370496 + 9007199254740992 + 1 = (E + 1) * 4503599627370496 + (4503599627370496 + 1) := by omega
    rw [e0, rungVal_count (by omega) (fun _ => by omega), Nat.pow_succ]
    have := Nat.two_pow_pos E
    omega
  · rw [Nat.add_assoc, rungVal_count (by omega) (fun h => by have := hE h; omega), Nat.add_mul, Nat.one_mul]
    exact Nat.le_refl _

/-- Where the rung stands to the number mag * 2 ^ place: between the midpoints below and above it; at a midpoint it is even. -/
theorem near_mid (neg : Bool) (mag : Nat) (place : Int) (h0 : mag ≠ 0) :
    ∃ s, Ieee.double.nearest neg mag place = Ieee.double.word neg s ∧ s ≤ 9218868437227405312 ∧
      (s < 9218868437227405312 → 2 * (mag * 2 ^ (place + 1074).toNat) ≤ (rungVal s + rungVal (s + 1)) * 2 ^ (-(place + 1074)).toNat) ∧
      (1 ≤ s → (rungVal (s - 1) + rungVal s) * 2 ^ (-(place + 1074)).toNat ≤ 2 * (mag * 2 ^ (place + 1074).toNat)) := by
  obtain ⟨E, K, h1, hK, hE, b1, b2, b3, _, _⟩ := near_core neg mag place h0
  refine ⟨_, h1, Nat.min_le_right _ _, fun hs => ?_, fun hs => ?_⟩
  · have e : min (E * 4503599627370496 + K) 9218868437227405312 = E * 4503599627370496 + K := by omega
    rw [e, rungVal_count hK hE]
    refine Nat.le_trans b1 (Nat.mul_le_mul_right _ ?_)
    have := rungVal_step hK hE
    have e2 : (2 * K + 1) * 2 ^ E = K * 2 ^ E + (K * 2 ^ E + 2 ^ E) := by rw [Nat.add_mul, Nat.mul_assoc, Nat.one_mul]; omega
    omega
  · -- first at the rung ahead of the cut at infinity
    have hr : 1 ≤ E * 4503599627370496 + K := by omega
    have main : (rungVal (E * 4503599627370496 + K - 1) + rungVal (E * 4503599627370496 + K)) * 2 ^ (-(place + 1074)).toNat ≤ 2 * (mag * 2 ^ (place + 1074).toNat) := by
      by_cases hc : 0 < E ∧ K = 4503599627370496
      · have hv := b3 hc.1
        have hle : rungVal (E * 4503599627370496 + K - 1) ≤ rungVal (E * 4503599627370496 + K) := rungVal_le (by omega)
        have hval := rungVal_count hK hE
        rw [hc.2] at hval hle
        rw [hc.2]
        have : (rungVal (E * 4503599627370496 + 4503599627370496 - 1) + rungVal (E * 4503599627370496 + 4503599627370496)) * 2 ^ (-(place + 1074)).toNat ≤ (2 * (4503599627370496 * 2 ^ E)) * 2 ^ (-(place + 1074)).toNat := Nat.mul_le_mul_right _ (by omega)
        rw [Nat.mul_assoc 2] at this
        omega
      · have hK1 : 1 ≤ K := by
          by_cases hz : 0 < E
          · have := hE hz; omega
          · omega
        have e1 : rungVal (E * 4503599627370496 + K - 1) = (K - 1) * 2 ^ E := by
          rw [show E * 4503599627370496 + K - 1 = E * 4503599627370496 + (K - 1) by omega]
          exact rungVal_count (by omega) (fun h => by have := hE h; omega)
        rw [e1, rungVal_count hK hE]
        have e2 : ((K - 1) * 2 ^ E + K * 2 ^ E) * 2 ^ (-(place + 1074)).toNat + 2 ^ E * 2 ^ (-(place + 1074)).toNat = (2 * K) * 2 ^ E * 2 ^ (-(place + 1074)).toNat := by
          have e3 : (K - 1) * 2 ^ E + 2 ^ E = K * 2 ^ E := by
            have e4 : (K - 1 + 1) * 2 ^ E = (K - 1) * 2 ^ E + 2 ^ E := Nat.succ_mul _ _
            rw [Nat.sub_add_cancel hK1] at e4
            exact e4.symm
          have e5 : (K - 1) * 2 ^ E + K * 2 ^ E + 2 ^ E = 2 * K * 2 ^ E := by rw [Nat.mul_assoc 2]; omega
          rw [← Nat.add_mul, e5]
        omega
    by_cases hi : E * 4503599627370496 + K ≤ 9218868437227405312
    · have e : min (E * 4503599627370496 + K) 9218868437227405312 = E * 4503599627370496 + K := by omega
      rw [e]; exact main
    · have e : min (E * 4503599627370496 + K) 9218868437227405312 = 9218868437227405312 := by omega
      rw [e]
      refine Nat.le_trans (Nat.mul_le_mul_right _ (Nat.add_le_add (rungVal_le ?_) (rungVal_le ?_))) main <;> omega

/-- Not below a float, so the nearest is not below it. -/
theorem near_ge (neg : Bool) (mag : Nat) (place : Int) (r : Nat) (hr : r ≤ 9218868437227405312) (h : rungVal r * 2 ^ (-(place + 1074)).toNat ≤ mag * 2 ^ (place + 1074).toNat) :
    ∃ s, Ieee.double.nearest neg mag place = Ieee.double.word neg s ∧ s ≤ 9218868437227405312 ∧ r ≤ s := by
  by_cases h0 : mag = 0
  · subst h0
    have : r = 0 := by
      rw [Nat.zero_mul] at h
      have hp : 0 < 2 ^ (-(place + 1074)).toNat := Nat.two_pow_pos _
      have : rungVal r = 0 := by
        rcases Nat.mul_eq_zero.1 (Nat.eq_zero_of_le_zero h) with e | e
        · exact e
        · omega
      by_cases hz : r = 0
      · exact hz
      · have := rungVal_lt (r := 0) (s := r) (by omega)
        omega
    subst this
    exact ⟨0, by simp [Ieee.Format.nearest], by omega, Nat.le_refl _⟩
  · obtain ⟨s, e, hs, m1, m2⟩ := near_mid neg mag place h0
    refine ⟨s, e, hs, ?_⟩
    by_cases hlt : r ≤ s
    · exact hlt
    · exfalso
      have m := m1 (by omega)
      have hB : 0 < 2 ^ (-(place + 1074)).toNat := Nat.two_pow_pos _
      have g1 : rungVal s < rungVal r := rungVal_lt (by omega)
      have g2 : rungVal (s + 1) ≤ rungVal r := rungVal_le (by omega)
      have g3 : (rungVal s + rungVal (s + 1)) * 2 ^ (-(place + 1074)).toNat < (2 * rungVal r) * 2 ^ (-(place + 1074)).toNat := Nat.mul_lt_mul_of_pos_right (by omega) hB
      rw [Nat.mul_assoc 2] at g3
      omega
/-- Not above a float, so the nearest is not above it. -/
theorem near_le (neg : Bool) (mag : Nat) (place : Int) (r : Nat) (h : mag * 2 ^ (place + 1074).toNat ≤ rungVal r * 2 ^ (-(place + 1074)).toNat) :
    ∃ s, Ieee.double.nearest neg mag place = Ieee.double.word neg s ∧ s ≤ 9218868437227405312 ∧ s ≤ r := by
  by_cases h0 : mag = 0
  · subst h0
    exact ⟨0, by simp [Ieee.Format.nearest], by omega, Nat.zero_le _⟩
  · obtain ⟨s, e, hs, m1, m2⟩ := near_mid neg mag place h0
    refine ⟨s, e, hs, ?_⟩
    by_cases hlt : s ≤ r
    · exact hlt
    · exfalso
      have m := m2 (by omega)
      have hB : 0 < 2 ^ (-(place + 1074)).toNat := Nat.two_pow_pos _
      have g1 : rungVal r < rungVal s := rungVal_lt (by omega)
      have g2 : rungVal r ≤ rungVal (s - 1) := rungVal_le (by omega)
      have g3 : (2 * rungVal r) * 2 ^ (-(place + 1074)).toNat < (rungVal (s - 1) + rungVal s) * 2 ^ (-(place + 1074)).toNat := Nat.mul_lt_mul_of_pos_right (by omega) hB
      rw [Nat.mul_assoc 2] at g3
      omega

end Go.Proofs.Ytfldddphfekiaaa

/- The nearest float is the only one: between the midpoints, the even one at a tie. Nothing here speaks of the program. -/
namespace Go.Proofs.Ytfldddphfekiaaa

/-- A rung is the nearest to A / D: it lies between the midpoints, and is even where it is at one. -/
structure Mid (A D s : Nat) : Prop where
  top : s ≤ 9218868437227405312
  up : s < 9218868437227405312 → 2 * A ≤ (rungVal s + rungVal (s + 1)) * D
  down : 1 ≤ s → (rungVal (s - 1) + rungVal s) * D ≤ 2 * A
  tieUp : s < 9218868437227405312 → 2 * A = (rungVal s + rungVal (s + 1)) * D → s % 2 = 0
  tieDown : 1 ≤ s → (rungVal (s - 1) + rungVal s) * D = 2 * A → s % 2 = 0

theorem Mid.lt_no {A D s t : Nat} (hD : 0 < D) (h : Mid A D s) (g : Mid A D t) : ¬ s < t := by
  intro hlt
  have h1 := h.up (by have := g.top; omega)
  have g1 := g.down (by omega)
  by_cases c : s + 1 = t
  · subst c
    have e : s + 1 - 1 = s := by omega
    rw [e] at g1
    have e2 : 2 * A = (rungVal s + rungVal (s + 1)) * D := by omega
    have p1 := h.tieUp (by have := g.top; omega) e2
    have p2 := g.tieDown (by omega) (by rw [e]; exact e2.symm)
    omega
  · have v1 : rungVal s < rungVal (t - 1) := rungVal_lt (by omega)
    have v2 : rungVal (s + 1) < rungVal t := rungVal_lt (by omega)
    have : (rungVal s + rungVal (s + 1)) * D < (rungVal (t - 1) + rungVal t) * D := Nat.mul_lt_mul_of_pos_right (by omega) hD
    omega
theorem Mid.unique {A D s t : Nat} (hD : 0 < D) (h : Mid A D s) (g : Mid A D t) : s = t := by
  have h1 := h.lt_no hD g
  have h2 := g.lt_no hD h
  omega
/-- It hangs on the number alone. -/
theorem Mid.scale {A D s : Nat} (k : Nat) (hk : 0 < k) (h : Mid A D s) : Mid (A * k) (D * k) s where
  top := h.top
  up hs := by have := Nat.mul_le_mul_right k (h.up hs); rw [Nat.mul_assoc 2, Nat.mul_assoc] at this; exact this
  down hs := by have := Nat.mul_le_mul_right k (h.down hs); rw [Nat.mul_assoc 2, Nat.mul_assoc] at this; exact this
  tieUp hs e := h.tieUp hs (by rw [← Nat.mul_assoc, ← Nat.mul_assoc] at e; exact Nat.eq_of_mul_eq_mul_right hk e)
  tieDown hs e := h.tieDown hs (by rw [← Nat.mul_assoc, ← Nat.mul_assoc] at e; exact Nat.eq_of_mul_eq_mul_right hk e)
theorem Mid.back {A D s : Nat} (k : Nat) (hk : 0 < k) (h : Mid (A * k) (D * k) s) : Mid A D s where
  top := h.top
  up hs := by have := h.up hs; rw [← Nat.mul_assoc, ← Nat.mul_assoc] at this; exact Nat.le_of_mul_le_mul_right this hk
  down hs := by have := h.down hs; rw [← Nat.mul_assoc, ← Nat.mul_assoc] at this; exact Nat.le_of_mul_le_mul_right this hk
  tieUp hs e := h.tieUp hs (by rw [← Nat.mul_assoc, ← Nat.mul_assoc, e])
  tieDown hs e := h.tieDown hs (by rw [← Nat.mul_assoc, ← Nat.mul_assoc, e])

theorem min_low {a b : Nat} (h : min a b < b) : min a b = a := by omega
theorem mod_even (E K : Nat) (h : K % 2 = 0) : (E * 4503599627370496 + K) % 2 = 0 := by omega
/-- A unit and a count that are the number, rounded to a whole count: the rung is the nearest. -/
theorem mid_of_count {A D E K : Nat} (hD : 0 < D) (hK : K ≤ 9007199254740992) (hE : 0 < E → 4503599627370496 ≤ K)
    (b1 : 2 * A ≤ (2 * K + 1) * 2 ^ E * D) (b2 : (2 * K) * 2 ^ E * D ≤ 2 * A + 2 ^ E * D) (b3 : 0 < E → 4503599627370496 * 2 ^ E * D ≤ A)
    (t1 : 2 * A = (2 * K + 1) * 2 ^ E * D → K % 2 = 0) (t2 : (2 * K) * 2 ^ E * D = 2 * A + 2 ^ E * D → K % 2 = 0) :
    Mid A D (min (E * 4503599627370496 + K) 9218868437227405312) := by
  have hP := Nat.two_pow_pos E
  have hv := rungVal_count hK hE
  have hst := rungVal_step hK hE
  -- below: of the rung ahead of the cut
  have low : 1 ≤ E * 4503599627370496 + K → (rungVal (E * 4503599627370496 + K - 1) + rungVal (E * 4503599627370496 + K)) * D ≤ 2 * A ∧ ((rungVal (E * 4503599627370496 + K - 1) + rungVal (E * 4503599627370496 + K)) * D = 2 * A → K % 2 = 0) := by
    intro hs
    by_cases hc : 0 < E ∧ K = 4503599627370496
    · have k3 := b3 hc.1
      have hl : rungVal (E * 4503599627370496 + K - 1) < rungVal (E * 4503599627370496 + K) := rungVal_lt (by omega)
      rw [hv] at hl ⊢
      generalize rungVal (E * 4503599627370496 + K - 1) = V0 at *
      clear hv hst
      rw [hc.2] at hl ⊢
      have m1 : (V0 + 4503599627370496 * 2 ^ E) * D < (2 * (4503599627370496 * 2 ^ E)) * D := Nat.mul_lt_mul_of_pos_right (by omega) hD
      rw [Nat.mul_assoc 2] at m1
      exact ⟨by omega, fun e => by omega⟩
    · have hK1 : 1 ≤ K := by
        by_cases hz : 0 < E
        · have := hE hz; omega
        · omega
      have e1 : rungVal (E * 4503599627370496 + K - 1) = (K - 1) * 2 ^ E := by
        rw [show E * 4503599627370496 + K - 1 = E * 4503599627370496 + (K - 1) by omega]
        exact rungVal_count (by omega) (fun h => by have := hE h; omega)
      rw [e1, hv]
      clear e1 hv hst
      have e3 : (K - 1) * 2 ^ E + 2 ^ E = K * 2 ^ E := by
        have e4 : (K - 1 + 1) * 2 ^ E = (K - 1) * 2 ^ E + 2 ^ E := Nat.succ_mul _ _
        rw [Nat.sub_add_cancel hK1] at e4
        exact e4.symm
      have e2 : ((K - 1) * 2 ^ E + K * 2 ^ E) * D + 2 ^ E * D = (2 * K) * 2 ^ E * D := by
        have e5 : (K - 1) * 2 ^ E + K * 2 ^ E + 2 ^ E = 2 * K * 2 ^ E := by rw [Nat.mul_assoc 2]; omega
        rw [← Nat.add_mul, e5]
      exact ⟨by omega, fun e => t2 (by omega)⟩
  have e2 : (2 * K + 1) * 2 ^ E = K * 2 ^ E + (K * 2 ^ E + 2 ^ E) := by rw [Nat.add_mul, Nat.mul_assoc, Nat.one_mul]; omega
  have hup : (K * 2 ^ E + (K * 2 ^ E + 2 ^ E)) * D ≤ (K * 2 ^ E + rungVal (E * 4503599627370496 + K + 1)) * D := Nat.mul_le_mul_right _ (Nat.add_le_add_left hst _)
  clear hst
  rw [e2] at b1 t1
  clear e2
  refine ⟨Nat.min_le_right _ _, fun hs => ?_, fun hs => ?_, fun hs e => ?_, fun hs e => ?_⟩
  · rw [min_low hs, hv]
    exact Nat.le_trans b1 hup
  · by_cases hi : E * 4503599627370496 + K ≤ 9218868437227405312
    · rw [Nat.min_eq_left hi] at hs ⊢
      exact (low hs).1
    · have hi2 : 9218868437227405312 ≤ E * 4503599627370496 + K := Nat.le_of_lt (Nat.lt_of_not_le hi)
      rw [Nat.min_eq_right hi2] at hs ⊢
      exact Nat.le_trans (Nat.mul_le_mul_right _ (Nat.add_le_add (rungVal_le (Nat.sub_le_sub_right hi2 1)) (rungVal_le hi2))) (low (Nat.le_trans hs hi2)).1
  · rw [min_low hs] at e ⊢
    rw [hv] at e
    exact mod_even E K (t1 (Nat.le_antisymm b1 (Nat.le_trans hup (Nat.le_of_eq e.symm))))
  · by_cases hi : E * 4503599627370496 + K ≤ 9218868437227405312
    · rw [Nat.min_eq_left hi] at hs e ⊢
      exact mod_even E K ((low hs).2 e)
    · rw [Nat.min_eq_right (Nat.le_of_lt (Nat.lt_of_not_le hi))]

/-- IEEE's nearest is it. -/
theorem near_is_mid (neg : Bool) (mag : Nat) (place : Int) (h0 : mag ≠ 0) : ∃ s, Ieee.double.nearest neg mag place = Ieee.double.word neg s ∧ Mid (mag * 2 ^ (place + 1074).toNat) (2 ^ (-(place + 1074)).toNat) s := by
  obtain ⟨E, K, h1, hK, hE, b1, b2, b3, t1, t2⟩ := near_core neg mag place h0
  exact ⟨_, h1, mid_of_count (Nat.two_pow_pos _) hK hE b1 b2 b3 t1 t2⟩

end Go.Proofs.Ytfldddphfekiaaa

/- Quotients, products, sums and roots of sizes, against floats that bound them. Nothing here speaks of the program. -/
namespace Go.Proofs.Ytfldddphfekiaaa

/-- What a size below infinity stands for. -/
theorem read_size {x : Nat} (h : x < 9218868437227405312) : ∃ m a, Ieee.double.read x = .number false m (-1074 + (a : Nat)) ∧ m * 2 ^ a = rungVal x := by
  have e : x % 9223372036854775808 = x := Nat.mod_eq_of_lt (by omega)
  obtain ⟨m, a, e1, e2⟩ := read_num (x := x) (by rw [e]; exact h)
  rw [e] at e2
  rw [Nat.div_eq_of_lt (by omega)] at e1
  exact ⟨m, a, e1, e2⟩

theorem word_pos (s : Nat) : Ieee.double.word false s = s := rfl

theorem FN.eq {op : BinOp} {x y r s : Nat} (h : FN op x y r) (g : floatBits op .f64 x y = .some s) : r = s := by
  rcases h.2 with h | ⟨h, _⟩
  · rw [h] at g; exact Option.some.inj g
  · rw [h] at g; cases g
theorem FQ.eq {x r s : Nat} (h : FQ x r) (g : Ieee.double.sqrt x = .some s) : r = s := by
  rcases h.2 with h | ⟨h, _⟩
  · rw [h] at g; exact Option.some.inj g
  · rw [h] at g; cases g

/-- The product of two sizes. -/
theorem mul_bits {x y : Nat} (E : Nat) (hE : E = 1074) (hx : x < 9218868437227405312) (hy : y < 9218868437227405312) : ∃ mag place, floatBits .mul .f64 x y = some (Ieee.double.nearest false mag place) ∧ mag * 2 ^ (place + 1074).toNat * 2 ^ E = rungVal x * rungVal y * 2 ^ (-(place + 1074)).toNat ∧ (mag = 0 ↔ rungVal x * rungVal y = 0) := by
  obtain ⟨m, a, e1, v1⟩ := read_size hx
  obtain ⟨n, b, e2, v2⟩ := read_size hy
  refine ⟨m * n, -1074 + (a : Int) + (-1074 + (b : Int)), ?_, ?_, ?_⟩
  · show (((Ieee.double.read x).product (Ieee.double.read y)).map Ieee.double.write) = _
    rw [e1, e2]
    rfl
  · rw [← v1, ← v2]
    by_cases h : 1074 ≤ a + b
    · have t1 : (-1074 + (a : Int) + (-1074 + (b : Int)) + 1074).toNat = a + b - 1074 := by omega
      have t2 : (-(-1074 + (a : Int) + (-1074 + (b : Int)) + 1074)).toNat = 0 := by omega
      rw [t1, t2, Nat.mul_assoc (m * n), ← Nat.pow_add, show a + b - 1074 + E = a + b by omega, Nat.pow_add, Nat.pow_zero, Nat.mul_one]
      rw [Nat.mul_assoc, Nat.mul_assoc, Nat.mul_left_comm n]
    · have t1 : (-1074 + (a : Int) + (-1074 + (b : Int)) + 1074).toNat = 0 := by omega
      have t2 : (-(-1074 + (a : Int) + (-1074 + (b : Int)) + 1074)).toNat = E - (a + b) := by omega
      rw [t1, t2, Nat.pow_zero, Nat.mul_one]
      have e : 2 ^ E = 2 ^ a * 2 ^ b * 2 ^ (E - (a + b)) := by rw [← Nat.pow_add, ← Nat.pow_add]; congr 1; omega
      rw [e]
      generalize 2 ^ a = A
      generalize 2 ^ b = B
      generalize 2 ^ (E - (a + b)) = C
      rw [← Nat.mul_assoc, ← Nat.mul_assoc]
      congr 1
      rw [Nat.mul_assoc m A, Nat.mul_left_comm A n B, ← Nat.mul_assoc m n, Nat.mul_assoc (m * n)]
  · rw [← v1, ← v2]
    have hA := Nat.two_pow_pos a
    have hB := Nat.two_pow_pos b
    simp only [Nat.mul_eq_zero]
    constructor
    · rintro (h | h)
      · exact .inl (.inl h)
      · exact .inr (.inl h)
    · rintro ((h | h) | (h | h))
      · exact .inl h
      · omega
      · exact .inr h
      · omega

/-- The sum of two sizes. -/
theorem add_bits {x y : Nat} (hx : x < 9218868437227405312) (hy : y < 9218868437227405312) : ∃ mag place, floatBits .add .f64 x y = some (Ieee.double.nearest false mag place) ∧ mag * 2 ^ (place + 1074).toNat = (rungVal x + rungVal y) ∧ (-(place + 1074)).toNat = 0 := by
  obtain ⟨m, a, e1, v1⟩ := read_size hx
  obtain ⟨n, b, e2, v2⟩ := read_size hy
  have t1 : (-1074 + (a : Int) - min (-1074 + (a : Int)) (-1074 + (b : Int))).toNat = a - min a b := by omega
  have t2 : (-1074 + (b : Int) - min (-1074 + (a : Int)) (-1074 + (b : Int))).toNat = b - min a b := by omega
  have t3 : Ieee.signed false m (a - min a b) + Ieee.signed false n (b - min a b) = ((m * 2 ^ (a - min a b) + n * 2 ^ (b - min a b) : Nat) : Int) := by
    simp only [Ieee.signed, Nat.shiftLeft_eq, Bool.false_eq_true, if_false]; omega
  refine ⟨m * 2 ^ (a - min a b) + n * 2 ^ (b - min a b), min (-1074 + (a : Int)) (-1074 + (b : Int)), ?_, ?_, by omega⟩
  · show (((Ieee.double.read x).sum (Ieee.double.read y)).map Ieee.double.write) = _
    rw [e1, e2]
    simp only [Ieee.Datum.sum, t1, t2, t3]
    simp only [Option.map, Ieee.Format.write]
    generalize m * 2 ^ (a - min a b) + n * 2 ^ (b - min a b) = T
    congr 2
    · by_cases hz : (T : Int) = 0
      · rw [if_pos hz]; rfl
      · rw [if_neg hz]; exact decide_eq_false (by omega)
  · have t4 : (min (-1074 + (a : Int)) (-1074 + (b : Int)) + 1074).toNat = min a b := by omega
    rw [t4, ← v1, ← v2, Nat.add_mul, Nat.mul_assoc, Nat.mul_assoc, ← Nat.pow_add, ← Nat.pow_add, show a - min a b + min a b = a by omega, show b - min a b + min a b = b by omega]

theorem val_one_f (E : Nat) (hE : E = 1074) : rungVal 4607182418800017408 = 2 ^ E := by subst hE; decide +kernel
theorem val_half3 (E : Nat) (hE : E = 1074) : rungVal 4609434218613702656 * 2 = 3 * 2 ^ E := by subst hE; decide +kernel
theorem val_two_f (E : Nat) (hE : E = 1074) : rungVal 4611686018427387904 = 2 * 2 ^ E := by subst hE; decide +kernel

/-- A product by what is 1 or above is not below. -/
theorem mul_ge {x y r : Nat} (hx : x < 9218868437227405312) (hy : y < 9218868437227405312) (h1 : 4607182418800017408 ≤ y) (h : FN .mul x y r) : x ≤ r ∧ r ≤ 9218868437227405312 := by
  obtain ⟨E, hE⟩ : ∃ E : Nat, E = 1074 := ⟨_, rfl⟩
  obtain ⟨mag, place, e, v, _⟩ := mul_bits E hE hx hy
  have hv : 2 ^ E ≤ rungVal y := by rw [← val_one_f E hE]; exact rungVal_le h1
  have hp : 0 < 2 ^ E := Nat.two_pow_pos E
  generalize (2 : Nat) ^ E = P at *
  obtain ⟨s, e2, s1, s2⟩ := near_ge false mag place x (by omega) (by
    have g : rungVal x * 2 ^ (-(place + 1074)).toNat * P ≤ mag * 2 ^ (place + 1074).toNat * P := by
      rw [v, Nat.mul_assoc, Nat.mul_comm (2 ^ (-(place + 1074)).toNat) P, ← Nat.mul_assoc]
      exact Nat.mul_le_mul_right _ (Nat.mul_le_mul_left _ hv)
    exact Nat.le_of_mul_le_mul_right g hp)
  rw [e2, word_pos] at e
  have := h.eq e
  omega

/-- A product of two that are at most 1. -/
theorem mul_le_one {x y r : Nat} (hx : x ≤ 4607182418800017408) (hy : y ≤ 4607182418800017408) (h : FN .mul x y r) : r ≤ 4607182418800017408 := by
  obtain ⟨E, hE⟩ : ∃ E : Nat, E = 1074 := ⟨_, rfl⟩
  obtain ⟨mag, place, e, v, _⟩ := mul_bits (x := x) (y := y) E hE (by omega) (by omega)
  have h1 : rungVal x ≤ 2 ^ E := by rw [← val_one_f E hE]; exact rungVal_le hx
  have h2 : rungVal y ≤ 2 ^ E := by rw [← val_one_f E hE]; exact rungVal_le hy
  have h3 := val_one_f E hE
  have hp : 0 < 2 ^ E := Nat.two_pow_pos E
  generalize (2 : Nat) ^ E = P at *
  obtain ⟨s, e2, s1, s2⟩ := near_le false mag place 4607182418800017408 (by
    have g : mag * 2 ^ (place + 1074).toNat * P ≤ rungVal 4607182418800017408 * 2 ^ (-(place + 1074)).toNat * P := by
      rw [v, h3, Nat.mul_right_comm P]
      exact Nat.mul_le_mul_right _ (Nat.mul_le_mul h1 h2)
    exact Nat.le_of_mul_le_mul_right g hp)
  rw [e2, word_pos] at e
  have := h.eq e
  omega

/-- 1 and what is at most 1. -/
theorem one_add {p r : Nat} (hp : p ≤ 4607182418800017408) (h : FN .add 4607182418800017408 p r) : 4607182418800017408 ≤ r ∧ r ≤ 4611686018427387904 := by
  obtain ⟨E, hE⟩ : ∃ E : Nat, E = 1074 := ⟨_, rfl⟩
  obtain ⟨mag, place, e, v, z⟩ := add_bits (x := 4607182418800017408) (y := p) (by omega) (by omega)
  have h1 : rungVal p ≤ 2 ^ E := by rw [← val_one_f E hE]; exact rungVal_le hp
  have h2 := val_one_f E hE
  have h3 := val_two_f E hE
  generalize (2 : Nat) ^ E = P at *
  rw [h2] at v
  obtain ⟨s, e2, s1, s2⟩ := near_ge false mag place 4607182418800017408 (by omega) (by rw [z, v, h2]; omega)
  obtain ⟨t, e3, t1, t2⟩ := near_le false mag place 4611686018427387904 (by rw [z, v, h3]; omega)
  rw [e3] at e2
  rw [word_pos, word_pos] at e2
  subst e2
  rw [e3, word_pos] at e
  have := h.eq e
  omega

/-- A quotient of a size by one that is not below it. -/
theorem quo_le {n m r : Nat} (hm : m < 9218868437227405312) (h0 : m ≠ 0) (hn : n ≤ m) (h : FN .quo n m r) : r ≤ 4607182418800017408 := by
  obtain ⟨E, hE⟩ : ∃ E : Nat, E = 1074 := ⟨_, rfl⟩
  obtain ⟨N, a, e1, v1⟩ := read_size (x := n) (by omega)
  obtain ⟨M, b, e2, v2⟩ := read_size hm
  have hle := rungVal_le hn
  have hM : M ≠ 0 := by
    intro e
    have := rungVal_lt (r := 0) (s := m) (by omega)
    rw [← v2, e] at this
    omega
  have hM0 : 0 < M := Nat.pos_of_ne_zero hM
  by_cases hN : N = 0
  · -- nought
    have e : floatBits .quo .f64 n m = some 0 := by
      show (((Ieee.double.read n).quotient _ (Ieee.double.read m)).map Ieee.double.write) = _
      rw [e1, e2, hN]
      simp only [Ieee.Datum.quotient, if_neg hM]
      simp [Ieee.Format.write, Ieee.Format.nearest, Ieee.Format.word]
    have := h.eq e
    omega
  · generalize hmore : 54 + M.log2 - N.log2 = more
    have e : floatBits .quo .f64 n m = some (Ieee.double.nearest false (2 * (N <<< more / M) + (N <<< more % M != 0).toNat) (-1074 + (a : Int) - (-1074 + (b : Int)) - (more : Int) - 1)) := by
      show (((Ieee.double.read n).quotient (52 + 2) (Ieee.double.read m)).map Ieee.double.write) = _
      rw [e1, e2]
      simp only [Ieee.Datum.quotient, if_neg hM]
      rw [hmore]
      rfl
    -- N 2^a is at most M 2^b, so there are bits enough
    rw [← v1, ← v2] at hle
    have lN : 2 ^ N.log2 ≤ N := Nat.log2_self_le hN
    have lM : M < 2 ^ (M.log2 + 1) := Nat.lt_log2_self
    have hlog : N.log2 + a < M.log2 + 1 + b := by
      have g1 : 2 ^ (N.log2 + a) ≤ N * 2 ^ a := by rw [Nat.pow_add]; exact Nat.mul_le_mul_right _ lN
      have g2 : M * 2 ^ b < 2 ^ (M.log2 + 1 + b) := by rw [Nat.pow_add]; exact Nat.mul_lt_mul_of_pos_right lM (Nat.two_pow_pos b)
      exact (Nat.pow_lt_pow_iff_right (by decide)).1 (Nat.lt_of_le_of_lt g1 (Nat.lt_of_lt_of_le (Nat.lt_of_le_of_lt hle g2) (Nat.le_refl _)))
    obtain ⟨c, hc⟩ : ∃ c : Nat, more + b = c + a := ⟨more + b - a, by omega⟩
    have hND : N <<< more ≤ M * 2 ^ c := by
      rw [Nat.shiftLeft_eq]
      have g : N * 2 ^ more * 2 ^ a ≤ M * 2 ^ c * 2 ^ a := by
        have e3 : N * 2 ^ more * 2 ^ a = N * 2 ^ a * 2 ^ more := Nat.mul_right_comm _ _ _
        have e4 : M * 2 ^ c * 2 ^ a = M * 2 ^ b * 2 ^ more := by rw [Nat.mul_assoc, Nat.mul_assoc, ← Nat.pow_add, ← Nat.pow_add, ← hc, Nat.add_comm b]
        rw [e3, e4]
        exact Nat.mul_le_mul_right _ hle
      exact Nat.le_of_mul_le_mul_right g (Nat.two_pow_pos a)
    have hq : 2 * (N <<< more / M) + (N <<< more % M != 0).toNat ≤ 2 * 2 ^ c := by
      have hdm := Nat.div_add_mod (N <<< more) M
      have hml := Nat.mod_lt (N <<< more) hM0
      generalize N <<< more = D at *
      generalize D / M = Q at *
      generalize D % M = R at *
      generalize 2 ^ c = C at *
      have hQ : Q ≤ C := by
        have : M * Q ≤ M * C := by omega
        exact Nat.le_of_mul_le_mul_left this hM0
      by_cases hR : R = 0
      · have : (R != 0).toNat = 0 := by simp [hR]
        omega
      · have hQ2 : Q < C := by
          rcases Nat.lt_or_eq_of_le hQ with g | g
          · exact g
          · exfalso; rw [g] at hdm; omega
        have : (R != 0).toNat = 1 := by simp [hR]
        omega
    obtain ⟨s, e5, s1, s2⟩ := near_le false (2 * (N <<< more / M) + (N <<< more % M != 0).toNat) (-1074 + (a : Int) - (-1074 + (b : Int)) - (more : Int) - 1) 4607182418800017408 (by
      rw [val_one_f E hE]
      generalize 2 * (N <<< more / M) + (N <<< more % M != 0).toNat = Z at hq
      by_cases hs : 1073 ≤ c
      · have t1 : (-1074 + (a : Int) - (-1074 + (b : Int)) - (more : Int) - 1 + 1074).toNat = 0 := by omega
        have t2 : (-(-1074 + (a : Int) - (-1074 + (b : Int)) - (more : Int) - 1 + 1074)).toNat = c - 1073 := by omega
        rw [t1, t2, Nat.pow_zero, Nat.mul_one, ← Nat.pow_add, show E + (c - 1073) = c + 1 by omega, Nat.pow_succ]
        omega
      · have t1 : (-1074 + (a : Int) - (-1074 + (b : Int)) - (more : Int) - 1 + 1074).toNat = 1073 - c := by omega
        have t2 : (-(-1074 + (a : Int) - (-1074 + (b : Int)) - (more : Int) - 1 + 1074)).toNat = 0 := by omega
        rw [t1, t2, Nat.pow_zero, Nat.mul_one]
        have e6 : (2 : Nat) ^ E = 2 * 2 ^ c * 2 ^ (1073 - c) := by
          rw [Nat.mul_assoc, ← Nat.pow_add, ← Nat.pow_succ']
          congr 1
          omega
        rw [e6]
        exact Nat.mul_le_mul_right _ hq)
    rw [e5, word_pos] at e
    have := h.eq e
    omega

end Go.Proofs.Ytfldddphfekiaaa

/- The root of what lies from 1 to 2; products by at most one and a half; products in the other order, of opposites. Nothing here speaks of the program. -/
namespace Go.Proofs.Ytfldddphfekiaaa

theorem rootFrom_spec (n : Nat) : ∀ (todo root : Nat), root * root ≤ n → n < (root + 2 ^ todo) * (root + 2 ^ todo) → Ieee.Datum.rootFrom n todo root * Ieee.Datum.rootFrom n todo root ≤ n ∧ n < (Ieee.Datum.rootFrom n todo root + 1) * (Ieee.Datum.rootFrom n todo root + 1)
  | 0, root, h1, h2 => ⟨h1, by simpa [Ieee.Datum.rootFrom] using h2⟩
  | todo + 1, root, h1, h2 => by
    have e : 2 ^ (todo + 1) = 2 ^ todo + 2 ^ todo := by rw [Nat.pow_succ]; omega
    unfold Ieee.Datum.rootFrom
    simp only [Nat.shiftLeft_eq, Nat.one_mul]
    by_cases h : (root + 2 ^ todo) * (root + 2 ^ todo) ≤ n
    · rw [if_pos h]
      exact rootFrom_spec n todo _ h (by rw [e, ← Nat.add_assoc] at h2; exact h2)
    · rw [if_neg h]
      exact rootFrom_spec n todo _ h1 (by omega)

theorem root_spec (n : Nat) (_h0 : n ≠ 0) : ∃ r, Ieee.Datum.rootFrom n (n.log2 / 2 + 1) 0 = r ∧ r * r ≤ n ∧ n < (r + 1) * (r + 1) := by
  refine ⟨_, rfl, rootFrom_spec n _ 0 (by omega) ?_⟩
  rw [Nat.zero_add, ← Nat.pow_add]
  have h1 : n < 2 ^ (n.log2 + 1) := Nat.lt_log2_self
  have h2 : 2 ^ (n.log2 + 1) ≤ 2 ^ (n.log2 / 2 + 1 + (n.log2 / 2 + 1)) := Nat.pow_le_pow_right (by decide) (by omega)
  omega

theorem sqrt_between {s t : Nat} (h1 : 4607182418800017408 ≤ s) (h2 : s ≤ 4611686018427387904) (h : FQ s t) : 4607182418800017408 ≤ t ∧ t ≤ 4609434218613702656 := by
  obtain ⟨E, hE⟩ : ∃ E : Nat, E = 1074 := ⟨_, rfl⟩
  obtain ⟨m, a, e1, v1⟩ := read_size (x := s) (by omega)
  have g1 : 2 ^ E ≤ m * 2 ^ a := by rw [v1, ← val_one_f E hE]; exact rungVal_le h1
  have g2 : m * 2 ^ a ≤ 2 * 2 ^ E := by rw [v1, ← val_two_f E hE]; exact rungVal_le h2
  have hm : m ≠ 0 := by
    rintro rfl
    have := Nat.two_pow_pos E
    omega
  have hlo : 2 ^ m.log2 ≤ m := Nat.log2_self_le hm
  have hal : m.log2 + a ≤ E + 1 := by
    have k1 : 2 ^ (m.log2 + a) ≤ 2 ^ (E + 1) := by
      rw [Nat.pow_add, Nat.pow_succ, Nat.mul_comm (2 ^ E) 2]
      exact Nat.le_trans (Nat.mul_le_mul_right _ hlo) g2
    exact (Nat.pow_le_pow_iff_right (by decide)).1 k1
  obtain ⟨more, hmore⟩ : ∃ more : Nat, 108 - m.log2 + ((-1074 + (a : Int) - ((108 - m.log2 : Nat) : Int)) % 2).toNat = more := ⟨_, rfl⟩
  obtain ⟨hh, hhh⟩ : ∃ hh : Nat, more + E = 2 * hh + a := ⟨(more + E - a) / 2, by omega⟩
  have hn0 : m <<< more ≠ 0 := by rw [Nat.shiftLeft_eq]; exact Nat.mul_ne_zero hm (Nat.ne_of_gt (Nat.two_pow_pos more))
  obtain ⟨r, er, r1, r2⟩ := root_spec (m <<< more) hn0
  have e : Ieee.double.sqrt s = some (Ieee.double.nearest false (2 * r + (r * r != m <<< more).toNat) (-(hh : Int) - 1)) := by
    show ((Ieee.double.read s).root (52 + 2)).map Ieee.double.write = _
    rw [e1]
    simp only [Ieee.Datum.root, if_neg hm, Bool.false_eq_true, if_false]
    rw [show 2 * (52 + 2) = 108 from rfl, hmore, er]
    simp only [Option.map, Ieee.Format.write]
    congr 2
    omega
  -- the shifted number lies from 4^hh to twice that
  have n1 : 2 ^ (2 * hh) ≤ m <<< more := by
    rw [Nat.shiftLeft_eq]
    have k : 2 ^ (2 * hh) * 2 ^ a ≤ m * 2 ^ more * 2 ^ a := by
      rw [← Nat.pow_add, ← hhh, Nat.pow_add, Nat.mul_right_comm m, Nat.mul_comm (2 ^ more)]
      exact Nat.mul_le_mul_right _ g1
    exact Nat.le_of_mul_le_mul_right k (Nat.two_pow_pos a)
  have n2 : m <<< more ≤ 2 * 2 ^ (2 * hh) := by
    rw [Nat.shiftLeft_eq]
    have k : m * 2 ^ more * 2 ^ a ≤ 2 * 2 ^ (2 * hh) * 2 ^ a := by
      rw [Nat.mul_assoc 2, ← Nat.pow_add, ← hhh, Nat.pow_add, Nat.mul_right_comm m, Nat.mul_comm (2 ^ more), ← Nat.mul_assoc]
      exact Nat.mul_le_mul_right _ g2
    exact Nat.le_of_mul_le_mul_right k (Nat.two_pow_pos a)
  have hq : 2 ^ (2 * hh) = 2 ^ hh * 2 ^ hh := by rw [← Nat.pow_add]; congr 1; omega
  have hC := Nat.two_pow_pos hh
  generalize m <<< more = n at *
  rw [hq] at n1 n2
  have q1 : 2 ^ hh ≤ r := by
    by_cases c : 2 ^ hh ≤ r
    · exact c
    · exfalso
      have : (r + 1) * (r + 1) ≤ 2 ^ hh * 2 ^ hh := Nat.mul_le_mul (by omega) (by omega)
      omega
  have q2 : 2 * r + 1 ≤ 3 * 2 ^ hh := by
    by_cases c : 2 * r + 1 ≤ 3 * 2 ^ hh
    · exact c
    · exfalso
      generalize 2 ^ hh = C at *
      have k1 : (3 * C) * (3 * C) ≤ (2 * r) * (2 * r) := Nat.mul_le_mul (by omega) (by omega)
      have k2 : (3 * C) * (3 * C) = 9 * (C * C) := by rw [Nat.mul_mul_mul_comm]
      have k3 : (2 * r) * (2 * r) = 4 * (r * r) := by rw [Nat.mul_mul_mul_comm]
      have k4 : 0 < C * C := Nat.mul_pos hC hC
      omega
  obtain ⟨Z, hZ⟩ : ∃ Z, 2 * r + (r * r != n).toNat = Z := ⟨_, rfl⟩
  have z1 : 2 * 2 ^ hh ≤ Z := by omega
  have z2 : Z ≤ 3 * 2 ^ hh := by
    have : (r * r != n).toNat ≤ 1 := by cases (r * r != n) <;> decide
    omega
  rw [hZ] at e
  have place : ∀ P Q : Nat, (-(hh : Int) - 1 + 1074).toNat = P → (-(-(hh : Int) - 1 + 1074)).toNat = Q → 2 ^ E * 2 ^ Q = 2 * 2 ^ hh * 2 ^ P := by
    intro P Q hP hQ
    rw [← Nat.pow_succ', ← Nat.pow_add, ← Nat.pow_add]
    congr 1
    omega
  have pl := place _ _ rfl rfl
  have hone := val_one_f E hE
  have hhalf := val_half3 E hE
  obtain ⟨u, e2, u1, u2⟩ := near_ge false Z (-(hh : Int) - 1) 4607182418800017408 (by decide) (by
    have k := Nat.mul_le_mul_right (2 ^ (-(hh : Int) - 1 + 1074).toNat) z1
    rw [← pl, ← hone] at k
    exact k)
  clear hone
  obtain ⟨x, e3, x1, x2⟩ := near_le false Z (-(hh : Int) - 1) 4609434218613702656 (by
    generalize 2 ^ (-(hh : Int) - 1 + 1074).toNat = P at *
    generalize 2 ^ (-(-(hh : Int) - 1 + 1074)).toNat = Q at *
    generalize 2 ^ E = F at *
    generalize 2 ^ hh = C at *
    have k1 : Z * P ≤ 3 * C * P := Nat.mul_le_mul_right _ z2
    have k2 : rungVal 4609434218613702656 * Q * 2 = 3 * (F * Q) := by rw [Nat.mul_right_comm, hhalf, Nat.mul_assoc]
    rw [pl] at k2
    have k3 : 3 * (2 * C * P) = 3 * C * P * 2 := by ac_rfl
    generalize rungVal 4609434218613702656 * Q = TQ at *
    clear hhalf
    omega)
  clear hhalf
  rw [e3] at e2
  rw [word_pos, word_pos] at e2
  subst e2
  rw [e3, word_pos] at e
  have := h.eq e
  omega

/-- What is less is not rounded to more. -/
theorem near_mono (n1 n2 : Bool) (m1 : Nat) (p1 : Int) (m2 : Nat) (p2 : Int) (h1 : m1 ≠ 0) (h2 : m2 ≠ 0)
    (h : m1 * 2 ^ (p1 + 1074).toNat * 2 ^ (-(p2 + 1074)).toNat < m2 * 2 ^ (p2 + 1074).toNat * 2 ^ (-(p1 + 1074)).toNat) :
    ∃ s1 s2, Ieee.double.nearest n1 m1 p1 = Ieee.double.word n1 s1 ∧ Ieee.double.nearest n2 m2 p2 = Ieee.double.word n2 s2 ∧ s1 ≤ s2 ∧ s2 ≤ 9218868437227405312 := by
  obtain ⟨s1, e1, l1, _, b1⟩ := near_mid n1 m1 p1 h1
  obtain ⟨s2, e2, l2, a2, _⟩ := near_mid n2 m2 p2 h2
  refine ⟨s1, s2, e1, e2, ?_, l2⟩
  by_cases c : s1 ≤ s2
  · exact c
  · exfalso
    have b := b1 (by omega)
    have a := a2 (by omega)
    have k1 : rungVal s2 + rungVal (s2 + 1) ≤ rungVal (s1 - 1) + rungVal s1 := Nat.add_le_add (rungVal_le (by omega)) (rungVal_le (by omega))
    generalize rungVal s2 + rungVal (s2 + 1) = X at *
    generalize rungVal (s1 - 1) + rungVal s1 = Y at *
    generalize m1 * 2 ^ (p1 + 1074).toNat = A1 at *
    generalize m2 * 2 ^ (p2 + 1074).toNat = A2 at *
    have hB1 := Nat.two_pow_pos (-(p1 + 1074)).toNat
    generalize 2 ^ (-(p1 + 1074)).toNat = B1 at *
    generalize 2 ^ (-(p2 + 1074)).toNat = B2 at *
    have k2 : 2 * A2 * B1 ≤ X * B2 * B1 := Nat.mul_le_mul_right _ a
    have k3 : X * B2 * B1 ≤ Y * B2 * B1 := Nat.mul_le_mul_right _ (Nat.mul_le_mul_right _ k1)
    have k4 : Y * B1 * B2 ≤ 2 * A1 * B2 := Nat.mul_le_mul_right _ b
    have k5 : Y * B2 * B1 = Y * B1 * B2 := Nat.mul_right_comm _ _ _
    rw [Nat.mul_assoc 2] at k2 k4
    omega

theorem product_comm (d c : Ieee.Datum) : d.product c = c.product d := by
  cases d <;> cases c <;> simp [Ieee.Datum.product, Bool.xor_comm, Nat.mul_comm, Int.add_comm]
theorem mul_comm_bits (x y : Nat) : floatBits .mul .f64 x y = floatBits .mul .f64 y x := by
  show ((Ieee.double.read x).product (Ieee.double.read y)).map _ = ((Ieee.double.read y).product (Ieee.double.read x)).map _
  rw [product_comm]
theorem sum_comm (d c : Ieee.Datum) : d.sum c = c.sum d := by
  cases d with
  | nan s f => cases c <;> rfl
  | infinity s =>
    cases c with
    | nan t f => rfl
    | infinity t =>
      simp only [Ieee.Datum.sum]
      by_cases h : s = t
      · subst h; rfl
      · rw [if_neg h, if_neg (fun e => h e.symm)]
    | number t m i => rfl
  | number s m i =>
    cases c with
    | nan t f => rfl
    | infinity t => rfl
    | number t n j => simp only [Ieee.Datum.sum]; rw [Int.min_comm j i, Int.add_comm (Ieee.signed t n _), Bool.and_comm t s]
theorem add_comm_bits (x y : Nat) : floatBits .add .f64 x y = floatBits .add .f64 y x := by
  show ((Ieee.double.read x).sum (Ieee.double.read y)).map _ = ((Ieee.double.read y).sum (Ieee.double.read x)).map _
  rw [sum_comm]
theorem FN.mulComm {x y r : Nat} (h : FN .mul x y r) : FN .mul y x r := ⟨h.1, by rw [mul_comm_bits]; exact h.2⟩
theorem FN.addComm {x y r : Nat} (h : FN .add x y r) : FN .add y x r := ⟨h.1, by rw [add_comm_bits]; exact h.2⟩

/-- At most one and a half times. -/
theorem mul_le_half3 {m t r r' : Nat} (hm : m < 9218868437227405312) (h1 : 4607182418800017408 ≤ t) (h2 : t ≤ 4609434218613702656) (h : FN .mul m t r) (h' : FN .mul 4609434218613702656 m r') : r ≤ r' ∧ r' ≤ 9218868437227405312 := by
  obtain ⟨E, hE⟩ : ∃ E : Nat, E = 1074 := ⟨_, rfl⟩
  obtain ⟨m2, p2, e2, v2, z2⟩ := mul_bits (x := 4609434218613702656) (y := m) E hE (by omega) hm
  by_cases ht : t = 4609434218613702656
  · subst ht
    rcases h.al h'.mulComm (.refl _) (.refl _) with rfl | ⟨n1, n2⟩
    · refine ⟨Nat.le_refl _, ?_⟩
      have e3 := h'.eq e2
      obtain ⟨s, e4, s1, _⟩ := near_ge false m2 p2 0 (by omega) (by rw [show rungVal 0 = 0 from rfl]; omega)
      rw [e4, word_pos] at e3
      omega
    · have e3 := h'.eq e2
      obtain ⟨s, e4, s1, _⟩ := near_ge false m2 p2 0 (by omega) (by rw [show rungVal 0 = 0 from rfl]; omega)
      rw [e4, word_pos] at e3
      subst e3
      rw [isnan_iff] at n2
      omega
  · obtain ⟨m1, p1, e1, v1, z1⟩ := mul_bits (x := m) (y := t) E hE hm (by omega)
    have r1 := h.eq e1
    have r2 := h'.eq e2
    have hvt : rungVal t < rungVal 4609434218613702656 := rungVal_lt (by omega)
    have hvt0 : 0 < rungVal t := Nat.lt_of_le_of_lt (Nat.zero_le _) (rungVal_lt (r := 0) (s := t) (by omega))
    by_cases h0 : m = 0
    · have q : m1 = 0 := z1.2 (by rw [h0]; show rungVal 0 * _ = 0; rw [show rungVal 0 = 0 from rfl, Nat.zero_mul])
      rw [q] at r1
      simp [Ieee.Format.nearest, word_pos] at r1
      obtain ⟨s, e4, s1, _⟩ := near_ge false m2 p2 0 (by omega) (by rw [show rungVal 0 = 0 from rfl]; omega)
      rw [e4, word_pos] at r2
      omega
    · have hvm : 0 < rungVal m := Nat.lt_of_le_of_lt (Nat.zero_le _) (rungVal_lt (r := 0) (s := m) (by omega))
      have q1 : m1 ≠ 0 := fun e => by have := z1.1 e; have := Nat.mul_pos hvm hvt0; omega
      have q2 : m2 ≠ 0 := fun e => by have := z2.1 e; have := Nat.mul_pos (Nat.lt_of_lt_of_le hvt0 (Nat.le_of_lt hvt)) hvm; omega
      obtain ⟨s1, s2, f1, f2, hs, hi⟩ := near_mono false false m1 p1 m2 p2 q1 q2 (by
        have hP := Nat.two_pow_pos E
        have hB1 := Nat.two_pow_pos (-(p1 + 1074)).toNat
        have hB2 := Nat.two_pow_pos (-(p2 + 1074)).toNat
        generalize m1 * 2 ^ (p1 + 1074).toNat = A1 at *
        generalize m2 * 2 ^ (p2 + 1074).toNat = A2 at *
        generalize 2 ^ (-(p1 + 1074)).toNat = B1 at *
        generalize 2 ^ (-(p2 + 1074)).toNat = B2 at *
        generalize 2 ^ E = P at *
        generalize rungVal 4609434218613702656 = T at *
        generalize rungVal t = X at *
        generalize rungVal m = M at *
        have k : A1 * B2 * P < A2 * B1 * P := by
          rw [Nat.mul_right_comm A1, v1, Nat.mul_right_comm A2, v2, Nat.mul_comm T M, Nat.mul_right_comm (M * T)]
          exact Nat.mul_lt_mul_of_pos_right (Nat.mul_lt_mul_of_pos_right (Nat.mul_lt_mul_of_pos_left hvt hvm) hB1) hB2
        exact Nat.lt_of_mul_lt_mul_right k)
      rw [f1, word_pos] at r1
      rw [f2, word_pos] at r2
      omega

theorem MulR_swap {a b c d x y u v re im x' y' u' v' re' im' : Nat} (h1 : FN .mul a c x) (h2 : FN .mul b d y) (h3 : FN .sub x y re) (h4 : FN .mul a d u) (h5 : FN .mul b c v) (h6 : FN .add u v im)
    (g1 : FN .mul c a x') (g2 : FN .mul d b y') (g3 : FN .sub x' y' re') (g4 : FN .mul c b u') (g5 : FN .mul d a v') (g6 : FN .add u' v' im') : Al re re' ∧ Al im im' :=
  ⟨h3.al g3 (h1.al g1.mulComm (.refl _) (.refl _)) (h2.al g2.mulComm (.refl _) (.refl _)), h6.al g6.addComm (h4.al g5.mulComm (.refl _) (.refl _)) (h5.al g4.mulComm (.refl _) (.refl _))⟩

end Go.Proofs.Ytfldddphfekiaaa

/- Opposites: of products, of sums; the conjugate of a product. Nothing here speaks of the program. -/
namespace Go.Proofs.Ytfldddphfekiaaa

/-- The other sign, by the bits. -/
def fopp (x : Nat) : Nat := x ^^^ 9223372036854775808
theorem fopp_low {x : Nat} (h : x < 9223372036854775808) : fopp x = 9223372036854775808 + x := by
  have e := nat_join 63 9223372036854775808 x (by decide) h
  unfold fopp
  have e2 : x ^^^ 9223372036854775808 = 9223372036854775808 ||| x := by
    apply Nat.eq_of_testBit_eq
    intro i
    rw [Nat.testBit_xor, Nat.testBit_or, show (9223372036854775808 : Nat) = 2 ^ 63 from rfl, Nat.testBit_two_pow]
    by_cases hi : 63 = i
    · subst hi
      rw [Nat.testBit_lt_two_pow h]; simp
    · simp [hi]
  rw [e2, e]
theorem fopp_fopp (x : Nat) : fopp (fopp x) = x := by unfold fopp; rw [Nat.xor_assoc, Nat.xor_self, Nat.xor_zero]
theorem fopp_high {x : Nat} (h : x < 18446744073709551616) (h1 : 9223372036854775808 ≤ x) : fopp x = x - 9223372036854775808 := by
  have e := fopp_low (x := x - 9223372036854775808) (by omega)
  rw [show 9223372036854775808 + (x - 9223372036854775808) = x by omega] at e
  rw [← e, fopp_fopp]
  omega
theorem fopp_mod {x : Nat} (h : x < 18446744073709551616) : fopp x % 9223372036854775808 = x % 9223372036854775808 ∧ fopp x < 18446744073709551616 := by
  by_cases h1 : x < 9223372036854775808
  · rw [fopp_low h1]; omega
  · rw [fopp_high h (by omega)]; omega
theorem isnan_fopp {x : Nat} (h : x < 18446744073709551616) : isnan (fopp x) = isnan x := by unfold isnan; rw [(fopp_mod h).1]

theorem read_fopp {x : Nat} (h : x < 18446744073709551616) : Ieee.double.read (fopp x) = (Ieee.double.read x).opposite := by
  have hm := (fopp_mod h).1
  have hs : (fopp x / 9223372036854775808 % 2 == 1) = !(x / 9223372036854775808 % 2 == 1) := by
    by_cases h1 : x < 9223372036854775808
    · rw [fopp_low h1, show (9223372036854775808 + x) / 9223372036854775808 = 1 by omega, show x / 9223372036854775808 = 0 by omega]; rfl
    · rw [fopp_high h (by omega), show (x - 9223372036854775808) / 9223372036854775808 = 0 by omega, show x / 9223372036854775808 = 1 by omega]; rfl
  unfold Ieee.Format.read
  simp only [dbl_sign, dbl_inf, dbl_binade]
  rw [hm, hs]
  split
  · rfl
  split
  · rfl
  split
  · rfl
  · rfl

theorem word_opp (s : Bool) (r : Nat) (h : r ≤ 9218868437227405312) : Ieee.double.word (!s) r = fopp (Ieee.double.word s r) := by
  have e := fopp_low (x := r) (by omega)
  cases s
  · show Ieee.double.signWeight + r = fopp r
    rw [dbl_sign, e]
  · show r = fopp (Ieee.double.signWeight + r)
    rw [dbl_sign, ← e, fopp_fopp]
theorem nearest_opp (s : Bool) (m : Nat) (i : Int) : Ieee.double.nearest (!s) m i = fopp (Ieee.double.nearest s m i) := by
  by_cases h0 : m = 0
  · subst h0
    simp only [Ieee.Format.nearest, if_true]
    exact word_opp s 0 (by omega)
  · unfold Ieee.Format.nearest
    rw [if_neg h0, if_neg h0]
    have hc : ∀ n d, Ieee.Toward.even.cut (!s) n d = Ieee.Toward.even.cut s n d := fun n d => rfl
    simp only [hc]
    refine word_opp s _ ?_
    rw [dbl_inf]
    exact Nat.min_le_right _ _
theorem write_opp (d : Ieee.Datum) (h : d.isNaN = false) : Ieee.double.write d.opposite = fopp (Ieee.double.write d) := by
  cases d with
  | nan s f => cases h
  | infinity s => exact word_opp s _ (by rw [dbl_inf]; omega)
  | number s m i => exact nearest_opp s m i

theorem product_opp_r (d c : Ieee.Datum) : d.product c.opposite = (d.product c).map Ieee.Datum.opposite := by
  cases d with
  | nan s f => cases c <;> rfl
  | infinity s =>
    cases c with
    | nan t f => rfl
    | infinity t => cases s <;> cases t <;> rfl
    | number t n j =>
      simp only [Ieee.Datum.opposite, Ieee.Datum.product]
      by_cases h : n = 0
      · rw [if_pos h, if_pos h]; rfl
      · rw [if_neg h, if_neg h]; cases s <;> cases t <;> rfl
  | number s m i =>
    cases c with
    | nan t f => rfl
    | infinity t =>
      simp only [Ieee.Datum.opposite, Ieee.Datum.product]
      by_cases h : m = 0
      · rw [if_pos h, if_pos h]; rfl
      · rw [if_neg h, if_neg h]; cases s <;> cases t <;> rfl
    | number t n j => cases s <;> cases t <;> rfl
theorem product_notnan {d c p : Ieee.Datum} (h : d.product c = some p) : p.isNaN = false := by
  cases d with
  | nan s f => cases c <;> cases h
  | infinity s =>
    cases c with
    | nan t f => cases h
    | infinity t => cases h; rfl
    | number t n j =>
      simp only [Ieee.Datum.product] at h
      split at h
      · cases h
      · cases h; rfl
  | number s m i =>
    cases c with
    | nan t f => cases h
    | infinity t =>
      simp only [Ieee.Datum.product] at h
      split at h
      · cases h
      · cases h; rfl
    | number t n j => cases h; rfl
theorem mul_opp_r (a : Nat) {d : Nat} (hd : d < 18446744073709551616) : floatBits .mul .f64 a (fopp d) = (floatBits .mul .f64 a d).map fopp := by
  show ((Ieee.double.read a).product (Ieee.double.read (fopp d))).map Ieee.double.write = (((Ieee.double.read a).product (Ieee.double.read d)).map Ieee.double.write).map fopp
  rw [read_fopp hd, product_opp_r]
  cases h : (Ieee.double.read a).product (Ieee.double.read d) with
  | none => rfl
  | some p => show some _ = some _; rw [write_opp p (product_notnan h)]
theorem mul_opp_two {b d : Nat} (hb : b < 18446744073709551616) (hd : d < 18446744073709551616) : floatBits .mul .f64 (fopp b) (fopp d) = floatBits .mul .f64 b d := by
  rw [mul_opp_r _ hd, mul_comm_bits, mul_opp_r _ hb, mul_comm_bits d b]
  cases floatBits .mul .f64 b d with
  | none => rfl
  | some r => show some _ = some _; rw [fopp_fopp]

/-- Opposites, or both NaN. -/
def Ng (x y : Nat) : Prop := y = fopp x ∨ (isnan x = true ∧ isnan y = true)
theorem mul_ng {a d u u' : Nat} (hd : d < 18446744073709551616) (h : FN .mul a d u) (h' : FN .mul a (fopp d) u') : Ng u u' := by
  have e := mul_opp_r a hd
  rcases h.2 with g | ⟨g, k⟩
  · rw [g] at e
    exact .inl (h'.eq e)
  · rw [g] at e
    rcases h'.2 with g' | ⟨_, k'⟩
    · rw [e] at g'; cases g'
    · exact .inr ⟨k, k'⟩

theorem zero_eq (s t : Bool) : FloatKind.f64.format.order (Ieee.double.word s 0) (Ieee.double.word t 0) = some .eq := by cases s <;> cases t <;> decide
theorem signed_not (s : Bool) (m k : Nat) : Ieee.signed (!s) m k = -Ieee.signed s m k := by
  cases s
  · rfl
  · simp [Ieee.signed]
theorem add_ng {u v u' v' r r' : Nat} (hu : u < 18446744073709551616) (hv : v < 18446744073709551616) (h : FN .add u v r) (h' : FN .add u' v' r') (n1 : Ng u u') (n2 : Ng v v') (k : isnan r = false) (k' : isnan r' = false) :
    (FloatKind.f64.format.order (fopp r) r' == some .eq) = true := by
  have none_bad : floatBits .add .f64 u v = none → False := fun e => by
    rcases h.2 with g | ⟨_, g⟩
    · rw [e] at g; cases g
    · rw [k] at g; cases g
  rcases n1 with rfl | ⟨m1, _⟩
  · rcases n2 with rfl | ⟨m2, _⟩
    · have same : ∀ _z : Nat, r' = fopp r → (FloatKind.f64.format.order (fopp r) r' == some .eq) = true := fun _ e => by
        rw [e, order_refl (by rw [← e]; exact k')]; rfl
      have er : ∃ d, (Ieee.double.read u).sum (Ieee.double.read v) = some d ∧ r = Ieee.double.write d := by
        cases hd : (Ieee.double.read u).sum (Ieee.double.read v) with
        | none => exact absurd (show floatBits .add .f64 u v = none from (by show ((Ieee.double.read u).sum (Ieee.double.read v)).map _ = none; rw [hd]; rfl)) none_bad
        | some d => exact ⟨d, rfl, h.eq (show ((Ieee.double.read u).sum (Ieee.double.read v)).map _ = _ by rw [hd]; rfl)⟩
      obtain ⟨d, hd, er⟩ := er
      have ef : ∀ d', (Ieee.double.read u).opposite.sum (Ieee.double.read v).opposite = some d' → r' = Ieee.double.write d' := fun d' e => h'.eq (show ((Ieee.double.read (fopp u)).sum (Ieee.double.read (fopp v))).map _ = _ by rw [read_fopp hu, read_fopp hv, e]; rfl)
      cases hx : Ieee.double.read u with
      | nan s f => rw [hx] at hd; cases hy : Ieee.double.read v <;> rw [hy] at hd <;> cases hd
      | infinity s =>
        cases hy : Ieee.double.read v with
        | nan t f => rw [hx, hy] at hd; cases hd
        | infinity t =>
          rw [hx, hy] at hd ef
          simp only [Ieee.Datum.sum] at hd
          split at hd
          · rename_i hst
            subst hst
            cases hd
            exact same 0 (by rw [ef (.infinity (!s)) (by simp [Ieee.Datum.opposite, Ieee.Datum.sum]), er]; exact write_opp (.infinity s) rfl)
          · cases hd
        | number t n j =>
          rw [hx, hy] at hd ef
          cases hd
          exact same 0 (by rw [ef (.infinity (!s)) rfl, er]; exact write_opp (.infinity s) rfl)
      | number s m i =>
        cases hy : Ieee.double.read v with
        | nan t f => rw [hx, hy] at hd; cases hd
        | infinity t =>
          rw [hx, hy] at hd ef
          cases hd
          exact same 0 (by rw [ef (.infinity (!t)) rfl, er]; exact write_opp (.infinity t) rfl)
        | number t n j =>
          rw [hx, hy] at hd ef
          simp only [Ieee.Datum.sum] at hd
          have ef2 := ef _ rfl
          simp only [signed_not] at ef2
          cases hd
          generalize Ieee.signed s m (i - min i j).toNat = S at *
          generalize Ieee.signed t n (j - min i j).toNat = T at *
          by_cases hz : S + T = 0
          · have hz2 : -S + -T = 0 := by omega
            rw [hz, if_pos rfl] at er
            rw [hz2, if_pos rfl] at ef2
            have w0 : ∀ b : Bool, Ieee.double.write (.number b (Int.natAbs 0) (min i j)) = Ieee.double.word b 0 := fun b => by simp [Ieee.Format.write, Ieee.Format.nearest]
            rw [w0] at er ef2
            rw [er, ef2, ← word_opp _ 0 (by omega), zero_eq]
            rfl
          · have hz2 : ¬ (-S + -T = 0) := by omega
            rw [if_neg hz] at er
            rw [if_neg hz2] at ef2
            have e1 : (-S + -T).natAbs = (S + T).natAbs := by omega
            have e2 : decide (-S + -T < 0) = !decide (S + T < 0) := by
              by_cases hp : S + T < 0
              · rw [decide_eq_true hp, decide_eq_false (by omega)]; rfl
              · rw [decide_eq_false hp, decide_eq_true (by omega)]; rfl
            rw [e1, e2] at ef2
            exact same 0 (by rw [ef2, er]; exact nearest_opp _ _ _)
    · exact absurd (fb_nan_r m2) none_bad
  · exact absurd (fb_nan_l m1) none_bad

end Go.Proofs.Ytfldddphfekiaaa

/- Finite floats as whole numbers of 2^-1074: what sums, differences and products tell, and bounds that go with them. Nothing here speaks of the program. -/
namespace Go.Proofs.Ytfldddphfekiaaa

/-- Finite, by the bits. -/
def Fi (x : Nat) : Prop := x < 18446744073709551616 ∧ x % 9223372036854775808 < 9218868437227405312
/-- The number that finite bits stand for, in units of 2^-1074. -/
def sv (x : Nat) : Int := if (x / 9223372036854775808 % 2 == 1) = true then -(rungVal (x % 9223372036854775808) : Int) else (rungVal (x % 9223372036854775808) : Int)

theorem sv_low {x : Nat} (h : x < 9223372036854775808) : sv x = (rungVal x : Int) := by
  unfold sv
  rw [Nat.div_eq_of_lt h, Nat.mod_eq_of_lt h]; rfl
theorem sv_high {x : Nat} (h : x < 9223372036854775808) : sv (9223372036854775808 + x) = -(rungVal x : Int) := by
  unfold sv
  rw [show (9223372036854775808 + x) / 9223372036854775808 = 1 by omega, show (9223372036854775808 + x) % 9223372036854775808 = x by omega]; rfl
theorem sv_word (neg : Bool) (s : Nat) (h : s ≤ 9218868437227405312) : sv (Ieee.double.word neg s) = if neg = true then -(rungVal s : Int) else (rungVal s : Int) := by
  cases neg
  · exact sv_low (x := s) (by omega)
  · show sv (Ieee.double.signWeight + s) = _
    rw [dbl_sign]; exact sv_high (by omega)
theorem sv_abs (x : Nat) : (sv x).natAbs = rungVal (x % 9223372036854775808) := by
  unfold sv; split <;> omega
theorem Fi.opp {x : Nat} (h : Fi x) : Fi (fopp x) := ⟨(fopp_mod h.1).2, by rw [(fopp_mod h.1).1]; exact h.2⟩
theorem sv_opp {x : Nat} (h : x < 18446744073709551616) : sv (fopp x) = -sv x := by
  by_cases h1 : x < 9223372036854775808
  · rw [fopp_low h1, sv_high h1, sv_low h1]
  · have e : x = 9223372036854775808 + (x - 9223372036854775808) := by omega
    rw [fopp_high h (by omega), sv_low (by omega)]
    rw [e, sv_high (by omega)]
    simp
theorem Fi.notnan {x : Nat} (h : Fi x) : isnan x = false := by
  unfold isnan; exact decide_eq_false (by have := h.2; omega)
theorem rungVal_zero {r : Nat} : rungVal r = 0 ↔ r = 0 := by
  constructor
  · intro h
    by_cases hz : r = 0
    · exact hz
    · have h1 := rungVal_lt (r := 0) (s := r) (by omega)
      omega
  · intro h; subst h; rfl

/-- r is the float nearest to A / D. -/
def RN (A : Int) (D r : Nat) : Prop := ∃ neg s, r = Ieee.double.word neg s ∧ (A < 0 → neg = true) ∧ (0 < A → neg = false) ∧ Mid A.natAbs D s

theorem mid_zero (D : Nat) : Mid 0 D 0 := ⟨by omega, fun _ => by omega, fun h => by omega, fun _ _ => rfl, fun h => by omega⟩

theorem near_rn {neg : Bool} {mag : Nat} {place : Int} {A : Int} {D : Nat} (hD : 0 < D) (e : mag * 2 ^ (place + 1074).toNat * D = A.natAbs * 2 ^ (-(place + 1074)).toNat) (h1 : A < 0 → neg = true) (h2 : 0 < A → neg = false) :
    RN A D (Ieee.double.nearest neg mag place) := by
  have hB : 0 < 2 ^ (-(place + 1074)).toNat := Nat.two_pow_pos _
  by_cases h0 : mag = 0
  · subst h0
    rw [Nat.zero_mul, Nat.zero_mul] at e
    have hA : A.natAbs = 0 := by
      rcases Nat.mul_eq_zero.1 e.symm with h | h
      · exact h
      · omega
    exact ⟨neg, 0, by simp [Ieee.Format.nearest], h1, h2, by rw [hA]; exact mid_zero D⟩
  · obtain ⟨s, e1, m⟩ := near_is_mid neg mag place h0
    refine ⟨neg, s, e1, h1, h2, ?_⟩
    have m2 := m.scale D hD
    rw [e, Nat.mul_comm (2 ^ (-(place + 1074)).toNat) D] at m2
    exact m2.back _ hB

theorem FN.bits {op : BinOp} {x y r s : Nat} (h : FN op x y r) (g : floatBits op .f64 x y = .some s) : r = s := by
  rcases h.2 with h | ⟨h, _⟩
  · rw [h] at g; exact Option.some.inj g
  · rw [h] at g; cases g

theorem sv_sign {x : Nat} {s : Bool} (hs : (x / 9223372036854775808 % 2 == 1) = s) : sv x = if s = true then -(rungVal (x % 9223372036854775808) : Int) else (rungVal (x % 9223372036854775808) : Int) := by
  unfold sv; rw [hs]

theorem pow_join (E a b m n : Nat) (hE : E = 1074) : m * n * 2 ^ (-1074 + (a : Int) + (-1074 + (b : Int)) + 1074).toNat * 2 ^ E = (m * 2 ^ a) * (n * 2 ^ b) * 2 ^ (-(-1074 + (a : Int) + (-1074 + (b : Int)) + 1074)).toNat := by
  by_cases h : 1074 ≤ a + b
  · have t1 : (-1074 + (a : Int) + (-1074 + (b : Int)) + 1074).toNat = a + b - 1074 := by omega
    have t2 : (-(-1074 + (a : Int) + (-1074 + (b : Int)) + 1074)).toNat = 0 := by omega
    rw [t1, t2, Nat.mul_assoc (m * n), ← Nat.pow_add, show a + b - 1074 + E = a + b by omega, Nat.pow_add, Nat.pow_zero, Nat.mul_one]
    rw [Nat.mul_assoc, Nat.mul_assoc, Nat.mul_left_comm n]
  · have t1 : (-1074 + (a : Int) + (-1074 + (b : Int)) + 1074).toNat = 0 := by omega
    have t2 : (-(-1074 + (a : Int) + (-1074 + (b : Int)) + 1074)).toNat = E - (a + b) := by omega
    rw [t1, t2, Nat.pow_zero, Nat.mul_one]
    have e : 2 ^ E = 2 ^ a * 2 ^ b * 2 ^ (E - (a + b)) := by rw [← Nat.pow_add, ← Nat.pow_add]; congr 1; omega
    rw [e]
    generalize 2 ^ a = A
    generalize 2 ^ b = B
    generalize 2 ^ (E - (a + b)) = C
    rw [← Nat.mul_assoc, ← Nat.mul_assoc]
    congr 1
    rw [Nat.mul_assoc m A, Nat.mul_left_comm A n B, ← Nat.mul_assoc m n, Nat.mul_assoc (m * n)]

/-- A product. -/
theorem mul_rn {x y r : Nat} (E : Nat) (hE : E = 1074) (hx : Fi x) (hy : Fi y) (h : FN .mul x y r) : RN (sv x * sv y) (2 ^ E) r := by
  obtain ⟨m, a, e1, v1⟩ := read_num hx.2
  obtain ⟨n, b, e2, v2⟩ := read_num hy.2
  generalize hs : (x / 9223372036854775808 % 2 == 1) = s at e1
  generalize ht : (y / 9223372036854775808 % 2 == 1) = t at e2
  have hb : floatBits .mul .f64 x y = some (Ieee.double.nearest (s ^^ t) (m * n) (-1074 + (a : Int) + (-1074 + (b : Int)))) := by
    show (((Ieee.double.read x).product (Ieee.double.read y)).map Ieee.double.write) = _
    rw [e1, e2]; rfl
  rw [h.bits hb]
  have hX := sv_sign hs
  have hY := sv_sign ht
  refine near_rn (Nat.two_pow_pos _) ?_ ?_ ?_
  · rw [Int.natAbs_mul, sv_abs, sv_abs, ← v1, ← v2]
    exact pow_join E a b m n hE
  · intro hA
    cases s <;> cases t <;> simp only [Bool.false_eq_true, if_false, if_true] at hX hY <;> rw [hX, hY] at hA
    · exfalso
      have := Int.mul_nonneg (Int.natCast_nonneg (rungVal (x % 9223372036854775808))) (Int.natCast_nonneg (rungVal (y % 9223372036854775808)))
      omega
    · rfl
    · rfl
    · exfalso
      rw [Int.neg_mul_neg] at hA
      have := Int.mul_nonneg (Int.natCast_nonneg (rungVal (x % 9223372036854775808))) (Int.natCast_nonneg (rungVal (y % 9223372036854775808)))
      omega
  · intro hA
    cases s <;> cases t <;> simp only [Bool.false_eq_true, if_false, if_true] at hX hY <;> rw [hX, hY] at hA
    · rfl
    · exfalso
      rw [Int.mul_neg] at hA
      have := Int.mul_nonneg (Int.natCast_nonneg (rungVal (x % 9223372036854775808))) (Int.natCast_nonneg (rungVal (y % 9223372036854775808)))
      omega
    · exfalso
      rw [Int.neg_mul] at hA
      have := Int.mul_nonneg (Int.natCast_nonneg (rungVal (x % 9223372036854775808))) (Int.natCast_nonneg (rungVal (y % 9223372036854775808)))
      omega
    · rfl

theorem signed_pow (s : Bool) (m a c : Nat) (h : c ≤ a) : Ieee.signed s m (a - c) * ((2 ^ c : Nat) : Int) = if s = true then -((m * 2 ^ a : Nat) : Int) else ((m * 2 ^ a : Nat) : Int) := by
  have e : m * 2 ^ a = m * 2 ^ (a - c) * 2 ^ c := by rw [Nat.mul_assoc, ← Nat.pow_add, show a - c + c = a by omega]
  rw [e]
  unfold Ieee.signed
  rw [Nat.shiftLeft_eq]
  generalize m * 2 ^ (a - c) = u
  generalize 2 ^ c = p
  cases s
  · simp
  · simp only [if_true]; rw [Int.neg_mul, Int.natCast_mul]

/-- A sum. -/
theorem add_rn {x y r : Nat} (hx : Fi x) (hy : Fi y) (h : FN .add x y r) : RN (sv x + sv y) 1 r := by
  obtain ⟨m, a, e1, v1⟩ := read_num hx.2
  obtain ⟨n, b, e2, v2⟩ := read_num hy.2
  generalize hs : (x / 9223372036854775808 % 2 == 1) = s at e1
  generalize ht : (y / 9223372036854775808 % 2 == 1) = t at e2
  have t1 : (-1074 + (a : Int) - min (-1074 + (a : Int)) (-1074 + (b : Int))).toNat = a - min a b := by omega
  have t2 : (-1074 + (b : Int) - min (-1074 + (a : Int)) (-1074 + (b : Int))).toNat = b - min a b := by omega
  obtain ⟨T, hT⟩ : ∃ T, Ieee.signed s m (a - min a b) + Ieee.signed t n (b - min a b) = T := ⟨_, rfl⟩
  have hb : floatBits .add .f64 x y = some (Ieee.double.nearest (if T = 0 then s && t else decide (T < 0)) T.natAbs (min (-1074 + (a : Int)) (-1074 + (b : Int)))) := by
    show (((Ieee.double.read x).sum (Ieee.double.read y)).map Ieee.double.write) = _
    rw [e1, e2]
    simp only [Ieee.Datum.sum, t1, t2, hT]
    rfl
  rw [h.bits hb]
  have hp : 0 < 2 ^ min a b := Nat.two_pow_pos _
  have key : sv x + sv y = T * ((2 ^ min a b : Nat) : Int) := by
    rw [← hT, Int.add_mul, signed_pow s m a _ (Nat.min_le_left ..), signed_pow t n b _ (Nat.min_le_right ..), v1, v2, sv_sign hs, sv_sign ht]
  rw [key]
  have hp' : (0 : Int) < ((2 ^ min a b : Nat) : Int) := by omega
  refine near_rn (by omega) ?_ ?_ ?_
  · rw [Int.natAbs_mul, Int.natAbs_natCast, show (min (-1074 + (a : Int)) (-1074 + (b : Int)) + 1074).toNat = min a b by omega, show (-(min (-1074 + (a : Int)) (-1074 + (b : Int)) + 1074)).toNat = 0 by omega, Nat.pow_zero]
  · intro hA
    have h0 : T < 0 := by
      by_cases hz : T < 0
      · exact hz
      · have := Int.mul_nonneg (show 0 ≤ T by omega) (Int.le_of_lt hp'); omega
    rw [if_neg (by omega)]; exact decide_eq_true h0
  · intro hA
    have h0 : 0 < T := by
      by_cases hz : 0 < T
      · exact hz
      · have := Int.mul_nonneg (show 0 ≤ -T by omega) (Int.le_of_lt hp'); rw [Int.neg_mul] at this; omega
    rw [if_neg (by omega)]; exact decide_eq_false (by omega)

theorem sub_fopp {x y r : Nat} (hy : y < 18446744073709551616) (h : FN .sub x y r) : FN .add x (fopp y) r := by
  have e : floatBits .sub .f64 x y = floatBits .add .f64 x (fopp y) := by
    show (((Ieee.double.read x).sum (Ieee.double.read y).opposite).map Ieee.double.write) = (((Ieee.double.read x).sum (Ieee.double.read (fopp y))).map Ieee.double.write)
    rw [read_fopp hy]
  exact ⟨h.1, by rw [← e]; exact h.2⟩
/-- A difference. -/
theorem sub_rn {x y r : Nat} (hx : Fi x) (hy : Fi y) (h : FN .sub x y r) : RN (sv x - sv y) 1 r := by
  have := add_rn hx hy.opp (sub_fopp hy.1 h)
  rw [sv_opp hy.1] at this
  exact this

/-- Not above a float: so is the nearest. -/
theorem Mid.le {A D s r : Nat} (hD : 0 < D) (h : Mid A D s) (g : A ≤ rungVal r * D) : s ≤ r := by
  by_cases hlt : s ≤ r
  · exact hlt
  · exfalso
    have m := h.down (by omega)
    have g1 : rungVal r < rungVal s := rungVal_lt (by omega)
    have g2 : rungVal r ≤ rungVal (s - 1) := rungVal_le (by omega)
    have g3 : (2 * rungVal r) * D < (rungVal (s - 1) + rungVal s) * D := Nat.mul_lt_mul_of_pos_right (by omega) hD
    rw [Nat.mul_assoc 2] at g3
    omega
theorem Mid.ge {A D s r : Nat} (hD : 0 < D) (h : Mid A D s) (hr : r ≤ 9218868437227405312) (g : rungVal r * D ≤ A) : r ≤ s := by
  by_cases hlt : r ≤ s
  · exact hlt
  · exfalso
    have m := h.up (by omega)
    have g1 : rungVal s < rungVal r := rungVal_lt (by omega)
    have g2 : rungVal (s + 1) ≤ rungVal r := rungVal_le (by omega)
    have g3 : (rungVal s + rungVal (s + 1)) * D < (2 * rungVal r) * D := Nat.mul_lt_mul_of_pos_right (by omega) hD
    rw [Nat.mul_assoc 2] at g3
    omega

/-- A whole number of at most 2^53 in some unit is a float. -/
theorem rep (m k : Nat) (hm : m ≤ 9007199254740992) (h1 : 53 ≤ k) (h2 : k ≤ 2044) : ∃ r, r < 9218868437227405312 ∧ rungVal r = m * 2 ^ k := by
  by_cases h0 : m = 0
  · subst h0; exact ⟨0, by omega, by rw [Nat.zero_mul]; rfl⟩
  by_cases hb : 4503599627370496 ≤ m
  · exact ⟨k * 4503599627370496 + m, by omega, rungVal_count hm (fun _ => hb)⟩
  · have hlo := Nat.log2_self_le h0
    have hhi : m < 2 ^ (m.log2 + 1) := Nat.lt_log2_self
    generalize m.log2 = L at hlo hhi
    have b52 : (2 : Nat) ^ 52 = 4503599627370496 := by decide
    have hL : L < 52 := by
      by_cases hc : L < 52
      · exact hc
      · have := Nat.pow_le_pow_right (show 0 < 2 by decide) (show 52 ≤ L by omega); omega
    have e1 : 2 ^ L * 2 ^ (52 - L) = 4503599627370496 := by rw [← Nat.pow_add, ← b52]; congr 1; omega
    have e2 : 2 ^ (L + 1) * 2 ^ (52 - L) = 9007199254740992 := by rw [← Nat.pow_add, show L + 1 + (52 - L) = 53 by omega]
    have k1 := Nat.mul_le_mul_right (2 ^ (52 - L)) hlo
    have k2 := Nat.mul_le_mul_right (2 ^ (52 - L)) (Nat.le_of_lt hhi)
    rw [e1] at k1
    rw [e2] at k2
    refine ⟨(k - (52 - L)) * 4503599627370496 + m * 2 ^ (52 - L), by omega, ?_⟩
    rw [rungVal_count k2 (fun _ => k1), Nat.mul_assoc, ← Nat.pow_add, show 52 - L + (k - (52 - L)) = k by omega]

/-- From lo to hi units of 2^(k - 1074). -/
def In (k : Nat) (lo hi : Int) (x : Nat) : Prop := Fi x ∧ lo * ((2 ^ k : Nat) : Int) ≤ sv x ∧ sv x ≤ hi * ((2 ^ k : Nat) : Int)

theorem word_fi (neg : Bool) {s : Nat} (h : s < 9218868437227405312) : Fi (Ieee.double.word neg s) := by
  cases neg
  · exact ⟨by show s < _; omega, by show s % _ < _; rw [Nat.mod_eq_of_lt (by omega)]; exact h⟩
  · have e : Ieee.double.word true s = 9223372036854775808 + s := by show Ieee.double.signWeight + s = _; rw [dbl_sign]
    rw [e]; exact ⟨by omega, by omega⟩

theorem mulD_le {a b : Int} {D : Nat} (hD : 0 < D) (h : a * (D : Int) ≤ b * (D : Int)) : a ≤ b := Int.le_of_mul_le_mul_right h (by omega)

/-- Bounds that are floats hold for the nearest too. -/
theorem RN.bounds {A : Int} {D r : Nat} (h : RN A D r) (hD : 0 < D) {k : Nat} {lo hi : Int} (k1 : 53 ≤ k) (k2 : k ≤ 2044) (b1 : -9007199254740992 ≤ lo) (b2 : hi ≤ 9007199254740992)
    (hl : lo * ((2 ^ k : Nat) : Int) * (D : Int) ≤ A) (hh : A ≤ hi * ((2 ^ k : Nat) : Int) * (D : Int)) : In k lo hi r := by
  obtain ⟨neg, s, rfl, n1, n2, m⟩ := h
  have hP : 0 < 2 ^ k := Nat.two_pow_pos k
  have hlh : lo ≤ hi := mulD_le hP (mulD_le hD (Int.le_trans hl hh))
  have hPD : 0 < 2 ^ k * D := Nat.mul_pos hP hD
  have hl' : lo * ((2 ^ k * D : Nat) : Int) ≤ A := by rw [Int.natCast_mul, ← Int.mul_assoc]; exact hl
  have hh' : A ≤ hi * ((2 ^ k * D : Nat) : Int) := by rw [Int.natCast_mul, ← Int.mul_assoc]; exact hh
  -- a whole number c of units, not below 0
  have up : ∀ c : Nat, c ≤ 9007199254740992 → (A.natAbs : Int) ≤ (c : Int) * ((2 ^ k * D : Nat) : Int) → s < 9218868437227405312 ∧ (rungVal s : Int) ≤ (c : Int) * ((2 ^ k : Nat) : Int) := by
    intro c hc hA
    obtain ⟨r, hr, hv⟩ := rep c k hc k1 k2
    have g : A.natAbs ≤ rungVal r * D := by
      rw [hv, Nat.mul_assoc]
      rw [← Int.natCast_mul] at hA
      exact Int.ofNat_le.1 hA
    have hs := m.le hD g
    refine ⟨by omega, ?_⟩
    have := rungVal_le hs
    rw [hv] at this
    rw [← Int.natCast_mul]
    exact Int.ofNat_le.2 this
  have down : ∀ c : Nat, c ≤ 9007199254740992 → (c : Int) * ((2 ^ k * D : Nat) : Int) ≤ (A.natAbs : Int) → (c : Int) * ((2 ^ k : Nat) : Int) ≤ (rungVal s : Int) := by
    intro c hc hA
    obtain ⟨r, hr, hv⟩ := rep c k hc k1 k2
    have g : rungVal r * D ≤ A.natAbs := by
      rw [hv, Nat.mul_assoc]
      rw [← Int.natCast_mul] at hA
      exact Int.ofNat_le.1 hA
    have hs := m.ge hD (by omega) g
    have := rungVal_le hs
    rw [hv] at this
    rw [← Int.natCast_mul]
    exact Int.ofNat_le.2 this
  unfold In
  generalize hQ : 2 ^ k * D = Q at *
  generalize 2 ^ k = P at *
  have key : ∀ n c : Int, n ≤ c → n * (P : Int) ≤ c * (P : Int) := fun n c h => Int.mul_le_mul_of_nonneg_right h (by omega)
  have hrv : (0 : Int) ≤ (rungVal s : Int) := by omega
  cases neg with
  | false =>
    have hA : 0 ≤ A := by
      by_cases hz : A < 0
      · cases n1 hz
      · omega
    have hi0 : 0 ≤ hi := by
      by_cases hz : 0 ≤ hi
      · exact hz
      · have := Int.mul_le_mul_of_nonneg_right (show hi ≤ -1 by omega) (show (0 : Int) ≤ (Q : Int) by omega)
        omega
    obtain ⟨u1, u2⟩ := up hi.toNat (by omega) (by rw [Int.toNat_of_nonneg hi0]; omega)
    rw [Int.toNat_of_nonneg hi0] at u2
    refine ⟨word_fi _ u1, ?_, ?_⟩
    · rw [sv_word _ _ (by omega)]
      simp only [Bool.false_eq_true, if_false]
      by_cases hz : 0 ≤ lo
      · have := down lo.toNat (by omega) (by rw [Int.toNat_of_nonneg hz]; omega)
        rw [Int.toNat_of_nonneg hz] at this
        exact this
      · have := key lo 0 (by omega); omega
    · rw [sv_word _ _ (by omega)]
      simp only [Bool.false_eq_true, if_false]
      exact u2
  | true =>
    have hA : A ≤ 0 := by
      by_cases hz : 0 < A
      · cases n2 hz
      · omega
    have lo0 : 0 ≤ -lo := by
      by_cases hz : 0 ≤ -lo
      · exact hz
      · have := Int.mul_le_mul_of_nonneg_right (show 1 ≤ lo by omega) (show (0 : Int) ≤ (Q : Int) by omega)
        omega
    obtain ⟨u1, u2⟩ := up (-lo).toNat (by omega) (by rw [Int.toNat_of_nonneg lo0, Int.neg_mul]; omega)
    rw [Int.toNat_of_nonneg lo0, Int.neg_mul] at u2
    refine ⟨word_fi _ u1, ?_, ?_⟩
    · rw [sv_word _ _ (by omega)]
      simp only [if_true]
      omega
    · rw [sv_word _ _ (by omega)]
      simp only [if_true]
      by_cases hz : 0 ≤ -hi
      · have := down (-hi).toNat (by omega) (by rw [Int.toNat_of_nonneg hz, Int.neg_mul]; omega)
        rw [Int.toNat_of_nonneg hz, Int.neg_mul] at this
        omega
      · have := key 0 hi (by omega); omega

/-- A product lies between the least and the greatest of the corners. -/
theorem corner_ge {a b c d x y M : Int} (h1 : a ≤ x) (h2 : x ≤ b) (h3 : c ≤ y) (h4 : y ≤ d) (k1 : M ≤ a * c) (k2 : M ≤ a * d) (k3 : M ≤ b * c) (k4 : M ≤ b * d) : M ≤ x * y := by
  have side : ∀ u : Int, M ≤ u * c → M ≤ u * d → M ≤ u * y := by
    intro u g1 g2
    by_cases hu : 0 ≤ u
    · have := Int.mul_le_mul_of_nonneg_left h3 hu; omega
    · have := Int.mul_le_mul_of_nonneg_left h4 (show 0 ≤ -u by omega)
      rw [Int.neg_mul, Int.neg_mul] at this; omega
  have ga := side a k1 k2
  have gb := side b k3 k4
  by_cases hy : 0 ≤ y
  · have := Int.mul_le_mul_of_nonneg_right h1 hy; omega
  · have := Int.mul_le_mul_of_nonneg_right h2 (show 0 ≤ -y by omega)
    rw [Int.mul_neg, Int.mul_neg] at this; omega
theorem corner_le {a b c d x y M : Int} (h1 : a ≤ x) (h2 : x ≤ b) (h3 : c ≤ y) (h4 : y ≤ d) (k1 : a * c ≤ M) (k2 : a * d ≤ M) (k3 : b * c ≤ M) (k4 : b * d ≤ M) : x * y ≤ M := by
  have := corner_ge (a := -b) (b := -a) (c := c) (d := d) (x := -x) (y := y) (M := -M) (by omega) (by omega) h3 h4 (by rw [Int.neg_mul]; omega) (by rw [Int.neg_mul]; omega) (by rw [Int.neg_mul]; omega) (by rw [Int.neg_mul]; omega)
  rw [Int.neg_mul] at this
  omega

theorem In.mul {k k' k'' s x y r : Nat} {a b c d L U : Int} (hx : In k a b x) (hy : In k' c d y) (h : FN .mul x y r) (e : k + k' + s = k'' + 1074) (k1 : 53 ≤ k'') (k2 : k'' ≤ 2044) (b1 : -9007199254740992 ≤ L) (b2 : U ≤ 9007199254740992)
    (l1 : L * ((2 ^ s : Nat) : Int) ≤ a * c) (l2 : L * ((2 ^ s : Nat) : Int) ≤ a * d) (l3 : L * ((2 ^ s : Nat) : Int) ≤ b * c) (l4 : L * ((2 ^ s : Nat) : Int) ≤ b * d)
    (u1 : a * c ≤ U * ((2 ^ s : Nat) : Int)) (u2 : a * d ≤ U * ((2 ^ s : Nat) : Int)) (u3 : b * c ≤ U * ((2 ^ s : Nat) : Int)) (u4 : b * d ≤ U * ((2 ^ s : Nat) : Int)) : In k'' L U r := by
  obtain ⟨fx, x1, x2⟩ := hx
  obtain ⟨fy, y1, y2⟩ := hy
  obtain ⟨E, hE⟩ : ∃ E, E = 1074 := ⟨_, rfl⟩
  have R := mul_rn E hE fx fy h
  have ep : 2 ^ k'' * 2 ^ E = 2 ^ s * (2 ^ k * 2 ^ k') := by
    rw [← Nat.pow_add, ← Nat.pow_add, ← Nat.pow_add]; congr 1; omega
  refine R.bounds (Nat.two_pow_pos _) k1 k2 b1 b2 ?_ ?_
  · have g : L * ((2 ^ k'' : Nat) : Int) * ((2 ^ E : Nat) : Int) = L * ((2 ^ s : Nat) : Int) * (((2 ^ k : Nat) : Int) * ((2 ^ k' : Nat) : Int)) := by
      rw [Int.mul_assoc, ← Int.natCast_mul, ep, Int.natCast_mul, Int.natCast_mul, Int.mul_assoc]
    rw [g]
    have hp : (0 : Int) ≤ ((2 ^ k : Nat) : Int) * ((2 ^ k' : Nat) : Int) := Int.mul_nonneg (Int.natCast_nonneg _) (Int.natCast_nonneg _)
    have sh : ∀ u v : Int, u * ((2 ^ k : Nat) : Int) * (v * ((2 ^ k' : Nat) : Int)) = u * v * (((2 ^ k : Nat) : Int) * ((2 ^ k' : Nat) : Int)) := fun u v => by
      rw [Int.mul_assoc, Int.mul_left_comm ((2 ^ k : Nat) : Int) v, ← Int.mul_assoc u v]
    refine corner_ge x1 x2 y1 y2 ?_ ?_ ?_ ?_ <;> rw [sh] <;> exact Int.mul_le_mul_of_nonneg_right (by assumption) hp
  · have g : U * ((2 ^ k'' : Nat) : Int) * ((2 ^ E : Nat) : Int) = U * ((2 ^ s : Nat) : Int) * (((2 ^ k : Nat) : Int) * ((2 ^ k' : Nat) : Int)) := by
      rw [Int.mul_assoc, ← Int.natCast_mul, ep, Int.natCast_mul, Int.natCast_mul, Int.mul_assoc]
    rw [g]
    have hp : (0 : Int) ≤ ((2 ^ k : Nat) : Int) * ((2 ^ k' : Nat) : Int) := Int.mul_nonneg (Int.natCast_nonneg _) (Int.natCast_nonneg _)
    have sh : ∀ u v : Int, u * ((2 ^ k : Nat) : Int) * (v * ((2 ^ k' : Nat) : Int)) = u * v * (((2 ^ k : Nat) : Int) * ((2 ^ k' : Nat) : Int)) := fun u v => by
      rw [Int.mul_assoc, Int.mul_left_comm ((2 ^ k : Nat) : Int) v, ← Int.mul_assoc u v]
    refine corner_le x1 x2 y1 y2 ?_ ?_ ?_ ?_ <;> rw [sh] <;> exact Int.mul_le_mul_of_nonneg_right (by assumption) hp
theorem In.add {k x y r : Nat} {a b c d L U : Int} (hx : In k a b x) (hy : In k c d y) (h : FN .add x y r) (k1 : 53 ≤ k) (k2 : k ≤ 2044) (b1 : -9007199254740992 ≤ L) (b2 : U ≤ 9007199254740992) (l : L ≤ a + c) (u : b + d ≤ U) : In k L U r := by
  obtain ⟨fx, x1, x2⟩ := hx
  obtain ⟨fy, y1, y2⟩ := hy
  have hp : (0 : Int) ≤ ((2 ^ k : Nat) : Int) := Int.natCast_nonneg _
  refine (add_rn fx fy h).bounds (by decide) k1 k2 b1 b2 ?_ ?_
  · have := Int.mul_le_mul_of_nonneg_right l hp
    rw [Int.add_mul] at this
    omega
  · have := Int.mul_le_mul_of_nonneg_right u hp
    rw [Int.add_mul] at this
    omega
theorem In.opp {k x : Nat} {a b : Int} (h : In k a b x) : In k (-b) (-a) (fopp x) := by
  obtain ⟨f, h1, h2⟩ := h
  refine ⟨f.opp, ?_, ?_⟩ <;> rw [sv_opp f.1, Int.neg_mul] <;> omega
theorem In.wide {k x : Nat} {a b c d : Int} (h : In k a b x) (h1 : c ≤ a) (h2 : b ≤ d) : In k c d x := by
  obtain ⟨f, g1, g2⟩ := h
  have hp : (0 : Int) ≤ ((2 ^ k : Nat) : Int) := Int.natCast_nonneg _
  exact ⟨f, Int.le_trans (Int.mul_le_mul_of_nonneg_right h1 hp) g1, Int.le_trans g2 (Int.mul_le_mul_of_nonneg_right h2 hp)⟩
end Go.Proofs.Ytfldddphfekiaaa

/- Lists of 32-bit words as plain data: their trimmed length, their value, when they are read out of memory. Nothing here speaks of the program. -/
namespace Go.Proofs.Ytfldddphfekiaaa
open Go.RowKit

theorem hid {p : Prop} (h : p) : Hid p := h

/-- Each number is a word of 32 bits. -/
def Wd (zs : List Int) : Prop := ∀ z ∈ zs, 0 ≤ z ∧ z ≤ 4294967295

theorem Wd.at {zs : List Int} (h : Wd zs) (j : Nat) : 0 ≤ zs[j]?.getD 0 ∧ zs[j]?.getD 0 ≤ 4294967295 := by
  by_cases hj : j < zs.length
  · rw [List.getElem?_eq_getElem hj]; exact h _ (List.getElem_mem hj)
  · rw [List.getElem?_eq_none (by omega)]; exact ⟨by decide, by decide⟩

theorem Wd.take {zs : List Int} (h : Wd zs) (k : Nat) : Wd (zs.take k) := fun z hz => h z (List.mem_of_mem_take hz)
theorem Wd.drop {zs : List Int} (h : Wd zs) (k : Nat) : Wd (zs.drop k) := fun z hz => h z (List.mem_of_mem_drop hz)
theorem Wd.append {zs ys : List Int} (h : Wd zs) (g : Wd ys) : Wd (zs ++ ys) := fun z hz => (List.mem_append.1 hz).elim (h z) (g z)
theorem Wd.nil : Wd [] := fun _ hz => by simp at hz
theorem Wd.cons {z : Int} {zs : List Int} (h0 : 0 ≤ z ∧ z ≤ 4294967295) (h : Wd zs) : Wd (z :: zs) := fun y hy => by
  rcases List.mem_cons.1 hy with rfl | hy
  · exact h0
  · exact h y hy
theorem Wd.one {z : Int} (h0 : 0 ≤ z ∧ z ≤ 4294967295) : Wd [z] := Wd.cons h0 Wd.nil
theorem Wd.replicate (n : Nat) : Wd (List.replicate n 0) := fun z hz => by
  have := (List.mem_replicate.1 hz).2; omega
theorem Wd.set {zs : List Int} (h : Wd zs) (j : Nat) {z : Int} (h0 : 0 ≤ z ∧ z ≤ 4294967295) : Wd (zs.set j z) := fun y hy => by
  rcases List.mem_or_eq_of_mem_set hy with hy | rfl
  · exact h y hy
  · exact h0
theorem Wd.tail {z : Int} {zs : List Int} (h : Wd (z :: zs)) : Wd zs := fun y hy => h y (List.mem_cons_of_mem _ hy)
theorem Wd.head {z : Int} {zs : List Int} (h : Wd (z :: zs)) : 0 ≤ z ∧ z ≤ 4294967295 := h z List.mem_cons_self

/-- How many of the first k words stay when noughts at their end are dropped. -/
def szTo (zs : List Int) : Nat → Nat
  | 0 => 0
  | k + 1 => if zs[k]?.getD 0 = 0 then szTo zs k else k + 1
def sz (zs : List Int) : Nat := szTo zs zs.length
def trimmed (zs : List Int) : List Int := zs.take (sz zs)

theorem szTo_le (zs : List Int) : ∀ k, szTo zs k ≤ k
  | 0 => Nat.le_refl _
  | k + 1 => by
    unfold szTo
    split
    · exact Nat.le_succ_of_le (szTo_le zs k)
    · exact Nat.le_refl _
theorem sz_le (zs : List Int) : sz zs ≤ zs.length := szTo_le zs _
theorem szTo_zero (zs : List Int) (k : Nat) (h : zs[k]?.getD 0 = 0) : szTo zs (k + 1) = szTo zs k := by simp [szTo, h]
theorem szTo_keep (zs : List Int) (k : Nat) (h : ¬ zs[k]?.getD 0 = 0) : szTo zs (k + 1) = k + 1 := by simp [szTo, h]
theorem length_trimmed (zs : List Int) : (trimmed zs).length = sz zs := by
  unfold trimmed; rw [List.length_take, Nat.min_eq_left (sz_le zs)]
theorem Wd.trimmed {zs : List Int} (h : Wd zs) : Wd (trimmed zs) := h.take _
/-- Behind the trimmed length stand noughts alone. -/
theorem szTo_behind (zs : List Int) : ∀ k j, szTo zs k ≤ j → j < k → zs[j]?.getD 0 = 0
  | 0, _, _, h => by omega
  | k + 1, j, h1, h2 => by
    by_cases h : zs[k]?.getD 0 = 0
    · rw [szTo_zero zs k h] at h1
      by_cases e : j = k
      · rw [e]; exact h
      · exact szTo_behind zs k j h1 (by omega)
    · rw [szTo_keep zs k h] at h1; omega
theorem sz_behind (zs : List Int) (j : Nat) (h1 : sz zs ≤ j) : zs[j]?.getD 0 = 0 := by
  by_cases h : j < zs.length
  · exact szTo_behind zs _ j h1 h
  · rw [List.getElem?_eq_none (by omega)]; rfl
/-- The last word that stays is not 0. -/
theorem szTo_top (zs : List Int) : ∀ k, 0 < szTo zs k → ¬ zs[szTo zs k - 1]?.getD 0 = 0
  | 0, h => by simp [szTo] at h
  | k + 1, h => by
    by_cases e : zs[k]?.getD 0 = 0
    · rw [szTo_zero zs k e] at h ⊢; exact szTo_top zs k h
    · rw [szTo_keep zs k e]; simpa using e
theorem sz_top (zs : List Int) (h : 0 < sz zs) : ¬ zs[sz zs - 1]?.getD 0 = 0 := szTo_top zs _ h

/-- The list is trimmed: just if it is empty or its last word is not 0. -/
theorem sz_eq_iff (zs : List Int) : sz zs = zs.length ↔ zs.length = 0 ∨ ¬ zs[zs.length - 1]?.getD 0 = 0 := by
  constructor
  · intro h
    by_cases h0 : zs.length = 0
    · exact .inl h0
    · right; have := sz_top zs (by omega); rwa [h] at this
  · rintro (h | h)
    · have := sz_le zs; omega
    · by_cases h0 : zs.length = 0
      · have := sz_le zs; omega
      · obtain ⟨m, hm⟩ : ∃ m, zs.length = m + 1 := ⟨zs.length - 1, by omega⟩
        unfold sz; rw [hm]; rw [hm] at h
        exact szTo_keep zs m (by simpa using h)

/-- The slice whose address is 'a', whose length is 'n' and whose capacity is 'cap' reads as 'zs' in the world 'w': below block number B. -/
def Reads (w : World) (B : Nat) (a : Option Addr) (n cap : Nat) (zs : List Int) : Prop :=
  zs.length = n ∧ Wd zs ∧ (n = 0 ∨ ∃ b o, a = some ⟨b, o, none⟩ ∧ b < B ∧ ∀ j, j < n → w.cell? ⟨b, o + j, none⟩ = some (.int .u32 (zs[j]?.getD 0))) ∧ n ≤ cap ∧ cap ≤ maxLen ∧ (a = none → cap = 0)

theorem Reads.later {w w' : World} {B B' : Nat} {a : Option Addr} {n cap : Nat} {zs : List Int} (h : Reads w B a n cap zs) (hb : Below B w w') (hB : B ≤ B') : Reads w' B' a n cap zs := by
  obtain ⟨h1, h2, h3, h4⟩ := h
  refine ⟨h1, h2, h3.imp id ?_, h4⟩
  rintro ⟨b, o, rfl, hlt, hc⟩
  exact ⟨b, o, rfl, by omega, fun j hj => (hb.cell (p := ⟨b, o + j, none⟩) hlt).trans (hc j hj)⟩

/-- Of a slice its first k elements. -/
theorem Reads.front {w : World} {B : Nat} {a : Option Addr} {n cap : Nat} {zs : List Int} (h : Reads w B a n cap zs) (k : Nat) (hk : k ≤ n) : Reads w B a k cap (zs.take k) := by
  obtain ⟨h1, h2, h3, h4, h5, h6⟩ := h
  refine ⟨by rw [List.length_take]; omega, h2.take k, ?_, by omega, h5, h6⟩
  rcases h3 with h3 | ⟨b, o, ha, hlt, hc⟩
  · left; omega
  · right
    refine ⟨b, o, ha, hlt, fun j hj => ?_⟩
    rw [hc j (by omega), List.getElem?_take, if_pos hj]

/-- What the call owns is read as its words. -/
theorem Reads.own {w : World} {base e : Nat} {v : Value} {zs : List Int} {n : Nat} (h : w.ownsRow base e 1 v n (zs.map (Value.int .u32))) (hw : Wd zs) :
    ∃ a cap, v = .slice a n cap ∧ Reads w w.heap.size a n cap zs := by
  have hl := h.1
  simp at hl
  rcases h.2 with ⟨rfl, rfl⟩ | ⟨g, cap, cur, rfl, hb, hg, hnc, hcm, hcs, ht⟩
  · exact ⟨none, 0, rfl, by omega, hw, .inl rfl, Nat.le_refl _, Nat.zero_le _, fun _ => rfl⟩
  · refine ⟨_, cap, rfl, by omega, hw, ?_, hnc, hcm, fun h => by simp at h⟩
    right
    refine ⟨g, 0, rfl, ?_, fun j hj => ?_⟩
    · have : w.heap[g]?.isSome := by rw [hg]; rfl
      simpa using this
    · have hc := h.cellAt j (by omega)
      rw [Nat.zero_add, hc, List.getElem?_map, List.getElem?_eq_getElem (by omega)]
      simp

/-- What is owned stays owned while only newer memory is made. -/
theorem owns_later {w w' : World} {base e : Nat} {v : Value} {n : Nat} {xs : List Value} (h : w.ownsRow base e 1 v n xs) (hb : Below w.heap.size w w') : w'.ownsRow base e 1 v n xs := by
  refine ⟨h.1, h.2.imp id ?_⟩
  rintro ⟨g, cap, cur, rfl, hbg, hg, h1, h2, h3, h4⟩
  refine ⟨g, cap, cur, rfl, hbg, ?_, h1, h2, h3, h4⟩
  rw [hb.block g (by
    have : w.heap[g]?.isSome := by rw [hg]; rfl
    simpa using this)]
  exact hg

/-- What is owned from one block number on is owned from every smaller one on. -/
theorem owns_base {w : World} {base base' e : Nat} {v : Value} {n : Nat} {xs : List Value} (h : w.ownsRow base e 1 v n xs) (hb : base' ≤ base) : w.ownsRow base' e 1 v n xs := by
  refine ⟨h.1, h.2.imp id ?_⟩
  rintro ⟨g, cap, cur, rfl, hbg, hr⟩
  exact ⟨g, cap, cur, rfl, by omega, hr⟩
/-- A slice literal, just laid, is read. -/
theorem Reads.lit (w : World) (e : Nat) (zs : List Int) (hw : Wd zs) (hm : zs.length ≤ maxLen) : Reads (w.alloc (.cells ((zs.map (Value.int .u32)).toArray) e)) (w.alloc (.cells ((zs.map (Value.int .u32)).toArray) e)).heap.size (some ⟨w.heap.size, 0, none⟩) zs.length zs.length zs := by
  have h := World.ownsRow_lit (base := w.heap.size) (e := e) (size := 1) w ((zs.map (Value.int .u32)).toArray) zs.length (Nat.le_refl _) hm (by simp)
  obtain ⟨a, cap, hv, hr⟩ := Reads.own (zs := zs) (by simpa using h) hw
  simp only [Value.slice.injEq] at hv
  obtain ⟨rfl, _, rfl⟩ := hv
  exact hr

/-- A word above a word. -/
theorem or_join (x y : Int) (hx0 : 0 ≤ x) (hx : x ≤ 4294967295) (hy0 : 0 ≤ y) (hy : y ≤ 4294967295) : bits BinOp.or IntKind.u64 (x * 4294967296) y = y + x * 4294967296 := by
  rw [u64_or _ _ (by omega) (by omega) (by omega) (by omega), nat_join 32 _ _ (by omega) (by omega)]
  omega

theorem ret_int {k : IntKind} {a b : Int} (h : a = b) : Ending.returned (.int k a) = .returned (.int k b) := by rw [h]
theorem ret_bool {a b : Bool} (h : a = b) : Ending.returned (.bool a) = .returned (.bool b) := by rw [h]
end Go.Proofs.Ytfldddphfekiaaa

/- real.finite, real.twoSum, real.TwoSum and the document's Finite, TwoSum, of any floats, by their bits. -/
namespace Go.Proofs.Ytfldddphfekiaaa
open Go.RowKit
set_option linter.unusedVariables false

theorem fin_int (x : Nat) (hx : x < 18446744073709551616) : (bits .and .u64 ((x : Int) / 4503599627370496) 2047 != 2047) = fin x := by
  have e : bits .and .u64 ((x : Int) / 4503599627370496) 2047 = ((x / 4503599627370496 % 2048 : Nat) : Int) := by
    have e0 : (x : Int) / 4503599627370496 = ((x / 4503599627370496 : Nat) : Int) := by omega
    rw [e0]
    have e1 := u64_and_nat (x / 4503599627370496) 2047 (by omega) (by omega)
    have e2 : x / 4503599627370496 &&& 2047 = x / 4503599627370496 % 2048 := Nat.and_two_pow_sub_one_eq_mod _ 11
    rw [e2] at e1
    exact e1
  rw [e]
  unfold fin
  by_cases h : x / 4503599627370496 % 2048 = 2047
  · rw [h]; rfl
  · rw [bne_iff_ne.2 h, bne_iff_ne.2 (by omega)]

/-- What the machine hands back, and the world behind it. -/
def fval (op : BinOp) (V : World) (x y : Nat) : Nat := match floatBits op .f64 x y with
  | .some r => r
  | .none => Question.cut (.nanBits .f64 x y) (V.tape V.drawn (.nanBits .f64 x y))
def fwld (op : BinOp) (V : World) (x y : Nat) : World := match floatBits op .f64 x y with
  | .some _ => V
  | .none => V.drew
theorem fval_fr (op : BinOp) (V : World) (x y : Nat) : FR op x y (fval op V x y) := by
  cases h : floatBits op .f64 x y with
  | some r => simp only [fval, h]; exact FR.some h
  | none => simp only [fval, h]; exact FR.none _ h
theorem fwld_below (op : BinOp) {B : Nat} {U V : World} (x y : Nat) (h : Below B U V) : Below B U (fwld op V x y) := by
  cases e : floatBits op .f64 x y with
  | some r => simp only [fwld, e]; exact h
  | none => simp only [fwld, e]; exact h.drew
theorem fadd_run (P : Program) (t : TypeId) (V : World) (x y : Nat) : (binOp .add t (.float .f64 x) (.float .f64 y)).run P V = .ok (.float .f64 (fval .add V x y)) (fwld .add V x y) := by
  cases h : floatBits .add .f64 x y with
  | some r => simp only [fval, fwld, h]; exact run_float_arith V _ _ _ _ _ _ h
  | none => simp only [fval, fwld, h]; exact run_add P V t x y h
theorem fsub_run (P : Program) (t : TypeId) (V : World) (x y : Nat) : (binOp .sub t (.float .f64 x) (.float .f64 y)).run P V = .ok (.float .f64 (fval .sub V x y)) (fwld .sub V x y) := by
  cases h : floatBits .sub .f64 x y with
  | some r => simp only [fval, fwld, h]; exact run_float_arith V _ _ _ _ _ _ h
  | none => simp only [fval, fwld, h]; exact run_sub P V t x y h

theorem from_run (x : Nat) (w : World) : (callFunc 11 #[.int .u64 (x : Int)]).run Try.prog w = .ok (.value (.float .f64 x)) w := by
  rw [run_callFunc_extern (fn := Try.f11) Try.func11 (by kernel_rfl) (by kernel_rfl) (by kernel_rfl) (e := Extern.MathFloatBits.float64frombits) (by kernel_rfl)]
  rfl

theorem Two.lt {a b s e : Nat} (h : Two a b s e) : s < 18446744073709551616 ∧ e < 18446744073709551616 := by
  obtain ⟨t, d, p, q, h1, h2, h3, h4, h5, h6⟩ := h
  exact ⟨h1.1, h6.1⟩

/-- What TwoSum tells. -/
def tsumV (r : Nat × Nat × Int) : Value := .tuple #[.float .f64 r.1, .float .f64 r.2.1, .int .i64 r.2.2]

end Go.Proofs.Ytfldddphfekiaaa

/- The calls of parts and of the document's answers for it, of any complex numbers, by their parts' bits. -/
namespace Go.Proofs.Ytfldddphfekiaaa
open Go.RowKit
set_option linter.unusedVariables false

theorem fval_fn (op : BinOp) (V : World) (x y : Nat) : FN op x y (fval op V x y) := by
  cases h : floatBits op .f64 x y with
  | some r => simp only [fval, h]; exact FN.some h
  | none => simp only [fval, h]; exact FN.none _ h
theorem fmul_run (P : Program) (t : TypeId) (V : World) (x y : Nat) : (binOp .mul t (.float .f64 x) (.float .f64 y)).run P V = .ok (.float .f64 (fval .mul V x y)) (fwld .mul V x y) := by
  cases h : floatBits .mul .f64 x y with
  | some r => simp only [fval, fwld, h]; exact run_float_arith V _ _ _ _ _ _ h
  | none =>
    have h' : FloatKind.f64.format.mul x y = .none := h
    simp only [fval, fwld, h]
    simp [binOp, Op.floatArith, h', Question.forced]
theorem fquo_run (P : Program) (t : TypeId) (V : World) (x y : Nat) : (binOp .quo t (.float .f64 x) (.float .f64 y)).run P V = .ok (.float .f64 (fval .quo V x y)) (fwld .quo V x y) := by
  cases h : floatBits .quo .f64 x y with
  | some r => simp only [fval, fwld, h]; exact run_float_arith V _ _ _ _ _ _ h
  | none =>
    have h' : FloatKind.f64.format.div x y = .none := h
    simp only [fval, fwld, h]
    simp [binOp, Op.floatArith, h', Question.forced]

/-- The root as the machine makes it, and the world behind it. -/
def qval (V : World) (x : Nat) : Nat := match Ieee.double.sqrt x with
  | .some r => r
  | .none => Question.cut (.nanBits .f64 x x) (V.tape V.drawn (.nanBits .f64 x x))
def qwld (V : World) (x : Nat) : World := match Ieee.double.sqrt x with
  | .some _ => V
  | .none => V.drew
theorem qval_fq (V : World) (x : Nat) : FQ x (qval V x) := by
  cases h : Ieee.double.sqrt x with
  | some r =>
    simp only [qval, h]
    have := Ieee.Format.sqrt_lt Ieee.double h
    exact ⟨this, Or.inl h⟩
  | none => simp only [qval, h]; exact ⟨(isnan_cut x x _).2, Or.inr ⟨h, (isnan_cut x x _).1⟩⟩
theorem qwld_below {B : Nat} {U V : World} (x : Nat) (h : Below B U V) : Below B U (qwld V x) := by
  cases e : Ieee.double.sqrt x with
  | some r => simp only [qwld, e]; exact h
  | none => simp only [qwld, e]; exact h.drew
theorem sqrt_eq (x : Nat) : Extern.MathSqrt.sqrt #[.float .f64 x] = (match FloatKind.f64.format.sqrt x with
    | some r => pure (.float .f64 r)
    | none => do pure (.float .f64 (← choose (.nanBits .f64 x x)))) := rfl
/-- What a product is made of. -/
def MulR (a b c d re im : Nat) : Prop := ∃ x y u v, FN .mul a c x ∧ FN .mul b d y ∧ FN .sub x y re ∧ FN .mul a d u ∧ FN .mul b c v ∧ FN .add u v im
theorem MulR.al {a b c d re im re' im' : Nat} (h : MulR a b c d re im) (h' : MulR a b c d re' im') : Al re re' ∧ Al im im' := by
  obtain ⟨x, y, u, v, h1, h2, h3, h4, h5, h6⟩ := h
  obtain ⟨x', y', u', v', h1', h2', h3', h4', h5', h6'⟩ := h'
  exact ⟨h3.al h3' (h1.al h1' (.refl _) (.refl _)) (h2.al h2' (.refl _) (.refl _)), h6.al h6' (h4.al h4' (.refl _) (.refl _)) (h5.al h5' (.refl _) (.refl _))⟩

/-- The other sign. -/
def fneg (x : Nat) : Nat := Op.negFloat .f64 x

set_option maxHeartbeats 800000 in
set_option maxRecDepth 100000 in
theorem zpNeg_any (a b : Nat) (w : World) :
    Calls Try.prog 27 #[.complex .f64 a b] w fun e w' => e = .returned (.complex .f64 (fneg a) (fneg b)) ∧ w' = w := by
  have HN : ∀ x, Op.unary .neg (.float .f64 x) = pure (.float .f64 (fneg x)) := fun _ => rfl
  go_enter Try.func27, Try.ntmps27
  go_wp2
  go_ret
  exact ⟨rfl, rfl⟩
theorem absBits (x : Nat) (h : x < 18446744073709551616) : bits .andNot .u64 (x : Int) 9223372036854775808 = ((x % 9223372036854775808 : Nat) : Int) := by
  have e := u64_andNot_nat x 9223372036854775808 h (by decide)
  have e2 : x &&& (18446744073709551615 - 9223372036854775808) = x % 9223372036854775808 := Nat.and_two_pow_sub_one_eq_mod _ 63
  rw [e2] at e
  exact e

/-- An infinity, by the size's bits. -/
def isinf (x : Nat) : Bool := x == 9218868437227405312

theorem gt_max {x : Nat} (h : x < 9223372036854775808) : (FloatKind.f64.format.order x 9218868437227405311 == some .gt) = isinf x := by
  by_cases hn : isnan x = true
  · rw [order_nan_l hn]
    rw [isnan_iff] at hn
    have : x ≠ 9218868437227405312 := by rintro rfl; revert hn; decide
    simp [isinf, this]
  · have hx : x ≤ 9218868437227405312 := by rw [isnan_iff] at hn; omega
    rw [order_pos hx (by decide)]
    by_cases e : x = 9218868437227405312
    · subst e; decide
    · have : x ≤ 9218868437227405311 := by omega
      have hc : compare x 9218868437227405311 ≠ .gt := by
        intro g; rw [Nat.compare_eq_gt] at g; omega
      cases hh : compare x 9218868437227405311
      · simp [isinf, e]
      · simp [isinf, e]
      · exact absurd hh hc

theorem natBeq (x y : Nat) : ((x : Int) == (y : Int)) = (x == y) := by
  by_cases h : x = y
  · subst h; simp
  · rw [beq_eq_false_iff_ne.2 h, beq_eq_false_iff_ne.2 (by omega)]

end Go.Proofs.Ytfldddphfekiaaa

/- The document's TwoSum; slackwaterkit.SameFloat, SameBits of one float twice; lists of floats: CopyFloats, LentFloats, SameFloats, KeptFloats. -/
namespace Go.Proofs.Ytfldddphfekiaaa
open Go.RowKit
set_option linter.unusedVariables false

theorem fadd_ex (P : Program) (t : TypeId) (V : World) (x y : Nat) : ∃ r V', (binOp .add t (.float .f64 x) (.float .f64 y)).run P V = .ok (.float .f64 r) V' ∧ Hid (FR .add x y r ∧ Below V.heap.size V V') :=
  ⟨_, _, fadd_run P t V x y, fval_fr .add V x y, fwld_below .add x y (Below.refl _ _)⟩
theorem fsub_ex (P : Program) (t : TypeId) (V : World) (x y : Nat) : ∃ r V', (binOp .sub t (.float .f64 x) (.float .f64 y)).run P V = .ok (.float .f64 r) V' ∧ Hid (FR .sub x y r ∧ Below V.heap.size V V') :=
  ⟨_, _, fsub_run P t V x y, fval_fr .sub V x y, fwld_below .sub x y (Below.refl _ _)⟩
theorem b2 {a b c : World} (h : Below a.heap.size a b) (g : Below b.heap.size b c) : Below a.heap.size a c := h.trans (g.mono h.size)

set_option maxHeartbeats 800000 in
set_option maxRecDepth 100000 in
theorem sameFloat_eq (x : Nat) (w : World) (hx : fin x = true) :
    Calls Try.prog 17 #[.float .f64 x, .float .f64 x] w fun e w' => e = .returned (.bool true) ∧ w' = w := by
  have HO : (FloatKind.f64.format.order x x == some .eq) = true := by rw [order_self hx]; rfl
  clear hx
  go_enter Try.func17, Try.ntmps17
  go_wp2
  go_ret
  exact ⟨rfl, rfl⟩

theorem Try.infoF : (Try.prog.info? 29).map (fun i => (i.zero, i.size, i.bytes)) = some (some (.float .f64 0), 1, 8) := by kernel_rfl

/-- The slice reads as these floats. -/
def RdF (w : World) (B : Nat) (a : Option Addr) (n cap : Nat) (xs : List Nat) : Prop :=
  xs.length = n ∧ (n = 0 ∨ ∃ b o, a = some ⟨b, o, none⟩ ∧ b < B ∧ ∀ j, j < n → w.cell? ⟨b, o + j, none⟩ = some (.float .f64 (xs[j]?.getD 0))) ∧ n ≤ cap ∧ cap ≤ maxLen ∧ (a = none → cap = 0)

theorem RdF.later {w w' : World} {B B' : Nat} {a : Option Addr} {n cap : Nat} {zs : List Nat} (h : RdF w B a n cap zs) (hb : Below B w w') (hB : B ≤ B') : RdF w' B' a n cap zs := by
  obtain ⟨h1, h3, h4⟩ := h
  refine ⟨h1, h3.imp id ?_, h4⟩
  rintro ⟨b, o, rfl, hlt, hc⟩
  exact ⟨b, o, rfl, by omega, fun j hj => (hb.cell (p := ⟨b, o + j, none⟩) hlt).trans (hc j hj)⟩

theorem RdF.front {w : World} {B : Nat} {a : Option Addr} {n cap : Nat} {zs : List Nat} (h : RdF w B a n cap zs) (k : Nat) (hk : k ≤ n) : RdF w B a k cap (zs.take k) := by
  obtain ⟨h1, h3, h4, h5, h6⟩ := h
  refine ⟨by rw [List.length_take]; omega, ?_, by omega, h5, h6⟩
  rcases h3 with h3 | ⟨b, o, ha, hlt, hc⟩
  · left; omega
  · right
    refine ⟨b, o, ha, hlt, fun j hj => ?_⟩
    rw [hc j (by omega), List.getElem?_take, if_pos hj]

theorem RdF.own {w : World} {base e : Nat} {v : Value} {zs : List Nat} {n : Nat} (h : w.ownsRow base e 1 v n (zs.map (Value.float .f64))) :
    ∃ a cap, v = .slice a n cap ∧ RdF w w.heap.size a n cap zs := by
  have hl := h.1
  simp at hl
  rcases h.2 with ⟨rfl, rfl⟩ | ⟨g, cap, cur, rfl, hb, hg, hnc, hcm, hcs, ht⟩
  · exact ⟨none, 0, rfl, by omega, .inl rfl, Nat.le_refl _, Nat.zero_le _, fun _ => rfl⟩
  · refine ⟨_, cap, rfl, by omega, ?_, hnc, hcm, fun h => by simp at h⟩
    right
    refine ⟨g, 0, rfl, ?_, fun j hj => ?_⟩
    · have : w.heap[g]?.isSome := by rw [hg]; rfl
      simpa using this
    · have hc := h.cellAt j (by omega)
      rw [Nat.zero_add, hc, List.getElem?_map, List.getElem?_eq_getElem (by omega)]
      simp

theorem newsF {w : World} {B : Nat} {ad : Addr} {n cap : Nat} {zs : List Nat} (h : RdF w B (some ad) n cap zs) :
    ∀ j v, (zs.map (Value.float .f64))[j]? = some v → w.cell? (ad.add j) = some v := by
  intro j v hj
  have hj1 := (List.getElem?_eq_some_iff.1 hj).1
  have hl := h.1
  simp only [List.length_map] at hj1
  rcases h.2.1 with h0 | ⟨b, o, ha, _, hc⟩
  · omega
  · cases ha
    rw [Addr.add_lit, hc j (by omega), ← hj, List.getElem?_map, List.getElem?_eq_getElem hj1]
    rfl

theorem floats_oneCell (zs : List Nat) : ∀ u ∈ zs.map (Value.float .f64), u.oneCell' = true := by
  intro u hu
  obtain ⟨z, _, rfl⟩ := List.mem_map.1 hu
  rfl

/-- What stands behind a list of floats that is lent: 0.125, 1.125, 2.125. -/
def fmarks (k : Nat) : List Nat := [4593671619917905920, 4607745368753438720, 4611967493404098560].take k
theorem fmark_run (k : Nat) (h : k < 3) (P : Program) (t : TypeId) (V : World) : ∃ r, (binOp .add t (.float .f64 4593671619917905920) (.float .f64 (floatOfInt .f64 (k : Int)))).run P V = .ok (.float .f64 r) V ∧ fmarks (k + 1) = fmarks k ++ [r] := by
  match k, h with
  | 0, _ => exact ⟨4593671619917905920, run_float_arith V _ _ _ _ _ _ (by decide +kernel), rfl⟩
  | 1, _ => exact ⟨4607745368753438720, run_float_arith V _ _ _ _ _ _ (by decide +kernel), rfl⟩
  | 2, _ => exact ⟨4611967493404098560, run_float_arith V _ _ _ _ _ _ (by decide +kernel), rfl⟩

end Go.Proofs.Ytfldddphfekiaaa

/- real.Sum and the document's Sum, of any list of floats. -/
namespace Go.Proofs.Ytfldddphfekiaaa
open Go.RowKit
set_option linter.unusedVariables false

/-- A struct's memory. -/
def FBox (w : World) (b t : Nat) (vs : Array Value) : Prop := w.heap[b]? = some (.cells vs t (0, 0))
theorem FBox.cell {w : World} {b t : Nat} {vs : Array Value} (h : FBox w b t vs) (j : Nat) : w.cell? ⟨b, j, none⟩ = vs[j]? := by
  unfold FBox at h
  simp [World.cell?, h]
theorem FBox.free {w : World} {b t : Nat} {vs : Array Value} (h : FBox w b t vs) (j : Nat) : w.frozen? ⟨b, j, none⟩ = false := by
  unfold FBox at h
  simp [World.frozen?, h]
theorem FBox.later {w w' : World} {B b t : Nat} {vs : Array Value} (h : FBox w b t vs) (hb : Below B w w') (hlt : b < B) : FBox w' b t vs := by
  unfold FBox at *
  rw [hb.block b hlt]; exact h
theorem FBox.lt {w : World} {b t : Nat} {vs : Array Value} (h : FBox w b t vs) : b < w.heap.size := by
  unfold FBox at h
  have : w.heap[b]?.isSome := by rw [h]; rfl
  simpa using this
theorem FBox.made (w : World) (t : Nat) (vs : Array Value) : FBox (w.alloc (.cells vs t)) w.heap.size t vs := by
  unfold FBox
  show (w.heap.push _)[w.heap.size]? = _
  rw [Array.getElem?_push, if_pos rfl]
theorem FBox.other {w : World} {b t : Nat} {vs : Array Value} (h : FBox w b t vs) (p : Addr) (v : Value) (hne : b ≠ p.block) : FBox (w.setCell p v) b t vs := by
  unfold FBox at *
  rw [Below.heap_setCell w p v b hne]; exact h
theorem FBox.drewN {w : World} {b t : Nat} {vs : Array Value} (h : FBox w b t vs) (n : Nat) : FBox (w.drewN n) b t vs := h
theorem FBox.set {w : World} {b t : Nat} {vs : Array Value} (h : FBox w b t vs) (j : Nat) (v : Value) : FBox (w.setCell ⟨b, j, none⟩ v) b t (vs.setIfInBounds j v) := by
  unfold FBox at *
  simp only [World.setCell, Array.getElem?_modify, if_pos, h]
  simp

/-- What Sum tells. -/
def sumV (r : Nat × Nat × Int × Int) : Value := .tuple #[.float .f64 r.1, .float .f64 r.2.1, .agg #[.int .i64 r.2.2.1, .int .i64 r.2.2.2]]

/-- Each float has 64 bits. -/
def Wf (xs : List Nat) : Prop := ∀ j : Nat, xs[j]?.getD 0 < 18446744073709551616

theorem fput2 {B : Nat} {a w : World} (h : Below B a w) (b : Nat) (hb : B ≤ b) (v0 v1 : Value) : Below B a ((w.setCell ⟨b, 0, none⟩ v0).setCell ⟨b, 1, none⟩ v1) :=
  (h.setCell (p := ⟨b, 0, none⟩) hb _).setCell (p := ⟨b, 1, none⟩) hb _
theorem fbox_facts {w w' : World} {b t : Nat} {v0 v1 : Value} (h : FBox w b t #[v0, v1]) (hb : Below w.heap.size w w') : w'.cell? ⟨b, 0, none⟩ = some v0 ∧ w'.cell? ⟨b, 1, none⟩ = some v1 ∧ w'.frozen? ⟨b, 0, none⟩ = false ∧ w'.frozen? ⟨b, 1, none⟩ = false := by
  have h' := h.later hb h.lt
  exact ⟨h'.cell 0, h'.cell 1, h'.free 0, h'.free 1⟩

end Go.Proofs.Ytfldddphfekiaaa

/- package turn: nested, sine, cosine, the constants, of any float. -/
namespace Go.Proofs.Ytfldddphfekiaaa
open Go.RowKit
set_option linter.unusedVariables false

/-- The steps of a nested sum, as the machine goes them. -/
def Horn (q h : Nat) : List Nat → Nat → Prop
  | [], r => r = h
  | c :: cs, r => ∃ p s, FN .mul h q p ∧ FN .add p c s ∧ Horn q s cs r

theorem Horn.al {q q' : Nat} (aq : Al q q') : ∀ {l : List Nat} {h h' r r' : Nat}, Al h h' → Horn q h l r → Horn q' h' l r' → Al r r'
  | [], h, h', r, r', ah, g, g' => by
    have e : r = h := g
    have e' : r' = h' := g'
    rw [e, e']; exact ah
  | c :: cs, h, h', r, r', ah, g, g' => by
    obtain ⟨p, s, h1, h2, h3⟩ := g
    obtain ⟨p', s', h1', h2', h3'⟩ := g'
    exact Horn.al aq (h2.al h2' (h1.al h1' ah aq) (.refl _)) h3 h3'

theorem drop_at (xs : List Nat) (k : Nat) (h : k < xs.length) : xs.drop k = xs[k]?.getD 0 :: xs.drop (k + 1) := by
  rw [List.drop_eq_getElem_cons h, List.getElem?_eq_getElem h]; rfl

set_option maxHeartbeats 3200000 in
set_option maxRecDepth 100000 in
theorem tnested_any (q b m cap : Nat) (xs : List Nat) (w : World) (hl : xs.length = m + 1) (h0 : 0 < m) (hb : b < w.heap.size) (hc : ∀ j, j < m + 1 → w.cell? ⟨b, j, none⟩ = some (.float .f64 (xs[j]?.getD 0))) (hcap : m + 1 ≤ cap) (hn : m ≤ 1048576) (hcm : cap ≤ 1048576) :
    Calls Try.prog 23 #[.float .f64 q, .slice (some ⟨b, 0, none⟩) (m + 1) cap] w fun e w' => ∃ r, e = .returned (.float .f64 r) ∧ Horn q (xs[0]?.getD 0) (xs.drop 1) r ∧ Below w.heap.size w w' := by
  have rA := fadd_run Try.prog 29
  have rM := fmul_run Try.prog 29
  have c0 := hc 0 (by omega)
  have HC : Hid (∀ V, Below w.heap.size w V → ∀ j, j < m + 1 → V.cell? ⟨b, j, none⟩ = some (.float .f64 (xs[j]?.getD 0))) := fun V hV j hj => (hV.cell (p := ⟨b, j, none⟩) hb).trans (hc j hj)
  have HL := hid hl
  clear hl hc hb
  obtain ⟨x0, hx0⟩ : ∃ x0, xs[0]?.getD 0 = x0 := ⟨_, rfl⟩
  rw [hx0] at c0 ⊢
  clear hx0
  have n1 : (1 : Int) ≤ ((m + 1 : Nat) : Int) := by omega
  have n2 : (0 : Int) < ((m + 1 : Nat) : Int) := by omega
  have n3 : ((m + 1 : Nat) : Int) ≤ cap := by omega
  have n4 : ¬ cap = 1 := by omega
  have e1 : m + 1 - 1 = m := by omega
  go_enter Try.func23, Try.ntmps23
  go_wp2_with fail
  go_loopw [5, 14] (fun h t wr => ∃ k y : Nat, k ≤ m ∧ t = .int .i64 k ∧ h = .float .f64 y ∧ Hid (∀ r, Horn q y (xs.drop (k + 1)) r → Horn q x0 (xs.drop 1) r) ∧ Below w.heap.size w wr) (fun _ t _ => m - (intOf t).toNat)
  case atStart => exact ⟨0, x0, Nat.zero_le _, rfl, rfl, fun r hr => hr, Below.refl _ _⟩
  case round =>
    obtain ⟨k, y, hk, rfl, rfl, HI, hb⟩ := hrel
    by_cases hlt : k < m
    · have hcx := HC.out _ hb (1 + k) (by omega)
      have HS : Hid (∀ p s, FN .mul y q p → FN .add p (xs[1 + k]?.getD 0) s → ∀ r, Horn q s (xs.drop (k + 1 + 1)) r → Horn q x0 (xs.drop 1) r) := fun p s h1 h2 r hr => HI.out r (by
        rw [drop_at xs (k + 1) (by have := HL.out; omega)]
        rw [Nat.add_comm 1 k] at h2
        exact ⟨p, s, h1, h2, hr⟩)
      generalize xs[1 + k]?.getD 0 = z at *
      clear HI
      have k0 : (k : Int) < (m : Int) := by omega
      go_wp2_with fail
      go_roundw
      case rel => exact ⟨k + 1, _, by omega, by go_num, rfl, HS.out _ _ (fval_fn .mul _ _ _) (fval_fn .add _ _ _), fwld_below _ _ _ (fwld_below _ _ _ hb)⟩
      case measure => simp [intOf]; omega
    · obtain rfl : k = m := by omega
      have HR := hid (HI.out y (by rw [List.drop_eq_nil_of_le (by have := HL.out; omega)]; rfl))
      clear HI
      go_wp2_with fail
      go_returns
      exact ⟨y, rfl, HR.out, hb⟩

end Go.Proofs.Ytfldddphfekiaaa

/- package turn: sine, cosine, the constants, of any float. -/
namespace Go.Proofs.Ytfldddphfekiaaa
open Go.RowKit
set_option linter.unusedVariables false

/-- The constants of the sine and of the cosine, by their bits. -/
def sinC : List Nat := [13648976655441704991, 4460272573143870729, 13716528800881525988, 4523617214285662004, 13774824197408792602, 4575957461383581969, 13818544856648471893]
def cosC : List Nat := [4407590220077447199, 13666517717442657437, 4477122120089393304, 13732177094651715420, 4537941361671905306, 13787419979223755799, 4586165620538955093, 13826050856027422720]
/-- The sine of y as the machine makes it. -/
def SineR (y r : Nat) : Prop := ∃ q h a b, FN .mul y y q ∧ Horn q 13648976655441704991 (sinC.drop 1) h ∧ FN .mul y q a ∧ FN .mul a h b ∧ FN .add y b r
def CosR (y r : Nat) : Prop := ∃ q h b, FN .mul y y q ∧ Horn q 4407590220077447199 (cosC.drop 1) h ∧ FN .mul q h b ∧ FN .add 4607182418800017408 b r
theorem SineR.al {y y' r r' : Nat} (h : SineR y r) (h' : SineR y' r') (a : Al y y') : Al r r' := by
  obtain ⟨q, g, u, v, h1, h2, h3, h4, h5⟩ := h
  obtain ⟨q', g', u', v', h1', h2', h3', h4', h5'⟩ := h'
  have aq := h1.al h1' a a
  exact h5.al h5' a (h4.al h4' (h3.al h3' a aq) (Horn.al aq (.refl _) h2 h2'))
theorem CosR.al {y y' r r' : Nat} (h : CosR y r) (h' : CosR y' r') (a : Al y y') : Al r r' := by
  obtain ⟨q, g, v, h1, h2, h4, h5⟩ := h
  obtain ⟨q', g', v', h1', h2', h4', h5'⟩ := h'
  have aq := h1.al h1' a a
  exact h5.al h5' (.refl _) (h4.al h4' aq (Horn.al aq (.refl _) h2 h2'))

/-- A float is one cell. -/
theorem store_flt (P : Program) (w : World) (a : Addr) (k : FloatKind) (x : Nat) (m : Mode) : (store a (.float k x) m).run P w = stored P w a (.float k x) m := run_store P w a _ m rfl
/-- A store into one cell of a box that is named. -/
theorem store_box (P : Program) {w : World} {b t : Nat} {vs : Array Value} (h : FBox w b t vs) (j : Nat) (hj : j < vs.size) (x : Nat) : ∃ w', (store ⟨b, j, none⟩ (.float .f64 x)).run P w = .ok () w' ∧ FBox w' b t (vs.setIfInBounds j (.float .f64 x)) ∧ ∀ B a, B ≤ b → Below B a w → Below B a w' := by
  refine ⟨w.setCell ⟨b, j, none⟩ (.float .f64 x), ?_, h.set j _, fun B a hB hb => hb.setCell (p := ⟨b, j, none⟩) hB _⟩
  have c : w.cell? ⟨b, j, none⟩ = some vs[j] := by rw [h.cell j]; simp [hj]
  have f := h.free j
  rw [store_flt]
  simp [go_sem, c, f]

set_option maxHeartbeats 1600000 in
set_option maxRecDepth 100000 in
theorem tsines_any (w : World) : Calls Try.prog 24 #[] w fun e w' => e = .returned (.agg #[.float .f64 13648976655441704991, .float .f64 4460272573143870729, .float .f64 13716528800881525988, .float .f64 4523617214285662004, .float .f64 13774824197408792602, .float .f64 4575957461383581969, .float .f64 13818544856648471893]) ∧ Below w.heap.size w w' := by
  have HX := hid (FBox.made w 53 #[.float .f64 0, .float .f64 0, .float .f64 0, .float .f64 0, .float .f64 0, .float .f64 0, .float .f64 0])
  have HB : Hid (Below w.heap.size w (w.alloc (.cells #[.float .f64 0, .float .f64 0, .float .f64 0, .float .f64 0, .float .f64 0, .float .f64 0, .float .f64 0] 53))) := (Below.refl _ _).alloc (Nat.le_refl _) _
  obtain ⟨X, hX⟩ : ∃ X, w.alloc (.cells #[.float .f64 0, .float .f64 0, .float .f64 0, .float .f64 0, .float .f64 0, .float .f64 0, .float .f64 0] 53) = X := ⟨_, rfl⟩
  rw [hX] at HX HB
  obtain ⟨X1, s1, h1, bl1⟩ := store_box Try.prog HX.out 0 (by simp) 13648976655441704991
  obtain ⟨X2, s2, h2, bl2⟩ := store_box Try.prog h1 1 (by simp) 4460272573143870729
  obtain ⟨X3, s3, h3, bl3⟩ := store_box Try.prog h2 2 (by simp) 13716528800881525988
  obtain ⟨X4, s4, h4, bl4⟩ := store_box Try.prog h3 3 (by simp) 4523617214285662004
  obtain ⟨X5, s5, h5, bl5⟩ := store_box Try.prog h4 4 (by simp) 13774824197408792602
  obtain ⟨X6, s6, h6, bl6⟩ := store_box Try.prog h5 5 (by simp) 4575957461383581969
  obtain ⟨X7, s7, h7, bl7⟩ := store_box Try.prog h6 6 (by simp) 13818544856648471893
  have g0 : X7.cell? ⟨w.heap.size, 0, none⟩ = some (.float .f64 13648976655441704991) := h7.cell 0
  have g1 : X7.cell? ⟨w.heap.size, 1, none⟩ = some (.float .f64 4460272573143870729) := h7.cell 1
  have g2 : X7.cell? ⟨w.heap.size, 2, none⟩ = some (.float .f64 13716528800881525988) := h7.cell 2
  have g3 : X7.cell? ⟨w.heap.size, 3, none⟩ = some (.float .f64 4523617214285662004) := h7.cell 3
  have g4 : X7.cell? ⟨w.heap.size, 4, none⟩ = some (.float .f64 13774824197408792602) := h7.cell 4
  have g5 : X7.cell? ⟨w.heap.size, 5, none⟩ = some (.float .f64 4575957461383581969) := h7.cell 5
  have g6 : X7.cell? ⟨w.heap.size, 6, none⟩ = some (.float .f64 13818544856648471893) := h7.cell 6
  have HB7 : Hid (Below w.heap.size w X7) := (bl7 _ _ (Nat.le_refl _) (bl6 _ _ (Nat.le_refl _) (bl5 _ _ (Nat.le_refl _) (bl4 _ _ (Nat.le_refl _) (bl3 _ _ (Nat.le_refl _) (bl2 _ _ (Nat.le_refl _) (bl1 _ _ (Nat.le_refl _) (HB.out))))))))
  clear bl1 h1 bl2 h2 bl3 h3 bl4 h4 bl5 h5 bl6 h6 bl7 h7
  go_enter Try.func24, Try.ntmps24
  go_wp2_with fail
  refine bodyPost_ret (v := .agg #[.float .f64 13648976655441704991, .float .f64 4460272573143870729, .float .f64 13716528800881525988, .float .f64 4523617214285662004, .float .f64 13774824197408792602, .float .f64 4575957461383581969, .float .f64 13818544856648471893]) (by simp [results, Try.results24, go_sem, g0, g1, g2, g3, g4, g5, g6]) rfl ?_
  exact ⟨rfl, HB7.out⟩

set_option maxHeartbeats 1600000 in
set_option maxRecDepth 100000 in
theorem tsine_any (y : Nat) (w : World) : Calls Try.prog 13 #[.float .f64 y] w fun e w' => ∃ r, e = .returned (.float .f64 r) ∧ SineR y r ∧ Below w.heap.size w w' := by
  have rA := fadd_run Try.prog 29
  have rM := fmul_run Try.prog 29
  have HB0 := hid (fwld_below .mul y y (Below.refl w.heap.size w))
  have HQ := hid (fval_fn .mul w y y)
  go_enter Try.func13, Try.ntmps13
  go_wp2_with fail
  generalize fval .mul w y y = q at *
  generalize fwld .mul w y y = w0 at *
  refine Calls.mono (tsines_any _) ?_
  rintro e w1 ⟨rfl, hb1⟩
  have HX := hid (FBox.made w1 53 #[.float .f64 0, .float .f64 0, .float .f64 0, .float .f64 0, .float .f64 0, .float .f64 0, .float .f64 0])
  have HB : Hid (Below w1.heap.size w1 (w1.alloc (.cells #[.float .f64 0, .float .f64 0, .float .f64 0, .float .f64 0, .float .f64 0, .float .f64 0, .float .f64 0] 53))) := (Below.refl _ _).alloc (Nat.le_refl _) _
  obtain ⟨X, hX⟩ : ∃ X, w1.alloc (.cells #[.float .f64 0, .float .f64 0, .float .f64 0, .float .f64 0, .float .f64 0, .float .f64 0, .float .f64 0] 53) = X := ⟨_, rfl⟩
  rw [hX] at HX HB
  obtain ⟨X1, s1, h1, bl1⟩ := store_box Try.prog HX.out 0 (by simp) 13648976655441704991
  obtain ⟨X2, s2, h2, bl2⟩ := store_box Try.prog h1 1 (by simp) 4460272573143870729
  obtain ⟨X3, s3, h3, bl3⟩ := store_box Try.prog h2 2 (by simp) 13716528800881525988
  obtain ⟨X4, s4, h4, bl4⟩ := store_box Try.prog h3 3 (by simp) 4523617214285662004
  obtain ⟨X5, s5, h5, bl5⟩ := store_box Try.prog h4 4 (by simp) 13774824197408792602
  obtain ⟨X6, s6, h6, bl6⟩ := store_box Try.prog h5 5 (by simp) 4575957461383581969
  obtain ⟨X7, s7, h7, bl7⟩ := store_box Try.prog h6 6 (by simp) 13818544856648471893
  have g0 : X7.cell? ⟨w1.heap.size, 0, none⟩ = some (.float .f64 13648976655441704991) := h7.cell 0
  have g1 : X7.cell? ⟨w1.heap.size, 1, none⟩ = some (.float .f64 4460272573143870729) := h7.cell 1
  have g2 : X7.cell? ⟨w1.heap.size, 2, none⟩ = some (.float .f64 13716528800881525988) := h7.cell 2
  have g3 : X7.cell? ⟨w1.heap.size, 3, none⟩ = some (.float .f64 4523617214285662004) := h7.cell 3
  have g4 : X7.cell? ⟨w1.heap.size, 4, none⟩ = some (.float .f64 13774824197408792602) := h7.cell 4
  have g5 : X7.cell? ⟨w1.heap.size, 5, none⟩ = some (.float .f64 4575957461383581969) := h7.cell 5
  have g6 : X7.cell? ⟨w1.heap.size, 6, none⟩ = some (.float .f64 13818544856648471893) := h7.cell 6
  have HB7 : Hid (Below w1.heap.size w1 X7) := (bl7 _ _ (Nat.le_refl _) (bl6 _ _ (Nat.le_refl _) (bl5 _ _ (Nat.le_refl _) (bl4 _ _ (Nat.le_refl _) (bl3 _ _ (Nat.le_refl _) (bl2 _ _ (Nat.le_refl _) (bl1 _ _ (Nat.le_refl _) (HB.out))))))))
  have HF := hid h7
  have HBA := hid (b2 HB0.out (b2 hb1 HB7.out))
  clear bl1 h1 bl2 h2 bl3 h3 bl4 h4 bl5 h5 bl6 h6 bl7 h7 hb1 HB HB0
  go_wp2_with fail
  refine Calls.mono (tnested_any q w1.heap.size 6 7 sinC X7 rfl (by omega) HF.out.lt (fun j hj => ?_) (by omega) (by omega) (by omega)) ?_
  · rw [HF.out.cell j]
    match j, hj with
    | 0, _ => rfl
    | 1, _ => rfl
    | 2, _ => rfl
    | 3, _ => rfl
    | 4, _ => rfl
    | 5, _ => rfl
    | 6, _ => rfl
    | j + 7, hj => omega
  rintro e w3 ⟨r, rfl, hr, hb3⟩
  have HR := hid hr
  have HBE := hid (b2 HBA.out hb3)
  clear hr hb3 s1 s2 s3 s4 s5 s6 s7 g0 g1 g2 g3 g4 g5 g6
  go_wp2_with fail
  go_returns
  have hr := HR.out
  refine ⟨_, rfl, ⟨_, _, _, _, HQ.out, hr, fval_fn .mul _ _ _, fval_fn .mul _ _ _, fval_fn .add _ _ _⟩, ?_⟩
  repeat refine fwld_below _ _ _ ?_
  exact HBE.out

set_option maxHeartbeats 1600000 in
set_option maxRecDepth 100000 in
theorem tcosines_any (w : World) : Calls Try.prog 22 #[] w fun e w' => e = .returned (.agg #[.float .f64 4407590220077447199, .float .f64 13666517717442657437, .float .f64 4477122120089393304, .float .f64 13732177094651715420, .float .f64 4537941361671905306, .float .f64 13787419979223755799, .float .f64 4586165620538955093, .float .f64 13826050856027422720]) ∧ Below w.heap.size w w' := by
  have HX := hid (FBox.made w 49 #[.float .f64 0, .float .f64 0, .float .f64 0, .float .f64 0, .float .f64 0, .float .f64 0, .float .f64 0, .float .f64 0])
  have HB : Hid (Below w.heap.size w (w.alloc (.cells #[.float .f64 0, .float .f64 0, .float .f64 0, .float .f64 0, .float .f64 0, .float .f64 0, .float .f64 0, .float .f64 0] 49))) := (Below.refl _ _).alloc (Nat.le_refl _) _
  obtain ⟨X, hX⟩ : ∃ X, w.alloc (.cells #[.float .f64 0, .float .f64 0, .float .f64 0, .float .f64 0, .float .f64 0, .float .f64 0, .float .f64 0, .float .f64 0] 49) = X := ⟨_, rfl⟩
  rw [hX] at HX HB
  obtain ⟨X1, s1, h1, bl1⟩ := store_box Try.prog HX.out 0 (by simp) 4407590220077447199
  obtain ⟨X2, s2, h2, bl2⟩ := store_box Try.prog h1 1 (by simp) 13666517717442657437
  obtain ⟨X3, s3, h3, bl3⟩ := store_box Try.prog h2 2 (by simp) 4477122120089393304
  obtain ⟨X4, s4, h4, bl4⟩ := store_box Try.prog h3 3 (by simp) 13732177094651715420
  obtain ⟨X5, s5, h5, bl5⟩ := store_box Try.prog h4 4 (by simp) 4537941361671905306
  obtain ⟨X6, s6, h6, bl6⟩ := store_box Try.prog h5 5 (by simp) 13787419979223755799
  obtain ⟨X7, s7, h7, bl7⟩ := store_box Try.prog h6 6 (by simp) 4586165620538955093
  obtain ⟨X8, s8, h8, bl8⟩ := store_box Try.prog h7 7 (by simp) 13826050856027422720
  have g0 : X8.cell? ⟨w.heap.size, 0, none⟩ = some (.float .f64 4407590220077447199) := h8.cell 0
  have g1 : X8.cell? ⟨w.heap.size, 1, none⟩ = some (.float .f64 13666517717442657437) := h8.cell 1
  have g2 : X8.cell? ⟨w.heap.size, 2, none⟩ = some (.float .f64 4477122120089393304) := h8.cell 2
  have g3 : X8.cell? ⟨w.heap.size, 3, none⟩ = some (.float .f64 13732177094651715420) := h8.cell 3
  have g4 : X8.cell? ⟨w.heap.size, 4, none⟩ = some (.float .f64 4537941361671905306) := h8.cell 4
  have g5 : X8.cell? ⟨w.heap.size, 5, none⟩ = some (.float .f64 13787419979223755799) := h8.cell 5
  have g6 : X8.cell? ⟨w.heap.size, 6, none⟩ = some (.float .f64 4586165620538955093) := h8.cell 6
  have g7 : X8.cell? ⟨w.heap.size, 7, none⟩ = some (.float .f64 13826050856027422720) := h8.cell 7
  have HB7 : Hid (Below w.heap.size w X8) := (bl8 _ _ (Nat.le_refl _) (bl7 _ _ (Nat.le_refl _) (bl6 _ _ (Nat.le_refl _) (bl5 _ _ (Nat.le_refl _) (bl4 _ _ (Nat.le_refl _) (bl3 _ _ (Nat.le_refl _) (bl2 _ _ (Nat.le_refl _) (bl1 _ _ (Nat.le_refl _) (HB.out)))))))))
  clear bl1 h1 bl2 h2 bl3 h3 bl4 h4 bl5 h5 bl6 h6 bl7 h7 bl8 h8
  go_enter Try.func22, Try.ntmps22
  go_wp2_with fail
  refine bodyPost_ret (v := .agg #[.float .f64 4407590220077447199, .float .f64 13666517717442657437, .float .f64 4477122120089393304, .float .f64 13732177094651715420, .float .f64 4537941361671905306, .float .f64 13787419979223755799, .float .f64 4586165620538955093, .float .f64 13826050856027422720]) (by simp [results, Try.results22, go_sem, g0, g1, g2, g3, g4, g5, g6, g7]) rfl ?_
  exact ⟨rfl, HB7.out⟩

set_option maxHeartbeats 1600000 in
set_option maxRecDepth 100000 in
theorem tcosine_any (y : Nat) (w : World) : Calls Try.prog 12 #[.float .f64 y] w fun e w' => ∃ r, e = .returned (.float .f64 r) ∧ CosR y r ∧ Below w.heap.size w w' := by
  have rA := fadd_run Try.prog 29
  have rM := fmul_run Try.prog 29
  have HB0 := hid (fwld_below .mul y y (Below.refl w.heap.size w))
  have HQ := hid (fval_fn .mul w y y)
  go_enter Try.func12, Try.ntmps12
  go_wp2_with fail
  generalize fval .mul w y y = q at *
  generalize fwld .mul w y y = w0 at *
  refine Calls.mono (tcosines_any _) ?_
  rintro e w1 ⟨rfl, hb1⟩
  have HX := hid (FBox.made w1 49 #[.float .f64 0, .float .f64 0, .float .f64 0, .float .f64 0, .float .f64 0, .float .f64 0, .float .f64 0, .float .f64 0])
  have HB : Hid (Below w1.heap.size w1 (w1.alloc (.cells #[.float .f64 0, .float .f64 0, .float .f64 0, .float .f64 0, .float .f64 0, .float .f64 0, .float .f64 0, .float .f64 0] 49))) := (Below.refl _ _).alloc (Nat.le_refl _) _
  obtain ⟨X, hX⟩ : ∃ X, w1.alloc (.cells #[.float .f64 0, .float .f64 0, .float .f64 0, .float .f64 0, .float .f64 0, .float .f64 0, .float .f64 0, .float .f64 0] 49) = X := ⟨_, rfl⟩
  rw [hX] at HX HB
  obtain ⟨X1, s1, h1, bl1⟩ := store_box Try.prog HX.out 0 (by simp) 4407590220077447199
  obtain ⟨X2, s2, h2, bl2⟩ := store_box Try.prog h1 1 (by simp) 13666517717442657437
  obtain ⟨X3, s3, h3, bl3⟩ := store_box Try.prog h2 2 (by simp) 4477122120089393304
  obtain ⟨X4, s4, h4, bl4⟩ := store_box Try.prog h3 3 (by simp) 13732177094651715420
  obtain ⟨X5, s5, h5, bl5⟩ := store_box Try.prog h4 4 (by simp) 4537941361671905306
  obtain ⟨X6, s6, h6, bl6⟩ := store_box Try.prog h5 5 (by simp) 13787419979223755799
  obtain ⟨X7, s7, h7, bl7⟩ := store_box Try.prog h6 6 (by simp) 4586165620538955093
  obtain ⟨X8, s8, h8, bl8⟩ := store_box Try.prog h7 7 (by simp) 13826050856027422720
  have g0 : X8.cell? ⟨w1.heap.size, 0, none⟩ = some (.float .f64 4407590220077447199) := h8.cell 0
  have g1 : X8.cell? ⟨w1.heap.size, 1, none⟩ = some (.float .f64 13666517717442657437) := h8.cell 1
  have g2 : X8.cell? ⟨w1.heap.size, 2, none⟩ = some (.float .f64 4477122120089393304) := h8.cell 2
  have g3 : X8.cell? ⟨w1.heap.size, 3, none⟩ = some (.float .f64 13732177094651715420) := h8.cell 3
  have g4 : X8.cell? ⟨w1.heap.size, 4, none⟩ = some (.float .f64 4537941361671905306) := h8.cell 4
  have g5 : X8.cell? ⟨w1.heap.size, 5, none⟩ = some (.float .f64 13787419979223755799) := h8.cell 5
  have g6 : X8.cell? ⟨w1.heap.size, 6, none⟩ = some (.float .f64 4586165620538955093) := h8.cell 6
  have g7 : X8.cell? ⟨w1.heap.size, 7, none⟩ = some (.float .f64 13826050856027422720) := h8.cell 7
  have HB7 : Hid (Below w1.heap.size w1 X8) := (bl8 _ _ (Nat.le_refl _) (bl7 _ _ (Nat.le_refl _) (bl6 _ _ (Nat.le_refl _) (bl5 _ _ (Nat.le_refl _) (bl4 _ _ (Nat.le_refl _) (bl3 _ _ (Nat.le_refl _) (bl2 _ _ (Nat.le_refl _) (bl1 _ _ (Nat.le_refl _) (HB.out)))))))))
  have HF := hid h8
  have HBA := hid (b2 HB0.out (b2 hb1 HB7.out))
  clear bl1 h1 bl2 h2 bl3 h3 bl4 h4 bl5 h5 bl6 h6 bl7 h7 bl8 h8 hb1 HB HB0
  go_wp2_with fail
  refine Calls.mono (tnested_any q w1.heap.size 7 8 cosC X8 rfl (by omega) HF.out.lt (fun j hj => ?_) (by omega) (by omega) (by omega)) ?_
  · rw [HF.out.cell j]
    match j, hj with
    | 0, _ => rfl
    | 1, _ => rfl
    | 2, _ => rfl
    | 3, _ => rfl
    | 4, _ => rfl
    | 5, _ => rfl
    | 6, _ => rfl
    | 7, _ => rfl
    | j + 8, hj => omega
  rintro e w3 ⟨r, rfl, hr, hb3⟩
  have HR := hid hr
  have HBE := hid (b2 HBA.out hb3)
  clear hr hb3 s1 s2 s3 s4 s5 s6 s7 s8 g0 g1 g2 g3 g4 g5 g6 g7
  go_wp2_with fail
  go_returns
  have hr := HR.out
  refine ⟨_, rfl, ⟨_, _, _, HQ.out, hr, fval_fn .mul _ _ _, fval_fn .add _ _ _⟩, ?_⟩
  repeat refine fwld_below _ _ _ ?_
  exact HBE.out
end Go.Proofs.Ytfldddphfekiaaa

/- Turns as fractions: their sizes are rational numbers, whole turns left out. Nothing here speaks of the program. -/
namespace Go.Proofs.Ytfldddphfekiaaa
open Go.RowKit

/-- A fraction that may be a turn. -/
def okT (p q : Nat) : Prop := 1 ≤ q ∧ q ≤ 4294967296 ∧ p < q ∧ Nat.gcd p q = 1

/-- The turn's size. -/
def vT (p q : Nat) : Rat := mkRat p q

theorem mkRat_nd (p q : Nat) (hq : 0 < q) : (mkRat p q).num = ((p / Nat.gcd p q : Nat) : Int) ∧ (mkRat p q).den = q / Nat.gcd p q := by
  have hq' : q ≠ 0 := by omega
  rw [← Rat.normalize_eq_mkRat hq', Rat.normalize_eq hq']
  simp [Int.natAbs_natCast]

theorem vT_low (p q : Nat) (hq : 0 < q) : vT (p / Nat.gcd p q) (q / Nat.gcd p q) = vT p q := by
  have h := mkRat_nd p q hq
  unfold vT
  rw [← h.1, ← h.2, Rat.mkRat_self]

theorem vT_inj {p q r s : Nat} (h : okT p q) (g : okT r s) (e : vT p q = vT r s) : p = r ∧ q = s := by
  have a := mkRat_nd p q (by have := h.1; omega)
  have b := mkRat_nd r s (by have := g.1; omega)
  have e' : mkRat p q = mkRat r s := e
  rw [h.2.2.2, Nat.div_one, Nat.div_one] at a
  rw [g.2.2.2, Nat.div_one, Nat.div_one] at b
  rw [e', b.1, b.2] at a
  omega

def frac (x : Rat) : Rat := x - x.floor

theorem frac_add_int (x : Rat) (k : Int) : frac (x + k) = frac x := by
  unfold frac
  rw [Rat.floor_add_intCast, Rat.intCast_add]
  grind

theorem frac_unique {x y : Rat} (k : Int) (h : x = y + k) (h0 : 0 ≤ y) (h1 : y < 1) : frac x = y := by
  rw [h, frac_add_int]
  unfold frac
  have : y.floor = 0 := by
    have a : y.floor < 1 := Rat.floor_lt_iff.2 (by simpa using h1)
    have b : 0 ≤ y.floor := Rat.le_floor_iff.2 (by simpa using h0)
    omega
  rw [this]; simp; grind

end Go.Proofs.Ytfldddphfekiaaa

/- package turn: common, within, round, of every two numbers. -/
namespace Go.Proofs.Ytfldddphfekiaaa
open Go.RowKit
set_option linter.unusedVariables false

set_option maxHeartbeats 800000 in
set_option maxRecDepth 100000 in
theorem tcommon_any (a b : Nat) (w : World) (ha : a < 18446744073709551616) (hb : b < 18446744073709551616) :
    Calls Try.prog 21 #[.int .u64 (a : Int), .int .u64 (b : Int)] w fun e w' => e = .returned (.int .u64 (Nat.gcd a b : Nat)) ∧ Below w.heap.size w w' := by
  go_enter Try.func21, Try.ntmps21
  go_wp2_with fail
  go_loopw [0, 1] (fun x y wr => ∃ c d : Nat, x = .int .u64 (c : Int) ∧ y = .int .u64 (d : Int) ∧ c < 18446744073709551616 ∧ d < 18446744073709551616 ∧ Hid (Nat.gcd c d = Nat.gcd a b) ∧ Below w.heap.size w wr) (fun _ y _ => (intOf y).toNat)
  case atStart => exact ⟨a, b, rfl, rfl, ha, hb, (rfl : Nat.gcd a b = Nat.gcd a b), Below.refl _ _⟩
  case round =>
    obtain ⟨c, d, rfl, rfl, hc, hd, hg, hX⟩ := hrel
    by_cases h0 : d = 0
    · subst h0
      have HG : Hid (c = Nat.gcd a b) := by have := hg.out; rw [Nat.gcd_zero_right] at this; exact this
      clear hg
      go_wp2_with fail
      go_ret
      exact ⟨ret_int (by rw [HG.out]), hX⟩
    · have hm : c % d < d := Nat.mod_lt _ (by omega)
      have HG : Hid (Nat.gcd d (c % d) = Nat.gcd a b) := by show _ = _; rw [← hg.out, Nat.gcd_comm c d, Nat.gcd_rec d c, Nat.gcd_comm]
      have h0' : (d : Int) ≠ 0 := by omega
      clear hg
      go_wp2_with fail
      go_region
      all_goals
        go_wp2_with fail
        go_roundw
        case rel => exact ⟨d, c % d, rfl, by go_num, by omega, by omega, HG, hX.drew⟩
        case measure => simp [intOf]; omega

theorem tcommonI (p q : Int) (w : World) (p0 : 0 ≤ p) (p1 : p < 18446744073709551616) (q0 : 0 ≤ q) (q1 : q < 18446744073709551616) :
    Calls Try.prog 21 #[.int .u64 p, .int .u64 q] w fun e w' => e = .returned (.int .u64 (Nat.gcd p.toNat q.toNat : Nat)) ∧ Below w.heap.size w w' := by
  obtain ⟨a, rfl⟩ := Int.eq_ofNat_of_zero_le p0
  obtain ⟨b, rfl⟩ := Int.eq_ofNat_of_zero_le q0
  exact tcommon_any a b w (by omega) (by omega)

set_option maxHeartbeats 800000 in
set_option maxRecDepth 100000 in
theorem twithin_any (p : Int) (q : Nat) (w : World) (h0 : -9223372036854775808 ≤ p) (h1 : p ≤ 9223372036854775807) (hq : 0 < q) (hq' : q ≤ 4294967296) :
    Calls Try.prog 20 #[.int .i64 p, .int .i64 (q : Int)] w fun e w' => e = .returned (.int .i64 (p % (q : Int))) ∧ w' = w := by
  have a := Int.emod_nonneg p (show (q : Int) ≠ 0 by omega)
  have b := Int.emod_lt_of_pos p (show (0 : Int) < q by omega)
  have b1 : Int.tmod p q = p % q ∨ (Int.tmod p q = p % q - q) := by
    rw [Int.tmod_eq_emod]
    split
    · left; omega
    · right; simp
  have b2 : 0 ≤ p → Int.tmod p q = p % q := fun h => by rw [Int.tmod_eq_emod, if_pos (.inl h)]; omega
  go_enter Try.func20, Try.ntmps20
  go_wp2_with fail
  all_goals
    go_ret
    exact ⟨ret_int (by omega), rfl⟩

theorem tround_any (x y v : Nat) (w : World) (hx : x < v) (hy : y < v) (hv : v < 18446744073709551616) :
    Calls Try.prog 30 #[.int .u64 (x : Int), .int .u64 (y : Int), .int .u64 (v : Int)] w fun e w' => e = .returned (.int .u64 (((x + y) % v : Nat) : Int)) ∧ w' = w := by
  by_cases h : v ≤ x + y
  · have e : (x + y) % v = x + y - v := by rw [Nat.mod_eq_sub_mod h, Nat.mod_eq_of_lt (by omega)]
    rw [e]
    go_enter Try.func30, Try.ntmps30
    go_wp2_with fail
    go_ret
    exact ⟨by go_num, rfl⟩
  · have e : (x + y) % v = x + y := Nat.mod_eq_of_lt (by omega)
    rw [e]
    go_enter Try.func30, Try.ntmps30
    go_wp2_with fail
    go_ret
    exact ⟨by go_num, rfl⟩
end Go.Proofs.Ytfldddphfekiaaa

/- package turn: Check, both, back, lowest, of every two numbers. -/
namespace Go.Proofs.Ytfldddphfekiaaa
open Go.RowKit
set_option linter.unusedVariables false

/-- What a call tells that tells a turn. -/
def tT (p q e : Int) : Value := .tuple #[.agg #[.int .i64 p, .int .i64 q], .int .i64 e]
/-- Part over Whole in lowest terms, or refused. -/
def lowR (p q : Nat) : Int × Int × Int := if q / Nat.gcd p q ≤ 4294967296 then (((p / Nat.gcd p q : Nat) : Int), ((q / Nat.gcd p q : Nat) : Int), 0) else (0, 0, 3)
def tV (x : Int × Int × Int) : Value := tT x.1 x.2.1 x.2.2
def lowV (p q : Nat) : Value := tV (lowR p q)
/-- A turn that may be. -/
def okI (p q : Int) : Prop := 1 ≤ q ∧ q ≤ 4294967296 ∧ 0 ≤ p ∧ p < q ∧ Nat.gcd p.toNat q.toNat = 1
instance (p q : Int) : Decidable (okI p q) := by unfold okI; infer_instance
def chk (p q : Int) : Int := if okI p q then 0 else 180

theorem tw64 (n : Nat) (h : n < 18446744073709551616) : IntKind.u64.wrap (n : Int) = (n : Int) := by rw [IntKind.wrap_u64]; omega

set_option maxHeartbeats 800000 in
set_option maxRecDepth 100000 in
theorem tlowest_any (p q : Nat) (w : World) (hp : p < q) (hq : q < 18446744073709551616) :
    Calls Try.prog 19 #[.int .u64 (p : Int), .int .u64 (q : Int)] w fun e w' => e = .returned (lowV p q) ∧ Below w.heap.size w w' := by
  have HBX : Hid (Below w.heap.size w (w.alloc (.cells #[.int .i64 0, .int .i64 0] 23))) := (Below.refl _ _).alloc (Nat.le_refl _) _
  have HX := hid (FBox.made w 23 #[.int .i64 0, .int .i64 0])
  have HC := hid (fun V => tcommon_any p q V (by omega) hq)
  have hd : 0 < Nat.gcd p q := Nat.gcd_pos_of_pos_right _ (by omega)
  have h1 : p / Nat.gcd p q ≤ p := Nat.div_le_self _ _
  have h2 : q / Nat.gcd p q ≤ q := Nat.div_le_self _ _
  have h3 : p / Nat.gcd p q < q / Nat.gcd p q := Nat.div_lt_div_of_lt_of_dvd (Nat.gcd_dvd_right p q) hp
  obtain ⟨d, hD⟩ : ∃ d, Nat.gcd p q = d := ⟨_, rfl⟩
  have HV1 : Hid (q / d ≤ 4294967296 → lowV p q = tT ((p / d : Nat) : Int) ((q / d : Nat) : Int) 0) := fun h => by unfold lowV lowR; rw [hD, if_pos h]; rfl
  have HV2 : Hid (¬ q / d ≤ 4294967296 → lowV p q = tT 0 0 3) := fun h => by unfold lowV lowR; rw [hD, if_neg h]; rfl
  rw [hD] at HC hd h1 h2 h3
  clear hD
  have x1 : IntKind.u64.wrap ((p : Int) / (d : Int)) = ((p / d : Nat) : Int) := by
    rw [show ((p : Int) / (d : Int)) = ((p / d : Nat) : Int) from rfl]; exact tw64 _ (by omega)
  have x2 : IntKind.u64.wrap ((q : Int) / (d : Int)) = ((q / d : Nat) : Int) := by
    rw [show ((q : Int) / (d : Int)) = ((q / d : Nat) : Int) from rfl]; exact tw64 _ (by omega)
  generalize p / d = P at *
  generalize q / d = Q at *
  have hd' : (d : Int) ≠ 0 := by omega
  go_enter Try.func19, Try.ntmps19
  go_wp2_with fail
  generalize w.alloc (.cells #[.int .i64 0, .int .i64 0] 23) = X at *
  refine Calls.mono (HC.out X) ?_
  rintro e w1 ⟨rfl, hb1⟩
  obtain ⟨r0, r1, f0, f1⟩ := fbox_facts HX.out hb1
  have HB := hid (b2 HBX.out hb1)
  clear hb1
  go_wp2_with fail
  by_cases h4 : Q ≤ 4294967296
  · have HR := hid (HV1.out h4)
    clear HV1 HV2 HC HX HBX
    go_region
    all_goals
      go_wp2_with fail
      refine bodyPost_ret (v := tT (P : Int) (Q : Int) 0) (by simp [results, Try.results19, go_sem, r0, r1, tT]) rfl ?_
      exact ⟨by rw [HR.out], by first | exact fput2 HB.out.drew _ (Nat.le_refl _) _ _ | exact (fput2 HB.out _ (Nat.le_refl _) _ _).drew⟩
  · have HR := hid (HV2.out h4)
    clear HV1 HV2 HC HX HBX
    go_region
    all_goals
      go_wp2_with fail
      refine bodyPost_ret (v := tT 0 0 3) (by simp [results, Try.results19, go_sem, r0, r1, tT]) rfl ?_
      exact ⟨by rw [HR.out], by first | exact fput2 HB.out.drew _ (Nat.le_refl _) _ _ | exact (fput2 HB.out _ (Nat.le_refl _) _ _).drew⟩

set_option maxHeartbeats 800000 in
set_option maxRecDepth 100000 in
theorem tcheck_any (p q : Int) (w : World) (p0 : -9223372036854775808 ≤ p) (p1 : p ≤ 9223372036854775807) (q0 : -9223372036854775808 ≤ q) (q1 : q ≤ 9223372036854775807) :
    Calls Try.prog 10 #[.agg #[.int .i64 p, .int .i64 q]] w fun e w' => e = .returned (.int .i64 (chk p q)) ∧ Below w.heap.size w w' := by
  have hb0 : Below w.heap.size w (w.alloc (.cells #[.int .i64 p, .int .i64 q] 23)) := (Below.refl _ _).alloc (Nat.le_refl _) _
  have HN : Hid (¬ (1 ≤ q ∧ q ≤ 4294967296 ∧ 0 ≤ p ∧ p < q) → chk p q = 180) := fun h => by unfold chk; rw [if_neg]; unfold okI; omega
  have HY : Hid (1 ≤ q ∧ q ≤ 4294967296 ∧ 0 ≤ p ∧ p < q → (Nat.gcd p.toNat q.toNat : Nat) = 1 → chk p q = 0) := fun h g => by unfold chk; rw [if_pos]; unfold okI; omega
  have HY' : Hid (¬ (Nat.gcd p.toNat q.toNat : Nat) = 1 → chk p q = 180) := fun g => by unfold chk; rw [if_neg]; unfold okI; omega
  have HC : Hid (∀ V : World, 0 ≤ p → p < q → q ≤ 4294967296 → Calls Try.prog 21 #[.int .u64 p, .int .u64 q] V fun e w' => e = .returned (.int .u64 (Nat.gcd p.toNat q.toNat : Nat)) ∧ Below V.heap.size V w') := fun V h1 h2 h3 => tcommonI p q V h1 (by omega) (by omega) (by omega)
  obtain ⟨d, hD⟩ : ∃ d, Nat.gcd p.toNat q.toNat = d := ⟨_, rfl⟩
  rw [hD] at HY HY' HC
  clear hD
  go_enter Try.func10, Try.ntmps10
  go_wp2_with fail
  all_goals try (go_ret; exact ⟨ret_int (HN.out (by omega)).symm, hb0⟩)
  refine Calls.mono (HC.out _ (by omega) (by omega) (by omega)) ?_
  rintro e w1 ⟨rfl, hb1⟩
  by_cases h1 : d = 1
  · subst h1
    go_wp2_with fail
    go_ret
    exact ⟨ret_int (HY.out (by omega) (by trivial)).symm, b2 hb0 hb1⟩
  · have h1' : ¬ (d : Int) = 1 := by omega
    go_wp2_with fail
    go_ret
    exact ⟨ret_int (HY'.out h1).symm, b2 hb0 hb1⟩

theorem chk_or (p q : Int) : chk p q = 0 ∧ okI p q ∨ chk p q = 180 ∧ ¬ okI p q := by
  unfold chk
  by_cases h : okI p q
  · rw [if_pos h]; exact .inl ⟨rfl, h⟩
  · rw [if_neg h]; exact .inr ⟨rfl, h⟩
/-- The first one's fault, else the second one's. -/
def chk2 (p q r s : Int) : Int := if okI p q then chk r s else 180
theorem chk2_or (p q r s : Int) : chk2 p q r s = 0 ∧ okI p q ∧ okI r s ∨ chk2 p q r s = 180 ∧ ¬ (okI p q ∧ okI r s) := by
  unfold chk2
  by_cases h : okI p q
  · rw [if_pos h]
    rcases chk_or r s with ⟨g, k⟩ | ⟨g, k⟩
    · exact .inl ⟨g, h, k⟩
    · exact .inr ⟨g, fun x => k x.2⟩
  · rw [if_neg h]; exact .inr ⟨rfl, fun x => h x.1⟩
def in64 (p q : Int) : Prop := (-9223372036854775808 ≤ p ∧ p ≤ 9223372036854775807) ∧ (-9223372036854775808 ≤ q ∧ q ≤ 9223372036854775807)

theorem boxes1 (w : World) (t : Nat) (u : Array Value) : FBox (w.alloc (.cells u t)) w.heap.size t u ∧ Below w.heap.size w (w.alloc (.cells u t)) :=
  ⟨FBox.made _ _ _, (Below.refl _ _).alloc (Nat.le_refl _) _⟩
theorem boxes2 (w : World) (t : Nat) (u v : Array Value) : FBox ((w.alloc (.cells u t)).alloc (.cells v t)) w.heap.size t u ∧ FBox ((w.alloc (.cells u t)).alloc (.cells v t)) (w.heap.size + 1) t v ∧ Below w.heap.size w ((w.alloc (.cells u t)).alloc (.cells v t)) := by
  have a := boxes1 w t u
  have b := boxes1 (w.alloc (.cells u t)) t v
  have es : (w.alloc (.cells u t)).heap.size = w.heap.size + 1 := World.size_alloc _ _
  exact ⟨a.1.later b.2 a.1.lt, es ▸ b.1, b2 a.2 b.2⟩
theorem boxes3 (w : World) (t : Nat) (u v z : Array Value) : FBox (((w.alloc (.cells u t)).alloc (.cells v t)).alloc (.cells z t)) w.heap.size t u ∧ FBox (((w.alloc (.cells u t)).alloc (.cells v t)).alloc (.cells z t)) (w.heap.size + 1) t v ∧ FBox (((w.alloc (.cells u t)).alloc (.cells v t)).alloc (.cells z t)) (w.heap.size + 1 + 1) t z ∧ Below w.heap.size w (((w.alloc (.cells u t)).alloc (.cells v t)).alloc (.cells z t)) := by
  have a := boxes2 w t u v
  have b := boxes1 ((w.alloc (.cells u t)).alloc (.cells v t)) t z
  have es : ((w.alloc (.cells u t)).alloc (.cells v t)).heap.size = w.heap.size + 1 + 1 := by rw [World.size_alloc, World.size_alloc]
  exact ⟨a.1.later b.2 a.1.lt, a.2.1.later b.2 a.2.1.lt, es ▸ b.1, b2 a.2.2 b.2⟩

set_option maxHeartbeats 800000 in
set_option maxRecDepth 100000 in
theorem tboth_any (p q r s : Int) (w : World) (h : in64 p q) (g : in64 r s) :
    Calls Try.prog 28 #[.agg #[.int .i64 p, .int .i64 q], .agg #[.int .i64 r, .int .i64 s]] w fun e w' => e = .returned (.int .i64 (chk2 p q r s)) ∧ Below w.heap.size w w' := by
  have H1 := hid (fun V => tcheck_any p q V h.1.1 h.1.2 h.2.1 h.2.2)
  have H2 := hid (fun V => tcheck_any r s V g.1.1 g.1.2 g.2.1 g.2.2)
  have HX := hid (boxes2 w 23 #[.int .i64 p, .int .i64 q] #[.int .i64 r, .int .i64 s])
  have HC := hid (chk_or p q)
  have HC2 : Hid (okI p q → chk2 p q r s = chk r s) := fun h => by unfold chk2; rw [if_pos h]
  have HC3 : Hid (¬ okI p q → chk2 p q r s = 180) := fun h => by unfold chk2; rw [if_neg h]
  clear h g
  go_enter Try.func28, Try.ntmps28
  go_wp2_with fail
  generalize (w.alloc (.cells #[.int .i64 p, .int .i64 q] 23)).alloc (.cells #[.int .i64 r, .int .i64 s] 23) = X at *
  refine Calls.mono (H1.out _) ?_
  rintro e w1 ⟨rfl, hb1⟩
  obtain ⟨c0, c1, f0, f1⟩ := fbox_facts HX.out.2.1 hb1
  have HB := hid (b2 HX.out.2.2 hb1)
  clear HX hb1
  rcases HC.out with ⟨e, ho⟩ | ⟨e, ho⟩
  · rw [e]
    have HR := hid (HC2.out ho)
    clear HC HC2 HC3 e ho
    go_wp2_with fail
    refine Calls.mono (H2.out _) ?_
    rintro e w2 ⟨rfl, hb2⟩
    have HB := hid (b2 HB.out hb2)
    clear hb2
    go_wp2_with fail
    go_ret
    exact ⟨ret_int HR.out.symm, HB.out⟩
  · rw [e]
    have HR := hid (HC3.out ho)
    clear HC HC2 HC3 e ho
    go_wp2_with fail
    go_ret
    exact ⟨ret_int HR.out.symm, HB.out⟩
end Go.Proofs.Ytfldddphfekiaaa

/- package turn: back, sum, Add, Sub, Neg, Times, Of: of every turn, every two numbers. -/
namespace Go.Proofs.Ytfldddphfekiaaa
open Go.RowKit
set_option linter.unusedVariables false

set_option maxHeartbeats 800000 in
set_option maxRecDepth 100000 in
theorem tback_any (p q : Int) (w : World) (h0 : 0 ≤ p) (h1 : p < q) (h2 : q ≤ 4294967296) :
    Calls Try.prog 18 #[.agg #[.int .i64 p, .int .i64 q]] w fun e w' => e = .returned (.agg #[.int .i64 ((-p) % q), .int .i64 q]) ∧ Below w.heap.size w w' := by
  by_cases h : p = 0
  · subst h
    have HR : Hid ((-0 : Int) % q = 0) := by show _ = _; simp
    go_enter Try.func18, Try.ntmps18
    go_wp2_with fail
    refine bodyPost_ret (v := .agg #[.int .i64 0, .int .i64 q]) (by simp [results, Try.results18, go_sem]) rfl ?_
    exact ⟨by rw [HR.out], (boxes2 _ _ _ _).2.2⟩
  · have HR : Hid ((-p) % q = q - p) := by
      show _ = _
      rw [← Int.add_emod_right, Int.emod_eq_of_lt (by omega) (by omega)]; omega
    go_enter Try.func18, Try.ntmps18
    go_wp2_with fail
    refine bodyPost_ret (v := .agg #[.int .i64 (q - p), .int .i64 q]) (by simp [results, Try.results18, go_sem]) rfl ?_
    exact ⟨by rw [HR.out], (boxes2 _ _ _ _).2.2⟩

/-- The sum of two turns. -/
def sumR (p q r s : Nat) : Int × Int × Int := lowR ((p * (s / Nat.gcd q s) + r * (q / Nat.gcd q s)) % (q / Nat.gcd q s * s)) (q / Nat.gcd q s * s)

theorem sum_lt {q s : Nat} (hq : 0 < q) (hs : 0 < s) (hq' : q ≤ 4294967296) (hs' : s ≤ 4294967296) : q / Nat.gcd q s * s < 18446744073709551616 ∧ q / Nat.gcd q s * s = q * (s / Nat.gcd q s) ∧ 0 < q / Nat.gcd q s * s := by
  have hd : 0 < Nat.gcd q s := Nat.gcd_pos_of_pos_right _ hs
  obtain ⟨a, ha⟩ := Nat.gcd_dvd_left q s
  obtain ⟨b, hb⟩ := Nat.gcd_dvd_right q s
  have e1 : q / Nat.gcd q s = a := Nat.div_eq_of_eq_mul_right hd ha
  have e2 : s / Nat.gcd q s = b := Nat.div_eq_of_eq_mul_right hd hb
  rw [e1, e2]
  have e3 : a * s = q * b := by rw [hb.trans rfl, show q * b = Nat.gcd q s * a * b by rw [← ha]]; rw [← Nat.mul_assoc, Nat.mul_comm a]
  have a0 : 0 < a := by
    rcases Nat.eq_zero_or_pos a with h | h
    · rw [h] at ha; omega
    · exact h
  refine ⟨?_, e3, Nat.mul_pos a0 hs⟩
  by_cases hqs : q = s
  · subst hqs
    rw [Nat.gcd_self] at ha
    have : a = 1 := Nat.eq_of_mul_eq_mul_left hq (by omega)
    rw [this]; omega
  · have h1 : a ≤ q := by rw [ha]; exact Nat.le_mul_of_pos_left _ hd
    have h2 : a * s ≤ q * s := Nat.mul_le_mul_right _ h1
    have h3 : q * s < 18446744073709551616 := by
      rcases Nat.lt_or_gt_of_ne hqs with h | h
      · have : q * s ≤ 4294967295 * 4294967296 := Nat.mul_le_mul (by omega) hs'
        omega
      · have : q * s ≤ 4294967296 * 4294967295 := Nat.mul_le_mul hq' (by omega)
        omega
    omega

theorem bdrewN {B : Nat} {a w : World} (h : Below B a w) (n : Nat) : Below B a (w.drewN n) := by
  induction n with
  | zero => exact h
  | succ n ih => exact ih.drew

set_option maxHeartbeats 1600000 in
set_option maxRecDepth 100000 in
theorem tsum_any (p q r s : Nat) (w : World) (hp : p < q) (hr : r < s) (hq : q ≤ 4294967296) (hs : s ≤ 4294967296) :
    Calls Try.prog 29 #[.agg #[.int .i64 (p : Int), .int .i64 (q : Int)], .agg #[.int .i64 (r : Int), .int .i64 (s : Int)]] w fun e w' => e = .returned (tV (sumR p q r s)) ∧ Below w.heap.size w w' := by
  have HX := hid (boxes3 w 23 #[.int .i64 (p : Int), .int .i64 (q : Int)] #[.int .i64 (r : Int), .int .i64 (s : Int)] #[.int .i64 0, .int .i64 0])
  obtain ⟨l1, l2, l3⟩ := sum_lt (q := q) (s := s) (by omega) (by omega) hq hs
  have HC := hid (fun V => tcommon_any q s V (by omega) (by omega))
  have hd : 0 < Nat.gcd q s := Nat.gcd_pos_of_pos_right _ (by omega)
  have k1 : q / Nat.gcd q s ≤ q := Nat.div_le_self _ _
  have k2 : s / Nat.gcd q s ≤ s := Nat.div_le_self _ _
  obtain ⟨d, hD⟩ : ∃ d, Nat.gcd q s = d := ⟨_, rfl⟩
  have HV : Hid (sumR p q r s = lowR ((p * (s / d) + r * (q / d)) % (q / d * s)) (q / d * s)) := by show _ = _; unfold sumR; rw [hD]
  rw [hD] at HC l1 l2 l3 hd k1 k2
  clear hD
  have x1 : IntKind.u64.wrap ((q : Int) / (d : Int)) = ((q / d : Nat) : Int) := by
    rw [show ((q : Int) / (d : Int)) = ((q / d : Nat) : Int) from rfl]; exact tw64 _ (by omega)
  have x2 : IntKind.u64.wrap ((s : Int) / (d : Int)) = ((s / d : Nat) : Int) := by
    rw [show ((s : Int) / (d : Int)) = ((s / d : Nat) : Int) from rfl]; exact tw64 _ (by omega)
  generalize q / d = A at *
  generalize s / d = B at *
  have m1 : p * B < A * s := by
    rw [l2]
    have hB : 0 < B := by
      rcases Nat.eq_zero_or_pos B with h | h
      · rw [h] at l2; omega
      · exact h
    exact Nat.mul_lt_mul_of_pos_right hp hB
  have m2 : r * A < A * s := by
    have hA : 0 < A := by
      rcases Nat.eq_zero_or_pos A with h | h
      · rw [h] at l3; omega
      · exact h
    rw [Nat.mul_comm A s]
    exact Nat.mul_lt_mul_of_pos_right hr hA
  have y1 : IntKind.u64.wrap ((A : Int) * (s : Int)) = ((A * s : Nat) : Int) := by rw [← Int.natCast_mul]; exact tw64 _ (by omega)
  have y2 : IntKind.u64.wrap ((p : Int) * (B : Int)) = ((p * B : Nat) : Int) := by rw [← Int.natCast_mul]; exact tw64 _ (by omega)
  have y3 : IntKind.u64.wrap ((r : Int) * (A : Int)) = ((r * A : Nat) : Int) := by rw [← Int.natCast_mul]; exact tw64 _ (by omega)
  generalize A * s = W at *
  generalize p * B = x at *
  generalize r * A = y at *
  have HR := hid (fun V => tround_any x y W V m1 m2 l1)
  have hm : (x + y) % W < W := Nat.mod_lt _ l3
  have HL := hid (fun V => tlowest_any ((x + y) % W) W V hm l1)
  obtain ⟨z, hz⟩ : ∃ z, (x + y) % W = z := ⟨_, rfl⟩
  rw [hz] at HR HL HV
  clear hz hm m1 m2 l2
  have hd' : (d : Int) ≠ 0 := by omega
  go_enter Try.func29, Try.ntmps29
  go_wp2_with fail
  generalize ((w.alloc (.cells #[.int .i64 (p : Int), .int .i64 (q : Int)] 23)).alloc (.cells #[.int .i64 (r : Int), .int .i64 (s : Int)] 23)).alloc (.cells #[.int .i64 0, .int .i64 0] 23) = X at *
  refine Calls.mono (HC.out X) ?_
  rintro e w1 ⟨rfl, hb1⟩
  obtain ⟨c0, c1, f0, f1⟩ := fbox_facts HX.out.1 hb1
  obtain ⟨c2, c3, f2, f3⟩ := fbox_facts HX.out.2.1 hb1
  go_wp2_with fail
  go_quiet (fail)
  go_wp2_with fail
  go_quiet (fail)
  go_wp2_with fail
  go_quiet (fail)
  go_wp2_with fail
  refine Calls.mono (HR.out _) ?_
  rintro e w2 ⟨rfl, rfl⟩
  go_wp2_with fail
  generalize hn : w1.drewN (_ + _ + _) = w2
  have hb1 : Below X.heap.size X w2 := by rw [← hn]; exact bdrewN hb1 _
  clear hn c0 c1 c2 c3 f0 f1 f2 f3
  refine Calls.mono (HL.out _) ?_
  rintro e w3 ⟨rfl, hb3⟩
  obtain ⟨c4, c5, f4, f5⟩ := fbox_facts HX.out.2.2.1 (b2 hb1 hb3)
  have HB := hid (b2 HX.out.2.2.2 (b2 hb1 hb3))
  clear hb1 hb3
  have hv : lowV z W = tV (sumR p q r s) := by rw [HV.out]; rfl
  rw [hv]
  clear hv HV HC HL HR
  obtain ⟨T, hT⟩ : ∃ T, sumR p q r s = T := ⟨_, rfl⟩
  have HT := hid hT
  rw [hT]
  clear hT
  obtain ⟨t1, t2, t3⟩ := T
  rw [show tV (t1, t2, t3) = Value.tuple #[.agg #[.int .i64 t1, .int .i64 t2], .int .i64 t3] from rfl]
  go_wp2_with fail
  refine bodyPost_ret (v := Value.tuple #[.agg #[.int .i64 t1, .int .i64 t2], .int .i64 t3]) (by simp [results, Try.results29, go_sem, c4, c5]) rfl ?_
  exact ⟨by rw [HT.out]; rfl, fput2 HB.out _ (by omega) _ _⟩

/-- What Add tells. -/
def addR (p q r s : Int) : Int × Int × Int := if okI p q ∧ okI r s then sumR p.toNat q.toNat r.toNat s.toNat else (0, 0, 180)

theorem tsumI (p q r s : Int) (w : World) (h : okI p q) (g : okI r s) :
    Calls Try.prog 29 #[.agg #[.int .i64 p, .int .i64 q], .agg #[.int .i64 r, .int .i64 s]] w fun e w' => e = .returned (tV (sumR p.toNat q.toNat r.toNat s.toNat)) ∧ Below w.heap.size w w' := by
  obtain ⟨h1, h2, h3, h4, _⟩ := h
  obtain ⟨g1, g2, g3, g4, _⟩ := g
  obtain ⟨a, rfl⟩ := Int.eq_ofNat_of_zero_le h3
  obtain ⟨b, rfl⟩ := Int.eq_ofNat_of_zero_le (show 0 ≤ q by omega)
  obtain ⟨c, rfl⟩ := Int.eq_ofNat_of_zero_le g3
  obtain ⟨d, rfl⟩ := Int.eq_ofNat_of_zero_le (show 0 ≤ s by omega)
  exact tsum_any a b c d w (by omega) (by omega) (by omega) (by omega)

set_option maxHeartbeats 1600000 in
set_option maxRecDepth 100000 in
theorem tadd_any (p q r s : Int) (w : World) (h : in64 p q) (g : in64 r s) :
    Calls Try.prog 16 #[.agg #[.int .i64 p, .int .i64 q], .agg #[.int .i64 r, .int .i64 s]] w fun e w' => e = .returned (tV (addR p q r s)) ∧ Below w.heap.size w w' := by
  have HX := hid (boxes3 w 23 #[.int .i64 p, .int .i64 q] #[.int .i64 r, .int .i64 s] #[.int .i64 0, .int .i64 0])
  have HC := hid (fun V => tboth_any p q r s V h g)
  have HO := hid (chk2_or p q r s)
  have HV1 : Hid (okI p q ∧ okI r s → addR p q r s = sumR p.toNat q.toNat r.toNat s.toNat) := fun h => by unfold addR; rw [if_pos h]
  have HV2 : Hid (¬ (okI p q ∧ okI r s) → addR p q r s = (0, 0, 180)) := fun h => by unfold addR; rw [if_neg h]
  have HS : Hid (okI p q ∧ okI r s → ∀ V, Calls Try.prog 29 #[.agg #[.int .i64 p, .int .i64 q], .agg #[.int .i64 r, .int .i64 s]] V fun e w' => e = .returned (tV (addR p q r s)) ∧ Below V.heap.size V w') := fun h V => by rw [HV1.out h]; exact tsumI p q r s V h.1 h.2
  clear h g
  go_enter Try.func16, Try.ntmps16
  go_wp2_with fail
  generalize ((w.alloc (.cells #[.int .i64 p, .int .i64 q] 23)).alloc (.cells #[.int .i64 r, .int .i64 s] 23)).alloc (.cells #[.int .i64 0, .int .i64 0] 23) = X at *
  refine Calls.mono (HC.out X) ?_
  rintro e w1 ⟨rfl, hb1⟩
  obtain ⟨c0, c1, f0, f1⟩ := fbox_facts HX.out.1 hb1
  obtain ⟨c2, c3, f2, f3⟩ := fbox_facts HX.out.2.1 hb1
  obtain ⟨c4, c5, f4, f5⟩ := fbox_facts HX.out.2.2.1 hb1
  rcases HO.out with ⟨e, ho⟩ | ⟨e, ho⟩
  · rw [e]
    have HS' := hid (HS.out ho)
    clear HO HV1 HV2 HS e ho HC
    go_wp2_with fail
    refine Calls.mono (HS'.out w1) ?_
    rintro e w2 ⟨rfl, hb2⟩
    clear c0 c1 c2 c3 c4 c5 f0 f1 f2 f3 f4 f5 HS'
    obtain ⟨c4, c5, f4, f5⟩ := fbox_facts HX.out.2.2.1 (b2 hb1 hb2)
    have HB := hid (b2 HX.out.2.2.2 (b2 hb1 hb2))
    clear hb1 hb2 HX
    obtain ⟨T, hT⟩ : ∃ T, addR p q r s = T := ⟨_, rfl⟩
    have HT := hid hT
    rw [hT]
    clear hT
    obtain ⟨t1, t2, t3⟩ := T
    rw [show tV (t1, t2, t3) = Value.tuple #[.agg #[.int .i64 t1, .int .i64 t2], .int .i64 t3] from rfl]
    go_wp2_with fail
    refine bodyPost_ret (v := Value.tuple #[.agg #[.int .i64 t1, .int .i64 t2], .int .i64 t3]) (by simp [results, Try.results16, go_sem, c4, c5]) rfl ?_
    exact ⟨by rw [HT.out]; rfl, fput2 HB.out _ (by omega) _ _⟩
  · rw [e]
    have HR := hid (HV2.out ho)
    have HB := hid (b2 HX.out.2.2.2 hb1)
    clear HO HV1 HV2 HS e ho HC hb1
    go_wp2_with fail
    refine bodyPost_ret (v := Value.tuple #[.agg #[.int .i64 0, .int .i64 0], .int .i64 180]) (by simp [results, Try.results16, go_sem, c4, c5]) rfl ?_
    exact ⟨by rw [HR.out]; rfl, fput2 HB.out _ (by omega) _ _⟩

/-- What Sub tells. -/
def subR (p q r s : Int) : Int × Int × Int := if okI p q ∧ okI r s then addR p q ((-r) % s) s else (0, 0, 180)
theorem gcd_back {p q : Int} (h : okI p q) : okI ((-p) % q) q := by
  obtain ⟨h1, h2, h3, h4, h5⟩ := h
  refine ⟨h1, h2, Int.emod_nonneg _ (by omega), Int.emod_lt_of_pos _ (by omega), ?_⟩
  by_cases h0 : p = 0
  · subst h0; simpa using h5
  · have e : (-p) % q = q - p := by rw [← Int.add_emod_right, Int.emod_eq_of_lt (by omega) (by omega)]; omega
    rw [e]
    have e2 : (q - p).toNat = q.toNat - p.toNat := by omega
    rw [e2, Nat.gcd_self_sub_left (by omega)]; exact h5
end Go.Proofs.Ytfldddphfekiaaa

/- package turn: nought, quarter, plain, place, Root, of any turn. -/
namespace Go.Proofs.Ytfldddphfekiaaa
open Go.RowKit
set_option linter.unusedVariables false

/-- A nought is +0. -/
def nz (x : Nat) : Nat := if FloatKind.f64.format.order x 0 == some .eq then 0 else x

set_option maxHeartbeats 800000 in
set_option maxRecDepth 100000 in
theorem tnought_any (x : Nat) (w : World) :
    Calls Try.prog 25 #[.float .f64 x] w fun e w' => e = .returned (.float .f64 (nz x)) ∧ w' = w := by
  cases h : (FloatKind.f64.format.order x 0 == some .eq)
  · have HR : Hid (nz x = x) := by show _ = _; unfold nz; rw [h]; rfl
    go_enter Try.func25, Try.ntmps25
    go_wp2
    go_ret
    exact ⟨by rw [HR.out]; rfl, rfl⟩
  · have HR : Hid (nz x = 0) := by show _ = _; unfold nz; rw [h]; rfl
    go_enter Try.func25, Try.ntmps25
    go_wp2
    go_ret
    exact ⟨by rw [HR.out]; rfl, rfl⟩
set_option maxHeartbeats 800000 in
set_option maxRecDepth 100000 in
theorem tquarter_any (a b : Nat) (w : World) :
    Calls Try.prog 26 #[.complex .f64 a b] w fun e w' => e = .returned (.complex .f64 (fneg b) a) ∧ w' = w := by
  have HN : ∀ x, Op.unary .neg (.float .f64 x) = pure (.float .f64 (fneg x)) := fun _ => rfl
  go_enter Try.func26, Try.ntmps26
  go_wp2
  go_ret
  exact ⟨rfl, rfl⟩
set_option maxHeartbeats 800000 in
set_option maxRecDepth 100000 in
theorem tplain_any (a b : Nat) (w : World) :
    Calls Try.prog 14 #[.complex .f64 a b] w fun e w' => e = .returned (.complex .f64 (nz a) (nz b)) ∧ w' = w := by
  go_enter Try.func14, Try.ntmps14
  go_wp2_with fail
  refine Calls.mono (tnought_any a _) ?_
  rintro e w1 ⟨rfl, rfl⟩
  go_wp2_with fail
  refine Calls.mono (tnought_any b _) ?_
  rintro e w2 ⟨rfl, rfl⟩
  go_wp2_with fail
  go_ret
  exact ⟨rfl, rfl⟩

/-- The number of the first quarter, put into the quarter in which an eighth is. -/
def plV (k a b : Nat) : Nat × Nat := if k ≤ 1 then (a, b) else if k ≤ 3 then (fneg b, a) else if k ≤ 5 then (fneg a, fneg b) else (fneg (fneg b), fneg a)

set_option maxHeartbeats 800000 in
set_option maxRecDepth 100000 in
theorem tplace_any (a b k : Nat) (w : World) (hk : k < 8) :
    Calls Try.prog 15 #[.complex .f64 a b, .int .i64 (k : Int)] w fun e w' => e = .returned (.complex .f64 (plV k a b).1 (plV k a b).2) ∧ w' = w := by
  have HQ := hid (fun V => tquarter_any a b V)
  have HN := hid (fun V => zpNeg_any a b V)
  have HN2 := hid (fun V => zpNeg_any (fneg b) a V)
  match k, hk with
  | 0, _ | 1, _ =>
    go_enter Try.func15, Try.ntmps15
    go_wp2_with fail
    go_ret
    exact ⟨rfl, rfl⟩
  | 2, _ | 3, _ =>
    go_enter Try.func15, Try.ntmps15
    go_wp2_with fail
    refine Calls.mono (HQ.out _) ?_
    rintro e w1 ⟨rfl, rfl⟩
    go_wp2_with fail
    go_ret
    exact ⟨rfl, rfl⟩
  | 4, _ | 5, _ =>
    go_enter Try.func15, Try.ntmps15
    go_wp2_with fail
    refine Calls.mono (HN.out _) ?_
    rintro e w1 ⟨rfl, rfl⟩
    go_wp2_with fail
    go_ret
    exact ⟨rfl, rfl⟩
  | 6, _ | 7, _ =>
    go_enter Try.func15, Try.ntmps15
    go_wp2_with fail
    refine Calls.mono (HQ.out _) ?_
    rintro e w1 ⟨rfl, rfl⟩
    go_wp2_with fail
    refine Calls.mono (HN2.out _) ?_
    rintro e w1 ⟨rfl, rfl⟩
    go_wp2_with fail
    go_ret
    exact ⟨rfl, rfl⟩

/-- Where the first eighth's cosine and sine go. -/
def octV (k c s : Nat) : Nat × Nat := if k % 2 = 1 then plV k s c else plV k c s
/-- How far into the eighth, or from its end, as an odd one is gone through backward. -/
def rootA (p q : Nat) : Nat := if 8 * p / q % 2 = 1 then q - 8 * p % q else 8 * p % q
/-- The number at an eighth k, a over q of an eighth into it. -/
def RootK (k a q re im : Nat) : Prop := ∃ f y c s, FN .quo (floatOfInt .f64 (a : Int)) (floatOfInt .f64 (q : Int)) f ∧ FN .mul f 4605249457297304856 y ∧ CosR y c ∧ SineR y s ∧ re = nz (octV k c s).1 ∧ im = nz (octV k c s).2
def RootR (p q re im : Nat) : Prop := RootK (8 * p / q) (rootA p q) q re im

set_option maxHeartbeats 3200000 in
set_option maxRecDepth 100000 in
theorem troot_ok (p q : Nat) (w : World) (hp : p < q) (hq : q ≤ 4294967296) (hg : Nat.gcd p q = 1) :
    Calls Try.prog 5 #[.agg #[.int .i64 (p : Int), .int .i64 (q : Int)]] w fun e w' => ∃ re im, e = .returned (.tuple #[.complex .f64 re im, .int .i64 0]) ∧ RootR p q re im ∧ Below w.heap.size w w' := by
  have rA := fadd_run Try.prog 29
  have rM := fmul_run Try.prog 29
  have rQ := fquo_run Try.prog 29
  have fr : ∀ V, (callFunc 11 #[.int .u64 4605249457297304856]).run Try.prog V = .ok (.value (.float .f64 4605249457297304856)) V := from_run 4605249457297304856
  have HX := hid (boxes1 w 23 #[.int .i64 (p : Int), .int .i64 (q : Int)])
  have HC := hid (fun V => tcheck_any p q V (by omega) (by omega) (by omega) (by omega))
  have hO : chk p q = 0 := by unfold chk; rw [if_pos]; exact ⟨by omega, by omega, by omega, by omega, by simpa using hg⟩
  rw [hO] at HC
  clear hO hg
  have hk : 8 * p / q < 8 := Nat.div_lt_of_lt_mul (by omega)
  have ha : 8 * p % q < q := Nat.mod_lt _ (by omega)
  have e1 : Int.tdiv (8 * (p : Int)) (q : Int) = ((8 * p / q : Nat) : Int) := by
    rw [Int.tdiv_eq_ediv_of_nonneg (by omega)]; rfl
  have e2 : Int.tmod (8 * (p : Int)) (q : Int) = ((8 * p % q : Nat) : Int) := by
    rw [Int.tmod_eq_emod_of_nonneg (by omega)]; rfl
  have HRR : Hid (∀ re im, RootR p q re im = RootK (8 * p / q) (if 8 * p / q % 2 = 1 then q - 8 * p % q else 8 * p % q) q re im) := fun re im => rfl
  generalize 8 * p / q = k at *
  generalize 8 * p % q = a at *
  have q0 : (q : Int) ≠ 0 := by omega
  by_cases ho : k % 2 = 1
  · rw [if_pos ho] at HRR
    have o1 : (k : Int) % 2 = 1 := by omega
    have HO := hid ho
    clear ho
    go_enter Try.func5, Try.ntmps5
    go_wp2_with fail
    generalize w.alloc (.cells #[.int .i64 (p : Int), .int .i64 (q : Int)] 23) = X at *
    refine Calls.mono (HC.out X) ?_
    rintro e w1 ⟨rfl, hb1⟩
    obtain ⟨c0, c1, f0, f1⟩ := fbox_facts HX.out.1 hb1
    go_wp2_with fail
    go_quiet (fail)
    go_wp2_with fail
    have HB2 : Hid (Below X.heap.size X (w1.drewN _)) := bdrewN hb1 nq
    generalize w1.drewN nq = w2 at *
    clear hb1 c0 c1 f0 f1
    have HF := hid (fval_fn .quo w2 (floatOfInt .f64 (↑q - ↑a)) (floatOfInt .f64 (q : Int)))
    have HBF := hid (fwld_below .quo (floatOfInt .f64 (↑q - ↑a)) (floatOfInt .f64 (q : Int)) HB2.out)
    generalize fval .quo w2 (floatOfInt .f64 (↑q - ↑a)) (floatOfInt .f64 (q : Int)) = f at *
    generalize fwld .quo w2 (floatOfInt .f64 (↑q - ↑a)) (floatOfInt .f64 (q : Int)) = w3 at *
    have HY := hid (fval_fn .mul w3 f 4605249457297304856)
    have HBY := hid (fwld_below .mul f 4605249457297304856 HBF.out)
    generalize fval .mul w3 f 4605249457297304856 = y at *
    generalize fwld .mul w3 f 4605249457297304856 = w4 at *
    clear HB2 HBF
    refine Calls.mono (tcosine_any y _) ?_
    rintro e w5 ⟨c, rfl, hc, hb5⟩
    have HCO := hid hc
    clear hc
    go_wp2_with fail
    refine Calls.mono (tsine_any y _) ?_
    rintro e w6 ⟨s, rfl, hs, hb6⟩
    have HSI := hid hs
    have HB6 := hid (b2 HX.out.2 (b2 HBY.out (b2 hb5 hb6)))
    clear hs hb5 hb6 HBY
    go_wp2_with fail
    refine Calls.mono (tplace_any s c k _ hk) ?_
    rintro e w7 ⟨rfl, rfl⟩
    go_wp2_with fail
    refine Calls.mono (tplain_any _ _ _) ?_
    rintro e w8 ⟨rfl, rfl⟩
    go_wp2_with fail
    go_returns
    refine ⟨_, _, rfl, ?_, HB6.out⟩
    rw [HRR.out]
    have ho := HO.out
    exact ⟨f, y, c, s, by rw [show (((q - a : Nat) : Int)) = (q : Int) - (a : Int) by omega]; exact HF.out, HY.out, HCO.out, HSI.out, by unfold octV; rw [if_pos ho], by unfold octV; rw [if_pos ho]⟩
  · rw [if_neg ho] at HRR
    have o1 : (k : Int) % 2 = 0 := by omega
    have HO := hid ho
    clear ho
    go_enter Try.func5, Try.ntmps5
    go_wp2_with fail
    generalize w.alloc (.cells #[.int .i64 (p : Int), .int .i64 (q : Int)] 23) = X at *
    refine Calls.mono (HC.out X) ?_
    rintro e w1 ⟨rfl, hb1⟩
    obtain ⟨c0, c1, f0, f1⟩ := fbox_facts HX.out.1 hb1
    go_wp2_with fail
    go_quiet (fail)
    go_wp2_with fail
    have HB2 : Hid (Below X.heap.size X (w1.drewN _)) := bdrewN hb1 nq
    generalize w1.drewN nq = w2 at *
    clear hb1 c0 c1 f0 f1
    have HF := hid (fval_fn .quo w2 (floatOfInt .f64 ↑a) (floatOfInt .f64 (q : Int)))
    have HBF := hid (fwld_below .quo (floatOfInt .f64 ↑a) (floatOfInt .f64 (q : Int)) HB2.out)
    generalize fval .quo w2 (floatOfInt .f64 ↑a) (floatOfInt .f64 (q : Int)) = f at *
    generalize fwld .quo w2 (floatOfInt .f64 ↑a) (floatOfInt .f64 (q : Int)) = w3 at *
    have HY := hid (fval_fn .mul w3 f 4605249457297304856)
    have HBY := hid (fwld_below .mul f 4605249457297304856 HBF.out)
    generalize fval .mul w3 f 4605249457297304856 = y at *
    generalize fwld .mul w3 f 4605249457297304856 = w4 at *
    clear HB2 HBF
    refine Calls.mono (tcosine_any y _) ?_
    rintro e w5 ⟨c, rfl, hc, hb5⟩
    have HCO := hid hc
    clear hc
    go_wp2_with fail
    refine Calls.mono (tsine_any y _) ?_
    rintro e w6 ⟨s, rfl, hs, hb6⟩
    have HSI := hid hs
    have HB6 := hid (b2 HX.out.2 (b2 HBY.out (b2 hb5 hb6)))
    clear hs hb5 hb6 HBY
    go_wp2_with fail
    refine Calls.mono (tplace_any c s k _ hk) ?_
    rintro e w7 ⟨rfl, rfl⟩
    go_wp2_with fail
    refine Calls.mono (tplain_any _ _ _) ?_
    rintro e w8 ⟨rfl, rfl⟩
    go_wp2_with fail
    go_returns
    refine ⟨_, _, rfl, ?_, HB6.out⟩
    rw [HRR.out]
    have ho := HO.out
    exact ⟨f, y, c, s, HF.out, HY.out, HCO.out, HSI.out, by unfold octV; rw [if_neg ho], by unfold octV; rw [if_neg ho]⟩

set_option maxHeartbeats 1600000 in
set_option maxRecDepth 100000 in
theorem troot_err (p q : Int) (w : World) (h : in64 p q) (hn : ¬ okI p q) :
    Calls Try.prog 5 #[.agg #[.int .i64 p, .int .i64 q]] w fun e w' => e = .returned (.tuple #[.complex .f64 0 0, .int .i64 180]) ∧ Below w.heap.size w w' := by
  have HX := hid (boxes1 w 23 #[.int .i64 p, .int .i64 q])
  have HC := hid (fun V => tcheck_any p q V h.1.1 h.1.2 h.2.1 h.2.2)
  have hO : chk p q = 180 := by unfold chk; rw [if_neg hn]
  rw [hO] at HC
  clear hO hn h
  go_enter Try.func5, Try.ntmps5
  go_wp2_with fail
  generalize w.alloc (.cells #[.int .i64 p, .int .i64 q] 23) = X at *
  refine Calls.mono (HC.out X) ?_
  rintro e w1 ⟨rfl, hb1⟩
  have HB := hid (b2 HX.out.2 hb1)
  clear hb1 HX HC
  go_wp2_with fail
  go_returns
  exact ⟨rfl, HB.out⟩
end Go.Proofs.Ytfldddphfekiaaa

/- The order of finite floats is that of their numbers; whole numbers as floats; sine, cosine and Root never leave [-1, 1]. (tools/mkfv2.py) -/
namespace Go.Proofs.Ytfldddphfekiaaa
open Go.RowKit
set_option linter.unusedVariables false

theorem cmp_scale (u v : Int) {p : Nat} (hp : 0 < p) : compare (u * (p : Int)) (v * (p : Int)) = compare u v := by
  have hp' : (0 : Int) < (p : Int) := by omega
  rcases Int.lt_trichotomy u v with h | rfl | h
  · rw [Int.compare_eq_lt.2 h, Int.compare_eq_lt.2 (Int.mul_lt_mul_of_pos_right h hp')]
  · simp
  · rw [Int.compare_eq_gt.2 h, Int.compare_eq_gt.2 (Int.mul_lt_mul_of_pos_right h hp')]
/-- The order of finite floats is that of their numbers. -/
theorem order_sv {x y : Nat} (hx : Fi x) (hy : Fi y) : FloatKind.f64.format.order x y = some (compare (sv x) (sv y)) := by
  show (Ieee.double.read x).order (Ieee.double.read y) = _
  obtain ⟨m, a, e1, v1⟩ := read_num hx.2
  obtain ⟨n, b, e2, v2⟩ := read_num hy.2
  generalize hs : (x / 9223372036854775808 % 2 == 1) = s at e1
  generalize ht : (y / 9223372036854775808 % 2 == 1) = t at e2
  have t1 : (-1074 + (a : Int) - min (-1074 + (a : Int)) (-1074 + (b : Int))).toNat = a - min a b := by omega
  have t2 : (-1074 + (b : Int) - min (-1074 + (a : Int)) (-1074 + (b : Int))).toNat = b - min a b := by omega
  rw [e1, e2]
  simp only [Ieee.Datum.order, t1, t2]
  rw [← cmp_scale _ _ (Nat.two_pow_pos (min a b)), signed_pow s m a _ (Nat.min_le_left ..), signed_pow t n b _ (Nat.min_le_right ..), v1, v2, sv_sign hs, sv_sign ht]

theorem In.of_eq {k x : Nat} {n : Int} (h : In k n n x) : sv x = n * ((2 ^ k : Nat) : Int) := Int.le_antisymm h.2.2 h.2.1
theorem In.fi {k x : Nat} {a b : Int} (h : In k a b x) : Fi x := h.1
/-- A whole number as a float. -/
theorem int_rn (E : Nat) (hE : E = 1074) (n : Int) : RN (n * ((2 ^ E : Nat) : Int)) 1 (floatOfInt .f64 n) := by
  have hp : (0 : Int) < ((2 ^ E : Nat) : Int) := by have := Nat.two_pow_pos E; omega
  show RN _ 1 (Ieee.double.nearest (decide (n < 0)) n.natAbs 0)
  refine near_rn (by decide) ?_ ?_ ?_
  · rw [Int.natAbs_mul, Int.natAbs_natCast, show ((0 : Int) + 1074).toNat = E by omega, show (-((0 : Int) + 1074)).toNat = 0 by omega]
  · intro h
    refine decide_eq_true ?_
    by_cases hz : n < 0
    · exact hz
    · have := Int.mul_nonneg (show 0 ≤ n by omega) (Int.le_of_lt hp); omega
  · intro h
    refine decide_eq_false ?_
    intro hz
    have := Int.mul_nonneg (show 0 ≤ -n by omega) (Int.le_of_lt hp); rw [Int.neg_mul] at this; omega
theorem int_in (n : Int) (h1 : -9007199254740992 ≤ n) (h2 : n ≤ 9007199254740992) : In 1074 n n (floatOfInt .f64 n) := by
  obtain ⟨E, hE⟩ : ∃ E, E = 1074 := ⟨_, rfl⟩
  have h := (int_rn E hE n).bounds (k := E) (lo := n) (hi := n) (by decide) (by omega) (by omega) h1 h2 (by simp) (by simp)
  rw [hE] at h; exact h
/-- Bits of numbers that are not below 0. -/
theorem sv_nonneg_bits {x : Nat} (h : x < 9218868437227405312) : Fi x ∧ sv x = (rungVal x : Int) := ⟨⟨by omega, by rw [Nat.mod_eq_of_lt (by omega)]; exact h⟩, sv_low (by omega)⟩
theorem floatOfInt_nonneg (n : Nat) (h : n ≤ 9007199254740992) : floatOfInt .f64 (n : Int) < 9218868437227405312 := by
  have hi := int_in (n : Int) (by omega) (by omega)
  have e : floatOfInt .f64 (n : Int) = Ieee.double.nearest false n 0 := by
    show Ieee.double.nearest (decide ((n : Int) < 0)) (n : Int).natAbs 0 = _
    rw [decide_eq_false (by omega), Int.natAbs_natCast]
  have hs : ∃ s, Ieee.double.nearest false n 0 = s ∧ s ≤ 9218868437227405312 := by
    by_cases h0 : n = 0
    · subst h0; exact ⟨0, by simp [Ieee.Format.nearest]; rfl, by omega⟩
    · obtain ⟨s, e1, m⟩ := near_is_mid false n 0 h0
      exact ⟨s, e1, m.top⟩
  obtain ⟨s, e1, h1⟩ := hs
  have f := hi.1.2
  rw [e, e1] at f ⊢
  rw [Nat.mod_eq_of_lt (by omega)] at f
  exact f
theorem rungVal_mono_back {x y : Nat} (h : rungVal x ≤ rungVal y) : x ≤ y := by
  by_cases hc : x ≤ y
  · exact hc
  · have := rungVal_lt (r := y) (s := x) (by omega); omega
theorem floatOfInt_mono {a q : Nat} (h : a ≤ q) (hq : q ≤ 9007199254740992) : floatOfInt .f64 (a : Int) ≤ floatOfInt .f64 (q : Int) := by
  have ha := floatOfInt_nonneg a (by omega)
  have hb := floatOfInt_nonneg q hq
  have ea := (int_in (a : Int) (by omega) (by omega)).of_eq
  have eb := (int_in (q : Int) (by omega) (by omega)).of_eq
  rw [(sv_nonneg_bits ha).2] at ea
  rw [(sv_nonneg_bits hb).2] at eb
  refine rungVal_mono_back ?_
  have := Int.mul_le_mul_of_nonneg_right (show (a : Int) ≤ (q : Int) by omega) (Int.natCast_nonneg (2 ^ 1074))
  rw [← ea, ← eb] at this
  exact Int.ofNat_le.1 this
theorem floatOfInt_pos {q : Nat} (h : 0 < q) (hq : q ≤ 9007199254740992) : floatOfInt .f64 (q : Int) ≠ 0 := by
  intro e
  have eb := (int_in (q : Int) (by omega) (by omega)).of_eq
  rw [e] at eb
  have hp := Nat.two_pow_pos 1074
  have e0 : sv 0 = 0 := by decide
  rw [e0] at eb
  generalize 2 ^ 1074 = P at *
  have := Int.mul_le_mul_of_nonneg_right (show (1 : Int) ≤ (q : Int) by omega) (Int.natCast_nonneg P)
  omega
theorem one_in : In 1024 1125899906842624 1125899906842624 4607182418800017408 := ⟨⟨by decide, by decide⟩, by decide +kernel, by decide +kernel⟩
theorem in_below_one {f : Nat} (h : f ≤ 4607182418800017408) : In 1024 0 1125899906842624 f := by
  have hf := sv_nonneg_bits (x := f) (by omega)
  have h1 := sv_nonneg_bits (x := 4607182418800017408) (by decide)
  have := rungVal_le h
  refine ⟨hf.1, ?_, ?_⟩
  · rw [hf.2, Int.zero_mul]; omega
  · refine Int.le_trans ?_ one_in.2.2
    rw [hf.2, h1.2]; omega
theorem FN.same {op : BinOp} {x y r r' : Nat} (h : FN op x y r) (h' : FN op x y r') (f : Fi r) : r = r' := by
  rcases h.al h' (.refl _) (.refl _) with e | ⟨e, _⟩
  · exact e
  · rw [f.notnan] at e; cases e

theorem pi4_in : In 1024 (884279719003555) (884279719003555) 4605249457297304856 := ⟨⟨by decide, by decide⟩, by decide +kernel, by decide +kernel⟩
theorem sin_c0 : In 1024 (-861) (-860) 13648976655441704991 := ⟨⟨by decide, by decide⟩, by decide +kernel, by decide +kernel⟩
theorem sin_c1 : In 1024 (180808) (180809) 4460272573143870729 := ⟨⟨by decide, by decide⟩, by decide +kernel, by decide +kernel⟩
theorem sin_c2 : In 1024 (-28206167) (-28206166) 13716528800881525988 := ⟨⟨by decide, by decide⟩, by decide +kernel, by decide +kernel⟩
theorem sin_c3 : In 1024 (3102678314) (3102678315) 4523617214285662004 := ⟨⟨by decide, by decide⟩, by decide +kernel, by decide +kernel⟩
theorem sin_c4 : In 1024 (-223392838660) (-223392838659) 13774824197408792602 := ⟨⟨by decide, by decide⟩, by decide +kernel, by decide +kernel⟩
theorem sin_c5 : In 1024 (9382499223688) (9382499223689) 4575957461383581969 := ⟨⟨by decide, by decide⟩, by decide +kernel, by decide +kernel⟩
theorem sin_c6 : In 1024 (-187649984473771) (-187649984473770) 13818544856648471893 := ⟨⟨by decide, by decide⟩, by decide +kernel, by decide +kernel⟩
theorem sin_horn {q r : Nat} (hq : In 1024 (0) (694511667235004) q) (h : Horn q 13648976655441704991 (sinC.drop 1) r) : In 1024 (-187649984473771) (-181862387246811) r := by
  obtain ⟨p1, s1, m1, a1, ⟨p2, s2, m2, a2, ⟨p3, s3, m3, a3, ⟨p4, s4, m4, a4, ⟨p5, s5, m5, a5, ⟨p6, s6, m6, a6, rfl⟩⟩⟩⟩⟩⟩ := h
  have i1 : In 1024 (-532) (0) p1 := In.mul sin_c0 hq m1 (s := 50) (by decide) (by decide) (by decide) (by decide) (by decide) (by decide) (by decide) (by decide) (by decide) (by decide) (by decide) (by decide) (by decide)
  have j1 : In 1024 (180276) (180809) s1 := In.add i1 sin_c1 a1 (by decide) (by decide) (by decide) (by decide) (by decide) (by decide)
  have i2 : In 1024 (0) (111533) p2 := In.mul j1 hq m2 (s := 50) (by decide) (by decide) (by decide) (by decide) (by decide) (by decide) (by decide) (by decide) (by decide) (by decide) (by decide) (by decide) (by decide)
  have j2 : In 1024 (-28206167) (-28094633) s2 := In.add i2 sin_c2 a2 (by decide) (by decide) (by decide) (by decide) (by decide) (by decide)
  have i3 : In 1024 (-17398982) (0) p3 := In.mul j2 hq m3 (s := 50) (by decide) (by decide) (by decide) (by decide) (by decide) (by decide) (by decide) (by decide) (by decide) (by decide) (by decide) (by decide) (by decide)
  have j3 : In 1024 (3085279332) (3102678315) s3 := In.add i3 sin_c3 a3 (by decide) (by decide) (by decide) (by decide) (by decide) (by decide)
  have i4 : In 1024 (0) (1913887973) p4 := In.mul j3 hq m4 (s := 50) (by decide) (by decide) (by decide) (by decide) (by decide) (by decide) (by decide) (by decide) (by decide) (by decide) (by decide) (by decide) (by decide)
  have j4 : In 1024 (-223392838660) (-221478950686) s4 := In.add i4 sin_c4 a4 (by decide) (by decide) (by decide) (by decide) (by decide) (by decide)
  have i5 : In 1024 (-137799933976) (0) p5 := In.mul j4 hq m5 (s := 50) (by decide) (by decide) (by decide) (by decide) (by decide) (by decide) (by decide) (by decide) (by decide) (by decide) (by decide) (by decide) (by decide)
  have j5 : In 1024 (9244699289712) (9382499223689) s5 := In.add i5 sin_c5 a5 (by decide) (by decide) (by decide) (by decide) (by decide) (by decide)
  have i6 : In 1024 (0) (5787597226959) p6 := In.mul j5 hq m6 (s := 50) (by decide) (by decide) (by decide) (by decide) (by decide) (by decide) (by decide) (by decide) (by decide) (by decide) (by decide) (by decide) (by decide)
  have j6 : In 1024 (-187649984473771) (-181862387246811) r := In.add i6 sin_c6 a6 (by decide) (by decide) (by decide) (by decide) (by decide) (by decide)
  exact j6
theorem cos_c0 : In 1024 (53) (54) 4407590220077447199 := ⟨⟨by decide, by decide⟩, by decide +kernel, by decide +kernel⟩
theorem cos_c1 : In 1024 (-12915) (-12914) 13666517717442657437 := ⟨⟨by decide, by decide⟩, by decide +kernel, by decide +kernel⟩
theorem cos_c2 : In 1024 (2350513) (2350514) 4477122120089393304 := ⟨⟨by decide, by decide⟩, by decide +kernel, by decide +kernel⟩
theorem cos_c3 : In 1024 (-310267832) (-310267831) 13732177094651715420 := ⟨⟨by decide, by decide⟩, by decide +kernel, by decide +kernel⟩
theorem cos_c4 : In 1024 (27924104832) (27924104833) 4537941361671905306 := ⟨⟨by decide, by decide⟩, by decide +kernel, by decide +kernel⟩
theorem cos_c5 : In 1024 (-1563749870615) (-1563749870614) 13787419979223755799 := ⟨⟨by decide, by decide⟩, by decide +kernel, by decide +kernel⟩
theorem cos_c6 : In 1024 (46912496118442) (46912496118443) 4586165620538955093 := ⟨⟨by decide, by decide⟩, by decide +kernel, by decide +kernel⟩
theorem cos_c7 : In 1024 (-562949953421312) (-562949953421312) 13826050856027422720 := ⟨⟨by decide, by decide⟩, by decide +kernel, by decide +kernel⟩
theorem cos_horn {q r : Nat} (hq : In 1024 (0) (694511667235004) q) (h : Horn q 4407590220077447199 (cosC.drop 1) r) : In 1024 (-562949953421312) (-534011967286519) r := by
  obtain ⟨p1, s1, m1, a1, ⟨p2, s2, m2, a2, ⟨p3, s3, m3, a3, ⟨p4, s4, m4, a4, ⟨p5, s5, m5, a5, ⟨p6, s6, m6, a6, ⟨p7, s7, m7, a7, rfl⟩⟩⟩⟩⟩⟩⟩ := h
  have i1 : In 1024 (0) (34) p1 := In.mul cos_c0 hq m1 (s := 50) (by decide) (by decide) (by decide) (by decide) (by decide) (by decide) (by decide) (by decide) (by decide) (by decide) (by decide) (by decide) (by decide)
  have j1 : In 1024 (-12915) (-12880) s1 := In.add i1 cos_c1 a1 (by decide) (by decide) (by decide) (by decide) (by decide) (by decide)
  have i2 : In 1024 (-7967) (0) p2 := In.mul j1 hq m2 (s := 50) (by decide) (by decide) (by decide) (by decide) (by decide) (by decide) (by decide) (by decide) (by decide) (by decide) (by decide) (by decide) (by decide)
  have j2 : In 1024 (2342546) (2350514) s2 := In.add i2 cos_c2 a2 (by decide) (by decide) (by decide) (by decide) (by decide) (by decide)
  have i3 : In 1024 (0) (1449916) p3 := In.mul j2 hq m3 (s := 50) (by decide) (by decide) (by decide) (by decide) (by decide) (by decide) (by decide) (by decide) (by decide) (by decide) (by decide) (by decide) (by decide)
  have j3 : In 1024 (-310267832) (-308817915) s3 := In.add i3 cos_c3 a3 (by decide) (by decide) (by decide) (by decide) (by decide) (by decide)
  have i4 : In 1024 (-191388798) (0) p4 := In.mul j3 hq m4 (s := 50) (by decide) (by decide) (by decide) (by decide) (by decide) (by decide) (by decide) (by decide) (by decide) (by decide) (by decide) (by decide) (by decide)
  have j4 : In 1024 (27732716034) (27924104833) s4 := In.add i4 cos_c4 a4 (by decide) (by decide) (by decide) (by decide) (by decide) (by decide)
  have i5 : In 1024 (0) (17224991748) p5 := In.mul j4 hq m5 (s := 50) (by decide) (by decide) (by decide) (by decide) (by decide) (by decide) (by decide) (by decide) (by decide) (by decide) (by decide) (by decide) (by decide)
  have j5 : In 1024 (-1563749870615) (-1546524878866) s5 := In.add i5 cos_c5 a5 (by decide) (by decide) (by decide) (by decide) (by decide) (by decide)
  have i6 : In 1024 (-964599537827) (0) p6 := In.mul j5 hq m6 (s := 50) (by decide) (by decide) (by decide) (by decide) (by decide) (by decide) (by decide) (by decide) (by decide) (by decide) (by decide) (by decide) (by decide)
  have j6 : In 1024 (45947896580615) (46912496118443) s6 := In.add i6 cos_c6 a6 (by decide) (by decide) (by decide) (by decide) (by decide) (by decide)
  have i7 : In 1024 (0) (28937986134793) p7 := In.mul j6 hq m7 (s := 50) (by decide) (by decide) (by decide) (by decide) (by decide) (by decide) (by decide) (by decide) (by decide) (by decide) (by decide) (by decide) (by decide)
  have j7 : In 1024 (-562949953421312) (-534011967286519) r := In.add i7 cos_c7 a7 (by decide) (by decide) (by decide) (by decide) (by decide) (by decide)
  exact j7
theorem cos_in {y r : Nat} (hy : In 1024 (0) (884279719003555) y) (h : CosR y r) : In 1024 0 1125899906842624 r := by
  obtain ⟨q, h, b, h1, h2, h3, h4⟩ := h
  have iq : In 1024 (0) (694511667235004) q := In.mul hy hy h1 (s := 50) (by decide) (by decide) (by decide) (by decide) (by decide) (by decide) (by decide) (by decide) (by decide) (by decide) (by decide) (by decide) (by decide)
  have ih := cos_horn iq h2
  have ib : In 1024 (-347255833617502) (0) b := In.mul iq ih h3 (s := 50) (by decide) (by decide) (by decide) (by decide) (by decide) (by decide) (by decide) (by decide) (by decide) (by decide) (by decide) (by decide) (by decide)
  have ir : In 1024 (778644073225122) (1125899906842624) r := In.add one_in ib h4 (by decide) (by decide) (by decide) (by decide) (by decide) (by decide)
  exact ir.wide (by decide) (by decide)
theorem sin_in {y r : Nat} (hy : In 1024 (0) (884279719003555) y) (h : SineR y r) : In 1024 (-1125899906842624) 1125899906842624 r := by
  obtain ⟨q, h, a, b, h1, h2, h3, h4, h5⟩ := h
  have iq : In 1024 (0) (694511667235004) q := In.mul hy hy h1 (s := 50) (by decide) (by decide) (by decide) (by decide) (by decide) (by decide) (by decide) (by decide) (by decide) (by decide) (by decide) (by decide) (by decide)
  have ih := sin_horn iq h2
  have ia : In 1024 (0) (545468187904472) a := In.mul hy iq h3 (s := 50) (by decide) (by decide) (by decide) (by decide) (by decide) (by decide) (by decide) (by decide) (by decide) (by decide) (by decide) (by decide) (by decide)
  have ib : In 1024 (-90911364650746) (0) b := In.mul ia ih h4 (s := 50) (by decide) (by decide) (by decide) (by decide) (by decide) (by decide) (by decide) (by decide) (by decide) (by decide) (by decide) (by decide) (by decide)
  have ir : In 1024 (-90911364650746) (884279719003555) r := In.add hy ib h5 (by decide) (by decide) (by decide) (by decide) (by decide) (by decide)
  exact ir.wide (by decide) (by decide)

/-- From -1 to 1. -/
def Unit1 (x : Nat) : Prop := In 1024 (-1125899906842624) 1125899906842624 x
theorem Unit1.neg {x : Nat} (h : Unit1 x) : Unit1 (fneg x) := In.opp h
theorem zero_unit : Unit1 0 := ⟨⟨by decide, by decide⟩, by rw [show sv 0 = 0 by decide, Int.neg_mul]; omega, by rw [show sv 0 = 0 by decide]; omega⟩
theorem Unit1.nz {x : Nat} (h : Unit1 x) : Unit1 (nz x) := by
  unfold Go.Proofs.Ytfldddphfekiaaa.nz
  split
  · exact zero_unit
  · exact h
theorem oct_unit {k c s : Nat} (hc : Unit1 c) (hs : Unit1 s) : Unit1 (octV k c s).1 ∧ Unit1 (octV k c s).2 := by
  have pl : ∀ a b, Unit1 a → Unit1 b → Unit1 (plV k a b).1 ∧ Unit1 (plV k a b).2 := by
    intro a b ha hb
    unfold plV
    split
    · exact ⟨ha, hb⟩
    · split
      · exact ⟨hb.neg, ha⟩
      · split
        · exact ⟨ha.neg, hb.neg⟩
        · exact ⟨hb.neg.neg, ha.neg⟩
  unfold octV
  split
  · exact pl s c hs hc
  · exact pl c s hc hs
theorem rootK_in {k a q re im : Nat} (ha : a ≤ q) (h0 : 0 < q) (hq : q ≤ 9007199254740992) (h : RootK k a q re im) : Unit1 re ∧ Unit1 im := by
  obtain ⟨f, y, c, s, h1, h2, h3, h4, rfl, rfl⟩ := h
  have fi := in_below_one (quo_le (floatOfInt_nonneg q hq) (floatOfInt_pos h0 hq) (floatOfInt_mono ha hq) h1)
  have iy : In 1024 (0) (884279719003555) y := In.mul fi pi4_in h2 (s := 50) (by decide) (by decide) (by decide) (by decide) (by decide) (by decide) (by decide) (by decide) (by decide) (by decide) (by decide) (by decide) (by decide)
  have ic : Unit1 c := (cos_in iy h3).wide (by decide) (by decide)
  have is : Unit1 s := sin_in iy h4
  have o := oct_unit (k := k) ic is
  exact ⟨o.1.nz, o.2.nz⟩
theorem root_in {p q re im : Nat} (hp : p < q) (hq : q ≤ 9007199254740992) (h : RootR p q re im) : Unit1 re ∧ Unit1 im := by
  have ha : rootA p q ≤ q := by
    have := Nat.mod_lt (8 * p) (show 0 < q by omega)
    unfold rootA; split <;> omega
  exact rootK_in ha (by omega) hq h
/-- There is just one such number. -/
theorem CosR.same {y r r' : Nat} (h : CosR y r) (h' : CosR y r') (f : Fi r) : r = r' := by
  rcases h.al h' (.refl _) with e | ⟨e, _⟩
  · exact e
  · rw [f.notnan] at e; cases e
theorem SineR.same {y r r' : Nat} (h : SineR y r) (h' : SineR y r') (f : Fi r) : r = r' := by
  rcases h.al h' (.refl _) with e | ⟨e, _⟩
  · exact e
  · rw [f.notnan] at e; cases e
theorem root_one {p q re im re' im' : Nat} (hp : p < q) (hq : q ≤ 9007199254740992) (h : RootR p q re im) (h' : RootR p q re' im') : re = re' ∧ im = im' := by
  have ha : rootA p q ≤ q := by
    have := Nat.mod_lt (8 * p) (show 0 < q by omega)
    unfold rootA; split <;> omega
  obtain ⟨f, y, c, s, h1, h2, h3, h4, rfl, rfl⟩ := h
  obtain ⟨f', y', c', s', h1', h2', h3', h4', rfl, rfl⟩ := h'
  have fi := in_below_one (quo_le (floatOfInt_nonneg q hq) (floatOfInt_pos (by omega) hq) (floatOfInt_mono ha hq) h1)
  have iy : In 1024 (0) (884279719003555) y := In.mul fi pi4_in h2 (s := 50) (by decide) (by decide) (by decide) (by decide) (by decide) (by decide) (by decide) (by decide) (by decide) (by decide) (by decide) (by decide) (by decide)
  obtain rfl := h1.same h1' fi.1
  obtain rfl := h2.same h2' iy.1
  obtain rfl := h3.same h3' (cos_in iy h3).1
  obtain rfl := h4.same h4' (sin_in iy h4).1
  exact ⟨rfl, rfl⟩
end Go.Proofs.Ytfldddphfekiaaa

/- How far a rounded number is from the exact one: floats as fractions (rv), what is nearly v (Ap). Nothing here speaks of the program. -/
namespace Go.Proofs.Ytfldddphfekiaaa
open Go.RowKit
set_option linter.unusedVariables false

theorem grid {A Q m : Nat} (hQ : 0 < Q) (hA : A ≤ m * Q) : ∃ lo hi, lo ≤ hi ∧ hi ≤ lo + 1 ∧ hi ≤ m ∧ lo * Q ≤ A ∧ A ≤ hi * Q := by
  have e := Nat.div_add_mod A Q
  have hm := Nat.mod_lt A hQ
  have hq : A / Q ≤ m := Nat.div_le_of_le_mul (by rw [Nat.mul_comm]; exact hA)
  rw [Nat.mul_comm] at e
  by_cases hr : A % Q = 0
  · exact ⟨A / Q, A / Q, Nat.le_refl _, by omega, hq, by omega, by omega⟩
  · have hlt : A / Q < m := by
      rcases Nat.lt_or_eq_of_le hq with g | g
      · exact g
      · rw [g] at e; omega
    exact ⟨A / Q, A / Q + 1, by omega, Nat.le_refl _, hlt, by omega, by rw [Nat.add_mul]; omega⟩

theorem Mid.err {A D s k : Nat} (h : Mid A D s) (hD : 0 < D) (k1 : 53 ≤ k) (k2 : k ≤ 2044) (hA : A ≤ 9007199254740992 * (2 ^ k * D)) :
    s < 9218868437227405312 ∧ 2 * A ≤ 2 * (rungVal s * D) + 2 ^ k * D ∧ 2 * (rungVal s * D) ≤ 2 * A + 2 ^ k * D := by
  have hP := Nat.two_pow_pos k
  obtain ⟨lo, hi, h1, h2, h3, h4, h5⟩ := grid (Nat.mul_pos hP hD) hA
  obtain ⟨rl, l1, l2⟩ := rep lo k (by omega) k1 k2
  obtain ⟨rh, u1, u2⟩ := rep hi k h3 k1 k2
  have a1 := h.ge hD (r := rl) (by omega) (by rw [l2, Nat.mul_assoc]; exact h4)
  have a2 := h.le hD (r := rh) (by rw [u2, Nat.mul_assoc]; exact h5)
  have v1 := rungVal_le a1
  have v2 := rungVal_le a2
  have hs : s < 9218868437227405312 := by omega
  have hhi : hi * 2 ^ k ≤ lo * 2 ^ k + 2 ^ k := by have := Nat.mul_le_mul_right (2 ^ k) h2; rw [Nat.add_mul, Nat.one_mul] at this; exact this
  rw [← l2, ← u2] at hhi
  refine ⟨hs, ?_, ?_⟩
  · rcases Nat.lt_or_eq_of_le a2 with g | g
    · have w := h.up hs
      have w2 := rungVal_le (show s + 1 ≤ rh by omega)
      have w3 : (rungVal s + rungVal (s + 1)) * D ≤ (rungVal s + (rungVal s + 2 ^ k)) * D := Nat.mul_le_mul_right D (by omega)
      rw [show rungVal s + (rungVal s + 2 ^ k) = 2 * rungVal s + 2 ^ k by omega, Nat.add_mul (2 * rungVal s), Nat.mul_assoc] at w3
      omega
    · rw [← Nat.mul_assoc, ← u2, ← g] at h5
      omega
  · rcases Nat.lt_or_eq_of_le a1 with g | g
    · have w := h.down (by omega)
      have w2 := rungVal_le (show rl ≤ s - 1 by omega)
      have w3 : (2 * rungVal s) * D ≤ (rungVal (s - 1) + rungVal s + 2 ^ k) * D := Nat.mul_le_mul_right D (by omega)
      rw [Nat.add_mul _ (2 ^ k), Nat.mul_assoc] at w3
      omega
    · rw [← Nat.mul_assoc, ← l2, g] at h4
      omega

theorem RN.err {A : Int} {D r k : Nat} (h : RN A D r) (hD : 0 < D) (k1 : 53 ≤ k) (k2 : k ≤ 2044) (hA : A.natAbs ≤ 9007199254740992 * (2 ^ k * D)) :
    Fi r ∧ 2 * A ≤ 2 * (sv r * (D : Int)) + ((2 ^ k * D : Nat) : Int) ∧ 2 * (sv r * (D : Int)) ≤ 2 * A + ((2 ^ k * D : Nat) : Int) := by
  obtain ⟨neg, s, rfl, n1, n2, m⟩ := h
  obtain ⟨e1, e2, e3⟩ := m.err hD k1 k2 hA
  refine ⟨word_fi _ e1, ?_⟩
  rw [sv_word _ _ (by omega)]
  generalize 2 ^ k * D = Q at *
  have hz : rungVal s * D = ((rungVal s * D : Nat) : Int) := rfl
  cases neg
  · simp only [Bool.false_eq_true, if_false]
    rw [← Int.natCast_mul]
    generalize rungVal s * D = V at *
    have : 0 ≤ A := by
      rcases Int.lt_or_le A 0 with g | g
      · cases n1 g
      · exact g
    omega
  · simp only [if_true]
    rw [Int.neg_mul, ← Int.natCast_mul]
    generalize rungVal s * D = V at *
    have : A ≤ 0 := by
      rcases Int.lt_or_le 0 A with g | g
      · cases n2 g
      · exact g
    omega

/-- 2^1074. -/
def bT : Rat := ((2 ^ 1074 : Nat) : Rat)
theorem bT_pos : 0 < bT := by decide +kernel
/-- A float's number. -/
def rv (x : Nat) : Rat := (sv x : Rat) / bT
theorem rv_sv (x : Nat) : (sv x : Rat) = rv x * bT := by
  have := bT_pos
  unfold rv
  rw [Rat.div_mul_cancel (by grind)]
theorem pos_of {a t : Rat} (ht : 0 < t) (h : 0 ≤ a * t) : 0 ≤ a := by
  rcases (Rat.le_total : 0 ≤ a ∨ a ≤ 0) with g | g
  · exact g
  · by_cases h0 : a = 0
    · grind
    · have := Rat.mul_pos (show 0 < -a by grind) ht
      grind

/-- A number at most M in size is told at most g away. -/
structure Gr (k : Nat) (M g : Rat) : Prop where
  k1 : 53 ≤ k
  k2 : k ≤ 2044
  m : M * bT = ((9007199254740992 * 2 ^ k : Nat) : Rat)
  g : 2 * g * bT = ((2 ^ k : Nat) : Rat)

theorem natAbs_of {A : Int} {n : Nat} (h1 : -((n : Nat) : Rat) ≤ (A : Rat)) (h2 : (A : Rat) ≤ (n : Rat)) : A.natAbs ≤ n := by
  have e : ((n : Nat) : Rat) = (((n : Nat) : Int) : Rat) := rfl
  rw [e] at h1 h2
  have g2 := Rat.intCast_le_intCast.1 h2
  rw [← Rat.intCast_neg] at h1
  have g1 := Rat.intCast_le_intCast.1 h1
  omega

theorem radd {x y r k : Nat} {M g : Rat} (G : Gr k M g) (hx : Fi x) (hy : Fi y) (h : FN .add x y r) (l : -M ≤ rv x + rv y) (u : rv x + rv y ≤ M) :
    Fi r ∧ -g ≤ rv r - (rv x + rv y) ∧ rv r - (rv x + rv y) ≤ g := by
  have hb := bT_pos
  have R := add_rn hx hy h
  have e : ((sv x + sv y : Int) : Rat) = (rv x + rv y) * bT := by rw [Rat.intCast_add, rv_sv, rv_sv]; grind
  have hA : (sv x + sv y).natAbs ≤ 9007199254740992 * (2 ^ k * 1) := by
    rw [Nat.mul_one]
    apply natAbs_of
    · rw [e, ← G.m]
      have := Rat.mul_nonneg (show 0 ≤ rv x + rv y + M by grind) (Rat.le_of_lt hb)
      grind
    · rw [e, ← G.m]
      have := Rat.mul_nonneg (show 0 ≤ M - (rv x + rv y) by grind) (Rat.le_of_lt hb)
      grind
  obtain ⟨f, e1, e2⟩ := R.err (by decide) G.k1 G.k2 hA
  have E1 := Rat.intCast_le_intCast.2 e1
  have E2 := Rat.intCast_le_intCast.2 e2
  have c2 : (((2 ^ k * 1 : Nat) : Int) : Rat) = 2 * g * bT := by rw [Nat.mul_one, G.g]; rfl
  have c1 : ((2 : Int) : Rat) = 2 := rfl
  have c3 : (((1 : Nat) : Int) : Rat) = 1 := rfl
  simp only [Rat.intCast_add, Rat.intCast_mul, c2, c1, c3] at E1 E2 e
  rw [e, rv_sv] at E1 E2
  refine ⟨f, ?_, ?_⟩
  · have := pos_of (a := rv r - (rv x + rv y) + g) hb (by grind)
    grind
  · have := pos_of (a := g - (rv r - (rv x + rv y))) hb (by grind)
    grind

theorem rmul {x y r k : Nat} {M g : Rat} (G : Gr k M g) (hx : Fi x) (hy : Fi y) (h : FN .mul x y r) (l : -M ≤ rv x * rv y) (u : rv x * rv y ≤ M) :
    Fi r ∧ -g ≤ rv r - rv x * rv y ∧ rv r - rv x * rv y ≤ g := by
  have hb := bT_pos
  have hbb := Rat.mul_pos hb hb
  obtain ⟨E, hE⟩ : ∃ E, E = 1074 := ⟨_, rfl⟩
  have R := mul_rn E hE hx hy h
  have eT : ((2 ^ E : Nat) : Rat) = bT := by rw [hE]; rfl
  have e : ((sv x * sv y : Int) : Rat) = rv x * rv y * (bT * bT) := by rw [Rat.intCast_mul, rv_sv, rv_sv]; grind
  have hA : (sv x * sv y).natAbs ≤ 9007199254740992 * (2 ^ k * 2 ^ E) := by
    apply natAbs_of
    · rw [e, ← Nat.mul_assoc, Rat.natCast_mul, ← G.m, eT]
      have := Rat.mul_nonneg (show 0 ≤ rv x * rv y + M by grind) (Rat.le_of_lt hbb)
      grind
    · rw [e, ← Nat.mul_assoc, Rat.natCast_mul, ← G.m, eT]
      have := Rat.mul_nonneg (show 0 ≤ M - (rv x * rv y) by grind) (Rat.le_of_lt hbb)
      grind
  obtain ⟨f, e1, e2⟩ := R.err (Nat.two_pow_pos _) G.k1 G.k2 hA
  have E1 := Rat.intCast_le_intCast.2 e1
  have E2 := Rat.intCast_le_intCast.2 e2
  have c2 : (((2 ^ k * 2 ^ E : Nat) : Int) : Rat) = 2 * g * bT * bT := by rw [G.g, ← eT, ← Rat.natCast_mul]; rfl
  have c1 : ((2 : Int) : Rat) = 2 := rfl
  have c3 : (((2 ^ E : Nat) : Int) : Rat) = bT := eT
  simp only [Rat.intCast_add, Rat.intCast_mul, c2, c1, c3] at E1 E2 e
  rw [e, rv_sv] at E1 E2
  refine ⟨f, ?_, ?_⟩
  · have := pos_of (a := rv r - rv x * rv y + g) hbb (by grind)
    grind
  · have := pos_of (a := g - (rv r - rv x * rv y)) hbb (by grind)
    grind

theorem box_mul {a b A B : Rat} (h1 : -A ≤ a) (h2 : a ≤ A) (h3 : -B ≤ b) (h4 : b ≤ B) : -(A * B) ≤ a * b ∧ a * b ≤ A * B := by
  have p1 := Rat.mul_nonneg (show 0 ≤ A - a by grind) (show 0 ≤ B - b by grind)
  have p2 := Rat.mul_nonneg (show 0 ≤ A + a by grind) (show 0 ≤ B + b by grind)
  have p3 := Rat.mul_nonneg (show 0 ≤ A - a by grind) (show 0 ≤ B + b by grind)
  have p4 := Rat.mul_nonneg (show 0 ≤ A + a by grind) (show 0 ≤ B - b by grind)
  constructor <;> grind

/-- x is v but for e, v at most B in size. -/
structure Ap (x : Nat) (v B e : Rat) : Prop where
  fi : Fi x
  lo : -B ≤ v
  hi : v ≤ B
  dl : -e ≤ rv x - v
  dh : rv x - v ≤ e

theorem Ap.mul {x y r k : Nat} {v v' B B' e e' M g B2 e2 : Rat} (hx : Ap x v B e) (hy : Ap y v' B' e') (h : FN .mul x y r) (G : Gr k M g) (hM : (B + e) * (B' + e') ≤ M) (hB : B * B' ≤ B2) (he : B * e' + e * B' + e * e' + g ≤ e2) : Ap r (v * v') B2 e2 := by
  have q := box_mul (a := rv x) (A := B + e) (b := rv y) (B := B' + e') (by have := hx.lo; have := hx.dl; grind) (by have := hx.hi; have := hx.dh; grind) (by have := hy.lo; have := hy.dl; grind) (by have := hy.hi; have := hy.dh; grind)
  obtain ⟨f, e1, e2'⟩ := rmul G hx.fi hy.fi h (by grind) (by grind)
  have b1 := box_mul hx.lo hx.hi hy.lo hy.hi
  have b2 := box_mul hx.lo hx.hi hy.dl hy.dh
  have b3 := box_mul hx.dl hx.dh hy.lo hy.hi
  have b4 := box_mul hx.dl hx.dh hy.dl hy.dh
  refine ⟨f, by grind, by grind, ?_, ?_⟩ <;> grind

theorem Ap.add {x y r k : Nat} {v v' B B' e e' M g B2 e2 : Rat} (hx : Ap x v B e) (hy : Ap y v' B' e') (h : FN .add x y r) (G : Gr k M g) (hM : B + e + (B' + e') ≤ M) (hB : B + B' ≤ B2) (he : e + e' + g ≤ e2) : Ap r (v + v') B2 e2 := by
  obtain ⟨x1, x2, x3, x4, x5⟩ := hx
  obtain ⟨y1, y2, y3, y4, y5⟩ := hy
  obtain ⟨f, e1, e2'⟩ := radd G x1 y1 h (by grind) (by grind)
  exact ⟨f, by grind, by grind, by grind, by grind⟩
end Go.Proofs.Ytfldddphfekiaaa

