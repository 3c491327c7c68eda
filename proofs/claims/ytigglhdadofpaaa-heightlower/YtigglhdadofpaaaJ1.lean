/- My texts on the way to HeightLower, one behind the other: contracts of the program and of the document's answers. -/
import Derived.WalkKit
import Derived.WalkLawsBesides
import Derived.WalkSpells
import Derived.Laws.BitsAllLaws
import Derived.Laws.CopyOwn
import Derived.Laws.AppendOwnNone
import Derived.Test.YtigglhdadofpaaaChecked
import Derived.Handy
import Derived.Deep.RegionHeld3
/- Floats of 64 bits by their bits: which are finite, what a sum or difference of two gives, the sum of two with what was lost of it, as plain functions of the bits. Nothing here speaks of the program. -/
namespace Go.Proofs.Ytigglhdadofpaaa

/-- Neither an infinity nor NaN: by the bits. -/
def fin (x : Nat) : Bool := x / 4503599627370496 % 2048 != 2047

theorem fin_iff (x : Nat) : fin x = true ↔ x % 9223372036854775808 < 9218868437227405312 := by
  unfold fin
  simp only [bne_iff_ne, ne_eq]
  omega

theorem dbl_sign : Ieee.double.signWeight = 9223372036854775808 := by decide
theorem dbl_inf : Ieee.double.infRung = 9218868437227405312 := by decide
theorem dbl_binade : Ieee.double.binade = 4503599627370496 := by decide

theorem read_fin {x : Nat} (h : fin x = true) : ∃ s m e, Ieee.double.read x = .number s m e := by
  rw [fin_iff] at h
  unfold Ieee.Format.read
  simp only [dbl_sign, dbl_inf, dbl_binade]
  split
  · exact ⟨_, _, _, rfl⟩
  · first | exact ⟨_, _, _, rfl⟩ | (rw [if_pos h]; exact ⟨_, _, _, rfl⟩)

theorem read_not {x : Nat} (h : fin x = false) : (∃ s, Ieee.double.read x = .infinity s) ∨ ∃ s f, Ieee.double.read x = .nan s f := by
  have h' : ¬ x % 9223372036854775808 < 9218868437227405312 := fun g => by rw [(fin_iff x).2 g] at h; exact Bool.noConfusion h
  unfold Ieee.Format.read
  simp only [dbl_sign, dbl_inf, dbl_binade]
  rw [if_neg (by omega), if_neg h']
  split
  · exact Or.inl ⟨_, rfl⟩
  · exact Or.inr ⟨_, _, rfl⟩

theorem write_inf (s : Bool) : fin (Ieee.double.write (.infinity s)) = false := by
  cases s <;> decide

theorem nan_cut (x y t : Nat) : fin (Question.cut (.nanBits .f64 x y) t) = false ∧ Question.cut (.nanBits .f64 x y) t < 18446744073709551616 := by
  simp only [Question.cut]
  have hu : (t / 2) % (2 ^ 52 - 1) < 4503599627370495 := Nat.mod_lt _ (by decide)
  have hv : t % 2 = 0 ∨ t % 2 = 1 := by omega
  generalize (t / 2) % (2 ^ 52 - 1) = u at hu ⊢
  generalize t % 2 = v at hv ⊢
  constructor
  · cases hh : fin (v * 2 ^ 63 + 0x7ff0000000000000 + 1 + u)
    · rfl
    · rw [fin_iff] at hh; rcases hv with rfl | rfl <;> omega
  · rcases hv with rfl | rfl <;> omega

/-- What the machine hands back: the bits of the answer, or, where there is none, some NaN. -/
def FR (op : BinOp) (x y r : Nat) : Prop := r < 18446744073709551616 ∧ (floatBits op .f64 x y = some r ∨ (floatBits op .f64 x y = none ∧ fin r = false))

theorem FR.det {op : BinOp} {x y r s : Nat} (h : FR op x y r) (g : floatBits op .f64 x y = some s) : r = s := by
  rcases h.2 with h | ⟨h, _⟩
  · rw [h] at g; exact Option.some.inj g
  · rw [h] at g; cases g

theorem FR.some {op : BinOp} {x y r : Nat} (h : floatBits op .f64 x y = .some r) : FR op x y r := by
  have := floatBits_wf h
  simp [Lit.wf] at this
  exact ⟨this, Or.inl h⟩
theorem FR.none {op : BinOp} {x y : Nat} (t : Nat) (h : floatBits op .f64 x y = .none) : FR op x y (Question.cut (.nanBits .f64 x y) t) :=
  ⟨(nan_cut x y t).2, Or.inr ⟨h, (nan_cut x y t).1⟩⟩

theorem sum_back {d c : Ieee.Datum} {r : Nat} (h : (d.sum c).map Ieee.double.write = .some r) (hf : fin r = true) : (∃ s m e, d = .number s m e) ∧ ∃ s m e, c = .number s m e := by
  cases d with
  | nan s f => simp [Ieee.Datum.sum] at h
  | infinity s =>
    cases c with
    | nan t f => simp [Ieee.Datum.sum] at h
    | infinity t =>
      simp only [Ieee.Datum.sum] at h
      split at h
      · cases h; rw [write_inf] at hf; cases hf
      · cases h
    | number t m e => simp only [Ieee.Datum.sum] at h; cases h; rw [write_inf] at hf; cases hf
  | number s m e =>
    cases c with
    | nan t f => simp [Ieee.Datum.sum] at h
    | infinity t => simp only [Ieee.Datum.sum] at h; cases h; rw [write_inf] at hf; cases hf
    | number t n j => exact ⟨⟨_, _, _, rfl⟩, ⟨_, _, _, rfl⟩⟩

theorem fin_of_read {x : Nat} {s : Bool} {m : Nat} {e : Int} (h : Ieee.double.read x = .number s m e) : fin x = true := by
  cases hx : fin x
  · rcases read_not hx with ⟨_, g⟩ | ⟨_, _, g⟩ <;> rw [g] at h <;> cases h
  · rfl

theorem add_back {x y r : Nat} (h : floatBits .add .f64 x y = .some r) (hf : fin r = true) : fin x = true ∧ fin y = true := by
  obtain ⟨⟨_, _, _, h1⟩, ⟨_, _, _, h2⟩⟩ := sum_back h hf
  exact ⟨fin_of_read h1, fin_of_read h2⟩
theorem sub_back {x y r : Nat} (h : floatBits .sub .f64 x y = .some r) (hf : fin r = true) : fin x = true ∧ fin y = true := by
  obtain ⟨⟨_, _, _, h1⟩, ⟨s, m, e, h2⟩⟩ := sum_back h hf
  refine ⟨fin_of_read h1, ?_⟩
  cases hy : fin y
  · rcases read_not hy with ⟨_, g⟩ | ⟨_, _, g⟩ <;> (have g' : FloatKind.f64.format.read y = _ := g; rw [g'] at h2; cases h2)
  · rfl

theorem FR.addBack {x y r : Nat} (h : FR .add x y r) (hf : fin r = true) : floatBits .add .f64 x y = .some r ∧ fin x = true ∧ fin y = true := by
  rcases h.2 with h | ⟨_, g⟩
  · exact ⟨h, add_back h hf⟩
  · rw [g] at hf; cases hf
theorem FR.subBack {x y r : Nat} (h : FR .sub x y r) (hf : fin r = true) : floatBits .sub .f64 x y = .some r ∧ fin x = true ∧ fin y = true := by
  rcases h.2 with h | ⟨_, g⟩
  · exact ⟨h, sub_back h hf⟩
  · rw [g] at hf; cases hf

theorem add_some {x y : Nat} (hx : fin x = true) (hy : fin y = true) : ∃ r, floatBits .add .f64 x y = .some r := by
  obtain ⟨s, m, e, h1⟩ := read_fin hx
  obtain ⟨t, n, j, h2⟩ := read_fin hy
  exact ⟨_, show (((Ieee.double.read x).sum (Ieee.double.read y)).map Ieee.double.write) = _ by rw [h1, h2]; rfl⟩

theorem order_self {x : Nat} (h : fin x = true) : FloatKind.f64.format.order x x = .some .eq := by
  obtain ⟨s, m, e, h1⟩ := read_fin h
  show (Ieee.double.read x).order (Ieee.double.read x) = _
  rw [h1]
  simp [Ieee.Datum.order]

theorem run_add (P : Program) (w : World) (t : TypeId) (x y : Nat) (h : floatBits .add .f64 x y = .none) :
    (binOp .add t (.float .f64 x) (.float .f64 y)).run P w = .ok (.float .f64 (Question.cut (.nanBits .f64 x y) (w.tape w.drawn (.nanBits .f64 x y)))) w.drew := by
  have h' : FloatKind.f64.format.add x y = .none := h
  simp [binOp, Op.floatArith, h', Question.forced]
theorem run_sub (P : Program) (w : World) (t : TypeId) (x y : Nat) (h : floatBits .sub .f64 x y = .none) :
    (binOp .sub t (.float .f64 x) (.float .f64 y)).run P w = .ok (.float .f64 (Question.cut (.nanBits .f64 x y) (w.tape w.drawn (.nanBits .f64 x y)))) w.drew := by
  have h' : FloatKind.f64.format.sub x y = .none := h
  simp [binOp, Op.floatArith, h', Question.forced]

/-- The sum of two finite floats and what was lost of it; nothing, where one of both is not finite. -/
def chain (a b : Nat) : Option (Nat × Nat) :=
  match floatBits .add .f64 a b with
  | .none => .none
  | .some s => if fin s then
      match floatBits .sub .f64 s a with
      | .none => .none
      | .some t =>
        match floatBits .sub .f64 s t with
        | .none => .none
        | .some d =>
          match floatBits .sub .f64 a d, floatBits .sub .f64 b t with
          | .some p, .some q =>
            match floatBits .add .f64 p q with
            | .none => .none
            | .some e => if fin e then .some (s, e) else .none
          | _, _ => .none
    else .none

/-- The steps as the machine goes them. -/
def Two (a b s e : Nat) : Prop := ∃ t d p q, FR .add a b s ∧ FR .sub s a t ∧ FR .sub s t d ∧ FR .sub a d p ∧ FR .sub b t q ∧ FR .add p q e

theorem Two.good {a b s e : Nat} (h : Two a b s e) (hs : fin s = true) (he : fin e = true) : chain a b = .some (s, e) := by
  obtain ⟨t, d, p, q, h1, h2, h3, h4, h5, h6⟩ := h
  obtain ⟨g6, fp, fq⟩ := h6.addBack he
  obtain ⟨g5, _, ft⟩ := h5.subBack fq
  obtain ⟨g4, _, fd⟩ := h4.subBack fp
  obtain ⟨g3, _, _⟩ := h3.subBack fd
  obtain ⟨g2, _, _⟩ := h2.subBack ft
  obtain ⟨g1, _, _⟩ := h1.addBack hs
  simp only [chain, g1, g2, g3, g4, g5, g6, hs, he, if_true]

theorem chain_back {a b : Nat} {u : Nat × Nat} (h : chain a b = .some u) : fin u.1 = true ∧ fin u.2 = true ∧ ∀ s e, Two a b s e → s = u.1 ∧ e = u.2 := by
  unfold chain at h
  split at h
  · cases h
  rename_i s g1
  split at h
  · rename_i hs
    split at h
    · cases h
    rename_i t g2
    split at h
    · cases h
    rename_i d g3
    split at h
    · rename_i p q g4 g5
      split at h
      · cases h
      rename_i e g6
      split at h
      · rename_i he
        cases h
        refine ⟨hs, he, fun s' e' hh => ?_⟩
        obtain ⟨t', d', p', q', h1, h2, h3, h4, h5, h6⟩ := hh
        have e1 := h1.det g1
        subst e1
        have e2 := h2.det g2
        subst e2
        have e3 := h3.det g3
        subst e3
        have e4 := h4.det g4
        subst e4
        have e5 := h5.det g5
        subst e5
        exact ⟨rfl, h6.det g6⟩
      · cases h
    · cases h
  · cases h

theorem Two.bad {a b s e : Nat} (h : Two a b s e) (hb : fin s = false ∨ fin e = false) : chain a b = .none := by
  cases hc : chain a b with
  | none => rfl
  | some u =>
    obtain ⟨h1, h2, h3⟩ := chain_back hc
    obtain ⟨e1, e2⟩ := h3 _ _ h
    rcases hb with hb | hb
    · rw [e1, h1] at hb; cases hb
    · rw [e2, h2] at hb; cases hb

/-- The first step alone. -/
theorem chain_over {a b s : Nat} (h : FR .add a b s) (hs : fin s = false) : chain a b = .none := by
  cases hc : floatBits .add .f64 a b with
  | none => simp only [chain, hc]
  | some r =>
    have := h.det hc
    subst this
    simp only [chain, hc, hs]
    rfl

/-- TwoSum: the sum, what was lost, the error. -/
def tsum (a b : Nat) : Nat × Nat × Int :=
  if fin a && fin b then
    match chain a b with
    | .some (s, e) => (s, e, 0)
    | .none => (0, 0, 9)
  else (0, 0, 8)

theorem tsum_fin (a b : Nat) : fin (tsum a b).1 = true ∧ fin (tsum a b).2.1 = true := by
  unfold tsum
  split
  · cases hc : chain a b with
    | none => exact ⟨by decide, by decide⟩
    | some u => exact ⟨(chain_back hc).1, (chain_back hc).2.1⟩
  · exact ⟨by decide, by decide⟩

theorem tsum_ok {a b s e : Nat} (ha : fin a = true) (hb : fin b = true) (h : chain a b = .some (s, e)) : tsum a b = (s, e, 0) := by
  simp only [tsum, ha, hb, h, Bool.and_true, if_true]
theorem tsum_over {a b : Nat} (ha : fin a = true) (hb : fin b = true) (h : chain a b = .none) : tsum a b = (0, 0, 9) := by
  simp only [tsum, ha, hb, h, Bool.and_true, if_true]
theorem tsum_bad {a b : Nat} (h : (fin a && fin b) = false) : tsum a b = (0, 0, 8) := by
  simp only [tsum, h]
  rfl

/-- Sum from a sum, what was lost, and a place on: the two and the fault. -/
def fsumGo : Nat → Nat → Nat → List Nat → Nat × Nat × Int × Int
  | s, c, _, [] => (s, c, 0, 0)
  | s, c, i, x :: l =>
    match chain s x with
    | .none => (0, 0, 9, (i : Int))
    | .some (t, e) =>
      match floatBits .add .f64 c e with
      | .none => (0, 0, 9, (i : Int))
      | .some d => if fin d then fsumGo t d (i + 1) l else (0, 0, 9, (i : Int))

/-- Sum: from a place on with all ahead of it finite. -/
def fsumFrom (l0 : List Nat) : Nat → List Nat → Nat × Nat × Int × Int
  | _, [] => fsumGo 0 0 0 l0
  | i, x :: l => if fin x then fsumFrom l0 (i + 1) l else (0, 0, 8, (i : Int))
def fsum (l : List Nat) : Nat × Nat × Int × Int := fsumFrom l 0 l

theorem drop_step {l : List Nat} {k : Nat} (h : k < l.length) : l.drop k = (l[k]?.getD 0) :: l.drop (k + 1) := by
  rw [List.drop_eq_getElem_cons h, List.getElem?_eq_getElem h]
  rfl

theorem fsumFrom_fin {l0 l : List Nat} {k : Nat} (h : k < l.length) (hf : fin (l[k]?.getD 0) = true) : fsumFrom l0 k (l.drop k) = fsumFrom l0 (k + 1) (l.drop (k + 1)) := by
  rw [drop_step h]
  simp only [fsumFrom, hf, if_true]
theorem fsumFrom_bad {l0 l : List Nat} {k : Nat} (h : k < l.length) (hf : fin (l[k]?.getD 0) = false) : fsumFrom l0 k (l.drop k) = (0, 0, 8, (k : Int)) := by
  rw [drop_step h]
  simp only [fsumFrom, hf]
  rfl
theorem fsumFrom_end {l0 l : List Nat} {k : Nat} (h : l.length ≤ k) : fsumFrom l0 k (l.drop k) = fsumGo 0 0 0 l0 := by
  rw [List.drop_of_length_le h]
  rfl
theorem fsumGo_end {l : List Nat} {s c k : Nat} (h : l.length ≤ k) : fsumGo s c k (l.drop k) = (s, c, 0, 0) := by
  rw [List.drop_of_length_le h]
  rfl
theorem fsumGo_none {l : List Nat} {s c k : Nat} (h : k < l.length) (g : chain s (l[k]?.getD 0) = .none) : fsumGo s c k (l.drop k) = (0, 0, 9, (k : Int)) := by
  rw [drop_step h]
  simp only [fsumGo, g]
theorem fsumGo_over {l : List Nat} {s c k t e d : Nat} (h : k < l.length) (g : chain s (l[k]?.getD 0) = .some (t, e)) (g2 : floatBits .add .f64 c e = .some d) (g3 : fin d = false) : fsumGo s c k (l.drop k) = (0, 0, 9, (k : Int)) := by
  rw [drop_step h]
  simp only [fsumGo, g, g2, g3]
  rfl
theorem fsumGo_step {l : List Nat} {s c k t e d : Nat} (h : k < l.length) (g : chain s (l[k]?.getD 0) = .some (t, e)) (g2 : floatBits .add .f64 c e = .some d) (g3 : fin d = true) : fsumGo s c k (l.drop k) = fsumGo t d (k + 1) (l.drop (k + 1)) := by
  rw [drop_step h]
  simp only [fsumGo, g, g2, g3, if_true]

/-- All of them: finite. -/
def Fins (l : List Nat) : Prop := ∀ j : Nat, fin (l[j]?.getD 0) = true

theorem fin0 : fin 0 = true := by decide

/-- A round of the program's loop. -/
theorem round_good {l : List Nat} {s c k s' e' c' : Nat} (h : k < l.length) (h2 : Two s (l[k]?.getD 0) s' e') (h3 : FR .add c e' c') (f1 : fin s' = true) (f2 : fin c' = true) :
    fsumGo s c k (l.drop k) = fsumGo s' c' (k + 1) (l.drop (k + 1)) := by
  obtain ⟨g, _, fe⟩ := h3.addBack f2
  exact fsumGo_step h (h2.good f1 fe) g f2
theorem round_bad {l : List Nat} {s c k s' e' c' : Nat} (h : k < l.length) (fc : fin c = true) (h2 : Two s (l[k]?.getD 0) s' e') (h3 : FR .add c e' c') (f : fin s' = false ∨ fin c' = false) :
    fsumGo s c k (l.drop k) = (0, 0, 9, (k : Int)) := by
  cases f1 : fin s'
  · exact fsumGo_none h (h2.bad (.inl f1))
  · cases fe : fin e'
    · exact fsumGo_none h (h2.bad (.inr fe))
    · have f2 : fin c' = false := by
        rcases f with f | f
        · rw [f1] at f; cases f
        · exact f
      obtain ⟨r, hr⟩ := add_some fc fe
      have := h3.det hr
      subst this
      exact fsumGo_over h (h2.good f1 fe) hr f2

theorem fsumGo_fin (l : List Nat) : ∀ s c i, fin s = true → fin c = true → fin (fsumGo s c i l).1 = true ∧ fin (fsumGo s c i l).2.1 = true := by
  induction l with
  | nil => intro s c i hs hc; exact ⟨hs, hc⟩
  | cons x l ih =>
    intro s c i hs hc
    simp only [fsumGo]
    split
    · exact ⟨fin0, fin0⟩
    · rename_i t e g
      split
      · exact ⟨fin0, fin0⟩
      · rename_i d g2
        split
        · rename_i hd
          exact ih t d (i + 1) (chain_back g).1 hd
        · exact ⟨fin0, fin0⟩
theorem fsumFrom_good (l0 : List Nat) (l : List Nat) : ∀ i, fin (fsumFrom l0 i l).1 = true ∧ fin (fsumFrom l0 i l).2.1 = true := by
  induction l with
  | nil => intro i; exact fsumGo_fin l0 0 0 0 (by decide) (by decide)
  | cons x l ih =>
    intro i
    simp only [fsumFrom]
    split
    · exact ih (i + 1)
    · exact ⟨fin0, fin0⟩

end Go.Proofs.Ytigglhdadofpaaa

/- Floats of 64 bits that are NaN, by their bits; which answers are alike; the order of sizes is that of their bits. Nothing here speaks of the program. -/
namespace Go.Proofs.Ytigglhdadofpaaa

/-- NaN, by the bits. -/
def isnan (x : Nat) : Bool := decide (9218868437227405312 < x % 9223372036854775808)

theorem isnan_iff (x : Nat) : isnan x = true ↔ 9218868437227405312 < x % 9223372036854775808 := by simp [isnan]

theorem read_isnan {x : Nat} (h : isnan x = true) : ∃ s f, Ieee.double.read x = .nan s f := by
  rw [isnan_iff] at h
  unfold Ieee.Format.read
  simp only [dbl_sign, dbl_inf, dbl_binade]
  rw [if_neg (by omega), if_neg (by omega), if_neg (by omega)]
  exact ⟨_, _, rfl⟩

theorem read_notnan {x : Nat} (h : isnan x = false) : (∃ s, Ieee.double.read x = .infinity s) ∨ ∃ s m e, Ieee.double.read x = .number s m e := by
  have h' : ¬ 9218868437227405312 < x % 9223372036854775808 := fun g => by rw [(isnan_iff x).2 g] at h; cases h
  unfold Ieee.Format.read
  simp only [dbl_sign, dbl_inf, dbl_binade]
  split
  · exact Or.inr ⟨_, _, _, rfl⟩
  split
  · exact Or.inr ⟨_, _, _, rfl⟩
  rw [if_pos (by omega)]
  exact Or.inl ⟨_, rfl⟩

theorem order_nan_l {x y : Nat} (h : isnan x = true) : FloatKind.f64.format.order x y = none := by
  obtain ⟨s, f, e⟩ := read_isnan h
  show (Ieee.double.read x).order (Ieee.double.read y) = none
  rw [e]
  cases Ieee.double.read y <;> rfl
theorem order_nan_r {x y : Nat} (h : isnan y = true) : FloatKind.f64.format.order x y = none := by
  obtain ⟨s, f, e⟩ := read_isnan h
  show (Ieee.double.read x).order (Ieee.double.read y) = none
  rw [e]
  cases Ieee.double.read x <;> rfl
theorem order_refl {x : Nat} (h : isnan x = false) : FloatKind.f64.format.order x x = some .eq := by
  show (Ieee.double.read x).order (Ieee.double.read x) = _
  rcases read_notnan h with ⟨s, e⟩ | ⟨s, m, i, e⟩ <;> rw [e] <;> simp [Ieee.Datum.order]
theorem neq_self (x : Nat) : (FloatKind.f64.format.order x x != some .eq) = isnan x := by
  cases h : isnan x
  · rw [order_refl h]; rfl
  · rw [order_nan_l h]; rfl

/-- One of the four operations. -/
def isop (op : BinOp) : Prop := op = .add ∨ op = .sub ∨ op = .mul ∨ op = .quo

theorem fb_nan_l {op : BinOp} {x y : Nat} (h : isnan x = true) : floatBits op .f64 x y = none := by
  obtain ⟨s, f, e⟩ := read_isnan h
  have k : FloatKind.f64.format.read x = .nan s f := e
  cases op <;> try rfl
  · show (((FloatKind.f64.format.read x).sum (FloatKind.f64.format.read y)).map _) = none
    rw [k]; cases FloatKind.f64.format.read y <;> rfl
  · show (((FloatKind.f64.format.read x).sum (FloatKind.f64.format.read y).opposite).map _) = none
    rw [k]; cases (FloatKind.f64.format.read y).opposite <;> rfl
  · show (((FloatKind.f64.format.read x).product (FloatKind.f64.format.read y)).map _) = none
    rw [k]; cases FloatKind.f64.format.read y <;> rfl
  · show (((FloatKind.f64.format.read x).quotient _ (FloatKind.f64.format.read y)).map _) = none
    rw [k]; cases FloatKind.f64.format.read y <;> rfl
theorem fb_nan_r {op : BinOp} {x y : Nat} (h : isnan y = true) : floatBits op .f64 x y = none := by
  obtain ⟨s, f, e⟩ := read_isnan h
  have k : FloatKind.f64.format.read y = .nan s f := e
  cases op <;> try rfl
  · show (((FloatKind.f64.format.read x).sum (FloatKind.f64.format.read y)).map _) = none
    rw [k]; cases FloatKind.f64.format.read x <;> rfl
  · show (((FloatKind.f64.format.read x).sum (FloatKind.f64.format.read y).opposite).map _) = none
    rw [k]; cases FloatKind.f64.format.read x <;> rfl
  · show (((FloatKind.f64.format.read x).product (FloatKind.f64.format.read y)).map _) = none
    rw [k]; cases FloatKind.f64.format.read x <;> rfl
  · show (((FloatKind.f64.format.read x).quotient _ (FloatKind.f64.format.read y)).map _) = none
    rw [k]; cases FloatKind.f64.format.read x <;> rfl

theorem isnan_cut (x y t : Nat) : isnan (Question.cut (.nanBits .f64 x y) t) = true ∧ Question.cut (.nanBits .f64 x y) t < 18446744073709551616 := by
  refine ⟨?_, (nan_cut x y t).2⟩
  rw [isnan_iff]
  simp only [Question.cut]
  have hu : (t / 2) % (2 ^ 52 - 1) < 4503599627370495 := Nat.mod_lt _ (by decide)
  have hv : t % 2 = 0 ∨ t % 2 = 1 := by omega
  generalize (t / 2) % (2 ^ 52 - 1) = u at hu ⊢
  generalize t % 2 = v at hv ⊢
  rcases hv with rfl | rfl <;> omega

/-- What the machine hands back: the bits of the answer, or, where there is none, some NaN. -/
def FN (op : BinOp) (x y r : Nat) : Prop := r < 18446744073709551616 ∧ (floatBits op .f64 x y = some r ∨ (floatBits op .f64 x y = none ∧ isnan r = true))
/-- The same bits, or NaN both. -/
def Al (x y : Nat) : Prop := x = y ∨ (isnan x = true ∧ isnan y = true)

theorem Al.refl (x : Nat) : Al x x := .inl rfl

theorem FN.al {op : BinOp} {x y r x' y' r' : Nat} (h : FN op x y r) (h' : FN op x' y' r') (ax : Al x x') (ay : Al y y') : Al r r' := by
  have none_none : floatBits op .f64 x y = none → floatBits op .f64 x' y' = none → Al r r' := by
    intro e e'
    right
    refine ⟨?_, ?_⟩
    · rcases h.2 with g | ⟨_, g⟩
      · rw [e] at g; cases g
      · exact g
    · rcases h'.2 with g | ⟨_, g⟩
      · rw [e'] at g; cases g
      · exact g
  rcases ax with rfl | ⟨n1, n2⟩
  · rcases ay with rfl | ⟨n1, n2⟩
    · rcases h.2 with g | ⟨g, k⟩
      · rcases h'.2 with g' | ⟨g', _⟩
        · rw [g] at g'; exact .inl (Option.some.inj g')
        · rw [g] at g'; cases g'
      · exact none_none g g
    · exact none_none (fb_nan_r n1) (fb_nan_r n2)
  · exact none_none (fb_nan_l n1) (fb_nan_l n2)

theorem FN.some {op : BinOp} {x y r : Nat} (h : floatBits op .f64 x y = .some r) : FN op x y r := by
  have := floatBits_wf h
  simp [Lit.wf] at this
  exact ⟨this, Or.inl h⟩
theorem FN.none {op : BinOp} {x y : Nat} (t : Nat) (h : floatBits op .f64 x y = .none) : FN op x y (Question.cut (.nanBits .f64 x y) t) :=
  ⟨(isnan_cut x y t).2, Or.inr ⟨h, (isnan_cut x y t).1⟩⟩

/-- The root: its bits, or some NaN. -/
def FQ (x r : Nat) : Prop := r < 18446744073709551616 ∧ (Ieee.double.sqrt x = some r ∨ (Ieee.double.sqrt x = none ∧ isnan r = true))
theorem FQ.al {x r x' r' : Nat} (h : FQ x r) (h' : FQ x' r') (ax : Al x x') : Al r r' := by
  have none_none : Ieee.double.sqrt x = none → Ieee.double.sqrt x' = none → Al r r' := by
    intro e e'
    right
    refine ⟨?_, ?_⟩
    · rcases h.2 with g | ⟨_, g⟩
      · rw [e] at g; cases g
      · exact g
    · rcases h'.2 with g | ⟨_, g⟩
      · rw [e'] at g; cases g
      · exact g
  have nn : ∀ z, isnan z = true → Ieee.double.sqrt z = none := by
    intro z hz
    obtain ⟨s, f, e⟩ := read_isnan hz
    show ((Ieee.double.read z).root _).map _ = none
    rw [e]; rfl
  rcases ax with rfl | ⟨n1, n2⟩
  · rcases h.2 with g | ⟨g, k⟩
    · rcases h'.2 with g' | ⟨g', _⟩
      · rw [g] at g'; exact .inl (Option.some.inj g')
      · rw [g] at g'; cases g'
    · exact none_none g g
  · exact none_none (nn _ n1) (nn _ n2)

/-- Same, of reals. -/
def sameR (x y : Nat) : Bool := isnan x && isnan y || x == y
theorem Al.same {x y : Nat} (h : Al x y) : sameR x y = true := by
  rcases h with rfl | ⟨h1, h2⟩
  · simp [sameR]
  · simp [sameR, h1, h2]

/-! ### The order of sizes -/

/-- The number at a rung, in units of the least float. -/
def rungVal (r : Nat) : Nat := if r < 4503599627370496 then r else (4503599627370496 + r % 4503599627370496) * 2 ^ (r / 4503599627370496 - 1)

theorem rungVal_lt {r s : Nat} (h : r < s) : rungVal r < rungVal s := by
  unfold rungVal
  by_cases hr : r < 4503599627370496
  · rw [if_pos hr]
    by_cases hs : s < 4503599627370496
    · rw [if_pos hs]; exact h
    · rw [if_neg hs]
      have hp : 0 < 2 ^ (s / 4503599627370496 - 1) := Nat.two_pow_pos _
      have : 4503599627370496 * 1 ≤ (4503599627370496 + s % 4503599627370496) * 2 ^ (s / 4503599627370496 - 1) := Nat.mul_le_mul (by omega) hp
      omega
  · have hs : ¬ s < 4503599627370496 := by omega
    rw [if_neg hr, if_neg hs]
    have hd : r / 4503599627370496 ≤ s / 4503599627370496 := Nat.div_le_div_right (by omega)
    rcases Nat.lt_or_eq_of_le hd with hd | hd
    · have e1 : s / 4503599627370496 - 1 = (r / 4503599627370496 - 1) + 1 + (s / 4503599627370496 - r / 4503599627370496 - 1) := by omega
      generalize hk : s / 4503599627370496 - r / 4503599627370496 - 1 = k at e1
      rw [e1, Nat.pow_add, Nat.pow_succ]
      have hp : 0 < 2 ^ (r / 4503599627370496 - 1) := Nat.two_pow_pos _
      have hq : 0 < 2 ^ k := Nat.two_pow_pos _
      have a1 : (4503599627370496 + r % 4503599627370496) * 2 ^ (r / 4503599627370496 - 1) < (4503599627370496 * 2) * 2 ^ (r / 4503599627370496 - 1) := Nat.mul_lt_mul_of_pos_right (by omega) hp
      have a2 : (4503599627370496 * 2) * 2 ^ (r / 4503599627370496 - 1) = 4503599627370496 * (2 ^ (r / 4503599627370496 - 1) * 2) * 1 := by rw [Nat.mul_assoc, Nat.mul_comm 2, Nat.mul_one]
      have a3 : 4503599627370496 * (2 ^ (r / 4503599627370496 - 1) * 2) * 1 ≤ 4503599627370496 * (2 ^ (r / 4503599627370496 - 1) * 2) * 2 ^ k := Nat.mul_le_mul_left _ hq
      have a4 : 4503599627370496 * (2 ^ (r / 4503599627370496 - 1) * 2) * 2 ^ k = 4503599627370496 * (2 ^ (r / 4503599627370496 - 1) * 2 * 2 ^ k) := Nat.mul_assoc _ _ _
      have a5 : 4503599627370496 * (2 ^ (r / 4503599627370496 - 1) * 2 * 2 ^ k) ≤ (4503599627370496 + s % 4503599627370496) * (2 ^ (r / 4503599627370496 - 1) * 2 * 2 ^ k) := Nat.mul_le_mul_right _ (by omega)
      omega
    · rw [← hd]
      exact Nat.mul_lt_mul_of_pos_right (by omega) (Nat.two_pow_pos _)

theorem rungVal_le {r s : Nat} (h : r ≤ s) : rungVal r ≤ rungVal s := by
  rcases Nat.lt_or_eq_of_le h with h | rfl
  · exact Nat.le_of_lt (rungVal_lt h)
  · exact Nat.le_refl _

theorem rungVal_cmp (r s : Nat) : compare (rungVal r) (rungVal s) = compare r s := by
  rcases Nat.lt_trichotomy r s with h | rfl | h
  · rw [Nat.compare_eq_lt.2 h, Nat.compare_eq_lt.2 (rungVal_lt h)]
  · simp
  · rw [Nat.compare_eq_gt.2 h, Nat.compare_eq_gt.2 (rungVal_lt h)]

theorem dbl_least : Ieee.double.leastPlace = -1074 := by decide

/-- What a finite word stands for. -/
theorem read_num {x : Nat} (h : x % 9223372036854775808 < 9218868437227405312) :
    ∃ m a, Ieee.double.read x = .number (x / 9223372036854775808 % 2 == 1) m (-1074 + (a : Nat)) ∧ m * 2 ^ a = rungVal (x % 9223372036854775808) := by
  unfold Ieee.Format.read
  simp only [dbl_sign, dbl_inf, dbl_binade, dbl_least]
  by_cases hb : x % 9223372036854775808 < 4503599627370496
  · rw [if_pos hb]
    exact ⟨_, 0, rfl, by rw [rungVal, if_pos hb]; simp⟩
  · rw [if_neg hb, if_pos h]
    exact ⟨_, _, rfl, by rw [rungVal, if_neg hb]⟩

theorem shl_cmp (m n a b : Nat) : compare (Ieee.signed false m (((-1074 + (a : Nat) : Int) - min (-1074 + (a : Nat) : Int) (-1074 + (b : Nat) : Int))).toNat) (Ieee.signed false n (((-1074 + (b : Nat) : Int) - min (-1074 + (a : Nat) : Int) (-1074 + (b : Nat) : Int))).toNat) = compare (m * 2 ^ a) (n * 2 ^ b) := by
  have e1 : ((-1074 + (a : Nat) : Int) - min (-1074 + (a : Nat) : Int) (-1074 + (b : Nat) : Int)).toNat = a - min a b := by omega
  have e2 : ((-1074 + (b : Nat) : Int) - min (-1074 + (a : Nat) : Int) (-1074 + (b : Nat) : Int)).toNat = b - min a b := by omega
  rw [e1, e2]
  simp only [Ieee.signed, Nat.shiftLeft_eq]
  have hp : 0 < 2 ^ min a b := Nat.two_pow_pos _
  have f1 : m * 2 ^ a = m * 2 ^ (a - min a b) * 2 ^ min a b := by rw [Nat.mul_assoc, ← Nat.pow_add]; congr 2; omega
  have f2 : n * 2 ^ b = n * 2 ^ (b - min a b) * 2 ^ min a b := by rw [Nat.mul_assoc, ← Nat.pow_add]; congr 2; omega
  rw [f1, f2]
  generalize m * 2 ^ (a - min a b) = u
  generalize n * 2 ^ (b - min a b) = v
  generalize 2 ^ min a b = p at hp
  simp only [Bool.false_eq_true, if_false]
  rcases Nat.lt_trichotomy u v with h | rfl | h
  · rw [Nat.compare_eq_lt.2 (Nat.mul_lt_mul_of_pos_right h hp)]
    exact Int.compare_eq_lt.2 (by omega)
  · simp
  · rw [Nat.compare_eq_gt.2 (Nat.mul_lt_mul_of_pos_right h hp)]
    exact Int.compare_eq_gt.2 (by omega)

/-- Of sizes the order is that of their bits. -/
theorem order_pos {x y : Nat} (hx : x ≤ 9218868437227405312) (hy : y ≤ 9218868437227405312) : FloatKind.f64.format.order x y = some (compare x y) := by
  show (Ieee.double.read x).order (Ieee.double.read y) = _
  have inf : Ieee.double.read 9218868437227405312 = .infinity false := by decide
  have hm : ∀ z : Nat, z < 9218868437227405312 → z % 9223372036854775808 = z ∧ (z / 9223372036854775808 % 2 == 1) = false := fun z hz => ⟨Nat.mod_eq_of_lt (by omega), by rw [Nat.div_eq_of_lt (by omega)]; rfl⟩
  rcases Nat.lt_or_eq_of_le hx with gx | rfl
  · obtain ⟨m, a, ex, vx⟩ := read_num (x := x) (by rw [(hm x gx).1]; exact gx)
    rw [(hm x gx).1] at vx
    rw [(hm x gx).2] at ex
    rcases Nat.lt_or_eq_of_le hy with gy | rfl
    · obtain ⟨n, b, ey, vy⟩ := read_num (x := y) (by rw [(hm y gy).1]; exact gy)
      rw [(hm y gy).1] at vy
      rw [(hm y gy).2] at ey
      rw [ex, ey]
      simp only [Ieee.Datum.order]
      rw [shl_cmp, vx, vy, rungVal_cmp]
    · rw [ex, inf, Nat.compare_eq_lt.2 gx]; rfl
  · rcases Nat.lt_or_eq_of_le hy with gy | rfl
    · obtain ⟨n, b, ey, vy⟩ := read_num (x := y) (by rw [(hm y gy).1]; exact gy)
      rw [ey, inf, Nat.compare_eq_gt.2 gy]; rfl
    · rw [inf]; simp [Ieee.Datum.order]

end Go.Proofs.Ytigglhdadofpaaa

/- Lists of 32-bit words as plain data: their trimmed length, their value, when they are read out of memory. Nothing here speaks of the program. -/
namespace Go.Proofs.Ytigglhdadofpaaa
open Go.RowKit

theorem hid {p : Prop} (h : p) : Hid p := h

/-- Each number is a word of 32 bits. -/
def Wd (zs : List Int) : Prop := ∀ z ∈ zs, 0 ≤ z ∧ z ≤ 4294967295

theorem Wd.at {zs : List Int} (h : Wd zs) (j : Nat) : 0 ≤ zs[j]?.getD 0 ∧ zs[j]?.getD 0 ≤ 4294967295 := by
  by_cases hj : j < zs.length
  · rw [List.getElem?_eq_getElem hj]; exact h _ (List.getElem_mem hj)
  · rw [List.getElem?_eq_none (by omega)]; exact ⟨by decide, by decide⟩

theorem Wd.take {zs : List Int} (h : Wd zs) (k : Nat) : Wd (zs.take k) := fun z hz => h z (List.mem_of_mem_take hz)
theorem Wd.drop {zs : List Int} (h : Wd zs) (k : Nat) : Wd (zs.drop k) := fun z hz => h z (List.mem_of_mem_drop hz)
theorem Wd.append {zs ys : List Int} (h : Wd zs) (g : Wd ys) : Wd (zs ++ ys) := fun z hz => (List.mem_append.1 hz).elim (h z) (g z)
theorem Wd.nil : Wd [] := fun _ hz => by simp at hz
theorem Wd.cons {z : Int} {zs : List Int} (h0 : 0 ≤ z ∧ z ≤ 4294967295) (h : Wd zs) : Wd (z :: zs) := fun y hy => by
  rcases List.mem_cons.1 hy with rfl | hy
  · exact h0
  · exact h y hy
theorem Wd.one {z : Int} (h0 : 0 ≤ z ∧ z ≤ 4294967295) : Wd [z] := Wd.cons h0 Wd.nil
theorem Wd.replicate (n : Nat) : Wd (List.replicate n 0) := fun z hz => by
  have := (List.mem_replicate.1 hz).2; omega
theorem Wd.set {zs : List Int} (h : Wd zs) (j : Nat) {z : Int} (h0 : 0 ≤ z ∧ z ≤ 4294967295) : Wd (zs.set j z) := fun y hy => by
  rcases List.mem_or_eq_of_mem_set hy with hy | rfl
  · exact h y hy
  · exact h0
theorem Wd.tail {z : Int} {zs : List Int} (h : Wd (z :: zs)) : Wd zs := fun y hy => h y (List.mem_cons_of_mem _ hy)
theorem Wd.head {z : Int} {zs : List Int} (h : Wd (z :: zs)) : 0 ≤ z ∧ z ≤ 4294967295 := h z List.mem_cons_self

/-- How many of the first k words stay when noughts at their end are dropped. -/
def szTo (zs : List Int) : Nat → Nat
  | 0 => 0
  | k + 1 => if zs[k]?.getD 0 = 0 then szTo zs k else k + 1
def sz (zs : List Int) : Nat := szTo zs zs.length
def trimmed (zs : List Int) : List Int := zs.take (sz zs)

theorem szTo_le (zs : List Int) : ∀ k, szTo zs k ≤ k
  | 0 => Nat.le_refl _
  | k + 1 => by
    unfold szTo
    split
    · exact Nat.le_succ_of_le (szTo_le zs k)
    · exact Nat.le_refl _
theorem sz_le (zs : List Int) : sz zs ≤ zs.length := szTo_le zs _
theorem szTo_zero (zs : List Int) (k : Nat) (h : zs[k]?.getD 0 = 0) : szTo zs (k + 1) = szTo zs k := by simp [szTo, h]
theorem szTo_keep (zs : List Int) (k : Nat) (h : ¬ zs[k]?.getD 0 = 0) : szTo zs (k + 1) = k + 1 := by simp [szTo, h]
theorem length_trimmed (zs : List Int) : (trimmed zs).length = sz zs := by
  unfold trimmed; rw [List.length_take, Nat.min_eq_left (sz_le zs)]
theorem Wd.trimmed {zs : List Int} (h : Wd zs) : Wd (trimmed zs) := h.take _
/-- Behind the trimmed length stand noughts alone. -/
theorem szTo_behind (zs : List Int) : ∀ k j, szTo zs k ≤ j → j < k → zs[j]?.getD 0 = 0
  | 0, _, _, h => by omega
  | k + 1, j, h1, h2 => by
    by_cases h : zs[k]?.getD 0 = 0
    · rw [szTo_zero zs k h] at h1
      by_cases e : j = k
      · rw [e]; exact h
      · exact szTo_behind zs k j h1 (by omega)
    · rw [szTo_keep zs k h] at h1; omega
theorem sz_behind (zs : List Int) (j : Nat) (h1 : sz zs ≤ j) : zs[j]?.getD 0 = 0 := by
  by_cases h : j < zs.length
  · exact szTo_behind zs _ j h1 h
  · rw [List.getElem?_eq_none (by omega)]; rfl
/-- The last word that stays is not 0. -/
theorem szTo_top (zs : List Int) : ∀ k, 0 < szTo zs k → ¬ zs[szTo zs k - 1]?.getD 0 = 0
  | 0, h => by simp [szTo] at h
  | k + 1, h => by
    by_cases e : zs[k]?.getD 0 = 0
    · rw [szTo_zero zs k e] at h ⊢; exact szTo_top zs k h
    · rw [szTo_keep zs k e]; simpa using e
theorem sz_top (zs : List Int) (h : 0 < sz zs) : ¬ zs[sz zs - 1]?.getD 0 = 0 := szTo_top zs _ h

/-- The list is trimmed: just if it is empty or its last word is not 0. -/
theorem sz_eq_iff (zs : List Int) : sz zs = zs.length ↔ zs.length = 0 ∨ ¬ zs[zs.length - 1]?.getD 0 = 0 := by
  constructor
  · intro h
    by_cases h0 : zs.length = 0
    · exact .inl h0
    · right; have := sz_top zs (by omega); rwa [h] at this
  · rintro (h | h)
    · have := sz_le zs; omega
    · by_cases h0 : zs.length = 0
      · have := sz_le zs; omega
      · obtain ⟨m, hm⟩ : ∃ m, zs.length = m + 1 := ⟨zs.length - 1, by omega⟩
        unfold sz; rw [hm]; rw [hm] at h
        exact szTo_keep zs m (by simpa using h)

/-- The slice whose address is 'a', whose length is 'n' and whose capacity is 'cap' reads as 'zs' in the world 'w': below block number B. -/
def Reads (w : World) (B : Nat) (a : Option Addr) (n cap : Nat) (zs : List Int) : Prop :=
  zs.length = n ∧ Wd zs ∧ (n = 0 ∨ ∃ b o, a = some ⟨b, o, none⟩ ∧ b < B ∧ ∀ j, j < n → w.cell? ⟨b, o + j, none⟩ = some (.int .u32 (zs[j]?.getD 0))) ∧ n ≤ cap ∧ cap ≤ maxLen ∧ (a = none → cap = 0)

theorem Reads.later {w w' : World} {B B' : Nat} {a : Option Addr} {n cap : Nat} {zs : List Int} (h : Reads w B a n cap zs) (hb : Below B w w') (hB : B ≤ B') : Reads w' B' a n cap zs := by
  obtain ⟨h1, h2, h3, h4⟩ := h
  refine ⟨h1, h2, h3.imp id ?_, h4⟩
  rintro ⟨b, o, rfl, hlt, hc⟩
  exact ⟨b, o, rfl, by omega, fun j hj => (hb.cell (p := ⟨b, o + j, none⟩) hlt).trans (hc j hj)⟩

/-- Of a slice its first k elements. -/
theorem Reads.front {w : World} {B : Nat} {a : Option Addr} {n cap : Nat} {zs : List Int} (h : Reads w B a n cap zs) (k : Nat) (hk : k ≤ n) : Reads w B a k cap (zs.take k) := by
  obtain ⟨h1, h2, h3, h4, h5, h6⟩ := h
  refine ⟨by rw [List.length_take]; omega, h2.take k, ?_, by omega, h5, h6⟩
  rcases h3 with h3 | ⟨b, o, ha, hlt, hc⟩
  · left; omega
  · right
    refine ⟨b, o, ha, hlt, fun j hj => ?_⟩
    rw [hc j (by omega), List.getElem?_take, if_pos hj]

/-- What the call owns is read as its words. -/
theorem Reads.own {w : World} {base e : Nat} {v : Value} {zs : List Int} {n : Nat} (h : w.ownsRow base e 1 v n (zs.map (Value.int .u32))) (hw : Wd zs) :
    ∃ a cap, v = .slice a n cap ∧ Reads w w.heap.size a n cap zs := by
  have hl := h.1
  simp at hl
  rcases h.2 with ⟨rfl, rfl⟩ | ⟨g, cap, cur, rfl, hb, hg, hnc, hcm, hcs, ht⟩
  · exact ⟨none, 0, rfl, by omega, hw, .inl rfl, Nat.le_refl _, Nat.zero_le _, fun _ => rfl⟩
  · refine ⟨_, cap, rfl, by omega, hw, ?_, hnc, hcm, fun h => by simp at h⟩
    right
    refine ⟨g, 0, rfl, ?_, fun j hj => ?_⟩
    · have : w.heap[g]?.isSome := by rw [hg]; rfl
      simpa using this
    · have hc := h.cellAt j (by omega)
      rw [Nat.zero_add, hc, List.getElem?_map, List.getElem?_eq_getElem (by omega)]
      simp

/-- What is owned stays owned while only newer memory is made. -/
theorem owns_later {w w' : World} {base e : Nat} {v : Value} {n : Nat} {xs : List Value} (h : w.ownsRow base e 1 v n xs) (hb : Below w.heap.size w w') : w'.ownsRow base e 1 v n xs := by
  refine ⟨h.1, h.2.imp id ?_⟩
  rintro ⟨g, cap, cur, rfl, hbg, hg, h1, h2, h3, h4⟩
  refine ⟨g, cap, cur, rfl, hbg, ?_, h1, h2, h3, h4⟩
  rw [hb.block g (by
    have : w.heap[g]?.isSome := by rw [hg]; rfl
    simpa using this)]
  exact hg

/-- What is owned from one block number on is owned from every smaller one on. -/
theorem owns_base {w : World} {base base' e : Nat} {v : Value} {n : Nat} {xs : List Value} (h : w.ownsRow base e 1 v n xs) (hb : base' ≤ base) : w.ownsRow base' e 1 v n xs := by
  refine ⟨h.1, h.2.imp id ?_⟩
  rintro ⟨g, cap, cur, rfl, hbg, hr⟩
  exact ⟨g, cap, cur, rfl, by omega, hr⟩
/-- A slice literal, just laid, is read. -/
theorem Reads.lit (w : World) (e : Nat) (zs : List Int) (hw : Wd zs) (hm : zs.length ≤ maxLen) : Reads (w.alloc (.cells ((zs.map (Value.int .u32)).toArray) e)) (w.alloc (.cells ((zs.map (Value.int .u32)).toArray) e)).heap.size (some ⟨w.heap.size, 0, none⟩) zs.length zs.length zs := by
  have h := World.ownsRow_lit (base := w.heap.size) (e := e) (size := 1) w ((zs.map (Value.int .u32)).toArray) zs.length (Nat.le_refl _) hm (by simp)
  obtain ⟨a, cap, hv, hr⟩ := Reads.own (zs := zs) (by simpa using h) hw
  simp only [Value.slice.injEq] at hv
  obtain ⟨rfl, _, rfl⟩ := hv
  exact hr

/-- A word above a word. -/
theorem or_join (x y : Int) (hx0 : 0 ≤ x) (hx : x ≤ 4294967295) (hy0 : 0 ≤ y) (hy : y ≤ 4294967295) : bits BinOp.or IntKind.u64 (x * 4294967296) y = y + x * 4294967296 := by
  rw [u64_or _ _ (by omega) (by omega) (by omega) (by omega), nat_join 32 _ _ (by omega) (by omega)]
  omega

theorem ret_int {k : IntKind} {a b : Int} (h : a = b) : Ending.returned (.int k a) = .returned (.int k b) := by rw [h]
theorem ret_bool {a b : Bool} (h : a = b) : Ending.returned (.bool a) = .returned (.bool b) := by rw [h]
end Go.Proofs.Ytigglhdadofpaaa

/- real.finite, real.twoSum, real.TwoSum and the document's Finite, TwoSum, of any floats, by their bits. -/
namespace Go.Proofs.Ytigglhdadofpaaa
open Go.RowKit
set_option linter.unusedVariables false

theorem fin_int (x : Nat) (hx : x < 18446744073709551616) : (bits .and .u64 ((x : Int) / 4503599627370496) 2047 != 2047) = fin x := by
  have e : bits .and .u64 ((x : Int) / 4503599627370496) 2047 = ((x / 4503599627370496 % 2048 : Nat) : Int) := by
    have e0 : (x : Int) / 4503599627370496 = ((x / 4503599627370496 : Nat) : Int) := by omega
    rw [e0]
    have e1 := u64_and_nat (x / 4503599627370496) 2047 (by omega) (by omega)
    have e2 : x / 4503599627370496 &&& 2047 = x / 4503599627370496 % 2048 := Nat.and_two_pow_sub_one_eq_mod _ 11
    rw [e2] at e1
    exact e1
  rw [e]
  unfold fin
  by_cases h : x / 4503599627370496 % 2048 = 2047
  · rw [h]; rfl
  · rw [bne_iff_ne.2 h, bne_iff_ne.2 (by omega)]

/-- What the machine hands back, and the world behind it. -/
def fval (op : BinOp) (V : World) (x y : Nat) : Nat := match floatBits op .f64 x y with
  | .some r => r
  | .none => Question.cut (.nanBits .f64 x y) (V.tape V.drawn (.nanBits .f64 x y))
def fwld (op : BinOp) (V : World) (x y : Nat) : World := match floatBits op .f64 x y with
  | .some _ => V
  | .none => V.drew
theorem fval_fr (op : BinOp) (V : World) (x y : Nat) : FR op x y (fval op V x y) := by
  cases h : floatBits op .f64 x y with
  | some r => simp only [fval, h]; exact FR.some h
  | none => simp only [fval, h]; exact FR.none _ h
theorem fwld_below (op : BinOp) {B : Nat} {U V : World} (x y : Nat) (h : Below B U V) : Below B U (fwld op V x y) := by
  cases e : floatBits op .f64 x y with
  | some r => simp only [fwld, e]; exact h
  | none => simp only [fwld, e]; exact h.drew
theorem fadd_run (P : Program) (t : TypeId) (V : World) (x y : Nat) : (binOp .add t (.float .f64 x) (.float .f64 y)).run P V = .ok (.float .f64 (fval .add V x y)) (fwld .add V x y) := by
  cases h : floatBits .add .f64 x y with
  | some r => simp only [fval, fwld, h]; exact run_float_arith V _ _ _ _ _ _ h
  | none => simp only [fval, fwld, h]; exact run_add P V t x y h
theorem fsub_run (P : Program) (t : TypeId) (V : World) (x y : Nat) : (binOp .sub t (.float .f64 x) (.float .f64 y)).run P V = .ok (.float .f64 (fval .sub V x y)) (fwld .sub V x y) := by
  cases h : floatBits .sub .f64 x y with
  | some r => simp only [fval, fwld, h]; exact run_float_arith V _ _ _ _ _ _ h
  | none => simp only [fval, fwld, h]; exact run_sub P V t x y h

theorem from_run (x : Nat) (w : World) : (callFunc 4 #[.int .u64 (x : Int)]).run Try.prog w = .ok (.value (.float .f64 x)) w := by
  rw [run_callFunc_extern (fn := Try.f4) Try.func4 (by kernel_rfl) (by kernel_rfl) (by kernel_rfl) (e := Extern.MathFloatBits.float64frombits) (by kernel_rfl)]
  rfl

theorem Two.lt {a b s e : Nat} (h : Two a b s e) : s < 18446744073709551616 ∧ e < 18446744073709551616 := by
  obtain ⟨t, d, p, q, h1, h2, h3, h4, h5, h6⟩ := h
  exact ⟨h1.1, h6.1⟩

/-- What TwoSum tells. -/
def tsumV (r : Nat × Nat × Int) : Value := .tuple #[.float .f64 r.1, .float .f64 r.2.1, .int .i64 r.2.2]

end Go.Proofs.Ytigglhdadofpaaa

/- The calls of parts and of the document's answers for it, of any complex numbers, by their parts' bits. -/
namespace Go.Proofs.Ytigglhdadofpaaa
open Go.RowKit
set_option linter.unusedVariables false

theorem fval_fn (op : BinOp) (V : World) (x y : Nat) : FN op x y (fval op V x y) := by
  cases h : floatBits op .f64 x y with
  | some r => simp only [fval, h]; exact FN.some h
  | none => simp only [fval, h]; exact FN.none _ h
theorem fmul_run (P : Program) (t : TypeId) (V : World) (x y : Nat) : (binOp .mul t (.float .f64 x) (.float .f64 y)).run P V = .ok (.float .f64 (fval .mul V x y)) (fwld .mul V x y) := by
  cases h : floatBits .mul .f64 x y with
  | some r => simp only [fval, fwld, h]; exact run_float_arith V _ _ _ _ _ _ h
  | none =>
    have h' : FloatKind.f64.format.mul x y = .none := h
    simp only [fval, fwld, h]
    simp [binOp, Op.floatArith, h', Question.forced]
theorem fquo_run (P : Program) (t : TypeId) (V : World) (x y : Nat) : (binOp .quo t (.float .f64 x) (.float .f64 y)).run P V = .ok (.float .f64 (fval .quo V x y)) (fwld .quo V x y) := by
  cases h : floatBits .quo .f64 x y with
  | some r => simp only [fval, fwld, h]; exact run_float_arith V _ _ _ _ _ _ h
  | none =>
    have h' : FloatKind.f64.format.div x y = .none := h
    simp only [fval, fwld, h]
    simp [binOp, Op.floatArith, h', Question.forced]

/-- The root as the machine makes it, and the world behind it. -/
def qval (V : World) (x : Nat) : Nat := match Ieee.double.sqrt x with
  | .some r => r
  | .none => Question.cut (.nanBits .f64 x x) (V.tape V.drawn (.nanBits .f64 x x))
def qwld (V : World) (x : Nat) : World := match Ieee.double.sqrt x with
  | .some _ => V
  | .none => V.drew
theorem qval_fq (V : World) (x : Nat) : FQ x (qval V x) := by
  cases h : Ieee.double.sqrt x with
  | some r =>
    simp only [qval, h]
    have := Ieee.Format.sqrt_lt Ieee.double h
    exact ⟨this, Or.inl h⟩
  | none => simp only [qval, h]; exact ⟨(isnan_cut x x _).2, Or.inr ⟨h, (isnan_cut x x _).1⟩⟩
theorem qwld_below {B : Nat} {U V : World} (x : Nat) (h : Below B U V) : Below B U (qwld V x) := by
  cases e : Ieee.double.sqrt x with
  | some r => simp only [qwld, e]; exact h
  | none => simp only [qwld, e]; exact h.drew
theorem sqrt_eq (x : Nat) : Extern.MathSqrt.sqrt #[.float .f64 x] = (match FloatKind.f64.format.sqrt x with
    | some r => pure (.float .f64 r)
    | none => do pure (.float .f64 (← choose (.nanBits .f64 x x)))) := rfl
/-- What a product is made of. -/
def MulR (a b c d re im : Nat) : Prop := ∃ x y u v, FN .mul a c x ∧ FN .mul b d y ∧ FN .sub x y re ∧ FN .mul a d u ∧ FN .mul b c v ∧ FN .add u v im
theorem MulR.al {a b c d re im re' im' : Nat} (h : MulR a b c d re im) (h' : MulR a b c d re' im') : Al re re' ∧ Al im im' := by
  obtain ⟨x, y, u, v, h1, h2, h3, h4, h5, h6⟩ := h
  obtain ⟨x', y', u', v', h1', h2', h3', h4', h5', h6'⟩ := h'
  exact ⟨h3.al h3' (h1.al h1' (.refl _) (.refl _)) (h2.al h2' (.refl _) (.refl _)), h6.al h6' (h4.al h4' (.refl _) (.refl _)) (h5.al h5' (.refl _) (.refl _))⟩

/-- The other sign. -/
def fneg (x : Nat) : Nat := Op.negFloat .f64 x

theorem absBits (x : Nat) (h : x < 18446744073709551616) : bits .andNot .u64 (x : Int) 9223372036854775808 = ((x % 9223372036854775808 : Nat) : Int) := by
  have e := u64_andNot_nat x 9223372036854775808 h (by decide)
  have e2 : x &&& (18446744073709551615 - 9223372036854775808) = x % 9223372036854775808 := Nat.and_two_pow_sub_one_eq_mod _ 63
  rw [e2] at e
  exact e

/-- An infinity, by the size's bits. -/
def isinf (x : Nat) : Bool := x == 9218868437227405312

theorem gt_max {x : Nat} (h : x < 9223372036854775808) : (FloatKind.f64.format.order x 9218868437227405311 == some .gt) = isinf x := by
  by_cases hn : isnan x = true
  · rw [order_nan_l hn]
    rw [isnan_iff] at hn
    have : x ≠ 9218868437227405312 := by rintro rfl; revert hn; decide
    simp [isinf, this]
  · have hx : x ≤ 9218868437227405312 := by rw [isnan_iff] at hn; omega
    rw [order_pos hx (by decide)]
    by_cases e : x = 9218868437227405312
    · subst e; decide
    · have : x ≤ 9218868437227405311 := by omega
      have hc : compare x 9218868437227405311 ≠ .gt := by
        intro g; rw [Nat.compare_eq_gt] at g; omega
      cases hh : compare x 9218868437227405311
      · simp [isinf, e]
      · simp [isinf, e]
      · exact absurd hh hc

theorem natBeq (x y : Nat) : ((x : Int) == (y : Int)) = (x == y) := by
  by_cases h : x = y
  · subst h; simp
  · rw [beq_eq_false_iff_ne.2 h, beq_eq_false_iff_ne.2 (by omega)]

end Go.Proofs.Ytigglhdadofpaaa

/- height.Lower and the document's Lower, of any floats, by their bits. -/
namespace Go.Proofs.Ytigglhdadofpaaa
open Go.RowKit
set_option linter.unusedVariables false

/-- What Lower tells, whichever NaN the machine makes on the way. -/
def LowR (h b i c : Nat) (r : Bool) : Prop := ∃ x y, FN .add h b x ∧ FN .sub i c y ∧ r = (FloatKind.f64.format.order x y == some .lt)

theorem order_al {x y x' y' : Nat} (ax : Al x x') (ay : Al y y') : FloatKind.f64.format.order x y = FloatKind.f64.format.order x' y' := by
  rcases ax with rfl | ⟨n1, n2⟩
  · rcases ay with rfl | ⟨m1, m2⟩
    · rfl
    · rw [order_nan_r m1, order_nan_r m2]
  · rw [order_nan_l n1, order_nan_l n2]

theorem LowR.one {h b i c : Nat} {r s : Bool} (hr : LowR h b i c r) (hs : LowR h b i c s) : r = s := by
  obtain ⟨x, y, hx, hy, rfl⟩ := hr
  obtain ⟨u, v, hu, hv, rfl⟩ := hs
  rw [order_al (hx.al hu (.refl _) (.refl _)) (hy.al hv (.refl _) (.refl _))]

theorem he_one (w : World) (o : Obj) : Below w.heap.size w (w.alloc o) := (Below.refl _ _).alloc (Nat.le_refl _) _
theorem he_bt {a b c : World} (h : Below a.heap.size a b) (g : Below b.heap.size b c) : Below a.heap.size a c := h.trans (g.mono h.size)
theorem he_two (w : World) (o p : Obj) : Below w.heap.size w ((w.alloc o).alloc p) := he_bt (he_one w o) (he_one _ p)
theorem heW_cell (op : BinOp) (V : World) (x y : Nat) (p : Addr) : (fwld op V x y).cell? p = V.cell? p := by
  cases h : floatBits op .f64 x y with
  | some r => simp only [fwld, h]
  | none => simp only [fwld, h]; rfl

set_option maxHeartbeats 1600000 in
set_option maxRecDepth 100000 in
theorem heLower_any (h b i c : Nat) (w : World) :
    Calls Try.prog 5 #[.agg #[.float .f64 h, .float .f64 b], .agg #[.float .f64 i, .float .f64 c]] w fun e w' => ∃ r, e = .returned (.bool r) ∧ LowR h b i c r ∧ Below w.heap.size w w' := by
  have hC := heW_cell
  have rA := fadd_run Try.prog 23
  have rS := fsub_run Try.prog 23
  go_enter Try.func5, Try.ntmps5
  go_wp2_with fail
  go_returns
  refine ⟨_, rfl, ⟨_, _, fval_fn .add _ _ _, fval_fn .sub _ _ _, rfl⟩, ?_⟩
  refine fwld_below _ _ _ ?_
  refine fwld_below _ _ _ ?_
  exact he_two w _ _

set_option maxHeartbeats 1600000 in
set_option maxRecDepth 100000 in
theorem hdLower_any (h b i c : Nat) (w : World) :
    Calls Try.prog 6 #[.agg #[.float .f64 h, .float .f64 b], .agg #[.float .f64 i, .float .f64 c]] w fun e w' => ∃ r, e = .returned (.bool r) ∧ LowR h b i c r ∧ Below w.heap.size w w' := by
  have hC := heW_cell
  have rA := fadd_run Try.prog 23
  have rS := fsub_run Try.prog 23
  go_enter Try.func6, Try.ntmps6
  go_wp2_with fail
  go_returns
  refine ⟨_, rfl, ⟨_, _, fval_fn .add _ _ _, fval_fn .sub _ _ _, rfl⟩, ?_⟩
  refine fwld_below _ _ _ ?_
  refine fwld_below _ _ _ ?_
  exact he_two w _ _

end Go.Proofs.Ytigglhdadofpaaa

/- The document's TwoSum; slackwaterkit.SameFloat, SameBits of one float twice; lists of floats: CopyFloats, LentFloats, SameFloats, KeptFloats. -/
namespace Go.Proofs.Ytigglhdadofpaaa
open Go.RowKit
set_option linter.unusedVariables false

theorem fadd_ex (P : Program) (t : TypeId) (V : World) (x y : Nat) : ∃ r V', (binOp .add t (.float .f64 x) (.float .f64 y)).run P V = .ok (.float .f64 r) V' ∧ Hid (FR .add x y r ∧ Below V.heap.size V V') :=
  ⟨_, _, fadd_run P t V x y, fval_fr .add V x y, fwld_below .add x y (Below.refl _ _)⟩
theorem fsub_ex (P : Program) (t : TypeId) (V : World) (x y : Nat) : ∃ r V', (binOp .sub t (.float .f64 x) (.float .f64 y)).run P V = .ok (.float .f64 r) V' ∧ Hid (FR .sub x y r ∧ Below V.heap.size V V') :=
  ⟨_, _, fsub_run P t V x y, fval_fr .sub V x y, fwld_below .sub x y (Below.refl _ _)⟩
theorem b2 {a b c : World} (h : Below a.heap.size a b) (g : Below b.heap.size b c) : Below a.heap.size a c := h.trans (g.mono h.size)

theorem Try.infoF : (Try.prog.info? 23).map (fun i => (i.zero, i.size, i.bytes)) = some (some (.float .f64 0), 1, 8) := by kernel_rfl

/-- The slice reads as these floats. -/
def RdF (w : World) (B : Nat) (a : Option Addr) (n cap : Nat) (xs : List Nat) : Prop :=
  xs.length = n ∧ (n = 0 ∨ ∃ b o, a = some ⟨b, o, none⟩ ∧ b < B ∧ ∀ j, j < n → w.cell? ⟨b, o + j, none⟩ = some (.float .f64 (xs[j]?.getD 0))) ∧ n ≤ cap ∧ cap ≤ maxLen ∧ (a = none → cap = 0)

theorem RdF.later {w w' : World} {B B' : Nat} {a : Option Addr} {n cap : Nat} {zs : List Nat} (h : RdF w B a n cap zs) (hb : Below B w w') (hB : B ≤ B') : RdF w' B' a n cap zs := by
  obtain ⟨h1, h3, h4⟩ := h
  refine ⟨h1, h3.imp id ?_, h4⟩
  rintro ⟨b, o, rfl, hlt, hc⟩
  exact ⟨b, o, rfl, by omega, fun j hj => (hb.cell (p := ⟨b, o + j, none⟩) hlt).trans (hc j hj)⟩

theorem RdF.front {w : World} {B : Nat} {a : Option Addr} {n cap : Nat} {zs : List Nat} (h : RdF w B a n cap zs) (k : Nat) (hk : k ≤ n) : RdF w B a k cap (zs.take k) := by
  obtain ⟨h1, h3, h4, h5, h6⟩ := h
  refine ⟨by rw [List.length_take]; omega, ?_, by omega, h5, h6⟩
  rcases h3 with h3 | ⟨b, o, ha, hlt, hc⟩
  · left; omega
  · right
    refine ⟨b, o, ha, hlt, fun j hj => ?_⟩
    rw [hc j (by omega), List.getElem?_take, if_pos hj]

theorem RdF.own {w : World} {base e : Nat} {v : Value} {zs : List Nat} {n : Nat} (h : w.ownsRow base e 1 v n (zs.map (Value.float .f64))) :
    ∃ a cap, v = .slice a n cap ∧ RdF w w.heap.size a n cap zs := by
  have hl := h.1
  simp at hl
  rcases h.2 with ⟨rfl, rfl⟩ | ⟨g, cap, cur, rfl, hb, hg, hnc, hcm, hcs, ht⟩
  · exact ⟨none, 0, rfl, by omega, .inl rfl, Nat.le_refl _, Nat.zero_le _, fun _ => rfl⟩
  · refine ⟨_, cap, rfl, by omega, ?_, hnc, hcm, fun h => by simp at h⟩
    right
    refine ⟨g, 0, rfl, ?_, fun j hj => ?_⟩
    · have : w.heap[g]?.isSome := by rw [hg]; rfl
      simpa using this
    · have hc := h.cellAt j (by omega)
      rw [Nat.zero_add, hc, List.getElem?_map, List.getElem?_eq_getElem (by omega)]
      simp

theorem newsF {w : World} {B : Nat} {ad : Addr} {n cap : Nat} {zs : List Nat} (h : RdF w B (some ad) n cap zs) :
    ∀ j v, (zs.map (Value.float .f64))[j]? = some v → w.cell? (ad.add j) = some v := by
  intro j v hj
  have hj1 := (List.getElem?_eq_some_iff.1 hj).1
  have hl := h.1
  simp only [List.length_map] at hj1
  rcases h.2.1 with h0 | ⟨b, o, ha, _, hc⟩
  · omega
  · cases ha
    rw [Addr.add_lit, hc j (by omega), ← hj, List.getElem?_map, List.getElem?_eq_getElem hj1]
    rfl

theorem floats_oneCell (zs : List Nat) : ∀ u ∈ zs.map (Value.float .f64), u.oneCell' = true := by
  intro u hu
  obtain ⟨z, _, rfl⟩ := List.mem_map.1 hu
  rfl

/-- What stands behind a list of floats that is lent: 0.125, 1.125, 2.125. -/
def fmarks (k : Nat) : List Nat := [4593671619917905920, 4607745368753438720, 4611967493404098560].take k
theorem fmark_run (k : Nat) (h : k < 3) (P : Program) (t : TypeId) (V : World) : ∃ r, (binOp .add t (.float .f64 4593671619917905920) (.float .f64 (floatOfInt .f64 (k : Int)))).run P V = .ok (.float .f64 r) V ∧ fmarks (k + 1) = fmarks k ++ [r] := by
  match k, h with
  | 0, _ => exact ⟨4593671619917905920, run_float_arith V _ _ _ _ _ _ (by decide +kernel), rfl⟩
  | 1, _ => exact ⟨4607745368753438720, run_float_arith V _ _ _ _ _ _ (by decide +kernel), rfl⟩
  | 2, _ => exact ⟨4611967493404098560, run_float_arith V _ _ _ _ _ _ (by decide +kernel), rfl⟩

end Go.Proofs.Ytigglhdadofpaaa

/- real.Sum and the document's Sum, of any list of floats. -/
namespace Go.Proofs.Ytigglhdadofpaaa
open Go.RowKit
set_option linter.unusedVariables false

/-- A struct's memory. -/
def FBox (w : World) (b t : Nat) (vs : Array Value) : Prop := w.heap[b]? = some (.cells vs t (0, 0))
theorem FBox.cell {w : World} {b t : Nat} {vs : Array Value} (h : FBox w b t vs) (j : Nat) : w.cell? ⟨b, j, none⟩ = vs[j]? := by
  unfold FBox at h
  simp [World.cell?, h]
theorem FBox.free {w : World} {b t : Nat} {vs : Array Value} (h : FBox w b t vs) (j : Nat) : w.frozen? ⟨b, j, none⟩ = false := by
  unfold FBox at h
  simp [World.frozen?, h]
theorem FBox.later {w w' : World} {B b t : Nat} {vs : Array Value} (h : FBox w b t vs) (hb : Below B w w') (hlt : b < B) : FBox w' b t vs := by
  unfold FBox at *
  rw [hb.block b hlt]; exact h
theorem FBox.lt {w : World} {b t : Nat} {vs : Array Value} (h : FBox w b t vs) : b < w.heap.size := by
  unfold FBox at h
  have : w.heap[b]?.isSome := by rw [h]; rfl
  simpa using this
theorem FBox.made (w : World) (t : Nat) (vs : Array Value) : FBox (w.alloc (.cells vs t)) w.heap.size t vs := by
  unfold FBox
  show (w.heap.push _)[w.heap.size]? = _
  rw [Array.getElem?_push, if_pos rfl]
theorem FBox.other {w : World} {b t : Nat} {vs : Array Value} (h : FBox w b t vs) (p : Addr) (v : Value) (hne : b ≠ p.block) : FBox (w.setCell p v) b t vs := by
  unfold FBox at *
  rw [Below.heap_setCell w p v b hne]; exact h
theorem FBox.drewN {w : World} {b t : Nat} {vs : Array Value} (h : FBox w b t vs) (n : Nat) : FBox (w.drewN n) b t vs := h
theorem FBox.set {w : World} {b t : Nat} {vs : Array Value} (h : FBox w b t vs) (j : Nat) (v : Value) : FBox (w.setCell ⟨b, j, none⟩ v) b t (vs.setIfInBounds j v) := by
  unfold FBox at *
  simp only [World.setCell, Array.getElem?_modify, if_pos, h]
  simp

/-- What Sum tells. -/
def sumV (r : Nat × Nat × Int × Int) : Value := .tuple #[.float .f64 r.1, .float .f64 r.2.1, .agg #[.int .i64 r.2.2.1, .int .i64 r.2.2.2]]

/-- Each float has 64 bits. -/
def Wf (xs : List Nat) : Prop := ∀ j : Nat, xs[j]?.getD 0 < 18446744073709551616

theorem fput2 {B : Nat} {a w : World} (h : Below B a w) (b : Nat) (hb : B ≤ b) (v0 v1 : Value) : Below B a ((w.setCell ⟨b, 0, none⟩ v0).setCell ⟨b, 1, none⟩ v1) :=
  (h.setCell (p := ⟨b, 0, none⟩) hb _).setCell (p := ⟨b, 1, none⟩) hb _
theorem fbox_facts {w w' : World} {b t : Nat} {v0 v1 : Value} (h : FBox w b t #[v0, v1]) (hb : Below w.heap.size w w') : w'.cell? ⟨b, 0, none⟩ = some v0 ∧ w'.cell? ⟨b, 1, none⟩ = some v1 ∧ w'.frozen? ⟨b, 0, none⟩ = false ∧ w'.frozen? ⟨b, 1, none⟩ = false := by
  have h' := h.later hb h.lt
  exact ⟨h'.cell 0, h'.cell 1, h'.free 0, h'.free 1⟩

end Go.Proofs.Ytigglhdadofpaaa

/- The law HeightLower answers true, and writes nothing that was there: whatever two reals and bounds come in, by their bits. -/
namespace Go.Proofs.Ytigglhdadofpaaa
open Go.RowKit
set_option linter.unusedVariables false

theorem hestore_flt (P : Program) (w : World) (a : Addr) (k : FloatKind) (x : Nat) (m : Mode) : (store a (.float k x) m).run P w = stored P w a (.float k x) m := run_store P w a _ m rfl

theorem heput2 (P : Program) {X : World} {b t : Nat} {u0 u1 : Value} (h : FBox X b t #[u0, u1]) (x y : Nat) :
    ∃ X1 X2, (store ⟨b, 0, none⟩ (.float .f64 x)).run P X = .ok () X1 ∧ (store ⟨b, 1, none⟩ (.float .f64 y)).run P X1 = .ok () X2 ∧ FBox X2 b t #[.float .f64 x, .float .f64 y] ∧
      (∀ B a, B ≤ b → Below B a X → Below B a X2) ∧ (∀ b' t' vs, b' ≠ b → FBox X b' t' vs → FBox X2 b' t' vs) := by
  have hh := (h.set 0 (.float .f64 x)).set 1 (.float .f64 y)
  have st : ∀ {W : World} {v0 v1 : Value} (j k : Nat), j < 2 → FBox W b t #[v0, v1] → (store ⟨b, j, none⟩ (.float .f64 k)).run P W = .ok () (W.setCell ⟨b, j, none⟩ (.float .f64 k)) := by
    intro W v0 v1 j k hj g
    have c : W.cell? ⟨b, j, none⟩ = some #[v0, v1][j] := by rw [g.cell j]; simp [hj]
    have f := g.free j
    rw [hestore_flt]
    simp [go_sem, c, f]
  refine ⟨_, _, st 0 x (by decide) h, st 1 y (by decide) (h.set 0 _), hh, fun B a hB hb => ?_, fun b' t' vs hne g => (g.other _ _ hne).other _ _ hne⟩
  exact (hb.setCell (p := ⟨b, 0, none⟩) hB _).setCell (p := ⟨b, 1, none⟩) hB _

set_option maxHeartbeats 3200000 in
set_option maxRecDepth 100000 in
theorem heightLower_walk (h b i c : Nat) (w : World) :
    Calls Try.prog 3 #[.int .u64 (h : Int), .int .u64 (b : Int), .int .u64 (i : Int), .int .u64 (c : Int)] w fun e w' => e = .returned (.bool true) ∧ Below w.heap.size w w' := by
  have fh := from_run h
  have fb := from_run b
  have fi := from_run i
  have fc := from_run c
  obtain ⟨X1, X2, r1, r2, k1, k2, k3⟩ := heput2 Try.prog (FBox.made w 26 #[.float .f64 0, .float .f64 0]) h b
  obtain ⟨Y1, Y2, s1, s2, m1, m2, m3⟩ := heput2 Try.prog (FBox.made X2 26 #[.float .f64 0, .float .f64 0]) i c
  have B0 : Below w.heap.size w X2 := k2 _ _ (Nat.le_refl _) (he_one w _)
  have l0 : w.heap.size < X2.heap.size := k1.lt
  have n0 : FBox Y2 w.heap.size 26 #[.float .f64 h, .float .f64 b] := m3 _ _ _ (by omega) (k1.later (he_one X2 _) l0)
  have HB1 := hid (he_bt B0 (m2 _ _ (Nat.le_refl _) (he_one X2 _)))
  have HF := hid (fun (V : World) (g : Below Y2.heap.size Y2 V) => And.intro (n0.later g n0.lt) (m1.later g m1.lt))
  clear k1 k2 k3 m1 m2 m3 B0 n0
  go_enter Try.func3, Try.ntmps3
  go_wp2_with fail
  clear r1 r2 s1 s2
  obtain ⟨x, hx⟩ : ∃ r, LowR h b i c r := ⟨_, _, _, fval_fn .add w h b, fval_fn .sub w i c, rfl⟩
  obtain ⟨y, hy⟩ : ∃ r, LowR i c h b r := ⟨_, _, _, fval_fn .add w i c, fval_fn .sub w h b, rfl⟩
  have K : ∀ F (p q r s : Nat) (z : Bool), LowR p q r s z → (∀ V, Calls Try.prog F #[.agg #[.float .f64 p, .float .f64 q], .agg #[.float .f64 r, .float .f64 s]] V fun e w' => ∃ r', e = .returned (.bool r') ∧ LowR p q r s r' ∧ Below V.heap.size V w') →
      Hid (∀ ww, Below Y2.heap.size Y2 ww → Calls Try.prog F #[.agg #[.float .f64 p, .float .f64 q], .agg #[.float .f64 r, .float .f64 s]] ww fun e w' => e = .returned (.bool z) ∧ (w'.cell? ⟨w.heap.size, 0, none⟩ = some (.float .f64 h) ∧ w'.cell? ⟨w.heap.size, 1, none⟩ = some (.float .f64 b) ∧ w'.cell? ⟨X2.heap.size, 0, none⟩ = some (.float .f64 i) ∧ w'.cell? ⟨X2.heap.size, 1, none⟩ = some (.float .f64 c)) ∧ Below Y2.heap.size Y2 w') := fun F p q r s z hz hF ww hw => by
    refine Calls.mono (hF ww) ?_
    rintro e w' ⟨r', rfl, hr, hb⟩
    rw [hr.one hz]
    have hb' := he_bt hw hb
    obtain ⟨f1, f2⟩ := HF.out _ hb'
    exact ⟨rfl, ⟨f1.cell 0, f1.cell 1, f2.cell 0, f2.cell 1⟩, hb'⟩
  have HP := K _ _ _ _ _ _ hx (fun V => heLower_any h b i c V)
  have HQ := K _ _ _ _ _ _ hy (fun V => heLower_any i c h b V)
  have HR := K _ _ _ _ _ _ hx (fun V => hdLower_any h b i c V)
  have HS := K _ _ _ _ _ _ hy (fun V => hdLower_any i c h b V)
  have hs0 : Y2.drew.cell? ⟨w.heap.size, 0, none⟩ = some (.float .f64 h) ∧ Y2.drew.cell? ⟨w.heap.size, 1, none⟩ = some (.float .f64 b) ∧ Y2.drew.cell? ⟨X2.heap.size, 0, none⟩ = some (.float .f64 i) ∧ Y2.drew.cell? ⟨X2.heap.size, 1, none⟩ = some (.float .f64 c) := by
    obtain ⟨f1, f2⟩ := HF.out _ (Below.refl _ Y2).drew
    exact ⟨f1.cell 0, f1.cell 1, f2.cell 0, f2.cell 1⟩
  have hd0 := hid (Below.refl Y2.heap.size Y2).drew
  clear K hx hy HF
  go_region_held3 (fun V : World => V.cell? ⟨w.heap.size, 0, none⟩ = some (.float .f64 h) ∧ V.cell? ⟨w.heap.size, 1, none⟩ = some (.float .f64 b) ∧ V.cell? ⟨X2.heap.size, 0, none⟩ = some (.float .f64 i) ∧ V.cell? ⟨X2.heap.size, 1, none⟩ = some (.float .f64 c)) (first | exact hs4 | exact hs3 | exact hs2 | exact hs1 | exact hs0)
    (first
      | (go_at_call 6; with_reducible refine Calls.mono (HS.out _ hb3) ?_; rintro e wp ⟨rfl, hs4, hb4⟩)
      | (go_at_call 5; with_reducible refine Calls.mono (HQ.out _ hb2) ?_; rintro e wo ⟨rfl, hs3, hb3⟩)
      | (go_at_call 6; with_reducible refine Calls.mono (HR.out _ hb1) ?_; rintro e wm ⟨rfl, hs2, hb2⟩)
      | (go_at_call 5; with_reducible refine Calls.mono (HP.out _ hd0.out) ?_; rintro e wn ⟨rfl, hs1, hb1⟩))
  all_goals
    have HBE := hid (he_bt HB1.out hb4)
    clear hs0 hs1 hs2 hs3 hs4 hb1 hb2 hb3 hb4 HP HQ HR HS hd0
    go_wp2_with fail
    go_ret
    exact ⟨rfl, HBE.out⟩

end Go.Proofs.Ytigglhdadofpaaa

