/- My texts on the way to PartsTurns, one behind the other: contracts of the program and of the document's answers. -/
import Derived.Test.YtoinchnlbmaafaaDoorJ2
import Derived.Lib.LaidTab
import Derived.Deep.RegionHeld3
/- real.fraction: what a float that was taken apart is, in lowest terms, in new memory. -/
namespace Go.Proofs.YtoinchnlbmaafaaDoor
open Go.RowKit
set_option linter.unusedVariables false

theorem below_alloc1 {w w' : World} (h : Below w.heap.size w w') (o : Obj) : Below w.heap.size w (w'.alloc o) := bt h (alloc_later _ _)
theorem box_after {ww w2 : World} {b t : Nat} {u0 u1 u2 : Value} (hb : Below ww.heap.size ww w2) (h : Box ww b t #[u0, u1, u2]) : w2.cell? ⟨b, 0, none⟩ = some u0 ∧ w2.cell? ⟨b, 1, none⟩ = some u1 ∧ w2.cell? ⟨b, 2, none⟩ = some u2 ∧ w2.frozen? ⟨b, 0, none⟩ = false ∧ w2.frozen? ⟨b, 1, none⟩ = false ∧ w2.frozen? ⟨b, 2, none⟩ = false := res_box3 h hb
theorem below_frozen {ww w2 : World} {b j : Nat} (hb : Below ww.heap.size ww w2) (h : b < ww.heap.size) : w2.frozen? ⟨b, j, none⟩ = ww.frozen? ⟨b, j, none⟩ := by
  unfold World.frozen?
  rw [hb.block b h]
theorem cast_div_two (m k : Nat) : (m : Int) / 2 ^ k = ((m / 2 ^ k : Nat) : Int) := by
  rw [Int.natCast_ediv, Int.natCast_pow]; rfl
theorem div_odd {m k d : Nat} (hm : m < 18446744073709551616) (h0 : m ≠ 0) (hk : Lib.ctz 64 m = k) (hd : m / 2 ^ k = d) : d < 18446744073709551616 ∧ d ≠ 0 := by
  obtain ⟨j, hj, _⟩ := Lib.ctzFrom_spec 64 m (by omega) hm
  have e : Lib.ctzFrom 64 m = k := by rw [← hk]; unfold Lib.ctz; rw [if_neg h0]
  rw [e] at hj
  have hp : 0 < 2 ^ k := Nat.two_pow_pos k
  have e2 : d = 2 * j + 1 := by rw [← hd]; conv => lhs; rw [hj]
                                exact Nat.mul_div_cancel_left _ hp
  refine ⟨?_, by omega⟩
  rw [← hd]
  exact Nat.lt_of_le_of_lt (Nat.div_le_self _ _) hm

/-- What the fraction's first statement leaves: its box, the words of the count, the one. -/
def FinF (w0 W : World) (s : Bool) (d : Nat) (p g1 g2 : Nat) (ys : List Int) : Prop :=
  Box W p 40 #[.bool s, .slice (some ⟨g1, 0, none⟩) ys.length ys.length, .slice (some ⟨g2, 0, none⟩) 1 1] ∧ OwnW W w0.heap.size g1 ys.length ys ∧ OwnW W w0.heap.size g2 1 [1] ∧ (Wd ys ∧ Trimmed ys ∧ val ys = d ∧ ys.length ≤ 2) ∧ g1 ≠ g2 ∧ w0.heap.size ≤ p ∧ Below w0.heap.size w0 W
def WordsE (U w2 : World) (d : Nat) (ys : List Int) : Prop := OwnW w2 U.heap.size U.heap.size ys.length ys ∧ Wd ys ∧ Trimmed ys ∧ val ys = d ∧ ys.length ≤ 2 ∧ Below U.heap.size U w2
theorem undrew {U w2 : World} {d : Nat} {ys : List Int} (h : WordsE U.drew w2 d ys) : WordsE U w2 d ys := ⟨h.1, h.2.1, h.2.2.1, h.2.2.2.1, h.2.2.2.2.1, ⟨h.2.2.2.2.2.os, h.2.2.2.2.2.tape, h.2.2.2.2.2.output, h.2.2.2.2.2.size, h.2.2.2.2.2.block⟩⟩
theorem one_row (V : World) {b : Nat} (hb : b ≤ V.heap.size) : OwnW (V.alloc (.cells #[.int .u32 1] 56)) b V.heap.size 1 [1] := owns_base (World.ownsRow_lit V #[.int .u32 1] 1 (Nat.le_refl _) (by simp [maxLen]) rfl) hb
theorem own_up {V : World} {b g n : Nat} {ys : List Int} (h : OwnW V b g n ys) (o : Obj) : OwnW (V.alloc o) b g n ys := owns_later h (alloc_later _ _)
theorem Box.put3' {U : World} {b t : Nat} {u0 u1 u2 : Value} (h : Box U b t #[u0, u1, u2]) (v0 v1 v2 : Value) : Box (((U.setCell ⟨b, 0, none⟩ v0).setCell ⟨b, 1, none⟩ v1).setCell ⟨b, 2, none⟩ v2) b t #[v0, v1, v2] := ((h.set 0 v0).set 1 v1).set 2 v2
theorem OwnW.put3' {U : World} {b g n p t : Nat} {ys : List Int} {vs : Array Value} (h : OwnW U b g n ys) (hb : Box U p t vs) (hne : 56 ≠ t) (v0 v1 v2 : Value) : OwnW (((U.setCell ⟨p, 0, none⟩ v0).setCell ⟨p, 1, none⟩ v1).setCell ⟨p, 2, none⟩ v2) b g n ys := own_put3 h p (own_ne_box h hb hne) v0 v1 v2

theorem fin1 {w1 w2 : World} {s : Bool} {d : Nat} {ys : List Int} (h : WordsE w1 w2 d ys) : FinF w1 ((w2.alloc (.cells #[.int .u32 1] 56)).alloc (.cells #[.bool s, .slice (some ⟨w1.heap.size, 0, none⟩) ys.length ys.length, .slice (some ⟨w2.heap.size, 0, none⟩) 1 1] 40)) s d (w2.heap.size + 1) w1.heap.size w2.heap.size ys := by
  obtain ⟨h1, h2, h3, h4, h5, h6⟩ := h
  have e := Box.made (w2.alloc (.cells #[.int .u32 1] 56)) 40 #[.bool s, .slice (some ⟨w1.heap.size, 0, none⟩) ys.length ys.length, .slice (some ⟨w2.heap.size, 0, none⟩) 1 1]
  rw [World.size_alloc] at e
  exact ⟨e, own_up (own_up h1 _) _, own_up (one_row w2 h6.size) _, ⟨h2, h3, h4, h5⟩, by have := h1.base.2; omega, by have := h6.size; omega, bt h6 (bt (alloc_later _ _) (alloc_later _ _))⟩
theorem fin2 {w1 w2 : World} {s : Bool} {d : Nat} {ys : List Int} (h : WordsE w1 w2 d ys) : FinF w1 ((w2.alloc (.cells #[.bool s, .slice (some ⟨w1.heap.size, 0, none⟩) ys.length ys.length, .slice (some ⟨w2.heap.size + 1, 0, none⟩) 1 1] 40)).alloc (.cells #[.int .u32 1] 56)) s d w2.heap.size w1.heap.size (w2.heap.size + 1) ys := by
  obtain ⟨h1, h2, h3, h4, h5, h6⟩ := h
  have e := (Box.made w2 40 #[.bool s, .slice (some ⟨w1.heap.size, 0, none⟩) ys.length ys.length, .slice (some ⟨w2.heap.size + 1, 0, none⟩) 1 1]).later (alloc_later _ (.cells #[.int .u32 1] 56)) (by simp)
  have r := one_row (w2.alloc (.cells #[.bool s, .slice (some ⟨w1.heap.size, 0, none⟩) ys.length ys.length, .slice (some ⟨w2.heap.size + 1, 0, none⟩) 1 1] 40)) (b := w1.heap.size) (by rw [World.size_alloc]; have := h6.size; omega)
  rw [World.size_alloc] at r
  exact ⟨e, own_up (own_up h1 _) _, r, ⟨h2, h3, h4, h5⟩, by have := h1.base.2; omega, h6.size, bt h6 (bt (alloc_later _ _) (alloc_later _ _))⟩
theorem fin3 {w1 w2 : World} {s : Bool} {d : Nat} {ys : List Int} (h : WordsE (w1.alloc (.cells #[.int .u32 1] 56)) w2 d ys) : FinF w1 (w2.alloc (.cells #[.bool s, .slice (some ⟨w1.heap.size + 1, 0, none⟩) ys.length ys.length, .slice (some ⟨w1.heap.size, 0, none⟩) 1 1] 40)) s d w2.heap.size (w1.heap.size + 1) w1.heap.size ys := by
  obtain ⟨h1, h2, h3, h4, h5, h6⟩ := h
  rw [World.size_alloc] at h1
  exact ⟨Box.made w2 40 _, own_up (owns_base h1 (by omega)) _, own_up (owns_later (one_row w1 (Nat.le_refl _)) h6) _, ⟨h2, h3, h4, h5⟩, by omega, (bt (alloc_later _ _) h6).size, bt (bt (alloc_later _ _) h6) (alloc_later _ _)⟩
theorem fin4 {w1 w2 : World} {s : Bool} {d : Nat} {ys : List Int} (h : WordsE ((w1.alloc (.cells #[.int .u32 1] 56)).alloc (.cells #[.bool false, .slice none 0 0, .slice none 0 0] 40)) w2 d ys) : FinF w1 (((w2.setCell ⟨w1.heap.size + 1, 0, none⟩ (.bool s)).setCell ⟨w1.heap.size + 1, 1, none⟩ (.slice (some ⟨w1.heap.size + 1 + 1, 0, none⟩) ys.length ys.length)).setCell ⟨w1.heap.size + 1, 2, none⟩ (.slice (some ⟨w1.heap.size, 0, none⟩) 1 1)) s d (w1.heap.size + 1) (w1.heap.size + 1 + 1) w1.heap.size ys := by
  obtain ⟨h1, h2, h3, h4, h5, h6⟩ := h
  rw [World.size_alloc, World.size_alloc] at h1
  have b0 := Box.made (w1.alloc (.cells #[.int .u32 1] 56)) 40 #[.bool false, .slice none 0 0, .slice none 0 0]
  have b1 := b0.later h6 b0.lt
  rw [World.size_alloc] at b1
  have r := owns_later (own_up (one_row w1 (Nat.le_refl _)) (.cells #[.bool false, .slice none 0 0, .slice none 0 0] 40)) h6
  exact ⟨b1.put3' _ _ _, OwnW.put3' (owns_base h1 (by omega)) b1 (by decide) _ _ _, OwnW.put3' r b1 (by decide) _ _ _, ⟨h2, h3, h4, h5⟩, by omega, by omega, below_put3 (bt (bt (alloc_later _ _) (alloc_later _ _)) h6) _ (by omega) _ _ _⟩
theorem fin5 {w1 w2 : World} {s : Bool} {d : Nat} {ys : List Int} (h : WordsE (w1.alloc (.cells #[.bool false, .slice none 0 0, .slice none 0 0] 40)) w2 d ys) : FinF w1 ((((w2.setCell ⟨w1.heap.size, 0, none⟩ (.bool s)).setCell ⟨w1.heap.size, 1, none⟩ (.slice (some ⟨w1.heap.size + 1, 0, none⟩) ys.length ys.length)).setCell ⟨w1.heap.size, 2, none⟩ (.slice (some ⟨w2.heap.size, 0, none⟩) 1 1)).alloc (.cells #[.int .u32 1] 56)) s d w1.heap.size (w1.heap.size + 1) w2.heap.size ys := by
  obtain ⟨h1, h2, h3, h4, h5, h6⟩ := h
  rw [World.size_alloc] at h1
  have b0 := Box.made w1 40 #[.bool false, .slice none 0 0, .slice none 0 0]
  have b1 := b0.later h6 b0.lt
  have hsz : (((w2.setCell ⟨w1.heap.size, 0, none⟩ (.bool s)).setCell ⟨w1.heap.size, 1, none⟩ (.slice (some ⟨w1.heap.size + 1, 0, none⟩) ys.length ys.length)).setCell ⟨w1.heap.size, 2, none⟩ (.slice (some ⟨w2.heap.size, 0, none⟩) 1 1)).heap.size = w2.heap.size := by simp [World.setCell]
  have r := one_row (((w2.setCell ⟨w1.heap.size, 0, none⟩ (.bool s)).setCell ⟨w1.heap.size, 1, none⟩ (.slice (some ⟨w1.heap.size + 1, 0, none⟩) ys.length ys.length)).setCell ⟨w1.heap.size, 2, none⟩ (.slice (some ⟨w2.heap.size, 0, none⟩) 1 1)) (b := w1.heap.size) (by rw [hsz]; exact (bt (alloc_later _ _) h6).size)
  rw [hsz] at r
  have b2 := (b1.put3' (.bool s) (.slice (some ⟨w1.heap.size + 1, 0, none⟩) ys.length ys.length) (.slice (some ⟨w2.heap.size, 0, none⟩) 1 1))
  exact ⟨b2.later (alloc_later _ _) b2.lt, own_up (OwnW.put3' (owns_base h1 (by omega)) b1 (by decide) _ _ _) _, r, ⟨h2, h3, h4, h5⟩, by have := h1.base.2; omega, Nat.le_refl _, bt (below_put3 (bt (alloc_later _ _) h6) _ (Nat.le_refl _) _ _ _) (alloc_later _ _)⟩
theorem fin6 {w1 w2 : World} {s : Bool} {d : Nat} {ys : List Int} (h : WordsE ((w1.alloc (.cells #[.bool false, .slice none 0 0, .slice none 0 0] 40)).alloc (.cells #[.int .u32 1] 56)) w2 d ys) : FinF w1 (((w2.setCell ⟨w1.heap.size, 0, none⟩ (.bool s)).setCell ⟨w1.heap.size, 1, none⟩ (.slice (some ⟨w1.heap.size + 1 + 1, 0, none⟩) ys.length ys.length)).setCell ⟨w1.heap.size, 2, none⟩ (.slice (some ⟨w1.heap.size + 1, 0, none⟩) 1 1)) s d w1.heap.size (w1.heap.size + 1 + 1) (w1.heap.size + 1) ys := by
  obtain ⟨h1, h2, h3, h4, h5, h6⟩ := h
  rw [World.size_alloc, World.size_alloc] at h1
  have b0 := (Box.made w1 40 #[.bool false, .slice none 0 0, .slice none 0 0]).later (alloc_later _ (.cells #[.int .u32 1] 56)) (by simp)
  have b1 := b0.later h6 b0.lt
  have r := owns_later (one_row (w1.alloc (.cells #[.bool false, .slice none 0 0, .slice none 0 0] 40)) (b := w1.heap.size) (by rw [World.size_alloc]; omega)) h6
  rw [World.size_alloc] at r
  exact ⟨b1.put3' _ _ _, OwnW.put3' (owns_base h1 (by omega)) b1 (by decide) _ _ _, OwnW.put3' r b1 (by decide) _ _ _, ⟨h2, h3, h4, h5⟩, by omega, by omega, below_put3 (bt (bt (alloc_later _ _) (alloc_later _ _)) h6) _ (Nat.le_refl _) _ _ _⟩

end Go.Proofs.YtoinchnlbmaafaaDoor

/- Boxes of fractions, rows of the call's own and one box of a flag, in a bundle that is moved along. -/
namespace Go.Proofs.YtoinchnlbmaafaaDoor
open Go.RowKit
set_option linter.unusedVariables false

theorem Box.same {w : World} {b t : Nat} {vs : Array Value} (h : Box w b t vs) {j : Nat} {v : Value} (hv : vs[j]? = some v) : w.setCell ⟨b, j, none⟩ v = w := by
  have e : (w.setCell ⟨b, j, none⟩ v).heap = w.heap := by
    have h' : w.heap[b]? = some (.cells vs t (0, 0)) := h
    have hs : vs.setIfInBounds j v = vs := by
      apply Array.ext_getElem?
      intro k
      rw [Array.getElem?_setIfInBounds]
      by_cases c : j = k
      · subst c
        obtain ⟨hk, _⟩ := Array.getElem?_eq_some_iff.1 hv
        rw [if_pos rfl, if_pos hk, hv]
      · rw [if_neg c]
    unfold World.setCell
    apply Array.ext_getElem?
    intro k
    simp only [Array.getElem?_modify]
    by_cases c : b = k
    · subst c
      rw [if_pos rfl, h']
      simp [hs]
    · rw [if_neg c]
  cases w
  simp only [World.setCell] at e ⊢
  rw [e]
theorem own_put1 {w : World} {base e n : Nat} {v : Value} {xs : List Value} (h : w.ownsRow base e 1 v n xs) (b : Nat) (hb : ∀ g, v.ownBlock = some g → g ≠ b) (j : Nat) (v0 : Value) : (w.setCell ⟨b, j, none⟩ v0).ownsRow base e 1 v n xs := by
  have hne : v.ownBlock = none ∨ v.ownBlock ≠ some b := by
    cases hv : v.ownBlock with
    | none => exact .inl rfl
    | some g => right; intro e; exact hb g hv (Option.some.inj e)
  exact World.ownsRow.kept h (grown_set w ⟨b, j, none⟩ v0) hne
/-- Boxes that hold fractions. -/
def Bxs3 (W : World) (l : List (Nat × Array Value)) : Prop := ∀ p ∈ l, Box W p.1 40 p.2
def Rws (W : World) (l : List (Nat × Value × List Int)) : Prop := ∀ p ∈ l, W.ownsRow p.1 56 1 p.2.1 p.2.2.length (p.2.2.map (Value.int .u32))
/-- What is known of a world: boxes of fractions, rows of the call's own, what was there. -/
structure St (w W : World) (l : List (Nat × Array Value)) (r : List (Nat × Value × List Int)) : Prop where
  box : Bxs3 W l
  row : Rws W r
  bel : Below w.heap.size w W
theorem St.later {w W W' : World} {l : List (Nat × Array Value)} {r : List (Nat × Value × List Int)} (h : St w W l r) (hb : Below W.heap.size W W') : St w W' l r :=
  ⟨fun p hp => (h.box p hp).later hb (h.box p hp).lt, fun p hp => owns_later (h.row p hp) hb, bt h.bel hb⟩
theorem St.more {w W : World} {l : List (Nat × Array Value)} {r : List (Nat × Value × List Int)} (h : St w W l r) {base : Nat} {v : Value} {zs : List Int} (o : W.ownsRow base 56 1 v zs.length (zs.map (Value.int .u32))) : St w W l ((base, v, zs) :: r) :=
  ⟨h.box, fun p hp => by
    cases hp with
    | head => exact o
    | tail _ hp => exact h.row p hp, h.bel⟩
theorem St.put {w W : World} {l : List (Nat × Array Value)} {r : List (Nat × Value × List Int)} (h : St w W l r) (n : Bool) (v u : Value) : St w (W.alloc (.cells #[.bool n, v, u] 40)) ((W.heap.size, #[.bool n, v, u]) :: l) r :=
  ⟨fun p hp => by
    cases hp with
    | head => exact Box.made W _ _
    | tail _ hp => exact (h.box p hp).later (alloc_later _ _) (h.box p hp).lt, (h.later (alloc_later _ _)).row, (h.later (alloc_later _ _)).bel⟩
theorem St.get {w W : World} {l : List (Nat × Array Value)} {r : List (Nat × Value × List Int)} (h : St w W l r) {g : Nat} {n : Bool} {v u : Value} (hm : (g, #[.bool n, v, u]) ∈ l) : W.cell? ⟨g, 0, none⟩ = some (.bool n) ∧ W.cell? ⟨g, 1, none⟩ = some v ∧ W.cell? ⟨g, 2, none⟩ = some u := ⟨(h.box _ hm).cell 0, (h.box _ hm).cell 1, (h.box _ hm).cell 2⟩
theorem St.free {w W : World} {l : List (Nat × Array Value)} {r : List (Nat × Value × List Int)} (h : St w W l r) {g : Nat} {n : Bool} {v u : Value} (hm : (g, #[.bool n, v, u]) ∈ l) : W.frozen? ⟨g, 0, none⟩ = false ∧ W.frozen? ⟨g, 1, none⟩ = false ∧ W.frozen? ⟨g, 2, none⟩ = false := ⟨(h.box _ hm).free 0, (h.box _ hm).free 1, (h.box _ hm).free 2⟩
theorem St.same {w W : World} {l : List (Nat × Array Value)} {r : List (Nat × Value × List Int)} (h : St w W l r) {g : Nat} {n : Bool} {v u : Value} (hm : (g, #[.bool n, v, u]) ∈ l) : W.setCell ⟨g, 0, none⟩ (.bool n) = W ∧ W.setCell ⟨g, 1, none⟩ v = W ∧ W.setCell ⟨g, 2, none⟩ u = W := ⟨(h.box _ hm).same rfl, (h.box _ hm).same rfl, (h.box _ hm).same rfl⟩
theorem St.sl {w W : World} {l : List (Nat × Array Value)} {r : List (Nat × Value × List Int)} (h : St w W l r) {base : Nat} {v : Value} {zs : List Int} (wd : Wd zs) (hm : (base, v, zs) ∈ r) : Sl W v zs := Sl.own (h.row _ hm) wd
/-- A store into a box of another type. -/
theorem St.flag {w W : World} {l : List (Nat × Array Value)} {r : List (Nat × Value × List Int)} (h : St w W l r) {g t : Nat} {vs : Array Value} (b : Box W g t vs) (hg : w.heap.size ≤ g) (h1 : t ≠ 40) (h2 : t ≠ 56) (j : Nat) (v : Value) : St w (W.setCell ⟨g, j, none⟩ v) l r := by
  refine ⟨fun p hp => (h.box p hp).other _ _ (fun e => ?_), fun p hp => own_put1 (h.row p hp) g (own_ne_box (h.row p hp) b (Ne.symm h2)) _ _, h.bel.setCell (p := ⟨g, j, none⟩) hg _⟩
  · have e1 := h.box p hp
    rw [e] at e1
    have e2 : some (Obj.cells p.2 40 (0, 0)) = some (.cells vs t (0, 0)) := e1.symm.trans b
    injection e2 with e3
    injection e3 with _ e4 _
    exact h1 e4.symm
end Go.Proofs.YtoinchnlbmaafaaDoor

/- real.fraction: what a float that was taken apart is, in lowest terms, in new memory. -/
namespace Go.Proofs.YtoinchnlbmaafaaDoor
open Go.RowKit
set_option linter.unusedVariables false

theorem one_wd : Wd [1] := Wd.one (by omega)
theorem one_trimmed : Trimmed [1] := rfl
theorem reads_of {W : World} {b g n : Nat} {ys : List Int} (h : OwnW W b g n ys) (hw : Wd ys) : Reads W W.heap.size (some ⟨g, 0, none⟩) n n ys := by
  obtain ⟨a, cap, hv, hr⟩ := Reads.own h hw
  cases hv
  exact hr

theorem len_succ {ys : List Int} {d : Nat} (h : val ys = d) (h0 : d ≠ 0) : ∃ l, ys.length = l + 1 := by
  cases ys with
  | nil => rw [val_nil] at h; omega
  | cons a b => exact ⟨b.length, rfl⟩
theorem end_own {V : World} {b g n p r j : Nat} {ys : List Int} {vs : Array Value} (h : OwnW V b g n ys) (hp : Box V p 40 vs) (hr : Box V r 40 #[.bool false, .slice none 0 0, .slice none 0 0]) (hne : p ≠ r) (x v0 v1 v2 : Value) (_u : Unit) : OwnW ((((V.setCell ⟨p, j, none⟩ x).setCell ⟨r, 0, none⟩ v0).setCell ⟨r, 1, none⟩ v1).setCell ⟨r, 2, none⟩ v2) b g n ys :=
  own_put3 (own_put1 h p (own_ne_box h hp (by decide)) j x) r (own_ne_box (own_put1 h p (own_ne_box h hp (by decide)) j x) (hr.other ⟨p, j, none⟩ x (Ne.symm hne)) (by decide)) v0 v1 v2
theorem end_below {B : Nat} {w V : World} {p r j : Nat} (h : Below B w V) (hp : B ≤ p) (hr : B ≤ r) (x v0 v1 v2 : Value) (_u : Unit) : Below B w ((((V.setCell ⟨p, j, none⟩ x).setCell ⟨r, 0, none⟩ v0).setCell ⟨r, 1, none⟩ v1).setCell ⟨r, 2, none⟩ v2) :=
  below_put3 (h.setCell (p := ⟨p, j, none⟩) hp x) r hr v0 v1 v2

set_option maxHeartbeats 3200000 in
set_option maxRecDepth 100000 in
theorem fraction_any (s : Bool) (m : Nat) (u : Int) (w : World) (hm : m < 18446744073709551616) (h0 : m ≠ 0) (u0 : -1074 ≤ u) (u1 : u ≤ 972) (hT : TabB w) :
    Calls Tryd.prog 47 #[.agg #[.bool s, .int .u64 (m : Int), .int .i64 u]] w fun e w' => ∃ a ca b cb zs ds, e = .returned (.agg #[.bool s, .slice a zs.length ca, .slice b ds.length cb]) ∧ w'.ownsRow w.heap.size 56 1 (.slice a zs.length ca) zs.length (zs.map (Value.int .u32)) ∧ w'.ownsRow w.heap.size 56 1 (.slice b ds.length cb) ds.length (ds.map (Value.int .u32)) ∧ Wd zs ∧ Trimmed zs ∧ Wd ds ∧ Trimmed ds ∧
      val zs = ((m / 2 ^ Lib.ctz 64 m : Nat) : Int) * 2 ^ (u + (Lib.ctz 64 m : Int)).toNat ∧ val ds = 2 ^ (-(u + (Lib.ctz 64 m : Int))).toNat ∧ a ≠ b ∧ Below w.heap.size w w' := by
  obtain ⟨hlow, hk⟩ := Lib.lowest_bit 64 m h0 hm
  have HTZ := hid (fun V hV => tz_any m V hm h0 hV)
  have hm0 : ((m : Int) == 0) = false := beq_eq_false_iff_ne.2 (by omega)
  have HXp := hid ((Box.made w 77 #[.bool s, .int .u64 (m : Int), .int .i64 u]).later (alloc_later _ (.cells #[.bool false, .slice none 0 0, .slice none 0 0] 40)) (by simp))
  have HXr : Hid (Box ((w.alloc (.cells #[.bool s, .int .u64 (m : Int), .int .i64 u] 77)).alloc (.cells #[.bool false, .slice none 0 0, .slice none 0 0] 40)) (w.heap.size + 1) 40 #[.bool false, .slice none 0 0, .slice none 0 0]) := by
    have e := Box.made (w.alloc (.cells #[.bool s, .int .u64 (m : Int), .int .i64 u] 77)) 40 #[.bool false, .slice none 0 0, .slice none 0 0]
    rw [World.size_alloc] at e
    exact e
  have HB := hid (bt (alloc_later w (.cells #[.bool s, .int .u64 (m : Int), .int .i64 u] 77)) (alloc_later _ (.cells #[.bool false, .slice none 0 0, .slice none 0 0] 40)))
  have HTX := hid (hT.later HB.out)
  have HB0 := hid HB.out
  clear hlow hT
  go_enter Tryd.func47, Tryd.ntmps47
  go_wp2_with fail
  refine Calls.mono (HTZ.out _ HTX.out) ?_
  generalize (w.alloc (.cells #[.bool s, .int .u64 (m : Int), .int .i64 u] 77)).alloc (.cells #[.bool false, .slice none 0 0, .slice none 0 0] 40) = X at *
  generalize hkk : Lib.ctz 64 m = k at *
  rintro e w1 ⟨rfl, rfl⟩
  have x0 : w1.cell? ⟨w.heap.size, 0, none⟩ = some (.bool s) := HXp.out.cell 0
  have x1 : w1.cell? ⟨w.heap.size, 1, none⟩ = some (.int .u64 (m : Int)) := HXp.out.cell 1
  have x2 : w1.cell? ⟨w.heap.size, 2, none⟩ = some (.int .i64 u) := HXp.out.cell 2
  obtain ⟨d, hd⟩ : ∃ d : Nat, m / 2 ^ k = d := ⟨_, rfl⟩
  have hsh : (m : Int) / 2 ^ k = (d : Int) := by rw [← hd]; exact cast_div_two m k
  have HD : Hid (d < 18446744073709551616 ∧ d ≠ 0) := div_odd hm h0 hkk hd
  have HK : Hid (∀ V, Below w1.heap.size w1 V → V.cell? ⟨w.heap.size, 0, none⟩ = some (.bool s) ∧ V.cell? ⟨w.heap.size, 1, none⟩ = some (.int .u64 (m : Int))) := fun V hb => by
    have hx := HXp.out.later hb HXp.out.lt
    exact ⟨hx.cell 0, hx.cell 1⟩
  have hs0 := HK.out _ (Below.drew (Below.refl _ w1))
  have HBR := hid (Below.drew (Below.refl w1.heap.size w1))
  have H1 : Hid (∀ ww, Below w1.heap.size w1 ww → Calls Tryd.prog 63 #[.int .u64 (d : Int)] ww fun e w' => ∃ ys : List Int, e = .returned (.slice (some ⟨ww.heap.size, 0, none⟩) ys.length ys.length) ∧ Hid (WordsE ww w' d ys) ∧ Below w1.heap.size w1 w' ∧ w1.heap.size ≤ w'.heap.size ∧ ww.heap.size < w'.heap.size ∧ (w1.heap.size ≠ w'.heap.size ∧ w1.heap.size < w'.heap.size) ∧ (∀ b j, b < ww.heap.size → w'.cell? ⟨b, j, none⟩ = ww.cell? ⟨b, j, none⟩) ∧ (∀ b j, b < ww.heap.size → w'.frozen? ⟨b, j, none⟩ = ww.frozen? ⟨b, j, none⟩) ∧ (w'.cell? ⟨w.heap.size, 0, none⟩ = some (.bool s) ∧ w'.cell? ⟨w.heap.size, 1, none⟩ = some (.int .u64 (m : Int)))) := fun ww hv => by
    refine Calls.mono (rwords64_any d ww HD.out.1 HD.out.2) ?_
    rintro e w' ⟨ys, rfl, a1, a2, a3, a4, a5, a6⟩
    exact ⟨ys, rfl, ⟨a1, a2, a3, a4, a5, a6⟩, bt hv a6, (bt hv a6).size, a1.base.2, ⟨by have h1 := a1.base.2; have h2 := hv.size; omega, by have h1 := a1.base.2; have h2 := hv.size; omega⟩, fun b j h => a6.cell (p := ⟨b, j, none⟩) h, fun b j h => below_frozen a6 h, HK.out _ (bt hv a6)⟩
  go_wp2_with fail
  have hku : ((k : Nat) : Int) ≤ 63 := by omega
  rename_i K hK
  have cont : Hid (∀ (W : World) (p g1 g2 : Nat) (ys : List Int), Hid (FinF w1 W s d p g1 g2 ys) → K { tmps := #[.agg #[.bool s, .int .u64 (m : Int), .int .i64 u], .pointer (some ⟨w.heap.size, 0, none⟩), .pointer (some ⟨w.heap.size + 1, 0, none⟩), .int .i64 (k : Int), .pointer (some ⟨p, 0, none⟩), undef, .pointer (some ⟨w.heap.size, 1, none⟩), .int .u64 (m : Int), .bool false, undef, undef, .pointer (some ⟨w.heap.size, 1, none⟩), .int .u64 (m : Int), .int .i64 (k : Int), .pointer (some ⟨w.heap.size, 0, none⟩), .bool s, .pointer (some ⟨w.heap.size, 1, none⟩), .int .u64 (m : Int), .int .i64 (k : Int), .int .u64 (d : Int), .slice (some ⟨g1, 0, none⟩) ys.length ys.length, .slice (some ⟨g2, 0, none⟩) 1 1, .agg #[.bool s, .slice (some ⟨g1, 0, none⟩) ys.length ys.length, .slice (some ⟨g2, 0, none⟩) 1 1], undef, undef, undef, undef, undef, undef, undef, undef, undef, undef, undef, undef, undef, undef, undef, undef, undef, undef], defers := [] } W) := fun W p g1 g2 ys HF => by
    clear H1 HK hs0 HBR
    refine hK _ _ ?_
    have hxp := HXp.out.later HF.out.2.2.2.2.2.2 HXp.out.lt
    have x2 : W.cell? ⟨w.heap.size, 2, none⟩ = some (.int .i64 u) := hxp.cell 2
    obtain ⟨r0, r1, r2, r3, r4, r5⟩ := res_box3 HF.out.1 (Below.refl _ _)
    by_cases hu : u + (k : Int) < 0
    · obtain ⟨q, t, ht, hqt⟩ : ∃ q t : Nat, t ≤ 31 ∧ -(u + (k : Int)) = 32 * q + t := ⟨(-(u + (k : Int))).toNat / 32, (-(u + (k : Int))).toNat % 32, by omega, by omega⟩
      have HSH := hid (rshifted_any (some ⟨g2, 0, none⟩) 0 1 [1] q t (32 * q + t) W (reads_of HF.out.2.2.1 one_wd) (by omega) one_trimmed (by omega) ht rfl)
      have HQT := hid hqt
      clear HTZ HTX hsh hm h0 hm0
      go_wp2_with fail
      refine Calls.mono HSH.out ?_
      rintro e w3 ⟨zs, rfl, o3, z2, z3, z4, hb3⟩
      have hbx := HF.out.1.later hb3 HF.out.1.lt
      have HBX := hid hbx
      have HRX := hid (HXr.out.later (bt HF.out.2.2.2.2.2.2 hb3) HXr.out.lt)
      have hpne : w.heap.size + 1 ≠ p := by have e1 := HXr.out.lt; have e2 := HF.out.2.2.2.2.2.1; omega
      have hpne2 : p ≠ w.heap.size + 1 := Ne.symm hpne
      obtain ⟨s0, s1, s2, s3, s4, s5⟩ := res_box3 hbx (Below.refl _ _)
      obtain ⟨y0, y1, y2, f0, f1, f2⟩ := res_box3 HRX.out (Below.refl _ _)
      have HO3 := hid o3
      have HZ := hid (And.intro z2 (And.intro z3 z4))
      have HB3 := hid hb3
      clear HSH r0 r1 r2 r3 r4 r5 o3 z2 z3 z4 hb3 hbx hxp x2 x0 x1
      go_wp2_with fail
      refine bodyPost_ret (v := .agg #[.bool s, .slice (some ⟨g1, 0, none⟩) ys.length ys.length, .slice (some ⟨W.heap.size, 0, none⟩) zs.length zs.length]) (by simp [results, Tryd.results47, go_sem, y0, y1, y2]) rfl ?_
      have e0 : w.heap.size ≤ w1.heap.size := HB.out.size
      have e1 := HXr.out.lt
      have e2 := HF.out.2.2.2.2.2.1
      refine ⟨some ⟨g1, 0, none⟩, ys.length, some ⟨W.heap.size, 0, none⟩, zs.length, ys, zs, rfl, owns_base (end_own (owns_later HF.out.2.1 HB3.out) HBX.out HRX.out hpne2 _ _ _ _ ()) e0, owns_base (end_own HO3.out HBX.out HRX.out hpne2 _ _ _ _ ()) (Nat.le_trans e0 HF.out.2.2.2.2.2.2.size), HF.out.2.2.2.1.1, HF.out.2.2.2.1.2.1, HZ.out.1, HZ.out.2.1, ?_, ?_, ?_, end_below (bt HB.out (bt HF.out.2.2.2.2.2.2 HB3.out)) (by omega) (by omega) _ _ _ _ ()⟩
      · rw [hkk, hd, HF.out.2.2.2.1.2.2.1, show (u + (k : Int)).toNat = 0 by omega]; simp
      · rw [hkk, HZ.out.2.2, val_one, show (-(u + (k : Int))).toNat = t + 32 * q by have := HQT.out; omega, Int.pow_add, ← pw_two, Int.one_mul]
      · have e3 := HF.out.2.1.base.2
        intro e4
        injection e4 with e5
        injection e5 with e6
        omega
    · obtain ⟨q, t, ht, hqt⟩ : ∃ q t : Nat, t ≤ 31 ∧ u + (k : Int) = 32 * q + t := ⟨(u + (k : Int)).toNat / 32, (u + (k : Int)).toNat % 32, by omega, by omega⟩
      obtain ⟨l, hl⟩ := len_succ HF.out.2.2.2.1.2.2.1 HD.out.2
      have HLL : Hid (l ≤ 1) := by have := HF.out.2.2.2.1.2.2.2; show _ ≤ _; omega
      have HSH : Hid (Calls Tryd.prog 64 #[.slice (some ⟨g1, 0, none⟩) ys.length ys.length, .int .i64 (32 * q + t)] W fun e w' => ∃ zs : List Int, e = .returned (.slice (some ⟨W.heap.size, 0, none⟩) zs.length zs.length) ∧ OwnW w' W.heap.size W.heap.size zs.length zs ∧ Wd zs ∧ Trimmed zs ∧ val zs = val ys * 2 ^ t * 4294967296 ^ q ∧ Below W.heap.size W w') := by
        have e := rshifted_any (some ⟨g1, 0, none⟩) l ys.length ys q t (32 * q + t) W (by have e := reads_of HF.out.2.1 HF.out.2.2.2.1.1; rw [← hl]; exact e) (by have := HLL.out; omega) HF.out.2.2.2.1.2.1 (by omega) ht rfl
        rw [← hl] at e
        exact e
      clear hl HLL
      have HQT := hid hqt
      clear HTZ HTX hsh hm h0 hm0
      go_wp2_with fail
      refine Calls.mono HSH.out ?_
      rintro e w3 ⟨zs, rfl, o3, z2, z3, z4, hb3⟩
      have hbx := HF.out.1.later hb3 HF.out.1.lt
      have HBX := hid hbx
      have HRX := hid (HXr.out.later (bt HF.out.2.2.2.2.2.2 hb3) HXr.out.lt)
      have hpne : w.heap.size + 1 ≠ p := by have e1 := HXr.out.lt; have e2 := HF.out.2.2.2.2.2.1; omega
      have hpne2 : p ≠ w.heap.size + 1 := Ne.symm hpne
      obtain ⟨s0, s1, s2, s3, s4, s5⟩ := res_box3 hbx (Below.refl _ _)
      obtain ⟨y0, y1, y2, f0, f1, f2⟩ := res_box3 HRX.out (Below.refl _ _)
      have HO3 := hid o3
      have HZ := hid (And.intro z2 (And.intro z3 z4))
      have HB3 := hid hb3
      clear HSH r0 r1 r2 r3 r4 r5 o3 z2 z3 z4 hb3 hbx hxp x2 x0 x1
      go_wp2_with fail
      refine bodyPost_ret (v := .agg #[.bool s, .slice (some ⟨W.heap.size, 0, none⟩) zs.length zs.length, .slice (some ⟨g2, 0, none⟩) 1 1]) (by simp [results, Tryd.results47, go_sem, y0, y1, y2]) rfl ?_
      have e0 : w.heap.size ≤ w1.heap.size := HB.out.size
      have e1 := HXr.out.lt
      have e2 := HF.out.2.2.2.2.2.1
      refine ⟨some ⟨W.heap.size, 0, none⟩, zs.length, some ⟨g2, 0, none⟩, 1, zs, [1], rfl, owns_base (end_own HO3.out HBX.out HRX.out hpne2 _ _ _ _ ()) (Nat.le_trans e0 HF.out.2.2.2.2.2.2.size), owns_base (end_own (owns_later HF.out.2.2.1 HB3.out) HBX.out HRX.out hpne2 _ _ _ _ ()) e0, HZ.out.1, HZ.out.2.1, one_wd, one_trimmed, ?_, ?_, ?_, end_below (bt HB.out (bt HF.out.2.2.2.2.2.2 HB3.out)) (by omega) (by omega) _ _ _ _ ()⟩
      · rw [hkk, hd, HZ.out.2.2, HF.out.2.2.2.1.2.2.1, show (u + (k : Int)).toNat = t + 32 * q by have := HQT.out; omega, Int.pow_add, ← pw_two, Int.mul_assoc]
      · rw [hkk, val_one, show (-(u + (k : Int))).toNat = 0 by omega]; simp
      · have e3 := HF.out.2.2.1.base.2
        intro e4
        injection e4 with e5
        injection e5 with e6
        omega
  clear x0 x1
  go_region_held3 (fun V : World => V.cell? ⟨w.heap.size, 0, none⟩ = some (.bool s) ∧ V.cell? ⟨w.heap.size, 1, none⟩ = some (.int .u64 (m : Int))) (first | exact hs1 | exact hs0 | (refine HK.out _ ?_; repeat' first | exact hb1 | exact HBR.out | exact Below.refl _ _ | refine below_alloc1 ?_ _ | refine Below.drew ?_ | refine below_put3 ?_ _ ?_ _ _ _ | omega | (simp only [World.size_alloc]; omega)))
    (first
      | (go_at_call 63; with_reducible refine Calls.mono (H1.out _ (by first | exact HBR.out | exact bt HBR.out (alloc_later _ _) | exact bt (bt HBR.out (alloc_later _ _)) (alloc_later _ _))) ?_; rintro e w2 ⟨ys, rfl, HE, hb1, hz1, hz2, ⟨hn1, hn2⟩, hcf, hff, hs1⟩))
  · exact cont.out _ _ _ _ ys (fin1 (undrew HE.out))
  · exact cont.out _ _ _ _ ys (fin2 (undrew HE.out))
  · exact cont.out _ _ _ _ ys (fin3 (undrew HE.out))
  · exact cont.out _ _ _ _ ys (fin4 (undrew HE.out))
  · exact cont.out _ _ _ _ ys (fin5 (undrew HE.out))
  · exact cont.out _ _ _ _ ys (fin6 (undrew HE.out))

end Go.Proofs.YtoinchnlbmaafaaDoor

/- Same, Equal, Finite, Abs of parts and of the document's answers, of any complex numbers, by their parts' bits. -/
namespace Go.Proofs.YtoinchnlbmaafaaDoor
open Go.RowKit
set_option linter.unusedVariables false

set_option maxHeartbeats 800000 in
set_option maxRecDepth 100000 in
theorem zpSamePart_any (x y : Nat) (w : World) :
    Calls Tryd.prog 31 #[.float .f64 x, .float .f64 y] w fun e w' => e = .returned (.bool (sameR x y)) ∧ w' = w := by
  have hx := mIsNaN_any x w
  have hy := mIsNaN_any y w
  have bx := bits_run x
  have by' := bits_run y
  have hb := natBeq x y
  have hs : sameR x y = (isnan x && isnan y || x == y) := rfl
  cases e : (x == y)
  · rw [e] at hb
    cases n1 : isnan x
    · rw [n1] at hx
      have hs' : sameR x y = false := by rw [hs, n1, e]; rfl
      rw [hs']
      have HX := hid hx
      clear hs hs' n1 hx hy e
      go_enter Tryd.func31, Tryd.ntmps31
      go_wp2_with (go_at_call 25; refine Calls.mono HX.out ?_; rintro e w2 ⟨rfl, rfl⟩)
      go_ret
      exact ⟨rfl, rfl⟩
    · rw [n1] at hx
      have hs' : sameR x y = isnan y := by rw [hs, n1, e]; simp
      rw [hs']
      have HX := hid hx
      have HY := hid hy
      clear hs hs' n1 hx hy e
      go_enter Tryd.func31, Tryd.ntmps31
      go_wp2_with fail
      refine Calls.mono HX.out ?_
      rintro e w2 ⟨rfl, rfl⟩
      go_wp2_with fail
      refine Calls.mono HY.out ?_
      rintro e w2 ⟨rfl, rfl⟩
      go_wp2_with fail
      go_ret
      exact ⟨rfl, rfl⟩
  · rw [e] at hb
    have hs' : sameR x y = true := by rw [hs, e]; simp
    rw [hs']
    clear hs hs' hx hy e
    go_enter Tryd.func31, Tryd.ntmps31
    go_wp2_with fail
    go_ret
    exact ⟨rfl, rfl⟩

set_option maxHeartbeats 800000 in
set_option maxRecDepth 100000 in
theorem zpSame_any (a b c d : Nat) (w : World) :
    Calls Tryd.prog 8 #[.complex .f64 a b, .complex .f64 c d] w fun e w' => e = .returned (.bool (sameR a c && sameR b d)) ∧ w' = w := by
  have HX := hid (zpSamePart_any a c w)
  have HY := hid (zpSamePart_any b d w)
  cases e : sameR a c
  · rw [e] at HX
    rw [Bool.false_and]
    go_enter Tryd.func8, Tryd.ntmps8
    go_wp2_with fail
    refine Calls.mono HX.out ?_
    rintro e w2 ⟨rfl, rfl⟩
    go_wp2_with fail
    go_ret
    exact ⟨rfl, rfl⟩
  · rw [e] at HX
    rw [Bool.true_and]
    go_enter Tryd.func8, Tryd.ntmps8
    go_wp2_with fail
    refine Calls.mono HX.out ?_
    rintro e w2 ⟨rfl, rfl⟩
    go_wp2_with fail
    refine Calls.mono HY.out ?_
    rintro e w2 ⟨rfl, rfl⟩
    go_wp2_with fail
    go_ret
    exact ⟨rfl, rfl⟩

/-- Equal, of reals. -/
def feq (x y : Nat) : Bool := FloatKind.f64.format.order x y == some .eq

set_option maxHeartbeats 800000 in
set_option maxRecDepth 100000 in
theorem zpEqual_any (a b c d : Nat) (w : World) :
    Calls Tryd.prog 12 #[.complex .f64 a b, .complex .f64 c d] w fun e w' => e = .returned (.bool (feq a c && feq b d)) ∧ w' = w := by
  have h1 : (FloatKind.f64.format.order a c == some .eq) = feq a c := rfl
  have h2 : (FloatKind.f64.format.order b d == some .eq) = feq b d := rfl
  cases e : feq a c <;> rw [e] at h1 <;> (first | rw [Bool.false_and] | rw [Bool.true_and]) <;> clear e
  all_goals
    go_enter Tryd.func12, Tryd.ntmps12
    go_wp2
    go_ret
    exact ⟨rfl, rfl⟩

theorem fin_parts (x : Nat) : fin x = (!isinf (x % 9223372036854775808) && !isnan x) := by
  cases h : fin x
  · have h' : ¬ x % 9223372036854775808 < 9218868437227405312 := fun g => by rw [(fin_iff x).2 g] at h; cases h
    cases n : isnan x
    · have n' : ¬ 9218868437227405312 < x % 9223372036854775808 := fun g => by rw [(isnan_iff x).2 g] at n; cases n
      have e : x % 9223372036854775808 = 9218868437227405312 := by omega
      rw [e]; rfl
    · simp
  · rw [fin_iff] at h
    have n : isnan x = false := by
      cases n : isnan x
      · rfl
      · rw [isnan_iff] at n; omega
    have e : isinf (x % 9223372036854775808) = false := by
      simp only [isinf, beq_eq_false_iff_ne]; omega
    rw [n, e]; rfl

set_option maxHeartbeats 800000 in
set_option maxRecDepth 100000 in
theorem zpFinitePart_any (x : Nat) (w : World) (h : x < 18446744073709551616) :
    Calls Tryd.prog 33 #[.float .f64 x] w fun e w' => e = .returned (.bool (fin x)) ∧ w' = w := by
  have HI := hid (mIsInf0_any x w h)
  have HN := hid (mIsNaN_any x w)
  have hf := fin_parts x
  rw [hf]
  cases e : isinf (x % 9223372036854775808) <;> rw [e] at HI <;> clear hf e h
  · cases n : isnan x <;> rw [n] at HN <;> clear n
    all_goals
      go_enter Tryd.func33, Tryd.ntmps33
      go_wp2_with fail
      refine Calls.mono HI.out ?_
      rintro e w2 ⟨rfl, rfl⟩
      go_wp2_with fail
      refine Calls.mono HN.out ?_
      rintro e w2 ⟨rfl, rfl⟩
      go_wp2_with fail
      go_ret
      exact ⟨rfl, rfl⟩
  · go_enter Tryd.func33, Tryd.ntmps33
    go_wp2_with fail
    refine Calls.mono HI.out ?_
    rintro e w2 ⟨rfl, rfl⟩
    go_wp2_with fail
    go_ret
    exact ⟨by simp, rfl⟩

/-- A float less itself. -/
theorem less_self {x r : Nat} (h : FN .sub x x r) : (FloatKind.f64.format.order r 0 == some .eq) = fin x := by
  cases f : fin x
  · have e : floatBits .sub .f64 x x = none := by
      show (((Ieee.double.read x).sum (Ieee.double.read x).opposite).map _) = none
      rcases read_not f with ⟨s, e⟩ | ⟨s, t, e⟩ <;> rw [e]
      · cases s <;> rfl
      · rfl
    rcases h.2 with g | ⟨_, g⟩
    · rw [e] at g; cases g
    · rw [order_nan_l g]; rfl
  · obtain ⟨s, m, i, e⟩ := read_fin f
    have g : floatBits .sub .f64 x x = some 0 := by
      show (((Ieee.double.read x).sum (Ieee.double.read x).opposite).map _) = some 0
      rw [e]
      have z : Ieee.signed s m (i - min i i).toNat + Ieee.signed (!s) m (i - min i i).toNat = 0 := by
        cases s <;> simp [Ieee.signed] <;> omega
      simp only [Ieee.Datum.opposite, Ieee.Datum.sum, z]
      cases s <;> simp [Ieee.Format.write, Ieee.Format.nearest, Ieee.Format.word]
    rcases h.2 with k | ⟨k, _⟩
    · rw [g] at k; cases k; decide
    · rw [g] at k; cases k

set_option maxHeartbeats 800000 in
set_option maxRecDepth 100000 in
theorem zpFinite_any (a b : Nat) (w : World) (ha : a < 18446744073709551616) (hb : b < 18446744073709551616) :
    Calls Tryd.prog 14 #[.complex .f64 a b] w fun e w' => e = .returned (.bool (fin a && fin b)) ∧ w' = w := by
  have HX := hid (zpFinitePart_any a w ha)
  have HY := hid (zpFinitePart_any b w hb)
  clear ha hb
  cases e : fin a <;> rw [e] at HX <;> clear e
  · rw [Bool.false_and]
    go_enter Tryd.func14, Tryd.ntmps14
    go_wp2_with fail
    refine Calls.mono HX.out ?_
    rintro e w2 ⟨rfl, rfl⟩
    go_wp2_with fail
    go_ret
    exact ⟨rfl, rfl⟩
  · rw [Bool.true_and]
    go_enter Tryd.func14, Tryd.ntmps14
    go_wp2_with fail
    refine Calls.mono HX.out ?_
    rintro e w2 ⟨rfl, rfl⟩
    go_wp2_with fail
    refine Calls.mono HY.out ?_
    rintro e w2 ⟨rfl, rfl⟩
    go_wp2_with fail
    go_ret
    exact ⟨rfl, rfl⟩

end Go.Proofs.YtoinchnlbmaafaaDoor

/- real.Exact and parts.Exact, of finite floats that are not 0. -/
namespace Go.Proofs.YtoinchnlbmaafaaDoor
open Go.RowKit
set_option linter.unusedVariables false

/-- The numerator's and the denominator's value of a float that is not 0. -/
def fnum (x : Nat) : Int := ((fcount x / 2 ^ Lib.ctz 64 (fcount x) : Nat) : Int) * 2 ^ (funit x + (Lib.ctz 64 (fcount x) : Int)).toNat
def fden (x : Nat) : Int := 2 ^ (-(funit x + (Lib.ctz 64 (fcount x) : Int))).toNat
/-- A fraction in memory of the call's own. -/
def OwnR (w : World) (base : Nat) (a : Option Addr) (ca : Nat) (zs : List Int) (b : Option Addr) (cb : Nat) (ds : List Int) : Prop :=
  w.ownsRow base 56 1 (.slice a zs.length ca) zs.length (zs.map (Value.int .u32)) ∧ w.ownsRow base 56 1 (.slice b ds.length cb) ds.length (ds.map (Value.int .u32)) ∧ Wd zs ∧ Trimmed zs ∧ Wd ds ∧ Trimmed ds ∧ a ≠ b
theorem OwnR.later {w w' : World} {base : Nat} {a : Option Addr} {ca : Nat} {zs : List Int} {b : Option Addr} {cb : Nat} {ds : List Int} (h : OwnR w base a ca zs b cb ds) (hb : Below w.heap.size w w') : OwnR w' base a ca zs b cb ds := ⟨owns_later h.1 hb, owns_later h.2.1 hb, h.2.2⟩
theorem OwnR.base {w : World} {base base' : Nat} {a : Option Addr} {ca : Nat} {zs : List Int} {b : Option Addr} {cb : Nat} {ds : List Int} (h : OwnR w base a ca zs b cb ds) (hb : base' ≤ base) : OwnR w base' a ca zs b cb ds := ⟨owns_base h.1 hb, owns_base h.2.1 hb, h.2.2⟩
theorem OwnR.put3 {w : World} {base p t : Nat} {a : Option Addr} {ca : Nat} {zs : List Int} {b : Option Addr} {cb : Nat} {ds : List Int} {vs : Array Value} (h : OwnR w base a ca zs b cb ds) (hb : Box w p t vs) (hne : 56 ≠ t) (v0 v1 v2 : Value) : OwnR (((w.setCell ⟨p, 0, none⟩ v0).setCell ⟨p, 1, none⟩ v1).setCell ⟨p, 2, none⟩ v2) base a ca zs b cb ds :=
  ⟨own_put3 h.1 p (own_ne_box h.1 hb hne) _ _ _, own_put3 h.2.1 p (own_ne_box h.2.1 hb hne) _ _ _, h.2.2⟩

set_option maxHeartbeats 1600000 in
set_option maxRecDepth 100000 in
theorem exact_nz (x : Nat) (w : World) (hx : x < 18446744073709551616) (hf : fin x = true) (h0 : fcount x ≠ 0) (hT : TabB w) :
    Calls Tryd.prog 36 #[.float .f64 x] w fun e w' => ∃ a ca b cb zs ds, e = .returned (.tuple #[.agg #[.bool (x / 9223372036854775808 == 1), .slice a zs.length ca, .slice b ds.length cb], .int .i64 0]) ∧ OwnR w' w.heap.size a ca zs b cb ds ∧ val zs = fnum x ∧ val ds = fden x ∧ Below w.heap.size w w' := by
  have HZ := hid (Box.made w 40 #[.bool false, .slice none 0 0, .slice none 0 0])
  have HB := hid (alloc_later w (.cells #[.bool false, .slice none 0 0, .slice none 0 0] 40))
  have HF := hid (fun V => finite_any x V hx)
  rw [hf] at HF
  have HA := hid (fun V => takeApart_any x V hx)
  have hT2 := hT.later HB.out
  have HTT := hid hT2
  have HU := hid (funit_le x)
  have HC := hid (fcount_lt x)
  have HN := hid h0
  have HV : Hid (fnum x = ((fcount x / 2 ^ Lib.ctz 64 (fcount x) : Nat) : Int) * 2 ^ (funit x + (Lib.ctz 64 (fcount x) : Int)).toNat ∧ fden x = 2 ^ (-(funit x + (Lib.ctz 64 (fcount x) : Int))).toNat) := ⟨rfl, rfl⟩
  generalize fnum x = fN at *
  generalize fden x = fD at *
  generalize (x / 9223372036854775808 == 1) = s at *
  generalize fcount x = m at *
  generalize funit x = u at *
  clear hf h0 hT hT2 hx
  go_enter Tryd.func36, Tryd.ntmps36
  go_wp2_with fail
  generalize w.alloc (.cells #[.bool false, .slice none 0 0, .slice none 0 0] 40) = X at *
  refine Calls.mono (HF.out _) ?_
  rintro e w1 ⟨rfl, rfl⟩
  go_wp2_with fail
  refine Calls.mono (HA.out _) ?_
  rintro e w2 ⟨rfl, hb2⟩
  have HB2 := hid hb2
  have HTT2 := hid (HTT.out.later hb2)
  have HFR := hid (fraction_any s m u w2 (by have := HC.out; omega) HN.out HU.out.1 (by have := HU.out.2; omega) HTT2.out)
  clear hb2
  go_wp2_with fail
  refine Calls.mono HFR.out ?_
  rintro e w3 ⟨a, ca, b, cb, zs, ds, rfl, o1, o2, q1, q2, q3, q4, q5, q6, q7, hb3⟩
  have HO : Hid (OwnR w3 w2.heap.size a ca zs b cb ds) := ⟨o1, o2, q1, q2, q3, q4, q7⟩
  have HQ := hid (And.intro q5 q6)
  have HB3 := hid (bt HB2.out hb3)
  have HZ3 := hid (HZ.out.later HB3.out HZ.out.lt)
  obtain ⟨y0, y1, y2, f0, f1, f2⟩ := res_box3 HZ3.out (Below.refl _ _)
  clear o1 o2 q1 q2 q3 q4 q5 q6 q7 hb3 HFR HTT2 HTT
  go_wp2_with fail
  refine bodyPost_ret (v := .tuple #[.agg #[.bool s, .slice a zs.length ca, .slice b ds.length cb], .int .i64 0]) (by simp [results, Tryd.results36, go_sem, y0, y1, y2]) rfl ?_
  exact ⟨a, ca, b, cb, zs, ds, rfl, (HO.out.put3 HZ3.out (by decide) _ _ _).base (Nat.le_trans HB.out.size HB2.out.size), by rw [HV.out.1]; exact HQ.out.1, by rw [HV.out.2]; exact HQ.out.2, below_put3 (bt HB.out HB3.out) _ (Nat.le_refl _) _ _ _⟩

end Go.Proofs.YtoinchnlbmaafaaDoor

/- parts.Exact, of numbers whose parts are finite and not 0. -/
namespace Go.Proofs.YtoinchnlbmaafaaDoor
open Go.RowKit
set_option linter.unusedVariables false

def put6 (W : World) (b : Nat) (v0 v1 v2 v3 v4 v5 : Value) : World := (((((W.setCell ⟨b, 0, none⟩ v0).setCell ⟨b, 1, none⟩ v1).setCell ⟨b, 2, none⟩ v2).setCell ⟨b, 3, none⟩ v3).setCell ⟨b, 4, none⟩ v4).setCell ⟨b, 5, none⟩ v5
theorem own_put6 {W : World} {base e n b t : Nat} {v : Value} {xs : List Value} {vs : Array Value} (h : W.ownsRow base e 1 v n xs) (hb : Box W b t vs) (hne : e ≠ t) (v0 v1 v2 v3 v4 v5 : Value) : (put6 W b v0 v1 v2 v3 v4 v5).ownsRow base e 1 v n xs := by
  have k := own_ne_box h hb hne
  exact own_put1 (own_put1 (own_put1 (own_put1 (own_put1 (own_put1 h b k 0 v0) b k 1 v1) b k 2 v2) b k 3 v3) b k 4 v4) b k 5 v5
theorem OwnR.put6 {w : World} {base p t : Nat} {a : Option Addr} {ca : Nat} {zs : List Int} {b : Option Addr} {cb : Nat} {ds : List Int} {vs : Array Value} (h : OwnR w base a ca zs b cb ds) (hb : Box w p t vs) (hne : 56 ≠ t) (v0 v1 v2 v3 v4 v5 : Value) : OwnR (Go.Proofs.YtoinchnlbmaafaaDoor.put6 w p v0 v1 v2 v3 v4 v5) base a ca zs b cb ds :=
  ⟨own_put6 h.1 hb hne _ _ _ _ _ _, own_put6 h.2.1 hb hne _ _ _ _ _ _, h.2.2⟩
theorem below_put6 {B : Nat} {w V : World} {p : Nat} (h : Below B w V) (hp : B ≤ p) (v0 v1 v2 v3 v4 v5 : Value) : Below B w (put6 V p v0 v1 v2 v3 v4 v5) :=
  (((((h.setCell (p := ⟨p, 0, none⟩) hp v0).setCell (p := ⟨p, 1, none⟩) hp v1).setCell (p := ⟨p, 2, none⟩) hp v2).setCell (p := ⟨p, 3, none⟩) hp v3).setCell (p := ⟨p, 4, none⟩) hp v4).setCell (p := ⟨p, 5, none⟩) hp v5

set_option maxHeartbeats 400000 in
set_option maxRecDepth 100000 in
theorem pexact_nz (x y : Nat) (w : World) (hx : x < 18446744073709551616) (hy : y < 18446744073709551616) (hfx : fin x = true) (hfy : fin y = true) (h0 : fcount x ≠ 0) (h1 : fcount y ≠ 0) (hT : TabB w) :
    Calls Tryd.prog 18 #[.complex .f64 x y] w fun e w' => ∃ a ca b cb zs ds a' ca' b' cb' zs' ds', e = .returned (.tuple #[.agg #[.bool (x / 9223372036854775808 == 1), .slice a zs.length ca, .slice b ds.length cb, .bool (y / 9223372036854775808 == 1), .slice a' zs'.length ca', .slice b' ds'.length cb'], .int .i64 0]) ∧ OwnR w' w.heap.size a ca zs b cb ds ∧ OwnR w' w.heap.size a' ca' zs' b' cb' ds' ∧ val zs = fnum x ∧ val ds = fden x ∧ val zs' = fnum y ∧ val ds' = fden y ∧ Below w.heap.size w w' := by
  have HX := hid (fun V hV => exact_nz x V hx hfx h0 hV)
  have HY := hid (fun V hV => exact_nz y V hy hfy h1 hV)
  generalize (x / 9223372036854775808 == 1) = s at *
  generalize (y / 9223372036854775808 == 1) = t at *
  have HG := hid (Box.made w 42 #[.bool false, .slice none 0 0, .slice none 0 0, .bool false, .slice none 0 0, .slice none 0 0])
  have HB := hid (alloc_later w (.cells #[.bool false, .slice none 0 0, .slice none 0 0, .bool false, .slice none 0 0, .slice none 0 0] 42))
  have HT := hid (hT.later HB.out)
  clear hT hx hy hfx hfy h0 h1
  go_enter Tryd.func18, Tryd.ntmps18
  go_wp2_with fail
  generalize w.alloc (.cells #[.bool false, .slice none 0 0, .slice none 0 0, .bool false, .slice none 0 0, .slice none 0 0] 42) = X at *
  refine Calls.mono (HX.out _ HT.out) ?_
  rintro e w1 ⟨a, ca, b, cb, zs, ds, rfl, ho, hz, hd, hb⟩
  have HB1 := hid hb
  have HO1 := hid ho
  have HV1 := hid (And.intro hz hd)
  have HR := hid (Box.made w1 40 #[.bool s, .slice a zs.length ca, .slice b ds.length cb])
  have HBA := hid (alloc_later w1 (.cells #[.bool s, .slice a zs.length ca, .slice b ds.length cb] 40))
  have HT1 := hid ((HT.out.later hb).later HBA.out)
  clear ho hz hd hb HX
  go_wp2_with fail
  generalize w1.alloc (.cells #[.bool s, .slice a zs.length ca, .slice b ds.length cb] 40) = X1 at *
  refine Calls.mono (HY.out _ HT1.out) ?_
  rintro e w2 ⟨a', ca', b', cb', zs', ds', rfl, ho, hz, hd, hb⟩
  have HB2 := hid hb
  have HO2 := hid ho
  have HV2 := hid (And.intro hz hd)
  have hre := HR.out.later hb HR.out.lt
  have HRE := hid hre
  have hg := HG.out.later (bt HB1.out (bt HBA.out hb)) HG.out.lt
  have HGX := hid hg
  have n1 : w.heap.size ≠ w2.heap.size := by have := hg.lt; omega
  have n2 : w1.heap.size ≠ w2.heap.size := by have := hre.lt; omega
  have n3 := hg.lt
  have n4 := hre.lt
  clear ho hz hd hb HY hre hg HT HT1
  have HBD : ∀ V, (Instr.build 42 #[(0, .agg #[.bool s, .slice a zs.length ca, .slice b ds.length cb]), (1, .agg #[.bool t, .slice a' zs'.length ca', .slice b' ds'.length cb'])]).run Tryd.prog V = .ok (.agg #[.bool s, .slice a zs.length ca, .slice b ds.length cb, .bool t, .slice a' zs'.length ca', .slice b' ds'.length cb']) V := fun V => run_build V _ _ _ (by kernel_rfl)
  have HBA2 := hid (alloc_later w2 (.cells #[.bool t, .slice a' zs'.length ca', .slice b' ds'.length cb'] 40))
  have HI := hid (Box.made w2 40 #[.bool t, .slice a' zs'.length ca', .slice b' ds'.length cb'])
  have HGA := hid (HGX.out.later HBA2.out HGX.out.lt)
  have HRA := hid (HRE.out.later HBA2.out HRE.out.lt)
  obtain ⟨W3, hW3⟩ : ∃ W3, w2.alloc (.cells #[.bool t, .slice a' zs'.length ca', .slice b' ds'.length cb'] 40) = W3 := ⟨_, rfl⟩
  rw [hW3] at HBA2 HI HGA HRA
  have g0 : W3.cell? ⟨w.heap.size, 0, none⟩ = some (.bool false) := HGA.out.cell 0
  have g1 : W3.cell? ⟨w.heap.size, 1, none⟩ = some (.slice none 0 0) := HGA.out.cell 1
  have g2 : W3.cell? ⟨w.heap.size, 2, none⟩ = some (.slice none 0 0) := HGA.out.cell 2
  have g3 : W3.cell? ⟨w.heap.size, 3, none⟩ = some (.bool false) := HGA.out.cell 3
  have g4 : W3.cell? ⟨w.heap.size, 4, none⟩ = some (.slice none 0 0) := HGA.out.cell 4
  have g5 : W3.cell? ⟨w.heap.size, 5, none⟩ = some (.slice none 0 0) := HGA.out.cell 5
  have f0 := HGA.out.free 0
  have f1 := HGA.out.free 1
  have f2 := HGA.out.free 2
  have f3 := HGA.out.free 3
  have f4 := HGA.out.free 4
  have f5 := HGA.out.free 5
  obtain ⟨r0, r1, r2, _, _, _⟩ := res_box3 HRA.out (Below.refl _ _)
  obtain ⟨i0, i1, i2, _, _, _⟩ := res_box3 HI.out (Below.refl _ _)
  clear n1 n2 n3 n4 HBD
  have e1 : X.heap.size ≤ w1.heap.size := HB1.out.size
  have e2 : w1.heap.size ≤ X1.heap.size := HBA.out.size
  have HE := hid (And.intro e1 e2)
  clear e1 e2
  go_wp2_with fail
  refine bodyPost_ret (v := .tuple #[.agg #[.bool s, .slice a zs.length ca, .slice b ds.length cb, .bool t, .slice a' zs'.length ca', .slice b' ds'.length cb'], .int .i64 0]) (by simp [results, Tryd.results18, go_sem, g0, g1, g2, g3, g4, g5]) rfl ?_
  have h1 := (((HO1.out.later HBA.out).later HB2.out).later HBA2.out).put6 HGA.out (by decide) (.bool s) (.slice a zs.length ca) (.slice b ds.length cb) (.bool t) (.slice a' zs'.length ca') (.slice b' ds'.length cb')
  have h2 := (HO2.out.later HBA2.out).put6 HGA.out (by decide) (.bool s) (.slice a zs.length ca) (.slice b ds.length cb) (.bool t) (.slice a' zs'.length ca') (.slice b' ds'.length cb')
  exact ⟨a, ca, b, cb, zs, ds, a', ca', b', cb', zs', ds', rfl, h1.base HB.out.size, h2.base (Nat.le_trans HB.out.size (Nat.le_trans HE.out.1 HE.out.2)), HV1.out.1, HV1.out.2, HV2.out.1, HV2.out.2, below_put6 (bt HB.out (bt HB1.out (bt HBA.out (bt HB2.out HBA2.out)))) (Nat.le_refl _) _ _ _ _ _ _⟩

end Go.Proofs.YtoinchnlbmaafaaDoor

/- Abs of parts and of the document's answer, of any complex number, by its parts' bits. -/
namespace Go.Proofs.YtoinchnlbmaafaaDoor
open Go.RowKit
set_option linter.unusedVariables false

/-- The steps behind the tests: the greater size, the lesser one. -/
def AbsG (m n r : Nat) : Prop := ∃ q p s t, FN .quo n m q ∧ FN .mul q q p ∧ FN .add 4607182418800017408 p s ∧ FQ s t ∧ FN .mul m t r
/-- What Abs tells of two sizes. -/
def AbsR (A B r : Nat) : Prop :=
  ((isnan A || isnan B) = true ∧ r = 9221120237041090561) ∨
  ((isnan A || isnan B) = false ∧ (isinf A || isinf B) = true ∧ r = 9218868437227405312) ∨
  ((isnan A || isnan B) = false ∧ (isinf A || isinf B) = false ∧ ∃ m n, (A < B ∧ m = B ∧ n = A ∨ ¬ A < B ∧ m = A ∧ n = B) ∧ (m = 0 ∧ r = 0 ∨ ¬ m = 0 ∧ AbsG m n r))

theorem AbsG.al {m n r r' : Nat} (h : AbsG m n r) (h' : AbsG m n r') : Al r r' := by
  obtain ⟨q, p, s, t, h1, h2, h3, h4, h5⟩ := h
  obtain ⟨q', p', s', t', h1', h2', h3', h4', h5'⟩ := h'
  have a1 := h1.al h1' (.refl _) (.refl _)
  have a2 := h2.al h2' a1 a1
  have a3 := h3.al h3' (.refl _) a2
  have a4 := h4.al h4' a3
  exact h5.al h5' (.refl _) a4
theorem AbsR.al {A B r r' : Nat} (h : AbsR A B r) (h' : AbsR A B r') : Al r r' := by
  rcases h with ⟨h0, rfl⟩ | ⟨h0, h1, rfl⟩ | ⟨h0, h1, m, n, h2, h3⟩
  · rcases h' with ⟨g0, rfl⟩ | ⟨g0, g1, rfl⟩ | ⟨g0, g1, m', n', g2, g3⟩
    · exact .refl _
    · rw [h0] at g0; cases g0
    · rw [h0] at g0; cases g0
  · rcases h' with ⟨g0, rfl⟩ | ⟨g0, g1, rfl⟩ | ⟨g0, g1, m', n', g2, g3⟩
    · rw [h0] at g0; cases g0
    · exact .refl _
    · rw [h1] at g1; cases g1
  · rcases h' with ⟨g0, rfl⟩ | ⟨g0, g1, rfl⟩ | ⟨g0, g1, m', n', g2, g3⟩
    · rw [h0] at g0; cases g0
    · rw [h1] at g1; cases g1
    · have e : m' = m ∧ n' = n := by
        rcases h2 with ⟨a, rfl, rfl⟩ | ⟨a, rfl, rfl⟩ <;> rcases g2 with ⟨b, rfl, rfl⟩ | ⟨b, rfl, rfl⟩ <;> first | exact ⟨rfl, rfl⟩ | exact absurd a b | exact absurd b a
      obtain ⟨rfl, rfl⟩ := e
      rcases h3 with ⟨a, rfl⟩ | ⟨a, h3⟩ <;> rcases g3 with ⟨b, rfl⟩ | ⟨b, g3⟩
      · exact .refl _
      · exact absurd a b
      · exact absurd b a
      · exact h3.al g3

theorem not_nan_le {x : Nat} (h : x < 9223372036854775808) (n : isnan x = false) : x ≤ 9218868437227405312 := by
  have n' : ¬ 9218868437227405312 < x % 9223372036854775808 := fun g => by rw [(isnan_iff x).2 g] at n; cases n
  omega
theorem isinf_lt {x : Nat} (h : x < 9223372036854775808) (n : isnan x = false) (i : isinf x = false) : x < 9218868437227405312 := by
  have := not_nan_le h n
  simp only [isinf, beq_eq_false_iff_ne] at i
  omega
theorem lt_of_order {x y : Nat} (hx : x ≤ 9218868437227405312) (hy : y ≤ 9218868437227405312) : (FloatKind.f64.format.order x y == some .lt) = decide (x < y) := by
  rw [order_pos hx hy]
  by_cases h : x < y
  · rw [Nat.compare_eq_lt.2 h]; simp [h]
  · have : compare x y ≠ .lt := fun g => h (Nat.compare_eq_lt.1 g)
    cases e : compare x y
    · exact absurd e this
    · simp [h]
    · simp [h]
theorem zero_of_order {x : Nat} (hx : x ≤ 9218868437227405312) : (FloatKind.f64.format.order x 0 == some .eq) = decide (x = 0) := by
  rw [order_pos hx (by decide)]
  by_cases h : x = 0
  · subst h; simp
  · have : compare x 0 = .gt := Nat.compare_eq_gt.2 (by omega)
    rw [this]; simp [h]

set_option maxHeartbeats 1600000 in
set_option maxRecDepth 100000 in
theorem zpAbs_any (a b : Nat) (w : World) (ha : a < 18446744073709551616) (hb : b < 18446744073709551616) :
    Calls Tryd.prog 13 #[.complex .f64 a b] w fun e w' => ∃ r, e = .returned (.float .f64 r) ∧ r < 18446744073709551616 ∧ AbsR (a % 9223372036854775808) (b % 9223372036854775808) r ∧ Below w.heap.size w w' := by
  have HA := hid (fun V => mAbs_any a V ha)
  have HB := hid (fun V => mAbs_any b V hb)
  have la : a % 9223372036854775808 < 9223372036854775808 := by omega
  have lb : b % 9223372036854775808 < 9223372036854775808 := by omega
  generalize a % 9223372036854775808 = A at *
  generalize b % 9223372036854775808 = B at *
  clear ha hb
  have rD := fquo_run Tryd.prog 31
  have rM := fmul_run Tryd.prog 31
  have rA := fadd_run Tryd.prog 31
  have HN := hid (fun V => mIsNaN_any A V)
  have HM := hid (fun V => mIsNaN_any B V)
  have HZ := hid mNaN_any
  cases n1 : isnan A
  case true =>
    have h1 : (FloatKind.f64.format.order A B == some .lt) = false := by rw [order_nan_l n1]; rfl
    have HE : Hid (AbsR A B 9221120237041090561) := .inl ⟨by rw [n1]; rfl, rfl⟩
    rw [n1] at HN
    clear n1 la lb rD rM rA
    go_enter Tryd.func13, Tryd.ntmps13
    go_wp2_with fail
    refine Calls.mono (HA.out _) ?_
    rintro e w2 ⟨rfl, rfl⟩
    go_wp2_with fail
    refine Calls.mono (HB.out _) ?_
    rintro e w2 ⟨rfl, rfl⟩
    go_wp2_with fail
    refine Calls.mono (HN.out _) ?_
    rintro e w2 ⟨rfl, rfl⟩
    go_wp2_with fail
    refine Calls.mono (HZ.out _) ?_
    rintro e w2 ⟨rfl, rfl⟩
    go_wp2_with fail
    go_ret
    exact ⟨_, rfl, by decide, HE.out, Below.refl _ _⟩
  cases n2 : isnan B
  case true =>
    have h1 : (FloatKind.f64.format.order A B == some .lt) = false := by rw [order_nan_r n2]; rfl
    have HE : Hid (AbsR A B 9221120237041090561) := .inl ⟨by rw [n1, n2]; rfl, rfl⟩
    rw [n1] at HN
    rw [n2] at HM
    clear n1 n2 la lb rD rM rA
    go_enter Tryd.func13, Tryd.ntmps13
    go_wp2_with fail
    refine Calls.mono (HA.out _) ?_
    rintro e w2 ⟨rfl, rfl⟩
    go_wp2_with fail
    refine Calls.mono (HB.out _) ?_
    rintro e w2 ⟨rfl, rfl⟩
    go_wp2_with fail
    refine Calls.mono (HN.out _) ?_
    rintro e w2 ⟨rfl, rfl⟩
    go_wp2_with fail
    refine Calls.mono (HM.out _) ?_
    rintro e w2 ⟨rfl, rfl⟩
    go_wp2_with fail
    refine Calls.mono (HZ.out _) ?_
    rintro e w2 ⟨rfl, rfl⟩
    go_wp2_with fail
    go_ret
    exact ⟨_, rfl, by decide, HE.out, Below.refl _ _⟩
  have h1 := lt_of_order (not_nan_le la n1) (not_nan_le lb n2)
  rw [n1] at HN
  rw [n2] at HM
  have e0 : (isnan A || isnan B) = false := by rw [n1, n2]; rfl
  by_cases hlt : A < B
  · have h2 : decide (A < B) = true := by simp [hlt]
    rw [h2] at h1
    have HI := hid (fun V => mIsInf1_any B V lb)
    cases i1 : isinf B
    case true =>
      rw [i1] at HI
      have HE : Hid (AbsR A B B) := .inr (.inl ⟨e0, by rw [i1]; simp, by simpa [isinf] using i1⟩)
      have HL := hid lb
      clear n1 n2 la lb e0 hlt i1 rD rM rA h2
      go_enter Tryd.func13, Tryd.ntmps13
      go_wp2_with fail
      refine Calls.mono (HA.out _) ?_
      rintro e w2 ⟨rfl, rfl⟩
      go_wp2_with fail
      refine Calls.mono (HB.out _) ?_
      rintro e w2 ⟨rfl, rfl⟩
      go_wp2_with fail
      refine Calls.mono (HM.out _) ?_
      rintro e w2 ⟨rfl, rfl⟩
      go_wp2_with fail
      refine Calls.mono (HN.out _) ?_
      rintro e w2 ⟨rfl, rfl⟩
      go_wp2_with fail
      refine Calls.mono (HI.out _) ?_
      rintro e w2 ⟨rfl, rfl⟩
      go_wp2_with fail
      go_ret
      exact ⟨_, rfl, by have := HL.out; omega, HE.out, Below.refl _ _⟩
    rw [i1] at HI
    have hz := zero_of_order (not_nan_le lb n2)
    have i2 : isinf A = false := by have := not_nan_le lb n2; simp only [isinf, beq_eq_false_iff_ne]; omega
    have e1 : (isinf A || isinf B) = false := by rw [i1, i2]; rfl
    by_cases z : B = 0
    · have HE : Hid (AbsR A B 0) := .inr (.inr ⟨e0, e1, B, A, .inl ⟨hlt, rfl, rfl⟩, .inl ⟨z, rfl⟩⟩)
      have hz2 : decide (B = 0) = true := by simp [z]
      rw [hz2] at hz
      clear n1 n2 la lb e0 e1 hlt i1 i2 rD rM rA h2 z hz2
      go_enter Tryd.func13, Tryd.ntmps13
      go_wp2_with fail
      refine Calls.mono (HA.out _) ?_
      rintro e w2 ⟨rfl, rfl⟩
      go_wp2_with fail
      refine Calls.mono (HB.out _) ?_
      rintro e w2 ⟨rfl, rfl⟩
      go_wp2_with fail
      refine Calls.mono (HM.out _) ?_
      rintro e w2 ⟨rfl, rfl⟩
      go_wp2_with fail
      refine Calls.mono (HN.out _) ?_
      rintro e w2 ⟨rfl, rfl⟩
      go_wp2_with fail
      refine Calls.mono (HI.out _) ?_
      rintro e w2 ⟨rfl, rfl⟩
      go_wp2_with fail
      go_ret
      exact ⟨_, rfl, by decide, HE.out, Below.refl _ _⟩
    · have HE : Hid (∀ r, AbsG B A r → AbsR A B r) := fun r h => .inr (.inr ⟨e0, e1, B, A, .inl ⟨hlt, rfl, rfl⟩, .inr ⟨z, h⟩⟩)
      have hz2 : decide (B = 0) = false := by simp [z]
      rw [hz2] at hz
      clear n1 n2 la lb e0 e1 hlt i1 i2 h2 z hz2
      go_enter Tryd.func13, Tryd.ntmps13
      go_wp2_with fail
      refine Calls.mono (HA.out _) ?_
      rintro e w2 ⟨rfl, rfl⟩
      go_wp2_with fail
      refine Calls.mono (HB.out _) ?_
      rintro e w2 ⟨rfl, rfl⟩
      go_wp2_with fail
      refine Calls.mono (HM.out _) ?_
      rintro e w2 ⟨rfl, rfl⟩
      go_wp2_with fail
      refine Calls.mono (HN.out _) ?_
      rintro e w2 ⟨rfl, rfl⟩
      go_wp2_with fail
      refine Calls.mono (HI.out _) ?_
      rintro e w2 ⟨rfl, rfl⟩
      go_wp2_with fail
      refine Calls.mono (mSqrt_any _ _) ?_
      rintro e w3 ⟨t, rfl, hq, hb⟩
      go_wp2_with fail
      go_ret
      refine ⟨_, rfl, (fval_fn .mul _ _ _).1, HE.out _ ⟨_, _, _, _, fval_fn .quo _ _ _, fval_fn .mul _ _ _, fval_fn .add _ _ _, hq, fval_fn .mul _ _ _⟩, ?_⟩
      refine fwld_below _ _ _ ?_
      have h0 : Below w2.heap.size w2 (fwld .add (fwld .mul (fwld .quo w2 A B) (fval .quo w2 A B) (fval .quo w2 A B)) 4607182418800017408 (fval .mul (fwld .quo w2 A B) (fval .quo w2 A B) (fval .quo w2 A B))) := fwld_below _ _ _ (fwld_below _ _ _ (fwld_below _ _ _ (Below.refl _ _)))
      exact h0.trans (hb.mono h0.size)
  · have h2 : decide (A < B) = false := by simp [hlt]
    rw [h2] at h1
    have HI := hid (fun V => mIsInf1_any A V la)
    cases i1 : isinf A
    case true =>
      rw [i1] at HI
      have HE : Hid (AbsR A B A) := .inr (.inl ⟨e0, by rw [i1]; simp, by simpa [isinf] using i1⟩)
      have HL := hid la
      clear n1 n2 la lb e0 hlt i1 rD rM rA h2
      go_enter Tryd.func13, Tryd.ntmps13
      go_wp2_with fail
      refine Calls.mono (HA.out _) ?_
      rintro e w2 ⟨rfl, rfl⟩
      go_wp2_with fail
      refine Calls.mono (HB.out _) ?_
      rintro e w2 ⟨rfl, rfl⟩
      go_wp2_with fail
      refine Calls.mono (HN.out _) ?_
      rintro e w2 ⟨rfl, rfl⟩
      go_wp2_with fail
      refine Calls.mono (HM.out _) ?_
      rintro e w2 ⟨rfl, rfl⟩
      go_wp2_with fail
      refine Calls.mono (HI.out _) ?_
      rintro e w2 ⟨rfl, rfl⟩
      go_wp2_with fail
      go_ret
      exact ⟨_, rfl, by have := HL.out; omega, HE.out, Below.refl _ _⟩
    rw [i1] at HI
    have hz := zero_of_order (not_nan_le la n1)
    have i2 : isinf B = false := by have := isinf_lt la n1 i1; simp only [isinf, beq_eq_false_iff_ne]; omega
    have e1 : (isinf A || isinf B) = false := by rw [i1, i2]; rfl
    by_cases z : A = 0
    · have HE : Hid (AbsR A B 0) := .inr (.inr ⟨e0, e1, A, B, .inr ⟨hlt, rfl, rfl⟩, .inl ⟨z, rfl⟩⟩)
      have hz2 : decide (A = 0) = true := by simp [z]
      rw [hz2] at hz
      clear n1 n2 la lb e0 e1 hlt i1 i2 rD rM rA h2 z hz2
      go_enter Tryd.func13, Tryd.ntmps13
      go_wp2_with fail
      refine Calls.mono (HA.out _) ?_
      rintro e w2 ⟨rfl, rfl⟩
      go_wp2_with fail
      refine Calls.mono (HB.out _) ?_
      rintro e w2 ⟨rfl, rfl⟩
      go_wp2_with fail
      refine Calls.mono (HN.out _) ?_
      rintro e w2 ⟨rfl, rfl⟩
      go_wp2_with fail
      refine Calls.mono (HM.out _) ?_
      rintro e w2 ⟨rfl, rfl⟩
      go_wp2_with fail
      refine Calls.mono (HI.out _) ?_
      rintro e w2 ⟨rfl, rfl⟩
      go_wp2_with fail
      go_ret
      exact ⟨_, rfl, by decide, HE.out, Below.refl _ _⟩
    · have HE : Hid (∀ r, AbsG A B r → AbsR A B r) := fun r h => .inr (.inr ⟨e0, e1, A, B, .inr ⟨hlt, rfl, rfl⟩, .inr ⟨z, h⟩⟩)
      have hz2 : decide (A = 0) = false := by simp [z]
      rw [hz2] at hz
      clear n1 n2 la lb e0 e1 hlt i1 i2 h2 z hz2
      go_enter Tryd.func13, Tryd.ntmps13
      go_wp2_with fail
      refine Calls.mono (HA.out _) ?_
      rintro e w2 ⟨rfl, rfl⟩
      go_wp2_with fail
      refine Calls.mono (HB.out _) ?_
      rintro e w2 ⟨rfl, rfl⟩
      go_wp2_with fail
      refine Calls.mono (HN.out _) ?_
      rintro e w2 ⟨rfl, rfl⟩
      go_wp2_with fail
      refine Calls.mono (HM.out _) ?_
      rintro e w2 ⟨rfl, rfl⟩
      go_wp2_with fail
      refine Calls.mono (HI.out _) ?_
      rintro e w2 ⟨rfl, rfl⟩
      go_wp2_with fail
      refine Calls.mono (mSqrt_any _ _) ?_
      rintro e w3 ⟨t, rfl, hq, hb⟩
      go_wp2_with fail
      go_ret
      refine ⟨_, rfl, (fval_fn .mul _ _ _).1, HE.out _ ⟨_, _, _, _, fval_fn .quo _ _ _, fval_fn .mul _ _ _, fval_fn .add _ _ _, hq, fval_fn .mul _ _ _⟩, ?_⟩
      refine fwld_below _ _ _ ?_
      have h0 : Below w2.heap.size w2 (fwld .add (fwld .mul (fwld .quo w2 B A) (fval .quo w2 B A) (fval .quo w2 B A)) 4607182418800017408 (fval .mul (fwld .quo w2 B A) (fval .quo w2 B A) (fval .quo w2 B A))) := fwld_below _ _ _ (fwld_below _ _ _ (fwld_below _ _ _ (Below.refl _ _)))
      exact h0.trans (hb.mono h0.size)

end Go.Proofs.YtoinchnlbmaafaaDoor

/- Rounding to the nearest float: where the rung that is told stands to the number. Nothing here speaks of the program. -/
namespace Go.Proofs.YtoinchnlbmaafaaDoor

theorem dbl_frac : Ieee.double.fractionBits = 52 := rfl

/-- Half-even of n / 2^k: twice the error is at most a unit. -/
theorem cut_even (neg : Bool) (n k : Nat) (hn : n ≠ 0) :
    2 * n ≤ (2 * Ieee.Toward.even.cut neg n k + 1) * 2 ^ k ∧ (2 * Ieee.Toward.even.cut neg n k) * 2 ^ k ≤ 2 * n + 2 ^ k ∧
    (2 * n = (2 * Ieee.Toward.even.cut neg n k + 1) * 2 ^ k → Ieee.Toward.even.cut neg n k % 2 = 0) ∧ ((2 * Ieee.Toward.even.cut neg n k) * 2 ^ k = 2 * n + 2 ^ k → Ieee.Toward.even.cut neg n k % 2 = 0) := by
  unfold Ieee.Toward.cut
  simp only [Nat.shiftLeft_eq, Nat.one_mul]
  by_cases hk : k ≤ n.log2 + 2
  · rw [Nat.min_eq_left hk]
    have hp : 0 < 2 ^ k := Nat.two_pow_pos k
    generalize 2 ^ k = G at hp
    have hd := Nat.div_add_mod n G
    have hm := Nat.mod_lt n hp
    generalize n / G = q at hd
    generalize n % G = r at hd hm
    subst hd
    by_cases h1 : G < 2 * r
    · have e : (decide (G < 2 * r) || G == 2 * r && q % 2 == 1).toNat = 1 := by simp [h1]
      rw [e]
      have a1 : (2 * (q + 1) + 1) * G = 2 * (G * q) + 3 * G := by rw [Nat.add_mul, Nat.mul_comm (2 * (q + 1)), Nat.mul_add, Nat.mul_add, Nat.mul_left_comm]; omega
      have a2 : (2 * (q + 1)) * G = 2 * (G * q) + 2 * G := by rw [Nat.mul_comm (2 * (q + 1)), Nat.mul_add, Nat.mul_add, Nat.mul_left_comm]; omega
      rw [a1, a2]
      refine ⟨by omega, by omega, by omega, by omega⟩
    · by_cases h2 : G = 2 * r
      · by_cases h3 : q % 2 = 1
        · have e : (decide (G < 2 * r) || G == 2 * r && q % 2 == 1).toNat = 1 := by simp [h2, h3]
          rw [e]
          have a1 : (2 * (q + 1) + 1) * G = 2 * (G * q) + 3 * G := by rw [Nat.add_mul, Nat.mul_comm (2 * (q + 1)), Nat.mul_add, Nat.mul_add, Nat.mul_left_comm]; omega
          have a2 : (2 * (q + 1)) * G = 2 * (G * q) + 2 * G := by rw [Nat.mul_comm (2 * (q + 1)), Nat.mul_add, Nat.mul_add, Nat.mul_left_comm]; omega
          rw [a1, a2]
          refine ⟨by omega, by omega, by omega, by omega⟩
        · have e : (decide (G < 2 * r) || G == 2 * r && q % 2 == 1).toNat = 0 := by simp [h1, h3]
          rw [e]
          have a1 : (2 * (q + 0) + 1) * G = 2 * (G * q) + G := by rw [Nat.add_mul, Nat.mul_comm (2 * (q + 0)), Nat.add_zero, Nat.mul_left_comm]; omega
          have a2 : (2 * (q + 0)) * G = 2 * (G * q) := by rw [Nat.mul_comm (2 * (q + 0)), Nat.add_zero, Nat.mul_left_comm]
          rw [a1, a2]
          refine ⟨by omega, by omega, by omega, by omega⟩
      · have e : (decide (G < 2 * r) || G == 2 * r && q % 2 == 1).toNat = 0 := by simp [h1, h2]
        rw [e]
        have a1 : (2 * (q + 0) + 1) * G = 2 * (G * q) + G := by rw [Nat.add_mul, Nat.mul_comm (2 * (q + 0)), Nat.add_zero, Nat.mul_left_comm]; omega
        have a2 : (2 * (q + 0)) * G = 2 * (G * q) := by rw [Nat.mul_comm (2 * (q + 0)), Nat.add_zero, Nat.mul_left_comm]
        rw [a1, a2]
        refine ⟨by omega, by omega, by omega, by omega⟩
  · rw [Nat.min_eq_right (by omega)]
    have hl : n < 2 ^ (n.log2 + 1) := Nat.lt_log2_self
    have e2 : 2 ^ (n.log2 + 2) = 2 ^ (n.log2 + 1) * 2 := Nat.pow_succ ..
    have hle : 2 ^ (n.log2 + 2) ≤ 2 ^ k := Nat.pow_le_pow_right (by decide) (by omega)
    have hdiv : n / 2 ^ (n.log2 + 2) = 0 := Nat.div_eq_of_lt (by omega)
    have hmod : n % 2 ^ (n.log2 + 2) = n := Nat.mod_eq_of_lt (by omega)
    rw [hdiv, hmod]
    have e : (decide (2 ^ (n.log2 + 2) < 2 * n) || 2 ^ (n.log2 + 2) == 2 * n && 0 % 2 == 1).toNat = 0 := by
      have h1 : ¬ 2 ^ (n.log2 + 2) < 2 * n := by omega
      simp [h1]
    rw [e]
    simp only [Nat.add_zero, Nat.mul_zero, Nat.zero_mul, Nat.zero_add, Nat.one_mul]
    refine ⟨by omega, by omega, by omega, fun _ => trivial⟩

/-- The rung that nearest tells, of a number above 0, and what is known ahead of the least and the greatest. -/
theorem near_core (neg : Bool) (mag : Nat) (place : Int) (h0 : mag ≠ 0) :
    ∃ E kept, Ieee.double.nearest neg mag place = Ieee.double.word neg (min (E * 4503599627370496 + kept) 9218868437227405312) ∧ kept ≤ 9007199254740992 ∧ (0 < E → 4503599627370496 ≤ kept) ∧
      2 * (mag * 2 ^ (place + 1074).toNat) ≤ (2 * kept + 1) * 2 ^ E * 2 ^ (-(place + 1074)).toNat ∧
      (2 * kept) * 2 ^ E * 2 ^ (-(place + 1074)).toNat ≤ 2 * (mag * 2 ^ (place + 1074).toNat) + 2 ^ E * 2 ^ (-(place + 1074)).toNat ∧
      (0 < E → 4503599627370496 * 2 ^ E * 2 ^ (-(place + 1074)).toNat ≤ mag * 2 ^ (place + 1074).toNat) ∧
      (2 * (mag * 2 ^ (place + 1074).toNat) = (2 * kept + 1) * 2 ^ E * 2 ^ (-(place + 1074)).toNat → kept % 2 = 0) ∧
      ((2 * kept) * 2 ^ E * 2 ^ (-(place + 1074)).toNat = 2 * (mag * 2 ^ (place + 1074).toNat) + 2 ^ E * 2 ^ (-(place + 1074)).toNat → kept % 2 = 0) := by
  unfold Ieee.Format.nearest
  rw [if_neg h0]
  simp only [dbl_inf, dbl_binade, dbl_least, dbl_frac]
  generalize hL : mag.log2 = L
  have hlo : 2 ^ L ≤ mag := by rw [← hL]; exact Nat.log2_self_le h0
  have hhi : mag < 2 ^ (L + 1) := by rw [← hL]; exact Nat.lt_log2_self
  generalize hlast : max (place + (L : Int) - ((52 : Nat) : Int)) (-1074) = last
  have hle : -1074 ≤ last := by omega
  refine ⟨(last - -1074).toNat, _, rfl, ?_⟩
  obtain ⟨E, hE⟩ : ∃ E : Nat, last = -1074 + (E : Int) := ⟨(last + 1074).toNat, by omega⟩
  have eE : (last - -1074).toNat = E := by omega
  rw [eE]
  by_cases hd : last ≤ place
  · -- nothing is dropped
    obtain ⟨u, hu⟩ : ∃ u : Nat, place = last + (u : Int) := ⟨(place - last).toNat, by omega⟩
    have e1 : (place - last).toNat = u := by omega
    have e2 : (last - place).toNat = 0 := by omega
    have e3 : (place + 1074).toNat = E + u := by omega
    have e4 : (-(place + 1074)).toNat = 0 := by omega
    rw [e1, e2, e3, e4]
    have hk : Ieee.Toward.even.cut neg (mag <<< u) 0 = mag * 2 ^ u := by
      have hm : mag <<< u ≠ 0 := by rw [Nat.shiftLeft_eq]; exact Nat.mul_ne_zero h0 (Nat.ne_of_gt (Nat.two_pow_pos u))
      obtain ⟨c1, c2, _⟩ := cut_even neg (mag <<< u) 0 hm
      rw [Nat.shiftLeft_eq] at *
      simp only [Nat.pow_zero, Nat.mul_one] at c1 c2
      omega
    rw [hk]
    have hp : 2 ^ (E + u) = 2 ^ u * 2 ^ E := by rw [Nat.add_comm, Nat.pow_add]
    have hv : mag * 2 ^ (E + u) = mag * 2 ^ u * 2 ^ E := by rw [hp, Nat.mul_assoc]
    rw [hv]
    have hpE : 0 < 2 ^ E := Nat.two_pow_pos E
    have hub : mag * 2 ^ u ≤ 9007199254740992 := by
      have : L + u ≤ 52 := by omega
      have h1 : mag * 2 ^ u ≤ 2 ^ (L + 1) * 2 ^ u := Nat.mul_le_mul_right _ (Nat.le_of_lt hhi)
      have h2 : 2 ^ (L + 1) * 2 ^ u = 2 ^ (L + 1 + u) := (Nat.pow_add ..).symm
      have h3 : 2 ^ (L + 1 + u) ≤ 2 ^ 53 := Nat.pow_le_pow_right (by decide) (by omega)
      have h4 : (2 : Nat) ^ 53 = 9007199254740992 := by decide
      omega
    have hlb : 0 < E → 4503599627370496 ≤ mag * 2 ^ u := by
      intro hE0
      have h1 : 2 ^ L * 2 ^ u ≤ mag * 2 ^ u := Nat.mul_le_mul_right _ hlo
      have h2 : 2 ^ L * 2 ^ u = 2 ^ (L + u) := (Nat.pow_add ..).symm
      have h3 : L + u = 52 := by omega
      have h4 : (2 : Nat) ^ 52 = 4503599627370496 := by decide
      rw [h3] at h2
      omega
    generalize mag * 2 ^ u = K at *
    generalize 2 ^ E = P at *
    simp only [Nat.pow_zero, Nat.mul_one]
    have a1 : 2 * (K * P) = 2 * K * P := (Nat.mul_assoc ..).symm
    have a2 : (2 * K + 1) * P = 2 * K * P + P := by rw [Nat.add_mul, Nat.one_mul]
    rw [a1, a2]
    refine ⟨hub, hlb, by omega, by omega, fun h => Nat.mul_le_mul_right _ (hlb h), fun h => ?_, fun h => ?_⟩
    · omega
    · omega
  · -- some bits are dropped
    obtain ⟨k, hk⟩ : ∃ k : Nat, last = place + (k : Int) := ⟨(last - place).toNat, by omega⟩
    have e1 : (place - last).toNat = 0 := by omega
    have e2 : (last - place).toNat = k := by omega
    rw [e1, e2, Nat.shiftLeft_zero]
    obtain ⟨c1, c2, c3, c4⟩ := cut_even neg mag k h0
    generalize hK : Ieee.Toward.even.cut neg mag k = K at *
    -- the place's part
    have key : 2 ^ k * 2 ^ (place + 1074).toNat = 2 ^ E * 2 ^ (-(place + 1074)).toNat := by
      rw [← Nat.pow_add, ← Nat.pow_add]
      congr 1
      omega
    generalize hA : 2 ^ (place + 1074).toNat = A at *
    generalize hB : 2 ^ (-(place + 1074)).toNat = B at *
    have hA0 : 0 < A := by rw [← hA]; exact Nat.two_pow_pos _
    have hkp : 0 < 2 ^ k := Nat.two_pow_pos k
    have m1 : (2 * K + 1) * 2 ^ E * B = (2 * K + 1) * 2 ^ k * A := by rw [Nat.mul_assoc (2 * K + 1) (2 ^ E) B, ← key, Nat.mul_assoc (2 * K + 1) (2 ^ k) A]
    have m2 : (2 * K) * 2 ^ E * B = (2 * K) * 2 ^ k * A := by rw [Nat.mul_assoc (2 * K) (2 ^ E) B, ← key, Nat.mul_assoc (2 * K) (2 ^ k) A]
    have m3 : 2 ^ E * B = 2 ^ k * A := key.symm
    have m4 : 2 * (mag * A) = 2 * mag * A := (Nat.mul_assoc ..).symm
    rw [m1, m2, m3, m4]
    have m5 : 2 * mag * A + 2 ^ k * A = (2 * mag + 2 ^ k) * A := (Nat.add_mul ..).symm
    rw [m5]
    have b52 : (2 : Nat) ^ 52 = 4503599627370496 := by decide
    have b53 : (2 : Nat) ^ 53 = 9007199254740992 := by decide
    refine ⟨?_, ?_, Nat.mul_le_mul_right _ c1, Nat.mul_le_mul_right _ c2, ?_, fun h => c3 (Nat.eq_of_mul_eq_mul_right hA0 h), fun h => c4 (Nat.eq_of_mul_eq_mul_right hA0 h)⟩
    · -- the count is at most 2^53
      have hlk : L ≤ 52 + k := by omega
      have h1 : mag < 9007199254740992 * 2 ^ k := by
        have h2 : 2 ^ (L + 1) ≤ 2 ^ (53 + k) := Nat.pow_le_pow_right (by decide) (by omega)
        rw [Nat.pow_add 2 53 k, b53] at h2
        omega
      have h3 : 2 * K * 2 ^ k < (2 * 9007199254740992 + 1) * 2 ^ k := by
        have : 2 * mag + 2 ^ k < 2 * (9007199254740992 * 2 ^ k) + 2 ^ k := by omega
        have e : (2 * 9007199254740992 + 1) * 2 ^ k = 2 * (9007199254740992 * 2 ^ k) + 2 ^ k := by rw [Nat.add_mul, Nat.one_mul, Nat.mul_assoc]
        omega
      have := Nat.lt_of_mul_lt_mul_right h3
      omega
    · intro hE0
      have hlk : L = 52 + k := by omega
      have h1 : 4503599627370496 * 2 ^ k ≤ mag := by
        have h2 := hlo
        rw [hlk, Nat.pow_add, b52] at h2
        exact h2
      have h3 : 2 * 4503599627370496 * 2 ^ k ≤ (2 * K + 1) * 2 ^ k := by
        have e : 2 * 4503599627370496 * 2 ^ k = 2 * (4503599627370496 * 2 ^ k) := Nat.mul_assoc ..
        omega
      have := Nat.le_of_mul_le_mul_right h3 hkp
      omega
    · intro hE0
      have hlk : L = 52 + k := by omega
      have h1 : 4503599627370496 * 2 ^ k ≤ mag := by
        have h2 := hlo
        rw [hlk, Nat.pow_add, b52] at h2
        exact h2
      have e : 4503599627370496 * 2 ^ E * B = 4503599627370496 * 2 ^ k * A := by rw [Nat.mul_assoc, ← key, Nat.mul_assoc]
      rw [e]
      exact Nat.mul_le_mul_right _ h1

/-- The number at a rung that is told by a unit and a count. -/
theorem rungVal_count {E K : Nat} (hK : K ≤ 9007199254740992) (hE : 0 < E → 4503599627370496 ≤ K) : rungVal (E * 4503599627370496 + K) = K * 2 ^ E := by
  unfold rungVal
  by_cases h0 : E = 0 ∧ K < 4503599627370496
  · obtain ⟨rfl, h⟩ := h0
    rw [if_pos (by omega)]
    simp
  · have hK2 : 4503599627370496 ≤ K := by
      by_cases hz : 0 < E
      · exact hE hz
      · omega
    rw [if_neg (by omega)]
    by_cases h53 : K = 9007199254740992
    · subst h53
      have e1 : (E * 4503599627370496 + 9007199254740992) % 4503599627370496 = 0 := by omega
      have e2 : (E * 4503599627370496 + 9007199254740992) / 4503599627370496 - 1 = E + 1 := by omega
      rw [e1, e2, Nat.pow_succ]
      omega
    · have e1 : (E * 4503599627370496 + K) % 4503599627370496 = K - 4503599627370496 := by omega
      have e2 : (E * 4503599627370496 + K) / 4503599627370496 - 1 = E := by omega
      rw [e1, e2, show 4503599627370496 + (K - 4503599627370496) = K by omega]

theorem rungVal_step {E K : Nat} (hK : K ≤ 9007199254740992) (hE : 0 < E → 4503599627370496 ≤ K) : K * 2 ^ E + 2 ^ E ≤ rungVal (E * 4503599627370496 + K + 1) := by
  by_cases h53 : K = 9007199254740992
  · subst h53
    have e0 : E * 4503599627370496 + 9007199254740992 + 1 = (E + 1) * 4503599627370496 + (4503599627370496 + 1) := by omega
    rw [e0, rungVal_count (by omega) (fun _ => by omega), Nat.pow_succ]
    have := Nat.two_pow_pos E
    omega
  · rw [Nat.add_assoc, rungVal_count (by omega) (fun h => by have := hE h; omega), Nat.add_mul, Nat.one_mul]
    exact Nat.le_refl _

/-- Where the rung stands to the number mag * 2 ^ place: between the midpoints below and above it; at a midpoint it is even. -/
theorem near_mid (neg : Bool) (mag : Nat) (place : Int) (h0 : mag ≠ 0) :
    ∃ s, Ieee.double.nearest neg mag place = Ieee.double.word neg s ∧ s ≤ 9218868437227405312 ∧
      (s < 9218868437227405312 → 2 * (mag * 2 ^ (place + 1074).toNat) ≤ (rungVal s + rungVal (s + 1)) * 2 ^ (-(place + 1074)).toNat) ∧
      (1 ≤ s → (rungVal (s - 1) + rungVal s) * 2 ^ (-(place + 1074)).toNat ≤ 2 * (mag * 2 ^ (place + 1074).toNat)) := by
  obtain ⟨E, K, h1, hK, hE, b1, b2, b3, _, _⟩ := near_core neg mag place h0
  refine ⟨_, h1, Nat.min_le_right _ _, fun hs => ?_, fun hs => ?_⟩
  · have e : min (E * 4503599627370496 + K) 9218868437227405312 = E * 4503599627370496 + K := by omega
    rw [e, rungVal_count hK hE]
    refine Nat.le_trans b1 (Nat.mul_le_mul_right _ ?_)
    have := rungVal_step hK hE
    have e2 : (2 * K + 1) * 2 ^ E = K * 2 ^ E + (K * 2 ^ E + 2 ^ E) := by rw [Nat.add_mul, Nat.mul_assoc, Nat.one_mul]; omega
    omega
  · -- first at the rung ahead of the cut at infinity
    have hr : 1 ≤ E * 4503599627370496 + K := by omega
    have main : (rungVal (E * 4503599627370496 + K - 1) + rungVal (E * 4503599627370496 + K)) * 2 ^ (-(place + 1074)).toNat ≤ 2 * (mag * 2 ^ (place + 1074).toNat) := by
      by_cases hc : 0 < E ∧ K = 4503599627370496
      · have hv := b3 hc.1
        have hle : rungVal (E * 4503599627370496 + K - 1) ≤ rungVal (E * 4503599627370496 + K) := rungVal_le (by omega)
        have hval := rungVal_count hK hE
        rw [hc.2] at hval hle
        rw [hc.2]
        have : (rungVal (E * 4503599627370496 + 4503599627370496 - 1) + rungVal (E * 4503599627370496 + 4503599627370496)) * 2 ^ (-(place + 1074)).toNat ≤ (2 * (4503599627370496 * 2 ^ E)) * 2 ^ (-(place + 1074)).toNat := Nat.mul_le_mul_right _ (by omega)
        rw [Nat.mul_assoc 2] at this
        omega
      · have hK1 : 1 ≤ K := by
          by_cases hz : 0 < E
          · have := hE hz; omega
          · omega
        have e1 : rungVal (E * 4503599627370496 + K - 1) = (K - 1) * 2 ^ E := by
          rw [show E * 4503599627370496 + K - 1 = E * 4503599627370496 + (K - 1) by omega]
          exact rungVal_count (by omega) (fun h => by have := hE h; omega)
        rw [e1, rungVal_count hK hE]
        have e2 : ((K - 1) * 2 ^ E + K * 2 ^ E) * 2 ^ (-(place + 1074)).toNat + 2 ^ E * 2 ^ (-(place + 1074)).toNat = (2 * K) * 2 ^ E * 2 ^ (-(place + 1074)).toNat := by
          have e3 : (K - 1) * 2 ^ E + 2 ^ E = K * 2 ^ E := by
            have e4 : (K - 1 + 1) * 2 ^ E = (K - 1) * 2 ^ E + 2 ^ E := Nat.succ_mul _ _
            rw [Nat.sub_add_cancel hK1] at e4
            exact e4.symm
          have e5 : (K - 1) * 2 ^ E + K * 2 ^ E + 2 ^ E = 2 * K * 2 ^ E := by rw [Nat.mul_assoc 2]; omega
          rw [← Nat.add_mul, e5]
        omega
    by_cases hi : E * 4503599627370496 + K ≤ 9218868437227405312
    · have e : min (E * 4503599627370496 + K) 9218868437227405312 = E * 4503599627370496 + K := by omega
      rw [e]; exact main
    · have e : min (E * 4503599627370496 + K) 9218868437227405312 = 9218868437227405312 := by omega
      rw [e]
      refine Nat.le_trans (Nat.mul_le_mul_right _ (Nat.add_le_add (rungVal_le ?_) (rungVal_le ?_))) main <;> omega

/-- Not below a float, so the nearest is not below it. -/
theorem near_ge (neg : Bool) (mag : Nat) (place : Int) (r : Nat) (hr : r ≤ 9218868437227405312) (h : rungVal r * 2 ^ (-(place + 1074)).toNat ≤ mag * 2 ^ (place + 1074).toNat) :
    ∃ s, Ieee.double.nearest neg mag place = Ieee.double.word neg s ∧ s ≤ 9218868437227405312 ∧ r ≤ s := by
  by_cases h0 : mag = 0
  · subst h0
    have : r = 0 := by
      rw [Nat.zero_mul] at h
      have hp : 0 < 2 ^ (-(place + 1074)).toNat := Nat.two_pow_pos _
      have : rungVal r = 0 := by
        rcases Nat.mul_eq_zero.1 (Nat.eq_zero_of_le_zero h) with e | e
        · exact e
        · omega
      by_cases hz : r = 0
      · exact hz
      · have := rungVal_lt (r := 0) (s := r) (by omega)
        omega
    subst this
    exact ⟨0, by simp [Ieee.Format.nearest], by omega, Nat.le_refl _⟩
  · obtain ⟨s, e, hs, m1, m2⟩ := near_mid neg mag place h0
    refine ⟨s, e, hs, ?_⟩
    by_cases hlt : r ≤ s
    · exact hlt
    · exfalso
      have m := m1 (by omega)
      have hB : 0 < 2 ^ (-(place + 1074)).toNat := Nat.two_pow_pos _
      have g1 : rungVal s < rungVal r := rungVal_lt (by omega)
      have g2 : rungVal (s + 1) ≤ rungVal r := rungVal_le (by omega)
      have g3 : (rungVal s + rungVal (s + 1)) * 2 ^ (-(place + 1074)).toNat < (2 * rungVal r) * 2 ^ (-(place + 1074)).toNat := Nat.mul_lt_mul_of_pos_right (by omega) hB
      rw [Nat.mul_assoc 2] at g3
      omega
/-- Not above a float, so the nearest is not above it. -/
theorem near_le (neg : Bool) (mag : Nat) (place : Int) (r : Nat) (h : mag * 2 ^ (place + 1074).toNat ≤ rungVal r * 2 ^ (-(place + 1074)).toNat) :
    ∃ s, Ieee.double.nearest neg mag place = Ieee.double.word neg s ∧ s ≤ 9218868437227405312 ∧ s ≤ r := by
  by_cases h0 : mag = 0
  · subst h0
    exact ⟨0, by simp [Ieee.Format.nearest], by omega, Nat.zero_le _⟩
  · obtain ⟨s, e, hs, m1, m2⟩ := near_mid neg mag place h0
    refine ⟨s, e, hs, ?_⟩
    by_cases hlt : s ≤ r
    · exact hlt
    · exfalso
      have m := m2 (by omega)
      have hB : 0 < 2 ^ (-(place + 1074)).toNat := Nat.two_pow_pos _
      have g1 : rungVal r < rungVal s := rungVal_lt (by omega)
      have g2 : rungVal r ≤ rungVal (s - 1) := rungVal_le (by omega)
      have g3 : (2 * rungVal r) * 2 ^ (-(place + 1074)).toNat < (rungVal (s - 1) + rungVal s) * 2 ^ (-(place + 1074)).toNat := Nat.mul_lt_mul_of_pos_right (by omega) hB
      rw [Nat.mul_assoc 2] at g3
      omega

end Go.Proofs.YtoinchnlbmaafaaDoor

/- Quotients, products, sums and roots of sizes, against floats that bound them. Nothing here speaks of the program. -/
namespace Go.Proofs.YtoinchnlbmaafaaDoor

/-- What a size below infinity stands for. -/
theorem read_size {x : Nat} (h : x < 9218868437227405312) : ∃ m a, Ieee.double.read x = .number false m (-1074 + (a : Nat)) ∧ m * 2 ^ a = rungVal x := by
  have e : x % 9223372036854775808 = x := Nat.mod_eq_of_lt (by omega)
  obtain ⟨m, a, e1, e2⟩ := read_num (x := x) (by rw [e]; exact h)
  rw [e] at e2
  rw [Nat.div_eq_of_lt (by omega)] at e1
  exact ⟨m, a, e1, e2⟩

theorem word_pos (s : Nat) : Ieee.double.word false s = s := rfl

theorem FN.eq {op : BinOp} {x y r s : Nat} (h : FN op x y r) (g : floatBits op .f64 x y = .some s) : r = s := by
  rcases h.2 with h | ⟨h, _⟩
  · rw [h] at g; exact Option.some.inj g
  · rw [h] at g; cases g
theorem FQ.eq {x r s : Nat} (h : FQ x r) (g : Ieee.double.sqrt x = .some s) : r = s := by
  rcases h.2 with h | ⟨h, _⟩
  · rw [h] at g; exact Option.some.inj g
  · rw [h] at g; cases g

/-- The product of two sizes. -/
theorem mul_bits {x y : Nat} (E : Nat) (hE : E = 1074) (hx : x < 9218868437227405312) (hy : y < 9218868437227405312) : ∃ mag place, floatBits .mul .f64 x y = some (Ieee.double.nearest false mag place) ∧ mag * 2 ^ (place + 1074).toNat * 2 ^ E = rungVal x * rungVal y * 2 ^ (-(place + 1074)).toNat ∧ (mag = 0 ↔ rungVal x * rungVal y = 0) := by
  obtain ⟨m, a, e1, v1⟩ := read_size hx
  obtain ⟨n, b, e2, v2⟩ := read_size hy
  refine ⟨m * n, -1074 + (a : Int) + (-1074 + (b : Int)), ?_, ?_, ?_⟩
  · show (((Ieee.double.read x).product (Ieee.double.read y)).map Ieee.double.write) = _
    rw [e1, e2]
    rfl
  · rw [← v1, ← v2]
    by_cases h : 1074 ≤ a + b
    · have t1 : (-1074 + (a : Int) + (-1074 + (b : Int)) + 1074).toNat = a + b - 1074 := by omega
      have t2 : (-(-1074 + (a : Int) + (-1074 + (b : Int)) + 1074)).toNat = 0 := by omega
      rw [t1, t2, Nat.mul_assoc (m * n), ← Nat.pow_add, show a + b - 1074 + E = a + b by omega, Nat.pow_add, Nat.pow_zero, Nat.mul_one]
      rw [Nat.mul_assoc, Nat.mul_assoc, Nat.mul_left_comm n]
    · have t1 : (-1074 + (a : Int) + (-1074 + (b : Int)) + 1074).toNat = 0 := by omega
      have t2 : (-(-1074 + (a : Int) + (-1074 + (b : Int)) + 1074)).toNat = E - (a + b) := by omega
      rw [t1, t2, Nat.pow_zero, Nat.mul_one]
      have e : 2 ^ E = 2 ^ a * 2 ^ b * 2 ^ (E - (a + b)) := by rw [← Nat.pow_add, ← Nat.pow_add]; congr 1; omega
      rw [e]
      generalize 2 ^ a = A
      generalize 2 ^ b = B
      generalize 2 ^ (E - (a + b)) = C
      rw [← Nat.mul_assoc, ← Nat.mul_assoc]
      congr 1
      rw [Nat.mul_assoc m A, Nat.mul_left_comm A n B, ← Nat.mul_assoc m n, Nat.mul_assoc (m * n)]
  · rw [← v1, ← v2]
    have hA := Nat.two_pow_pos a
    have hB := Nat.two_pow_pos b
    simp only [Nat.mul_eq_zero]
    constructor
    · rintro (h | h)
      · exact .inl (.inl h)
      · exact .inr (.inl h)
    · rintro ((h | h) | (h | h))
      · exact .inl h
      · omega
      · exact .inr h
      · omega

/-- The sum of two sizes. -/
theorem add_bits {x y : Nat} (hx : x < 9218868437227405312) (hy : y < 9218868437227405312) : ∃ mag place, floatBits .add .f64 x y = some (Ieee.double.nearest false mag place) ∧ mag * 2 ^ (place + 1074).toNat = (rungVal x + rungVal y) ∧ (-(place + 1074)).toNat = 0 := by
  obtain ⟨m, a, e1, v1⟩ := read_size hx
  obtain ⟨n, b, e2, v2⟩ := read_size hy
  have t1 : (-1074 + (a : Int) - min (-1074 + (a : Int)) (-1074 + (b : Int))).toNat = a - min a b := by omega
  have t2 : (-1074 + (b : Int) - min (-1074 + (a : Int)) (-1074 + (b : Int))).toNat = b - min a b := by omega
  have t3 : Ieee.signed false m (a - min a b) + Ieee.signed false n (b - min a b) = ((m * 2 ^ (a - min a b) + n * 2 ^ (b - min a b) : Nat) : Int) := by
    simp only [Ieee.signed, Nat.shiftLeft_eq, Bool.false_eq_true, if_false]; omega
  refine ⟨m * 2 ^ (a - min a b) + n * 2 ^ (b - min a b), min (-1074 + (a : Int)) (-1074 + (b : Int)), ?_, ?_, by omega⟩
  · show (((Ieee.double.read x).sum (Ieee.double.read y)).map Ieee.double.write) = _
    rw [e1, e2]
    simp only [Ieee.Datum.sum, t1, t2, t3]
    simp only [Option.map, Ieee.Format.write]
    generalize m * 2 ^ (a - min a b) + n * 2 ^ (b - min a b) = T
    congr 2
    · by_cases hz : (T : Int) = 0
      · rw [if_pos hz]; rfl
      · rw [if_neg hz]; exact decide_eq_false (by omega)
  · have t4 : (min (-1074 + (a : Int)) (-1074 + (b : Int)) + 1074).toNat = min a b := by omega
    rw [t4, ← v1, ← v2, Nat.add_mul, Nat.mul_assoc, Nat.mul_assoc, ← Nat.pow_add, ← Nat.pow_add, show a - min a b + min a b = a by omega, show b - min a b + min a b = b by omega]

theorem val_one_f (E : Nat) (hE : E = 1074) : rungVal 4607182418800017408 = 2 ^ E := by subst hE; decide +kernel
theorem val_half3 (E : Nat) (hE : E = 1074) : rungVal 4609434218613702656 * 2 = 3 * 2 ^ E := by subst hE; decide +kernel
theorem val_two_f (E : Nat) (hE : E = 1074) : rungVal 4611686018427387904 = 2 * 2 ^ E := by subst hE; decide +kernel

/-- A product by what is 1 or above is not below. -/
theorem mul_ge {x y r : Nat} (hx : x < 9218868437227405312) (hy : y < 9218868437227405312) (h1 : 4607182418800017408 ≤ y) (h : FN .mul x y r) : x ≤ r ∧ r ≤ 9218868437227405312 := by
  obtain ⟨E, hE⟩ : ∃ E : Nat, E = 1074 := ⟨_, rfl⟩
  obtain ⟨mag, place, e, v, _⟩ := mul_bits E hE hx hy
  have hv : 2 ^ E ≤ rungVal y := by rw [← val_one_f E hE]; exact rungVal_le h1
  have hp : 0 < 2 ^ E := Nat.two_pow_pos E
  generalize (2 : Nat) ^ E = P at *
  obtain ⟨s, e2, s1, s2⟩ := near_ge false mag place x (by omega) (by
    have g : rungVal x * 2 ^ (-(place + 1074)).toNat * P ≤ mag * 2 ^ (place + 1074).toNat * P := by
      rw [v, Nat.mul_assoc, Nat.mul_comm (2 ^ (-(place + 1074)).toNat) P, ← Nat.mul_assoc]
      exact Nat.mul_le_mul_right _ (Nat.mul_le_mul_left _ hv)
    exact Nat.le_of_mul_le_mul_right g hp)
  rw [e2, word_pos] at e
  have := h.eq e
  omega

/-- A product of two that are at most 1. -/
theorem mul_le_one {x y r : Nat} (hx : x ≤ 4607182418800017408) (hy : y ≤ 4607182418800017408) (h : FN .mul x y r) : r ≤ 4607182418800017408 := by
  obtain ⟨E, hE⟩ : ∃ E : Nat, E = 1074 := ⟨_, rfl⟩
  obtain ⟨mag, place, e, v, _⟩ := mul_bits (x := x) (y := y) E hE (by omega) (by omega)
  have h1 : rungVal x ≤ 2 ^ E := by rw [← val_one_f E hE]; exact rungVal_le hx
  have h2 : rungVal y ≤ 2 ^ E := by rw [← val_one_f E hE]; exact rungVal_le hy
  have h3 := val_one_f E hE
  have hp : 0 < 2 ^ E := Nat.two_pow_pos E
  generalize (2 : Nat) ^ E = P at *
  obtain ⟨s, e2, s1, s2⟩ := near_le false mag place 4607182418800017408 (by
    have g : mag * 2 ^ (place + 1074).toNat * P ≤ rungVal 4607182418800017408 * 2 ^ (-(place + 1074)).toNat * P := by
      rw [v, h3, Nat.mul_right_comm P]
      exact Nat.mul_le_mul_right _ (Nat.mul_le_mul h1 h2)
    exact Nat.le_of_mul_le_mul_right g hp)
  rw [e2, word_pos] at e
  have := h.eq e
  omega

/-- 1 and what is at most 1. -/
theorem one_add {p r : Nat} (hp : p ≤ 4607182418800017408) (h : FN .add 4607182418800017408 p r) : 4607182418800017408 ≤ r ∧ r ≤ 4611686018427387904 := by
  obtain ⟨E, hE⟩ : ∃ E : Nat, E = 1074 := ⟨_, rfl⟩
  obtain ⟨mag, place, e, v, z⟩ := add_bits (x := 4607182418800017408) (y := p) (by omega) (by omega)
  have h1 : rungVal p ≤ 2 ^ E := by rw [← val_one_f E hE]; exact rungVal_le hp
  have h2 := val_one_f E hE
  have h3 := val_two_f E hE
  generalize (2 : Nat) ^ E = P at *
  rw [h2] at v
  obtain ⟨s, e2, s1, s2⟩ := near_ge false mag place 4607182418800017408 (by omega) (by rw [z, v, h2]; omega)
  obtain ⟨t, e3, t1, t2⟩ := near_le false mag place 4611686018427387904 (by rw [z, v, h3]; omega)
  rw [e3] at e2
  rw [word_pos, word_pos] at e2
  subst e2
  rw [e3, word_pos] at e
  have := h.eq e
  omega

/-- A quotient of a size by one that is not below it. -/
theorem quo_le {n m r : Nat} (hm : m < 9218868437227405312) (h0 : m ≠ 0) (hn : n ≤ m) (h : FN .quo n m r) : r ≤ 4607182418800017408 := by
  obtain ⟨E, hE⟩ : ∃ E : Nat, E = 1074 := ⟨_, rfl⟩
  obtain ⟨N, a, e1, v1⟩ := read_size (x := n) (by omega)
  obtain ⟨M, b, e2, v2⟩ := read_size hm
  have hle := rungVal_le hn
  have hM : M ≠ 0 := by
    intro e
    have := rungVal_lt (r := 0) (s := m) (by omega)
    rw [← v2, e] at this
    omega
  have hM0 : 0 < M := Nat.pos_of_ne_zero hM
  by_cases hN : N = 0
  · -- nought
    have e : floatBits .quo .f64 n m = some 0 := by
      show (((Ieee.double.read n).quotient _ (Ieee.double.read m)).map Ieee.double.write) = _
      rw [e1, e2, hN]
      simp only [Ieee.Datum.quotient, if_neg hM]
      simp [Ieee.Format.write, Ieee.Format.nearest, Ieee.Format.word]
    have := h.eq e
    omega
  · generalize hmore : 54 + M.log2 - N.log2 = more
    have e : floatBits .quo .f64 n m = some (Ieee.double.nearest false (2 * (N <<< more / M) + (N <<< more % M != 0).toNat) (-1074 + (a : Int) - (-1074 + (b : Int)) - (more : Int) - 1)) := by
      show (((Ieee.double.read n).quotient (52 + 2) (Ieee.double.read m)).map Ieee.double.write) = _
      rw [e1, e2]
      simp only [Ieee.Datum.quotient, if_neg hM]
      rw [hmore]
      rfl
    -- N 2^a is at most M 2^b, so there are bits enough
    rw [← v1, ← v2] at hle
    have lN : 2 ^ N.log2 ≤ N := Nat.log2_self_le hN
    have lM : M < 2 ^ (M.log2 + 1) := Nat.lt_log2_self
    have hlog : N.log2 + a < M.log2 + 1 + b := by
      have g1 : 2 ^ (N.log2 + a) ≤ N * 2 ^ a := by rw [Nat.pow_add]; exact Nat.mul_le_mul_right _ lN
      have g2 : M * 2 ^ b < 2 ^ (M.log2 + 1 + b) := by rw [Nat.pow_add]; exact Nat.mul_lt_mul_of_pos_right lM (Nat.two_pow_pos b)
      exact (Nat.pow_lt_pow_iff_right (by decide)).1 (Nat.lt_of_le_of_lt g1 (Nat.lt_of_lt_of_le (Nat.lt_of_le_of_lt hle g2) (Nat.le_refl _)))
    obtain ⟨c, hc⟩ : ∃ c : Nat, more + b = c + a := ⟨more + b - a, by omega⟩
    have hND : N <<< more ≤ M * 2 ^ c := by
      rw [Nat.shiftLeft_eq]
      have g : N * 2 ^ more * 2 ^ a ≤ M * 2 ^ c * 2 ^ a := by
        have e3 : N * 2 ^ more * 2 ^ a = N * 2 ^ a * 2 ^ more := Nat.mul_right_comm _ _ _
        have e4 : M * 2 ^ c * 2 ^ a = M * 2 ^ b * 2 ^ more := by rw [Nat.mul_assoc, Nat.mul_assoc, ← Nat.pow_add, ← Nat.pow_add, ← hc, Nat.add_comm b]
        rw [e3, e4]
        exact Nat.mul_le_mul_right _ hle
      exact Nat.le_of_mul_le_mul_right g (Nat.two_pow_pos a)
    have hq : 2 * (N <<< more / M) + (N <<< more % M != 0).toNat ≤ 2 * 2 ^ c := by
      have hdm := Nat.div_add_mod (N <<< more) M
      have hml := Nat.mod_lt (N <<< more) hM0
      generalize N <<< more = D at *
      generalize D / M = Q at *
      generalize D % M = R at *
      generalize 2 ^ c = C at *
      have hQ : Q ≤ C := by
        have : M * Q ≤ M * C := by omega
        exact Nat.le_of_mul_le_mul_left this hM0
      by_cases hR : R = 0
      · have : (R != 0).toNat = 0 := by simp [hR]
        omega
      · have hQ2 : Q < C := by
          rcases Nat.lt_or_eq_of_le hQ with g | g
          · exact g
          · exfalso; rw [g] at hdm; omega
        have : (R != 0).toNat = 1 := by simp [hR]
        omega
    obtain ⟨s, e5, s1, s2⟩ := near_le false (2 * (N <<< more / M) + (N <<< more % M != 0).toNat) (-1074 + (a : Int) - (-1074 + (b : Int)) - (more : Int) - 1) 4607182418800017408 (by
      rw [val_one_f E hE]
      generalize 2 * (N <<< more / M) + (N <<< more % M != 0).toNat = Z at hq
      by_cases hs : 1073 ≤ c
      · have t1 : (-1074 + (a : Int) - (-1074 + (b : Int)) - (more : Int) - 1 + 1074).toNat = 0 := by omega
        have t2 : (-(-1074 + (a : Int) - (-1074 + (b : Int)) - (more : Int) - 1 + 1074)).toNat = c - 1073 := by omega
        rw [t1, t2, Nat.pow_zero, Nat.mul_one, ← Nat.pow_add, show E + (c - 1073) = c + 1 by omega, Nat.pow_succ]
        omega
      · have t1 : (-1074 + (a : Int) - (-1074 + (b : Int)) - (more : Int) - 1 + 1074).toNat = 1073 - c := by omega
        have t2 : (-(-1074 + (a : Int) - (-1074 + (b : Int)) - (more : Int) - 1 + 1074)).toNat = 0 := by omega
        rw [t1, t2, Nat.pow_zero, Nat.mul_one]
        have e6 : (2 : Nat) ^ E = 2 * 2 ^ c * 2 ^ (1073 - c) := by
          rw [Nat.mul_assoc, ← Nat.pow_add, ← Nat.pow_succ']
          congr 1
          omega
        rw [e6]
        exact Nat.mul_le_mul_right _ hq)
    rw [e5, word_pos] at e
    have := h.eq e
    omega

end Go.Proofs.YtoinchnlbmaafaaDoor

/- The root of what lies from 1 to 2; products by at most one and a half; products in the other order, of opposites. Nothing here speaks of the program. -/
namespace Go.Proofs.YtoinchnlbmaafaaDoor

theorem rootFrom_spec (n : Nat) : ∀ (todo root : Nat), root * root ≤ n → n < (root + 2 ^ todo) * (root + 2 ^ todo) → Ieee.Datum.rootFrom n todo root * Ieee.Datum.rootFrom n todo root ≤ n ∧ n < (Ieee.Datum.rootFrom n todo root + 1) * (Ieee.Datum.rootFrom n todo root + 1)
  | 0, root, h1, h2 => ⟨h1, by simpa [Ieee.Datum.rootFrom] using h2⟩
  | todo + 1, root, h1, h2 => by
    have e : 2 ^ (todo + 1) = 2 ^ todo + 2 ^ todo := by rw [Nat.pow_succ]; omega
    unfold Ieee.Datum.rootFrom
    simp only [Nat.shiftLeft_eq, Nat.one_mul]
    by_cases h : (root + 2 ^ todo) * (root + 2 ^ todo) ≤ n
    · rw [if_pos h]
      exact rootFrom_spec n todo _ h (by rw [e, ← Nat.add_assoc] at h2; exact h2)
    · rw [if_neg h]
      exact rootFrom_spec n todo _ h1 (by omega)

theorem root_spec (n : Nat) (_h0 : n ≠ 0) : ∃ r, Ieee.Datum.rootFrom n (n.log2 / 2 + 1) 0 = r ∧ r * r ≤ n ∧ n < (r + 1) * (r + 1) := by
  refine ⟨_, rfl, rootFrom_spec n _ 0 (by omega) ?_⟩
  rw [Nat.zero_add, ← Nat.pow_add]
  have h1 : n < 2 ^ (n.log2 + 1) := Nat.lt_log2_self
  have h2 : 2 ^ (n.log2 + 1) ≤ 2 ^ (n.log2 / 2 + 1 + (n.log2 / 2 + 1)) := Nat.pow_le_pow_right (by decide) (by omega)
  omega

theorem sqrt_between {s t : Nat} (h1 : 4607182418800017408 ≤ s) (h2 : s ≤ 4611686018427387904) (h : FQ s t) : 4607182418800017408 ≤ t ∧ t ≤ 4609434218613702656 := by
  obtain ⟨E, hE⟩ : ∃ E : Nat, E = 1074 := ⟨_, rfl⟩
  obtain ⟨m, a, e1, v1⟩ := read_size (x := s) (by omega)
  have g1 : 2 ^ E ≤ m * 2 ^ a := by rw [v1, ← val_one_f E hE]; exact rungVal_le h1
  have g2 : m * 2 ^ a ≤ 2 * 2 ^ E := by rw [v1, ← val_two_f E hE]; exact rungVal_le h2
  have hm : m ≠ 0 := by
    rintro rfl
    have := Nat.two_pow_pos E
    omega
  have hlo : 2 ^ m.log2 ≤ m := Nat.log2_self_le hm
  have hal : m.log2 + a ≤ E + 1 := by
    have k1 : 2 ^ (m.log2 + a) ≤ 2 ^ (E + 1) := by
      rw [Nat.pow_add, Nat.pow_succ, Nat.mul_comm (2 ^ E) 2]
      exact Nat.le_trans (Nat.mul_le_mul_right _ hlo) g2
    exact (Nat.pow_le_pow_iff_right (by decide)).1 k1
  obtain ⟨more, hmore⟩ : ∃ more : Nat, 108 - m.log2 + ((-1074 + (a : Int) - ((108 - m.log2 : Nat) : Int)) % 2).toNat = more := ⟨_, rfl⟩
  obtain ⟨hh, hhh⟩ : ∃ hh : Nat, more + E = 2 * hh + a := ⟨(more + E - a) / 2, by omega⟩
  have hn0 : m <<< more ≠ 0 := by rw [Nat.shiftLeft_eq]; exact Nat.mul_ne_zero hm (Nat.ne_of_gt (Nat.two_pow_pos more))
  obtain ⟨r, er, r1, r2⟩ := root_spec (m <<< more) hn0
  have e : Ieee.double.sqrt s = some (Ieee.double.nearest false (2 * r + (r * r != m <<< more).toNat) (-(hh : Int) - 1)) := by
    show ((Ieee.double.read s).root (52 + 2)).map Ieee.double.write = _
    rw [e1]
    simp only [Ieee.Datum.root, if_neg hm, Bool.false_eq_true, if_false]
    rw [show 2 * (52 + 2) = 108 from rfl, hmore, er]
    simp only [Option.map, Ieee.Format.write]
    congr 2
    omega
  -- the shifted number lies from 4^hh to twice that
  have n1 : 2 ^ (2 * hh) ≤ m <<< more := by
    rw [Nat.shiftLeft_eq]
    have k : 2 ^ (2 * hh) * 2 ^ a ≤ m * 2 ^ more * 2 ^ a := by
      rw [← Nat.pow_add, ← hhh, Nat.pow_add, Nat.mul_right_comm m, Nat.mul_comm (2 ^ more)]
      exact Nat.mul_le_mul_right _ g1
    exact Nat.le_of_mul_le_mul_right k (Nat.two_pow_pos a)
  have n2 : m <<< more ≤ 2 * 2 ^ (2 * hh) := by
    rw [Nat.shiftLeft_eq]
    have k : m * 2 ^ more * 2 ^ a ≤ 2 * 2 ^ (2 * hh) * 2 ^ a := by
      rw [Nat.mul_assoc 2, ← Nat.pow_add, ← hhh, Nat.pow_add, Nat.mul_right_comm m, Nat.mul_comm (2 ^ more), ← Nat.mul_assoc]
      exact Nat.mul_le_mul_right _ g2
    exact Nat.le_of_mul_le_mul_right k (Nat.two_pow_pos a)
  have hq : 2 ^ (2 * hh) = 2 ^ hh * 2 ^ hh := by rw [← Nat.pow_add]; congr 1; omega
  have hC := Nat.two_pow_pos hh
  generalize m <<< more = n at *
  rw [hq] at n1 n2
  have q1 : 2 ^ hh ≤ r := by
    by_cases c : 2 ^ hh ≤ r
    · exact c
    · exfalso
      have : (r + 1) * (r + 1) ≤ 2 ^ hh * 2 ^ hh := Nat.mul_le_mul (by omega) (by omega)
      omega
  have q2 : 2 * r + 1 ≤ 3 * 2 ^ hh := by
    by_cases c : 2 * r + 1 ≤ 3 * 2 ^ hh
    · exact c
    · exfalso
      generalize 2 ^ hh = C at *
      have k1 : (3 * C) * (3 * C) ≤ (2 * r) * (2 * r) := Nat.mul_le_mul (by omega) (by omega)
      have k2 : (3 * C) * (3 * C) = 9 * (C * C) := by rw [Nat.mul_mul_mul_comm]
      have k3 : (2 * r) * (2 * r) = 4 * (r * r) := by rw [Nat.mul_mul_mul_comm]
      have k4 : 0 < C * C := Nat.mul_pos hC hC
      omega
  obtain ⟨Z, hZ⟩ : ∃ Z, 2 * r + (r * r != n).toNat = Z := ⟨_, rfl⟩
  have z1 : 2 * 2 ^ hh ≤ Z := by omega
  have z2 : Z ≤ 3 * 2 ^ hh := by
    have : (r * r != n).toNat ≤ 1 := by cases (r * r != n) <;> decide
    omega
  rw [hZ] at e
  have place : ∀ P Q : Nat, (-(hh : Int) - 1 + 1074).toNat = P → (-(-(hh : Int) - 1 + 1074)).toNat = Q → 2 ^ E * 2 ^ Q = 2 * 2 ^ hh * 2 ^ P := by
    intro P Q hP hQ
    rw [← Nat.pow_succ', ← Nat.pow_add, ← Nat.pow_add]
    congr 1
    omega
  have pl := place _ _ rfl rfl
  have hone := val_one_f E hE
  have hhalf := val_half3 E hE
  obtain ⟨u, e2, u1, u2⟩ := near_ge false Z (-(hh : Int) - 1) 4607182418800017408 (by decide) (by
    have k := Nat.mul_le_mul_right (2 ^ (-(hh : Int) - 1 + 1074).toNat) z1
    rw [← pl, ← hone] at k
    exact k)
  clear hone
  obtain ⟨x, e3, x1, x2⟩ := near_le false Z (-(hh : Int) - 1) 4609434218613702656 (by
    generalize 2 ^ (-(hh : Int) - 1 + 1074).toNat = P at *
    generalize 2 ^ (-(-(hh : Int) - 1 + 1074)).toNat = Q at *
    generalize 2 ^ E = F at *
    generalize 2 ^ hh = C at *
    have k1 : Z * P ≤ 3 * C * P := Nat.mul_le_mul_right _ z2
    have k2 : rungVal 4609434218613702656 * Q * 2 = 3 * (F * Q) := by rw [Nat.mul_right_comm, hhalf, Nat.mul_assoc]
    rw [pl] at k2
    have k3 : 3 * (2 * C * P) = 3 * C * P * 2 := by ac_rfl
    generalize rungVal 4609434218613702656 * Q = TQ at *
    clear hhalf
    omega)
  clear hhalf
  rw [e3] at e2
  rw [word_pos, word_pos] at e2
  subst e2
  rw [e3, word_pos] at e
  have := h.eq e
  omega

/-- What is less is not rounded to more. -/
theorem near_mono (n1 n2 : Bool) (m1 : Nat) (p1 : Int) (m2 : Nat) (p2 : Int) (h1 : m1 ≠ 0) (h2 : m2 ≠ 0)
    (h : m1 * 2 ^ (p1 + 1074).toNat * 2 ^ (-(p2 + 1074)).toNat < m2 * 2 ^ (p2 + 1074).toNat * 2 ^ (-(p1 + 1074)).toNat) :
    ∃ s1 s2, Ieee.double.nearest n1 m1 p1 = Ieee.double.word n1 s1 ∧ Ieee.double.nearest n2 m2 p2 = Ieee.double.word n2 s2 ∧ s1 ≤ s2 ∧ s2 ≤ 9218868437227405312 := by
  obtain ⟨s1, e1, l1, _, b1⟩ := near_mid n1 m1 p1 h1
  obtain ⟨s2, e2, l2, a2, _⟩ := near_mid n2 m2 p2 h2
  refine ⟨s1, s2, e1, e2, ?_, l2⟩
  by_cases c : s1 ≤ s2
  · exact c
  · exfalso
    have b := b1 (by omega)
    have a := a2 (by omega)
    have k1 : rungVal s2 + rungVal (s2 + 1) ≤ rungVal (s1 - 1) + rungVal s1 := Nat.add_le_add (rungVal_le (by omega)) (rungVal_le (by omega))
    generalize rungVal s2 + rungVal (s2 + 1) = X at *
    generalize rungVal (s1 - 1) + rungVal s1 = Y at *
    generalize m1 * 2 ^ (p1 + 1074).toNat = A1 at *
    generalize m2 * 2 ^ (p2 + 1074).toNat = A2 at *
    have hB1 := Nat.two_pow_pos (-(p1 + 1074)).toNat
    generalize 2 ^ (-(p1 + 1074)).toNat = B1 at *
    generalize 2 ^ (-(p2 + 1074)).toNat = B2 at *
    have k2 : 2 * A2 * B1 ≤ X * B2 * B1 := Nat.mul_le_mul_right _ a
    have k3 : X * B2 * B1 ≤ Y * B2 * B1 := Nat.mul_le_mul_right _ (Nat.mul_le_mul_right _ k1)
    have k4 : Y * B1 * B2 ≤ 2 * A1 * B2 := Nat.mul_le_mul_right _ b
    have k5 : Y * B2 * B1 = Y * B1 * B2 := Nat.mul_right_comm _ _ _
    rw [Nat.mul_assoc 2] at k2 k4
    omega

theorem product_comm (d c : Ieee.Datum) : d.product c = c.product d := by
  cases d <;> cases c <;> simp [Ieee.Datum.product, Bool.xor_comm, Nat.mul_comm, Int.add_comm]
theorem mul_comm_bits (x y : Nat) : floatBits .mul .f64 x y = floatBits .mul .f64 y x := by
  show ((Ieee.double.read x).product (Ieee.double.read y)).map _ = ((Ieee.double.read y).product (Ieee.double.read x)).map _
  rw [product_comm]
theorem sum_comm (d c : Ieee.Datum) : d.sum c = c.sum d := by
  cases d with
  | nan s f => cases c <;> rfl
  | infinity s =>
    cases c with
    | nan t f => rfl
    | infinity t =>
      simp only [Ieee.Datum.sum]
      by_cases h : s = t
      · subst h; rfl
      · rw [if_neg h, if_neg (fun e => h e.symm)]
    | number t m i => rfl
  | number s m i =>
    cases c with
    | nan t f => rfl
    | infinity t => rfl
    | number t n j => simp only [Ieee.Datum.sum]; rw [Int.min_comm j i, Int.add_comm (Ieee.signed t n _), Bool.and_comm t s]
theorem add_comm_bits (x y : Nat) : floatBits .add .f64 x y = floatBits .add .f64 y x := by
  show ((Ieee.double.read x).sum (Ieee.double.read y)).map _ = ((Ieee.double.read y).sum (Ieee.double.read x)).map _
  rw [sum_comm]
theorem FN.mulComm {x y r : Nat} (h : FN .mul x y r) : FN .mul y x r := ⟨h.1, by rw [mul_comm_bits]; exact h.2⟩
theorem FN.addComm {x y r : Nat} (h : FN .add x y r) : FN .add y x r := ⟨h.1, by rw [add_comm_bits]; exact h.2⟩

/-- At most one and a half times. -/
theorem mul_le_half3 {m t r r' : Nat} (hm : m < 9218868437227405312) (h1 : 4607182418800017408 ≤ t) (h2 : t ≤ 4609434218613702656) (h : FN .mul m t r) (h' : FN .mul 4609434218613702656 m r') : r ≤ r' ∧ r' ≤ 9218868437227405312 := by
  obtain ⟨E, hE⟩ : ∃ E : Nat, E = 1074 := ⟨_, rfl⟩
  obtain ⟨m2, p2, e2, v2, z2⟩ := mul_bits (x := 4609434218613702656) (y := m) E hE (by omega) hm
  by_cases ht : t = 4609434218613702656
  · subst ht
    rcases h.al h'.mulComm (.refl _) (.refl _) with rfl | ⟨n1, n2⟩
    · refine ⟨Nat.le_refl _, ?_⟩
      have e3 := h'.eq e2
      obtain ⟨s, e4, s1, _⟩ := near_ge false m2 p2 0 (by omega) (by rw [show rungVal 0 = 0 from rfl]; omega)
      rw [e4, word_pos] at e3
      omega
    · have e3 := h'.eq e2
      obtain ⟨s, e4, s1, _⟩ := near_ge false m2 p2 0 (by omega) (by rw [show rungVal 0 = 0 from rfl]; omega)
      rw [e4, word_pos] at e3
      subst e3
      rw [isnan_iff] at n2
      omega
  · obtain ⟨m1, p1, e1, v1, z1⟩ := mul_bits (x := m) (y := t) E hE hm (by omega)
    have r1 := h.eq e1
    have r2 := h'.eq e2
    have hvt : rungVal t < rungVal 4609434218613702656 := rungVal_lt (by omega)
    have hvt0 : 0 < rungVal t := Nat.lt_of_le_of_lt (Nat.zero_le _) (rungVal_lt (r := 0) (s := t) (by omega))
    by_cases h0 : m = 0
    · have q : m1 = 0 := z1.2 (by rw [h0]; show rungVal 0 * _ = 0; rw [show rungVal 0 = 0 from rfl, Nat.zero_mul])
      rw [q] at r1
      simp [Ieee.Format.nearest, word_pos] at r1
      obtain ⟨s, e4, s1, _⟩ := near_ge false m2 p2 0 (by omega) (by rw [show rungVal 0 = 0 from rfl]; omega)
      rw [e4, word_pos] at r2
      omega
    · have hvm : 0 < rungVal m := Nat.lt_of_le_of_lt (Nat.zero_le _) (rungVal_lt (r := 0) (s := m) (by omega))
      have q1 : m1 ≠ 0 := fun e => by have := z1.1 e; have := Nat.mul_pos hvm hvt0; omega
      have q2 : m2 ≠ 0 := fun e => by have := z2.1 e; have := Nat.mul_pos (Nat.lt_of_lt_of_le hvt0 (Nat.le_of_lt hvt)) hvm; omega
      obtain ⟨s1, s2, f1, f2, hs, hi⟩ := near_mono false false m1 p1 m2 p2 q1 q2 (by
        have hP := Nat.two_pow_pos E
        have hB1 := Nat.two_pow_pos (-(p1 + 1074)).toNat
        have hB2 := Nat.two_pow_pos (-(p2 + 1074)).toNat
        generalize m1 * 2 ^ (p1 + 1074).toNat = A1 at *
        generalize m2 * 2 ^ (p2 + 1074).toNat = A2 at *
        generalize 2 ^ (-(p1 + 1074)).toNat = B1 at *
        generalize 2 ^ (-(p2 + 1074)).toNat = B2 at *
        generalize 2 ^ E = P at *
        generalize rungVal 4609434218613702656 = T at *
        generalize rungVal t = X at *
        generalize rungVal m = M at *
        have k : A1 * B2 * P < A2 * B1 * P := by
          rw [Nat.mul_right_comm A1, v1, Nat.mul_right_comm A2, v2, Nat.mul_comm T M, Nat.mul_right_comm (M * T)]
          exact Nat.mul_lt_mul_of_pos_right (Nat.mul_lt_mul_of_pos_right (Nat.mul_lt_mul_of_pos_left hvt hvm) hB1) hB2
        exact Nat.lt_of_mul_lt_mul_right k)
      rw [f1, word_pos] at r1
      rw [f2, word_pos] at r2
      omega

theorem MulR_swap {a b c d x y u v re im x' y' u' v' re' im' : Nat} (h1 : FN .mul a c x) (h2 : FN .mul b d y) (h3 : FN .sub x y re) (h4 : FN .mul a d u) (h5 : FN .mul b c v) (h6 : FN .add u v im)
    (g1 : FN .mul c a x') (g2 : FN .mul d b y') (g3 : FN .sub x' y' re') (g4 : FN .mul c b u') (g5 : FN .mul d a v') (g6 : FN .add u' v' im') : Al re re' ∧ Al im im' :=
  ⟨h3.al g3 (h1.al g1.mulComm (.refl _) (.refl _)) (h2.al g2.mulComm (.refl _) (.refl _)), h6.al g6.addComm (h4.al g5.mulComm (.refl _) (.refl _)) (h5.al g4.mulComm (.refl _) (.refl _))⟩

end Go.Proofs.YtoinchnlbmaafaaDoor

/- Opposites: of products, of sums; the conjugate of a product. Nothing here speaks of the program. -/
namespace Go.Proofs.YtoinchnlbmaafaaDoor

/-- The other sign, by the bits. -/
def fopp (x : Nat) : Nat := x ^^^ 9223372036854775808
theorem fopp_low {x : Nat} (h : x < 9223372036854775808) : fopp x = 9223372036854775808 + x := by
  have e := nat_join 63 9223372036854775808 x (by decide) h
  unfold fopp
  have e2 : x ^^^ 9223372036854775808 = 9223372036854775808 ||| x := by
    apply Nat.eq_of_testBit_eq
    intro i
    rw [Nat.testBit_xor, Nat.testBit_or, show (9223372036854775808 : Nat) = 2 ^ 63 from rfl, Nat.testBit_two_pow]
    by_cases hi : 63 = i
    · subst hi
      rw [Nat.testBit_lt_two_pow h]; simp
    · simp [hi]
  rw [e2, e]
theorem fopp_fopp (x : Nat) : fopp (fopp x) = x := by unfold fopp; rw [Nat.xor_assoc, Nat.xor_self, Nat.xor_zero]
theorem fopp_high {x : Nat} (h : x < 18446744073709551616) (h1 : 9223372036854775808 ≤ x) : fopp x = x - 9223372036854775808 := by
  have e := fopp_low (x := x - 9223372036854775808) (by omega)
  rw [show 9223372036854775808 + (x - 9223372036854775808) = x by omega] at e
  rw [← e, fopp_fopp]
  omega
theorem fopp_mod {x : Nat} (h : x < 18446744073709551616) : fopp x % 9223372036854775808 = x % 9223372036854775808 ∧ fopp x < 18446744073709551616 := by
  by_cases h1 : x < 9223372036854775808
  · rw [fopp_low h1]; omega
  · rw [fopp_high h (by omega)]; omega
theorem isnan_fopp {x : Nat} (h : x < 18446744073709551616) : isnan (fopp x) = isnan x := by unfold isnan; rw [(fopp_mod h).1]

theorem read_fopp {x : Nat} (h : x < 18446744073709551616) : Ieee.double.read (fopp x) = (Ieee.double.read x).opposite := by
  have hm := (fopp_mod h).1
  have hs : (fopp x / 9223372036854775808 % 2 == 1) = !(x / 9223372036854775808 % 2 == 1) := by
    by_cases h1 : x < 9223372036854775808
    · rw [fopp_low h1, show (9223372036854775808 + x) / 9223372036854775808 = 1 by omega, show x / 9223372036854775808 = 0 by omega]; rfl
    · rw [fopp_high h (by omega), show (x - 9223372036854775808) / 9223372036854775808 = 0 by omega, show x / 9223372036854775808 = 1 by omega]; rfl
  unfold Ieee.Format.read
  simp only [dbl_sign, dbl_inf, dbl_binade]
  rw [hm, hs]
  split
  · rfl
  split
  · rfl
  split
  · rfl
  · rfl

theorem word_opp (s : Bool) (r : Nat) (h : r ≤ 9218868437227405312) : Ieee.double.word (!s) r = fopp (Ieee.double.word s r) := by
  have e := fopp_low (x := r) (by omega)
  cases s
  · show Ieee.double.signWeight + r = fopp r
    rw [dbl_sign, e]
  · show r = fopp (Ieee.double.signWeight + r)
    rw [dbl_sign, ← e, fopp_fopp]
theorem nearest_opp (s : Bool) (m : Nat) (i : Int) : Ieee.double.nearest (!s) m i = fopp (Ieee.double.nearest s m i) := by
  by_cases h0 : m = 0
  · subst h0
    simp only [Ieee.Format.nearest, if_true]
    exact word_opp s 0 (by omega)
  · unfold Ieee.Format.nearest
    rw [if_neg h0, if_neg h0]
    have hc : ∀ n d, Ieee.Toward.even.cut (!s) n d = Ieee.Toward.even.cut s n d := fun n d => rfl
    simp only [hc]
    refine word_opp s _ ?_
    rw [dbl_inf]
    exact Nat.min_le_right _ _
theorem write_opp (d : Ieee.Datum) (h : d.isNaN = false) : Ieee.double.write d.opposite = fopp (Ieee.double.write d) := by
  cases d with
  | nan s f => cases h
  | infinity s => exact word_opp s _ (by rw [dbl_inf]; omega)
  | number s m i => exact nearest_opp s m i

theorem product_opp_r (d c : Ieee.Datum) : d.product c.opposite = (d.product c).map Ieee.Datum.opposite := by
  cases d with
  | nan s f => cases c <;> rfl
  | infinity s =>
    cases c with
    | nan t f => rfl
    | infinity t => cases s <;> cases t <;> rfl
    | number t n j =>
      simp only [Ieee.Datum.opposite, Ieee.Datum.product]
      by_cases h : n = 0
      · rw [if_pos h, if_pos h]; rfl
      · rw [if_neg h, if_neg h]; cases s <;> cases t <;> rfl
  | number s m i =>
    cases c with
    | nan t f => rfl
    | infinity t =>
      simp only [Ieee.Datum.opposite, Ieee.Datum.product]
      by_cases h : m = 0
      · rw [if_pos h, if_pos h]; rfl
      · rw [if_neg h, if_neg h]; cases s <;> cases t <;> rfl
    | number t n j => cases s <;> cases t <;> rfl
theorem product_notnan {d c p : Ieee.Datum} (h : d.product c = some p) : p.isNaN = false := by
  cases d with
  | nan s f => cases c <;> cases h
  | infinity s =>
    cases c with
    | nan t f => cases h
    | infinity t => cases h; rfl
    | number t n j =>
      simp only [Ieee.Datum.product] at h
      split at h
      · cases h
      · cases h; rfl
  | number s m i =>
    cases c with
    | nan t f => cases h
    | infinity t =>
      simp only [Ieee.Datum.product] at h
      split at h
      · cases h
      · cases h; rfl
    | number t n j => cases h; rfl
theorem mul_opp_r (a : Nat) {d : Nat} (hd : d < 18446744073709551616) : floatBits .mul .f64 a (fopp d) = (floatBits .mul .f64 a d).map fopp := by
  show ((Ieee.double.read a).product (Ieee.double.read (fopp d))).map Ieee.double.write = (((Ieee.double.read a).product (Ieee.double.read d)).map Ieee.double.write).map fopp
  rw [read_fopp hd, product_opp_r]
  cases h : (Ieee.double.read a).product (Ieee.double.read d) with
  | none => rfl
  | some p => show some _ = some _; rw [write_opp p (product_notnan h)]
theorem mul_opp_two {b d : Nat} (hb : b < 18446744073709551616) (hd : d < 18446744073709551616) : floatBits .mul .f64 (fopp b) (fopp d) = floatBits .mul .f64 b d := by
  rw [mul_opp_r _ hd, mul_comm_bits, mul_opp_r _ hb, mul_comm_bits d b]
  cases floatBits .mul .f64 b d with
  | none => rfl
  | some r => show some _ = some _; rw [fopp_fopp]

/-- Opposites, or both NaN. -/
def Ng (x y : Nat) : Prop := y = fopp x ∨ (isnan x = true ∧ isnan y = true)
theorem mul_ng {a d u u' : Nat} (hd : d < 18446744073709551616) (h : FN .mul a d u) (h' : FN .mul a (fopp d) u') : Ng u u' := by
  have e := mul_opp_r a hd
  rcases h.2 with g | ⟨g, k⟩
  · rw [g] at e
    exact .inl (h'.eq e)
  · rw [g] at e
    rcases h'.2 with g' | ⟨_, k'⟩
    · rw [e] at g'; cases g'
    · exact .inr ⟨k, k'⟩

theorem zero_eq (s t : Bool) : FloatKind.f64.format.order (Ieee.double.word s 0) (Ieee.double.word t 0) = some .eq := by cases s <;> cases t <;> decide
theorem signed_not (s : Bool) (m k : Nat) : Ieee.signed (!s) m k = -Ieee.signed s m k := by
  cases s
  · rfl
  · simp [Ieee.signed]
theorem add_ng {u v u' v' r r' : Nat} (hu : u < 18446744073709551616) (hv : v < 18446744073709551616) (h : FN .add u v r) (h' : FN .add u' v' r') (n1 : Ng u u') (n2 : Ng v v') (k : isnan r = false) (k' : isnan r' = false) :
    (FloatKind.f64.format.order (fopp r) r' == some .eq) = true := by
  have none_bad : floatBits .add .f64 u v = none → False := fun e => by
    rcases h.2 with g | ⟨_, g⟩
    · rw [e] at g; cases g
    · rw [k] at g; cases g
  rcases n1 with rfl | ⟨m1, _⟩
  · rcases n2 with rfl | ⟨m2, _⟩
    · have same : ∀ _z : Nat, r' = fopp r → (FloatKind.f64.format.order (fopp r) r' == some .eq) = true := fun _ e => by
        rw [e, order_refl (by rw [← e]; exact k')]; rfl
      have er : ∃ d, (Ieee.double.read u).sum (Ieee.double.read v) = some d ∧ r = Ieee.double.write d := by
        cases hd : (Ieee.double.read u).sum (Ieee.double.read v) with
        | none => exact absurd (show floatBits .add .f64 u v = none from (by show ((Ieee.double.read u).sum (Ieee.double.read v)).map _ = none; rw [hd]; rfl)) none_bad
        | some d => exact ⟨d, rfl, h.eq (show ((Ieee.double.read u).sum (Ieee.double.read v)).map _ = _ by rw [hd]; rfl)⟩
      obtain ⟨d, hd, er⟩ := er
      have ef : ∀ d', (Ieee.double.read u).opposite.sum (Ieee.double.read v).opposite = some d' → r' = Ieee.double.write d' := fun d' e => h'.eq (show ((Ieee.double.read (fopp u)).sum (Ieee.double.read (fopp v))).map _ = _ by rw [read_fopp hu, read_fopp hv, e]; rfl)
      cases hx : Ieee.double.read u with
      | nan s f => rw [hx] at hd; cases hy : Ieee.double.read v <;> rw [hy] at hd <;> cases hd
      | infinity s =>
        cases hy : Ieee.double.read v with
        | nan t f => rw [hx, hy] at hd; cases hd
        | infinity t =>
          rw [hx, hy] at hd ef
          simp only [Ieee.Datum.sum] at hd
          split at hd
          · rename_i hst
            subst hst
            cases hd
            exact same 0 (by rw [ef (.infinity (!s)) (by simp [Ieee.Datum.opposite, Ieee.Datum.sum]), er]; exact write_opp (.infinity s) rfl)
          · cases hd
        | number t n j =>
          rw [hx, hy] at hd ef
          cases hd
          exact same 0 (by rw [ef (.infinity (!s)) rfl, er]; exact write_opp (.infinity s) rfl)
      | number s m i =>
        cases hy : Ieee.double.read v with
        | nan t f => rw [hx, hy] at hd; cases hd
        | infinity t =>
          rw [hx, hy] at hd ef
          cases hd
          exact same 0 (by rw [ef (.infinity (!t)) rfl, er]; exact write_opp (.infinity t) rfl)
        | number t n j =>
          rw [hx, hy] at hd ef
          simp only [Ieee.Datum.sum] at hd
          have ef2 := ef _ rfl
          simp only [signed_not] at ef2
          cases hd
          generalize Ieee.signed s m (i - min i j).toNat = S at *
          generalize Ieee.signed t n (j - min i j).toNat = T at *
          by_cases hz : S + T = 0
          · have hz2 : -S + -T = 0 := by omega
            rw [hz, if_pos rfl] at er
            rw [hz2, if_pos rfl] at ef2
            have w0 : ∀ b : Bool, Ieee.double.write (.number b (Int.natAbs 0) (min i j)) = Ieee.double.word b 0 := fun b => by simp [Ieee.Format.write, Ieee.Format.nearest]
            rw [w0] at er ef2
            rw [er, ef2, ← word_opp _ 0 (by omega), zero_eq]
            rfl
          · have hz2 : ¬ (-S + -T = 0) := by omega
            rw [if_neg hz] at er
            rw [if_neg hz2] at ef2
            have e1 : (-S + -T).natAbs = (S + T).natAbs := by omega
            have e2 : decide (-S + -T < 0) = !decide (S + T < 0) := by
              by_cases hp : S + T < 0
              · rw [decide_eq_true hp, decide_eq_false (by omega)]; rfl
              · rw [decide_eq_false hp, decide_eq_true (by omega)]; rfl
            rw [e1, e2] at ef2
            exact same 0 (by rw [ef2, er]; exact nearest_opp _ _ _)
    · exact absurd (fb_nan_r m2) none_bad
  · exact absurd (fb_nan_l m1) none_bad

end Go.Proofs.YtoinchnlbmaafaaDoor

/- The law's awake: what the document's examples say. -/
namespace Go.Proofs.YtoinchnlbmaafaaDoor
open Go.RowKit
set_option linter.unusedVariables false

theorem lst_one {zs : List Int} {k : Int} (hw : Wd zs) (ht : Trimmed zs) (hv : val zs = k) (h0 : 1 ≤ k) (h1 : k ≤ 4294967295) : zs = [k] :=
  trimmed_eq hw (Wd.one ⟨by omega, h1⟩) ht (by show sz _ = _; rw [sz_eq_iff]; right; simp; omega) (by rw [hv, val_one])

theorem half_num : fnum 4602678819172646912 = 1 ∧ fden 4602678819172646912 = 2 := by decide +kernel
theorem quarters_num : fnum 13828302655841107968 = 3 ∧ fden 13828302655841107968 = 4 := by decide +kernel

theorem same_one {k : Int} {W : World} {a : Option Addr} {c : Nat} {b : Option Addr} {d : Nat} (h : Sl W (.slice a 1 c) [k]) (g : Sl W (.slice b 1 d) [k]) :
    Calls Tryd.prog 29 #[.slice a 1 c, .slice b 1 d] W fun e w' => e = .returned (.bool true) ∧ Below W.heap.size W w' := by
  refine Calls.mono (same_sl _ _ [k] [k] W h g (by simp) (by simp)) ?_
  rintro e w' ⟨rfl, hb⟩
  exact ⟨by rw [decide_eq_true rfl], hb⟩
theorem mul_known {re im : Nat} (h : MulR 4607182418800017408 4611686018427387904 4613937818241073152 13830554455654793216 re im) : re = 4617315517961601024 ∧ im = 4617315517961601024 := by
  obtain ⟨x, y, u, v, h1, h2, h3, h4, h5, h6⟩ := h
  obtain rfl := h1.eq (show floatBits .mul .f64 4607182418800017408 4613937818241073152 = some 4613937818241073152 by decide +kernel)
  obtain rfl := h2.eq (show floatBits .mul .f64 4611686018427387904 13830554455654793216 = some 13835058055282163712 by decide +kernel)
  obtain rfl := h4.eq (show floatBits .mul .f64 4607182418800017408 13830554455654793216 = some 13830554455654793216 by decide +kernel)
  obtain rfl := h5.eq (show floatBits .mul .f64 4611686018427387904 4613937818241073152 = some 4618441417868443648 by decide +kernel)
  exact ⟨h3.eq (show floatBits .sub .f64 4613937818241073152 13835058055282163712 = some 4617315517961601024 by decide +kernel), h6.eq (show floatBits .add .f64 13830554455654793216 4618441417868443648 = some 4617315517961601024 by decide +kernel)⟩
theorem abs_known {r : Nat} (h : AbsR (4613937818241073152 % 9223372036854775808) (4616189618054758400 % 9223372036854775808) r) : r = 4617315517961601024 := by
  rcases h with ⟨h0, _⟩ | ⟨_, h1, _⟩ | ⟨_, _, m, n, h2, h3⟩
  · exact absurd h0 (by decide)
  · exact absurd h1 (by decide)
  · rcases h2 with ⟨_, rfl, rfl⟩ | ⟨h2, _, _⟩
    · rcases h3 with ⟨h3, _⟩ | ⟨_, q, p, s, t, g1, g2, g3, g4, g5⟩
      · exact absurd h3 (by decide)
      · obtain rfl := g1.eq (show floatBits .quo .f64 4613937818241073152 4616189618054758400 = some 4604930618986332160 by decide +kernel)
        obtain rfl := g2.eq (show floatBits .mul .f64 4604930618986332160 4604930618986332160 = some 4603241769126068224 by decide +kernel)
        obtain rfl := g3.eq (show floatBits .add .f64 4607182418800017408 4603241769126068224 = some 4609715693590413312 by decide +kernel)
        obtain rfl := g4.eq (show Ieee.double.sqrt 4609715693590413312 = some 4608308318706860032 by decide +kernel)
        exact g5.eq (show floatBits .mul .f64 4616189618054758400 4608308318706860032 = some 4617315517961601024 by decide +kernel)
    · exact absurd h2 (by decide)

set_option maxHeartbeats 1600000 in
set_option maxRecDepth 100000 in
theorem pawake_any (w : World) (hT : TabB w) :
    Calls Tryd.prog 6 #[] w fun e w' => e = .returned (.bool true) ∧ Below w.heap.size w w' := by
  have HE := hid (pexact_nz 4602678819172646912 13828302655841107968 w (by decide) (by decide) (by decide) (by decide) (by decide) (by decide) hT)
  go_enter Tryd.func6, Tryd.ntmps6
  go_wp2_with fail
  refine Calls.mono HE.out ?_
  rintro e w1 ⟨a, ca, b, cb, zs, ds, a', ca', b', cb', zs', ds', rfl, o1, o2, v1, v2, v3, v4, hb⟩
  rw [half_num.1] at v1
  rw [half_num.2] at v2
  rw [quarters_num.1] at v3
  rw [quarters_num.2] at v4
  obtain rfl := lst_one o1.2.2.2.2.1 o1.2.2.2.2.2.1 v2 (by omega) (by omega)
  obtain rfl := lst_one o2.2.2.1 o2.2.2.2.1 v3 (by omega) (by omega)
  have HB := hid hb
  have HO := hid (And.intro o1 o2)
  clear HE o1 o2 v1 v2 v3 v4 hb hT
  have HG := hid (Box.made w1 42 #[.bool false, .slice a zs.length ca, .slice b 1 cb, .bool true, .slice a' 1 ca', .slice b' ds'.length cb'])
  have HBG := hid (alloc_later w1 (.cells #[.bool false, .slice a zs.length ca, .slice b 1 cb, .bool true, .slice a' 1 ca', .slice b' ds'.length cb'] 42))
  go_wp2_with fail
  generalize w1.alloc (.cells #[.bool false, .slice a zs.length ca, .slice b 1 cb, .bool true, .slice a' 1 ca', .slice b' ds'.length cb'] 42) = X at *
  refine Calls.mono (zpMul_any _ _ _ _ _) ?_
  rintro e w2 ⟨re, im, rfl, hm, _, _, hb2⟩
  obtain ⟨rfl, rfl⟩ := mul_known hm
  have HB2 := hid hb2
  have h55 : (FloatKind.f64.format.order 4617315517961601024 4617315517961601024 == some .eq) = true := by decide +kernel
  clear hm hb2
  go_wp2_with fail
  refine Calls.mono (zpAbs_any _ _ _ (by decide) (by decide)) ?_
  rintro e w3 ⟨r, rfl, _, hr, hb3⟩
  obtain rfl := abs_known hr
  have HB3 := hid (bt HB2.out hb3)
  have HG3 := hid (HG.out.later HB3.out HG.out.lt)
  have HO3 := hid (And.intro ((HO.out.1.later HBG.out).later HB3.out) ((HO.out.2.later HBG.out).later HB3.out))
  clear hr hb3
  have HBA := hid (alloc_later w3 (.cells #[.int .u32 2] 56))
  have HS1 : Hid (Sl (w3.alloc (.cells #[.int .u32 2] 56)) (.slice (some ⟨w3.heap.size, 0, none⟩) 1 1) [2]) := Sl.own (World.ownsRow_lit w3 #[.int .u32 2] 1 (Nat.le_refl _) (by simp [maxLen]) rfl) (Wd.one (by omega))
  have HS0 := hid (Sl.own (HO3.out.1.later HBA.out).2.1 (HO3.out.1).2.2.2.2.1)
  obtain ⟨W4, hW4⟩ : ∃ W4, w3.alloc (.cells #[.int .u32 2] 56) = W4 := ⟨_, rfl⟩
  rw [hW4] at HBA HS1 HS0
  have HC := hid (same_one HS0.out HS1.out)
  have HG4 := hid (HG3.out.later HBA.out HG3.out.lt)
  have c2 : w3.cell? ⟨w1.heap.size, 2, none⟩ = some (.slice b 1 cb) := HG3.out.cell 2
  have c2' : W4.cell? ⟨w1.heap.size, 2, none⟩ = some (.slice b 1 cb) := HG4.out.cell 2
  go_wp2_with fail
  refine Calls.mono HC.out ?_
  rintro e w5 ⟨rfl, hb5⟩
  have HB5 := hid hb5
  have HG5 := hid (HG4.out.later hb5 HG4.out.lt)
  have HO5 := hid ((HO3.out.2.later HBA.out).later hb5)
  have HBA5 := hid (alloc_later w5 (.cells #[.int .u32 3] 56))
  have HT1 : Hid (Sl (w5.alloc (.cells #[.int .u32 3] 56)) (.slice (some ⟨w5.heap.size, 0, none⟩) 1 1) [3]) := Sl.own (World.ownsRow_lit w5 #[.int .u32 3] 1 (Nat.le_refl _) (by simp [maxLen]) rfl) (Wd.one (by omega))
  have HT0 := hid (Sl.own (HO5.out.later HBA5.out).1 HO5.out.2.2.1)
  obtain ⟨W6, hW6⟩ : ∃ W6, w5.alloc (.cells #[.int .u32 3] 56) = W6 := ⟨_, rfl⟩
  rw [hW6] at HBA5 HT1 HT0
  have HC6 := hid (same_one HT0.out HT1.out)
  have HG6 := hid (HG5.out.later HBA5.out HG5.out.lt)
  have c3 : w5.cell? ⟨w1.heap.size, 3, none⟩ = some (.bool true) := HG5.out.cell 3
  have c4 : w5.cell? ⟨w1.heap.size, 4, none⟩ = some (.slice a' 1 ca') := HG5.out.cell 4
  have c3' : W6.cell? ⟨w1.heap.size, 3, none⟩ = some (.bool true) := HG6.out.cell 3
  have c4' : W6.cell? ⟨w1.heap.size, 4, none⟩ = some (.slice a' 1 ca') := HG6.out.cell 4
  clear hb5 HC c2 c2' hW4 HS0 HS1
  go_wp2_with fail
  refine Calls.mono HC6.out ?_
  rintro e w7 ⟨rfl, hb7⟩
  have HB7 := hid (bt HB.out (bt HBG.out (bt HB3.out (bt HBA.out (bt HB5.out (bt HBA5.out hb7))))))
  clear hb7 hW6 c3 c4 c3' c4'
  go_wp2_with fail
  go_ret
  exact ⟨rfl, HB7.out⟩

end Go.Proofs.YtoinchnlbmaafaaDoor

/- What the law PartsTurns asks of floats, as facts of their bits; math.Max of sizes. -/
namespace Go.Proofs.YtoinchnlbmaafaaDoor
open Go.RowKit
set_option linter.unusedVariables false

theorem fneg_eq (x : Nat) : fneg x = fopp x := rfl

theorem MulR.swap {a b c d re im re' im' : Nat} (h : MulR a b c d re im) (g : MulR c d a b re' im') : Al re re' ∧ Al im im' := by
  obtain ⟨x, y, u, v, h1, h2, h3, h4, h5, h6⟩ := h
  obtain ⟨x', y', u', v', g1, g2, g3, g4, g5, g6⟩ := g
  exact MulR_swap h1 h2 h3 h4 h5 h6 g1 g2 g3 g4 g5 g6

theorem not_nan_al {x y : Nat} (h : Al x y) (n : isnan x = false) : x = y := by
  rcases h with h | ⟨h, _⟩
  · exact h
  · rw [n] at h; cases h

/-- The conjugate of a product. -/
theorem MulR.conj {a b c d re im re' im' : Nat} (hb : b < 18446744073709551616) (hd : d < 18446744073709551616) (h : MulR a b c d re im) (g : MulR a (fopp b) c (fopp d) re' im') (n1 : isnan re = false) (n2 : isnan im = false) (n3 : isnan re' = false) (n4 : isnan im' = false) :
    (FloatKind.f64.format.order re re' == some .eq) = true ∧ (FloatKind.f64.format.order (fopp im) im' == some .eq) = true := by
  obtain ⟨x, y, u, v, h1, h2, h3, h4, h5, h6⟩ := h
  obtain ⟨x', y', u', v', g1, g2, g3, g4, g5, g6⟩ := g
  have gy : FN .mul b d y' := ⟨g2.1, by rw [← mul_opp_two hb hd]; exact g2.2⟩
  have e := not_nan_al (h3.al g3 (h1.al g1 (.refl _) (.refl _)) (h2.al gy (.refl _) (.refl _))) n1
  refine ⟨?_, add_ng h4.1 h5.1 h6 g6 (mul_ng hd h4 g4) (mul_ng hb h5.mulComm g5.mulComm) n2 n4⟩
  rw [← e, order_refl n1]
  rfl

/-- The greater of two sizes. -/
def fmax (A B : Nat) : Nat := if A < B then B else A
theorem order_max {A B : Nat} (hA : A < 9218868437227405312) (hB : B < 9218868437227405312) : fmax A B < 9218868437227405312 := by unfold fmax; split <;> assumption

theorem archMax_run (A B : Nat) (w : World) (hA : A < 9218868437227405312) (hB : B < 9218868437227405312) : (callFunc 34 #[.float .f64 A, .float .f64 B]).run Tryd.prog w = .ok (.value (.float .f64 (fmax A B))) w := by
  rw [run_callFunc_extern (fn := Tryd.f34) Tryd.func34 (by kernel_rfl) (by kernel_rfl) (by kernel_rfl) (e := Extern.MathDim.pick "math.archMax" false .gt) (by kernel_rfl)]
  obtain ⟨m, i, e1, v1⟩ := read_size hA
  obtain ⟨n, j, e2, v2⟩ := read_size hB
  have ho : (Ieee.Datum.number false m (-1074 + (i : Int))).order (.number false n (-1074 + (j : Int))) = some (compare A B) := by
    have e := order_pos (x := A) (y := B) (by omega) (by omega)
    have e' : (Ieee.double.read A).order (Ieee.double.read B) = some (compare A B) := e
    rw [e1, e2] at e'
    exact e'
  have f1 : FloatKind.f64.decode A = .number false m (-1074 + (i : Int)) := e1
  have f2 : FloatKind.f64.decode B = .number false n (-1074 + (j : Int)) := e2
  have key : (if (FloatKind.f64.decode A == .infinity false || FloatKind.f64.decode B == .infinity false) = true then FloatKind.f64.encode (.infinity false)
      else if ((FloatKind.f64.decode A).isNaN || (FloatKind.f64.decode B).isNaN) = true then 0x7FF8000000000001
      else if ((FloatKind.f64.decode A).isZero && (FloatKind.f64.decode B).isZero) = true then (if ((FloatKind.f64.decode A).neg == false) = true then A else B)
      else if ((FloatKind.f64.decode A).order (FloatKind.f64.decode B) == some .gt) = true then A else B) = fmax A B := by
    rw [f1, f2, ho]
    have i1 : (Ieee.Datum.number false m (-1074 + (i : Int)) == .infinity false) = false := beq_eq_false_iff_ne.2 (by intro h; cases h)
    have i2 : (Ieee.Datum.number false n (-1074 + (j : Int)) == .infinity false) = false := beq_eq_false_iff_ne.2 (by intro h; cases h)
    rw [i1, i2]
    simp only [Ieee.Datum.isNaN, Ieee.Datum.neg, Bool.or_self, Bool.false_eq_true, if_false, beq_self_eq_true, if_true]
    unfold fmax
    by_cases hz : (Ieee.Datum.isZero (.number false m (-1074 + (i : Int))) && Ieee.Datum.isZero (.number false n (-1074 + (j : Int)))) = true
    · rw [if_pos hz]
      have : B = 0 := by
        rw [Bool.and_eq_true] at hz
        have hn : n = 0 := by
          have := hz.2
          unfold Ieee.Datum.isZero at this
          split at this
          · rename_i heq; cases heq; rfl
          · cases this
        by_cases h0 : B = 0
        · exact h0
        · have := rungVal_lt (r := 0) (s := B) (by omega)
          rw [← v2, hn] at this
          omega
      rw [if_neg (by omega)]
    · rw [if_neg hz]
      rcases Nat.lt_trichotomy A B with h | h | h
      · rw [Nat.compare_eq_lt.2 h, if_pos h]; rfl
      · subst h; simp
      · rw [Nat.compare_eq_gt.2 h, if_pos (by rfl), if_neg (by omega)]
  rw [← key]
  rfl

set_option maxHeartbeats 400000 in
set_option maxRecDepth 100000 in
theorem mMax_any (A B : Nat) (w : World) (hA : A < 9218868437227405312) (hB : B < 9218868437227405312) :
    Calls Tryd.prog 15 #[.float .f64 A, .float .f64 B] w fun e w' => e = .returned (.float .f64 (fmax A B)) ∧ w' = w := by
  have HM := fun V => archMax_run A B V hA hB
  generalize fmax A B = M at *
  clear hA hB
  go_enter Tryd.func15, Tryd.ntmps15
  go_wp2
  go_ret
  exact ⟨rfl, rfl⟩

theorem geq_of {x y : Nat} (hx : x ≤ 9218868437227405312) (hy : y ≤ 9218868437227405312) (h : y ≤ x) : (FloatKind.f64.format.order x y == some .gt || FloatKind.f64.format.order x y == some .eq) = true := by
  rw [order_pos hx hy]
  rcases Nat.lt_or_eq_of_le h with h | h
  · rw [Nat.compare_eq_gt.2 h]; rfl
  · subst h; simp
theorem leq_of {x y : Nat} (hx : x ≤ 9218868437227405312) (hy : y ≤ 9218868437227405312) (h : x ≤ y) : (FloatKind.f64.format.order x y == some .lt || FloatKind.f64.format.order x y == some .eq) = true := by
  rw [order_pos hx hy]
  rcases Nat.lt_or_eq_of_le h with h | h
  · rw [Nat.compare_eq_lt.2 h]; rfl
  · subst h; simp

/-- The size of finite parts: never below the greater part, at most one and a half times it. -/
theorem abs_between {A B x : Nat} (hA : A < 9218868437227405312) (hB : B < 9218868437227405312) (h : AbsR A B x) :
    (FloatKind.f64.format.order x (fmax A B) == some .gt || FloatKind.f64.format.order x (fmax A B) == some .eq) = true ∧
    (∀ r, FN .mul 4609434218613702656 (fmax A B) r → (FloatKind.f64.format.order x r == some .lt || FloatKind.f64.format.order x r == some .eq) = true ∧ floatBits .mul .f64 4609434218613702656 (fmax A B) ≠ none) ∧
    ((FloatKind.f64.format.order x 0 == some .eq) == (FloatKind.f64.format.order (fmax A B) 0 == some .eq)) = true := by
  have nn : ∀ z : Nat, z < 9218868437227405312 → isnan z = false := fun z hz => by
    cases n : isnan z
    · rfl
    · rw [isnan_iff] at n; omega
  have ni : ∀ z : Nat, z < 9218868437227405312 → isinf z = false := fun z hz => by
    simp only [isinf, beq_eq_false_iff_ne]; omega
  have hM := order_max hA hB
  have hnone : floatBits .mul .f64 4609434218613702656 (fmax A B) ≠ none := by
    obtain ⟨mag, place, e, _⟩ := mul_bits (x := 4609434218613702656) (y := fmax A B) 1074 rfl (by decide) hM
    rw [e]; intro h; cases h
  rcases h with ⟨h0, _⟩ | ⟨_, h1, _⟩ | ⟨_, _, m, n, h2, h3⟩
  · rw [nn A hA, nn B hB] at h0; cases h0
  · rw [ni A hA, ni B hB] at h1; cases h1
  · have hm : m = fmax A B ∧ n ≤ m := by
      unfold fmax
      rcases h2 with ⟨a, rfl, rfl⟩ | ⟨a, rfl, rfl⟩
      · rw [if_pos a]; exact ⟨rfl, by omega⟩
      · rw [if_neg a]; exact ⟨rfl, by omega⟩
    rw [← hm.1] at hM hnone ⊢
    rcases h3 with ⟨rfl, rfl⟩ | ⟨m0, q, p, s, t, g1, g2, g3, g4, g5⟩
    · refine ⟨geq_of (by omega) (by omega) (by omega), fun r hr => ⟨?_, hnone⟩, by decide⟩
      have k := mul_le_half3 (m := 0) (t := 4607182418800017408) (r := 0) (by decide) (by decide) (by decide) ⟨by decide, .inl (by decide +kernel)⟩ hr
      exact leq_of (by omega) k.2 k.1
    · have q1 := quo_le hM m0 hm.2 g1
      have p1 := mul_le_one q1 q1 g2
      obtain ⟨s1, s2⟩ := one_add p1 g3
      obtain ⟨t1, t2⟩ := sqrt_between s1 s2 g4
      have x1 := mul_ge hM (by omega) t1 g5
      refine ⟨geq_of x1.2 (by omega) x1.1, fun r hr => ⟨?_, hnone⟩, ?_⟩
      · have k := mul_le_half3 hM t1 t2 g5 hr
        exact leq_of x1.2 k.2 k.1
      · rw [zero_of_order x1.2, zero_of_order (by omega), decide_eq_false (by omega), decide_eq_false m0]
        rfl

end Go.Proofs.YtoinchnlbmaafaaDoor

/- The table of places, from what the card lays. -/
namespace Go.Proofs.YtoinchnlbmaafaaDoor
open Go.RowKit
set_option linter.unusedVariables false

theorem tabB_of {W : World} {cs : List Value} (hv : W.var? Tryd.prog "math/bits.deBruijn64tab" = some cs.toArray) (e1 : Tryd.prog.globalNamed "math/bits.deBruijn64tab" = some 1) (hcs : cs = (Lib.deBruijn64tab.map fun (n : Nat) => (n : Int)).map fun z => Value.int .u8 z) : TabB W := fun j hj => by
  unfold World.var? at hv
  rw [e1] at hv
  simp only [Option.bind_some] at hv
  unfold World.cell?
  cases hh : W.heap[(1 : Nat)]? with
  | none => rw [hh] at hv; cases hv
  | some o =>
    rw [hh] at hv
    cases o with
    | cells c t m =>
      simp only [Option.some.injEq] at hv
      subst hv
      rw [hcs]
      have hl : j < Lib.deBruijn64tab.length := hj
      simp [List.getElem?_eq_getElem hl, List.getD_eq_getElem?_getD]
    | _ => simp at hv

end Go.Proofs.YtoinchnlbmaafaaDoor

/- The document's TwoSum; slackwaterkit.SameFloat, SameBits of one float twice; lists of floats: CopyFloats, LentFloats, SameFloats, KeptFloats. -/
namespace Go.Proofs.YtoinchnlbmaafaaDoor
open Go.RowKit
set_option linter.unusedVariables false

theorem fadd_ex (P : Program) (t : TypeId) (V : World) (x y : Nat) : ∃ r V', (binOp .add t (.float .f64 x) (.float .f64 y)).run P V = .ok (.float .f64 r) V' ∧ Hid (FR .add x y r ∧ Below V.heap.size V V') :=
  ⟨_, _, fadd_run P t V x y, fval_fr .add V x y, fwld_below .add x y (Below.refl _ _)⟩
theorem fsub_ex (P : Program) (t : TypeId) (V : World) (x y : Nat) : ∃ r V', (binOp .sub t (.float .f64 x) (.float .f64 y)).run P V = .ok (.float .f64 r) V' ∧ Hid (FR .sub x y r ∧ Below V.heap.size V V') :=
  ⟨_, _, fsub_run P t V x y, fval_fr .sub V x y, fwld_below .sub x y (Below.refl _ _)⟩
theorem b2 {a b c : World} (h : Below a.heap.size a b) (g : Below b.heap.size b c) : Below a.heap.size a c := h.trans (g.mono h.size)

theorem Tryd.infoF : (Tryd.prog.info? 31).map (fun i => (i.zero, i.size, i.bytes)) = some (some (.float .f64 0), 1, 8) := by kernel_rfl

/-- The slice reads as these floats. -/
def RdF (w : World) (B : Nat) (a : Option Addr) (n cap : Nat) (xs : List Nat) : Prop :=
  xs.length = n ∧ (n = 0 ∨ ∃ b o, a = some ⟨b, o, none⟩ ∧ b < B ∧ ∀ j, j < n → w.cell? ⟨b, o + j, none⟩ = some (.float .f64 (xs[j]?.getD 0))) ∧ n ≤ cap ∧ cap ≤ maxLen ∧ (a = none → cap = 0)

theorem RdF.later {w w' : World} {B B' : Nat} {a : Option Addr} {n cap : Nat} {zs : List Nat} (h : RdF w B a n cap zs) (hb : Below B w w') (hB : B ≤ B') : RdF w' B' a n cap zs := by
  obtain ⟨h1, h3, h4⟩ := h
  refine ⟨h1, h3.imp id ?_, h4⟩
  rintro ⟨b, o, rfl, hlt, hc⟩
  exact ⟨b, o, rfl, by omega, fun j hj => (hb.cell (p := ⟨b, o + j, none⟩) hlt).trans (hc j hj)⟩

theorem RdF.front {w : World} {B : Nat} {a : Option Addr} {n cap : Nat} {zs : List Nat} (h : RdF w B a n cap zs) (k : Nat) (hk : k ≤ n) : RdF w B a k cap (zs.take k) := by
  obtain ⟨h1, h3, h4, h5, h6⟩ := h
  refine ⟨by rw [List.length_take]; omega, ?_, by omega, h5, h6⟩
  rcases h3 with h3 | ⟨b, o, ha, hlt, hc⟩
  · left; omega
  · right
    refine ⟨b, o, ha, hlt, fun j hj => ?_⟩
    rw [hc j (by omega), List.getElem?_take, if_pos hj]

theorem RdF.own {w : World} {base e : Nat} {v : Value} {zs : List Nat} {n : Nat} (h : w.ownsRow base e 1 v n (zs.map (Value.float .f64))) :
    ∃ a cap, v = .slice a n cap ∧ RdF w w.heap.size a n cap zs := by
  have hl := h.1
  simp at hl
  rcases h.2 with ⟨rfl, rfl⟩ | ⟨g, cap, cur, rfl, hb, hg, hnc, hcm, hcs, ht⟩
  · exact ⟨none, 0, rfl, by omega, .inl rfl, Nat.le_refl _, Nat.zero_le _, fun _ => rfl⟩
  · refine ⟨_, cap, rfl, by omega, ?_, hnc, hcm, fun h => by simp at h⟩
    right
    refine ⟨g, 0, rfl, ?_, fun j hj => ?_⟩
    · have : w.heap[g]?.isSome := by rw [hg]; rfl
      simpa using this
    · have hc := h.cellAt j (by omega)
      rw [Nat.zero_add, hc, List.getElem?_map, List.getElem?_eq_getElem (by omega)]
      simp

theorem newsF {w : World} {B : Nat} {ad : Addr} {n cap : Nat} {zs : List Nat} (h : RdF w B (some ad) n cap zs) :
    ∀ j v, (zs.map (Value.float .f64))[j]? = some v → w.cell? (ad.add j) = some v := by
  intro j v hj
  have hj1 := (List.getElem?_eq_some_iff.1 hj).1
  have hl := h.1
  simp only [List.length_map] at hj1
  rcases h.2.1 with h0 | ⟨b, o, ha, _, hc⟩
  · omega
  · cases ha
    rw [Addr.add_lit, hc j (by omega), ← hj, List.getElem?_map, List.getElem?_eq_getElem hj1]
    rfl

theorem floats_oneCell (zs : List Nat) : ∀ u ∈ zs.map (Value.float .f64), u.oneCell' = true := by
  intro u hu
  obtain ⟨z, _, rfl⟩ := List.mem_map.1 hu
  rfl

/-- What stands behind a list of floats that is lent: 0.125, 1.125, 2.125. -/
def fmarks (k : Nat) : List Nat := [4593671619917905920, 4607745368753438720, 4611967493404098560].take k
theorem fmark_run (k : Nat) (h : k < 3) (P : Program) (t : TypeId) (V : World) : ∃ r, (binOp .add t (.float .f64 4593671619917905920) (.float .f64 (floatOfInt .f64 (k : Int)))).run P V = .ok (.float .f64 r) V ∧ fmarks (k + 1) = fmarks k ++ [r] := by
  match k, h with
  | 0, _ => exact ⟨4593671619917905920, run_float_arith V _ _ _ _ _ _ (by decide +kernel), rfl⟩
  | 1, _ => exact ⟨4607745368753438720, run_float_arith V _ _ _ _ _ _ (by decide +kernel), rfl⟩
  | 2, _ => exact ⟨4611967493404098560, run_float_arith V _ _ _ _ _ _ (by decide +kernel), rfl⟩

end Go.Proofs.YtoinchnlbmaafaaDoor

/- real.Sum and the document's Sum, of any list of floats. -/
namespace Go.Proofs.YtoinchnlbmaafaaDoor
open Go.RowKit
set_option linter.unusedVariables false

/-- A struct's memory. -/
def FBox (w : World) (b t : Nat) (vs : Array Value) : Prop := w.heap[b]? = some (.cells vs t (0, 0))
theorem FBox.cell {w : World} {b t : Nat} {vs : Array Value} (h : FBox w b t vs) (j : Nat) : w.cell? ⟨b, j, none⟩ = vs[j]? := by
  unfold FBox at h
  simp [World.cell?, h]
theorem FBox.free {w : World} {b t : Nat} {vs : Array Value} (h : FBox w b t vs) (j : Nat) : w.frozen? ⟨b, j, none⟩ = false := by
  unfold FBox at h
  simp [World.frozen?, h]
theorem FBox.later {w w' : World} {B b t : Nat} {vs : Array Value} (h : FBox w b t vs) (hb : Below B w w') (hlt : b < B) : FBox w' b t vs := by
  unfold FBox at *
  rw [hb.block b hlt]; exact h
theorem FBox.lt {w : World} {b t : Nat} {vs : Array Value} (h : FBox w b t vs) : b < w.heap.size := by
  unfold FBox at h
  have : w.heap[b]?.isSome := by rw [h]; rfl
  simpa using this
theorem FBox.made (w : World) (t : Nat) (vs : Array Value) : FBox (w.alloc (.cells vs t)) w.heap.size t vs := by
  unfold FBox
  show (w.heap.push _)[w.heap.size]? = _
  rw [Array.getElem?_push, if_pos rfl]
theorem FBox.other {w : World} {b t : Nat} {vs : Array Value} (h : FBox w b t vs) (p : Addr) (v : Value) (hne : b ≠ p.block) : FBox (w.setCell p v) b t vs := by
  unfold FBox at *
  rw [Below.heap_setCell w p v b hne]; exact h
theorem FBox.drewN {w : World} {b t : Nat} {vs : Array Value} (h : FBox w b t vs) (n : Nat) : FBox (w.drewN n) b t vs := h
theorem FBox.set {w : World} {b t : Nat} {vs : Array Value} (h : FBox w b t vs) (j : Nat) (v : Value) : FBox (w.setCell ⟨b, j, none⟩ v) b t (vs.setIfInBounds j v) := by
  unfold FBox at *
  simp only [World.setCell, Array.getElem?_modify, if_pos, h]
  simp

/-- What Sum tells. -/
def sumV (r : Nat × Nat × Int × Int) : Value := .tuple #[.float .f64 r.1, .float .f64 r.2.1, .agg #[.int .i64 r.2.2.1, .int .i64 r.2.2.2]]

/-- Each float has 64 bits. -/
def Wf (xs : List Nat) : Prop := ∀ j : Nat, xs[j]?.getD 0 < 18446744073709551616

theorem fput2 {B : Nat} {a w : World} (h : Below B a w) (b : Nat) (hb : B ≤ b) (v0 v1 : Value) : Below B a ((w.setCell ⟨b, 0, none⟩ v0).setCell ⟨b, 1, none⟩ v1) :=
  (h.setCell (p := ⟨b, 0, none⟩) hb _).setCell (p := ⟨b, 1, none⟩) hb _
theorem fbox_facts {w w' : World} {b t : Nat} {v0 v1 : Value} (h : FBox w b t #[v0, v1]) (hb : Below w.heap.size w w') : w'.cell? ⟨b, 0, none⟩ = some v0 ∧ w'.cell? ⟨b, 1, none⟩ = some v1 ∧ w'.frozen? ⟨b, 0, none⟩ = false ∧ w'.frozen? ⟨b, 1, none⟩ = false := by
  have h' := h.later hb h.lt
  exact ⟨h'.cell 0, h'.cell 1, h'.free 0, h'.free 1⟩

end Go.Proofs.YtoinchnlbmaafaaDoor

/- The law PartsCalls answers true, and writes nothing that was there: whatever two complex numbers and whatever real come in, by their bits. -/
namespace Go.Proofs.YtoinchnlbmaafaaDoor
open Go.RowKit
set_option linter.unusedVariables false

set_option maxHeartbeats 800000 in
set_option maxRecDepth 100000 in
theorem lawZ_any (a b : Nat) (w : World) :
    Calls Tryd.prog 7 #[.agg #[.int .u64 (a : Int), .int .u64 (b : Int)]] w fun e w' => e = .returned (.complex .f64 a b) ∧ Below w.heap.size w w' := by
  have fa := from_run a
  have fb := from_run b
  have h0 := FBox.made w 24 #[.int .u64 (a : Int), .int .u64 (b : Int)]
  have hb0 : Below w.heap.size w (w.alloc (.cells #[.int .u64 (a : Int), .int .u64 (b : Int)] 24)) := (Below.refl _ _).alloc (Nat.le_refl _) _
  go_enter Tryd.func7, Tryd.ntmps7
  go_wp2_with fail
  generalize w.alloc (.cells #[.int .u64 (a : Int), .int .u64 (b : Int)] 24) = V at *
  have hs0 : V.drew.cell? ⟨w.heap.size, 0, none⟩ = some (.int .u64 (a : Int)) ∧ V.drew.cell? ⟨w.heap.size, 1, none⟩ = some (.int .u64 (b : Int)) := ⟨h0.cell 0, h0.cell 1⟩
  have HB := hid (hb0.drew)
  clear h0 hb0
  go_region_held3 (fun U : World => U.cell? ⟨w.heap.size, 0, none⟩ = some (.int .u64 (a : Int)) ∧ U.cell? ⟨w.heap.size, 1, none⟩ = some (.int .u64 (b : Int))) (exact hs0) (fail)
  all_goals
    go_wp2_with fail
    go_ret
    exact ⟨rfl, HB.out⟩

theorem same_true {a b c d : Nat} (h : Al a c) (g : Al b d) : (sameR a c && sameR b d) = true := by rw [h.same, g.same]; rfl

end Go.Proofs.YtoinchnlbmaafaaDoor

/- The law PartsTurns answers true, and writes nothing that was there: whatever two complex numbers come in, by their bits; where the library's table of places stands as its text lays it. -/
namespace Go.Proofs.YtoinchnlbmaafaaDoor
open Go.RowKit
set_option linter.unusedVariables false

theorem zpSame_al (a b c d : Nat) (w : World) (h : Al a c) (g : Al b d) :
    Calls Tryd.prog 8 #[.complex .f64 a b, .complex .f64 c d] w fun e w' => e = .returned (.bool true) ∧ w' = w := by
  have h1 := zpSame_any a b c d w
  rw [same_true h g] at h1
  exact h1
theorem zpSame_back (a b c d : Nat) (w : World) (h : a = c) (g : b = d) :
    Calls Tryd.prog 8 #[.complex .f64 a b, .complex .f64 c d] w fun e w' => e = .returned (.bool true) ∧ w' = w := zpSame_al a b c d w (.inl h) (.inl g)
theorem fneg_fneg (x : Nat) : fneg (fneg x) = x := fopp_fopp x
theorem fneg_lt {x : Nat} (h : x < 18446744073709551616) : fneg x < 18446744073709551616 := (fopp_mod h).2
theorem fneg_mod {x : Nat} (h : x < 18446744073709551616) : fneg x % 9223372036854775808 = x % 9223372036854775808 := (fopp_mod h).1
theorem eq_self_nan (x : Nat) : (FloatKind.f64.format.order x x == some .eq) = !isnan x := by
  cases h : isnan x
  · rw [order_refl h]; rfl
  · rw [order_nan_l h]; rfl
theorem eq_self_neg {x : Nat} (h : x < 18446744073709551616) : (FloatKind.f64.format.order (fneg x) (fneg x) == some .eq) = !isnan x := by
  rw [eq_self_nan, fneg_eq, isnan_fopp h]
theorem fin_low {x : Nat} (h : fin x = true) : x % 9223372036854775808 < 9218868437227405312 := (fin_iff x).1 h
theorem zpEqual_true {a b c d : Nat} (w : World) (h : (FloatKind.f64.format.order a c == some .eq) = true) (g : (FloatKind.f64.format.order b d == some .eq) = true) :
    Calls Tryd.prog 12 #[.complex .f64 a b, .complex .f64 c d] w fun e w' => e = .returned (.bool true) ∧ w' = w := by
  have h1 := zpEqual_any a b c d w
  have e1 : feq a c = true := h
  have e2 : feq b d = true := g
  rw [e1, e2] at h1
  exact h1

theorem fwld_same {w : World} {x y : Nat} (h : floatBits .mul .f64 x y ≠ none) : fwld .mul w x y = w := by
  cases e : floatBits .mul .f64 x y with
  | none => exact absurd e h
  | some r => simp only [fwld, e]
theorem abs_nan {a b x : Nat} (h : AbsR (a % 9223372036854775808) (b % 9223372036854775808) x) (n : isnan x = true) : (fin a && fin b) = false := by
  cases fa : fin a && fin b
  · rfl
  · exfalso
    have fab : fin a = true ∧ fin b = true := by simpa using fa
    have t := (abs_between (fin_low fab.1) (fin_low fab.2) h).1
    rw [order_nan_l n] at t
    cases t

set_option maxHeartbeats 6400000 in
set_option maxRecDepth 100000 in
theorem partsTurns_walk (a b c d : Nat) (w : World) (ha : a < 18446744073709551616) (hb : b < 18446744073709551616) (hc : c < 18446744073709551616) (hd : d < 18446744073709551616) (hT : TabB w) :
    Calls Tryd.prog 3 #[.agg #[.int .u64 (a : Int), .int .u64 (b : Int)], .agg #[.int .u64 (c : Int), .int .u64 (d : Int)]] w fun e w' => e = .returned (.bool true) ∧ Below w.heap.size w w' := by
  have HAB := hid (And.intro ha hb)
  have HCD := hid (And.intro hc hd)
  have HN := hid (FBox.made w 24 #[.int .u64 (a : Int), .int .u64 (b : Int)])
  have hb1 : Below w.heap.size w (w.alloc (.cells #[.int .u64 (a : Int), .int .u64 (b : Int)] 24)) := (Below.refl _ _).alloc (Nat.le_refl _) _
  have HM := hid (FBox.made (w.alloc (.cells #[.int .u64 (a : Int), .int .u64 (b : Int)] 24)) 24 #[.int .u64 (c : Int), .int .u64 (d : Int)])
  have hb2 : Below (w.alloc (.cells #[.int .u64 (a : Int), .int .u64 (b : Int)] 24)).heap.size (w.alloc (.cells #[.int .u64 (a : Int), .int .u64 (b : Int)] 24)) ((w.alloc (.cells #[.int .u64 (a : Int), .int .u64 (b : Int)] 24)).alloc (.cells #[.int .u64 (c : Int), .int .u64 (d : Int)] 24)) := (Below.refl _ _).alloc (Nat.le_refl _) _
  have HN2 := hid (HN.out.later hb2 HN.out.lt)
  have HB0 := hid (b2 hb1 hb2)
  have HAW := hid (pawake_any _ (hT.later HB0.out))
  have es : (w.alloc (.cells #[.int .u64 (a : Int), .int .u64 (b : Int)] 24)).heap.size = w.heap.size + 1 := World.size_alloc _ _
  rw [es] at HM
  clear ha hb hc hd hb1 hb2 HN es hT
  go_enter Tryd.func3, Tryd.ntmps3
  go_wp2_with fail
  refine Calls.mono HAW.out ?_
  generalize (w.alloc (.cells #[.int .u64 (a : Int), .int .u64 (b : Int)] 24)).alloc (.cells #[.int .u64 (c : Int), .int .u64 (d : Int)] 24) = X0 at *
  rintro e X ⟨rfl, hbX⟩
  have HN2 := hid (HN2.out.later hbX HN2.out.lt)
  have HM := hid (HM.out.later hbX HM.out.lt)
  have HB0 := hid (b2 HB0.out hbX)
  clear hbX HAW
  go_wp2_with fail
  generalize hbn : w.heap.size = bn at *
  generalize hbm : bn + 1 = bm at *
  have HK : Hid (∀ V, Below X.heap.size X V → V.cell? ⟨bn, 0, none⟩ = some (.int .u64 (a : Int)) ∧ V.cell? ⟨bn, 1, none⟩ = some (.int .u64 (b : Int)) ∧ V.cell? ⟨bm, 0, none⟩ = some (.int .u64 (c : Int)) ∧ V.cell? ⟨bm, 1, none⟩ = some (.int .u64 (d : Int))) := fun V hv => by
    have n1 := HN2.out.later hv HN2.out.lt
    have m1 := HM.out.later hv HM.out.lt
    exact ⟨n1.cell 0, n1.cell 1, m1.cell 0, m1.cell 1⟩
  have hs0 := HK.out _ (Below.drew (Below.refl _ X))
  have HBR := hid (Below.drew (Below.refl X.heap.size X))
  have H1 : Hid (∀ ww, Below X.heap.size X ww → Calls Tryd.prog 7 #[.agg #[.int .u64 (a : Int), .int .u64 (b : Int)]] ww fun e w' => e = .returned (.complex .f64 a b) ∧ (w'.cell? ⟨bn, 0, none⟩ = some (.int .u64 (a : Int)) ∧ w'.cell? ⟨bn, 1, none⟩ = some (.int .u64 (b : Int)) ∧ w'.cell? ⟨bm, 0, none⟩ = some (.int .u64 (c : Int)) ∧ w'.cell? ⟨bm, 1, none⟩ = some (.int .u64 (d : Int))) ∧ Below X.heap.size X w') := fun ww hv => by
    refine Calls.mono (lawZ_any a b ww) ?_
    rintro e w' ⟨rfl, h⟩
    exact ⟨rfl, HK.out _ (b2 hv h), b2 hv h⟩
  have H2 : Hid (∀ ww, Below X.heap.size X ww → Calls Tryd.prog 7 #[.agg #[.int .u64 (c : Int), .int .u64 (d : Int)]] ww fun e w' => e = .returned (.complex .f64 c d) ∧ (w'.cell? ⟨bn, 0, none⟩ = some (.int .u64 (a : Int)) ∧ w'.cell? ⟨bn, 1, none⟩ = some (.int .u64 (b : Int)) ∧ w'.cell? ⟨bm, 0, none⟩ = some (.int .u64 (c : Int)) ∧ w'.cell? ⟨bm, 1, none⟩ = some (.int .u64 (d : Int))) ∧ Below X.heap.size X w') := fun ww hv => by
    refine Calls.mono (lawZ_any c d ww) ?_
    rintro e w' ⟨rfl, h⟩
    exact ⟨rfl, HK.out _ (b2 hv h), b2 hv h⟩
  clear HK HN2 HM
  go_region_held3 (fun V : World => V.cell? ⟨bn, 0, none⟩ = some (.int .u64 (a : Int)) ∧ V.cell? ⟨bn, 1, none⟩ = some (.int .u64 (b : Int)) ∧ V.cell? ⟨bm, 0, none⟩ = some (.int .u64 (c : Int)) ∧ V.cell? ⟨bm, 1, none⟩ = some (.int .u64 (d : Int))) (first | exact hs2 | exact hs1 | exact hs0)
    (first
      | (go_at_call 7; with_reducible refine Calls.mono (H2.out _ hb1) ?_; rintro e w3 ⟨rfl, hs2, hb2⟩)
      | (go_at_call 7; with_reducible refine Calls.mono (H1.out _ HBR.out) ?_; rintro e w2 ⟨rfl, hs1, hb1⟩))
  all_goals
    have HB0x : Hid (Below w.heap.size w X) := by rw [hbn]; exact HB0.out
    have HB := hid (b2 HB0x.out hb2)
    clear hs0 hs1 hs2 hb1 hb2 H1 H2 HBR HB0 HB0x
    go_wp2_with fail
    refine Calls.mono (zpMul_any a b c d _) ?_
    rintro e w4 ⟨r1, i1, rfl, m1, _, _, hb1⟩
    go_wp2_with fail
    refine Calls.mono (zpMul_any c d a b _) ?_
    rintro e w5 ⟨r2, i2, rfl, m2, _, _, hb2⟩
    have HA := hid (m1.swap m2)
    have HB := hid (b2 HB.out (b2 hb1 hb2))
    clear m1 m2 hb1 hb2
    go_wp2_with fail
    refine Calls.mono (zpSame_al _ _ _ _ _ HA.out.1 HA.out.2) ?_
    rintro e w6 ⟨rfl, rfl⟩
    clear HA
    go_wp2_with fail
    refine Calls.mono (zpConj_any a b _) ?_
    rintro e w7 ⟨rfl, rfl⟩
    go_wp2_with fail
    refine Calls.mono (zpConj_any a (fneg b) _) ?_
    rintro e w8 ⟨rfl, rfl⟩
    go_wp2_with fail
    refine Calls.mono (zpSame_back _ _ _ _ _ rfl (fneg_fneg b)) ?_
    rintro e w9 ⟨rfl, rfl⟩
    go_wp2_with fail
    refine Calls.mono (zpNeg_any a b _) ?_
    rintro e w10 ⟨rfl, rfl⟩
    go_wp2_with fail
    refine Calls.mono (zpNeg_any (fneg a) (fneg b) _) ?_
    rintro e w11 ⟨rfl, rfl⟩
    go_wp2_with fail
    refine Calls.mono (zpSame_back _ _ _ _ _ (fneg_fneg a) (fneg_fneg b)) ?_
    rintro e w12 ⟨rfl, rfl⟩
    go_wp2_with fail
    refine Calls.mono (zpMul_any a b c d _) ?_
    rintro e w13 ⟨r3, i3, rfl, m3, l3, k3, hb3⟩
    go_wp2_with fail
    refine Calls.mono (zpConj_any r3 i3 _) ?_
    rintro e w14 ⟨rfl, rfl⟩
    go_wp2_with fail
    refine Calls.mono (zpConj_any a b _) ?_
    rintro e w15 ⟨rfl, rfl⟩
    go_wp2_with fail
    refine Calls.mono (zpConj_any c d _) ?_
    rintro e w16 ⟨rfl, rfl⟩
    go_wp2_with fail
    refine Calls.mono (zpMul_any a (fneg b) c (fneg d) _) ?_
    rintro e w17 ⟨r4, i4, rfl, m4, l4, k4, hb4⟩
    have HB := hid (b2 HB.out (b2 hb3 hb4))
    have HC := hid (fun n1 n2 n3 n4 => m3.conj HAB.out.2 HCD.out.2 m4 n1 n2 n3 n4)
    have e1 := eq_self_nan r3
    have e2 := eq_self_neg k3
    have e3 := eq_self_nan r4
    have e4 := eq_self_nan i4
    clear hb3 hb4 m3 m4 l3 l4 k3 k4
    cases n1 : isnan r3
    case true =>
      rw [n1] at e1
      clear n1 HC e2 e3 e4
      have e2 : True := trivial
      have e3 : True := trivial
      have e4 : True := trivial
      go_wp2_with fail
      refine Calls.mono (zpAbs_any a b _ HAB.out.1 HAB.out.2) ?_
      rintro e w19 ⟨x, rfl, lx, ax, hb5⟩
      go_wp2_with fail
      refine Calls.mono (zpConj_any a b _) ?_
      rintro e w20 ⟨rfl, rfl⟩
      go_wp2_with fail
      refine Calls.mono (zpAbs_any a (fneg b) _ HAB.out.1 (fneg_lt HAB.out.2)) ?_
      rintro e w21 ⟨y, rfl, ly, ay, hb6⟩
      rw [fneg_mod HAB.out.2] at ay
      have HX := hid ax
      have HB := hid (b2 HB.out (b2 hb5 hb6))
      have HFI := hid (fun V => zpFinite_any a b V HAB.out.1 HAB.out.2)
      have hal := ax.al ay
      clear ax ay hb5 hb6 lx ly e1 e2 e3 e4
      cases nx : isnan x
      case false =>
        obtain rfl := not_nan_al hal nx
        have o1 : (FloatKind.f64.format.order x x != some .eq) = false := by rw [order_refl nx]; rfl
        clear hal
        cases fa : fin a && fin b
        case false =>
          rw [fa] at HFI
          clear fa nx
          go_wp2_with fail
          refine Calls.mono (HFI.out _) ?_
          rintro e w22 ⟨rfl, rfl⟩
          go_wp2_with fail
          go_ret
          exact ⟨rfl, HB.out⟩
        case true =>
          rw [fa] at HFI
          have fab : fin a = true ∧ fin b = true := by simpa using fa
          have HA := hid (fun V => mAbs_any a V HAB.out.1)
          have HA2 := hid (fun V => mAbs_any b V HAB.out.2)
          have HMX := hid (fun V => mMax_any _ _ V (fin_low fab.1) (fin_low fab.2))
          have HBT := hid (abs_between (fin_low fab.1) (fin_low fab.2) HX.out)
          generalize a % 9223372036854775808 = A at *
          generalize b % 9223372036854775808 = B at *
          generalize fmax A B = M at *
          clear fa fab nx HX
          go_wp2_with fail
          refine Calls.mono (HFI.out _) ?_
          rintro e w22 ⟨rfl, rfl⟩
          go_wp2_with fail
          refine Calls.mono (HA.out _) ?_
          rintro e w23 ⟨rfl, rfl⟩
          go_wp2_with fail
          refine Calls.mono (HA2.out _) ?_
          rintro e w24 ⟨rfl, rfl⟩
          go_wp2_with fail
          refine Calls.mono (HMX.out _) ?_
          rintro e w25 ⟨rfl, rfl⟩
          have rM := fmul_run Tryd.prog 31
          obtain ⟨t1, t2, t3⟩ := HBT.out
          obtain ⟨t4, t5⟩ := t2 _ (fval_fn .mul w25 4609434218613702656 M)
          have t6 : fwld .mul w25 4609434218613702656 M = w25 := fwld_same t5
          clear t2 t5 HBT HMX HA HA2 HFI
          go_wp2_with fail
          go_ret
          exact ⟨rfl, HB.out⟩
      case true =>
        have ny : isnan y = true := by rcases hal with rfl | ⟨_, h⟩ <;> assumption
        have o1 : (FloatKind.f64.format.order x y != some .eq) = true := by rw [order_nan_l nx]; rfl
        have o2 : (FloatKind.f64.format.order x x == some .eq) = false := by rw [order_nan_l nx]; rfl
        have o3 : (FloatKind.f64.format.order y y == some .eq) = false := by rw [order_nan_l ny]; rfl
        have fa : (fin a && fin b) = false := abs_nan HX.out nx
        rw [fa] at HFI
        clear hal fa nx ny HX
        go_wp2_with fail
        refine Calls.mono (HFI.out _) ?_
        rintro e w22 ⟨rfl, rfl⟩
        go_wp2_with fail
        go_ret
        exact ⟨rfl, HB.out⟩
    cases n2 : isnan i3
    case true =>
      rw [n1] at e1
      rw [n2] at e2
      clear n1 n2 HC e3 e4
      have e3 : True := trivial
      have e4 : True := trivial
      go_wp2_with fail
      refine Calls.mono (zpAbs_any a b _ HAB.out.1 HAB.out.2) ?_
      rintro e w19 ⟨x, rfl, lx, ax, hb5⟩
      go_wp2_with fail
      refine Calls.mono (zpConj_any a b _) ?_
      rintro e w20 ⟨rfl, rfl⟩
      go_wp2_with fail
      refine Calls.mono (zpAbs_any a (fneg b) _ HAB.out.1 (fneg_lt HAB.out.2)) ?_
      rintro e w21 ⟨y, rfl, ly, ay, hb6⟩
      rw [fneg_mod HAB.out.2] at ay
      have HX := hid ax
      have HB := hid (b2 HB.out (b2 hb5 hb6))
      have HFI := hid (fun V => zpFinite_any a b V HAB.out.1 HAB.out.2)
      have hal := ax.al ay
      clear ax ay hb5 hb6 lx ly e1 e2 e3 e4
      cases nx : isnan x
      case false =>
        obtain rfl := not_nan_al hal nx
        have o1 : (FloatKind.f64.format.order x x != some .eq) = false := by rw [order_refl nx]; rfl
        clear hal
        cases fa : fin a && fin b
        case false =>
          rw [fa] at HFI
          clear fa nx
          go_wp2_with fail
          refine Calls.mono (HFI.out _) ?_
          rintro e w22 ⟨rfl, rfl⟩
          go_wp2_with fail
          go_ret
          exact ⟨rfl, HB.out⟩
        case true =>
          rw [fa] at HFI
          have fab : fin a = true ∧ fin b = true := by simpa using fa
          have HA := hid (fun V => mAbs_any a V HAB.out.1)
          have HA2 := hid (fun V => mAbs_any b V HAB.out.2)
          have HMX := hid (fun V => mMax_any _ _ V (fin_low fab.1) (fin_low fab.2))
          have HBT := hid (abs_between (fin_low fab.1) (fin_low fab.2) HX.out)
          generalize a % 9223372036854775808 = A at *
          generalize b % 9223372036854775808 = B at *
          generalize fmax A B = M at *
          clear fa fab nx HX
          go_wp2_with fail
          refine Calls.mono (HFI.out _) ?_
          rintro e w22 ⟨rfl, rfl⟩
          go_wp2_with fail
          refine Calls.mono (HA.out _) ?_
          rintro e w23 ⟨rfl, rfl⟩
          go_wp2_with fail
          refine Calls.mono (HA2.out _) ?_
          rintro e w24 ⟨rfl, rfl⟩
          go_wp2_with fail
          refine Calls.mono (HMX.out _) ?_
          rintro e w25 ⟨rfl, rfl⟩
          have rM := fmul_run Tryd.prog 31
          obtain ⟨t1, t2, t3⟩ := HBT.out
          obtain ⟨t4, t5⟩ := t2 _ (fval_fn .mul w25 4609434218613702656 M)
          have t6 : fwld .mul w25 4609434218613702656 M = w25 := fwld_same t5
          clear t2 t5 HBT HMX HA HA2 HFI
          go_wp2_with fail
          go_ret
          exact ⟨rfl, HB.out⟩
      case true =>
        have ny : isnan y = true := by rcases hal with rfl | ⟨_, h⟩ <;> assumption
        have o1 : (FloatKind.f64.format.order x y != some .eq) = true := by rw [order_nan_l nx]; rfl
        have o2 : (FloatKind.f64.format.order x x == some .eq) = false := by rw [order_nan_l nx]; rfl
        have o3 : (FloatKind.f64.format.order y y == some .eq) = false := by rw [order_nan_l ny]; rfl
        have fa : (fin a && fin b) = false := abs_nan HX.out nx
        rw [fa] at HFI
        clear hal fa nx ny HX
        go_wp2_with fail
        refine Calls.mono (HFI.out _) ?_
        rintro e w22 ⟨rfl, rfl⟩
        go_wp2_with fail
        go_ret
        exact ⟨rfl, HB.out⟩
    cases n3 : isnan r4
    case true =>
      rw [n1] at e1
      rw [n2] at e2
      rw [n3] at e3
      clear n1 n2 n3 HC e4
      have e4 : True := trivial
      go_wp2_with fail
      refine Calls.mono (zpAbs_any a b _ HAB.out.1 HAB.out.2) ?_
      rintro e w19 ⟨x, rfl, lx, ax, hb5⟩
      go_wp2_with fail
      refine Calls.mono (zpConj_any a b _) ?_
      rintro e w20 ⟨rfl, rfl⟩
      go_wp2_with fail
      refine Calls.mono (zpAbs_any a (fneg b) _ HAB.out.1 (fneg_lt HAB.out.2)) ?_
      rintro e w21 ⟨y, rfl, ly, ay, hb6⟩
      rw [fneg_mod HAB.out.2] at ay
      have HX := hid ax
      have HB := hid (b2 HB.out (b2 hb5 hb6))
      have HFI := hid (fun V => zpFinite_any a b V HAB.out.1 HAB.out.2)
      have hal := ax.al ay
      clear ax ay hb5 hb6 lx ly e1 e2 e3 e4
      cases nx : isnan x
      case false =>
        obtain rfl := not_nan_al hal nx
        have o1 : (FloatKind.f64.format.order x x != some .eq) = false := by rw [order_refl nx]; rfl
        clear hal
        cases fa : fin a && fin b
        case false =>
          rw [fa] at HFI
          clear fa nx
          go_wp2_with fail
          refine Calls.mono (HFI.out _) ?_
          rintro e w22 ⟨rfl, rfl⟩
          go_wp2_with fail
          go_ret
          exact ⟨rfl, HB.out⟩
        case true =>
          rw [fa] at HFI
          have fab : fin a = true ∧ fin b = true := by simpa using fa
          have HA := hid (fun V => mAbs_any a V HAB.out.1)
          have HA2 := hid (fun V => mAbs_any b V HAB.out.2)
          have HMX := hid (fun V => mMax_any _ _ V (fin_low fab.1) (fin_low fab.2))
          have HBT := hid (abs_between (fin_low fab.1) (fin_low fab.2) HX.out)
          generalize a % 9223372036854775808 = A at *
          generalize b % 9223372036854775808 = B at *
          generalize fmax A B = M at *
          clear fa fab nx HX
          go_wp2_with fail
          refine Calls.mono (HFI.out _) ?_
          rintro e w22 ⟨rfl, rfl⟩
          go_wp2_with fail
          refine Calls.mono (HA.out _) ?_
          rintro e w23 ⟨rfl, rfl⟩
          go_wp2_with fail
          refine Calls.mono (HA2.out _) ?_
          rintro e w24 ⟨rfl, rfl⟩
          go_wp2_with fail
          refine Calls.mono (HMX.out _) ?_
          rintro e w25 ⟨rfl, rfl⟩
          have rM := fmul_run Tryd.prog 31
          obtain ⟨t1, t2, t3⟩ := HBT.out
          obtain ⟨t4, t5⟩ := t2 _ (fval_fn .mul w25 4609434218613702656 M)
          have t6 : fwld .mul w25 4609434218613702656 M = w25 := fwld_same t5
          clear t2 t5 HBT HMX HA HA2 HFI
          go_wp2_with fail
          go_ret
          exact ⟨rfl, HB.out⟩
      case true =>
        have ny : isnan y = true := by rcases hal with rfl | ⟨_, h⟩ <;> assumption
        have o1 : (FloatKind.f64.format.order x y != some .eq) = true := by rw [order_nan_l nx]; rfl
        have o2 : (FloatKind.f64.format.order x x == some .eq) = false := by rw [order_nan_l nx]; rfl
        have o3 : (FloatKind.f64.format.order y y == some .eq) = false := by rw [order_nan_l ny]; rfl
        have fa : (fin a && fin b) = false := abs_nan HX.out nx
        rw [fa] at HFI
        clear hal fa nx ny HX
        go_wp2_with fail
        refine Calls.mono (HFI.out _) ?_
        rintro e w22 ⟨rfl, rfl⟩
        go_wp2_with fail
        go_ret
        exact ⟨rfl, HB.out⟩
    cases n4 : isnan i4
    case true =>
      rw [n1] at e1
      rw [n2] at e2
      rw [n3] at e3
      rw [n4] at e4
      clear n1 n2 n3 n4 HC
      go_wp2_with fail
      refine Calls.mono (zpAbs_any a b _ HAB.out.1 HAB.out.2) ?_
      rintro e w19 ⟨x, rfl, lx, ax, hb5⟩
      go_wp2_with fail
      refine Calls.mono (zpConj_any a b _) ?_
      rintro e w20 ⟨rfl, rfl⟩
      go_wp2_with fail
      refine Calls.mono (zpAbs_any a (fneg b) _ HAB.out.1 (fneg_lt HAB.out.2)) ?_
      rintro e w21 ⟨y, rfl, ly, ay, hb6⟩
      rw [fneg_mod HAB.out.2] at ay
      have HX := hid ax
      have HB := hid (b2 HB.out (b2 hb5 hb6))
      have HFI := hid (fun V => zpFinite_any a b V HAB.out.1 HAB.out.2)
      have hal := ax.al ay
      clear ax ay hb5 hb6 lx ly e1 e2 e3 e4
      cases nx : isnan x
      case false =>
        obtain rfl := not_nan_al hal nx
        have o1 : (FloatKind.f64.format.order x x != some .eq) = false := by rw [order_refl nx]; rfl
        clear hal
        cases fa : fin a && fin b
        case false =>
          rw [fa] at HFI
          clear fa nx
          go_wp2_with fail
          refine Calls.mono (HFI.out _) ?_
          rintro e w22 ⟨rfl, rfl⟩
          go_wp2_with fail
          go_ret
          exact ⟨rfl, HB.out⟩
        case true =>
          rw [fa] at HFI
          have fab : fin a = true ∧ fin b = true := by simpa using fa
          have HA := hid (fun V => mAbs_any a V HAB.out.1)
          have HA2 := hid (fun V => mAbs_any b V HAB.out.2)
          have HMX := hid (fun V => mMax_any _ _ V (fin_low fab.1) (fin_low fab.2))
          have HBT := hid (abs_between (fin_low fab.1) (fin_low fab.2) HX.out)
          generalize a % 9223372036854775808 = A at *
          generalize b % 9223372036854775808 = B at *
          generalize fmax A B = M at *
          clear fa fab nx HX
          go_wp2_with fail
          refine Calls.mono (HFI.out _) ?_
          rintro e w22 ⟨rfl, rfl⟩
          go_wp2_with fail
          refine Calls.mono (HA.out _) ?_
          rintro e w23 ⟨rfl, rfl⟩
          go_wp2_with fail
          refine Calls.mono (HA2.out _) ?_
          rintro e w24 ⟨rfl, rfl⟩
          go_wp2_with fail
          refine Calls.mono (HMX.out _) ?_
          rintro e w25 ⟨rfl, rfl⟩
          have rM := fmul_run Tryd.prog 31
          obtain ⟨t1, t2, t3⟩ := HBT.out
          obtain ⟨t4, t5⟩ := t2 _ (fval_fn .mul w25 4609434218613702656 M)
          have t6 : fwld .mul w25 4609434218613702656 M = w25 := fwld_same t5
          clear t2 t5 HBT HMX HA HA2 HFI
          go_wp2_with fail
          go_ret
          exact ⟨rfl, HB.out⟩
      case true =>
        have ny : isnan y = true := by rcases hal with rfl | ⟨_, h⟩ <;> assumption
        have o1 : (FloatKind.f64.format.order x y != some .eq) = true := by rw [order_nan_l nx]; rfl
        have o2 : (FloatKind.f64.format.order x x == some .eq) = false := by rw [order_nan_l nx]; rfl
        have o3 : (FloatKind.f64.format.order y y == some .eq) = false := by rw [order_nan_l ny]; rfl
        have fa : (fin a && fin b) = false := abs_nan HX.out nx
        rw [fa] at HFI
        clear hal fa nx ny HX
        go_wp2_with fail
        refine Calls.mono (HFI.out _) ?_
        rintro e w22 ⟨rfl, rfl⟩
        go_wp2_with fail
        go_ret
        exact ⟨rfl, HB.out⟩
    rw [n1] at e1
    rw [n2] at e2
    rw [n3] at e3
    rw [n4] at e4
    have HEQ := hid (fun V => zpEqual_true V (HC.out n1 n2 n3 n4).1 (HC.out n1 n2 n3 n4).2)
    clear n1 n2 n3 n4 HC
    go_wp2_with fail
    refine Calls.mono (HEQ.out _) ?_
    rintro e w18 ⟨rfl, rfl⟩
    clear HEQ
    go_wp2_with fail
    refine Calls.mono (zpAbs_any a b _ HAB.out.1 HAB.out.2) ?_
    rintro e w19 ⟨x, rfl, lx, ax, hb5⟩
    go_wp2_with fail
    refine Calls.mono (zpConj_any a b _) ?_
    rintro e w20 ⟨rfl, rfl⟩
    go_wp2_with fail
    refine Calls.mono (zpAbs_any a (fneg b) _ HAB.out.1 (fneg_lt HAB.out.2)) ?_
    rintro e w21 ⟨y, rfl, ly, ay, hb6⟩
    rw [fneg_mod HAB.out.2] at ay
    have HX := hid ax
    have HB := hid (b2 HB.out (b2 hb5 hb6))
    have HFI := hid (fun V => zpFinite_any a b V HAB.out.1 HAB.out.2)
    have hal := ax.al ay
    clear ax ay hb5 hb6 lx ly e1 e2 e3 e4
    cases nx : isnan x
    case false =>
      obtain rfl := not_nan_al hal nx
      have o1 : (FloatKind.f64.format.order x x != some .eq) = false := by rw [order_refl nx]; rfl
      clear hal
      cases fa : fin a && fin b
      case false =>
        rw [fa] at HFI
        clear fa nx
        go_wp2_with fail
        refine Calls.mono (HFI.out _) ?_
        rintro e w22 ⟨rfl, rfl⟩
        go_wp2_with fail
        go_ret
        exact ⟨rfl, HB.out⟩
      case true =>
        rw [fa] at HFI
        have fab : fin a = true ∧ fin b = true := by simpa using fa
        have HA := hid (fun V => mAbs_any a V HAB.out.1)
        have HA2 := hid (fun V => mAbs_any b V HAB.out.2)
        have HMX := hid (fun V => mMax_any _ _ V (fin_low fab.1) (fin_low fab.2))
        have HBT := hid (abs_between (fin_low fab.1) (fin_low fab.2) HX.out)
        generalize a % 9223372036854775808 = A at *
        generalize b % 9223372036854775808 = B at *
        generalize fmax A B = M at *
        clear fa fab nx HX
        go_wp2_with fail
        refine Calls.mono (HFI.out _) ?_
        rintro e w22 ⟨rfl, rfl⟩
        go_wp2_with fail
        refine Calls.mono (HA.out _) ?_
        rintro e w23 ⟨rfl, rfl⟩
        go_wp2_with fail
        refine Calls.mono (HA2.out _) ?_
        rintro e w24 ⟨rfl, rfl⟩
        go_wp2_with fail
        refine Calls.mono (HMX.out _) ?_
        rintro e w25 ⟨rfl, rfl⟩
        have rM := fmul_run Tryd.prog 31
        obtain ⟨t1, t2, t3⟩ := HBT.out
        obtain ⟨t4, t5⟩ := t2 _ (fval_fn .mul w25 4609434218613702656 M)
        have t6 : fwld .mul w25 4609434218613702656 M = w25 := fwld_same t5
        clear t2 t5 HBT HMX HA HA2 HFI
        go_wp2_with fail
        go_ret
        exact ⟨rfl, HB.out⟩
    case true =>
      have ny : isnan y = true := by rcases hal with rfl | ⟨_, h⟩ <;> assumption
      have o1 : (FloatKind.f64.format.order x y != some .eq) = true := by rw [order_nan_l nx]; rfl
      have o2 : (FloatKind.f64.format.order x x == some .eq) = false := by rw [order_nan_l nx]; rfl
      have o3 : (FloatKind.f64.format.order y y == some .eq) = false := by rw [order_nan_l ny]; rfl
      have fa : (fin a && fin b) = false := abs_nan HX.out nx
      rw [fa] at HFI
      clear hal fa nx ny HX
      go_wp2_with fail
      refine Calls.mono (HFI.out _) ?_
      rintro e w22 ⟨rfl, rfl⟩
      go_wp2_with fail
      go_ret
      exact ⟨rfl, HB.out⟩

end Go.Proofs.YtoinchnlbmaafaaDoor

