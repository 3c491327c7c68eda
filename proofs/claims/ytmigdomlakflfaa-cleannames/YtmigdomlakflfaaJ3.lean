/- My texts on the way to CleanNames, one behind the other: contracts of the program and of the document's answers. -/
import Derived.Test.YtmigdomlakflfaaJ1
import Derived.Test.YtmigdomlakflfaaJ2
import Derived.Deep.RegionHeld3
import Derived.BigQuiet
import Derived.BigRegion
import Derived.Deep.OwnRows
/- Lists of lists of samples of one's own; what two Merges tell of lists that are alike. -/
namespace Go.Proofs.Ytmigdomlakflfaa
open Go.RowKit
set_option linter.unusedVariables false
set_option linter.unusedSimpArgs false

theorem own_unlike {w : World} {b1 b2 e1 e2 s1 s2 n1 n2 : Nat} {v1 v2 : Value} {x1 x2 : List Value} (h : w.ownsRow b1 e1 s1 v1 n1 x1) (g : w.ownsRow b2 e2 s2 v2 n2 x2) (hne : e1 ≠ e2) : v1.ownBlock = none ∨ v1.ownBlock ≠ v2.ownBlock := by
  rcases h.2 with ⟨rfl, _⟩ | ⟨g1, c1, cur1, rfl, _, hh1, _⟩
  · exact .inl rfl
  · rcases g.2 with ⟨rfl, _⟩ | ⟨g2, c2, cur2, rfl, _, hh2, _⟩
    · exact .inr (by simp [Value.ownBlock])
    · refine .inr (fun e => ?_)
      simp only [Value.ownBlock, Option.some.injEq] at e
      subst e
      rw [hh1] at hh2
      injection hh2 with hh2
      injection hh2 with _ h3
      exact hne h3
/-- Lists of one's own, each with so much behind it. -/
def CqO (W : World) (B : Nat) (m : List (Int × Nat)) (Q : List LsI) : Prop := ∀ q ∈ Q, W.ownsRow B 32 2 (.slice q.a (q.xs.length + m.length) q.cap) (q.xs.length + m.length) (smC (q.xs ++ m))
theorem CqO.later {W W' : World} {B : Nat} {m : List (Int × Nat)} {Q : List LsI} (h : CqO W B m Q) (hb : Below W.heap.size W W') : CqO W' B m Q := fun q hq => yowns_later (h q hq) hb
theorem CqO.kept {W W' : World} {B b e s n : Nat} {m : List (Int × Nat)} {Q : List LsI} {v : Value} {xs : List Value} (h : CqO W B m Q) (hv : W.ownsRow b e s v n xs) (he : 32 ≠ e) (hg : W.grownBy W' v.ownBlock) : CqO W' B m Q := fun q hq => (h q hq).kept hg (own_unlike (h q hq) hv he)
/-- The values of lists of one's own: whole, and cut. -/
def fullV (Q : List LsI) : List Value := Q.map fun q => .slice q.a (q.xs.length + 3) q.cap
def cutV (Q : List LsI) : List Value := Q.map fun q => .slice q.a q.xs.length q.cap
theorem cutV_snoc (Q : List LsI) (q : LsI) : cutV (Q ++ [q]) = cutV Q ++ [.slice q.a q.xs.length q.cap] := by unfold cutV; rw [List.map_append]; rfl
theorem cutV_at {Q : List LsI} {k : Nat} (h : k < Q.length) : (cutV Q)[k]? = some (.slice (Q[k]).a (Q[k]).xs.length (Q[k]).cap) := by
  unfold cutV
  rw [List.getElem?_map, List.getElem?_eq_getElem h]; rfl
/-- Two rows of lists that grow side by side, and the lists themselves. -/
structure CqS (w : World) (Q0 Q1 Q2 : List LsI) (v u : Value) (W : World) : Prop where
  bel : Below w.heap.size w W
  own : CqO W w.heap.size (smarks 3) Q0
  fst : W.ownsRow w.heap.size 25 1 v Q1.length (fullV Q1)
  snd : W.ownsRow w.heap.size 25 1 u Q2.length (cutV Q2)
  ne : v.ownBlock = none ∨ v.ownBlock ≠ u.ownBlock
theorem CqS.nil (w : World) {W : World} (h : Below w.heap.size w W) : CqS w [] [] [] (.slice none 0 0) (.slice none 0 0) W := ⟨h, (fun q hq => by cases hq), World.ownsRow_nil _ _ _ _, World.ownsRow_nil _ _ _ _, .inl rfl⟩
theorem CqS.later {w W W' : World} {Q0 Q1 Q2 : List LsI} {v u : Value} (h : CqS w Q0 Q1 Q2 v u W) (hb : Below W.heap.size W W') : CqS w Q0 Q1 Q2 v u W' := ⟨ybt' h.bel hb, h.own.later hb, yowns_later h.fst hb, yowns_later h.snd hb, h.ne⟩
theorem CqS.add {w W W' : World} {Q0 Q1 Q2 : List LsI} {v u : Value} (h : CqS w Q0 Q1 Q2 v u W) (hb : Below W.heap.size W W') {q : LsI} (hq : W'.ownsRow W.heap.size 32 2 (.slice q.a (q.xs.length + 3) q.cap) (q.xs.length + 3) (smC (q.xs ++ smarks 3))) : CqS w (Q0 ++ [q]) Q1 Q2 v u W' := by
  have h2 := h.later hb
  refine ⟨h2.bel, fun p hp => ?_, h2.fst, h2.snd, h2.ne⟩
  rcases List.mem_append.1 hp with hp | hp
  · exact h2.own p hp
  · rw [List.mem_singleton.1 hp]
    exact yowns_base hq h.bel.size
theorem CqS.ne' {w W : World} {Q0 Q1 Q2 : List LsI} {v u : Value} (h : CqS w Q0 Q1 Q2 v u W) : u.ownBlock = none ∨ u.ownBlock ≠ v.ownBlock := by
  rcases h.ne with h | h
  · rw [h]
    cases u.ownBlock with
    | none => exact .inl rfl
    | some x => exact .inr (by simp)
  · exact .inr (fun e => h e.symm)
theorem CqS.one {w W W' : World} {Q0 Q1 Q2 Q3 : List LsI} {v u v' : Value} (h : CqS w Q0 Q1 Q2 v u W) (o : W'.ownsRow w.heap.size 25 1 v' Q3.length (fullV Q3)) (hg : W.grownBy W' v.ownBlock) (ha : v'.ownBlock = v.ownBlock ∨ v'.ownBlock = some W.heap.size) : CqS w Q0 Q3 Q2 v' u W' := by
  refine ⟨h.bel.grown hg h.bel.size (fun q e => (h.fst.lt q e).1), h.own.kept h.fst (by decide) hg, o, h.snd.kept hg h.ne', ?_⟩
  rcases ha with ha | ha
  · rw [ha]; exact h.ne
  · right
    rw [ha]
    intro e
    have := (h.snd.lt _ e.symm).2
    omega
theorem CqS.two {w W W' : World} {Q0 Q1 Q2 Q3 : List LsI} {v u u' : Value} (h : CqS w Q0 Q1 Q2 v u W) (o : W'.ownsRow w.heap.size 25 1 u' Q3.length (cutV Q3)) (hg : W.grownBy W' u.ownBlock) (ha : u'.ownBlock = u.ownBlock ∨ u'.ownBlock = some W.heap.size) : CqS w Q0 Q1 Q3 v u' W' := by
  refine ⟨h.bel.grown hg h.bel.size (fun q e => (h.snd.lt q e).1), h.own.kept h.snd (by decide) hg, h.fst.kept hg h.ne, o, ?_⟩
  rcases ha with ha | ha
  · rw [ha]; exact h.ne
  · right
    rw [ha]
    intro e
    have := (h.fst.lt _ e).2
    omega
/-- Lists that hold the same. -/
def CqK (ls Q : List LsI) : Prop := Q.map (·.xs) = ls.map (·.xs)
theorem chkF_same : ∀ (ls Q : List LsI) (i : Nat), CqK ls Q → chkF i Q = chkF i ls
  | [], [], _, _ => rfl
  | [], q :: r, _, h => by cases h
  | p :: s, [], _, h => by cases h
  | p :: s, q :: r, i, h => by
    unfold CqK at h
    rw [List.map_cons, List.map_cons] at h
    injection h with h1 h2
    unfold chkF
    rw [h1, chkF_same s r (i + 1) h2]
theorem chkL_same {ls Q : List LsI} (h : CqK ls Q) : chkL Q = chkL ls := by
  have hl : Q.length = ls.length := by have := congrArg List.length h; simpa using this
  unfold chkL
  rw [hl, chkF_same ls Q 0 h]
theorem flatS_same {ls Q : List LsI} (h : CqK ls Q) : flatS Q = flatS ls := by
  unfold flatS
  rw [List.flatMap_def, List.flatMap_def]
  exact congrArg List.flatten h
theorem cfault_same (e i : Int) (w : World) : (Op.equalIn 10000 28 (.agg #[.int .i64 e, .int .i64 i]) (.agg #[.int .i64 e, .int .i64 i])).run Try.prog w = .ok true w := by
  have u1 := Try.underlying3
  have u2 := Try.underlying26
  have hS : Try.prog.underlying 28 = some (.struct (Try.prog.fieldsOf 28)) := by kernel_rfl
  rw [show (10000 : Nat) = 9999 + 1 from rfl, run_equalIn_agg w 9999 28 _ _ hS (by kernel_rfl)]
  simp only [Program.fieldsOf, Try.underlying28]
  go_simp
theorem MeanT.ok {S : List Nat} {r : Nat} (h : MeanT S r 0) : isone r = true ∧ r < 18446744073709551616 := by
  rcases h with ⟨_, rfl, _⟩ | ⟨_, m, hm, ⟨h1, rfl, _⟩ | ⟨_, _, h2⟩⟩
  · exact ⟨by decide, by decide⟩
  · exact ⟨h1, hm.1⟩
  · cases h2
theorem MgC.rows {ls Q : List LsI} {e f i j : Int} {v u : Value} {W V : World} {b1 b2 : Nat} (hl : CqK ls Q) (h : MgC Q e i v (fun O => W.ownsRow b1 32 2 v O.length (smC O))) (g : MgC ls f j u (fun O => V.ownsRow b2 32 2 u O.length (smC O))) :
    e = f ∧ i = j ∧ ∃ M : List (Int × Nat), M.length ≤ 4096 ∧ (∀ p ∈ M, isone p.2 = true ∧ p.2 < 18446744073709551616) ∧ W.ownsRow b1 32 2 v M.length (smC M) ∧ V.ownsRow b2 32 2 u M.length (smC M) := by
  have nil : ∀ (X : World) (b : Nat), X.ownsRow b 32 2 (.slice none 0 0) ([] : List (Int × Nat)).length (smC []) := fun X b => World.ownsRow_nil _ _ _ _
  have none : v = .slice none 0 0 → u = .slice none 0 0 → ∃ M : List (Int × Nat), M.length ≤ 4096 ∧ (∀ p ∈ M, isone p.2 = true ∧ p.2 < 18446744073709551616) ∧ W.ownsRow b1 32 2 v M.length (smC M) ∧ V.ownsRow b2 32 2 u M.length (smC M) := fun h1 h2 => ⟨[], by simp, by simp, by rw [h1]; exact nil _ _, by rw [h2]; exact nil _ _⟩
  unfold MgC at h g
  rw [chkL_same hl, flatS_same hl] at h
  rcases h with ⟨h1, h2, h3⟩ | ⟨h1, h2, h3, h4, h5⟩ | ⟨h1, O, h2, h3⟩
  · rcases g with ⟨g1, g2, g3⟩ | ⟨g1, _⟩ | ⟨g1, _⟩
    · have q := h2.trans g2.symm
      injection q with q1 q2
      exact ⟨q1, q2, none h3 g3⟩
    · exact absurd g1 h1
    · exact absurd g1 h1
  · rcases g with ⟨g1, _⟩ | ⟨g1, g2, g3, g4, g5⟩ | ⟨g1, O2, g2, g3⟩
    · exact absurd h1 g1
    · exact ⟨by rw [h3, g3], by rw [h4, g4], none h5 g5⟩
    · exact absurd h2 (fun q => g2.no q)
  · rcases g with ⟨g1, _⟩ | ⟨g1, g2, g3, g4, g5⟩ | ⟨g1, O2, g2, g3⟩
    · exact absurd h1 g1
    · exact absurd g2 (fun q => h2.no q)
    · have e1 : O = O2 := h2.one g2
      subst e1
      rcases h3 with ⟨h3, h4, h5, h6⟩ | ⟨h3, h4, h5, h6⟩
      · rcases g3 with ⟨g3, g4, g5, g6⟩ | ⟨g3, g4, g5, g6⟩
        · exact ⟨by rw [h4, g4], by rw [h5, g5], none h6 g6⟩
        · omega
      · rcases g3 with ⟨g3, g4, g5, g6⟩ | ⟨g3, g4, g5, g6⟩
        · omega
        · exact ⟨by rw [h4, g4], by rw [h5, g5], O, h3, fun p hp => (h2.mean p hp).2.ok, h6, g6⟩
end Go.Proofs.Ytmigdomlakflfaa

/- The law's apart, of any lists: an answer is written over, all others stay. -/
namespace Go.Proofs.Ytmigdomlakflfaa
open Go.RowKit
set_option linter.unusedVariables false
set_option linter.unusedSimpArgs false

/-- Copies of the first lists, and their row. -/
structure CqP (w1 : World) (k : Nat) (v : Value) (P : List LsI) (W : World) : Prop where
  bel : Below w1.heap.size w1 W
  len : P.length = k
  own : CqO W w1.heap.size [] P
  row : W.ownsRow w1.heap.size 25 1 v k (cutV P)
theorem CqP.nil (w1 : World) : CqP w1 0 (.slice none 0 0) [] w1 := ⟨Below.refl _ _, rfl, (fun q hq => by cases hq), World.ownsRow_nil _ _ _ _⟩
theorem CqP.more {w1 W W2 W3 : World} {k : Nat} {v v3 : Value} {P : List LsI} (h : CqP w1 k v P W) (hb : Below W.heap.size W W2) {q : LsI} (hq : W2.ownsRow W.heap.size 32 2 (.slice q.a q.xs.length q.cap) q.xs.length (smC q.xs)) {o : Obj}
    (hr : W3.ownsRow w1.heap.size 25 1 v3 (k + 1) (cutV P ++ [.slice q.a q.xs.length q.cap])) (hg : (W2.alloc o).grownBy W3 v.ownBlock) : CqP w1 (k + 1) v3 (P ++ [q]) W3 := by
  have hA : Below W2.heap.size W2 (W2.alloc o) := (Below.refl _ _).alloc (Nat.le_refl _) _
  have hbA := ybt' hb hA
  have hrow := yowns_later h.row hbA
  refine ⟨?_, by rw [List.length_append, h.len]; rfl, fun p hp => ?_, by rw [cutV_snoc]; exact hr⟩
  · exact (ybt' h.bel hbA).grown hg (ybt' h.bel hbA).size (fun g e => (hrow.lt g e).1)
  · have key : ∀ r : LsI, (W2.alloc o).ownsRow w1.heap.size 32 2 (.slice r.a (r.xs.length + ([] : List (Int × Nat)).length) r.cap) (r.xs.length + ([] : List (Int × Nat)).length) (smC (r.xs ++ [])) → W3.ownsRow w1.heap.size 32 2 (.slice r.a (r.xs.length + ([] : List (Int × Nat)).length) r.cap) (r.xs.length + ([] : List (Int × Nat)).length) (smC (r.xs ++ [])) := fun r hr2 => hr2.kept hg (own_unlike hr2 hrow (by decide))
    rcases List.mem_append.1 hp with hp | hp
    · exact key p (yowns_later (h.own p hp) hbA)
    · rw [List.mem_singleton.1 hp]
      refine key q ?_
      rw [List.append_nil]
      exact yowns_base (yowns_later hq hA) h.bel.size
theorem CqP.get {w1 W : World} {k : Nat} {v : Value} {P : List LsI} (h : CqP w1 k v P W) {q : LsI} (hq : q ∈ P) : RdV W q.a (smC q.xs) ∧ ∀ g, q.a = some ⟨g, 0, none⟩ → w1.heap.size ≤ g ∧ g < W.heap.size := by
  have hr := h.own q hq
  rw [List.append_nil] at hr
  obtain ⟨a, c, e, hv, _, hg⟩ := eshape hr
  injection e with e1 _ _
  rw [e1]
  exact ⟨hv, hg⟩
end Go.Proofs.Ytmigdomlakflfaa

/- Some lists of samples that came in: each no longer than the bulk. -/
namespace Go.Proofs.Ytmigdomlakflfaa
open Go.RowKit Go.ChangeShapes Go.WideShapes Go.Deep Go.Joins
set_option linter.unusedVariables false

end Go.Proofs.Ytmigdomlakflfaa

/- The law CleanMerge answers true, whatever lists come in. -/
namespace Go.Proofs.Ytmigdomlakflfaa
open Go.RowKit
set_option linter.unusedVariables false
set_option linter.unusedSimpArgs false

theorem CqK.more {ls Q : List LsI} {k : Nat} (h : CqK (ls.take k) Q) (hk : k < ls.length) {q : LsI} (hq : q.xs = (ls[k]).xs) : CqK (ls.take (k + 1)) (Q ++ [q]) := by
  unfold CqK at h ⊢
  rw [List.take_succ_eq_append_getElem hk, List.map_append, List.map_append, h, List.map_cons, List.map_cons, hq]
theorem CqK.at {ls Q : List LsI} (h : CqK ls Q) {k : Nat} (h1 : k < ls.length) (h2 : k < Q.length) : (Q[k]).xs = (ls[k]).xs := by
  have q := congrArg (fun l : List (List (Int × Nat)) => l[k]?) h
  rw [List.getElem?_map, List.getElem?_map, List.getElem?_eq_getElem h1, List.getElem?_eq_getElem h2] at q
  simpa using q
theorem CqK.len {ls Q : List LsI} (h : CqK ls Q) : Q.length = ls.length := by have := congrArg List.length h; simpa using this
theorem CqK.all {ls Q : List LsI} (h : CqK ls Q) {P : List (Int × Nat) → Prop} (hp : ∀ p ∈ ls, P p.xs) : ∀ q ∈ Q, P q.xs := fun q hq => by
  have : q.xs ∈ Q.map (·.xs) := List.mem_map.2 ⟨q, hq, rfl⟩
  rw [h] at this
  obtain ⟨p, hpp, e⟩ := List.mem_map.1 this
  rw [← e]
  exact hp p hpp
/-- What comes of lists: the fault, and what is gathered. -/
def MgO (F : List (Int × Nat)) (c : Int × Int) (er ix : Int) (M : List (Int × Nat)) : Prop :=
  (c ≠ (0, 0) ∧ (er, ix) = c ∧ M = []) ∨ (c = (0, 0) ∧ MrX F ∧ er = 9 ∧ ix = -1 ∧ M = []) ∨
  (c = (0, 0) ∧ ∃ O, MrA F O ∧ ((4096 < O.length ∧ er = 3 ∧ ix = -1 ∧ M = []) ∨ (O.length ≤ 4096 ∧ er = 0 ∧ ix = 0 ∧ M = O)))
theorem MgO.one {F : List (Int × Nat)} {c : Int × Int} {e i f j : Int} {M N : List (Int × Nat)} (h : MgO F c e i M) (g : MgO F c f j N) : e = f ∧ i = j ∧ M = N := by
  rcases h with ⟨h1, h2, h3⟩ | ⟨h1, h2, h3, h4, h5⟩ | ⟨h1, O, h2, h3⟩
  · rcases g with ⟨g1, g2, g3⟩ | ⟨g1, _⟩ | ⟨g1, _⟩
    · have q := h2.trans g2.symm
      injection q with q1 q2
      exact ⟨q1, q2, by rw [h3, g3]⟩
    · exact absurd g1 h1
    · exact absurd g1 h1
  · rcases g with ⟨g1, _⟩ | ⟨g1, g2, g3, g4, g5⟩ | ⟨g1, O2, g2, g3⟩
    · exact absurd h1 g1
    · exact ⟨by rw [h3, g3], by rw [h4, g4], by rw [h5, g5]⟩
    · exact absurd h2 (fun q => g2.no q)
  · rcases g with ⟨g1, _⟩ | ⟨g1, g2, g3, g4, g5⟩ | ⟨g1, O2, g2, g3⟩
    · exact absurd h1 g1
    · exact absurd g2 (fun q => h2.no q)
    · have e1 : O = O2 := h2.one g2
      subst e1
      rcases h3 with ⟨h3, h4, h5, h6⟩ | ⟨h3, h4, h5, h6⟩
      · rcases g3 with ⟨g3, g4, g5, g6⟩ | ⟨g3, g4, g5, g6⟩
        · exact ⟨by rw [h4, g4], by rw [h5, g5], by rw [h6, g6]⟩
        · omega
      · rcases g3 with ⟨g3, g4, g5, g6⟩ | ⟨g3, g4, g5, g6⟩
        · omega
        · exact ⟨by rw [h4, g4], by rw [h5, g5], by rw [h6, g6]⟩
theorem MgC.of {ls : List LsI} {e i : Int} {v : Value} {W : World} {b : Nat} (h : MgC ls e i v (fun O => W.ownsRow b 32 2 v O.length (smC O))) :
    ∃ M, MgO (flatS ls) (chkL ls) e i M ∧ M.length ≤ 4096 ∧ (∀ p ∈ M, isone p.2 = true ∧ p.2 < 18446744073709551616) ∧ W.ownsRow b 32 2 v M.length (smC M) := by
  have nil : v = .slice none 0 0 → W.ownsRow b 32 2 v ([] : List (Int × Nat)).length (smC []) := fun e => by rw [e]; exact World.ownsRow_nil _ _ _ _
  rcases h with ⟨h1, h2, h3⟩ | ⟨h1, h2, h3, h4, h5⟩ | ⟨h1, O, h2, ⟨h3, h4, h5, h6⟩ | ⟨h3, h4, h5, h6⟩⟩
  · exact ⟨[], .inl ⟨h1, h2, rfl⟩, by simp, by simp, nil h3⟩
  · exact ⟨[], .inr (.inl ⟨h1, h2, h3, h4, rfl⟩), by simp, by simp, nil h5⟩
  · exact ⟨[], .inr (.inr ⟨h1, O, h2, .inl ⟨h3, h4, h5, rfl⟩⟩), by simp, by simp, nil h6⟩
  · exact ⟨O, .inr (.inr ⟨h1, O, h2, .inr ⟨h3, h4, h5, rfl⟩⟩), h3, fun p hp => (h2.mean p hp).2.ok, h6⟩
end Go.Proofs.Ytmigdomlakflfaa

/- The law's turned: lists in another order, each with its samples in another one. -/
namespace Go.Proofs.Ytmigdomlakflfaa
open Go.RowKit
set_option linter.unusedVariables false
set_option linter.unusedSimpArgs false

theorem ownsSetS {w : World} {base e s g cap n : Nat} {xs : List Value} (h : w.ownsRow base e s (.slice (some ⟨g, 0, none⟩) n cap) n xs) (k : Nat) (v : Value) : (w.setCell ⟨g, k, none⟩ v).ownsRow base e s (.slice (some ⟨g, 0, none⟩) n cap) n (xs.set k v) := by
  obtain ⟨h0, h1⟩ := h
  rcases h1 with ⟨h1, _⟩ | ⟨g', cap', cur, h1, h2, h3, h4, h5, h6, h7⟩
  · cases h1
  · injection h1 with e1 e2 e3
    injection e1 with e1
    injection e1 with e1
    subst e1 e3
    refine ⟨by rw [List.length_set]; exact h0, .inr ⟨g, cap, cur.setIfInBounds k v, rfl, h2, ?_, h4, h5, by simpa using h6, ?_⟩⟩
    · exact heap_setCell_same w g k cur e v h3
    · rw [← h7]
      simp [List.take_set]
theorem smC_set (xs : List (Int × Nat)) (k : Nat) (p : Int × Nat) : smC (xs.set k p) = ((smC xs).set (k * 2) (.int .i64 p.1)).set (k * 2 + 1) (.float .f64 p.2) := by
  induction xs generalizing k with
  | nil => rfl
  | cons y r ih =>
    cases k with
    | zero => rfl
    | succ k =>
      have e : smC ((y :: r).set (k + 1) p) = .int .i64 y.1 :: .float .f64 y.2 :: smC (r.set k p) := rfl
      rw [e, ih k]
      rw [show (k + 1) * 2 = k * 2 + 1 + 1 by omega]
      rfl
/-- Two lists lie in unlike blocks. -/
def BkNe (p q : LsI) : Prop := (Value.slice p.a 0 0).ownBlock = none ∨ (Value.slice p.a 0 0).ownBlock ≠ (Value.slice q.a 0 0).ownBlock
theorem bk_any (a : Option Addr) (n c m d : Nat) : (Value.slice a n c).ownBlock = (Value.slice a m d).ownBlock := by cases a <;> rfl
theorem BkNe.symm {p q : LsI} (h : BkNe p q) : BkNe q p := by
  unfold BkNe at *
  rcases h with h | h
  · rw [h]
    cases (Value.slice q.a 0 0).ownBlock with
    | none => exact .inl rfl
    | some x => exact .inr (by simp)
  · exact .inr (fun e => h e.symm)
theorem BkNe.of {p q : LsI} (h : BkNe p q) (n c m d : Nat) : (Value.slice p.a n c).ownBlock = none ∨ (Value.slice p.a n c).ownBlock ≠ (Value.slice q.a m d).ownBlock := by
  unfold BkNe at h
  rw [bk_any p.a n c 0 0, bk_any q.a m d 0 0]
  exact h
/-- Lists of one's own, no two in one block, and their row. -/
structure TuS (w1 : World) (P : List LsI) (v : Value) (W : World) : Prop where
  bel : Below w1.heap.size w1 W
  own : ∀ q ∈ P, W.ownsRow w1.heap.size 32 2 (.slice q.a q.xs.length q.cap) q.xs.length (smC q.xs)
  row : W.ownsRow w1.heap.size 25 1 v P.length (cutV P)
  apart : P.Pairwise BkNe
theorem TuS.nil (w1 : World) : TuS w1 [] (.slice none 0 0) w1 := ⟨Below.refl _ _, (fun q hq => by cases hq), World.ownsRow_nil _ _ _ _, .nil⟩
theorem TuS.later {w1 W W' : World} {P : List LsI} {v : Value} (h : TuS w1 P v W) (hb : Below W.heap.size W W') : TuS w1 P v W' := ⟨ybt' h.bel hb, fun q hq => yowns_later (h.own q hq) hb, yowns_later h.row hb, h.apart⟩
theorem TuS.more {w1 W W2 W3 : World} {v v3 : Value} {P : List LsI} (h : TuS w1 P v W) (hb : Below W.heap.size W W2) {q : LsI} (hq : W2.ownsRow W.heap.size 32 2 (.slice q.a q.xs.length q.cap) q.xs.length (smC q.xs)) {o : Obj}
    (hr : W3.ownsRow w1.heap.size 25 1 v3 (P.length + 1) (cutV P ++ [.slice q.a q.xs.length q.cap])) (hg : (W2.alloc o).grownBy W3 v.ownBlock) : TuS w1 (P ++ [q]) v3 W3 := by
  have hA : Below W2.heap.size W2 (W2.alloc o) := (Below.refl _ _).alloc (Nat.le_refl _) _
  have hbA := ybt' hb hA
  have hrow := yowns_later h.row hbA
  refine ⟨?_, fun p hp => ?_, by rw [cutV_snoc, List.length_append]; exact hr, ?_⟩
  · exact (ybt' h.bel hbA).grown hg (ybt' h.bel hbA).size (fun g e => (hrow.lt g e).1)
  · have key : ∀ r : LsI, (W2.alloc o).ownsRow w1.heap.size 32 2 (.slice r.a r.xs.length r.cap) r.xs.length (smC r.xs) → W3.ownsRow w1.heap.size 32 2 (.slice r.a r.xs.length r.cap) r.xs.length (smC r.xs) := fun r hr2 => hr2.kept hg (own_unlike hr2 hrow (by decide))
    rcases List.mem_append.1 hp with hp | hp
    · exact key p (yowns_later (h.own p hp) hbA)
    · rw [List.mem_singleton.1 hp]
      exact key q (yowns_base (yowns_later hq hA) h.bel.size)
  · rw [List.pairwise_append]
    refine ⟨h.apart, List.pairwise_singleton _ _, fun p hp r hr2 => ?_⟩
    rw [List.mem_singleton.1 hr2]
    unfold BkNe
    rw [bk_any p.a 0 0 p.xs.length p.cap, bk_any q.a 0 0 q.xs.length q.cap]
    cases hx : (Value.slice p.a p.xs.length p.cap).ownBlock with
    | none => exact .inl rfl
    | some g =>
      refine .inr (fun e => ?_)
      have h1 := ((h.own p hp).lt g hx).2
      have h2 := (hq.lt g e.symm).1
      omega
theorem cutV_set (P : List LsI) (i : Nat) (q : LsI) : cutV (P.set i q) = (cutV P).set i (.slice q.a q.xs.length q.cap) := by unfold cutV; rw [List.map_set]
theorem cutV_same (P : List LsI) (i : Nat) (hi : i < P.length) (q : LsI) (ha : q.a = (P[i]).a) (hc : q.cap = (P[i]).cap) (hl : q.xs.length = (P[i]).xs.length) : cutV (P.set i q) = cutV P := by
  rw [cutV_set, ha, hc, hl]
  have e := cutV_at hi
  rw [List.getElem?_eq_some_iff] at e
  obtain ⟨h1, h2⟩ := e
  rw [← h2]
  exact List.set_getElem_self h1
/-- Two lists changed about. -/
theorem TuS.swap {w1 W : World} {P : List LsI} {g n cp : Nat} (h : TuS w1 P (.slice (some ⟨g, 0, none⟩) n cp) W) (hn : P.length = n) {i j : Nat} (hi : i < P.length) (hj : j < P.length) :
    TuS w1 ((P.set i P[j]).set j P[i]) (.slice (some ⟨g, 0, none⟩) n cp) ((W.setCell ⟨g, i, none⟩ (.slice (P[j]).a (P[j]).xs.length (P[j]).cap)).setCell ⟨g, j, none⟩ (.slice (P[i]).a (P[i]).xs.length (P[i]).cap)) := by
  subst hn
  have hp := List.set_set_perm hi hj
  have hg : W.grownBy ((W.setCell ⟨g, i, none⟩ (.slice (P[j]).a (P[j]).xs.length (P[j]).cap)).setCell ⟨g, j, none⟩ (.slice (P[i]).a (P[i]).xs.length (P[i]).cap)) (some g) := gby_set (gby_set (gby_of (Below.refl _ _)) _ _) _ _
  have hlt := h.row.lt g rfl
  refine ⟨h.bel.grown hg h.bel.size (fun x e => by cases e; exact hlt.1), fun q hq => ?_, ?_, ?_⟩
  · have hq' := hp.mem_iff.1 hq
    exact (h.own q hq').kept hg (own_unlike (h.own q hq') h.row (by decide))
  · rw [List.length_set, List.length_set, cutV_set, cutV_set]
    exact ownsSetS (ownsSetS h.row i _) j _
  · exact (hp.pairwise_iff (fun {x y} q => q.symm)).2 h.apart
/-- Two samples of a list changed about. -/
theorem TuS.turn {w1 W : World} {P : List LsI} {v : Value} (h : TuS w1 P v W) {i gq c d : Nat} (hi : i < P.length) (ha : (P[i]).a = some ⟨gq, 0, none⟩) (hc : c < (P[i]).xs.length) (hd : d < (P[i]).xs.length) :
    TuS w1 (P.set i ⟨(P[i]).a, (P[i]).cap, ((P[i]).xs.set c (P[i]).xs[d]).set d (P[i]).xs[c]⟩) v ((((W.setCell ⟨gq, c * 2, none⟩ (.int .i64 ((P[i]).xs[d]).1)).setCell ⟨gq, c * 2 + 1, none⟩ (.float .f64 ((P[i]).xs[d]).2)).setCell ⟨gq, d * 2, none⟩ (.int .i64 ((P[i]).xs[c]).1)).setCell ⟨gq, d * 2 + 1, none⟩ (.float .f64 ((P[i]).xs[c]).2)) := by
  have hg : W.grownBy ((((W.setCell ⟨gq, c * 2, none⟩ (.int .i64 ((P[i]).xs[d]).1)).setCell ⟨gq, c * 2 + 1, none⟩ (.float .f64 ((P[i]).xs[d]).2)).setCell ⟨gq, d * 2, none⟩ (.int .i64 ((P[i]).xs[c]).1)).setCell ⟨gq, d * 2 + 1, none⟩ (.float .f64 ((P[i]).xs[c]).2)) (some gq) := gby_set (gby_set (gby_set (gby_set (gby_of (Below.refl _ _)) _ _) _ _) _ _) _ _
  have hm : P[i] ∈ P := List.getElem_mem hi
  have ho := h.own _ hm
  have hlt := ho.lt gq (by rw [ha]; rfl)
  have hblk : (Value.slice (P[i]).a 0 0).ownBlock = some gq := by rw [ha]; rfl
  have hl2 : (((P[i]).xs.set c (P[i]).xs[d]).set d (P[i]).xs[c]).length = (P[i]).xs.length := by rw [List.length_set, List.length_set]
  have hap : ∀ x y (hx : x < P.length) (hy : y < P.length), x ≠ y → BkNe P[x] P[y] := fun x y hx hy hne => by
    rcases Nat.lt_or_gt_of_ne hne with q | q
    · exact List.pairwise_iff_getElem.1 h.apart x y hx hy q
    · exact (List.pairwise_iff_getElem.1 h.apart y x hy hx q).symm
  refine ⟨h.bel.grown hg h.bel.size (fun x e => by cases e; exact hlt.1), fun q hq => ?_, ?_, ?_⟩
  · obtain ⟨j, hj⟩ := List.getElem?_of_mem hq
    by_cases hij : i = j
    · subst hij
      rw [List.getElem?_set_self hi] at hj
      injection hj with hj
      subst hj
      dsimp only
      rw [hl2, smC_set, smC_set, ha]
      rw [ha] at ho
      exact ownsSetS (ownsSetS (ownsSetS (ownsSetS ho _ _) _ _) _ _) _ _
    · rw [List.getElem?_set_ne hij] at hj
      obtain ⟨hj2, rfl⟩ := List.getElem?_eq_some_iff.1 hj
      have hne := (hap j i hj2 hi (fun e => hij e.symm)).of (P[j]).xs.length (P[j]).cap 0 0
      rw [hblk] at hne
      exact (h.own _ (List.getElem_mem hj2)).kept hg hne
  · rw [List.length_set, cutV_same P i hi (⟨(P[i]).a, (P[i]).cap, ((P[i]).xs.set c (P[i]).xs[d]).set d (P[i]).xs[c]⟩ : LsI) rfl rfl hl2]
    exact h.row.kept hg (by
      have q := own_unlike h.row ho (by decide)
      rw [bk_any (P[i]).a _ _ 0 0, hblk] at q
      exact q)
  · rw [List.pairwise_iff_getElem]
    intro x y hx hy hxy
    rw [List.length_set] at hx hy
    have e : ∀ z (hz : z < P.length), ((P.set i ⟨(P[i]).a, (P[i]).cap, ((P[i]).xs.set c (P[i]).xs[d]).set d (P[i]).xs[c]⟩)[z]'(by rw [List.length_set]; exact hz)).a = (P[z]).a := fun z hz => by
      rw [List.getElem_set]
      split
      · rename_i q; subst q; rfl
      · rfl
    have q := hap x y hx hy (by omega)
    unfold BkNe at q ⊢
    rw [e x hx, e y hy]
    exact q
end Go.Proofs.Ytmigdomlakflfaa

/- The law's turned: of any lists and any order. -/
namespace Go.Proofs.Ytmigdomlakflfaa
open Go.RowKit
set_option linter.unusedVariables false
set_option linter.unusedSimpArgs false

theorem TuS.drewN {w1 W : World} {P : List LsI} {v : Value} (h : TuS w1 P v W) (n : Nat) : TuS w1 P v (W.drewN n) := ⟨⟨h.bel.os, h.bel.tape, h.bel.output, h.bel.size, h.bel.block⟩, h.own, h.row, h.apart⟩
theorem TuS.drew {w1 W : World} {P : List LsI} {v : Value} (h : TuS w1 P v W) : TuS w1 P v W.drew := ⟨⟨h.bel.os, h.bel.tape, h.bel.output, h.bel.size, h.bel.block⟩, h.own, h.row, h.apart⟩
end Go.Proofs.Ytmigdomlakflfaa

/- Merging what was merged, no program: a mean of one height has its value; lists in another order come to the same. -/
namespace Go.Proofs.Ytmigdomlakflfaa
open Go.RowKit
set_option linter.unusedVariables false
set_option linter.unusedSimpArgs false

/-- Over one a float is itself. -/
theorem one_rn {x p : Nat} (hx : Fi x) (h : FN .quo x 4607182418800017408 p) : RN (sv x) 1 p := by
  obtain ⟨m, a, e1, v1, hm⟩ := read_num53 hx.2
  have e2 : Ieee.double.read 4607182418800017408 = .number false 4503599627370496 (-52) := by decide
  generalize hs : (x / 9223372036854775808 % 2 == 1) = s at e1
  have hsv : (sv x).natAbs = m * 2 ^ a := by rw [sv_abs, v1]
  have hlog : m.log2 ≤ 52 := by
    by_cases h0 : m = 0
    · subst h0; decide
    · have := (Nat.log2_lt h0 (k := 53)).2 (by omega)
      omega
  have key : ∃ (dg : Nat), 53 ≤ dg ∧ floatBits .quo .f64 x 4607182418800017408 = ((((Ieee.double.read x).quotient dg (Ieee.double.read 4607182418800017408)).map Ieee.double.write)) := ⟨_, by decide, rfl⟩
  obtain ⟨dg, hdg, hq⟩ := key
  rw [e1, e2] at hq
  simp only [Ieee.Datum.quotient] at hq
  rw [if_neg (by decide), show (4503599627370496 : Nat).log2 = 52 by decide] at hq
  obtain ⟨mo, hmo⟩ : ∃ mo, dg + 52 - m.log2 = 52 + mo := ⟨dg + 52 - m.log2 - 52, by omega⟩
  rw [hmo] at hq
  have hsh : m <<< (52 + mo) = m * 2 ^ mo * 4503599627370496 := by
    rw [Nat.shiftLeft_eq, Nat.pow_add, show (2 : Nat) ^ 52 = 4503599627370496 by decide, Nat.mul_comm 4503599627370496, ← Nat.mul_assoc]
  rw [hsh, Nat.mul_div_cancel _ (by decide), Nat.mul_mod_left] at hq
  have hq2 := h.bits (hq.trans rfl)
  have e3 : p = Ieee.double.nearest s (2 * (m * 2 ^ mo)) (-1074 + (a : Int) - -52 - ((52 + mo : Nat) : Int) - 1) := by
    rw [hq2]
    cases s <;> rfl
  rw [e3]
  refine near_rn (by decide) ?_ ?_ ?_
  · rw [hsv]
    by_cases hc : mo + 1 ≤ a
    · rw [show (-1074 + (a : Int) - -52 - ((52 + mo : Nat) : Int) - 1 + 1074).toNat = a - (mo + 1) by omega, show (-(-1074 + (a : Int) - -52 - ((52 + mo : Nat) : Int) - 1 + 1074)).toNat = 0 by omega]
      have e : (2 : Nat) ^ a = 2 ^ mo * 2 * 2 ^ (a - (mo + 1)) := by
        rw [← Nat.pow_succ, ← Nat.pow_add, show mo + 1 + (a - (mo + 1)) = a by omega]
      rw [e, Nat.pow_zero, Nat.mul_one, Nat.mul_one]
      generalize (2 : Nat) ^ mo = A
      generalize (2 : Nat) ^ (a - (mo + 1)) = B
      rw [Nat.mul_comm 2, Nat.mul_assoc m, Nat.mul_assoc m]
    · rw [show (-1074 + (a : Int) - -52 - ((52 + mo : Nat) : Int) - 1 + 1074).toNat = 0 by omega, show (-(-1074 + (a : Int) - -52 - ((52 + mo : Nat) : Int) - 1 + 1074)).toNat = mo + 1 - a by omega]
      rw [Nat.mul_assoc m, ← Nat.pow_add, show a + (mo + 1 - a) = mo + 1 by omega, Nat.pow_succ, Nat.pow_zero, Nat.mul_one, Nat.mul_one]
      generalize (2 : Nat) ^ mo = A
      rw [Nat.mul_comm 2, Nat.mul_assoc m]
  · intro hneg
    have := sv_sign hs
    cases s
    · rw [if_neg (by simp)] at this
      omega
    · rfl
  · intro hpos
    have := sv_sign hs
    cases s
    · rfl
    · rw [if_pos rfl] at this
      omega
/-- A mean of one height has its value. -/
theorem MeanT.single {x r : Nat} {e : Int} (hx : Fi x) (h : MeanT [x] r e) : Fi r ∧ sv r = sv x ∧ e = 0 := by
  obtain ⟨s, hs⟩ := add_some ((fin_iff 0).2 (by decide)) ((fin_iff x).2 hx.2)
  have h1 : RN (sv x) 1 s := by
    have q := add_rn (x := 0) ⟨by decide, by decide⟩ hx (FN.some hs)
    have e0 : sv 0 = 0 := by decide
    rw [e0, Int.zero_add] at q
    exact q
  have f1 : Fi s := h1.fi (by decide) hx.2 (by rw [sv_abs]; omega)
  have v1 : sv s = sv x := Int.le_antisymm (h1.le_fl hx (Int.le_refl _)) (h1.ge_fl hx (Int.le_refl _))
  rcases h with ⟨h0, _⟩ | ⟨_, m, hm, hc⟩
  · cases h0
  · have e2 : sumF 0 [x] = s := by
      show (floatBits .add .f64 0 x).getD 0 = s
      rw [hs]; rfl
    have e3 : floatOfInt .f64 (([x] : List Nat).length : Int) = 4607182418800017408 := by rw [show (([x] : List Nat).length : Int) = 1 from rfl]; decide +kernel
    rw [e2, e3] at hm
    have h2 := one_rn f1 hm
    have f2 : Fi m := h2.fi (by decide) f1.2 (by rw [sv_abs]; omega)
    have v2 : sv m = sv s := Int.le_antisymm (h2.le_fl f1 (Int.le_refl _)) (h2.ge_fl f1 (Int.le_refl _))
    rcases hc with ⟨h3, rfl, h4⟩ | ⟨h3, _, _⟩
    · exact ⟨f2, by rw [v2, v1], h4⟩
    · rw [f2.isone] at h3; cases h3
/-- A mean of one height. -/
theorem MeanT.alone {x : Nat} (hx : Fi x) : ∃ r, MeanT [x] r 0 := by
  obtain ⟨s, hs⟩ := add_some ((fin_iff 0).2 (by decide)) ((fin_iff x).2 hx.2)
  have h1 : RN (sv x) 1 s := by
    have q := add_rn (x := 0) ⟨by decide, by decide⟩ hx (FN.some hs)
    have e0 : sv 0 = 0 := by decide
    rw [e0, Int.zero_add] at q
    exact q
  have f1 : Fi s := h1.fi (by decide) hx.2 (by rw [sv_abs]; omega)
  have e2 : sumF 0 [x] = s := by
    show (floatBits .add .f64 0 x).getD 0 = s
    rw [hs]; rfl
  have e3 : floatOfInt .f64 (([x] : List Nat).length : Int) = 4607182418800017408 := by rw [show (([x] : List Nat).length : Int) = 1 from rfl]; decide +kernel
  obtain ⟨m, hm⟩ : ∃ m, FN .quo s 4607182418800017408 m := by
    cases hq : floatBits .quo .f64 s 4607182418800017408 with
    | none => exact ⟨_, FN.none 0 hq⟩
    | some m => exact ⟨m, FN.some hq⟩
  have f2 : Fi m := (one_rn f1 hm).fi (by decide) f1.2 (by rw [sv_abs]; omega)
  exact ⟨m, .inr ⟨by simp, m, by rw [e2, e3]; exact hm, .inl ⟨f2.isone, rfl, rfl⟩⟩⟩
/-- Lists that come to the same. -/
structure SmF (F H : List (Int × Nat)) : Prop where
  here : ∀ t, (∃ p ∈ F, isone p.2 = true ∧ p.1 = t) ↔ ∃ p ∈ H, isone p.2 = true ∧ p.1 = t
  mean : ∀ t, srtF (hgtAt t F) = srtF (hgtAt t H)
theorem SmF.symm {F H : List (Int × Nat)} (h : SmF F H) : SmF H F := ⟨fun t => (h.here t).symm, fun t => (h.mean t).symm⟩
theorem SmF.ones (F : List (Int × Nat)) : SmF F (F.filter fun p => isone p.2) := by
  refine ⟨fun t => ⟨fun ⟨p, hp, q⟩ => ⟨p, List.mem_filter.2 ⟨hp, q.1⟩, q⟩, fun ⟨p, hp, q⟩ => ⟨p, (List.mem_filter.1 hp).1, q⟩⟩, fun t => ?_⟩
  have e : hgtAt t (F.filter fun p => isone p.2) = hgtAt t F := by
    unfold hgtAt
    rw [List.filter_filter]
    congr 1
    apply List.filter_congr
    intro p _
    cases isone p.2 <;> simp
  rw [e]
theorem SmF.all {F H O : List (Int × Nat)} (s : SmF F H) (h : MrA F O) : MrA H O := by
  refine ⟨h.rise, fun p hp h1 => ?_, fun q hq => ?_⟩
  · obtain ⟨p', hp', h2, h3⟩ := (s.here p.1).2 ⟨p, hp, h1, rfl⟩
    obtain ⟨q, hq, h4⟩ := h.all p' hp' h2
    exact ⟨q, hq, h4.trans h3⟩
  · obtain ⟨h1, h2⟩ := h.mean q hq
    exact ⟨(s.here q.1).1 h1, by rw [← s.mean q.1]; exact h2⟩
theorem SmF.no {F H : List (Int × Nat)} (s : SmF F H) (h : MrX F) : MrX H := by
  obtain ⟨p, hp, h1, r, h2⟩ := h
  obtain ⟨q, hq, h3, h4⟩ := (s.here p.1).1 ⟨p, hp, h1, rfl⟩
  exact ⟨q, hq, h3, r, by rw [h4, ← s.mean p.1]; exact h2⟩
theorem SmF.out {F H : List (Int × Nat)} {e i : Int} {M : List (Int × Nat)} (s : SmF F H) (h : MgO F (0, 0) e i M) : MgO H (0, 0) e i M := by
  rcases h with ⟨h1, _⟩ | ⟨h1, h2, h3⟩ | ⟨h1, O, h2, h3⟩
  · exact absurd rfl h1
  · exact .inr (.inl ⟨h1, s.no h2, h3⟩)
  · exact .inr (.inr ⟨h1, O, s.all h2, h3⟩)
/-- Rising numbers that all are in a list are no more than it has. -/
theorem rise_few : ∀ (K L : List Int), K.Pairwise (fun x y => x < y) → (∀ t ∈ K, t ∈ L) → K.length ≤ L.length
  | [], _, _, _ => Nat.zero_le _
  | t :: r, L, h, hm => by
    rw [List.pairwise_cons] at h
    have ht := hm t List.mem_cons_self
    have ih := rise_few r (L.erase t) h.2 (fun x hx => (List.mem_erase_of_ne (fun e => by have := h.1 x hx; omega)).2 (hm x (List.mem_cons_of_mem _ hx)))
    rw [List.length_erase_of_mem ht] at ih
    have : 0 < L.length := List.length_pos_of_mem ht
    rw [List.length_cons]
    omega
theorem MrA.few {F O : List (Int × Nat)} (h : MrA F O) : O.length ≤ F.length := by
  have q := rise_few (O.map (·.1)) (F.map (·.1)) (List.pairwise_map.2 h.rise) (fun t ht => by
    obtain ⟨q, hq, rfl⟩ := List.mem_map.1 ht
    obtain ⟨⟨p, hp, _, h2⟩, _⟩ := h.mean q hq
    exact List.mem_map.2 ⟨p, hp, h2⟩)
  rw [List.length_map, List.length_map] at q
  exact q
/-- What few lists come to: the means, or one that is refused. -/
theorem MgO.few {F : List (Int × Nat)} {e i : Int} {M : List (Int × Nat)} (hF : F.length ≤ 4096) (h : MgO F (0, 0) e i M) : (e = 9 ∧ i = -1 ∧ M = []) ∨ (e = 0 ∧ i = 0 ∧ MrA F M) := by
  rcases h with ⟨h1, _⟩ | ⟨h1, h2, h3, h4, h5⟩ | ⟨h1, O, h2, ⟨h3, _⟩ | ⟨h3, h4, h5, h6⟩⟩
  · exact absurd rfl h1
  · exact .inl ⟨h3, h4, h5⟩
  · have := h2.few
    omega
  · subst h6
    exact .inr ⟨h4, h5, h2⟩
end Go.Proofs.Ytmigdomlakflfaa

/- The law's same, of lists of the same value. -/
namespace Go.Proofs.Ytmigdomlakflfaa
open Go.RowKit
set_option linter.unusedVariables false
set_option linter.unusedSimpArgs false

end Go.Proofs.Ytmigdomlakflfaa

/- The law CleanOrder answers true, whatever lists and whatever order come in. -/
namespace Go.Proofs.Ytmigdomlakflfaa
open Go.RowKit
set_option linter.unusedVariables false
set_option linter.unusedSimpArgs false

/-- Each list without what is no number. -/
def onesO (xs : List (Int × Nat)) : List (Int × Nat) := xs.filter fun p => isone p.2
def FnK (ls Q : List LsI) : Prop := Q.map (·.xs) = ls.map (fun p => onesO p.xs)
theorem FnK.more {ls Q : List LsI} {k : Nat} (h : FnK (ls.take k) Q) (hk : k < ls.length) {q : LsI} (hq : q.xs = onesO (ls[k]).xs) : FnK (ls.take (k + 1)) (Q ++ [q]) := by
  unfold FnK at h ⊢
  rw [List.take_succ_eq_append_getElem hk, List.map_append, List.map_append, h, List.map_cons, List.map_cons, hq]
  rfl
theorem FnK.all {ls Q : List LsI} (h : FnK ls Q) {P : List (Int × Nat) → Prop} (hp : ∀ p ∈ ls, P (onesO p.xs)) : ∀ q ∈ Q, P q.xs := fun q hq => by
  have : q.xs ∈ Q.map (·.xs) := List.mem_map.2 ⟨q, hq, rfl⟩
  rw [h] at this
  obtain ⟨p, hpp, e⟩ := List.mem_map.1 this
  rw [← e]
  exact hp p hpp
theorem MgO.zero {F : List (Int × Nat)} {c : Int × Int} {e i : Int} {M : List (Int × Nat)} (h : MgO F c e i M) (hc : c = (0, 0)) : MgO F (0, 0) e i M := by rw [← hc]; exact h
end Go.Proofs.Ytmigdomlakflfaa

/- What stands out, no program: the heights beside a place, a difference held against a limit, the places. -/
namespace Go.Proofs.Ytmigdomlakflfaa
open Go.RowKit
set_option linter.unusedVariables false

/-- The heights from a place on, so many, but for one place's. -/
def nearG (xs : List (Int × Nat)) (p lo m : Nat) : List Nat := ((List.range' lo m).filter (fun j => j != p)).map (fun j => (xs[j]?.getD (0, 0)).2)
theorem nearG_step (xs : List (Int × Nat)) (p lo m : Nat) : nearG xs p lo (m + 1) = nearG xs p lo m ++ (if lo + m = p then [] else [(xs[lo + m]?.getD (0, 0)).2]) := by
  unfold nearG
  rw [List.range'_concat, List.filter_append, List.map_append, Nat.one_mul]
  congr 1
  by_cases h : lo + m = p
  · simp [h]
  · simp [h]
theorem nearG_len (xs : List (Int × Nat)) (p lo m : Nat) : (nearG xs p lo m).length ≤ m := by
  unfold nearG
  rw [List.length_map]
  exact Nat.le_trans (List.length_filter_le _ _) (by simp)
/-- The heights up to so many places ahead of a place and behind it. -/
def nearP (xs : List (Int × Nat)) (p w : Nat) : List Nat := nearG xs p (p - w) (min (p + w + 1) xs.length - (p - w))
theorem nearG_lt {xs : List (Int × Nat)} (hx : ∀ q ∈ xs, q.2 < 18446744073709551616) (p lo m : Nat) : ∀ x ∈ nearG xs p lo m, x < 18446744073709551616 := by
  intro x h
  unfold nearG at h
  obtain ⟨j, _, rfl⟩ := List.mem_map.1 h
  cases hj : xs[j]? with
  | none => decide
  | some q => exact hx q (List.mem_of_getElem? hj)
theorem sub_someF {x y : Nat} (hx : Fi x) (hy : Fi y) : ∃ r, floatBits .sub .f64 x y = some r := by
  obtain ⟨s, m, e, h1⟩ := read_fin ((fin_iff x).2 hx.2)
  obtain ⟨t, n, j, h2⟩ := read_fin ((fin_iff y).2 hy.2)
  have key : ∃ d, floatBits .sub .f64 x y = (((Ieee.double.read x).sum d).map Ieee.double.write) ∧ ∃ t' n' j', d = .number t' n' j' := by
    refine ⟨_, rfl, ?_⟩
    show ∃ t' n' j', (Ieee.double.read y).opposite = Ieee.Datum.number t' n' j'
    rw [h2]
    exact ⟨_, _, _, rfl⟩
  obtain ⟨d, hd, t', n', j', rfl⟩ := key
  rw [hd, h1]
  exact ⟨_, rfl⟩
theorem rn_nf {A : Int} {D r : Nat} (h : RN A D r) : Nf r := by
  obtain ⟨neg, s, rfl, _, _, hm⟩ := h
  have hs : s ≤ 9218868437227405312 := hm.top
  unfold Nf
  cases neg
  · have hw : Ieee.double.word false s = s := rfl
    rw [hw]
    omega
  · have hw : Ieee.double.word true s = 9223372036854775808 + s := by show Ieee.double.signWeight + s = _; rw [dbl_sign]
    rw [hw]
    omega
/-- A height less another. -/
def dif (h r : Nat) : Nat := (floatBits .sub .f64 h r).getD 0
theorem dif_run {h r : Nat} (hh : Fi h) (hr : Fi r) : floatBits .sub .f64 h r = some (dif h r) ∧ Nf (dif h r) := by
  obtain ⟨d, hd⟩ := sub_someF hh hr
  unfold dif
  rw [hd]
  exact ⟨rfl, rn_nf (sub_rn hh hr (FN.some hd))⟩
/-- Is it above a limit in size? -/
def gtB (h r L : Nat) : Bool := FloatKind.f64.format.order (dif h r % 9223372036854775808) L == some .gt
/-- A sample stands out. -/
def StP (xs : List (Int × Nat)) (w L i : Nat) : Prop := ∃ t h, xs[i]? = some (t, h) ∧ isone h = true ∧ ∃ r, MedT (srtF (nearP xs i w)) r true ∧ gtB h r L = true
open Classical in
/-- The places of what stands out. -/
noncomputable def spL (xs : List (Int × Nat)) (w L k : Nat) : List Nat := (List.range k).filter (fun i => decide (StP xs w L i))
theorem spL_yes {xs : List (Int × Nat)} {w L k : Nat} (h : StP xs w L k) : spL xs w L (k + 1) = spL xs w L k ++ [k] := by
  unfold spL
  rw [List.range_succ, List.filter_append]
  simp [h]
theorem spL_no {xs : List (Int × Nat)} {w L k : Nat} (h : ¬ StP xs w L k) : spL xs w L (k + 1) = spL xs w L k := by
  unfold spL
  rw [List.range_succ, List.filter_append]
  simp [h]
theorem spL_len (xs : List (Int × Nat)) (w L k : Nat) : (spL xs w L k).length ≤ k := by
  unfold spL
  exact Nat.le_trans (List.length_filter_le _ _) (by simp)
theorem StP.no1 {xs : List (Int × Nat)} {w L i : Nat} {t : Int} {h : Nat} (hp : xs[i]? = some (t, h)) (hn : isone h = false) : ¬ StP xs w L i := by
  rintro ⟨t', h', h1, h2, _⟩
  rw [hp] at h1
  injection h1 with h1
  injection h1 with h1 h3
  rw [h3, h2] at hn
  cases hn
theorem StP.no2 {xs : List (Int × Nat)} {w L i : Nat} (hx : ∀ q ∈ xs, q.2 < 18446744073709551616) {t : Int} {h r : Nat} {o : Bool} (hp : xs[i]? = some (t, h)) (hm : MedT (srtF (nearP xs i w)) r o) (hn : (o && gtB h r L) = false) : ¬ StP xs w L i := by
  rintro ⟨t', h', h1, h2, r', h3, h4⟩
  rw [hp] at h1
  injection h1 with h1
  injection h1 with h1 h5
  obtain ⟨e1, e2⟩ := hm.one (srtF_fi (nearG_lt hx _ _ _)) h3
  rw [e1, e2, h5, h4] at hn
  cases hn
theorem StP.yes {xs : List (Int × Nat)} {w L i : Nat} {t : Int} {h r : Nat} {o : Bool} (hp : xs[i]? = some (t, h)) (h1 : isone h = true) (hm : MedT (srtF (nearP xs i w)) r o) (hn : (o && gtB h r L) = true) : StP xs w L i := by
  rw [Bool.and_eq_true] at hn
  rw [hn.1] at hm
  exact ⟨t, h, hp, h1, r, hm, hn.2⟩
/-- What Spikes refuses. -/
def errP (n : Nat) (w : Int) (L : Nat) : Int := if 4096 < n then 3 else if w < 1 ∨ 16 < w then 2 else if isone L = false then 8 else if sv L < 0 then 2 else 0
theorem errP_good {n L : Nat} {w : Int} (hL : L < 18446744073709551616) (h : errP n w L = 0) : n ≤ 4096 ∧ 1 ≤ w ∧ w ≤ 16 ∧ Fi L ∧ 0 ≤ sv L := by
  unfold errP at h
  split at h
  · cases h
  · rename_i h1
    split at h
    · cases h
    · rename_i h2
      split at h
      · cases h
      · rename_i h3
        split at h
        · cases h
        · rename_i h4
          exact ⟨by omega, by omega, by omega, Fi.of hL (by simpa using h3), by omega⟩
end Go.Proofs.Ytmigdomlakflfaa

/- package clean: beside, standsOut, checkSpikes, Spikes. -/
namespace Go.Proofs.Ytmigdomlakflfaa
open Go.RowKit
set_option linter.unusedVariables false
set_option linter.unusedSimpArgs false

theorem near_get {xs : List (Int × Nat)} {i : Nat} {t : Int} {h : Nat} (hp : xs[i]? = some (t, h)) : (xs[i]?.getD (0, 0)).2 = h := by rw [hp]; rfl
set_option maxHeartbeats 3200000 in
set_option maxRecDepth 100000 in
theorem ebeside_any (a : Option Addr) (n cap : Nat) (xs : List (Int × Nat)) (p d : Nat) (w : World) (hn : n ≤ 4096) (hl : xs.length = n) (hp : p < n) (h1 : 1 ≤ d) (h2 : d ≤ 16) (h : RdS w a xs) :
    Calls Try.prog 34 #[.slice a n cap, .int .i64 (p : Int), .int .i64 (d : Int)] w fun e w' => ∃ v : Value, e = .returned v ∧ Hid (w'.ownsRow w.heap.size 22 1 v (nearP xs p d).length ((nearP xs p d).map (Value.float .f64))) ∧ Below w.heap.size w w' := by
  obtain ⟨i0, hi, hz0, hz1, hz2⟩ := info_parts Try.infoF
  have HD := hid h
  obtain ⟨lo, hlo⟩ : ∃ lo, lo = p - d := ⟨_, rfl⟩
  obtain ⟨hi', hhi⟩ : ∃ k, k = min (p + d + 1) n := ⟨_, rfl⟩
  have m1 : ∀ (ts : Array TypeId) (t : TypeId) (P : Program) (W : World), (Builtin.max_ ts t #[.int .i64 ((p : Int) - (d : Int)), .int .i64 0]).run P W = .ok (.int .i64 (lo : Int)) W := fun ts t P W => by
    rw [run_max_int2]; split <;> (congr 2; omega)
  have m2 : ∀ (ts : Array TypeId) (t : TypeId) (P : Program) (W : World), (Builtin.min_ ts t #[.int .i64 ((p : Int) + (d : Int) + 1), .int .i64 (n : Int)]).run P W = .ok (.int .i64 (hi' : Int)) W := fun ts t P W => by
    rw [run_min_int2]; split <;> (congr 2; omega)
  have HN : Hid (nearP xs p d = nearG xs p lo (hi' - lo)) := by
    show _ = _
    unfold nearP
    rw [hl, hlo, hhi]
  have hlh : lo ≤ hi' ∧ hi' ≤ n := by omega
  clear h hlo hhi
  go_enter Try.func34, Try.ntmps34
  go_wp2_with fail
  go_loopw [7, 8] (fun v x wr => ∃ i : Nat, lo ≤ i ∧ i ≤ hi' ∧ x = .int .i64 (i : Int) ∧ Hid (wr.ownsRow w.heap.size 22 1 v (nearG xs p lo (i - lo)).length ((nearG xs p lo (i - lo)).map (Value.float .f64))) ∧ Hid (Below w.heap.size w wr)) (fun _ x _ => hi' - (intOf x).toNat)
  case atStart => exact ⟨lo, Nat.le_refl _, hlh.1, rfl, by rw [Nat.sub_self]; exact World.ownsRow_nil _ _ _ _, Below.refl _ _⟩
  case round =>
    obtain ⟨i, hil, hih, rfl, HO, HW⟩ := hrel
    by_cases hlt : i < hi'
    · obtain ⟨q, hq⟩ : ∃ q, xs[i]? = some q := ⟨_, List.getElem?_eq_getElem (by omega)⟩
      obtain ⟨t, x⟩ := q
      obtain ⟨g, o, rfl, hg, hc⟩ := HD.out.get hq
      have c1 : wr.cell? ⟨g, o + i * 2 + 1, none⟩ = some (.float .f64 x) := (HW.out.cell (p := ⟨g, o + i * 2 + 1, none⟩) hg).trans (hc _ _ hq).2
      have hle : (nearG xs p lo (i - lo)).length ≤ i - lo := nearG_len _ _ _ _
      have hst := nearG_step xs p lo (i - lo)
      rw [show lo + (i - lo) = i by omega, near_get hq, show i - lo + 1 = i + 1 - lo by omega] at hst
      have hii : (i : Int) < (hi' : Int) := by omega
      have hin : (i : Int) < (n : Int) := by omega
      have hi0 : (0 : Int) ≤ (i : Int) := by omega
      have hsz := HW.out.size
      clear hq hc
      by_cases hip : i = p
      · rw [if_pos hip, List.append_nil] at hst
        have HT := hid hst
        clear hst
        subst hip
        go_wp2_with fail
        go_roundw
        case rel => exact ⟨i + 1, by omega, by omega, by go_num, by rw [HT.out]; exact HO.out, HW.out⟩
        case measure => simp [intOf]; omega
      · rw [if_neg hip] at hst
        have HT := hid hst
        have hip2 : ¬ (i : Int) = (p : Int) := by omega
        have ho := HO.out
        clear hst HO
        generalize nearG xs p lo (i - lo) = R at *
        go_wp2_with (first
          | (at_builtin; refine wpList_append_own _ rfl _ _ 37 rfl w.heap.size 22 i0 (.float .f64 0) 1 8 Try.underlying37 hi hz0 hz1 hz2 rfl (by decide) _ _ _ rfl (ho.alloc _) ⟨wr.heap.size, 0, none⟩ 1 1 [.float .f64 x] rfl rfl (cell_one_new _ _ _) (by simp [Value.oneCell']) (by unfold maxLen; omega) (by omega) (by simp; omega) ?_; intro v' w4 ho4 hg4 _)
          | go_in)
        have HB4 := hid ((HW.out.alloc (by omega) _).grown hg4 (by simp; omega) (fun g hg => (ho.lt g hg).1))
        have HO4 := hid ho4
        clear hg4 ho4 ho
        go_wp2_with fail
        go_roundw
        case rel =>
          refine ⟨i + 1, by omega, by omega, by go_num, ?_, HB4.out⟩
          rw [HT.out, List.length_append, List.map_append]
          exact HO4.out
        case measure => simp [intOf]; omega
    · obtain rfl : i = hi' := by omega
      have hkk : ¬ (i : Int) < (i : Int) := by omega
      go_wp2_with fail
      go_ret
      exact ⟨_, rfl, by rw [HN.out]; exact HO.out, HW.out⟩
set_option maxHeartbeats 1600000 in
set_option maxRecDepth 100000 in
theorem estands_any (h L : Nat) (a : Option Addr) (n cap : Nat) (S : List Nat) (w : World) (hn : n ≤ 100000) (hl : S.length = n) (hS : ∀ x ∈ S, x < 18446744073709551616) (hh : Fi h) (hR : RdH w a S) :
    Calls Try.prog 33 #[.float .f64 h, .slice a n cap, .float .f64 L] w fun e w' => ∃ (r : Nat) (o : Bool), e = .returned (.bool (o && gtB h r L)) ∧ Hid (MedT (srtF S) r o) ∧ Below w.heap.size w w' := by
  have HM := hid (emedian_any a n cap S w (by omega) hl hS hR)
  have HF := hid (srtF_fi hS)
  clear hR hS hl
  generalize srtF S = T at *
  go_enter Try.func33, Try.ntmps33
  go_wp2_with fail
  refine Calls.mono HM.out ?_
  rintro e w1 ⟨r, o, rfl, HT, hb⟩
  have HB := hid hb
  clear hb HM
  cases o
  · go_wp2_with fail
    go_ret
    exact ⟨r, false, rfl, HT.out, HB.out⟩
  · have hr : Fi r := HT.out.fi HF.out
    obtain ⟨hd, hnf⟩ := dif_run hh hr
    have rS : ∀ V, (binOp .sub 22 (.float .f64 h) (.float .f64 r)).run Try.prog V = .ok (.float .f64 (dif h r)) V := fun V => run_float_arith V _ _ _ _ _ _ hd
    have HA := hid (mAbs_any (dif h r) w1 hnf.1)
    have hG : (FloatKind.f64.format.order (dif h r % 9223372036854775808) L == some .gt) = gtB h r L := rfl
    obtain ⟨G, hGG⟩ : ∃ G, gtB h r L = G := ⟨_, rfl⟩
    have HG := hid hGG
    rw [hGG] at hG
    generalize dif h r = D at *
    clear hd hnf hh hr hGG HF
    go_wp2_with fail
    refine Calls.mono HA.out ?_
    rintro e w2 ⟨rfl, rfl⟩
    clear HA
    go_wp2_with fail
    go_ret
    exact ⟨r, true, by rw [HG.out]; rfl, HT.out, HB.out⟩
theorem elow_iff {x : Nat} (hx : Fi x) : (FloatKind.f64.format.order x 0 == some .lt) = decide (sv x < 0) := by
  have h0 : sv 0 = 0 := by decide
  have q := elt_iff hx (show Fi 0 by unfold Fi; decide)
  rw [h0] at q
  exact q
set_option maxHeartbeats 1600000 in
set_option maxRecDepth 100000 in
theorem echeck_any (n : Nat) (d : Int) (L : Nat) (w : World) (hL : L < 18446744073709551616) :
    Calls Try.prog 32 #[.int .i64 (n : Int), .int .i64 d, .float .f64 L] w fun e w' => e = .returned (.int .i64 (errP n d L)) ∧ w' = w := by
  have HO := hid (eisone_any L w hL)
  by_cases h1 : 4096 < n
  · have h1' : (4096 : Int) < (n : Int) := by omega
    have HE : Hid (errP n d L = 3) := by show _ = _; unfold errP; rw [if_pos h1]
    go_enter Try.func32, Try.ntmps32
    go_wp2_with fail
    go_ret
    exact ⟨by rw [HE.out]; rfl, rfl⟩
  · have h1' : ¬ (4096 : Int) < (n : Int) := by omega
    by_cases h2 : d < 1
    · have HE : Hid (errP n d L = 2) := by show _ = _; unfold errP; rw [if_neg h1, if_pos (.inl h2)]
      go_enter Try.func32, Try.ntmps32
      go_wp2_with fail
      go_ret
      exact ⟨by rw [HE.out]; rfl, rfl⟩
    · by_cases h3 : 16 < d
      · have HE : Hid (errP n d L = 2) := by show _ = _; unfold errP; rw [if_neg h1, if_pos (.inr h3)]
        go_enter Try.func32, Try.ntmps32
        go_wp2_with fail
        go_ret
        exact ⟨by rw [HE.out]; rfl, rfl⟩
      · cases hone : isone L
        · have HE : Hid (errP n d L = 8) := by show _ = _; unfold errP; rw [if_neg h1, if_neg (by omega), if_pos hone]
          rw [hone] at HO
          clear hone
          go_enter Try.func32, Try.ntmps32
          go_wp2_with fail
          refine Calls.mono HO.out ?_
          rintro e w2 ⟨rfl, rfl⟩
          go_wp2_with fail
          go_ret
          exact ⟨by rw [HE.out]; rfl, rfl⟩
        · have hlo := elow_iff (Fi.of hL hone)
          by_cases h4 : sv L < 0
          · have HE : Hid (errP n d L = 2) := by show _ = _; unfold errP; rw [if_neg h1, if_neg (by omega), if_neg (by rw [hone]; simp), if_pos h4]
            rw [hone] at HO
            rw [decide_eq_true h4] at hlo
            clear hone h4
            go_enter Try.func32, Try.ntmps32
            go_wp2_with fail
            refine Calls.mono HO.out ?_
            rintro e w2 ⟨rfl, rfl⟩
            go_wp2_with fail
            go_ret
            exact ⟨by rw [HE.out]; rfl, rfl⟩
          · have HE : Hid (errP n d L = 0) := by show _ = _; unfold errP; rw [if_neg h1, if_neg (by omega), if_neg (by rw [hone]; simp), if_neg h4]
            rw [hone] at HO
            rw [decide_eq_false h4] at hlo
            clear hone h4
            go_enter Try.func32, Try.ntmps32
            go_wp2_with fail
            refine Calls.mono HO.out ?_
            rintro e w2 ⟨rfl, rfl⟩
            go_wp2_with fail
            go_ret
            exact ⟨by rw [HE.out]; rfl, rfl⟩
end Go.Proofs.Ytmigdomlakflfaa

/- package clean's Spikes: of any samples the places of what stands out. -/
namespace Go.Proofs.Ytmigdomlakflfaa
open Go.RowKit
set_option linter.unusedVariables false
set_option linter.unusedSimpArgs false

/-- Places in memory. -/
noncomputable def spV (xs : List (Int × Nat)) (w L k : Nat) : List Value := (spL xs w L k).map (fun i : Nat => Value.int .i64 (i : Int))
/-- What Spikes tells. -/
def SpkT (w : World) (n : Nat) (xs : List (Int × Nat)) (d : Int) (L : Nat) (e : Ending) (w' : World) : Prop := ∃ v err, e = .returned (.tuple #[v, .int .i64 err]) ∧ Hid (err = errP n d L) ∧ Hid ((err ≠ 0 ∧ v = .slice none 0 0) ∨ (err = 0 ∧ w'.ownsRow w.heap.size 3 1 v (spL xs d.toNat L n).length (spV xs d.toNat L n))) ∧ Below w.heap.size w w'
set_option maxHeartbeats 6400000 in
set_option maxRecDepth 100000 in
theorem eSpikes_any (a : Option Addr) (n cap : Nat) (xs : List (Int × Nat)) (d : Int) (L : Nat) (w : World) (hl : xs.length = n) (hx : ∀ p ∈ xs, p.2 < 18446744073709551616) (hL : L < 18446744073709551616) (h : RdS w a xs) :
    Calls Try.prog 12 #[.slice a n cap, .int .i64 d, .float .f64 L] w (SpkT w n xs d L) := by
  have HC := hid (echeck_any n d L w hL)
  by_cases he : errP n d L = 0
  · obtain ⟨hn, hd1, hd2, hfL, hL0⟩ := errP_good hL he
    have HE := hid he
    rw [he] at HC
    obtain ⟨dd, rfl⟩ : ∃ k : Nat, d = (k : Int) := ⟨d.toNat, by omega⟩
    obtain ⟨i0, hi, hz0, hz1, hz2⟩ := info_parts Try.yinfoI
    have HD := hid h
    have HX := hid hx
    clear h hx he
    go_enter Try.func12, Try.ntmps12
    go_wp2_with fail
    refine Calls.mono HC.out ?_
    rintro e w0 ⟨rfl, rfl⟩
    clear HC
    go_wp2_with fail
    have sF : ∀ (W : World) (p : Addr) (y : Nat) (md : Mode), (store p (.float .f64 y) md).run Try.prog W = stored Try.prog W p (.float .f64 y) md := fun W p y md => rstore_flt Try.prog W p .f64 y md
    go_loopw [9, 22] (fun v x wr => ∃ k : Nat, k ≤ n ∧ x = .int .i64 (k : Int) ∧ Hid (wr.ownsRow w0.heap.size 3 1 v (spL xs dd L k).length (spV xs dd L k)) ∧ Hid (Below w0.heap.size w0 wr)) (fun _ x _ => n - (intOf x).toNat)
    case atStart => exact ⟨0, Nat.zero_le _, rfl, World.ownsRow_nil _ _ _ _, Below.refl _ _⟩
    case round =>
      obtain ⟨k, hk, rfl, HO, HW⟩ := hrel
      by_cases hlt : k < n
      · obtain ⟨q, hq⟩ : ∃ p, xs[k]? = some p := ⟨_, List.getElem?_eq_getElem (by omega)⟩
        obtain ⟨t, c⟩ := q
        have hcb := HX.out _ (List.mem_of_getElem? hq)
        obtain ⟨g, o, rfl, hg, hc⟩ := HD.out.get hq
        obtain ⟨c0, c1⟩ : wr.cell? ⟨g, o + k * 2, none⟩ = some (.int .i64 t) ∧ wr.cell? ⟨g, o + k * 2 + 1, none⟩ = some (.float .f64 c) := ⟨(HW.out.cell (p := ⟨g, o + k * 2, none⟩) hg).trans (hc _ _ hq).1, (HW.out.cell (p := ⟨g, o + k * 2 + 1, none⟩) hg).trans (hc _ _ hq).2⟩
        have HQ := hid hq
        obtain ⟨Y, A0, A1, hY, hA0, hA1, ⟨y0, y1⟩, ⟨f0, f1⟩, ⟨z0, z1⟩, HBX⟩ := ybox2 wr 32 (.int .i64 0) (.float .f64 0) (.int .i64 t) (.float .f64 c)
        have HWA := hid (ybt' HW.out HBX.out.2)
        have HOA := hid (yowns_later HO.out HBX.out.2)
        have hszA := HWA.out.size
        have HOne := hid (fun V => eisone_any c V hcb)
        have hkn : (k : Int) < (n : Int) := by omega
        have hk0 : (0 : Int) ≤ (k : Int) := by omega
        have hs0 : A1.drew.cell? ⟨wr.heap.size, 1, none⟩ = some (.float .f64 c) := z1
        clear hc hq
        cases hone : isone c
        · have HN := hid (spL_no (StP.no1 (w := dd) (L := L) HQ.out hone))
          rw [hone] at HOne
          clear hone
          go_wp2_with fail
          clear hY hA0 hA1 y0 y1 f0 f1 c0 c1
          go_quiet ((go_at_call 31; exact Calls.quiet_of_same (HOne.out _)))
          go_wp2_with fail
          refine ⟨⟨k + 1, by omega, by go_num, ?_, ydrewMM HWA.out⟩, by simp [intOf]; omega⟩
          unfold spV
          rw [HN.out]
          exact yowns_later HOA.out (ydrewMM (Below.refl _ _))
        · have HFc : Hid (Fi c) := Fi.of hcb hone
          rw [hone] at HOne
          have HONE := hid hone
          clear hone hcb
          have HBe : Hid (∀ V, Below w0.heap.size w0 V → Calls Try.prog 34 #[.slice (some ⟨g, o, none⟩) n cap, .int .i64 (k : Int), .int .i64 (dd : Int)] V fun e w' => ∃ v : Value, e = .returned v ∧ Hid (w'.ownsRow V.heap.size 22 1 v (nearP xs k dd).length ((nearP xs k dd).map (Value.float .f64))) ∧ Below V.heap.size V w') := fun V hV => ebeside_any _ n cap xs k dd V hn hl hlt (by omega) (by omega) (HD.out.later (B := 0) hV)
          have HNb : Hid (∀ x ∈ nearP xs k dd, x < 18446744073709551616) := nearG_lt HX.out _ _ _
          have hNl : (nearP xs k dd).length ≤ 100000 := Nat.le_trans (nearG_len _ _ _ _) (by omega)
          go_wp2_with fail
          clear hY hA0 hA1 y0 y1 f0 f1 c0 c1
          go_region_held3 (fun V : World => V.cell? ⟨wr.heap.size, 1, none⟩ = some (.float .f64 c)) (first | exact hs0 | exact hs2 | exact hs3)
            (first
              | (go_at_call 31; (with_reducible refine Calls.mono (HOne.out _) ?_); rintro e w2 ⟨rfl, rfl⟩)
              | (go_at_call 34; (with_reducible refine Calls.mono (HBe.out _ HWA.out.drew) ?_); rintro e w2 ⟨v2, rfl, HO2, hb2⟩; obtain ⟨a2, c2, rfl, hV2⟩ := yshape HO2.out; have HV2 := hid (RdH.of hV2); have HB2 := hid hb2; have hs2 : w2.cell? ⟨wr.heap.size, 1, none⟩ = some (.float .f64 c) := (hb2.cell (p := ⟨wr.heap.size, 1, none⟩) HBX.out.1.lt).trans z1)
              | (go_at_call 33; refine Calls.mono (estands_any c L _ _ _ (nearP xs k dd) _ hNl rfl HNb.out HFc.out HV2.out) ?_; rintro e w3 ⟨r3, o3, rfl, HT3, hb3⟩; have hs3 : w3.cell? ⟨wr.heap.size, 1, none⟩ = some (.float .f64 c) := (hb3.cell (p := ⟨wr.heap.size, 1, none⟩) (Nat.lt_of_lt_of_le HBX.out.1.lt HB2.out.size)).trans hs2; have HB3 := hid hb3))
          all_goals
            have HB9 := hid (ybt' (ybt' HWA.out.drew HB2.out) HB3.out)
            have HO9 := hid (yowns_later (yowns_later HOA.out ((Below.refl _ _).drew)) (ybt' HB2.out HB3.out))
            obtain ⟨b, hb⟩ : ∃ b, (o3 && gtB c r3 L) = b := ⟨_, rfl⟩
            have HBB := hid hb
            rw [hb]
            clear hs0 hs2 hs3 hb2 hb3 hb HOA HWA HBe HOne HO HV2 HO2 hV2
            cases b
            · have HN := hid (spL_no (StP.no2 HX.out HQ.out HT3.out HBB.out))
              go_wp2_with fail
              refine ⟨⟨k + 1, by omega, by go_num, ?_, HB9.out⟩, by simp [intOf]; omega⟩
              unfold spV
              rw [HN.out]
              exact HO9.out
            · have HN := hid (spL_yes (StP.yes HQ.out HONE.out HT3.out HBB.out))
              have ho := HO9.out
              have hsz := HB9.out.size
              have hle : (spL xs dd L k).length ≤ k := spL_len _ _ _ _
              go_wp2_with (first
                | (at_builtin; refine wpList_append_own _ rfl _ _ 40 rfl w0.heap.size 3 i0 (.int .i64 0) 1 8 Try.underlying40 hi hz0 hz1 hz2 rfl (by decide) _ _ _ rfl (ho.alloc _) ⟨w3.heap.size, 0, none⟩ 1 1 [.int .i64 (k : Int)] rfl rfl (cell_one_new _ _ _) (by simp [Value.oneCell']) (by unfold maxLen; omega) (by omega) (by simp; omega) ?_; intro v' w4 ho4 hg4 _)
                | go_in)
              have HB4 := hid ((HB9.out.alloc (by omega) _).grown hg4 (by simp; omega) (fun g hg => (ho.lt g hg).1))
              have HO4 := hid ho4
              clear hg4 ho4 ho
              go_wp2_with fail
              refine ⟨⟨k + 1, by omega, by go_num, ?_, HB4.out⟩, by simp [intOf]; omega⟩
              have e : spV xs dd L (k + 1) = spV xs dd L k ++ [.int .i64 (k : Int)] := by unfold spV; rw [HN.out, List.map_append]; rfl
              rw [e, HN.out, List.length_append]
              exact HO4.out
      · obtain rfl : k = n := by omega
        have hkk : ¬ (k : Int) < (k : Int) := by omega
        go_wp2_with fail
        go_returns
        exact ⟨_, 0, rfl, HE.out.symm, .inr ⟨rfl, HO.out⟩, HW.out⟩
  · have HE := hid he
    generalize hz : errP n d L = z at *
    have hz2 : ¬ z = 0 := he
    have HZ := hid hz
    clear h hx hz he
    go_enter Try.func12, Try.ntmps12
    go_wp2_with fail
    refine Calls.mono HC.out ?_
    rintro e w0 ⟨rfl, rfl⟩
    clear HC
    go_wp2_with fail
    go_returns
    exact ⟨_, z, rfl, HZ.out.symm, .inl ⟨HE.out, rfl⟩, Below.refl _ _⟩
end Go.Proofs.Ytmigdomlakflfaa

/- The examples of chapter 20, no program: what each call comes to. -/
namespace Go.Proofs.Ytmigdomlakflfaa
open Go.RowKit
set_option linter.unusedVariables false
set_option linter.unusedSimpArgs false
set_option maxRecDepth 10000

theorem ng_s1 : srtF [4607182418800017408, 4611686018427387904, 4616752568008179712] = [4607182418800017408, 4611686018427387904, 4616752568008179712] := srtF_eq (by decide +kernel) (by decide +kernel)
theorem ng_s2 : srtF [9221120237041090561, 9218868437227405312, 4613937818241073152] = [4613937818241073152] := srtF_eq (by decide +kernel) (by decide +kernel)
theorem ng_s3 : srtF ([] : List Nat) = [] := srtF_eq (by decide +kernel) (by decide +kernel)
theorem ng_s4 : srtF [9214871658872686752, 9214871658872686752] = [9214871658872686752, 9214871658872686752] := srtF_eq (by decide +kernel) (by decide +kernel)
theorem ng_s5 : srtF [9221120237041090561] = [] := srtF_eq (by decide +kernel) (by decide +kernel)
theorem ng_s6 : srtF [4611686018427387904] = [4611686018427387904] := srtF_eq (by decide +kernel) (by decide +kernel)
theorem ng_s7 : srtF [4617315517961601024, 4619567317775286272] = [4617315517961601024, 4619567317775286272] := srtF_eq (by decide +kernel) (by decide +kernel)
theorem ng_n0 : srtF [4607182418800017408, 4621256167635550208] = [4607182418800017408, 4621256167635550208] := srtF_eq (by decide +kernel) (by decide +kernel)
theorem ng_n1 : srtF [4607182418800017408, 4621256167635550208, 4607182418800017408] = [4607182418800017408, 4607182418800017408, 4621256167635550208] := srtF_eq (by decide +kernel) (by decide +kernel)
theorem ng_n2 : srtF [4607182418800017408, 4607182418800017408, 4607182418800017408, 4607182418800017408] = [4607182418800017408, 4607182418800017408, 4607182418800017408, 4607182418800017408] := srtF_eq (by decide +kernel) (by decide +kernel)
theorem ng_n4 : srtF [4621256167635550208, 4607182418800017408] = [4607182418800017408, 4621256167635550208] := srtF_eq (by decide +kernel) (by decide +kernel)
theorem ng_m1 : MeanT [4607182418800017408, 4611686018427387904, 4616752568008179712] 4612811918334230528 0 := .inr ⟨by simp, 4612811918334230528, FN.some (by decide +kernel), .inl ⟨by decide, rfl, rfl⟩⟩
theorem ng_m2 : MeanT [4613937818241073152] 4613937818241073152 0 := .inr ⟨by simp, 4613937818241073152, FN.some (by decide +kernel), .inl ⟨by decide, rfl, rfl⟩⟩
theorem ng_m3 : MeanT [] 0 0 := .inl ⟨rfl, rfl, rfl⟩
theorem ng_m4 : MeanT [9214871658872686752, 9214871658872686752] 0 9 := .inr ⟨by simp, 9218868437227405312, FN.some (by decide +kernel), .inr ⟨by decide, rfl, rfl⟩⟩
theorem ng_m6 : MeanT [4611686018427387904] 4611686018427387904 0 := .inr ⟨by simp, 4611686018427387904, FN.some (by decide +kernel), .inl ⟨by decide, rfl, rfl⟩⟩
theorem ng_m7 : MeanT [4617315517961601024, 4619567317775286272] 4618441417868443648 0 := .inr ⟨by simp, 4618441417868443648, FN.some (by decide +kernel), .inl ⟨by decide, rfl, rfl⟩⟩
theorem ng_d4 : MedT [9214871658872686752, 9214871658872686752] 9214871658872686752 true := .inr (.inr ⟨by simp, by decide, rfl, 9214871658872686752, 9214871658872686752, 9210368059245316256, 9210368059245316256, rfl, rfl, FN.some (by decide +kernel), FN.some (by decide +kernel), FN.some (by decide +kernel)⟩)
theorem ng_d5 : MedT [] 0 false := .inl ⟨rfl, rfl, rfl⟩
theorem ng_d0 : MedT [4607182418800017408, 4621256167635550208] 4617315517961601024 true := .inr (.inr ⟨by simp, by decide, rfl, 4607182418800017408, 4621256167635550208, 4602678819172646912, 4616752568008179712, rfl, rfl, FN.some (by decide +kernel), FN.some (by decide +kernel), FN.some (by decide +kernel)⟩)
theorem ng_d1 : MedT [4607182418800017408, 4607182418800017408, 4621256167635550208] 4607182418800017408 true := .inr (.inl ⟨by decide, rfl, rfl⟩)
theorem ng_d2 : MedT [4607182418800017408, 4607182418800017408, 4607182418800017408, 4607182418800017408] 4607182418800017408 true := .inr (.inr ⟨by simp, by decide, rfl, 4607182418800017408, 4607182418800017408, 4602678819172646912, 4602678819172646912, rfl, rfl, FN.some (by decide +kernel), FN.some (by decide +kernel), FN.some (by decide +kernel)⟩)
/-- The samples of the example. -/
def ngS : List (Int × Nat) := [(0, 4607182418800017408), (0, 4607182418800017408), (0, 4621256167635550208), (0, 4607182418800017408), (0, 4607182418800017408)]
theorem StP_is {xs : List (Int × Nat)} {w L i : Nat} {t : Int} {h r : Nat} {N S : List Nat} (h1 : xs[i]? = some (t, h)) (h2 : isone h = true) (hN : nearP xs i w = N) (hS : srtF N = S) (hf : ∀ x ∈ S, Fi x) (hm : MedT S r true) : StP xs w L i ↔ gtB h r L = true := by
  constructor
  · rintro ⟨t', h', e, _, r', m', g⟩
    rw [h1] at e
    injection e with e
    injection e with e1 e2
    subst e2
    rw [hN, hS] at m'
    rw [(hm.one hf m').1]
    exact g
  · intro g
    exact ⟨t, h, h1, h2, r, by rw [hN, hS]; exact hm, g⟩
theorem ng_p0 (L : Nat) : StP ngS 2 L 0 ↔ gtB 4607182418800017408 4617315517961601024 L = true := StP_is (t := 0) (h := 4607182418800017408) (N := [4607182418800017408, 4621256167635550208]) rfl (by decide) (by decide +kernel) ng_n0 (by unfold Fi; decide +kernel) ng_d0
theorem ng_p1 (L : Nat) : StP ngS 2 L 1 ↔ gtB 4607182418800017408 4607182418800017408 L = true := StP_is (t := 0) (h := 4607182418800017408) (N := [4607182418800017408, 4621256167635550208, 4607182418800017408]) rfl (by decide) (by decide +kernel) ng_n1 (by unfold Fi; decide +kernel) ng_d1
theorem ng_p2 (L : Nat) : StP ngS 2 L 2 ↔ gtB 4621256167635550208 4607182418800017408 L = true := StP_is (t := 0) (h := 4621256167635550208) (N := [4607182418800017408, 4607182418800017408, 4607182418800017408, 4607182418800017408]) rfl (by decide) (by decide +kernel) ng_n2 (by unfold Fi; decide +kernel) ng_d2
theorem ng_p3 (L : Nat) : StP ngS 2 L 3 ↔ gtB 4607182418800017408 4607182418800017408 L = true := StP_is (t := 0) (h := 4607182418800017408) (N := [4607182418800017408, 4621256167635550208, 4607182418800017408]) rfl (by decide) (by decide +kernel) ng_n1 (by unfold Fi; decide +kernel) ng_d1
theorem ng_p4 (L : Nat) : StP ngS 2 L 4 ↔ gtB 4607182418800017408 4617315517961601024 L = true := StP_is (t := 0) (h := 4607182418800017408) (N := [4621256167635550208, 4607182418800017408]) rfl (by decide) (by decide +kernel) ng_n4 (by unfold Fi; decide +kernel) ng_d0
theorem ng_sp5 : spL ngS 2 4617315517961601024 5 = [2] := by
  have h0 : ¬ StP ngS 2 4617315517961601024 0 := by rw [ng_p0]; decide +kernel
  have h1 : ¬ StP ngS 2 4617315517961601024 1 := by rw [ng_p1]; decide +kernel
  have h2 : StP ngS 2 4617315517961601024 2 := by rw [ng_p2]; decide +kernel
  have h3 : ¬ StP ngS 2 4617315517961601024 3 := by rw [ng_p3]; decide +kernel
  have h4 : ¬ StP ngS 2 4617315517961601024 4 := by rw [ng_p4]; decide +kernel
  rw [spL_no h4, spL_no h3, spL_yes h2, spL_no h1, spL_no h0]
  rfl
theorem ng_sp3 : spL ngS 2 4613937818241073152 5 = [0, 2, 4] := by
  have h0 : StP ngS 2 4613937818241073152 0 := by rw [ng_p0]; decide +kernel
  have h1 : ¬ StP ngS 2 4613937818241073152 1 := by rw [ng_p1]; decide +kernel
  have h2 : StP ngS 2 4613937818241073152 2 := by rw [ng_p2]; decide +kernel
  have h3 : ¬ StP ngS 2 4613937818241073152 3 := by rw [ng_p3]; decide +kernel
  have h4 : StP ngS 2 4613937818241073152 4 := by rw [ng_p4]; decide +kernel
  rw [spL_yes h4, spL_no h3, spL_yes h2, spL_no h1, spL_yes h0]
  rfl
theorem ng_sp8 : spL ngS 2 4620693217682128896 5 = [] := by
  have h0 : ¬ StP ngS 2 4620693217682128896 0 := by rw [ng_p0]; decide +kernel
  have h1 : ¬ StP ngS 2 4620693217682128896 1 := by rw [ng_p1]; decide +kernel
  have h2 : ¬ StP ngS 2 4620693217682128896 2 := by rw [ng_p2]; decide +kernel
  have h3 : ¬ StP ngS 2 4620693217682128896 3 := by rw [ng_p3]; decide +kernel
  have h4 : ¬ StP ngS 2 4620693217682128896 4 := by rw [ng_p4]; decide +kernel
  rw [spL_no h4, spL_no h3, spL_no h2, spL_no h1, spL_no h0]
  rfl
theorem ng_e5 : errP 5 2 4617315517961601024 = 0 := by decide +kernel
theorem ng_e3 : errP 5 2 4613937818241073152 = 0 := by decide +kernel
theorem ng_e8 : errP 5 2 4620693217682128896 = 0 := by decide +kernel
theorem ng_eN : errP 5 2 9221120237041090561 = 8 := by decide +kernel
theorem ng_em : errP 5 2 13830554455654793216 = 2 := by decide +kernel
theorem ng_e0 : errP 5 0 9221120237041090561 = 2 := by decide +kernel
/-- What is merged in the example. -/
def ngF : List (Int × Nat) := [(1, 4611686018427387904), (3, 4617315517961601024), (3, 4619567317775286272), (2, 9221120237041090561)]
theorem ng_all : MrA ngF [(1, 4611686018427387904), (3, 4618441417868443648)] := by
  refine ⟨by decide +kernel, fun p hp h1 => ?_, fun q hq => ?_⟩
  · simp only [ngF, List.mem_cons, List.not_mem_nil, or_false] at hp
    rcases hp with rfl | rfl | rfl | rfl
    · exact ⟨_, List.mem_cons_self, rfl⟩
    · exact ⟨_, List.mem_cons_of_mem _ List.mem_cons_self, rfl⟩
    · exact ⟨_, List.mem_cons_of_mem _ List.mem_cons_self, rfl⟩
    · exact absurd h1 (by decide)
  · simp only [List.mem_cons, List.not_mem_nil, or_false] at hq
    rcases hq with rfl | rfl
    · refine ⟨⟨_, List.mem_cons_self, by decide, rfl⟩, ?_⟩
      rw [show hgtAt (1 : Int) ngF = [4611686018427387904] by decide +kernel, ng_s6]
      exact ng_m6
    · refine ⟨⟨_, List.mem_cons_of_mem _ List.mem_cons_self, by decide, rfl⟩, ?_⟩
      rw [show hgtAt (3 : Int) ngF = [4617315517961601024, 4619567317775286272] by decide +kernel, ng_s7]
      exact ng_m7
theorem ng_merge {c : Int × Int} {e i : Int} {M : List (Int × Nat)} (hc : c = (0, 0)) (h : MgO ngF c e i M) : e = 0 ∧ i = 0 ∧ M = [(1, 4611686018427387904), (3, 4618441417868443648)] := by
  subst hc
  have g : MgO ngF (0, 0) 0 0 [(1, 4611686018427387904), (3, 4618441417868443648)] := .inr (.inr ⟨rfl, _, ng_all, .inr ⟨by decide, rfl, rfl, rfl⟩⟩)
  exact h.one g
theorem MgO.bad {F : List (Int × Nat)} {c : Int × Int} {e i : Int} {M : List (Int × Nat)} (hc : c ≠ (0, 0)) (h : MgO F c e i M) : (e, i) = c := by
  rcases h with ⟨_, h2, _⟩ | ⟨h1, _⟩ | ⟨h1, _⟩
  · exact h2
  · exact absurd h1 hc
  · exact absurd h1 hc
theorem FilP.three {p q s : Int × Nat} {F : List (Int × Nat)} (h : FilP [p, q, s] F) : ∃ F' M, FilP [p, q] F' ∧ LineL q s M ∧ F = F' ++ M ++ [s] := FilP.snoc (O := [p]) h
theorem ng_fill {F : List (Int × Nat)} (h : FilP (onesL [(1, 0), (4, 4613937818241073152), (9, 4613937818241073152)] true) F) : F = [(1, 0), (2, 4607182418800017408), (3, 4611686018427387904), (4, 4613937818241073152), (9, 4613937818241073152)] := by
  rw [show onesL [(1, 0), (4, 4613937818241073152), (9, 4613937818241073152)] true = [(1, 0), (4, 4613937818241073152), (9, 4613937818241073152)] by decide +kernel] at h
  obtain ⟨F', M, h1, h2, rfl⟩ := h.three
  have e := live_fill (by rw [show onesL [(1, 0), (4, 4613937818241073152)] true = [(1, 0), (4, 4613937818241073152)] by decide +kernel]; exact h1)
  subst e
  rcases h2 with ⟨_, rfl⟩ | ⟨h2, h3, _⟩
  · rfl
  · exact absurd h2 (by decide)
end Go.Proofs.Ytmigdomlakflfaa

/- The law CleanNames answers true. -/
namespace Go.Proofs.Ytmigdomlakflfaa
open Go.RowKit
set_option linter.unusedVariables false
set_option linter.unusedSimpArgs false

theorem ngV {W : World} {b t : Nat} {vs : Array Value} {l : List Value} (h : FBox W b t vs) (e : vs = l.toArray) : RdV W (some ⟨b, 0, none⟩) l :=
  .inr ⟨b, rfl, h.lt, fun j u hj => by rw [h.cell j, e]; simpa using hj⟩
theorem ng64 {xs : List (Int × Nat)} (h : ∀ p ∈ xs, (-9223372036854775808 ≤ p.1 ∧ p.1 ≤ 9223372036854775807) ∧ p.2 < 18446744073709551616) : ∀ p ∈ xs, I64 p.1 ∧ p.2 < 18446744073709551616 := fun p hp => ⟨(h p hp).1, (h p hp).2⟩
theorem ngRdL2 {W : World} {c t : Nat} {a b : Addr} {na nb ca cb : Nat} {xs ys : List (Int × Nat)} (h : FBox W c t #[.slice (some a) na ca, .slice (some b) nb cb]) (hx : RdV W (some a) (smC xs)) (hy : RdV W (some b) (smC ys)) (h1 : ∀ p ∈ xs, I64 p.1 ∧ p.2 < 18446744073709551616) (h2 : ∀ p ∈ ys, I64 p.1 ∧ p.2 < 18446744073709551616) (e1 : xs.length = na := by rfl) (e2 : ys.length = nb := by rfl) :
    RdL W (some ⟨c, 0, none⟩) [⟨some a, ca, xs⟩, ⟨some b, cb, ys⟩] := by
  subst e1 e2
  refine ⟨.inr ⟨c, 0, rfl, h.lt, fun j p hj => ?_⟩, fun p hp => ?_⟩
  · match j, hj with
    | 0, hj => injection hj with hj; subst hj; exact h.cell 0
    | 1, hj => injection hj with hj; subst hj; exact h.cell 1
  · simp only [List.mem_cons, List.not_mem_nil, or_false] at hp
    rcases hp with rfl | rfl
    · exact ⟨RdS.of hx, (fun e => by cases e), h1⟩
    · exact ⟨RdS.of hy, (fun e => by cases e), h2⟩
theorem ngRdL1 {W : World} {c t : Nat} {b : Addr} {nb cb : Nat} {ys : List (Int × Nat)} (h : FBox W c t #[.slice none 0 0, .slice (some b) nb cb]) (hy : RdV W (some b) (smC ys)) (h2 : ∀ p ∈ ys, I64 p.1 ∧ p.2 < 18446744073709551616) (e2 : ys.length = nb := by rfl) :
    RdL W (some ⟨c, 0, none⟩) [⟨none, 0, []⟩, ⟨some b, cb, ys⟩] := by
  subst e2
  refine ⟨.inr ⟨c, 0, rfl, h.lt, fun j p hj => ?_⟩, fun p hp => ?_⟩
  · match j, hj with
    | 0, hj => injection hj with hj; subst hj; exact h.cell 0
    | 1, hj => injection hj with hj; subst hj; exact h.cell 1
  · simp only [List.mem_cons, List.not_mem_nil, or_false] at hp
    rcases hp with rfl | rfl
    · exact ⟨.inl rfl, (fun _ => ⟨rfl, rfl⟩), by simp⟩
    · exact ⟨RdS.of hy, (fun e => by cases e), h2⟩
theorem ng17 (w : World) : RdL (w.alloc (.cells (madeCells #[.slice none 0 0] 17) 25)) (some ⟨w.heap.size, 0, none⟩) (List.replicate 17 ⟨none, 0, []⟩) := by
  have h := FBox.made w 25 (madeCells #[.slice none 0 0] 17)
  refine ⟨.inr ⟨w.heap.size, 0, rfl, h.lt, fun j p hj => ?_⟩, fun p hp => ?_⟩
  · rw [List.getElem?_replicate] at hj
    split at hj
    · injection hj with hj
      subst hj
      rw [Nat.zero_add, h.cell j]
      rename_i hlt
      simp only [madeCells, Array.getElem?_map, Array.getElem?_range, hlt, if_true, Option.map_some, List.size_toArray, List.length_singleton, Nat.mod_one]
      rfl
    · cases hj
  · rw [List.eq_of_mem_replicate hp]
    exact ⟨.inl rfl, (fun _ => ⟨rfl, rfl⟩), by simp⟩
theorem ng_make (w : World) : (Instr.makeSlice 33 (.int .i64 17) (.int .i64 17)).run Try.prog w = .ok (.slice (some ⟨w.heap.size, 0, none⟩) 17 17) (w.alloc (.cells (madeCells #[.slice none 0 0] 17) 25)) :=
  run_make_row' 33 25 (.slice none 0 0) 24 Try.underlying33 Try.yinfoSS rfl .i64 .i64 17 (by decide) (by decide) w
theorem ng_good : goodS [(1, 0), (4, 4613937818241073152), (9, 4613937818241073152)] := ⟨by decide, by decide, fun p hp => by
  simp only [List.mem_cons, List.not_mem_nil, or_false] at hp
  rcases hp with rfl | rfl | rfl <;> exact ⟨by decide, by decide⟩⟩
theorem ng_notgood : ¬ goodS ngS := fun h => by
  have := h.2.1
  revert this
  decide
theorem ng_npl : ¬ goodP [1, 0] 5 := fun h => by
  have := h.1
  revert this
  decide
theorem ng_pl : goodP [0, 2] 5 := ⟨by decide, by decide⟩
theorem ng_wo : (woL ngS [0, 2] 5).length = 3 := by decide
set_option maxHeartbeats 12800000 in
set_option maxRecDepth 100000 in
theorem cleanNames_any (w : World) : Calls Try.prog 3 #[] w fun e w' => e = .returned (.bool true) ∧ Below w.heap.size w w' := by
  go_enter Try.func3, Try.ntmps3
  go_wp2_with fail
  refine Calls.mono (mNaN_any w) ?_
  rintro e w0 ⟨rfl, h0⟩
  rw [h0]
  clear h0 w0
  go_wp2_with fail
  refine Calls.mono (mInf_any w) ?_
  rintro e w0 ⟨rfl, h0⟩
  rw [h0]
  clear h0 w0
  obtain ⟨X1, hX1⟩ : ∃ X1, w.alloc (.cells #[.int .i64 1, .float .f64 4611686018427387904, .int .i64 3, .float .f64 4617315517961601024] 32) = X1 := ⟨_, rfl⟩
  have HBX1 : Hid (Below w.heap.size w X1) := by rw [← hX1]; exact (Below.refl _ _).alloc (Nat.le_refl _) _
  have BW2 := hid HBX1.out
  have lA_1 : Hid (FBox X1 w.heap.size 32 #[.int .i64 1, .float .f64 4611686018427387904, .int .i64 3, .float .f64 4617315517961601024]) := by rw [← hX1]; exact FBox.made _ _ _
  obtain ⟨X3, hX3⟩ : ∃ X3, X1.alloc (.cells #[.int .i64 3, .float .f64 4619567317775286272, .int .i64 2, .float .f64 9221120237041090561] 32) = X3 := ⟨_, rfl⟩
  have HBX3 : Hid (Below X1.heap.size X1 X3) := by rw [← hX3]; exact (Below.refl _ _).alloc (Nat.le_refl _) _
  have lA_2 := hid (FBox.later lA_1.out HBX3.out lA_1.out.lt)
  clear lA_1
  have BW4 := hid (ybt BW2.out HBX3.out)
  clear BW2
  have lB_1 : Hid (FBox X3 X1.heap.size 32 #[.int .i64 3, .float .f64 4619567317775286272, .int .i64 2, .float .f64 9221120237041090561]) := by rw [← hX3]; exact FBox.made _ _ _
  obtain ⟨X5, hX5⟩ : ∃ X5, X3.alloc (.cells #[.slice (some ⟨w.heap.size, 0, none⟩) 2 2, .slice (some ⟨X1.heap.size, 0, none⟩) 2 2] 25) = X5 := ⟨_, rfl⟩
  have HBX5 : Hid (Below X3.heap.size X3 X5) := by rw [← hX5]; exact (Below.refl _ _).alloc (Nat.le_refl _) _
  have lA_3 := hid (FBox.later lA_2.out HBX5.out lA_2.out.lt)
  clear lA_2
  have lB_2 := hid (FBox.later lB_1.out HBX5.out lB_1.out.lt)
  clear lB_1
  have BW6 := hid (ybt BW4.out HBX5.out)
  clear BW4
  have lC_1 : Hid (FBox X5 X3.heap.size 25 #[.slice (some ⟨w.heap.size, 0, none⟩) 2 2, .slice (some ⟨X1.heap.size, 0, none⟩) 2 2]) := by rw [← hX5]; exact FBox.made _ _ _
  have HL1 : Hid (RdL X5 (some ⟨X3.heap.size, 0, none⟩) [(⟨some ⟨w.heap.size, 0, none⟩, 2, [(1, 4611686018427387904), (3, 4617315517961601024)]⟩ : LsI), ⟨some ⟨X1.heap.size, 0, none⟩, 2, [(3, 4619567317775286272), (2, 9221120237041090561)]⟩]) := ngRdL2 lC_1.out (ngV lA_3.out rfl) (ngV lB_2.out rfl) (ng64 (by decide)) (ng64 (by decide))
  have M1 := hid (emerge_any (some ⟨X3.heap.size, 0, none⟩) 2 2 _ X5 rfl HL1.out)
  go_wp2_with fail
  clear hX1 hX3 hX5
  refine Calls.mono M1.out ?_
  rintro e w7 ⟨v1, er, ix, rfl, HM1, hb1⟩
  obtain ⟨M, om, _, _, row1⟩ := HM1.out.of
  obtain ⟨rfl, rfl, rfl⟩ := ng_merge (c := chkL [(⟨some ⟨w.heap.size, 0, none⟩, 2, [(1, 4611686018427387904), (3, 4617315517961601024)]⟩ : LsI), ⟨some ⟨X1.heap.size, 0, none⟩, 2, [(3, 4619567317775286272), (2, 9221120237041090561)]⟩]) rfl om
  obtain ⟨a1, c1, rfl, hV1, _, _⟩ := eshape row1
  have HBc := hid hb1
  clear om row1 hb1 HM1 M1 HL1
  clear lA_3
  clear lB_2
  clear lC_1
  have BW8 := hid (ybt BW6.out HBc.out)
  clear BW6
  clear HBc
  have r1_1 := hid hV1
  clear hV1
  have HFBX : Hid (w.heap.size ≤ w7.heap.size) := BW8.out.size
  obtain ⟨Y9, A10, A11, hY9, hA10, hA11, ⟨yY9, yY9'⟩, ⟨fY9, fY9'⟩, ⟨z12, z13⟩, HXY9⟩ := ybox2 w7 28 (.int .i64 0) (.int .i64 0) (.int .i64 0) (.int .i64 0)
  have r1_2 := hid (RdV.later r1_1.out HXY9.out.2)
  clear r1_1
  have BW14 := hid (ybt BW8.out HXY9.out.2)
  clear BW8
  have fb_1 : Hid (FBox A11 w7.heap.size 28 #[.int .i64 0, .int .i64 0]) := HXY9.out.1
  clear HXY9
  have HFB : Hid (w.heap.size ≤ w7.heap.size) := HFBX.out
  have hEQ0 := cfault_eq
  obtain ⟨X15, hX15⟩ : ∃ X15, A11.alloc (.cells #[.int .i64 1, .float .f64 4611686018427387904, .int .i64 3, .float .f64 4618441417868443648] 32) = X15 := ⟨_, rfl⟩
  have HBX15 : Hid (Below A11.heap.size A11 X15) := by rw [← hX15]; exact (Below.refl _ _).alloc (Nat.le_refl _) _
  have r1_3 := hid (RdV.later r1_2.out HBX15.out)
  clear r1_2
  have fb_2 := hid (FBox.later fb_1.out HBX15.out fb_1.out.lt)
  clear fb_1
  have BW16 := hid (ybt BW14.out HBX15.out)
  clear BW14
  have lD_1 : Hid (FBox X15 A11.heap.size 32 #[.int .i64 1, .float .f64 4611686018427387904, .int .i64 3, .float .f64 4618441417868443648]) := by rw [← hX15]; exact FBox.made _ _ _
  have k0 : X15.cell? ⟨w7.heap.size, 0, none⟩ = some (.int .i64 0) := fb_2.out.cell 0
  have k1 : X15.cell? ⟨w7.heap.size, 1, none⟩ = some (.int .i64 0) := fb_2.out.cell 1
  have S1 := hid (esame_any a1 (some ⟨A11.heap.size, 0, none⟩) c1 2 [(1, 4611686018427387904), (3, 4618441417868443648)] X15 (by decide) (by decide) r1_3.out (ngV lD_1.out rfl))
  go_wp2_with fail
  clear hY9 hA10 hA11 yY9 yY9' fY9 fY9' z12 z13 hX15
  refine Calls.mono S1.out ?_
  rintro e w17 ⟨rfl, hb⟩
  clear hEQ0 k0 k1 S1
  clear lD_1
  clear r1_3
  have HBc := hid hb
  clear hb
  have fb_3 := hid (FBox.later fb_2.out HBc.out fb_2.out.lt)
  clear fb_2
  have BW18 := hid (ybt BW16.out HBc.out)
  clear BW16
  clear HBc
  obtain ⟨X19, hX19⟩ : ∃ X19, w17.alloc (.cells #[.float .f64 4607182418800017408, .float .f64 4611686018427387904, .float .f64 4616752568008179712] 22) = X19 := ⟨_, rfl⟩
  have HBX19 : Hid (Below w17.heap.size w17 X19) := by rw [← hX19]; exact (Below.refl _ _).alloc (Nat.le_refl _) _
  have fb_4 := hid (FBox.later fb_3.out HBX19.out fb_3.out.lt)
  clear fb_3
  have BW20 := hid (ybt BW18.out HBX19.out)
  clear BW18
  have lf_1 : Hid (FBox X19 w17.heap.size 22 #[.float .f64 4607182418800017408, .float .f64 4611686018427387904, .float .f64 4616752568008179712]) := by rw [← hX19]; exact FBox.made _ _ _
  have Mn := hid (emean_any (some ⟨w17.heap.size, 0, none⟩) 3 3 [4607182418800017408, 4611686018427387904, 4616752568008179712] X19 (by decide) rfl (by decide) (RdH.of (ngV lf_1.out rfl)))
  go_wp2_with fail
  clear hX19
  refine Calls.mono Mn.out ?_
  rintro e w21 ⟨r, ov, rfl, HM, hb⟩
  obtain ⟨rfl, rfl⟩ : r = 4612811918334230528 ∧ ov = 0 := by
    have q := HM.out
    rw [ng_s1] at q
    exact q.one ng_m1
  have HBc := hid hb
  clear hb HM Mn
  clear lf_1
  have fb_5 := hid (FBox.later fb_4.out HBc.out fb_4.out.lt)
  clear fb_4
  have BW22 := hid (ybt BW20.out HBc.out)
  clear BW20
  clear HBc
  obtain ⟨X23, hX23⟩ : ∃ X23, w21.alloc (.cells #[.float .f64 9221120237041090561, .float .f64 9218868437227405312, .float .f64 4613937818241073152] 22) = X23 := ⟨_, rfl⟩
  have HBX23 : Hid (Below w21.heap.size w21 X23) := by rw [← hX23]; exact (Below.refl _ _).alloc (Nat.le_refl _) _
  have fb_6 := hid (FBox.later fb_5.out HBX23.out fb_5.out.lt)
  clear fb_5
  have BW24 := hid (ybt BW22.out HBX23.out)
  clear BW22
  have lf_2 : Hid (FBox X23 w21.heap.size 22 #[.float .f64 9221120237041090561, .float .f64 9218868437227405312, .float .f64 4613937818241073152]) := by rw [← hX23]; exact FBox.made _ _ _
  have Mn := hid (emean_any (some ⟨w21.heap.size, 0, none⟩) 3 3 [9221120237041090561, 9218868437227405312, 4613937818241073152] X23 (by decide) rfl (by decide) (RdH.of (ngV lf_2.out rfl)))
  go_wp2_with fail
  clear hX23
  refine Calls.mono Mn.out ?_
  rintro e w25 ⟨r, ov, rfl, HM, hb⟩
  obtain ⟨rfl, rfl⟩ : r = 4613937818241073152 ∧ ov = 0 := by
    have q := HM.out
    rw [ng_s2] at q
    exact q.one ng_m2
  have HBc := hid hb
  clear hb HM Mn
  clear lf_2
  have fb_7 := hid (FBox.later fb_6.out HBc.out fb_6.out.lt)
  clear fb_6
  have BW26 := hid (ybt BW24.out HBc.out)
  clear BW24
  clear HBc
  have Mn := hid (emean_any none 0 0 [] w25 (by decide) rfl (by decide) (.inl rfl))
  go_wp2_with fail
  refine Calls.mono Mn.out ?_
  rintro e w27 ⟨r, ov, rfl, HM, hb⟩
  obtain ⟨rfl, rfl⟩ : r = 0 ∧ ov = 0 := by
    have q := HM.out
    rw [ng_s3] at q
    exact q.one ng_m3
  have HBc := hid hb
  clear hb HM Mn
  have fb_8 := hid (FBox.later fb_7.out HBc.out fb_7.out.lt)
  clear fb_7
  have BW28 := hid (ybt BW26.out HBc.out)
  clear BW26
  clear HBc
  obtain ⟨X29, hX29⟩ : ∃ X29, w27.alloc (.cells #[.float .f64 9214871658872686752, .float .f64 9214871658872686752] 22) = X29 := ⟨_, rfl⟩
  have HBX29 : Hid (Below w27.heap.size w27 X29) := by rw [← hX29]; exact (Below.refl _ _).alloc (Nat.le_refl _) _
  have fb_9 := hid (FBox.later fb_8.out HBX29.out fb_8.out.lt)
  clear fb_8
  have BW30 := hid (ybt BW28.out HBX29.out)
  clear BW28
  have lf_3 : Hid (FBox X29 w27.heap.size 22 #[.float .f64 9214871658872686752, .float .f64 9214871658872686752]) := by rw [← hX29]; exact FBox.made _ _ _
  have Mn := hid (emean_any (some ⟨w27.heap.size, 0, none⟩) 2 2 [9214871658872686752, 9214871658872686752] X29 (by decide) rfl (by decide) (RdH.of (ngV lf_3.out rfl)))
  go_wp2_with fail
  clear hX29
  refine Calls.mono Mn.out ?_
  rintro e w31 ⟨r, ov, rfl, HM, hb⟩
  obtain ⟨rfl, rfl⟩ : r = 0 ∧ ov = 9 := by
    have q := HM.out
    rw [ng_s4] at q
    exact q.one ng_m4
  have HBc := hid hb
  clear hb HM Mn
  clear lf_3
  have fb_10 := hid (FBox.later fb_9.out HBc.out fb_9.out.lt)
  clear fb_9
  have BW32 := hid (ybt BW30.out HBc.out)
  clear BW30
  clear HBc
  obtain ⟨X33, hX33⟩ : ∃ X33, w31.alloc (.cells #[.float .f64 9214871658872686752, .float .f64 9214871658872686752] 22) = X33 := ⟨_, rfl⟩
  have HBX33 : Hid (Below w31.heap.size w31 X33) := by rw [← hX33]; exact (Below.refl _ _).alloc (Nat.le_refl _) _
  have fb_11 := hid (FBox.later fb_10.out HBX33.out fb_10.out.lt)
  clear fb_10
  have BW34 := hid (ybt BW32.out HBX33.out)
  clear BW32
  have lf_4 : Hid (FBox X33 w31.heap.size 22 #[.float .f64 9214871658872686752, .float .f64 9214871658872686752]) := by rw [← hX33]; exact FBox.made _ _ _
  have Mn := hid (emedian_any (some ⟨w31.heap.size, 0, none⟩) 2 2 [9214871658872686752, 9214871658872686752] X33 (by decide) rfl (by decide) (RdH.of (ngV lf_4.out rfl)))
  go_wp2_with fail
  clear hX33
  refine Calls.mono Mn.out ?_
  rintro e w35 ⟨r, ob, rfl, HM, hb⟩
  obtain ⟨rfl, rfl⟩ : r = 9214871658872686752 ∧ ob = true := by
    have q := HM.out
    rw [ng_s4] at q
    exact q.one (by unfold Fi; decide +kernel) ng_d4
  have HBc := hid hb
  clear hb HM Mn
  clear lf_4
  have fb_12 := hid (FBox.later fb_11.out HBc.out fb_11.out.lt)
  clear fb_11
  have BW36 := hid (ybt BW34.out HBc.out)
  clear BW34
  clear HBc
  obtain ⟨X37, hX37⟩ : ∃ X37, w35.alloc (.cells #[.float .f64 9221120237041090561] 22) = X37 := ⟨_, rfl⟩
  have HBX37 : Hid (Below w35.heap.size w35 X37) := by rw [← hX37]; exact (Below.refl _ _).alloc (Nat.le_refl _) _
  have fb_13 := hid (FBox.later fb_12.out HBX37.out fb_12.out.lt)
  clear fb_12
  have BW38 := hid (ybt BW36.out HBX37.out)
  clear BW36
  have lf_5 : Hid (FBox X37 w35.heap.size 22 #[.float .f64 9221120237041090561]) := by rw [← hX37]; exact FBox.made _ _ _
  have Mn := hid (emedian_any (some ⟨w35.heap.size, 0, none⟩) 1 1 [9221120237041090561] X37 (by decide) rfl (by decide) (RdH.of (ngV lf_5.out rfl)))
  go_wp2_with fail
  clear hX37
  refine Calls.mono Mn.out ?_
  rintro e w39 ⟨r, ob, rfl, HM, hb⟩
  obtain ⟨rfl, rfl⟩ : r = 0 ∧ ob = false := by
    have q := HM.out
    rw [ng_s5] at q
    exact q.one (by unfold Fi; decide +kernel) ng_d5
  have HBc := hid hb
  clear hb HM Mn
  clear lf_5
  have fb_14 := hid (FBox.later fb_13.out HBc.out fb_13.out.lt)
  clear fb_13
  have BW40 := hid (ybt BW38.out HBc.out)
  clear BW38
  clear HBc
  have oo0 : (FloatKind.f64.format.order 4612811918334230528 4612811918334230528 == some .eq) = true := by decide +kernel
  have oo1 : (FloatKind.f64.format.order 4613937818241073152 4613937818241073152 == some .eq) = true := by decide +kernel
  have oo2 : (FloatKind.f64.format.order 0 0 == some .eq) = true := by decide +kernel
  have oo3 : (FloatKind.f64.format.order 9214871658872686752 9214871658872686752 == some .eq) = true := by decide +kernel
  obtain ⟨X41, hX41⟩ : ∃ X41, w39.alloc (.cells #[.int .i64 0, .float .f64 4607182418800017408, .int .i64 0, .float .f64 4607182418800017408, .int .i64 0, .float .f64 4621256167635550208, .int .i64 0, .float .f64 4607182418800017408, .int .i64 0, .float .f64 4607182418800017408] 32) = X41 := ⟨_, rfl⟩
  have HBX41 : Hid (Below w39.heap.size w39 X41) := by rw [← hX41]; exact (Below.refl _ _).alloc (Nat.le_refl _) _
  have fb_15 := hid (FBox.later fb_14.out HBX41.out fb_14.out.lt)
  clear fb_14
  have BW42 := hid (ybt BW40.out HBX41.out)
  clear BW40
  have s_1 : Hid (FBox X41 w39.heap.size 32 #[.int .i64 0, .float .f64 4607182418800017408, .int .i64 0, .float .f64 4607182418800017408, .int .i64 0, .float .f64 4621256167635550208, .int .i64 0, .float .f64 4607182418800017408, .int .i64 0, .float .f64 4607182418800017408]) := by rw [← hX41]; exact FBox.made _ _ _
  have Sp := hid (eSpikes_any (some ⟨w39.heap.size, 0, none⟩) 5 5 ngS 2 4617315517961601024 X41 rfl (by decide) (by decide) (RdS.of (ngV s_1.out rfl)))
  go_wp2_with fail
  clear hX41
  refine Calls.mono Sp.out ?_
  rintro e w43 ⟨v, err, rfl, HE, HV, hb⟩
  have he := HE.out.trans ng_e5
  subst he
  obtain ⟨ap44, cp44, rfl, hVp44⟩ : ∃ a c, v = .slice a 1 c ∧ RdV w43 a (([2] : List Int).map (Value.int .i64)) := by
    rcases HV.out with ⟨h, _⟩ | ⟨_, h⟩
    · exact absurd rfl h
    · unfold spV at h
      rw [show Int.toNat 2 = 2 from rfl, ng_sp5] at h
      obtain ⟨a, c, e, hv, _⟩ := eshape h
      exact ⟨a, c, e, hv⟩
  have HBc := hid hb
  clear hb HE HV Sp
  have fb_16 := hid (FBox.later fb_15.out HBc.out fb_15.out.lt)
  clear fb_15
  have s_2 := hid (FBox.later s_1.out HBc.out s_1.out.lt)
  clear s_1
  have BW45 := hid (ybt BW42.out HBc.out)
  clear BW42
  clear HBc
  have p44_1 := hid hVp44
  clear hVp44
  have Sp := hid (eSpikes_any (some ⟨w39.heap.size, 0, none⟩) 5 5 ngS 2 4613937818241073152 w43 rfl (by decide) (by decide) (RdS.of (ngV s_2.out rfl)))
  go_wp2_with fail
  refine Calls.mono Sp.out ?_
  rintro e w46 ⟨v, err, rfl, HE, HV, hb⟩
  have he := HE.out.trans ng_e3
  subst he
  obtain ⟨ap47, cp47, rfl, hVp47⟩ : ∃ a c, v = .slice a 3 c ∧ RdV w46 a (([0, 2, 4] : List Int).map (Value.int .i64)) := by
    rcases HV.out with ⟨h, _⟩ | ⟨_, h⟩
    · exact absurd rfl h
    · unfold spV at h
      rw [show Int.toNat 2 = 2 from rfl, ng_sp3] at h
      obtain ⟨a, c, e, hv, _⟩ := eshape h
      exact ⟨a, c, e, hv⟩
  have HBc := hid hb
  clear hb HE HV Sp
  have fb_17 := hid (FBox.later fb_16.out HBc.out fb_16.out.lt)
  clear fb_16
  have s_3 := hid (FBox.later s_2.out HBc.out s_2.out.lt)
  clear s_2
  have p44_2 := hid (RdV.later p44_1.out HBc.out)
  clear p44_1
  have BW48 := hid (ybt BW45.out HBc.out)
  clear BW45
  clear HBc
  have p47_1 := hid hVp47
  clear hVp47
  have Sp := hid (eSpikes_any (some ⟨w39.heap.size, 0, none⟩) 5 5 ngS 2 4620693217682128896 w46 rfl (by decide) (by decide) (RdS.of (ngV s_3.out rfl)))
  go_wp2_with fail
  refine Calls.mono Sp.out ?_
  rintro e w49 ⟨v, err, rfl, HE, HV, hb⟩
  have he := HE.out.trans ng_e8
  subst he
  obtain ⟨ap50, cp50, rfl, hVp50⟩ : ∃ a c, v = .slice a 0 c ∧ RdV w49 a (([] : List Int).map (Value.int .i64)) := by
    rcases HV.out with ⟨h, _⟩ | ⟨_, h⟩
    · exact absurd rfl h
    · unfold spV at h
      rw [show Int.toNat 2 = 2 from rfl, ng_sp8] at h
      obtain ⟨a, c, e, hv, _⟩ := eshape h
      exact ⟨a, c, e, hv⟩
  have HBc := hid hb
  clear hb HE HV Sp
  have fb_18 := hid (FBox.later fb_17.out HBc.out fb_17.out.lt)
  clear fb_17
  have s_4 := hid (FBox.later s_3.out HBc.out s_3.out.lt)
  clear s_3
  have p44_3 := hid (RdV.later p44_2.out HBc.out)
  clear p44_2
  have p47_2 := hid (RdV.later p47_1.out HBc.out)
  clear p47_1
  have BW51 := hid (ybt BW48.out HBc.out)
  clear BW48
  clear HBc
  clear hVp50
  have Sp := hid (eSpikes_any (some ⟨w39.heap.size, 0, none⟩) 5 5 ngS 2 9221120237041090561 w49 rfl (by decide) (by decide) (RdS.of (ngV s_4.out rfl)))
  go_wp2_with fail
  refine Calls.mono Sp.out ?_
  rintro e w52 ⟨v, err, rfl, HE, HV, hb⟩
  have he := HE.out.trans ng_eN
  subst he
  obtain rfl : v = .slice none 0 0 := by
    rcases HV.out with ⟨_, h⟩ | ⟨h, _⟩
    · exact h
    · exact absurd h (by decide)
  have HBc := hid hb
  clear hb HE HV Sp
  have fb_19 := hid (FBox.later fb_18.out HBc.out fb_18.out.lt)
  clear fb_18
  have s_5 := hid (FBox.later s_4.out HBc.out s_4.out.lt)
  clear s_4
  have p44_4 := hid (RdV.later p44_3.out HBc.out)
  clear p44_3
  have p47_3 := hid (RdV.later p47_2.out HBc.out)
  clear p47_2
  have BW54 := hid (ybt BW51.out HBc.out)
  clear BW51
  clear HBc
  have Sp := hid (eSpikes_any (some ⟨w39.heap.size, 0, none⟩) 5 5 ngS 2 13830554455654793216 w52 rfl (by decide) (by decide) (RdS.of (ngV s_5.out rfl)))
  go_wp2_with fail
  refine Calls.mono Sp.out ?_
  rintro e w55 ⟨v, err, rfl, HE, HV, hb⟩
  have he := HE.out.trans ng_em
  subst he
  obtain rfl : v = .slice none 0 0 := by
    rcases HV.out with ⟨_, h⟩ | ⟨h, _⟩
    · exact h
    · exact absurd h (by decide)
  have HBc := hid hb
  clear hb HE HV Sp
  have fb_20 := hid (FBox.later fb_19.out HBc.out fb_19.out.lt)
  clear fb_19
  have s_6 := hid (FBox.later s_5.out HBc.out s_5.out.lt)
  clear s_5
  have p44_5 := hid (RdV.later p44_4.out HBc.out)
  clear p44_4
  have p47_4 := hid (RdV.later p47_3.out HBc.out)
  clear p47_3
  have BW57 := hid (ybt BW54.out HBc.out)
  clear BW54
  clear HBc
  have Sp := hid (eSpikes_any (some ⟨w39.heap.size, 0, none⟩) 5 5 ngS 0 9221120237041090561 w55 rfl (by decide) (by decide) (RdS.of (ngV s_6.out rfl)))
  go_wp2_with fail
  refine Calls.mono Sp.out ?_
  rintro e w58 ⟨v, err, rfl, HE, HV, hb⟩
  have he := HE.out.trans ng_e0
  subst he
  obtain rfl : v = .slice none 0 0 := by
    rcases HV.out with ⟨_, h⟩ | ⟨h, _⟩
    · exact h
    · exact absurd h (by decide)
  have HBc := hid hb
  clear hb HE HV Sp
  have fb_21 := hid (FBox.later fb_20.out HBc.out fb_20.out.lt)
  clear fb_20
  have s_7 := hid (FBox.later s_6.out HBc.out s_6.out.lt)
  clear s_6
  have p44_6 := hid (RdV.later p44_5.out HBc.out)
  clear p44_5
  have p47_5 := hid (RdV.later p47_4.out HBc.out)
  clear p47_4
  have BW60 := hid (ybt BW57.out HBc.out)
  clear BW57
  clear HBc
  clear oo0 oo1 oo2 oo3
  obtain ⟨X61, hX61⟩ : ∃ X61, w58.alloc (.cells #[.int .i64 0, .int .i64 2, .int .i64 4] 3) = X61 := ⟨_, rfl⟩
  have HBX61 : Hid (Below w58.heap.size w58 X61) := by rw [← hX61]; exact (Below.refl _ _).alloc (Nat.le_refl _) _
  have fb_22 := hid (FBox.later fb_21.out HBX61.out fb_21.out.lt)
  clear fb_21
  have s_8 := hid (FBox.later s_7.out HBX61.out s_7.out.lt)
  clear s_7
  have p44_7 := hid (RdV.later p44_6.out HBX61.out)
  clear p44_6
  have p47_6 := hid (RdV.later p47_5.out HBX61.out)
  clear p47_5
  have BW62 := hid (ybt BW60.out HBX61.out)
  clear BW60
  have li_1 : Hid (FBox X61 w58.heap.size 3 #[.int .i64 0, .int .i64 2, .int .i64 4]) := by rw [← hX61]; exact FBox.made _ _ _
  have SI := hid (esameI_any ap47 (some ⟨w58.heap.size, 0, none⟩) cp47 3 [0, 2, 4] X61 (by decide) p47_6.out (ngV li_1.out rfl))
  go_wp2_with fail
  clear hX61
  refine Calls.mono SI.out ?_
  rintro e w63 ⟨rfl, hb⟩
  have HBc := hid hb
  clear hb SI
  clear li_1
  clear p47_6
  have fb_23 := hid (FBox.later fb_22.out HBc.out fb_22.out.lt)
  clear fb_22
  have s_9 := hid (FBox.later s_8.out HBc.out s_8.out.lt)
  clear s_8
  have p44_8 := hid (RdV.later p44_7.out HBc.out)
  clear p44_7
  have BW64 := hid (ybt BW62.out HBc.out)
  clear BW62
  clear HBc
  obtain ⟨X65, hX65⟩ : ∃ X65, w63.alloc (.cells #[.int .i64 2] 3) = X65 := ⟨_, rfl⟩
  have HBX65 : Hid (Below w63.heap.size w63 X65) := by rw [← hX65]; exact (Below.refl _ _).alloc (Nat.le_refl _) _
  have fb_24 := hid (FBox.later fb_23.out HBX65.out fb_23.out.lt)
  clear fb_23
  have s_10 := hid (FBox.later s_9.out HBX65.out s_9.out.lt)
  clear s_9
  have p44_9 := hid (RdV.later p44_8.out HBX65.out)
  clear p44_8
  have BW66 := hid (ybt BW64.out HBX65.out)
  clear BW64
  have li_2 : Hid (FBox X65 w63.heap.size 3 #[.int .i64 2]) := by rw [← hX65]; exact FBox.made _ _ _
  have SI := hid (esameI_any ap44 (some ⟨w63.heap.size, 0, none⟩) cp44 1 [2] X65 (by decide) p44_9.out (ngV li_2.out rfl))
  go_wp2_with fail
  clear hX65
  refine Calls.mono SI.out ?_
  rintro e w67 ⟨rfl, hb⟩
  have HBc := hid hb
  clear hb SI
  clear li_2
  clear p44_9
  have fb_25 := hid (FBox.later fb_24.out HBc.out fb_24.out.lt)
  clear fb_24
  have s_11 := hid (FBox.later s_10.out HBc.out s_10.out.lt)
  clear s_10
  have BW68 := hid (ybt BW66.out HBc.out)
  clear BW66
  clear HBc
  obtain ⟨X69, hX69⟩ : ∃ X69, w67.alloc (.cells #[.int .i64 1, .float .f64 0, .int .i64 4, .float .f64 4613937818241073152, .int .i64 9, .float .f64 4613937818241073152] 32) = X69 := ⟨_, rfl⟩
  have HBX69 : Hid (Below w67.heap.size w67 X69) := by rw [← hX69]; exact (Below.refl _ _).alloc (Nat.le_refl _) _
  have fb_26 := hid (FBox.later fb_25.out HBX69.out fb_25.out.lt)
  clear fb_25
  have s_12 := hid (FBox.later s_11.out HBX69.out s_11.out.lt)
  clear s_11
  have BW70 := hid (ybt BW68.out HBX69.out)
  clear BW68
  have x_1 : Hid (FBox X69 w67.heap.size 32 #[.int .i64 1, .float .f64 0, .int .i64 4, .float .f64 4613937818241073152, .int .i64 9, .float .f64 4613937818241073152]) := by rw [← hX69]; exact FBox.made _ _ _
  have Fi1 := hid (efill_any (some ⟨w67.heap.size, 0, none⟩) 3 3 [(1, 0), (4, 4613937818241073152), (9, 4613937818241073152)] X69 (by decide) rfl (ng64 (by decide)) (RdS.of (ngV x_1.out rfl)))
  go_wp2_with fail
  clear hX69
  refine Calls.mono Fi1.out ?_
  rintro e w71 ⟨v, err, rfl, HC, hb⟩
  obtain ⟨rfl, ax, cx, rfl, hVx⟩ : err = 0 ∧ ∃ a c, v = .slice a 5 c ∧ RdV w71 a (smC [(1, 0), (2, 4607182418800017408), (3, 4611686018427387904), (4, 4613937818241073152), (9, 4613937818241073152)]) := by
    rcases HC.out with ⟨hg, _⟩ | ⟨hg, F, hF, hc⟩
    · exact absurd ng_good hg
    · obtain rfl := ng_fill hF
      rcases hc with ⟨hx, _⟩ | ⟨_, hx, _⟩ | ⟨_, _, h1, h2⟩
      · exact absurd hx (by simp [isone])
      · exact absurd hx (by decide)
      · obtain ⟨a, c, e, hv, _⟩ := eshape h2
        exact ⟨h1, a, c, e, hv⟩
  have HBc := hid hb
  clear hb HC Fi1
  clear x_1
  have fb_27 := hid (FBox.later fb_26.out HBc.out fb_26.out.lt)
  clear fb_26
  have s_13 := hid (FBox.later s_12.out HBc.out s_12.out.lt)
  clear s_12
  have BW72 := hid (ybt BW70.out HBc.out)
  clear BW70
  clear HBc
  have rx_1 := hid hVx
  clear hVx
  have Fi2 := hid (efill_any (some ⟨w39.heap.size, 0, none⟩) 5 5 ngS w71 (by decide) rfl (ng64 (by decide)) (RdS.of (ngV s_13.out rfl)))
  go_wp2_with fail
  refine Calls.mono Fi2.out ?_
  rintro e w73 ⟨v, err, rfl, HC, hb⟩
  obtain ⟨rfl, rfl⟩ : err = 2 ∧ v = .slice none 0 0 := by
    rcases HC.out with ⟨_, h1, h2⟩ | ⟨hg, _⟩
    · exact ⟨h1, h2⟩
    · exact absurd hg ng_notgood
  have HBc := hid hb
  clear hb HC Fi2
  have fb_28 := hid (FBox.later fb_27.out HBc.out fb_27.out.lt)
  clear fb_27
  have s_14 := hid (FBox.later s_13.out HBc.out s_13.out.lt)
  clear s_13
  have rx_2 := hid (RdV.later rx_1.out HBc.out)
  clear rx_1
  have BW74 := hid (ybt BW72.out HBc.out)
  clear BW72
  clear HBc
  obtain ⟨X75, hX75⟩ : ∃ X75, w73.alloc (.cells #[.int .i64 1, .int .i64 0] 3) = X75 := ⟨_, rfl⟩
  have HBX75 : Hid (Below w73.heap.size w73 X75) := by rw [← hX75]; exact (Below.refl _ _).alloc (Nat.le_refl _) _
  have fb_29 := hid (FBox.later fb_28.out HBX75.out fb_28.out.lt)
  clear fb_28
  have s_15 := hid (FBox.later s_14.out HBX75.out s_14.out.lt)
  clear s_14
  have rx_3 := hid (RdV.later rx_2.out HBX75.out)
  clear rx_2
  have BW76 := hid (ybt BW74.out HBX75.out)
  clear BW74
  have li_3 : Hid (FBox X75 w73.heap.size 3 #[.int .i64 1, .int .i64 0]) := by rw [← hX75]; exact FBox.made _ _ _
  have Wo := hid (ewithout_any (some ⟨w39.heap.size, 0, none⟩) 5 5 ngS (some ⟨w73.heap.size, 0, none⟩) 2 2 [1, 0] X75 rfl rfl (RdS.of (ngV s_15.out rfl)) (RdZ.of (ngV li_3.out rfl)))
  go_wp2_with fail
  clear hX75
  refine Calls.mono Wo.out ?_
  rintro e w77 ⟨v, err, rfl, HC, hb⟩
  obtain ⟨rfl, rfl⟩ : err = 2 ∧ v = .slice none 0 0 := by
    rcases HC.out with ⟨h1, _⟩ | ⟨_, _, _, h1, h2⟩ | ⟨_, _, h1, _⟩
    · omega
    · exact ⟨h1, h2⟩
    · exact absurd h1 ng_npl
  have HBc := hid hb
  clear hb HC Wo
  clear li_3
  have fb_30 := hid (FBox.later fb_29.out HBc.out fb_29.out.lt)
  clear fb_29
  have s_16 := hid (FBox.later s_15.out HBc.out s_15.out.lt)
  clear s_15
  have rx_4 := hid (RdV.later rx_3.out HBc.out)
  clear rx_3
  have BW78 := hid (ybt BW76.out HBc.out)
  clear BW76
  clear HBc
  obtain ⟨X79, hX79⟩ : ∃ X79, w77.alloc (.cells #[.int .i64 0, .int .i64 2] 3) = X79 := ⟨_, rfl⟩
  have HBX79 : Hid (Below w77.heap.size w77 X79) := by rw [← hX79]; exact (Below.refl _ _).alloc (Nat.le_refl _) _
  have fb_31 := hid (FBox.later fb_30.out HBX79.out fb_30.out.lt)
  clear fb_30
  have s_17 := hid (FBox.later s_16.out HBX79.out s_16.out.lt)
  clear s_16
  have rx_5 := hid (RdV.later rx_4.out HBX79.out)
  clear rx_4
  have BW80 := hid (ybt BW78.out HBX79.out)
  clear BW78
  have li_4 : Hid (FBox X79 w77.heap.size 3 #[.int .i64 0, .int .i64 2]) := by rw [← hX79]; exact FBox.made _ _ _
  have Wo := hid (ewithout_any (some ⟨w39.heap.size, 0, none⟩) 5 5 ngS (some ⟨w77.heap.size, 0, none⟩) 2 2 [0, 2] X79 rfl rfl (RdS.of (ngV s_17.out rfl)) (RdZ.of (ngV li_4.out rfl)))
  go_wp2_with fail
  clear hX79
  refine Calls.mono Wo.out ?_
  rintro e w81 ⟨v, err, rfl, HC, hb⟩
  obtain ⟨rfl, ay, cy, rfl⟩ : err = 0 ∧ ∃ a c, v = .slice a 3 c := by
    rcases HC.out with ⟨h1, _⟩ | ⟨_, _, h1, _⟩ | ⟨_, _, _, h1, h2⟩
    · omega
    · exact absurd ng_pl h1
    · obtain ⟨a, c, e, _⟩ := eshape h2
      rw [ng_wo] at e
      exact ⟨h1, a, c, e⟩
  have HBc := hid hb
  clear hb HC Wo
  clear li_4
  have fb_32 := hid (FBox.later fb_31.out HBc.out fb_31.out.lt)
  clear fb_31
  have s_18 := hid (FBox.later s_17.out HBc.out s_17.out.lt)
  clear s_17
  have rx_6 := hid (RdV.later rx_5.out HBc.out)
  clear rx_5
  have BW82 := hid (ybt BW80.out HBc.out)
  clear BW80
  clear HBc
  clear s_18
  obtain ⟨X83, hX83⟩ : ∃ X83, w81.alloc (.cells #[.int .i64 1, .float .f64 0, .int .i64 2, .float .f64 4607182418800017408, .int .i64 3, .float .f64 4611686018427387904, .int .i64 4, .float .f64 4613937818241073152, .int .i64 9, .float .f64 4613937818241073152] 32) = X83 := ⟨_, rfl⟩
  have HBX83 : Hid (Below w81.heap.size w81 X83) := by rw [← hX83]; exact (Below.refl _ _).alloc (Nat.le_refl _) _
  have fb_33 := hid (FBox.later fb_32.out HBX83.out fb_32.out.lt)
  clear fb_32
  have rx_7 := hid (RdV.later rx_6.out HBX83.out)
  clear rx_6
  have BW84 := hid (ybt BW82.out HBX83.out)
  clear BW82
  have lE_1 : Hid (FBox X83 w81.heap.size 32 #[.int .i64 1, .float .f64 0, .int .i64 2, .float .f64 4607182418800017408, .int .i64 3, .float .f64 4611686018427387904, .int .i64 4, .float .f64 4613937818241073152, .int .i64 9, .float .f64 4613937818241073152]) := by rw [← hX83]; exact FBox.made _ _ _
  have S2 := hid (esame_any ax (some ⟨w81.heap.size, 0, none⟩) cx 5 [(1, 0), (2, 4607182418800017408), (3, 4611686018427387904), (4, 4613937818241073152), (9, 4613937818241073152)] X83 (by decide) (by decide) rx_7.out (ngV lE_1.out rfl))
  go_wp2_with fail
  clear hX83
  refine Calls.mono S2.out ?_
  rintro e w85 ⟨rfl, hb⟩
  have HBc := hid hb
  clear hb S2
  clear lE_1
  clear rx_7
  have fb_34 := hid (FBox.later fb_33.out HBc.out fb_33.out.lt)
  clear fb_33
  have BW86 := hid (ybt BW84.out HBc.out)
  clear BW84
  clear HBc
  obtain ⟨X87, hX87⟩ : ∃ X87, w85.alloc (.cells (madeCells #[.slice none 0 0] 17) 25) = X87 := ⟨_, rfl⟩
  have HBX87 : Hid (Below w85.heap.size w85 X87) := by rw [← hX87]; exact (Below.refl _ _).alloc (Nat.le_refl _) _
  have HL2 : Hid (RdL X87 (some ⟨w85.heap.size, 0, none⟩) (List.replicate 17 ⟨none, 0, []⟩)) := by rw [← hX87]; exact ng17 _
  have hmk : (Instr.makeSlice 33 (.int .i64 17) (.int .i64 17)).run Try.prog w85 = .ok (.slice (some ⟨w85.heap.size, 0, none⟩) 17 17) X87 := by rw [← hX87]; exact ng_make w85
  have fb_35 := hid (FBox.later fb_34.out HBX87.out fb_34.out.lt)
  clear fb_34
  have BW88 := hid (ybt BW86.out HBX87.out)
  clear BW86
  have M2 := hid (emerge_any (some ⟨w85.heap.size, 0, none⟩) 17 17 _ X87 rfl HL2.out)
  clear hX87
  go_wp2_with fail
  refine Calls.mono M2.out ?_
  rintro e w89 ⟨v, er, ix, rfl, HM, hb⟩
  obtain ⟨rfl, rfl⟩ : er = 3 ∧ ix = -1 := by
    obtain ⟨M, om, _⟩ := HM.out.of
    have q := MgO.bad (c := chkL (List.replicate 17 ⟨none, 0, []⟩)) (by decide +kernel) om
    rw [show chkL (List.replicate 17 ⟨none, 0, []⟩) = (3, -1) by decide +kernel] at q
    injection q with q1 q2
    exact ⟨q1, q2⟩
  have HBc := hid hb
  clear hb HM M2 hmk HL2
  have fb_36 := hid (FBox.later fb_35.out HBc.out fb_35.out.lt)
  clear fb_35
  have BW90 := hid (ybt BW88.out HBc.out)
  clear BW88
  clear HBc
  have g0 : w89.cell? ⟨w7.heap.size, 0, none⟩ = some (.int .i64 0) := fb_36.out.cell 0
  have g1 : w89.frozen? ⟨w7.heap.size, 0, none⟩ = false := fb_36.out.free 0
  obtain ⟨A91, hA91⟩ : ∃ A91, w89.setCell ⟨w7.heap.size, 0, none⟩ (.int .i64 3) = A91 := ⟨_, rfl⟩
  have F0 : Hid (FBox A91 w7.heap.size 28 #[.int .i64 3, .int .i64 0]) := by rw [← hA91]; exact fb_36.out.set 0 _
  have g2 : A91.cell? ⟨w7.heap.size, 1, none⟩ = some (.int .i64 0) := F0.out.cell 1
  have g3 : A91.frozen? ⟨w7.heap.size, 1, none⟩ = false := F0.out.free 1
  obtain ⟨A92, hA92⟩ : ∃ A92, A91.setCell ⟨w7.heap.size, 1, none⟩ (.int .i64 (-1)) = A92 := ⟨_, rfl⟩
  have fb_37 : Hid (FBox A92 w7.heap.size 28 #[.int .i64 3, .int .i64 (-1)]) := by rw [← hA92]; exact F0.out.set 1 _
  have HBf : Hid (Below w.heap.size w A92) := by rw [← hA92, ← hA91]; exact (BW90.out.setCell (p := ⟨w7.heap.size, 0, none⟩) HFB.out _).setCell (p := ⟨w7.heap.size, 1, none⟩) HFB.out _
  clear fb_36 BW90 F0
  obtain ⟨X93, hX93⟩ : ∃ X93, A92.alloc (.cells #[.int .i64 (-1), .float .f64 0] 32) = X93 := ⟨_, rfl⟩
  have HBX93 : Hid (Below A92.heap.size A92 X93) := by rw [← hX93]; exact (Below.refl _ _).alloc (Nat.le_refl _) _
  have fb_38 := hid (FBox.later fb_37.out HBX93.out fb_37.out.lt)
  clear fb_37
  have BW94 := hid (ybt HBf.out HBX93.out)
  clear HBf
  have lZ_1 : Hid (FBox X93 A92.heap.size 32 #[.int .i64 (-1), .float .f64 0]) := by rw [← hX93]; exact FBox.made _ _ _
  obtain ⟨X95, hX95⟩ : ∃ X95, X93.alloc (.cells #[.slice none 0 0, .slice (some ⟨A92.heap.size, 0, none⟩) 1 1] 25) = X95 := ⟨_, rfl⟩
  have HBX95 : Hid (Below X93.heap.size X93 X95) := by rw [← hX95]; exact (Below.refl _ _).alloc (Nat.le_refl _) _
  have fb_39 := hid (FBox.later fb_38.out HBX95.out fb_38.out.lt)
  clear fb_38
  have lZ_2 := hid (FBox.later lZ_1.out HBX95.out lZ_1.out.lt)
  clear lZ_1
  have BW96 := hid (ybt BW94.out HBX95.out)
  clear BW94
  have lYY_1 : Hid (FBox X95 X93.heap.size 25 #[.slice none 0 0, .slice (some ⟨A92.heap.size, 0, none⟩) 1 1]) := by rw [← hX95]; exact FBox.made _ _ _
  have HL3 : Hid (RdL X95 (some ⟨X93.heap.size, 0, none⟩) [(⟨none, 0, []⟩ : LsI), ⟨some ⟨A92.heap.size, 0, none⟩, 1, [(-1, 0)]⟩]) := ngRdL1 lYY_1.out (ngV lZ_2.out rfl) (ng64 (by decide))
  have M3 := hid (emerge_any (some ⟨X93.heap.size, 0, none⟩) 2 2 _ X95 rfl HL3.out)
  go_wp2_with fail
  clear hA91 hA92 g0 g1 g2 g3 hX93 hX95
  refine Calls.mono M3.out ?_
  rintro e w97 ⟨v, er, ix, rfl, HM, hb⟩
  obtain ⟨rfl, rfl⟩ : er = 2 ∧ ix = 1 := by
    obtain ⟨M, om, _⟩ := HM.out.of
    have q := MgO.bad (c := chkL [(⟨none, 0, []⟩ : LsI), ⟨some ⟨A92.heap.size, 0, none⟩, 1, [(-1, 0)]⟩]) (by rw [show chkL [(⟨none, 0, []⟩ : LsI), ⟨some ⟨A92.heap.size, 0, none⟩, 1, [(-1, 0)]⟩] = (2, 1) from rfl]; decide) om
    rw [show chkL [(⟨none, 0, []⟩ : LsI), ⟨some ⟨A92.heap.size, 0, none⟩, 1, [(-1, 0)]⟩] = (2, 1) from rfl] at q
    injection q with q1 q2
    exact ⟨q1, q2⟩
  have HBc := hid hb
  clear hb HM M3 HL3
  clear lZ_2
  clear lYY_1
  have fb_40 := hid (FBox.later fb_39.out HBc.out fb_39.out.lt)
  clear fb_39
  have BW98 := hid (ybt BW96.out HBc.out)
  clear BW96
  clear HBc
  obtain ⟨Y99, A100, A101, hY99, hA100, hA101, ⟨yY99, yY99'⟩, ⟨fY99, fY99'⟩, ⟨z102, z103⟩, HXY99⟩ := ybox2 w97 28 (.int .i64 0) (.int .i64 0) (.int .i64 2) (.int .i64 1)
  have fb_41 := hid (FBox.later fb_40.out HXY99.out.2 fb_40.out.lt)
  clear fb_40
  have BW104 := hid (ybt BW98.out HXY99.out.2)
  clear BW98
  have kb_1 : Hid (FBox A101 w97.heap.size 28 #[.int .i64 2, .int .i64 1]) := HXY99.out.1
  clear HXY99
  have Li := hid (elives_any A101)
  go_wp2_with fail
  clear hY99 hA100 hA101 yY99 yY99' fY99 fY99' z102 z103
  refine Calls.mono Li.out ?_
  rintro e w105 ⟨rfl, hb⟩
  have HBc := hid hb
  clear hb Li
  have fb_42 := hid (FBox.later fb_41.out HBc.out fb_41.out.lt)
  clear fb_41
  have kb_2 := hid (FBox.later kb_1.out HBc.out kb_1.out.lt)
  clear kb_1
  have BW106 := hid (ybt BW104.out HBc.out)
  clear BW104
  clear HBc
  have q0 : w105.cell? ⟨w7.heap.size, 0, none⟩ = some (.int .i64 3) := fb_42.out.cell 0
  have q1 : w105.cell? ⟨w7.heap.size, 1, none⟩ = some (.int .i64 (-1)) := fb_42.out.cell 1
  have q2 : w105.cell? ⟨w97.heap.size, 0, none⟩ = some (.int .i64 2) := kb_2.out.cell 0
  have q3 : w105.cell? ⟨w97.heap.size, 1, none⟩ = some (.int .i64 1) := kb_2.out.cell 1
  have hE1 := cfault_same 3 (-1)
  have hE2 := cfault_same 2 1
  go_wp2_with fail
  go_ret
  exact ⟨rfl, BW106.out⟩
end Go.Proofs.Ytmigdomlakflfaa

