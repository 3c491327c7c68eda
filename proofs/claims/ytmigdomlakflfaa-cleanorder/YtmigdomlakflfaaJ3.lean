/- My texts on the way to CleanOrder, one behind the other: contracts of the program and of the document's answers. -/
import Derived.Test.YtmigdomlakflfaaJ2
import Derived.Deep.RegionHeld3
import Derived.BigQuiet
import Derived.BigRegion
/- Lists of lists of samples of one's own; what two Merges tell of lists that are alike. -/
namespace Go.Proofs.Ytmigdomlakflfaa
open Go.RowKit
set_option linter.unusedVariables false
set_option linter.unusedSimpArgs false

theorem own_unlike {w : World} {b1 b2 e1 e2 s1 s2 n1 n2 : Nat} {v1 v2 : Value} {x1 x2 : List Value} (h : w.ownsRow b1 e1 s1 v1 n1 x1) (g : w.ownsRow b2 e2 s2 v2 n2 x2) (hne : e1 ≠ e2) : v1.ownBlock = none ∨ v1.ownBlock ≠ v2.ownBlock := by
  rcases h.2 with ⟨rfl, _⟩ | ⟨g1, c1, cur1, rfl, _, hh1, _⟩
  · exact .inl rfl
  · rcases g.2 with ⟨rfl, _⟩ | ⟨g2, c2, cur2, rfl, _, hh2, _⟩
    · exact .inr (by simp [Value.ownBlock])
    · refine .inr (fun e => ?_)
      simp only [Value.ownBlock, Option.some.injEq] at e
      subst e
      rw [hh1] at hh2
      injection hh2 with hh2
      injection hh2 with _ h3
      exact hne h3
/-- Lists of one's own, each with so much behind it. -/
def CqO (W : World) (B : Nat) (m : List (Int × Nat)) (Q : List LsI) : Prop := ∀ q ∈ Q, W.ownsRow B 32 2 (.slice q.a (q.xs.length + m.length) q.cap) (q.xs.length + m.length) (smC (q.xs ++ m))
theorem CqO.later {W W' : World} {B : Nat} {m : List (Int × Nat)} {Q : List LsI} (h : CqO W B m Q) (hb : Below W.heap.size W W') : CqO W' B m Q := fun q hq => yowns_later (h q hq) hb
theorem CqO.kept {W W' : World} {B b e s n : Nat} {m : List (Int × Nat)} {Q : List LsI} {v : Value} {xs : List Value} (h : CqO W B m Q) (hv : W.ownsRow b e s v n xs) (he : 32 ≠ e) (hg : W.grownBy W' v.ownBlock) : CqO W' B m Q := fun q hq => (h q hq).kept hg (own_unlike (h q hq) hv he)
/-- The values of lists of one's own: whole, and cut. -/
def fullV (Q : List LsI) : List Value := Q.map fun q => .slice q.a (q.xs.length + 3) q.cap
def cutV (Q : List LsI) : List Value := Q.map fun q => .slice q.a q.xs.length q.cap
theorem cutV_snoc (Q : List LsI) (q : LsI) : cutV (Q ++ [q]) = cutV Q ++ [.slice q.a q.xs.length q.cap] := by unfold cutV; rw [List.map_append]; rfl
theorem cutV_at {Q : List LsI} {k : Nat} (h : k < Q.length) : (cutV Q)[k]? = some (.slice (Q[k]).a (Q[k]).xs.length (Q[k]).cap) := by
  unfold cutV
  rw [List.getElem?_map, List.getElem?_eq_getElem h]; rfl
theorem cutV_len (Q : List LsI) : (cutV Q).length = Q.length := List.length_map ..
/-- Two rows of lists that grow side by side, and the lists themselves. -/
structure CqS (w : World) (Q0 Q1 Q2 : List LsI) (v u : Value) (W : World) : Prop where
  bel : Below w.heap.size w W
  own : CqO W w.heap.size (smarks 3) Q0
  fst : W.ownsRow w.heap.size 25 1 v Q1.length (fullV Q1)
  snd : W.ownsRow w.heap.size 25 1 u Q2.length (cutV Q2)
  ne : v.ownBlock = none ∨ v.ownBlock ≠ u.ownBlock
theorem CqS.nil (w : World) {W : World} (h : Below w.heap.size w W) : CqS w [] [] [] (.slice none 0 0) (.slice none 0 0) W := ⟨h, (fun q hq => by cases hq), World.ownsRow_nil _ _ _ _, World.ownsRow_nil _ _ _ _, .inl rfl⟩
theorem CqS.later {w W W' : World} {Q0 Q1 Q2 : List LsI} {v u : Value} (h : CqS w Q0 Q1 Q2 v u W) (hb : Below W.heap.size W W') : CqS w Q0 Q1 Q2 v u W' := ⟨ybt' h.bel hb, h.own.later hb, yowns_later h.fst hb, yowns_later h.snd hb, h.ne⟩
theorem CqS.add {w W W' : World} {Q0 Q1 Q2 : List LsI} {v u : Value} (h : CqS w Q0 Q1 Q2 v u W) (hb : Below W.heap.size W W') {q : LsI} (hq : W'.ownsRow W.heap.size 32 2 (.slice q.a (q.xs.length + 3) q.cap) (q.xs.length + 3) (smC (q.xs ++ smarks 3))) : CqS w (Q0 ++ [q]) Q1 Q2 v u W' := by
  have h2 := h.later hb
  refine ⟨h2.bel, fun p hp => ?_, h2.fst, h2.snd, h2.ne⟩
  rcases List.mem_append.1 hp with hp | hp
  · exact h2.own p hp
  · rw [List.mem_singleton.1 hp]
    exact yowns_base hq h.bel.size
theorem CqS.ne' {w W : World} {Q0 Q1 Q2 : List LsI} {v u : Value} (h : CqS w Q0 Q1 Q2 v u W) : u.ownBlock = none ∨ u.ownBlock ≠ v.ownBlock := by
  rcases h.ne with h | h
  · rw [h]
    cases u.ownBlock with
    | none => exact .inl rfl
    | some x => exact .inr (by simp)
  · exact .inr (fun e => h e.symm)
theorem CqS.one {w W W' : World} {Q0 Q1 Q2 Q3 : List LsI} {v u v' : Value} (h : CqS w Q0 Q1 Q2 v u W) (o : W'.ownsRow w.heap.size 25 1 v' Q3.length (fullV Q3)) (hg : W.grownBy W' v.ownBlock) (ha : v'.ownBlock = v.ownBlock ∨ v'.ownBlock = some W.heap.size) : CqS w Q0 Q3 Q2 v' u W' := by
  refine ⟨h.bel.grown hg h.bel.size (fun q e => (h.fst.lt q e).1), h.own.kept h.fst (by decide) hg, o, h.snd.kept hg h.ne', ?_⟩
  rcases ha with ha | ha
  · rw [ha]; exact h.ne
  · right
    rw [ha]
    intro e
    have := (h.snd.lt _ e.symm).2
    omega
theorem CqS.two {w W W' : World} {Q0 Q1 Q2 Q3 : List LsI} {v u u' : Value} (h : CqS w Q0 Q1 Q2 v u W) (o : W'.ownsRow w.heap.size 25 1 u' Q3.length (cutV Q3)) (hg : W.grownBy W' u.ownBlock) (ha : u'.ownBlock = u.ownBlock ∨ u'.ownBlock = some W.heap.size) : CqS w Q0 Q1 Q3 v u' W' := by
  refine ⟨h.bel.grown hg h.bel.size (fun q e => (h.snd.lt q e).1), h.own.kept h.snd (by decide) hg, h.fst.kept hg h.ne, o, ?_⟩
  rcases ha with ha | ha
  · rw [ha]; exact h.ne
  · right
    rw [ha]
    intro e
    have := (h.fst.lt _ e).2
    omega
/-- Lists that hold the same. -/
def CqK (ls Q : List LsI) : Prop := Q.map (·.xs) = ls.map (·.xs)
theorem chkF_same : ∀ (ls Q : List LsI) (i : Nat), CqK ls Q → chkF i Q = chkF i ls
  | [], [], _, _ => rfl
  | [], q :: r, _, h => by cases h
  | p :: s, [], _, h => by cases h
  | p :: s, q :: r, i, h => by
    unfold CqK at h
    rw [List.map_cons, List.map_cons] at h
    injection h with h1 h2
    unfold chkF
    rw [h1, chkF_same s r (i + 1) h2]
theorem chkL_same {ls Q : List LsI} (h : CqK ls Q) : chkL Q = chkL ls := by
  have hl : Q.length = ls.length := by have := congrArg List.length h; simpa using this
  unfold chkL
  rw [hl, chkF_same ls Q 0 h]
theorem flatS_same {ls Q : List LsI} (h : CqK ls Q) : flatS Q = flatS ls := by
  unfold flatS
  rw [List.flatMap_def, List.flatMap_def]
  exact congrArg List.flatten h
theorem cfault_same (e i : Int) (w : World) : (Op.equalIn 10000 28 (.agg #[.int .i64 e, .int .i64 i]) (.agg #[.int .i64 e, .int .i64 i])).run Try.prog w = .ok true w := by
  have u1 := Try.underlying3
  have u2 := Try.underlying26
  have hS : Try.prog.underlying 28 = some (.struct (Try.prog.fieldsOf 28)) := by kernel_rfl
  rw [show (10000 : Nat) = 9999 + 1 from rfl, run_equalIn_agg w 9999 28 _ _ hS (by kernel_rfl)]
  simp only [Program.fieldsOf, Try.underlying28]
  go_simp
theorem MeanT.ok {S : List Nat} {r : Nat} (h : MeanT S r 0) : isone r = true ∧ r < 18446744073709551616 := by
  rcases h with ⟨_, rfl, _⟩ | ⟨_, m, hm, ⟨h1, rfl, _⟩ | ⟨_, _, h2⟩⟩
  · exact ⟨by decide, by decide⟩
  · exact ⟨h1, hm.1⟩
  · cases h2
theorem MgC.rows {ls Q : List LsI} {e f i j : Int} {v u : Value} {W V : World} {b1 b2 : Nat} (hl : CqK ls Q) (h : MgC Q e i v (fun O => W.ownsRow b1 32 2 v O.length (smC O))) (g : MgC ls f j u (fun O => V.ownsRow b2 32 2 u O.length (smC O))) :
    e = f ∧ i = j ∧ ∃ M : List (Int × Nat), M.length ≤ 4096 ∧ (∀ p ∈ M, isone p.2 = true ∧ p.2 < 18446744073709551616) ∧ W.ownsRow b1 32 2 v M.length (smC M) ∧ V.ownsRow b2 32 2 u M.length (smC M) := by
  have nil : ∀ (X : World) (b : Nat), X.ownsRow b 32 2 (.slice none 0 0) ([] : List (Int × Nat)).length (smC []) := fun X b => World.ownsRow_nil _ _ _ _
  have none : v = .slice none 0 0 → u = .slice none 0 0 → ∃ M : List (Int × Nat), M.length ≤ 4096 ∧ (∀ p ∈ M, isone p.2 = true ∧ p.2 < 18446744073709551616) ∧ W.ownsRow b1 32 2 v M.length (smC M) ∧ V.ownsRow b2 32 2 u M.length (smC M) := fun h1 h2 => ⟨[], by simp, by simp, by rw [h1]; exact nil _ _, by rw [h2]; exact nil _ _⟩
  unfold MgC at h g
  rw [chkL_same hl, flatS_same hl] at h
  rcases h with ⟨h1, h2, h3⟩ | ⟨h1, h2, h3, h4, h5⟩ | ⟨h1, O, h2, h3⟩
  · rcases g with ⟨g1, g2, g3⟩ | ⟨g1, _⟩ | ⟨g1, _⟩
    · have q := h2.trans g2.symm
      injection q with q1 q2
      exact ⟨q1, q2, none h3 g3⟩
    · exact absurd g1 h1
    · exact absurd g1 h1
  · rcases g with ⟨g1, _⟩ | ⟨g1, g2, g3, g4, g5⟩ | ⟨g1, O2, g2, g3⟩
    · exact absurd h1 g1
    · exact ⟨by rw [h3, g3], by rw [h4, g4], none h5 g5⟩
    · exact absurd h2 (fun q => g2.no q)
  · rcases g with ⟨g1, _⟩ | ⟨g1, g2, g3, g4, g5⟩ | ⟨g1, O2, g2, g3⟩
    · exact absurd h1 g1
    · exact absurd g2 (fun q => h2.no q)
    · have e1 : O = O2 := h2.one g2
      subst e1
      rcases h3 with ⟨h3, h4, h5, h6⟩ | ⟨h3, h4, h5, h6⟩
      · rcases g3 with ⟨g3, g4, g5, g6⟩ | ⟨g3, g4, g5, g6⟩
        · exact ⟨by rw [h4, g4], by rw [h5, g5], none h6 g6⟩
        · omega
      · rcases g3 with ⟨g3, g4, g5, g6⟩ | ⟨g3, g4, g5, g6⟩
        · omega
        · exact ⟨by rw [h4, g4], by rw [h5, g5], O, h3, fun p hp => (h2.mean p hp).2.ok, h6, g6⟩
end Go.Proofs.Ytmigdomlakflfaa

/- The law's apart, of any lists: an answer is written over, all others stay. -/
namespace Go.Proofs.Ytmigdomlakflfaa
open Go.RowKit
set_option linter.unusedVariables false
set_option linter.unusedSimpArgs false

/-- Copies of the first lists, and their row. -/
structure CqP (w1 : World) (k : Nat) (v : Value) (P : List LsI) (W : World) : Prop where
  bel : Below w1.heap.size w1 W
  len : P.length = k
  own : CqO W w1.heap.size [] P
  row : W.ownsRow w1.heap.size 25 1 v k (cutV P)
theorem CqP.nil (w1 : World) : CqP w1 0 (.slice none 0 0) [] w1 := ⟨Below.refl _ _, rfl, (fun q hq => by cases hq), World.ownsRow_nil _ _ _ _⟩
theorem CqP.more {w1 W W2 W3 : World} {k : Nat} {v v3 : Value} {P : List LsI} (h : CqP w1 k v P W) (hb : Below W.heap.size W W2) {q : LsI} (hq : W2.ownsRow W.heap.size 32 2 (.slice q.a q.xs.length q.cap) q.xs.length (smC q.xs)) {o : Obj}
    (hr : W3.ownsRow w1.heap.size 25 1 v3 (k + 1) (cutV P ++ [.slice q.a q.xs.length q.cap])) (hg : (W2.alloc o).grownBy W3 v.ownBlock) : CqP w1 (k + 1) v3 (P ++ [q]) W3 := by
  have hA : Below W2.heap.size W2 (W2.alloc o) := (Below.refl _ _).alloc (Nat.le_refl _) _
  have hbA := ybt' hb hA
  have hrow := yowns_later h.row hbA
  refine ⟨?_, by rw [List.length_append, h.len]; rfl, fun p hp => ?_, by rw [cutV_snoc]; exact hr⟩
  · exact (ybt' h.bel hbA).grown hg (ybt' h.bel hbA).size (fun g e => (hrow.lt g e).1)
  · have key : ∀ r : LsI, (W2.alloc o).ownsRow w1.heap.size 32 2 (.slice r.a (r.xs.length + ([] : List (Int × Nat)).length) r.cap) (r.xs.length + ([] : List (Int × Nat)).length) (smC (r.xs ++ [])) → W3.ownsRow w1.heap.size 32 2 (.slice r.a (r.xs.length + ([] : List (Int × Nat)).length) r.cap) (r.xs.length + ([] : List (Int × Nat)).length) (smC (r.xs ++ [])) := fun r hr2 => hr2.kept hg (own_unlike hr2 hrow (by decide))
    rcases List.mem_append.1 hp with hp | hp
    · exact key p (yowns_later (h.own p hp) hbA)
    · rw [List.mem_singleton.1 hp]
      refine key q ?_
      rw [List.append_nil]
      exact yowns_base (yowns_later hq hA) h.bel.size
theorem CqP.get {w1 W : World} {k : Nat} {v : Value} {P : List LsI} (h : CqP w1 k v P W) {q : LsI} (hq : q ∈ P) : RdV W q.a (smC q.xs) ∧ ∀ g, q.a = some ⟨g, 0, none⟩ → w1.heap.size ≤ g ∧ g < W.heap.size := by
  have hr := h.own q hq
  rw [List.append_nil] at hr
  obtain ⟨a, c, e, hv, _, hg⟩ := eshape hr
  injection e with e1 _ _
  rw [e1]
  exact ⟨hv, hg⟩
end Go.Proofs.Ytmigdomlakflfaa

/- Some lists of samples that came in: each no longer than the bulk. -/
namespace Go.Proofs.Ytmigdomlakflfaa
open Go.RowKit Go.ChangeShapes Go.WideShapes Go.Deep Go.Joins
set_option linter.unusedVariables false

end Go.Proofs.Ytmigdomlakflfaa

/- The law CleanMerge answers true, whatever lists come in. -/
namespace Go.Proofs.Ytmigdomlakflfaa
open Go.RowKit
set_option linter.unusedVariables false
set_option linter.unusedSimpArgs false

/-- The lists that are handed in, once all are made. -/
theorem CqS.rdl {w W : World} {Q : List LsI} {v u : Value} {k : Nat} (h : CqS w Q Q Q v u W) (hk : Q.length = k) (hx : ∀ q ∈ Q, ∀ p ∈ q.xs, I64 p.1 ∧ p.2 < 18446744073709551616) : ∃ au cu av cv, u = .slice au k cu ∧ v = .slice av k cv ∧ Hid (RdL W au Q ∧ RdV W au (cutV Q) ∧ RdV W av (fullV Q)) ∧ Hid ((∀ g, au = some ⟨g, 0, none⟩ → g < W.heap.size) ∧ ∀ q ∈ Q, RdV W q.a (smC (q.xs ++ smarks 3)) ∧ (q.a = none → q.cap = 0 ∧ q.xs.length = 0) ∧ ∀ g, q.a = some ⟨g, 0, none⟩ → g < W.heap.size) := by
  subst hk
  obtain ⟨au, cu, e1, hV, _, hg⟩ := eshape h.snd
  obtain ⟨av, cv, e2, hV2, _, _⟩ := eshape h.fst
  have key : ∀ q ∈ Q, RdV W q.a (smC (q.xs ++ smarks 3)) ∧ (q.a = none → q.cap = 0 ∧ q.xs.length = 0) ∧ ∀ g, q.a = some ⟨g, 0, none⟩ → g < W.heap.size := fun q hq => by
    obtain ⟨a, c, e, hv, hz, hg⟩ := eshape (h.own q hq)
    injection e with e3 _ _
    subst e3
    exact ⟨hv, fun e => by have := (hz e).2; have : (smarks 3).length = 3 := rfl; omega, fun g e => (hg g e).2⟩
  refine ⟨au, cu, av, cv, e1, e2, ⟨⟨?_, fun q hq => ⟨?_, (key q hq).2.1, hx q hq⟩⟩, hV, hV2⟩, fun g e => (hg g e).2, key⟩
  · rcases hV with h0 | ⟨g, ha, hl, hc⟩
    · left
      have : Q.length = 0 := by rw [← cutV_len, h0]; rfl
      exact List.eq_nil_of_length_eq_zero this
    · refine .inr ⟨g, 0, ha, hl, fun j p hj => ?_⟩
      rw [Nat.zero_add]
      refine hc j _ ?_
      unfold cutV
      rw [List.getElem?_map, hj]; rfl
  · have q1 := (key q hq).1
    rw [smC_append] at q1
    exact RdS.of q1.front
theorem CqK.more {ls Q : List LsI} {k : Nat} (h : CqK (ls.take k) Q) (hk : k < ls.length) {q : LsI} (hq : q.xs = (ls[k]).xs) : CqK (ls.take (k + 1)) (Q ++ [q]) := by
  unfold CqK at h ⊢
  rw [List.take_succ_eq_append_getElem hk, List.map_append, List.map_append, h, List.map_cons, List.map_cons, hq]
theorem CqK.at {ls Q : List LsI} (h : CqK ls Q) {k : Nat} (h1 : k < ls.length) (h2 : k < Q.length) : (Q[k]).xs = (ls[k]).xs := by
  have q := congrArg (fun l : List (List (Int × Nat)) => l[k]?) h
  rw [List.getElem?_map, List.getElem?_map, List.getElem?_eq_getElem h1, List.getElem?_eq_getElem h2] at q
  simpa using q
theorem CqK.len {ls Q : List LsI} (h : CqK ls Q) : Q.length = ls.length := by have := congrArg List.length h; simpa using this
theorem CqK.all {ls Q : List LsI} (h : CqK ls Q) {P : List (Int × Nat) → Prop} (hp : ∀ p ∈ ls, P p.xs) : ∀ q ∈ Q, P q.xs := fun q hq => by
  have : q.xs ∈ Q.map (·.xs) := List.mem_map.2 ⟨q, hq, rfl⟩
  rw [h] at this
  obtain ⟨p, hpp, e⟩ := List.mem_map.1 this
  rw [← e]
  exact hp p hpp
/-- What comes of lists: the fault, and what is gathered. -/
def MgO (F : List (Int × Nat)) (c : Int × Int) (er ix : Int) (M : List (Int × Nat)) : Prop :=
  (c ≠ (0, 0) ∧ (er, ix) = c ∧ M = []) ∨ (c = (0, 0) ∧ MrX F ∧ er = 9 ∧ ix = -1 ∧ M = []) ∨
  (c = (0, 0) ∧ ∃ O, MrA F O ∧ ((4096 < O.length ∧ er = 3 ∧ ix = -1 ∧ M = []) ∨ (O.length ≤ 4096 ∧ er = 0 ∧ ix = 0 ∧ M = O)))
theorem MgO.one {F : List (Int × Nat)} {c : Int × Int} {e i f j : Int} {M N : List (Int × Nat)} (h : MgO F c e i M) (g : MgO F c f j N) : e = f ∧ i = j ∧ M = N := by
  rcases h with ⟨h1, h2, h3⟩ | ⟨h1, h2, h3, h4, h5⟩ | ⟨h1, O, h2, h3⟩
  · rcases g with ⟨g1, g2, g3⟩ | ⟨g1, _⟩ | ⟨g1, _⟩
    · have q := h2.trans g2.symm
      injection q with q1 q2
      exact ⟨q1, q2, by rw [h3, g3]⟩
    · exact absurd g1 h1
    · exact absurd g1 h1
  · rcases g with ⟨g1, _⟩ | ⟨g1, g2, g3, g4, g5⟩ | ⟨g1, O2, g2, g3⟩
    · exact absurd h1 g1
    · exact ⟨by rw [h3, g3], by rw [h4, g4], by rw [h5, g5]⟩
    · exact absurd h2 (fun q => g2.no q)
  · rcases g with ⟨g1, _⟩ | ⟨g1, g2, g3, g4, g5⟩ | ⟨g1, O2, g2, g3⟩
    · exact absurd h1 g1
    · exact absurd g2 (fun q => h2.no q)
    · have e1 : O = O2 := h2.one g2
      subst e1
      rcases h3 with ⟨h3, h4, h5, h6⟩ | ⟨h3, h4, h5, h6⟩
      · rcases g3 with ⟨g3, g4, g5, g6⟩ | ⟨g3, g4, g5, g6⟩
        · exact ⟨by rw [h4, g4], by rw [h5, g5], by rw [h6, g6]⟩
        · omega
      · rcases g3 with ⟨g3, g4, g5, g6⟩ | ⟨g3, g4, g5, g6⟩
        · omega
        · exact ⟨by rw [h4, g4], by rw [h5, g5], by rw [h6, g6]⟩
theorem MgC.of {ls : List LsI} {e i : Int} {v : Value} {W : World} {b : Nat} (h : MgC ls e i v (fun O => W.ownsRow b 32 2 v O.length (smC O))) :
    ∃ M, MgO (flatS ls) (chkL ls) e i M ∧ M.length ≤ 4096 ∧ (∀ p ∈ M, isone p.2 = true ∧ p.2 < 18446744073709551616) ∧ W.ownsRow b 32 2 v M.length (smC M) := by
  have nil : v = .slice none 0 0 → W.ownsRow b 32 2 v ([] : List (Int × Nat)).length (smC []) := fun e => by rw [e]; exact World.ownsRow_nil _ _ _ _
  rcases h with ⟨h1, h2, h3⟩ | ⟨h1, h2, h3, h4, h5⟩ | ⟨h1, O, h2, ⟨h3, h4, h5, h6⟩ | ⟨h3, h4, h5, h6⟩⟩
  · exact ⟨[], .inl ⟨h1, h2, rfl⟩, by simp, by simp, nil h3⟩
  · exact ⟨[], .inr (.inl ⟨h1, h2, h3, h4, rfl⟩), by simp, by simp, nil h5⟩
  · exact ⟨[], .inr (.inr ⟨h1, O, h2, .inl ⟨h3, h4, h5, rfl⟩⟩), by simp, by simp, nil h6⟩
  · exact ⟨O, .inr (.inr ⟨h1, O, h2, .inr ⟨h3, h4, h5, rfl⟩⟩), h3, fun p hp => (h2.mean p hp).2.ok, h6⟩
end Go.Proofs.Ytmigdomlakflfaa

/- The law's turned: lists in another order, each with its samples in another one. -/
namespace Go.Proofs.Ytmigdomlakflfaa
open Go.RowKit
set_option linter.unusedVariables false
set_option linter.unusedSimpArgs false

theorem epick_any (x : Int) (m n : Nat) (w : World) (h : I64 x) (h0 : 0 < m) (hm : m ≤ 1048577) (hx : x % (m : Int) = (n : Int)) : Calls Try.prog 43 #[.int .i64 x, .int .i64 (m : Int)] w fun e w' => e = .returned (.int .i64 (n : Int)) ∧ w' = w := by
  obtain ⟨h0', h1⟩ := h
  have a := Int.emod_nonneg x (show (m : Int) ≠ 0 by omega)
  have b := Int.emod_lt_of_pos x (show (0 : Int) < (m : Int) by omega)
  have b1 : (0 ≤ Int.tmod x m ∧ Int.tmod x m = x % m) ∨ (Int.tmod x m < 0 ∧ Int.tmod x m = x % m - m) := by
    rw [Int.tmod_eq_emod]
    split <;> omega
  rw [hx] at a b b1
  have m0 : (m : Int) ≠ 0 := by omega
  rcases b1 with ⟨hn, b1⟩ | ⟨hn, b1⟩
  · have e1 : IntKind.i64.wrap (n : Int) = (n : Int) := by rw [IntKind.wrap_i64]; omega
    rw [b1] at hn
    clear a b h0' h1 hm h0 hx
    go_enter Try.func43, Try.ntmps43
    go_wp2_with fail
    go_ret
    exact ⟨rfl, rfl⟩
  · obtain ⟨r, hr⟩ : ∃ r, Int.tmod x m = r := ⟨_, rfl⟩
    rw [hr] at b1 hn
    have e1 : IntKind.i64.wrap r = r := by rw [IntKind.wrap_i64]; omega
    have e2 : IntKind.i64.wrap (r + m) = (n : Int) := by rw [IntKind.wrap_i64]; omega
    clear a b b1 h0' h1 hm h0 hx
    go_enter Try.func43, Try.ntmps43
    go_wp2_with fail
    go_ret
    exact ⟨rfl, rfl⟩

theorem ownsSetS {w : World} {base e s g cap n : Nat} {xs : List Value} (h : w.ownsRow base e s (.slice (some ⟨g, 0, none⟩) n cap) n xs) (k : Nat) (v : Value) : (w.setCell ⟨g, k, none⟩ v).ownsRow base e s (.slice (some ⟨g, 0, none⟩) n cap) n (xs.set k v) := by
  obtain ⟨h0, h1⟩ := h
  rcases h1 with ⟨h1, _⟩ | ⟨g', cap', cur, h1, h2, h3, h4, h5, h6, h7⟩
  · cases h1
  · injection h1 with e1 e2 e3
    injection e1 with e1
    injection e1 with e1
    subst e1 e3
    refine ⟨by rw [List.length_set]; exact h0, .inr ⟨g, cap, cur.setIfInBounds k v, rfl, h2, ?_, h4, h5, by simpa using h6, ?_⟩⟩
    · exact heap_setCell_same w g k cur e v h3
    · rw [← h7]
      simp [List.take_set]
theorem ownsAt {w : World} {base e s g cap n : Nat} {xs : List Value} (h : w.ownsRow base e s (.slice (some ⟨g, 0, none⟩) n cap) n xs) {j : Nat} {u : Value} (hj : xs[j]? = some u) : w.cell? ⟨g, j, none⟩ = some u ∧ w.frozen? ⟨g, j, none⟩ = false := by
  obtain ⟨a, c, e1, hV⟩ := yshape h
  injection e1 with e1 _ _
  subst e1
  refine ⟨?_, ?_⟩
  · rcases hV with h0 | ⟨g', ha, _, hc⟩
    · rw [h0] at hj; cases hj
    · injection ha with ha
      injection ha with ha
      subst ha
      exact hc j u hj
  · rcases h.2 with ⟨h1, _⟩ | ⟨g', cap', cur, h1, h2, h3, _⟩
    · cases h1
    · injection h1 with e1 e2 e3
      injection e1 with e1
      injection e1 with e1
      subst e1
      simp [World.frozen?, h3]
theorem smC_set (xs : List (Int × Nat)) (k : Nat) (p : Int × Nat) : smC (xs.set k p) = ((smC xs).set (k * 2) (.int .i64 p.1)).set (k * 2 + 1) (.float .f64 p.2) := by
  induction xs generalizing k with
  | nil => rfl
  | cons y r ih =>
    cases k with
    | zero => rfl
    | succ k =>
      have e : smC ((y :: r).set (k + 1) p) = .int .i64 y.1 :: .float .f64 y.2 :: smC (r.set k p) := rfl
      rw [e, ih k]
      rw [show (k + 1) * 2 = k * 2 + 1 + 1 by omega]
      rfl
/-- Two lists lie in unlike blocks. -/
def BkNe (p q : LsI) : Prop := (Value.slice p.a 0 0).ownBlock = none ∨ (Value.slice p.a 0 0).ownBlock ≠ (Value.slice q.a 0 0).ownBlock
theorem bk_any (a : Option Addr) (n c m d : Nat) : (Value.slice a n c).ownBlock = (Value.slice a m d).ownBlock := by cases a <;> rfl
theorem BkNe.symm {p q : LsI} (h : BkNe p q) : BkNe q p := by
  unfold BkNe at *
  rcases h with h | h
  · rw [h]
    cases (Value.slice q.a 0 0).ownBlock with
    | none => exact .inl rfl
    | some x => exact .inr (by simp)
  · exact .inr (fun e => h e.symm)
theorem BkNe.of {p q : LsI} (h : BkNe p q) (n c m d : Nat) : (Value.slice p.a n c).ownBlock = none ∨ (Value.slice p.a n c).ownBlock ≠ (Value.slice q.a m d).ownBlock := by
  unfold BkNe at h
  rw [bk_any p.a n c 0 0, bk_any q.a m d 0 0]
  exact h
/-- Lists of one's own, no two in one block, and their row. -/
structure TuS (w1 : World) (P : List LsI) (v : Value) (W : World) : Prop where
  bel : Below w1.heap.size w1 W
  own : ∀ q ∈ P, W.ownsRow w1.heap.size 32 2 (.slice q.a q.xs.length q.cap) q.xs.length (smC q.xs)
  row : W.ownsRow w1.heap.size 25 1 v P.length (cutV P)
  apart : P.Pairwise BkNe
theorem TuS.nil (w1 : World) : TuS w1 [] (.slice none 0 0) w1 := ⟨Below.refl _ _, (fun q hq => by cases hq), World.ownsRow_nil _ _ _ _, .nil⟩
theorem TuS.later {w1 W W' : World} {P : List LsI} {v : Value} (h : TuS w1 P v W) (hb : Below W.heap.size W W') : TuS w1 P v W' := ⟨ybt' h.bel hb, fun q hq => yowns_later (h.own q hq) hb, yowns_later h.row hb, h.apart⟩
theorem TuS.more {w1 W W2 W3 : World} {v v3 : Value} {P : List LsI} (h : TuS w1 P v W) (hb : Below W.heap.size W W2) {q : LsI} (hq : W2.ownsRow W.heap.size 32 2 (.slice q.a q.xs.length q.cap) q.xs.length (smC q.xs)) {o : Obj}
    (hr : W3.ownsRow w1.heap.size 25 1 v3 (P.length + 1) (cutV P ++ [.slice q.a q.xs.length q.cap])) (hg : (W2.alloc o).grownBy W3 v.ownBlock) : TuS w1 (P ++ [q]) v3 W3 := by
  have hA : Below W2.heap.size W2 (W2.alloc o) := (Below.refl _ _).alloc (Nat.le_refl _) _
  have hbA := ybt' hb hA
  have hrow := yowns_later h.row hbA
  refine ⟨?_, fun p hp => ?_, by rw [cutV_snoc, List.length_append]; exact hr, ?_⟩
  · exact (ybt' h.bel hbA).grown hg (ybt' h.bel hbA).size (fun g e => (hrow.lt g e).1)
  · have key : ∀ r : LsI, (W2.alloc o).ownsRow w1.heap.size 32 2 (.slice r.a r.xs.length r.cap) r.xs.length (smC r.xs) → W3.ownsRow w1.heap.size 32 2 (.slice r.a r.xs.length r.cap) r.xs.length (smC r.xs) := fun r hr2 => hr2.kept hg (own_unlike hr2 hrow (by decide))
    rcases List.mem_append.1 hp with hp | hp
    · exact key p (yowns_later (h.own p hp) hbA)
    · rw [List.mem_singleton.1 hp]
      exact key q (yowns_base (yowns_later hq hA) h.bel.size)
  · rw [List.pairwise_append]
    refine ⟨h.apart, List.pairwise_singleton _ _, fun p hp r hr2 => ?_⟩
    rw [List.mem_singleton.1 hr2]
    unfold BkNe
    rw [bk_any p.a 0 0 p.xs.length p.cap, bk_any q.a 0 0 q.xs.length q.cap]
    cases hx : (Value.slice p.a p.xs.length p.cap).ownBlock with
    | none => exact .inl rfl
    | some g =>
      refine .inr (fun e => ?_)
      have h1 := ((h.own p hp).lt g hx).2
      have h2 := (hq.lt g e.symm).1
      omega
theorem cutV_set (P : List LsI) (i : Nat) (q : LsI) : cutV (P.set i q) = (cutV P).set i (.slice q.a q.xs.length q.cap) := by unfold cutV; rw [List.map_set]
theorem cutV_same (P : List LsI) (i : Nat) (hi : i < P.length) (q : LsI) (ha : q.a = (P[i]).a) (hc : q.cap = (P[i]).cap) (hl : q.xs.length = (P[i]).xs.length) : cutV (P.set i q) = cutV P := by
  rw [cutV_set, ha, hc, hl]
  have e := cutV_at hi
  rw [List.getElem?_eq_some_iff] at e
  obtain ⟨h1, h2⟩ := e
  rw [← h2]
  exact List.set_getElem_self h1
/-- Two lists changed about. -/
theorem TuS.swap {w1 W : World} {P : List LsI} {g n cp : Nat} (h : TuS w1 P (.slice (some ⟨g, 0, none⟩) n cp) W) (hn : P.length = n) {i j : Nat} (hi : i < P.length) (hj : j < P.length) :
    TuS w1 ((P.set i P[j]).set j P[i]) (.slice (some ⟨g, 0, none⟩) n cp) ((W.setCell ⟨g, i, none⟩ (.slice (P[j]).a (P[j]).xs.length (P[j]).cap)).setCell ⟨g, j, none⟩ (.slice (P[i]).a (P[i]).xs.length (P[i]).cap)) := by
  subst hn
  have hp := List.set_set_perm hi hj
  have hg : W.grownBy ((W.setCell ⟨g, i, none⟩ (.slice (P[j]).a (P[j]).xs.length (P[j]).cap)).setCell ⟨g, j, none⟩ (.slice (P[i]).a (P[i]).xs.length (P[i]).cap)) (some g) := gby_set (gby_set (gby_of (Below.refl _ _)) _ _) _ _
  have hlt := h.row.lt g rfl
  refine ⟨h.bel.grown hg h.bel.size (fun x e => by cases e; exact hlt.1), fun q hq => ?_, ?_, ?_⟩
  · have hq' := hp.mem_iff.1 hq
    exact (h.own q hq').kept hg (own_unlike (h.own q hq') h.row (by decide))
  · rw [List.length_set, List.length_set, cutV_set, cutV_set]
    exact ownsSetS (ownsSetS h.row i _) j _
  · exact (hp.pairwise_iff (fun {x y} q => q.symm)).2 h.apart
theorem flatS_perm {P Q : List LsI} (h : P.Perm Q) : (flatS P).Perm (flatS Q) := h.flatMap_right _
theorem flatS_set : ∀ (P : List LsI) (i : Nat) (hi : i < P.length) (q : LsI), q.xs.Perm (P[i]).xs → (flatS (P.set i q)).Perm (flatS P)
  | [], i, hi, _, _ => absurd hi (by simp)
  | p :: r, 0, _, q, h => by
    have e1 : flatS ((p :: r).set 0 q) = q.xs ++ flatS r := rfl
    have e2 : flatS (p :: r) = p.xs ++ flatS r := rfl
    rw [e1, e2]
    exact h.append_right _
  | p :: r, i + 1, hi, q, h => by
    have e1 : flatS ((p :: r).set (i + 1) q) = p.xs ++ flatS (r.set i q) := rfl
    have e2 : flatS (p :: r) = p.xs ++ flatS r := rfl
    rw [e1, e2]
    exact (flatS_set r i (by simpa using hi) q h).append_left _
/-- Two samples of a list changed about. -/
theorem TuS.turn {w1 W : World} {P : List LsI} {v : Value} (h : TuS w1 P v W) {i gq c d : Nat} (hi : i < P.length) (ha : (P[i]).a = some ⟨gq, 0, none⟩) (hc : c < (P[i]).xs.length) (hd : d < (P[i]).xs.length) :
    TuS w1 (P.set i ⟨(P[i]).a, (P[i]).cap, ((P[i]).xs.set c (P[i]).xs[d]).set d (P[i]).xs[c]⟩) v ((((W.setCell ⟨gq, c * 2, none⟩ (.int .i64 ((P[i]).xs[d]).1)).setCell ⟨gq, c * 2 + 1, none⟩ (.float .f64 ((P[i]).xs[d]).2)).setCell ⟨gq, d * 2, none⟩ (.int .i64 ((P[i]).xs[c]).1)).setCell ⟨gq, d * 2 + 1, none⟩ (.float .f64 ((P[i]).xs[c]).2)) := by
  have hg : W.grownBy ((((W.setCell ⟨gq, c * 2, none⟩ (.int .i64 ((P[i]).xs[d]).1)).setCell ⟨gq, c * 2 + 1, none⟩ (.float .f64 ((P[i]).xs[d]).2)).setCell ⟨gq, d * 2, none⟩ (.int .i64 ((P[i]).xs[c]).1)).setCell ⟨gq, d * 2 + 1, none⟩ (.float .f64 ((P[i]).xs[c]).2)) (some gq) := gby_set (gby_set (gby_set (gby_set (gby_of (Below.refl _ _)) _ _) _ _) _ _) _ _
  have hm : P[i] ∈ P := List.getElem_mem hi
  have ho := h.own _ hm
  have hlt := ho.lt gq (by rw [ha]; rfl)
  have hblk : (Value.slice (P[i]).a 0 0).ownBlock = some gq := by rw [ha]; rfl
  have hl2 : (((P[i]).xs.set c (P[i]).xs[d]).set d (P[i]).xs[c]).length = (P[i]).xs.length := by rw [List.length_set, List.length_set]
  have hap : ∀ x y (hx : x < P.length) (hy : y < P.length), x ≠ y → BkNe P[x] P[y] := fun x y hx hy hne => by
    rcases Nat.lt_or_gt_of_ne hne with q | q
    · exact List.pairwise_iff_getElem.1 h.apart x y hx hy q
    · exact (List.pairwise_iff_getElem.1 h.apart y x hy hx q).symm
  refine ⟨h.bel.grown hg h.bel.size (fun x e => by cases e; exact hlt.1), fun q hq => ?_, ?_, ?_⟩
  · obtain ⟨j, hj⟩ := List.getElem?_of_mem hq
    by_cases hij : i = j
    · subst hij
      rw [List.getElem?_set_self hi] at hj
      injection hj with hj
      subst hj
      dsimp only
      rw [hl2, smC_set, smC_set, ha]
      rw [ha] at ho
      exact ownsSetS (ownsSetS (ownsSetS (ownsSetS ho _ _) _ _) _ _) _ _
    · rw [List.getElem?_set_ne hij] at hj
      obtain ⟨hj2, rfl⟩ := List.getElem?_eq_some_iff.1 hj
      have hne := (hap j i hj2 hi (fun e => hij e.symm)).of (P[j]).xs.length (P[j]).cap 0 0
      rw [hblk] at hne
      exact (h.own _ (List.getElem_mem hj2)).kept hg hne
  · rw [List.length_set, cutV_same P i hi (⟨(P[i]).a, (P[i]).cap, ((P[i]).xs.set c (P[i]).xs[d]).set d (P[i]).xs[c]⟩ : LsI) rfl rfl hl2]
    exact h.row.kept hg (by
      have q := own_unlike h.row ho (by decide)
      rw [bk_any (P[i]).a _ _ 0 0, hblk] at q
      exact q)
  · rw [List.pairwise_iff_getElem]
    intro x y hx hy hxy
    rw [List.length_set] at hx hy
    have e : ∀ z (hz : z < P.length), ((P.set i ⟨(P[i]).a, (P[i]).cap, ((P[i]).xs.set c (P[i]).xs[d]).set d (P[i]).xs[c]⟩)[z]'(by rw [List.length_set]; exact hz)).a = (P[z]).a := fun z hz => by
      rw [List.getElem_set]
      split
      · rename_i q; subst q; rfl
      · rfl
    have q := hap x y hx hy (by omega)
    unfold BkNe at q ⊢
    rw [e x hx, e y hy]
    exact q
end Go.Proofs.Ytmigdomlakflfaa

/- The law's turned: of any lists and any order. -/
namespace Go.Proofs.Ytmigdomlakflfaa
open Go.RowKit
set_option linter.unusedVariables false
set_option linter.unusedSimpArgs false

theorem TuS.drewN {w1 W : World} {P : List LsI} {v : Value} (h : TuS w1 P v W) (n : Nat) : TuS w1 P v (W.drewN n) := ⟨⟨h.bel.os, h.bel.tape, h.bel.output, h.bel.size, h.bel.block⟩, h.own, h.row, h.apart⟩
theorem TuS.drew {w1 W : World} {P : List LsI} {v : Value} (h : TuS w1 P v W) : TuS w1 P v W.drew := ⟨⟨h.bel.os, h.bel.tape, h.bel.output, h.bel.size, h.bel.block⟩, h.own, h.row, h.apart⟩
theorem cutV_get {P : List LsI} {i : Nat} {q : LsI} (h : P[i]? = some q) : (cutV P)[i]? = some (.slice q.a q.xs.length q.cap) := by unfold cutV; rw [List.getElem?_map, h]; rfl
/-- What turned tells. -/
def TuT (w : World) (ls : List LsI) (e : Ending) (w' : World) : Prop := ∃ (v : Value) (P : List LsI), e = .returned v ∧ Hid (TuS w P v w' ∧ P.length = ls.length ∧ (flatS P).Perm (flatS ls) ∧ ∀ q ∈ P, q.xs.length ≤ 1000) ∧ Below w.heap.size w w'
set_option maxHeartbeats 12800000 in
set_option maxRecDepth 100000 in
theorem eturned_any (a : Option Addr) (n cap : Nat) (ls : List LsI) (b : Option Addr) (m cb : Nat) (zs : List Int) (w : World) (hl : ls.length = n) (hn : n ≤ 1000) (hm : m ≤ 1000) (hx : ∀ p ∈ ls, p.xs.length ≤ 1000) (hlz : zs.length = m) (hz64 : ∀ z ∈ zs, I64 z) (h : RdL w a ls) (hb : RdZ w b zs) :
    Calls Try.prog 21 #[.slice a n cap, .slice b m cb] w (TuT w ls) := by
  obtain ⟨i0, hi, hz0, hz1, hz2⟩ := info_parts Try.yinfoSS
  have HX := hid h
  have HL := hid hl
  have HBd := hid hx
  have HZ := hid hb
  have HZl := hid hlz
  have HZi := hid hz64
  clear h hl hx hb hlz hz64
  go_enter Try.func21, Try.ntmps21
  go_wp2_with fail
  go_loopw [5, 6] (fun v x wr => ∃ (k : Nat) (P : List LsI), k ≤ n ∧ x = .int .i64 (k : Int) ∧ P.length = k ∧ Hid (TuS w P v wr) ∧ Hid (CqK (ls.take k) P)) (fun _ x _ => n - (intOf x).toNat)
  case atStart => exact ⟨0, [], Nat.zero_le _, rfl, rfl, TuS.nil w, rfl⟩
  case round =>
    obtain ⟨k, P, hk, rfl, hPk, HP, HK⟩ := hrel
    have HPk := hid hPk
    clear hPk
    by_cases hlt : k < n
    · have hkx : k < ls.length := by have := HL.out; omega
      have hj : ls[k]? = some ls[k] := List.getElem?_eq_getElem hkx
      obtain ⟨hrs, hnz, h64⟩ := HX.out.2 _ (List.getElem_mem hkx)
      have hbd := HBd.out _ (List.getElem_mem hkx)
      have HMo : Hid (∀ q : LsI, q.xs = (ls[k]).xs → CqK (ls.take (k + 1)) (P ++ [q])) := fun q hq => HK.out.more hkx hq
      rcases HX.out.1 with h0 | ⟨g, o, rfl, hg, hx⟩
      · rw [h0] at hkx; exact absurd hkx (by simp)
      have c0 := (HP.out.bel.cell (p := ⟨g, o + k, none⟩) hg).trans (hx k _ hj)
      clear hx hj
      generalize ls[k] = q at *
      obtain ⟨qa, qc, qx⟩ := q
      dsimp only at c0 hrs hnz h64 hbd HMo
      have hk1 : (k : Int) < (n : Int) := by omega
      have HCq := hid (ecopyS_any qa qx.length qc qx wr (by omega) rfl hnz (hrs.later (B := 0) HP.out.bel))
      clear hrs hnz h64 HK
      go_wp2_with fail
      refine Calls.mono HCq.out ?_
      rintro e w2 ⟨v2, rfl, ho2, hb2⟩
      obtain ⟨a2, cp2, rfl⟩ : ∃ a2 cp2, v2 = .slice a2 qx.length cp2 := by obtain ⟨a, c, e, _⟩ := yshape ho2; exact ⟨a, c, e⟩
      have HO2 := hid ho2
      have HB2 := hid hb2
      have hrow := yowns_later HP.out.row hb2
      rw [HPk.out] at hrow
      have hsz : w.heap.size ≤ w2.heap.size := Nat.le_trans HP.out.bel.size hb2.size
      clear ho2 hb2 HCq c0
      go_wp2_with (first
        | (at_builtin; refine wpList_append_own _ rfl _ _ 33 rfl w.heap.size 25 i0 (.slice none 0 0) 1 24 Try.underlying33 hi hz0 hz1 hz2 rfl (by decide) _ _ _ rfl (hrow.alloc _) ⟨w2.heap.size, 0, none⟩ 1 1 [.slice a2 qx.length cp2] rfl rfl (cell_one_new _ _ _) (by simp [Value.oneCell']) (by unfold maxLen; omega) (by omega) (by simp; omega) ?_; intro v3 w3 ho3 hg3 _)
        | fail)
      have HP3 : Hid (TuS w (P ++ [⟨a2, cp2, qx⟩]) v3 w3) := HP.out.more HB2.out (q := ⟨a2, cp2, qx⟩) HO2.out (by rw [HPk.out]; exact ho3) hg3
      have HK3 := hid (HMo.out ⟨a2, cp2, qx⟩ rfl)
      have hPl : (P ++ [(⟨a2, cp2, qx⟩ : LsI)]).length = k + 1 := by rw [List.length_append, HPk.out]; rfl
      clear ho3 hg3 hrow HO2 HB2 HP HMo
      first | exact ⟨⟨k + 1, _, by omega, by go_num, hPl, HP3, HK3⟩, by simp [intOf]; omega⟩ | (go_wp2_with fail; first | exact ⟨⟨k + 1, _, by omega, by go_num, hPl, HP3, HK3⟩, by simp [intOf]; omega⟩ | (go_roundw; (case rel => exact ⟨k + 1, _, by omega, by go_num, hPl, HP3, HK3⟩); (case measure => simp [intOf]; omega)))
    · obtain rfl : k = n := by omega
      have hkk : ¬ (k : Int) < (k : Int) := by omega
      have HKQ : Hid (CqK ls P) := by
        have q := HK.out
        rw [List.take_of_length_le (by have := HL.out; omega)] at q
        exact q
      obtain ⟨a3, cp3, rfl, hdrop⟩ := yshape HP.out.row
      clear hdrop
      have HP0 : Hid (TuS w P (.slice a3 k cp3) wr ∧ P.length = k ∧ (flatS P).Perm (flatS ls) ∧ ∀ q ∈ P, q.xs.length ≤ 1000) := ⟨by have q := HP.out; rw [HPk.out] at q; exact q, HPk.out, by rw [flatS_same HKQ.out], HKQ.out.all (P := fun xs => xs.length ≤ 1000) HBd.out⟩
      clear HK HP HKQ
      generalize hw0 : wr = w0 at *
      clear hw0
      go_wp2_with fail
      try rw [HPk.out]
      go_loopw [7] (fun x ws => ∃ (t : Nat) (P : List LsI), t ≤ m ∧ x = .int .i64 (t : Int) ∧ Hid (TuS w P (.slice a3 k cp3) ws ∧ P.length = k ∧ (flatS P).Perm (flatS ls) ∧ ∀ q ∈ P, q.xs.length ≤ 1000)) (fun x _ => m - (intOf x).toNat)
      case atStart => exact ⟨0, P, Nat.zero_le _, rfl, HP0⟩
      case round =>
        clear HP0 HPk
        obtain ⟨t, P, ht, rfl, HP⟩ := hrel
        generalize hws : wr = ws at *
        clear hws
        by_cases hgo : t < m ∧ 0 < k
        · obtain ⟨htm, hk0⟩ := hgo
          have htm1 : (t : Int) < (m : Int) := by omega
          have hk01 : (0 : Int) < (k : Int) := by omega
          have hk02 : ¬ (k : Int) = 0 := by omega
          have hPl := HP.out.2.1
          obtain ⟨g3, rfl⟩ : ∃ g3, a3 = some ⟨g3, 0, none⟩ := by
            rcases HP.out.1.row.2 with ⟨h1, h0⟩ | ⟨g, cc, cur, h1, _⟩
            · omega
            · injection h1 with h1
              exact ⟨g, h1⟩
          have hz1 : t < zs.length := by have := HZl.out; omega
          have hzj : zs[t]? = some zs[t] := List.getElem?_eq_getElem hz1
          have HZ64 := hid (HZi.out _ (List.getElem_mem hz1))
          rcases HZ.out with h0 | ⟨gz, oz, rfl, hgz, hcz⟩
          · rw [h0] at hz1; exact absurd hz1 (by simp)
          have z0 := (HP.out.1.bel.cell (p := ⟨gz, oz + t, none⟩) hgz).trans (hcz t _ hzj)
          have HZc : Hid (∀ V, Below w.heap.size w V → V.cell? ⟨gz, oz + t, none⟩ = some (.int .i64 zs[t])) := fun V hV => (hV.cell (p := ⟨gz, oz + t, none⟩) hgz).trans (hcz t _ hzj)
          clear hcz hzj
          generalize zs[t] = zt at *
          -- the places
          obtain ⟨j, hj, hjk⟩ : ∃ j : Nat, zt % (k : Int) = (j : Int) ∧ j < k := ⟨(zt % (k : Int)).toNat, by have := Int.emod_nonneg zt (b := (k : Int)) (by omega); omega, by have := Int.emod_lt_of_pos zt (b := (k : Int)) (by omega); have := Int.emod_nonneg zt (b := (k : Int)) (by omega); omega⟩
          have HPk := hid (fun V => epick_any zt k j V HZ64.out hk0 (by omega) hj)
          have hik : t % k < k := Nat.mod_lt _ hk0
          have htm2 : (t : Int).tmod (k : Int) = ((t % k : Nat) : Int) := (Int.tmod_eq_emod_of_nonneg (Int.natCast_nonneg t)).trans (Int.natCast_emod t k).symm
          clear hj
          generalize hii : t % k = i at *
          clear hii
          go_wp2_with fail
          go_quiet ((go_at_call 43; exact Calls.quiet_of_same (HPk.out _)))
          go_wp2_with fail
          have HP9 := hid (HP.out.1.drewN nq)
          have HP3 := hid HP.out.2
          generalize ws.drewN nq = wq at *
          clear HP z0 hk02 htm2 htm1
          have hiP : i < P.length := by omega
          have hjP : j < P.length := by omega
          have key := HP9.out.swap (g := g3) hPl hiP hjP
          have hrow0 := HP9.out.row
          rw [hPl] at hrow0
          obtain ⟨ci, fi⟩ := ownsAt hrow0 (cutV_at hiP)
          obtain ⟨cj, fj⟩ := ownsAt hrow0 (cutV_at hjP)
          have hrow1 := ownsSetS hrow0 i (.slice (P[j]).a (P[j]).xs.length (P[j]).cap)
          have hlen1 : j < ((cutV P).set i (.slice (P[j]).a (P[j]).xs.length (P[j]).cap)).length := by rw [List.length_set, cutV_len]; exact hjP
          have hu1 := List.getElem?_eq_getElem hlen1
          generalize ((cutV P).set i (.slice (P[j]).a (P[j]).xs.length (P[j]).cap))[j] = u1 at hu1
          obtain ⟨c1, f1⟩ := ownsAt hrow1 hu1
          have hperm := List.set_set_perm hiP hjP
          have HPP : Hid (((P.set i P[j]).set j P[i]).length = k ∧ (flatS ((P.set i P[j]).set j P[i])).Perm (flatS ls) ∧ (∀ q ∈ (P.set i P[j]).set j P[i], q.xs.length ≤ 1000) ∧ ((P.set i P[j]).set j P[i])[i]? = some P[j]) := by
            refine ⟨by rw [List.length_set, List.length_set]; exact hPl, (flatS_perm hperm).trans HP3.out.2.1, fun q hq => HP3.out.2.2 q (hperm.mem_iff.1 hq), ?_⟩
            by_cases hij : j = i
            · subst hij
              rw [List.getElem?_set_self (by rw [List.length_set]; exact hiP)]
            · rw [List.getElem?_set_ne hij, List.getElem?_set_self hiP]
          have HKey := hid key
          clear key hperm hrow1 hrow0 hu1 hlen1 HP3 HP9
          generalize (P.set i P[j]).set j P[i] = P' at *
          generalize P[i] = p at *
          generalize P[j] = q at *
          obtain ⟨pa, pc, px⟩ := p
          obtain ⟨qa, qc, qx⟩ := q
          dsimp only at ci cj c1 f1 HKey
          clear hiP hjP
          have hi0 : (0 : Int) ≤ (i : Int) := by omega
          have hj0 : (0 : Int) ≤ (j : Int) := by omega
          have hik1 : (i : Int) < (k : Int) := by omega
          have hjk1 : (j : Int) < (k : Int) := by omega
          obtain ⟨A0, hA0⟩ : ∃ A0, wq.setCell ⟨g3, i, none⟩ (.slice qa qx.length qc) = A0 := ⟨_, rfl⟩
          rw [hA0] at HKey c1 f1
          obtain ⟨A1, hA1⟩ : ∃ A1, A0.setCell ⟨g3, j, none⟩ (.slice pa px.length pc) = A1 := ⟨_, rfl⟩
          rw [hA1] at HKey
          have HK1 : Hid (TuS w P' (.slice (some ⟨g3, 0, none⟩) k cp3) A1.drew) := HKey.out.drew
          have hrow9 := HK1.out.row
          rw [HPP.out.1] at hrow9
          have cq := (ownsAt hrow9 (cutV_get HPP.out.2.2.2)).1
          dsimp only at cq
          clear HKey hrow9
          by_cases hq0 : qx.length = 0
          · have hq1 : ¬ (0 : Int) < (qx.length : Int) := by omega
            have HEnd : Hid (TuS w P' (.slice (some ⟨g3, 0, none⟩) k cp3) A1.drew ∧ P'.length = k ∧ (flatS P').Perm (flatS ls) ∧ ∀ q ∈ P', q.xs.length ≤ 1000) := ⟨HK1.out, HPP.out.1, HPP.out.2.1, HPP.out.2.2.1⟩
            clear hq0
            go_region
            all_goals (
              go_wp2_with fail
              first | exact ⟨⟨t + 1, P', by omega, by go_num, HEnd⟩, by simp [intOf]; omega⟩ | (go_roundw; (case rel => exact ⟨t + 1, P', by omega, by go_num, HEnd⟩); (case measure => simp [intOf]; omega)))
          have hq1 : (0 : Int) < (qx.length : Int) := by omega
          go_region
          all_goals (go_wp2_with fail)
          clear hA0 hA1 ci fi cj fj c1 f1
          generalize A1.drew = wr2 at *
          clear A0 A1 wq
          have hq2 : 0 < qx.length := by omega
          have hq3 : ¬ (qx.length : Int) = 0 := by omega
          have hmq : (⟨qa, qc, qx⟩ : LsI) ∈ P' := List.mem_of_getElem? HPP.out.2.2.2
          have hqn := HPP.out.2.2.1 _ hmq
          dsimp only at hqn
          obtain ⟨d, hd, hdq⟩ : ∃ d : Nat, zt % (qx.length : Int) = (d : Int) ∧ d < qx.length := ⟨(zt % (qx.length : Int)).toNat, by have := Int.emod_nonneg zt (b := (qx.length : Int)) (by omega); omega, by have := Int.emod_lt_of_pos zt (b := (qx.length : Int)) (by omega); have := Int.emod_nonneg zt (b := (qx.length : Int)) (by omega); omega⟩
          have HPk2 := hid (fun V => epick_any zt qx.length d V HZ64.out hq2 (by omega) hd)
          have hcq : t % qx.length < qx.length := Nat.mod_lt _ hq2
          have htm2 : (t : Int).tmod (qx.length : Int) = ((t % qx.length : Nat) : Int) := (Int.tmod_eq_emod_of_nonneg (Int.natCast_nonneg t)).trans (Int.natCast_emod t qx.length).symm
          clear hd
          generalize hcc : t % qx.length = c at *
          clear hcc
          have z0 := HZc.out wr2 HK1.out.bel
          have htm1 : (t : Int) < (m : Int) := by omega
          have ht0 : (0 : Int) ≤ (t : Int) := by omega
          go_quiet ((go_at_call 43; exact Calls.quiet_of_same (HPk2.out _)))
          have HK3 := hid (HK1.out.drewN nq)
          have cq3 : (wr2.drewN nq).cell? ⟨g3, i, none⟩ = some (.slice qa qx.length qc) := cq
          generalize wr2.drewN nq = wr3 at *
          clear HK1 cq z0 hq3 htm1 ht0 htm2
          have hiP : i < P'.length := by rw [HPP.out.1]; exact hik
          have hPi : P'[i] = ⟨qa, qc, qx⟩ := by
            have q := HPP.out.2.2.2
            rw [List.getElem?_eq_getElem hiP] at q
            exact Option.some.inj q
          have ho := HK3.out.own _ hmq
          dsimp only at ho
          obtain ⟨gq, rfl⟩ : ∃ gq, qa = some ⟨gq, 0, none⟩ := by
            rcases ho.2 with ⟨h1, h0⟩ | ⟨g, cc, cur, h1, _⟩
            · omega
            · injection h1 with h1
              exact ⟨g, h1⟩
          have hcj : qx[c]? = some qx[c] := List.getElem?_eq_getElem hcq
          have hdj : qx[d]? = some qx[d] := List.getElem?_eq_getElem hdq
          have key := HK3.out.turn (i := i) (gq := gq) (c := c) (d := d) hiP (by rw [hPi]) (by rw [hPi]; exact hcq) (by rw [hPi]; exact hdq)
          have HPer : Hid ((qx.set c qx[d]).set d qx[c] |>.Perm qx) := List.set_set_perm hcq hdq
          obtain ⟨a0, f0⟩ := ownsAt ho (smC_at hcj).1
          obtain ⟨a1, f1⟩ := ownsAt ho (smC_at hcj).2
          obtain ⟨a2, f2⟩ := ownsAt ho (smC_at hdj).1
          obtain ⟨a3', f3⟩ := ownsAt ho (smC_at hdj).2
          have hsl : (smC qx).length = qx.length * 2 := by rw [smC_len]
          have ho0 := ownsSetS ho (c * 2) (.int .i64 (qx[d]).1)
          have l0 : c * 2 + 1 < ((smC qx).set (c * 2) (.int .i64 (qx[d]).1)).length := by rw [List.length_set, hsl]; omega
          obtain ⟨b1, e1⟩ := ownsAt ho0 (List.getElem?_eq_getElem l0)
          have ho1 := ownsSetS ho0 (c * 2 + 1) (.float .f64 (qx[d]).2)
          have l1 : d * 2 < (((smC qx).set (c * 2) (.int .i64 (qx[d]).1)).set (c * 2 + 1) (.float .f64 (qx[d]).2)).length := by rw [List.length_set, List.length_set, hsl]; omega
          obtain ⟨b2, e2⟩ := ownsAt ho1 (List.getElem?_eq_getElem l1)
          have ho2 := ownsSetS ho1 (d * 2) (.int .i64 (qx[c]).1)
          have l2 : d * 2 + 1 < ((((smC qx).set (c * 2) (.int .i64 (qx[d]).1)).set (c * 2 + 1) (.float .f64 (qx[d]).2)).set (d * 2) (.int .i64 (qx[c]).1)).length := by rw [List.length_set, List.length_set, List.length_set, hsl]; omega
          obtain ⟨b3, e3⟩ := ownsAt ho2 (List.getElem?_eq_getElem l2)
          have hsame := HPP.out.2.2.1 _ hmq
          dsimp only at hsame
          have HEnd : Hid (TuS w (P'.set i ⟨some ⟨gq, 0, none⟩, qc, (qx.set c qx[d]).set d qx[c]⟩) (.slice (some ⟨g3, 0, none⟩) k cp3) ((((wr3.setCell ⟨gq, c * 2, none⟩ (.int .i64 (qx[d]).1)).setCell ⟨gq, c * 2 + 1, none⟩ (.float .f64 (qx[d]).2)).setCell ⟨gq, d * 2, none⟩ (.int .i64 (qx[c]).1)).setCell ⟨gq, d * 2 + 1, none⟩ (.float .f64 (qx[c]).2)).drew ∧ (P'.set i ⟨some ⟨gq, 0, none⟩, qc, (qx.set c qx[d]).set d qx[c]⟩).length = k ∧ (flatS (P'.set i ⟨some ⟨gq, 0, none⟩, qc, (qx.set c qx[d]).set d qx[c]⟩)).Perm (flatS ls) ∧ ∀ q ∈ P'.set i ⟨some ⟨gq, 0, none⟩, qc, (qx.set c qx[d]).set d qx[c]⟩, q.xs.length ≤ 1000) := by
            refine ⟨?_, by rw [List.length_set]; exact HPP.out.1, (flatS_set P' i hiP _ (by rw [hPi]; exact HPer.out)).trans HPP.out.2.1, fun q hq => ?_⟩
            · simp only [hPi] at key
              exact key.drew
            · rcases List.mem_or_eq_of_mem_set hq with hq | rfl
              · exact HPP.out.2.2.1 q hq
              · dsimp only
                rw [List.length_set, List.length_set]
                exact hsame
          clear key ho ho0 ho1 ho2 hsl hsame hmq hPi hiP HPer hcj hdj HK3
          generalize ((smC qx).set (c * 2) (.int .i64 (qx[d]).1))[c * 2 + 1] = w1v at *
          generalize (((smC qx).set (c * 2) (.int .i64 (qx[d]).1)).set (c * 2 + 1) (.float .f64 (qx[d]).2))[d * 2] = w2v at *
          generalize ((((smC qx).set (c * 2) (.int .i64 (qx[d]).1)).set (c * 2 + 1) (.float .f64 (qx[d]).2)).set (d * 2) (.int .i64 (qx[c]).1))[d * 2 + 1] = w3v at *
          clear l0 l1 l2
          generalize P'.set i ⟨some ⟨gq, 0, none⟩, qc, (qx.set c qx[d]).set d qx[c]⟩ = P'' at *
          generalize qx[c] = xc at *
          generalize qx[d] = xd at *
          obtain ⟨tc, bc⟩ := xc
          obtain ⟨td, bd⟩ := xd
          dsimp only at a0 a1 a2 a3' b1 b2 b3 e1 e2 e3 HEnd
          obtain ⟨B0, hB0⟩ : ∃ B0, wr3.setCell ⟨gq, c * 2, none⟩ (.int .i64 td) = B0 := ⟨_, rfl⟩
          rw [hB0] at b1 e1 b2 e2 b3 e3 HEnd
          obtain ⟨B1, hB1⟩ : ∃ B1, B0.setCell ⟨gq, c * 2 + 1, none⟩ (.float .f64 bd) = B1 := ⟨_, rfl⟩
          rw [hB1] at b2 e2 b3 e3 HEnd
          obtain ⟨B2, hB2⟩ : ∃ B2, B1.setCell ⟨gq, d * 2, none⟩ (.int .i64 tc) = B2 := ⟨_, rfl⟩
          rw [hB2] at b3 e3 HEnd
          obtain ⟨B3, hB3⟩ : ∃ B3, B2.setCell ⟨gq, d * 2 + 1, none⟩ (.float .f64 bc) = B3 := ⟨_, rfl⟩
          rw [hB3] at HEnd
          have sF : ∀ (W : World) (p : Addr) (y : Nat) (md : Mode), (store p (.float .f64 y) md).run Try.prog W = stored Try.prog W p (.float .f64 y) md := fun W p y md => rstore_flt Try.prog W p .f64 y md
          generalize hqn2 : qx.length = qn at *
          clear hqn2
          have hc0 : (0 : Int) ≤ (c : Int) := by omega
          have hd0 : (0 : Int) ≤ (d : Int) := by omega
          have hc1 : (c : Int) < (qn : Int) := by omega
          have hd1 : (d : Int) < (qn : Int) := by omega
          go_wp2_with fail
          go_region
          all_goals (
            go_wp2_with fail
            exact ⟨⟨t + 1, P'', by omega, by go_num, HEnd⟩, by simp [intOf]; omega⟩)
        · have hg2 : ((t : Int) < (m : Int) ∧ ¬ (0 : Int) < (k : Int)) ∨ ¬ (t : Int) < (m : Int) := by omega
          rcases hg2 with ⟨g1, g2⟩ | g1
          all_goals (
            go_wp2_with fail
            go_ret
            exact ⟨_, P, rfl, ⟨HP.out.1, HP.out.2.1.trans HL.out.symm, HP.out.2.2.1, HP.out.2.2.2⟩, HP.out.1.bel⟩)
end Go.Proofs.Ytmigdomlakflfaa

/- Merging what was merged, no program: a mean of one height has its value; lists in another order come to the same. -/
namespace Go.Proofs.Ytmigdomlakflfaa
open Go.RowKit
set_option linter.unusedVariables false
set_option linter.unusedSimpArgs false

/-- Over one a float is itself. -/
theorem one_rn {x p : Nat} (hx : Fi x) (h : FN .quo x 4607182418800017408 p) : RN (sv x) 1 p := by
  obtain ⟨m, a, e1, v1, hm⟩ := read_num53 hx.2
  have e2 : Ieee.double.read 4607182418800017408 = .number false 4503599627370496 (-52) := by decide
  generalize hs : (x / 9223372036854775808 % 2 == 1) = s at e1
  have hsv : (sv x).natAbs = m * 2 ^ a := by rw [sv_abs, v1]
  have hlog : m.log2 ≤ 52 := by
    by_cases h0 : m = 0
    · subst h0; decide
    · have := (Nat.log2_lt h0 (k := 53)).2 (by omega)
      omega
  have key : ∃ (dg : Nat), 53 ≤ dg ∧ floatBits .quo .f64 x 4607182418800017408 = ((((Ieee.double.read x).quotient dg (Ieee.double.read 4607182418800017408)).map Ieee.double.write)) := ⟨_, by decide, rfl⟩
  obtain ⟨dg, hdg, hq⟩ := key
  rw [e1, e2] at hq
  simp only [Ieee.Datum.quotient] at hq
  rw [if_neg (by decide), show (4503599627370496 : Nat).log2 = 52 by decide] at hq
  obtain ⟨mo, hmo⟩ : ∃ mo, dg + 52 - m.log2 = 52 + mo := ⟨dg + 52 - m.log2 - 52, by omega⟩
  rw [hmo] at hq
  have hsh : m <<< (52 + mo) = m * 2 ^ mo * 4503599627370496 := by
    rw [Nat.shiftLeft_eq, Nat.pow_add, show (2 : Nat) ^ 52 = 4503599627370496 by decide, Nat.mul_comm 4503599627370496, ← Nat.mul_assoc]
  rw [hsh, Nat.mul_div_cancel _ (by decide), Nat.mul_mod_left] at hq
  have hq2 := h.bits (hq.trans rfl)
  have e3 : p = Ieee.double.nearest s (2 * (m * 2 ^ mo)) (-1074 + (a : Int) - -52 - ((52 + mo : Nat) : Int) - 1) := by
    rw [hq2]
    cases s <;> rfl
  rw [e3]
  refine near_rn (by decide) ?_ ?_ ?_
  · rw [hsv]
    by_cases hc : mo + 1 ≤ a
    · rw [show (-1074 + (a : Int) - -52 - ((52 + mo : Nat) : Int) - 1 + 1074).toNat = a - (mo + 1) by omega, show (-(-1074 + (a : Int) - -52 - ((52 + mo : Nat) : Int) - 1 + 1074)).toNat = 0 by omega]
      have e : (2 : Nat) ^ a = 2 ^ mo * 2 * 2 ^ (a - (mo + 1)) := by
        rw [← Nat.pow_succ, ← Nat.pow_add, show mo + 1 + (a - (mo + 1)) = a by omega]
      rw [e, Nat.pow_zero, Nat.mul_one, Nat.mul_one]
      generalize (2 : Nat) ^ mo = A
      generalize (2 : Nat) ^ (a - (mo + 1)) = B
      rw [Nat.mul_comm 2, Nat.mul_assoc m, Nat.mul_assoc m]
    · rw [show (-1074 + (a : Int) - -52 - ((52 + mo : Nat) : Int) - 1 + 1074).toNat = 0 by omega, show (-(-1074 + (a : Int) - -52 - ((52 + mo : Nat) : Int) - 1 + 1074)).toNat = mo + 1 - a by omega]
      rw [Nat.mul_assoc m, ← Nat.pow_add, show a + (mo + 1 - a) = mo + 1 by omega, Nat.pow_succ, Nat.pow_zero, Nat.mul_one, Nat.mul_one]
      generalize (2 : Nat) ^ mo = A
      rw [Nat.mul_comm 2, Nat.mul_assoc m]
  · intro hneg
    have := sv_sign hs
    cases s
    · rw [if_neg (by simp)] at this
      omega
    · rfl
  · intro hpos
    have := sv_sign hs
    cases s
    · rfl
    · rw [if_pos rfl] at this
      omega
/-- A mean of one height has its value. -/
theorem MeanT.single {x r : Nat} {e : Int} (hx : Fi x) (h : MeanT [x] r e) : Fi r ∧ sv r = sv x ∧ e = 0 := by
  obtain ⟨s, hs⟩ := add_some ((fin_iff 0).2 (by decide)) ((fin_iff x).2 hx.2)
  have h1 : RN (sv x) 1 s := by
    have q := add_rn (x := 0) ⟨by decide, by decide⟩ hx (FN.some hs)
    have e0 : sv 0 = 0 := by decide
    rw [e0, Int.zero_add] at q
    exact q
  have f1 : Fi s := h1.fi (by decide) hx.2 (by rw [sv_abs]; omega)
  have v1 : sv s = sv x := Int.le_antisymm (h1.le_fl hx (Int.le_refl _)) (h1.ge_fl hx (Int.le_refl _))
  rcases h with ⟨h0, _⟩ | ⟨_, m, hm, hc⟩
  · cases h0
  · have e2 : sumF 0 [x] = s := by
      show (floatBits .add .f64 0 x).getD 0 = s
      rw [hs]; rfl
    have e3 : floatOfInt .f64 (([x] : List Nat).length : Int) = 4607182418800017408 := by rw [show (([x] : List Nat).length : Int) = 1 from rfl]; decide +kernel
    rw [e2, e3] at hm
    have h2 := one_rn f1 hm
    have f2 : Fi m := h2.fi (by decide) f1.2 (by rw [sv_abs]; omega)
    have v2 : sv m = sv s := Int.le_antisymm (h2.le_fl f1 (Int.le_refl _)) (h2.ge_fl f1 (Int.le_refl _))
    rcases hc with ⟨h3, rfl, h4⟩ | ⟨h3, _, _⟩
    · exact ⟨f2, by rw [v2, v1], h4⟩
    · rw [f2.isone] at h3; cases h3
/-- A mean of one height. -/
theorem MeanT.alone {x : Nat} (hx : Fi x) : ∃ r, MeanT [x] r 0 := by
  obtain ⟨s, hs⟩ := add_some ((fin_iff 0).2 (by decide)) ((fin_iff x).2 hx.2)
  have h1 : RN (sv x) 1 s := by
    have q := add_rn (x := 0) ⟨by decide, by decide⟩ hx (FN.some hs)
    have e0 : sv 0 = 0 := by decide
    rw [e0, Int.zero_add] at q
    exact q
  have f1 : Fi s := h1.fi (by decide) hx.2 (by rw [sv_abs]; omega)
  have e2 : sumF 0 [x] = s := by
    show (floatBits .add .f64 0 x).getD 0 = s
    rw [hs]; rfl
  have e3 : floatOfInt .f64 (([x] : List Nat).length : Int) = 4607182418800017408 := by rw [show (([x] : List Nat).length : Int) = 1 from rfl]; decide +kernel
  obtain ⟨m, hm⟩ : ∃ m, FN .quo s 4607182418800017408 m := by
    cases hq : floatBits .quo .f64 s 4607182418800017408 with
    | none => exact ⟨_, FN.none 0 hq⟩
    | some m => exact ⟨m, FN.some hq⟩
  have f2 : Fi m := (one_rn f1 hm).fi (by decide) f1.2 (by rw [sv_abs]; omega)
  exact ⟨m, .inr ⟨by simp, m, by rw [e2, e3]; exact hm, .inl ⟨f2.isone, rfl, rfl⟩⟩⟩
/-- Lists that come to the same. -/
structure SmF (F H : List (Int × Nat)) : Prop where
  here : ∀ t, (∃ p ∈ F, isone p.2 = true ∧ p.1 = t) ↔ ∃ p ∈ H, isone p.2 = true ∧ p.1 = t
  mean : ∀ t, srtF (hgtAt t F) = srtF (hgtAt t H)
theorem SmF.symm {F H : List (Int × Nat)} (h : SmF F H) : SmF H F := ⟨fun t => (h.here t).symm, fun t => (h.mean t).symm⟩
theorem SmF.perm {F H : List (Int × Nat)} (h : F.Perm H) : SmF F H := by
  refine ⟨fun t => ⟨fun ⟨p, hp, q⟩ => ⟨p, h.mem_iff.1 hp, q⟩, fun ⟨p, hp, q⟩ => ⟨p, h.mem_iff.2 hp, q⟩⟩, fun t => srtF_same ?_⟩
  unfold hgtAt
  exact (h.filter _).map _
theorem SmF.ones (F : List (Int × Nat)) : SmF F (F.filter fun p => isone p.2) := by
  refine ⟨fun t => ⟨fun ⟨p, hp, q⟩ => ⟨p, List.mem_filter.2 ⟨hp, q.1⟩, q⟩, fun ⟨p, hp, q⟩ => ⟨p, (List.mem_filter.1 hp).1, q⟩⟩, fun t => ?_⟩
  have e : hgtAt t (F.filter fun p => isone p.2) = hgtAt t F := by
    unfold hgtAt
    rw [List.filter_filter]
    congr 1
    apply List.filter_congr
    intro p _
    cases isone p.2 <;> simp
  rw [e]
theorem SmF.all {F H O : List (Int × Nat)} (s : SmF F H) (h : MrA F O) : MrA H O := by
  refine ⟨h.rise, fun p hp h1 => ?_, fun q hq => ?_⟩
  · obtain ⟨p', hp', h2, h3⟩ := (s.here p.1).2 ⟨p, hp, h1, rfl⟩
    obtain ⟨q, hq, h4⟩ := h.all p' hp' h2
    exact ⟨q, hq, h4.trans h3⟩
  · obtain ⟨h1, h2⟩ := h.mean q hq
    exact ⟨(s.here q.1).1 h1, by rw [← s.mean q.1]; exact h2⟩
theorem SmF.no {F H : List (Int × Nat)} (s : SmF F H) (h : MrX F) : MrX H := by
  obtain ⟨p, hp, h1, r, h2⟩ := h
  obtain ⟨q, hq, h3, h4⟩ := (s.here p.1).1 ⟨p, hp, h1, rfl⟩
  exact ⟨q, hq, h3, r, by rw [h4, ← s.mean p.1]; exact h2⟩
theorem SmF.out {F H : List (Int × Nat)} {e i : Int} {M : List (Int × Nat)} (s : SmF F H) (h : MgO F (0, 0) e i M) : MgO H (0, 0) e i M := by
  rcases h with ⟨h1, _⟩ | ⟨h1, h2, h3⟩ | ⟨h1, O, h2, h3⟩
  · exact absurd rfl h1
  · exact .inr (.inl ⟨h1, s.no h2, h3⟩)
  · exact .inr (.inr ⟨h1, O, s.all h2, h3⟩)
/-- Rising numbers that all are in a list are no more than it has. -/
theorem rise_few : ∀ (K L : List Int), K.Pairwise (fun x y => x < y) → (∀ t ∈ K, t ∈ L) → K.length ≤ L.length
  | [], _, _, _ => Nat.zero_le _
  | t :: r, L, h, hm => by
    rw [List.pairwise_cons] at h
    have ht := hm t List.mem_cons_self
    have ih := rise_few r (L.erase t) h.2 (fun x hx => (List.mem_erase_of_ne (fun e => by have := h.1 x hx; omega)).2 (hm x (List.mem_cons_of_mem _ hx)))
    rw [List.length_erase_of_mem ht] at ih
    have : 0 < L.length := List.length_pos_of_mem ht
    rw [List.length_cons]
    omega
theorem MrA.few {F O : List (Int × Nat)} (h : MrA F O) : O.length ≤ F.length := by
  have q := rise_few (O.map (·.1)) (F.map (·.1)) (List.pairwise_map.2 h.rise) (fun t ht => by
    obtain ⟨q, hq, rfl⟩ := List.mem_map.1 ht
    obtain ⟨⟨p, hp, _, h2⟩, _⟩ := h.mean q hq
    exact List.mem_map.2 ⟨p, hp, h2⟩)
  rw [List.length_map, List.length_map] at q
  exact q
/-- What few lists come to: the means, or one that is refused. -/
theorem MgO.few {F : List (Int × Nat)} {e i : Int} {M : List (Int × Nat)} (hF : F.length ≤ 4096) (h : MgO F (0, 0) e i M) : (e = 9 ∧ i = -1 ∧ M = []) ∨ (e = 0 ∧ i = 0 ∧ MrA F M) := by
  rcases h with ⟨h1, _⟩ | ⟨h1, h2, h3, h4, h5⟩ | ⟨h1, O, h2, ⟨h3, _⟩ | ⟨h3, h4, h5, h6⟩⟩
  · exact absurd rfl h1
  · exact .inl ⟨h3, h4, h5⟩
  · have := h2.few
    omega
  · subst h6
    exact .inr ⟨h4, h5, h2⟩
/-- Of the same value, one by one. -/
def VlS (M N : List (Int × Nat)) : Prop := M.length = N.length ∧ ∀ (k : Nat) (p q : Int × Nat), M[k]? = some p → N[k]? = some q → p.1 = q.1 ∧ Fi p.2 ∧ Fi q.2 ∧ sv p.2 = sv q.2
theorem hgtAt_rise {M : List (Int × Nat)} (hr : M.Pairwise (fun p q => p.1 < q.1)) {p : Int × Nat} (hp : p ∈ M) (h1 : isone p.2 = true) : hgtAt p.1 M = [p.2] := by
  induction M with
  | nil => cases hp
  | cons y r ih =>
    rw [List.pairwise_cons] at hr
    rcases List.mem_cons.1 hp with rfl | hp
    · have e : hgtAt p.1 r = [] := by
        unfold hgtAt
        rw [List.map_eq_nil_iff, List.filter_eq_nil_iff]
        intro q hq
        have := hr.1 q hq
        simp
        omega
      unfold hgtAt at e ⊢
      rw [List.filter_cons, if_pos (by simp [h1]), List.map_cons, e]
    · have hne : ¬ y.1 = p.1 := by have := hr.1 p hp; omega
      unfold hgtAt at ih ⊢
      rw [List.filter_cons, if_neg (by simp [hne])]
      exact ih hr.2 hp
theorem srtF_one {x : Nat} (hx : isone x = true) : srtF [x] = [x] := srtF_eq (by rw [List.filter_cons, if_pos hx]; exact List.Perm.refl _) (List.pairwise_singleton _ _)
/-- Merged once more, it is of the same value. -/
theorem MrA.again {F M N : List (Int × Nat)} (h : MrA F M) (hF : ∀ p ∈ M, isone p.2 = true ∧ p.2 < 18446744073709551616) (g : MrA M N) : VlS N M := by
  have key : ∀ q ∈ N, ∃ p ∈ M, p.1 = q.1 ∧ Fi p.2 ∧ Fi q.2 ∧ sv q.2 = sv p.2 := fun q hq => by
    obtain ⟨⟨p, hp, h1, h2⟩, hm⟩ := g.mean q hq
    rw [← h2, hgtAt_rise h.rise hp h1, srtF_one h1] at hm
    have fp : Fi p.2 := Fi.of (hF p hp).2 h1
    obtain ⟨f, v, _⟩ := hm.single fp
    exact ⟨p, hp, h2, fp, f, v⟩
  have e : N.map (·.1) = M.map (·.1) := by
    refine List.Perm.eq_of_pairwise (le := fun x y : Int => x ≤ y) (fun a b _ _ h1 h2 => by omega) ((List.pairwise_map.2 g.rise).imp (fun h => Int.le_of_lt h)) ((List.pairwise_map.2 h.rise).imp (fun h => Int.le_of_lt h)) ?_
    rw [List.perm_ext_iff_of_nodup ((List.pairwise_map.2 g.rise).imp (fun h => by omega)) ((List.pairwise_map.2 h.rise).imp (fun h => by omega))]
    intro t
    rw [List.mem_map, List.mem_map]
    constructor
    · rintro ⟨q, hq, rfl⟩
      obtain ⟨p, hp, h1, _⟩ := key q hq
      exact ⟨p, hp, h1⟩
    · rintro ⟨p, hp, rfl⟩
      obtain ⟨q, hq, h1⟩ := g.all p hp (hF p hp).1
      exact ⟨q, hq, h1⟩
  refine ⟨by have := congrArg List.length e; simpa using this, fun k q p hq hp => ?_⟩
  have ek : q.1 = p.1 := by
    have := congrArg (fun l : List Int => l[k]?) e
    rw [List.getElem?_map, List.getElem?_map, hq, hp] at this
    simpa using this
  obtain ⟨p', hp', h1, h2, h3, h4⟩ := key q (List.mem_of_getElem? hq)
  have : p' = p := by
    have hm := List.mem_of_getElem? hp
    have a1 := hgtAt_rise h.rise hp' (hF p' hp').1
    have a2 := hgtAt_rise h.rise hm (hF p hm).1
    rw [show p'.1 = p.1 from h1.trans ek, a2] at a1
    injection a1 with a1 _
    exact Prod.ext (h1.trans ek) a1.symm
  subst this
  exact ⟨ek, h3, h2, h4⟩
/-- Merged once more, no mean is refused. -/
theorem MrA.never {F M : List (Int × Nat)} (h : MrA F M) (hF : ∀ p ∈ M, isone p.2 = true ∧ p.2 < 18446744073709551616) : ¬ MrX M := by
  rintro ⟨p, hp, h1, r, hm⟩
  rw [hgtAt_rise h.rise hp h1, srtF_one h1] at hm
  have := (hm.single (Fi.of (hF p hp).2 h1)).2.2
  omega
end Go.Proofs.Ytmigdomlakflfaa

/- The law's same, of lists of the same value. -/
namespace Go.Proofs.Ytmigdomlakflfaa
open Go.RowKit
set_option linter.unusedVariables false
set_option linter.unusedSimpArgs false

theorem esameFl (x y : Nat) (w : World) (hx : Fi x) (hy : Fi y) (h : sv x = sv y) :
    Calls Try.prog 28 #[.float .f64 x, .float .f64 y] w fun e w' => e = .returned (.bool true) ∧ w' = w := by
  have HO : (FloatKind.f64.format.order x y == some .eq) = true := by
    rw [yorder hx hy, h, show compare (sv y) (sv y) = .eq from Std.ReflCmp.compare_self]; rfl
  clear hx hy h
  go_enter Try.func28, Try.ntmps28
  go_wp2
  go_ret
  exact ⟨rfl, rfl⟩
set_option maxHeartbeats 1600000 in
set_option maxRecDepth 100000 in
theorem esameV_any (a b : Option Addr) (n ca cb : Nat) (M N : List (Int × Nat)) (w : World) (hn : M.length ≤ 100000) (hl : M.length = n) (hf : VlS M N) (ha : RdV w a (smC M)) (hb : RdV w b (smC N)) :
    Calls Try.prog 9 #[.slice a n ca, .slice b n cb] w fun e w' => e = .returned (.bool true) ∧ Below w.heap.size w w' := by
  subst hl
  have HA := hid ha
  have HB := hid hb
  have HF := hid hf
  clear ha hb hf
  go_enter Try.func9, Try.ntmps9
  go_wp2_with fail
  go_loopw [5] (fun x wr => ∃ k : Nat, k ≤ M.length ∧ x = .int .i64 (k : Int) ∧ Hid (Below w.heap.size w wr)) (fun x _ => M.length - (intOf x).toNat)
  case atStart => exact ⟨0, Nat.zero_le _, rfl, Below.refl _ _⟩
  case round =>
    obtain ⟨k, hk, rfl, HW⟩ := hrel
    by_cases hlt : k < M.length
    · have hj := smC_at (List.getElem?_eq_getElem hlt)
      have hlN : k < N.length := by rw [← HF.out.1]; exact hlt
      have hjN := smC_at (List.getElem?_eq_getElem hlN)
      have hfk := HF.out.2 k _ _ (List.getElem?_eq_getElem hlt) (List.getElem?_eq_getElem hlN)
      obtain ⟨g, rfl, hg, hc⟩ := HA.out.get hj.1
      obtain ⟨g', rfl, hg', hc'⟩ := HB.out.get hjN.1
      have c0 : wr.cell? ⟨g, k * 2, none⟩ = some (.int .i64 (M[k]).1) := (HW.out.cell (p := ⟨g, k * 2, none⟩) hg).trans (hc _ _ hj.1)
      have c1 : wr.cell? ⟨g, k * 2 + 1, none⟩ = some (.float .f64 (M[k]).2) := (HW.out.cell (p := ⟨g, k * 2 + 1, none⟩) hg).trans (hc _ _ hj.2)
      have d0 : wr.cell? ⟨g', k * 2, none⟩ = some (.int .i64 (M[k]).1) := by rw [hfk.1]; exact (HW.out.cell (p := ⟨g', k * 2, none⟩) hg').trans (hc' _ _ hjN.1)
      have d1 : wr.cell? ⟨g', k * 2 + 1, none⟩ = some (.float .f64 (N[k]).2) := (HW.out.cell (p := ⟨g', k * 2 + 1, none⟩) hg').trans (hc' _ _ hjN.2)
      have hfk := hfk.2
      clear hc hc' HA HB hj hjN
      generalize (M[k]).1 = z1 at *
      generalize (M[k]).2 = z2 at *
      generalize (N[k]).2 = z3 at *
      have HSB : Hid (∀ V, Calls Try.prog 28 #[.float .f64 z2, .float .f64 z3] V fun e w' => e = .returned (.bool true) ∧ w' = V) := fun V => esameFl z2 z3 V hfk.2.1 hfk.2.2.1 hfk.2.2.2
      have hs0 : wr.drew.cell? ⟨g, k * 2, none⟩ = some (.int .i64 z1) ∧ wr.drew.cell? ⟨g, k * 2 + 1, none⟩ = some (.float .f64 z2) ∧ wr.drew.cell? ⟨g', k * 2, none⟩ = some (.int .i64 z1) ∧ wr.drew.cell? ⟨g', k * 2 + 1, none⟩ = some (.float .f64 z3) := ⟨c0, c1, d0, d1⟩
      have hk0 : (0 : Int) ≤ ↑k := by omega
      have hk1 : (↑k : Int) < ↑M.length := by omega
      have HBL := hid (HW.out.drew)
      clear hfk
      go_wp2_with fail
      go_region_held3 (fun V : World => V.cell? ⟨g, k * 2, none⟩ = some (.int .i64 z1) ∧ V.cell? ⟨g, k * 2 + 1, none⟩ = some (.float .f64 z2) ∧ V.cell? ⟨g', k * 2, none⟩ = some (.int .i64 z1) ∧ V.cell? ⟨g', k * 2 + 1, none⟩ = some (.float .f64 z3)) (exact hs0) ((go_at_call 28; with_reducible refine Calls.mono (HSB.out _) ?_; rintro e w2 ⟨rfl, rfl⟩))
      all_goals
        go_wp2_with fail
        go_roundw
        case rel => exact ⟨k + 1, by omega, by go_num, HBL.out⟩
        case measure => simp [intOf]; omega
    · obtain rfl : k = M.length := by omega
      go_wp2_with fail
      go_ret
      exact ⟨rfl, HW.out⟩
end Go.Proofs.Ytmigdomlakflfaa

/- The law CleanOrder answers true, whatever lists and whatever order come in. -/
namespace Go.Proofs.Ytmigdomlakflfaa
open Go.RowKit
set_option linter.unusedVariables false
set_option linter.unusedSimpArgs false

/-- Each list without what is no number. -/
def onesO (xs : List (Int × Nat)) : List (Int × Nat) := xs.filter fun p => isone p.2
theorem onesO_snoc (xs : List (Int × Nat)) (p : Int × Nat) : onesO (xs ++ [p]) = onesO xs ++ (if isone p.2 = true then [p] else []) := by
  unfold onesO
  rw [List.filter_append]
  congr 1
  cases h : isone p.2 <;> simp [h]
theorem onesO_len (xs : List (Int × Nat)) : (onesO xs).length ≤ xs.length := List.length_filter_le _ _
def FnK (ls Q : List LsI) : Prop := Q.map (·.xs) = ls.map (fun p => onesO p.xs)
theorem FnK.more {ls Q : List LsI} {k : Nat} (h : FnK (ls.take k) Q) (hk : k < ls.length) {q : LsI} (hq : q.xs = onesO (ls[k]).xs) : FnK (ls.take (k + 1)) (Q ++ [q]) := by
  unfold FnK at h ⊢
  rw [List.take_succ_eq_append_getElem hk, List.map_append, List.map_append, h, List.map_cons, List.map_cons, hq]
  rfl
theorem FnK.all {ls Q : List LsI} (h : FnK ls Q) {P : List (Int × Nat) → Prop} (hp : ∀ p ∈ ls, P (onesO p.xs)) : ∀ q ∈ Q, P q.xs := fun q hq => by
  have : q.xs ∈ Q.map (·.xs) := List.mem_map.2 ⟨q, hq, rfl⟩
  rw [h] at this
  obtain ⟨p, hpp, e⟩ := List.mem_map.1 this
  rw [← e]
  exact hp p hpp
theorem FnK.flat {ls Q : List LsI} (h : FnK ls Q) : flatS Q = onesO (flatS ls) := by
  unfold flatS onesO
  rw [List.filter_flatMap, List.flatMap_def, List.flatMap_def]
  exact congrArg List.flatten h
theorem chkF_fine : ∀ (ls : List LsI) (i : Nat), (∀ p ∈ ls, p.xs.length ≤ 4096 ∧ anyNo p.xs = false) → chkF i ls = (0, 0)
  | [], _, _ => rfl
  | q :: r, i, h => by
    obtain ⟨h1, h2⟩ := h q List.mem_cons_self
    unfold chkF
    rw [if_neg (by omega), if_neg (by rw [h2]; decide)]
    exact chkF_fine r (i + 1) (fun p hp => h p (List.mem_cons_of_mem _ hp))
theorem chkL_fine {ls : List LsI} (hn : ls.length ≤ 16) (h : ∀ p ∈ ls, p.xs.length ≤ 4096 ∧ anyNo p.xs = false) : chkL ls = (0, 0) := by
  unfold chkL
  rw [if_neg (by omega)]
  exact chkF_fine ls 0 h
theorem anyNo_of {xs : List (Int × Nat)} : anyNo xs = false ↔ ∀ p ∈ xs, 0 ≤ p.1 ∧ p.1 ≤ 1048576 := by
  unfold anyNo
  rw [List.any_eq_false]
  constructor
  · intro h p hp
    have := h p hp
    unfold noT at this
    simp only [decide_eq_true_eq] at this
    omega
  · intro h p hp
    have := h p hp
    unfold noT
    simp only [decide_eq_true_eq]
    omega
theorem anyNo_ones {xs : List (Int × Nat)} (h : anyNo xs = false) : anyNo (onesO xs) = false := anyNo_of.2 (fun p hp => anyNo_of.1 h p (List.mem_filter.1 hp).1)
theorem mem_flatS {P : List LsI} {q : LsI} {p : Int × Nat} (hq : q ∈ P) (hp : p ∈ q.xs) : p ∈ flatS P := List.mem_flatMap.2 ⟨q, hq, hp⟩
theorem TuS.rdl {w1 W : World} {P : List LsI} {v : Value} {k : Nat} (h : TuS w1 P v W) (hk : P.length = k) (hx : ∀ q ∈ P, ∀ p ∈ q.xs, I64 p.1 ∧ p.2 < 18446744073709551616) : ∃ au cu, v = .slice au k cu ∧ RdL W au P := by
  subst hk
  obtain ⟨au, cu, e1, hV⟩ := yshape h.row
  refine ⟨au, cu, e1, ?_, fun q hq => ?_⟩
  · rcases hV with h0 | ⟨g, ha, hl, hc⟩
    · left
      have : P.length = 0 := by rw [← cutV_len, h0]; rfl
      exact List.eq_nil_of_length_eq_zero this
    · refine .inr ⟨g, 0, ha, hl, fun j p hj => ?_⟩
      rw [Nat.zero_add]
      exact hc j _ (cutV_get hj)
  · obtain ⟨a, c, e, hv, hz, _⟩ := eshape (h.own q hq)
    injection e with e3 _ e4
    subst e3 e4
    exact ⟨RdS.of hv, fun e => ⟨(hz e).1, (hz e).2⟩, hx q hq⟩
theorem flatS_lenB : ∀ (ls : List LsI) (B : Nat), (∀ p ∈ ls, p.xs.length ≤ B) → (flatS ls).length ≤ ls.length * B
  | [], _, _ => by simp [flatS]
  | q :: r, B, h => by
    have i1 := flatS_lenB r B (fun p hp => h p (List.mem_cons_of_mem _ hp))
    have i2 := h q (List.mem_cons_self ..)
    have e : flatS (q :: r) = q.xs ++ flatS r := rfl
    rw [e, List.length_append, List.length_cons, Nat.succ_mul]
    omega
theorem MrA.onceMore {F M N : List (Int × Nat)} {e i : Int} (h : MrA F M) (hF : ∀ p ∈ M, isone p.2 = true ∧ p.2 < 18446744073709551616) (hl : M.length ≤ 4096) (g : MgO M (0, 0) e i N) : e = 0 ∧ i = 0 ∧ VlS N M := by
  rcases g with ⟨h1, _⟩ | ⟨h1, h2, _⟩ | ⟨h1, O, h2, ⟨h3, _⟩ | ⟨h3, h4, h5, h6⟩⟩
  · exact absurd rfl h1
  · exact absurd h2 (h.never hF)
  · have := h2.few
    omega
  · subst h6
    exact ⟨h4, h5, h.again hF h2⟩
theorem MgO.zero {F : List (Int × Nat)} {c : Int × Int} {e i : Int} {M : List (Int × Nat)} (h : MgO F c e i M) (hc : c = (0, 0)) : MgO F (0, 0) e i M := by rw [← hc]; exact h
set_option maxHeartbeats 1600000 in
set_option maxRecDepth 100000 in
theorem cleanOrder_skip (a : Option Addr) (n cap : Nat) (b : Option Addr) (m cb : Nat) (w : World) (h : 16 < n ∨ 200 < m) :
    Calls Try.prog 5 #[.slice a n cap, .slice b m cb] w fun e w' => e = .returned (.bool true) ∧ Below w.heap.size w w' := by
  have HL := hid (elives_any w)
  by_cases h1 : 16 < n
  · have h2 : (16 : Int) < (n : Int) := by omega
    clear h
    go_enter Try.func5, Try.ntmps5
    go_wp2_with fail
    refine Calls.mono HL.out ?_
    rintro e w1 ⟨rfl, hb1⟩
    have HB := hid hb1
    clear hb1 HL
    go_wp2_with fail
    go_ret
    exact ⟨rfl, HB.out⟩
  · have h2 : ¬ (16 : Int) < (n : Int) := by omega
    have h3 : (200 : Int) < (m : Int) := by omega
    clear h
    go_enter Try.func5, Try.ntmps5
    go_wp2_with fail
    refine Calls.mono HL.out ?_
    rintro e w1 ⟨rfl, hb1⟩
    have HB := hid hb1
    clear hb1 HL
    go_wp2_with fail
    go_ret
    exact ⟨rfl, HB.out⟩
set_option maxHeartbeats 12800000 in
set_option maxRecDepth 100000 in
theorem cleanOrder_go (a : Option Addr) (n cap : Nat) (ls : List LsI) (b : Option Addr) (m cb : Nat) (zs : List Int) (w : World) (hn : n ≤ 16) (hm : m ≤ 200) (hl : ls.length = n) (hlz : zs.length = m) (hz64 : ∀ z ∈ zs, I64 z) (h : RdL w a ls) (hb : RdZ w b zs) :
    Calls Try.prog 5 #[.slice a n cap, .slice b m cb] w fun e w' => e = .returned (.bool true) ∧ Below w.heap.size w w' := by
  obtain ⟨i0, hi, hz0, hz1, hz2⟩ := info_parts Try.yinfoSS
  obtain ⟨j0, hj, hy0, hy1, hy2⟩ := info_parts Try.yinfoS
  have HLi := hid (elives_any w)
  have HX := hid h
  have HL := hid hl
  have HZ := hid hb
  have HZl := hid hlz
  have HZi := hid hz64
  have rS := fsub_run Try.prog 22
  have HrS := hid rS
  clear h hl hb hlz hz64 rS
  have hni : ¬ (16 : Int) < (n : Int) := by omega
  have hmi : ¬ (200 : Int) < (m : Int) := by omega
  go_enter Try.func5, Try.ntmps5
  go_wp2_with fail
  refine Calls.mono HLi.out ?_
  rintro e w1 ⟨rfl, hb1⟩
  have HB1 := hid hb1
  clear hb1 HLi
  go_wp2_with fail
  go_loopw [5, 6] (fun v x wr => ∃ (k : Nat) (Q : List LsI), k ≤ n ∧ x = .int .i64 (k : Int) ∧ Q.length = k ∧ Hid (TuS w Q v wr) ∧ Hid (FnK (ls.take k) Q) ∧ Hid (∀ p ∈ ls.take k, p.xs.length ≤ 60 ∧ anyNo p.xs = false)) (fun _ x _ => n - (intOf x).toNat)
  case atStart => exact ⟨0, [], Nat.zero_le _, rfl, rfl, (TuS.nil w).later HB1.out, rfl, (show ∀ p ∈ ls.take 0, p.xs.length ≤ 60 ∧ anyNo p.xs = false from by simp)⟩
  case round =>
    obtain ⟨k, Q, hk, rfl, hQk, HP, HK, HFi⟩ := hrel
    have HQk := hid hQk
    clear hQk
    generalize hw0 : wr = w0 at *
    clear hw0
    by_cases hlt : k < n
    · have hkx : k < ls.length := by have := HL.out; omega
      have hjj : ls[k]? = some ls[k] := List.getElem?_eq_getElem hkx
      obtain ⟨hrs, hnz, h64⟩ := HX.out.2 _ (List.getElem_mem hkx)
      have HMo : Hid (∀ q : LsI, q.xs = onesO (ls[k]).xs → FnK (ls.take (k + 1)) (Q ++ [q])) := fun q hq => HK.out.more hkx hq
      have HFm : Hid ((ls[k]).xs.length ≤ 60 → anyNo (ls[k]).xs = false → ∀ p ∈ ls.take (k + 1), p.xs.length ≤ 60 ∧ anyNo p.xs = false) := fun h1 h2 p hp => by
        rw [List.take_succ_eq_append_getElem hkx] at hp
        rcases List.mem_append.1 hp with hp | hp
        · exact HFi.out p hp
        · rw [List.mem_singleton.1 hp]
          exact ⟨h1, h2⟩
      rcases HX.out.1 with h0 | ⟨g, o, rfl, hg, hx⟩
      · rw [h0] at hkx; exact absurd hkx (by simp)
      have c0 := (HP.out.bel.cell (p := ⟨g, o + k, none⟩) hg).trans (hx k _ hjj)
      have HCe : Hid (∀ V, Below w.heap.size w V → V.cell? ⟨g, o + k, none⟩ = some (.slice (ls[k]).a (ls[k]).xs.length (ls[k]).cap)) := fun V hV => (hV.cell (p := ⟨g, o + k, none⟩) hg).trans (hx k _ hjj)
      clear hx hjj HK HFi
      generalize ls[k] = q at *
      obtain ⟨qa, qc, qx⟩ := q
      dsimp only at c0 hrs hnz h64 HMo HFm HCe
      have hk1 : (k : Int) < (n : Int) := by omega
      have HRS := hid hrs
      have H64 := hid h64
      have hsz0 := HP.out.bel.size
      clear hrs hnz h64
      by_cases h60 : 60 < qx.length
      · have h61 : (60 : Int) < (qx.length : Int) := by omega
        go_wp2_with fail
        go_ret
        exact ⟨rfl, HP.out.bel⟩
      have h61 : ¬ (60 : Int) < (qx.length : Int) := by omega
      go_wp2_with fail
      clear c0
      go_loopw [7, 8] (fun v x wq => ∃ (j : Nat), j ≤ qx.length ∧ x = .int .i64 (j : Int) ∧ Hid (wq.ownsRow w0.heap.size 32 2 v (onesO (qx.take j)).length (smC (onesO (qx.take j)))) ∧ Hid (Below w0.heap.size w0 wq) ∧ Hid (anyNo (qx.take j) = false)) (fun _ x _ => qx.length - (intOf x).toNat)
      case atStart => exact ⟨0, Nat.zero_le _, rfl, World.ownsRow_nil _ _ _ _, Below.refl _ _, anyNo_nil⟩
      case round =>
        obtain ⟨j, hjq, rfl, HO, HW, HT⟩ := hrel
        generalize hwq : wr = wq at *
        clear hwq
        have Hww : Hid (Below w.heap.size w wq) := ybt' HP.out.bel HW.out
        have c0 := HCe.out wq Hww.out
        by_cases hlj : j < qx.length
        · have hjx : qx[j]? = some qx[j] := List.getElem?_eq_getElem hlj
          have H6 := hid (H64.out _ (List.getElem_mem hlj))
          have HSn : Hid (onesO (qx.take (j + 1)) = onesO (qx.take j) ++ (if isone (qx[j]).2 = true then [qx[j]] else [])) := by
            show _ = _
            rw [List.take_succ_eq_append_getElem hlj, onesO_snoc]
          have HSt := hid (anyNo_step hlj)
          have hql : (onesO (qx.take j)).length ≤ 1000 := by have := onesO_len (qx.take j); rw [List.length_take] at this; omega
          rcases HRS.out with h0 | ⟨g2, o2, rfl, hg2, hx2⟩
          · rw [h0] at hlj; exact absurd hlj (by simp)
          obtain ⟨e0, e1⟩ := hx2 j _ hjx
          have HC : Hid (∀ V, Below w.heap.size w V → V.cell? ⟨g, o + k, none⟩ = some (.slice (some ⟨g2, o2, none⟩) qx.length qc) ∧ V.cell? ⟨g2, o2 + j * 2, none⟩ = some (.int .i64 (qx[j]).1) ∧ V.cell? ⟨g2, o2 + j * 2 + 1, none⟩ = some (.float .f64 (qx[j]).2)) := fun V hV => ⟨HCe.out V hV, (hV.cell (p := ⟨g2, o2 + j * 2, none⟩) hg2).trans e0, (hV.cell (p := ⟨g2, o2 + j * 2 + 1, none⟩) hg2).trans e1⟩
          clear hx2 e0 e1 hjx
          generalize onesO (qx.take j) = O at *
          generalize qx[j] = u at *
          obtain ⟨pt, pb⟩ := u
          dsimp only at H6 HSn HSt HC
          have hlf : ∀ V, (FloatKind.f64.format.order (fval .sub V pb pb) 0 == some .eq) = fin pb := fun V => less_self (fval_fn .sub V pb pb)
          have hj1 : (j : Int) < (qx.length : Int) := by omega
          have hj00 : (0 : Int) ≤ (j : Int) := by omega
          have hk00 : (0 : Int) ≤ (k : Int) := by omega
          have hs0 := HC.out wq.drew Hww.out.drew
          obtain ⟨d0, d1, d2⟩ := hs0
          have hs1 := HC.out wq.drew.drew Hww.out.drew.drew
          obtain ⟨d3, d4, d5⟩ := hs1
          obtain ⟨_, b1, b2⟩ := HC.out wq Hww.out
          have HNT : Hid (¬ pt < 0 → ¬ 1048576 < pt → anyNo (qx.take (j + 1)) = false) := fun h1 h2 => by rw [HSt.out, HT.out, show noT pt = false from decide_eq_false (fun h => h.elim h1 h2)]; rfl
          have htk : pt < 0 ∨ (¬ pt < 0 ∧ 1048576 < pt) ∨ (¬ pt < 0 ∧ ¬ 1048576 < pt) := by omega
          clear HSt
          cases hone : fin pb
          · have HNo : Hid (onesO (qx.take (j + 1)) = O) := by
              show _ = _
              rw [HSn.out, if_neg, List.append_nil]
              intro h1
              have := (fin_iff pb).2 (by unfold isone at h1; simpa using h1)
              rw [hone] at this; cases this
            rw [hone] at hlf
            have hnb : floatBits .sub .f64 pb pb = none := sub_self_none hone
            have rN : ∀ V, (binOp .sub 22 (.float .f64 pb) (.float .f64 pb)).run Try.prog V = .ok (.float .f64 (fval .sub V pb pb)) V.drew := fun V => by
              rw [HrS.out V pb pb]
              unfold fwld
              rw [hnb]
            clear hone hnb
            go_wp2_with fail
            go_region
            obtain ⟨wz, hW2⟩ : ∃ wz, wq.drew.drew = wz := ⟨_, rfl⟩
            have HWz : Hid (Below w0.heap.size w0 wz) := by rw [← hW2]; exact HW.out.drew.drew
            have HOz : Hid (wz.ownsRow w0.heap.size 32 2 u7 (onesO (qx.take (j + 1))).length (smC (onesO (qx.take (j + 1))))) := by
              show wz.ownsRow _ _ _ _ _ _
              rw [HNo.out, ← hW2]
              exact yowns_later HO.out ((Below.refl _ _).drew.drew)
            rw [hW2] at d3 d4 d5 ⊢
            clear hW2 d0 d1 d2 b1 b2 c0 HO rN hlf
            rcases htk with h1 | ⟨h1, h2⟩ | ⟨h1, h2⟩
            all_goals (
              go_wp2_with fail
              first
                | exact ⟨⟨j + 1, by omega, by go_num, HOz, HWz, HNT.out (by omega) (by omega)⟩, by simp [intOf]; omega⟩
                | (go_ret; exact ⟨rfl, ybt' HP.out.bel (HWz).out⟩))
          · have HOn : Hid (onesO (qx.take (j + 1)) = O ++ [(pt, pb)]) := by
              show _ = _
              rw [HSn.out, if_pos]
              have := (fin_iff pb).1 hone
              exact decide_eq_true this
            have hnb : floatBits .sub .f64 pb pb = some 0 := sub_self_some hone
            have rN : ∀ V, (binOp .sub 22 (.float .f64 pb) (.float .f64 pb)).run Try.prog V = .ok (.float .f64 0) V := fun V => run_float_arith V _ _ _ _ _ _ hnb
            have hz00 : (FloatKind.f64.format.order 0 0 == some .eq) = true := by decide +kernel
            clear hone hnb hlf d0 d1 d2 d3 d4 d5
            go_wp2_with fail
            go_quiet (fail)
            obtain ⟨U, hU⟩ : ∃ U, wq.drewN nq = U := ⟨_, rfl⟩
            have HUw : Hid (Below w0.heap.size w0 U) := by rw [← hU]; exact ydrewMM HW.out
            have ho : U.ownsRow w0.heap.size 32 2 u7 O.length (smC O) := by rw [← hU]; exact yowns_later HO.out (ydrewMM (Below.refl _ _))
            rw [hU]
            obtain ⟨f0, f1, f2⟩ := HC.out U (ybt' HP.out.bel HUw.out)
            have hsz := HUw.out.size
            clear hU b1 b2 c0 HO rN
            rcases htk with h1 | ⟨h1, h2⟩ | ⟨h1, h2⟩
            all_goals (
              go_wp2_with (first
                | (at_builtin; refine wpList_append_own _ rfl _ _ 25 rfl w0.heap.size 32 j0 (.agg #[.int .i64 0, .float .f64 0]) 2 16 Try.underlying25 hj hy0 hy1 hy2 rfl (by decide) _ _ _ rfl (ho.alloc _) ⟨U.heap.size, 0, none⟩ 1 1 [.int .i64 pt, .float .f64 pb] rfl rfl (ycell2 _ _ _ _) (smC_one (pt, pb)) (by unfold maxLen; omega) (by omega) (by simp; omega) ?_; intro v4 w4 ho4 hg4 _; have HB4 : Hid (Below w0.heap.size w0 w4) := (HUw.out.alloc hsz _).grown hg4 (by simp; omega) (fun g hg => (ho.lt g hg).1); have hc4 := HC.out w4 (ybt' HP.out.bel HB4.out); obtain ⟨p0, p1, p2⟩ := hc4; clear f0 f1 f2)
                | fail)
              have HO4 : Hid (w4.ownsRow w0.heap.size 32 2 v4 (onesO (qx.take (j + 1))).length (smC (onesO (qx.take (j + 1))))) := by
                show w4.ownsRow _ _ _ _ _ _
                rw [HOn.out, smC_append, List.length_append]
                exact ho4
              clear ho4 hg4
              first
                | exact ⟨⟨j + 1, by omega, by go_num, HO4, HB4, HNT.out (by omega) (by omega)⟩, by simp [intOf]; omega⟩
                | (go_ret; exact ⟨rfl, ybt' HP.out.bel (HB4).out⟩))
        · obtain rfl : j = qx.length := by omega
          have hkj : ¬ (qx.length : Int) < (qx.length : Int) := by omega
          have HT9 : Hid (anyNo qx = false) := by have q := HT.out; rw [List.take_length] at q; exact q
          rw [List.take_length] at HO
          have HOs := hid (yowns_later HO.out (Below.refl _ wq))
          obtain ⟨a2, cp2, rfl, hdrop⟩ := yshape HO.out
          clear hdrop
          have hrow := yowns_later HP.out.row HW.out
          rw [HQk.out] at hrow
          have hsz : w.heap.size ≤ wq.heap.size := Hww.out.size
          clear HOs
          go_wp2_with (first
            | (at_builtin; refine wpList_append_own _ rfl _ _ 33 rfl w.heap.size 25 i0 (.slice none 0 0) 1 24 Try.underlying33 hi hz0 hz1 hz2 rfl (by decide) _ _ _ rfl (hrow.alloc _) ⟨wq.heap.size, 0, none⟩ 1 1 [.slice a2 (onesO qx).length cp2] rfl rfl (cell_one_new _ _ _) (by simp [Value.oneCell']) (by unfold maxLen; omega) (by omega) (by simp; omega) ?_; intro v3 w3 ho3 hg3 _)
            | fail)
          have HP3 : Hid (TuS w (Q ++ [⟨a2, cp2, onesO qx⟩]) v3 w3) := HP.out.more HW.out (q := ⟨a2, cp2, onesO qx⟩) HO.out (by rw [HQk.out]; exact ho3) hg3
          have HK3 := hid (HMo.out ⟨a2, cp2, onesO qx⟩ rfl)
          have HF3 := hid (HFm.out (by omega) HT9.out)
          have hPl : (Q ++ [(⟨a2, cp2, onesO qx⟩ : LsI)]).length = k + 1 := by rw [List.length_append, HQk.out]; rfl
          clear ho3 hg3 hrow HP HMo HO
          first | exact ⟨⟨k + 1, _, by omega, by go_num, hPl, HP3, HK3, HF3⟩, by simp [intOf]; omega⟩ | (go_wp2_with fail; first | exact ⟨⟨k + 1, _, by omega, by go_num, hPl, HP3, HK3, HF3⟩, by simp [intOf]; omega⟩ | (go_roundw; (case rel => exact ⟨k + 1, _, by omega, by go_num, hPl, HP3, HK3, HF3⟩); (case measure => simp [intOf]; omega)))
    · obtain rfl : k = n := by omega
      have hkk : ¬ (k : Int) < (k : Int) := by omega
      have HFK : Hid (FnK ls Q) := by
        have q := HK.out
        rw [List.take_of_length_le (by have := HL.out; omega)] at q
        exact q
      have HFall : Hid (∀ p ∈ ls, p.xs.length ≤ 60 ∧ anyNo p.xs = false) := by
        have q := HFi.out
        rw [List.take_of_length_le (by have := HL.out; omega)] at q
        exact q
      have H64a : Hid (∀ p ∈ flatS ls, I64 p.1 ∧ p.2 < 18446744073709551616) := fun p hp => by
        obtain ⟨q, hq, hpq⟩ := List.mem_flatMap.1 hp
        exact (HX.out.2 q hq).2.2 p hpq
      have HTa : Hid (∀ p ∈ flatS ls, 0 ≤ p.1 ∧ p.1 ≤ 1048576) := flatS_tick (fun p hp => (HFall.out p hp).2)
      have HLen : Hid ((flatS ls).length ≤ 4096) := by have := flatS_lenB ls 60 (fun p hp => (HFall.out p hp).1); have := HL.out; show _ ≤ _; omega
      have HC1 : Hid (chkL ls = (0, 0)) := chkL_fine (by have := HL.out; omega) (fun p hp => ⟨by have := (HFall.out p hp).1; omega, (HFall.out p hp).2⟩)
      have HC3 : Hid (chkL Q = (0, 0)) := chkL_fine (by have := HQk.out; omega) (HFK.out.all (P := fun xs => xs.length ≤ 4096 ∧ anyNo xs = false) (fun p hp => ⟨by have := (HFall.out p hp).1; have := onesO_len p.xs; omega, anyNo_ones (HFall.out p hp).2⟩))
      obtain ⟨au, cu, rfl, HRl⟩ := HP.out.rdl HQk.out (HFK.out.all (P := fun xs => ∀ p ∈ xs, I64 p.1 ∧ p.2 < 18446744073709551616) (fun p hp x hx => (HX.out.2 p hp).2.2 x (List.mem_filter.1 hx).1))
      have HR := hid HRl
      have HBw := hid HP.out.bel
      have M1 := hid (emerge_any a k cap ls w0 HL.out (HX.out.later HBw.out))
      clear HRl HP HK HFi
      go_wp2_with fail
      refine Calls.mono M1.out ?_
      rintro e w2 ⟨va, er, ix, rfl, HM2, hb2⟩
      obtain ⟨Y2, A20, A21, hY2, hA20, hA21, ⟨y20, y21⟩, ⟨f20, f21⟩, ⟨z20, z21⟩, HBX2⟩ := ybox2 w2 28 (.int .i64 0) (.int .i64 0) (.int .i64 er) (.int .i64 ix)
      have H02 : Hid (Below w0.heap.size w0 A21) := ybt' hb2 HBX2.out.2
      have Hw2 : Hid (Below w.heap.size w A21) := ybt' HBw.out H02.out
      have HTu := hid (eturned_any a k cap ls b m cb zs A21 HL.out (by omega) (by omega) (fun p hp => by have := (HFall.out p hp).1; omega) HZl.out HZi.out (HX.out.later Hw2.out) (HZ.out.later Hw2.out))
      clear hb2 M1
      go_wp2_with fail
      clear hY2 hA20 hA21 y20 y21 f20 f21 z20 z21
      refine Calls.mono HTu.out ?_
      rintro e w3 ⟨vt, P, rfl, HT3, hb3⟩
      have HPm : Hid (∀ q ∈ P, ∀ p ∈ q.xs, p ∈ flatS ls) := fun q hq p hp => HT3.out.2.2.1.mem_iff.1 (mem_flatS hq hp)
      have HC2 : Hid (chkL P = (0, 0)) := chkL_fine (by have := HT3.out.2.1; have := HL.out; omega) (fun q hq => ⟨by have := HT3.out.2.2.2 q hq; omega, anyNo_of.2 (fun p hp => HTa.out p (HPm.out q hq p hp))⟩)
      have hPl : P.length = k := HT3.out.2.1.trans HL.out
      obtain ⟨pu, pc, rfl, HRp⟩ := HT3.out.1.rdl hPl (fun q hq p hp => H64a.out p (HPm.out q hq p hp))
      have M2 := hid (emerge_any pu k pc P w3 hPl HRp)
      have H23 := hid hb3
      clear hb3 HTu hPl HRp
      go_wp2_with fail
      refine Calls.mono M2.out ?_
      rintro e w4 ⟨vb, er2, ix2, rfl, HM4, hb4⟩
      obtain ⟨Y4, A40, A41, hY4, hA40, hA41, ⟨y40, y41⟩, ⟨f40, f41⟩, ⟨z40, z41⟩, HBX4⟩ := ybox2 w4 28 (.int .i64 0) (.int .i64 0) (.int .i64 er2) (.int .i64 ix2)
      have H24 : Hid (Below A21.heap.size A21 A41) := ybt' H23.out (ybt' hb4 HBX4.out.2)
      have H04 : Hid (Below w0.heap.size w0 A41) := ybt' H02.out H24.out
      have M3 := hid (emerge_any au k cu Q A41 HQk.out (HR.out.later H04.out))
      clear hb4 M2
      go_wp2_with fail
      clear hY4 hA40 hA41 y40 y41 f40 f41 z40 z41
      refine Calls.mono M3.out ?_
      rintro e w5 ⟨vc, er3, ix3, rfl, HM5, hb5⟩
      obtain ⟨Ma, oa, hMl, hMo, rowa⟩ := HM2.out.of
      obtain ⟨Mb, ob, _, _, rowb⟩ := HM4.out.of
      obtain ⟨Mc, oc, _, _, rowc⟩ := HM5.out.of
      have oa0 := oa.zero HC1.out
      have ob0 := (SmF.perm HT3.out.2.2.1).out (ob.zero HC2.out)
      have oc0 := (oc.zero HC3.out)
      rw [HFK.out.flat] at oc0
      have oc1 := (SmF.ones (flatS ls)).symm.out oc0
      obtain ⟨q1, q2, q3⟩ := oa0.one ob0
      obtain ⟨q4, q5, q6⟩ := oa0.one oc1
      have HFew := hid (oa0.few HLen.out)
      subst q1 q2 q3 q4 q5 q6
      obtain ⟨Y5, A50, A51, hY5, hA50, hA51, ⟨y50, y51⟩, ⟨f50, f51⟩, ⟨z50, z51⟩, HBX5⟩ := ybox2 w5 28 (.int .i64 0) (.int .i64 0) (.int .i64 er) (.int .i64 ix)
      have H45 : Hid (Below A41.heap.size A41 A51) := ybt' hb5 HBX5.out.2
      have H25 : Hid (Below A21.heap.size A21 A51) := ybt' H24.out H45.out
      have H05 : Hid (Below w0.heap.size w0 A51) := ybt' H02.out H25.out
      have H2A : Hid (Below w2.heap.size w2 A51) := ybt' HBX2.out.2 H25.out
      have H4A : Hid (Below w4.heap.size w4 A51) := ybt' HBX4.out.2 H45.out
      obtain ⟨aa, ca, rfl, hVa, hza, hga⟩ := eshape rowa
      obtain ⟨ab, cb2, rfl, hVb, _, _⟩ := eshape rowb
      obtain ⟨ac, cc, rfl, hVc, _, _⟩ := eshape rowc
      have HVa := hid (And.intro hVa hza)
      have HVc := hid hVc
      have HMo := hid hMo
      have HMl := hid hMl
      have HB2 := hid (HBX2.out.1.later H25.out HBX2.out.1.lt)
      have HB4 := hid (HBX4.out.1.later H45.out HBX4.out.1.lt)
      have k80 : A51.cell? ⟨w2.heap.size, 0, none⟩ = some (.int .i64 er) := HB2.out.cell 0
      have k81 : A51.cell? ⟨w2.heap.size, 1, none⟩ = some (.int .i64 ix) := HB2.out.cell 1
      have k100 : A51.cell? ⟨w4.heap.size, 0, none⟩ = some (.int .i64 er) := HB4.out.cell 0
      have k101 : A51.cell? ⟨w4.heap.size, 1, none⟩ = some (.int .i64 ix) := HB4.out.cell 1
      have hEQ := cfault_same er ix
      have HS1 := hid (esame_any aa ab ca cb2 Ma A51 (by omega) hMo (hVa.later H2A.out) (hVb.later H4A.out))
      clear oa ob oc oa0 ob0 oc0 oc1 rowa rowb rowc hVa hVb hVc hza hga hMo hMl hb5 M3 HM2 HM4 HM5
      go_wp2_with fail
      clear hY5 hA50 hA51 y50 y51 f50 f51 z50 z51 k80 k81 k100 k101 hEQ
      refine Calls.mono HS1.out ?_
      rintro e w6 ⟨rfl, hb6⟩
      have H56 := hid hb6
      have HS2 := hid (esame_any aa ac ca cc Ma w6 (by have := HMl.out; omega) HMo.out (HVa.out.1.later (ybt' H2A.out hb6)) (HVc.out.later (ybt' HBX5.out.2 hb6)))
      clear hb6 HS1
      go_wp2_with fail
      refine Calls.mono HS2.out ?_
      rintro e w7 ⟨rfl, hb7⟩
      have H57 : Hid (Below A51.heap.size A51 w7) := ybt' H56.out hb7
      have H27 : Hid (Below w2.heap.size w2 w7) := ybt' H2A.out H57.out
      have Hw7 : Hid (Below w.heap.size w w7) := ybt' HBw.out (ybt' H05.out H57.out)
      have HB27 := hid (HB2.out.later H57.out HB2.out.lt)
      have k80 : w7.cell? ⟨w2.heap.size, 0, none⟩ = some (.int .i64 er) := HB27.out.cell 0
      have k81 : w7.cell? ⟨w2.heap.size, 1, none⟩ = some (.int .i64 ix) := HB27.out.cell 1
      clear hb7 HS2 H56 HBX2 HBX4 HBX5 H02 H23 H24 H04 H45 H25 H05 H2A H4A HB2 HB4
      rcases HFew.out with ⟨rfl, rfl, h3⟩ | ⟨rfl, rfl, hMrA⟩
      · have hNE := cfault_ne (e := 9) (i := -1) (by decide)
        have hEQ := cfault_same 9 (-1)
        go_wp2_with fail
        go_ret
        exact ⟨rfl, Hw7.out⟩
      · have hEQ := cfault_eq
        have HMr := hid hMrA
        clear hMrA
        obtain ⟨X, hX⟩ : ∃ X, w7.alloc (.cells #[.slice aa Ma.length ca] 25) = X := ⟨_, rfl⟩
        have HFX : Hid (FBox X w7.heap.size 25 #[.slice aa Ma.length ca] ∧ Below w7.heap.size w7 X) := by rw [← hX]; exact ⟨FBox.made _ _ _, (Below.refl _ _).alloc (Nat.le_refl _) _⟩
        have HVX := hid (HVa.out.1.later (ybt' H27.out HFX.out.2))
        have HTk : Hid (∀ p ∈ Ma, 0 ≤ p.1 ∧ p.1 ≤ 1048576) := fun p hp => by
          obtain ⟨⟨q, hq, _, h2⟩, _⟩ := HMr.out.mean p hp
          rw [← h2]
          exact HTa.out q hq
        have HRd : Hid (RdL X (some ⟨w7.heap.size, 0, none⟩) [⟨aa, ca, Ma⟩]) := by
          refine ⟨.inr ⟨w7.heap.size, 0, rfl, HFX.out.1.lt, fun j p hj => ?_⟩, fun p hp => ?_⟩
          · match j, hj with
            | 0, hj =>
              injection hj with hj
              subst hj
              exact HFX.out.1.cell 0
          · rw [List.mem_singleton.1 hp]
            exact ⟨RdS.of HVX.out, HVa.out.2, fun q hq => ⟨by have := HTk.out q hq; constructor <;> omega, (HMo.out q hq).2⟩⟩
        have M4 := hid (emerge_any (some ⟨w7.heap.size, 0, none⟩) 1 1 [⟨aa, ca, Ma⟩] X rfl HRd.out)
        go_wp2_with fail
        clear hX
        refine Calls.mono M4.out ?_
        rintro e w8 ⟨vd, er4, ix4, rfl, HM8, hb8⟩
        obtain ⟨Md, od, hdl, hdo, rowd⟩ := HM8.out.of
        have e1 : flatS [(⟨aa, ca, Ma⟩ : LsI)] = Ma := by unfold flatS; simp
        have e2 : chkL [(⟨aa, ca, Ma⟩ : LsI)] = (0, 0) := chkL_fine (by simp) (fun p hp => by rw [List.mem_singleton.1 hp]; exact ⟨HMl.out, anyNo_of.2 HTk.out⟩)
        rw [e1, e2] at od
        obtain ⟨rfl, rfl, hv⟩ := HMr.out.onceMore HMo.out HMl.out od
        obtain ⟨Y8, A80, A81, hY8, hA80, hA81, ⟨y80, y81⟩, ⟨f80, f81⟩, ⟨z80, z81⟩, HBX8⟩ := ybox2 w8 28 (.int .i64 0) (.int .i64 0) (.int .i64 0) (.int .i64 0)
        have HXA : Hid (Below X.heap.size X A81) := ybt' hb8 HBX8.out.2
        obtain ⟨ad, cd, e8, hVd, _, _⟩ := eshape rowd
        rw [hv.1] at e8
        subst e8
        have HVd := hid hVd
        have HVl := hid hv
        have HRi := hid (eRising_any aa Ma.length ca Ma A81 (by have := HMl.out; omega) rfl (RdS.of (HVX.out.later HXA.out)))
        have Hw8 : Hid (Below w.heap.size w A81) := ybt' Hw7.out (ybt' HFX.out.2 HXA.out)
        clear hb8 M4 HM8 od e1 e2 hdl hdo rowd hVd hv k80 k81
        go_wp2_with fail
        clear hY8 hA80 hA81 y80 y81 f80 f81
        refine Calls.mono HRi.out ?_
        rintro e w9 ⟨bb, rfl, HBb, hb9⟩
        obtain rfl : bb = true := HBb.out.2 HMr.out.rise
        have HB89 := hid (HBX8.out.1.later hb9 HBX8.out.1.lt)
        have k0 : w9.cell? ⟨w8.heap.size, 0, none⟩ = some (.int .i64 0) := HB89.out.cell 0
        have k1 : w9.cell? ⟨w8.heap.size, 1, none⟩ = some (.int .i64 0) := HB89.out.cell 1
        have HS3 := hid (esameV_any ad aa Ma.length cd ca Md Ma w9 (by have := HMl.out; have := HVl.out.1; omega) HVl.out.1 HVl.out (HVd.out.later (ybt' HBX8.out.2 hb9)) (HVX.out.later (ybt' HXA.out hb9)))
        have Hw9 := hid (ybt' Hw8.out hb9)
        clear hb9 HRi z80 z81
        go_wp2_with fail
        refine Calls.mono HS3.out ?_
        rintro e w10 ⟨rfl, hb10⟩
        have Hw10 := hid (ybt' Hw9.out hb10)
        clear hb10 HS3
        go_wp2_with fail
        go_ret
        exact ⟨rfl, Hw10.out⟩
theorem cleanOrder_in (a : Option Addr) (n cap : Nat) (ls : List LsI) (b : Option Addr) (m cb : Nat) (zs : List Int) (w : World) (h : (a = none → n = 0 ∧ cap = 0) ∧ n ≤ cap ∧ cap ≤ maxLen ∧ ls.length = n ∧ RdL w a ls) (g : (b = none → m = 0 ∧ cb = 0) ∧ m ≤ cb ∧ cb ≤ maxLen ∧ zs.length = m ∧ (∀ z ∈ zs, I64 z) ∧ RdZ w b zs) :
    Calls Try.prog 5 #[.slice a n cap, .slice b m cb] w fun e w' => e = .returned (.bool true) ∧ Below w.heap.size w w' := by
  by_cases hn : 16 < n ∨ 200 < m
  · exact cleanOrder_skip a n cap b m cb w hn
  · exact cleanOrder_go a n cap ls b m cb zs w (by omega) (by omega) h.2.2.2.1 g.2.2.2.1 g.2.2.2.2.1 h.2.2.2.2 g.2.2.2.2.2
end Go.Proofs.Ytmigdomlakflfaa

