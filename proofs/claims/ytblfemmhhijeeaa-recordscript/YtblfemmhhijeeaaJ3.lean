/- My texts on the way to RecordScript, one behind the other: contracts of the program and of the document's answers. -/
import Derived.Test.YtblfemmhhijeeaaJ1
import Derived.Test.YtblfemmhhijeeaaJ2
import Derived.Deep.RegionHeld3
import Derived.Deep.Cut
import Derived.Laws.Bits64b
/- Gaps and samples are a span's ticks, each once; no program. -/
namespace Go.Proofs.Ytblfemmhhijeeaa
open Go.RowKit
set_option linter.unusedVariables false

/-- The gaps from a tick on. -/
def gfrom (b : Int) : Int → List (Int × Nat) → List (Int × Int)
  | at_, [] => if b ≤ at_ then [] else [(at_, b - at_)]
  | at_, p :: r => if p.1 ≤ at_ then gfrom b (p.1 + 1) r else (at_, p.1 - at_) :: gfrom b (p.1 + 1) r
theorem gapF_from (b : Int) : ∀ (Q : List (Int × Nat)) (G : List (Int × Int)) (a : Int), gapR (gapF Q (G, a)).1 (gapF Q (G, a)).2 b = G ++ gfrom b a Q
  | [], G, a => by
    have e : gapF [] (G, a) = (G, a) := rfl
    rw [e, gfrom]
    unfold gapR
    split <;> simp
  | p :: r, G, a => by
    have e : gapF (p :: r) (G, a) = gapF r (gapR G a p.1, p.1 + 1) := rfl
    rw [e, gapF_from b r, gfrom]
    unfold gapR
    split <;> simp
theorem gaps_from (Q : List (Int × Nat)) (a b : Int) : gapsR Q a b = gfrom b a Q := by
  have := gapF_from b Q [] a
  unfold gapsR
  rw [this]
  rfl
theorem gfrom_len (b : Int) : ∀ (Q : List (Int × Nat)) (a : Int), (gfrom b a Q).length ≤ Q.length + 1
  | [], a => by rw [gfrom]; split <;> simp
  | p :: r, a => by
    have := gfrom_len b r (p.1 + 1)
    rw [gfrom]
    split
    · simp only [List.length_cons]; omega
    · simp only [List.length_cons]; omega
theorem gaps_len (Q : List (Int × Nat)) (a b : Int) : (gapsR Q a b).length ≤ Q.length + 1 := by rw [gaps_from]; exact gfrom_len b Q a
/-- Where the walk over a span stands. -/
structure GpW (Q : List (Int × Nat)) (G : List (Int × Int)) (b at_ : Int) (i k : Nat) : Prop where
  lo : 0 ≤ at_ ∧ at_ ≤ b
  il : i ≤ Q.length
  kl : k ≤ G.length
  mem : ∀ p ∈ Q.drop i, at_ ≤ p.1 ∧ p.1 < b
  rest : G.drop k = gfrom b at_ (Q.drop i)
theorem GpW.done {Q : List (Int × Nat)} {G : List (Int × Int)} {b at_ : Int} {i k : Nat} (h : GpW Q G b at_ i k) (hb : ¬ at_ < b) : at_ = b ∧ i = Q.length ∧ k = G.length := by
  have e := h.lo
  have hb2 : at_ = b := by omega
  subst hb2
  have hQ : Q.drop i = [] := by
    cases hq : Q.drop i with
    | nil => rfl
    | cons p r =>
      have := h.mem p (by rw [hq]; exact List.mem_cons_self)
      omega
  have hG := h.rest
  rw [hQ] at hG
  rw [gfrom, if_pos (Int.le_refl _)] at hG
  have h1 := List.drop_eq_nil_iff.1 hQ
  have h2 := List.drop_eq_nil_iff.1 hG
  have := h.il
  have := h.kl
  exact ⟨rfl, by omega, by omega⟩
theorem drop_cons_at {α : Type} {Q : List α} {i : Nat} {p : α} (hp : Q[i]? = some p) : Q.drop i = p :: Q.drop (i + 1) := by
  obtain ⟨hl, e⟩ := List.getElem?_eq_some_iff.1 hp
  rw [List.drop_eq_getElem_cons hl, e]
theorem GpW.hit {Q : List (Int × Nat)} {G : List (Int × Int)} {b at_ : Int} {i k : Nat} (h : GpW Q G b at_ i k) (hr : Q.Pairwise (fun p q => p.1 < q.1)) {p : Int × Nat} (hp : Q[i]? = some p) (he : p.1 = at_) : GpW Q G b (at_ + 1) (i + 1) k := by
  have hd := drop_cons_at hp
  have hm := h.mem p (by rw [hd]; exact List.mem_cons_self)
  have hl := (List.getElem?_eq_some_iff.1 hp).1
  have hrd : (p :: Q.drop (i + 1)).Pairwise (fun p q => p.1 < q.1) := by rw [← hd]; exact hr.sublist (List.drop_sublist _ _)
  rw [List.pairwise_cons] at hrd
  refine ⟨⟨by have := h.lo; omega, by omega⟩, by omega, h.kl, fun q hq => ?_, ?_⟩
  · have h1 := hrd.1 q hq
    have h2 := h.mem q (by rw [hd]; exact List.mem_cons_of_mem _ hq)
    omega
  · rw [h.rest, hd]
    rw [gfrom, if_pos (by omega), he]
theorem GpW.gap {Q : List (Int × Nat)} {G : List (Int × Int)} {b at_ : Int} {i k : Nat} (h : GpW Q G b at_ i k) (hr : Q.Pairwise (fun p q => p.1 < q.1)) (hb : at_ < b) (hn : ∀ p, Q[i]? = some p → p.1 ≠ at_) :
    ∃ d : Int, 1 ≤ d ∧ d ≤ b - at_ ∧ k < G.length ∧ G[k]? = some (at_, d) ∧ (∀ p, Q[i]? = some p → p.1 = at_ + d) ∧ (Q[i]? = none → at_ + d = b) ∧ GpW Q G b (at_ + d) i (k + 1) := by
  have hG := h.rest
  cases hq : Q[i]? with
  | none =>
    have hQ : Q.drop i = [] := List.drop_eq_nil_iff.2 (by simpa using hq)
    rw [hQ] at hG
    rw [gfrom, if_neg (by omega)] at hG
    have hk : G[k]? = some (at_, b - at_) := by
      have := congrArg (·[0]?) hG
      simpa [List.getElem?_drop] using this
    have hkl := (List.getElem?_eq_some_iff.1 hk).1
    refine ⟨b - at_, by omega, by omega, hkl, hk, fun p hp => by simp at hp, fun _ => by omega, ⟨by have := h.lo; omega, by omega⟩, h.il, by omega, ?_, ?_⟩
    · rw [hQ]; simp
    · rw [drop_cons_at hk] at hG
      have e : G.drop (k + 1) = [] := by injection hG
      rw [e, hQ, gfrom, if_pos (by omega)]
  | some p =>
    have hd := drop_cons_at hq
    have hm := h.mem p (by rw [hd]; exact List.mem_cons_self)
    have hne := hn p hq
    rw [hd] at hG
    rw [gfrom, if_neg (by omega)] at hG
    have hk : G[k]? = some (at_, p.1 - at_) := by
      have := congrArg (·[0]?) hG
      simpa [List.getElem?_drop] using this
    have hkl := (List.getElem?_eq_some_iff.1 hk).1
    refine ⟨p.1 - at_, by omega, by omega, hkl, hk, fun q hq2 => by injection hq2 with e; subst e; omega, fun h => by simp at h, ⟨by have := h.lo; omega, by omega⟩, h.il, by omega, ?_, ?_⟩
    · intro q hq2
      have h2 := h.mem q hq2
      rw [hd] at hq2
      have hrd : (p :: Q.drop (i + 1)).Pairwise (fun p q => p.1 < q.1) := by rw [← hd]; exact hr.sublist (List.drop_sublist _ _)
      rw [List.pairwise_cons] at hrd
      rcases List.mem_cons.1 hq2 with rfl | hq3
      · omega
      · have := hrd.1 q hq3; omega
    · rw [drop_cons_at hk] at hG
      have e : G.drop (k + 1) = gfrom b (p.1 + 1) (Q.drop (i + 1)) := by injection hG
      rw [e, hd]
      have : at_ + (p.1 - at_) = p.1 := by omega
      rw [this]
      show _ = gfrom b p.1 (p :: Q.drop (i + 1))
      rw [gfrom, if_pos (Int.le_refl _)]
end Go.Proofs.Ytblfemmhhijeeaa

/- The law's lists: Gaps. -/
namespace Go.Proofs.Ytblfemmhhijeeaa
open Go.RowKit
set_option linter.unusedVariables false
set_option linter.unusedSimpArgs false

/-- What a call that makes a list of gaps leaves: the list, its own; what lay there. -/
def LgS (w V W : World) (a : Option Addr) (cap : Nat) (M : List (Int × Int)) : Prop := W.ownsRow V.heap.size 123 2 (.slice a M.length cap) M.length (gpC M) ∧ Below V.heap.size V W ∧ Below w.heap.size w W
theorem LgS.rd {w V W : World} {a : Option Addr} {cap : Nat} {M : List (Int × Int)} (h : LgS w V W a cap M) : RdV W a (gpC M) := by
  obtain ⟨a', cap', e, q⟩ := yshape h.1
  injection e with e1 e2 e3
  subst e1
  exact q
theorem LgS.lt {w V W : World} {a : Option Addr} {cap : Nat} {M : List (Int × Int)} (h : LgS w V W a cap M) (g : Nat) (e : a = some ⟨g, 0, none⟩) : V.heap.size ≤ g ∧ g < W.heap.size := by
  subst e
  exact h.1.lt g rfl
/-- What Gaps tells. -/
def gapG (M : List (Int × Nat)) (a b : Int) : List (Int × Int) := if spR a b = 0 then gapsR (spanL M a b) a b else []
theorem gapG_len (M : List (Int × Nat)) (a b : Int) : (gapG M a b).length ≤ M.length + 1 := by
  unfold gapG
  split
  · exact Nat.le_trans (gaps_len _ _ _) (Nat.succ_le_succ (List.length_filter_le _ _))
  · exact Nat.zero_le _
theorem LgS.nil (w V W : World) (h : Below V.heap.size V W) (h2 : Below w.heap.size w W) : LgS w V W none 0 [] := ⟨World.ownsRow_nil _ _ _ _, h, h2⟩
theorem ygap2_any (rb mb : Nat) (L : List (Int × Nat)) (a b : Int) (w V : World) (hr : RecAt V rb mb L) (hV : Below w.heap.size w V) (ha : I64 a) (hb : I64 b) :
    Calls Try.prog 93 #[.pointer (some ⟨rb, 0, none⟩), .int .i64 a, .int .i64 b] V fun e w' => ∃ c cap, e = .returned (.tuple #[.slice c (gapG (onesL L true) a b).length cap, .int .i64 (spR a b)]) ∧ Hid (LgS w V w' c cap (gapG (onesL L true) a b)) := by
  by_cases hs : spR a b = 0
  · rw [show gapG (onesL L true) a b = gapsR (spanL (onesL L true) a b) a b from if_pos hs]
    refine Calls.mono (ygaps_ok rb mb L a b V hr ha hb hs) ?_
    rintro e w' ⟨v, rfl, ho, hb⟩
    obtain ⟨c, cap, rfl, _⟩ := yshape ho.out
    exact ⟨c, cap, by rw [hs], ho.out, hb, ybt hV hb⟩
  · rw [show gapG (onesL L true) a b = [] from if_neg hs]
    refine Calls.mono (ygaps_bad rb mb a b V hr.box ha hb hs) ?_
    rintro e w' ⟨rfl, hb⟩
    exact ⟨none, 0, by rw [spR_bad hs]; rfl, LgS.nil _ _ _ hb (ybt hV hb)⟩
theorem dgap2_any (base rd : Nat) (L : List (Int × Nat)) (a b : Int) (w V : World) (hr : DocAt V base rd L) (hV : Below w.heap.size w V) (ha : I64 a) (hb : I64 b) :
    Calls Try.prog 94 #[.pointer (some ⟨rd, 0, none⟩), .int .i64 a, .int .i64 b] V fun e w' => ∃ c cap, e = .returned (.tuple #[.slice c (gapG (onesL L true) a b).length cap, .int .i64 (spR a b)]) ∧ Hid (LgS w V w' c cap (gapG (onesL L true) a b)) := by
  by_cases hs : spR a b = 0
  · rw [show gapG (onesL L true) a b = gapsR (spanL (onesL L true) a b) a b from if_pos hs]
    refine Calls.mono (d19gaps_ok base rd L a b V hr ha hb hs) ?_
    rintro e w' ⟨v, rfl, ho, hb⟩
    obtain ⟨c, cap, rfl, _⟩ := yshape ho.out
    exact ⟨c, cap, by rw [hs], ho.out, hb, ybt hV hb⟩
  · rw [show gapG (onesL L true) a b = [] from if_neg hs]
    refine Calls.mono (d19gaps_bad base rd L a b V hr ha hb hs) ?_
    rintro e w' ⟨rfl, hb⟩
    exact ⟨none, 0, by rw [spR_bad hs]; rfl, LgS.nil _ _ _ hb (ybt hV hb)⟩
set_option maxHeartbeats 12800000 in
set_option maxRecDepth 100000 in
theorem ylists5 (rb mb base rd : Nat) (L : List (Int × Nat)) (on tk en : Int) (bb : Nat) (w : World) (hr : RecAt w rb mb L) (hd : DocAt w base rd L) (ht : I64 tk) (he : I64 en) :
    Calls Try.prog 54 #[.agg #[.pointer (some ⟨rb, 0, none⟩), .pointer (some ⟨rd, 0, none⟩)], .agg #[.int .i64 5, .int .i64 on, .int .i64 tk, .int .i64 en, .int .u64 (bb : Int)]] w fun e w' => e = .returned (.bool true) ∧ Below w.heap.size w w' := by
  have hM0 := (hr.ok.ones true).few
  have hM1 := gapG_len (onesL L true) tk en
  have HDS := hid (fun V (hV : Below w.heap.size w V) => dgap2_any base rd L tk en w V (hd.later hV) hV ht he)
  have HRS := hid (fun V (hV : Below w.heap.size w V) => ygap2_any rb mb L tk en w V (hr.later hV) hV ht he)
  clear hr hd
  generalize gapG (onesL L true) tk en = M at *
  generalize spR tk en = z at *
  have hM : M.length ≤ 4097 := by omega
  clear hM0 hM1
  have HA0 : Hid (∀ V0, (w.alloc (.cells #[.pointer (some ⟨rb, 0, none⟩), .pointer (some ⟨rd, 0, none⟩)] 28)).alloc (.cells #[.int .i64 5, .int .i64 on, .int .i64 tk, .int .i64 en, .int .u64 (bb : Int)] 32) = V0 → FBox V0 w.heap.size 28 #[.pointer (some ⟨rb, 0, none⟩), .pointer (some ⟨rd, 0, none⟩)] ∧ FBox V0 (w.heap.size + 1) 32 #[.int .i64 5, .int .i64 on, .int .i64 tk, .int .i64 en, .int .u64 (bb : Int)] ∧ Below w.heap.size w V0) := by
    rintro V0 rfl
    have q1 := FBox.made w 28 #[.pointer (some ⟨rb, 0, none⟩), .pointer (some ⟨rd, 0, none⟩)]
    have q2 := FBox.made (w.alloc (.cells #[.pointer (some ⟨rb, 0, none⟩), .pointer (some ⟨rd, 0, none⟩)] 28)) 32 #[.int .i64 5, .int .i64 on, .int .i64 tk, .int .i64 en, .int .u64 (bb : Int)]
    rw [show (w.alloc (.cells #[.pointer (some ⟨rb, 0, none⟩), .pointer (some ⟨rd, 0, none⟩)] 28)).heap.size = w.heap.size + 1 by simp] at q2
    exact ⟨q1.later ((Below.refl _ _).alloc (Nat.le_refl _) _) q1.lt, q2, ((Below.refl _ _).alloc (Nat.le_refl _) _).alloc (by simp) _⟩
  go_enter Try.func54, Try.ntmps54
  go_wp2_with fail
  obtain ⟨V0, hV0⟩ : ∃ V0, (w.alloc (.cells #[.pointer (some ⟨rb, 0, none⟩), .pointer (some ⟨rd, 0, none⟩)] 28)).alloc (.cells #[.int .i64 5, .int .i64 on, .int .i64 tk, .int .i64 en, .int .u64 (bb : Int)] 32) = V0 := ⟨_, rfl⟩
  have HA := hid (HA0.out V0 hV0)
  rw [hV0]
  clear hV0 HA0
  have HF : Hid (∀ V, Below V0.heap.size V0 V → (V.cell? ⟨w.heap.size, 0, none⟩ = some (.pointer (some ⟨rb, 0, none⟩)) ∧ V.cell? ⟨w.heap.size, 1, none⟩ = some (.pointer (some ⟨rd, 0, none⟩))) ∧ V.cell? ⟨w.heap.size + 1, 2, none⟩ = some (.int .i64 tk) ∧ V.cell? ⟨w.heap.size + 1, 3, none⟩ = some (.int .i64 en)) := fun V hv => by
    have q := HA.out.1.later hv HA.out.1.lt
    have r := HA.out.2.1.later hv HA.out.2.1.lt
    exact ⟨⟨q.cell 0, q.cell 1⟩, r.cell 2, r.cell 3⟩
  refine Calls.mono (HRS.out V0 HA.out.2.2) ?_
  rintro e w1 ⟨a1, cap1, rfl, h1⟩
  obtain ⟨⟨c0, c1⟩, c2, c3⟩ := HF.out w1 h1.out.2.1
  go_wp2_with fail
  refine Calls.mono (HRS.out w1 h1.out.2.2) ?_
  rintro e w2 ⟨a2, cap2, rfl, h2⟩
  clear c0 c1 c2 c3
  obtain ⟨⟨c0, c1⟩, c2, c3⟩ := HF.out w2 (ybt' h1.out.2.1 h2.out.2.1)
  go_wp2_with fail
  refine Calls.mono (HDS.out w2 h2.out.2.2) ?_
  rintro e w3 ⟨a3, cap3, rfl, h3⟩
  clear c0 c1 c2 c3
  go_wp2_with fail
  have h13 : Below w1.heap.size w1 w3 := ybt h2.out.2.1 h3.out.2.1
  refine Calls.mono (ypairs a1 a3 cap1 cap3 M w3 (by omega) (h1.out.rd.later h13) h3.out.rd) ?_
  rintro e w4 ⟨rfl, hb4⟩
  go_wp2_with fail
  refine Calls.mono (ypairs a2 a3 cap2 cap3 M w4 (by omega) (h2.out.rd.later (ybt h3.out.2.1 hb4)) (h3.out.rd.later hb4)) ?_
  rintro e w5 ⟨rfl, hb5⟩
  go_wp2_with fail
  have h15 : Below w1.heap.size w1 w5 := ybt (ybt h13 hb4) hb5
  have H1 := hid (yowns_later h1.out.1 h15)
  have HN : Hid (0 < M.length → ∃ g, a1 = some ⟨g, 0, none⟩) := fun h0 => by
    rcases H1.out.2 with ⟨e, h⟩ | ⟨g, cc, cur, e, _⟩
    · injection e with e1 e2 e3; omega
    · injection e with e1; exact ⟨g, e1⟩
  have HFB : Hid (∀ g, a1 = some ⟨g, 0, none⟩ → ∃ cu, FBox w5 g 123 cu ∧ M.length * 2 ≤ cu.size) := fun g hg => by
    rcases H1.out.2 with ⟨e, h⟩ | ⟨g', cc, cur, e, k1, k2, k3, k4, k5, k6⟩
    · injection e with e1; rw [hg] at e1; cases e1
    · injection e with e1 e2 e3
      rw [hg] at e1
      injection e1 with e1
      injection e1 with e1
      subst e1
      exact ⟨cur, k2, by rw [k5]; omega⟩
  have HK : Hid (Below V0.heap.size V0 w5) := ybt' h1.out.2.1 h15
  go_loopw [15] (fun x wr => ∃ k : Nat, k ≤ M.length ∧ x = .int .i64 (k : Int) ∧ Hid (∀ g, a1 = some ⟨g, 0, none⟩ → ∃ cu, FBox wr g 123 cu ∧ M.length * 2 ≤ cu.size) ∧ Hid (w5.grownBy wr (Value.slice a1 M.length cap1).ownBlock)) (fun x _ => M.length - (intOf x).toNat)
  case atStart => exact ⟨0, Nat.zero_le _, rfl, HFB, World.grownBy.refl _ _⟩
  case round =>
    clear HFB
    obtain ⟨k, hk, rfl, HB, HG6⟩ := hrel
    by_cases hlt : k < M.length
    · obtain ⟨g, ha1⟩ := HN.out (by omega)
      obtain ⟨cu, hfb, hcs⟩ := HB.out g ha1
      have HFX := hid hfb
      have HE : Hid ((Value.slice a1 M.length cap1).ownBlock = some g) := by rw [ha1]; rfl
      have HA1 := hid ha1
      rw [HE.out] at HG6
      obtain ⟨x0, hx0⟩ : ∃ x, cu[k * 2]? = some x := ⟨_, Array.getElem?_eq_getElem (by omega)⟩
      obtain ⟨x1, hx1⟩ : ∃ x, cu[k * 2 + 1]? = some x := ⟨_, Array.getElem?_eq_getElem (by omega)⟩
      have c0 : wr.cell? ⟨g, k * 2, none⟩ = some x0 := by rw [HFX.out.cell, hx0]
      have q0 : wr.frozen? ⟨g, k * 2, none⟩ = false := HFX.out.free _
      have H1' := hid (HFX.out.set (k * 2) (.int .i64 (-7)))
      have c1 : (wr.setCell ⟨g, k * 2, none⟩ (.int .i64 (-7))).cell? ⟨g, k * 2 + 1, none⟩ = some x1 := by
        rw [H1'.out.cell, Array.getElem?_setIfInBounds, if_neg (by omega), hx1]
      have q1 : (wr.setCell ⟨g, k * 2, none⟩ (.int .i64 (-7))).frozen? ⟨g, k * 2 + 1, none⟩ = false := H1'.out.free _
      have H2' := hid (H1'.out.set (k * 2 + 1) (.int .i64 (-7)))
      have hk1 : (k : Int) < (M.length : Int) := by omega
      clear hx0 hx1 hfb HB
      rw [ha1]
      clear ha1
      go_wp2_with fail
      go_roundw
      case rel =>
        exact ⟨k + 1, by omega, by go_num, (fun g' e => by injection e with e; injection e with e; subst e; exact ⟨_, H2'.out, by simpa using hcs⟩), grownBy_put (grownBy_put HG6.out)⟩
      case measure => simp [intOf]; omega
    · obtain hkk : k = M.length := by omega
      subst hkk
      clear HB
      have hwV : w.heap.size < V0.heap.size := HA.out.1.lt
      have HLT : Hid (∀ g, (Value.slice a1 M.length cap1).ownBlock = some g → V0.heap.size ≤ g ∧ g < w1.heap.size) := fun g e => h1.out.1.lt g e
      have hs5 : V0.heap.size ≤ w5.heap.size := Nat.le_trans h1.out.2.1.size h15.size
      have HBr : Hid (Below V0.heap.size V0 wr) := (ybt' h1.out.2.1 h15).grown HG6.out hs5 (fun r e => (HLT.out r e).1)
      have HR2 : Hid (RdV wr a2 (gpC M)) := (h2.out.rd.later (ybt (ybt h3.out.2.1 hb4) hb5)).gby HG6.out (fun g e q => by
        have := (HLT.out g q).2
        have := (h2.out.lt g e).1
        omega)
      have HR3 : Hid (RdV wr a3 (gpC M)) := (h3.out.rd.later (ybt hb4 hb5)).gby HG6.out (fun g e q => by
        have := (HLT.out g q).2
        have := (h3.out.lt g e).1
        have := h2.out.2.1.size
        omega)
      have HWr : Hid (Below w.heap.size w wr) := ybt HA.out.2.2 HBr.out
      go_wp2_with fail
      refine Calls.mono (ypairs a2 a3 cap2 cap3 M wr (by omega) HR2.out HR3.out) ?_
      rintro e w8 ⟨rfl, hb8⟩
      go_wp2_with fail
      go_ret
      exact ⟨rfl, ybt HWr.out hb8⟩
end Go.Proofs.Ytblfemmhhijeeaa

/- package record: what is no record: each call, where made says no. -/
namespace Go.Proofs.Ytblfemmhhijeeaa
open Go.RowKit
set_option linter.unusedVariables false
set_option linter.unusedSimpArgs false

/-- A pointer that leads to no record, in this world and in all that follow. -/
def NoRec (p : Value) (V : World) : Prop := ∀ W, Below V.heap.size V W → Calls Try.prog 81 #[p] W fun e w' => e = .returned (.bool false) ∧ w' = W
theorem NoRec.later {p : Value} {V W : World} (h : NoRec p V) (hb : Below V.heap.size V W) : NoRec p W := fun X hx => h X (hb.trans (hx.mono hb.size))
end Go.Proofs.Ytblfemmhhijeeaa

/- Layer 19's own: a sample by its bits; All of what is no record. -/
namespace Go.Proofs.Ytblfemmhhijeeaa
open Go.RowKit
set_option linter.unusedVariables false
set_option linter.unusedSimpArgs false

set_option maxHeartbeats 1600000 in
set_option maxRecDepth 100000 in
theorem ysample (t : Int) (b : Nat) (w : World) : Calls Try.prog 41 #[.agg #[.int .i64 t, .int .u64 (b : Int)]] w fun e w' => e = .returned (.agg #[.int .i64 t, .float .f64 b]) ∧ Below w.heap.size w w' := by
  obtain ⟨X, hX⟩ : ∃ X, (w.alloc (.cells #[.int .i64 t, .int .u64 (b : Int)] 79)).alloc (.cells #[.int .i64 0, .float .f64 0] 46) = X := ⟨_, rfl⟩
  have HX : Hid (FBox X w.heap.size 79 #[.int .i64 t, .int .u64 (b : Int)] ∧ FBox X (w.heap.size + 1) 46 #[.int .i64 0, .float .f64 0] ∧ Below w.heap.size w X) := by
    rw [← hX]
    have q1 := FBox.made w 79 #[.int .i64 t, .int .u64 (b : Int)]
    have q2 := FBox.made (w.alloc (.cells #[.int .i64 t, .int .u64 (b : Int)] 79)) 46 #[.int .i64 0, .float .f64 0]
    rw [show (w.alloc (.cells #[.int .i64 t, .int .u64 (b : Int)] 79)).heap.size = w.heap.size + 1 by simp] at q2
    exact ⟨q1.later ((Below.refl _ _).alloc (Nat.le_refl _) _) q1.lt, q2, ((Below.refl _ _).alloc (Nat.le_refl _) _).alloc (by simp) _⟩
  have HF : ∀ V, (callFunc 57 #[.int .u64 (b : Int)]).run Try.prog V = .ok (.value (.float .f64 b)) V := from_run b
  have sF : ∀ (W : World) (p : Addr) (y : Nat) (md : Mode), (store p (.float .f64 y) md).run Try.prog W = stored Try.prog W p (.float .f64 y) md := fun W p y md => run_store Try.prog W p _ md rfl
  have c0 : X.cell? ⟨w.heap.size, 0, none⟩ = some (.int .i64 t) := HX.out.1.cell 0
  have c1 : X.cell? ⟨w.heap.size, 1, none⟩ = some (.int .u64 (b : Int)) := HX.out.1.cell 1
  have H1 := hid (HX.out.2.1.set 0 (.int .i64 t))
  have H2 := hid (H1.out.set 1 (.float .f64 b))
  have d0 : X.cell? ⟨w.heap.size + 1, 0, none⟩ = some (.int .i64 0) := HX.out.2.1.cell 0
  have g0 : X.frozen? ⟨w.heap.size + 1, 0, none⟩ = false := HX.out.2.1.free 0
  have d1 : (X.setCell ⟨w.heap.size + 1, 0, none⟩ (.int .i64 t)).cell? ⟨w.heap.size + 1, 1, none⟩ = some (.float .f64 0) := H1.out.cell 1
  have g1 : (X.setCell ⟨w.heap.size + 1, 0, none⟩ (.int .i64 t)).frozen? ⟨w.heap.size + 1, 1, none⟩ = false := H1.out.free 1
  go_enter Try.func41, Try.ntmps41
  go_upto_region 1 with fail
  clear hX
  go_region
  have e0 := H2.out.cell 0
  have e1 := H2.out.cell 1
  have HB := hid ((HX.out.2.2.setCell (p := ⟨w.heap.size + 1, 0, none⟩) (show w.heap.size ≤ w.heap.size + 1 by omega) (.int .i64 t)).setCell (p := ⟨w.heap.size + 1, 1, none⟩) (show w.heap.size ≤ w.heap.size + 1 by omega) (.float .f64 b))
  clear HF sF c0 c1 d0 g0 d1 g1 HX H1
  generalize (X.setCell ⟨w.heap.size + 1, 0, none⟩ (.int .i64 t)).setCell ⟨w.heap.size + 1, 1, none⟩ (.float .f64 b) = Y at *
  have e0' : Y.drew.cell? ⟨w.heap.size + 1, 0, none⟩ = some (.int .i64 t) := e0
  have e1' : Y.drew.cell? ⟨w.heap.size + 1, 1, none⟩ = some (.float .f64 b) := e1
  go_wp2_with fail
  refine bodyPost_ret (v := .agg #[.int .i64 t, .float .f64 b]) (by simp [results, Try.results41, go_sem, e0', e1']) rfl ?_
  exact ⟨rfl, HB.out.drew⟩
end Go.Proofs.Ytblfemmhhijeeaa

/- The law's act: Add, Take. -/
namespace Go.Proofs.Ytblfemmhhijeeaa
open Go.RowKit
set_option linter.unusedVariables false
set_option linter.unusedSimpArgs false

/-- But for two blocks, and new ones, the world is as it was. -/
structure But2 (m r : Nat) (w w' : World) : Prop where
  os : w'.os = w.os
  tape : w'.tape = w.tape
  output : w'.output = w.output
  size : w.heap.size ≤ w'.heap.size
  block : ∀ k, k < w.heap.size → k ≠ m → k ≠ r → w'.heap[k]? = w.heap[k]?
theorem But2.of_below {m r : Nat} {w w' : World} (h : Below w.heap.size w w') : But2 m r w w' := ⟨h.os, h.tape, h.output, h.size, fun k hk _ _ => h.block k hk⟩
theorem But2.of_but1 {m r : Nat} {w w' : World} (h : But m w w') : But2 m r w w' := ⟨h.os, h.tape, h.output, h.size, fun k hk h1 _ => h.block k hk (fun e => h1 (by injection e))⟩
theorem But2.of_but2 {m r : Nat} {w w' : World} (h : But r w w') : But2 m r w w' := ⟨h.os, h.tape, h.output, h.size, fun k hk _ h1 => h.block k hk (fun e => h1 (by injection e))⟩
theorem But2.trans {m r : Nat} {a b c : World} (h : But2 m r a b) (k : But2 m r b c) : But2 m r a c :=
  ⟨k.os.trans h.os, k.tape.trans h.tape, k.output.trans h.output, Nat.le_trans h.size k.size, fun i hi h1 h2 => (k.block i (Nat.lt_of_lt_of_le hi h.size) h1 h2).trans (h.block i hi h1 h2)⟩
theorem But2.below {m r B : Nat} {w w' : World} (h : But2 m r w w') (h1 : B ≤ m) (h2 : B ≤ r) (hs : B ≤ w.heap.size) : Below B w w' := ⟨h.os, h.tape, h.output, h.size, fun k hk => h.block k (by omega) (by omega) (by omega)⟩
theorem But2.drew {m r : Nat} {a w : World} (h : But2 m r a w) : But2 m r a w.drew := ⟨h.os, h.tape, h.output, h.size, h.block⟩
theorem But2.refl (m r : Nat) (w : World) : But2 m r w w := ⟨rfl, rfl, rfl, Nat.le_refl _, fun _ _ _ _ => rfl⟩
theorem FBox.but2 {m r : Nat} {w w' : World} {b t : Nat} {vs : Array Value} (h : FBox w b t vs) (hb : But2 m r w w') (h1 : b ≠ m) (h2 : b ≠ r) : FBox w' b t vs := (hb.block _ h.lt h1 h2).trans h
/-- A record and the document's, which hold one list. -/
structure PrAt (w : World) (rb mb rd : Nat) (L : List (Int × Nat)) : Prop where
  r : RecAt w rb mb L
  d : DocAt w 0 rd L
theorem PrAt.later {w w' : World} {rb mb rd : Nat} {L : List (Int × Nat)} (h : PrAt w rb mb rd L) (hb : Below w.heap.size w w') : PrAt w' rb mb rd L := ⟨h.r.later hb, h.d.later hb⟩
theorem fbox_ne {w : World} {b c t t' : Nat} {vs vs' : Array Value} (h : FBox w b t vs) (h' : FBox w c t' vs') (hv : vs ≠ vs') : b ≠ c := by
  rintro rfl
  have e := h.symm.trans h'
  injection e with e
  injection e with e1
  exact hv e1
theorem RecAt.nbox {w : World} {rb mb b t : Nat} {vs : Array Value} {L : List (Int × Nat)} (h : RecAt w rb mb L) (hb : FBox w b t vs) : b ≠ mb := by
  rintro rfl
  obtain ⟨es, clock, e, _⟩ := h.own
  have := hb.symm.trans e
  cases this
/-- What the document holds stays where other blocks are written. -/
theorem DocAt.but2 {m r base rd : Nat} {w w' : World} {L : List (Int × Nat)} (h : DocAt w base rd L) (hb : But2 m r w w') (h1 : rd ≠ m) (h2 : rd ≠ r) (q1 : ∀ cur, w.heap[m]? ≠ some (.cells cur 46 (0, 0))) (q2 : ∀ cur, w.heap[r]? ≠ some (.cells cur 46 (0, 0))) : DocAt w' base rd L := by
  obtain ⟨v, hx, ho⟩ := h.box
  refine ⟨⟨v, hx.but2 hb h1 h2, ho.1, ho.2.imp id ?_⟩, h.ok⟩
  rintro ⟨g, cap, cur, rfl, k1, k2, k⟩
  exact ⟨g, cap, cur, rfl, k1, (hb.block g (Array.getElem?_eq_some_iff.1 k2).1 (fun e => q1 cur (e ▸ k2)) (fun e => q2 cur (e ▸ k2))).trans k2, k⟩
theorem RecAt.nomap {w : World} {rb mb : Nat} {L : List (Int × Nat)} (h : RecAt w rb mb L) : ∀ cur t, w.heap[mb]? ≠ some (.cells cur t (0, 0)) := by
  intro cur t e
  obtain ⟨es, clock, e2, _⟩ := h.own
  have := e.symm.trans e2
  cases this
theorem DocAt.nosam {w : World} {base rd : Nat} {L : List (Int × Nat)} (h : DocAt w base rd L) : ∀ cur, w.heap[rd]? ≠ some (.cells cur 46 (0, 0)) := by
  intro cur e
  obtain ⟨v, hx, ho⟩ := h.box
  have e2 := e.symm.trans hx
  injection e2 with e2
  injection e2 with e3 e4 e5
  exact absurd e4 (by decide)
theorem PrAt.ne {w : World} {rb mb rd : Nat} {L : List (Int × Nat)} (h : PrAt w rb mb rd L) {rb' mb' rd' : Nat} {L' : List (Int × Nat)} (k : PrAt w rb' mb' rd' L') : rb ≠ mb' ∧ rb ≠ rd' ∧ mb ≠ rd' := by
  obtain ⟨v, hx, ho⟩ := k.d.box
  refine ⟨k.r.nbox h.r.box, fbox_ne h.r.box hx (fun e => ?_), fun e => h.r.nomap _ _ (e ▸ hx)⟩
  have := congrArg Array.size e
  simp at this
/-- Another pair stays as it is. -/
theorem PrAt.other {w w' : World} {rb mb rd rb' mb' rd' : Nat} {L L' : List (Int × Nat)} (h : PrAt w rb mb rd L) (k : PrAt w rb' mb' rd' L') (hb : But2 mb' rd' w w') (h1 : mb ≠ mb') (h2 : rd ≠ rd') : PrAt w' rb mb rd L := by
  have n1 := h.ne k
  have n2 := k.ne h
  exact ⟨h.r.kept (hb.block _ h.r.box.lt n1.1 n1.2.1) (hb.block _ h.r.own.lt h1 n1.2.2), h.d.but2 hb (fun e => n2.2.2 e.symm) h2 (fun cur => k.r.nomap cur _) k.d.nosam⟩
/-- What a call of a pair leaves: true, and one list in both. -/
def ActT (rb mb rd : Nat) (w : World) (e : Ending) (w' : World) : Prop := e = .returned (.bool true) ∧ ∃ L', Hid (PrAt w' rb mb rd L') ∧ Hid (But2 mb rd w w')
/-- The arguments of a call. -/
def actA (rb rd : Nat) (kd on tk en : Int) (bb : Nat) : Array Value := #[.agg #[.pointer (some ⟨rb, 0, none⟩), .pointer (some ⟨rd, 0, none⟩)], .agg #[.int .i64 kd, .int .i64 on, .int .i64 tk, .int .i64 en, .int .u64 (bb : Int)]]
/-- The two boxes of a call. -/
theorem actBox (w V0 : World) (rb rd : Nat) (kd on tk en : Int) (bb : Nat) (h : (w.alloc (.cells #[.pointer (some ⟨rb, 0, none⟩), .pointer (some ⟨rd, 0, none⟩)] 28)).alloc (.cells #[.int .i64 kd, .int .i64 on, .int .i64 tk, .int .i64 en, .int .u64 (bb : Int)] 32) = V0) : FBox V0 w.heap.size 28 #[.pointer (some ⟨rb, 0, none⟩), .pointer (some ⟨rd, 0, none⟩)] ∧ FBox V0 (w.heap.size + 1) 32 #[.int .i64 kd, .int .i64 on, .int .i64 tk, .int .i64 en, .int .u64 (bb : Int)] ∧ Below w.heap.size w V0 := by
  subst h
  have q1 := FBox.made w 28 #[.pointer (some ⟨rb, 0, none⟩), .pointer (some ⟨rd, 0, none⟩)]
  have q2 := FBox.made (w.alloc (.cells #[.pointer (some ⟨rb, 0, none⟩), .pointer (some ⟨rd, 0, none⟩)] 28)) 32 #[.int .i64 kd, .int .i64 on, .int .i64 tk, .int .i64 en, .int .u64 (bb : Int)]
  rw [show (w.alloc (.cells #[.pointer (some ⟨rb, 0, none⟩), .pointer (some ⟨rd, 0, none⟩)] 28)).heap.size = w.heap.size + 1 by simp] at q2
  exact ⟨q1.later ((Below.refl _ _).alloc (Nat.le_refl _) _) q1.lt, q2, ((Below.refl _ _).alloc (Nat.le_refl _) _).alloc (by simp) _⟩
theorem RecAt.nd {w : World} {rb mb base rd : Nat} {L L' : List (Int × Nat)} (h : RecAt w rb mb L) (k : DocAt w base rd L') : rb ≠ rd ∧ mb ≠ rd := by
  obtain ⟨v, hx, ho⟩ := k.box
  refine ⟨fbox_ne h.box hx (fun e => ?_), fun e => h.nomap _ _ (e ▸ hx)⟩
  have := congrArg Array.size e
  simp at this
set_option maxHeartbeats 12800000 in
set_option maxRecDepth 100000 in
theorem yact0 (rb mb rd : Nat) (L : List (Int × Nat)) (on tk en : Int) (bb : Nat) (w : World) (h : PrAt w rb mb rd L) (ht : I64 tk) (hb : bb < 18446744073709551616) :
    Calls Try.prog 11 (actA rb rd 0 on tk en bb) w (ActT rb mb rd w) := by
  unfold actA
  have HP := hid h
  have HL : Hid (mb < w.heap.size ∧ rd < w.heap.size) := by
    obtain ⟨v, hx, _⟩ := h.d.box
    exact ⟨h.r.own.lt, hx.lt⟩
  clear h
  go_enter Try.func11, Try.ntmps11
  go_wp2_with fail
  obtain ⟨V0, hV0⟩ : ∃ V0, (w.alloc (.cells #[.pointer (some ⟨rb, 0, none⟩), .pointer (some ⟨rd, 0, none⟩)] 28)).alloc (.cells #[.int .i64 0, .int .i64 on, .int .i64 tk, .int .i64 en, .int .u64 (bb : Int)] 32) = V0 := ⟨_, rfl⟩
  have HA := hid (actBox _ _ _ _ _ _ _ _ _ hV0)
  rw [hV0]
  clear hV0
  refine Calls.mono (ysample tk bb V0) ?_
  rintro e w1 ⟨rfl, hb1⟩
  have HB1 := hid hb1
  clear hb1
  have sF : ∀ (W : World) (p : Addr) (y : Nat) (md : Mode), (store p (.float .f64 y) md).run Try.prog W = stored Try.prog W p (.float .f64 y) md := fun W p y md => run_store Try.prog W p _ md rfl
  go_wp2_with fail
  clear sF
  obtain ⟨W1, hW1⟩ : ∃ W1, w1.alloc (.cells #[.int .i64 tk, .float .f64 bb] 46) = W1 := ⟨_, rfl⟩
  have HW1 : Hid (FBox W1 w1.heap.size 46 #[.int .i64 tk, .float .f64 bb] ∧ Below w1.heap.size w1 W1) := by
    rw [← hW1]
    exact ⟨FBox.made _ _ _, (Below.refl _ _).alloc (Nat.le_refl _) _⟩
  rw [hW1]
  clear hW1
  have HBW : Hid (Below w.heap.size w W1) := ybt HA.out.2.2 (ybt HB1.out HW1.out.2)
  have HA1 : Hid (FBox W1 w.heap.size 28 #[.pointer (some ⟨rb, 0, none⟩), .pointer (some ⟨rd, 0, none⟩)] ∧ w.heap.size < w1.heap.size) := ⟨HA.out.1.later (ybt HB1.out HW1.out.2) HA.out.1.lt, Nat.lt_of_lt_of_le HA.out.1.lt HB1.out.size⟩
  have HF : Hid (∀ V, But2 mb rd W1 V → V.cell? ⟨w.heap.size, 0, none⟩ = some (.pointer (some ⟨rb, 0, none⟩)) ∧ V.cell? ⟨w.heap.size, 1, none⟩ = some (.pointer (some ⟨rd, 0, none⟩)) ∧ V.cell? ⟨w1.heap.size, 0, none⟩ = some (.int .i64 tk) ∧ V.cell? ⟨w1.heap.size, 1, none⟩ = some (.float .f64 bb)) := fun V hv => by
    have q := HA1.out.1.but2 hv (by have := HL.out.1; omega) (by have := HL.out.2; omega)
    have r := HW1.out.1.but2 hv (by have := HL.out.1; have := HA1.out.2; omega) (by have := HL.out.2; have := HA1.out.2; omega)
    exact ⟨q.cell 0, q.cell 1, r.cell 0, r.cell 1⟩
  have hs0 := HF.out _ (But2.refl mb rd W1).drew
  have HR1 : Hid (∀ V, Below W1.heap.size W1 V → Calls Try.prog 42 #[.pointer (some ⟨rb, 0, none⟩), .agg #[.int .i64 tk, .float .f64 bb]] V fun e w' => e = .returned (.int .i64 (addR L tk bb).1) ∧ (w'.cell? ⟨w.heap.size, 0, none⟩ = some (.pointer (some ⟨rb, 0, none⟩)) ∧ w'.cell? ⟨w.heap.size, 1, none⟩ = some (.pointer (some ⟨rd, 0, none⟩)) ∧ w'.cell? ⟨w1.heap.size, 0, none⟩ = some (.int .i64 tk) ∧ w'.cell? ⟨w1.heap.size, 1, none⟩ = some (.float .f64 bb)) ∧ Hid (RecAt w' rb mb (addR L tk bb).2 ∧ DocAt w' 0 rd L ∧ But2 mb rd W1 w')) := fun V hV => by
    have hp := (HP.out.later HBW.out).later hV
    refine Calls.mono (yadd_any rb mb L tk bb V hp.r ht hb) ?_
    rintro e w' ⟨rfl, k1, k2⟩
    have k3 := (But2.of_below hV).trans (But2.of_but1 (r := rd) k2)
    exact ⟨rfl, HF.out _ k3, k1, hp.d.but2 (But2.of_but1 (r := mb) k2) (fun e => (hp.r.nd hp.d).2 e.symm) (fun e => (hp.r.nd hp.d).2 e.symm) (fun cur => hp.r.nomap cur _) (fun cur => hp.r.nomap cur _), k3⟩
  have HR2 : Hid (∀ V, Hid (RecAt V rb mb (addR L tk bb).2 ∧ DocAt V 0 rd L ∧ But2 mb rd W1 V) → Calls Try.prog 43 #[.pointer (some ⟨rd, 0, none⟩), .agg #[.int .i64 tk, .float .f64 bb]] V fun e w' => e = .returned (.int .i64 (addR L tk bb).1) ∧ (w'.cell? ⟨w.heap.size, 0, none⟩ = some (.pointer (some ⟨rb, 0, none⟩)) ∧ w'.cell? ⟨w.heap.size, 1, none⟩ = some (.pointer (some ⟨rd, 0, none⟩)) ∧ w'.cell? ⟨w1.heap.size, 0, none⟩ = some (.int .i64 tk) ∧ w'.cell? ⟨w1.heap.size, 1, none⟩ = some (.float .f64 bb)) ∧ Hid (PrAt w' rb mb rd (addR L tk bb).2 ∧ But2 mb rd W1 w')) := fun V hV => by
    obtain ⟨v1, v2, v3⟩ := hV.out
    refine Calls.mono (d19add_any 0 rd L tk bb V v2 (Nat.zero_le _) (Nat.zero_le _) ht hb) ?_
    rintro e w' ⟨rfl, k1, k2⟩
    have k3 := v3.trans (But2.of_but2 (m := mb) k2)
    have hn := v1.nd v2
    exact ⟨rfl, HF.out _ k3, ⟨v1.kept (k2.block _ v1.box.lt (fun e => hn.1 (by injection e))) (k2.block _ v1.own.lt (fun e => hn.2 (by injection e))), k1.out⟩, k3⟩
  generalize addR L tk bb = z at *
  obtain ⟨z, L'⟩ := z
  dsimp only at HR1 HR2
  have HB1 : Hid (Below W1.heap.size W1 W1) := Below.refl _ _
  go_region_held3 (fun V : World => V.cell? ⟨w.heap.size, 0, none⟩ = some (.pointer (some ⟨rb, 0, none⟩)) ∧ V.cell? ⟨w.heap.size, 1, none⟩ = some (.pointer (some ⟨rd, 0, none⟩)) ∧ V.cell? ⟨w1.heap.size, 0, none⟩ = some (.int .i64 tk) ∧ V.cell? ⟨w1.heap.size, 1, none⟩ = some (.float .f64 bb)) (first | exact hs2 | exact hs1 | exact hs0)
    (first
      | (go_at_call 43; with_reducible refine Calls.mono (HR2.out _ hp1) ?_; rintro e w3 ⟨rfl, hs2, hp2⟩)
      | (go_at_call 42; with_reducible refine Calls.mono (HR1.out _ HB1.out.drew) ?_; rintro e w2 ⟨rfl, hs1, hp1⟩))
  go_wp2_with fail
  go_ret
  exact ⟨rfl, L', hp2.out.1, (But2.of_below HBW.out).trans hp2.out.2⟩
set_option maxHeartbeats 12800000 in
set_option maxRecDepth 100000 in
theorem yact1 (rb mb rd : Nat) (L : List (Int × Nat)) (on tk en : Int) (bb : Nat) (w : World) (h : PrAt w rb mb rd L) (ht : I64 tk) :
    Calls Try.prog 11 (actA rb rd 1 on tk en bb) w (ActT rb mb rd w) := by
  unfold actA
  have HP := hid h
  have HL : Hid (mb < w.heap.size ∧ rd < w.heap.size) := by
    obtain ⟨v, hx, _⟩ := h.d.box
    exact ⟨h.r.own.lt, hx.lt⟩
  clear h
  go_enter Try.func11, Try.ntmps11
  go_wp2_with fail
  obtain ⟨V0, hV0⟩ : ∃ V0, (w.alloc (.cells #[.pointer (some ⟨rb, 0, none⟩), .pointer (some ⟨rd, 0, none⟩)] 28)).alloc (.cells #[.int .i64 1, .int .i64 on, .int .i64 tk, .int .i64 en, .int .u64 (bb : Int)] 32) = V0 := ⟨_, rfl⟩
  have HA := hid (actBox _ _ _ _ _ _ _ _ _ hV0)
  rw [hV0]
  clear hV0
  have HBW : Hid (Below w.heap.size w V0) := HA.out.2.2
  have HA1 := HA
  have HF : Hid (∀ V, But2 mb rd V0 V → V.cell? ⟨w.heap.size, 0, none⟩ = some (.pointer (some ⟨rb, 0, none⟩)) ∧ V.cell? ⟨w.heap.size, 1, none⟩ = some (.pointer (some ⟨rd, 0, none⟩)) ∧ V.cell? ⟨w.heap.size + 1, 2, none⟩ = some (.int .i64 tk)) := fun V hv => by
    have q := HA1.out.1.but2 hv (by have := HL.out.1; omega) (by have := HL.out.2; omega)
    have r := HA1.out.2.1.but2 hv (by have := HL.out.1; omega) (by have := HL.out.2; omega)
    exact ⟨q.cell 0, q.cell 1, r.cell 2⟩
  have hs0 := HF.out _ (But2.refl mb rd V0).drew
  have HR1 : Hid (∀ V, Below V0.heap.size V0 V → Calls Try.prog 44 #[.pointer (some ⟨rb, 0, none⟩), .int .i64 tk] V fun e w' => e = .returned (.int .i64 (takeR L tk).1) ∧ (w'.cell? ⟨w.heap.size, 0, none⟩ = some (.pointer (some ⟨rb, 0, none⟩)) ∧ w'.cell? ⟨w.heap.size, 1, none⟩ = some (.pointer (some ⟨rd, 0, none⟩)) ∧ w'.cell? ⟨w.heap.size + 1, 2, none⟩ = some (.int .i64 tk)) ∧ Hid (RecAt w' rb mb (takeR L tk).2 ∧ DocAt w' 0 rd L ∧ But2 mb rd V0 w')) := fun V hV => by
    have hp := (HP.out.later HBW.out).later hV
    refine Calls.mono (ytake_any rb mb L tk V hp.r ht) ?_
    rintro e w' ⟨rfl, k1, k2⟩
    have k3 := (But2.of_below hV).trans (But2.of_but1 (r := rd) k2)
    exact ⟨rfl, HF.out _ k3, k1, hp.d.but2 (But2.of_but1 (r := mb) k2) (fun e => (hp.r.nd hp.d).2 e.symm) (fun e => (hp.r.nd hp.d).2 e.symm) (fun cur => hp.r.nomap cur _) (fun cur => hp.r.nomap cur _), k3⟩
  have HR2 : Hid (∀ V, Hid (RecAt V rb mb (takeR L tk).2 ∧ DocAt V 0 rd L ∧ But2 mb rd V0 V) → Calls Try.prog 45 #[.pointer (some ⟨rd, 0, none⟩), .int .i64 tk] V fun e w' => e = .returned (.int .i64 (takeR L tk).1) ∧ (w'.cell? ⟨w.heap.size, 0, none⟩ = some (.pointer (some ⟨rb, 0, none⟩)) ∧ w'.cell? ⟨w.heap.size, 1, none⟩ = some (.pointer (some ⟨rd, 0, none⟩)) ∧ w'.cell? ⟨w.heap.size + 1, 2, none⟩ = some (.int .i64 tk)) ∧ Hid (PrAt w' rb mb rd (takeR L tk).2 ∧ But2 mb rd V0 w')) := fun V hV => by
    obtain ⟨v1, v2, v3⟩ := hV.out
    refine Calls.mono (d19take_any 0 rd L tk V v2 (Nat.zero_le _) (Nat.zero_le _) ht) ?_
    rintro e w' ⟨rfl, k1, k2⟩
    have k3 := v3.trans (But2.of_but2 (m := mb) k2)
    have hn := v1.nd v2
    exact ⟨rfl, HF.out _ k3, ⟨v1.kept (k2.block _ v1.box.lt (fun e => hn.1 (by injection e))) (k2.block _ v1.own.lt (fun e => hn.2 (by injection e))), k1.out⟩, k3⟩
  generalize takeR L tk = z at *
  obtain ⟨z, L'⟩ := z
  dsimp only at HR1 HR2
  have HB1 : Hid (Below V0.heap.size V0 V0) := Below.refl _ _
  go_region_held3 (fun V : World => V.cell? ⟨w.heap.size, 0, none⟩ = some (.pointer (some ⟨rb, 0, none⟩)) ∧ V.cell? ⟨w.heap.size, 1, none⟩ = some (.pointer (some ⟨rd, 0, none⟩)) ∧ V.cell? ⟨w.heap.size + 1, 2, none⟩ = some (.int .i64 tk)) (first | exact hs2 | exact hs1 | exact hs0)
    (first
      | (go_at_call 45; with_reducible refine Calls.mono (HR2.out _ hp1) ?_; rintro e w3 ⟨rfl, hs2, hp2⟩)
      | (go_at_call 44; with_reducible refine Calls.mono (HR1.out _ HB1.out.drew) ?_; rintro e w2 ⟨rfl, hs1, hp1⟩))
  go_wp2_with fail
  go_ret
  exact ⟨rfl, L', hp2.out.1, (But2.of_below HBW.out).trans hp2.out.2⟩
end Go.Proofs.Ytblfemmhhijeeaa

/- The law's act: what writes nothing but Lost. -/
namespace Go.Proofs.Ytblfemmhhijeeaa
open Go.RowKit
set_option linter.unusedVariables false
set_option linter.unusedSimpArgs false

theorem ActT.of {rb mb rd : Nat} {L : List (Int × Nat)} {w w' : World} {e : Ending} (h : PrAt w rb mb rd L) (he : e = .returned (.bool true)) (hb : Below w.heap.size w w') : ActT rb mb rd w e w' := ⟨he, L, h.later hb, But2.of_below hb⟩
set_option maxHeartbeats 12800000 in
set_option maxRecDepth 100000 in
theorem yact3 (rb mb rd : Nat) (L : List (Int × Nat)) (on tk en : Int) (bb : Nat) (w : World) (h : PrAt w rb mb rd L)  :
    Calls Try.prog 11 (actA rb rd 3 on tk en bb) w (ActT rb mb rd w) := by
  unfold actA
  have HP := hid h
  clear h
  go_enter Try.func11, Try.ntmps11
  go_wp2_with fail
  obtain ⟨V0, hV0⟩ : ∃ V0, (w.alloc (.cells #[.pointer (some ⟨rb, 0, none⟩), .pointer (some ⟨rd, 0, none⟩)] 28)).alloc (.cells #[.int .i64 3, .int .i64 on, .int .i64 tk, .int .i64 en, .int .u64 (bb : Int)] 32) = V0 := ⟨_, rfl⟩
  have HA := hid (actBox _ _ _ _ _ _ _ _ _ hV0)
  rw [hV0]
  clear hV0
  have HF : Hid (∀ V, Below V0.heap.size V0 V → (V.cell? ⟨w.heap.size, 0, none⟩ = some (.pointer (some ⟨rb, 0, none⟩)) ∧ V.cell? ⟨w.heap.size, 1, none⟩ = some (.pointer (some ⟨rd, 0, none⟩))) ∧ V.cell? ⟨w.heap.size + 1, 2, none⟩ = some (.int .i64 tk) ∧ V.cell? ⟨w.heap.size + 1, 3, none⟩ = some (.int .i64 en)) := fun V hv => by
    have q := HA.out.1.later hv HA.out.1.lt
    have r := HA.out.2.1.later hv HA.out.2.1.lt
    exact ⟨⟨q.cell 0, q.cell 1⟩, r.cell 2, r.cell 3⟩
  refine Calls.mono (ylists3 rb mb 0 rd L on tk en bb V0 (HP.out.later HA.out.2.2).r (HP.out.later HA.out.2.2).d) ?_
  rintro e w1 ⟨rfl, hb1⟩
  go_wp2_with fail
  go_ret
  exact ActT.of HP.out rfl (ybt HA.out.2.2 hb1)
set_option maxHeartbeats 12800000 in
set_option maxRecDepth 100000 in
theorem yact5 (rb mb rd : Nat) (L : List (Int × Nat)) (on tk en : Int) (bb : Nat) (w : World) (h : PrAt w rb mb rd L) (ht : I64 tk) (he : I64 en) :
    Calls Try.prog 11 (actA rb rd 5 on tk en bb) w (ActT rb mb rd w) := by
  unfold actA
  have HP := hid h
  clear h
  go_enter Try.func11, Try.ntmps11
  go_wp2_with fail
  obtain ⟨V0, hV0⟩ : ∃ V0, (w.alloc (.cells #[.pointer (some ⟨rb, 0, none⟩), .pointer (some ⟨rd, 0, none⟩)] 28)).alloc (.cells #[.int .i64 5, .int .i64 on, .int .i64 tk, .int .i64 en, .int .u64 (bb : Int)] 32) = V0 := ⟨_, rfl⟩
  have HA := hid (actBox _ _ _ _ _ _ _ _ _ hV0)
  rw [hV0]
  clear hV0
  have HF : Hid (∀ V, Below V0.heap.size V0 V → (V.cell? ⟨w.heap.size, 0, none⟩ = some (.pointer (some ⟨rb, 0, none⟩)) ∧ V.cell? ⟨w.heap.size, 1, none⟩ = some (.pointer (some ⟨rd, 0, none⟩))) ∧ V.cell? ⟨w.heap.size + 1, 2, none⟩ = some (.int .i64 tk) ∧ V.cell? ⟨w.heap.size + 1, 3, none⟩ = some (.int .i64 en)) := fun V hv => by
    have q := HA.out.1.later hv HA.out.1.lt
    have r := HA.out.2.1.later hv HA.out.2.1.lt
    exact ⟨⟨q.cell 0, q.cell 1⟩, r.cell 2, r.cell 3⟩
  refine Calls.mono (ylists5 rb mb 0 rd L on tk en bb V0 (HP.out.later HA.out.2.2).r (HP.out.later HA.out.2.2).d ht he) ?_
  rintro e w1 ⟨rfl, hb1⟩
  go_wp2_with fail
  go_ret
  exact ActT.of HP.out rfl (ybt HA.out.2.2 hb1)
set_option maxHeartbeats 12800000 in
set_option maxRecDepth 100000 in
theorem yact6 (rb mb rd : Nat) (L : List (Int × Nat)) (on tk en : Int) (bb : Nat) (w : World) (h : PrAt w rb mb rd L) (ht : I64 tk) (he : I64 en) :
    Calls Try.prog 11 (actA rb rd 6 on tk en bb) w (ActT rb mb rd w) := by
  unfold actA
  have HP := hid h
  clear h
  go_enter Try.func11, Try.ntmps11
  go_wp2_with fail
  obtain ⟨V0, hV0⟩ : ∃ V0, (w.alloc (.cells #[.pointer (some ⟨rb, 0, none⟩), .pointer (some ⟨rd, 0, none⟩)] 28)).alloc (.cells #[.int .i64 6, .int .i64 on, .int .i64 tk, .int .i64 en, .int .u64 (bb : Int)] 32) = V0 := ⟨_, rfl⟩
  have HA := hid (actBox _ _ _ _ _ _ _ _ _ hV0)
  rw [hV0]
  clear hV0
  have HF : Hid (∀ V, Below V0.heap.size V0 V → (V.cell? ⟨w.heap.size, 0, none⟩ = some (.pointer (some ⟨rb, 0, none⟩)) ∧ V.cell? ⟨w.heap.size, 1, none⟩ = some (.pointer (some ⟨rd, 0, none⟩))) ∧ V.cell? ⟨w.heap.size + 1, 2, none⟩ = some (.int .i64 tk) ∧ V.cell? ⟨w.heap.size + 1, 3, none⟩ = some (.int .i64 en)) := fun V hv => by
    have q := HA.out.1.later hv HA.out.1.lt
    have r := HA.out.2.1.later hv HA.out.2.1.lt
    exact ⟨⟨q.cell 0, q.cell 1⟩, r.cell 2, r.cell 3⟩
  refine Calls.mono (ylists6 rb mb 0 rd L on tk en bb V0 (HP.out.later HA.out.2.2).r (HP.out.later HA.out.2.2).d ht he) ?_
  rintro e w1 ⟨rfl, hb1⟩
  go_wp2_with fail
  go_ret
  exact ActT.of HP.out rfl (ybt HA.out.2.2 hb1)
set_option maxHeartbeats 12800000 in
set_option maxRecDepth 100000 in
theorem yact7 (rb mb rd : Nat) (L : List (Int × Nat)) (on tk en : Int) (bb : Nat) (w : World) (h : PrAt w rb mb rd L) (he : I64 en) :
    Calls Try.prog 11 (actA rb rd 7 on tk en bb) w (ActT rb mb rd w) := by
  unfold actA
  have HP := hid h
  clear h
  go_enter Try.func11, Try.ntmps11
  go_wp2_with fail
  obtain ⟨V0, hV0⟩ : ∃ V0, (w.alloc (.cells #[.pointer (some ⟨rb, 0, none⟩), .pointer (some ⟨rd, 0, none⟩)] 28)).alloc (.cells #[.int .i64 7, .int .i64 on, .int .i64 tk, .int .i64 en, .int .u64 (bb : Int)] 32) = V0 := ⟨_, rfl⟩
  have HA := hid (actBox _ _ _ _ _ _ _ _ _ hV0)
  rw [hV0]
  clear hV0
  have HF : Hid (∀ V, Below V0.heap.size V0 V → (V.cell? ⟨w.heap.size, 0, none⟩ = some (.pointer (some ⟨rb, 0, none⟩)) ∧ V.cell? ⟨w.heap.size, 1, none⟩ = some (.pointer (some ⟨rd, 0, none⟩))) ∧ V.cell? ⟨w.heap.size + 1, 2, none⟩ = some (.int .i64 tk) ∧ V.cell? ⟨w.heap.size + 1, 3, none⟩ = some (.int .i64 en)) := fun V hv => by
    have q := HA.out.1.later hv HA.out.1.lt
    have r := HA.out.2.1.later hv HA.out.2.1.lt
    exact ⟨⟨q.cell 0, q.cell 1⟩, r.cell 2, r.cell 3⟩
  refine Calls.mono (ygone_any rb mb 0 rd L en V0 (HP.out.later HA.out.2.2).r (HP.out.later HA.out.2.2).d he) ?_
  rintro e w1 ⟨rfl, hb1⟩
  obtain ⟨⟨c0, c1⟩, c2, c3⟩ := HF.out w1 hb1
  go_wp2_with fail
  clear c0 c1 c2 c3
  have h1 := (HP.out.later HA.out.2.2).later hb1
  refine Calls.mono (ygone_any rb mb 0 rd L 0 w1 h1.r h1.d (by constructor <;> omega)) ?_
  rintro e w2 ⟨rfl, hb2⟩
  go_wp2_with fail
  go_ret
  exact ActT.of HP.out rfl (ybt HA.out.2.2 (ybt hb1 hb2))
set_option maxHeartbeats 12800000 in
set_option maxRecDepth 100000 in
theorem yact4 (rb mb rd : Nat) (L : List (Int × Nat)) (on tk en : Int) (bb : Nat) (w : World) (h : PrAt w rb mb rd L) (ht : I64 tk) :
    Calls Try.prog 11 (actA rb rd 4 on tk en bb) w (ActT rb mb rd w) := by
  unfold actA
  have HP := hid h
  clear h
  go_enter Try.func11, Try.ntmps11
  go_wp2_with fail
  obtain ⟨V0, hV0⟩ : ∃ V0, (w.alloc (.cells #[.pointer (some ⟨rb, 0, none⟩), .pointer (some ⟨rd, 0, none⟩)] 28)).alloc (.cells #[.int .i64 4, .int .i64 on, .int .i64 tk, .int .i64 en, .int .u64 (bb : Int)] 32) = V0 := ⟨_, rfl⟩
  have HA := hid (actBox _ _ _ _ _ _ _ _ _ hV0)
  rw [hV0]
  clear hV0
  have HF : Hid (∀ V, Below V0.heap.size V0 V → (V.cell? ⟨w.heap.size, 0, none⟩ = some (.pointer (some ⟨rb, 0, none⟩)) ∧ V.cell? ⟨w.heap.size, 1, none⟩ = some (.pointer (some ⟨rd, 0, none⟩))) ∧ V.cell? ⟨w.heap.size + 1, 2, none⟩ = some (.int .i64 tk) ∧ V.cell? ⟨w.heap.size + 1, 3, none⟩ = some (.int .i64 en)) := fun V hv => by
    have q := HA.out.1.later hv HA.out.1.lt
    have r := HA.out.2.1.later hv HA.out.2.1.lt
    exact ⟨⟨q.cell 0, q.cell 1⟩, r.cell 2, r.cell 3⟩
  have h1 := HP.out.later HA.out.2.2
  refine Calls.mono (yat_any rb mb L tk V0 h1.r ht) ?_
  rintro e w1 ⟨rfl, rfl⟩
  obtain ⟨⟨c0, c1⟩, c2, c3⟩ := HF.out w1 (Below.refl _ _)
  go_wp2_with fail
  clear c0 c1 c2 c3
  refine Calls.mono (d19at_any 0 rd L tk w1 h1.d ht) ?_
  rintro e w2 ⟨rfl, hb2⟩
  generalize yatR L tk = z at *
  obtain ⟨zx, zk⟩ := z
  go_wp2_with fail
  refine Calls.mono (sameBits_eq zx w2) ?_
  rintro e w3 ⟨rfl, rfl⟩
  go_wp2_with fail
  go_ret
  exact ActT.of HP.out rfl (ybt HA.out.2.2 hb2)
end Go.Proofs.Ytblfemmhhijeeaa

/- The law's act: Lost and Len. -/
namespace Go.Proofs.Ytblfemmhhijeeaa
open Go.RowKit
set_option linter.unusedVariables false
set_option linter.unusedSimpArgs false

/-- What a call that makes a list of numbers leaves: the list, its own; what lay there. -/
def LiS (w V W : World) (a : Option Addr) (cap : Nat) (M : List Int) : Prop := W.ownsRow V.heap.size 3 1 (.slice a M.length cap) M.length (M.map (Value.int .i64)) ∧ Below V.heap.size V W ∧ Below w.heap.size w W
theorem LiS.rd {w V W : World} {a : Option Addr} {cap : Nat} {M : List Int} (h : LiS w V W a cap M) : RdV W a (M.map (Value.int .i64)) := by
  obtain ⟨a', cap', e, q⟩ := yshape h.1
  injection e with e1 e2 e3
  subst e1
  exact q
theorem LiS.lt {w V W : World} {a : Option Addr} {cap : Nat} {M : List Int} (h : LiS w V W a cap M) (g : Nat) (e : a = some ⟨g, 0, none⟩) : V.heap.size ≤ g ∧ g < W.heap.size := by
  subst e
  exact h.1.lt g rfl
theorem LiS.nil {w V W : World} {a : Option Addr} {cap : Nat} {M : List Int} (h : LiS w V W a cap M) (e : a = none) : cap = 0 ∧ M.length = 0 := by
  rcases h.1.2 with ⟨e1, h0⟩ | ⟨g, cap', cur, e1, _⟩
  · injection e1 with _ _ e3
    exact ⟨e3, h0⟩
  · injection e1 with e1
    rw [e] at e1
    cases e1
/-- A list of one's own may be written over. -/
theorem LiS.spare {w V W X : World} {a : Option Addr} {cap : Nat} {M : List Int} (h : LiS w V W a cap M) (hb : Below W.heap.size W X) (base : Nat) (hbs : base ≤ V.heap.size) (o : Option Addr) (go : Nat) (h1 : ∀ b, o = some ⟨b, 0, none⟩ → ∀ g, a = some ⟨g, 0, none⟩ → b ≠ g) (h2 : ∀ g, a = some ⟨g, 0, none⟩ → go ≠ g) :
    ((Value.slice a M.length cap) = .slice none 0 0 ∧ M.length = 0) ∨ ∃ g cap' cur, YSpare X base M.length (.slice a M.length cap) g cap' cur ∧ (∀ b, o = some ⟨b, 0, none⟩ → b ≠ g) ∧ go ≠ g := by
  rcases h.1.2 with ⟨e, h0⟩ | ⟨g, cap', cur, e, k1, k2, k3, k4, k5, k6⟩
  · exact .inl ⟨e, h0⟩
  · injection e with e1 e2 e3
    subst e1 e3
    refine .inr ⟨g, cap, cur, ⟨rfl, by omega, (FBox.later (show FBox W g 3 cur from k2) hb (FBox.lt (show FBox W g 3 cur from k2))), k3, by omega, fun j hj => ?_⟩, fun b e => h1 b e g rfl, h2 g rfl⟩
    have q : (cur.toList.take (M.length * 1))[j]? = (M.map (Value.int .i64))[j]? := by rw [k6]
    rw [List.getElem?_take, if_pos (by omega), List.getElem?_map, List.getElem?_eq_getElem (show j < M.length from hj)] at q
    exact ⟨M[j], by simpa using q⟩
set_option maxHeartbeats 12800000 in
set_option maxRecDepth 100000 in
theorem yact2 (rb mb rd : Nat) (L : List (Int × Nat)) (on tk en : Int) (bb : Nat) (w : World) (h : PrAt w rb mb rd L)  :
    Calls Try.prog 11 (actA rb rd 2 on tk en bb) w (ActT rb mb rd w) := by
  unfold actA
  have HP := hid h
  clear h
  have HDS : Hid (∀ V, Below w.heap.size w V → Calls Try.prog 47 #[.pointer (some ⟨rd, 0, none⟩)] V fun e w' => ∃ a cap, e = .returned (.slice a ((onesL L false).map (·.1)).length cap) ∧ Hid (LiS w V w' a cap ((onesL L false).map (·.1)))) := fun V hV => by
    refine Calls.mono (d19lost_any 0 rd L V (HP.out.later hV).d) ?_
    rintro e w' ⟨v, rfl, ho, hb⟩
    have ho2 := ho.out
    rw [show (onesL L false).length = ((onesL L false).map (·.1)).length by simp] at ho2
    obtain ⟨a, cap, rfl, _⟩ := yshape ho2
    exact ⟨a, cap, rfl, ho2, hb, ybt hV hb⟩
  have HRS : Hid (∀ V, Below w.heap.size w V → Calls Try.prog 46 #[.pointer (some ⟨rb, 0, none⟩)] V fun e w' => ∃ a cap, e = .returned (.slice a ((onesL L false).map (·.1)).length cap) ∧ Hid (LiS w V w' a cap ((onesL L false).map (·.1)))) := fun V hV => by
    refine Calls.mono (ylost_any rb mb L V (HP.out.later hV).r) ?_
    rintro e w' ⟨v, rfl, ho, hb⟩
    have ho2 := ho.out
    rw [show (onesL L false).length = ((onesL L false).map (·.1)).length by simp] at ho2
    obtain ⟨a, cap, rfl, _⟩ := yshape ho2
    exact ⟨a, cap, rfl, ho2, hb, ybt hV hb⟩
  have hM : ((onesL L false).map (·.1)).length ≤ 4096 := by
    rw [List.length_map]
    exact (HP.out.r.ok.ones false).few
  have HLR := hid (fun V (hV : Below w.heap.size w V) => ylen_any rb mb L V (HP.out.later hV).r)
  have HLD := hid (fun V (hV : Below w.heap.size w V) => d19len_any 0 rd L V (HP.out.later hV).d)
  generalize (onesL L false).map (·.1) = M at *
  have hfew := (HP.out.r.ok.ones true).few
  generalize ((onesL L true).length : Int) = nn at *
  go_enter Try.func11, Try.ntmps11
  go_wp2_with fail
  obtain ⟨V0, hV0⟩ : ∃ V0, (w.alloc (.cells #[.pointer (some ⟨rb, 0, none⟩), .pointer (some ⟨rd, 0, none⟩)] 28)).alloc (.cells #[.int .i64 2, .int .i64 on, .int .i64 tk, .int .i64 en, .int .u64 (bb : Int)] 32) = V0 := ⟨_, rfl⟩
  have HA := hid (actBox _ _ _ _ _ _ _ _ _ hV0)
  rw [hV0]
  clear hV0
  have HF : Hid (∀ V, Below V0.heap.size V0 V → (V.cell? ⟨w.heap.size, 0, none⟩ = some (.pointer (some ⟨rb, 0, none⟩)) ∧ V.cell? ⟨w.heap.size, 1, none⟩ = some (.pointer (some ⟨rd, 0, none⟩))) ∧ V.cell? ⟨w.heap.size + 1, 2, none⟩ = some (.int .i64 tk) ∧ V.cell? ⟨w.heap.size + 1, 3, none⟩ = some (.int .i64 en)) := fun V hv => by
    have q := HA.out.1.later hv HA.out.1.lt
    have r := HA.out.2.1.later hv HA.out.2.1.lt
    exact ⟨⟨q.cell 0, q.cell 1⟩, r.cell 2, r.cell 3⟩
  have HF2 : Hid (∀ V, Below V0.heap.size V0 V → V.cell? ⟨w.heap.size, 0, none⟩ = some (.pointer (some ⟨rb, 0, none⟩)) ∧ V.cell? ⟨w.heap.size, 1, none⟩ = some (.pointer (some ⟨rd, 0, none⟩))) := fun V hv => (HF.out V hv).1
  have hs0 := HF2.out _ (Below.refl _ V0).drew
  have hb0 := (Below.refl V0.heap.size V0).drew
  have HR1 : Hid (∀ V, Below V0.heap.size V0 V → Calls Try.prog 46 #[.pointer (some ⟨rb, 0, none⟩)] V fun e w' => ∃ a cap, e = .returned (.slice a M.length cap) ∧ (w'.cell? ⟨w.heap.size, 0, none⟩ = some (.pointer (some ⟨rb, 0, none⟩)) ∧ w'.cell? ⟨w.heap.size, 1, none⟩ = some (.pointer (some ⟨rd, 0, none⟩))) ∧ Hid (LiS w V w' a cap M) ∧ Below V0.heap.size V0 w') := fun V hV => by
    refine Calls.mono (HRS.out V (ybt HA.out.2.2 hV)) ?_
    rintro e w' ⟨a, cap, rfl, h⟩
    exact ⟨a, cap, rfl, HF2.out _ (ybt' hV h.out.2.1), h, ybt' hV h.out.2.1⟩
  go_region_held3 (fun V : World => V.cell? ⟨w.heap.size, 0, none⟩ = some (.pointer (some ⟨rb, 0, none⟩)) ∧ V.cell? ⟨w.heap.size, 1, none⟩ = some (.pointer (some ⟨rd, 0, none⟩))) (first | exact hs2 | exact hs1 | exact hs0)
    (first
      | (go_at_call 46; with_reducible refine Calls.mono (HR1.out _ hb1) ?_; rintro e w2 ⟨a2, cap2, rfl, hs2, ho2, hb2⟩)
      | (go_at_call 46; with_reducible refine Calls.mono (HR1.out _ hb0) ?_; rintro e w1 ⟨a1, cap1, rfl, hs1, ho1, hb1⟩))
  have HB1 := hid hb1
  have HB2 := hid hb2
  obtain ⟨c0, c1⟩ := hs2
  clear hs0 hs1 hb0 hb1 hb2 HR1
  go_wp2_with fail
  clear c0 c1
  have HF3 : Hid (∀ V, Below w2.heap.size w2 V → (V.cell? ⟨w.heap.size, 0, none⟩ = some (.pointer (some ⟨rb, 0, none⟩)) ∧ V.cell? ⟨w.heap.size, 1, none⟩ = some (.pointer (some ⟨rd, 0, none⟩)))) := fun V hv => HF2.out V (ybt' HB2.out hv)
  have hs0 := HF3.out _ (Below.refl _ w2).drew
  have hb0 := (Below.refl w2.heap.size w2).drew
  have HWW : Hid (∀ V, Below w2.heap.size w2 V → Below w.heap.size w V) := fun V hV => ybt ho2.out.2.2 hV
  have HA9 : Hid (∀ V, Below w2.heap.size w2 V → Calls Try.prog 47 #[.pointer (some ⟨rd, 0, none⟩)] V fun e w' => ∃ a cap, e = .returned (.slice a M.length cap) ∧ (w'.cell? ⟨w.heap.size, 0, none⟩ = some (.pointer (some ⟨rb, 0, none⟩)) ∧ w'.cell? ⟨w.heap.size, 1, none⟩ = some (.pointer (some ⟨rd, 0, none⟩))) ∧ Hid (LiS w V w' a cap M) ∧ Below w2.heap.size w2 w') := fun V hV => by
    refine Calls.mono (HDS.out V (HWW.out V hV)) ?_
    rintro e w' ⟨a, cap, rfl, h⟩
    exact ⟨a, cap, rfl, HF3.out _ (ybt' hV h.out.2.1), h, ybt' hV h.out.2.1⟩
  have HSI : Hid (∀ (a b : Option Addr) (ca cb : Nat) (V : World), RdV V a (M.map (Value.int .i64)) → RdV V b (M.map (Value.int .i64)) → Below w2.heap.size w2 V → Calls Try.prog 20 #[.slice a M.length ca, .slice b M.length cb] V fun e w' => e = .returned (.bool true) ∧ (w'.cell? ⟨w.heap.size, 0, none⟩ = some (.pointer (some ⟨rb, 0, none⟩)) ∧ w'.cell? ⟨w.heap.size, 1, none⟩ = some (.pointer (some ⟨rd, 0, none⟩))) ∧ Below w2.heap.size w2 w') := fun a b ca cb V r1 r2 hV => by
    refine Calls.mono (ysameI a b ca cb M V (by omega) r1 r2) ?_
    rintro e w' ⟨rfl, h⟩
    exact ⟨rfl, HF3.out _ (ybt' hV h), ybt' hV h⟩
  have HLR9 : Hid (∀ V, Below w2.heap.size w2 V → Calls Try.prog 48 #[.pointer (some ⟨rb, 0, none⟩)] V fun e w' => e = .returned (.int .i64 nn) ∧ (w'.cell? ⟨w.heap.size, 0, none⟩ = some (.pointer (some ⟨rb, 0, none⟩)) ∧ w'.cell? ⟨w.heap.size, 1, none⟩ = some (.pointer (some ⟨rd, 0, none⟩))) ∧ Below w2.heap.size w2 w') := fun V hV => by
    refine Calls.mono (HLR.out V (HWW.out V hV)) ?_
    rintro e w' ⟨rfl, h⟩
    exact ⟨rfl, HF3.out _ (ybt' hV h), ybt' hV h⟩
  have HLD9 : Hid (∀ V, Below w2.heap.size w2 V → Calls Try.prog 49 #[.pointer (some ⟨rd, 0, none⟩)] V fun e w' => e = .returned (.int .i64 nn) ∧ (w'.cell? ⟨w.heap.size, 0, none⟩ = some (.pointer (some ⟨rb, 0, none⟩)) ∧ w'.cell? ⟨w.heap.size, 1, none⟩ = some (.pointer (some ⟨rd, 0, none⟩))) ∧ Below w2.heap.size w2 w') := fun V hV => by
    refine Calls.mono (HLD.out V (HWW.out V hV)) ?_
    rintro e w' ⟨rfl, h⟩
    exact ⟨rfl, HF3.out _ (ybt' hV h), ybt' hV h⟩
  have HR1 : Hid (∀ V, Below w2.heap.size w2 V → RdV V a1 (M.map (Value.int .i64))) := fun V hV => ho1.out.rd.later (ybt ho2.out.2.1 hV)
  have HR2 : Hid (∀ V, Below w2.heap.size w2 V → RdV V a2 (M.map (Value.int .i64))) := fun V hV => ho2.out.rd.later hV
  go_region_held3 (fun V : World => V.cell? ⟨w.heap.size, 0, none⟩ = some (.pointer (some ⟨rb, 0, none⟩)) ∧ V.cell? ⟨w.heap.size, 1, none⟩ = some (.pointer (some ⟨rd, 0, none⟩))) (first | exact hs7 | exact hs6 | exact hs5 | exact hs4 | exact hs3 | exact hs0)
    (first
      | (go_at_call 49; with_reducible refine Calls.mono (HLD9.out _ hb6) ?_; rintro e w7 ⟨rfl, hs7, hb7⟩)
      | (go_at_call 48; with_reducible refine Calls.mono (HLR9.out _ hb5) ?_; rintro e w6 ⟨rfl, hs6, hb6⟩)
      | (go_at_call 20; with_reducible refine Calls.mono (HSI.out _ _ _ _ _ (HR2.out _ hb4) (HR1.out _ hb4) hb4) ?_; rintro e w5 ⟨rfl, hs5, hb5⟩)
      | (go_at_call 20; with_reducible refine Calls.mono (HSI.out _ _ _ _ _ (HR1.out _ hb3) h3.out.rd hb3) ?_; rintro e w4 ⟨rfl, hs4, hb4⟩)
      | (go_at_call 47; with_reducible refine Calls.mono (HA9.out _ hb0) ?_; rintro e w3 ⟨a3, cap3, rfl, hs3, h3, hb3⟩))
  have HB7 := hid hb7
  clear hs0 hs3 hs4 hs5 hs6 hs7 hb0 hb3 hb4 hb5 hb6 hb7 HA9 HSI HLR9 HLD9 HF3
  go_wp2_with fail
  obtain ⟨W8, hW8⟩ : ∃ W8, w7.alloc (.cells #[.slice a2 M.length cap2] 54) = W8 := ⟨_, rfl⟩
  have HX8 : Hid (FBox W8 w7.heap.size 54 #[.slice a2 M.length cap2] ∧ Below w7.heap.size w7 W8) := by
    rw [← hW8]
    exact ⟨FBox.made _ _ _, (Below.refl _ _).alloc (Nat.le_refl _) _⟩
  rw [hW8]
  clear hW8
  have h28 : Hid (Below w2.heap.size w2 W8) := ybt' HB7.out HX8.out.2
  have h18 : Hid (Below w1.heap.size w1 W8) := ybt ho2.out.2.1 h28.out
  have hs17 : w1.heap.size ≤ w7.heap.size := Nat.le_trans ho2.out.2.1.size HB7.out.size
  have hs08 : V0.heap.size ≤ W8.heap.size := Nat.le_trans HB1.out.size h18.out.size
  refine Calls.mono (yapart_any V0.heap.size w7.heap.size M.length (.slice a1 M.length cap1) a2 cap2 M W8 rfl (by omega) hs08 (ho2.out.nil)
    (ho1.out.spare h18.out V0.heap.size (Nat.le_refl _) a2 w7.heap.size (fun b eb g eg => by have := (ho2.out.lt b eb).1; have := (ho1.out.lt g eg).2; omega) (fun g eg => by have := (ho1.out.lt g eg).2; omega))
    (ho2.out.rd.later h28.out) (fun g eg => by have := (ho2.out.lt g eg).2; have := h28.out.size; omega) HX8.out.1) ?_
  rintro e w9 ⟨rfl, hb9⟩
  have HW9 : Hid (Below w.heap.size w w9) := (ybt ho2.out.2.2 h28.out).trans (hb9.mono HA.out.2.2.size)
  clear hb9
  go_wp2_with fail
  go_ret
  exact ActT.of HP.out rfl HW9.out
end Go.Proofs.Ytblfemmhhijeeaa

/- The law's act: of every call; the opener of a list of calls. -/
namespace Go.Proofs.Ytblfemmhhijeeaa
open Go.RowKit
set_option linter.unusedVariables false
set_option linter.unusedSimpArgs false

set_option maxHeartbeats 12800000 in
set_option maxRecDepth 100000 in
theorem yactd (rb mb rd : Nat) (L : List (Int × Nat)) (kd on tk en : Int) (bb : Nat) (w : World) (h : PrAt w rb mb rd L) (hk : kd ≠ 0 ∧ kd ≠ 1 ∧ kd ≠ 2 ∧ kd ≠ 3 ∧ kd ≠ 4 ∧ kd ≠ 5 ∧ kd ≠ 6 ∧ kd ≠ 7) :
    Calls Try.prog 11 (actA rb rd kd on tk en bb) w (ActT rb mb rd w) := by
  unfold actA
  have HP := hid h
  clear h
  obtain ⟨k0, k1, k2, k3, k4, k5, k6, k7⟩ := hk
  go_enter Try.func11, Try.ntmps11
  go_wp2_with fail
  go_ret
  exact ActT.of HP.out rfl (((Below.refl _ _).alloc (Nat.le_refl _) _).alloc (by simp) _)
theorem yact_any (rb mb rd : Nat) (L : List (Int × Nat)) (kd on tk en : Int) (bb : Nat) (w : World) (h : PrAt w rb mb rd L) (ht : I64 tk) (he : I64 en) (hb : bb < 18446744073709551616) :
    Calls Try.prog 11 (actA rb rd kd on tk en bb) w (ActT rb mb rd w) := by
  by_cases h0 : kd = 0
  · subst h0; exact yact0 rb mb rd L on tk en bb w h ht hb
  by_cases h1 : kd = 1
  · subst h1; exact yact1 rb mb rd L on tk en bb w h ht
  by_cases h2 : kd = 2
  · subst h2; exact yact2 rb mb rd L on tk en bb w h
  by_cases h3 : kd = 3
  · subst h3; exact yact3 rb mb rd L on tk en bb w h
  by_cases h4 : kd = 4
  · subst h4; exact yact4 rb mb rd L on tk en bb w h ht
  by_cases h5 : kd = 5
  · subst h5; exact yact5 rb mb rd L on tk en bb w h ht he
  by_cases h6 : kd = 6
  · subst h6; exact yact6 rb mb rd L on tk en bb w h ht he
  by_cases h7 : kd = 7
  · subst h7; exact yact7 rb mb rd L on tk en bb w h he
  exact yactd rb mb rd L kd on tk en bb w h ⟨h0, h1, h2, h3, h4, h5, h6, h7⟩
end Go.Proofs.Ytblfemmhhijeeaa

/- The law RecordScript answers true, and writes nothing that was there: of every list of calls. -/
namespace Go.Proofs.Ytblfemmhhijeeaa
open Go.RowKit
set_option linter.unusedVariables false
set_option linter.unusedSimpArgs false

theorem yand_one (z : Int) : bits BinOp.and IntKind.i64 z 1 = 0 ∨ bits BinOp.and IntKind.i64 z 1 = 1 := by
  have h2 : (BitVec.ofInt 64 (1 : Int)).toNat = 1 := by decide
  have e : bits BinOp.and IntKind.i64 z 1 = IntKind.i64.wrap ((BitVec.ofInt 64 z &&& BitVec.ofInt 64 1).toNat : Int) := rfl
  rw [e, BitVec.toNat_and, h2, Nat.and_one_is_mod]
  rcases Nat.mod_two_eq_zero_or_one (BitVec.ofInt 64 z).toNat with h | h
  · left; rw [h]; decide
  · right; rw [h]; decide
/-- What stands while the calls are played. -/
structure RsS (w : World) (bx rb1 mb1 rd1 rb2 mb2 rd2 : Nat) (W : World) : Prop where
  one : ∃ L, PrAt W rb1 mb1 rd1 L
  two : ∃ L, PrAt W rb2 mb2 rd2 L
  box : FBox W bx 29 #[.pointer (some ⟨rb1, 0, none⟩), .pointer (some ⟨rd1, 0, none⟩), .pointer (some ⟨rb2, 0, none⟩), .pointer (some ⟨rd2, 0, none⟩)]
  bel : Below w.heap.size w W
/-- Where they lie. -/
structure RsN (w : World) (bx mb1 rd1 mb2 rd2 : Nat) : Prop where
  a : w.heap.size ≤ mb1 ∧ w.heap.size ≤ rd1 ∧ w.heap.size ≤ mb2 ∧ w.heap.size ≤ rd2
  b : mb1 ≠ mb2 ∧ rd1 ≠ rd2
  c : bx ≠ mb1 ∧ bx ≠ rd1 ∧ bx ≠ mb2 ∧ bx ≠ rd2
theorem RsS.later {w W W' : World} {bx rb1 mb1 rd1 rb2 mb2 rd2 : Nat} (h : RsS w bx rb1 mb1 rd1 rb2 mb2 rd2 W) (hb : Below W.heap.size W W') : RsS w bx rb1 mb1 rd1 rb2 mb2 rd2 W' := by
  obtain ⟨L1, h1⟩ := h.one
  obtain ⟨L2, h2⟩ := h.two
  exact ⟨⟨L1, h1.later hb⟩, ⟨L2, h2.later hb⟩, h.box.later hb h.box.lt, h.bel.trans (hb.mono h.bel.size)⟩
theorem RsS.act1 {w W W' : World} {bx rb1 mb1 rd1 rb2 mb2 rd2 : Nat} (h : RsS w bx rb1 mb1 rd1 rb2 mb2 rd2 W) (hn : RsN w bx mb1 rd1 mb2 rd2) {e : Ending} (ha : ActT rb1 mb1 rd1 W e W') : e = .returned (.bool true) ∧ RsS w bx rb1 mb1 rd1 rb2 mb2 rd2 W' := by
  obtain ⟨he, L', hp, hb⟩ := ha
  obtain ⟨L1, h1⟩ := h.one
  obtain ⟨L2, h2⟩ := h.two
  exact ⟨he, ⟨L', hp.out⟩, ⟨L2, h2.other h1 hb.out (fun e => hn.b.1 e.symm) (fun e => hn.b.2 e.symm)⟩, h.box.but2 hb.out hn.c.1 hn.c.2.1, h.bel.trans (hb.out.below hn.a.1 hn.a.2.1 h.bel.size)⟩
theorem RsS.act2 {w W W' : World} {bx rb1 mb1 rd1 rb2 mb2 rd2 : Nat} (h : RsS w bx rb1 mb1 rd1 rb2 mb2 rd2 W) (hn : RsN w bx mb1 rd1 mb2 rd2) {e : Ending} (ha : ActT rb2 mb2 rd2 W e W') : e = .returned (.bool true) ∧ RsS w bx rb1 mb1 rd1 rb2 mb2 rd2 W' := by
  obtain ⟨he, L', hp, hb⟩ := ha
  obtain ⟨L1, h1⟩ := h.one
  obtain ⟨L2, h2⟩ := h.two
  exact ⟨he, ⟨L1, h1.other h2 hb.out hn.b.1 hn.b.2⟩, ⟨L', hp.out⟩, h.box.but2 hb.out hn.c.2.2.1 hn.c.2.2.2, h.bel.trans (hb.out.below hn.a.2.2.1 hn.a.2.2.2 h.bel.size)⟩
set_option maxHeartbeats 12800000 in
set_option maxRecDepth 100000 in
theorem recordScript_in (a : Option Addr) (n cap : Nat) (xs : List ActS) (w : World) (hw : (a = none → n = 0 ∧ cap = 0) ∧ n ≤ cap ∧ cap ≤ maxLen ∧ RdA w a n xs) :
    Calls Try.prog 3 #[.slice a n cap] w fun e w' => e = .returned (.bool true) ∧ Below w.heap.size w w' := by
  by_cases hn : 300 < n
  · go_enter Try.func3, Try.ntmps3
    go_wp2_with fail
    go_ret
    exact ⟨rfl, Below.refl _ _⟩
  have HX := hid hw.2.2.2
  clear hw
  go_enter Try.func3, Try.ntmps3
  go_wp2_with fail
  refine Calls.mono (ynew_any w) ?_
  rintro e w1 ⟨rfl, hr1, hb1⟩
  go_wp2_with fail
  refine Calls.mono (d19new_any w1) ?_
  rintro e w2 ⟨d1, rfl, hd1, hl1, hb2⟩
  go_wp2_with fail
  refine Calls.mono (ynew_any w2) ?_
  rintro e w3 ⟨rfl, hr2, hb3⟩
  go_wp2_with fail
  refine Calls.mono (d19new_any w3) ?_
  rintro e w4 ⟨d2, rfl, hd2, hl2, hb4⟩
  go_wp2_with fail
  have HS : Hid (RsS w w4.heap.size (w.heap.size + 1) w.heap.size d1 (w2.heap.size + 1) w2.heap.size d2 (w4.alloc (.cells #[.pointer (some ⟨w.heap.size + 1, 0, none⟩), .pointer (some ⟨d1, 0, none⟩), .pointer (some ⟨w2.heap.size + 1, 0, none⟩), .pointer (some ⟨d2, 0, none⟩)] 29))) := by
    have hb5 : Below w4.heap.size w4 (w4.alloc (.cells #[.pointer (some ⟨w.heap.size + 1, 0, none⟩), .pointer (some ⟨d1, 0, none⟩), .pointer (some ⟨w2.heap.size + 1, 0, none⟩), .pointer (some ⟨d2, 0, none⟩)] 29)) := (Below.refl _ _).alloc (Nat.le_refl _) _
    have p1 : PrAt w2 (w.heap.size + 1) w.heap.size d1 [] := ⟨hr1.later hb2, hd1.out.base (Nat.zero_le _)⟩
    have p2 : PrAt w4 (w2.heap.size + 1) w2.heap.size d2 [] := ⟨hr2.later hb4, hd2.out.base (Nat.zero_le _)⟩
    exact ⟨⟨[], p1.later (ybt (ybt hb3 hb4) hb5)⟩, ⟨[], p2.later hb5⟩, FBox.made _ _ _, ybt hb1 (ybt hb2 (ybt hb3 (ybt hb4 hb5)))⟩
  have HN : Hid (RsN w w4.heap.size w.heap.size d1 w2.heap.size d2) := by
    have q1 := hr1.own.lt
    have q2 := hd1.out.box.choose_spec.1.lt
    have q3 := hr2.own.lt
    have q4 := hd2.out.box.choose_spec.1.lt
    have q5 := hl1.out
    have q6 := hl2.out
    have s1 := hb1.size
    have s2 := hb2.size
    have s3 := hb3.size
    have s4 := hb4.size
    exact ⟨⟨by omega, by omega, by omega, by omega⟩, ⟨by omega, by omega⟩, by omega, by omega, by omega, by omega⟩
  generalize w4.heap.size = bx at *
  generalize w.heap.size + 1 = rb1 at *
  generalize hm1 : w.heap.size = mb1 at HS HN ⊢
  generalize w2.heap.size + 1 = rb2 at *
  generalize w2.heap.size = mb2 at *
  generalize w4.alloc (.cells #[.pointer (some ⟨rb1, 0, none⟩), .pointer (some ⟨d1, 0, none⟩), .pointer (some ⟨rb2, 0, none⟩), .pointer (some ⟨d2, 0, none⟩)] 29) = V at *
  clear hr1 hr2 hd1 hd2 hl1 hl2 hb1 hb2 hb3 hb4
  go_loopw [4] (fun x wr => ∃ k : Nat, k ≤ n ∧ x = .int .i64 (k : Int) ∧ Hid (RsS w bx rb1 mb1 d1 rb2 mb2 d2 wr)) (fun x _ => n - (intOf x).toNat)
  case atStart => exact ⟨0, Nat.zero_le _, rfl, HS⟩
  case round =>
    clear HS
    obtain ⟨k, hk, rfl, HS⟩ := hrel
    by_cases hlt : k < n
    · obtain ⟨hlx, hok, hx⟩ := HX.out
      have hkx : k < xs.length := by omega
      have HOK := hid (hok _ (List.getElem_mem hkx))
      rcases hx with h0 | ⟨g, o, rfl, hg, hx⟩
      · omega
      have hc := hx k _ (List.getElem?_eq_getElem hkx)
      clear hok hx
      generalize xs[k] = q at *
      obtain ⟨ck, con, ctk, cen, cb⟩ := q
      dsimp only at hc
      have HXC : Hid (∀ W, RsS w bx rb1 mb1 d1 rb2 mb2 d2 W → W.cell? ⟨g, o + k * 5, none⟩ = some (.int .i64 ck) ∧ W.cell? ⟨g, o + k * 5 + 1, none⟩ = some (.int .i64 con) ∧ W.cell? ⟨g, o + k * 5 + 2, none⟩ = some (.int .i64 ctk) ∧ W.cell? ⟨g, o + k * 5 + 3, none⟩ = some (.int .i64 cen) ∧ W.cell? ⟨g, o + k * 5 + 4, none⟩ = some (.int .u64 (cb : Int))) := fun W hW => by
        obtain ⟨e0, e1, e2, e3, e4⟩ := hc
        exact ⟨(hW.bel.cell (p := ⟨g, o + k * 5, none⟩) hg).trans e0, (hW.bel.cell (p := ⟨g, o + k * 5 + 1, none⟩) hg).trans e1, (hW.bel.cell (p := ⟨g, o + k * 5 + 2, none⟩) hg).trans e2, (hW.bel.cell (p := ⟨g, o + k * 5 + 3, none⟩) hg).trans e3, (hW.bel.cell (p := ⟨g, o + k * 5 + 4, none⟩) hg).trans e4⟩
      clear hc
      have HSD : Hid (RsS w bx rb1 mb1 d1 rb2 mb2 d2 wr.drew) := HS.out.later (Below.refl _ _).drew
      have hk1 : (k : Int) < (n : Int) := by omega
      have hk0 : (0 : Int) ≤ (k : Int) := by omega
      rcases yand_one con with hbit | hbit
      · have HCL : Hid (∀ W, RsS w bx rb1 mb1 d1 rb2 mb2 d2 W → W.cell? ⟨g, o + k * 5, none⟩ = some (.int .i64 ck) ∧ W.cell? ⟨g, o + k * 5 + 1, none⟩ = some (.int .i64 con) ∧ W.cell? ⟨g, o + k * 5 + 2, none⟩ = some (.int .i64 ctk) ∧ W.cell? ⟨g, o + k * 5 + 3, none⟩ = some (.int .i64 cen) ∧ W.cell? ⟨g, o + k * 5 + 4, none⟩ = some (.int .u64 (cb : Int)) ∧ W.cell? ⟨bx, 0, none⟩ = some (.pointer (some ⟨rb1, 0, none⟩)) ∧ W.cell? ⟨bx, 1, none⟩ = some (.pointer (some ⟨d1, 0, none⟩))) := fun W hW => by
          obtain ⟨e0, e1, e2, e3, e4⟩ := HXC.out W hW
          exact ⟨e0, e1, e2, e3, e4, hW.box.cell 0, hW.box.cell 1⟩
        have HC : Hid (Calls Try.prog 11 #[.agg #[.pointer (some ⟨rb1, 0, none⟩), .pointer (some ⟨d1, 0, none⟩)], .agg #[.int .i64 ck, .int .i64 con, .int .i64 ctk, .int .i64 cen, .int .u64 (cb : Int)]] wr.drew fun e w' => e = .returned (.bool true) ∧ (w'.cell? ⟨g, o + k * 5, none⟩ = some (.int .i64 ck) ∧ w'.cell? ⟨g, o + k * 5 + 1, none⟩ = some (.int .i64 con) ∧ w'.cell? ⟨g, o + k * 5 + 2, none⟩ = some (.int .i64 ctk) ∧ w'.cell? ⟨g, o + k * 5 + 3, none⟩ = some (.int .i64 cen) ∧ w'.cell? ⟨g, o + k * 5 + 4, none⟩ = some (.int .u64 (cb : Int)) ∧ w'.cell? ⟨bx, 0, none⟩ = some (.pointer (some ⟨rb1, 0, none⟩)) ∧ w'.cell? ⟨bx, 1, none⟩ = some (.pointer (some ⟨d1, 0, none⟩))) ∧ Hid (RsS w bx rb1 mb1 d1 rb2 mb2 d2 w')) := by
          obtain ⟨L, hL⟩ := HSD.out.one
          refine Calls.mono (yact_any rb1 mb1 d1 L ck con ctk cen cb wr.drew hL HOK.out.2.2.1 HOK.out.2.2.2.1 HOK.out.2.2.2.2) ?_
          intro e w' he
          obtain ⟨he, hs⟩ := HSD.out.act1 HN.out he
          exact ⟨he, HCL.out w' hs, hs⟩
        have hs0 := HCL.out _ HSD.out
        clear HCL HSD HS
        go_wp2_with fail
        go_region_held3 (fun V : World => V.cell? ⟨g, o + k * 5, none⟩ = some (.int .i64 ck) ∧ V.cell? ⟨g, o + k * 5 + 1, none⟩ = some (.int .i64 con) ∧ V.cell? ⟨g, o + k * 5 + 2, none⟩ = some (.int .i64 ctk) ∧ V.cell? ⟨g, o + k * 5 + 3, none⟩ = some (.int .i64 cen) ∧ V.cell? ⟨g, o + k * 5 + 4, none⟩ = some (.int .u64 (cb : Int)) ∧ V.cell? ⟨bx, 0, none⟩ = some (.pointer (some ⟨rb1, 0, none⟩)) ∧ V.cell? ⟨bx, 1, none⟩ = some (.pointer (some ⟨d1, 0, none⟩))) (first | exact hs1 | exact hs0) ((go_at_call 11; with_reducible refine Calls.mono HC.out ?_; rintro e w6 ⟨rfl, hs1, h6⟩))
        go_wp2_with fail
        go_roundw
        case rel => exact ⟨k + 1, by omega, by go_num, h6⟩
        case measure => simp [intOf]; omega
      · have HCL : Hid (∀ W, RsS w bx rb1 mb1 d1 rb2 mb2 d2 W → W.cell? ⟨g, o + k * 5, none⟩ = some (.int .i64 ck) ∧ W.cell? ⟨g, o + k * 5 + 1, none⟩ = some (.int .i64 con) ∧ W.cell? ⟨g, o + k * 5 + 2, none⟩ = some (.int .i64 ctk) ∧ W.cell? ⟨g, o + k * 5 + 3, none⟩ = some (.int .i64 cen) ∧ W.cell? ⟨g, o + k * 5 + 4, none⟩ = some (.int .u64 (cb : Int)) ∧ W.cell? ⟨bx, 2, none⟩ = some (.pointer (some ⟨rb2, 0, none⟩)) ∧ W.cell? ⟨bx, 3, none⟩ = some (.pointer (some ⟨d2, 0, none⟩))) := fun W hW => by
          obtain ⟨e0, e1, e2, e3, e4⟩ := HXC.out W hW
          exact ⟨e0, e1, e2, e3, e4, hW.box.cell 2, hW.box.cell 3⟩
        have HC : Hid (Calls Try.prog 11 #[.agg #[.pointer (some ⟨rb2, 0, none⟩), .pointer (some ⟨d2, 0, none⟩)], .agg #[.int .i64 ck, .int .i64 con, .int .i64 ctk, .int .i64 cen, .int .u64 (cb : Int)]] wr.drew fun e w' => e = .returned (.bool true) ∧ (w'.cell? ⟨g, o + k * 5, none⟩ = some (.int .i64 ck) ∧ w'.cell? ⟨g, o + k * 5 + 1, none⟩ = some (.int .i64 con) ∧ w'.cell? ⟨g, o + k * 5 + 2, none⟩ = some (.int .i64 ctk) ∧ w'.cell? ⟨g, o + k * 5 + 3, none⟩ = some (.int .i64 cen) ∧ w'.cell? ⟨g, o + k * 5 + 4, none⟩ = some (.int .u64 (cb : Int)) ∧ w'.cell? ⟨bx, 2, none⟩ = some (.pointer (some ⟨rb2, 0, none⟩)) ∧ w'.cell? ⟨bx, 3, none⟩ = some (.pointer (some ⟨d2, 0, none⟩))) ∧ Hid (RsS w bx rb1 mb1 d1 rb2 mb2 d2 w')) := by
          obtain ⟨L, hL⟩ := HSD.out.two
          refine Calls.mono (yact_any rb2 mb2 d2 L ck con ctk cen cb wr.drew hL HOK.out.2.2.1 HOK.out.2.2.2.1 HOK.out.2.2.2.2) ?_
          intro e w' he
          obtain ⟨he, hs⟩ := HSD.out.act2 HN.out he
          exact ⟨he, HCL.out w' hs, hs⟩
        have hs0 := HCL.out _ HSD.out
        clear HCL HSD HS
        go_wp2_with fail
        go_region_held3 (fun V : World => V.cell? ⟨g, o + k * 5, none⟩ = some (.int .i64 ck) ∧ V.cell? ⟨g, o + k * 5 + 1, none⟩ = some (.int .i64 con) ∧ V.cell? ⟨g, o + k * 5 + 2, none⟩ = some (.int .i64 ctk) ∧ V.cell? ⟨g, o + k * 5 + 3, none⟩ = some (.int .i64 cen) ∧ V.cell? ⟨g, o + k * 5 + 4, none⟩ = some (.int .u64 (cb : Int)) ∧ V.cell? ⟨bx, 2, none⟩ = some (.pointer (some ⟨rb2, 0, none⟩)) ∧ V.cell? ⟨bx, 3, none⟩ = some (.pointer (some ⟨d2, 0, none⟩))) (first | exact hs1 | exact hs0) ((go_at_call 11; with_reducible refine Calls.mono HC.out ?_; rintro e w6 ⟨rfl, hs1, h6⟩))
        go_wp2_with fail
        go_roundw
        case rel => exact ⟨k + 1, by omega, by go_num, h6⟩
        case measure => simp [intOf]; omega
    · obtain rfl : k = n := by omega
      have b0 : wr.cell? ⟨bx, 0, none⟩ = some (.pointer (some ⟨rb1, 0, none⟩)) := HS.out.box.cell 0
      have b1 : wr.cell? ⟨bx, 1, none⟩ = some (.pointer (some ⟨d1, 0, none⟩)) := HS.out.box.cell 1
      have b2 : wr.cell? ⟨bx, 2, none⟩ = some (.pointer (some ⟨rb2, 0, none⟩)) := HS.out.box.cell 2
      have b3 : wr.cell? ⟨bx, 3, none⟩ = some (.pointer (some ⟨d2, 0, none⟩)) := HS.out.box.cell 3
      go_wp2_with fail
      clear b0 b1 b2 b3
      obtain ⟨L1, p1⟩ := HS.out.one
      refine Calls.mono (ygone_any rb1 mb1 0 d1 L1 0 wr p1.r p1.d (by constructor <;> omega)) ?_
      rintro e w6 ⟨rfl, hb6⟩
      have H6 := hid (HS.out.later hb6)
      clear p1 hb6
      have b0 : w6.cell? ⟨bx, 0, none⟩ = some (.pointer (some ⟨rb1, 0, none⟩)) := H6.out.box.cell 0
      have b1 : w6.cell? ⟨bx, 1, none⟩ = some (.pointer (some ⟨d1, 0, none⟩)) := H6.out.box.cell 1
      have b2 : w6.cell? ⟨bx, 2, none⟩ = some (.pointer (some ⟨rb2, 0, none⟩)) := H6.out.box.cell 2
      have b3 : w6.cell? ⟨bx, 3, none⟩ = some (.pointer (some ⟨d2, 0, none⟩)) := H6.out.box.cell 3
      go_wp2_with fail
      clear b0 b1 b2 b3
      obtain ⟨L2, p2⟩ := H6.out.two
      refine Calls.mono (ygone_any rb2 mb2 0 d2 L2 0 w6 p2.r p2.d (by constructor <;> omega)) ?_
      rintro e w7 ⟨rfl, hb7⟩
      have H7 := hid (H6.out.later hb7)
      clear p2 hb7
      have b0 : w7.cell? ⟨bx, 0, none⟩ = some (.pointer (some ⟨rb1, 0, none⟩)) := H7.out.box.cell 0
      have b1 : w7.cell? ⟨bx, 1, none⟩ = some (.pointer (some ⟨d1, 0, none⟩)) := H7.out.box.cell 1
      have b2 : w7.cell? ⟨bx, 2, none⟩ = some (.pointer (some ⟨rb2, 0, none⟩)) := H7.out.box.cell 2
      have b3 : w7.cell? ⟨bx, 3, none⟩ = some (.pointer (some ⟨d2, 0, none⟩)) := H7.out.box.cell 3
      go_wp2_with fail
      clear b0 b1 b2 b3
      obtain ⟨L_H8, p_H8⟩ := H7.out.one
      refine Calls.mono (show Calls Try.prog 11 #[.agg #[.pointer (some ⟨rb1, 0, none⟩), .pointer (some ⟨d1, 0, none⟩)], .agg #[.int .i64 2, .int .i64 0, .int .i64 0, .int .i64 0, .int .u64 0]] w7 (ActT rb1 mb1 d1 w7) from yact2 rb1 mb1 d1 L_H8 0 0 0 0 w7 p_H8) ?_
      intro e w8 he
      obtain ⟨rfl, H8⟩ := H7.out.act1 HN.out he
      have H8 := hid H8
      clear he p_H8
      have b0 : w8.cell? ⟨bx, 0, none⟩ = some (.pointer (some ⟨rb1, 0, none⟩)) := H8.out.box.cell 0
      have b1 : w8.cell? ⟨bx, 1, none⟩ = some (.pointer (some ⟨d1, 0, none⟩)) := H8.out.box.cell 1
      have b2 : w8.cell? ⟨bx, 2, none⟩ = some (.pointer (some ⟨rb2, 0, none⟩)) := H8.out.box.cell 2
      have b3 : w8.cell? ⟨bx, 3, none⟩ = some (.pointer (some ⟨d2, 0, none⟩)) := H8.out.box.cell 3
      go_wp2_with fail
      clear b0 b1 b2 b3
      obtain ⟨L_H9, p_H9⟩ := H8.out.two
      refine Calls.mono (show Calls Try.prog 11 #[.agg #[.pointer (some ⟨rb2, 0, none⟩), .pointer (some ⟨d2, 0, none⟩)], .agg #[.int .i64 2, .int .i64 0, .int .i64 0, .int .i64 0, .int .u64 0]] w8 (ActT rb2 mb2 d2 w8) from yact2 rb2 mb2 d2 L_H9 0 0 0 0 w8 p_H9) ?_
      intro e w9 he
      obtain ⟨rfl, H9⟩ := H8.out.act2 HN.out he
      have H9 := hid H9
      clear he p_H9
      go_wp2_with fail
      go_ret
      exact ⟨rfl, H9.out.bel⟩
end Go.Proofs.Ytblfemmhhijeeaa

