/- My texts on the way to CleanFill, one behind the other: contracts of the program and of the document's answers. -/
import Derived.Test.YtblfemmhhijeeaaJ2
/- The law's apart: an answer is written over, all others stay. -/
namespace Go.Proofs.Ytblfemmhhijeeaa
open Go.RowKit
set_option linter.unusedVariables false
set_option linter.unusedSimpArgs false

theorem Try.yinfoSS : (Try.prog.info? 39).map (fun i => (i.zero, i.size, i.bytes)) = some (some (.slice none 0 0), 1, 24) := by kernel_rfl
theorem RdV.front {w : World} {a : Option Addr} {xs ys : List Value} (h : RdV w a (xs ++ ys)) : RdV w a xs := by
  rcases h with h | ⟨g, ha, hg, hc⟩
  · exact .inl (List.append_eq_nil_iff.1 h).1
  · exact .inr ⟨g, ha, hg, fun j u hj => hc j u (by rw [List.getElem?_append_left (List.getElem?_eq_some_iff.1 hj).1]; exact hj)⟩
theorem gby_of {w w' : World} {o : Option Nat} (h : Below w.heap.size w w') : w.grownBy w' o := ⟨h.os, h.tape, h.output, h.size, fun k hk _ => h.block k hk⟩
theorem gby_trans {a b c : World} {o : Option Nat} (h : a.grownBy b o) (k : b.grownBy c o) : a.grownBy c o :=
  ⟨k.os.trans h.os, k.tape.trans h.tape, k.output.trans h.output, Nat.le_trans h.size k.size, fun i hi hn => (k.block i (Nat.lt_of_lt_of_le hi h.size) hn).trans (h.block i hi hn)⟩
theorem gby_set {w W : World} {g : Nat} (h : w.grownBy W (some g)) (j : Nat) (v : Value) : w.grownBy (W.setCell ⟨g, j, none⟩ v) (some g) :=
  ⟨h.os, h.tape, h.output, by simpa [World.setCell] using h.size, fun k hk hn => (heap_setCell_other W ⟨g, j, none⟩ k v (fun e => hn (by rw [e]))).trans (h.block k hk hn)⟩
theorem gby_below {w w' : World} {o : Option Nat} {B : Nat} (h : w.grownBy w' o) (hB : B ≤ w.heap.size) (ho : ∀ g, o = some g → B ≤ g) : Below B w w' := (Below.refl B w).grown h hB ho
theorem RdV.gby {w w' : World} {o : Option Nat} {a : Option Addr} {xs : List Value} (h : RdV w a xs) (hg : w.grownBy w' o) (ha : ∀ g, a = some ⟨g, 0, none⟩ → o ≠ some g) : RdV w' a xs := by
  rcases h with h | ⟨g, rfl, hl, hc⟩
  · exact .inl h
  · refine .inr ⟨g, rfl, Nat.lt_of_lt_of_le hl hg.size, fun j u hj => ?_⟩
    have e := hg.block g hl (fun q => ha g rfl q.symm)
    have q := hc j u hj
    unfold World.cell? at q ⊢
    simp only [e]
    exact q
theorem FBox.gby {w w' : World} {o : Option Nat} {b t : Nat} {vs : Array Value} (h : FBox w b t vs) (hg : w.grownBy w' o) (ha : o ≠ some b) : FBox w' b t vs := (hg.block b h.lt (fun q => ha q.symm)).trans h
/-- A block of so many cells that may be written. -/
def Blk (W : World) (g sz : Nat) : Prop := ∃ cur, W.heap[g]? = some (.cells cur 46 (0, 0)) ∧ cur.size = sz
theorem Blk.cell {W : World} {g sz j : Nat} (h : Blk W g sz) (hj : j < sz) : ∃ u, W.cell? ⟨g, j, none⟩ = some u ∧ W.frozen? ⟨g, j, none⟩ = false := by
  obtain ⟨cur, hb, hs⟩ := h
  refine ⟨cur[j]'(by omega), ?_, by simp [World.frozen?, hb]⟩
  simp only [World.cell?, hb]
  simp [hs, hj]
theorem Blk.set {W : World} {g sz : Nat} (h : Blk W g sz) (j : Nat) (v : Value) : Blk (W.setCell ⟨g, j, none⟩ v) g sz := by
  obtain ⟨cur, hb, hs⟩ := h
  exact ⟨_, heap_setCell_same W g j cur _ v hb, by simpa using hs⟩
theorem Blk.later {W W' : World} {g sz : Nat} (h : Blk W g sz) (hb : Below W.heap.size W W') : Blk W' g sz := by
  obtain ⟨cur, hc, hs⟩ := h
  exact ⟨cur, (hb.block g (Array.getElem?_eq_some_iff.1 hc).1).trans hc, hs⟩
/-- What may be written over: nothing, or a row of one's own. -/
def Ovr (W : World) (v : Value) (o : Option Nat) : Prop := (v = .slice none 0 0 ∧ o = none) ∨ ∃ g n cap, v = .slice (some ⟨g, 0, none⟩) n cap ∧ o = some g ∧ n ≤ cap ∧ cap ≤ maxLen ∧ Blk W g (cap * 2)
theorem Ovr.of {W : World} {base n : Nat} {v : Value} {xs : List Value} (h : W.ownsRow base 46 2 v n xs) : Ovr W v v.ownBlock := by
  rcases h.2 with ⟨rfl, _⟩ | ⟨g, cap, cur, rfl, h1, h2, h3, h4, h5, h6⟩
  · exact .inl ⟨rfl, rfl⟩
  · exact .inr ⟨g, n, cap, rfl, rfl, h3, h4, cur, h2, h5⟩
set_option maxHeartbeats 12800000 in
set_option maxRecDepth 100000 in
theorem eapart_any (va : Value) (o : Option Nat) (b : Option Addr) (nb cb : Nat) (G : List (Int × Nat)) (a5 : Option Addr) (n5 c5 go : Nat) (xs : List (Int × Nat)) (w : World)
    (hA : Ovr w va o) (hb : RdV w b (smC G)) (hbl : G.length = nb) (hbn : nb ≤ 1048576) (hbz : b = none → cb = 0 ∧ nb = 0) (hbo : ∀ g, b = some ⟨g, 0, none⟩ → o ≠ some g)
    (hB : FBox w go 39 #[.slice a5 n5 c5]) (hgo : o ≠ some go) (h5 : RdV w a5 (smC xs)) (h5l : xs.length = n5) (h5n : n5 ≤ 1048576) (h5z : a5 = none → c5 = 0 ∧ n5 = 0) (h5o : ∀ g, a5 = some ⟨g, 0, none⟩ → o ≠ some g) :
    Calls Try.prog 32 #[va, .slice b nb cb, .slice (some ⟨go, 0, none⟩) 1 1] w fun e w' => e = .returned (.bool true) ∧ w.grownBy w' o := by
  obtain ⟨i0, hi, hz0, hz1, hz2⟩ := info_parts Try.yinfoSS
  have HC := hid (ecopyS_any b nb cb G w (by omega) hbl hbz (RdS.of hb))
  have HBv := hid hb
  have HBB := hid hB
  have H5 := hid h5
  have HO := hid (And.intro hbo (And.intro hgo h5o))
  have H5c : Hid (∀ V, RdV V a5 (smC xs) → Calls Try.prog 75 #[.slice a5 n5 c5] V fun e w' => ∃ v, e = .returned v ∧ w'.ownsRow V.heap.size 46 2 v n5 (smC xs) ∧ Below V.heap.size V w') := fun V hV => ecopyS_any a5 n5 c5 xs V (by omega) h5l h5z (RdS.of hV)
  have HA := hid hA
  clear hb hB h5 hbo hgo h5o hbz h5z hA
  go_enter Try.func32, Try.ntmps32
  go_wp2_with fail
  refine Calls.mono HC.out ?_
  rintro e w1 ⟨v1, rfl, ho1, hb1⟩
  obtain ⟨a1, cp1, rfl, hV1⟩ := yshape ho1
  have HW1 : Hid (RdV w1 a1 (smC G) ∧ (∀ g, a1 = some ⟨g, 0, none⟩ → w.heap.size ≤ g) ∧ Below w.heap.size w w1) := by
    refine ⟨hV1, fun g e => ?_, hb1⟩
    have := (ho1.lt g (by rw [e]; rfl)).1
    exact this
  clear HC ho1 hb1 hV1
  go_wp2_with fail
  refine wp_loop_rounds 2 ?_
  rw [rounds_succ]
  have c5c : w1.cell? ⟨go, 0, none⟩ = some (.slice a5 n5 c5) := (HBB.out.later HW1.out.2.2 HBB.out.lt).cell 0
  go_wp2_with fail
  refine Calls.mono (H5c.out w1 (H5.out.later HW1.out.2.2)) ?_
  rintro e w2 ⟨v2, rfl, ho2, hb2⟩
  obtain ⟨a2, cp2, rfl, hV2⟩ := yshape ho2
  have HW2 : Hid (RdV w2 a2 (smC xs) ∧ (∀ g, a2 = some ⟨g, 0, none⟩ → w1.heap.size ≤ g) ∧ Below w1.heap.size w1 w2) := by
    refine ⟨hV2, fun g e => ?_, hb2⟩
    have := (ho2.lt g (by rw [e]; rfl)).1
    exact this
  have hnil : w2.ownsRow w2.heap.size 39 1 (.slice none 0 0) 0 [] := World.ownsRow_nil _ _ _ _
  have HNil := hid hnil
  clear ho2 hb2 hV2 c5c hnil
  have hsz2 : w.heap.size ≤ w2.heap.size := by have := HW1.out.2.2.size; have := HW2.out.2.2.size; omega
  have ho := HNil.out
  go_wp2_with (first
    | (at_builtin; refine wpList_append_own _ rfl _ _ 47 rfl w2.heap.size 39 i0 (.slice none 0 0) 1 24 Try.underlying47 hi hz0 hz1 hz2 rfl (by decide) _ _ _ rfl (ho.alloc _) ⟨w2.heap.size, 0, none⟩ 1 1 [.slice a2 n5 cp2] rfl rfl (cell_one_new _ _ _) (by simp [Value.oneCell']) (by unfold maxLen; simp) (by simp) (by simp) ?_; intro v3 w3 ho3 hg3 _)
    | go_in)
  obtain ⟨g3, cp3, rfl, hg3b, hc3a, hc3b⟩ := ownsF_some ho3 (by simp)
  have HW3 : Hid (RdV w3 (some ⟨g3, 0, none⟩) [.slice a2 n5 cp2] ∧ (∀ g, (some (⟨g3, 0, none⟩ : Addr)) = some ⟨g, 0, none⟩ → w2.heap.size ≤ g) ∧ Below w2.heap.size w2 w3) := by
    obtain ⟨a9, c9, e9, q9⟩ := yshape ho3
    injection e9 with e9 _ _
    refine ⟨by rw [e9]; exact q9, fun g e => ?_, ((Below.refl _ w2).alloc (Nat.le_refl _) _).grown hg3 (by simp) (fun g hg => (ho.lt g hg).1)⟩
    injection e with e
    injection e with e
    omega
  have HB3 := hid (ybt' HW1.out.2.2 (ybt' HW2.out.2.2 HW3.out.2.2))
  have HA3 : Hid (Ovr w3 va o) := by
    rcases HA.out with h | ⟨g, n, cap, h1, h2, h3, h4, h5⟩
    · exact .inl h
    · exact .inr ⟨g, n, cap, h1, h2, h3, h4, h5.later HB3.out⟩
  have HLo : Hid (∀ g, o = some g → g < w.heap.size) := fun g e => by
    rcases HA.out with h | ⟨g', n, cap, h1, h2, h3, h4, cur, hc, hs⟩
    · rw [h.2] at e; cases e
    · rw [h2] at e
      injection e with e
      rw [← e]
      exact (Array.getElem?_eq_some_iff.1 hc).1
  clear ho3 hg3 ho HNil HA
  go_wp2_with fail
  rw [rounds_succ]
  rcases HA3.out with ⟨rfl, h02⟩ | ⟨g, n, cap, rfl, h02, hnc, hcm, hblk⟩
  · have HG0 : Hid (w3.grownBy w3 o) := gby_of (Below.refl _ _)
    clear HA3
    go_wp2_with fail
    refine wp_loop_rounds 1 ?_
    rw [rounds_succ]
    have HT5 : Hid (RdV w3 a5 (smC xs)) := (H5.out.later HB3.out).gby HG0.out HO.out.2.2
    have HT2 : Hid (RdV w3 a2 (smC xs)) := (HW2.out.1.later HW3.out.2.2).gby HG0.out (fun g e q => by have := HLo.out g q; have := HW2.out.2.1 g e; have := HW1.out.2.2.size; omega)
    have HT1 : Hid (RdV w3 a1 (smC G)) := (HW1.out.1.later (ybt' HW2.out.2.2 HW3.out.2.2)).gby HG0.out (fun g e q => by have := HLo.out g q; have := HW1.out.2.1 g e; omega)
    have HTb : Hid (RdV w3 b (smC G)) := (HBv.out.later HB3.out).gby HG0.out HO.out.1
    have HTg : Hid (FBox w3 go 39 #[.slice a5 n5 c5]) := (HBB.out.later HB3.out HBB.out.lt).gby HG0.out HO.out.2.1
    have HTi : Hid (RdV w3 (some ⟨g3, 0, none⟩) [.slice a2 n5 cp2]) := HW3.out.1.gby HG0.out (fun g e q => by have := HLo.out g q; have := HW3.out.2.1 g e; have := HW1.out.2.2.size; have := HW2.out.2.2.size; omega)
    have HGw : Hid (w.grownBy w3 o) := gby_trans (gby_of HB3.out) HG0.out
    have i0c : w3.cell? ⟨g3, 0, none⟩ = some (.slice a2 n5 cp2) := by
      rcases HTi.out with h | ⟨g, ha, _, hc⟩
      · cases h
      · injection ha with ha
        injection ha with ha
        subst ha
        exact hc 0 _ rfl
    have g0c : w3.cell? ⟨go, 0, none⟩ = some (.slice a5 n5 c5) := HTg.out.cell 0
    have hs9 : w3.drew.cell? ⟨g3, 0, none⟩ = some (.slice a2 n5 cp2) ∧ w3.drew.cell? ⟨go, 0, none⟩ = some (.slice a5 n5 c5) := ⟨i0c, g0c⟩
    have HSm : Hid (Calls Try.prog 39 #[.slice a2 n5 cp2, .slice a5 n5 c5] w3.drew fun e w' => e = .returned (.bool true) ∧ Below w3.drew.heap.size w3.drew w') := by
      have q := esameS_any a2 a5 cp2 c5 xs w3.drew (by omega) (HT2.out.later ((Below.refl _ _).drew)) (HT5.out.later ((Below.refl _ _).drew))
      rw [h5l] at q
      exact q
    go_wp2_with fail
    refine wp_loop_rounds 2 ?_
    rw [rounds_succ]
    go_wp2_with fail
    go_region_held3 (fun V : World => V.cell? ⟨g3, 0, none⟩ = some (.slice a2 n5 cp2) ∧ V.cell? ⟨go, 0, none⟩ = some (.slice a5 n5 c5)) (first | exact hs9 | exact hs10)
      ((go_at_call 39; (with_reducible refine Calls.mono HSm.out ?_); rintro e w7 ⟨rfl, hb7⟩; have hb7' : Below w3.heap.size w3 w7 := (Below.refl w3.heap.size w3).drew.trans hb7; have HB7 := hid hb7'; have hs10 : w7.cell? ⟨g3, 0, none⟩ = some (.slice a2 n5 cp2) ∧ w7.cell? ⟨go, 0, none⟩ = some (.slice a5 n5 c5) := ⟨(hb7'.cell (p := ⟨g3, 0, none⟩) (by rcases HTi.out with h | ⟨g, ha, hl, _⟩; (· cases h); (· injection ha with ha; injection ha with ha; subst ha; exact hl))).trans i0c, (hb7'.cell (p := ⟨go, 0, none⟩) HTg.out.lt).trans g0c⟩))
    all_goals
      have HSn : Hid (Calls Try.prog 39 #[.slice a1 nb cp1, .slice b nb cb] w7 fun e w' => e = .returned (.bool true) ∧ Below w7.heap.size w7 w') := by
        have q := esameS_any a1 b cp1 cb G w7 (by omega) (HT1.out.later HB7.out) (HTb.out.later HB7.out)
        rw [hbl] at q
        exact q
      clear hs9 hs10 hb7 hb7' i0c g0c HSm
      go_wp2_with fail
      rw [rounds_succ]
      go_wp2_with fail
      refine Calls.mono HSn.out ?_
      rintro e w8 ⟨rfl, hb8⟩
      have HB8 := hid (gby_trans HGw.out (gby_of (o := o) (ybt' HB7.out hb8)))
      clear hb8 HSn
      go_wp2_with fail
      go_ret
      exact ⟨rfl, HB8.out⟩
  · have hcap : cap ≤ 9223372036854775807 := by unfold maxLen at hcm; omega
    have HBk := hid hblk
    have HOo := hid h02
    have sF : ∀ (W : World) (p : Addr) (y : Nat) (md : Mode), (store p (.float .f64 y) md).run Try.prog W = stored Try.prog W p (.float .f64 y) md := fun W p y md => rstore_flt Try.prog W p .f64 y md
    clear HA3 hblk h02
    go_wp2_with fail
    go_loopw [11] (fun x wr => ∃ k : Nat, k ≤ cap ∧ x = .int .i64 (k : Int) ∧ Hid (w3.grownBy wr (some g)) ∧ Hid (Blk wr g (cap * 2))) (fun x _ => cap - (intOf x).toNat)
    case atStart => exact ⟨0, Nat.zero_le _, rfl, gby_of (Below.refl _ _), HBk.out⟩
    case round =>
      obtain ⟨k, hk, rfl, HGr, HBl⟩ := hrel
      by_cases hlt : k < cap
      · have hkc : (k : Int) < (cap : Int) := by omega
        have hk0 : (0 : Int) ≤ (k : Int) := by omega
        obtain ⟨u0, y0, f0⟩ := HBl.out.cell (j := k * 2) (by omega)
        obtain ⟨A0, hA0⟩ : ∃ A0, wr.setCell ⟨g, k * 2, none⟩ (.int .i64 (-5)) = A0 := ⟨_, rfl⟩
        have HBl0 : Hid (Blk A0 g (cap * 2)) := by rw [← hA0]; exact HBl.out.set _ _
        obtain ⟨u1, y1, f1⟩ := HBl0.out.cell (j := k * 2 + 1) (by omega)
        obtain ⟨A1, hA1⟩ : ∃ A1, A0.setCell ⟨g, k * 2 + 1, none⟩ (.float .f64 4617315517961601024) = A1 := ⟨_, rfl⟩
        have HBl1 : Hid (Blk A1 g (cap * 2)) := by rw [← hA1]; exact HBl0.out.set _ _
        have HG1 : Hid (w3.grownBy A1 (some g)) := by rw [← hA1, ← hA0]; exact gby_set (gby_set HGr.out _ _) _ _
        go_wp2_with fail
        exact ⟨⟨k + 1, by omega, by go_num, HG1.out, HBl1.out⟩, by simp [intOf]; omega⟩
      · obtain rfl : k = cap := by omega
        have hkk : ¬ (k : Int) < (k : Int) := by omega
        have HGo : Hid (w3.grownBy wr o) := by rw [HOo.out]; exact HGr.out
        go_wp2_with fail
        have HT5 : Hid (RdV wr a5 (smC xs)) := (H5.out.later HB3.out).gby HGo.out HO.out.2.2
        have HT2 : Hid (RdV wr a2 (smC xs)) := (HW2.out.1.later HW3.out.2.2).gby HGo.out (fun g e q => by have := HLo.out g q; have := HW2.out.2.1 g e; have := HW1.out.2.2.size; omega)
        have HT1 : Hid (RdV wr a1 (smC G)) := (HW1.out.1.later (ybt' HW2.out.2.2 HW3.out.2.2)).gby HGo.out (fun g e q => by have := HLo.out g q; have := HW1.out.2.1 g e; omega)
        have HTb : Hid (RdV wr b (smC G)) := (HBv.out.later HB3.out).gby HGo.out HO.out.1
        have HTg : Hid (FBox wr go 39 #[.slice a5 n5 c5]) := (HBB.out.later HB3.out HBB.out.lt).gby HGo.out HO.out.2.1
        have HTi : Hid (RdV wr (some ⟨g3, 0, none⟩) [.slice a2 n5 cp2]) := HW3.out.1.gby HGo.out (fun g e q => by have := HLo.out g q; have := HW3.out.2.1 g e; have := HW1.out.2.2.size; have := HW2.out.2.2.size; omega)
        have HGw : Hid (w.grownBy wr o) := gby_trans (gby_of HB3.out) HGo.out
        have i0c : wr.cell? ⟨g3, 0, none⟩ = some (.slice a2 n5 cp2) := by
          rcases HTi.out with h | ⟨g, ha, _, hc⟩
          · cases h
          · injection ha with ha
            injection ha with ha
            subst ha
            exact hc 0 _ rfl
        have g0c : wr.cell? ⟨go, 0, none⟩ = some (.slice a5 n5 c5) := HTg.out.cell 0
        have hs9 : wr.drew.cell? ⟨g3, 0, none⟩ = some (.slice a2 n5 cp2) ∧ wr.drew.cell? ⟨go, 0, none⟩ = some (.slice a5 n5 c5) := ⟨i0c, g0c⟩
        have HSm : Hid (Calls Try.prog 39 #[.slice a2 n5 cp2, .slice a5 n5 c5] wr.drew fun e w' => e = .returned (.bool true) ∧ Below wr.drew.heap.size wr.drew w') := by
          have q := esameS_any a2 a5 cp2 c5 xs wr.drew (by omega) (HT2.out.later ((Below.refl _ _).drew)) (HT5.out.later ((Below.refl _ _).drew))
          rw [h5l] at q
          exact q
        go_wp2_with fail
        refine wp_loop_rounds 2 ?_
        rw [rounds_succ]
        go_wp2_with fail
        go_region_held3 (fun V : World => V.cell? ⟨g3, 0, none⟩ = some (.slice a2 n5 cp2) ∧ V.cell? ⟨go, 0, none⟩ = some (.slice a5 n5 c5)) (first | exact hs9 | exact hs10)
          ((go_at_call 39; (with_reducible refine Calls.mono HSm.out ?_); rintro e w7 ⟨rfl, hb7⟩; have hb7' : Below wr.heap.size wr w7 := (Below.refl wr.heap.size wr).drew.trans hb7; have HB7 := hid hb7'; have hs10 : w7.cell? ⟨g3, 0, none⟩ = some (.slice a2 n5 cp2) ∧ w7.cell? ⟨go, 0, none⟩ = some (.slice a5 n5 c5) := ⟨(hb7'.cell (p := ⟨g3, 0, none⟩) (by rcases HTi.out with h | ⟨g, ha, hl, _⟩; (· cases h); (· injection ha with ha; injection ha with ha; subst ha; exact hl))).trans i0c, (hb7'.cell (p := ⟨go, 0, none⟩) HTg.out.lt).trans g0c⟩))
        all_goals
          have HSn : Hid (Calls Try.prog 39 #[.slice a1 nb cp1, .slice b nb cb] w7 fun e w' => e = .returned (.bool true) ∧ Below w7.heap.size w7 w') := by
            have q := esameS_any a1 b cp1 cb G w7 (by omega) (HT1.out.later HB7.out) (HTb.out.later HB7.out)
            rw [hbl] at q
            exact q
          clear hs9 hs10 hb7 hb7' i0c g0c HSm
          go_wp2_with fail
          rw [rounds_succ]
          go_wp2_with fail
          refine Calls.mono HSn.out ?_
          rintro e w8 ⟨rfl, hb8⟩
          have HB8 := hid (gby_trans HGw.out (gby_of (o := o) (ybt' HB7.out hb8)))
          clear hb8 HSn
          go_wp2_with fail
          go_ret
          exact ⟨rfl, HB8.out⟩
end Go.Proofs.Ytblfemmhhijeeaa

/- The law CleanFill answers true, whatever samples and places come in. -/
namespace Go.Proofs.Ytblfemmhhijeeaa
open Go.RowKit
set_option linter.unusedVariables false
set_option linter.unusedSimpArgs false

theorem eshape {w : World} {base e s : Nat} {v : Value} {n : Nat} {xs : List Value} (h : w.ownsRow base e s v n xs) : ∃ a cap, v = .slice a n cap ∧ RdV w a xs ∧ (a = none → cap = 0 ∧ n = 0) ∧ ∀ g, a = some ⟨g, 0, none⟩ → base ≤ g ∧ g < w.heap.size := by
  obtain ⟨a, cap, hv, hV⟩ := yshape h
  refine ⟨a, cap, hv, hV, fun e => ?_, fun g e => ?_⟩
  · rcases h.2 with ⟨h1, h0⟩ | ⟨g, cap', cur, h1, _⟩
    · rw [hv] at h1
      injection h1 with _ h2 h3
      exact ⟨h3, h2⟩
    · rw [hv, e] at h1
      cases h1
  · exact h.lt g (by rw [hv, e]; rfl)
theorem WoC.rows {zs : List Int} {n m : Nat} {e f : Int} {v u : Value} {W V : World} {b1 b2 : Nat} {xs : List (Int × Nat)} (h : WoC zs n m e v (W.ownsRow b1 46 2 v (woL xs zs n).length (smC (woL xs zs n)))) (g : WoC zs n m f u (V.ownsRow b2 46 2 u (woL xs zs n).length (smC (woL xs zs n)))) :
    e = f ∧ ∃ M : List (Int × Nat), M.length ≤ 4096 ∧ W.ownsRow b1 46 2 v M.length (smC M) ∧ V.ownsRow b2 46 2 u M.length (smC M) := by
  have nil : ∀ (X : World) (b : Nat), X.ownsRow b 46 2 (.slice none 0 0) ([] : List (Int × Nat)).length (smC []) := fun X b => World.ownsRow_nil _ _ _ _
  rcases h with ⟨h0, h1, h2⟩ | ⟨h0, h3, h4, h1, h2⟩ | ⟨h0, h3, h4, h1, h2⟩
  · rcases g with ⟨g0, g1, g2⟩ | ⟨g0, g3, g4, g1, g2⟩ | ⟨g0, g3, g4, g1, g2⟩
    · exact ⟨by rw [h1, g1], [], by simp, by rw [h2]; exact nil _ _, by rw [g2]; exact nil _ _⟩
    · omega
    · omega
  · rcases g with ⟨g0, g1, g2⟩ | ⟨g0, g3, g4, g1, g2⟩ | ⟨g0, g3, g4, g1, g2⟩
    · omega
    · exact ⟨by rw [h1, g1], [], by simp, by rw [h2]; exact nil _ _, by rw [g2]; exact nil _ _⟩
    · exact absurd g4 h4
  · rcases g with ⟨g0, g1, g2⟩ | ⟨g0, g3, g4, g1, g2⟩ | ⟨g0, g3, g4, g1, g2⟩
    · omega
    · exact absurd h4 g4
    · exact ⟨by rw [h1, g1], _, Nat.le_trans (woL_len xs zs n) h0, h2, g2⟩
theorem FilC.rows {xs : List (Int × Nat)} {e f : Int} {v u : Value} {W V : World} {b1 b2 : Nat} (hx : ∀ p ∈ xs, p.2 < 18446744073709551616) (h : FilC xs e v (fun F => W.ownsRow b1 46 2 v F.length (smC F))) (g : FilC xs f u (fun F => V.ownsRow b2 46 2 u F.length (smC F))) :
    e = f ∧ ∃ M : List (Int × Nat), M.length ≤ 4096 ∧ (∀ p ∈ M, isone p.2 = true ∧ p.2 < 18446744073709551616) ∧ W.ownsRow b1 46 2 v M.length (smC M) ∧ V.ownsRow b2 46 2 u M.length (smC M) := by
  have nil : ∀ (X : World) (b : Nat), X.ownsRow b 46 2 (.slice none 0 0) ([] : List (Int × Nat)).length (smC []) := fun X b => World.ownsRow_nil _ _ _ _
  obtain ⟨he, hc⟩ := h.both g
  refine ⟨he, ?_⟩
  rcases hc with ⟨h1, h2⟩ | ⟨F, h1, h2, h3, h4, h5⟩
  · exact ⟨[], by simp, (fun p hp => (by cases hp)), (by rw [h1]; exact nil _ _), (by rw [h2]; exact nil _ _)⟩
  · exact ⟨F, h2, fun p hp => ⟨h1 p hp, h3.lt (fun q hq => hx q (List.mem_filter.1 hq).1) p hp⟩, h4, h5⟩
theorem Blk.gby {W W' : World} {o : Option Nat} {g sz : Nat} (h : Blk W g sz) (hg : W.grownBy W' o) (ho : o ≠ some g) : Blk W' g sz := by
  obtain ⟨cur, hc, hs⟩ := h
  exact ⟨cur, (hg.block g (Array.getElem?_eq_some_iff.1 hc).1 (fun e => ho e.symm)).trans hc, hs⟩
theorem Ovr.gby {W W' : World} {v : Value} {o o' : Option Nat} (h : Ovr W v o) (hg : W.grownBy W' o') (ho : ∀ g, o = some g → o' ≠ some g) : Ovr W' v o := by
  rcases h with h | ⟨g, n, cap, h1, h2, h3, h4, h5⟩
  · exact .inl h
  · exact .inr ⟨g, n, cap, h1, h2, h3, h4, h5.gby hg (ho g h2)⟩
theorem Ovr.later {W W' : World} {v : Value} {o : Option Nat} (h : Ovr W v o) (hb : Below W.heap.size W W') : Ovr W' v o := h.gby (o' := none) (gby_of hb) (fun g _ e => by cases e)
set_option maxHeartbeats 1600000 in
set_option maxRecDepth 100000 in
theorem cleanFill_skip (a : Option Addr) (n cap : Nat) (b : Option Addr) (m cb : Nat) (w : World) (h : (60 < n ∧ n ≤ 4096) ∨ (60 < m ∧ m ≤ 4096)) :
    Calls Try.prog 8 #[.slice a n cap, .slice b m cb] w fun e w' => e = .returned (.bool true) ∧ Below w.heap.size w w' := by
  have HL := hid (elives_any w)
  have c1 : ((60 : Int) < (n : Int)) ∨ ¬ ((60 : Int) < (n : Int)) := Decidable.em _
  have c2 : ((n : Int) ≤ 4096) ∨ ¬ ((n : Int) ≤ 4096) := Decidable.em _
  by_cases q1 : 60 < n ∧ n ≤ 4096
  · have h1 : (60 : Int) < (n : Int) := by omega
    have h2 : (n : Int) ≤ 4096 := by omega
    clear c1 c2 h q1
    go_enter Try.func8, Try.ntmps8
    go_wp2_with fail
    refine Calls.mono HL.out ?_
    rintro e w1 ⟨rfl, hb1⟩
    have HB := hid hb1
    clear hb1 HL
    go_wp2_with fail
    go_ret
    exact ⟨rfl, HB.out⟩
  · have h3 : (60 : Int) < (m : Int) := by omega
    have h4 : (m : Int) ≤ 4096 := by omega
    by_cases q2 : 60 < n
    · have h1 : (60 : Int) < (n : Int) := by omega
      have h2 : ¬ (n : Int) ≤ 4096 := by omega
      clear c1 c2 h q1 q2
      go_enter Try.func8, Try.ntmps8
      go_wp2_with fail
      refine Calls.mono HL.out ?_
      rintro e w1 ⟨rfl, hb1⟩
      have HB := hid hb1
      clear hb1 HL
      go_wp2_with fail
      go_ret
      exact ⟨rfl, HB.out⟩
    · have h1 : ¬ (60 : Int) < (n : Int) := by omega
      clear c1 c2 h q1 q2
      go_enter Try.func8, Try.ntmps8
      go_wp2_with fail
      refine Calls.mono HL.out ?_
      rintro e w1 ⟨rfl, hb1⟩
      have HB := hid hb1
      clear hb1 HL
      go_wp2_with fail
      go_ret
      exact ⟨rfl, HB.out⟩
set_option maxHeartbeats 12800000 in
set_option maxRecDepth 100000 in
theorem cleanFill_go (a : Option Addr) (n cap : Nat) (xs : List (Int × Nat)) (b : Option Addr) (m cb : Nat) (zs : List Int) (w : World) (hn : ¬ (60 < n ∧ n ≤ 4096)) (hm : ¬ (60 < m ∧ m ≤ 4096)) (hn1 : n ≤ 1048576) (hm1 : m ≤ 1048576)
    (hz : a = none → cap = 0 ∧ n = 0) (hzb : b = none → cb = 0 ∧ m = 0) (hl : xs.length = n) (hlz : zs.length = m) (hx : ∀ p ∈ xs, I64 p.1 ∧ p.2 < 18446744073709551616) (hzi : ∀ z ∈ zs, I64 z) (h : RdS w a xs) (hb : RdZ w b zs) :
    Calls Try.prog 8 #[.slice a n cap, .slice b m cb] w fun e w' => e = .returned (.bool true) ∧ Below w.heap.size w w' := by
  have HLi := hid (elives_any w)
  have HX := hid hx
  have HZI := hid hzi
  have HD := hid h
  have HE := hid hb
  have HZ := hid (And.intro hz hzb)
  have HNM := hid (And.intro hn1 hm1)
  have KEY : Hid (∀ (V : World), Below w.heap.size w V → Calls Try.prog 29 #[.slice a n cap] V fun e w' => ∃ v, e = .returned v ∧ w'.ownsRow V.heap.size 46 2 v (n + 3) (smC (xs ++ smarks 3)) ∧ Below V.heap.size V w') := fun V hV => elentS_any a n cap xs V (by omega) hl hz (h.later (B := 0) hV)
  have KEZ : Hid (∀ (V : World), Below w.heap.size w V → Calls Try.prog 36 #[.slice b m cb] V fun e w' => ∃ v, e = .returned v ∧ w'.ownsRow V.heap.size 3 1 v (m + 3) ((zs ++ imarks 3).map (Value.int .i64)) ∧ Below V.heap.size V w') := fun V hV => elentI_any b m cb zs V (by omega) hlz hzb (hb.later hV)
  have KP : Hid (∀ (V : World) (b' : Option Addr) (c' : Nat), Below w.heap.size w V → RdV V b' (smC (xs ++ smarks 3)) → Calls Try.prog 31 #[.slice b' (n + 3) c', .slice a n cap] V fun e w' => e = .returned (.bool true) ∧ Below V.heap.size V w') := fun V b' c' hV hq => ekeptS_any a b' n cap c' xs V (by omega) hl hz (h.later (B := 0) hV) hq
  have KZ : Hid (∀ (V : World) (b' : Option Addr) (c' : Nat), Below w.heap.size w V → RdV V b' ((zs ++ imarks 3).map (Value.int .i64)) → Calls Try.prog 40 #[.slice b' (m + 3) c', .slice b m cb] V fun e w' => e = .returned (.bool true) ∧ Below V.heap.size V w') := fun V b' c' hV hq => ekeptI_any b b' m cb c' zs V (by omega) hlz hzb (hb.later hV) hq
  have hg : ((60 : Int) < (n : Int) ∧ (60 : Int) < (m : Int)) ∨ ((60 : Int) < (n : Int) ∧ ¬ (60 : Int) < (m : Int)) ∨ (¬ (60 : Int) < (n : Int) ∧ (60 : Int) < (m : Int)) ∨ (¬ (60 : Int) < (n : Int) ∧ ¬ (60 : Int) < (m : Int)) := by omega
  clear h hb hx hzi hz hzb
  rcases hg with ⟨g1, g2⟩ | ⟨g1, g2⟩ | ⟨g1, g2⟩ | ⟨g1, g2⟩
  all_goals
    try (have g3 : ¬ ((n : Int) ≤ 4096) := by omega)
    try (have g4 : ¬ ((m : Int) ≤ 4096) := by omega)
    clear hn hm hn1 hm1
    go_enter Try.func8, Try.ntmps8
    go_wp2_with fail
    refine Calls.mono HLi.out ?_
    rintro e w1 ⟨rfl, hb1⟩
    have HB1 := hid hb1
    have HK := hid (KEY.out w1 hb1)
    clear hb1 HLi
    go_wp2_with fail
    refine Calls.mono HK.out ?_
    rintro e w2 ⟨v2, rfl, ho2, hb2⟩
    obtain ⟨a2, c2, rfl, hV2, hz2, hg2⟩ := eshape ho2
    have hcap : n + 3 ≤ c2 := by
      rcases ho2.2 with ⟨h1, h0⟩ | ⟨g, cc, cur, h1, h2, h3, h4, h5, h6⟩
      · omega
      · injection h1 with e1 e2 e3
        omega
    obtain ⟨ad, rfl⟩ : ∃ ad, a2 = some ad := by
      cases a2 with
      | none => have := (hz2 rfl).2; omega
      | some ad => exact ⟨ad, rfl⟩
    have HV2 := hid hV2
    have HG2 : Hid (∀ g, (some ad) = some (⟨g, 0, none⟩ : Addr) → g < w2.heap.size) := fun g e => (hg2 g e).2
    have HB2 := hid (ybt' HB1.out hb2)
    have HF2 : Hid (RdV w2 (some ad) (smC xs)) := by have q := hV2; rw [smC_append] at q; exact q.front
    have HK := hid (KEZ.out w2 HB2.out)
    clear ho2 hV2 hb2 hz2 hg2
    go_wp2_with fail
    refine Calls.mono HK.out ?_
    rintro e w3 ⟨v3, rfl, ho3, hb3⟩
    obtain ⟨a3, c3, rfl, hV3, hz3, hg3⟩ := eshape ho3
    have hcaz : m + 3 ≤ c3 := by
      rcases ho3.2 with ⟨h1, h0⟩ | ⟨g, cc, cur, h1, h2, h3, h4, h5, h6⟩
      · omega
      · injection h1 with e1 e2 e3
        omega
    obtain ⟨az, rfl⟩ : ∃ az, a3 = some az := by
      cases a3 with
      | none => have := (hz3 rfl).2; omega
      | some az => exact ⟨az, rfl⟩
    have HV3 := hid hV3
    have HF3 : Hid (RdV w3 (some az) (zs.map (Value.int .i64))) := by have q := hV3; rw [List.map_append] at q; exact q.front
    have HB3 := hid (ybt' HB2.out hb3)
    have HB23 := hid hb3
    have HWo := hid (ewithout_any (some ad) n c2 xs (some az) m c3 zs w3 hl hlz (RdS.of (HF2.out.later hb3)) (RdZ.of HF3.out))
    clear ho3 hV3 hb3 hz3 hg3 HK
    go_wp2_with fail
    refine Calls.mono HWo.out ?_
    rintro e w4 ⟨v4, e4, rfl, HC4, hb4⟩
    have HB4 := hid (ybt' HB3.out hb4)
    have HB34 := hid hb4
    have HWo := hid (rwithout_any a n cap xs b m cb zs w4 hl hlz (HD.out.later (B := 0) HB4.out) (HE.out.later HB4.out) HZI.out)
    clear hb4
    go_wp2_with fail
    refine Calls.mono HWo.out ?_
    rintro e w5 ⟨v5, e5, rfl, HC5, hb5⟩
    obtain ⟨he45, M, hMl, hM4, hM5⟩ := HC4.out.rows HC5.out
    subst he45
    obtain ⟨a4, c4, rfl, hV4, hz4, hg4'⟩ := eshape hM4
    obtain ⟨a5, c5, rfl, hV5, hz5, hg5⟩ := eshape hM5
    have HM := hid (And.intro hM4 (And.intro hV4 (And.intro hg4' hV5)))
    have HB5 := hid (ybt' HB4.out hb5)
    have HB35 := hid (ybt' HB34.out hb5)
    have HB45 := hid hb5
    have HFi := hid (efill_any (some ad) n c2 xs w5 (by have := HNM.out; omega) hl HX.out (RdS.of (HF2.out.later (ybt' HB23.out HB35.out))))
    clear hb5 HC4 HC5 HWo hM4 hM5 hV4 hV5 hz4 hz5 hg4' hg5
    go_wp2_with fail
    refine Calls.mono HFi.out ?_
    rintro e w6 ⟨v6, e6, rfl, HC6, hb6⟩
    have HB6 := hid (ybt' HB5.out hb6)
    have HB56 := hid hb6
    have HFi := hid (rfill_any a n cap xs w6 (by have := HNM.out; omega) hl HX.out (HD.out.later (B := 0) HB6.out))
    clear hb6
    go_wp2_with fail
    refine Calls.mono HFi.out ?_
    rintro e w7 ⟨v7, e7, rfl, HC7, hb7⟩
    obtain ⟨he67, F, hFl, hFo, hM6, hM7⟩ := FilC.rows (fun p hp => (HX.out p hp).2) HC6.out HC7.out
    subst he67
    obtain ⟨a6, c6, rfl, hV6, hz6, hg6⟩ := eshape hM6
    obtain ⟨a7, c7, rfl, hV7, hz7, hg7⟩ := eshape hM7
    have HF := hid (And.intro hM6 (And.intro hV6 (And.intro hg6 (And.intro hV7 hz6))))
    have HB7 := hid (ybt' HB6.out hb7)
    have HB57 := hid (ybt' HB56.out hb7)
    have HB67 := hid hb7
    have HS1 := hid (esameS_any a4 a5 c4 c5 M w7 (by omega) (HM.out.2.1.later (ybt' HB45.out HB57.out)) (HM.out.2.2.2.later HB57.out))
    clear hb7 HC6 HC7 HFi hM6 hM7 hV6 hV7 hz6 hz7 hg6 hg7
    go_wp2_with fail
    refine Calls.mono HS1.out ?_
    rintro e w8 ⟨rfl, hb8⟩
    have HB8 := hid (ybt' HB7.out hb8)
    have HB68 := hid (ybt' HB67.out hb8)
    have HB78 := hid hb8
    have HS2 := hid (esame_any a6 a7 c6 c7 F w8 (by omega) hFo (HF.out.2.1.later HB68.out) (HF.out.2.2.2.1.later HB78.out))
    clear hb8 HS1
    go_wp2_with fail
    refine Calls.mono HS2.out ?_
    rintro e w9 ⟨rfl, hb9⟩
    have HB9 := hid (ybt' HB8.out hb9)
    have HB69 := hid (ybt' HB68.out hb9)
    have HB29 : Hid (Below w2.heap.size w2 w9) := ybt' HB23.out (ybt' HB35.out (ybt' HB57.out (ybt' HB78.out hb9)))
    have HKp := hid (KP.out w9 (some ad) c2 HB9.out (HV2.out.later HB29.out))
    clear hb9 HS2
    go_wp2_with fail
    refine Calls.mono HKp.out ?_
    rintro e w10 ⟨rfl, hb10⟩
    have HB10 := hid (ybt' HB9.out hb10)
    have HB610 := hid (ybt' HB69.out hb10)
    have HB210 := hid (ybt' HB29.out hb10)
    have HB310 : Hid (Below w3.heap.size w3 w10) := ybt' HB35.out (ybt' HB56.out HB610.out)
    have HKz := hid (KZ.out w10 (some az) c3 HB10.out (HV3.out.later HB310.out))
    clear hb10 HKp
    go_wp2_with fail
    refine Calls.mono HKz.out ?_
    rintro e w11 ⟨rfl, hb11⟩
    have HB11 := hid (ybt' HB10.out hb11)
    have HB611 := hid (ybt' HB610.out hb11)
    have HB211 := hid (ybt' HB210.out hb11)
    clear hb11 HKz
    obtain ⟨X, hX⟩ : ∃ X, w11.alloc (.cells #[.slice (some ad) n c2] 39) = X := ⟨_, rfl⟩
    have HBX : Hid (Below w11.heap.size w11 X) := by rw [← hX]; exact (Below.refl _ _).alloc (Nat.le_refl _) _
    have HFX : Hid (FBox X w11.heap.size 39 #[.slice (some ad) n c2]) := by rw [← hX]; exact FBox.made _ _ _
    have HB6X := hid (ybt' HB611.out HBX.out)
    have HB2X := hid (ybt' HB211.out HBX.out)
    have HB4X : Hid (Below w4.heap.size w4 X) := ybt' HB45.out (ybt' HB56.out HB6X.out)
    have HSz : Hid (w.heap.size ≤ w2.heap.size ∧ w2.heap.size ≤ w3.heap.size ∧ w3.heap.size ≤ w4.heap.size ∧ w4.heap.size ≤ w5.heap.size ∧ w5.heap.size ≤ w6.heap.size ∧ w6.heap.size ≤ w11.heap.size) := ⟨HB2.out.size, HB23.out.size, HB34.out.size, HB45.out.size, HB56.out.size, HB611.out.size⟩
    have HA4 : Hid (∀ g, (Value.slice a4 M.length c4).ownBlock = some g → w3.heap.size ≤ g ∧ g < w4.heap.size) := fun g e => HM.out.1.lt g e
    have HA6 : Hid (∀ g, (Value.slice a6 F.length c6).ownBlock = some g → w5.heap.size ≤ g ∧ g < w6.heap.size) := fun g e => HF.out.1.lt g e
    have HAp := hid (eapart_any (.slice a4 M.length c4) (Value.slice a4 M.length c4).ownBlock a6 F.length c6 F (some ad) n c2 w11.heap.size xs X
      ((Ovr.of HM.out.1).later HB4X.out) (HF.out.2.1.later HB6X.out) rfl (by omega) HF.out.2.2.2.2 (fun g e q => by have := HA4.out g q; have := HF.out.2.2.1 g e; have := HSz.out; omega)
      HFX.out (fun q => by have := HA4.out _ q; have := HSz.out; omega) (HF2.out.later HB2X.out) hl (by have := HNM.out; omega) (fun e => by cases e) (fun g e q => by have := HA4.out g q; have := HG2.out g e; have := HSz.out; omega))
    go_wp2_with fail
    refine Calls.mono HAp.out ?_
    rintro e w12 ⟨rfl, hg12⟩
    have HG12 := hid hg12
    clear hg12 HAp
    obtain ⟨Z, hZ⟩ : ∃ Z, w12.alloc (.cells #[.slice (some ad) n c2] 39) = Z := ⟨_, rfl⟩
    have HBZ : Hid (Below w12.heap.size w12 Z) := by rw [← hZ]; exact (Below.refl _ _).alloc (Nat.le_refl _) _
    have HFZ : Hid (FBox Z w12.heap.size 39 #[.slice (some ad) n c2]) := by rw [← hZ]; exact FBox.made _ _ _
    have hszX : w11.heap.size ≤ X.heap.size := HBX.out.size
    have hszZ : X.heap.size ≤ w12.heap.size := HG12.out.size
    have HAp := hid (eapart_any (.slice a6 F.length c6) (Value.slice a6 F.length c6).ownBlock none 0 0 [] (some ad) n c2 w12.heap.size xs Z
      ((((Ovr.of HF.out.1).later HB6X.out).gby HG12.out (fun g q q2 => by have := HA4.out g q2; have := HA6.out g q; have := HSz.out; omega)).later HBZ.out) (.inl rfl) rfl (by omega) (fun _ => ⟨rfl, rfl⟩) (fun g e => by cases e)
      HFZ.out (fun q => by have := HA6.out _ q; have := HSz.out; omega) (((HF2.out.later HB2X.out).gby HG12.out (fun g e q => by have := HA4.out g q; have := HG2.out g e; have := HSz.out; omega)).later HBZ.out) hl (by have := HNM.out; omega) (fun e => by cases e) (fun g e q => by have := HA6.out g q; have := HG2.out g e; have := HSz.out; omega))
    have HFin : Hid (Below w.heap.size w Z) := by
      have q1 : Below w.heap.size w X := ybt' HB11.out HBX.out
      have q2 : Below w.heap.size X w12 := gby_below HG12.out (by have := HSz.out; omega) (fun g q => by have := HA4.out g q; have := HSz.out; omega)
      exact (q1.trans q2).trans (HBZ.out.mono (by have := HSz.out; omega))
    go_wp2_with fail
    refine Calls.mono HAp.out ?_
    rintro e w13 ⟨rfl, hg13⟩
    have HEnd : Hid (Below w.heap.size w w13) := HFin.out.trans (gby_below hg13 (by have := HSz.out; have := HBZ.out.size; omega) (fun g q => by have := HA6.out g q; have := HSz.out; omega))
    clear hg13 HAp
    go_wp2_with fail
    go_ret
    exact ⟨rfl, HEnd.out⟩
theorem cleanFill_in (a : Option Addr) (n cap : Nat) (xs : List (Int × Nat)) (b : Option Addr) (m cb : Nat) (zs : List Int) (w : World) (h : (a = none → n = 0 ∧ cap = 0) ∧ n ≤ cap ∧ cap ≤ maxLen ∧ xs.length = n ∧ (∀ p ∈ xs, I64 p.1 ∧ p.2 < 18446744073709551616) ∧ RdS w a xs) (g : (b = none → m = 0 ∧ cb = 0) ∧ m ≤ cb ∧ cb ≤ maxLen ∧ zs.length = m ∧ (∀ z ∈ zs, I64 z) ∧ RdZ w b zs) (hm : n ≤ 1048576) (hm2 : m ≤ 1048576) :
    Calls Try.prog 8 #[.slice a n cap, .slice b m cb] w fun e w' => e = .returned (.bool true) ∧ Below w.heap.size w w' := by
  by_cases hn : (60 < n ∧ n ≤ 4096) ∨ (60 < m ∧ m ≤ 4096)
  · exact cleanFill_skip a n cap b m cb w hn
  · exact cleanFill_go a n cap xs b m cb zs w (fun e => hn (.inl e)) (fun e => hn (.inr e)) hm hm2 (fun e => ⟨(h.1 e).2, (h.1 e).1⟩) (fun e => ⟨(g.1 e).2, (g.1 e).1⟩) h.2.2.2.1 g.2.2.2.1 h.2.2.2.2.1 g.2.2.2.2.1 h.2.2.2.2.2 g.2.2.2.2.2
end Go.Proofs.Ytblfemmhhijeeaa

