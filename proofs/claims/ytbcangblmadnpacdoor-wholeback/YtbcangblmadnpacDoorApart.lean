/- slackwaterkit.ApartWords answers true of lists that lie in blocks of their own, each in another one; below them nothing is written. -/
import Derived.Test.YtbcangblmadnpacDoorSl
import Derived.Deep.RegionWith
namespace Go.Proofs.YtbcangblmadnpacDoor
open Go.RowKit
set_option linter.unusedVariables false

theorem Tryd.infoL : (Tryd.prog.info? 22).map (fun i => (i.zero, i.size, i.bytes)) = some (some (.slice none 0 0), 1, 24) := by kernel_rfl

/-- A list of lists that lie apart from each other, from block number 'base' on; 'bl': the block of the list itself. -/
structure Lists (w : World) (base bl m : Nat) (V : Nat → Value) (X : Nat → List Int) : Prop where
  wd : ∀ j, j < m → Wd (X j)
  len : ∀ j, j < m → (X j).length ≤ 1099511627776
  own : ∀ j, j < m → w.ownsRow base 40 1 (V j) (X j).length ((X j).map (Value.int .u32))
  apart : ∀ i j, i < m → j < m → i ≠ j → (V i).ownBlock = none ∨ (V i).ownBlock ≠ (V j).ownBlock
  row : ∃ cl : Array Value, w.heap[bl]? = some (.cells cl 22 (0, 0)) ∧ ∀ j, j < m → cl[j]? = some (V j)

theorem block_lt {w : World} {g : Nat} {o : Obj} (h : w.heap[g]? = some o) : g < w.heap.size := by
  have : w.heap[g]?.isSome := by rw [h]; rfl
  simpa using this

/-- The first loop: of the first k lists a copy lies in 'was' (block gw). -/
def I1 (w : World) (m : Nat) (X : Nat → List Int) (k : Nat) (wr : World) : Prop :=
  ∃ us : List Value, us.length = m ∧ wr.heap[w.heap.size]? = some (.cells us.toArray 22 (0, 0)) ∧
    (∀ j, j < k → ∃ u, us[j]? = some u ∧ wr.ownsRow (w.heap.size + 1) 40 1 u (X j).length ((X j).map (Value.int .u32))) ∧ Below w.heap.size w wr

theorem I1.step {w wr w1 : World} {m k : Nat} {X : Nat → List Int} {v : Value} (h : I1 w m X k wr) (hk : k < m)
    (ho : w1.ownsRow wr.heap.size 40 1 v (X k).length ((X k).map (Value.int .u32))) (hb : Below wr.heap.size wr w1) : I1 w m X (k + 1) (w1.setCell ⟨w.heap.size, k, none⟩ v) := by
  obtain ⟨us, hl, hg, hu, hbel⟩ := h
  have hgw := block_lt hg
  have hg1 : w1.heap[w.heap.size]? = some (.cells us.toArray 22 (0, 0)) := (hb.block _ hgw).trans hg
  refine ⟨us.set k v, by simpa using hl, ?_, ?_, (hbel.trans (hb.mono hbel.size)).setCell (Nat.le_refl _) _⟩
  · rw [heap_setCell_same w1 w.heap.size k us.toArray 22 v hg1]
    simp
  · intro j hj
    by_cases e : j = k
    · subst e
      exact ⟨v, by simp [hl, hk], ownsRow_setCell_below (owns_base ho (by omega)) (by simp) _⟩
    · obtain ⟨u, h1, h2⟩ := hu j (by omega)
      exact ⟨u, by rw [List.getElem?_set, if_neg (by omega)]; exact h1, ownsRow_setCell_below (owns_later h2 hb) (by simp) _⟩

/-- The second loop: the first k lists are written over; the copies are as they were. -/
structure I2 (w : World) (base bl gw m : Nat) (V U : Nat → Value) (X : Nat → List Int) (k : Nat) (wr : World) : Prop where
  lists : ∀ j, j < m → wr.ownsRow base 40 1 (V j) (X j).length ((if j < k then compl (X j) else X j).map (Value.int .u32))
  was : ∀ j, j < m → wr.ownsRow (gw + 1) 40 1 (U j) (X j).length ((X j).map (Value.int .u32))
  low : ∀ j, j < m → ∀ g, (V j).ownBlock = some g → g < gw
  rowL : ∃ cl : Array Value, wr.heap[bl]? = some (.cells cl 22 (0, 0)) ∧ ∀ j, j < m → cl[j]? = some (V j)
  rowW : ∃ cl : Array Value, wr.heap[gw]? = some (.cells cl 22 (0, 0)) ∧ ∀ j, j < m → cl[j]? = some (U j)
  below : Below base w wr

theorem I2.later {w wr wa : World} {base bl gw m k : Nat} {V U : Nat → Value} {X : Nat → List Int} (h : I2 w base bl gw m V U X k wr) (hb : Below wr.heap.size wr wa) (hbs : base ≤ wr.heap.size) : I2 w base bl gw m V U X k wa where
  lists j hj := owns_later (h.lists j hj) hb
  was j hj := owns_later (h.was j hj) hb
  low := h.low
  rowL := by
    obtain ⟨cl, h1, h2⟩ := h.rowL
    exact ⟨cl, (hb.block _ (block_lt h1)).trans h1, h2⟩
  rowW := by
    obtain ⟨cl, h1, h2⟩ := h.rowW
    exact ⟨cl, (hb.block _ (block_lt h1)).trans h1, h2⟩
  below := h.below.trans (hb.mono hbs)

theorem I2.step {w wa wb : World} {base bl gw m k : Nat} {V U : Nat → Value} {X : Nat → List Int} (h : I2 w base bl gw m V U X k wa) (hk : k < m) (hbs : base ≤ wa.heap.size)
    (ap : ∀ i j, i < m → j < m → i ≠ j → (V i).ownBlock = none ∨ (V i).ownBlock ≠ (V j).ownBlock)
    (ho : wb.ownsRow base 40 1 (V k) (X k).length ((compl (X k)).map (Value.int .u32))) (hg : wa.grownBy wb (V k).ownBlock) : I2 w base bl gw m V U X (k + 1) wb where
  lists j hj := by
    by_cases e : j = k
    · subst e; rw [if_pos (by omega)]; exact ho
    · have := (h.lists j hj).kept hg (ap j k hj hk e)
      by_cases e2 : j < k
      · rw [if_pos e2] at this; rw [if_pos (by omega)]; exact this
      · rw [if_neg e2] at this; rw [if_neg (by omega)]; exact this
  was j hj := by
    refine (h.was j hj).kept hg ?_
    cases hv : (U j).ownBlock with
    | none => exact .inl rfl
    | some g =>
      right
      intro e
      have h1 := ((h.was j hj).lt g hv).1
      have h2 := h.low k hk g e.symm
      omega
  low := h.low
  rowL := by
    obtain ⟨cl, h1, h2⟩ := h.rowL
    refine ⟨cl, ?_, h2⟩
    rw [hg.block bl (block_lt h1) (fun e => ?_)]
    · exact h1
    · rcases (h.lists k hk).2 with ⟨hv, _⟩ | ⟨g, cap, cur, hv, _, hgc, _⟩
      · rw [hv] at e; simp [Value.ownBlock] at e
      · rw [hv] at e
        simp [Value.ownBlock] at e
        subst e
        rw [h1] at hgc
        simp at hgc
  rowW := by
    obtain ⟨cl, h1, h2⟩ := h.rowW
    refine ⟨cl, ?_, h2⟩
    rw [hg.block gw (block_lt h1) (fun e => ?_)]
    · exact h1
    · have := h.low k hk gw e.symm
      omega
  below := h.below.grown hg hbs (fun g e => ((h.lists k hk).lt g e).1)

theorem row_cell {w : World} {g m e : Nat} {V : Nat → Value} (h : ∃ cl : Array Value, w.heap[g]? = some (.cells cl e (0, 0)) ∧ ∀ j, j < m → cl[j]? = some (V j)) (j : Nat) (hj : j < m) : w.cell? ⟨g, j, none⟩ = some (V j) := by
  obtain ⟨cl, h1, h2⟩ := h
  rw [cell_of_row w g j cl e (0, 0) h1]; exact h2 j hj

set_option maxHeartbeats 3200000 in
set_option maxRecDepth 100000 in
theorem apart_any (base bl m : Nat) (V : Nat → Value) (X : Nat → List Int) (w : World) (h : Lists w base bl m V X) (hm : m ≤ 1000) (hbs : base ≤ w.heap.size) :
    Calls Tryd.prog 14 #[.slice (some ⟨bl, 0, none⟩) m m] w fun e w' => e = .returned (.bool true) ∧ Below base w w' := by
  obtain ⟨i0, hi, hz0, hz1, hz2⟩ := info_parts Tryd.infoL
  obtain ⟨hwd, hlen, hown, hap, hrow⟩ := h
  have hbl : bl < w.heap.size := by obtain ⟨cl, h1, _⟩ := hrow; exact block_lt h1
  have HO := hid hown
  have HA := hid hap
  have HR := hid hrow
  have HW := hid hwd
  have HN := hid hlen
  clear hown hap hrow hwd hlen
  go_enter Tryd.func14, Tryd.ntmps14
  go_wp2_with (at_make; refine wpList_make_full _ rfl _ _ 36 rfl w.heap.size 22 i0 (.slice none 0 0) 1 Tryd.underlying36 hi hz0 hz1 _ _ _ _ m rfl rfl (by omega) (by omega) (by rw [hz2]; omega) (by unfold maxLen; omega) (Nat.le_refl _) ?_)
  intro w1 hown1 hgrow1
  have H1 : Hid (I1 w m X 0 w1) := ⟨_, by have := hown1.1; omega, row_whole hown1, fun j hj => by omega, (Below.refl _ _).grown hgrow1 (Nat.le_refl _) (fun k hk => by simp at hk)⟩
  clear hown1 hgrow1
  go_wp2_with fail
  go_loopw [4] (fun t wr => ∃ k : Nat, k ≤ m ∧ t = .int .i64 k ∧ Hid (I1 w m X k wr)) (fun t _ => m - (intOf t).toNat)
  case atStart => exact ⟨0, by omega, rfl, H1⟩
  case round =>
    obtain ⟨k, hk, rfl, HI⟩ := hrel
    by_cases hlt : k < m
    · obtain ⟨us, ul, ug, uu, ub⟩ := HI.out
      have hgw := block_lt ug
      have ubs := ub.size
      have hcl : wr.cell? ⟨bl, k, none⟩ = some (V k) := (ub.cell (p := ⟨bl, k, none⟩) hbl).trans (row_cell HR.out k hlt)
      have hsl : Sl wr (V k) (X k) := (Sl.own (HO.out k hlt) (HW.out k hlt)).later ub
      have hX := HN.out k hlt
      have HS := hid hsl
      obtain ⟨a1, c1, hv, hr⟩ := hsl
      rw [hv] at hcl
      clear uu ub hr
      go_wp2_with fail
      rw [← hv]
      refine (copyWords_sl _ (X k) _ HS.out hX).mono ?_
      rintro e w2 ⟨v, rfl, ho2, hb2⟩
      have HI2 := hid (HI.out.step hlt ho2 hb2)
      have hc2 : w2.cell? ⟨w.heap.size, k, none⟩ = some (us.toArray[k]?.getD undef) := by
        rw [cell_of_row w2 w.heap.size k us.toArray 22 (0, 0) ((hb2.block _ hgw).trans ug)]
        simp [ul, hlt]
      have hf2 : w2.frozen? ⟨w.heap.size, k, none⟩ = false := frozen_of_row w2 w.heap.size k us.toArray 22 ((hb2.block _ hgw).trans ug)
      obtain ⟨a3, c3, hv3, _⟩ := Sl.own ho2 (HW.out k hlt)
      rw [hv3] at HI2 ⊢
      clear ho2 hb2 ug
      go_wp2_with fail
      go_roundw
      case rel => exact ⟨k + 1, by omega, by go_num, HI2⟩
      case measure => simp [intOf]; omega
    · have hkm : k = m := by omega
      subst hkm
      obtain ⟨us, ul, ug, uu, ub⟩ := HI.out
      obtain ⟨w2, hw2⟩ : ∃ w2 : World, w2 = wr := ⟨_, rfl⟩
      subst hw2
      obtain ⟨gw, hgw⟩ : ∃ gw, gw = w.heap.size := ⟨_, rfl⟩
      have H2 : Hid (I2 w base bl gw k V (fun j => us[j]?.getD undef) X 0 w2) := by
        subst hgw
        refine ⟨fun j hj => ?_, fun j hj => ?_, fun j hj g e => ((HO.out j hj).lt g e).2, ?_, ⟨us.toArray, ug, fun j hj => ?_⟩, ub.mono hbs⟩
        · rw [if_neg (by omega)]; exact owns_later (HO.out j hj) ub
        · obtain ⟨u, h1, h2⟩ := uu j hj
          simp only [h1]; exact h2
        · obtain ⟨cl, h1, h2⟩ := HR.out
          exact ⟨cl, (ub.block _ (block_lt h1)).trans h1, h2⟩
        · simp [ul, hj]
      obtain ⟨U, hU⟩ : ∃ U : Nat → Value, U = fun j => us[j]?.getD undef := ⟨_, rfl⟩
      rw [← hU] at H2
      have hgwl : gw < w2.heap.size := by rw [hgw]; exact block_lt ug
      have hb2 : base ≤ w2.heap.size := by omega
      rw [← hgw]
      clear hU ug uu ub HI ul hgw HO HR H1
      go_wp2_with fail
      go_loopw [5] (fun t wr => ∃ i : Nat, i ≤ k ∧ t = .int .i64 i ∧ Hid (I2 w base bl gw k V U X i wr) ∧ w2.heap.size ≤ wr.heap.size) (fun t _ => k - (intOf t).toNat)
      case atStart => exact ⟨0, by omega, rfl, H2, Nat.le_refl _⟩
      case round =>
        obtain ⟨i, hi', rfl, HJ, hws⟩ := hrel
        by_cases hlt : i < k
        · have hcl : wr.cell? ⟨bl, i, none⟩ = some (V i) := row_cell HJ.out.rowL i hlt
          have hcw : wr.cell? ⟨gw, i, none⟩ = some (U i) := row_cell HJ.out.rowW i hlt
          have sv : Sl wr (V i) (X i) := by
            have := HJ.out.lists i hlt
            rw [if_neg (by omega)] at this
            exact Sl.own this (HW.out i hlt)
          have su : Sl wr (U i) (X i) := Sl.own (HJ.out.was i hlt) (HW.out i hlt)
          have hX := HN.out i hlt
          obtain ⟨a1, c1, hv1, hr1⟩ := sv
          obtain ⟨a2, c2, hv2, hr2⟩ := su
          rw [hv1] at hcl
          rw [hv2] at hcw
          have hcld : wr.drew.cell? ⟨bl, i, none⟩ = some (.slice a1 (X i).length c1) := hcl
          have hcwd : wr.drew.cell? ⟨gw, i, none⟩ = some (.slice a2 (X i).length c2) := hcw
          have HC := hid (same_any a1 _ c1 (X i) a2 _ c2 (X i) wr.drew hr1 hr2 (by omega) (by omega))
          clear hr1 hr2
          go_wp2_with fail
          go_region_with (go_at_call 34; refine Calls.mono HC.out ?_; rintro e wa ⟨rfl, hba⟩)
          all_goals
            have hbw : Below wr.heap.size wr wa := ((Below.refl _ wr).drew).trans hba
            have HJ2 := hid (HJ.out.later hbw (by omega))
            have hsz2 := hbw.size
            have hcl2 : wa.cell? ⟨bl, i, none⟩ = some (V i) := row_cell HJ2.out.rowL i hlt
            rw [hv1] at hcl2
            have hown : wa.ownsRow base 40 1 (V i) (X i).length ((X i).map (Value.int .u32)) := by
              have := HJ2.out.lists i hlt
              rwa [if_neg (by omega)] at this
            have HOV := hid (over_sl base _ _ (X i) wa (HW.out i hlt) hown)
            have hdd : decide (X i = X i) = true := by simp
            clear hba hbw hown hcl hcw hcld hcwd HC
            go_wp2_with fail
            rw [← hv1]
            refine Calls.mono HOV.out ?_
            rintro e wb ⟨rfl, hob, hgb⟩
            have HJ3 := hid (HJ2.out.step hlt (by omega) HA.out hob hgb)
            have hs3 := hgb.size
            rw [hv1]
            clear hob hgb
            go_wp2_with fail
            go_roundw
            case rel => exact ⟨i + 1, by omega, by go_num, HJ3, by omega⟩
            case measure => simp [intOf]; omega
        · have hik : i = k := by omega
          subst hik
          obtain ⟨w3, hw3⟩ : ∃ w3 : World, w3 = wr := ⟨_, rfl⟩
          subst hw3
          have hws3 := hws
          have facts : ∀ wr, Below w3.heap.size w3 wr → ∀ c, c < i → ∃ a1 c1 a2 c2, wr.cell? ⟨bl, c, none⟩ = some (.slice a1 (X c).length c1) ∧ wr.cell? ⟨gw, c, none⟩ = some (.slice a2 (X c).length c2) ∧
              ((X c).length = 0 ∨ ∃ b1 o1 b2 o2, a1 = some ⟨b1, o1, none⟩ ∧ a2 = some ⟨b2, o2, none⟩ ∧ (∀ j, j < (X c).length → wr.cell? ⟨b1, o1 + j, none⟩ = some (.int .u32 (4294967295 - (X c)[j]?.getD 0))) ∧
                (∀ j, j < (X c).length → wr.cell? ⟨b2, o2 + j, none⟩ = some (.int .u32 ((X c)[j]?.getD 0)))) := by
            intro wr hb c hc
            have HJ' := HJ.out.later hb (by omega)
            have hcl : wr.cell? ⟨bl, c, none⟩ = some (V c) := row_cell HJ'.rowL c hc
            have hcw : wr.cell? ⟨gw, c, none⟩ = some (U c) := row_cell HJ'.rowW c hc
            have hl := HJ'.lists c hc
            rw [if_pos hc] at hl
            obtain ⟨a1, c1, hv1, r1⟩ := Reads.own hl (HW.out c hc).compl
            obtain ⟨a2, c2, hv2, r2⟩ := Reads.own (HJ'.was c hc) (HW.out c hc)
            refine ⟨a1, c1, a2, c2, by rw [hcl, hv1], by rw [hcw, hv2], ?_⟩
            by_cases h0 : (X c).length = 0
            · exact .inl h0
            · right
              rcases r1.2.2.1 with e | ⟨b1, o1, e1, _, g1⟩
              · omega
              · rcases r2.2.2.1 with e | ⟨b2, o2, e2, _, g2⟩
                · omega
                · exact ⟨b1, o1, b2, o2, e1, e2, fun j hj => by rw [g1 j hj, compl_get _ j hj], g2⟩
          have HB := hid HJ.out.below
          have HF := hid facts
          clear facts HJ H2 hi'
          go_wp2_with fail
          go_loopw [6] (fun t wr => ∃ c : Nat, c ≤ i ∧ t = .int .i64 c ∧ Below w3.heap.size w3 wr) (fun t _ => i - (intOf t).toNat)
          case atStart => exact ⟨0, by omega, rfl, Below.refl _ _⟩
          case round =>
            obtain ⟨c, hc, rfl, hb3⟩ := hrel
            by_cases hlt : c < i
            · obtain ⟨w4, hw4⟩ : ∃ w4 : World, w4 = wr := ⟨_, rfl⟩
              subst hw4
              have hX := HN.out c hlt
              have hwc := HW.out c hlt
              obtain ⟨n, hn⟩ : ∃ n, n = (X c).length := ⟨_, rfl⟩
              rw [← hn] at hX
              have HNN := hid hn
              clear hn
              go_wp2_with fail
              go_loopw [7] (fun t wr => ∃ k : Nat, k ≤ n ∧ t = .int .i64 k ∧ Below w3.heap.size w3 wr) (fun t _ => n - (intOf t).toNat)
              case atStart => exact ⟨0, by omega, rfl, hb3⟩
              case round =>
                obtain ⟨k, hk, rfl, hb4⟩ := hrel
                obtain ⟨a1, c1, a2, c2, f1, f2, f3⟩ := HF.out wr hb4 c hlt
                rw [← HNN.out] at f1 f2 f3
                by_cases hkn : k < n
                · rcases f3 with f3 | ⟨b1, o1, b2, o2, e1, e2, g1, g2⟩
                  · omega
                  · have x1 := g1 k hkn
                    have x2 := g2 k hkn
                    rw [e1] at f1
                    rw [e2] at f2
                    have hbd := hwc.at k
                    obtain ⟨z, hz⟩ : ∃ z, z = (X c)[k]?.getD 0 := ⟨_, rfl⟩
                    rw [← hz] at x1 x2 hbd
                    have hnot := not_u32 z hbd.1 hbd.2
                    have f1d : wr.drew.cell? ⟨bl, c, none⟩ = some (.slice (some ⟨b1, o1, none⟩) n c1) := f1
                    have f2d : wr.drew.cell? ⟨gw, c, none⟩ = some (.slice (some ⟨b2, o2, none⟩) n c2) := f2
                    have x1d : wr.drew.cell? ⟨b1, o1 + k, none⟩ = some (.int .u32 (4294967295 - z)) := x1
                    have x2d : wr.drew.cell? ⟨b2, o2 + k, none⟩ = some (.int .u32 z) := x2
                    have hne : (4294967295 - z != 4294967295 - z) = false := by simp
                    clear hz e1 e2 g1 g2
                    go_wp2
                    go_region
                    all_goals go_wp2
                    all_goals
                      go_roundw
                      case rel => exact ⟨k + 1, by omega, by go_num, hb4.drew⟩
                      case measure => simp [intOf]; omega
                · clear f3
                  go_wp2
                  go_roundw
                  case rel => exact ⟨c + 1, by omega, by go_num, hb4⟩
                  case measure => simp [intOf]; omega
            · go_wp2
              go_ret
              exact ⟨rfl, HB.out.trans (hb3.mono (by omega))⟩
end Go.Proofs.YtbcangblmadnpacDoor
