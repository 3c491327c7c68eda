/- nat.sum, nat.difference: the words of a sum, of a difference, in new memory: of every two lists that can be read. -/
import Derived.Test.YtbcangblmadnpacDoorTrim
import Derived.Test.YtbcangblmadnpacDoorArith
namespace Go.Proofs.YtbcangblmadnpacDoor
open Go.RowKit
set_option linter.unusedVariables false

/-- An own row while it is written: of the words ys, full to its capacity. -/
def OwnW (w : World) (base g n : Nat) (ys : List Int) : Prop := w.ownsRow base 40 1 (.slice (some ⟨g, 0, none⟩) n n) n (ys.map (Value.int .u32))
theorem OwnW.len {w : World} {base g n : Nat} {ys : List Int} (h : OwnW w base g n ys) : ys.length = n := by have := h.1; simpa using this
theorem OwnW.cell {w : World} {base g n : Nat} {ys : List Int} (h : OwnW w base g n ys) (k : Nat) (hk : k < n) : w.cell? ⟨g, k, none⟩ = some (.int .u32 (ys[k]?.getD 0)) := by
  have hl := h.len
  rw [World.ownsRow.cellAt h k (by omega), List.getElem?_map, List.getElem?_eq_getElem (by omega)]; rfl
theorem OwnW.free {w : World} {base g n : Nat} {ys : List Int} (h : OwnW w base g n ys) (k : Nat) : w.frozen? ⟨g, k, none⟩ = false := World.ownsRow.frozenAt h k
theorem OwnW.set {w : World} {base g n : Nat} {ys : List Int} (h : OwnW w base g n ys) (k : Nat) (z : Int) : OwnW (w.setCell ⟨g, k, none⟩ (.int .u32 z)) base g n (ys.set k z) := by
  have := (World.ownsRow.stored h k (.int .u32 z)).1
  rwa [← List.map_set] at this
theorem OwnW.made {w1 : World} {base g n : Nat} (h : w1.ownsRow base 40 1 (.slice (some ⟨g, 0, none⟩) n n) n (madeCells #[Value.int .u32 0] n).toList) : OwnW w1 base g n (List.replicate n 0) := by
  rw [made_words] at h; exact h
theorem OwnW.base {w : World} {base g n : Nat} {ys : List Int} (h : OwnW w base g n ys) : base ≤ g ∧ g < w.heap.size := World.ownsRow.lt h g rfl

set_option maxHeartbeats 3200000 in
set_option maxRecDepth 100000 in
theorem sum_any (a : Option Addr) (n cap : Nat) (xs : List Int) (b : Option Addr) (m cap' : Nat) (zs : List Int) (w : World) (h : Reads w w.heap.size a n cap xs) (g : Reads w w.heap.size b m cap' zs) (hn : n ≤ 1099511627776) (hm : m ≤ 1099511627776) :
    Calls Tryd.prog 76 #[.slice a n cap, .slice b m cap'] w fun e w' => ∃ (N : Nat) (ys : List Int), e = .returned (.slice (some ⟨w.heap.size, 0, none⟩) N N) ∧ N ≤ n + m + 1 ∧ OwnW w' w.heap.size w.heap.size N ys ∧ Wd ys ∧ val ys = val xs + val zs ∧ Below w.heap.size w w' := by
  obtain ⟨i0, hi, hz0, hz1, hz2⟩ := info_parts Tryd.infoW
  by_cases hnm : n < m
  · rcases g.2.2.1 with h0 | ⟨b1, o1, rfl, hb1, hc1⟩
    · omega
    · skip
      have hlA := g.1
      have hlB := h.1
      have hwA := g.2.1
      have hwB := h.2.1
      have hcA : ∀ k, k < m → w.cell? ⟨b1, o1 + k, none⟩ = some (.int .u32 (zs[k]?.getD 0)) := hc1
      have HL := hid (And.intro hlA hlB)
      have HA := hid hcA
      have HB := hid h
      clear hlA hlB hcA hc1 g h
      go_enter Tryd.func76, Tryd.ntmps76
      go_wp2_with (at_make; refine wpList_make_full _ rfl _ _ 22 rfl w.heap.size 40 i0 (.int .u32 0) 1 Tryd.underlying22 hi hz0 hz1 _ _ _ _ (m + 1) rfl rfl (by omega) (by omega) (by rw [hz2]; omega) (by unfold maxLen; omega) (Nat.le_refl _) ?_)
      intro w1 hown hgrow
      have hbel : Below w.heap.size w w1 := (Below.refl _ _).grown hgrow (Nat.le_refl _) (fun k hk => by simp at hk)
      have HO := hid (OwnW.made hown)
      clear hown hgrow
      go_wp2_with fail
      go_loopw [6, 22] (fun c t wr => ∃ (k : Nat) (cc : Int) (ys : List Int), k ≤ m ∧ t = .int .i64 k ∧ c = .int .u64 cc ∧ 0 ≤ cc ∧ cc ≤ 1 ∧ Wd ys ∧ Hid (valTo ys k + cc * 4294967296 ^ k = valTo zs k + valTo xs k) ∧ OwnW wr w.heap.size w.heap.size (m + 1) ys ∧ Below w.heap.size w wr) (fun _ t _ => m - (intOf t).toNat)
      case atStart => exact ⟨0, 0, _, by omega, rfl, rfl, by omega, by omega, Wd.replicate _, show _ = _ by simp [valTo], HO.out, hbel⟩
      case round =>
        obtain ⟨k, cc, ys, hk, rfl, rfl, c0, c1, hwy, HV, ho, hb⟩ := hrel
        by_cases hlt : k < m
        · have x1 : wr.cell? ⟨b1, o1 + k, none⟩ = some (.int .u32 (zs[k]?.getD 0)) := (hb.cell (p := ⟨b1, o1 + k, none⟩) hb1).trans (HA.out k hlt)
          have y1 := ho.cell k (by omega)
          have f1 := ho.free k
          have ba := hwA.at k
          have bb := hwB.at k
          have hly := ho.len
          by_cases hltb : k < n
          · rcases HB.out.2.2.1 with h0 | ⟨b2, o2, e2, hb2, hc2⟩
            · omega
            · have x2 : wr.cell? ⟨b2, o2 + k, none⟩ = some (.int .u32 (xs[k]?.getD 0)) := (hb.cell (p := ⟨b2, o2 + k, none⟩) hb2).trans (hc2 k hltb)
              have HV' := hid (sum_step zs xs ys k cc (cc + zs[k]?.getD 0 + xs[k]?.getD 0) (by omega) rfl HV.out)
              have HO' := hid (ho.set k ((cc + zs[k]?.getD 0 + xs[k]?.getD 0) % 4294967296))
              have HB' := hid (hb.setCell (p := ⟨w.heap.size, k, none⟩) (Nat.le_refl _) (.int .u32 ((cc + zs[k]?.getD 0 + xs[k]?.getD 0) % 4294967296)))
              have HY := hid hly
              subst e2
              clear hc2 hly ho hb HV
              go_wp2
              go_roundw
              case rel => exact ⟨k + 1, (cc + zs[k]?.getD 0 + xs[k]?.getD 0) / 4294967296, ys.set k ((cc + zs[k]?.getD 0 + xs[k]?.getD 0) % 4294967296), by omega, by go_num, by go_num, by omega, by omega, hwy.set k (by omega), HV', HO'.out, HB'.out⟩
              case measure => simp [intOf]; omega
          · have hz : xs[k]?.getD 0 = 0 := by rw [List.getElem?_eq_none (by have := HL.out.2; omega)]; rfl
            have HV' := hid (sum_step zs xs ys k cc (cc + zs[k]?.getD 0) (by omega) (by rw [hz, Int.add_zero]) HV.out)
            have HO' := hid (ho.set k ((cc + zs[k]?.getD 0) % 4294967296))
            have HB' := hid (hb.setCell (p := ⟨w.heap.size, k, none⟩) (Nat.le_refl _) (.int .u32 ((cc + zs[k]?.getD 0) % 4294967296)))
            have HY := hid hly
            clear hly ho hb HV hz
            go_wp2
            go_roundw
            case rel => exact ⟨k + 1, (cc + zs[k]?.getD 0) / 4294967296, ys.set k ((cc + zs[k]?.getD 0) % 4294967296), by omega, by go_num, by go_num, by omega, by omega, hwy.set k (by omega), HV', HO'.out, HB'.out⟩
            case measure => simp [intOf]; omega
        · have hkn : k = m := by omega
          subst hkn
          have y1 := ho.cell k (by omega)
          have f1 := ho.free k
          have hly := ho.len
          have HV' : Hid (val (ys.set k cc) = val xs + val zs) := by
            show _ = _
            have e1 : val (ys.set k cc) = valTo (ys.set k cc) (k + 1) := (valTo_stable _ _ (by simp; omega)).symm
            rw [e1, valTo_set ys k cc (by omega), HV.out, valTo_stable zs k (by have := HL.out.1; omega), valTo_stable xs k (by have := HL.out.2; omega)]
            omega
          have HO' := hid (ho.set k cc)
          have HB' := hid (hb.setCell (p := ⟨w.heap.size, k, none⟩) (Nat.le_refl _) (.int .u32 cc))
          have HY := hid hly
          clear hly ho hb HV
          go_wp2
          go_ret
          exact ⟨_, _, rfl, by omega, HO'.out, hwy.set k (by omega), HV'.out, HB'.out⟩
  · by_cases hn0 : n = 0
    · subst hn0
      have hm0 : m = 0 := by omega
      subst hm0
      have hx : xs = [] := List.eq_nil_of_length_eq_zero h.1
      have hz : zs = [] := List.eq_nil_of_length_eq_zero g.1
      subst hx
      subst hz
      clear h g
      go_enter Tryd.func76, Tryd.ntmps76
      go_wp2_with (at_make; refine wpList_make_full _ rfl _ _ 22 rfl w.heap.size 40 i0 (.int .u32 0) 1 Tryd.underlying22 hi hz0 hz1 _ _ _ _ 1 rfl rfl (by omega) (by omega) (by rw [hz2]; omega) (by unfold maxLen; omega) (Nat.le_refl _) ?_)
      intro w1 hown hgrow
      have hbel : Below w.heap.size w w1 := (Below.refl _ _).grown hgrow (Nat.le_refl _) (fun k hk => by simp at hk)
      have ho : OwnW w1 w.heap.size w.heap.size 1 [0] := OwnW.made (n := 1) hown
      have y1 := ho.cell 0 (by omega)
      have f1 := ho.free 0
      have HO' := hid (ho.set 0 0)
      have HB' := hid (hbel.setCell (p := ⟨w.heap.size, 0, none⟩) (Nat.le_refl _) (.int .u32 0))
      clear hown hgrow ho
      go_wp2_with fail
      refine wp_loop_rounds 1 ?_
      rw [rounds_succ]
      go_wp2
      go_ret
      exact ⟨_, _, rfl, by omega, HO'.out, Wd.one (by omega), rfl, HB'.out⟩
    · rcases h.2.2.1 with h0 | ⟨b1, o1, rfl, hb1, hc1⟩
      · omega
      · skip
        have hlA := h.1
        have hlB := g.1
        have hwA := h.2.1
        have hwB := g.2.1
        have hcA : ∀ k, k < n → w.cell? ⟨b1, o1 + k, none⟩ = some (.int .u32 (xs[k]?.getD 0)) := hc1
        have HL := hid (And.intro hlA hlB)
        have HA := hid hcA
        have HB := hid g
        clear hlA hlB hcA hc1 h g
        go_enter Tryd.func76, Tryd.ntmps76
        go_wp2_with (at_make; refine wpList_make_full _ rfl _ _ 22 rfl w.heap.size 40 i0 (.int .u32 0) 1 Tryd.underlying22 hi hz0 hz1 _ _ _ _ (n + 1) rfl rfl (by omega) (by omega) (by rw [hz2]; omega) (by unfold maxLen; omega) (Nat.le_refl _) ?_)
        intro w1 hown hgrow
        have hbel : Below w.heap.size w w1 := (Below.refl _ _).grown hgrow (Nat.le_refl _) (fun k hk => by simp at hk)
        have HO := hid (OwnW.made hown)
        clear hown hgrow
        go_wp2_with fail
        go_loopw [6, 22] (fun c t wr => ∃ (k : Nat) (cc : Int) (ys : List Int), k ≤ n ∧ t = .int .i64 k ∧ c = .int .u64 cc ∧ 0 ≤ cc ∧ cc ≤ 1 ∧ Wd ys ∧ Hid (valTo ys k + cc * 4294967296 ^ k = valTo xs k + valTo zs k) ∧ OwnW wr w.heap.size w.heap.size (n + 1) ys ∧ Below w.heap.size w wr) (fun _ t _ => n - (intOf t).toNat)
        case atStart => exact ⟨0, 0, _, by omega, rfl, rfl, by omega, by omega, Wd.replicate _, show _ = _ by simp [valTo], HO.out, hbel⟩
        case round =>
          obtain ⟨k, cc, ys, hk, rfl, rfl, c0, c1, hwy, HV, ho, hb⟩ := hrel
          by_cases hlt : k < n
          · have x1 : wr.cell? ⟨b1, o1 + k, none⟩ = some (.int .u32 (xs[k]?.getD 0)) := (hb.cell (p := ⟨b1, o1 + k, none⟩) hb1).trans (HA.out k hlt)
            have y1 := ho.cell k (by omega)
            have f1 := ho.free k
            have ba := hwA.at k
            have bb := hwB.at k
            have hly := ho.len
            by_cases hltb : k < m
            · rcases HB.out.2.2.1 with h0 | ⟨b2, o2, e2, hb2, hc2⟩
              · omega
              · have x2 : wr.cell? ⟨b2, o2 + k, none⟩ = some (.int .u32 (zs[k]?.getD 0)) := (hb.cell (p := ⟨b2, o2 + k, none⟩) hb2).trans (hc2 k hltb)
                have HV' := hid (sum_step xs zs ys k cc (cc + xs[k]?.getD 0 + zs[k]?.getD 0) (by omega) rfl HV.out)
                have HO' := hid (ho.set k ((cc + xs[k]?.getD 0 + zs[k]?.getD 0) % 4294967296))
                have HB' := hid (hb.setCell (p := ⟨w.heap.size, k, none⟩) (Nat.le_refl _) (.int .u32 ((cc + xs[k]?.getD 0 + zs[k]?.getD 0) % 4294967296)))
                have HY := hid hly
                subst e2
                clear hc2 hly ho hb HV
                go_wp2
                go_roundw
                case rel => exact ⟨k + 1, (cc + xs[k]?.getD 0 + zs[k]?.getD 0) / 4294967296, ys.set k ((cc + xs[k]?.getD 0 + zs[k]?.getD 0) % 4294967296), by omega, by go_num, by go_num, by omega, by omega, hwy.set k (by omega), HV', HO'.out, HB'.out⟩
                case measure => simp [intOf]; omega
            · have hz : zs[k]?.getD 0 = 0 := by rw [List.getElem?_eq_none (by have := HL.out.2; omega)]; rfl
              have HV' := hid (sum_step xs zs ys k cc (cc + xs[k]?.getD 0) (by omega) (by rw [hz, Int.add_zero]) HV.out)
              have HO' := hid (ho.set k ((cc + xs[k]?.getD 0) % 4294967296))
              have HB' := hid (hb.setCell (p := ⟨w.heap.size, k, none⟩) (Nat.le_refl _) (.int .u32 ((cc + xs[k]?.getD 0) % 4294967296)))
              have HY := hid hly
              clear hly ho hb HV hz
              go_wp2
              go_roundw
              case rel => exact ⟨k + 1, (cc + xs[k]?.getD 0) / 4294967296, ys.set k ((cc + xs[k]?.getD 0) % 4294967296), by omega, by go_num, by go_num, by omega, by omega, hwy.set k (by omega), HV', HO'.out, HB'.out⟩
              case measure => simp [intOf]; omega
          · have hkn : k = n := by omega
            subst hkn
            have y1 := ho.cell k (by omega)
            have f1 := ho.free k
            have hly := ho.len
            have HV' : Hid (val (ys.set k cc) = val xs + val zs) := by
              show _ = _
              have e1 : val (ys.set k cc) = valTo (ys.set k cc) (k + 1) := (valTo_stable _ _ (by simp; omega)).symm
              rw [e1, valTo_set ys k cc (by omega), HV.out, valTo_stable xs k (by have := HL.out.1; omega), valTo_stable zs k (by have := HL.out.2; omega)]
              skip
            have HO' := hid (ho.set k cc)
            have HB' := hid (hb.setCell (p := ⟨w.heap.size, k, none⟩) (Nat.le_refl _) (.int .u32 cc))
            have HY := hid hly
            clear hly ho hb HV
            go_wp2
            go_ret
            exact ⟨_, _, rfl, by omega, HO'.out, hwy.set k (by omega), HV'.out, HB'.out⟩

set_option maxHeartbeats 3200000 in
set_option maxRecDepth 100000 in
theorem difference_any (a : Option Addr) (n cap : Nat) (xs : List Int) (b : Option Addr) (m cap' : Nat) (zs : List Int) (w : World) (h : Reads w w.heap.size a n cap xs) (g : Reads w w.heap.size b m cap' zs) (hn : n ≤ 1099511627776) (hmn : m ≤ n) (hle : val zs ≤ val xs) :
    Calls Tryd.prog 78 #[.slice a n cap, .slice b m cap'] w fun e w' => ∃ (N : Nat) (ys : List Int), e = .returned (.slice (some ⟨w.heap.size, 0, none⟩) N N) ∧ N ≤ n + m + 1 ∧ OwnW w' w.heap.size w.heap.size N ys ∧ Wd ys ∧ val ys = val xs - val zs ∧ Below w.heap.size w w' := by
  obtain ⟨i0, hi, hz0, hz1, hz2⟩ := info_parts Tryd.infoW
  have HLE := hid hle
  clear hle
  by_cases hn0 : n = 0
  · subst hn0
    have hm0 : m = 0 := by omega
    subst hm0
    have hx : xs = [] := List.eq_nil_of_length_eq_zero h.1
    have hz : zs = [] := List.eq_nil_of_length_eq_zero g.1
    subst hx
    subst hz
    clear h g HLE
    go_enter Tryd.func78, Tryd.ntmps78
    go_wp2_with (at_make; refine wpList_make_full _ rfl _ _ 22 rfl w.heap.size 40 i0 (.int .u32 0) 1 Tryd.underlying22 hi hz0 hz1 _ _ _ _ 0 rfl rfl (by omega) (by omega) (by rw [hz2]; omega) (by unfold maxLen; omega) (Nat.le_refl _) ?_)
    intro w1 hown hgrow
    have hbel : Below w.heap.size w w1 := (Below.refl _ _).grown hgrow (Nat.le_refl _) (fun k hk => by simp at hk)
    have HO := hid (show OwnW w1 w.heap.size w.heap.size 0 [] from OwnW.made (n := 0) hown)
    clear hown hgrow
    go_wp2_with fail
    refine wp_loop_rounds 1 ?_
    rw [rounds_succ]
    go_wp2
    go_ret
    exact ⟨_, _, rfl, by omega, HO.out, Wd.nil, rfl, hbel⟩
  · rcases h.2.2.1 with h0 | ⟨b1, o1, rfl, hb1, hc1⟩
    · omega
    · have hlA := h.1
      have hlB := g.1
      have hwA := h.2.1
      have hwB := g.2.1
      have HL := hid (And.intro hlA hlB)
      have HA := hid hc1
      have HB := hid g
      clear hlA hlB hc1 h g
      go_enter Tryd.func78, Tryd.ntmps78
      go_wp2_with (at_make; refine wpList_make_full _ rfl _ _ 22 rfl w.heap.size 40 i0 (.int .u32 0) 1 Tryd.underlying22 hi hz0 hz1 _ _ _ _ n rfl rfl (by omega) (by omega) (by rw [hz2]; omega) (by unfold maxLen; omega) (Nat.le_refl _) ?_)
      intro w1 hown hgrow
      have hbel : Below w.heap.size w w1 := (Below.refl _ _).grown hgrow (Nat.le_refl _) (fun k hk => by simp at hk)
      have HO := hid (OwnW.made hown)
      clear hown hgrow
      go_wp2_with fail
      go_loopw [6, 14] (fun c t wr => ∃ (k : Nat) (cc : Int) (ys : List Int), k ≤ n ∧ t = .int .i64 k ∧ c = .int .i64 cc ∧ -1 ≤ cc ∧ cc ≤ 0 ∧ Wd ys ∧ Hid (valTo ys k + cc * 4294967296 ^ k = valTo xs k - valTo zs k) ∧ OwnW wr w.heap.size w.heap.size n ys ∧ Below w.heap.size w wr) (fun _ t _ => n - (intOf t).toNat)
      case atStart => exact ⟨0, 0, _, by omega, rfl, rfl, by omega, by omega, Wd.replicate _, show _ = _ by simp [valTo], HO.out, hbel⟩
      case round =>
        obtain ⟨k, cc, ys, hk, rfl, rfl, c0, c1, hwy, HV, ho, hb⟩ := hrel
        by_cases hlt : k < n
        · have x1 : wr.cell? ⟨b1, o1 + k, none⟩ = some (.int .u32 (xs[k]?.getD 0)) := (hb.cell (p := ⟨b1, o1 + k, none⟩) hb1).trans (HA.out k hlt)
          have y1 := ho.cell k (by omega)
          have f1 := ho.free k
          have ba := hwA.at k
          have bb := hwB.at k
          have hly := ho.len
          by_cases hltb : k < m
          · rcases HB.out.2.2.1 with h0 | ⟨b2, o2, e2, hb2, hc2⟩
            · omega
            · have x2 : wr.cell? ⟨b2, o2 + k, none⟩ = some (.int .u32 (zs[k]?.getD 0)) := (hb.cell (p := ⟨b2, o2 + k, none⟩) hb2).trans (hc2 k hltb)
              have HV' := hid (diff_step xs zs ys k cc (cc + xs[k]?.getD 0 - zs[k]?.getD 0) (by omega) rfl HV.out)
              have HO' := hid (ho.set k ((cc + xs[k]?.getD 0 - zs[k]?.getD 0) % 4294967296))
              have HB' := hid (hb.setCell (p := ⟨w.heap.size, k, none⟩) (Nat.le_refl _) (.int .u32 ((cc + xs[k]?.getD 0 - zs[k]?.getD 0) % 4294967296)))
              have HY := hid hly
              subst e2
              clear hc2 hly ho hb HV
              go_wp2
              go_roundw
              case rel => exact ⟨k + 1, (cc + xs[k]?.getD 0 - zs[k]?.getD 0) / 4294967296, ys.set k ((cc + xs[k]?.getD 0 - zs[k]?.getD 0) % 4294967296), by omega, by go_num, by go_num, by omega, by omega, hwy.set k (by omega), HV', HO'.out, HB'.out⟩
              case measure => simp [intOf]; omega
          · have hz : zs[k]?.getD 0 = 0 := by rw [List.getElem?_eq_none (by have := HL.out.2; omega)]; rfl
            have HV' := hid (diff_step xs zs ys k cc (cc + xs[k]?.getD 0) (by omega) (by rw [hz, Int.sub_zero]) HV.out)
            have HO' := hid (ho.set k ((cc + xs[k]?.getD 0) % 4294967296))
            have HB' := hid (hb.setCell (p := ⟨w.heap.size, k, none⟩) (Nat.le_refl _) (.int .u32 ((cc + xs[k]?.getD 0) % 4294967296)))
            have HY := hid hly
            clear hly ho hb HV hz
            go_wp2
            go_roundw
            case rel => exact ⟨k + 1, (cc + xs[k]?.getD 0) / 4294967296, ys.set k ((cc + xs[k]?.getD 0) % 4294967296), by omega, by go_num, by go_num, by omega, by omega, hwy.set k (by omega), HV', HO'.out, HB'.out⟩
            case measure => simp [intOf]; omega
        · have hkn : k = n := by omega
          subst hkn
          have HV' : Hid (val ys = val xs - val zs) := by
            show _ = _
            have e0 := HV.out
            rw [valTo_stable ys k (by have := ho.len; omega), valTo_stable xs k (by have := HL.out.1; omega), valTo_stable zs k (by have := HL.out.2; omega)] at e0
            have e1 := HLE.out
            have e2 := val_lt hwy
            rw [ho.len] at e2
            have e3 : cc = 0 := by
              by_cases e : cc = 0
              · exact e
              · have : cc = -1 := by omega
                subst this
                omega
            subst e3
            omega
          have HO' := hid ho
          clear ho HV
          go_wp2
          go_ret
          exact ⟨_, _, rfl, by omega, HO'.out, hwy, HV'.out, hb⟩
end Go.Proofs.YtbcangblmadnpacDoor
