/- My texts on the way to RatioSums, one behind the other: contracts of the program and of the document's answers. -/
import Derived.Test.YtpehpflgfkdiaaaJ2
import Derived.Deep.QuietTactic
import Derived.BigQuiet
import Derived.Deep.LoopGhost
import Derived.Deep.RegionHeld3
/- The document's own difference and product of natural numbers: slackwaterref01.Less, Times: of every two lists that can be read. -/
namespace Go.Proofs.Ytpehpflgfkdiaaa
open Go.RowKit
set_option linter.unusedVariables false

theorem bdw {B : Nat} {a w : World} (h : Below B a w) (n : Nat) : Below B a (w.drewN n) := h.trans ⟨rfl, rfl, rfl, Nat.le_refl _, fun _ _ => rfl⟩
theorem less_step (xs ys us : List Int) (k : Nat) (cc z c' : Int) (hk : k < us.length) (ht : z - c' * 4294967296 = xs[k]?.getD 0 - (ys[k]?.getD 0 + cc)) (h : valTo us k - cc * 4294967296 ^ k = valTo xs k - valTo ys k) :
    valTo (us.set k z) (k + 1) - c' * 4294967296 ^ (k + 1) = valTo xs (k + 1) - valTo ys (k + 1) := by
  rw [valTo_set us k z hk, valTo_succ, valTo_succ, pw_succ]
  generalize (4294967296 : Int) ^ k = P at *
  generalize xs[k]?.getD 0 = x at *
  generalize ys[k]?.getD 0 = y at *
  grind
theorem less_end {us : List Int} (hw : Wd us) (n : Nat) (c V : Int) (hl : us.length = n) (h0 : 0 ≤ c) (hV : 0 ≤ V) (h : valTo us n - c * 4294967296 ^ n = V) : val us = V := by
  have b := valTo_bounds hw n
  have hp := pw_pos n
  have hc : c = 0 := by
    by_cases z : c = 0
    · exact z
    · have e1 : 1 * 4294967296 ^ n ≤ c * 4294967296 ^ n := Int.mul_le_mul_of_nonneg_right (by omega) (by omega)
      omega
  rw [hc] at h
  rw [← valTo_stable us n (by omega)]
  omega
theorem word_q {a : Option Addr} {n cap : Nat} {zs : List Int} {B : Nat} {wr : World} (k : Nat) (h : Reads wr B a n cap zs) (hn : n ≤ 281474976710656) (j : Nat) :
    Calls Try.prog 65 #[.slice a n cap, .int .i64 (k : Int)] (wr.drewN j) fun e w' => e = .returned (.int .u32 (zs[k]?.getD 0)) ∧ w' = wr.drewN j := by
  have e := word_any a n cap zs B (k : Int) (wr.drewN j) (h.later (bdw (Below.refl _ _) j) (Nat.le_refl _)) hn (by omega)
  rw [Int.toNat_natCast] at e
  exact Calls.mono e (fun _ _ h => ⟨h.1, h.2.symm⟩)

set_option maxHeartbeats 3200000 in
set_option maxRecDepth 100000 in
theorem refLess_any (a : Option Addr) (n cap : Nat) (xs : List Int) (b : Option Addr) (m cap' : Nat) (ys : List Int) (w : World) (h : Reads w w.heap.size a n cap xs) (g : Reads w w.heap.size b m cap' ys) (hn : n ≤ 549755813888) (hm : m ≤ 549755813888) (hle : val ys ≤ val xs) :
    Calls Try.prog 66 #[.slice a n cap, .slice b m cap'] w (Ref1 w (val xs - val ys)) := by
  obtain ⟨i0, hi, hz0, hz1, hz2⟩ := info_parts Try.infoW
  have HY := hid g
  have WX := hid (And.intro h.2.1 g.2.1)
  have hm' := (by omega : m ≤ 281474976710656)
  have HLE := hid hle
  have hlx := h.1
  have HYV : Hid (valTo ys n = val ys) := by
    show _ = _
    have v1 := val_lt h.2.1
    rw [hlx] at v1
    have hs : sz ys ≤ n := by
      have := len_of_lt g.2.1.trimmed (Trimmed.trimmed ys) (L := n) (by rw [val_trimmed]; omega)
      rwa [length_trimmed] at this
    exact valTo_sz ys n hs
  have HXV : Hid (valTo xs n = val xs) := valTo_stable xs n (by omega)
  have cells : ∀ k, k < n → ∃ b1 o1, a = some ⟨b1, o1, none⟩ ∧ b1 < w.heap.size ∧ w.cell? ⟨b1, o1 + k, none⟩ = some (.int .u32 (xs[k]?.getD 0)) := fun k hk => by
    rcases h.2.2.1 with h0 | ⟨b1, o1, e1, l1, c1⟩
    · omega
    · exact ⟨b1, o1, e1, l1, c1 k hk⟩
  have HCS := hid cells
  have hcap := h.2.2.2.1
  clear h g hle hlx cells
  go_enter Try.func66, Try.ntmps66
  go_wp2_with (at_make; refine wpList_make_full _ rfl _ _ 24 rfl w.heap.size 36 i0 (.int .u32 0) 1 Try.underlying24 hi hz0 hz1 _ _ _ _ n rfl rfl (by omega) (by omega) (by rw [hz2]; omega) (by unfold maxLen; omega) (Nat.le_refl _) ?_)
  intro w1 hown hgrow
  have hbel : Below w.heap.size w w1 := (Below.refl _ _).grown hgrow (Nat.le_refl _) (fun k hk => by simp at hk)
  have HO := hid (OwnW.made hown)
  clear hown hgrow
  go_wp2_with fail
  go_loopw [6, 7] (fun c t wr => ∃ (k : Nat) (cc : Int) (us : List Int), k ≤ n ∧ t = .int .i64 k ∧ c = .int .u64 cc ∧ 0 ≤ cc ∧ cc ≤ 1 ∧ Wd us ∧ Hid (valTo us k - cc * 4294967296 ^ k = valTo xs k - valTo ys k) ∧ OwnW wr w.heap.size w.heap.size n us ∧ Below w.heap.size w wr) (fun _ t _ => n - (intOf t).toNat)
  case atStart => exact ⟨0, 0, _, by omega, rfl, rfl, by omega, by omega, Wd.replicate _, show _ = _ by simp [valTo], HO.out, hbel⟩
  case round =>
    obtain ⟨k, cc, us, hk, rfl, rfl, c0, c1, hwu, HV, ho, hb⟩ := hrel
    by_cases hlt : k < n
    · obtain ⟨b1, o1, rfl, l1, cx⟩ := HCS.out k hlt
      have x1 : wr.cell? ⟨b1, o1 + k, none⟩ = some (.int .u32 (xs[k]?.getD 0)) := (hb.cell (p := ⟨b1, o1 + k, none⟩) l1).trans cx
      have y1 := ho.cell k (by omega)
      have f1 := ho.free k
      have bx := WX.out.1.at k
      have by' := WX.out.2.at k
      have hlu := ho.len
      have HW2 := hid (word_q k (HY.out.later hb (Nat.le_refl _)) hm')
      have HST := hid (fun z c' => less_step xs ys us k cc z c' (by omega))
      have HOB : Hid (∀ j Z, OwnW ((wr.drewN j).setCell ⟨w.heap.size, k, none⟩ (.int .u32 Z)) w.heap.size w.heap.size n (us.set k Z) ∧ Below w.heap.size w ((wr.drewN j).setCell ⟨w.heap.size, k, none⟩ (.int .u32 Z))) := fun j Z =>
        ⟨OwnW.set (show OwnW (wr.drewN j) _ _ _ _ from ho) k Z, (bdw hb j).setCell (p := ⟨w.heap.size, k, none⟩) (Nat.le_refl _) _⟩
      obtain ⟨x, hx⟩ : ∃ x, xs[k]?.getD 0 = x := ⟨_, rfl⟩
      obtain ⟨y, hy⟩ : ∃ y, ys[k]?.getD 0 = y := ⟨_, rfl⟩
      rw [hx] at x1 bx HST
      rw [hy] at by' HW2 HST
      clear hlu ho hb hx hy cx
      by_cases hxy : x < y + cc
      · go_wp2_with fail
        go_quiet ((go_at_call 65; exact Calls.quiet_of_same (HW2.out _)))
        go_wp2_with fail
        go_roundw
        case rel => exact ⟨k + 1, 1, us.set k (x + 4294967296 - (y + cc)), by omega, by go_num, by go_num, by omega, by omega, hwu.set _ (by omega), HST.out _ _ (by omega) HV.out, (HOB.out _ _).1, (HOB.out _ _).2⟩
        case measure => simp [intOf]; omega
      · go_wp2_with fail
        go_quiet ((go_at_call 65; exact Calls.quiet_of_same (HW2.out _)))
        go_wp2_with fail
        go_roundw
        case rel => exact ⟨k + 1, 0, us.set k (x - (y + cc)), by omega, by go_num, by go_num, by omega, by omega, hwu.set _ (by omega), HST.out _ _ (by omega) HV.out, (HOB.out _ _).1, (HOB.out _ _).2⟩
        case measure => simp [intOf]; omega
    · obtain rfl : k = n := by omega
      have hlu := ho.len
      have HF : Hid (val us = val xs - val ys) := less_end hwu k cc _ hlu c0 (by have := HLE.out; omega) (by rw [← HXV.out, ← HYV.out]; exact HV.out)
      have HR := hid (refTrim_sl (.slice (some ⟨w.heap.size, 0, none⟩) us.length us.length) us wr (Sl.own (owns_len (show wr.ownsRow w.heap.size 36 1 (.slice (some ⟨w.heap.size, 0, none⟩) us.length us.length) us.length (us.map (Value.int .u32)) by rw [hlu]; exact ho)) hwu) (by omega))
      rw [hlu] at HR
      clear ho HV
      go_wp2_with fail
      refine Calls.mono HR.out ?_
      rintro e w3 ⟨v3, rfl, o3, hb3⟩
      have HO3 := hid (owns_base (owns_len o3) hb.size)
      have hbF := bt hb hb3
      clear o3 hb3
      go_wp2_with fail
      go_ret
      exact ⟨v3, _, rfl, HO3.out, hwu.trimmed, Trimmed.trimmed _, by rw [val_trimmed]; exact HF.out, hbF⟩
end Go.Proofs.Ytpehpflgfkdiaaa

/- The document's own product of natural numbers: slackwaterref01.Times: of every two lists that can be read. -/
namespace Go.Proofs.Ytpehpflgfkdiaaa
open Go.RowKit
set_option linter.unusedVariables false

theorem Reads.cells {w : World} {B : Nat} {a : Option Addr} {n cap : Nat} {zs : List Int} (h : Reads w B a n cap zs) : ∀ k, k < n → ∃ b1 o1, a = some ⟨b1, o1, none⟩ ∧ b1 < B ∧ w.cell? ⟨b1, o1 + k, none⟩ = some (.int .u32 (zs[k]?.getD 0)) := fun k hk => by
  rcases h.2.2.1 with h0 | ⟨b1, o1, e1, l1, c1⟩
  · omega
  · exact ⟨b1, o1, e1, l1, c1 k hk⟩
theorem replicate_zero (n j : Nat) : (List.replicate n (0 : Int))[j]?.getD 0 = 0 := by rw [List.getElem?_replicate]; split <;> rfl
/-- Behind a row of a product. -/
theorem row_end (xs zs us ys : List Int) (k m : Nat) (c : Int) (hl : k + m < us.length) (hku : ∀ j, j < k ∨ k + m ≤ j → us[j]?.getD 0 = ys[j]?.getD 0) (hvu : segTo us k m + c * 4294967296 ^ m = segTo ys k m + xs[k]?.getD 0 * val zs) (hv : valTo ys (k + m) = valTo xs k * val zs) :
    valTo (us.set (k + m) c) (k + 1 + m) = valTo xs (k + 1) * val zs := by
  rw [show k + 1 + m = k + m + 1 by omega, valTo_set us (k + m) c (by omega), valTo_seg us k m, valTo_congr us ys k (fun j hj => hku j (by omega)), valTo_succ, Int.add_mul, ← hv, valTo_seg ys k m]
  have e1 : (4294967296 : Int) ^ (k + m) = 4294967296 ^ m * 4294967296 ^ k := by rw [Nat.add_comm, Int.pow_add]
  rw [e1, ← Int.mul_assoc, Int.add_assoc, ← Int.add_mul, hvu, Int.add_mul, ← Int.add_assoc]
  congr 1
  rw [Int.mul_assoc, Int.mul_comm (val zs), ← Int.mul_assoc]

set_option maxHeartbeats 6400000 in
set_option maxRecDepth 100000 in
theorem refTimes_any (a : Option Addr) (n cap : Nat) (xs : List Int) (b : Option Addr) (m cap' : Nat) (ys : List Int) (w : World) (h : Reads w w.heap.size a n cap xs) (g : Reads w w.heap.size b m cap' ys) (hn : n ≤ 274877906944) (hm : m ≤ 274877906944) :
    Calls Try.prog 67 #[.slice a n cap, .slice b m cap'] w (Ref1 w (val xs * val ys)) := by
  obtain ⟨i0, hi, hz0, hz1, hz2⟩ := info_parts Try.infoW
  have WX := hid (And.intro h.2.1 g.2.1)
  have HL := hid (And.intro h.1 g.1)
  have HCX := hid h.cells
  have HCY := hid g.cells
  have hcap := h.2.2.2.1
  have hcap' := g.2.2.2.1
  clear h g
  go_enter Try.func67, Try.ntmps67
  go_wp2_with (at_make; refine wpList_make_full _ rfl _ _ 24 rfl w.heap.size 36 i0 (.int .u32 0) 1 Try.underlying24 hi hz0 hz1 _ _ _ _ (n + m) rfl rfl (by omega) (by omega) (by rw [hz2]; omega) (by unfold maxLen; omega) (Nat.le_refl _) ?_)
  intro w1 hown hgrow
  have hbel : Below w.heap.size w w1 := (Below.refl _ _).grown hgrow (Nat.le_refl _) (fun k hk => by simp at hk)
  have HO := hid (OwnW.made hown)
  clear hown hgrow
  go_wp2_with fail
  go_loopw [6] (fun t wr => ∃ (k : Nat) (us : List Int), k ≤ n ∧ t = .int .i64 k ∧ Wd us ∧ Hid (valTo us (k + m) = valTo xs k * val ys) ∧ Hid (∀ j, k + m ≤ j → us[j]?.getD 0 = 0) ∧ OwnW wr w.heap.size w.heap.size (n + m) us ∧ Below w.heap.size w wr) (fun t _ => n - (intOf t).toNat)
  case atStart =>
    refine ⟨0, _, by omega, rfl, Wd.replicate _, ?_, fun j _ => replicate_zero _ j, HO.out, hbel⟩
    show _ = _
    rw [valTo_congr _ [] _ (fun j _ => by rw [replicate_zero]; rfl), valTo_stable [] _ (by simp), val_nil]
    simp [valTo]
  case round =>
    obtain ⟨k, us, hk, rfl, hwu, HV, HK, ho, hb⟩ := hrel
    by_cases hlt : k < n
    · obtain ⟨b1, o1, rfl, l1, cx⟩ := HCX.out k hlt
      have bx := WX.out.1.at k
      have HRE := hid (fun c vs => row_end xs ys vs us k m c)
      obtain ⟨x, hx⟩ : ∃ x, xs[k]?.getD 0 = x := ⟨_, rfl⟩
      rw [hx] at cx bx HRE
      have HCELL := hid cx
      have HO1 := hid ho
      have HB1 := hid hb
      clear hx cx ho hb
      go_wp2_with fail
      go_loopw [7, 8] (fun c t wr2 => ∃ (q : Nat) (cc : Int) (vs : List Int), q ≤ m ∧ t = .int .i64 q ∧ c = .int .u64 cc ∧ 0 ≤ cc ∧ cc ≤ 4294967295 ∧ Wd vs ∧ Hid (segTo vs k q + cc * 4294967296 ^ q = segTo us k q + x * valTo ys q) ∧ Hid (∀ j, j < k ∨ k + q ≤ j → vs[j]?.getD 0 = us[j]?.getD 0) ∧ OwnW wr2 w.heap.size w.heap.size (n + m) vs ∧ Below w.heap.size w wr2) (fun _ t _ => m - (intOf t).toNat)
      case atStart => exact ⟨0, 0, us, by omega, rfl, rfl, by omega, by omega, hwu, show _ = _ by simp [segTo, valTo], fun _ _ => rfl, HO1.out, HB1.out⟩
      case round =>
        obtain ⟨q, cc, vs, hq, rfl, rfl, c0, c1, hwv, HV2, HK2, ho, hb⟩ := hrel
        by_cases hlt2 : q < m
        · obtain ⟨b2, o2, rfl, l2, cy⟩ := HCY.out q hlt2
          have x1 : wr.cell? ⟨b1, o1 + k, none⟩ = some (.int .u32 x) := (hb.cell (p := ⟨b1, o1 + k, none⟩) l1).trans HCELL.out
          have x2 : wr.cell? ⟨b2, o2 + q, none⟩ = some (.int .u32 (ys[q]?.getD 0)) := (hb.cell (p := ⟨b2, o2 + q, none⟩) l2).trans cy
          have y1 := ho.cell (k + q) (by omega)
          have f1 := ho.free (k + q)
          have b2' := WX.out.2.at q
          have b3 := hwv.at (k + q)
          have hlu := ho.len
          have bp := prod_word x (ys[q]?.getD 0) bx b2'
          obtain ⟨t, ht⟩ : ∃ t, cc + (x * ys[q]?.getD 0 + vs[k + q]?.getD 0) = t := ⟨_, rfl⟩
          have HVN : Hid (segTo (vs.set (k + q) (t % 4294967296)) k (q + 1) + t / 4294967296 * 4294967296 ^ (q + 1) = segTo us k (q + 1) + x * valTo ys (q + 1)) := by
            have e := mul_step ys vs k q 0 x cc t (by omega) ht _ HV2.out
            rw [HK2.out (k + q) (by omega)] at e
            exact e
          have HKN : Hid (∀ j, j < k ∨ k + (q + 1) ≤ j → (vs.set (k + q) (t % 4294967296))[j]?.getD 0 = us[j]?.getD 0) := fun j hj => by
            rw [List.getElem?_set, if_neg (by omega)]
            exact HK2.out j (by omega)
          have HOB : Hid (∀ j Z, OwnW ((wr.drewN j).setCell ⟨w.heap.size, k + q, none⟩ (.int .u32 Z)) w.heap.size w.heap.size (n + m) (vs.set (k + q) Z) ∧ Below w.heap.size w ((wr.drewN j).setCell ⟨w.heap.size, k + q, none⟩ (.int .u32 Z))) := fun j Z =>
            ⟨OwnW.set (show OwnW (wr.drewN j) _ _ _ _ from ho) (k + q) Z, (bdw hb j).setCell (p := ⟨w.heap.size, k + q, none⟩) (Nat.le_refl _) _⟩
          obtain ⟨y, hy⟩ : ∃ y, ys[q]?.getD 0 = y := ⟨_, rfl⟩
          obtain ⟨u, hu⟩ : ∃ u, vs[k + q]?.getD 0 = u := ⟨_, rfl⟩
          rw [hy] at x2 b2' bp ht
          rw [hu] at y1 b3 ht
          obtain ⟨p, hp⟩ : ∃ p, x * y = p := ⟨_, rfl⟩
          rw [hp] at bp ht
          have hT : p + u + cc = t := by omega
          have T0 : 0 ≤ t ∧ t ≤ 18446744073709551615 := by omega
          clear hlu ho hb HV2 HK2 ht hy hu cy
          go_wp2_with fail
          go_quiet (fail)
          go_wp2_with fail
          go_roundw
          case rel => exact ⟨q + 1, t / 4294967296, vs.set (k + q) (t % 4294967296), by omega, by go_num, by go_num, by omega, by omega, hwv.set _ (by omega), HVN, HKN, (HOB.out _ _).1, (HOB.out _ _).2⟩
          case measure => simp [intOf]; omega
        · obtain rfl : q = m := by omega
          have hlu := ho.len
          have y1 := ho.cell (k + q) (by omega)
          have f1 := ho.free (k + q)
          have HVN := hid (HRE.out cc vs (by omega) HK2.out (by have e := HV2.out; rw [valTo_stable ys q (by have := HL.out.2; omega)] at e; exact e) HV.out)
          have HKN : Hid (∀ j, k + 1 + q ≤ j → (vs.set (k + q) cc)[j]?.getD 0 = 0) := fun j hj => by
            rw [List.getElem?_set, if_neg (by omega), HK2.out j (by omega)]
            exact HK.out j (by omega)
          have HOB := hid (And.intro (ho.set (k + q) cc) (hb.setCell (p := ⟨w.heap.size, k + q, none⟩) (Nat.le_refl _) (.int .u32 cc)))
          clear hlu ho hb HV2 HK2 HV HK HRE
          go_wp2_with fail
          go_roundw
          case rel => exact ⟨k + 1, vs.set (k + q) cc, by omega, by go_num, hwv.set _ ⟨c0, c1⟩, HVN, HKN, HOB.out.1, HOB.out.2⟩
          case measure => simp [intOf]; omega
    · obtain rfl : k = n := by omega
      have hlu := ho.len
      have HF : Hid (val us = val xs * val ys) := by
        show _ = _
        have e := HV.out
        rw [valTo_stable us _ (by omega), valTo_stable xs k (by have := HL.out.1; omega)] at e
        exact e
      have HR := hid (refTrim_sl (.slice (some ⟨w.heap.size, 0, none⟩) us.length us.length) us wr (Sl.own (owns_len (show wr.ownsRow w.heap.size 36 1 (.slice (some ⟨w.heap.size, 0, none⟩) us.length us.length) us.length (us.map (Value.int .u32)) by rw [hlu]; exact ho)) hwu) (by omega))
      rw [hlu] at HR
      clear ho HV HK
      go_wp2_with fail
      refine Calls.mono HR.out ?_
      rintro e w3 ⟨v3, rfl, o3, hb3⟩
      have HO3 := hid (owns_base (owns_len o3) hb.size)
      have hbF := bt hb hb3
      clear o3 hb3
      go_wp2_with fail
      go_ret
      exact ⟨v3, _, rfl, HO3.out, hwu.trimmed, Trimmed.trimmed _, by rw [val_trimmed]; exact HF.out, hbF⟩
end Go.Proofs.Ytpehpflgfkdiaaa

/- The document's own division by one word and its shifts: slackwaterref01.small, Up, Down: of every list that can be read. -/
namespace Go.Proofs.Ytpehpflgfkdiaaa
open Go.RowKit
set_option linter.unusedVariables false

set_option maxHeartbeats 3200000 in
set_option maxRecDepth 100000 in
theorem refSmall_any (a : Option Addr) (n cap : Nat) (xs : List Int) (x : Int) (w : World) (h : Reads w w.heap.size a n cap xs) (hn : n ≤ 549755813888) (hx : 1 ≤ x ∧ x ≤ 4294967295) :
    Calls Try.prog 79 #[.slice a n cap, .int .u32 x] w fun e w' => ∃ v zs r, e = .returned (.tuple #[v, .int .u32 r]) ∧ w'.ownsRow w.heap.size 36 1 v zs.length (zs.map (Value.int .u32)) ∧ Wd zs ∧ Trimmed zs ∧ val xs = val zs * x + r ∧ 0 ≤ r ∧ r < x ∧ Below w.heap.size w w' := by
  obtain ⟨i0, hi, hz0, hz1, hz2⟩ := info_parts Try.infoW
  have hx1 := hx.1
  have hx2 := hx.2
  have WX := hid h.2.1
  have HL := hid h.1
  have HCX := hid h.cells
  have hcap := h.2.2.2.1
  clear h hx
  go_enter Try.func79, Try.ntmps79
  go_wp2_with (at_make; refine wpList_make_full _ rfl _ _ 24 rfl w.heap.size 36 i0 (.int .u32 0) 1 Try.underlying24 hi hz0 hz1 _ _ _ _ n rfl rfl (by omega) (by omega) (by rw [hz2]; omega) (by unfold maxLen; omega) (Nat.le_refl _) ?_)
  intro w1 hown hgrow
  have hbel : Below w.heap.size w w1 := (Below.refl _ _).grown hgrow (Nat.le_refl _) (fun k hk => by simp at hk)
  have HO := hid (OwnW.made hown)
  clear hown hgrow
  go_wp2_with fail
  go_loopw [7, 8] (fun c t wr => ∃ (k : Nat) (r : Int) (us : List Int), k ≤ n ∧ t = .int .i64 ((k : Int) - 1) ∧ c = .int .u64 r ∧ 0 ≤ r ∧ r < x ∧ Wd us ∧ Hid (segTo xs k (n - k) = segTo us k (n - k) * x + r) ∧ OwnW wr w.heap.size w.heap.size n us ∧ Below w.heap.size w wr) (fun _ t _ => (intOf t + 1).toNat)
  case atStart => exact ⟨n, 0, _, by omega, rfl, rfl, by omega, by omega, Wd.replicate _, show _ = _ by rw [Nat.sub_self]; simp [segTo], HO.out, hbel⟩
  case round =>
    obtain ⟨k, r, us, hk, rfl, rfl, r0, r1, hwu, HV, ho, hb⟩ := hrel
    rcases k with _ | k
    · have hlu := ho.len
      have HF : Hid (val xs = val us * x + r) := by
        show _ = _
        have e := HV.out
        rw [segTo_zero, segTo_zero, valTo_stable xs _ (by have := HL.out; omega), valTo_stable us _ (by omega)] at e
        exact e
      have HR := hid (refTrim_sl (.slice (some ⟨w.heap.size, 0, none⟩) us.length us.length) us wr (Sl.own (owns_len (show wr.ownsRow w.heap.size 36 1 (.slice (some ⟨w.heap.size, 0, none⟩) us.length us.length) us.length (us.map (Value.int .u32)) by rw [hlu]; exact ho)) hwu) (by omega))
      rw [hlu] at HR
      clear ho HV
      go_wp2_with fail
      refine Calls.mono HR.out ?_
      rintro e w3 ⟨v3, rfl, o3, hb3⟩
      have HO3 := hid (owns_base (owns_len o3) hb.size)
      have hbF := bt hb hb3
      clear o3 hb3
      go_wp2_with fail
      go_ret2
      exact ⟨v3, _, r, rfl, HO3.out, hwu.trimmed, Trimmed.trimmed _, by rw [val_trimmed]; exact HF.out, r0, r1, hbF⟩
    · have ek : (((k + 1 : Nat) : Int) - 1) = (k : Int) := by omega
      rw [ek]
      clear ek
      obtain ⟨b1, o1, rfl, l1, cx⟩ := HCX.out k (by omega)
      have x1 : wr.cell? ⟨b1, o1 + k, none⟩ = some (.int .u32 (xs[k]?.getD 0)) := (hb.cell (p := ⟨b1, o1 + k, none⟩) l1).trans cx
      have y1 := ho.cell k (by omega)
      have f1 := ho.free k
      have bu := WX.out.at k
      have hlu := ho.len
      obtain ⟨t, ht⟩ : ∃ t, t = xs[k]?.getD 0 + r * 4294967296 := ⟨_, rfl⟩
      obtain ⟨t0, q0, q1, m0, m1⟩ := div_word x r (xs[k]?.getD 0) t hx1 r0 r1 bu ht
      have t2 : t ≤ 18446744073709551615 := by omega
      have HV' := hid (div_step xs us n k x r t (by omega) hlu.symm ht HV.out)
      have HO' := hid (ho.set k (t / x))
      have HB' := hid (hb.setCell (p := ⟨w.heap.size, k, none⟩) (Nat.le_refl _) (.int .u32 (t / x)))
      have hT : r * 4294967296 + xs[k]?.getD 0 = t := by omega
      have hxz : ¬ x = 0 := by omega
      clear hlu ho hb HV ht cx
      go_wp2_with fail
      go_roundw
      case rel => exact ⟨k, t % x, us.set k (t / x), by omega, rfl, rfl, m0, m1, hwu.set k ⟨q0, q1⟩, HV', HO'.out, HB'.out⟩
      case measure => simp [intOf]

/-- A word moved up lays a multiple of the power into its place, and less than the power into the next one. -/
theorem up_word (x : Int) (t : Nat) (ht : t ≤ 31) (x0 : 0 ≤ x) (x1 : x ≤ 4294967295) : x * 2 ^ t % 4294967296 ≤ 4294967296 - 2 ^ t ∧ 0 ≤ x * 2 ^ t / 4294967296 ∧ x * 2 ^ t / 4294967296 < 2 ^ t := by
  have hp := two_pos t
  have hs := two_split t (by omega)
  have hr := two_pos (32 - t)
  refine ⟨?_, Int.ediv_nonneg (Int.mul_nonneg x0 (by omega)) (by omega), Int.ediv_lt_of_lt_mul (by omega) ?_⟩
  · have e : x * 2 ^ t % 4294967296 = x % 2 ^ (32 - t) * 2 ^ t := by
      rw [hs, Int.mul_comm x, Int.mul_emod_mul_of_pos _ _ hp, Int.mul_comm]
    rw [e]
    have h1 := Int.emod_lt_of_pos x hr
    have h2 : (x % 2 ^ (32 - t) + 1) * 2 ^ t ≤ 2 ^ (32 - t) * 2 ^ t := Int.mul_le_mul_of_nonneg_right (by omega) (by omega)
    rw [Int.mul_comm (2 ^ (32 - t)), ← hs] at h2
    rw [Int.add_mul] at h2
    omega
  · have h2 : x * 2 ^ t < 4294967296 * 2 ^ t := Int.mul_lt_mul_of_pos_right (by omega) hp
    rw [Int.mul_comm (2 ^ t)]
    exact h2
theorem up_step (xs us : List Int) (W k : Nat) (Q c lo hi p : Int) (hk : W + k + 1 < us.length) (hc : us[W + k]?.getD 0 = c) (hp : xs[k]?.getD 0 * Q = p) (hl : p = lo + hi * 4294967296) (h : segTo us W (k + 1) = valTo xs k * Q) :
    segTo ((us.set (W + k) (c + lo)).set (W + k + 1) hi) W (k + 1 + 1) = valTo xs (k + 1) * Q := by
  rw [show W + k + 1 = W + (k + 1) by omega, segTo_set _ W (k + 1) hi (by rw [List.length_set]; omega), segTo_set us W k _ (by omega), valTo_succ, pw_succ]
  rw [segTo_succ, hc] at h
  generalize (4294967296 : Int) ^ k = P at *
  generalize segTo us W k = S at *
  generalize valTo xs k = V at *
  generalize xs[k]?.getD 0 = X at *
  grind

set_option maxHeartbeats 3200000 in
set_option maxRecDepth 100000 in
theorem refUp_any (a : Option Addr) (n cap : Nat) (xs : List Int) (W t : Nat) (M : Int) (w : World) (h : Reads w w.heap.size a n cap xs) (hn : n ≤ 274877906944) (hn0 : 0 < n) (hW : W ≤ 274877906944) (ht : t ≤ 31) (hM : M = 32 * W + t) :
    Calls Try.prog 82 #[.slice a n cap, .int .i64 M] w (Ref1 w (val xs * 2 ^ t * 4294967296 ^ W)) := by
  obtain ⟨i0, hi, hz0, hz1, hz2⟩ := info_parts Try.infoW
  have WX := hid h.2.1
  have HL := hid h.1
  have HCX := hid h.cells
  have hcap := h.2.2.2.1
  have hq : M / 32 = (W : Int) := by omega
  have hr : M % 32 = (t : Int) := by omega
  have hM0 : 0 ≤ M := by omega
  have hM1 : M ≤ 9000000000000 := by omega
  have hnz : ((n : Int) == 0) = false := by simp; omega
  clear h hM
  go_enter Try.func82, Try.ntmps82
  go_wp2_with (at_make; refine wpList_make_full _ rfl _ _ 24 rfl w.heap.size 36 i0 (.int .u32 0) 1 Try.underlying24 hi hz0 hz1 _ _ _ _ (n + W + 1) rfl rfl (by omega) (by omega) (by rw [hz2]; omega) (by unfold maxLen; omega) (Nat.le_refl _) ?_)
  intro w1 hown hgrow
  have hbel : Below w.heap.size w w1 := (Below.refl _ _).grown hgrow (Nat.le_refl _) (fun k hk => by simp at hk)
  have HO := hid (OwnW.made hown)
  clear hown hgrow
  go_wp2_with fail
  go_loopw [6] (fun z wr => ∃ (k : Nat) (us : List Int), k ≤ n ∧ z = .int .i64 k ∧ Wd us ∧ Hid (us[W + k]?.getD 0 < 2 ^ t) ∧ Hid (segTo us W (k + 1) = valTo xs k * 2 ^ t) ∧ Hid (∀ j, j < W ∨ W + k + 1 ≤ j → us[j]?.getD 0 = 0) ∧ OwnW wr w.heap.size w.heap.size (n + W + 1) us ∧ Below w.heap.size w wr) (fun z _ => n - (intOf z).toNat)
  case atStart =>
    refine ⟨0, _, by omega, rfl, Wd.replicate _, ?_, ?_, fun j _ => replicate_zero _ j, HO.out, hbel⟩
    · show _ < _
      rw [replicate_zero]; exact two_pos t
    · show _ = _
      rw [segTo_succ, Nat.add_zero, replicate_zero]; simp [segTo, valTo]
  case round =>
    obtain ⟨k, us, hk, rfl, hwu, HC, HV, HK, ho, hb⟩ := hrel
    by_cases hlt : k < n
    · obtain ⟨b1, o1, rfl, l1, cx⟩ := HCX.out k (by omega)
      have x1 : wr.cell? ⟨b1, o1 + k, none⟩ = some (.int .u32 (xs[k]?.getD 0)) := (hb.cell (p := ⟨b1, o1 + k, none⟩) l1).trans cx
      have y1 := ho.cell (W + k) (by omega)
      have f1 := ho.free (W + k)
      have bx := WX.out.at k
      have hlu := ho.len
      have bc := hwu.at (W + k)
      obtain ⟨u1, u2, u3⟩ := up_word _ t ht bx.1 bx.2
      obtain ⟨q0, q1, q2, q3⟩ := shl_word _ t ht bx.1 bx.2
      have c1 := HC.out
      have HST := hid (fun c lo hi p => up_step xs us W k (2 ^ t) c lo hi p (by omega))
      have HOB : Hid (∀ A B, OwnW ((wr.setCell ⟨w.heap.size, W + k, none⟩ (.int .u32 A)).setCell ⟨w.heap.size, W + k + 1, none⟩ (.int .u32 B)) w.heap.size w.heap.size (n + W + 1) ((us.set (W + k) A).set (W + k + 1) B) ∧ Below w.heap.size w ((wr.setCell ⟨w.heap.size, W + k, none⟩ (.int .u32 A)).setCell ⟨w.heap.size, W + k + 1, none⟩ (.int .u32 B))) := fun A B =>
        ⟨(ho.set (W + k) A).set (W + k + 1) B, (hb.setCell (p := ⟨w.heap.size, W + k, none⟩) (Nat.le_refl _) _).setCell (p := ⟨w.heap.size, W + k + 1, none⟩) (Nat.le_refl _) _⟩
      have HF2 : Hid (∀ A, (wr.setCell ⟨w.heap.size, W + k, none⟩ (.int .u32 A)).cell? ⟨w.heap.size, W + k + 1, none⟩ = some (.int .u32 ((us.set (W + k) A)[W + k + 1]?.getD 0)) ∧ (wr.setCell ⟨w.heap.size, W + k, none⟩ (.int .u32 A)).frozen? ⟨w.heap.size, W + k + 1, none⟩ = false) := fun A => ⟨(ho.set (W + k) A).cell (W + k + 1) (by omega), (ho.set (W + k) A).free _⟩
      obtain ⟨X, hX⟩ : ∃ X, xs[k]?.getD 0 = X := ⟨_, rfl⟩
      obtain ⟨c, hc⟩ : ∃ c, us[W + k]?.getD 0 = c := ⟨_, rfl⟩
      rw [hX] at x1 bx HST u1 u2 u3 q0 q1
      rw [hc] at y1 c1 bc HST
      obtain ⟨p, hp⟩ : ∃ p, X * 2 ^ t = p := ⟨_, rfl⟩
      rw [hp] at u1 u2 u3 q0 q1
      obtain ⟨lo, hlo⟩ : ∃ lo, p % 4294967296 = lo := ⟨_, rfl⟩
      obtain ⟨hi', hhi⟩ : ∃ hi', p / 4294967296 = hi' := ⟨_, rfl⟩
      have hpl : p = lo + hi' * 4294967296 := by omega
      have HSV := hid (HST.out c lo hi' p rfl hp hpl HV.out)
      have HOB2 := hid (HOB.out (c + lo) hi')
      obtain ⟨g1, g2⟩ := HF2.out (c + lo)
      have lo0 : 0 ≤ lo := by omega
      rw [hlo] at u1
      rw [hhi] at u2 u3
      have hcl : c + lo ≤ 4294967295 := by omega
      have hi1 : hi' ≤ 4294967295 := by omega
      have HU3 := hid u3
      have p1 : p ≤ 18446744073709551615 := by omega
      have hkW : ((k : Int) + (W : Int)) = ((W + k : Nat) : Int) := by omega
      have hkW1 : (((W + k : Nat) : Int) + 1) = ((W + k + 1 : Nat) : Int) := by omega
      have HKN : Hid (∀ j, j < W ∨ W + (k + 1) + 1 ≤ j → ((us.set (W + k) (c + lo)).set (W + k + 1) hi')[j]?.getD 0 = 0) := fun j hj => by
        rw [List.getElem?_set, if_neg (by omega), List.getElem?_set, if_neg (by omega)]
        exact HK.out j (by omega)
      have HCN : Hid (((us.set (W + k) (c + lo)).set (W + k + 1) hi')[W + (k + 1)]?.getD 0 < 2 ^ t) := by
        show _ < _
        rw [show W + (k + 1) = W + k + 1 by omega, List.getElem?_set, if_pos rfl, if_pos (by rw [List.length_set]; omega)]
        exact HU3.out
      have HWN := hid ((hwu.set (W + k) (show 0 ≤ c + lo ∧ c + lo ≤ 4294967295 by omega)).set (W + k + 1) (show 0 ≤ hi' ∧ hi' ≤ 4294967295 by omega))
      clear hlu ho hb HV HK HC cx hX hc hpl u1 u3 q1 q2 q3 c1 HST HOB HF2
      go_wp2_with fail
      go_roundw
      case rel => exact ⟨k + 1, _, by omega, by go_num, HWN.out, HCN, HSV, HKN, HOB2.out.1, HOB2.out.2⟩
      case measure => simp [intOf]; omega
    · obtain rfl : k = n := by omega
      have hlu := ho.len
      have HF : Hid (val us = val xs * 2 ^ t * 4294967296 ^ W) := by
        show _ = _
        rw [← valTo_stable us (W + (k + 1)) (by omega), valTo_seg us W (k + 1), HV.out, valTo_stable xs k (by have := HL.out; omega), valTo_congr us [] W (fun j hj => by rw [HK.out j (.inl hj)]; rfl), valTo_stable [] _ (by simp), val_nil]
        omega
      have HR := hid (refTrim_sl (.slice (some ⟨w.heap.size, 0, none⟩) us.length us.length) us wr (Sl.own (owns_len (show wr.ownsRow w.heap.size 36 1 (.slice (some ⟨w.heap.size, 0, none⟩) us.length us.length) us.length (us.map (Value.int .u32)) by rw [hlu]; exact ho)) hwu) (by omega))
      rw [hlu] at HR
      clear ho HV HK HC
      go_wp2_with fail
      refine Calls.mono HR.out ?_
      rintro e w3 ⟨v3, rfl, o3, hb3⟩
      have HO3 := hid (owns_base (owns_len o3) hb.size)
      have hbF := bt hb hb3
      clear o3 hb3
      go_wp2_with fail
      go_ret
      exact ⟨v3, _, rfl, HO3.out, hwu.trimmed, Trimmed.trimmed _, by rw [val_trimmed]; exact HF.out, hbF⟩
end Go.Proofs.Ytpehpflgfkdiaaa

/- The document's own shift down: slackwaterref01.Down: of every list that can be read. -/
namespace Go.Proofs.Ytpehpflgfkdiaaa
open Go.RowKit
set_option linter.unusedVariables false

theorem Reads.behind {w : World} {B : Nat} {b o n cap : Nat} {zs : List Int} (h : Reads w B (some ⟨b, o, none⟩) n cap zs) (W : Nat) (hW : W < n) : Reads w B (some ⟨b, o + W, none⟩) (n - W) (cap - W) (zs.drop W) := by
  obtain ⟨h1, h2, h3, h4, h5, h6⟩ := h
  refine ⟨by rw [List.length_drop]; omega, h2.drop W, ?_, by omega, by omega, fun e => by simp at e⟩
  rcases h3 with h3 | ⟨b', o', ha, hlt, hc⟩
  · omega
  · right
    simp only [Option.some.injEq, Addr.mk.injEq] at ha
    obtain ⟨rfl, rfl, _⟩ := ha
    refine ⟨b, o + W, rfl, hlt, fun j hj => ?_⟩
    rw [Nat.add_assoc, hc (W + j) (by omega), List.getElem?_drop]
theorem down_val (xs us : List Int) (W m t : Nat) (wx : Wd xs) (ht : t ≤ 31) (hlen : xs.length = W + m) (hpt : ∀ j, j < m → us[j]?.getD 0 = (xs[W + j]?.getD 0 + xs[W + (j + 1)]?.getD 0 * 4294967296) / 2 ^ t % 4294967296) :
    ∀ d k, k + d = m → segTo us k d = segTo xs (W + k) d / 2 ^ t
  | 0, k, h => by show (0 : Int) = 0 / 2 ^ t; simp
  | d + 1, k, h => by
    have ih := down_val xs us W m t wx ht hlen hpt d (k + 1) (by omega)
    have bx := wx.at (W + k)
    have hw := lower_word (segTo xs (W + (k + 1)) d) (xs[W + k]?.getD 0) (xs[W + (k + 1)]?.getD 0) (2 ^ t) (2 ^ (32 - t)) (segTo_nonneg wx _ _) (by rw [segTo_low wx (W + (k + 1)) d (fun h => by rw [List.getElem?_eq_none (by omega)]; rfl)]) bx.1 bx.2 (two_pos t) (two_split t (by omega))
    rw [segTo_cons, segTo_cons, hpt k (by omega), ih, hw]
    rfl
theorem down_all (xs us : List Int) (W m t : Nat) (wx : Wd xs) (ht : t ≤ 31) (hlen : xs.length = W + m) (hlu : us.length = m) (hpt : ∀ j, j < m → us[j]?.getD 0 = (xs[W + j]?.getD 0 + xs[W + (j + 1)]?.getD 0 * 4294967296) / 2 ^ t % 4294967296) :
    val us = val xs / 4294967296 ^ W / 2 ^ t := by
  have e := down_val xs us W m t wx ht hlen hpt m 0 (by omega)
  rw [segTo_zero, Nat.add_zero, valTo_stable us _ (by omega)] at e
  rw [e, ← valTo_stable xs (W + m) (by omega), valTo_seg xs W m]
  have b := valTo_bounds wx W
  rw [Int.add_mul_ediv_right _ _ (by have := pw_pos W; omega), Int.ediv_eq_zero_of_lt b.1 b.2]
  simp

set_option maxHeartbeats 3200000 in
set_option maxRecDepth 100000 in
theorem refDown_none (a : Option Addr) (n cap : Nat) (W t : Nat) (M : Int) (w : World) (hn : n ≤ 274877906944) (hW : n ≤ W) (hW' : W ≤ 274877906944) (ht : t ≤ 31) (hM : M = 32 * W + t) :
    Calls Try.prog 84 #[.slice a n cap, .int .i64 M] w fun e w' => e = .returned (.slice none 0 0) ∧ w = w' := by
  have hq : M / 32 = (W : Int) := by omega
  have hM0 : 0 ≤ M := by omega
  have hM1 : M ≤ 9000000000000 := by omega
  have hle : (n : Int) ≤ (W : Int) := by omega
  clear hM
  go_enter Try.func84, Try.ntmps84
  go_wp2_with fail
  go_ret
  exact ⟨rfl, rfl⟩

set_option maxHeartbeats 3200000 in
set_option maxRecDepth 100000 in
theorem refDown_any (a : Option Addr) (n cap : Nat) (xs : List Int) (W t : Nat) (M : Int) (w : World) (h : Reads w w.heap.size a n cap xs) (hn : n ≤ 274877906944) (hW : W < n) (ht : t ≤ 31) (hM : M = 32 * W + t) :
    Calls Try.prog 84 #[.slice a n cap, .int .i64 M] w (Ref1 w (val xs / 4294967296 ^ W / 2 ^ t)) := by
  obtain ⟨i0, hi, hz0, hz1, hz2⟩ := info_parts Try.infoW
  rcases h.2.2.1 with h0 | ⟨b1, o1, rfl, hb1, hc1⟩
  · omega
  obtain ⟨m, hm⟩ : ∃ m, n = W + m := ⟨n - W, by omega⟩
  subst hm
  have WX := hid h.2.1
  have HL := hid h.1
  have HR := h.behind W hW
  have hnm : W + m - W = m := by omega
  rw [hnm] at HR
  have HRB := hid HR
  have HCX := hid hc1
  have hcap := h.2.2.2.1
  have hq : M / 32 = (W : Int) := by omega
  have hr : M % 32 = (t : Int) := by omega
  have hM0 : 0 ≤ M := by omega
  have hM1 : M ≤ 9000000000000 := by omega
  have hlt : ¬ ((W + m : Nat) : Int) ≤ (W : Int) := by omega
  have him : (((W + m : Nat) : Int) - (W : Int)) = (m : Int) := by omega
  have hcz : ¬ cap = W := by omega
  have hm0 : 0 < m := by omega
  clear h hM HR hc1
  go_enter Try.func84, Try.ntmps84
  go_wp2_with (at_make; refine wpList_make_full _ rfl _ _ 24 rfl w.heap.size 36 i0 (.int .u32 0) 1 Try.underlying24 hi hz0 hz1 _ _ _ _ m rfl rfl (by omega) (by omega) (by rw [hz2]; omega) (by unfold maxLen; omega) (Nat.le_refl _) ?_)
  intro w1 hown hgrow
  have hbel : Below w.heap.size w w1 := (Below.refl _ _).grown hgrow (Nat.le_refl _) (fun k hk => by simp at hk)
  have HO := hid (OwnW.made hown)
  clear hown hgrow
  go_wp2_with fail
  go_loopw [7] (fun z wr => ∃ (k : Nat) (us : List Int), k ≤ m ∧ z = .int .i64 k ∧ Wd us ∧ Hid (∀ j, j < k → us[j]?.getD 0 = (xs[W + j]?.getD 0 + xs[W + (j + 1)]?.getD 0 * 4294967296) / 2 ^ t % 4294967296) ∧ OwnW wr w.heap.size w.heap.size m us ∧ Below w.heap.size w wr) (fun z _ => m - (intOf z).toNat)
  case atStart => exact ⟨0, _, by omega, rfl, Wd.replicate _, fun j hj => by omega, HO.out, hbel⟩
  case round =>
    obtain ⟨k, us, hk, rfl, hwu, HV, ho, hb⟩ := hrel
    by_cases hlt2 : k < m
    · have x1 : wr.cell? ⟨b1, o1 + W + k, none⟩ = some (.int .u32 (xs[W + k]?.getD 0)) := by
        have e := (hb.cell (p := ⟨b1, o1 + (W + k), none⟩) hb1).trans (HCX.out (W + k) (by omega))
        rw [Nat.add_assoc]; exact e
      have y1 := ho.cell k (by omega)
      have f1 := ho.free k
      have bx := WX.out.at (W + k)
      have bz := WX.out.at (W + (k + 1))
      have hlu := ho.len
      have HW2 := hid (word_q (k + 1) (HRB.out.later hb (Nat.le_refl _)) (by omega))
      rw [List.getElem?_drop, show ((k + 1 : Nat) : Int) = (k : Int) + 1 by omega] at HW2
      have HOB : Hid (∀ j Z, OwnW ((wr.drewN j).setCell ⟨w.heap.size, k, none⟩ (.int .u32 Z)) w.heap.size w.heap.size m (us.set k Z) ∧ Below w.heap.size w ((wr.drewN j).setCell ⟨w.heap.size, k, none⟩ (.int .u32 Z))) := fun j Z =>
        ⟨OwnW.set (show OwnW (wr.drewN j) _ _ _ _ from ho) k Z, (bdw hb j).setCell (p := ⟨w.heap.size, k, none⟩) (Nat.le_refl _) _⟩
      have HPT : Hid (∀ Z, Z = (xs[W + k]?.getD 0 + xs[W + (k + 1)]?.getD 0 * 4294967296) / 2 ^ t % 4294967296 → ∀ j, j < k + 1 → (us.set k Z)[j]?.getD 0 = (xs[W + j]?.getD 0 + xs[W + (j + 1)]?.getD 0 * 4294967296) / 2 ^ t % 4294967296) := fun Z hZ j hj => by
        rw [List.getElem?_set]
        by_cases e : k = j
        · subst e
          rw [if_pos rfl, if_pos (by omega)]; exact hZ
        · rw [if_neg e]; exact HV.out j (by omega)
      obtain ⟨x, hx⟩ : ∃ x, xs[W + k]?.getD 0 = x := ⟨_, rfl⟩
      obtain ⟨z, hz⟩ : ∃ z, xs[W + (k + 1)]?.getD 0 = z := ⟨_, rfl⟩
      rw [hx] at x1 bx HPT
      rw [hz] at bz HW2 HPT
      obtain ⟨u, hu⟩ : ∃ u, z * 4294967296 + x = u := ⟨_, rfl⟩
      have u0 : 0 ≤ u ∧ u ≤ 18446744073709551615 := by omega
      have hQ := two_pos t
      have q0 : 0 ≤ u / 2 ^ t := Int.ediv_nonneg (by omega) (by omega)
      have q1 : u / 2 ^ t ≤ 18446744073709551615 := by
        have : u / 2 ^ t ≤ u := Int.ediv_le_self _ (by omega)
        omega
      obtain ⟨q, hq'⟩ : ∃ q, u / 2 ^ t = q := ⟨_, rfl⟩
      rw [hq'] at q0 q1
      have HPQ := hid (HPT.out (q % 4294967296) (by rw [← hq', ← hu, Int.add_comm x]))
      clear hlu ho hb HV HPT hx hz hQ
      go_wp2_with fail
      go_quiet ((go_at_call 65; exact Calls.quiet_of_same (HW2.out _)))
      go_wp2_with fail
      go_roundw
      case rel => exact ⟨k + 1, us.set k (q % 4294967296), by omega, by go_num, hwu.set _ (by omega), HPQ, (HOB.out _ _).1, (HOB.out _ _).2⟩
      case measure => simp [intOf]; omega
    · obtain rfl : k = m := by omega
      have hlu := ho.len
      have HF := hid (down_all xs us W k t WX.out ht HL.out hlu HV.out)
      have HR := hid (refTrim_sl (.slice (some ⟨w.heap.size, 0, none⟩) us.length us.length) us wr (Sl.own (owns_len (show wr.ownsRow w.heap.size 36 1 (.slice (some ⟨w.heap.size, 0, none⟩) us.length us.length) us.length (us.map (Value.int .u32)) by rw [hlu]; exact ho)) hwu) (by omega))
      rw [hlu] at HR
      clear ho HV
      go_wp2_with fail
      refine Calls.mono HR.out ?_
      rintro e w3 ⟨v3, rfl, o3, hb3⟩
      have HO3 := hid (owns_base (owns_len o3) hb.size)
      have hbF := bt hb hb3
      clear o3 hb3
      go_wp2_with fail
      go_ret
      exact ⟨v3, _, rfl, HO3.out, hwu.trimmed, Trimmed.trimmed _, by rw [val_trimmed]; exact HF.out, hbF⟩
end Go.Proofs.Ytpehpflgfkdiaaa

/- The document's own long division, its parts: slackwaterref01.below, off, digit; its calls at any slice that can be read. -/
namespace Go.Proofs.Ytpehpflgfkdiaaa
open Go.RowKit
set_option linter.unusedVariables false

theorem refPlus_sl (v u : Value) (xs ys : List Int) (w : World) (h : Sl w v xs) (g : Sl w u ys) (hn : xs.length ≤ 549755813888) (hm : ys.length ≤ 549755813888) : Calls Try.prog 64 #[v, u] w (Ref1 w (val xs + val ys)) := by
  obtain ⟨a, cap, rfl, hr⟩ := h
  obtain ⟨b, cap', rfl, gr⟩ := g
  exact refPlus_any a _ cap xs b _ cap' ys w hr gr hn hm
theorem refLess_sl (v u : Value) (xs ys : List Int) (w : World) (h : Sl w v xs) (g : Sl w u ys) (hn : xs.length ≤ 549755813888) (hm : ys.length ≤ 549755813888) (hle : val ys ≤ val xs) : Calls Try.prog 66 #[v, u] w (Ref1 w (val xs - val ys)) := by
  obtain ⟨a, cap, rfl, hr⟩ := h
  obtain ⟨b, cap', rfl, gr⟩ := g
  exact refLess_any a _ cap xs b _ cap' ys w hr gr hn hm hle
theorem refTimes_sl (v u : Value) (xs ys : List Int) (w : World) (h : Sl w v xs) (g : Sl w u ys) (hn : xs.length ≤ 274877906944) (hm : ys.length ≤ 274877906944) : Calls Try.prog 67 #[v, u] w (Ref1 w (val xs * val ys)) := by
  obtain ⟨a, cap, rfl, hr⟩ := h
  obtain ⟨b, cap', rfl, gr⟩ := g
  exact refTimes_any a _ cap xs b _ cap' ys w hr gr hn hm
theorem refOf_val (x : Int) (w : World) (h0 : 0 ≤ x) (h1 : x ≤ 18446744073709551615) : Calls Try.prog 80 #[.int .u64 x] w (Ref1 w x) := by
  refine Calls.mono (refOf_any x w h0 h1) ?_
  rintro e w' ⟨v, rfl, o, hb⟩
  refine ⟨v, _, rfl, owns_len o, (of_wd x h0 h1).trimmed, Trimmed.trimmed _, ?_, hb⟩
  rw [val_trimmed, val_two]
  omega
theorem Ref1.slice {w w' : World} {t : Int} {x : Ending} (h : Ref1 w t x w') : ∃ a c zs, x = .returned (.slice a zs.length c) ∧ w'.ownsRow w.heap.size 36 1 (.slice a zs.length c) zs.length (zs.map (Value.int .u32)) ∧ Wd zs ∧ Trimmed zs ∧ val zs = t ∧ Below w.heap.size w w' := by
  obtain ⟨v, zs, rfl, o, h1, h2, h3, h4⟩ := h
  obtain ⟨a, c, hs⟩ := own_slice' o
  subst hs
  exact ⟨a, c, zs, rfl, o, h1, h2, h3, h4⟩

set_option maxHeartbeats 1600000 in
set_option maxRecDepth 100000 in
theorem refBelow_any (v u : Value) (rs ds : List Int) (x : Int) (w : World) (h : Sl w v rs) (g : Sl w u ds) (hn : rs.length ≤ 274877906944) (hm : ds.length ≤ 274877906944) (x0 : 0 ≤ x) (x1 : x ≤ 4294967295) :
    Calls Try.prog 93 #[v, u, .int .u64 x] w fun e w' => e = .returned (.bool (decide (val rs < val ds * x))) ∧ Below w.heap.size w w' := by
  have HO := hid (refOf_val x w x0 (by omega))
  have HX := hid h
  have HD := hid g
  have HN := hid (And.intro hn hm)
  have HX1 := hid x1
  clear h g hn hm x1
  go_enter Try.func93, Try.ntmps93
  go_wp2_with fail
  refine Calls.mono HO.out ?_
  intro e w1 h1
  obtain ⟨a1, c1, zs, rfl, o1, wz, tz, vz, hb1⟩ := h1.slice
  have lz : zs.length ≤ 1 := len_of_lt wz tz (by rw [vz]; have := HX1.out; omega)
  have HT := hid (refTimes_sl _ _ ds zs w1 (HD.out.later hb1) (Sl.own o1 wz) HN.out.2 (by omega))
  rw [vz] at HT
  have HB1 := hid hb1
  have lzd : zs.length + ds.length ≤ 274877906945 := by have := HN.out.2; omega
  clear h1 o1 wz tz vz hb1 HO
  go_wp2_with fail
  refine Calls.mono HT.out ?_
  intro e w2 h2
  obtain ⟨a2, c2, ps, rfl, o2, wp, tp, vp, hb2⟩ := h2.slice
  have HB2 := hid (bt HB1.out hb2)
  have lp : ps.length ≤ 281474976710656 := by
    have hl := val_lt HD.out.wd
    have e1 : val ps < 4294967296 ^ (ds.length + 1) := by
      rw [vp, pw_succ]
      have p := pw_pos ds.length
      have d0 := val_nonneg HD.out.wd
      have := HX1.out
      have a1 : val ds * x ≤ val ds * 4294967296 := Int.mul_le_mul_of_nonneg_left (by omega) d0
      have a2 : val ds * 4294967296 < 4294967296 ^ ds.length * 4294967296 := Int.mul_lt_mul_of_pos_right hl (by omega)
      omega
    have := len_of_lt wp tp e1
    have := HN.out
    omega
  have HC := hid (refCompare_sl _ _ rs ps w2 (HX.out.later HB2.out) (Sl.own o2 wp) (by have := HN.out; omega) lp)
  rw [vp] at HC
  clear h2 o2 wp tp vp hb2 HT lp HB1
  by_cases hlt : val rs < val ds * x
  · rw [cmpI_lt hlt] at HC
    have HE : Hid (decide (val rs < val ds * x) = true) := decide_eq_true hlt
    clear hlt
    go_wp2_with fail
    refine Calls.mono HC.out ?_
    rintro e w3 ⟨rfl, rfl⟩
    go_wp2_with fail
    go_ret
    exact ⟨ret_bool HE.out.symm, HB2.out⟩
  · have HE : Hid (decide (val rs < val ds * x) = false) := decide_eq_false hlt
    obtain ⟨c, hc, hc'⟩ : ∃ c, cmpI (val rs) (val ds * x) = c ∧ (c = 0 ∨ c = 1) := by
      by_cases e : val rs = val ds * x
      · exact ⟨0, cmpI_eq e, .inl rfl⟩
      · exact ⟨1, cmpI_gt (by omega), .inr rfl⟩
    rw [hc] at HC
    clear hlt hc
    rcases hc' with rfl | rfl
    · go_wp2_with fail
      refine Calls.mono HC.out ?_
      rintro e w3 ⟨rfl, rfl⟩
      go_wp2_with fail
      go_ret
      exact ⟨ret_bool HE.out.symm, HB2.out⟩
    · go_wp2_with fail
      refine Calls.mono HC.out ?_
      rintro e w3 ⟨rfl, rfl⟩
      go_wp2_with fail
      go_ret
      exact ⟨ret_bool HE.out.symm, HB2.out⟩

theorem valTo_mid (ys : List Int) (i l : Nat) : ∀ k, k ≤ l → valTo ((ys.drop i).take l) k = segTo ys i k
  | 0, _ => rfl
  | k + 1, h => by rw [valTo_succ, segTo_succ, valTo_mid ys i l k (by omega), List.getElem?_take, if_pos (by omega), List.getElem?_drop]
theorem val_mid (ys : List Int) (i l : Nat) (h : i + l ≤ ys.length) : val ((ys.drop i).take l) = segTo ys i l := by
  rw [← valTo_mid ys i l l (Nat.le_refl _), valTo_stable _ _ (by rw [List.length_take, List.length_drop]; omega)]
theorem OwnC.mid {w : World} {base g n cap : Nat} {ys : List Int} (h : OwnC w base g n cap ys) (hw : Wd ys) (i l c : Nat) (hil : i + l ≤ n) (hc : l ≤ c) (hcm : c ≤ maxLen) : Sl w (.slice (some ⟨g, i, none⟩) l c) ((ys.drop i).take l) := by
  have hl := h.len
  have hll : ((ys.drop i).take l).length = l := by rw [List.length_take, List.length_drop]; omega
  refine ⟨some ⟨g, i, none⟩, c, by rw [hll], ?_⟩
  rw [hll]
  refine ⟨hll, (hw.drop i).take l, .inr ⟨g, i, rfl, (World.ownsRow.lt h g rfl).2, fun j hj => ?_⟩, hc, hcm, fun e => by simp at e⟩
  rw [h.cell (i + j) (by omega), List.getElem?_take, if_pos hj, List.getElem?_drop]

set_option maxHeartbeats 3200000 in
set_option maxRecDepth 100000 in
theorem refOff_any (base g n cap i l c : Nat) (ys : List Int) (u : Value) (ds : List Int) (x : Int) (w : World) (ho : OwnC w base g n cap ys) (hwy : Wd ys) (hil : i + l ≤ n) (hc : l ≤ c) (hcm : c ≤ maxLen) (hn : n ≤ 137438953472) (hd : Sl w u ds) (hm : ds.length ≤ 137438953472) (x0 : 0 ≤ x) (x1 : x ≤ 4294967295) (hle : val ds * x ≤ segTo ys i l) :
    Calls Try.prog 94 #[.slice (some ⟨g, i, none⟩) l c, u, .int .u64 x] w fun e w' => ∃ us, e = .returned (.tuple #[]) ∧ OwnC w' base g n cap us ∧ Wd us ∧ (∀ j, j < i ∨ i + l ≤ j → us[j]?.getD 0 = ys[j]?.getD 0) ∧ segTo us i l = segTo ys i l - val ds * x ∧ w.grownBy w' (some g) := by
  have hgw := (World.ownsRow.lt ho g rfl).2
  have hly := ho.len
  have hll : ((ys.drop i).take l).length = l := by rw [List.length_take, List.length_drop]; omega
  have hvm := val_mid ys i l (by omega)
  have HSR := hid (ho.mid hwy i l c hil hc hcm)
  have HO := hid (refOf_val x w x0 (by omega))
  have HD := hid hd
  have HOY := hid ho
  have HX1 := hid x1
  have HLE := hid hle
  have HVM := hid hvm
  have HLL := hid hll
  clear hd x1 hle ho hvm hll
  go_enter Try.func94, Try.ntmps94
  go_wp2_with fail
  refine Calls.mono HO.out ?_
  intro e w1 h1
  obtain ⟨a1, c1, zs, rfl, o1, wz, tz, vz, hb1⟩ := h1.slice
  have lz : zs.length ≤ 1 := len_of_lt wz tz (by rw [vz]; have := HX1.out; omega)
  have HT := hid (refTimes_sl _ _ ds zs w1 (HD.out.later hb1) (Sl.own o1 wz) (by omega) (by omega))
  rw [vz] at HT
  have HB1 := hid hb1
  clear h1 o1 wz tz vz hb1 HO lz
  go_wp2_with fail
  refine Calls.mono HT.out ?_
  intro e w2 h2
  obtain ⟨a2, c2, ps, rfl, o2, wp, tp, vp, hb2⟩ := h2.slice
  have HB2 := hid (bt HB1.out hb2)
  have lp : ps.length ≤ 549755813888 := by
    have e1 : val ps < 4294967296 ^ l := by rw [vp]; have := HLE.out; have := (segTo_bounds hwy i l).2; omega
    have := len_of_lt wp tp e1
    omega
  have HF := hid (refLess_sl _ _ ((ys.drop i).take l) ps w2 (HSR.out.later HB2.out) (Sl.own o2 wp) (by rw [HLL.out]; omega) lp (by rw [vp, HVM.out]; exact HLE.out))
  rw [vp, HVM.out] at HF
  clear h2 o2 wp tp vp hb2 HT lp HB1
  go_wp2_with fail
  refine Calls.mono HF.out ?_
  intro e w3 h3
  obtain ⟨a3, c3, qs, rfl, o3, wq, tq, vq, hb3⟩ := h3.slice
  have HB3 := hid (bt HB2.out hb3)
  have lq : qs.length ≤ l := len_of_lt wq tq (by
    rw [vq]
    have h5 := (segTo_bounds hwy i l).2
    have h6 : 0 ≤ val ds * x := Int.mul_nonneg (val_nonneg HD.out.wd) x0
    omega)
  have HQ := hid o3
  have HVQ := hid vq
  have HNE : Hid ((Value.slice a3 qs.length c3).ownBlock = none ∨ (Value.slice a3 qs.length c3).ownBlock ≠ some g) := by
    cases hv : (Value.slice a3 qs.length c3).ownBlock with
    | none => exact .inl rfl
    | some k =>
      right
      intro e
      have e1 := (World.ownsRow.lt o3 k hv).1
      have e2 := HB2.out.size
      have e3 := Option.some.inj e
      omega
  have HOW : Hid (OwnC w3 base g n cap ys) := owns_later HOY.out HB3.out
  have HG3 := hid (grown_of_below HB3.out (some g))
  clear h3 o3 vq hb3 HF HB2 HB3 HOY HSR
  go_wp2_with fail
  go_loopw [7] (fun t wr => ∃ (k : Nat) (us : List Int), k ≤ l ∧ t = .int .i64 k ∧ Wd us ∧ Hid (∀ j, j < i ∨ i + k ≤ j → us[j]?.getD 0 = ys[j]?.getD 0) ∧ Hid (∀ j, j < k → us[i + j]?.getD 0 = qs[j]?.getD 0) ∧ OwnC wr base g n cap us ∧ w3.grownBy wr (some g)) (fun t _ => l - (intOf t).toNat)
  case atStart => exact ⟨0, ys, by omega, rfl, hwy, fun _ _ => rfl, fun j hj => by omega, HOW.out, World.grownBy.refl _ _⟩
  case round =>
    obtain ⟨k, us, hk, rfl, hwu, HK, HQK, hou, hg⟩ := hrel
    by_cases hlt : k < l
    · have y1 := hou.cell (i + k) (by omega)
      have f1 := hou.free (i + k)
      have hlu := hou.len
      have hsq := Sl.own (World.ownsRow.kept HQ.out hg HNE.out) wq
      obtain ⟨aq, cq, hv, hrq⟩ := hsq
      simp only [Value.slice.injEq, true_and] at hv
      obtain ⟨rfl, rfl⟩ := hv
      have HW := hid (word_any _ _ _ qs _ (k : Int) wr hrq (by omega) (by omega))
      rw [Int.toNat_natCast] at HW
      have bq := wq.at k
      have HKN : Hid (∀ j, j < i ∨ i + (k + 1) ≤ j → (us.set (i + k) (qs[k]?.getD 0))[j]?.getD 0 = ys[j]?.getD 0) := fun j hj => by
        rw [List.getElem?_set, if_neg (by omega)]
        exact HK.out j (by omega)
      have HQN : Hid (∀ j, j < k + 1 → (us.set (i + k) (qs[k]?.getD 0))[i + j]?.getD 0 = qs[j]?.getD 0) := fun j hj => by
        rw [List.getElem?_set]
        by_cases e : k = j
        · subst e; rw [if_pos rfl, if_pos (by omega)]; rfl
        · rw [if_neg (by omega)]; exact HQK.out j (by omega)
      have HO' := hid (hou.set (i + k) (qs[k]?.getD 0)).1
      have HG' := hid (grown_trans hg (hou.set (i + k) (qs[k]?.getD 0)).2)
      have hw' := hwu.set (i + k) bq
      have HW' := hid hw'
      obtain ⟨q, hq⟩ : ∃ q, qs[k]?.getD 0 = q := ⟨_, rfl⟩
      rw [hq] at HW HKN HQN HO' HG' HW' bq
      clear hlu hou hg HK HQK hq hrq hw'
      go_wp2_with fail
      refine Calls.mono HW.out ?_
      rintro e w' ⟨rfl, rfl⟩
      go_wp2_with fail
      go_roundw
      case rel => exact ⟨k + 1, us.set (i + k) q, by omega, by go_num, HW'.out, HKN, HQN, HO'.out, HG'.out⟩
      case measure => simp [intOf]; omega
    · obtain rfl : k = l := by omega
      have HS : Hid (segTo us i k = segTo ys i k - val ds * x) := by
        show _ = _
        rw [← HVQ.out, ← valTo_stable qs k lq, ← segTo_zero]
        have e : ∀ j, j ≤ k → segTo us i j = segTo qs 0 j := fun j hj => by
          induction j with
          | zero => rfl
          | succ j ih => rw [segTo_succ, segTo_succ, ih (by omega), HQK.out j (by omega), Nat.zero_add]
        exact e k (Nat.le_refl _)
      clear HQK
      go_wp2_with fail
      go_end0
      exact ⟨us, rfl, hou, hwu, HK.out, HS.out, grown_trans HG3.out hg⟩
end Go.Proofs.Ytpehpflgfkdiaaa

/- The document's own long division, one word of it: slackwaterref01.digit. -/
namespace Go.Proofs.Ytpehpflgfkdiaaa
open Go.RowKit
set_option linter.unusedVariables false

/-- The first words tell the quotient's word, or more. -/
theorem digit_guess (P lo top dl dt q S D : Int) (hP : 0 < P) (lo1 : lo < P) (dl0 : 0 ≤ dl) (hd : 1 ≤ dt) (hS : S = lo + top * P) (hD : D = dl + dt * P) (q0 : 0 ≤ q) (hq : q * D ≤ S) : q ≤ top / dt := by
  have e1 : q * (dt * P) ≤ q * D := Int.mul_le_mul_of_nonneg_left (by omega) q0
  have e2 : q * dt * P < (top + 1) * P := by rw [Int.mul_assoc, Int.add_mul]; omega
  have e3 := Int.lt_of_mul_lt_mul_right e2 (by omega)
  exact Int.le_ediv_of_mul_le (by omega) (by omega)
theorem seg_two (ys : List Int) (i e : Nat) : segTo ys i (e + 2) = segTo ys i e + (ys[i + e]?.getD 0 + ys[i + (e + 1)]?.getD 0 * 4294967296) * 4294967296 ^ e := by
  rw [segTo_succ, segTo_succ, pw_succ]
  generalize (4294967296 : Int) ^ e = P
  grind
theorem val_top (ds : List Int) (e : Nat) (h : ds.length = e + 1) : val ds = valTo ds e + ds[e]?.getD 0 * 4294967296 ^ e := by
  unfold val; rw [h, valTo_succ]

set_option maxHeartbeats 3200000 in
set_option maxRecDepth 100000 in
theorem refDigit_any (base g n cap i e c : Nat) (ys : List Int) (b : Option Addr) (cap' : Nat) (ds : List Int) (w : World) (ho : OwnC w base g n cap ys) (hwy : Wd ys) (hil : i + (e + 2) ≤ n) (hc : e + 2 ≤ c) (hcm : c ≤ maxLen) (hn : n ≤ 137438953472) (hd : Sl w (.slice b (e + 1) cap') ds) (hlen : ds.length = e + 1) (hh : 1 ≤ ds[e]?.getD 0) (hLD : segTo ys i (e + 2) < 4294967296 * val ds) :
    Calls Try.prog 83 #[.slice (some ⟨g, i, none⟩) (e + 2) c, .slice b (e + 1) cap'] w fun x w' => ∃ (q : Int) (us : List Int), x = .returned (.int .u32 q) ∧ 0 ≤ q ∧ q ≤ 4294967295 ∧ OwnC w' base g n cap us ∧ Wd us ∧ (∀ j, j < i ∨ i + (e + 2) ≤ j → us[j]?.getD 0 = ys[j]?.getD 0) ∧ segTo us i (e + 2) = segTo ys i (e + 2) - q * val ds ∧ segTo us i (e + 2) < val ds ∧ w.grownBy w' (some g) := by
  have hwd := hd.wd
  have hD1 := val_top ds e hlen
  have hS1 := seg_two ys i e
  have P0 := pw_pos e
  have lob := segTo_bounds hwy i e
  have dlb := valTo_bounds hwd e
  have hD0 : 0 < val ds := by
    rw [hD1]
    have : 1 * (4294967296 : Int) ^ e ≤ ds[e]?.getD 0 * 4294967296 ^ e := Int.mul_le_mul_of_nonneg_right hh (by omega)
    omega
  have hS0 := (segTo_bounds hwy i (e + 2)).1
  obtain ⟨q, hq⟩ : ∃ q, segTo ys i (e + 2) / val ds = q := ⟨_, rfl⟩
  have q0 : 0 ≤ q := by rw [← hq]; exact Int.ediv_nonneg hS0 (by omega)
  have hq1 : q * val ds ≤ segTo ys i (e + 2) := by rw [← hq]; exact Int.ediv_mul_le _ (by omega)
  have hq2 : segTo ys i (e + 2) < (q + 1) * val ds := by rw [← hq]; exact Int.lt_ediv_add_one_mul_self _ hD0
  have q1 : q ≤ 4294967295 := by
    have : q * val ds < 4294967296 * val ds := by omega
    have := Int.lt_of_mul_lt_mul_right this (by omega)
    omega
  have bu0 := hwy.at (i + e)
  have bu1 := hwy.at (i + (e + 1))
  have bd := hwd.at e
  have y0 := ho.cell (i + e) (by omega)
  have y1 := ho.cell (i + (e + 1)) (by omega)
  have hG := digit_guess (4294967296 ^ e) (segTo ys i e) (ys[i + e]?.getD 0 + ys[i + (e + 1)]?.getD 0 * 4294967296) (valTo ds e) (ds[e]?.getD 0) q _ _ P0 lob.2 dlb.1 hh hS1 hD1 q0 hq1
  obtain ⟨bd1, od1, rfl, ldd, d1⟩ : ∃ b1 o1, b = some ⟨b1, o1, none⟩ ∧ b1 < w.heap.size ∧ w.cell? ⟨b1, o1 + e, none⟩ = some (.int .u32 (ds[e]?.getD 0)) := by
    obtain ⟨a', cap'', hv, hr⟩ := hd
    rw [hlen] at hv hr
    simp only [Value.slice.injEq, true_and] at hv
    obtain ⟨rfl, rfl⟩ := hv
    exact hr.cells e (by omega)
  have hly := ho.len
  have HBE := hid (fun ww (hb : Below w.heap.size w ww) X (h0 : 0 ≤ X) (h1 : X ≤ 4294967295) => refBelow_any _ _ ((ys.drop i).take (e + 2)) ds X ww ((ho.mid hwy i (e + 2) c hil hc hcm).later hb) (hd.later hb) (by rw [List.length_take, List.length_drop]; omega) (by omega) h0 h1)
  rw [val_mid ys i (e + 2) (by omega)] at HBE
  have HOF := hid (fun ww (hb : Below w.heap.size w ww) => refOff_any base g n cap i (e + 2) c ys _ ds q ww (owns_later ho hb) hwy hil hc hcm hn (hd.later hb) (by omega) q0 q1 (by rw [Int.mul_comm]; exact hq1))
  have HQ := hid (And.intro hq1 hq2)
  have HWY := hid hwy
  have HD0 := hid hD0
  obtain ⟨u0, hu0⟩ : ∃ u0, ys[i + e]?.getD 0 = u0 := ⟨_, rfl⟩
  obtain ⟨u1, hu1⟩ : ∃ u1, ys[i + (e + 1)]?.getD 0 = u1 := ⟨_, rfl⟩
  obtain ⟨dt, hdt⟩ : ∃ dt, ds[e]?.getD 0 = dt := ⟨_, rfl⟩
  rw [hu0] at y0 bu0 hG
  rw [hu1] at y1 bu1 hG
  rw [hdt] at d1 bd hG hh
  obtain ⟨top, htop⟩ : ∃ top, u1 * 4294967296 + u0 = top := ⟨_, rfl⟩
  have t0 : 0 ≤ top ∧ top ≤ 18446744073709551615 := by omega
  rw [show u0 + u1 * 4294967296 = top by omega] at hG
  have g0 : 0 ≤ top / dt := Int.ediv_nonneg (by omega) (by omega)
  have g1 : top / dt ≤ top := Int.ediv_le_self _ (by omega)
  have hdz : ¬ dt = 0 := by omega
  obtain ⟨G, hGG⟩ : ∃ G, top / dt = G := ⟨_, rfl⟩
  rw [hGG] at hG g0 g1
  have hei : (e : Int) + 1 - 1 = (e : Int) := by omega
  clear hwd hD1 hS1 P0 lob dlb hD0 hS0 hq hq1 hq2 ho hd hlen hLD hu0 hu1 hdt hwy hly
  by_cases hmin : G ≤ 4294967295
  · go_enter Try.func83, Try.ntmps83
    go_wp2_with fail
    go_quiet (fail)
    go_wp2_with fail
    clear hGG htop
    go_loopw [7] (fun t wr => ∃ X : Int, t = .int .u64 X ∧ q ≤ X ∧ X ≤ 4294967295 ∧ Below w.heap.size w wr) (fun t _ => (intOf t).toNat)
    case atStart => exact ⟨G, rfl, by omega, by omega, bdw (Below.refl _ _) _⟩
    case round =>
      obtain ⟨X, rfl, hX0, hX1, hb⟩ := hrel
      have HB := hid hb
      have HC := hid (HBE.out wr hb X (by omega) hX1)
      by_cases hlt : q < X
      · have hdec : decide (segTo ys i (e + 2) < val ds * X) = true := decide_eq_true (by
          have a1 := HQ.out.2
          have a2 : (q + 1) * val ds ≤ X * val ds := Int.mul_le_mul_of_nonneg_right (by omega) (Int.le_of_lt HD0.out)
          rw [Int.mul_comm (val ds)]
          omega)
        rw [hdec] at HC
        clear hb hdec
        go_wp2_with fail
        refine Calls.mono HC.out ?_
        rintro x w2 ⟨rfl, hb2⟩
        have HB2 := hid (bt HB.out hb2)
        clear hb2
        go_wp2_with fail
        go_roundw
        case rel => exact ⟨X - 1, rfl, by omega, by omega, HB2.out⟩
        case measure => simp [intOf]; omega
      · obtain rfl : X = q := by omega
        have hdec : decide (segTo ys i (e + 2) < val ds * X) = false := decide_eq_false (by
          have a1 := HQ.out.1
          rw [Int.mul_comm (val ds)]
          omega)
        rw [hdec] at HC
        clear hb hdec
        go_wp2_with fail
        refine Calls.mono HC.out ?_
        rintro x w2 ⟨rfl, hb2⟩
        have HB2 := hid (bt HB.out hb2)
        have HF := hid (HOF.out w2 HB2.out)
        clear hb2 HC HBE HOF
        go_wp2_with fail
        refine Calls.mono HF.out ?_
        rintro x w3 ⟨us, rfl, o3, w3', k3, s3, g3⟩
        have HR := hid (And.intro o3 (And.intro w3' (And.intro k3 (And.intro s3 (grown_trans (grown_of_below HB2.out (some g)) g3)))))
        clear o3 w3' k3 s3 g3 HF
        go_wp2_with fail
        go_ret
        refine ⟨X, us, rfl, q0, q1, HR.out.1, HR.out.2.1, HR.out.2.2.1, by rw [Int.mul_comm]; exact HR.out.2.2.2.1, ?_, HR.out.2.2.2.2⟩
        have a1 := HR.out.2.2.2.1
        have a2 := HQ.out.2
        rw [Int.mul_comm] at a1
        rw [Int.add_mul] at a2
        omega
  · go_enter Try.func83, Try.ntmps83
    go_wp2_with fail
    go_quiet (fail)
    go_wp2_with fail
    clear hGG htop
    go_loopw [7] (fun t wr => ∃ X : Int, t = .int .u64 X ∧ q ≤ X ∧ X ≤ 4294967295 ∧ Below w.heap.size w wr) (fun t _ => (intOf t).toNat)
    case atStart => exact ⟨4294967295, rfl, by omega, by omega, bdw (Below.refl _ _) _⟩
    case round =>
      obtain ⟨X, rfl, hX0, hX1, hb⟩ := hrel
      have HB := hid hb
      have HC := hid (HBE.out wr hb X (by omega) hX1)
      by_cases hlt : q < X
      · have hdec : decide (segTo ys i (e + 2) < val ds * X) = true := decide_eq_true (by
          have a1 := HQ.out.2
          have a2 : (q + 1) * val ds ≤ X * val ds := Int.mul_le_mul_of_nonneg_right (by omega) (Int.le_of_lt HD0.out)
          rw [Int.mul_comm (val ds)]
          omega)
        rw [hdec] at HC
        clear hb hdec
        go_wp2_with fail
        refine Calls.mono HC.out ?_
        rintro x w2 ⟨rfl, hb2⟩
        have HB2 := hid (bt HB.out hb2)
        clear hb2
        go_wp2_with fail
        go_roundw
        case rel => exact ⟨X - 1, rfl, by omega, by omega, HB2.out⟩
        case measure => simp [intOf]; omega
      · obtain rfl : X = q := by omega
        have hdec : decide (segTo ys i (e + 2) < val ds * X) = false := decide_eq_false (by
          have a1 := HQ.out.1
          rw [Int.mul_comm (val ds)]
          omega)
        rw [hdec] at HC
        clear hb hdec
        go_wp2_with fail
        refine Calls.mono HC.out ?_
        rintro x w2 ⟨rfl, hb2⟩
        have HB2 := hid (bt HB.out hb2)
        have HF := hid (HOF.out w2 HB2.out)
        clear hb2 HC HBE HOF
        go_wp2_with fail
        refine Calls.mono HF.out ?_
        rintro x w3 ⟨us, rfl, o3, w3', k3, s3, g3⟩
        have HR := hid (And.intro o3 (And.intro w3' (And.intro k3 (And.intro s3 (grown_trans (grown_of_below HB2.out (some g)) g3)))))
        clear o3 w3' k3 s3 g3 HF
        go_wp2_with fail
        go_ret
        refine ⟨X, us, rfl, q0, q1, HR.out.1, HR.out.2.1, HR.out.2.2.1, by rw [Int.mul_comm]; exact HR.out.2.2.2.1, ?_, HR.out.2.2.2.2⟩
        have a1 := HR.out.2.2.2.1
        have a2 := HQ.out.2
        rw [Int.mul_comm] at a1
        rw [Int.add_mul] at a2
        omega
end Go.Proofs.Ytpehpflgfkdiaaa

/- The document's own quotient and rest: slackwaterref01.Over. -/
namespace Go.Proofs.Ytpehpflgfkdiaaa
open Go.RowKit
set_option linter.unusedVariables false

/-- A quotient and a rest, in new memory. -/
def Ref2 (w : World) (xs ys : List Int) (x : Ending) (w' : World) : Prop := ∃ v zs u rs, x = .returned (.tuple #[v, u]) ∧ w'.ownsRow w.heap.size 36 1 v zs.length (zs.map (Value.int .u32)) ∧ w'.ownsRow w.heap.size 36 1 u rs.length (rs.map (Value.int .u32)) ∧ Wd zs ∧ Wd rs ∧ Trimmed zs ∧ Trimmed rs ∧ val xs = val zs * val ys + val rs ∧ val rs < val ys ∧ Below w.heap.size w w'
theorem refDown_zero (v : Value) (xs : List Int) (t : Nat) (w : World) (h : Sl w v xs) (hn : xs.length ≤ 274877906944) (ht : t ≤ 31) :
    Calls Try.prog 84 #[v, .int .i64 (t : Int)] w (Ref1 w (val xs / 2 ^ t)) := by
  obtain ⟨a, cap, rfl, hr⟩ := h
  by_cases h0 : xs.length = 0
  · refine Calls.mono (refDown_none a xs.length cap 0 t (t : Int) w hn (by omega) (by omega) ht (by omega)) ?_
    rintro e w' ⟨rfl, rfl⟩
    have hx : xs = [] := List.eq_nil_of_length_eq_zero h0
    refine ⟨_, [], rfl, World.ownsRow_nil _ _ _ _, Wd.nil, Trimmed.nil, ?_, Below.refl _ _⟩
    rw [hx, val_nil]; simp
  · have e := refDown_any a xs.length cap xs 0 t (t : Int) w hr hn (by omega) ht (by omega)
    rw [Int.pow_zero, Int.ediv_one] at e
    exact e
theorem refUp_zero (v : Value) (xs : List Int) (t : Nat) (w : World) (h : Sl w v xs) (hn : xs.length ≤ 274877906944) (h0 : 0 < xs.length) (ht : t ≤ 31) :
    Calls Try.prog 82 #[v, .int .i64 (t : Int)] w (Ref1 w (val xs * 2 ^ t)) := by
  obtain ⟨a, cap, rfl, hr⟩ := h
  have e := refUp_any a xs.length cap xs 0 t (t : Int) w hr hn h0 (by omega) ht (by omega)
  rw [Int.pow_zero, Int.mul_one] at e
  exact e
/-- A stretch of one word more that is below the divisor has a nought at its end. -/
theorem seg_end {vs : List Int} (wv : Wd vs) (k m : Nat) {D : Int} (hD : D < 4294967296 ^ m) (h : segTo vs k (m + 1) < D) : vs[k + m]?.getD 0 = 0 := by
  have hb := wv.at (k + m)
  have sb := segTo_nonneg wv k m
  by_cases c : vs[k + m]?.getD 0 = 0
  · exact c
  · have : 1 * (4294967296 : Int) ^ m ≤ vs[k + m]?.getD 0 * 4294967296 ^ m := Int.mul_le_mul_of_nonneg_right (by omega) (Int.le_of_lt (pw_pos m))
    rw [segTo_succ] at h
    omega
theorem bits_gap {ys : List Int} (hy : Trimmed ys) (e : Nat) (hl : ys.length = e + 2) (h1 : ys[e + 1]?.getD 0 ≤ 4294967295) : 32 * ((e : Int) + 2) - (bitsOf ys : Int) = ((32 - Lib.bitLen (ys[e + 1]?.getD 0).toNat : Nat) : Int) := by
  have hs : sz ys = e + 2 := by rw [← hl]; exact hy
  have hb := bitLen_le32 _ h1
  unfold bitsOf
  rw [hs, if_neg (by omega), show e + 2 - 1 = e + 1 by omega]
  omega
theorem len_of_ge {zs : List Int} (hw : Wd zs) {L : Nat} (h : (4294967296 : Int) ^ L ≤ val zs) : L < zs.length := by
  by_cases c : L < zs.length
  · exact c
  · have h1 := val_lt hw
    have h2 := pw_le (show zs.length ≤ L by omega)
    omega
theorem val_snoc_zero (ls : List Int) : val (ls ++ [0]) = val ls := by
  refine val_eq_of fun j => ?_
  rw [List.getElem?_append]
  split
  · rfl
  · rw [List.getElem?_eq_none (l := ls) (by omega)]
    by_cases e : j - ls.length = 0
    · rw [e]; rfl
    · rw [List.getElem?_eq_none (by simp; omega)]
theorem own_shape0 {w : World} {base e n : Nat} {v : Value} {xs : List Value} (h : w.ownsRow base e 1 v n xs) (hn : 0 < n) : ∃ g cap, v = .slice (some ⟨g, 0, none⟩) n cap ∧ base ≤ g ∧ g < w.heap.size ∧ n ≤ cap ∧ cap ≤ maxLen := by
  obtain ⟨g, cap, rfl, h1, h2⟩ := own_shape' h hn
  have := World.ownsRow.lt h g rfl
  exact ⟨g, cap, rfl, this.1, this.2, h1, h2⟩

set_option maxHeartbeats 1600000 in
set_option maxRecDepth 100000 in
theorem refOver_less (v u : Value) (xs ys : List Int) (w : World) (h : Sl w v xs) (g : Sl w u ys) (hn : xs.length ≤ 8200) (hm : ys.length ≤ 8200) (hlt : val xs < val ys) :
    Calls Try.prog 62 #[v, u] w (Ref2 w xs ys) := by
  have HC := hid (refCompare_sl _ _ xs ys w h g (by omega) (by omega))
  rw [cmpI_lt hlt] at HC
  have HT := hid (refTrim_sl _ xs w h (by omega))
  have HLT := hid hlt
  have HW := hid h.wd
  clear h g hlt
  go_enter Try.func62, Try.ntmps62
  go_wp2_with fail
  refine Calls.mono HC.out ?_
  rintro e w1 ⟨rfl, rfl⟩
  go_wp2_with fail
  refine Calls.mono HT.out ?_
  rintro e w2 ⟨v2, rfl, o2, hb2⟩
  have HO := hid (And.intro (owns_len o2) hb2)
  clear o2 hb2
  go_wp2_with fail
  go_ret2
  exact ⟨_, [], v2, _, rfl, World.ownsRow_nil _ _ _ _, HO.out.1, Wd.nil, HW.out.trimmed, Trimmed.nil, Trimmed.trimmed _, by rw [val_trimmed, val_nil]; omega, by rw [val_trimmed]; exact HLT.out, HO.out.2⟩

set_option maxHeartbeats 1600000 in
set_option maxRecDepth 100000 in
theorem refOver_word (v u : Value) (xs : List Int) (y : Int) (w : World) (h : Sl w v xs) (g : Sl w u [y]) (hn : xs.length ≤ 8200) (hy : 1 ≤ y) (hge : y ≤ val xs) :
    Calls Try.prog 62 #[v, u] w (Ref2 w xs [y]) := by
  have HC := hid (refCompare_sl _ _ xs [y] w h g (by omega) (by simp))
  have by' := g.wd.at 0
  simp at by'
  obtain ⟨a, cap, rfl, hr⟩ := h
  obtain ⟨b, cap', rfl, gr⟩ := g
  obtain ⟨b1, o1, rfl, l1, c1⟩ := gr.cells 0 (by simp)
  simp at c1
  have hcap := gr.2.2.2.1
  simp at hcap
  have HS := hid (refSmall_any a _ cap xs y w hr (by omega) ⟨hy, by omega⟩)
  rw [val_one] at HC
  obtain ⟨cc, hcc, hcv⟩ : ∃ c, cmpI (val xs) y = c ∧ (c = 0 ∨ c = 1) := by
    by_cases e : val xs = y
    · exact ⟨0, cmpI_eq e, .inl rfl⟩
    · exact ⟨1, cmpI_gt (by omega), .inr rfl⟩
  rw [hcc] at HC
  have hl1 : List.length [y] = 1 := rfl
  rw [hl1] at HC ⊢
  clear hr gr hge hcc hl1
  rcases hcv with rfl | rfl
  all_goals
    go_enter Try.func62, Try.ntmps62
    go_wp2_with fail
    refine Calls.mono HC.out ?_
    rintro e w1 ⟨rfl, rfl⟩
    go_wp2_with fail
    refine Calls.mono HS.out ?_
    rintro e w2 ⟨v2, zs, r, rfl, o2, wz, tz, hv, r0, r1, hb2⟩
    have r2 : r ≤ 4294967295 := by omega
    have HO := hid (refOf_val r w2 r0 (by omega))
    have HR := hid (And.intro o2 (And.intro hb2 (And.intro hv r1)))
    clear o2 hb2 hv HC HS r1
    go_wp2_with fail
    refine Calls.mono HO.out ?_
    rintro e w3 ⟨v3, rs, rfl, o3, wr, tr, hvr, hb3⟩
    have HQ := hid (And.intro (owns_base o3 HR.out.2.1.size) (And.intro (owns_later HR.out.1 hb3) (And.intro (bt HR.out.2.1 hb3) hvr)))
    clear o3 hb3 hvr HO
    go_wp2_with fail
    go_ret2
    exact ⟨v2, zs, v3, rs, rfl, HQ.out.2.1, HQ.out.1, wz, wr, tz, tr, by rw [HQ.out.2.2.2, val_one]; exact HR.out.2.2.1, by rw [HQ.out.2.2.2, val_one]; exact HR.out.2.2.2, HQ.out.2.2.1⟩
end Go.Proofs.Ytpehpflgfkdiaaa

/- The document's own long division, whole: slackwaterref01.Over of any two numbers. -/
namespace Go.Proofs.Ytpehpflgfkdiaaa
open Go.RowKit
set_option linter.unusedVariables false

theorem grown_set' (w : World) (p : Addr) (v : Value) : w.grownBy (w.setCell p v) (some p.block) :=
  ⟨rfl, rfl, rfl, by simp [World.setCell], fun k _ hne => Below.heap_setCell w p v k (fun e => hne (by rw [e]))⟩

set_option maxHeartbeats 12800000 in
set_option maxRecDepth 100000 in
theorem refOver_long (v u : Value) (xs ys : List Int) (e : Nat) (w : World) (h : Sl w v xs) (g : Sl w u ys) (hn : xs.length ≤ 8200) (hm : ys.length ≤ 8200) (hx : Trimmed xs) (hy : Trimmed ys) (hl : ys.length = e + 2) (hge : val ys ≤ val xs) :
    Calls Try.prog 62 #[v, u] w (Ref2 w xs ys) := by
  obtain ⟨i0, hi, hz0, hz1, hz2⟩ := info_parts Try.infoW
  have wx := h.wd
  have wy := g.wd
  have hyx := len_of_lt wy hy (L := xs.length) (by have := val_lt wx; omega)
  obtain ⟨s1, s2, s3, s4, s5⟩ := normal wy hy e hl
  have hgap := bits_gap hy e hl s2
  obtain ⟨t, ht⟩ : ∃ t, 32 - Lib.bitLen (ys[e + 1]?.getD 0).toNat = t := ⟨_, rfl⟩
  rw [ht] at s3 s4 s5 hgap
  have HC := hid (refCompare_sl _ _ xs ys w h g (by omega) (by omega))
  obtain ⟨cc, hcc, hcv⟩ : ∃ c, cmpI (val xs) (val ys) = c ∧ (c = 0 ∨ c = 1) := by
    by_cases e : val xs = val ys
    · exact ⟨0, cmpI_eq e, .inl rfl⟩
    · exact ⟨1, cmpI_gt (by omega), .inr rfl⟩
  rw [hcc] at HC
  have HB := hid (refBits_sl _ ys w g (by omega))
  have HSX := hid h
  have HSY := hid g
  have HN := hid (And.intro s4 (And.intro s5 (And.intro hge hl)))
  have hyn : e + 2 ≤ xs.length := by omega
  obtain ⟨a, cap, rfl, hr⟩ := h
  obtain ⟨b, cap', rfl, gr⟩ := g
  rw [hl] at HC HB ⊢
  obtain ⟨B, hB⟩ : ∃ B, bitsOf ys = B := ⟨_, rfl⟩
  rw [hB] at HB hgap
  have hB0 : (B : Int) ≤ 1000000 := by omega
  have HY' : Hid (Sl w (.slice b (e + 2) cap') ys) := by have e1 := HSY.out; rw [hl] at e1; exact e1
  clear hr gr hcc s1 s2 s4 s5 ht hge hl hB HSY hm hyx
  have hnl : ¬ cc < 0 := by omega
  have hc1 : cc ≤ 1 := by omega
  clear hcv
  skip
  · skip
    go_enter Try.func62, Try.ntmps62
    go_wp2_with fail
    refine Calls.mono HC.out ?_
    rintro x w' ⟨rfl, rfl⟩
    clear HC
    go_wp2_with fail
    refine Calls.mono HB.out ?_
    rintro x wB ⟨rfl, hbB⟩
    have HU1 := hid (refUp_zero _ ys t wB (HY'.out.later hbB) (by have := HN.out.2.2.2; omega) (by have := HN.out.2.2.2; omega) s3)
    have HBB := hid hbB
    clear hbB HB
    go_wp2_with fail
    refine Calls.mono HU1.out ?_
    intro x w1 h1
    obtain ⟨a1, c1, ds, rfl, oD, wD, tD, vD, hb1⟩ := h1.slice
    have hDl : ds.length = e + 2 := by
      have l1 := len_of_lt wD tD (L := e + 2) (by rw [vD]; exact HN.out.1)
      have l2 := len_of_ge wD (L := e + 1) (by
        rw [vD]
        have q1 := HN.out.2.1
        have q2 : (4294967296 : Int) ^ (e + 2) = 4294967296 ^ (e + 1) * 4294967296 := pw_succ (e + 1)
        have q3 := pw_pos (e + 1)
        omega)
      omega
    have hDt := top_one wD e hDl (by rw [vD]; exact HN.out.2.1)
    have HDG : Hid ((4294967296 : Int) ^ (e + 1) ≤ val ds) := by
      show _ ≤ _
      rw [vD]
      have q1 := HN.out.2.1
      have q2 : (4294967296 : Int) ^ (e + 2) = 4294967296 ^ (e + 1) * 4294967296 := pw_succ (e + 1)
      have q3 := pw_pos (e + 1)
      omega
    have HDM : Hid (val ds < 4294967296 ^ (e + 2)) := by show _ < _; rw [vD]; exact HN.out.1
    have HB1 := hid (bt HBB.out hb1)
    have HD := hid (Sl.own oD wD)
    rw [hDl] at HD
    have HU2 := hid (refUp_zero _ xs t w1 (HSX.out.later HB1.out) (by omega) (by omega) s3)
    have HVD := hid vD
    have HDl := hid hDl
    have HDt := hid hDt
    have HWD := hid wD
    rw [hDl]
    clear h1 oD wD tD vD hb1 hDl hDt HU1 HBB
    go_wp2_with fail
    refine Calls.mono HU2.out ?_
    intro x w2 h2
    obtain ⟨a2, c2, ls, rfl, oL, wL, tL, vL, hb2⟩ := h2.slice
    have hLl : e + 2 ≤ ls.length := by
      have := len_of_ge wL (L := e + 1) (by
        rw [vL]
        have q1 := HN.out.2.1
        have q2 : (4294967296 : Int) ^ (e + 2) = 4294967296 ^ (e + 1) * 4294967296 := pw_succ (e + 1)
        have q3 := pw_pos (e + 1)
        have q4 : val ys * 2 ^ t ≤ val xs * 2 ^ t := Int.mul_le_mul_of_nonneg_right HN.out.2.2.1 (Int.le_of_lt (two_pos t))
        omega)
      omega
    have hLm : ls.length ≤ 8201 := len_of_lt wL tL (by
      rw [vL]
      have q1 := val_lt wx
      have q2 : (4294967296 : Int) ^ (xs.length + 1) ≤ 4294967296 ^ 8201 := pw_le (by omega)
      have q3 : (2 : Int) ^ t ≤ 2 ^ 32 := two_le (by omega)
      have q4 : val xs * 2 ^ t ≤ val xs * 2 ^ 32 := Int.mul_le_mul_of_nonneg_left q3 (val_nonneg wx)
      rw [pw_succ] at q2
      generalize (4294967296 : Int) ^ 8201 = Z at *
      generalize (4294967296 : Int) ^ xs.length = Y at *
      have q5 : (2 : Int) ^ 32 = 4294967296 := by decide
      rw [q5] at q4
      omega)
    have hs2 := hb2.size
    have HVL := hid vL
    have HB2 := hid hb2
    have HWL := hid wL
    have oL' := oL
    obtain ⟨R, hR⟩ : ∃ R, R = ls.map (Value.int .u32) := ⟨_, rfl⟩
    obtain ⟨L, hL⟩ : ∃ L, ls.length = L := ⟨_, rfl⟩
    rw [← hR, hL] at oL
    rw [hL] at hLl hLm ⊢
    have HRL : Hid (R ++ [.int .u32 0] = (ls ++ [0]).map (Value.int .u32)) := by show _ = _; rw [hR]; simp
    have HLL := hid hL
    clear h2 oL' vL hb2 HU2 hR hL tL wL
    go_wp2_with (at_builtin; refine wpList_append_own _ rfl _ _ 24 rfl w1.heap.size 36 i0 (.int .u32 0) 1 4 Try.underlying24 hi hz0 hz1 hz2 rfl (by decide) _ _ _ rfl (oL.alloc _) ⟨w2.heap.size, 0, none⟩ 1 1 [.int .u32 0] rfl rfl (cell_one_new _ _ _) (by simp [Value.oneCell']) (by unfold maxLen; omega) (by omega) (by simp; omega) ?_)
    intro v3 w3 o3 hg3 _
    have hb3 : Below w1.heap.size w1 w3 := (HB2.out.alloc (by omega) _).grown hg3 (by simp; omega) (fun g hg => (oL.lt g hg).1)
    clear hg3 oL
    rw [HRL.out] at o3
    obtain ⟨gR, cR, hv3, gb, gl, cl, cm⟩ := own_shape0 o3 (by omega)
    subst hv3
    obtain ⟨K, hK1, hK2⟩ : ∃ K, L + 1 ≤ K + (e + 2) ∧ K + (e + 2) ≤ L + 1 := ⟨L + 1 - (e + 2), by omega, by omega⟩
    have HO3 : Hid (OwnC w3 w1.heap.size gR (L + 1) cR (ls ++ [0])) := o3
    have HB3 := hid hb3
    have hs3 := hb3.size
    have hKi : ((L : Int) + 1 - ((e : Int) + 2)) = (K : Int) := by omega
    clear o3 hb3 HRL
    go_wp2_with (at_make; refine wpList_make_full _ rfl _ _ 24 rfl w3.heap.size 36 i0 (.int .u32 0) 1 Try.underlying24 hi hz0 hz1 _ _ _ _ K rfl rfl (by omega) (by omega) (by rw [hz2]; omega) (by unfold maxLen; omega) (Nat.le_refl _) ?_)
    intro w4 hown hgrow
    have hbel4 : Below w3.heap.size w3 w4 := (Below.refl _ _).grown hgrow (Nat.le_refl _) (fun k hk => by simp at hk)
    have HOQ := hid (OwnW.made hown)
    have HB4 := hid hbel4
    clear hown hgrow hbel4
    go_wp2_with fail
    go_loopw [12] (fun z wr => ∃ (k : Nat) (us qs : List Int), k ≤ K ∧ z = .int .i64 ((k : Int) - 1) ∧ Wd us ∧ Wd qs ∧ Hid (val ls = valTo us (k + (e + 2)) + segTo qs k (K - k) * val ds * 4294967296 ^ k) ∧ Hid (segTo us k (e + 2) < val ds) ∧ Hid (∀ j, k + (e + 2) ≤ j → us[j]?.getD 0 = 0) ∧
      OwnC wr w1.heap.size gR (L + 1) cR us ∧ OwnW wr w3.heap.size w3.heap.size K qs ∧ Below w1.heap.size w1 wr) (fun z _ => (intOf z + 1).toNat)
    case atStart =>
      have hl0 : (ls ++ [0]).length = L + 1 := by rw [List.length_append, HLL.out]; rfl
      have hw0 : Wd (ls ++ [0]) := HWL.out.append (Wd.one (by omega))
      have hz0' : (ls ++ [0])[K + (e + 1)]?.getD 0 = 0 := by
        rw [List.getElem?_append, if_neg (by have := HLL.out; omega), show K + (e + 1) - ls.length = 0 by have := HLL.out; omega]; rfl
      refine ⟨K, ls ++ [0], List.replicate K 0, Nat.le_refl _, rfl, hw0, Wd.replicate _, ?_, ?_, ?_, owns_later HO3.out HB4.out, HOQ.out, HB3.out.trans (HB4.out.mono hs3)⟩
      · show _ = _
        rw [valTo_stable _ _ (by rw [hl0]; omega), val_snoc_zero, Nat.sub_self]
        simp [segTo]
      · show _ < _
        have q1 := (segTo_bounds hw0 K (e + 1)).2
        have q2 := HDG.out
        rw [show e + 2 = e + 1 + 1 by omega, segTo_succ, hz0', Int.zero_mul]
        omega
      · intro j hj
        rw [List.getElem?_eq_none (by rw [hl0]; omega)]; rfl
    case round =>
      obtain ⟨k, us, qs, hk, rfl, wu, wq, HV, HS, HZ, oU, oQ, hb⟩ := hrel
      have hbs := hb.size
      have hqb := oQ.base
      have hub := (World.ownsRow.lt oU gR rfl)
      have hlu := oU.len
      have hlq := oQ.len
      rcases k with _ | k
      · have hval : val us = valTo us (e + 2) := by
          have e1 : ∀ m, e + 2 ≤ m → valTo us m = valTo us (e + 2) := fun m hm => by
            induction m with
            | zero => omega
            | succ m ih =>
              by_cases c : e + 2 = m + 1
              · rw [c]
              · rw [valTo_succ, HZ.out m (by omega), ih (by omega)]; omega
          rw [← valTo_stable us (L + 1) (by omega)]
          exact e1 (L + 1) (by omega)
        have HF : Hid (val xs = val qs * val ys + val us / 2 ^ t ∧ val us / 2 ^ t < val ys) := by
          have e1 := HV.out
          have e2 := HS.out
          rw [segTo_zero, ← hval] at e2
          rw [segTo_zero, Nat.zero_add, Nat.sub_zero, valTo_stable qs K (by omega), Int.pow_zero, Int.mul_one, HVL.out, HVD.out, ← hval, ← Int.mul_assoc] at e1
          rw [HVD.out] at e2
          have hp := two_pos t
          have e3 : val us = (val xs - val qs * val ys) * 2 ^ t := by rw [Int.sub_mul]; omega
          have e4 : val us / 2 ^ t = val xs - val qs * val ys := by rw [e3]; exact Int.mul_ediv_cancel _ (by omega)
          refine ⟨by rw [e4]; omega, Int.ediv_lt_of_lt_mul hp e2⟩
        have hsQ : Sl wr (.slice (some ⟨w3.heap.size, 0, none⟩) K K) qs := by
          have e1 := Sl.own oQ wq
          exact e1
        have HTQ := hid (refTrim_sl _ qs wr hsQ (by omega))
        have HUO := hid oU
        have HBW : Hid (Below w.heap.size w wr) := HB1.out.trans (hb.mono HB1.out.size)
        clear HV HS HZ oU oQ hsQ hval hb
        go_wp2_with fail
        refine Calls.mono HTQ.out ?_
        rintro x w5 ⟨v5, rfl, o5, hb5⟩
        have HT5 := hid (And.intro o5 hb5)
        have HTR := hid (refTrim_sl _ us w5 (Sl.own (owns_later HUO.out hb5) wu) (by omega))
        clear o5 hb5 HTQ
        go_wp2_with fail
        refine Calls.mono HTR.out ?_
        rintro x w6 ⟨v6, rfl, o6, hb6⟩
        have HDN := hid (refDown_zero v6 (trimmed us) t w6 (Sl.own o6 wu.trimmed) (by rw [length_trimmed]; have := sz_le us; omega) s3)
        rw [val_trimmed] at HDN
        have HB6 := hid hb6
        clear o6 hb6 HTR
        go_wp2_with fail
        refine Calls.mono HDN.out ?_
        rintro x w7 ⟨v7, rs, rfl, o7, w7', t7, hv7, hb7⟩
        have HE := hid (And.intro o7 (And.intro hv7 hb7))
        clear o7 hv7 hb7 HDN
        go_wp2_with fail
        go_ret2
        have hb57 := bt HB6.out HE.out.2.2
        have hb07 := bt HBW.out (bt HT5.out.2 hb57)
        refine ⟨v5, _, v7, rs, rfl, owns_base (owns_len (owns_later HT5.out.1 hb57)) HBW.out.size, owns_base HE.out.1 (by have := HBW.out.size; have := HT5.out.2.size; have := HB6.out.size; omega), wq.trimmed, w7', Trimmed.trimmed _, t7, ?_, ?_, hb07⟩
        · rw [val_trimmed, HE.out.2.1]; exact HF.out.1
        · rw [HE.out.2.1]; exact HF.out.2
      · have ek : (((k + 1 : Nat) : Int) - 1) = (k : Int) := by omega
        rw [ek]
        clear ek
        have hs1 : segTo us k (e + 2 + 1) < 4294967296 * val ds := by
          have b0 := wu.at k
          have q := HS.out
          rw [segTo_cons]
          omega
        have HDG2 := hid (refDigit_any w1.heap.size gR (L + 1) cR k (e + 1) (cR - k) us a1 c1 ds wr oU wu (by omega) (by omega) (by omega) (by omega) (HD.out.later hb) HDl.out HDt.out hs1)
        have HOQ2 := hid oQ
        have HB5 := hid hb
        have hck : ¬ cR = k := by omega
        have HLS := hid (fun vs q wv => long_step us vs qs (e + 2) K k (val ls) (val ds) q (by omega) hlq wv HDM.out HV.out)
        have HZ2 := hid HZ.out
        clear oU oQ hb hs1 HV HS HZ
        go_wp2_with fail
        rw [show k + (e + 2) + 1 - k = e + 1 + 2 by omega]
        refine Calls.mono HDG2.out ?_
        rintro x w5 ⟨q, vs, rfl, q0, q1, oV, wv, kV, sV, ltV, gV⟩
        have hnq : (w3.heap.size : Nat) ≠ gR := by omega
        have oQ5 : OwnW w5 w3.heap.size w3.heap.size K qs := World.ownsRow.kept HOQ2.out gV (.inr (fun e => hnq (Option.some.inj e)))
        have y1 := oQ5.cell k (by omega)
        have f1 := oQ5.free k
        have HQ6 := hid (oQ5.set k q)
        have HR6 : Hid (OwnC (w5.setCell ⟨w3.heap.size, k, none⟩ (.int .u32 q)) w1.heap.size gR (L + 1) cR vs) := World.ownsRow.kept oV (grown_set' w5 ⟨w3.heap.size, k, none⟩ (.int .u32 q)) (.inr (fun e => hnq (Option.some.inj e).symm))
        have HB6 : Hid (Below w1.heap.size w1 (w5.setCell ⟨w3.heap.size, k, none⟩ (.int .u32 q))) := (HB5.out.grown gV hbs (fun g hg => by have := Option.some.inj hg; omega)).setCell (p := ⟨w3.heap.size, k, none⟩) hs3 _
        obtain ⟨r1, r2⟩ := HLS.out vs q wv (fun j hj => kV j (.inl hj)) sV ltV
        have HR := hid (And.intro r1 r2)
        have HZN : Hid (∀ j, k + (e + 2) ≤ j → vs[j]?.getD 0 = 0) := fun j hj => by
          by_cases c : j = k + (e + 2)
          · rw [c]; exact seg_end wv k (e + 2) HDM.out ltV
          · rw [kV j (.inr (by omega))]; exact HZ2.out j (by omega)
        clear oV kV sV ltV gV oQ5 r1 r2 HLS HZ2 HDG2
        go_wp2_with fail
        go_roundw
        case rel => exact ⟨k, vs, qs.set k q, by omega, rfl, wv, wq.set k ⟨q0, q1⟩, HR.out.1, HR.out.2, HZN, HR6.out, HQ6.out, HB6.out⟩
        case measure => simp [intOf]

theorem refOver_any (v u : Value) (xs ys : List Int) (w : World) (h : Sl w v xs) (g : Sl w u ys) (hn : xs.length ≤ 8200) (hm : ys.length ≤ 8200) (hx : Trimmed xs) (hy : Trimmed ys) (h0 : 0 < ys.length) :
    Calls Try.prog 62 #[v, u] w (Ref2 w xs ys) := by
  by_cases hlt : val xs < val ys
  · exact refOver_less v u xs ys w h g hn hm hlt
  · by_cases h1 : ys.length = 1
    · obtain ⟨y, rfl⟩ := List.length_eq_one_iff.1 h1
      have hy1 : 1 ≤ y := by
        have b := g.wd.head
        by_cases c : y = 0
        · subst c; exact absurd hy (by unfold Trimmed; decide)
        · omega
      rw [val_one] at hlt
      exact refOver_word v u xs y w h g hn hy1 (by omega)
    · exact refOver_long v u xs ys (ys.length - 2) w h g hn hm hx hy (by omega) (by omega)
end Go.Proofs.Ytpehpflgfkdiaaa

/- The document's own greatest common divisor: slackwaterref01.Common. -/
namespace Go.Proofs.Ytpehpflgfkdiaaa
open Go.RowKit
set_option linter.unusedVariables false

set_option maxHeartbeats 3200000 in
set_option maxRecDepth 100000 in
theorem refCommon_any (v u : Value) (xs ys : List Int) (w : World) (h : Sl w v xs) (g : Sl w u ys) (hn : xs.length ≤ 8200) (hm : ys.length ≤ 8200) (hx : Trimmed xs) (hy : Trimmed ys) :
    Calls Try.prog 48 #[v, u] w (Ref1 w (gcdI (val xs) (val ys))) := by
  have HS := hid (And.intro h g)
  obtain ⟨a, cap, rfl, hr⟩ := h
  obtain ⟨b, cap', rfl, gr⟩ := g
  clear hr gr
  go_enter Try.func48, Try.ntmps48
  go_wp2_with fail
  go_loopg [0, 1] (val ys).toNat (fun k s0 s1 wr => ∃ (a : Option Addr) (c : Nat) (us : List Int) (b : Option Addr) (d : Nat) (vs : List Int), s0 = .slice a us.length c ∧ s1 = .slice b vs.length d ∧ us.length ≤ 8200 ∧ vs.length ≤ 8200 ∧ Hid (Sl wr (.slice a us.length c) us ∧ Sl wr (.slice b vs.length d) vs ∧ Trimmed us ∧ Trimmed vs ∧ (k : Int) = val vs ∧ gcdI (val us) (val vs) = gcdI (val xs) (val ys)) ∧ Below w.heap.size w wr)
  case atStart => exact ⟨a, cap, xs, b, cap', ys, rfl, rfl, hn, hm, ⟨HS.out.1, HS.out.2, hx, hy, by have := val_nonneg HS.out.2.wd; omega, rfl⟩, Below.refl _ _⟩
  case round =>
    obtain ⟨a1, c1, us, b1, d1, vs, rfl, rfl, lu, lv, HR, hb⟩ := hrel
    by_cases h0 : vs.length = 0
    · have HF : Hid (val us = gcdI (val xs) (val ys)) := by
        have e1 : vs = [] := List.eq_nil_of_length_eq_zero h0
        have e2 := HR.out.2.2.2.2.2
        rw [e1, val_nil, gcdI_zero _ (val_nonneg HR.out.1.wd)] at e2
        exact e2
      have HT := hid (refTrim_sl _ us wr HR.out.1 (by omega))
      have HW := hid HR.out.1.wd
      rw [h0]
      clear HR HS h0 lv
      go_wp2_with fail
      refine Calls.mono HT.out ?_
      rintro e w3 ⟨v3, rfl, o3, hb3⟩
      have HO3 := hid (owns_base (owns_len o3) hb.size)
      have hbF := bt hb hb3
      clear o3 hb3
      go_wp2_with fail
      go_ret
      exact ⟨v3, _, rfl, HO3.out, HW.out.trimmed, Trimmed.trimmed _, by rw [val_trimmed]; exact HF.out, hbF⟩
    · have hpos : (0 : Int) < (vs.length : Int) := by omega
      have HO := hid (refOver_any _ _ us vs wr HR.out.1 HR.out.2.1 lu lv HR.out.2.2.1 HR.out.2.2.2.1 (by omega))
      have HB := hid hb
      clear hb HS
      go_wp2_with fail
      refine Calls.mono HO.out ?_
      rintro e w2 ⟨v2, zs, v3, rs, rfl, o2, o3, wz, wr', tz, tr, hv, hlt, hb2⟩
      obtain ⟨a3, c3, hs⟩ := own_slice' o3
      subst hs
      have lr : rs.length ≤ 8200 := by
        have := len_of_lt wr' tr (L := vs.length) (by have := val_lt HR.out.2.1.wd; omega)
        omega
      have HN : Hid (Sl w2 (.slice b1 vs.length d1) vs ∧ Sl w2 (.slice a3 rs.length c3) rs ∧ Trimmed vs ∧ Trimmed rs ∧ ((val rs).toNat : Int) = val rs ∧ gcdI (val vs) (val rs) = gcdI (val xs) (val ys)) :=
        ⟨HR.out.2.1.later hb2, Sl.own o3 wr', HR.out.2.2.2.1, tr, by have := val_nonneg wr'; omega, by rw [← HR.out.2.2.2.2.2]; exact (gcdI_rest hv).symm⟩
      have HM : Hid ((val rs).toNat < (val vs).toNat) := by have := val_nonneg wr'; show _ < _; omega
      have HBN := hid (bt HB.out hb2)
      have HKK := hid HR.out.2.2.2.2.1
      clear o2 o3 hv hlt hb2 HR HO HB
      go_wp2_with fail
      go_roundg (val rs).toNat
      case rel => exact ⟨b1, d1, vs, a3, c3, rs, rfl, rfl, lv, lr, HN, HBN.out⟩
      case measure => have := HM.out; have := HKK.out; omega
end Go.Proofs.Ytpehpflgfkdiaaa

/- The document's told: a number, if it is not too long. -/
namespace Go.Proofs.Ytpehpflgfkdiaaa
open Go.RowKit
set_option linter.unusedVariables false

set_option maxHeartbeats 800000 in
set_option maxRecDepth 100000 in
theorem refTold_ok (a : Option Addr) (n c : Nat) (w : World) (h : n ≤ 8192) :
    Calls Try.prog 47 #[.slice a n c] w fun e w' => e = .returned (.tuple #[.slice a n c, .int .i64 0]) ∧ w = w' := by
  have h' : ¬ (8192 : Int) < (n : Int) := by omega
  go_enter Try.func47, Try.ntmps47
  go_wp2_with fail
  go_ret2
  exact ⟨rfl, rfl⟩
set_option maxHeartbeats 800000 in
set_option maxRecDepth 100000 in
theorem refTold_long (a : Option Addr) (n c : Nat) (w : World) (h : 8192 < n) :
    Calls Try.prog 47 #[.slice a n c] w fun e w' => e = .returned (.tuple #[.slice none 0 0, .int .i64 3]) ∧ w = w' := by
  have h' : (8192 : Int) < (n : Int) := by omega
  go_enter Try.func47, Try.ntmps47
  go_wp2_with fail
  go_ret2
  exact ⟨rfl, rfl⟩
theorem trimmed_wide {zs : List Int} {t : Int} (hw : Wd zs) (ht : Trimmed zs) (hv : val zs = t) : 8192 < zs.length ↔ wide ≤ t := by
  rw [← hv, ← wide_iff hw]
  have e : sz zs = zs.length := ht
  rw [e]
end Go.Proofs.Ytpehpflgfkdiaaa

/- The document's own calls that may refuse: slackwaterref01.both, told, Add, Sub, Mul, DivMod, Gcd: of every two lists that can be read. -/
namespace Go.Proofs.Ytpehpflgfkdiaaa
open Go.RowKit
set_option linter.unusedVariables false

set_option maxHeartbeats 800000 in
set_option maxRecDepth 100000 in
theorem refBoth_sl (v u : Value) (xs ys : List Int) (w : World) (h : Sl w v xs) (g : Sl w u ys) (hn : xs.length ≤ 281474976710656) (hm : ys.length ≤ 281474976710656) :
    Calls Try.prog 46 #[v, u] w fun e w' => e = .returned (.int .i64 (both xs ys)) ∧ w = w' := by
  have H1 := hid (refCheck_sl v xs w h hn)
  have H2 := hid (refCheck_sl u ys w g hm)
  by_cases hc : chk xs = 0
  · have HE : Hid (both xs ys = chk ys) := by show _ = _; unfold both; rw [if_pos hc]
    rw [hc] at H1
    clear h g hc
    go_enter Try.func46, Try.ntmps46
    go_wp2_with fail
    refine Calls.mono H1.out ?_
    rintro e w1 ⟨rfl, rfl⟩
    go_wp2_with fail
    refine Calls.mono H2.out ?_
    rintro e w1 ⟨rfl, rfl⟩
    go_wp2_with fail
    go_ret
    exact ⟨ret_int HE.out.symm, rfl⟩
  · have HE : Hid (both xs ys = chk xs) := by show _ = _; unfold both; rw [if_neg hc]
    have hc' : (chk xs == 0) = false := by simpa using hc
    clear h g hc
    go_enter Try.func46, Try.ntmps46
    go_wp2_with fail
    refine Calls.mono H1.out ?_
    rintro e w1 ⟨rfl, rfl⟩
    go_wp2_with fail
    go_ret
    exact ⟨ret_int HE.out.symm, rfl⟩
set_option maxHeartbeats 1600000 in
set_option maxRecDepth 100000 in
theorem refAdd_sl (v u : Value) (xs ys : List Int) (w : World) (h : Sl w v xs) (g : Sl w u ys) (hn : xs.length ≤ 281474976710656) (hm : ys.length ≤ 281474976710656) :
    Calls Try.prog 49 #[v, u] w (Told w (both xs ys) (val xs + val ys)) := by
  by_cases hb : both xs ys = 0
  · have HB := hid (refBoth_sl v u xs ys w h g hn hm)
    rw [hb] at HB
    obtain ⟨k1, k2⟩ := both_ok hb
    obtain ⟨lx, tx⟩ := chk_ok k1
    obtain ⟨ly, ty⟩ := chk_ok k2
    have HP := hid (refPlus_sl v u xs ys w h g (by omega) (by omega))
    rw [hb]
    clear h g hb k1 k2
    go_enter Try.func49, Try.ntmps49
    go_wp2_with fail
    refine Calls.mono HB.out ?_
    rintro e w1 ⟨rfl, rfl⟩
    go_wp2_with fail
    refine Calls.mono HP.out ?_
    intro e w2 h2
    obtain ⟨a2, c2, zs, rfl, o2, wz, tz, vz, hb2⟩ := h2.slice
    have hwd := trimmed_wide wz tz vz
    have HR := hid (And.intro o2 (And.intro wz (And.intro tz (And.intro vz (And.intro hwd hb2)))))
    by_cases hlen : 8192 < zs.length
    · have HT := hid (refTold_long a2 zs.length c2 w2 hlen)
      have HL := hid (hwd.1 hlen)
      clear h2 o2 wz tz vz hwd hb2 hlen
      go_wp2_with fail
      refine Calls.mono HT.out ?_
      rintro e w3 ⟨rfl, rfl⟩
      go_wp2_with fail
      go_ret2
      exact ⟨_, [], 3, rfl, World.ownsRow_nil _ _ _ _, Tells.tooLong HL.out, HR.out.2.2.2.2.2⟩
    · have HT := hid (refTold_ok a2 zs.length c2 w2 (by omega))
      have HL := hid (Int.not_le.1 fun h => hlen (hwd.2 h))
      clear h2 o2 wz tz vz hwd hb2 hlen
      go_wp2_with fail
      refine Calls.mono HT.out ?_
      rintro e w3 ⟨rfl, rfl⟩
      go_wp2_with fail
      go_ret2
      exact ⟨_, zs, 0, rfl, HR.out.1, Tells.ok HR.out.2.1 HR.out.2.2.1 HR.out.2.2.2.1 HL.out, HR.out.2.2.2.2.2⟩
  · have HB := hid (refBoth_sl v u xs ys w h g hn hm)
    have hb' : (both xs ys == 0) = false := by simpa using hb
    have HE := hid hb
    clear h g hb
    go_enter Try.func49, Try.ntmps49
    go_wp2_with fail
    refine Calls.mono HB.out ?_
    rintro e w1 ⟨rfl, rfl⟩
    go_wp2_with fail
    go_ret2
    exact ⟨_, [], _, rfl, World.ownsRow_nil _ _ _ _, Tells.err HE.out, Below.refl _ _⟩

set_option maxHeartbeats 1600000 in
set_option maxRecDepth 100000 in
theorem refGcd_sl (v u : Value) (xs ys : List Int) (w : World) (h : Sl w v xs) (g : Sl w u ys) (hn : xs.length ≤ 281474976710656) (hm : ys.length ≤ 281474976710656) :
    Calls Try.prog 30 #[v, u] w (Told w (both xs ys) (gcdI (val xs) (val ys))) := by
  by_cases hb : both xs ys = 0
  · have HB := hid (refBoth_sl v u xs ys w h g hn hm)
    rw [hb] at HB
    obtain ⟨k1, k2⟩ := both_ok hb
    obtain ⟨lx, tx⟩ := chk_ok k1
    obtain ⟨ly, ty⟩ := chk_ok k2
    have HP := hid (refCommon_any v u xs ys w h g (by omega) (by omega) tx ty)
    rw [hb]
    clear h g hb k1 k2
    go_enter Try.func30, Try.ntmps30
    go_wp2_with fail
    refine Calls.mono HB.out ?_
    rintro e w1 ⟨rfl, rfl⟩
    go_wp2_with fail
    refine Calls.mono HP.out ?_
    intro e w2 h2
    obtain ⟨a2, c2, zs, rfl, o2, wz, tz, vz, hb2⟩ := h2.slice
    have hwd := trimmed_wide wz tz vz
    have HR := hid (And.intro o2 (And.intro wz (And.intro tz (And.intro vz (And.intro hwd hb2)))))
    by_cases hlen : 8192 < zs.length
    · have HT := hid (refTold_long a2 zs.length c2 w2 hlen)
      have HL := hid (hwd.1 hlen)
      clear h2 o2 wz tz vz hwd hb2 hlen
      go_wp2_with fail
      refine Calls.mono HT.out ?_
      rintro e w3 ⟨rfl, rfl⟩
      go_wp2_with fail
      go_ret2
      exact ⟨_, [], 3, rfl, World.ownsRow_nil _ _ _ _, Tells.tooLong HL.out, HR.out.2.2.2.2.2⟩
    · have HT := hid (refTold_ok a2 zs.length c2 w2 (by omega))
      have HL := hid (Int.not_le.1 fun h => hlen (hwd.2 h))
      clear h2 o2 wz tz vz hwd hb2 hlen
      go_wp2_with fail
      refine Calls.mono HT.out ?_
      rintro e w3 ⟨rfl, rfl⟩
      go_wp2_with fail
      go_ret2
      exact ⟨_, zs, 0, rfl, HR.out.1, Tells.ok HR.out.2.1 HR.out.2.2.1 HR.out.2.2.2.1 HL.out, HR.out.2.2.2.2.2⟩
  · have HB := hid (refBoth_sl v u xs ys w h g hn hm)
    have hb' : (both xs ys == 0) = false := by simpa using hb
    have HE := hid hb
    clear h g hb
    go_enter Try.func30, Try.ntmps30
    go_wp2_with fail
    refine Calls.mono HB.out ?_
    rintro e w1 ⟨rfl, rfl⟩
    go_wp2_with fail
    go_ret2
    exact ⟨_, [], _, rfl, World.ownsRow_nil _ _ _ _, Tells.err HE.out, Below.refl _ _⟩

set_option maxHeartbeats 1600000 in
set_option maxRecDepth 100000 in
theorem refSub_sl (v u : Value) (xs ys : List Int) (w : World) (h : Sl w v xs) (g : Sl w u ys) (hn : xs.length ≤ 281474976710656) (hm : ys.length ≤ 281474976710656) :
    Calls Try.prog 51 #[v, u] w (Told w (if both xs ys = 0 then (if val xs < val ys then 2 else 0) else both xs ys) (val xs - val ys)) := by
  by_cases hb : both xs ys = 0
  · have HB := hid (refBoth_sl v u xs ys w h g hn hm)
    rw [hb] at HB
    obtain ⟨k1, k2⟩ := both_ok hb
    obtain ⟨lx, tx⟩ := chk_ok k1
    obtain ⟨ly, ty⟩ := chk_ok k2
    rw [if_pos hb]
    have HC := hid (refCompare_sl v u xs ys w h g (by omega) (by omega))
    by_cases hlt : val xs < val ys
    · rw [if_pos hlt]
      rw [cmpI_lt hlt] at HC
      clear h g hb k1 k2 hlt
      go_enter Try.func51, Try.ntmps51
      go_wp2_with fail
      refine Calls.mono HB.out ?_
      rintro e w1 ⟨rfl, rfl⟩
      go_wp2_with fail
      refine Calls.mono HC.out ?_
      rintro e w1 ⟨rfl, rfl⟩
      go_wp2_with fail
      go_ret2
      exact ⟨_, [], 2, rfl, World.ownsRow_nil _ _ _ _, Tells.err (by decide), Below.refl _ _⟩
    · rw [if_neg hlt]
      have HP := hid (refLess_sl v u xs ys w h g (by omega) (by omega) (by omega))
      obtain ⟨c, hcc, hcv⟩ : ∃ c, cmpI (val xs) (val ys) = c ∧ ¬ c < 0 ∧ c ≤ 1 := by
        by_cases e : val xs = val ys
        · exact ⟨0, cmpI_eq e, by omega, by omega⟩
        · exact ⟨1, cmpI_gt (by omega), by omega, by omega⟩
      obtain ⟨c0, c1⟩ := hcv
      rw [hcc] at HC
      clear h g hb k1 k2 hlt hcc
      go_enter Try.func51, Try.ntmps51
      go_wp2_with fail
      refine Calls.mono HB.out ?_
      rintro e w1 ⟨rfl, rfl⟩
      go_wp2_with fail
      refine Calls.mono HC.out ?_
      rintro e w1 ⟨rfl, rfl⟩
      go_wp2_with fail
      refine Calls.mono HP.out ?_
      intro e w2 h2
      obtain ⟨a2, c2, zs, rfl, o2, wz, tz, vz, hb2⟩ := h2.slice
      have hwd := trimmed_wide wz tz vz
      have HR := hid (And.intro o2 (And.intro wz (And.intro tz (And.intro vz (And.intro hwd hb2)))))
      by_cases hlen : 8192 < zs.length
      · have HT := hid (refTold_long a2 zs.length c2 w2 hlen)
        have HL := hid (hwd.1 hlen)
        clear h2 o2 wz tz vz hwd hb2 hlen
        go_wp2_with fail
        refine Calls.mono HT.out ?_
        rintro e w3 ⟨rfl, rfl⟩
        go_wp2_with fail
        go_ret2
        exact ⟨_, [], 3, rfl, World.ownsRow_nil _ _ _ _, Tells.tooLong HL.out, HR.out.2.2.2.2.2⟩
      · have HT := hid (refTold_ok a2 zs.length c2 w2 (by omega))
        have HL := hid (Int.not_le.1 fun h => hlen (hwd.2 h))
        clear h2 o2 wz tz vz hwd hb2 hlen
        go_wp2_with fail
        refine Calls.mono HT.out ?_
        rintro e w3 ⟨rfl, rfl⟩
        go_wp2_with fail
        go_ret2
        exact ⟨_, zs, 0, rfl, HR.out.1, Tells.ok HR.out.2.1 HR.out.2.2.1 HR.out.2.2.2.1 HL.out, HR.out.2.2.2.2.2⟩
  · rw [if_neg hb]
    have HB := hid (refBoth_sl v u xs ys w h g hn hm)
    have hb' : (both xs ys == 0) = false := by simpa using hb
    have HE := hid hb
    clear h g hb
    go_enter Try.func51, Try.ntmps51
    go_wp2_with fail
    refine Calls.mono HB.out ?_
    rintro e w1 ⟨rfl, rfl⟩
    go_wp2_with fail
    go_ret2
    exact ⟨_, [], _, rfl, World.ownsRow_nil _ _ _ _, Tells.err HE.out, Below.refl _ _⟩

set_option maxHeartbeats 1600000 in
set_option maxRecDepth 100000 in
theorem refMul_sl (v u : Value) (xs ys : List Int) (w : World) (h : Sl w v xs) (g : Sl w u ys) (hn : xs.length ≤ 281474976710656) (hm : ys.length ≤ 281474976710656) :
    Calls Try.prog 52 #[v, u] w (Told w (both xs ys) (val xs * val ys)) := by
  by_cases hb : both xs ys = 0
  · have HB := hid (refBoth_sl v u xs ys w h g hn hm)
    rw [hb] at HB
    obtain ⟨k1, k2⟩ := both_ok hb
    obtain ⟨lx, tx⟩ := chk_ok k1
    obtain ⟨ly, ty⟩ := chk_ok k2
    have HP := hid (refTimes_sl v u xs ys w h g (by omega) (by omega))
    rw [hb]
    have wx := h.wd
    have wy := g.wd
    have HV := hid (And.intro h g)
    obtain ⟨a, cap, rfl, hr⟩ := h
    obtain ⟨b, cap', rfl, gr⟩ := g
    clear hr gr
    by_cases hx0 : 0 < xs.length
    · have hx1 : (0 : Int) < (xs.length : Int) := by omega
      by_cases hy0 : 0 < ys.length
      · have hy1 : (0 : Int) < (ys.length : Int) := by omega
        by_cases hlong : 8192 < xs.length + ys.length - 1
        · have HL : Hid (wide ≤ val xs * val ys) := by
            show _ ≤ _
            have e1 := val_ge wx tx hx0
            have e2 := val_ge wy ty hy0
            have e3 : (4294967296 : Int) ^ (xs.length - 1) * 4294967296 ^ (ys.length - 1) ≤ val xs * val ys := Int.mul_le_mul e1 e2 (Int.le_of_lt (pw_pos _)) (val_nonneg wx)
            rw [← Int.pow_add] at e3
            have e4 : wide ≤ (4294967296 : Int) ^ (xs.length - 1 + (ys.length - 1)) := pw_le (by omega)
            omega
          have hl1 : (8192 : Int) < (xs.length : Int) + (ys.length : Int) - 1 := by omega
          clear hb k1 k2 hlong HV HP
          go_enter Try.func52, Try.ntmps52
          go_wp2_with fail
          refine Calls.mono HB.out ?_
          rintro e w1 ⟨rfl, rfl⟩
          go_wp2_with fail
          go_ret2
          exact ⟨_, [], 3, rfl, World.ownsRow_nil _ _ _ _, Tells.tooLong HL.out, Below.refl _ _⟩
        · have hl1 : ¬ (8192 : Int) < (xs.length : Int) + (ys.length : Int) - 1 := by omega
          clear hb k1 k2 hlong HV
          go_enter Try.func52, Try.ntmps52
          go_wp2_with fail
          refine Calls.mono HB.out ?_
          rintro e w1 ⟨rfl, rfl⟩
          go_wp2_with fail
          refine Calls.mono HP.out ?_
          intro e w2 h2
          obtain ⟨a2, c2, zs, rfl, o2, wz, tz, vz, hb2⟩ := h2.slice
          have hwd := trimmed_wide wz tz vz
          have HR := hid (And.intro o2 (And.intro wz (And.intro tz (And.intro vz (And.intro hwd hb2)))))
          by_cases hlen : 8192 < zs.length
          · have HT := hid (refTold_long a2 zs.length c2 w2 hlen)
            have HL := hid (hwd.1 hlen)
            clear h2 o2 wz tz vz hwd hb2 hlen
            go_wp2_with fail
            refine Calls.mono HT.out ?_
            rintro e w3 ⟨rfl, rfl⟩
            go_wp2_with fail
            go_ret2
            exact ⟨_, [], 3, rfl, World.ownsRow_nil _ _ _ _, Tells.tooLong HL.out, HR.out.2.2.2.2.2⟩
          · have HT := hid (refTold_ok a2 zs.length c2 w2 (by omega))
            have HL := hid (Int.not_le.1 fun h => hlen (hwd.2 h))
            clear h2 o2 wz tz vz hwd hb2 hlen
            go_wp2_with fail
            refine Calls.mono HT.out ?_
            rintro e w3 ⟨rfl, rfl⟩
            go_wp2_with fail
            go_ret2
            exact ⟨_, zs, 0, rfl, HR.out.1, Tells.ok HR.out.2.1 HR.out.2.2.1 HR.out.2.2.2.1 HL.out, HR.out.2.2.2.2.2⟩
      · have hy2 : ys.length = 0 := by omega
        rw [hy2] at HP HB ⊢
        clear hb k1 k2 HV hy0
        go_enter Try.func52, Try.ntmps52
        go_wp2_with fail
        refine Calls.mono HB.out ?_
        rintro e w1 ⟨rfl, rfl⟩
        go_wp2_with fail
        refine Calls.mono HP.out ?_
        intro e w2 h2
        obtain ⟨a2, c2, zs, rfl, o2, wz, tz, vz, hb2⟩ := h2.slice
        have hwd := trimmed_wide wz tz vz
        have HR := hid (And.intro o2 (And.intro wz (And.intro tz (And.intro vz (And.intro hwd hb2)))))
        by_cases hlen : 8192 < zs.length
        · have HT := hid (refTold_long a2 zs.length c2 w2 hlen)
          have HL := hid (hwd.1 hlen)
          clear h2 o2 wz tz vz hwd hb2 hlen
          go_wp2_with fail
          refine Calls.mono HT.out ?_
          rintro e w3 ⟨rfl, rfl⟩
          go_wp2_with fail
          go_ret2
          exact ⟨_, [], 3, rfl, World.ownsRow_nil _ _ _ _, Tells.tooLong HL.out, HR.out.2.2.2.2.2⟩
        · have HT := hid (refTold_ok a2 zs.length c2 w2 (by omega))
          have HL := hid (Int.not_le.1 fun h => hlen (hwd.2 h))
          clear h2 o2 wz tz vz hwd hb2 hlen
          go_wp2_with fail
          refine Calls.mono HT.out ?_
          rintro e w3 ⟨rfl, rfl⟩
          go_wp2_with fail
          go_ret2
          exact ⟨_, zs, 0, rfl, HR.out.1, Tells.ok HR.out.2.1 HR.out.2.2.1 HR.out.2.2.2.1 HL.out, HR.out.2.2.2.2.2⟩
    · have hx2 : xs.length = 0 := by omega
      rw [hx2] at HP HB ⊢
      clear hb k1 k2 HV hx0
      go_enter Try.func52, Try.ntmps52
      go_wp2_with fail
      refine Calls.mono HB.out ?_
      rintro e w1 ⟨rfl, rfl⟩
      go_wp2_with fail
      refine Calls.mono HP.out ?_
      intro e w2 h2
      obtain ⟨a2, c2, zs, rfl, o2, wz, tz, vz, hb2⟩ := h2.slice
      have hwd := trimmed_wide wz tz vz
      have HR := hid (And.intro o2 (And.intro wz (And.intro tz (And.intro vz (And.intro hwd hb2)))))
      by_cases hlen : 8192 < zs.length
      · have HT := hid (refTold_long a2 zs.length c2 w2 hlen)
        have HL := hid (hwd.1 hlen)
        clear h2 o2 wz tz vz hwd hb2 hlen
        go_wp2_with fail
        refine Calls.mono HT.out ?_
        rintro e w3 ⟨rfl, rfl⟩
        go_wp2_with fail
        go_ret2
        exact ⟨_, [], 3, rfl, World.ownsRow_nil _ _ _ _, Tells.tooLong HL.out, HR.out.2.2.2.2.2⟩
      · have HT := hid (refTold_ok a2 zs.length c2 w2 (by omega))
        have HL := hid (Int.not_le.1 fun h => hlen (hwd.2 h))
        clear h2 o2 wz tz vz hwd hb2 hlen
        go_wp2_with fail
        refine Calls.mono HT.out ?_
        rintro e w3 ⟨rfl, rfl⟩
        go_wp2_with fail
        go_ret2
        exact ⟨_, zs, 0, rfl, HR.out.1, Tells.ok HR.out.2.1 HR.out.2.2.1 HR.out.2.2.2.1 HL.out, HR.out.2.2.2.2.2⟩
  · have HB := hid (refBoth_sl v u xs ys w h g hn hm)
    have hb' : (both xs ys == 0) = false := by simpa using hb
    have HE := hid hb
    clear h g hb
    go_enter Try.func52, Try.ntmps52
    go_wp2_with fail
    refine Calls.mono HB.out ?_
    rintro e w1 ⟨rfl, rfl⟩
    go_wp2_with fail
    go_ret2
    exact ⟨_, [], _, rfl, World.ownsRow_nil _ _ _ _, Tells.err HE.out, Below.refl _ _⟩

set_option maxHeartbeats 1600000 in
set_option maxRecDepth 100000 in
theorem refDivMod_any (v u : Value) (xs ys : List Int) (w : World) (h : Sl w v xs) (g : Sl w u ys) (lx : xs.length ≤ 8192) (ly : ys.length ≤ 8192) (tx : Trimmed xs) (ty : Trimmed ys) (h0 : 0 < ys.length) :
    Calls Try.prog 68 #[v, u] w fun e w' => ∃ v1 u1 q r, e = .returned (.tuple #[v1, u1, .int .i64 0]) ∧ w'.ownsRow w.heap.size 36 1 v1 q.length (q.map (Value.int .u32)) ∧ w'.ownsRow w.heap.size 36 1 u1 r.length (r.map (Value.int .u32)) ∧ Wd q ∧ Wd r ∧ Trimmed q ∧ Trimmed r ∧ val xs = val q * val ys + val r ∧ val r < val ys ∧ Below w.heap.size w w' := by
  have HB := hid (refBoth_sl v u xs ys w h g (by omega) (by omega))
  have HP := hid (refOver_any v u xs ys w h g (by omega) (by omega) tx ty h0)
  rw [both_good (chk_good lx tx) (chk_good ly ty)] at HB
  obtain ⟨a, cap, rfl, hr⟩ := h
  obtain ⟨b, cap', rfl, gr⟩ := g
  have h1 : ((ys.length : Int) == 0) = false := by simp; exact fun e => by rw [e] at h0; simp at h0
  clear hr gr
  go_enter Try.func68, Try.ntmps68
  go_wp2_with fail
  refine Calls.mono HB.out ?_
  rintro e w1 ⟨rfl, rfl⟩
  go_wp2_with fail
  refine Calls.mono HP.out ?_
  rintro e w2 ⟨v2, zs, v3, rs, rfl, o2, o3, wz, wr', tz, tr, hv, hlt, hb2⟩
  have HR := hid (And.intro o2 (And.intro o3 (And.intro hv (And.intro hlt hb2))))
  clear o2 o3 hv hlt hb2 HP HB
  go_wp2_with fail
  go_ret3
  exact ⟨v2, v3, zs, rs, rfl, HR.out.1, HR.out.2.1, wz, wr', tz, tr, HR.out.2.2.1, HR.out.2.2.2.1, HR.out.2.2.2.2⟩
set_option maxHeartbeats 1600000 in
set_option maxRecDepth 100000 in
theorem refDivMod_err (v u : Value) (xs ys : List Int) (w : World) (h : Sl w v xs) (g : Sl w u ys) (hn : xs.length ≤ 281474976710656) (hm : ys.length ≤ 281474976710656) (hb : both xs ys ≠ 0) :
    Calls Try.prog 68 #[v, u] w fun e w' => e = .returned (.tuple #[.slice none 0 0, .slice none 0 0, .int .i64 (both xs ys)]) ∧ w = w' := by
  have HB := hid (refBoth_sl v u xs ys w h g hn hm)
  have hb' : (both xs ys == 0) = false := by simpa using hb
  have HE := hid hb
  clear h g hb
  go_enter Try.func68, Try.ntmps68
  go_wp2_with fail
  refine Calls.mono HB.out ?_
  rintro e w1 ⟨rfl, rfl⟩
  go_wp2_with fail
  go_ret3
  exact ⟨rfl, rfl⟩
set_option maxHeartbeats 1600000 in
set_option maxRecDepth 100000 in
theorem refDivMod_zero (v u : Value) (xs : List Int) (w : World) (h : Sl w v xs) (g : Sl w u []) (hn : xs.length ≤ 281474976710656) (hb : both xs [] = 0) :
    Calls Try.prog 68 #[v, u] w fun e w' => e = .returned (.tuple #[.slice none 0 0, .slice none 0 0, .int .i64 7]) ∧ w = w' := by
  have HB := hid (refBoth_sl v u xs [] w h g hn (by simp))
  rw [hb] at HB
  obtain ⟨a, cap, rfl, hr⟩ := h
  obtain ⟨b, cap', rfl, gr⟩ := g
  have hl0 : List.length ([] : List Int) = 0 := rfl
  rw [hl0] at HB ⊢
  clear hr gr hl0
  go_enter Try.func68, Try.ntmps68
  go_wp2_with fail
  refine Calls.mono HB.out ?_
  rintro e w1 ⟨rfl, rfl⟩
  go_wp2_with fail
  go_ret3
  exact ⟨rfl, rfl⟩
end Go.Proofs.Ytpehpflgfkdiaaa

/- The document's own whole numbers: slackwaterref02.Check, Product. -/
namespace Go.Proofs.Ytpehpflgfkdiaaa
open Go.RowKit
set_option linter.unusedVariables false

theorem chk_last {xs : List Int} (hl : xs.length ≤ 2048) : chk xs = 0 ↔ xs.length = 0 ∨ ¬ xs[xs.length - 1]?.getD 0 = 0 := by
  rw [← sz_eq_iff]
  constructor
  · intro h; exact (chk_ok h).2
  · intro h; exact chk_good (by omega) h

/-- A whole number in its one form, of any length, in new memory. -/
def WNum (w : World) (t : Int) (x : Ending) (w' : World) : Prop := ∃ n v zs, x = .returned (.agg #[.bool n, v]) ∧ w'.ownsRow w.heap.size 36 1 v zs.length (zs.map (Value.int .u32)) ∧ Wd zs ∧ Trimmed zs ∧ (n = false ∨ 0 < zs.length) ∧ wval n zs = t ∧ Below w.heap.size w w'
end Go.Proofs.Ytpehpflgfkdiaaa

/- The document's own fractions: over, trimmed, whole, one, size. -/
namespace Go.Proofs.Ytpehpflgfkdiaaa
open Go.RowKit
set_option linter.unusedVariables false

set_option maxHeartbeats 800000 in
set_option maxRecDepth 100000 in
theorem over3_any (v u : Value) (xs ys : List Int) (w : World) (h : Sl w v xs) (g : Sl w u ys) (lx : xs.length ≤ 8192) (ly : ys.length ≤ 8192) (tx : Trimmed xs) (ty : Trimmed ys) (h0 : 0 < ys.length) :
    Calls Try.prog 53 #[v, u] w (Told1 w (val xs / val ys)) := by
  have HH := hid (refDivMod_any v u xs ys w h g lx ly tx ty h0)
  obtain ⟨a, cap, rfl, hr⟩ := h
  obtain ⟨b, cap', rfl, gr⟩ := g
  clear hr gr
  go_enter Try.func53, Try.ntmps53
  go_wp2_with fail
  refine Calls.mono HH.out ?_
  rintro e w1 ⟨v1, v2, q, r, rfl, o1, o2, wq, wr, tq, tr, hq, hr, hb1⟩
  have hv : val q = val xs / val ys := by
    have r0 := val_nonneg wr
    rw [hq, Int.add_comm, Int.add_mul_ediv_right _ _ (by omega), Int.ediv_eq_zero_of_lt r0 hr]
    omega
  obtain ⟨a1, c1, hs1⟩ := own_slice' o1
  subst hs1
  obtain ⟨a2, c2, hs2⟩ := own_slice' o2
  subst hs2
  have HE := hid (And.intro o1 (And.intro wq (And.intro tq (And.intro hv hb1))))
  clear o1 o2 wq wr tq tr hq hr hb1 hv HH
  go_wp2_with fail
  go_ret
  exact ⟨_, q, rfl, HE.out.1, HE.out.2.1, HE.out.2.2.1, HE.out.2.2.2.1, HE.out.2.2.2.2⟩

set_option maxHeartbeats 1600000 in
set_option maxRecDepth 100000 in
theorem trimmed3_any (v : Value) (xs : List Int) (w : World) (h : Sl w v xs) (hn : xs.length ≤ 281474976710656) :
    Calls Try.prog 29 #[v] w fun e w' => e = .returned (.bool (decide (sz xs = xs.length))) ∧ Below w.heap.size w w' := by
  have wx := h.wd
  obtain ⟨a, cap, rfl, hr⟩ := h
  have HCL := hid hr.cells
  have hcap := hr.2.2.2.1
  have hcap2 := hr.2.2.2.2.1
  have HB := hid (Below.refl w.heap.size w)
  clear hr
  have hcl : Trimmed xs ↔ xs.length = 0 ∨ ¬ xs[xs.length - 1]?.getD 0 = 0 := by rw [← sz_eq_iff]; exact Iff.rfl
  obtain ⟨k, hk⟩ : ∃ k, xs.length = k := ⟨_, rfl⟩
  rw [hk] at hcl
  by_cases h0 : k = 0
  · subst h0
    have HW : Hid (decide (sz xs = xs.length) = true) := by show _ = _; exact decide_eq_true (hcl.2 (.inl rfl))
    rw [HW.out, hk]
    clear hk hcl HCL wx
    go_enter Try.func29, Try.ntmps29
    go_wp2_with fail
    go_ret
    exact ⟨rfl, HB.out⟩
  · obtain ⟨m, hm⟩ : ∃ m, k = m + 1 := ⟨k - 1, by omega⟩
    subst hm
    have bx := wx.at m
    rw [show m + 1 - 1 = m by omega] at hcl
    have hkz : ((m : Int) + 1 == 0) = false := beq_eq_false_iff_ne.2 (by omega)
    have hm1 : (m : Int) ≤ 281474976710656 := by omega
    rw [hk] at HCL hcap ⊢
    obtain ⟨b1, o1, rfl, l1, cx⟩ := HCL.out m (by omega)
    have him : ((m + 1 : Nat) : Int) - 1 = (m : Int) := by omega
    by_cases hz : xs[m]?.getD 0 = 0
    · have HW : Hid (decide (sz xs = xs.length) = false) := by show _ = _; exact decide_eq_false (fun h => (hcl.1 h).elim (fun e => by omega) (fun e => e hz))
      rw [hk] at HW
      rw [HW.out]
      rw [hz] at cx
      clear hk hcl HCL hz bx wx
      go_enter Try.func29, Try.ntmps29
      go_wp2_with fail
      go_ret
      exact ⟨rfl, HB.out⟩
    · have HW : Hid (decide (sz xs = xs.length) = true) := by show _ = _; exact decide_eq_true (hcl.2 (.inr hz))
      rw [hk] at HW
      rw [HW.out]
      obtain ⟨X, hX⟩ : ∃ X, xs[m]?.getD 0 = X := ⟨_, rfl⟩
      rw [hX] at cx hz bx
      have hzb : (X != 0) = true := by simp [hz]
      clear hk hcl HCL hX wx
      go_enter Try.func29, Try.ntmps29
      go_wp2_with fail
      go_ret
      exact ⟨rfl, HB.out⟩

theorem one3_any (w : World) : Calls Try.prog 15 #[] w fun e w' => ∃ g, e = .returned (.slice (some ⟨g, 0, none⟩) 1 1) ∧ w'.ownsRow w.heap.size 36 1 (.slice (some ⟨g, 0, none⟩) 1 1) 1 ([(1 : Int)].map (Value.int .u32)) ∧ Below w.heap.size w w' := by
  have HO : Hid ((w.alloc (.cells #[.int .u32 1] 36)).ownsRow w.heap.size 36 1 (.slice (some ⟨w.heap.size, 0, none⟩) 1 1) 1 ([(1 : Int)].map (Value.int .u32))) := ⟨rfl, .inr ⟨w.heap.size, 1, #[.int .u32 1], rfl, Nat.le_refl _, Box.made w _ _, Nat.le_refl _, by unfold maxLen; simp, rfl, rfl⟩⟩
  have HB := hid (alloc_later w (.cells #[.int .u32 1] 36))
  go_enter Try.func15, Try.ntmps15
  go_wp2_with fail
  go_ret
  exact ⟨w.heap.size, rfl, HO.out, HB.out⟩
end Go.Proofs.Ytpehpflgfkdiaaa

/- The laws of layer 2: lives (two of the chapter's examples hold); the document's own made, Of. -/
namespace Go.Proofs.Ytpehpflgfkdiaaa
open Go.RowKit
set_option linter.unusedVariables false

theorem wlim_big : (18446744073709551616 : Int) ≤ wlim := by
  have : (4294967296 : Int) ^ 2 ≤ 4294967296 ^ 2048 := pw_le (by omega)
  unfold wlim
  have e : (4294967296 : Int) ^ 2 = 18446744073709551616 := by decide
  rw [e] at this
  exact this
theorem WTells.num {t : Int} {n : Bool} {zs : List Int} {code : Int} (h : WTells 0 t n zs code) (h0 : -18446744073709551616 < t) (h1 : t < 18446744073709551616) : code = 0 ∧ wval n zs = t := by
  have := wlim_big
  exact h.good rfl (by omega) (by omega)
theorem wval_pos {n : Bool} {zs : List Int} (hw : Wd zs) (h : 0 < wval n zs) : n = false ∧ val zs = wval n zs := by
  have := val_nonneg hw
  cases n with
  | false => exact ⟨rfl, rfl⟩
  | true => have e : wval true zs = -(val zs) := rfl; omega

end Go.Proofs.Ytpehpflgfkdiaaa

/- The document's own fractions: Of: a fraction of a sign and two sizes, in its one form. -/
namespace Go.Proofs.Ytpehpflgfkdiaaa
open Go.RowKit
set_option linter.unusedVariables false

theorem rt_zero (n : Bool) (ys : List Int) : RTells 0 (Rat.divInt (sg n (val [])) (val ys)) false [] [1] 0 := by
  have e : Rat.divInt (sg n (val [])) (val ys) = Rat.divInt 0 1 := by cases n <;> simp [sg, val, valTo]
  rw [e]
  obtain ⟨e1, e2⟩ := fr_num (x := 0) (d := 1) (by omega) (by decide)
  have hk : rchk false [] [1] = 0 := rchk_good (by simp) (by simp) rfl rfl (by simp) (.inl rfl) (by decide)
  refine ⟨Wd.nil, Wd.one (by omega), fun h => absurd rfl h, fun _ hl => ?_, fun _ _ => ⟨rfl, hk, ?_⟩⟩
  · exfalso
    unfold rlong at hl
    rw [e1, e2] at hl
    have := wlim_big
    simp at hl
    omega
  · unfold rq
    rfl
theorem RTold.later {w W W' : World} {e : Int} {q : Rat} {x : Ending} (h : RTold w e q x W) (hb : Below W.heap.size W W') : RTold w e q x W' := by
  obtain ⟨n, v, xs, u, ys, code, rfl, o1, o2, t, hbw⟩ := h
  exact ⟨n, v, xs, u, ys, code, rfl, owns_later o1 hb, owns_later o2 hb, t, bt hbw hb⟩
theorem rt_rlong {n : Bool} {zs ds : List Int} (wz : Wd zs) (tz : Trimmed zs) (wd : Wd ds) (td : Trimmed ds) (hd : 0 < val ds) (hg : gcdI (val zs) (val ds) = 1) : rlong (Rat.divInt (sg n (val zs)) (val ds)) ↔ 2048 < max zs.length ds.length := by
  have hz0 := val_nonneg wz
  obtain ⟨e1, e2⟩ := fr_num (x := sg n (val zs)) hd (by rw [gcd_sg]; exact hg)
  unfold rlong
  rw [e1, e2, abs_sg n hz0, ← len2048 wz tz, ← len2048 wd td]
  omega
theorem rt_good {n : Bool} {zs ds : List Int} (wz : Wd zs) (tz : Trimmed zs) (wd : Wd ds) (td : Trimmed ds) (hz : 0 < zs.length) (hd : 0 < val ds) (hg : gcdI (val zs) (val ds) = 1) (l1 : zs.length ≤ 2048) (l2 : ds.length ≤ 2048) : RTells 0 (Rat.divInt (sg n (val zs)) (val ds)) n zs ds 0 := by
  have hl := rt_rlong (n := n) wz tz wd td hd hg
  have hd0 : 0 < ds.length := by
    by_cases c : 0 < ds.length
    · exact c
    · have := trimmed_zero' (us := ds) (by omega); omega
  exact ⟨wz, wd, fun h => absurd rfl h, fun _ h' => absurd (hl.1 h') (by omega), fun _ _ => ⟨rfl, rchk_good l1 l2 tz td hd0 (.inr hz) hg, rfl⟩⟩
theorem rt_long {n : Bool} {zs ds : List Int} (wz : Wd zs) (tz : Trimmed zs) (wd : Wd ds) (td : Trimmed ds) (hd : 0 < val ds) (hg : gcdI (val zs) (val ds) = 1) (h : 2048 < zs.length ∨ 2048 < ds.length) : RTells 0 (Rat.divInt (sg n (val zs)) (val ds)) false [] [] 3 := by
  have hl := rt_rlong (n := n) wz tz wd td hd hg
  exact ⟨Wd.nil, Wd.nil, fun h => absurd rfl h, fun _ _ => ⟨rfl, rfl, rfl, rfl⟩, fun _ h' => absurd (hl.2 (by omega)) h'⟩

set_option maxHeartbeats 3200000 in
set_option maxRecDepth 100000 in
theorem of3_any (n : Bool) (a : Option Addr) (ca : Nat) (xs : List Int) (b : Option Addr) (cb : Nat) (ys : List Int) (w : World) (h : Sl w (.slice a xs.length ca) xs) (g : Sl w (.slice b ys.length cb) ys) (lx : xs.length ≤ 8192) (ly : ys.length ≤ 8192) (tx : Trimmed xs) (ty : Trimmed ys) (h0 : 0 < ys.length) :
    Calls Try.prog 34 #[.bool n, .slice a xs.length ca, .slice b ys.length cb] w (RTold w 0 (Rat.divInt (sg n (val xs)) (val ys))) := by
  have wx := h.wd
  have wy := g.wd
  have HB : Hid (Below w.heap.size w (w.alloc (.cells #[.bool false, .slice none 0 0, .slice none 0 0] 26))) := alloc_later _ _
  have HZ : Hid (Box (w.alloc (.cells #[.bool false, .slice none 0 0, .slice none 0 0] 26)) w.heap.size 26 #[.bool false, .slice none 0 0, .slice none 0 0]) := Box.made w _ _
  have HLT : Hid (w.heap.size < (w.alloc (.cells #[.bool false, .slice none 0 0, .slice none 0 0] 26)).heap.size) := HZ.out.lt
  by_cases hx : xs.length = 0
  · obtain rfl : xs = [] := List.eq_nil_of_length_eq_zero hx
    obtain ⟨K, hK⟩ : ∃ K, K = ([] : List Int).length := ⟨_, rfl⟩
    have hK0 : ((K : Int) == 0) = true := by rw [hK]; rfl
    have HT := hid (rt_zero n ys)
    have HO := hid (one3_any (w.alloc (.cells #[.bool false, .slice none 0 0, .slice none 0 0] 26)))
    rw [← hK]
    obtain ⟨q, hq⟩ : ∃ q, q = Rat.divInt (sg n (val [])) (val ys) := ⟨_, rfl⟩
    rw [← hq] at HT ⊢
    clear hx hK h g hq
    go_enter Try.func34, Try.ntmps34
    go_wp2_with fail
    refine Calls.mono HO.out ?_
    generalize (w.alloc (.cells #[.bool false, .slice none 0 0, .slice none 0 0] 26)) = X at *
    rintro e w1 ⟨g1, rfl, o1, hb1⟩
    obtain ⟨y0, y1, y2, f0, f1, f2⟩ := res_box3 HZ.out hb1
    have HR : Hid (w1.ownsRow X.heap.size 36 1 (.slice none 0 0) ([] : List Int).length (([] : List Int).map (Value.int .u32)) ∧ w1.ownsRow X.heap.size 36 1 (.slice (some ⟨g1, 0, none⟩) 1 1) [(1 : Int)].length ([(1 : Int)].map (Value.int .u32)) ∧ RTells 0 q false [] [1] 0) := ⟨World.ownsRow_nil _ _ _ _, o1, HT.out⟩
    have HBW := hid (bt HB.out hb1)
    clear o1 hb1 HO
    go_wp2_with fail
    refine bodyPost_ret (v := .tuple #[.agg #[.bool false, .slice none 0 0, .slice (some ⟨g1, 0, none⟩) 1 1], .int .i64 0]) (by simp [results, Try.results34, go_sem, y0, y1, y2]) rfl ?_
    exact RTold.put HR.out w.heap.size HLT.out (Nat.le_refl _) HBW.out _ _ _
  · have hx' : ((xs.length : Int) == 0) = false := beq_eq_false_iff_ne.2 (by omega)
    have hz := both_good (chk_good lx tx) (chk_good ly ty)
    have HW := hid (gcd_wide wx wy hz)
    have HG := hid (refGcd_sl _ _ xs ys (w.alloc (.cells #[.bool false, .slice none 0 0, .slice none 0 0] 26)) (h.later HB.out) (g.later HB.out) (by omega) (by omega))
    rw [hz] at HG
    have HS := hid (And.intro (h.later HB.out) (g.later HB.out))
    have HPY : Hid (0 < val ys) := by have := val_pos' wy ty h0; show _ < _; omega
    have HPX : Hid (0 < val xs) := by have := val_pos' wx tx (by omega); show _ < _; omega
    have HMP := hid (make_parts (n := n) (m := false) (val_nonneg wx) HPY.out)
    have HGP : Hid (0 < gcdI (val xs) (val ys) ∧ gcdI (val xs) (val ys) ≤ val ys ∧ gcdI (val xs) (val ys) ≤ val xs) := ⟨gcd_pos_right HPY.out, gcd_le_right HPY.out, Int.le_of_dvd HPX.out (Int.gcd_dvd_left ..)⟩
    have hnf : (n != false) = n := by cases n <;> rfl
    rw [hnf] at HMP
    have HTT := hid (And.intro tx ty)
    have HWY := hid (And.intro wx wy)
    obtain ⟨q, hq⟩ : ∃ q, q = Rat.divInt (sg n (val xs)) (val ys) := ⟨_, rfl⟩
    rw [← hq]
    have HQ := hid hq
    clear hx hz h g hq hnf tx ty wx wy
    go_enter Try.func34, Try.ntmps34
    go_wp2_with fail
    refine Calls.mono HG.out ?_
    generalize (w.alloc (.cells #[.bool false, .slice none 0 0, .slice none 0 0] 26)) = X at *
    rintro e w1 ⟨v1, z1, c1, rfl, o1, t1, hb1⟩
    obtain ⟨rfl, hv1⟩ := t1.good rfl HW.out
    obtain ⟨a1, k1, hs1⟩ := own_slice' o1
    subst hs1
    have l1 : z1.length ≤ 8192 := by
      refine Nat.le_trans (len_of_lt t1.wd t1.trim (L := ys.length) ?_) ly
      rw [hv1]
      have := HGP.out
      have := val_lt HWY.out.2
      omega
    have p1 : 0 < z1.length := by
      by_cases c : 0 < z1.length
      · exact c
      · have := trimmed_zero' (us := z1) (by omega)
        have := HGP.out
        omega
    have HS1 := hid (Sl.own o1 t1.wd)
    have HO1 := hid (over3_any _ _ xs z1 w1 (HS.out.1.later hb1) HS1.out lx l1 HTT.out.1 t1.trim p1)
    have HO2 := hid (fun ww (hb : Below w1.heap.size w1 ww) => over3_any _ _ ys z1 ww ((HS.out.2.later hb1).later hb) (HS1.out.later hb) ly l1 HTT.out.2 t1.trim p1)
    rw [hv1] at HO1 HO2
    have HB1 := hid hb1
    clear o1 t1 hv1 hb1 HG
    go_wp2_with fail
    refine Calls.mono HO1.out ?_
    rintro e w2 ⟨v2, z2, rfl, o2, wd2, tr2, hv2, hb2⟩
    obtain ⟨a2, k2, hs2⟩ := own_slice' o2
    subst hs2
    have HC2 := hid (HO2.out w2 hb2)
    have HN2 := hid (And.intro (owns_base o2 HB1.out.size) (And.intro wd2 (And.intro tr2 hv2)))
    have HB2 := hid (bt HB1.out hb2)
    clear o2 wd2 tr2 hv2 hb2 HO1 HO2 HS1
    go_wp2_with fail
    refine Calls.mono HC2.out ?_
    rintro e w3 ⟨v3, z3, rfl, o3, wd3, tr3, hv3, hb3⟩
    obtain ⟨a3, k3, hs3⟩ := own_slice' o3
    subst hs3
    have HN3 := hid (And.intro (owns_later HN2.out.1 hb3) (And.intro (owns_base o3 HB2.out.size) (And.intro wd3 (And.intro tr3 hv3))))
    have HB3 := hid (bt HB2.out hb3)
    have HBR := hid (bt HB3.out (alloc_later w3 (.cells #[.bool n, .slice a2 z2.length k2, .slice a3 z3.length k3] 26)))
    obtain ⟨y0, y1, y2, f0, f1, f2⟩ := res_box3 HZ.out HB3.out
    have hlt : w.heap.size < w3.heap.size := Nat.lt_of_lt_of_le HLT.out HB3.out.size
    have HGZ : Hid (gcdI (val z2) (val z3) = 1 ∧ 0 < val z3 ∧ 0 < z2.length) := by
      refine ⟨by rw [HN2.out.2.2.2, hv3]; exact HMP.out.2.1, by rw [hv3]; exact HMP.out.1, ?_⟩
      by_cases c : 0 < z2.length
      · exact c
      · have e0 := trimmed_zero' (us := z2) (by omega)
        have e1 := HN2.out.2.2.2
        have e2 := HGP.out
        have e3 : 1 ≤ val xs / gcdI (val xs) (val ys) := Int.le_ediv_of_mul_le e2.1 (by omega)
        omega
    have HQQ : Hid (q = Rat.divInt (sg n (val z2)) (val z3)) := by
      show _ = _
      rw [HQ.out, HN2.out.2.2.2, hv3]
      exact HMP.out.2.2.symm
    clear o3 wd3 tr3 hv3 hb3 HC2
    by_cases hl2 : 2048 < z2.length
    · have hl2' : (2048 : Int) < (z2.length : Int) := by omega
      have HR : Hid (w3.ownsRow X.heap.size 36 1 (.slice none 0 0) ([] : List Int).length (([] : List Int).map (Value.int .u32)) ∧ w3.ownsRow X.heap.size 36 1 (.slice none 0 0) ([] : List Int).length (([] : List Int).map (Value.int .u32)) ∧ RTells 0 q false [] [] 3) := ⟨World.ownsRow_nil _ _ _ _, World.ownsRow_nil _ _ _ _, by rw [HQQ.out]; exact rt_long HN2.out.2.1 HN2.out.2.2.1 HN3.out.2.2.1 HN3.out.2.2.2.1 HGZ.out.2.1 HGZ.out.1 (.inl hl2)⟩
      clear hl2 HW HMP HGP HTT HWY HQ HS HPX HPY HN2 HN3 HGZ HQQ HBR l1 p1 lx ly h0
      go_wp2_with fail
      refine bodyPost_ret (v := .tuple #[.agg #[.bool false, .slice none 0 0, .slice none 0 0], .int .i64 3]) (by simp [results, Try.results34, go_sem, y0, y1, y2, hlt]) rfl ?_
      exact (RTold.put HR.out w.heap.size HLT.out (Nat.le_refl _) (bt HB.out HB3.out) _ _ _).later (alloc_later _ _)
    · have hl2' : ¬ (2048 : Int) < (z2.length : Int) := by omega
      by_cases hl3 : 2048 < z3.length
      · have hl3' : (2048 : Int) < (z3.length : Int) := by omega
        have HR : Hid (w3.ownsRow X.heap.size 36 1 (.slice none 0 0) ([] : List Int).length (([] : List Int).map (Value.int .u32)) ∧ w3.ownsRow X.heap.size 36 1 (.slice none 0 0) ([] : List Int).length (([] : List Int).map (Value.int .u32)) ∧ RTells 0 q false [] [] 3) := ⟨World.ownsRow_nil _ _ _ _, World.ownsRow_nil _ _ _ _, by rw [HQQ.out]; exact rt_long HN2.out.2.1 HN2.out.2.2.1 HN3.out.2.2.1 HN3.out.2.2.2.1 HGZ.out.2.1 HGZ.out.1 (.inr hl3)⟩
        clear hl2 hl3 HW HMP HGP HTT HWY HQ HS HPX HPY HN2 HN3 HGZ HQQ HBR l1 p1 lx ly h0
        go_wp2_with fail
        refine bodyPost_ret (v := .tuple #[.agg #[.bool false, .slice none 0 0, .slice none 0 0], .int .i64 3]) (by simp [results, Try.results34, go_sem, y0, y1, y2, hlt]) rfl ?_
        exact (RTold.put HR.out w.heap.size HLT.out (Nat.le_refl _) (bt HB.out HB3.out) _ _ _).later (alloc_later _ _)
      · have hl3' : ¬ (2048 : Int) < (z3.length : Int) := by omega
        have HR : Hid (w3.ownsRow X.heap.size 36 1 (.slice a2 z2.length k2) z2.length (z2.map (Value.int .u32)) ∧ w3.ownsRow X.heap.size 36 1 (.slice a3 z3.length k3) z3.length (z3.map (Value.int .u32)) ∧ RTells 0 q n z2 z3 0) := ⟨HN3.out.1, HN3.out.2.1, by rw [HQQ.out]; exact rt_good HN2.out.2.1 HN2.out.2.2.1 HN3.out.2.2.1 HN3.out.2.2.2.1 HGZ.out.2.2 HGZ.out.2.1 HGZ.out.1 (by omega) (by omega)⟩
        clear hl2 hl3 HW HMP HGP HTT HWY HQ HS HPX HPY HN2 HN3 HGZ HQQ HBR l1 p1 lx ly h0
        go_wp2_with fail
        refine bodyPost_ret (v := .tuple #[.agg #[.bool n, .slice a2 z2.length k2, .slice a3 z3.length k3], .int .i64 0]) (by simp [results, Try.results34, go_sem, y0, y1, y2, hlt]) rfl ?_
        exact (RTold.put HR.out w.heap.size HLT.out (Nat.le_refl _) (bt HB.out HB3.out) _ _ _).later (alloc_later _ _)
end Go.Proofs.Ytpehpflgfkdiaaa

/- Fractions: ratio.Small. -/
namespace Go.Proofs.Ytpehpflgfkdiaaa
open Go.RowKit
set_option linter.unusedVariables false

theorem small_err {n m : Bool} {zs us : List Int} {y : Int} (l1 : zs.length ≤ 2) (t1 : Trimmed zs) (s1 : n = false ∨ 0 < zs.length) (w2 : Wd us) (l2 : us.length ≤ 2) (t2 : Trimmed us) (s2 : m = false ∨ 0 < us.length) (v2 : wval m us = y) : mkErr n zs m us = if y = 0 then 7 else 0 := by
  unfold mkErr
  rw [wboth_good (wchk_good (by omega) t1 s1) (wchk_good (by omega) t2 s2), if_pos rfl]
  by_cases c : us.length = 0
  · have e0 : val us = 0 := trimmed_zero' c
    have : y = 0 := by rw [← v2]; cases m <;> simp [wval, e0]
    rw [if_pos c, if_pos this]
  · have e0 := val_pos' w2 t2 (by omega)
    have : ¬ y = 0 := by rw [← v2]; cases m <;> simp [wval] <;> omega
    rw [if_neg c, if_neg this]

end Go.Proofs.Ytpehpflgfkdiaaa

/- The document's own fractions: Make, size, Small. -/
namespace Go.Proofs.Ytpehpflgfkdiaaa
open Go.RowKit
set_option linter.unusedVariables false

theorem div_sg {n m : Bool} {xs ys : List Int} : Rat.divInt (sg (n != m) (val xs)) (val ys) = Rat.divInt (wval n xs) (wval m ys) := by
  cases n <;> cases m <;> simp [sg, wval, Rat.divInt_neg', ← Rat.neg_divInt]

end Go.Proofs.Ytpehpflgfkdiaaa

/- The document's own fractions: Small; two fractions with the same words. -/
namespace Go.Proofs.Ytpehpflgfkdiaaa
open Go.RowKit
set_option linter.unusedVariables false

theorem small_sg {x y : Int} {s : Bool} (h : (decide (x < 0) != decide (y < 0)) = s) : Rat.divInt (sg s (x.natAbs : Int)) (y.natAbs : Int) = Rat.divInt x y := by
  subst h
  by_cases hx : x < 0 <;> by_cases hy : y < 0
  · have e1 : (x.natAbs : Int) = -x := by omega
    have e2 : (y.natAbs : Int) = -y := by omega
    rw [e1, e2]; simp [hx, hy, sg, Rat.neg_divInt_neg]
  · have e1 : (x.natAbs : Int) = -x := by omega
    have e2 : (y.natAbs : Int) = y := by omega
    rw [e1, e2]; simp [hx, hy, sg]
  · have e1 : (x.natAbs : Int) = x := by omega
    have e2 : (y.natAbs : Int) = -y := by omega
    rw [e1, e2]; simp [hx, hy, sg, Rat.divInt_neg']
  · have e1 : (x.natAbs : Int) = x := by omega
    have e2 : (y.natAbs : Int) = y := by omega
    rw [e1, e2]; simp [hx, hy, sg]

set_option maxHeartbeats 1600000 in
set_option maxRecDepth 100000 in
theorem sameRatio_eq (n : Bool) (v u v' u' : Value) (xs ys : List Int) (w : World) (h : Sl w v xs) (g : Sl w u ys) (h' : Sl w v' xs) (g' : Sl w u' ys) (lx : xs.length ≤ 281474976710656) (ly : ys.length ≤ 281474976710656) :
    Calls Try.prog 7 #[.agg #[.bool n, v, u], .agg #[.bool n, v', u']] w fun e w' => e = .returned (.bool true) ∧ Below w.heap.size w w' := by
  have HB : Hid (Below w.heap.size w ((w.alloc (.cells #[.bool n, v, u] 26)).alloc (.cells #[.bool n, v', u'] 26))) := bt (alloc_later _ _) (alloc_later _ _)
  have HN : Hid (Box ((w.alloc (.cells #[.bool n, v, u] 26)).alloc (.cells #[.bool n, v', u'] 26)) w.heap.size 26 #[.bool n, v, u]) := Box.later (Box.made w _ _) (alloc_later _ _) (by simp)
  have HM : Hid (Box ((w.alloc (.cells #[.bool n, v, u] 26)).alloc (.cells #[.bool n, v', u'] 26)) (w.heap.size + 1) 26 #[.bool n, v', u']) := by
    have e := Box.made (w.alloc (.cells #[.bool n, v, u] 26)) 26 #[.bool n, v', u']
    simp at e
    exact e
  have H1 := hid (same_sl v v' xs xs _ (h.later HB.out) (h'.later HB.out) lx lx)
  rw [decide_eq_true rfl] at H1
  have H2 := hid (fun ww (hb : Below _ ((w.alloc (.cells #[.bool n, v, u] 26)).alloc (.cells #[.bool n, v', u'] 26)) ww) => same_sl u u' ys ys ww ((g.later HB.out).later hb) ((g'.later HB.out).later hb) ly ly)
  rw [decide_eq_true rfl] at H2
  have hbb : (n == n) = true := by simp
  obtain ⟨a, ca, rfl, hr⟩ := h
  obtain ⟨b, cb, rfl, gr⟩ := g
  obtain ⟨a', ca', rfl, hr'⟩ := h'
  obtain ⟨b', cb', rfl, gr'⟩ := g'
  clear hr gr hr' gr'
  go_enter Try.func7, Try.ntmps7
  go_wp2_with fail
  refine Calls.mono H1.out ?_
  generalize ((w.alloc (.cells #[.bool n, .slice a xs.length ca, .slice b ys.length cb] 26)).alloc (.cells #[.bool n, .slice a' xs.length ca', .slice b' ys.length cb'] 26)) = X at *
  rintro e w1 ⟨rfl, hb1⟩
  obtain ⟨p0, p1, p2, _, _, _⟩ := res_box3 HN.out hb1
  obtain ⟨q0, q1, q2, _, _, _⟩ := res_box3 HM.out hb1
  have HC := hid (H2.out w1 hb1)
  have HB1 := hid (bt HB.out hb1)
  clear hb1 H1 H2
  go_wp2_with fail
  refine Calls.mono HC.out ?_
  rintro e w2 ⟨rfl, hb2⟩
  have HBN := hid (bt HB1.out hb2)
  clear hb2 HC
  go_wp2_with fail
  go_ret
  exact ⟨rfl, HBN.out⟩
end Go.Proofs.Ytpehpflgfkdiaaa

/- Boxes of fractions, rows of the call's own and one box of a flag, in a bundle that is moved along. -/
namespace Go.Proofs.Ytpehpflgfkdiaaa
open Go.RowKit
set_option linter.unusedVariables false

theorem Box.same {w : World} {b t : Nat} {vs : Array Value} (h : Box w b t vs) {j : Nat} {v : Value} (hv : vs[j]? = some v) : w.setCell ⟨b, j, none⟩ v = w := by
  have e : (w.setCell ⟨b, j, none⟩ v).heap = w.heap := by
    have h' : w.heap[b]? = some (.cells vs t (0, 0)) := h
    have hs : vs.setIfInBounds j v = vs := by
      apply Array.ext_getElem?
      intro k
      rw [Array.getElem?_setIfInBounds]
      by_cases c : j = k
      · subst c
        obtain ⟨hk, _⟩ := Array.getElem?_eq_some_iff.1 hv
        rw [if_pos rfl, if_pos hk, hv]
      · rw [if_neg c]
    unfold World.setCell
    apply Array.ext_getElem?
    intro k
    simp only [Array.getElem?_modify]
    by_cases c : b = k
    · subst c
      rw [if_pos rfl, h']
      simp [hs]
    · rw [if_neg c]
  cases w
  simp only [World.setCell] at e ⊢
  rw [e]
theorem own_put1 {w : World} {base e n : Nat} {v : Value} {xs : List Value} (h : w.ownsRow base e 1 v n xs) (b : Nat) (hb : ∀ g, v.ownBlock = some g → g ≠ b) (j : Nat) (v0 : Value) : (w.setCell ⟨b, j, none⟩ v0).ownsRow base e 1 v n xs := by
  have hne : v.ownBlock = none ∨ v.ownBlock ≠ some b := by
    cases hv : v.ownBlock with
    | none => exact .inl rfl
    | some g => right; intro e; exact hb g hv (Option.some.inj e)
  exact World.ownsRow.kept h (grown_set w ⟨b, j, none⟩ v0) hne
/-- Boxes that hold fractions. -/
def Bxs3 (W : World) (l : List (Nat × Array Value)) : Prop := ∀ p ∈ l, Box W p.1 26 p.2
def Rws (W : World) (l : List (Nat × Value × List Int)) : Prop := ∀ p ∈ l, W.ownsRow p.1 36 1 p.2.1 p.2.2.length (p.2.2.map (Value.int .u32))
/-- What is known of a world: boxes of fractions, rows of the call's own, what was there. -/
structure St (w W : World) (l : List (Nat × Array Value)) (r : List (Nat × Value × List Int)) : Prop where
  box : Bxs3 W l
  row : Rws W r
  bel : Below w.heap.size w W
theorem St.later {w W W' : World} {l : List (Nat × Array Value)} {r : List (Nat × Value × List Int)} (h : St w W l r) (hb : Below W.heap.size W W') : St w W' l r :=
  ⟨fun p hp => (h.box p hp).later hb (h.box p hp).lt, fun p hp => owns_later (h.row p hp) hb, bt h.bel hb⟩
theorem St.more {w W : World} {l : List (Nat × Array Value)} {r : List (Nat × Value × List Int)} (h : St w W l r) {base : Nat} {v : Value} {zs : List Int} (o : W.ownsRow base 36 1 v zs.length (zs.map (Value.int .u32))) : St w W l ((base, v, zs) :: r) :=
  ⟨h.box, fun p hp => by
    cases hp with
    | head => exact o
    | tail _ hp => exact h.row p hp, h.bel⟩
theorem St.put {w W : World} {l : List (Nat × Array Value)} {r : List (Nat × Value × List Int)} (h : St w W l r) (n : Bool) (v u : Value) : St w (W.alloc (.cells #[.bool n, v, u] 26)) ((W.heap.size, #[.bool n, v, u]) :: l) r :=
  ⟨fun p hp => by
    cases hp with
    | head => exact Box.made W _ _
    | tail _ hp => exact (h.box p hp).later (alloc_later _ _) (h.box p hp).lt, (h.later (alloc_later _ _)).row, (h.later (alloc_later _ _)).bel⟩
theorem St.get {w W : World} {l : List (Nat × Array Value)} {r : List (Nat × Value × List Int)} (h : St w W l r) {g : Nat} {n : Bool} {v u : Value} (hm : (g, #[.bool n, v, u]) ∈ l) : W.cell? ⟨g, 0, none⟩ = some (.bool n) ∧ W.cell? ⟨g, 1, none⟩ = some v ∧ W.cell? ⟨g, 2, none⟩ = some u := ⟨(h.box _ hm).cell 0, (h.box _ hm).cell 1, (h.box _ hm).cell 2⟩
theorem St.free {w W : World} {l : List (Nat × Array Value)} {r : List (Nat × Value × List Int)} (h : St w W l r) {g : Nat} {n : Bool} {v u : Value} (hm : (g, #[.bool n, v, u]) ∈ l) : W.frozen? ⟨g, 0, none⟩ = false ∧ W.frozen? ⟨g, 1, none⟩ = false ∧ W.frozen? ⟨g, 2, none⟩ = false := ⟨(h.box _ hm).free 0, (h.box _ hm).free 1, (h.box _ hm).free 2⟩
theorem St.same {w W : World} {l : List (Nat × Array Value)} {r : List (Nat × Value × List Int)} (h : St w W l r) {g : Nat} {n : Bool} {v u : Value} (hm : (g, #[.bool n, v, u]) ∈ l) : W.setCell ⟨g, 0, none⟩ (.bool n) = W ∧ W.setCell ⟨g, 1, none⟩ v = W ∧ W.setCell ⟨g, 2, none⟩ u = W := ⟨(h.box _ hm).same rfl, (h.box _ hm).same rfl, (h.box _ hm).same rfl⟩
theorem St.sl {w W : World} {l : List (Nat × Array Value)} {r : List (Nat × Value × List Int)} (h : St w W l r) {base : Nat} {v : Value} {zs : List Int} (wd : Wd zs) (hm : (base, v, zs) ∈ r) : Sl W v zs := Sl.own (h.row _ hm) wd
/-- A store into a box of another type. -/
theorem St.flag {w W : World} {l : List (Nat × Array Value)} {r : List (Nat × Value × List Int)} (h : St w W l r) {g t : Nat} {vs : Array Value} (b : Box W g t vs) (hg : w.heap.size ≤ g) (h1 : t ≠ 26) (h2 : t ≠ 36) (j : Nat) (v : Value) : St w (W.setCell ⟨g, j, none⟩ v) l r := by
  refine ⟨fun p hp => (h.box p hp).other _ _ (fun e => ?_), fun p hp => own_put1 (h.row p hp) g (own_ne_box (h.row p hp) b (Ne.symm h2)) _ _, h.bel.setCell (p := ⟨g, j, none⟩) hg _⟩
  · have e1 := h.box p hp
    rw [e] at e1
    have e2 : some (Obj.cells p.2 26 (0, 0)) = some (.cells vs t (0, 0)) := e1.symm.trans b
    injection e2 with e3
    injection e3 with _ e4 _
    exact h1 e4.symm
end Go.Proofs.Ytpehpflgfkdiaaa

/- Whole numbers that are lent to a call: slackwaterkit.LentWhole, KeptWhole; the law's own comparison. -/
namespace Go.Proofs.Ytpehpflgfkdiaaa
open Go.RowKit
set_option linter.unusedVariables false

theorem own_room {w : World} {base e n : Nat} {v : Value} {xs : List Value} (h : w.ownsRow base e 1 v n xs) (hn : 0 < n) : ∃ g cap, v = .slice (some ⟨g, 0, none⟩) n cap ∧ n ≤ cap ∧ cap ≤ 9223372036854775807 := by
  obtain ⟨g, cap, rfl, h1, h2⟩ := own_shape' h hn
  exact ⟨g, cap, rfl, h1, by unfold maxLen at h2; omega⟩

end Go.Proofs.Ytpehpflgfkdiaaa

/- Fractions that are lent to a call: slackwaterkit.LentRatio, KeptRatio. -/
namespace Go.Proofs.Ytpehpflgfkdiaaa
open Go.RowKit
set_option linter.unusedVariables false

set_option maxHeartbeats 6400000 in
set_option maxRecDepth 100000 in
theorem lentRatio_any (n : Bool) (a : Option Addr) (ca : Nat) (xs : List Int) (b : Option Addr) (cb : Nat) (ys : List Int) (w : World) (sx : Sl w (.slice a xs.length ca) xs) (sy : Sl w (.slice b ys.length cb) ys) (lx : xs.length ≤ 549755813888) (ly : ys.length ≤ 549755813888) :
    Calls Try.prog 10 #[.agg #[.bool n, .slice a xs.length ca, .slice b ys.length cb]] w fun e w' => ∃ g1 c1 g2 c2, e = .returned (.agg #[.bool n, .slice (some ⟨g1, 0, none⟩) xs.length c1, .slice (some ⟨g2, 0, none⟩) ys.length c2]) ∧ w'.ownsRow w.heap.size 36 1 (.slice (some ⟨g1, 0, none⟩) (xs.length + 3) c1) (xs.length + 3) ((xs ++ marks 3).map (Value.int .u32)) ∧ w'.ownsRow w.heap.size 36 1 (.slice (some ⟨g2, 0, none⟩) (ys.length + 3) c2) (ys.length + 3) ((ys ++ marks 3).map (Value.int .u32)) ∧ g1 < g2 ∧ Below w.heap.size w w' := by
  have HB : Hid (Below w.heap.size w ((w.alloc (.cells #[.bool n, .slice a xs.length ca, .slice b ys.length cb] 26)).alloc (.cells #[.bool false, .slice none 0 0, .slice none 0 0] 26))) := bt (alloc_later _ _) (alloc_later _ _)
  have HA : Hid (Box ((w.alloc (.cells #[.bool n, .slice a xs.length ca, .slice b ys.length cb] 26)).alloc (.cells #[.bool false, .slice none 0 0, .slice none 0 0] 26)) w.heap.size 26 #[.bool n, .slice a xs.length ca, .slice b ys.length cb]) := Box.later (Box.made w _ _) (alloc_later _ _) (by simp)
  have HZ : Hid (Box ((w.alloc (.cells #[.bool n, .slice a xs.length ca, .slice b ys.length cb] 26)).alloc (.cells #[.bool false, .slice none 0 0, .slice none 0 0] 26)) (w.heap.size + 1) 26 #[.bool false, .slice none 0 0, .slice none 0 0]) := by
    have e := Box.made (w.alloc (.cells #[.bool n, .slice a xs.length ca, .slice b ys.length cb] 26)) 26 #[.bool false, .slice none 0 0, .slice none 0 0]
    simp at e
    exact e
  have HS := hid (And.intro (sx.later HB.out) (sy.later HB.out))
  clear sx sy
  go_enter Try.func10, Try.ntmps10
  go_wp2_with fail
  generalize ((w.alloc (.cells #[.bool n, .slice a xs.length ca, .slice b ys.length cb] 26)).alloc (.cells #[.bool false, .slice none 0 0, .slice none 0 0] 26)) = X at *
  have HK : Hid (∀ V, Below X.heap.size X V → (V.cell? ⟨w.heap.size, 0, none⟩ = some (.bool n) ∧ V.cell? ⟨w.heap.size, 1, none⟩ = some (.slice a xs.length ca) ∧ V.cell? ⟨w.heap.size, 2, none⟩ = some (.slice b ys.length cb))) := fun V hb => by
    obtain ⟨p0, p1, p2, _, _, _⟩ := res_box3 HA.out hb
    exact ⟨p0, p1, p2⟩
  have hs0 := HK.out _ (Below.drew (Below.refl _ X))
  have HL1 : Hid (∀ V, Below X.heap.size X V → Calls Try.prog 20 #[.slice a xs.length ca] V fun e V' => ∃ g cap, e = .returned (.slice (some ⟨g, 0, none⟩) (xs.length + 3) cap) ∧ xs.length + 3 ≤ cap ∧ cap ≤ 9223372036854775807 ∧ (xs.length : Int) ≤ (cap : Int) ∧ Hid (V'.ownsRow X.heap.size 36 1 (.slice (some ⟨g, 0, none⟩) (xs.length + 3) cap) (xs.length + 3) ((xs ++ marks 3).map (Value.int .u32)) ∧ Below V.heap.size V V' ∧ Below X.heap.size X V' ∧ V.heap.size ≤ g ∧ g < V'.heap.size) ∧ (V'.cell? ⟨w.heap.size, 0, none⟩ = some (.bool n) ∧ V'.cell? ⟨w.heap.size, 1, none⟩ = some (.slice a xs.length ca) ∧ V'.cell? ⟨w.heap.size, 2, none⟩ = some (.slice b ys.length cb)) ∧ V'.cell? ⟨w.heap.size + 1, 0, none⟩ = some (.bool false) ∧ V'.cell? ⟨w.heap.size + 1, 1, none⟩ = some (.slice none 0 0) ∧ V'.cell? ⟨w.heap.size + 1, 2, none⟩ = some (.slice none 0 0) ∧ V'.frozen? ⟨w.heap.size + 1, 0, none⟩ = false ∧ V'.frozen? ⟨w.heap.size + 1, 1, none⟩ = false ∧ V'.frozen? ⟨w.heap.size + 1, 2, none⟩ = false) := fun V hb => by
    refine Calls.mono (lentWords_sl _ xs _ (HS.out.1.later hb) lx) ?_
    rintro e V' ⟨v1, rfl, o1, hb1⟩
    obtain ⟨g, cap, hv, h1, h2⟩ := own_room o1 (by omega)
    subst hv
    have hbX : Below X.heap.size X V' := bt hb hb1
    exact ⟨g, cap, rfl, h1, h2, by omega, ⟨owns_base o1 hb.size, hb1, hbX, (o1.lt g rfl).1, (o1.lt g rfl).2⟩, HK.out V' hbX, res_box3 HZ.out hbX⟩
  have HL2 : Hid (∀ V, Below X.heap.size X V → Calls Try.prog 20 #[.slice b ys.length cb] V fun e V' => ∃ g cap, e = .returned (.slice (some ⟨g, 0, none⟩) (ys.length + 3) cap) ∧ ys.length + 3 ≤ cap ∧ cap ≤ 9223372036854775807 ∧ (ys.length : Int) ≤ (cap : Int) ∧ Hid (V'.ownsRow X.heap.size 36 1 (.slice (some ⟨g, 0, none⟩) (ys.length + 3) cap) (ys.length + 3) ((ys ++ marks 3).map (Value.int .u32)) ∧ Below V.heap.size V V' ∧ Below X.heap.size X V' ∧ V.heap.size ≤ g ∧ g < V'.heap.size) ∧ (V'.cell? ⟨w.heap.size, 0, none⟩ = some (.bool n) ∧ V'.cell? ⟨w.heap.size, 1, none⟩ = some (.slice a xs.length ca) ∧ V'.cell? ⟨w.heap.size, 2, none⟩ = some (.slice b ys.length cb)) ∧ V'.cell? ⟨w.heap.size + 1, 0, none⟩ = some (.bool false) ∧ V'.cell? ⟨w.heap.size + 1, 1, none⟩ = some (.slice none 0 0) ∧ V'.cell? ⟨w.heap.size + 1, 2, none⟩ = some (.slice none 0 0) ∧ V'.frozen? ⟨w.heap.size + 1, 0, none⟩ = false ∧ V'.frozen? ⟨w.heap.size + 1, 1, none⟩ = false ∧ V'.frozen? ⟨w.heap.size + 1, 2, none⟩ = false) := fun V hb => by
    refine Calls.mono (lentWords_sl _ ys _ (HS.out.2.later hb) ly) ?_
    rintro e V' ⟨v1, rfl, o1, hb1⟩
    obtain ⟨g, cap, hv, h1, h2⟩ := own_room o1 (by omega)
    subst hv
    have hbX : Below X.heap.size X V' := bt hb hb1
    exact ⟨g, cap, rfl, h1, h2, by omega, ⟨owns_base o1 hb.size, hb1, hbX, (o1.lt g rfl).1, (o1.lt g rfl).2⟩, HK.out V' hbX, res_box3 HZ.out hbX⟩
  have hx0 : (0 : Int) ≤ (xs.length : Int) := by omega
  have hlx : xs.length ≤ 9223372036854775807 := by omega
  have hy0 : (0 : Int) ≤ (ys.length : Int) := by omega
  have hly : ys.length ≤ 9223372036854775807 := by omega
  clear HS HA
  go_region_held3 (fun V : World => (V.cell? ⟨w.heap.size, 0, none⟩ = some (.bool n) ∧ V.cell? ⟨w.heap.size, 1, none⟩ = some (.slice a xs.length ca) ∧ V.cell? ⟨w.heap.size, 2, none⟩ = some (.slice b ys.length cb))) (first | exact hs2 | exact hs1 | exact hs0 | (simp [hs2, World.cell?_setCell_far]))
    (first
      | (go_at_call 20; with_reducible refine Calls.mono (HL2.out _ HE1.out.2.2.1) ?_; rintro e w2 ⟨g2, c2, rfl, hd1, hd2, hd3, HE2, hs2, r0, r1, r2, f0, f1, f2⟩)
      | (go_at_call 20; with_reducible refine Calls.mono (HL1.out _ (Below.drew (Below.refl _ X))) ?_; rintro e w1 ⟨g1, c1, rfl, hc1, hc2, hc3, HE1, hs1, y0, y1, y2, z0, z1, z2⟩))
  all_goals
    have HZ2 := hid (HZ.out.later HE2.out.2.2.1 HZ.out.lt)
    have HO1 := hid (own_put3 (owns_base (owns_later HE1.out.1 HE2.out.2.1) HB.out.size) (w.heap.size + 1) (own_ne_box (owns_later HE1.out.1 HE2.out.2.1) HZ2.out (by decide)) (.bool n) (.slice (some ⟨g1, 0, none⟩) xs.length c1) (.slice (some ⟨g2, 0, none⟩) ys.length c2))
    have HO2 := hid (own_put3 (owns_base HE2.out.1 HB.out.size) (w.heap.size + 1) (own_ne_box HE2.out.1 HZ2.out (by decide)) (.bool n) (.slice (some ⟨g1, 0, none⟩) xs.length c1) (.slice (some ⟨g2, 0, none⟩) ys.length c2))
    have HBN := hid (below_put3 (bt HB.out HE2.out.2.2.1) (w.heap.size + 1) (by omega) (.bool n) (.slice (some ⟨g1, 0, none⟩) xs.length c1) (.slice (some ⟨g2, 0, none⟩) ys.length c2))
    have HG : Hid (g1 < g2) := by have e1 := HE1.out.2.2.2.2; have e2 := HE2.out.2.2.2.1; show _ < _; omega
    clear HK HL1 HL2 HE1 HE2 HZ HB HZ2 hs0 hs1 hs2 y0 y1 y2 z0 z1 z2
    go_wp2_with fail
    refine bodyPost_ret (v := .agg #[.bool n, .slice (some ⟨g1, 0, none⟩) xs.length c1, .slice (some ⟨g2, 0, none⟩) ys.length c2]) (by simp [results, Try.results10, go_sem, r0, r1, r2]) rfl ?_
    exact ⟨g1, c1, g2, c2, rfl, HO1.out, HO2.out, HG.out, HBN.out⟩

set_option maxHeartbeats 6400000 in
set_option maxRecDepth 100000 in
theorem keptRatio_any (n : Bool) (a : Option Addr) (ca : Nat) (xs : List Int) (b : Option Addr) (cb : Nat) (ys : List Int) (g1 c1 g2 c2 base : Nat) (w : World) (sx : Sl w (.slice a xs.length ca) xs) (sy : Sl w (.slice b ys.length cb) ys) (lx : xs.length ≤ 274877906944) (ly : ys.length ≤ 274877906944) (o1 : w.ownsRow base 36 1 (.slice (some ⟨g1, 0, none⟩) (xs.length + 3) c1) (xs.length + 3) ((xs ++ marks 3).map (Value.int .u32))) (o2 : w.ownsRow base 36 1 (.slice (some ⟨g2, 0, none⟩) (ys.length + 3) c2) (ys.length + 3) ((ys ++ marks 3).map (Value.int .u32))) :
    Calls Try.prog 18 #[.agg #[.bool n, .slice (some ⟨g1, 0, none⟩) xs.length c1, .slice (some ⟨g2, 0, none⟩) ys.length c2], .agg #[.bool n, .slice a xs.length ca, .slice b ys.length cb]] w fun e w' => e = .returned (.bool true) ∧ Below w.heap.size w w' := by
  have hcap1 : xs.length + 3 ≤ c1 ∧ c1 ≤ 9223372036854775807 := by
    obtain ⟨g', cap', hv, h1, h2⟩ := own_room o1 (by omega)
    simp only [Value.slice.injEq, Option.some.injEq, Addr.mk.injEq, and_true, true_and] at hv
    obtain ⟨rfl, rfl⟩ := hv
    exact ⟨h1, h2⟩
  have wf1 : Wd (xs ++ marks 3) := sx.wd.append (Wd.marks 3)
  have lf1 : (xs ++ marks 3).length = xs.length + 3 := by rw [List.length_append, marks_len 3 (by omega)]
  have hcap2 : ys.length + 3 ≤ c2 ∧ c2 ≤ 9223372036854775807 := by
    obtain ⟨g', cap', hv, h1, h2⟩ := own_room o2 (by omega)
    simp only [Value.slice.injEq, Option.some.injEq, Addr.mk.injEq, and_true, true_and] at hv
    obtain ⟨rfl, rfl⟩ := hv
    exact ⟨h1, h2⟩
  have wf2 : Wd (ys ++ marks 3) := sy.wd.append (Wd.marks 3)
  have lf2 : (ys ++ marks 3).length = ys.length + 3 := by rw [List.length_append, marks_len 3 (by omega)]
  have HO := hid (And.intro (Sl.own o1 wf1) (Sl.own o2 wf2))
  have HS := hid (And.intro sx sy)
  have HB : Hid (Below w.heap.size w ((w.alloc (.cells #[.bool n, .slice (some ⟨g1, 0, none⟩) xs.length c1, .slice (some ⟨g2, 0, none⟩) ys.length c2] 26)).alloc (.cells #[.bool n, .slice a xs.length ca, .slice b ys.length cb] 26))) := bt (alloc_later _ _) (alloc_later _ _)
  have HA : Hid (Box ((w.alloc (.cells #[.bool n, .slice (some ⟨g1, 0, none⟩) xs.length c1, .slice (some ⟨g2, 0, none⟩) ys.length c2] 26)).alloc (.cells #[.bool n, .slice a xs.length ca, .slice b ys.length cb] 26)) w.heap.size 26 #[.bool n, .slice (some ⟨g1, 0, none⟩) xs.length c1, .slice (some ⟨g2, 0, none⟩) ys.length c2]) := Box.later (Box.made w _ _) (alloc_later _ _) (by simp)
  have HZ : Hid (Box ((w.alloc (.cells #[.bool n, .slice (some ⟨g1, 0, none⟩) xs.length c1, .slice (some ⟨g2, 0, none⟩) ys.length c2] 26)).alloc (.cells #[.bool n, .slice a xs.length ca, .slice b ys.length cb] 26)) (w.heap.size + 1) 26 #[.bool n, .slice a xs.length ca, .slice b ys.length cb]) := by
    have e := Box.made (w.alloc (.cells #[.bool n, .slice (some ⟨g1, 0, none⟩) xs.length c1, .slice (some ⟨g2, 0, none⟩) ys.length c2] 26)) 26 #[.bool n, .slice a xs.length ca, .slice b ys.length cb]
    simp at e
    exact e
  have hc1 := hcap1.1
  have hm1 := hcap1.2
  have hll1 : ((xs.length : Int) == (xs.length : Int)) = true := by simp
  have hx1 : (0 : Int) ≤ (xs.length : Int) + 3 := by omega
  have hxc1 : (xs.length : Int) + 3 ≤ (c1 : Int) := by omega
  have hwr1 : IntKind.i64.wrap ((xs.length : Int) + 3) = (xs.length : Int) + 3 := by rw [IntKind.wrap_i64]; omega
  have htn1 : ((xs.length : Int) + 3).toNat = xs.length + 3 := by omega
  have hc2 := hcap2.1
  have hm2 := hcap2.2
  have hll2 : ((ys.length : Int) == (ys.length : Int)) = true := by simp
  have hx2 : (0 : Int) ≤ (ys.length : Int) + 3 := by omega
  have hxc2 : (ys.length : Int) + 3 ≤ (c2 : Int) := by omega
  have hwr2 : IntKind.i64.wrap ((ys.length : Int) + 3) = (ys.length : Int) + 3 := by rw [IntKind.wrap_i64]; omega
  have htn2 : ((ys.length : Int) + 3).toNat = ys.length + 3 := by omega
  have hnn : (n == n) = true := by simp
  clear o1 o2 hcap1 hcap2 sx sy
  go_enter Try.func18, Try.ntmps18
  go_wp2_with fail
  generalize ((w.alloc (.cells #[.bool n, .slice (some ⟨g1, 0, none⟩) xs.length c1, .slice (some ⟨g2, 0, none⟩) ys.length c2] 26)).alloc (.cells #[.bool n, .slice a xs.length ca, .slice b ys.length cb] 26)) = X at *
  have HK : Hid (∀ V, Below X.heap.size X V → (V.cell? ⟨w.heap.size, 0, none⟩ = some (.bool n) ∧ V.cell? ⟨w.heap.size, 1, none⟩ = some (.slice (some ⟨g1, 0, none⟩) xs.length c1) ∧ V.cell? ⟨w.heap.size, 2, none⟩ = some (.slice (some ⟨g2, 0, none⟩) ys.length c2) ∧ V.cell? ⟨w.heap.size + 1, 0, none⟩ = some (.bool n) ∧ V.cell? ⟨w.heap.size + 1, 1, none⟩ = some (.slice a xs.length ca) ∧ V.cell? ⟨w.heap.size + 1, 2, none⟩ = some (.slice b ys.length cb))) := fun V hb => by
    obtain ⟨p0, p1, p2, _, _, _⟩ := res_box3 HA.out hb
    obtain ⟨q0, q1, q2, _, _, _⟩ := res_box3 HZ.out hb
    exact ⟨p0, p1, p2, q0, q1, q2⟩
  have hs0 := HK.out _ (Below.drew (Below.refl _ X))
  have HL1 : Hid (∀ V, Below X.heap.size X V → Calls Try.prog 35 #[.slice (some ⟨g1, 0, none⟩) (xs.length + 3) c1, .slice a xs.length ca] V fun e V' => e = .returned (.bool true) ∧ Hid (Below X.heap.size X V') ∧ (V'.cell? ⟨w.heap.size, 0, none⟩ = some (.bool n) ∧ V'.cell? ⟨w.heap.size, 1, none⟩ = some (.slice (some ⟨g1, 0, none⟩) xs.length c1) ∧ V'.cell? ⟨w.heap.size, 2, none⟩ = some (.slice (some ⟨g2, 0, none⟩) ys.length c2) ∧ V'.cell? ⟨w.heap.size + 1, 0, none⟩ = some (.bool n) ∧ V'.cell? ⟨w.heap.size + 1, 1, none⟩ = some (.slice a xs.length ca) ∧ V'.cell? ⟨w.heap.size + 1, 2, none⟩ = some (.slice b ys.length cb))) := fun V hb => by
    have e := keptWords_sl _ _ (xs ++ marks 3) xs V (HO.out.1.later (bt HB.out hb)) (HS.out.1.later (bt HB.out hb)) (by omega) lx
    rw [decide_eq_true rfl] at e
    refine Calls.mono e ?_
    rintro e V' ⟨rfl, hb1⟩
    have hbX : Below X.heap.size X V' := bt hb hb1
    exact ⟨rfl, hbX, HK.out V' hbX⟩
  have HL2 : Hid (∀ V, Below X.heap.size X V → Calls Try.prog 35 #[.slice (some ⟨g2, 0, none⟩) (ys.length + 3) c2, .slice b ys.length cb] V fun e V' => e = .returned (.bool true) ∧ Hid (Below X.heap.size X V') ∧ (V'.cell? ⟨w.heap.size, 0, none⟩ = some (.bool n) ∧ V'.cell? ⟨w.heap.size, 1, none⟩ = some (.slice (some ⟨g1, 0, none⟩) xs.length c1) ∧ V'.cell? ⟨w.heap.size, 2, none⟩ = some (.slice (some ⟨g2, 0, none⟩) ys.length c2) ∧ V'.cell? ⟨w.heap.size + 1, 0, none⟩ = some (.bool n) ∧ V'.cell? ⟨w.heap.size + 1, 1, none⟩ = some (.slice a xs.length ca) ∧ V'.cell? ⟨w.heap.size + 1, 2, none⟩ = some (.slice b ys.length cb))) := fun V hb => by
    have e := keptWords_sl _ _ (ys ++ marks 3) ys V (HO.out.2.later (bt HB.out hb)) (HS.out.2.later (bt HB.out hb)) (by omega) ly
    rw [decide_eq_true rfl] at e
    refine Calls.mono e ?_
    rintro e V' ⟨rfl, hb1⟩
    have hbX : Below X.heap.size X V' := bt hb hb1
    exact ⟨rfl, hbX, HK.out V' hbX⟩
  clear HA HZ wf1 wf2 lf1 lf2 HO HS
  go_region_held3 (fun V : World => (V.cell? ⟨w.heap.size, 0, none⟩ = some (.bool n) ∧ V.cell? ⟨w.heap.size, 1, none⟩ = some (.slice (some ⟨g1, 0, none⟩) xs.length c1) ∧ V.cell? ⟨w.heap.size, 2, none⟩ = some (.slice (some ⟨g2, 0, none⟩) ys.length c2) ∧ V.cell? ⟨w.heap.size + 1, 0, none⟩ = some (.bool n) ∧ V.cell? ⟨w.heap.size + 1, 1, none⟩ = some (.slice a xs.length ca) ∧ V.cell? ⟨w.heap.size + 1, 2, none⟩ = some (.slice b ys.length cb))) (first | exact hs2 | exact hs1 | exact hs0 | exact HK.out _ (Below.drew HE1.out))
    (first
      | (go_at_call 35; with_reducible refine Calls.mono (HL2.out _ (by first | exact HE1.out | exact Below.drew HE1.out)) ?_; rintro e w2 ⟨rfl, HE2, hs2⟩)
      | (go_at_call 35; with_reducible refine Calls.mono (HL1.out _ (Below.drew (Below.refl _ X))) ?_; rintro e w1 ⟨rfl, HE1, hs1⟩))
  all_goals
    have HBN := hid (bt HB.out HE2.out)
    clear HK HL1 HL2 HE1 HE2 HB hs0 hs1 hs2
    go_wp2_with fail
    go_ret
    exact ⟨rfl, HBN.out⟩
end Go.Proofs.Ytpehpflgfkdiaaa

/- The law's own told.hear: one more answer, as the document says, into the list. -/
namespace Go.Proofs.Ytpehpflgfkdiaaa
open Go.RowKit
set_option linter.unusedVariables false

theorem Try.infoR : (Try.prog.info? 26).map (fun i => (i.zero, i.size, i.bytes)) = some (some (.agg #[.bool false, .slice none 0 0, .slice none 0 0]), 3, 56) := by kernel_rfl

theorem Box.kept {W W' : World} {row : Option Nat} {b t : Nat} {vs : Array Value} (h : Box W b t vs) (hg : W.grownBy W' row) (hne : some b ≠ row) : Box W' b t vs := (hg.block b h.lt hne).trans h
theorem own_slice3 {w : World} {base e n s : Nat} {v : Value} {xs : List Value} (h : w.ownsRow base e s v n xs) : ∃ a cap, v = .slice a n cap := by
  rcases h.2 with ⟨h1, h0⟩ | ⟨g, cap, cur, hv, _⟩
  · subst h0; exact ⟨_, _, h1⟩
  · exact ⟨_, _, hv⟩
theorem owns_later3 {w w' : World} {base e n s : Nat} {v : Value} {xs : List Value} (h : w.ownsRow base e s v n xs) (hb : Below w.heap.size w w') : w'.ownsRow base e s v n xs :=
  World.ownsRow.kept (row := none) h (grown_of_below hb none) (by cases v.ownBlock with
    | none => exact .inl rfl
    | some g => right; simp)
theorem own_ne_box3 {U : World} {base e n b t s : Nat} {v : Value} {xs : List Value} {vs : Array Value} (h : U.ownsRow base e s v n xs) (hb : Box U b t vs) (hne : e ≠ t) : ∀ g, v.ownBlock = some g → g ≠ b := fun g hg => by
  rcases h.2 with ⟨rfl, _⟩ | ⟨g1, c1, u1, rfl, _, hg1, _⟩
  · simp [Value.ownBlock] at hg
  · simp [Value.ownBlock] at hg
    subst hg
    intro e2
    subst e2
    unfold Box at hb
    rw [hg1] at hb
    injection hb with e3
    injection e3 with _ e4 _
    exact hne e4
theorem own_put1' {w : World} {base e n s : Nat} {v : Value} {xs : List Value} (h : w.ownsRow base e s v n xs) (b : Nat) (hb : ∀ g, v.ownBlock = some g → g ≠ b) (j : Nat) (v0 : Value) : (w.setCell ⟨b, j, none⟩ v0).ownsRow base e s v n xs := by
  have hne : v.ownBlock = none ∨ v.ownBlock ≠ some b := by
    cases hv : v.ownBlock with
    | none => exact .inl rfl
    | some g => right; intro e; exact hb g hv (Option.some.inj e)
  exact World.ownsRow.kept h (grown_set w ⟨b, j, none⟩ v0) hne
theorem grown_new {w W : World} {row : Option Nat} (h : w.grownBy W row) {b : Nat} (hb : w.heap.size ≤ b) (j : Nat) (v : Value) : w.grownBy (W.setCell ⟨b, j, none⟩ v) row :=
  ⟨h.os, h.tape, h.output, by simp [World.setCell]; exact h.size, fun k hk hn => (Below.heap_setCell W ⟨b, j, none⟩ v k (fun e => by have : k = b := e; omega)).trans (h.block k hk hn)⟩
theorem three_cells (w : World) (u0 u1 u2 : Value) (t : Nat) : ∀ j u, [u0, u1, u2][j]? = some u → (w.alloc (.cells #[u0, u1, u2] t)).cell? ((⟨w.heap.size, 0, none⟩ : Addr).add j) = some u := by
  intro j u h
  have hb := Box.made w t #[u0, u1, u2]
  match j, h with
  | 0, h => obtain rfl : u0 = u := by simpa using h
            exact hb.cell 0
  | 1, h => obtain rfl : u1 = u := by simpa using h
            exact hb.cell 1
  | 2, h => obtain rfl : u2 = u := by simpa using h
            exact hb.cell 2
  | n + 3, h => simp at h

end Go.Proofs.Ytpehpflgfkdiaaa

/- The first statement of the law RatioTells: two copies lent, in whatever order its parts are done, for whatever follows. -/
namespace Go.Proofs.Ytpehpflgfkdiaaa
open Go.RowKit
set_option linter.unusedVariables false

theorem Box.put3 {U : World} {b t : Nat} {u0 u1 u2 : Value} (h : Box U b t #[u0, u1, u2]) (v0 v1 v2 : Value) : Box (((U.setCell ⟨b, 0, none⟩ v0).setCell ⟨b, 1, none⟩ v1).setCell ⟨b, 2, none⟩ v2) b t #[v0, v1, v2] := ((h.set 0 v0).set 1 v1).set 2 v2
theorem Box.far3 {U : World} {b t b' : Nat} {vs : Array Value} (h : Box U b t vs) (hne : b ≠ b') (v0 v1 v2 : Value) : Box (((U.setCell ⟨b', 0, none⟩ v0).setCell ⟨b', 1, none⟩ v1).setCell ⟨b', 2, none⟩ v2) b t vs := ((h.other ⟨b', 0, none⟩ v0 hne).other ⟨b', 1, none⟩ v1 hne).other ⟨b', 2, none⟩ v2 hne

/-- How far it is: i calls made; whether the one and the other box are made. -/
structure RS (xs0 ys0 xs1 ys1 : List Int) (X V : World) (i : Nat) (j k : Bool) (pa pb g1 c1 g2 c2 g3 c3 g4 c4 : Nat) : Prop where
  bel : Below X.heap.size X V
  r1 : 1 ≤ i → (V.ownsRow X.heap.size 36 1 (.slice (some ⟨g1, 0, none⟩) (xs0.length + 3) c1) (xs0.length + 3) ((xs0 ++ marks 3).map (Value.int .u32))) ∧ (V.ownsRow X.heap.size 36 1 (.slice (some ⟨g2, 0, none⟩) (ys0.length + 3) c2) (ys0.length + 3) ((ys0 ++ marks 3).map (Value.int .u32))) ∧ X.heap.size ≤ g1 ∧ g1 < g2 ∧ g2 < V.heap.size
  r2 : 2 ≤ i → (V.ownsRow X.heap.size 36 1 (.slice (some ⟨g3, 0, none⟩) (xs1.length + 3) c3) (xs1.length + 3) ((xs1 ++ marks 3).map (Value.int .u32))) ∧ (V.ownsRow X.heap.size 36 1 (.slice (some ⟨g4, 0, none⟩) (ys1.length + 3) c4) (ys1.length + 3) ((ys1 ++ marks 3).map (Value.int .u32))) ∧ g2 < g3 ∧ g3 < g4 ∧ g4 < V.heap.size
  ba : j = true → Box V pa 26 #[.bool false, .slice none 0 0, .slice none 0 0] ∧ X.heap.size ≤ pa
  bb : k = true → Box V pb 26 #[.bool false, .slice none 0 0, .slice none 0 0] ∧ X.heap.size ≤ pb
  ne : j = true → k = true → pa ≠ pb
theorem RS.later {xs0 ys0 xs1 ys1 : List Int} {X V V' : World} {i : Nat} {j k : Bool} {pa pb g1 c1 g2 c2 g3 c3 g4 c4 : Nat} (h : RS xs0 ys0 xs1 ys1 X V i j k pa pb g1 c1 g2 c2 g3 c3 g4 c4) (hb : Below V.heap.size V V') : RS xs0 ys0 xs1 ys1 X V' i j k pa pb g1 c1 g2 c2 g3 c3 g4 c4 where
  bel := bt h.bel hb
  r1 hi := by
    obtain ⟨h1, h2, h3, h4, h5⟩ := h.r1 hi
    exact ⟨owns_later h1 hb, owns_later h2 hb, h3, h4, Nat.lt_of_lt_of_le h5 hb.size⟩
  r2 hi := by
    obtain ⟨h1, h2, h3, h4, h5⟩ := h.r2 hi
    exact ⟨owns_later h1 hb, owns_later h2 hb, h3, h4, Nat.lt_of_lt_of_le h5 hb.size⟩
  ba hj := ⟨(h.ba hj).1.later hb (h.ba hj).1.lt, (h.ba hj).2⟩
  bb hk := ⟨(h.bb hk).1.later hb (h.bb hk).1.lt, (h.bb hk).2⟩
  ne := h.ne
theorem RS.newA {xs0 ys0 xs1 ys1 : List Int} {X V : World} {i : Nat} {k : Bool} {pa pb g1 c1 g2 c2 g3 c3 g4 c4 : Nat} (h : RS xs0 ys0 xs1 ys1 X V i false k pa pb g1 c1 g2 c2 g3 c3 g4 c4) : RS xs0 ys0 xs1 ys1 X (V.alloc (.cells #[.bool false, .slice none 0 0, .slice none 0 0] 26)) i true k V.heap.size pb g1 c1 g2 c2 g3 c3 g4 c4 where
  bel := (h.later (alloc_later _ _)).bel
  r1 := (h.later (alloc_later _ _)).r1
  r2 := (h.later (alloc_later _ _)).r2
  ba _ := ⟨Box.made V _ _, h.bel.size⟩
  bb := (h.later (alloc_later _ _)).bb
  ne _ hk := fun e => by have := (h.bb hk).1.lt; omega
theorem RS.newB {xs0 ys0 xs1 ys1 : List Int} {X V : World} {i : Nat} {j : Bool} {pa pb g1 c1 g2 c2 g3 c3 g4 c4 : Nat} (h : RS xs0 ys0 xs1 ys1 X V i j false pa pb g1 c1 g2 c2 g3 c3 g4 c4) : RS xs0 ys0 xs1 ys1 X (V.alloc (.cells #[.bool false, .slice none 0 0, .slice none 0 0] 26)) i j true pa V.heap.size g1 c1 g2 c2 g3 c3 g4 c4 where
  bel := (h.later (alloc_later _ _)).bel
  r1 := (h.later (alloc_later _ _)).r1
  r2 := (h.later (alloc_later _ _)).r2
  ba := (h.later (alloc_later _ _)).ba
  bb _ := ⟨Box.made V _ _, h.bel.size⟩
  ne hj _ := fun e => by have := (h.ba hj).1.lt; omega

/-- What the statement leaves: the two boxes, the rows of the call's own. -/
def LentTwo (xs0 ys0 xs1 ys1 : List Int) (n0 n1 : Bool) (X F : World) (pa pb g1 c1 g2 c2 g3 c3 g4 c4 : Nat) : Prop :=
  Box F pa 26 #[.bool n0, .slice (some ⟨g1, 0, none⟩) xs0.length c1, .slice (some ⟨g2, 0, none⟩) ys0.length c2] ∧ Box F pb 26 #[.bool n1, .slice (some ⟨g3, 0, none⟩) xs1.length c3, .slice (some ⟨g4, 0, none⟩) ys1.length c4] ∧ (F.ownsRow X.heap.size 36 1 (.slice (some ⟨g1, 0, none⟩) (xs0.length + 3) c1) (xs0.length + 3) ((xs0 ++ marks 3).map (Value.int .u32))) ∧ (F.ownsRow X.heap.size 36 1 (.slice (some ⟨g2, 0, none⟩) (ys0.length + 3) c2) (ys0.length + 3) ((ys0 ++ marks 3).map (Value.int .u32))) ∧ (F.ownsRow X.heap.size 36 1 (.slice (some ⟨g3, 0, none⟩) (xs1.length + 3) c3) (xs1.length + 3) ((xs1 ++ marks 3).map (Value.int .u32))) ∧ (F.ownsRow X.heap.size 36 1 (.slice (some ⟨g4, 0, none⟩) (ys1.length + 3) c4) (ys1.length + 3) ((ys1 ++ marks 3).map (Value.int .u32))) ∧ X.heap.size ≤ g1 ∧ g1 < g2 ∧ g2 < g3 ∧ g3 < g4 ∧ g4 < F.heap.size ∧ Below X.heap.size X F

set_option maxHeartbeats 6400000 in
set_option maxRecDepth 100000 in
theorem tells_region (ga gb : Nat) (n0 : Bool) (a0 : Option Addr) (ca0 : Nat) (xs0 : List Int) (b0 : Option Addr) (cb0 : Nat) (ys0 : List Int) (n1 : Bool) (a1 : Option Addr) (ca1 : Nat) (xs1 : List Int) (b1 : Option Addr) (cb1 : Nat) (ys1 : List Int) (X : World) (lx0 : xs0.length ≤ 549755813888) (ly0 : ys0.length ≤ 549755813888) (lx1 : xs1.length ≤ 549755813888) (ly1 : ys1.length ≤ 549755813888)
    (HX : Hid (Box X ga 26 #[.bool n0, .slice a0 xs0.length ca0, .slice b0 ys0.length cb0] ∧ Box X gb 26 #[.bool n1, .slice a1 xs1.length ca1, .slice b1 ys1.length cb1])) (HS : Hid ((Sl X (.slice a0 xs0.length ca0) xs0 ∧ Sl X (.slice b0 ys0.length cb0) ys0) ∧ Sl X (.slice a1 xs1.length ca1) xs1 ∧ Sl X (.slice b1 ys1.length cb1) ys1))
    (t0 t1 t4 t5 t6 t7 t8 t9 t10 t11 t12 t13 t14 t15 t16 t17 t18 t19 t20 t21 t22 t23 t24 t25 t26 t27 t28 t29 t30 t31 t32 t33 t34 t35 t36 t37 t38 t39 t40 : Value) (rest : List Value) (Q : Exit → Act → World → Prop)
    (hQ : ∀ pa pb g1 c1 g2 c2 g3 c3 g4 c4 F, Hid (LentTwo xs0 ys0 xs1 ys1 n0 n1 X F pa pb g1 c1 g2 c2 g3 c3 g4 c4) → Q .normal { tmps := (List.toArray (t0 :: t1 :: (.pointer (some ⟨ga, 0, none⟩)) :: (.pointer (some ⟨gb, 0, none⟩)) :: t4 :: (.pointer (some ⟨pa, 0, none⟩)) :: (.pointer (some ⟨pb, 0, none⟩)) :: t7 :: t8 :: t9 :: t10 :: t11 :: t12 :: t13 :: t14 :: t15 :: t16 :: t17 :: t18 :: t19 :: t20 :: t21 :: t22 :: t23 :: t24 :: t25 :: t26 :: t27 :: t28 :: t29 :: t30 :: t31 :: t32 :: t33 :: t34 :: t35 :: t36 :: (.agg #[.bool n0, .slice a0 xs0.length ca0, .slice b0 ys0.length cb0]) :: (.agg #[.bool n0, .slice (some ⟨g1, 0, none⟩) xs0.length c1, .slice (some ⟨g2, 0, none⟩) ys0.length c2]) :: (.agg #[.bool n1, .slice a1 xs1.length ca1, .slice b1 ys1.length cb1]) :: (.agg #[.bool n1, .slice (some ⟨g3, 0, none⟩) xs1.length c3, .slice (some ⟨g4, 0, none⟩) ys1.length c4]) :: rest)), defers := [] } F) :
    Code.wp Try.prog (Code.region 1 #[{ dst := some 37, op := Op.load 26 (Operand.tmp 2), type := 26, pos := "law.go:26", after := #[], guard := none }, { dst := some 38, op := Op.call { callee := Callee.value (Operand.func 10), args := #[Operand.tmp 37], argTypes := #[26] }, type := 26, pos := "law.go:26", after := #[{ on := 0, ground := Ground.data }], guard := none }, { dst := some 39, op := Op.load 26 (Operand.tmp 3), type := 26, pos := "law.go:26", after := #[], guard := none }, { dst := some 40, op := Op.call { callee := Callee.value (Operand.func 10), args := #[Operand.tmp 39], argTypes := #[26] }, type := 26, pos := "law.go:26", after := #[{ on := 2, ground := Ground.data }, { on := 1, ground := Ground.chain }], guard := none }, { dst := some 5, op := Op.alloc 26, type := 0, pos := "law.go:26", after := #[], guard := none }, { dst := some 6, op := Op.alloc 26, type := 0, pos := "law.go:26", after := #[], guard := none }, { dst := none, op := Op.store 26 (Operand.tmp 5) (Operand.tmp 38), type := 0, pos := "law.go:26", after := #[{ on := 4, ground := Ground.data }, { on := 1, ground := Ground.data }, { on := 3, ground := Ground.chain }, { on := 0, ground := Ground.phase }, { on := 1, ground := Ground.phase }, { on := 2, ground := Ground.textOnly Departure.lateStores }, { on := 3, ground := Ground.textOnly Departure.lateStoresUnsure }, { on := 4, ground := Ground.phase }, { on := 5, ground := Ground.phase }], guard := none }, { dst := none, op := Op.store 26 (Operand.tmp 6) (Operand.tmp 40), type := 0, pos := "law.go:26", after := #[{ on := 5, ground := Ground.data }, { on := 3, ground := Ground.data }, { on := 6, ground := Ground.chain }, { on := 0, ground := Ground.phase }, { on := 1, ground := Ground.phase }, { on := 2, ground := Ground.phase }, { on := 3, ground := Ground.phase }, { on := 4, ground := Ground.phase }, { on := 5, ground := Ground.phase }, { on := 6, ground := Ground.phase }], guard := none }] true) Q { tmps := (List.toArray (t0 :: t1 :: (.pointer (some ⟨ga, 0, none⟩)) :: (.pointer (some ⟨gb, 0, none⟩)) :: t4 :: t5 :: t6 :: t7 :: t8 :: t9 :: t10 :: t11 :: t12 :: t13 :: t14 :: t15 :: t16 :: t17 :: t18 :: t19 :: t20 :: t21 :: t22 :: t23 :: t24 :: t25 :: t26 :: t27 :: t28 :: t29 :: t30 :: t31 :: t32 :: t33 :: t34 :: t35 :: t36 :: t37 :: t38 :: t39 :: t40 :: rest)), defers := [] } X := by
  have HQ := hid hQ
  clear hQ
  have HK : Hid (∀ V, Below X.heap.size X V → V.cell? ⟨ga, 0, none⟩ = some (.bool n0) ∧ V.cell? ⟨ga, 1, none⟩ = some (.slice a0 xs0.length ca0) ∧ V.cell? ⟨ga, 2, none⟩ = some (.slice b0 ys0.length cb0) ∧ V.cell? ⟨gb, 0, none⟩ = some (.bool n1) ∧ V.cell? ⟨gb, 1, none⟩ = some (.slice a1 xs1.length ca1) ∧ V.cell? ⟨gb, 2, none⟩ = some (.slice b1 ys1.length cb1)) := fun V hb => by
    obtain ⟨p0, p1, p2, _⟩ := res_box3 HX.out.1 hb
    obtain ⟨q0, q1, q2, _⟩ := res_box3 HX.out.2 hb
    exact ⟨p0, p1, p2, q0, q1, q2⟩
  have F211 : Hid (∀ listed, listed = #[true, true, true, true, true, true, false, false] → ∀ V pa pb g1 c1 g2 c2 g3 c3 g4 c4, Hid (RS xs0 ys0 xs1 ys1 X V 2 true true pa pb g1 c1 g2 c2 g3 c3 g4 c4) → wpAnyH Try.prog .any #[{ dst := some 37, op := Op.load 26 (Operand.tmp 2), type := 26, pos := "law.go:26", after := #[], guard := none }, { dst := some 38, op := Op.call { callee := Callee.value (Operand.func 10), args := #[Operand.tmp 37], argTypes := #[26] }, type := 26, pos := "law.go:26", after := #[{ on := 0, ground := Ground.data }], guard := none }, { dst := some 39, op := Op.load 26 (Operand.tmp 3), type := 26, pos := "law.go:26", after := #[], guard := none }, { dst := some 40, op := Op.call { callee := Callee.value (Operand.func 10), args := #[Operand.tmp 39], argTypes := #[26] }, type := 26, pos := "law.go:26", after := #[{ on := 2, ground := Ground.data }, { on := 1, ground := Ground.chain }], guard := none }, { dst := some 5, op := Op.alloc 26, type := 0, pos := "law.go:26", after := #[], guard := none }, { dst := some 6, op := Op.alloc 26, type := 0, pos := "law.go:26", after := #[], guard := none }, { dst := none, op := Op.store 26 (Operand.tmp 5) (Operand.tmp 38), type := 0, pos := "law.go:26", after := #[{ on := 4, ground := Ground.data }, { on := 1, ground := Ground.data }, { on := 3, ground := Ground.chain }, { on := 0, ground := Ground.phase }, { on := 1, ground := Ground.phase }, { on := 2, ground := Ground.textOnly Departure.lateStores }, { on := 3, ground := Ground.textOnly Departure.lateStoresUnsure }, { on := 4, ground := Ground.phase }, { on := 5, ground := Ground.phase }], guard := none }, { dst := none, op := Op.store 26 (Operand.tmp 6) (Operand.tmp 40), type := 0, pos := "law.go:26", after := #[{ on := 5, ground := Ground.data }, { on := 3, ground := Ground.data }, { on := 6, ground := Ground.chain }, { on := 0, ground := Ground.phase }, { on := 1, ground := Ground.phase }, { on := 2, ground := Ground.phase }, { on := 3, ground := Ground.phase }, { on := 4, ground := Ground.phase }, { on := 5, ground := Ground.phase }, { on := 6, ground := Ground.phase }], guard := none }] (NoPanic Q) (fun V : World => Below X.heap.size X V) 2 listed { tmps := (List.toArray (t0 :: t1 :: (.pointer (some ⟨ga, 0, none⟩)) :: (.pointer (some ⟨gb, 0, none⟩)) :: t4 :: (.pointer (some ⟨pa, 0, none⟩)) :: (.pointer (some ⟨pb, 0, none⟩)) :: t7 :: t8 :: t9 :: t10 :: t11 :: t12 :: t13 :: t14 :: t15 :: t16 :: t17 :: t18 :: t19 :: t20 :: t21 :: t22 :: t23 :: t24 :: t25 :: t26 :: t27 :: t28 :: t29 :: t30 :: t31 :: t32 :: t33 :: t34 :: t35 :: t36 :: (.agg #[.bool n0, .slice a0 xs0.length ca0, .slice b0 ys0.length cb0]) :: (.agg #[.bool n0, .slice (some ⟨g1, 0, none⟩) xs0.length c1, .slice (some ⟨g2, 0, none⟩) ys0.length c2]) :: (.agg #[.bool n1, .slice a1 xs1.length ca1, .slice b1 ys1.length cb1]) :: (.agg #[.bool n1, .slice (some ⟨g3, 0, none⟩) xs1.length c3, .slice (some ⟨g4, 0, none⟩) ys1.length c4]) :: rest)), defers := [] } V) := by
    rintro _ rfl V pa pb g1 c1 g2 c2 g3 c3 g4 c4 HR
    have hR := HR.out
    obtain ⟨h1, h2, h3, h4, h5⟩ := hR.r1 (by omega)
    obtain ⟨h6, h7, h8, h9, h10⟩ := hR.r2 (by omega)
    have hpa := (hR.ba rfl).1
    have hpb := (hR.bb rfl).1
    have lpa := (hR.ba rfl).2
    have lpb := (hR.bb rfl).2
    have hne := hR.ne rfl rfl
    have HF := hid (And.intro h1 (And.intro h2 (And.intro h6 h7)))
    have HG := hid (And.intro h3 (And.intro h4 (And.intro h8 (And.intro h9 h10))))
    have HP := hid (And.intro hpa hpb)
    have HL := hid (And.intro lpa (And.intro lpb hne))
    have HBL := hid hR.bel
    obtain ⟨y0, y1, y2, f0, f1, f2⟩ := res_box3 hpa (Below.refl _ _)
    clear h1 h2 h3 h4 h5 h6 h7 h8 h9 h10 hpa hpb lpa lpb hne hR HR
    refine wpAnyH_ready (rs := [6]) (by kernel_rfl) (by simp) ?_
    refine AllReadyH.cons (o := { dst := none, op := Op.store 26 (Operand.tmp 5) (Operand.tmp 38), type := 0, pos := "law.go:26", after := #[{ on := 4, ground := Ground.data }, { on := 1, ground := Ground.data }, { on := 3, ground := Ground.chain }, { on := 0, ground := Ground.phase }, { on := 1, ground := Ground.phase }, { on := 2, ground := Ground.textOnly Departure.lateStores }, { on := 3, ground := Ground.textOnly Departure.lateStoresUnsure }, { on := 4, ground := Ground.phase }, { on := 5, ground := Ground.phase }], guard := none }) rfl (fun K hK => ?_) AllReadyH.nil
    go_simp
    refine hK.out _ _ ?_ (fun hHeld => ?_)
    · exact below_put3 HBL.out _ HL.out.1 _ _ _
    clear hK K y0 y1 y2 f0 f1 f2 hHeld
    try simp only [List.setIfInBounds_toArray, List.set_cons_zero, List.set_cons_succ]
    have HU : Hid (LentTwo xs0 ys0 xs1 ys1 n0 n1 X (((((V.setCell ⟨pa, 0, none⟩ (.bool n0)).setCell ⟨pa, 1, none⟩ (.slice (some ⟨g1, 0, none⟩) xs0.length c1)).setCell ⟨pa, 2, none⟩ (.slice (some ⟨g2, 0, none⟩) ys0.length c2)).setCell ⟨pb, 0, none⟩ (.bool n1)).setCell ⟨pb, 1, none⟩ (.slice (some ⟨g3, 0, none⟩) xs1.length c3) |>.setCell ⟨pb, 2, none⟩ (.slice (some ⟨g4, 0, none⟩) ys1.length c4)) pa pb g1 c1 g2 c2 g3 c3 g4 c4) := by
      have hv := HP.out.1.put3 (.bool n0) (.slice (some ⟨g1, 0, none⟩) xs0.length c1) (.slice (some ⟨g2, 0, none⟩) ys0.length c2)
      have hu := HP.out.2.far3 (Ne.symm HL.out.2.2) (.bool n0) (.slice (some ⟨g1, 0, none⟩) xs0.length c1) (.slice (some ⟨g2, 0, none⟩) ys0.length c2)
      have o1 := own_put3 HF.out.1 pa (own_ne_box HF.out.1 HP.out.1 (by decide)) (.bool n0) (.slice (some ⟨g1, 0, none⟩) xs0.length c1) (.slice (some ⟨g2, 0, none⟩) ys0.length c2)
      have o2 := own_put3 HF.out.2.1 pa (own_ne_box HF.out.2.1 HP.out.1 (by decide)) (.bool n0) (.slice (some ⟨g1, 0, none⟩) xs0.length c1) (.slice (some ⟨g2, 0, none⟩) ys0.length c2)
      have o3 := own_put3 HF.out.2.2.1 pa (own_ne_box HF.out.2.2.1 HP.out.1 (by decide)) (.bool n0) (.slice (some ⟨g1, 0, none⟩) xs0.length c1) (.slice (some ⟨g2, 0, none⟩) ys0.length c2)
      have o4 := own_put3 HF.out.2.2.2 pa (own_ne_box HF.out.2.2.2 HP.out.1 (by decide)) (.bool n0) (.slice (some ⟨g1, 0, none⟩) xs0.length c1) (.slice (some ⟨g2, 0, none⟩) ys0.length c2)
      exact ⟨hv.far3 HL.out.2.2 _ _ _, hu.put3 _ _ _, own_put3 o1 pb (own_ne_box o1 hu (by decide)) _ _ _, own_put3 o2 pb (own_ne_box o2 hu (by decide)) _ _ _, own_put3 o3 pb (own_ne_box o3 hu (by decide)) _ _ _, own_put3 o4 pb (own_ne_box o4 hu (by decide)) _ _ _, HG.out.1, HG.out.2.1, HG.out.2.2.1, HG.out.2.2.2.1, by simp [World.setCell]; exact HG.out.2.2.2.2, below_put3 (below_put3 HBL.out _ HL.out.1 _ _ _) _ HL.out.2.1 _ _ _⟩
    have hB2 := HP.out.2.far3 (Ne.symm HL.out.2.2) (.bool n0) (.slice (some ⟨g1, 0, none⟩) xs0.length c1) (.slice (some ⟨g2, 0, none⟩) ys0.length c2)
    obtain ⟨y0, y1, y2, f0, f1, f2⟩ := res_box3 hB2 (Below.refl _ _)
    have HB3 := hid (below_put3 HBL.out pa HL.out.1 (.bool n0) (.slice (some ⟨g1, 0, none⟩) xs0.length c1) (.slice (some ⟨g2, 0, none⟩) ys0.length c2))
    clear hB2
    generalize ((V.setCell ⟨pa, 0, none⟩ (.bool n0)).setCell ⟨pa, 1, none⟩ (.slice (some ⟨g1, 0, none⟩) xs0.length c1)).setCell ⟨pa, 2, none⟩ (.slice (some ⟨g2, 0, none⟩) ys0.length c2) = V2 at *
    refine wpAnyH_ready (rs := [7]) (by kernel_rfl) (by simp) ?_
    refine AllReadyH.cons (o := { dst := none, op := Op.store 26 (Operand.tmp 6) (Operand.tmp 40), type := 0, pos := "law.go:26", after := #[{ on := 5, ground := Ground.data }, { on := 3, ground := Ground.data }, { on := 6, ground := Ground.chain }, { on := 0, ground := Ground.phase }, { on := 1, ground := Ground.phase }, { on := 2, ground := Ground.phase }, { on := 3, ground := Ground.phase }, { on := 4, ground := Ground.phase }, { on := 5, ground := Ground.phase }, { on := 6, ground := Ground.phase }], guard := none }) rfl (fun K hK => ?_) AllReadyH.nil
    go_simp
    refine hK.out _ _ ?_ (fun hHeld => ?_)
    · exact below_put3 HB3.out _ HL.out.2.1 _ _ _
    clear hK K
    try simp only [List.setIfInBounds_toArray, List.set_cons_zero, List.set_cons_succ]
    refine wpAnyH_done (by kernel_rfl) ?_ _
    refine NoPanic.normal ?_
    exact HQ.out pa pb g1 c1 g2 c2 g3 c3 g4 c4 _ HU
  have F210 : Hid (∀ listed, listed = #[true, true, true, true, true, false, false, false] → ∀ V pa pb g1 c1 g2 c2 g3 c3 g4 c4, Hid (RS xs0 ys0 xs1 ys1 X V 2 true false pa pb g1 c1 g2 c2 g3 c3 g4 c4) → wpAnyH Try.prog .any #[{ dst := some 37, op := Op.load 26 (Operand.tmp 2), type := 26, pos := "law.go:26", after := #[], guard := none }, { dst := some 38, op := Op.call { callee := Callee.value (Operand.func 10), args := #[Operand.tmp 37], argTypes := #[26] }, type := 26, pos := "law.go:26", after := #[{ on := 0, ground := Ground.data }], guard := none }, { dst := some 39, op := Op.load 26 (Operand.tmp 3), type := 26, pos := "law.go:26", after := #[], guard := none }, { dst := some 40, op := Op.call { callee := Callee.value (Operand.func 10), args := #[Operand.tmp 39], argTypes := #[26] }, type := 26, pos := "law.go:26", after := #[{ on := 2, ground := Ground.data }, { on := 1, ground := Ground.chain }], guard := none }, { dst := some 5, op := Op.alloc 26, type := 0, pos := "law.go:26", after := #[], guard := none }, { dst := some 6, op := Op.alloc 26, type := 0, pos := "law.go:26", after := #[], guard := none }, { dst := none, op := Op.store 26 (Operand.tmp 5) (Operand.tmp 38), type := 0, pos := "law.go:26", after := #[{ on := 4, ground := Ground.data }, { on := 1, ground := Ground.data }, { on := 3, ground := Ground.chain }, { on := 0, ground := Ground.phase }, { on := 1, ground := Ground.phase }, { on := 2, ground := Ground.textOnly Departure.lateStores }, { on := 3, ground := Ground.textOnly Departure.lateStoresUnsure }, { on := 4, ground := Ground.phase }, { on := 5, ground := Ground.phase }], guard := none }, { dst := none, op := Op.store 26 (Operand.tmp 6) (Operand.tmp 40), type := 0, pos := "law.go:26", after := #[{ on := 5, ground := Ground.data }, { on := 3, ground := Ground.data }, { on := 6, ground := Ground.chain }, { on := 0, ground := Ground.phase }, { on := 1, ground := Ground.phase }, { on := 2, ground := Ground.phase }, { on := 3, ground := Ground.phase }, { on := 4, ground := Ground.phase }, { on := 5, ground := Ground.phase }, { on := 6, ground := Ground.phase }], guard := none }] (NoPanic Q) (fun V : World => Below X.heap.size X V) 3 listed { tmps := (List.toArray (t0 :: t1 :: (.pointer (some ⟨ga, 0, none⟩)) :: (.pointer (some ⟨gb, 0, none⟩)) :: t4 :: (.pointer (some ⟨pa, 0, none⟩)) :: t6 :: t7 :: t8 :: t9 :: t10 :: t11 :: t12 :: t13 :: t14 :: t15 :: t16 :: t17 :: t18 :: t19 :: t20 :: t21 :: t22 :: t23 :: t24 :: t25 :: t26 :: t27 :: t28 :: t29 :: t30 :: t31 :: t32 :: t33 :: t34 :: t35 :: t36 :: (.agg #[.bool n0, .slice a0 xs0.length ca0, .slice b0 ys0.length cb0]) :: (.agg #[.bool n0, .slice (some ⟨g1, 0, none⟩) xs0.length c1, .slice (some ⟨g2, 0, none⟩) ys0.length c2]) :: (.agg #[.bool n1, .slice a1 xs1.length ca1, .slice b1 ys1.length cb1]) :: (.agg #[.bool n1, .slice (some ⟨g3, 0, none⟩) xs1.length c3, .slice (some ⟨g4, 0, none⟩) ys1.length c4]) :: rest)), defers := [] } V) := by
    rintro _ rfl V pa pb g1 c1 g2 c2 g3 c3 g4 c4 HR
    refine wpAnyH_ready (rs := [5]) (by kernel_rfl) (by simp) ?_
    refine AllReadyH.cons (o := { dst := some 6, op := Op.alloc 26, type := 0, pos := "law.go:26", after := #[], guard := none }) rfl (fun K hK => ?_) ?_
    · go_simp
      have HR2 := hid HR.out.newB
      refine hK.out _ _ ?_ (fun hHeld => ?_)
      · exact HR2.out.bel
      clear hK K
      try simp only [List.setIfInBounds_toArray, List.set_cons_zero, List.set_cons_succ]
      exact F211.out _ (by kernel_rfl) _ pa V.heap.size g1 c1 g2 c2 g3 c3 g4 c4 HR2
    exact AllReadyH.nil
  have F201 : Hid (∀ listed, listed = #[true, true, true, true, false, true, false, false] → ∀ V pa pb g1 c1 g2 c2 g3 c3 g4 c4, Hid (RS xs0 ys0 xs1 ys1 X V 2 false true pa pb g1 c1 g2 c2 g3 c3 g4 c4) → wpAnyH Try.prog .any #[{ dst := some 37, op := Op.load 26 (Operand.tmp 2), type := 26, pos := "law.go:26", after := #[], guard := none }, { dst := some 38, op := Op.call { callee := Callee.value (Operand.func 10), args := #[Operand.tmp 37], argTypes := #[26] }, type := 26, pos := "law.go:26", after := #[{ on := 0, ground := Ground.data }], guard := none }, { dst := some 39, op := Op.load 26 (Operand.tmp 3), type := 26, pos := "law.go:26", after := #[], guard := none }, { dst := some 40, op := Op.call { callee := Callee.value (Operand.func 10), args := #[Operand.tmp 39], argTypes := #[26] }, type := 26, pos := "law.go:26", after := #[{ on := 2, ground := Ground.data }, { on := 1, ground := Ground.chain }], guard := none }, { dst := some 5, op := Op.alloc 26, type := 0, pos := "law.go:26", after := #[], guard := none }, { dst := some 6, op := Op.alloc 26, type := 0, pos := "law.go:26", after := #[], guard := none }, { dst := none, op := Op.store 26 (Operand.tmp 5) (Operand.tmp 38), type := 0, pos := "law.go:26", after := #[{ on := 4, ground := Ground.data }, { on := 1, ground := Ground.data }, { on := 3, ground := Ground.chain }, { on := 0, ground := Ground.phase }, { on := 1, ground := Ground.phase }, { on := 2, ground := Ground.textOnly Departure.lateStores }, { on := 3, ground := Ground.textOnly Departure.lateStoresUnsure }, { on := 4, ground := Ground.phase }, { on := 5, ground := Ground.phase }], guard := none }, { dst := none, op := Op.store 26 (Operand.tmp 6) (Operand.tmp 40), type := 0, pos := "law.go:26", after := #[{ on := 5, ground := Ground.data }, { on := 3, ground := Ground.data }, { on := 6, ground := Ground.chain }, { on := 0, ground := Ground.phase }, { on := 1, ground := Ground.phase }, { on := 2, ground := Ground.phase }, { on := 3, ground := Ground.phase }, { on := 4, ground := Ground.phase }, { on := 5, ground := Ground.phase }, { on := 6, ground := Ground.phase }], guard := none }] (NoPanic Q) (fun V : World => Below X.heap.size X V) 3 listed { tmps := (List.toArray (t0 :: t1 :: (.pointer (some ⟨ga, 0, none⟩)) :: (.pointer (some ⟨gb, 0, none⟩)) :: t4 :: t5 :: (.pointer (some ⟨pb, 0, none⟩)) :: t7 :: t8 :: t9 :: t10 :: t11 :: t12 :: t13 :: t14 :: t15 :: t16 :: t17 :: t18 :: t19 :: t20 :: t21 :: t22 :: t23 :: t24 :: t25 :: t26 :: t27 :: t28 :: t29 :: t30 :: t31 :: t32 :: t33 :: t34 :: t35 :: t36 :: (.agg #[.bool n0, .slice a0 xs0.length ca0, .slice b0 ys0.length cb0]) :: (.agg #[.bool n0, .slice (some ⟨g1, 0, none⟩) xs0.length c1, .slice (some ⟨g2, 0, none⟩) ys0.length c2]) :: (.agg #[.bool n1, .slice a1 xs1.length ca1, .slice b1 ys1.length cb1]) :: (.agg #[.bool n1, .slice (some ⟨g3, 0, none⟩) xs1.length c3, .slice (some ⟨g4, 0, none⟩) ys1.length c4]) :: rest)), defers := [] } V) := by
    rintro _ rfl V pa pb g1 c1 g2 c2 g3 c3 g4 c4 HR
    refine wpAnyH_ready (rs := [4]) (by kernel_rfl) (by simp) ?_
    refine AllReadyH.cons (o := { dst := some 5, op := Op.alloc 26, type := 0, pos := "law.go:26", after := #[], guard := none }) rfl (fun K hK => ?_) ?_
    · go_simp
      have HR2 := hid HR.out.newA
      refine hK.out _ _ ?_ (fun hHeld => ?_)
      · exact HR2.out.bel
      clear hK K
      try simp only [List.setIfInBounds_toArray, List.set_cons_zero, List.set_cons_succ]
      exact F211.out _ (by kernel_rfl) _ V.heap.size pb g1 c1 g2 c2 g3 c3 g4 c4 HR2
    exact AllReadyH.nil
  have F200 : Hid (∀ listed, listed = #[true, true, true, true, false, false, false, false] → ∀ V pa pb g1 c1 g2 c2 g3 c3 g4 c4, Hid (RS xs0 ys0 xs1 ys1 X V 2 false false pa pb g1 c1 g2 c2 g3 c3 g4 c4) → wpAnyH Try.prog .any #[{ dst := some 37, op := Op.load 26 (Operand.tmp 2), type := 26, pos := "law.go:26", after := #[], guard := none }, { dst := some 38, op := Op.call { callee := Callee.value (Operand.func 10), args := #[Operand.tmp 37], argTypes := #[26] }, type := 26, pos := "law.go:26", after := #[{ on := 0, ground := Ground.data }], guard := none }, { dst := some 39, op := Op.load 26 (Operand.tmp 3), type := 26, pos := "law.go:26", after := #[], guard := none }, { dst := some 40, op := Op.call { callee := Callee.value (Operand.func 10), args := #[Operand.tmp 39], argTypes := #[26] }, type := 26, pos := "law.go:26", after := #[{ on := 2, ground := Ground.data }, { on := 1, ground := Ground.chain }], guard := none }, { dst := some 5, op := Op.alloc 26, type := 0, pos := "law.go:26", after := #[], guard := none }, { dst := some 6, op := Op.alloc 26, type := 0, pos := "law.go:26", after := #[], guard := none }, { dst := none, op := Op.store 26 (Operand.tmp 5) (Operand.tmp 38), type := 0, pos := "law.go:26", after := #[{ on := 4, ground := Ground.data }, { on := 1, ground := Ground.data }, { on := 3, ground := Ground.chain }, { on := 0, ground := Ground.phase }, { on := 1, ground := Ground.phase }, { on := 2, ground := Ground.textOnly Departure.lateStores }, { on := 3, ground := Ground.textOnly Departure.lateStoresUnsure }, { on := 4, ground := Ground.phase }, { on := 5, ground := Ground.phase }], guard := none }, { dst := none, op := Op.store 26 (Operand.tmp 6) (Operand.tmp 40), type := 0, pos := "law.go:26", after := #[{ on := 5, ground := Ground.data }, { on := 3, ground := Ground.data }, { on := 6, ground := Ground.chain }, { on := 0, ground := Ground.phase }, { on := 1, ground := Ground.phase }, { on := 2, ground := Ground.phase }, { on := 3, ground := Ground.phase }, { on := 4, ground := Ground.phase }, { on := 5, ground := Ground.phase }, { on := 6, ground := Ground.phase }], guard := none }] (NoPanic Q) (fun V : World => Below X.heap.size X V) 4 listed { tmps := (List.toArray (t0 :: t1 :: (.pointer (some ⟨ga, 0, none⟩)) :: (.pointer (some ⟨gb, 0, none⟩)) :: t4 :: t5 :: t6 :: t7 :: t8 :: t9 :: t10 :: t11 :: t12 :: t13 :: t14 :: t15 :: t16 :: t17 :: t18 :: t19 :: t20 :: t21 :: t22 :: t23 :: t24 :: t25 :: t26 :: t27 :: t28 :: t29 :: t30 :: t31 :: t32 :: t33 :: t34 :: t35 :: t36 :: (.agg #[.bool n0, .slice a0 xs0.length ca0, .slice b0 ys0.length cb0]) :: (.agg #[.bool n0, .slice (some ⟨g1, 0, none⟩) xs0.length c1, .slice (some ⟨g2, 0, none⟩) ys0.length c2]) :: (.agg #[.bool n1, .slice a1 xs1.length ca1, .slice b1 ys1.length cb1]) :: (.agg #[.bool n1, .slice (some ⟨g3, 0, none⟩) xs1.length c3, .slice (some ⟨g4, 0, none⟩) ys1.length c4]) :: rest)), defers := [] } V) := by
    rintro _ rfl V pa pb g1 c1 g2 c2 g3 c3 g4 c4 HR
    refine wpAnyH_ready (rs := [4, 5]) (by kernel_rfl) (by simp) ?_
    refine AllReadyH.cons (o := { dst := some 5, op := Op.alloc 26, type := 0, pos := "law.go:26", after := #[], guard := none }) rfl (fun K hK => ?_) ?_
    · go_simp
      have HR2 := hid HR.out.newA
      refine hK.out _ _ ?_ (fun hHeld => ?_)
      · exact HR2.out.bel
      clear hK K
      try simp only [List.setIfInBounds_toArray, List.set_cons_zero, List.set_cons_succ]
      exact F210.out _ (by kernel_rfl) _ V.heap.size pb g1 c1 g2 c2 g3 c3 g4 c4 HR2
    refine AllReadyH.cons (o := { dst := some 6, op := Op.alloc 26, type := 0, pos := "law.go:26", after := #[], guard := none }) rfl (fun K hK => ?_) ?_
    · go_simp
      have HR2 := hid HR.out.newB
      refine hK.out _ _ ?_ (fun hHeld => ?_)
      · exact HR2.out.bel
      clear hK K
      try simp only [List.setIfInBounds_toArray, List.set_cons_zero, List.set_cons_succ]
      exact F201.out _ (by kernel_rfl) _ pa V.heap.size g1 c1 g2 c2 g3 c3 g4 c4 HR2
    exact AllReadyH.nil
  have F111 : Hid (∀ listed, listed = #[true, true, true, false, true, true, false, false] → ∀ V pa pb g1 c1 g2 c2 g3 c3 g4 c4, Hid (RS xs0 ys0 xs1 ys1 X V 1 true true pa pb g1 c1 g2 c2 g3 c3 g4 c4) → wpAnyH Try.prog .any #[{ dst := some 37, op := Op.load 26 (Operand.tmp 2), type := 26, pos := "law.go:26", after := #[], guard := none }, { dst := some 38, op := Op.call { callee := Callee.value (Operand.func 10), args := #[Operand.tmp 37], argTypes := #[26] }, type := 26, pos := "law.go:26", after := #[{ on := 0, ground := Ground.data }], guard := none }, { dst := some 39, op := Op.load 26 (Operand.tmp 3), type := 26, pos := "law.go:26", after := #[], guard := none }, { dst := some 40, op := Op.call { callee := Callee.value (Operand.func 10), args := #[Operand.tmp 39], argTypes := #[26] }, type := 26, pos := "law.go:26", after := #[{ on := 2, ground := Ground.data }, { on := 1, ground := Ground.chain }], guard := none }, { dst := some 5, op := Op.alloc 26, type := 0, pos := "law.go:26", after := #[], guard := none }, { dst := some 6, op := Op.alloc 26, type := 0, pos := "law.go:26", after := #[], guard := none }, { dst := none, op := Op.store 26 (Operand.tmp 5) (Operand.tmp 38), type := 0, pos := "law.go:26", after := #[{ on := 4, ground := Ground.data }, { on := 1, ground := Ground.data }, { on := 3, ground := Ground.chain }, { on := 0, ground := Ground.phase }, { on := 1, ground := Ground.phase }, { on := 2, ground := Ground.textOnly Departure.lateStores }, { on := 3, ground := Ground.textOnly Departure.lateStoresUnsure }, { on := 4, ground := Ground.phase }, { on := 5, ground := Ground.phase }], guard := none }, { dst := none, op := Op.store 26 (Operand.tmp 6) (Operand.tmp 40), type := 0, pos := "law.go:26", after := #[{ on := 5, ground := Ground.data }, { on := 3, ground := Ground.data }, { on := 6, ground := Ground.chain }, { on := 0, ground := Ground.phase }, { on := 1, ground := Ground.phase }, { on := 2, ground := Ground.phase }, { on := 3, ground := Ground.phase }, { on := 4, ground := Ground.phase }, { on := 5, ground := Ground.phase }, { on := 6, ground := Ground.phase }], guard := none }] (NoPanic Q) (fun V : World => Below X.heap.size X V) 3 listed { tmps := (List.toArray (t0 :: t1 :: (.pointer (some ⟨ga, 0, none⟩)) :: (.pointer (some ⟨gb, 0, none⟩)) :: t4 :: (.pointer (some ⟨pa, 0, none⟩)) :: (.pointer (some ⟨pb, 0, none⟩)) :: t7 :: t8 :: t9 :: t10 :: t11 :: t12 :: t13 :: t14 :: t15 :: t16 :: t17 :: t18 :: t19 :: t20 :: t21 :: t22 :: t23 :: t24 :: t25 :: t26 :: t27 :: t28 :: t29 :: t30 :: t31 :: t32 :: t33 :: t34 :: t35 :: t36 :: (.agg #[.bool n0, .slice a0 xs0.length ca0, .slice b0 ys0.length cb0]) :: (.agg #[.bool n0, .slice (some ⟨g1, 0, none⟩) xs0.length c1, .slice (some ⟨g2, 0, none⟩) ys0.length c2]) :: (.agg #[.bool n1, .slice a1 xs1.length ca1, .slice b1 ys1.length cb1]) :: t40 :: rest)), defers := [] } V) := by
    rintro _ rfl V pa pb g1 c1 g2 c2 g3 c3 g4 c4 HR
    refine wpAnyH_ready (rs := [3]) (by kernel_rfl) (by simp) ?_
    refine AllReadyH.cons (o := { dst := some 40, op := Op.call { callee := Callee.value (Operand.func 10), args := #[Operand.tmp 39], argTypes := #[26] }, type := 26, pos := "law.go:26", after := #[{ on := 2, ground := Ground.data }, { on := 1, ground := Ground.chain }], guard := none }) rfl (fun K hK => ?_) ?_
    · go_simp
      refine Calls.mono (lentRatio_any n1 a1 ca1 xs1 b1 cb1 ys1 V (HS.out.2.1.later HR.out.bel) (HS.out.2.2.later HR.out.bel) (by omega) (by omega)) ?_
      rintro e V' ⟨h3, d3, h4, d4, rfl, oa, ob, hg, hb⟩
      dsimp only
      have HR2 := hid (HR.out.later hb)
      refine hK.out _ _ ?_ (fun hHeld => ?_)
      · exact HR2.out.bel
      clear hK K
      try simp only [List.setIfInBounds_toArray, List.set_cons_zero, List.set_cons_succ]
      exact F211.out _ (by kernel_rfl) V' pa pb g1 c1 g2 c2 h3 d3 h4 d4 ⟨HR2.out.bel, fun h => HR2.out.r1 (by omega), fun _ => ⟨owns_base oa HR.out.bel.size, owns_base ob HR.out.bel.size, Nat.lt_of_lt_of_le (HR.out.r1 (by omega)).2.2.2.2 (oa.lt h3 rfl).1, hg, (ob.lt h4 rfl).2⟩, HR2.out.ba, HR2.out.bb, HR2.out.ne⟩
    exact AllReadyH.nil
  have F110 : Hid (∀ listed, listed = #[true, true, true, false, true, false, false, false] → ∀ V pa pb g1 c1 g2 c2 g3 c3 g4 c4, Hid (RS xs0 ys0 xs1 ys1 X V 1 true false pa pb g1 c1 g2 c2 g3 c3 g4 c4) → wpAnyH Try.prog .any #[{ dst := some 37, op := Op.load 26 (Operand.tmp 2), type := 26, pos := "law.go:26", after := #[], guard := none }, { dst := some 38, op := Op.call { callee := Callee.value (Operand.func 10), args := #[Operand.tmp 37], argTypes := #[26] }, type := 26, pos := "law.go:26", after := #[{ on := 0, ground := Ground.data }], guard := none }, { dst := some 39, op := Op.load 26 (Operand.tmp 3), type := 26, pos := "law.go:26", after := #[], guard := none }, { dst := some 40, op := Op.call { callee := Callee.value (Operand.func 10), args := #[Operand.tmp 39], argTypes := #[26] }, type := 26, pos := "law.go:26", after := #[{ on := 2, ground := Ground.data }, { on := 1, ground := Ground.chain }], guard := none }, { dst := some 5, op := Op.alloc 26, type := 0, pos := "law.go:26", after := #[], guard := none }, { dst := some 6, op := Op.alloc 26, type := 0, pos := "law.go:26", after := #[], guard := none }, { dst := none, op := Op.store 26 (Operand.tmp 5) (Operand.tmp 38), type := 0, pos := "law.go:26", after := #[{ on := 4, ground := Ground.data }, { on := 1, ground := Ground.data }, { on := 3, ground := Ground.chain }, { on := 0, ground := Ground.phase }, { on := 1, ground := Ground.phase }, { on := 2, ground := Ground.textOnly Departure.lateStores }, { on := 3, ground := Ground.textOnly Departure.lateStoresUnsure }, { on := 4, ground := Ground.phase }, { on := 5, ground := Ground.phase }], guard := none }, { dst := none, op := Op.store 26 (Operand.tmp 6) (Operand.tmp 40), type := 0, pos := "law.go:26", after := #[{ on := 5, ground := Ground.data }, { on := 3, ground := Ground.data }, { on := 6, ground := Ground.chain }, { on := 0, ground := Ground.phase }, { on := 1, ground := Ground.phase }, { on := 2, ground := Ground.phase }, { on := 3, ground := Ground.phase }, { on := 4, ground := Ground.phase }, { on := 5, ground := Ground.phase }, { on := 6, ground := Ground.phase }], guard := none }] (NoPanic Q) (fun V : World => Below X.heap.size X V) 4 listed { tmps := (List.toArray (t0 :: t1 :: (.pointer (some ⟨ga, 0, none⟩)) :: (.pointer (some ⟨gb, 0, none⟩)) :: t4 :: (.pointer (some ⟨pa, 0, none⟩)) :: t6 :: t7 :: t8 :: t9 :: t10 :: t11 :: t12 :: t13 :: t14 :: t15 :: t16 :: t17 :: t18 :: t19 :: t20 :: t21 :: t22 :: t23 :: t24 :: t25 :: t26 :: t27 :: t28 :: t29 :: t30 :: t31 :: t32 :: t33 :: t34 :: t35 :: t36 :: (.agg #[.bool n0, .slice a0 xs0.length ca0, .slice b0 ys0.length cb0]) :: (.agg #[.bool n0, .slice (some ⟨g1, 0, none⟩) xs0.length c1, .slice (some ⟨g2, 0, none⟩) ys0.length c2]) :: (.agg #[.bool n1, .slice a1 xs1.length ca1, .slice b1 ys1.length cb1]) :: t40 :: rest)), defers := [] } V) := by
    rintro _ rfl V pa pb g1 c1 g2 c2 g3 c3 g4 c4 HR
    refine wpAnyH_ready (rs := [3, 5]) (by kernel_rfl) (by simp) ?_
    refine AllReadyH.cons (o := { dst := some 40, op := Op.call { callee := Callee.value (Operand.func 10), args := #[Operand.tmp 39], argTypes := #[26] }, type := 26, pos := "law.go:26", after := #[{ on := 2, ground := Ground.data }, { on := 1, ground := Ground.chain }], guard := none }) rfl (fun K hK => ?_) ?_
    · go_simp
      refine Calls.mono (lentRatio_any n1 a1 ca1 xs1 b1 cb1 ys1 V (HS.out.2.1.later HR.out.bel) (HS.out.2.2.later HR.out.bel) (by omega) (by omega)) ?_
      rintro e V' ⟨h3, d3, h4, d4, rfl, oa, ob, hg, hb⟩
      dsimp only
      have HR2 := hid (HR.out.later hb)
      refine hK.out _ _ ?_ (fun hHeld => ?_)
      · exact HR2.out.bel
      clear hK K
      try simp only [List.setIfInBounds_toArray, List.set_cons_zero, List.set_cons_succ]
      exact F210.out _ (by kernel_rfl) V' pa pb g1 c1 g2 c2 h3 d3 h4 d4 ⟨HR2.out.bel, fun h => HR2.out.r1 (by omega), fun _ => ⟨owns_base oa HR.out.bel.size, owns_base ob HR.out.bel.size, Nat.lt_of_lt_of_le (HR.out.r1 (by omega)).2.2.2.2 (oa.lt h3 rfl).1, hg, (ob.lt h4 rfl).2⟩, HR2.out.ba, HR2.out.bb, HR2.out.ne⟩
    refine AllReadyH.cons (o := { dst := some 6, op := Op.alloc 26, type := 0, pos := "law.go:26", after := #[], guard := none }) rfl (fun K hK => ?_) ?_
    · go_simp
      have HR2 := hid HR.out.newB
      refine hK.out _ _ ?_ (fun hHeld => ?_)
      · exact HR2.out.bel
      clear hK K
      try simp only [List.setIfInBounds_toArray, List.set_cons_zero, List.set_cons_succ]
      exact F111.out _ (by kernel_rfl) _ pa V.heap.size g1 c1 g2 c2 g3 c3 g4 c4 HR2
    exact AllReadyH.nil
  have F101 : Hid (∀ listed, listed = #[true, true, true, false, false, true, false, false] → ∀ V pa pb g1 c1 g2 c2 g3 c3 g4 c4, Hid (RS xs0 ys0 xs1 ys1 X V 1 false true pa pb g1 c1 g2 c2 g3 c3 g4 c4) → wpAnyH Try.prog .any #[{ dst := some 37, op := Op.load 26 (Operand.tmp 2), type := 26, pos := "law.go:26", after := #[], guard := none }, { dst := some 38, op := Op.call { callee := Callee.value (Operand.func 10), args := #[Operand.tmp 37], argTypes := #[26] }, type := 26, pos := "law.go:26", after := #[{ on := 0, ground := Ground.data }], guard := none }, { dst := some 39, op := Op.load 26 (Operand.tmp 3), type := 26, pos := "law.go:26", after := #[], guard := none }, { dst := some 40, op := Op.call { callee := Callee.value (Operand.func 10), args := #[Operand.tmp 39], argTypes := #[26] }, type := 26, pos := "law.go:26", after := #[{ on := 2, ground := Ground.data }, { on := 1, ground := Ground.chain }], guard := none }, { dst := some 5, op := Op.alloc 26, type := 0, pos := "law.go:26", after := #[], guard := none }, { dst := some 6, op := Op.alloc 26, type := 0, pos := "law.go:26", after := #[], guard := none }, { dst := none, op := Op.store 26 (Operand.tmp 5) (Operand.tmp 38), type := 0, pos := "law.go:26", after := #[{ on := 4, ground := Ground.data }, { on := 1, ground := Ground.data }, { on := 3, ground := Ground.chain }, { on := 0, ground := Ground.phase }, { on := 1, ground := Ground.phase }, { on := 2, ground := Ground.textOnly Departure.lateStores }, { on := 3, ground := Ground.textOnly Departure.lateStoresUnsure }, { on := 4, ground := Ground.phase }, { on := 5, ground := Ground.phase }], guard := none }, { dst := none, op := Op.store 26 (Operand.tmp 6) (Operand.tmp 40), type := 0, pos := "law.go:26", after := #[{ on := 5, ground := Ground.data }, { on := 3, ground := Ground.data }, { on := 6, ground := Ground.chain }, { on := 0, ground := Ground.phase }, { on := 1, ground := Ground.phase }, { on := 2, ground := Ground.phase }, { on := 3, ground := Ground.phase }, { on := 4, ground := Ground.phase }, { on := 5, ground := Ground.phase }, { on := 6, ground := Ground.phase }], guard := none }] (NoPanic Q) (fun V : World => Below X.heap.size X V) 4 listed { tmps := (List.toArray (t0 :: t1 :: (.pointer (some ⟨ga, 0, none⟩)) :: (.pointer (some ⟨gb, 0, none⟩)) :: t4 :: t5 :: (.pointer (some ⟨pb, 0, none⟩)) :: t7 :: t8 :: t9 :: t10 :: t11 :: t12 :: t13 :: t14 :: t15 :: t16 :: t17 :: t18 :: t19 :: t20 :: t21 :: t22 :: t23 :: t24 :: t25 :: t26 :: t27 :: t28 :: t29 :: t30 :: t31 :: t32 :: t33 :: t34 :: t35 :: t36 :: (.agg #[.bool n0, .slice a0 xs0.length ca0, .slice b0 ys0.length cb0]) :: (.agg #[.bool n0, .slice (some ⟨g1, 0, none⟩) xs0.length c1, .slice (some ⟨g2, 0, none⟩) ys0.length c2]) :: (.agg #[.bool n1, .slice a1 xs1.length ca1, .slice b1 ys1.length cb1]) :: t40 :: rest)), defers := [] } V) := by
    rintro _ rfl V pa pb g1 c1 g2 c2 g3 c3 g4 c4 HR
    refine wpAnyH_ready (rs := [3, 4]) (by kernel_rfl) (by simp) ?_
    refine AllReadyH.cons (o := { dst := some 40, op := Op.call { callee := Callee.value (Operand.func 10), args := #[Operand.tmp 39], argTypes := #[26] }, type := 26, pos := "law.go:26", after := #[{ on := 2, ground := Ground.data }, { on := 1, ground := Ground.chain }], guard := none }) rfl (fun K hK => ?_) ?_
    · go_simp
      refine Calls.mono (lentRatio_any n1 a1 ca1 xs1 b1 cb1 ys1 V (HS.out.2.1.later HR.out.bel) (HS.out.2.2.later HR.out.bel) (by omega) (by omega)) ?_
      rintro e V' ⟨h3, d3, h4, d4, rfl, oa, ob, hg, hb⟩
      dsimp only
      have HR2 := hid (HR.out.later hb)
      refine hK.out _ _ ?_ (fun hHeld => ?_)
      · exact HR2.out.bel
      clear hK K
      try simp only [List.setIfInBounds_toArray, List.set_cons_zero, List.set_cons_succ]
      exact F201.out _ (by kernel_rfl) V' pa pb g1 c1 g2 c2 h3 d3 h4 d4 ⟨HR2.out.bel, fun h => HR2.out.r1 (by omega), fun _ => ⟨owns_base oa HR.out.bel.size, owns_base ob HR.out.bel.size, Nat.lt_of_lt_of_le (HR.out.r1 (by omega)).2.2.2.2 (oa.lt h3 rfl).1, hg, (ob.lt h4 rfl).2⟩, HR2.out.ba, HR2.out.bb, HR2.out.ne⟩
    refine AllReadyH.cons (o := { dst := some 5, op := Op.alloc 26, type := 0, pos := "law.go:26", after := #[], guard := none }) rfl (fun K hK => ?_) ?_
    · go_simp
      have HR2 := hid HR.out.newA
      refine hK.out _ _ ?_ (fun hHeld => ?_)
      · exact HR2.out.bel
      clear hK K
      try simp only [List.setIfInBounds_toArray, List.set_cons_zero, List.set_cons_succ]
      exact F111.out _ (by kernel_rfl) _ V.heap.size pb g1 c1 g2 c2 g3 c3 g4 c4 HR2
    exact AllReadyH.nil
  have F100 : Hid (∀ listed, listed = #[true, true, true, false, false, false, false, false] → ∀ V pa pb g1 c1 g2 c2 g3 c3 g4 c4, Hid (RS xs0 ys0 xs1 ys1 X V 1 false false pa pb g1 c1 g2 c2 g3 c3 g4 c4) → wpAnyH Try.prog .any #[{ dst := some 37, op := Op.load 26 (Operand.tmp 2), type := 26, pos := "law.go:26", after := #[], guard := none }, { dst := some 38, op := Op.call { callee := Callee.value (Operand.func 10), args := #[Operand.tmp 37], argTypes := #[26] }, type := 26, pos := "law.go:26", after := #[{ on := 0, ground := Ground.data }], guard := none }, { dst := some 39, op := Op.load 26 (Operand.tmp 3), type := 26, pos := "law.go:26", after := #[], guard := none }, { dst := some 40, op := Op.call { callee := Callee.value (Operand.func 10), args := #[Operand.tmp 39], argTypes := #[26] }, type := 26, pos := "law.go:26", after := #[{ on := 2, ground := Ground.data }, { on := 1, ground := Ground.chain }], guard := none }, { dst := some 5, op := Op.alloc 26, type := 0, pos := "law.go:26", after := #[], guard := none }, { dst := some 6, op := Op.alloc 26, type := 0, pos := "law.go:26", after := #[], guard := none }, { dst := none, op := Op.store 26 (Operand.tmp 5) (Operand.tmp 38), type := 0, pos := "law.go:26", after := #[{ on := 4, ground := Ground.data }, { on := 1, ground := Ground.data }, { on := 3, ground := Ground.chain }, { on := 0, ground := Ground.phase }, { on := 1, ground := Ground.phase }, { on := 2, ground := Ground.textOnly Departure.lateStores }, { on := 3, ground := Ground.textOnly Departure.lateStoresUnsure }, { on := 4, ground := Ground.phase }, { on := 5, ground := Ground.phase }], guard := none }, { dst := none, op := Op.store 26 (Operand.tmp 6) (Operand.tmp 40), type := 0, pos := "law.go:26", after := #[{ on := 5, ground := Ground.data }, { on := 3, ground := Ground.data }, { on := 6, ground := Ground.chain }, { on := 0, ground := Ground.phase }, { on := 1, ground := Ground.phase }, { on := 2, ground := Ground.phase }, { on := 3, ground := Ground.phase }, { on := 4, ground := Ground.phase }, { on := 5, ground := Ground.phase }, { on := 6, ground := Ground.phase }], guard := none }] (NoPanic Q) (fun V : World => Below X.heap.size X V) 5 listed { tmps := (List.toArray (t0 :: t1 :: (.pointer (some ⟨ga, 0, none⟩)) :: (.pointer (some ⟨gb, 0, none⟩)) :: t4 :: t5 :: t6 :: t7 :: t8 :: t9 :: t10 :: t11 :: t12 :: t13 :: t14 :: t15 :: t16 :: t17 :: t18 :: t19 :: t20 :: t21 :: t22 :: t23 :: t24 :: t25 :: t26 :: t27 :: t28 :: t29 :: t30 :: t31 :: t32 :: t33 :: t34 :: t35 :: t36 :: (.agg #[.bool n0, .slice a0 xs0.length ca0, .slice b0 ys0.length cb0]) :: (.agg #[.bool n0, .slice (some ⟨g1, 0, none⟩) xs0.length c1, .slice (some ⟨g2, 0, none⟩) ys0.length c2]) :: (.agg #[.bool n1, .slice a1 xs1.length ca1, .slice b1 ys1.length cb1]) :: t40 :: rest)), defers := [] } V) := by
    rintro _ rfl V pa pb g1 c1 g2 c2 g3 c3 g4 c4 HR
    refine wpAnyH_ready (rs := [3, 4, 5]) (by kernel_rfl) (by simp) ?_
    refine AllReadyH.cons (o := { dst := some 40, op := Op.call { callee := Callee.value (Operand.func 10), args := #[Operand.tmp 39], argTypes := #[26] }, type := 26, pos := "law.go:26", after := #[{ on := 2, ground := Ground.data }, { on := 1, ground := Ground.chain }], guard := none }) rfl (fun K hK => ?_) ?_
    · go_simp
      refine Calls.mono (lentRatio_any n1 a1 ca1 xs1 b1 cb1 ys1 V (HS.out.2.1.later HR.out.bel) (HS.out.2.2.later HR.out.bel) (by omega) (by omega)) ?_
      rintro e V' ⟨h3, d3, h4, d4, rfl, oa, ob, hg, hb⟩
      dsimp only
      have HR2 := hid (HR.out.later hb)
      refine hK.out _ _ ?_ (fun hHeld => ?_)
      · exact HR2.out.bel
      clear hK K
      try simp only [List.setIfInBounds_toArray, List.set_cons_zero, List.set_cons_succ]
      exact F200.out _ (by kernel_rfl) V' pa pb g1 c1 g2 c2 h3 d3 h4 d4 ⟨HR2.out.bel, fun h => HR2.out.r1 (by omega), fun _ => ⟨owns_base oa HR.out.bel.size, owns_base ob HR.out.bel.size, Nat.lt_of_lt_of_le (HR.out.r1 (by omega)).2.2.2.2 (oa.lt h3 rfl).1, hg, (ob.lt h4 rfl).2⟩, HR2.out.ba, HR2.out.bb, HR2.out.ne⟩
    refine AllReadyH.cons (o := { dst := some 5, op := Op.alloc 26, type := 0, pos := "law.go:26", after := #[], guard := none }) rfl (fun K hK => ?_) ?_
    · go_simp
      have HR2 := hid HR.out.newA
      refine hK.out _ _ ?_ (fun hHeld => ?_)
      · exact HR2.out.bel
      clear hK K
      try simp only [List.setIfInBounds_toArray, List.set_cons_zero, List.set_cons_succ]
      exact F110.out _ (by kernel_rfl) _ V.heap.size pb g1 c1 g2 c2 g3 c3 g4 c4 HR2
    refine AllReadyH.cons (o := { dst := some 6, op := Op.alloc 26, type := 0, pos := "law.go:26", after := #[], guard := none }) rfl (fun K hK => ?_) ?_
    · go_simp
      have HR2 := hid HR.out.newB
      refine hK.out _ _ ?_ (fun hHeld => ?_)
      · exact HR2.out.bel
      clear hK K
      try simp only [List.setIfInBounds_toArray, List.set_cons_zero, List.set_cons_succ]
      exact F101.out _ (by kernel_rfl) _ pa V.heap.size g1 c1 g2 c2 g3 c3 g4 c4 HR2
    exact AllReadyH.nil
  have F011 : Hid (∀ listed, listed = #[true, false, true, false, true, true, false, false] → ∀ V pa pb g1 c1 g2 c2 g3 c3 g4 c4, Hid (RS xs0 ys0 xs1 ys1 X V 0 true true pa pb g1 c1 g2 c2 g3 c3 g4 c4) → wpAnyH Try.prog .any #[{ dst := some 37, op := Op.load 26 (Operand.tmp 2), type := 26, pos := "law.go:26", after := #[], guard := none }, { dst := some 38, op := Op.call { callee := Callee.value (Operand.func 10), args := #[Operand.tmp 37], argTypes := #[26] }, type := 26, pos := "law.go:26", after := #[{ on := 0, ground := Ground.data }], guard := none }, { dst := some 39, op := Op.load 26 (Operand.tmp 3), type := 26, pos := "law.go:26", after := #[], guard := none }, { dst := some 40, op := Op.call { callee := Callee.value (Operand.func 10), args := #[Operand.tmp 39], argTypes := #[26] }, type := 26, pos := "law.go:26", after := #[{ on := 2, ground := Ground.data }, { on := 1, ground := Ground.chain }], guard := none }, { dst := some 5, op := Op.alloc 26, type := 0, pos := "law.go:26", after := #[], guard := none }, { dst := some 6, op := Op.alloc 26, type := 0, pos := "law.go:26", after := #[], guard := none }, { dst := none, op := Op.store 26 (Operand.tmp 5) (Operand.tmp 38), type := 0, pos := "law.go:26", after := #[{ on := 4, ground := Ground.data }, { on := 1, ground := Ground.data }, { on := 3, ground := Ground.chain }, { on := 0, ground := Ground.phase }, { on := 1, ground := Ground.phase }, { on := 2, ground := Ground.textOnly Departure.lateStores }, { on := 3, ground := Ground.textOnly Departure.lateStoresUnsure }, { on := 4, ground := Ground.phase }, { on := 5, ground := Ground.phase }], guard := none }, { dst := none, op := Op.store 26 (Operand.tmp 6) (Operand.tmp 40), type := 0, pos := "law.go:26", after := #[{ on := 5, ground := Ground.data }, { on := 3, ground := Ground.data }, { on := 6, ground := Ground.chain }, { on := 0, ground := Ground.phase }, { on := 1, ground := Ground.phase }, { on := 2, ground := Ground.phase }, { on := 3, ground := Ground.phase }, { on := 4, ground := Ground.phase }, { on := 5, ground := Ground.phase }, { on := 6, ground := Ground.phase }], guard := none }] (NoPanic Q) (fun V : World => Below X.heap.size X V) 4 listed { tmps := (List.toArray (t0 :: t1 :: (.pointer (some ⟨ga, 0, none⟩)) :: (.pointer (some ⟨gb, 0, none⟩)) :: t4 :: (.pointer (some ⟨pa, 0, none⟩)) :: (.pointer (some ⟨pb, 0, none⟩)) :: t7 :: t8 :: t9 :: t10 :: t11 :: t12 :: t13 :: t14 :: t15 :: t16 :: t17 :: t18 :: t19 :: t20 :: t21 :: t22 :: t23 :: t24 :: t25 :: t26 :: t27 :: t28 :: t29 :: t30 :: t31 :: t32 :: t33 :: t34 :: t35 :: t36 :: (.agg #[.bool n0, .slice a0 xs0.length ca0, .slice b0 ys0.length cb0]) :: t38 :: (.agg #[.bool n1, .slice a1 xs1.length ca1, .slice b1 ys1.length cb1]) :: t40 :: rest)), defers := [] } V) := by
    rintro _ rfl V pa pb g1 c1 g2 c2 g3 c3 g4 c4 HR
    refine wpAnyH_ready (rs := [1]) (by kernel_rfl) (by simp) ?_
    refine AllReadyH.cons (o := { dst := some 38, op := Op.call { callee := Callee.value (Operand.func 10), args := #[Operand.tmp 37], argTypes := #[26] }, type := 26, pos := "law.go:26", after := #[{ on := 0, ground := Ground.data }], guard := none }) rfl (fun K hK => ?_) ?_
    · go_simp
      refine Calls.mono (lentRatio_any n0 a0 ca0 xs0 b0 cb0 ys0 V (HS.out.1.1.later HR.out.bel) (HS.out.1.2.later HR.out.bel) (by omega) (by omega)) ?_
      rintro e V' ⟨h1, d1, h2, d2, rfl, oa, ob, hg, hb⟩
      dsimp only
      have HR2 := hid (HR.out.later hb)
      refine hK.out _ _ ?_ (fun hHeld => ?_)
      · exact HR2.out.bel
      clear hK K
      try simp only [List.setIfInBounds_toArray, List.set_cons_zero, List.set_cons_succ]
      exact F111.out _ (by kernel_rfl) V' pa pb h1 d1 h2 d2 g3 c3 g4 c4 ⟨HR2.out.bel, fun _ => ⟨owns_base oa HR.out.bel.size, owns_base ob HR.out.bel.size, Nat.le_trans HR.out.bel.size (oa.lt h1 rfl).1, hg, (ob.lt h2 rfl).2⟩, fun h => absurd h (by omega), HR2.out.ba, HR2.out.bb, HR2.out.ne⟩
    exact AllReadyH.nil
  have F010 : Hid (∀ listed, listed = #[true, false, true, false, true, false, false, false] → ∀ V pa pb g1 c1 g2 c2 g3 c3 g4 c4, Hid (RS xs0 ys0 xs1 ys1 X V 0 true false pa pb g1 c1 g2 c2 g3 c3 g4 c4) → wpAnyH Try.prog .any #[{ dst := some 37, op := Op.load 26 (Operand.tmp 2), type := 26, pos := "law.go:26", after := #[], guard := none }, { dst := some 38, op := Op.call { callee := Callee.value (Operand.func 10), args := #[Operand.tmp 37], argTypes := #[26] }, type := 26, pos := "law.go:26", after := #[{ on := 0, ground := Ground.data }], guard := none }, { dst := some 39, op := Op.load 26 (Operand.tmp 3), type := 26, pos := "law.go:26", after := #[], guard := none }, { dst := some 40, op := Op.call { callee := Callee.value (Operand.func 10), args := #[Operand.tmp 39], argTypes := #[26] }, type := 26, pos := "law.go:26", after := #[{ on := 2, ground := Ground.data }, { on := 1, ground := Ground.chain }], guard := none }, { dst := some 5, op := Op.alloc 26, type := 0, pos := "law.go:26", after := #[], guard := none }, { dst := some 6, op := Op.alloc 26, type := 0, pos := "law.go:26", after := #[], guard := none }, { dst := none, op := Op.store 26 (Operand.tmp 5) (Operand.tmp 38), type := 0, pos := "law.go:26", after := #[{ on := 4, ground := Ground.data }, { on := 1, ground := Ground.data }, { on := 3, ground := Ground.chain }, { on := 0, ground := Ground.phase }, { on := 1, ground := Ground.phase }, { on := 2, ground := Ground.textOnly Departure.lateStores }, { on := 3, ground := Ground.textOnly Departure.lateStoresUnsure }, { on := 4, ground := Ground.phase }, { on := 5, ground := Ground.phase }], guard := none }, { dst := none, op := Op.store 26 (Operand.tmp 6) (Operand.tmp 40), type := 0, pos := "law.go:26", after := #[{ on := 5, ground := Ground.data }, { on := 3, ground := Ground.data }, { on := 6, ground := Ground.chain }, { on := 0, ground := Ground.phase }, { on := 1, ground := Ground.phase }, { on := 2, ground := Ground.phase }, { on := 3, ground := Ground.phase }, { on := 4, ground := Ground.phase }, { on := 5, ground := Ground.phase }, { on := 6, ground := Ground.phase }], guard := none }] (NoPanic Q) (fun V : World => Below X.heap.size X V) 5 listed { tmps := (List.toArray (t0 :: t1 :: (.pointer (some ⟨ga, 0, none⟩)) :: (.pointer (some ⟨gb, 0, none⟩)) :: t4 :: (.pointer (some ⟨pa, 0, none⟩)) :: t6 :: t7 :: t8 :: t9 :: t10 :: t11 :: t12 :: t13 :: t14 :: t15 :: t16 :: t17 :: t18 :: t19 :: t20 :: t21 :: t22 :: t23 :: t24 :: t25 :: t26 :: t27 :: t28 :: t29 :: t30 :: t31 :: t32 :: t33 :: t34 :: t35 :: t36 :: (.agg #[.bool n0, .slice a0 xs0.length ca0, .slice b0 ys0.length cb0]) :: t38 :: (.agg #[.bool n1, .slice a1 xs1.length ca1, .slice b1 ys1.length cb1]) :: t40 :: rest)), defers := [] } V) := by
    rintro _ rfl V pa pb g1 c1 g2 c2 g3 c3 g4 c4 HR
    refine wpAnyH_ready (rs := [1, 5]) (by kernel_rfl) (by simp) ?_
    refine AllReadyH.cons (o := { dst := some 38, op := Op.call { callee := Callee.value (Operand.func 10), args := #[Operand.tmp 37], argTypes := #[26] }, type := 26, pos := "law.go:26", after := #[{ on := 0, ground := Ground.data }], guard := none }) rfl (fun K hK => ?_) ?_
    · go_simp
      refine Calls.mono (lentRatio_any n0 a0 ca0 xs0 b0 cb0 ys0 V (HS.out.1.1.later HR.out.bel) (HS.out.1.2.later HR.out.bel) (by omega) (by omega)) ?_
      rintro e V' ⟨h1, d1, h2, d2, rfl, oa, ob, hg, hb⟩
      dsimp only
      have HR2 := hid (HR.out.later hb)
      refine hK.out _ _ ?_ (fun hHeld => ?_)
      · exact HR2.out.bel
      clear hK K
      try simp only [List.setIfInBounds_toArray, List.set_cons_zero, List.set_cons_succ]
      exact F110.out _ (by kernel_rfl) V' pa pb h1 d1 h2 d2 g3 c3 g4 c4 ⟨HR2.out.bel, fun _ => ⟨owns_base oa HR.out.bel.size, owns_base ob HR.out.bel.size, Nat.le_trans HR.out.bel.size (oa.lt h1 rfl).1, hg, (ob.lt h2 rfl).2⟩, fun h => absurd h (by omega), HR2.out.ba, HR2.out.bb, HR2.out.ne⟩
    refine AllReadyH.cons (o := { dst := some 6, op := Op.alloc 26, type := 0, pos := "law.go:26", after := #[], guard := none }) rfl (fun K hK => ?_) ?_
    · go_simp
      have HR2 := hid HR.out.newB
      refine hK.out _ _ ?_ (fun hHeld => ?_)
      · exact HR2.out.bel
      clear hK K
      try simp only [List.setIfInBounds_toArray, List.set_cons_zero, List.set_cons_succ]
      exact F011.out _ (by kernel_rfl) _ pa V.heap.size g1 c1 g2 c2 g3 c3 g4 c4 HR2
    exact AllReadyH.nil
  have F001 : Hid (∀ listed, listed = #[true, false, true, false, false, true, false, false] → ∀ V pa pb g1 c1 g2 c2 g3 c3 g4 c4, Hid (RS xs0 ys0 xs1 ys1 X V 0 false true pa pb g1 c1 g2 c2 g3 c3 g4 c4) → wpAnyH Try.prog .any #[{ dst := some 37, op := Op.load 26 (Operand.tmp 2), type := 26, pos := "law.go:26", after := #[], guard := none }, { dst := some 38, op := Op.call { callee := Callee.value (Operand.func 10), args := #[Operand.tmp 37], argTypes := #[26] }, type := 26, pos := "law.go:26", after := #[{ on := 0, ground := Ground.data }], guard := none }, { dst := some 39, op := Op.load 26 (Operand.tmp 3), type := 26, pos := "law.go:26", after := #[], guard := none }, { dst := some 40, op := Op.call { callee := Callee.value (Operand.func 10), args := #[Operand.tmp 39], argTypes := #[26] }, type := 26, pos := "law.go:26", after := #[{ on := 2, ground := Ground.data }, { on := 1, ground := Ground.chain }], guard := none }, { dst := some 5, op := Op.alloc 26, type := 0, pos := "law.go:26", after := #[], guard := none }, { dst := some 6, op := Op.alloc 26, type := 0, pos := "law.go:26", after := #[], guard := none }, { dst := none, op := Op.store 26 (Operand.tmp 5) (Operand.tmp 38), type := 0, pos := "law.go:26", after := #[{ on := 4, ground := Ground.data }, { on := 1, ground := Ground.data }, { on := 3, ground := Ground.chain }, { on := 0, ground := Ground.phase }, { on := 1, ground := Ground.phase }, { on := 2, ground := Ground.textOnly Departure.lateStores }, { on := 3, ground := Ground.textOnly Departure.lateStoresUnsure }, { on := 4, ground := Ground.phase }, { on := 5, ground := Ground.phase }], guard := none }, { dst := none, op := Op.store 26 (Operand.tmp 6) (Operand.tmp 40), type := 0, pos := "law.go:26", after := #[{ on := 5, ground := Ground.data }, { on := 3, ground := Ground.data }, { on := 6, ground := Ground.chain }, { on := 0, ground := Ground.phase }, { on := 1, ground := Ground.phase }, { on := 2, ground := Ground.phase }, { on := 3, ground := Ground.phase }, { on := 4, ground := Ground.phase }, { on := 5, ground := Ground.phase }, { on := 6, ground := Ground.phase }], guard := none }] (NoPanic Q) (fun V : World => Below X.heap.size X V) 5 listed { tmps := (List.toArray (t0 :: t1 :: (.pointer (some ⟨ga, 0, none⟩)) :: (.pointer (some ⟨gb, 0, none⟩)) :: t4 :: t5 :: (.pointer (some ⟨pb, 0, none⟩)) :: t7 :: t8 :: t9 :: t10 :: t11 :: t12 :: t13 :: t14 :: t15 :: t16 :: t17 :: t18 :: t19 :: t20 :: t21 :: t22 :: t23 :: t24 :: t25 :: t26 :: t27 :: t28 :: t29 :: t30 :: t31 :: t32 :: t33 :: t34 :: t35 :: t36 :: (.agg #[.bool n0, .slice a0 xs0.length ca0, .slice b0 ys0.length cb0]) :: t38 :: (.agg #[.bool n1, .slice a1 xs1.length ca1, .slice b1 ys1.length cb1]) :: t40 :: rest)), defers := [] } V) := by
    rintro _ rfl V pa pb g1 c1 g2 c2 g3 c3 g4 c4 HR
    refine wpAnyH_ready (rs := [1, 4]) (by kernel_rfl) (by simp) ?_
    refine AllReadyH.cons (o := { dst := some 38, op := Op.call { callee := Callee.value (Operand.func 10), args := #[Operand.tmp 37], argTypes := #[26] }, type := 26, pos := "law.go:26", after := #[{ on := 0, ground := Ground.data }], guard := none }) rfl (fun K hK => ?_) ?_
    · go_simp
      refine Calls.mono (lentRatio_any n0 a0 ca0 xs0 b0 cb0 ys0 V (HS.out.1.1.later HR.out.bel) (HS.out.1.2.later HR.out.bel) (by omega) (by omega)) ?_
      rintro e V' ⟨h1, d1, h2, d2, rfl, oa, ob, hg, hb⟩
      dsimp only
      have HR2 := hid (HR.out.later hb)
      refine hK.out _ _ ?_ (fun hHeld => ?_)
      · exact HR2.out.bel
      clear hK K
      try simp only [List.setIfInBounds_toArray, List.set_cons_zero, List.set_cons_succ]
      exact F101.out _ (by kernel_rfl) V' pa pb h1 d1 h2 d2 g3 c3 g4 c4 ⟨HR2.out.bel, fun _ => ⟨owns_base oa HR.out.bel.size, owns_base ob HR.out.bel.size, Nat.le_trans HR.out.bel.size (oa.lt h1 rfl).1, hg, (ob.lt h2 rfl).2⟩, fun h => absurd h (by omega), HR2.out.ba, HR2.out.bb, HR2.out.ne⟩
    refine AllReadyH.cons (o := { dst := some 5, op := Op.alloc 26, type := 0, pos := "law.go:26", after := #[], guard := none }) rfl (fun K hK => ?_) ?_
    · go_simp
      have HR2 := hid HR.out.newA
      refine hK.out _ _ ?_ (fun hHeld => ?_)
      · exact HR2.out.bel
      clear hK K
      try simp only [List.setIfInBounds_toArray, List.set_cons_zero, List.set_cons_succ]
      exact F011.out _ (by kernel_rfl) _ V.heap.size pb g1 c1 g2 c2 g3 c3 g4 c4 HR2
    exact AllReadyH.nil
  have F000 : Hid (∀ listed, listed = #[true, false, true, false, false, false, false, false] → ∀ V pa pb g1 c1 g2 c2 g3 c3 g4 c4, Hid (RS xs0 ys0 xs1 ys1 X V 0 false false pa pb g1 c1 g2 c2 g3 c3 g4 c4) → wpAnyH Try.prog .any #[{ dst := some 37, op := Op.load 26 (Operand.tmp 2), type := 26, pos := "law.go:26", after := #[], guard := none }, { dst := some 38, op := Op.call { callee := Callee.value (Operand.func 10), args := #[Operand.tmp 37], argTypes := #[26] }, type := 26, pos := "law.go:26", after := #[{ on := 0, ground := Ground.data }], guard := none }, { dst := some 39, op := Op.load 26 (Operand.tmp 3), type := 26, pos := "law.go:26", after := #[], guard := none }, { dst := some 40, op := Op.call { callee := Callee.value (Operand.func 10), args := #[Operand.tmp 39], argTypes := #[26] }, type := 26, pos := "law.go:26", after := #[{ on := 2, ground := Ground.data }, { on := 1, ground := Ground.chain }], guard := none }, { dst := some 5, op := Op.alloc 26, type := 0, pos := "law.go:26", after := #[], guard := none }, { dst := some 6, op := Op.alloc 26, type := 0, pos := "law.go:26", after := #[], guard := none }, { dst := none, op := Op.store 26 (Operand.tmp 5) (Operand.tmp 38), type := 0, pos := "law.go:26", after := #[{ on := 4, ground := Ground.data }, { on := 1, ground := Ground.data }, { on := 3, ground := Ground.chain }, { on := 0, ground := Ground.phase }, { on := 1, ground := Ground.phase }, { on := 2, ground := Ground.textOnly Departure.lateStores }, { on := 3, ground := Ground.textOnly Departure.lateStoresUnsure }, { on := 4, ground := Ground.phase }, { on := 5, ground := Ground.phase }], guard := none }, { dst := none, op := Op.store 26 (Operand.tmp 6) (Operand.tmp 40), type := 0, pos := "law.go:26", after := #[{ on := 5, ground := Ground.data }, { on := 3, ground := Ground.data }, { on := 6, ground := Ground.chain }, { on := 0, ground := Ground.phase }, { on := 1, ground := Ground.phase }, { on := 2, ground := Ground.phase }, { on := 3, ground := Ground.phase }, { on := 4, ground := Ground.phase }, { on := 5, ground := Ground.phase }, { on := 6, ground := Ground.phase }], guard := none }] (NoPanic Q) (fun V : World => Below X.heap.size X V) 6 listed { tmps := (List.toArray (t0 :: t1 :: (.pointer (some ⟨ga, 0, none⟩)) :: (.pointer (some ⟨gb, 0, none⟩)) :: t4 :: t5 :: t6 :: t7 :: t8 :: t9 :: t10 :: t11 :: t12 :: t13 :: t14 :: t15 :: t16 :: t17 :: t18 :: t19 :: t20 :: t21 :: t22 :: t23 :: t24 :: t25 :: t26 :: t27 :: t28 :: t29 :: t30 :: t31 :: t32 :: t33 :: t34 :: t35 :: t36 :: (.agg #[.bool n0, .slice a0 xs0.length ca0, .slice b0 ys0.length cb0]) :: t38 :: (.agg #[.bool n1, .slice a1 xs1.length ca1, .slice b1 ys1.length cb1]) :: t40 :: rest)), defers := [] } V) := by
    rintro _ rfl V pa pb g1 c1 g2 c2 g3 c3 g4 c4 HR
    refine wpAnyH_ready (rs := [1, 4, 5]) (by kernel_rfl) (by simp) ?_
    refine AllReadyH.cons (o := { dst := some 38, op := Op.call { callee := Callee.value (Operand.func 10), args := #[Operand.tmp 37], argTypes := #[26] }, type := 26, pos := "law.go:26", after := #[{ on := 0, ground := Ground.data }], guard := none }) rfl (fun K hK => ?_) ?_
    · go_simp
      refine Calls.mono (lentRatio_any n0 a0 ca0 xs0 b0 cb0 ys0 V (HS.out.1.1.later HR.out.bel) (HS.out.1.2.later HR.out.bel) (by omega) (by omega)) ?_
      rintro e V' ⟨h1, d1, h2, d2, rfl, oa, ob, hg, hb⟩
      dsimp only
      have HR2 := hid (HR.out.later hb)
      refine hK.out _ _ ?_ (fun hHeld => ?_)
      · exact HR2.out.bel
      clear hK K
      try simp only [List.setIfInBounds_toArray, List.set_cons_zero, List.set_cons_succ]
      exact F100.out _ (by kernel_rfl) V' pa pb h1 d1 h2 d2 g3 c3 g4 c4 ⟨HR2.out.bel, fun _ => ⟨owns_base oa HR.out.bel.size, owns_base ob HR.out.bel.size, Nat.le_trans HR.out.bel.size (oa.lt h1 rfl).1, hg, (ob.lt h2 rfl).2⟩, fun h => absurd h (by omega), HR2.out.ba, HR2.out.bb, HR2.out.ne⟩
    refine AllReadyH.cons (o := { dst := some 5, op := Op.alloc 26, type := 0, pos := "law.go:26", after := #[], guard := none }) rfl (fun K hK => ?_) ?_
    · go_simp
      have HR2 := hid HR.out.newA
      refine hK.out _ _ ?_ (fun hHeld => ?_)
      · exact HR2.out.bel
      clear hK K
      try simp only [List.setIfInBounds_toArray, List.set_cons_zero, List.set_cons_succ]
      exact F010.out _ (by kernel_rfl) _ V.heap.size pb g1 c1 g2 c2 g3 c3 g4 c4 HR2
    refine AllReadyH.cons (o := { dst := some 6, op := Op.alloc 26, type := 0, pos := "law.go:26", after := #[], guard := none }) rfl (fun K hK => ?_) ?_
    · go_simp
      have HR2 := hid HR.out.newB
      refine hK.out _ _ ?_ (fun hHeld => ?_)
      · exact HR2.out.bel
      clear hK K
      try simp only [List.setIfInBounds_toArray, List.set_cons_zero, List.set_cons_succ]
      exact F001.out _ (by kernel_rfl) _ pa V.heap.size g1 c1 g2 c2 g3 c3 g4 c4 HR2
    exact AllReadyH.nil
  refine wp_region_noPanic ?_
  refine wp_region_held_drew (S := (fun V : World => Below X.heap.size X V)) (by kernel_rfl) ?_ (fun hHeld => ?_)
  · exact Below.drew (Below.refl _ X)
  refine wpAnyH_take (i := 0) (oi := { dst := some 37, op := Op.load 26 (Operand.tmp 2), type := 26, pos := "law.go:26", after := #[], guard := none }) (v := ?_) rfl (by kernel_rfl) (by kernel_rfl) (by kernel_rfl) (fun _ _ _ h => h) (Or.inl ⟨by rfl, ?_⟩) (by assumption) ?_
  rotate_left 1
  · intro V hSw
    obtain ⟨p0, p1, p2, q0, q1, q2⟩ := HK.out V hSw
    clear hSw
    go_simp
    try with_reducible rfl
  try simp only [Act.put, List.setIfInBounds_toArray, List.set_cons_zero, List.set_cons_succ]
  refine wpAnyH_take (i := 2) (oi := { dst := some 39, op := Op.load 26 (Operand.tmp 3), type := 26, pos := "law.go:26", after := #[], guard := none }) (v := ?_) rfl (by kernel_rfl) (by kernel_rfl) (by kernel_rfl) (fun _ _ _ h => h) (Or.inl ⟨by rfl, ?_⟩) (by assumption) ?_
  rotate_left 1
  · intro V hSw
    obtain ⟨p0, p1, p2, q0, q1, q2⟩ := HK.out V hSw
    clear hSw
    go_simp
    try with_reducible rfl
  try simp only [Act.put, List.setIfInBounds_toArray, List.set_cons_zero, List.set_cons_succ]
  exact F000.out _ (by kernel_rfl) _ 0 0 0 0 0 0 0 0 0 0 ⟨Below.drew (Below.refl _ X), fun h => absurd h (by omega), fun h => absurd h (by omega), fun h => absurd h (by decide), fun h => absurd h (by decide), fun h => absurd h (by decide)⟩

end Go.Proofs.Ytpehpflgfkdiaaa

/- What is known on the way through the law RatioTells, in a bundle that is moved along; sixteen lists that lie apart. -/
namespace Go.Proofs.Ytpehpflgfkdiaaa
open Go.RowKit
set_option linter.unusedVariables false

theorem lent_front' {W : World} {base g cap : Nat} {xs : List Int} (ho : W.ownsRow base 36 1 (.slice (some ⟨g, 0, none⟩) (xs.length + 3) cap) (xs.length + 3) ((xs ++ marks 3).map (Value.int .u32))) : W.ownsRow base 36 1 (.slice (some ⟨g, 0, none⟩) xs.length cap) xs.length (xs.map (Value.int .u32)) := by
  rw [List.map_append] at ho
  exact owns_front (k := 3) ho (by simp)
theorem own_unlike3 {W : World} {b1 e1 s1 n1 b2 e2 s2 n2 : Nat} {v u : Value} {xs ys : List Value} (h : W.ownsRow b1 e1 s1 v n1 xs) (g : W.ownsRow b2 e2 s2 u n2 ys) (hne : e1 ≠ e2) : v.ownBlock = none ∨ v.ownBlock ≠ u.ownBlock := by
  rcases g.2 with ⟨rfl, _⟩ | ⟨g2, c2, u2, rfl, _, hg2, _⟩
  · cases v.ownBlock with
    | none => exact .inl rfl
    | some x => right; simp [Value.ownBlock]
  · cases hv : v.ownBlock with
    | none => exact .inl rfl
    | some x =>
      right
      intro e
      exact own_ne_box3 h (show Box W g2 e2 u2 from hg2) hne x hv (by simpa [Value.ownBlock] using e)
theorem St.grown {w W W' : World} {l : List (Nat × Array Value)} {r : List (Nat × Value × List Int)} (h : St w W l r) {lo k : Nat} {v : Value} {R : List Value} (hv : W.ownsRow lo 26 3 v k R) (hg : W.grownBy W' v.ownBlock) (hl : ∀ p ∈ l, p.1 < lo) (hlo : w.heap.size ≤ lo) : St w W' l r :=
  ⟨fun p hp => (h.box p hp).kept hg (fun e => by have h1 := (hv.lt _ e.symm).1; have h2 := hl p hp; omega), fun p hp => World.ownsRow.kept (h.row p hp) hg (own_unlike3 (h.row p hp) hv (by decide)), h.bel.grown hg h.bel.size (fun k hk => Nat.le_trans hlo (hv.lt k hk).1)⟩
/-- Rows that are lent. -/
def Lns (W : World) (base : Nat) (M : List (Nat × Nat × List Int)) : Prop := ∀ p ∈ M, W.ownsRow base 36 1 (.slice (some ⟨p.1, 0, none⟩) (p.2.2.length + 3) p.2.1) (p.2.2.length + 3) ((p.2.2 ++ marks 3).map (Value.int .u32))
/-- Lists whose blocks lie in intervals that are apart. -/
theorem apart_iv {m : Nat} {V : Nat → Value} (L H : Nat → Nat) (hv : ∀ j, j < m → Within (V j) (L j) (H j)) (hd : ∀ i j, i < m → j < m → i ≠ j → H i ≤ L j ∨ H j ≤ L i) :
    ∀ i j, i < m → j < m → i ≠ j → (V i).ownBlock = none ∨ (V i).ownBlock ≠ (V j).ownBlock := by
  intro i j hi hj hij
  cases e1 : (V i).ownBlock with
  | none => exact .inl rfl
  | some g =>
    right
    intro e
    have h1 := hv i hi g e1
    have h2 := hv j hj g e.symm
    rcases hd i j hi hj hij with h | h <;> omega

theorem six_cells (w : World) (u0 u1 u2 u3 u4 u5 : Value) (t : Nat) : ∀ j u, [u0, u1, u2, u3, u4, u5][j]? = some u → (w.alloc (.cells #[u0, u1, u2, u3, u4, u5] t)).cell? ((⟨w.heap.size, 0, none⟩ : Addr).add j) = some u := by
  intro j u h
  have hb := Box.made w t #[u0, u1, u2, u3, u4, u5]
  match j, h with
  | 0, h => obtain rfl : u0 = u := by simpa using h
            exact hb.cell 0
  | 1, h => obtain rfl : u1 = u := by simpa using h
            exact hb.cell 1
  | 2, h => obtain rfl : u2 = u := by simpa using h
            exact hb.cell 2
  | 3, h => obtain rfl : u3 = u := by simpa using h
            exact hb.cell 3
  | 4, h => obtain rfl : u4 = u := by simpa using h
            exact hb.cell 4
  | 5, h => obtain rfl : u5 = u := by simpa using h
            exact hb.cell 5
  | n + 6, h => simp at h
theorem own_shape3 {w : World} {base e n s : Nat} {v : Value} {xs : List Value} (h : w.ownsRow base e s v n xs) (hn : 0 < n) : ∃ g cap, v = .slice (some ⟨g, 0, none⟩) n cap ∧ n ≤ cap := by
  rcases h.2 with ⟨_, h0⟩ | ⟨g, cap, cur, hv, _, _, h1, _⟩
  · omega
  · exact ⟨g, cap, hv, h1⟩
theorem own_lt3 {w : World} {base e n s g cap : Nat} {xs : List Value} (h : w.ownsRow base e s (.slice (some ⟨g, 0, none⟩) n cap) n xs) : g < w.heap.size := (h.lt g rfl).2
theorem Within.up' {v : Value} {a b c d : Nat} (h : Within v a b) (h1 : c ≤ a) (h2 : b ≤ d) : Within v c d := fun g hg => by
  have := h g hg
  omega
theorem eight_cells {w : World} {base e g cap : Nat} {xs : List Value} {A : Nat → Option Addr} {C : Nat → Nat} {X : Nat → List Int} {b0 b1 b2 b3 b4 b5 b6 b7 : Bool} (h : w.ownsRow base e 3 (.slice (some ⟨g, 0, none⟩) 8 cap) 8 xs)
    (hx : xs = [.bool b0, .slice (A 0) (X 0).length (C 0), .slice (A 1) (X 1).length (C 1), .bool b1, .slice (A 2) (X 2).length (C 2), .slice (A 3) (X 3).length (C 3), .bool b2, .slice (A 4) (X 4).length (C 4), .slice (A 5) (X 5).length (C 5), .bool b3, .slice (A 6) (X 6).length (C 6), .slice (A 7) (X 7).length (C 7), .bool b4, .slice (A 8) (X 8).length (C 8), .slice (A 9) (X 9).length (C 9), .bool b5, .slice (A 10) (X 10).length (C 10), .slice (A 11) (X 11).length (C 11), .bool b6, .slice (A 12) (X 12).length (C 12), .slice (A 13) (X 13).length (C 13), .bool b7, .slice (A 14) (X 14).length (C 14), .slice (A 15) (X 15).length (C 15)]) :
    ∀ j, j < 8 → w.cell? ⟨g, j * 3 + 1, none⟩ = some (.slice (A (2 * j)) (X (2 * j)).length (C (2 * j))) ∧ w.cell? ⟨g, j * 3 + 2, none⟩ = some (.slice (A (2 * j + 1)) (X (2 * j + 1)).length (C (2 * j + 1))) := by
  subst hx
  intro j hj
  match j, hj with
  | 0, _ => exact ⟨h.cellAt 1 (by decide), h.cellAt 2 (by decide)⟩
  | 1, _ => exact ⟨h.cellAt 4 (by decide), h.cellAt 5 (by decide)⟩
  | 2, _ => exact ⟨h.cellAt 7 (by decide), h.cellAt 8 (by decide)⟩
  | 3, _ => exact ⟨h.cellAt 10 (by decide), h.cellAt 11 (by decide)⟩
  | 4, _ => exact ⟨h.cellAt 13 (by decide), h.cellAt 14 (by decide)⟩
  | 5, _ => exact ⟨h.cellAt 16 (by decide), h.cellAt 17 (by decide)⟩
  | 6, _ => exact ⟨h.cellAt 19 (by decide), h.cellAt 20 (by decide)⟩
  | 7, _ => exact ⟨h.cellAt 22 (by decide), h.cellAt 23 (by decide)⟩
theorem iv16 (r0 r1 r2 r3 r4 r5 r6 r7 r8 r9 r10 r11 r12 r13 r14 r15 r16 : Nat) (h0 : r0 ≤ r1) (h1 : r1 ≤ r2) (h2 : r2 ≤ r3) (h3 : r3 ≤ r4) (h4 : r4 ≤ r5) (h5 : r5 ≤ r6) (h6 : r6 ≤ r7) (h7 : r7 ≤ r8) (h8 : r8 ≤ r9) (h9 : r9 ≤ r10) (h10 : r10 ≤ r11) (h11 : r11 ≤ r12) (h12 : r12 ≤ r13) (h13 : r13 ≤ r14) (h14 : r14 ≤ r15) (h15 : r15 ≤ r16) : ∀ i j, i < 16 → j < 16 → i ≠ j →
    (fun j => ([r5, r6, r7, r8, r9, r10, r11, r12, r13, r14, r15, r16, r1, r2, r3, r4] : List Nat)[j]?.getD 0) i ≤ (fun j => ([r4, r5, r6, r7, r8, r9, r10, r11, r12, r13, r14, r15, r0, r1, r2, r3] : List Nat)[j]?.getD 0) j ∨ (fun j => ([r5, r6, r7, r8, r9, r10, r11, r12, r13, r14, r15, r16, r1, r2, r3, r4] : List Nat)[j]?.getD 0) j ≤ (fun j => ([r4, r5, r6, r7, r8, r9, r10, r11, r12, r13, r14, r15, r0, r1, r2, r3] : List Nat)[j]?.getD 0) i := by
  have mono : ∀ f : Nat → Nat, (∀ q, q < 16 → f q ≤ f (q + 1)) → ∀ d q, q + d ≤ 16 → f q ≤ f (q + d) := by
    intro f hf d
    induction d with
    | zero => intro q _; exact Nat.le_refl _
    | succ d ih =>
      intro q hq
      have h1 := ih q (by omega)
      have h2 := hf (q + d) (by omega)
      show f q ≤ f (q + d + 1)
      omega
  have hf : ∀ q, q < 16 → (([r0, r1, r2, r3, r4, r5, r6, r7, r8, r9, r10, r11, r12, r13, r14, r15, r16] : List Nat)[q]?.getD 0) ≤ (([r0, r1, r2, r3, r4, r5, r6, r7, r8, r9, r10, r11, r12, r13, r14, r15, r16] : List Nat)[q + 1]?.getD 0) := by
    intro q hq
    match q, hq with
    | 0, _ => exact h0
    | 1, _ => exact h1
    | 2, _ => exact h2
    | 3, _ => exact h3
    | 4, _ => exact h4
    | 5, _ => exact h5
    | 6, _ => exact h6
    | 7, _ => exact h7
    | 8, _ => exact h8
    | 9, _ => exact h9
    | 10, _ => exact h10
    | 11, _ => exact h11
    | 12, _ => exact h12
    | 13, _ => exact h13
    | 14, _ => exact h14
    | 15, _ => exact h15
    | n + 16, h => exact absurd h (by omega)
  have mm := mono (fun q => ([r0, r1, r2, r3, r4, r5, r6, r7, r8, r9, r10, r11, r12, r13, r14, r15, r16] : List Nat)[q]?.getD 0) hf
  have key : ∀ a b, a < 16 → b < 16 → a ≠ b → (([r0, r1, r2, r3, r4, r5, r6, r7, r8, r9, r10, r11, r12, r13, r14, r15, r16] : List Nat)[a + 1]?.getD 0) ≤ (([r0, r1, r2, r3, r4, r5, r6, r7, r8, r9, r10, r11, r12, r13, r14, r15, r16] : List Nat)[b]?.getD 0) ∨ (([r0, r1, r2, r3, r4, r5, r6, r7, r8, r9, r10, r11, r12, r13, r14, r15, r16] : List Nat)[b + 1]?.getD 0) ≤ (([r0, r1, r2, r3, r4, r5, r6, r7, r8, r9, r10, r11, r12, r13, r14, r15, r16] : List Nat)[a]?.getD 0) := by
    intro a b ha hb hab
    rcases Nat.lt_or_ge a b with h | h
    · left
      have := mm (b - (a + 1)) (a + 1) (by omega)
      have e : a + 1 + (b - (a + 1)) = b := by omega
      rw [e] at this
      exact this
    · right
      have := mm (a - (b + 1)) (b + 1) (by omega)
      have e : b + 1 + (a - (b + 1)) = a := by omega
      rw [e] at this
      exact this
  have rk : ∀ j, j < 16 → ∃ q, q < 16 ∧ q = (j + 4) % 16 ∧ ([r4, r5, r6, r7, r8, r9, r10, r11, r12, r13, r14, r15, r0, r1, r2, r3] : List Nat)[j]?.getD 0 = ([r0, r1, r2, r3, r4, r5, r6, r7, r8, r9, r10, r11, r12, r13, r14, r15, r16] : List Nat)[q]?.getD 0 ∧ ([r5, r6, r7, r8, r9, r10, r11, r12, r13, r14, r15, r16, r1, r2, r3, r4] : List Nat)[j]?.getD 0 = ([r0, r1, r2, r3, r4, r5, r6, r7, r8, r9, r10, r11, r12, r13, r14, r15, r16] : List Nat)[q + 1]?.getD 0 := by
    intro j hj
    match j, hj with
    | 0, _ => exact ⟨4, by decide, by decide, rfl, rfl⟩
    | 1, _ => exact ⟨5, by decide, by decide, rfl, rfl⟩
    | 2, _ => exact ⟨6, by decide, by decide, rfl, rfl⟩
    | 3, _ => exact ⟨7, by decide, by decide, rfl, rfl⟩
    | 4, _ => exact ⟨8, by decide, by decide, rfl, rfl⟩
    | 5, _ => exact ⟨9, by decide, by decide, rfl, rfl⟩
    | 6, _ => exact ⟨10, by decide, by decide, rfl, rfl⟩
    | 7, _ => exact ⟨11, by decide, by decide, rfl, rfl⟩
    | 8, _ => exact ⟨12, by decide, by decide, rfl, rfl⟩
    | 9, _ => exact ⟨13, by decide, by decide, rfl, rfl⟩
    | 10, _ => exact ⟨14, by decide, by decide, rfl, rfl⟩
    | 11, _ => exact ⟨15, by decide, by decide, rfl, rfl⟩
    | 12, _ => exact ⟨0, by decide, by decide, rfl, rfl⟩
    | 13, _ => exact ⟨1, by decide, by decide, rfl, rfl⟩
    | 14, _ => exact ⟨2, by decide, by decide, rfl, rfl⟩
    | 15, _ => exact ⟨3, by decide, by decide, rfl, rfl⟩
    | n + 16, h => exact absurd h (by omega)
  intro i j hi hj hij
  obtain ⟨a, ha, ea, a1, a2⟩ := rk i hi
  obtain ⟨b, hb, eb, b1, b2⟩ := rk j hj
  dsimp only
  rw [a1, a2, b1, b2]
  exact key a b ha hb (fun e => hij (by omega))

/-- append to a row of the call's own, where a guard that holds stands ahead of it. -/
theorem wpList_append_own_g {P : Program} {w : World} {ops : Array Oper} {rest : List Oper} {o : Oper} {a : Act} {Q : Exit → Act → World → Prop} (hgd : Region.wanted o (yielded ops a.tmps) = true) (s x : Operand) (t : TypeId)
    (ho : o.op = .call { callee := .builtin .append, args := #[s, x], argTypes := #[t, t] })
    (base : Nat) (e : TypeId) (i : TypeInfo) (z : Value) (size bytes : Nat) (ht : P.underlying t = some (.slice e)) (hi : P.info? e = some i) (hz : i.zero = some z)
    (hsize : i.size = size) (hby : i.bytes = bytes) (hzs : z.cells.size = size) (hsz : 0 < size)
    (v : Value) (n : Nat) (xs : List Value) (hs : a.eval s = v) (hown : w.ownsRow base e size v n xs)
    (ad : Addr) (m c : Nat) (news : List Value) (hx : a.eval x = .slice (some ad) m c) (hl : news.length = m * size) (hnews : ∀ j u, news[j]? = some u → w.cell? (ad.add j) = some u) (h1 : ∀ u ∈ news, u.oneCell' = true)
    (h63 : n + m ≤ maxLen) (hbytes : (n + m) * bytes ≤ 140737488355328) (hbase : base ≤ w.heap.size)
    (h : ∀ v' w', w'.ownsRow base e size v' (n + m) (xs ++ news) → w.grownBy w' v.ownBlock → (v' = .slice none 0 0 ↔ v = .slice none 0 0 ∧ m = 0) → wpList P ops Q rest (a.put o.dst v') w') : wpList P ops Q (o :: rest) a w :=
  wpList_step fun _ hK => by
    rw [if_pos hgd]
    exact wp_append_own w s x t ho base e i z size bytes ht hi hz hsize hby hzs hsz v n xs hs hown ad m c news hx hl hnews h1 h63 hbytes hbase fun v' w' h2 h3 h4 => hK _ _ (h v' w' h2 h3 h4)

end Go.Proofs.Ytpehpflgfkdiaaa

/- The kit's LentRatios: each fraction lent, and three more behind them. -/
namespace Go.Proofs.Ytpehpflgfkdiaaa
open Go.RowKit
set_option linter.unusedVariables false

/-- The cells of the first n, one behind the other. -/
def flatL (f : Nat → List Value) : Nat → List Value
  | 0 => []
  | n + 1 => flatL f n ++ f n
theorem flatL_congr {f g : Nat → List Value} : ∀ n, (∀ i, i < n → f i = g i) → flatL f n = flatL g n
  | 0, _ => rfl
  | n + 1, h => by
    show flatL f n ++ f n = flatL g n ++ g n
    rw [flatL_congr n (fun i hi => h i (by omega)), h n (by omega)]
/-- A fraction that is lent: where its rows lie. -/
structure Lt where
  g1 : Nat
  c1 : Nat
  g2 : Nat
  c2 : Nat
instance : Inhabited Lt := ⟨⟨0, 0, 0, 0⟩⟩
def lentV (N : Nat → Bool) (U Y : Nat → List Int) (G : Nat → Lt) (j : Nat) : List Value := [.bool (N j), .slice (some ⟨(G j).g1, 0, none⟩) (U j).length (G j).c1, .slice (some ⟨(G j).g2, 0, none⟩) (Y j).length (G j).c2]
/-- The rows of the first k. -/
structure LtOK (w W : World) (U Y : Nat → List Int) (G : Nat → Lt) (k : Nat) : Prop where
  r1 : ∀ j, j < k → W.ownsRow w.heap.size 36 1 (.slice (some ⟨(G j).g1, 0, none⟩) ((U j).length + 3) (G j).c1) ((U j).length + 3) (((U j) ++ marks 3).map (Value.int .u32))
  r2 : ∀ j, j < k → W.ownsRow w.heap.size 36 1 (.slice (some ⟨(G j).g2, 0, none⟩) ((Y j).length + 3) (G j).c2) ((Y j).length + 3) (((Y j) ++ marks 3).map (Value.int .u32))
  lt : ∀ j, j < k → (G j).g1 < (G j).g2 ∧ (G j).g2 < W.heap.size
  up : ∀ i j, i < j → j < k → (G i).g2 < (G j).g1
theorem LtOK.later {w W W' : World} {U Y : Nat → List Int} {G : Nat → Lt} {k : Nat} (h : LtOK w W U Y G k) (hb : Below W.heap.size W W') : LtOK w W' U Y G k :=
  ⟨fun j hj => owns_later (h.r1 j hj) hb, fun j hj => owns_later (h.r2 j hj) hb, fun j hj => ⟨(h.lt j hj).1, Nat.lt_of_lt_of_le (h.lt j hj).2 hb.size⟩, h.up⟩
theorem LtOK.grown {w W W' : World} {U Y : Nat → List Int} {G : Nat → Lt} {k lo n : Nat} {v : Value} {R : List Value} (h : LtOK w W U Y G k) (hv : W.ownsRow lo 26 3 v n R) (hg : W.grownBy W' v.ownBlock) : LtOK w W' U Y G k :=
  ⟨fun j hj => World.ownsRow.kept (h.r1 j hj) hg (own_unlike3 (h.r1 j hj) hv (by decide)), fun j hj => World.ownsRow.kept (h.r2 j hj) hg (own_unlike3 (h.r2 j hj) hv (by decide)), fun j hj => ⟨(h.lt j hj).1, Nat.lt_of_lt_of_le (h.lt j hj).2 hg.size⟩, h.up⟩
/-- One more. -/
theorem LtOK.more {w W : World} {U Y : Nat → List Int} {G : Nat → Lt} {k : Nat} (h : LtOK w W U Y G k) (x : Lt) (h1 : W.ownsRow w.heap.size 36 1 (.slice (some ⟨x.g1, 0, none⟩) ((U k).length + 3) x.c1) ((U k).length + 3) (((U k) ++ marks 3).map (Value.int .u32))) (h2 : W.ownsRow w.heap.size 36 1 (.slice (some ⟨x.g2, 0, none⟩) ((Y k).length + 3) x.c2) ((Y k).length + 3) (((Y k) ++ marks 3).map (Value.int .u32))) (h3 : x.g1 < x.g2 ∧ x.g2 < W.heap.size) (h4 : ∀ i, i < k → (G i).g2 < x.g1) : LtOK w W U Y (fun i => if i = k then x else G i) (k + 1) := by
  refine ⟨fun j hj => ?_, fun j hj => ?_, fun j hj => ?_, fun i j hij hj => ?_⟩
  · by_cases c : j = k
    · subst c; simp only [if_pos]; exact h1
    · simp only [if_neg c]; exact h.r1 j (by omega)
  · by_cases c : j = k
    · subst c; simp only [if_pos]; exact h2
    · simp only [if_neg c]; exact h.r2 j (by omega)
  · by_cases c : j = k
    · subst c; simp only [if_pos]; exact h3
    · simp only [if_neg c]; exact h.lt j (by omega)
  · by_cases c : j = k
    · subst c
      have ci : ¬ i = j := by omega
      simp only [if_pos, if_neg ci]
      exact h4 i (by omega)
    · have ci : ¬ i = k := by omega
      simp only [if_neg c, if_neg ci]
      exact h.up i j hij (by omega)
theorem lentV_more (N : Nat → Bool) (U Y : Nat → List Int) (G : Nat → Lt) (k : Nat) (x : Lt) : flatL (lentV N U Y (fun i => if i = k then x else G i)) (k + 1) = flatL (lentV N U Y G) k ++ [.bool (N k), .slice (some ⟨x.g1, 0, none⟩) (U k).length x.c1, .slice (some ⟨x.g2, 0, none⟩) (Y k).length x.c2] := by
  show flatL _ k ++ lentV N U Y (fun i => if i = k then x else G i) k = _
  rw [flatL_congr (g := lentV N U Y G) k (fun i hi => by
    have c : ¬ i = k := by omega
    simp only [lentV, if_neg c])]
  simp only [lentV, if_pos]

/-- What stands behind the fractions that are lent. -/
def spV (S : Nat → Nat) (j : Nat) : List Value := [.bool true, .slice (some ⟨S j, 0, none⟩) 1 1, .slice none 0 0]
structure SpOK (w W : World) (S : Nat → Nat) (lo k : Nat) : Prop where
  r : ∀ j, j < k → W.ownsRow w.heap.size 36 1 (.slice (some ⟨S j, 0, none⟩) 1 1) 1 [.int .u32 77]
  lt : ∀ j, j < k → lo ≤ S j ∧ S j < W.heap.size
  up : ∀ i j, i < j → j < k → S i < S j
theorem SpOK.later {w W W' : World} {S : Nat → Nat} {lo k : Nat} (h : SpOK w W S lo k) (hb : Below W.heap.size W W') : SpOK w W' S lo k :=
  ⟨fun j hj => owns_later (h.r j hj) hb, fun j hj => ⟨(h.lt j hj).1, Nat.lt_of_lt_of_le (h.lt j hj).2 hb.size⟩, h.up⟩
theorem SpOK.grown {w W W' : World} {S : Nat → Nat} {lo k l0 n : Nat} {v : Value} {R : List Value} (h : SpOK w W S lo k) (hv : W.ownsRow l0 26 3 v n R) (hg : W.grownBy W' v.ownBlock) : SpOK w W' S lo k :=
  ⟨fun j hj => World.ownsRow.kept (h.r j hj) hg (own_unlike3 (h.r j hj) hv (by decide)), fun j hj => ⟨(h.lt j hj).1, Nat.lt_of_lt_of_le (h.lt j hj).2 hg.size⟩, h.up⟩
theorem SpOK.more {w W : World} {S : Nat → Nat} {lo k : Nat} (h : SpOK w W S lo k) (x : Nat) (h1 : W.ownsRow w.heap.size 36 1 (.slice (some ⟨x, 0, none⟩) 1 1) 1 [.int .u32 77]) (h2 : lo ≤ x ∧ x < W.heap.size) (h3 : ∀ i, i < k → S i < x) : SpOK w W (fun i => if i = k then x else S i) lo (k + 1) := by
  refine ⟨fun j hj => ?_, fun j hj => ?_, fun i j hij hj => ?_⟩
  · by_cases c : j = k
    · subst c; simp only [if_pos]; exact h1
    · simp only [if_neg c]; exact h.r j (by omega)
  · by_cases c : j = k
    · subst c; simp only [if_pos]; exact h2
    · simp only [if_neg c]; exact h.lt j (by omega)
  · by_cases c : j = k
    · subst c
      have ci : ¬ i = j := by omega
      simp only [if_pos, if_neg ci]
      exact h3 i (by omega)
    · have ci : ¬ i = k := by omega
      simp only [if_neg c, if_neg ci]
      exact h.up i j hij (by omega)
theorem spV_more (S : Nat → Nat) (k x : Nat) : flatL (spV (fun i => if i = k then x else S i)) (k + 1) = flatL (spV S) k ++ [.bool true, .slice (some ⟨x, 0, none⟩) 1 1, .slice none 0 0] := by
  show flatL _ k ++ spV (fun i => if i = k then x else S i) k = _
  rw [flatL_congr (g := spV S) k (fun i hi => by
    have c : ¬ i = k := by omega
    simp only [spV, if_neg c])]
  simp only [spV, if_pos]

/-- What LentRatios leaves. -/
def LentAll (w : World) (m : Nat) (N : Nat → Bool) (U Y : Nat → List Int) (v : Value) (G : Nat → Lt) (S : Nat → Nat) (lo : Nat) (W : World) : Prop :=
  W.ownsRow w.heap.size 26 3 v (m + 3) (flatL (lentV N U Y G) m ++ flatL (spV S) 3) ∧ LtOK w W U Y G m ∧ SpOK w W S lo 3 ∧ (∀ j, j < m → (G j).g2 < lo) ∧ Below w.heap.size w W

set_option maxHeartbeats 3200000 in
set_option maxRecDepth 100000 in
theorem lentRatios_any (g o m cp : Nat) (N : Nat → Bool) (A : Nat → Option Addr) (C : Nat → Nat) (U : Nat → List Int) (B : Nat → Option Addr) (D : Nat → Nat) (Y : Nat → List Int) (w : World) (sa : Option Addr) (h : FrM w sa g o m N A C U B D Y) (hm : m ≤ 1000) (hcp : m ≤ cp) (hU : ∀ j, j < m → (U j).length ≤ 549755813888 ∧ (Y j).length ≤ 549755813888) :
    Calls Try.prog 4 #[.slice sa m cp] w fun x w' => ∃ v G S lo, x = .returned v ∧ LentAll w m N U Y v G S lo w' := by
  obtain ⟨i0, hi, hz0, hz1, hz2⟩ := info_parts Try.infoR
  have HL := hid h
  have HU := hid hU
  clear h hU
  go_enter Try.func4, Try.ntmps4
  go_wp2_with fail
  go_loopw [3, 4] (fun v t wr => ∃ (k : Nat) (G : Nat → Lt), k ≤ m ∧ t = .int .i64 k ∧ Hid (wr.ownsRow w.heap.size 26 3 v k (flatL (lentV N U Y G) k) ∧ LtOK w wr U Y G k ∧ Below w.heap.size w wr)) (fun _ t _ => m - (intOf t).toNat)
  case atStart => exact ⟨0, fun _ => default, Nat.zero_le _, rfl, World.ownsRow_nil _ _ _ _, ⟨fun j hj => absurd hj (Nat.not_lt_zero _), fun j hj => absurd hj (Nat.not_lt_zero _), fun j hj => absurd hj (Nat.not_lt_zero _), fun i j _ hj => absurd hj (Nat.not_lt_zero _)⟩, Below.refl _ _⟩
  case round =>
    obtain ⟨k, G, hk, rfl, HI⟩ := hrel
    by_cases hlt : k < m
    · obtain ⟨hsa, hLL⟩ := (HL.out.later HI.out.2.2).of hlt
      subst hsa
      have HLw := hid hLL
      clear hLL
      obtain ⟨e0, e1, e2⟩ := HLw.out.cell k hlt
      have HC := hid (lentRatio_any (N k) (A k) (C k) (U k) (B k) (D k) (Y k) wr (HLw.out.slx k hlt) (HLw.out.sly k hlt) (HU.out k hlt).1 (HU.out k hlt).2)
      have hk0 : (0 : Int) ≤ ↑k := by omega
      have hk1 : (↑k : Int) < ↑m := by omega
      have HM := hid (lentV_more N U Y G k)
      go_wp2_with fail
      refine Calls.mono HC.out ?_
      clear HC e0 e1 e2
      rintro e w1 ⟨g1, c1, g2, c2, rfl, o1, o2, hg12, hb1⟩
      have hsw := HI.out.2.2.size
      have hs1 := hb1.size
      have HLk : Hid (LtOK w w1 U Y (fun i => if i = k then ⟨g1, c1, g2, c2⟩ else G i) (k + 1)) := (HI.out.2.1.later hb1).more ⟨g1, c1, g2, c2⟩ (owns_base o1 hsw) (owns_base o2 hsw) ⟨hg12, (o2.lt g2 rfl).2⟩ (fun i hi => Nat.lt_of_lt_of_le (HI.out.2.1.lt i hi).2 (o1.lt g1 rfl).1)
      have HO1 := hid (owns_later3 HI.out.1 hb1)
      have HB1 := hid (bt HI.out.2.2 hb1)
      have HMk := hid (HM.out ⟨g1, c1, g2, c2⟩)
      generalize flatL (lentV N U Y G) k = R at *
      clear o1 o2 hb1 hg12 HI HM HLw
      have hsx := HB1.out.size
      go_wp2_with (at_builtin; refine wpList_append_own _ rfl _ _ 22 rfl w.heap.size 26 i0 (.agg #[.bool false, .slice none 0 0, .slice none 0 0]) 3 56 Try.underlying22 hi hz0 hz1 hz2 rfl (by decide) _ _ _ rfl (HO1.out.alloc _) ⟨w1.heap.size, 0, none⟩ 1 1 [.bool (N k), .slice (some ⟨g1, 0, none⟩) (U k).length c1, .slice (some ⟨g2, 0, none⟩) (Y k).length c2] rfl rfl (three_cells _ _ _ _ _) (by simp [Value.oneCell']) (by unfold maxLen; omega) (by omega) (by simp; omega) ?_)
      intro v' w2 ho2 hg2 _
      have HR : Hid (w2.ownsRow w.heap.size 26 3 v' (k + 1) (flatL (lentV N U Y (fun i => if i = k then ⟨g1, c1, g2, c2⟩ else G i)) (k + 1)) ∧ LtOK w w2 U Y (fun i => if i = k then ⟨g1, c1, g2, c2⟩ else G i) (k + 1) ∧ Below w.heap.size w w2) := by
        refine ⟨by rw [HMk.out]; exact ho2, (HLk.out.later (alloc_later _ _)).grown (HO1.out.alloc _) hg2, ?_⟩
        exact (HB1.out.alloc hsx _).grown hg2 (by simp; omega) (fun k hk => (HO1.out.lt k hk).1)
      clear ho2 hg2 HMk HLk HO1 HB1
      go_wp2_with fail
      go_roundw
      case rel => exact ⟨k + 1, _, by omega, by go_num, HR⟩
      case measure => simp [intOf]; omega
    · have hkm : k = m := by omega
      subst hkm
      obtain ⟨LO, hLO⟩ : ∃ n, n = wr.heap.size := ⟨_, rfl⟩
      have HH := hid (And.intro HI.out.2.1 (And.intro HI.out.2.2 HI.out.1))
      have H0 : Hid (SpOK w wr (fun _ => 0) LO 0) := ⟨fun j hj => absurd hj (Nat.not_lt_zero _), fun j hj => absurd hj (Nat.not_lt_zero _), fun i j _ hj => absurd hj (Nat.not_lt_zero _)⟩
      have HLO : Hid (LO ≤ wr.heap.size ∧ ∀ j, j < k → (G j).g2 < LO) := ⟨Nat.le_of_eq hLO, fun j hj => by rw [hLO]; exact (HI.out.2.1.lt j hj).2⟩
      clear HI hlt hk hLO HL HU
      generalize hR : flatL (lentV N U Y G) k = R at *
      have HRR := hid hR
      clear hR
      go_wp2_with fail
      go_loopw [3, 5] (fun v t wq => ∃ (j : Nat) (S : Nat → Nat), j ≤ 3 ∧ t = .int .i64 j ∧ Hid (wq.ownsRow w.heap.size 26 3 v (k + j) (R ++ flatL (spV S) j) ∧ LtOK w wq U Y G k ∧ SpOK w wq S LO j ∧ LO ≤ wq.heap.size ∧ Below w.heap.size w wq)) (fun _ t _ => 3 - (intOf t).toNat)
      case atStart => exact ⟨0, fun _ => 0, by omega, rfl, by simpa [flatL] using HH.out.2.2, HH.out.1, H0.out, HLO.out.1, HH.out.2.1⟩
      case round =>
        obtain ⟨j, S, hj, rfl, HJ⟩ := hrel
        by_cases hlt : j < 3
        · have hsz := HJ.out.2.2.2.2.size
          have h77 : Hid ((wr.alloc (.cells #[.int .u32 77] 36)).ownsRow w.heap.size 36 1 (.slice (some ⟨wr.heap.size, 0, none⟩) 1 1) 1 [.int .u32 77]) := World.ownsRow_lit wr #[.int .u32 77] 1 hsz (by unfold maxLen; omega) rfl
          have HSk : Hid (SpOK w (wr.alloc (.cells #[.int .u32 77] 36)) (fun i => if i = j then wr.heap.size else S i) LO (j + 1)) := (HJ.out.2.2.1.later (alloc_later _ _)).more wr.heap.size h77.out ⟨HJ.out.2.2.2.1, by simp⟩ (fun i hi => (HJ.out.2.2.1.lt i hi).2)
          have HLk := hid (HJ.out.2.1.later (alloc_later wr (.cells #[.int .u32 77] 36)))
          have HO1 := hid (owns_later3 HJ.out.1 (alloc_later wr (.cells #[.int .u32 77] 36)))
          have HB1 := hid (bt HJ.out.2.2.2.2 (alloc_later wr (.cells #[.int .u32 77] 36)))
          have HLw := hid HJ.out.2.2.2.1
          have HT3 : Hid (∀ q u, [Value.bool true, .slice (some ⟨wr.heap.size, 0, none⟩) 1 1, .slice none 0 0][q]? = some u → ((wr.alloc (.cells #[.int .u32 77] 36)).alloc (.cells #[.bool true, .slice (some ⟨wr.heap.size, 0, none⟩) 1 1, .slice none 0 0] 26)).cell? ((⟨wr.heap.size + 1, 0, none⟩ : Addr).add q) = some u) := by
            have e := three_cells (wr.alloc (.cells #[.int .u32 77] 36)) (.bool true) (.slice (some ⟨wr.heap.size, 0, none⟩) 1 1) (.slice none 0 0) 26
            rw [World.size_alloc] at e
            exact e
          have HM := hid (spV_more S j wr.heap.size)
          generalize hT : flatL (spV S) j = T at *
          generalize hRT : R ++ T = RT at *
          have HRT := hid hRT
          have hsx := HB1.out.size
          clear HJ hT hRT h77
          go_wp2_with (at_builtin; refine wpList_append_own _ rfl _ _ 22 rfl w.heap.size 26 i0 (.agg #[.bool false, .slice none 0 0, .slice none 0 0]) 3 56 Try.underlying22 hi hz0 hz1 hz2 rfl (by decide) _ _ _ rfl (HO1.out.alloc _) ⟨wr.heap.size + 1, 0, none⟩ 1 1 [.bool true, .slice (some ⟨wr.heap.size, 0, none⟩) 1 1, .slice none 0 0] rfl rfl HT3.out (by simp [Value.oneCell']) (by unfold maxLen; omega) (by omega) (by simp; omega) ?_)
          intro v' w2 ho2 hg2 _
          have HR : Hid (w2.ownsRow w.heap.size 26 3 v' (k + (j + 1)) (R ++ flatL (spV (fun i => if i = j then wr.heap.size else S i)) (j + 1)) ∧ LtOK w w2 U Y G k ∧ SpOK w w2 (fun i => if i = j then wr.heap.size else S i) LO (j + 1) ∧ LO ≤ w2.heap.size ∧ Below w.heap.size w w2) := by
            refine ⟨by rw [HM.out, ← List.append_assoc, HRT.out]; exact ho2, (HLk.out.later (alloc_later _ _)).grown (HO1.out.alloc _) hg2, (HSk.out.later (alloc_later _ _)).grown (HO1.out.alloc _) hg2, ?_, ?_⟩
            · have e1 := hg2.size
              have e2 := HLw.out
              simp at e1
              omega
            · exact (HB1.out.alloc hsx _).grown hg2 (by simp; omega) (fun k hk => (HO1.out.lt k hk).1)
          clear ho2 hg2 HM HSk HLk HO1 HB1 HRT
          go_wp2_with fail
          go_roundw
          case rel => exact ⟨j + 1, _, by omega, by go_num, HR⟩
          case measure => simp [intOf]; omega
        · have hj3 : j = 3 := by omega
          subst hj3
          have HRS : Hid (LentAll w k N U Y _ G S LO wr) := ⟨by rw [HRR.out]; exact HJ.out.1, HJ.out.2.1, HJ.out.2.2.1, HLO.out.2, HJ.out.2.2.2.2⟩
          clear HJ
          go_wp2_with fail
          go_ret
          exact ⟨_, G, S, LO, rfl, HRS.out⟩

end Go.Proofs.Ytpehpflgfkdiaaa

