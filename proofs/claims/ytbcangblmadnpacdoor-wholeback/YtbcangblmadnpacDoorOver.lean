/- slackwaterkit.KeptWords: does a list still hold the words and the marks behind them; slackwaterkit.OverWords writes over a list's words and its spare room, and over nothing else. -/
import Derived.Test.YtbcangblmadnpacDoorCopy
namespace Go.Proofs.YtbcangblmadnpacDoor
open Go.RowKit
set_option linter.unusedVariables false

set_option maxHeartbeats 800000 in
set_option maxRecDepth 100000 in
theorem keptWords_any (a : Option Addr) (n cap : Nat) (xs : List Int) (b : Option Addr) (m cap' : Nat) (ys : List Int) (w : World) (h : Reads w w.heap.size a n cap xs) (g : Reads w w.heap.size b m cap' ys) (hn : n ≤ 549755813888) (hm : m ≤ 274877906944) :
    Calls Tryd.prog 32 #[.slice a n cap, .slice b m cap'] w fun e w' => e = .returned (.bool (decide (xs = ys ++ marks 3))) ∧ Below w.heap.size w w' := by
  go_enter Tryd.func32, Tryd.ntmps32
  go_wp2_with fail
  refine (lentWords_any b m cap' ys w g (by omega)).mono ?_
  rintro e w1 ⟨v, rfl, hown, hbel⟩
  obtain ⟨a1, c1, hv, hr⟩ := Reads.own hown (g.2.1.append (Wd.marks 3))
  rw [hv]
  go_wp2_with fail
  refine (same_any a n cap xs a1 (m + 3) c1 (ys ++ marks 3) w1 (h.later hbel hbel.size) hr (by omega) (by omega)).mono ?_
  rintro e w2 ⟨rfl, hb2⟩
  go_wp2
  go_ret
  exact ⟨rfl, hbel.trans (hb2.mono hbel.size)⟩

/-- Each word turned over. -/
def compl (xs : List Int) : List Int := xs.map (fun x => 4294967295 - x)
theorem compl_get (xs : List Int) (j : Nat) (h : j < xs.length) : (compl xs)[j]?.getD 0 = 4294967295 - xs[j]?.getD 0 := by simp [compl, h]
theorem compl_len (xs : List Int) : (compl xs).length = xs.length := by simp [compl]
theorem Wd.compl {xs : List Int} (h : Wd xs) : Wd (compl xs) := by
  intro z hz
  obtain ⟨x, hx, rfl⟩ := List.mem_map.1 hz
  have := h x hx
  omega
/-- The first k words turned over, the others as they were. -/
def part (xs : List Int) (k : Nat) : List Int := compl (xs.take k) ++ xs.drop k
theorem part_zero (xs : List Int) : part xs 0 = xs := by simp [part, compl]
theorem part_len (xs : List Int) (k : Nat) : (part xs k).length = xs.length := by simp [part, compl]; omega
theorem part_all (xs : List Int) (k : Nat) (h : xs.length ≤ k) : part xs k = compl xs := by
  simp [part, List.take_of_length_le h, List.drop_eq_nil_of_le h]
theorem part_at (xs : List Int) (k : Nat) (h : k < xs.length) : (part xs k)[k]? = some (xs[k]?.getD 0) := by
  simp [part, compl, List.getElem?_append, h]
  rw [if_neg (by omega)]
  rw [show k - min k xs.length = 0 by omega]
  simp [h]
theorem part_succ (xs : List Int) (k : Nat) (h : k < xs.length) : part xs (k + 1) = (part xs k).set k (4294967295 - xs[k]?.getD 0) := by
  refine List.ext_getElem? fun j => ?_
  rw [List.getElem?_set]
  simp only [part_len]
  by_cases e : k = j
  · subst e
    rw [if_pos rfl, if_pos h]
    simp [part, compl, List.getElem?_append, h]
    omega
  · rw [if_neg e]
    simp only [part, compl, List.getElem?_append, List.length_map, List.length_take, List.getElem?_map, List.getElem?_take, List.getElem?_drop]
    by_cases e2 : j < k
    · rw [if_pos (by omega), if_pos (by omega), if_pos (by omega), if_pos (by omega)]
    · rw [if_neg (by omega), if_neg (by omega)]
      congr 1
      omega

/-- A prefix of what is owned is owned. -/
theorem owns_front {w : World} {base e g n k cap : Nat} {xs ys : List Value} (h : w.ownsRow base e 1 (.slice (some ⟨g, 0, none⟩) (n + k) cap) (n + k) (xs ++ ys)) (hx : xs.length = n) : w.ownsRow base e 1 (.slice (some ⟨g, 0, none⟩) n cap) n xs := by
  rcases h.2 with ⟨h', _⟩ | ⟨g', cap', cur, h', hb, hg, h1, h2, h3, h4⟩
  · simp at h'
  · simp only [Value.slice.injEq, Option.some.injEq, Addr.mk.injEq, and_true, true_and] at h'
    obtain ⟨rfl, rfl⟩ := h'
    refine ⟨by omega, .inr ⟨g, cap, cur, rfl, hb, hg, by omega, h2, h3, ?_⟩⟩
    have := congrArg (List.take n) h4
    rw [List.take_take, List.take_append_of_le_length (by omega), List.take_of_length_le (l := xs) (by omega), Nat.mul_one, Nat.min_eq_left (by omega)] at this
    rw [Nat.mul_one]; exact this

theorem not_nat (n : Nat) (h : n < 4294967296) : 4294967295 ^^^ n = 4294967295 - n := by
  refine Nat.eq_of_testBit_eq fun i => ?_
  have e1 : (4294967295 : Nat) = 2 ^ 32 - 1 := by decide
  have e2 : 4294967295 - n = 2 ^ 32 - (n + 1) := by omega
  rw [e2, Nat.testBit_two_pow_sub_succ (by omega), Nat.testBit_xor, e1, Nat.testBit_two_pow_sub_one]
  by_cases hi : i < 32
  · simp [hi]
  · have : n.testBit i = false := Nat.testBit_lt_two_pow (Nat.lt_of_lt_of_le h (by
      have := Nat.pow_le_pow_right (n := 2) (by omega) (show 32 ≤ i by omega)
      omega))
    simp [hi, this]
theorem not_u32 (x : Int) (h0 : 0 ≤ x) (h1 : x ≤ 4294967295) : bits BinOp.xor IntKind.u32 (if IntKind.u32.signed = true then -1 else IntKind.u32.max) x = 4294967295 - x := by
  have e : (if IntKind.u32.signed = true then (-1 : Int) else IntKind.u32.max) = 4294967295 := by decide
  rw [e, u32_xor _ _ (by omega) (by omega) h0 (by omega)]
  have := not_nat x.toNat (by omega)
  have e2 : Int.toNat 4294967295 = 4294967295 := rfl
  rw [e2, this]
  omega

theorem grown_trans {a b c : World} {r : Option Nat} (h : a.grownBy b r) (g : b.grownBy c r) : a.grownBy c r :=
  ⟨g.os.trans h.os, g.tape.trans h.tape, g.output.trans h.output, Nat.le_trans h.size g.size, fun k hk hr => (g.block k (Nat.lt_of_lt_of_le hk h.size) hr).trans (h.block k hk hr)⟩

set_option maxHeartbeats 1600000 in
set_option maxRecDepth 100000 in
theorem over_own (base g n cap : Nat) (xs : List Int) (w : World) (hw : Wd xs) (h : w.ownsRow base 40 1 (.slice (some ⟨g, 0, none⟩) n cap) n (xs.map (Value.int .u32))) :
    Calls Tryd.prog 35 #[.slice (some ⟨g, 0, none⟩) n cap] w fun e w' => e = .returned (.tuple #[]) ∧ w'.ownsRow base 40 1 (.slice (some ⟨g, 0, none⟩) n cap) n ((compl xs).map (Value.int .u32)) ∧ w.grownBy w' (some g) := by
  obtain ⟨i0, hi, hz0, hz1, hz2⟩ := info_parts Tryd.infoW
  have hl : xs.length = n := by have := h.1; simpa using this
  have HL := hid hl
  obtain ⟨hnc, hcm⟩ : n ≤ cap ∧ cap ≤ maxLen := by
    rcases h.2 with ⟨h', _⟩ | ⟨g', cap', cur, h', hb, hg, h1, h2, h3, h4⟩
    · simp at h'
    · simp only [Value.slice.injEq, Option.some.injEq, Addr.mk.injEq, and_true, true_and] at h'
      obtain ⟨rfl, rfl⟩ := h'
      exact ⟨h1, h2⟩
  have hcm' : cap ≤ 9223372036854775807 := by unfold maxLen at hcm; omega
  clear hl
  go_enter Tryd.func35, Tryd.ntmps35
  go_wp2
  go_loopw [3] (fun t wr => ∃ k : Nat, k ≤ n ∧ t = .int .i64 k ∧ wr.ownsRow base 40 1 (.slice (some ⟨g, 0, none⟩) n cap) n ((part xs k).map (Value.int .u32)) ∧ w.grownBy wr (some g)) (fun t _ => n - (intOf t).toNat)
  case atStart => exact ⟨0, Nat.zero_le _, rfl, by rw [part_zero]; exact h, World.grownBy.refl _ _⟩
  case round =>
    obtain ⟨k, hk, rfl, ho, hg⟩ := hrel
    by_cases hlt : k < n
    · have hcx : wr.cell? ⟨g, k, none⟩ = some (.int .u32 (xs[k]?.getD 0)) := by
        rw [ho.cellAt k (by omega), List.getElem?_map, part_at xs k (by rw [HL.out]; exact hlt)]; rfl
      have hfx : wr.frozen? ⟨g, k, none⟩ = false := ho.frozenAt k
      have hbd := hw.at k
      have hst := ho.stored k (Value.int .u32 (4294967295 - xs[k]?.getD 0))
      rw [← List.map_set, ← part_succ xs k (by rw [HL.out]; exact hlt)] at hst
      have HST := hid hst
      clear hst
      go_wp2
      go_roundw
      case rel => exact ⟨k + 1, by omega, by go_num, by rw [not_u32 _ hbd.1 hbd.2]; exact HST.out.1, by rw [not_u32 _ hbd.1 hbd.2]; exact grown_trans hg HST.out.2⟩
      case measure => simp [intOf]; omega
    · have hkn : k = n := by omega
      subst hkn
      rw [part_all xs k (by rw [HL.out]; omega)] at ho
      obtain ⟨w2, hw2⟩ : ∃ w2, w2 = wr := ⟨_, rfl⟩
      subst hw2
      have HO := hid ho
      have HG := hid hg
      clear ho hg
      go_wp2
      go_loopw [0, 4] (fun l t wr => ∃ c : Nat, k + c ≤ cap ∧ t = .int .i64 ((k : Int) + c) ∧ l = .slice (some ⟨g, 0, none⟩) (k + c) cap ∧ wr.ownsRow base 40 1 (.slice (some ⟨g, 0, none⟩) (k + c) cap) (k + c) ((compl xs).map (Value.int .u32) ++ List.replicate c (.int .u32 2882343476)) ∧ w.grownBy wr (some g)) (fun _ t _ => cap - (intOf t).toNat)
      case atStart => exact ⟨0, by omega, by go_num, rfl, by simpa using HO.out, HG.out⟩
      case round =>
        obtain ⟨c, hc, rfl, rfl, ho, hg⟩ := hrel
        by_cases hlt : k + c < cap
        · obtain ⟨R, hR⟩ : ∃ R, R = (compl xs).map (Value.int .u32) ++ List.replicate c (.int .u32 2882343476) := ⟨_, rfl⟩
          have HM : Hid ((compl xs).map (Value.int .u32) ++ List.replicate (c + 1) (.int .u32 2882343476) = R ++ [.int .u32 2882343476]) := by
            show _ = _
            rw [hR, List.append_assoc, ← List.replicate_succ']
          rw [← hR] at ho
          clear hR
          go_wp2_with (at_builtin; refine wpList_append_fits _ rfl _ _ 22 rfl base 40 i0 1 Tryd.underlying22 hi hz1 g (k + c) cap R rfl (ho.alloc _) ⟨wr.heap.size, 0, none⟩ 1 1 [.int .u32 2882343476] rfl rfl (cell_one_new _ _ _) (by simp [Value.oneCell']) (by omega) ?_)
          intro w3 ho3 hg3
          have hg4 : w.grownBy w3 (some g) := grown_trans (grown_trans hg (World.grownBy_alloc _ _ _)) hg3
          clear hg3
          go_wp2
          go_roundw
          case rel => exact ⟨c + 1, by omega, by go_num, by simp; omega, by rw [HM.out]; exact ho3, hg4⟩
          case measure => simp [intOf]; omega
        · have hkc : k + c = cap := by omega
          have HF : Hid (wr.ownsRow base 40 1 (.slice (some ⟨g, 0, none⟩) k cap) k ((compl xs).map (Value.int .u32))) := owns_front ho (by simp [compl, HL.out])
          clear ho
          go_wp2
          go_end0
          exact ⟨rfl, HF.out, hg⟩
end Go.Proofs.YtbcangblmadnpacDoor
