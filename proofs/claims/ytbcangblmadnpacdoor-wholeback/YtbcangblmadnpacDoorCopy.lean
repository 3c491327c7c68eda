/- slackwaterkit.CopyWords tells the same words in new memory; slackwaterkit.LentWords has three marked words behind them; slackwaterref01.Trim drops the noughts at the end: of every list that can be read. -/
import Derived.Test.YtbcangblmadnpacDoorTrim
namespace Go.Proofs.YtbcangblmadnpacDoor
open Go.RowKit
set_option linter.unusedVariables false

theorem copy_news {w : World} {B : Nat} {ad : Addr} {n cap : Nat} {zs : List Int} (h : Reads w B (some ad) n cap zs) :
    ∀ j v, (zs.map (Value.int .u32))[j]? = some v → w.cell? (ad.add j) = some v := by
  intro j v hj
  have hj1 := (List.getElem?_eq_some_iff.1 hj).1
  have hl := h.1
  simp only [List.length_map] at hj1
  obtain ⟨ad', e, hc⟩ := copy_cells h n (Nat.le_refl _) (by omega)
  rw [← Option.some.inj e] at hc
  exact hc j v (by rw [List.take_of_length_le (by omega)]; exact hj)

set_option maxHeartbeats 800000 in
set_option maxRecDepth 100000 in
theorem copyWords_any (a : Option Addr) (n cap : Nat) (xs : List Int) (w : World) (h : Reads w w.heap.size a n cap xs) (hn : n ≤ 1099511627776) :
    Calls Tryd.prog 33 #[.slice a n cap] w fun e w' => ∃ v, e = .returned v ∧ w'.ownsRow w.heap.size 40 1 v n (xs.map (Value.int .u32)) ∧ Below w.heap.size w w' := by
  obtain ⟨i0, hi, hz0, hz1, hz2⟩ := info_parts Tryd.infoW
  have hl := h.1
  have HL : Hid (xs.length = n) := hl
  have hown : (w.alloc (.cells #[] 40)).ownsRow w.heap.size 40 1 (.slice (some ⟨w.heap.size, 0, none⟩) 0 0) 0 [] := World.ownsRow_lit w #[] 0 (Nat.le_refl _) (Nat.zero_le _) rfl
  have hbel : Below w.heap.size w (w.alloc (.cells #[] 40)) := (Below.refl _ _).alloc (Nat.le_refl _) _
  cases a with
  | none =>
    have h0 : cap = 0 := h.2.2.2.2.2 rfl
    subst h0
    have h1 : n = 0 := by have := h.2.2.2.1; omega
    subst h1
    have hx : xs = [] := List.eq_nil_of_length_eq_zero hl
    subst hx
    clear h hl
    go_enter Tryd.func33, Tryd.ntmps33
    go_wp2_with (at_builtin; refine wpList_append_own_none rfl _ _ 22 rfl w.heap.size 40 i0 1 Tryd.underlying22 hi _ 0 [] rfl hown rfl ?_)
    go_ret
    exact ⟨_, rfl, hown, hbel⟩
  | some ad =>
    have hnews := copy_news (h.later hbel (Nat.le_refl _))
    have HN : Hid (∀ j v, (xs.map (Value.int .u32))[j]? = some v → (w.alloc (.cells #[] 40)).cell? (ad.add j) = some v) := hnews
    have HLn : Hid ((xs.map (Value.int .u32)).length = n * 1) := by show _ = _; simp [hl]
    clear hnews h hl
    go_enter Tryd.func33, Tryd.ntmps33
    go_wp2_with (at_builtin; refine wpList_append_own _ rfl _ _ 22 rfl w.heap.size 40 i0 (.int .u32 0) 1 4 Tryd.underlying22 hi hz0 hz1 hz2 rfl (by decide) _ 0 [] rfl hown ad n cap (xs.map (Value.int .u32)) rfl HLn.out HN.out (ints_oneCell _ _) (by unfold maxLen; omega) (by omega) (by simp) ?_)
    intro v' w1 hown' hgrow _
    have hb2 : Below w.heap.size w w1 := hbel.grown hgrow (by simp) (fun k hk => by simp [Value.ownBlock] at hk; omega)
    go_wp2
    go_ret
    exact ⟨_, rfl, hown', hb2⟩

/-- What stands behind a list that is lent. -/
def marks (k : Nat) : List Int := [2882343476, 2882343477, 2882343478].take k
theorem marks_succ (k : Nat) (h : k < 3) : marks (k + 1) = marks k ++ [2882343476 + (k : Int)] := by
  match k, h with
  | 0, _ => rfl
  | 1, _ => rfl
  | 2, _ => rfl
theorem marks_len (k : Nat) (h : k ≤ 3) : (marks k).length = k := by simp [marks]; omega
theorem Wd.marks (k : Nat) : Wd (marks k) := by
  intro z hz
  have := List.mem_of_mem_take hz
  simp at this
  omega

set_option maxHeartbeats 1600000 in
set_option maxRecDepth 100000 in
theorem lentWords_any (a : Option Addr) (n cap : Nat) (xs : List Int) (w : World) (h : Reads w w.heap.size a n cap xs) (hn : n ≤ 549755813888) :
    Calls Tryd.prog 21 #[.slice a n cap] w fun e w' => ∃ v, e = .returned v ∧ w'.ownsRow w.heap.size 40 1 v (n + 3) ((xs ++ marks 3).map (Value.int .u32)) ∧ Below w.heap.size w w' := by
  obtain ⟨i0, hi, hz0, hz1, hz2⟩ := info_parts Tryd.infoW
  go_enter Tryd.func21, Tryd.ntmps21
  go_wp2_with fail
  refine (copyWords_any a n cap xs w h (by omega)).mono ?_
  rintro e w1 ⟨v, rfl, hown, hbel⟩
  go_wp2_with fail
  go_loopw [3, 4] (fun v t wr => ∃ k : Nat, k ≤ 3 ∧ t = .int .i64 k ∧ wr.ownsRow w.heap.size 40 1 v (n + k) ((xs ++ marks k).map (Value.int .u32)) ∧ Below w.heap.size w wr) (fun _ t _ => 3 - (intOf t).toNat)
  case atStart => exact ⟨0, by omega, rfl, by simpa [marks] using hown, hbel⟩
  case round =>
    obtain ⟨k, hk, rfl, ho, hb⟩ := hrel
    by_cases hlt : k < 3
    · have hsz := hb.size
      obtain ⟨R, hR⟩ : ∃ R, R = (xs ++ marks k).map (Value.int .u32) := ⟨_, rfl⟩
      rw [← hR] at ho
      have HM : Hid ((xs ++ marks (k + 1)).map (Value.int .u32) = R ++ [.int .u32 (2882343476 + (k : Int))]) := by
        show _ = _
        rw [marks_succ k hlt, hR]; simp
      clear hR
      go_wp2_with (at_builtin; refine wpList_append_own _ rfl _ _ 22 rfl w.heap.size 40 i0 (.int .u32 0) 1 4 Tryd.underlying22 hi hz0 hz1 hz2 rfl (by decide) _ _ _ rfl (ho.alloc _) ⟨wr.heap.size, 0, none⟩ 1 1 [.int .u32 (2882343476 + (k : Int))] rfl rfl (cell_one_new _ _ _) (by simp [Value.oneCell']) (by unfold maxLen; omega) (by omega) (by simp; omega) ?_)
      intro v' w2 ho2 hg2 _
      have hb2 : Below w.heap.size w w2 := (hb.alloc (by omega) _).grown hg2 (by simp; omega) (fun g hg => (ho.lt g hg).1)
      clear hg2
      go_wp2
      go_roundw
      case rel => exact ⟨k + 1, by omega, by go_num, by rw [HM.out]; exact ho2, hb2⟩
      case measure => simp [intOf]; omega
    · have hk3 : k = 3 := by omega
      subst hk3
      go_wp2
      go_ret
      exact ⟨_, rfl, ho, hb⟩

set_option maxHeartbeats 1600000 in
set_option maxRecDepth 100000 in
theorem refTrim_any (a : Option Addr) (n cap : Nat) (xs : List Int) (w : World) (h : Reads w w.heap.size a n cap xs) (hn : n ≤ 1099511627776) :
    Calls Tryd.prog 55 #[.slice a n cap] w fun e w' => ∃ v, e = .returned v ∧ w'.ownsRow w.heap.size 40 1 v (sz xs) ((trimmed xs).map (Value.int .u32)) ∧ Below w.heap.size w w' := by
  obtain ⟨i0, hi, hz0, hz1, hz2⟩ := info_parts Tryd.infoW
  have hl := h.1
  have hcap := h.2.2.2.1
  have hcm := h.2.2.2.2.1
  unfold maxLen at hcm
  rcases h.2.2.1 with h0 | ⟨b, o, rfl, hb, hc⟩
  · subst h0
    have hx : xs = [] := List.eq_nil_of_length_eq_zero hl
    subst hx
    have HF : Hid (w.ownsRow w.heap.size 40 1 (.slice none 0 0) (sz []) ((trimmed []).map (Value.int .u32))) := World.ownsRow_nil _ _ _ _
    cases a with
    | none =>
      obtain rfl : cap = 0 := h.2.2.2.2.2 rfl
      clear h hl
      go_enter Tryd.func55, Tryd.ntmps55
      go_wp2
      refine wp_loop_rounds 1 ?_
      rw [rounds_succ]
      go_wp2_with (at_builtin; refine wpList_append_own_none rfl _ _ 22 rfl w.heap.size 40 i0 1 Tryd.underlying22 hi _ 0 [] rfl (World.ownsRow_nil _ _ _ _) rfl ?_)
      go_ret
      exact ⟨_, rfl, HF.out, Below.refl _ _⟩
    | some ad =>
      clear h hl
      go_enter Tryd.func55, Tryd.ntmps55
      go_wp2
      refine wp_loop_rounds 1 ?_
      rw [rounds_succ]
      go_wp2_with fail
      go_ret
      exact ⟨_, rfl, HF.out, Below.refl _ _⟩
  · have HL : Hid (xs.length = n) := hl
    have HR : Hid (Reads w w.heap.size (some ⟨b, o, none⟩) n cap xs) := h
    clear h hl
    go_enter Tryd.func55, Tryd.ntmps55
    go_wp2
    go_loop [3] (fun t => ∃ k : Nat, k ≤ n ∧ t = .int .i64 k ∧ Hid (szTo xs k = sz xs)) (fun t => (intOf t).toNat)
    case atStart => exact ⟨n, Nat.le_refl _, rfl, show _ = _ by rw [sz, HL.out]⟩
    case round =>
      obtain ⟨k, hk, rfl, HS⟩ := hrel
      rcases k with _ | k
      · have HF : Hid (w.ownsRow w.heap.size 40 1 (.slice none 0 0) (sz xs) ((trimmed xs).map (Value.int .u32))) := by
          show World.ownsRow _ _ _ _ _ _ _
          unfold trimmed
          rw [show sz xs = 0 from HS.out.symm]
          exact World.ownsRow_nil _ _ _ _
        go_wp2_with fail
        go_ret
        exact ⟨_, rfl, HF.out, Below.refl _ _⟩
      · have hcx := hc k (by omega)
        by_cases hz : xs[k]?.getD 0 = 0
        · have hzb : (xs[k]?.getD 0 == 0) = true := by simp [hz]
          have HS' : Hid (szTo xs k = sz xs) := by show _ = _; rw [← HS.out, szTo_zero xs k hz]
          clear hz
          go_wp2
          go_round
          case rel => exact ⟨k, by omega, by go_num, HS'⟩
          case measure => simp [intOf]
        · have hzb : (xs[k]?.getD 0 == 0) = false := by simp [hz]
          have hs1 : sz xs = k + 1 := by rw [← HS.out, szTo_keep xs k hz]
          have ht : trimmed xs = xs.take (k + 1) := by unfold trimmed; rw [hs1]
          obtain ⟨R, hR⟩ : ∃ R, R = (trimmed xs).map (Value.int .u32) := ⟨_, rfl⟩
          have HN : Hid (∀ j v, R[j]? = some v → w.cell? ((⟨b, o, none⟩ : Addr).add j) = some v) := by
            rw [hR, ht]
            exact copy_news (HR.out.front (k + 1) (by omega))
          have HLn : Hid (R.length = (k + 1) * 1) := by
            show _ = _
            have := HL.out
            rw [hR, ht]; simp; omega
          have H1 : Hid (∀ u ∈ R, u.oneCell' = true) := by rw [hR]; exact ints_oneCell _ _
          have HS1 : Hid (sz xs = k + 1) := hs1
          have HR' : Hid (R = (trimmed xs).map (Value.int .u32)) := hR
          clear hs1 ht hz hR
          go_wp2_with (at_builtin; refine wpList_append_own _ rfl _ _ 22 rfl w.heap.size 40 i0 (.int .u32 0) 1 4 Tryd.underlying22 hi hz0 hz1 hz2 rfl (by decide) _ 0 [] rfl (World.ownsRow_nil _ _ _ _) ⟨b, o, none⟩ (k + 1) cap R rfl HLn.out HN.out H1.out (by unfold maxLen; omega) (by omega) (Nat.le_refl _) ?_)
          intro v' w1 hown' hgrow _
          have hb2 : Below w.heap.size w w1 := (Below.refl _ _).grown hgrow (Nat.le_refl _) (fun k hk => by simp [Value.ownBlock] at hk)
          go_wp2
          go_ret
          exact ⟨_, rfl, by rw [HS1.out, ← HR'.out]; simpa using hown', hb2⟩
end Go.Proofs.YtbcangblmadnpacDoor
