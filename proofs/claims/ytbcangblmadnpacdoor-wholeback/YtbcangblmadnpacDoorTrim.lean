/- nat.Trim tells the list without the noughts at its end, in new memory: of every list that can be read. -/
import Derived.Test.YtbcangblmadnpacDoorLook
import Derived.Deep.LoopGhost
namespace Go.Proofs.YtbcangblmadnpacDoor
open Go.RowKit
set_option linter.unusedVariables false

theorem Tryd.infoW : (Tryd.prog.info? 40).map (fun i => (i.zero, i.size, i.bytes)) = some (some (.int .u32 0), 1, 4) := by kernel_rfl

/-- The whole row of a slice that the call itself made, full to its capacity. -/
theorem row_whole {w : World} {base e g n : Nat} {xs : List Value} (h : w.ownsRow base e 1 (.slice (some ⟨g, 0, none⟩) n n) n xs) : w.heap[g]? = some (.cells xs.toArray e (0, 0)) := by
  rcases h.2 with ⟨h', _⟩ | ⟨g', cap', cur, h', _, hg, _, _, hcs, ht⟩
  · simp at h'
  · simp only [Value.slice.injEq, Option.some.injEq, Addr.mk.injEq, and_true, true_and] at h'
    obtain ⟨rfl, rfl⟩ := h'
    rw [List.take_of_length_le (by simp [hcs])] at ht
    rw [hg, ← ht]
theorem whole_row {w : World} {base e g n : Nat} {xs : List Value} (h : w.heap[g]? = some (.cells xs.toArray e (0, 0))) (hn : xs.length = n) (hb : base ≤ g) (hm : n ≤ maxLen) : w.ownsRow base e 1 (.slice (some ⟨g, 0, none⟩) n n) n xs :=
  ⟨by omega, .inr ⟨g, n, xs.toArray, rfl, hb, h, Nat.le_refl _, hm, by simp [hn], List.take_of_length_le (by simp; omega)⟩⟩
theorem splice_all {α : Type} (L cs : List α) (h : cs.length = L.length) : splice L 0 cs = cs := by
  simp [splice, h]
theorem made_words (n : Nat) : (madeCells #[Value.int .u32 0] n).toList = (List.replicate n (0 : Int)).map (Value.int .u32) := by
  rw [toList_madeCells_one]; simp

/-- The first k words of a slice that is read, as cells: for a copy, for an append. -/
theorem copy_cells {w : World} {B : Nat} {a : Option Addr} {n cap : Nat} {zs : List Int} (h : Reads w B a n cap zs) (k : Nat) (hk : k ≤ n) (hp : 0 < k) :
    ∃ ad, a = some ad ∧ ∀ j v, ((zs.take k).map (Value.int .u32))[j]? = some v → w.cell? (ad.add j) = some v := by
  rcases h.2.2.1 with h0 | ⟨b, o, ha, hb, hc⟩
  · omega
  · refine ⟨_, ha, fun j v hj => ?_⟩
    have hj1 := (List.getElem?_eq_some_iff.1 hj).1
    simp only [List.length_map, List.length_take] at hj1
    rw [Addr.add_lit, hc j (by omega), ← hj, List.getElem?_map, List.getElem?_take, if_pos (by omega), List.getElem?_eq_getElem (by omega)]
    rfl

set_option maxHeartbeats 1600000 in
set_option maxRecDepth 100000 in
theorem trim_any (a : Option Addr) (n cap : Nat) (xs : List Int) (w : World) (h : Reads w w.heap.size a n cap xs) (hn : n ≤ 1099511627776) :
    Calls Tryd.prog 64 #[.slice a n cap] w fun e w' => ∃ v, e = .returned v ∧ w'.ownsRow w.heap.size 40 1 v (sz xs) ((trimmed xs).map (Value.int .u32)) ∧ Below w.heap.size w w' := by
  obtain ⟨i0, hi, hz0, hz1, hz2⟩ := info_parts Tryd.infoW
  have hl := h.1
  have sx := sz_le xs
  rw [hl] at sx
  obtain ⟨s, hs⟩ : ∃ s, s = sz xs := ⟨_, rfl⟩
  have hc := size_any a n cap xs _ w h (by omega)
  have HT : Hid ((trimmed xs).length = s) := by rw [hs]; exact length_trimmed xs
  rw [← hs] at hc sx ⊢
  have HC := hid hc
  have HR : Hid (Reads w w.heap.size a n cap xs) := h
  have HS : Hid (s = sz xs) := hs
  clear hc h hl hs
  go_enter Tryd.func64, Tryd.ntmps64
  go_wp2_with fail
  refine Calls.mono HC.out ?_
  rintro e w' ⟨rfl, rfl⟩
  go_wp2_with (at_make; refine wpList_make_full _ rfl _ _ 22 rfl w.heap.size 40 i0 (.int .u32 0) 1 Tryd.underlying22 hi hz0 hz1 _ _ _ _ s rfl rfl (by omega) (by omega) (by rw [hz2]; omega) (by unfold maxLen; omega) (Nat.le_refl _) ?_)
  intro w1 hown hgrow
  have hbel : Below w.heap.size w w1 := (Below.refl _ _).grown hgrow (Nat.le_refl _) (fun k hk => by simp at hk)
  have hsz : w.heap.size < w1.heap.size := (hown.lt _ rfl).2
  have HO : Hid (w1.heap[w.heap.size]? = some (.cells (((List.replicate s (0 : Int)).map (Value.int .u32)).toArray) 40 (0, 0))) := by
    have := row_whole hown
    rw [made_words] at this
    exact this
  clear hown hgrow
  have HQ := HR.out.later hbel (Nat.le_refl _)
  have ht := HT.out
  have k1 : Hid (((trimmed xs).map (Value.int .u32)).length = Nat.min n s) := by
    show _ = _
    rw [List.length_map, ht]; exact (Nat.min_eq_right sx).symm
  have k2 : Hid (0 < ((trimmed xs).map (Value.int .u32)).length → ∃ ad, a = some ad ∧ ∀ j v, ((trimmed xs).map (Value.int .u32))[j]? = some v → w1.cell? (ad.add j) = some v) := fun hp => by
    rw [List.length_map, ht] at hp
    have := copy_cells HQ s sx hp
    rw [HS.out] at this
    exact this
  have k3 : Hid (0 + ((trimmed xs).map (Value.int .u32)).length ≤ ((List.replicate s (0 : Int)).map (Value.int .u32)).length) := by
    show _ ≤ _
    simp only [List.length_map, List.length_replicate, ht]; omega
  have k5 : Hid (((trimmed xs).map (Value.int .u32)).length = s) := by
    show _ = _
    simp only [List.length_map, ht]
  clear ht HQ
  go_wp2_with (refine wpList_copy_splice rfl (.tmp 7) (.tmp 8) 22 22 rfl 40 Tryd.underlying22 (by rw [hi]; simp [hz1]) _ a s s n cap rfl rfl w.heap.size 0 _ 40 HO.out ((trimmed xs).map (Value.int .u32)) k1.out (fun hp => ⟨rfl, k2.out hp⟩) k3.out (ints_oneCell _ _) w.heap.size w hbel (Nat.le_refl _) ?_)
  intro w2 HG hb2
  go_wp2
  go_ret
  refine ⟨_, rfl, ?_, hb2⟩
  have hg := HG.out
  rw [splice_all _ _ (by rw [k5.out]; simp)] at hg
  exact whole_row hg k5.out (Nat.le_refl _) (by unfold maxLen; omega)
end Go.Proofs.YtbcangblmadnpacDoor
