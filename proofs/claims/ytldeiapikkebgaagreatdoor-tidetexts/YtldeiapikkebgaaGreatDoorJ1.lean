/- My texts on the way to TideTexts, one behind the other: contracts of the program and of the document's answers. -/
import Derived.WalkKit
import Derived.WalkLawsBesides
import Derived.WalkSpells
import Derived.Laws.BitsAllLaws
import Derived.Laws.CopyOwn
import Derived.Laws.AppendOwnNone
import Derived.Test.YtldeiapikkebgaaGreatDoorChecked
import Derived.Handy
import Derived.Deep.RegionHeld3
import Derived.Test.YtldeiapikkebgaaGreatDoorRows
import Derived.Deep.LoopGhost
import Derived.BigQuiet
import Derived.Lib.BitFns
import Derived.Deep.RegionWith
import Derived.Lib.ItoaNum
/- Lists of 32-bit words as plain data: their trimmed length, their value, when they are read out of memory. Nothing here speaks of the program. -/
namespace Go.Proofs.YtldeiapikkebgaaGreatDoor
open Go.RowKit

theorem hid {p : Prop} (h : p) : Hid p := h

def Wd (zs : List Int) : Prop := ∀ z ∈ zs, 0 ≤ z ∧ z ≤ 4294967295

theorem Wd.at {zs : List Int} (h : Wd zs) (j : Nat) : 0 ≤ zs[j]?.getD 0 ∧ zs[j]?.getD 0 ≤ 4294967295 := by
  by_cases hj : j < zs.length
  · rw [List.getElem?_eq_getElem hj]; exact h _ (List.getElem_mem hj)
  · rw [List.getElem?_eq_none (by omega)]; exact ⟨by decide, by decide⟩

theorem Wd.take {zs : List Int} (h : Wd zs) (k : Nat) : Wd (zs.take k) := fun z hz => h z (List.mem_of_mem_take hz)
theorem Wd.drop {zs : List Int} (h : Wd zs) (k : Nat) : Wd (zs.drop k) := fun z hz => h z (List.mem_of_mem_drop hz)
theorem Wd.append {zs ys : List Int} (h : Wd zs) (g : Wd ys) : Wd (zs ++ ys) := fun z hz => (List.mem_append.1 hz).elim (h z) (g z)
theorem Wd.nil : Wd [] := fun _ hz => by simp at hz
theorem Wd.cons {z : Int} {zs : List Int} (h0 : 0 ≤ z ∧ z ≤ 4294967295) (h : Wd zs) : Wd (z :: zs) := fun y hy => by
  rcases List.mem_cons.1 hy with rfl | hy
  · exact h0
  · exact h y hy
theorem Wd.one {z : Int} (h0 : 0 ≤ z ∧ z ≤ 4294967295) : Wd [z] := Wd.cons h0 Wd.nil
theorem Wd.replicate (n : Nat) : Wd (List.replicate n 0) := fun z hz => by
  have := (List.mem_replicate.1 hz).2; omega
theorem Wd.set {zs : List Int} (h : Wd zs) (j : Nat) {z : Int} (h0 : 0 ≤ z ∧ z ≤ 4294967295) : Wd (zs.set j z) := fun y hy => by
  rcases List.mem_or_eq_of_mem_set hy with hy | rfl
  · exact h y hy
  · exact h0
theorem Wd.head {z : Int} {zs : List Int} (h : Wd (z :: zs)) : 0 ≤ z ∧ z ≤ 4294967295 := h z List.mem_cons_self

def szTo (zs : List Int) : Nat → Nat
  | 0 => 0
  | k + 1 => if zs[k]?.getD 0 = 0 then szTo zs k else k + 1
def sz (zs : List Int) : Nat := szTo zs zs.length
def trimmed (zs : List Int) : List Int := zs.take (sz zs)

theorem szTo_le (zs : List Int) : ∀ k, szTo zs k ≤ k
  | 0 => Nat.le_refl _
  | k + 1 => by
    unfold szTo
    split
    · exact Nat.le_succ_of_le (szTo_le zs k)
    · exact Nat.le_refl _
theorem sz_le (zs : List Int) : sz zs ≤ zs.length := szTo_le zs _
theorem szTo_zero (zs : List Int) (k : Nat) (h : zs[k]?.getD 0 = 0) : szTo zs (k + 1) = szTo zs k := by simp [szTo, h]
theorem szTo_keep (zs : List Int) (k : Nat) (h : ¬ zs[k]?.getD 0 = 0) : szTo zs (k + 1) = k + 1 := by simp [szTo, h]
theorem length_trimmed (zs : List Int) : (trimmed zs).length = sz zs := by
  unfold trimmed; rw [List.length_take, Nat.min_eq_left (sz_le zs)]
theorem Wd.trimmed {zs : List Int} (h : Wd zs) : Wd (trimmed zs) := h.take _
theorem szTo_behind (zs : List Int) : ∀ k j, szTo zs k ≤ j → j < k → zs[j]?.getD 0 = 0
  | 0, _, _, h => by omega
  | k + 1, j, h1, h2 => by
    by_cases h : zs[k]?.getD 0 = 0
    · rw [szTo_zero zs k h] at h1
      by_cases e : j = k
      · rw [e]; exact h
      · exact szTo_behind zs k j h1 (by omega)
    · rw [szTo_keep zs k h] at h1; omega
theorem sz_behind (zs : List Int) (j : Nat) (h1 : sz zs ≤ j) : zs[j]?.getD 0 = 0 := by
  by_cases h : j < zs.length
  · exact szTo_behind zs _ j h1 h
  · rw [List.getElem?_eq_none (by omega)]; rfl
theorem szTo_top (zs : List Int) : ∀ k, 0 < szTo zs k → ¬ zs[szTo zs k - 1]?.getD 0 = 0
  | 0, h => by simp [szTo] at h
  | k + 1, h => by
    by_cases e : zs[k]?.getD 0 = 0
    · rw [szTo_zero zs k e] at h ⊢; exact szTo_top zs k h
    · rw [szTo_keep zs k e]; simpa using e
theorem sz_top (zs : List Int) (h : 0 < sz zs) : ¬ zs[sz zs - 1]?.getD 0 = 0 := szTo_top zs _ h

theorem sz_eq_iff (zs : List Int) : sz zs = zs.length ↔ zs.length = 0 ∨ ¬ zs[zs.length - 1]?.getD 0 = 0 := by
  constructor
  · intro h
    by_cases h0 : zs.length = 0
    · exact .inl h0
    · right; have := sz_top zs (by omega); rwa [h] at this
  · rintro (h | h)
    · have := sz_le zs; omega
    · by_cases h0 : zs.length = 0
      · have := sz_le zs; omega
      · obtain ⟨m, hm⟩ : ∃ m, zs.length = m + 1 := ⟨zs.length - 1, by omega⟩
        unfold sz; rw [hm]; rw [hm] at h
        exact szTo_keep zs m (by simpa using h)

def Reads (w : World) (B : Nat) (a : Option Addr) (n cap : Nat) (zs : List Int) : Prop :=
  zs.length = n ∧ Wd zs ∧ (n = 0 ∨ ∃ b o, a = some ⟨b, o, none⟩ ∧ b < B ∧ ∀ j, j < n → w.cell? ⟨b, o + j, none⟩ = some (.int .u32 (zs[j]?.getD 0))) ∧ n ≤ cap ∧ cap ≤ maxLen ∧ (a = none → cap = 0)

theorem Reads.later {w w' : World} {B B' : Nat} {a : Option Addr} {n cap : Nat} {zs : List Int} (h : Reads w B a n cap zs) (hb : Below B w w') (hB : B ≤ B') : Reads w' B' a n cap zs := by
  obtain ⟨h1, h2, h3, h4⟩ := h
  refine ⟨h1, h2, h3.imp id ?_, h4⟩
  rintro ⟨b, o, rfl, hlt, hc⟩
  exact ⟨b, o, rfl, by omega, fun j hj => (hb.cell (p := ⟨b, o + j, none⟩) hlt).trans (hc j hj)⟩

theorem Reads.front {w : World} {B : Nat} {a : Option Addr} {n cap : Nat} {zs : List Int} (h : Reads w B a n cap zs) (k : Nat) (hk : k ≤ n) : Reads w B a k cap (zs.take k) := by
  obtain ⟨h1, h2, h3, h4, h5, h6⟩ := h
  refine ⟨by rw [List.length_take]; omega, h2.take k, ?_, by omega, h5, h6⟩
  rcases h3 with h3 | ⟨b, o, ha, hlt, hc⟩
  · left; omega
  · right
    refine ⟨b, o, ha, hlt, fun j hj => ?_⟩
    rw [hc j (by omega), List.getElem?_take, if_pos hj]

theorem Reads.own {w : World} {base e : Nat} {v : Value} {zs : List Int} {n : Nat} (h : w.ownsRow base e 1 v n (zs.map (Value.int .u32))) (hw : Wd zs) :
    ∃ a cap, v = .slice a n cap ∧ Reads w w.heap.size a n cap zs := by
  have hl := h.1
  simp at hl
  rcases h.2 with ⟨rfl, rfl⟩ | ⟨g, cap, cur, rfl, hb, hg, hnc, hcm, hcs, ht⟩
  · exact ⟨none, 0, rfl, by omega, hw, .inl rfl, Nat.le_refl _, Nat.zero_le _, fun _ => rfl⟩
  · refine ⟨_, cap, rfl, by omega, hw, ?_, hnc, hcm, fun h => by simp at h⟩
    right
    refine ⟨g, 0, rfl, ?_, fun j hj => ?_⟩
    · have : w.heap[g]?.isSome := by rw [hg]; rfl
      simpa using this
    · have hc := h.cellAt j (by omega)
      rw [Nat.zero_add, hc, List.getElem?_map, List.getElem?_eq_getElem (by omega)]
      simp

theorem owns_later {w w' : World} {base e : Nat} {v : Value} {n : Nat} {xs : List Value} (h : w.ownsRow base e 1 v n xs) (hb : Below w.heap.size w w') : w'.ownsRow base e 1 v n xs := by
  refine ⟨h.1, h.2.imp id ?_⟩
  rintro ⟨g, cap, cur, rfl, hbg, hg, h1, h2, h3, h4⟩
  refine ⟨g, cap, cur, rfl, hbg, ?_, h1, h2, h3, h4⟩
  rw [hb.block g (by
    have : w.heap[g]?.isSome := by rw [hg]; rfl
    simpa using this)]
  exact hg

theorem owns_base {w : World} {base base' e : Nat} {v : Value} {n : Nat} {xs : List Value} (h : w.ownsRow base e 1 v n xs) (hb : base' ≤ base) : w.ownsRow base' e 1 v n xs := by
  refine ⟨h.1, h.2.imp id ?_⟩
  rintro ⟨g, cap, cur, rfl, hbg, hr⟩
  exact ⟨g, cap, cur, rfl, by omega, hr⟩
theorem Reads.lit (w : World) (e : Nat) (zs : List Int) (hw : Wd zs) (hm : zs.length ≤ maxLen) : Reads (w.alloc (.cells ((zs.map (Value.int .u32)).toArray) e)) (w.alloc (.cells ((zs.map (Value.int .u32)).toArray) e)).heap.size (some ⟨w.heap.size, 0, none⟩) zs.length zs.length zs := by
  have h := World.ownsRow_lit (base := w.heap.size) (e := e) (size := 1) w ((zs.map (Value.int .u32)).toArray) zs.length (Nat.le_refl _) hm (by simp)
  obtain ⟨a, cap, hv, hr⟩ := Reads.own (zs := zs) (by simpa using h) hw
  simp only [Value.slice.injEq] at hv
  obtain ⟨rfl, _, rfl⟩ := hv
  exact hr

theorem or_join (x y : Int) (hx0 : 0 ≤ x) (hx : x ≤ 4294967295) (hy0 : 0 ≤ y) (hy : y ≤ 4294967295) : bits BinOp.or IntKind.u64 (x * 4294967296) y = y + x * 4294967296 := by
  rw [u64_or _ _ (by omega) (by omega) (by omega) (by omega), nat_join 32 _ _ (by omega) (by omega)]
  omega

theorem ret_int {k : IntKind} {a b : Int} (h : a = b) : Ending.returned (.int k a) = .returned (.int k b) := by rw [h]
theorem ret_bool {a b : Bool} (h : a = b) : Ending.returned (.bool a) = .returned (.bool b) := by rw [h]
end Go.Proofs.YtldeiapikkebgaaGreatDoor

/- Floats of 64 bits by their bits: which are finite, what a sum or difference of two gives, the sum of two with what was lost of it, as plain functions of the bits. Nothing here speaks of the program. -/
namespace Go.Proofs.YtldeiapikkebgaaGreatDoor

def fin (x : Nat) : Bool := x / 4503599627370496 % 2048 != 2047

def FR (op : BinOp) (x y r : Nat) : Prop := r < 18446744073709551616 ∧ (floatBits op .f64 x y = some r ∨ (floatBits op .f64 x y = none ∧ fin r = false))

def Two (a b s e : Nat) : Prop := ∃ t d p q, FR .add a b s ∧ FR .sub s a t ∧ FR .sub s t d ∧ FR .sub a d p ∧ FR .sub b t q ∧ FR .add p q e

end Go.Proofs.YtldeiapikkebgaaGreatDoor

/- real.finite, real.twoSum, real.TwoSum and the document's Finite, TwoSum, of any floats, by their bits. -/
namespace Go.Proofs.YtldeiapikkebgaaGreatDoor
open Go.RowKit
set_option linter.unusedVariables false

end Go.Proofs.YtldeiapikkebgaaGreatDoor

/- The document's TwoSum; slackwaterkit.SameFloat, SameBits of one float twice; lists of floats: CopyFloats, LentFloats, SameFloats, KeptFloats. -/
namespace Go.Proofs.YtldeiapikkebgaaGreatDoor
open Go.RowKit
set_option linter.unusedVariables false

theorem b2 {a b c : World} (h : Below a.heap.size a b) (g : Below b.heap.size b c) : Below a.heap.size a c := h.trans (g.mono h.size)

end Go.Proofs.YtldeiapikkebgaaGreatDoor

/- real.Sum and the document's Sum, of any list of floats. -/
namespace Go.Proofs.YtldeiapikkebgaaGreatDoor
open Go.RowKit
set_option linter.unusedVariables false

def FBox (w : World) (b t : Nat) (vs : Array Value) : Prop := w.heap[b]? = some (.cells vs t (0, 0))
theorem FBox.cell {w : World} {b t : Nat} {vs : Array Value} (h : FBox w b t vs) (j : Nat) : w.cell? ⟨b, j, none⟩ = vs[j]? := by
  unfold FBox at h
  simp [World.cell?, h]
theorem FBox.free {w : World} {b t : Nat} {vs : Array Value} (h : FBox w b t vs) (j : Nat) : w.frozen? ⟨b, j, none⟩ = false := by
  unfold FBox at h
  simp [World.frozen?, h]
theorem FBox.later {w w' : World} {B b t : Nat} {vs : Array Value} (h : FBox w b t vs) (hb : Below B w w') (hlt : b < B) : FBox w' b t vs := by
  unfold FBox at *
  rw [hb.block b hlt]; exact h
theorem FBox.lt {w : World} {b t : Nat} {vs : Array Value} (h : FBox w b t vs) : b < w.heap.size := by
  unfold FBox at h
  have : w.heap[b]?.isSome := by rw [h]; rfl
  simpa using this
theorem FBox.made (w : World) (t : Nat) (vs : Array Value) : FBox (w.alloc (.cells vs t)) w.heap.size t vs := by
  unfold FBox
  show (w.heap.push _)[w.heap.size]? = _
  rw [Array.getElem?_push, if_pos rfl]
theorem fput2 {B : Nat} {a w : World} (h : Below B a w) (b : Nat) (hb : B ≤ b) (v0 v1 : Value) : Below B a ((w.setCell ⟨b, 0, none⟩ v0).setCell ⟨b, 1, none⟩ v1) :=
  (h.setCell (p := ⟨b, 0, none⟩) hb _).setCell (p := ⟨b, 1, none⟩) hb _
theorem fbox_facts {w w' : World} {b t : Nat} {v0 v1 : Value} (h : FBox w b t #[v0, v1]) (hb : Below w.heap.size w w') : w'.cell? ⟨b, 0, none⟩ = some v0 ∧ w'.cell? ⟨b, 1, none⟩ = some v1 ∧ w'.frozen? ⟨b, 0, none⟩ = false ∧ w'.frozen? ⟨b, 1, none⟩ = false := by
  have h' := h.later hb h.lt
  exact ⟨h'.cell 0, h'.cell 1, h'.free 0, h'.free 1⟩

end Go.Proofs.YtldeiapikkebgaaGreatDoor

/- nat.size tells how many words a list has without the noughts at its end: of every list that can be read. -/
namespace Go.Proofs.YtldeiapikkebgaaGreatDoor
open Go.RowKit
set_option linter.unusedVariables false

set_option maxHeartbeats 400000 in
set_option maxRecDepth 100000 in
theorem size_any (a : Option Addr) (n cap : Nat) (zs : List Int) (B : Nat) (w : World) (h : Reads w B a n cap zs) (hn : n ≤ 281474976710656) :
    Calls Tryz.prog 111 #[.slice a n cap] w fun e w' => e = .returned (.int .i64 (sz zs)) ∧ w = w' := by
  obtain ⟨hl, hw, hc, hcap⟩ := h
  rcases hc with h0 | ⟨b, o, rfl, hb, hc⟩
  · subst h0
    have hz : zs = [] := List.eq_nil_of_length_eq_zero hl
    subst hz
    go_enter Tryz.func111, Tryz.ntmps111
    go_wp2
    refine wp_loop_rounds 1 ?_
    rw [rounds_succ]
    go_wp2
    go_ret
    exact ⟨rfl, rfl⟩
  · go_enter Tryz.func111, Tryz.ntmps111
    go_wp2
    go_loop [3] (fun t => ∃ k : Nat, k ≤ n ∧ t = .int .i64 k ∧ szTo zs k = sz zs) (fun t => (intOf t).toNat)
    case atStart => exact ⟨n, Nat.le_refl _, rfl, by rw [sz, hl]⟩
    case round =>
      obtain ⟨k, hk, rfl, hs⟩ := hrel
      rcases k with _ | k
      · go_wp2
        go_ret
        exact ⟨ret_int (by rw [← hs]; rfl), rfl⟩
      · have hcx := hc k (by omega)
        by_cases hz : zs[k]?.getD 0 = 0
        · have hzb : (zs[k]?.getD 0 == 0) = true := by simp [hz]
          have HS : Hid (szTo zs k = sz zs) := by rw [← hs, szTo_zero zs k hz]; rfl
          clear hs hz
          go_wp2
          go_round
          case rel => exact ⟨k, by omega, by go_num, HS.out⟩
          case measure => simp [intOf]
        · have hzb : (zs[k]?.getD 0 == 0) = false := by simp [hz]
          have HS : Hid (k + 1 = sz zs) := by rw [← hs, szTo_keep zs k hz]; rfl
          clear hs hz
          go_wp2
          go_ret
          exact ⟨ret_int (by rw [← HS.out]; omega), rfl⟩
end Go.Proofs.YtldeiapikkebgaaGreatDoor

/- The value of a list of 32-bit words, and its order: plain arithmetic, nothing of the program. -/
namespace Go.Proofs.YtldeiapikkebgaaGreatDoor
open Go.RowKit

def valTo (xs : List Int) : Nat → Int
  | 0 => 0
  | k + 1 => valTo xs k + xs[k]?.getD 0 * 4294967296 ^ k
def val (xs : List Int) : Int := valTo xs xs.length

theorem pw_pos (k : Nat) : (0 : Int) < 4294967296 ^ k := Int.pow_pos (by decide)
theorem pw_succ (k : Nat) : (4294967296 : Int) ^ (k + 1) = 4294967296 ^ k * 4294967296 := Int.pow_succ _ _

theorem valTo_stable (xs : List Int) : ∀ N, xs.length ≤ N → valTo xs N = val xs
  | N, h => by
    by_cases e : N = xs.length
    · rw [e]; rfl
    · obtain ⟨m, rfl⟩ : ∃ m, N = m + 1 := ⟨N - 1, by omega⟩
      have ih := valTo_stable xs m (by omega)
      show valTo xs m + xs[m]?.getD 0 * 4294967296 ^ m = _
      rw [ih, List.getElem?_eq_none (by omega)]; simp

theorem valTo_congr (xs ys : List Int) : ∀ N, (∀ j, j < N → xs[j]?.getD 0 = ys[j]?.getD 0) → valTo xs N = valTo ys N
  | 0, _ => rfl
  | N + 1, h => by
    show valTo xs N + _ = valTo ys N + _
    rw [valTo_congr xs ys N (fun j hj => h j (by omega)), h N (by omega)]

theorem valTo_bounds {xs : List Int} (hw : Wd xs) : ∀ k, 0 ≤ valTo xs k ∧ valTo xs k < 4294967296 ^ k
  | 0 => ⟨Int.le_refl _, by simp [valTo]⟩
  | k + 1 => by
    obtain ⟨h0, h1⟩ := valTo_bounds hw k
    obtain ⟨z0, z1⟩ := hw.at k
    have hp := pw_pos k
    show 0 ≤ valTo xs k + _ ∧ valTo xs k + _ < _
    rw [pw_succ]
    have e1 : 0 ≤ xs[k]?.getD 0 * 4294967296 ^ k := Int.mul_nonneg z0 (Int.le_of_lt hp)
    have e2 : xs[k]?.getD 0 * 4294967296 ^ k ≤ 4294967295 * 4294967296 ^ k := Int.mul_le_mul_of_nonneg_right z1 (Int.le_of_lt hp)
    omega

theorem val_nonneg {xs : List Int} (hw : Wd xs) : 0 ≤ val xs := (valTo_bounds hw _).1
theorem val_lt {xs : List Int} (hw : Wd xs) : val xs < 4294967296 ^ xs.length := (valTo_bounds hw _).2

theorem valTo_lt {xs ys : List Int} (hx : Wd xs) (hy : Wd ys) (k : Nat) (hk : xs[k]?.getD 0 < ys[k]?.getD 0) : ∀ N, k < N → (∀ j, k < j → j < N → xs[j]?.getD 0 = ys[j]?.getD 0) → valTo xs N < valTo ys N
  | 0, h, _ => by omega
  | N + 1, h, hj => by
    show valTo xs N + _ < valTo ys N + _
    by_cases e : k = N
    · subst e
      have b1 := (valTo_bounds hx k).2
      have b2 := (valTo_bounds hy k).1
      have hp := pw_pos k
      have e2 : (xs[k]?.getD 0 + 1) * 4294967296 ^ k ≤ ys[k]?.getD 0 * 4294967296 ^ k := Int.mul_le_mul_of_nonneg_right hk (Int.le_of_lt hp)
      rw [Int.add_mul] at e2
      omega
    · have ih := valTo_lt hx hy k hk N (by omega) (fun j h1 h2 => hj j h1 (by omega))
      rw [hj N (by omega) (by omega)]
      omega

theorem val_lt_of {xs ys : List Int} (hx : Wd xs) (hy : Wd ys) (k : Nat) (hk : xs[k]?.getD 0 < ys[k]?.getD 0) (hj : ∀ j : Nat, k < j → xs[j]?.getD 0 = ys[j]?.getD 0) : val xs < val ys := by
  have h := valTo_lt hx hy k hk (xs.length + ys.length + k + 1) (by omega) (fun j h1 _ => hj j h1)
  rwa [valTo_stable xs _ (by omega), valTo_stable ys _ (by omega)] at h

theorem val_eq_of {xs ys : List Int} (hj : ∀ j : Nat, xs[j]?.getD 0 = ys[j]?.getD 0) : val xs = val ys := by
  have h := valTo_congr xs ys (xs.length + ys.length) (fun j _ => hj j)
  rwa [valTo_stable xs _ (by omega), valTo_stable ys _ (by omega)] at h

def cmpI (x y : Int) : Int := if x < y then -1 else if y < x then 1 else 0
theorem cmpI_lt {x y : Int} (h : x < y) : cmpI x y = -1 := by simp [cmpI, h]
theorem cmpI_gt {x y : Int} (h : y < x) : cmpI x y = 1 := by rw [cmpI, if_neg (by omega), if_pos h]
theorem cmpI_eq {x y : Int} (h : x = y) : cmpI x y = 0 := by rw [cmpI, if_neg (by omega), if_neg (by omega)]

theorem same_words {xs ys : List Int} (hx : Wd xs) (hy : Wd ys) (h : val xs = val ys) : ∀ j : Nat, xs[j]?.getD 0 = ys[j]?.getD 0 := by
  have main : ∀ d k : Nat, xs.length + ys.length ≤ k + d → (∀ j : Nat, k + d ≤ j → xs[j]?.getD 0 = ys[j]?.getD 0) → ∀ j : Nat, k ≤ j → xs[j]?.getD 0 = ys[j]?.getD 0 := by
    intro d
    induction d with
    | zero => intro k _ h2 j hj; exact h2 j (by omega)
    | succ d ih =>
      intro k h1 h2 j hj
      by_cases e : j = k
      · have up := ih (k + 1) (by omega) (fun j hj => h2 j (by omega))
        subst e
        by_cases h3 : xs[j]?.getD 0 < ys[j]?.getD 0
        · have := val_lt_of hx hy j h3 (fun i hi => up i (by omega)); omega
        · by_cases h4 : ys[j]?.getD 0 < xs[j]?.getD 0
          · have := val_lt_of hy hx j h4 (fun i hi => (up i (by omega)).symm); omega
          · omega
      · exact ih (k + 1) (by omega) (fun j hj => h2 j (by omega)) j (by omega)
  intro j
  refine main (xs.length + ys.length) 0 (by omega) (fun i hi => ?_) j (Nat.zero_le _)
  rw [List.getElem?_eq_none (by omega), List.getElem?_eq_none (by omega)]

def Trimmed (xs : List Int) : Prop := sz xs = xs.length

theorem trimmed_eq {xs ys : List Int} (hx : Wd xs) (hy : Wd ys) (tx : Trimmed xs) (ty : Trimmed ys) (h : val xs = val ys) : xs = ys := by
  have hs := same_words hx hy h
  have hl : xs.length = ys.length := by
    rcases Nat.lt_trichotomy xs.length ys.length with hl | hl | hl
    · have := sz_top ys (by rw [ty]; omega)
      rw [ty, ← hs, List.getElem?_eq_none (by omega)] at this; simp at this
    · exact hl
    · have := sz_top xs (by rw [tx]; omega)
      rw [tx, hs, List.getElem?_eq_none (by omega)] at this; simp at this
  refine List.ext_getElem hl (fun j h1 h2 => ?_)
  have := hs j
  rwa [List.getElem?_eq_getElem h1, List.getElem?_eq_getElem h2] at this

theorem trimmed_get (xs : List Int) (j : Nat) : (trimmed xs)[j]?.getD 0 = xs[j]?.getD 0 := by
  unfold trimmed
  rw [List.getElem?_take]
  split
  · rfl
  · rw [sz_behind xs j (by omega)]; rfl
theorem val_trimmed (xs : List Int) : val (trimmed xs) = val xs := val_eq_of (trimmed_get xs)
theorem Trimmed.trimmed (xs : List Int) : Trimmed (trimmed xs) := by
  unfold Trimmed
  rw [sz_eq_iff, length_trimmed]
  by_cases h : sz xs = 0
  · exact .inl h
  · right; rw [trimmed_get]; exact sz_top xs (by omega)
theorem trimmed_of {xs : List Int} (h : Trimmed xs) : trimmed xs = xs := by
  unfold Go.Proofs.YtldeiapikkebgaaGreatDoor.trimmed; rw [h]; exact List.take_length
theorem Trimmed.nil : Trimmed [] := rfl

theorem val_sz (xs : List Int) : val xs = valTo xs (sz xs) := by
  rw [← val_trimmed]
  unfold val
  rw [length_trimmed]
  exact valTo_congr _ _ _ (fun j _ => trimmed_get xs j)
theorem valTo_sz (xs : List Int) (N : Nat) (h : sz xs ≤ N) : valTo xs N = val xs := by
  rw [← val_trimmed, ← valTo_stable (trimmed xs) N (by rw [length_trimmed]; exact h)]
  exact (valTo_congr _ _ _ (fun j _ => trimmed_get xs j)).symm
theorem val_nil : val [] = 0 := rfl
theorem val_one (x : Int) : val [x] = x := by simp [val, valTo]
theorem val_two (x y : Int) : val [x, y] = x + y * 4294967296 := by simp [val, valTo]
end Go.Proofs.YtldeiapikkebgaaGreatDoor

/- What only reads: slackwaterref01.word, slackwaterkit.SameWords, the two Compares, the two Checks: of every list that can be read. -/
namespace Go.Proofs.YtldeiapikkebgaaGreatDoor
open Go.RowKit
set_option linter.unusedVariables false

set_option maxHeartbeats 400000 in
set_option maxRecDepth 100000 in
theorem word_any (a : Option Addr) (n cap : Nat) (zs : List Int) (B : Nat) (i : Int) (w : World) (h : Reads w B a n cap zs) (hn : n ≤ 281474976710656) (h0 : 0 ≤ i) :
    Calls Tryz.prog 169 #[.slice a n cap, .int .i64 i] w fun e w' => e = .returned (.int .u32 (zs[i.toNat]?.getD 0)) ∧ w = w' := by
  obtain ⟨k, rfl⟩ := Int.eq_ofNat_of_zero_le h0
  rw [Int.toNat_natCast]
  obtain ⟨hl, hw, hc, hcap⟩ := h
  have HL : Hid (zs.length = n) := hl
  clear hl
  by_cases hk : k < n
  · rcases hc with h0 | ⟨b, o, rfl, hb, hc⟩
    · omega
    · have hcx := hc k hk
      go_enter Tryz.func169, Tryz.ntmps169
      go_wp2
      go_ret
      exact ⟨rfl, rfl⟩
  · have hz : zs[k]? = none := List.getElem?_eq_none (by have := HL.out; omega)
    have HZ : Hid (zs[k]? = none) := hz
    clear hz hc
    go_enter Tryz.func169, Tryz.ntmps169
    go_wp2
    go_ret
    exact ⟨ret_int (by rw [HZ.out]; rfl), rfl⟩

theorem take_same {xs ys : List Int} {k : Nat} (h : xs.take k = ys.take k) (hx : k < xs.length) (hy : k < ys.length) (he : xs[k]?.getD 0 = ys[k]?.getD 0) : xs.take (k + 1) = ys.take (k + 1) := by
  rw [List.getElem?_eq_getElem hx, List.getElem?_eq_getElem hy] at he
  rw [List.take_succ_eq_append_getElem hx, List.take_succ_eq_append_getElem hy, h, show xs[k] = ys[k] by simpa using he]

set_option maxHeartbeats 800000 in
set_option maxRecDepth 100000 in
theorem same_any (a : Option Addr) (n cap : Nat) (xs : List Int) (b : Option Addr) (m cap' : Nat) (ys : List Int) (w : World) (h : Reads w w.heap.size a n cap xs) (g : Reads w w.heap.size b m cap' ys) (hn : n ≤ 281474976710656) (hm : m ≤ 281474976710656) :
    Calls Tryz.prog 84 #[.slice a n cap, .slice b m cap'] w fun e w' => e = .returned (.bool (decide (xs = ys))) ∧ Below w.heap.size w w' := by
  obtain ⟨hl, hw, hc, hcap⟩ := h
  obtain ⟨gl, gw, gc, gcap⟩ := g
  by_cases hnm : n = m
  · subst hnm
    have htt : ((n : Int) != (n : Int)) = false := by simp
    rcases hc with h0 | ⟨b1, o1, rfl, hb1, hc⟩
    · subst h0
      have hx : xs = [] := List.eq_nil_of_length_eq_zero hl
      have hy : ys = [] := List.eq_nil_of_length_eq_zero gl
      subst hx; subst hy
      go_enter Tryz.func84, Tryz.ntmps84
      go_wp2
      refine wp_loop_rounds 1 ?_
      rw [rounds_succ]
      go_wp2
      go_ret
      exact ⟨rfl, Below.refl _ _⟩
    · rcases gc with g0 | ⟨b2, o2, rfl, hb2, gc⟩
      · subst g0
        have hx : xs = [] := List.eq_nil_of_length_eq_zero hl
        have hy : ys = [] := List.eq_nil_of_length_eq_zero gl
        subst hx; subst hy
        go_enter Tryz.func84, Tryz.ntmps84
        go_wp2
        refine wp_loop_rounds 1 ?_
        rw [rounds_succ]
        go_wp2
        go_ret
        exact ⟨rfl, Below.refl _ _⟩
      · have HL : Hid (xs.length = n ∧ ys.length = n) := ⟨hl, gl⟩
        clear hl gl
        go_enter Tryz.func84, Tryz.ntmps84
        go_wp2
        go_loopw [5] (fun t wr => ∃ k : Nat, k ≤ n ∧ t = .int .i64 k ∧ xs.take k = ys.take k ∧ Below w.heap.size w wr) (fun t _ => n - (intOf t).toNat)
        case atStart => exact ⟨0, Nat.zero_le _, rfl, rfl, Below.refl _ _⟩
        case round =>
          obtain ⟨k, hk, rfl, hs, hbel⟩ := hrel
          have HS : Hid (xs.take k = ys.take k) := hs
          clear hs
          by_cases hlt : k < n
          · have hcx : wr.cell? ⟨b1, o1 + k, none⟩ = some (.int .u32 (xs[k]?.getD 0)) := (hbel.cell (p := ⟨b1, o1 + k, none⟩) hb1).trans (hc k hlt)
            have hcy : wr.cell? ⟨b2, o2 + k, none⟩ = some (.int .u32 (ys[k]?.getD 0)) := (hbel.cell (p := ⟨b2, o2 + k, none⟩) hb2).trans (gc k hlt)
            by_cases he : xs[k]?.getD 0 = ys[k]?.getD 0
            · have hne : (xs[k]?.getD 0 != ys[k]?.getD 0) = false := by simp [he]
              have HE : Hid (xs[k]?.getD 0 = ys[k]?.getD 0) := he
              clear he
              go_wp2
              go_region

              all_goals go_wp2

              all_goals
                go_roundw
                case rel => exact ⟨k + 1, by omega, by go_num, take_same HS.out (by have := HL.out; omega) (by have := HL.out; omega) HE.out, hbel.drew⟩
                case measure => simp [intOf]; omega
            · have hne : (xs[k]?.getD 0 != ys[k]?.getD 0) = true := by simp [he]
              have HE : Hid (¬ xs[k]?.getD 0 = ys[k]?.getD 0) := he
              clear he
              go_wp2
              go_region
              all_goals go_wp2
              all_goals
                go_ret
                exact ⟨ret_bool (decide_eq_false fun e => HE.out (by rw [e])).symm, hbel.drew⟩
          · have hkn : k = n := by omega
            subst hkn
            go_wp2
            go_ret
            exact ⟨ret_bool (decide_eq_true (by have := HS.out; have hl := HL.out; rwa [List.take_of_length_le (by omega), List.take_of_length_le (by omega)] at this)).symm, hbel⟩
  · have hne : ((n : Int) != (m : Int)) = true := by simp; omega
    have hd : decide (xs = ys) = false := decide_eq_false fun e => hnm (by rw [← hl, ← gl, e])
    have HD : Hid (decide (xs = ys) = false) := hd
    clear hd hc gc
    go_enter Tryz.func84, Tryz.ntmps84
    go_wp2
    go_ret
    exact ⟨ret_bool HD.out.symm, Below.refl _ _⟩
end Go.Proofs.YtldeiapikkebgaaGreatDoor

/- nat.Trim tells the list without the noughts at its end, in new memory: of every list that can be read. -/
namespace Go.Proofs.YtldeiapikkebgaaGreatDoor
open Go.RowKit
set_option linter.unusedVariables false

theorem Tryz.infoW : (Tryz.prog.info? 94).map (fun i => (i.zero, i.size, i.bytes)) = some (some (.int .u32 0), 1, 4) := by kernel_rfl

theorem row_whole {w : World} {base e g n : Nat} {xs : List Value} (h : w.ownsRow base e 1 (.slice (some ⟨g, 0, none⟩) n n) n xs) : w.heap[g]? = some (.cells xs.toArray e (0, 0)) := by
  rcases h.2 with ⟨h', _⟩ | ⟨g', cap', cur, h', _, hg, _, _, hcs, ht⟩
  · simp at h'
  · simp only [Value.slice.injEq, Option.some.injEq, Addr.mk.injEq, and_true, true_and] at h'
    obtain ⟨rfl, rfl⟩ := h'
    rw [List.take_of_length_le (by simp [hcs])] at ht
    rw [hg, ← ht]
theorem whole_row {w : World} {base e g n : Nat} {xs : List Value} (h : w.heap[g]? = some (.cells xs.toArray e (0, 0))) (hn : xs.length = n) (hb : base ≤ g) (hm : n ≤ maxLen) : w.ownsRow base e 1 (.slice (some ⟨g, 0, none⟩) n n) n xs :=
  ⟨by omega, .inr ⟨g, n, xs.toArray, rfl, hb, h, Nat.le_refl _, hm, by simp [hn], List.take_of_length_le (by simp; omega)⟩⟩
theorem splice_all {α : Type} (L cs : List α) (h : cs.length = L.length) : splice L 0 cs = cs := by
  simp [splice, h]
theorem made_words (n : Nat) : (madeCells #[Value.int .u32 0] n).toList = (List.replicate n (0 : Int)).map (Value.int .u32) := by
  rw [toList_madeCells_one]; simp

theorem copy_cells {w : World} {B : Nat} {a : Option Addr} {n cap : Nat} {zs : List Int} (h : Reads w B a n cap zs) (k : Nat) (hk : k ≤ n) (hp : 0 < k) :
    ∃ ad, a = some ad ∧ ∀ j v, ((zs.take k).map (Value.int .u32))[j]? = some v → w.cell? (ad.add j) = some v := by
  rcases h.2.2.1 with h0 | ⟨b, o, ha, hb, hc⟩
  · omega
  · refine ⟨_, ha, fun j v hj => ?_⟩
    have hj1 := (List.getElem?_eq_some_iff.1 hj).1
    simp only [List.length_map, List.length_take] at hj1
    rw [Addr.add_lit, hc j (by omega), ← hj, List.getElem?_map, List.getElem?_take, if_pos (by omega), List.getElem?_eq_getElem (by omega)]
    rfl

set_option maxHeartbeats 1600000 in
set_option maxRecDepth 100000 in
theorem trim_any (a : Option Addr) (n cap : Nat) (xs : List Int) (w : World) (h : Reads w w.heap.size a n cap xs) (hn : n ≤ 1099511627776) :
    Calls Tryz.prog 112 #[.slice a n cap] w fun e w' => ∃ v, e = .returned v ∧ w'.ownsRow w.heap.size 94 1 v (sz xs) ((trimmed xs).map (Value.int .u32)) ∧ Below w.heap.size w w' := by
  obtain ⟨i0, hi, hz0, hz1, hz2⟩ := info_parts Tryz.infoW
  have hl := h.1
  have sx := sz_le xs
  rw [hl] at sx
  obtain ⟨s, hs⟩ : ∃ s, s = sz xs := ⟨_, rfl⟩
  have hc := size_any a n cap xs _ w h (by omega)
  have HT : Hid ((trimmed xs).length = s) := by rw [hs]; exact length_trimmed xs
  rw [← hs] at hc sx ⊢
  have HC := hid hc
  have HR : Hid (Reads w w.heap.size a n cap xs) := h
  have HS : Hid (s = sz xs) := hs
  clear hc h hl hs
  go_enter Tryz.func112, Tryz.ntmps112
  go_wp2_with fail
  refine Calls.mono HC.out ?_
  rintro e w' ⟨rfl, rfl⟩
  go_wp2_with (at_make; refine wpList_make_full _ rfl _ _ 24 rfl w.heap.size 94 i0 (.int .u32 0) 1 Tryz.underlying24 hi hz0 hz1 _ _ _ _ s rfl rfl (by omega) (by omega) (by rw [hz2]; omega) (by unfold maxLen; omega) (Nat.le_refl _) ?_)
  intro w1 hown hgrow
  have hbel : Below w.heap.size w w1 := (Below.refl _ _).grown hgrow (Nat.le_refl _) (fun k hk => by simp at hk)
  have hsz : w.heap.size < w1.heap.size := (hown.lt _ rfl).2
  have HO : Hid (w1.heap[w.heap.size]? = some (.cells (((List.replicate s (0 : Int)).map (Value.int .u32)).toArray) 94 (0, 0))) := by
    have := row_whole hown
    rw [made_words] at this
    exact this
  clear hown hgrow
  have HQ := HR.out.later hbel (Nat.le_refl _)
  have ht := HT.out
  have k1 : Hid (((trimmed xs).map (Value.int .u32)).length = Nat.min n s) := by
    show _ = _
    rw [List.length_map, ht]; exact (Nat.min_eq_right sx).symm
  have k2 : Hid (0 < ((trimmed xs).map (Value.int .u32)).length → ∃ ad, a = some ad ∧ ∀ j v, ((trimmed xs).map (Value.int .u32))[j]? = some v → w1.cell? (ad.add j) = some v) := fun hp => by
    rw [List.length_map, ht] at hp
    have := copy_cells HQ s sx hp
    rw [HS.out] at this
    exact this
  have k3 : Hid (0 + ((trimmed xs).map (Value.int .u32)).length ≤ ((List.replicate s (0 : Int)).map (Value.int .u32)).length) := by
    show _ ≤ _
    simp only [List.length_map, List.length_replicate, ht]; omega
  have k5 : Hid (((trimmed xs).map (Value.int .u32)).length = s) := by
    show _ = _
    simp only [List.length_map, ht]
  clear ht HQ
  go_wp2_with (refine wpList_copy_splice rfl (.tmp 7) (.tmp 8) 24 24 rfl 94 Tryz.underlying24 (by rw [hi]; simp [hz1]) _ a s s n cap rfl rfl w.heap.size 0 _ 94 HO.out ((trimmed xs).map (Value.int .u32)) k1.out (fun hp => ⟨rfl, k2.out hp⟩) k3.out (ints_oneCell _ _) w.heap.size w hbel (Nat.le_refl _) ?_)
  intro w2 HG hb2
  go_wp2
  go_ret
  refine ⟨_, rfl, ?_, hb2⟩
  have hg := HG.out
  rw [splice_all _ _ (by rw [k5.out]; simp)] at hg
  exact whole_row hg k5.out (Nat.le_refl _) (by unfold maxLen; omega)
end Go.Proofs.YtldeiapikkebgaaGreatDoor

/- Carrying: plain arithmetic of words, nothing of the program. -/
namespace Go.Proofs.YtldeiapikkebgaaGreatDoor
open Go.RowKit

theorem valTo_set_low (ys : List Int) (j : Nat) (z : Int) : ∀ k, k ≤ j → valTo (ys.set j z) k = valTo ys k := fun k hk =>
  valTo_congr _ _ _ (fun i hi => by rw [List.getElem?_set, if_neg (by omega)])
theorem valTo_set (ys : List Int) (k : Nat) (z : Int) (h : k < ys.length) : valTo (ys.set k z) (k + 1) = valTo ys k + z * 4294967296 ^ k := by
  show valTo (ys.set k z) k + _ = _
  rw [valTo_set_low ys k z k (Nat.le_refl _), List.getElem?_set, if_pos rfl, if_pos h]
  rfl
theorem valTo_succ (xs : List Int) (k : Nat) : valTo xs (k + 1) = valTo xs k + xs[k]?.getD 0 * 4294967296 ^ k := rfl

theorem carry_step (P z c t : Int) (h : z + c * 4294967296 = t) : z * P + c * (P * 4294967296) = t * P := by
  rw [← h, Int.add_mul, Int.mul_comm P, ← Int.mul_assoc]

def wide : Int := 4294967296 ^ 8192

theorem pw_le {a b : Nat} (h : a ≤ b) : (4294967296 : Int) ^ a ≤ 4294967296 ^ b := by
  obtain ⟨d, rfl⟩ : ∃ d, b = a + d := ⟨b - a, by omega⟩
  induction d with
  | zero => exact Int.le_refl _
  | succ d ih =>
    have h1 := ih (by omega)
    have e : (4294967296 : Int) ^ (a + (d + 1)) = 4294967296 ^ (a + d) * 4294967296 := Int.pow_succ _ _
    have h2 := pw_pos (a + d)
    omega

theorem wide_iff {xs : List Int} (hw : Wd xs) : 8192 < sz xs ↔ wide ≤ val xs := by
  constructor
  · intro h
    have t := sz_top xs (by omega)
    have b := hw.at (sz xs - 1)
    obtain ⟨m, hm⟩ : ∃ m, sz xs = m + 1 := ⟨sz xs - 1, by omega⟩
    rw [val_sz, hm, valTo_succ]
    rw [hm, Nat.add_sub_cancel] at t b
    have b2 := (valTo_bounds hw m).1
    have h1 : (4294967296 : Int) ^ 8192 ≤ 4294967296 ^ m := pw_le (by omega)
    have h2 : 1 * (4294967296 : Int) ^ m ≤ xs[m]?.getD 0 * 4294967296 ^ m := Int.mul_le_mul_of_nonneg_right (by omega) (Int.le_of_lt (pw_pos m))
    unfold wide
    omega
  · intro h
    by_cases hs : sz xs ≤ 8192
    · have h1 := (valTo_bounds hw (sz xs)).2
      rw [← val_sz] at h1
      have h2 : (4294967296 : Int) ^ sz xs ≤ 4294967296 ^ 8192 := pw_le hs
      unfold wide at h
      omega
    · omega

structure Tells (e t : Int) (zs : List Int) (code : Int) : Prop where
  wd : Wd zs
  trim : Trimmed zs
  bad : e ≠ 0 → code = e ∧ zs = []
  long : e = 0 → wide ≤ t → code = 3 ∧ zs = []
  good : e = 0 → t < wide → code = 0 ∧ val zs = t

theorem Tells.err {e t : Int} (he : e ≠ 0) : Tells e t [] e := ⟨Wd.nil, Trimmed.nil, fun _ => ⟨rfl, rfl⟩, fun h => absurd h he, fun h => absurd h he⟩
theorem Tells.tooLong {t : Int} (h : wide ≤ t) : Tells 0 t [] 3 := ⟨Wd.nil, Trimmed.nil, fun h => absurd rfl h, fun _ _ => ⟨rfl, rfl⟩, fun _ h' => by omega⟩
theorem Tells.ok {t : Int} {zs : List Int} (hw : Wd zs) (ht : Trimmed zs) (hv : val zs = t) (h : t < wide) : Tells 0 t zs 0 := ⟨hw, ht, fun h => absurd rfl h, fun _ h' => by omega, fun _ _ => ⟨rfl, hv⟩⟩

theorem Tells.told {ys : List Int} (hw : Wd ys) : Tells 0 (val ys) (if 8192 < sz ys then [] else trimmed ys) (if 8192 < sz ys then 3 else 0) := by
  by_cases h : 8192 < sz ys
  · rw [if_pos h, if_pos h]; exact Tells.tooLong ((wide_iff hw).1 h)
  · rw [if_neg h, if_neg h]
    refine Tells.ok hw.trimmed (Trimmed.trimmed ys) (val_trimmed ys) ?_
    by_cases h2 : val ys < wide
    · exact h2
    · exact absurd ((wide_iff hw).2 (by omega)) h
end Go.Proofs.YtldeiapikkebgaaGreatDoor

/- nat.sum, nat.difference: the words of a sum, of a difference, in new memory: of every two lists that can be read. -/
namespace Go.Proofs.YtldeiapikkebgaaGreatDoor
open Go.RowKit
set_option linter.unusedVariables false

def OwnW (w : World) (base g n : Nat) (ys : List Int) : Prop := w.ownsRow base 94 1 (.slice (some ⟨g, 0, none⟩) n n) n (ys.map (Value.int .u32))
theorem OwnW.len {w : World} {base g n : Nat} {ys : List Int} (h : OwnW w base g n ys) : ys.length = n := by have := h.1; simpa using this
theorem OwnW.cell {w : World} {base g n : Nat} {ys : List Int} (h : OwnW w base g n ys) (k : Nat) (hk : k < n) : w.cell? ⟨g, k, none⟩ = some (.int .u32 (ys[k]?.getD 0)) := by
  have hl := h.len
  rw [World.ownsRow.cellAt h k (by omega), List.getElem?_map, List.getElem?_eq_getElem (by omega)]; rfl
theorem OwnW.free {w : World} {base g n : Nat} {ys : List Int} (h : OwnW w base g n ys) (k : Nat) : w.frozen? ⟨g, k, none⟩ = false := World.ownsRow.frozenAt h k
theorem OwnW.set {w : World} {base g n : Nat} {ys : List Int} (h : OwnW w base g n ys) (k : Nat) (z : Int) : OwnW (w.setCell ⟨g, k, none⟩ (.int .u32 z)) base g n (ys.set k z) := by
  have := (World.ownsRow.stored h k (.int .u32 z)).1
  rwa [← List.map_set] at this
theorem OwnW.made {w1 : World} {base g n : Nat} (h : w1.ownsRow base 94 1 (.slice (some ⟨g, 0, none⟩) n n) n (madeCells #[Value.int .u32 0] n).toList) : OwnW w1 base g n (List.replicate n 0) := by
  rw [made_words] at h; exact h
theorem OwnW.base {w : World} {base g n : Nat} {ys : List Int} (h : OwnW w base g n ys) : base ≤ g ∧ g < w.heap.size := World.ownsRow.lt h g rfl

end Go.Proofs.YtldeiapikkebgaaGreatDoor

/- nat.addTimes, nat.product: the words of a product, in new memory: of every two lists that can be read. -/
namespace Go.Proofs.YtldeiapikkebgaaGreatDoor
open Go.RowKit
set_option linter.unusedVariables false

def segTo (ys : List Int) (i : Nat) : Nat → Int
  | 0 => 0
  | k + 1 => segTo ys i k + ys[i + k]?.getD 0 * 4294967296 ^ k
theorem segTo_succ (ys : List Int) (i k : Nat) : segTo ys i (k + 1) = segTo ys i k + ys[i + k]?.getD 0 * 4294967296 ^ k := rfl
theorem segTo_congr (xs ys : List Int) (i : Nat) : ∀ k, (∀ j, j < k → xs[i + j]?.getD 0 = ys[i + j]?.getD 0) → segTo xs i k = segTo ys i k
  | 0, _ => rfl
  | k + 1, h => by rw [segTo_succ, segTo_succ, segTo_congr xs ys i k (fun j hj => h j (by omega)), h k (by omega)]
theorem segTo_set (ys : List Int) (i k : Nat) (z : Int) (h : i + k < ys.length) : segTo (ys.set (i + k) z) i (k + 1) = segTo ys i k + z * 4294967296 ^ k := by
  rw [segTo_succ, segTo_congr (ys.set (i + k) z) ys i k (fun j hj => by rw [List.getElem?_set, if_neg (by omega)]), List.getElem?_set, if_pos rfl, if_pos h]
  rfl
theorem valTo_seg (ys : List Int) (i : Nat) : ∀ k, valTo ys (i + k) = valTo ys i + segTo ys i k * 4294967296 ^ i
  | 0 => by simp [segTo]
  | k + 1 => by
    rw [← Nat.add_assoc, valTo_succ, valTo_seg ys i k, segTo_succ, Int.add_mul, Int.mul_assoc, ← Int.pow_add, Nat.add_comm k i, Int.add_assoc]

theorem mul_step (zs ys : List Int) (i k : Nat) (s x c t : Int) (hk : i + k < ys.length) (ht : c + (x * zs[k]?.getD 0 + ys[i + k]?.getD 0) = t) (s0 : Int)
    (h : segTo ys i k + c * 4294967296 ^ k = s0 + x * valTo zs k) :
    segTo (ys.set (i + k) (t % 4294967296)) i (k + 1) + t / 4294967296 * 4294967296 ^ (k + 1) = s0 + ys[i + k]?.getD 0 * 4294967296 ^ k + x * valTo zs (k + 1) := by
  rw [segTo_set ys i k _ hk, valTo_succ, pw_succ, Int.mul_add]
  have e := carry_step (4294967296 ^ k) (t % 4294967296) (t / 4294967296) t (by omega)
  have e2 : t * 4294967296 ^ k = c * 4294967296 ^ k + (x * (zs[k]?.getD 0 * 4294967296 ^ k) + ys[i + k]?.getD 0 * 4294967296 ^ k) := by
    rw [← ht, Int.add_mul, Int.add_mul, Int.mul_assoc]
  omega

theorem prod_word (x y : Int) (hx : 0 ≤ x ∧ x ≤ 4294967295) (hy : 0 ≤ y ∧ y ≤ 4294967295) : 0 ≤ x * y ∧ x * y ≤ 18446744065119617025 := by
  refine ⟨Int.mul_nonneg hx.1 hy.1, ?_⟩
  have h1 : x * y ≤ 4294967295 * y := Int.mul_le_mul_of_nonneg_right hx.2 hy.1
  omega

end Go.Proofs.YtldeiapikkebgaaGreatDoor

/- slackwaterkit.CopyWords tells the same words in new memory; slackwaterkit.LentWords has three marked words behind them; slackwaterref01.Trim drops the noughts at the end: of every list that can be read. -/
namespace Go.Proofs.YtldeiapikkebgaaGreatDoor
open Go.RowKit
set_option linter.unusedVariables false

theorem copy_news {w : World} {B : Nat} {ad : Addr} {n cap : Nat} {zs : List Int} (h : Reads w B (some ad) n cap zs) :
    ∀ j v, (zs.map (Value.int .u32))[j]? = some v → w.cell? (ad.add j) = some v := by
  intro j v hj
  have hj1 := (List.getElem?_eq_some_iff.1 hj).1
  have hl := h.1
  simp only [List.length_map] at hj1
  obtain ⟨ad', e, hc⟩ := copy_cells h n (Nat.le_refl _) (by omega)
  rw [← Option.some.inj e] at hc
  exact hc j v (by rw [List.take_of_length_le (by omega)]; exact hj)

set_option maxHeartbeats 800000 in
set_option maxRecDepth 100000 in
theorem copyWords_any (a : Option Addr) (n cap : Nat) (xs : List Int) (w : World) (h : Reads w w.heap.size a n cap xs) (hn : n ≤ 1099511627776) :
    Calls Tryz.prog 83 #[.slice a n cap] w fun e w' => ∃ v, e = .returned v ∧ w'.ownsRow w.heap.size 94 1 v n (xs.map (Value.int .u32)) ∧ Below w.heap.size w w' := by
  obtain ⟨i0, hi, hz0, hz1, hz2⟩ := info_parts Tryz.infoW
  have hl := h.1
  have HL : Hid (xs.length = n) := hl
  have hown : (w.alloc (.cells #[] 94)).ownsRow w.heap.size 94 1 (.slice (some ⟨w.heap.size, 0, none⟩) 0 0) 0 [] := World.ownsRow_lit w #[] 0 (Nat.le_refl _) (Nat.zero_le _) rfl
  have hbel : Below w.heap.size w (w.alloc (.cells #[] 94)) := (Below.refl _ _).alloc (Nat.le_refl _) _
  cases a with
  | none =>
    have h0 : cap = 0 := h.2.2.2.2.2 rfl
    subst h0
    have h1 : n = 0 := by have := h.2.2.2.1; omega
    subst h1
    have hx : xs = [] := List.eq_nil_of_length_eq_zero hl
    subst hx
    clear h hl
    go_enter Tryz.func83, Tryz.ntmps83
    go_wp2_with (at_builtin; refine wpList_append_own_none rfl _ _ 24 rfl w.heap.size 94 i0 1 Tryz.underlying24 hi _ 0 [] rfl hown rfl ?_)
    go_ret
    exact ⟨_, rfl, hown, hbel⟩
  | some ad =>
    have hnews := copy_news (h.later hbel (Nat.le_refl _))
    have HN : Hid (∀ j v, (xs.map (Value.int .u32))[j]? = some v → (w.alloc (.cells #[] 94)).cell? (ad.add j) = some v) := hnews
    have HLn : Hid ((xs.map (Value.int .u32)).length = n * 1) := by show _ = _; simp [hl]
    clear hnews h hl
    go_enter Tryz.func83, Tryz.ntmps83
    go_wp2_with (at_builtin; refine wpList_append_own _ rfl _ _ 24 rfl w.heap.size 94 i0 (.int .u32 0) 1 4 Tryz.underlying24 hi hz0 hz1 hz2 rfl (by decide) _ 0 [] rfl hown ad n cap (xs.map (Value.int .u32)) rfl HLn.out HN.out (ints_oneCell _ _) (by unfold maxLen; omega) (by omega) (by simp) ?_)
    intro v' w1 hown' hgrow _
    have hb2 : Below w.heap.size w w1 := hbel.grown hgrow (by simp) (fun k hk => by simp [Value.ownBlock] at hk; omega)
    go_wp2
    go_ret
    exact ⟨_, rfl, hown', hb2⟩

def marks (k : Nat) : List Int := [2882343476, 2882343477, 2882343478].take k
theorem marks_succ (k : Nat) (h : k < 3) : marks (k + 1) = marks k ++ [2882343476 + (k : Int)] := by
  match k, h with
  | 0, _ => rfl
  | 1, _ => rfl
  | 2, _ => rfl
theorem marks_len (k : Nat) (h : k ≤ 3) : (marks k).length = k := by simp [marks]; omega
theorem Wd.marks (k : Nat) : Wd (marks k) := by
  intro z hz
  have := List.mem_of_mem_take hz
  simp at this
  omega

set_option maxHeartbeats 1600000 in
set_option maxRecDepth 100000 in
theorem lentWords_any (a : Option Addr) (n cap : Nat) (xs : List Int) (w : World) (h : Reads w w.heap.size a n cap xs) (hn : n ≤ 549755813888) :
    Calls Tryz.prog 63 #[.slice a n cap] w fun e w' => ∃ v, e = .returned v ∧ w'.ownsRow w.heap.size 94 1 v (n + 3) ((xs ++ marks 3).map (Value.int .u32)) ∧ Below w.heap.size w w' := by
  obtain ⟨i0, hi, hz0, hz1, hz2⟩ := info_parts Tryz.infoW
  go_enter Tryz.func63, Tryz.ntmps63
  go_wp2_with fail
  refine (copyWords_any a n cap xs w h (by omega)).mono ?_
  rintro e w1 ⟨v, rfl, hown, hbel⟩
  go_wp2_with fail
  go_loopw [3, 4] (fun v t wr => ∃ k : Nat, k ≤ 3 ∧ t = .int .i64 k ∧ wr.ownsRow w.heap.size 94 1 v (n + k) ((xs ++ marks k).map (Value.int .u32)) ∧ Below w.heap.size w wr) (fun _ t _ => 3 - (intOf t).toNat)
  case atStart => exact ⟨0, by omega, rfl, by simpa [marks] using hown, hbel⟩
  case round =>
    obtain ⟨k, hk, rfl, ho, hb⟩ := hrel
    by_cases hlt : k < 3
    · have hsz := hb.size
      obtain ⟨R, hR⟩ : ∃ R, R = (xs ++ marks k).map (Value.int .u32) := ⟨_, rfl⟩
      rw [← hR] at ho
      have HM : Hid ((xs ++ marks (k + 1)).map (Value.int .u32) = R ++ [.int .u32 (2882343476 + (k : Int))]) := by
        show _ = _
        rw [marks_succ k hlt, hR]; simp
      clear hR
      go_wp2_with (at_builtin; refine wpList_append_own _ rfl _ _ 24 rfl w.heap.size 94 i0 (.int .u32 0) 1 4 Tryz.underlying24 hi hz0 hz1 hz2 rfl (by decide) _ _ _ rfl (ho.alloc _) ⟨wr.heap.size, 0, none⟩ 1 1 [.int .u32 (2882343476 + (k : Int))] rfl rfl (cell_one_new _ _ _) (by simp [Value.oneCell']) (by unfold maxLen; omega) (by omega) (by simp; omega) ?_)
      intro v' w2 ho2 hg2 _
      have hb2 : Below w.heap.size w w2 := (hb.alloc (by omega) _).grown hg2 (by simp; omega) (fun g hg => (ho.lt g hg).1)
      clear hg2
      go_wp2
      go_roundw
      case rel => exact ⟨k + 1, by omega, by go_num, by rw [HM.out]; exact ho2, hb2⟩
      case measure => simp [intOf]; omega
    · have hk3 : k = 3 := by omega
      subst hk3
      go_wp2
      go_ret
      exact ⟨_, rfl, ho, hb⟩

set_option maxHeartbeats 1600000 in
set_option maxRecDepth 100000 in
theorem refTrim_any (a : Option Addr) (n cap : Nat) (xs : List Int) (w : World) (h : Reads w w.heap.size a n cap xs) (hn : n ≤ 1099511627776) :
    Calls Tryz.prog 125 #[.slice a n cap] w fun e w' => ∃ v, e = .returned v ∧ w'.ownsRow w.heap.size 94 1 v (sz xs) ((trimmed xs).map (Value.int .u32)) ∧ Below w.heap.size w w' := by
  obtain ⟨i0, hi, hz0, hz1, hz2⟩ := info_parts Tryz.infoW
  have hl := h.1
  have hcap := h.2.2.2.1
  have hcm := h.2.2.2.2.1
  unfold maxLen at hcm
  rcases h.2.2.1 with h0 | ⟨b, o, rfl, hb, hc⟩
  · subst h0
    have hx : xs = [] := List.eq_nil_of_length_eq_zero hl
    subst hx
    have HF : Hid (w.ownsRow w.heap.size 94 1 (.slice none 0 0) (sz []) ((trimmed []).map (Value.int .u32))) := World.ownsRow_nil _ _ _ _
    cases a with
    | none =>
      obtain rfl : cap = 0 := h.2.2.2.2.2 rfl
      clear h hl
      go_enter Tryz.func125, Tryz.ntmps125
      go_wp2
      refine wp_loop_rounds 1 ?_
      rw [rounds_succ]
      go_wp2_with (at_builtin; refine wpList_append_own_none rfl _ _ 24 rfl w.heap.size 94 i0 1 Tryz.underlying24 hi _ 0 [] rfl (World.ownsRow_nil _ _ _ _) rfl ?_)
      go_ret
      exact ⟨_, rfl, HF.out, Below.refl _ _⟩
    | some ad =>
      clear h hl
      go_enter Tryz.func125, Tryz.ntmps125
      go_wp2
      refine wp_loop_rounds 1 ?_
      rw [rounds_succ]
      go_wp2_with fail
      go_ret
      exact ⟨_, rfl, HF.out, Below.refl _ _⟩
  · have HL : Hid (xs.length = n) := hl
    have HR : Hid (Reads w w.heap.size (some ⟨b, o, none⟩) n cap xs) := h
    clear h hl
    go_enter Tryz.func125, Tryz.ntmps125
    go_wp2
    go_loop [3] (fun t => ∃ k : Nat, k ≤ n ∧ t = .int .i64 k ∧ Hid (szTo xs k = sz xs)) (fun t => (intOf t).toNat)
    case atStart => exact ⟨n, Nat.le_refl _, rfl, show _ = _ by rw [sz, HL.out]⟩
    case round =>
      obtain ⟨k, hk, rfl, HS⟩ := hrel
      rcases k with _ | k
      · have HF : Hid (w.ownsRow w.heap.size 94 1 (.slice none 0 0) (sz xs) ((trimmed xs).map (Value.int .u32))) := by
          show World.ownsRow _ _ _ _ _ _ _
          unfold trimmed
          rw [show sz xs = 0 from HS.out.symm]
          exact World.ownsRow_nil _ _ _ _
        go_wp2_with fail
        go_ret
        exact ⟨_, rfl, HF.out, Below.refl _ _⟩
      · have hcx := hc k (by omega)
        by_cases hz : xs[k]?.getD 0 = 0
        · have hzb : (xs[k]?.getD 0 == 0) = true := by simp [hz]
          have HS' : Hid (szTo xs k = sz xs) := by show _ = _; rw [← HS.out, szTo_zero xs k hz]
          clear hz
          go_wp2
          go_round
          case rel => exact ⟨k, by omega, by go_num, HS'⟩
          case measure => simp [intOf]
        · have hzb : (xs[k]?.getD 0 == 0) = false := by simp [hz]
          have hs1 : sz xs = k + 1 := by rw [← HS.out, szTo_keep xs k hz]
          have ht : trimmed xs = xs.take (k + 1) := by unfold trimmed; rw [hs1]
          obtain ⟨R, hR⟩ : ∃ R, R = (trimmed xs).map (Value.int .u32) := ⟨_, rfl⟩
          have HN : Hid (∀ j v, R[j]? = some v → w.cell? ((⟨b, o, none⟩ : Addr).add j) = some v) := by
            rw [hR, ht]
            exact copy_news (HR.out.front (k + 1) (by omega))
          have HLn : Hid (R.length = (k + 1) * 1) := by
            show _ = _
            have := HL.out
            rw [hR, ht]; simp; omega
          have H1 : Hid (∀ u ∈ R, u.oneCell' = true) := by rw [hR]; exact ints_oneCell _ _
          have HS1 : Hid (sz xs = k + 1) := hs1
          have HR' : Hid (R = (trimmed xs).map (Value.int .u32)) := hR
          clear hs1 ht hz hR
          go_wp2_with (at_builtin; refine wpList_append_own _ rfl _ _ 24 rfl w.heap.size 94 i0 (.int .u32 0) 1 4 Tryz.underlying24 hi hz0 hz1 hz2 rfl (by decide) _ 0 [] rfl (World.ownsRow_nil _ _ _ _) ⟨b, o, none⟩ (k + 1) cap R rfl HLn.out HN.out H1.out (by unfold maxLen; omega) (by omega) (Nat.le_refl _) ?_)
          intro v' w1 hown' hgrow _
          have hb2 : Below w.heap.size w w1 := (Below.refl _ _).grown hgrow (Nat.le_refl _) (fun k hk => by simp [Value.ownBlock] at hk)
          go_wp2
          go_ret
          exact ⟨_, rfl, by rw [HS1.out, ← HR'.out]; simpa using hown', hb2⟩
end Go.Proofs.YtldeiapikkebgaaGreatDoor

/- slackwaterkit.KeptWords: does a list still hold the words and the marks behind them; slackwaterkit.OverWords writes over a list's words and its spare room, and over nothing else. -/
namespace Go.Proofs.YtldeiapikkebgaaGreatDoor
open Go.RowKit
set_option linter.unusedVariables false

set_option maxHeartbeats 800000 in
set_option maxRecDepth 100000 in
theorem keptWords_any (a : Option Addr) (n cap : Nat) (xs : List Int) (b : Option Addr) (m cap' : Nat) (ys : List Int) (w : World) (h : Reads w w.heap.size a n cap xs) (g : Reads w w.heap.size b m cap' ys) (hn : n ≤ 549755813888) (hm : m ≤ 274877906944) :
    Calls Tryz.prog 82 #[.slice a n cap, .slice b m cap'] w fun e w' => e = .returned (.bool (decide (xs = ys ++ marks 3))) ∧ Below w.heap.size w w' := by
  go_enter Tryz.func82, Tryz.ntmps82
  go_wp2_with fail
  refine (lentWords_any b m cap' ys w g (by omega)).mono ?_
  rintro e w1 ⟨v, rfl, hown, hbel⟩
  obtain ⟨a1, c1, hv, hr⟩ := Reads.own hown (g.2.1.append (Wd.marks 3))
  rw [hv]
  go_wp2_with fail
  refine (same_any a n cap xs a1 (m + 3) c1 (ys ++ marks 3) w1 (h.later hbel hbel.size) hr (by omega) (by omega)).mono ?_
  rintro e w2 ⟨rfl, hb2⟩
  go_wp2
  go_ret
  exact ⟨rfl, hbel.trans (hb2.mono hbel.size)⟩

def compl (xs : List Int) : List Int := xs.map (fun x => 4294967295 - x)
theorem compl_get (xs : List Int) (j : Nat) (h : j < xs.length) : (compl xs)[j]?.getD 0 = 4294967295 - xs[j]?.getD 0 := by simp [compl, h]
theorem Wd.compl {xs : List Int} (h : Wd xs) : Wd (compl xs) := by
  intro z hz
  obtain ⟨x, hx, rfl⟩ := List.mem_map.1 hz
  have := h x hx
  omega
def part (xs : List Int) (k : Nat) : List Int := compl (xs.take k) ++ xs.drop k
theorem part_zero (xs : List Int) : part xs 0 = xs := by simp [part, compl]
theorem part_len (xs : List Int) (k : Nat) : (part xs k).length = xs.length := by simp [part, compl]; omega
theorem part_all (xs : List Int) (k : Nat) (h : xs.length ≤ k) : part xs k = compl xs := by
  simp [part, List.take_of_length_le h, List.drop_eq_nil_of_le h]
theorem part_at (xs : List Int) (k : Nat) (h : k < xs.length) : (part xs k)[k]? = some (xs[k]?.getD 0) := by
  simp [part, compl, List.getElem?_append, h]
  rw [if_neg (by omega)]
  rw [show k - min k xs.length = 0 by omega]
  simp [h]
theorem part_succ (xs : List Int) (k : Nat) (h : k < xs.length) : part xs (k + 1) = (part xs k).set k (4294967295 - xs[k]?.getD 0) := by
  refine List.ext_getElem? fun j => ?_
  rw [List.getElem?_set]
  simp only [part_len]
  by_cases e : k = j
  · subst e
    rw [if_pos rfl, if_pos h]
    simp [part, compl, List.getElem?_append, h]
    omega
  · rw [if_neg e]
    simp only [part, compl, List.getElem?_append, List.length_map, List.length_take, List.getElem?_map, List.getElem?_take, List.getElem?_drop]
    by_cases e2 : j < k
    · rw [if_pos (by omega), if_pos (by omega), if_pos (by omega), if_pos (by omega)]
    · rw [if_neg (by omega), if_neg (by omega)]
      congr 1
      omega

theorem owns_front {w : World} {base e g n k cap : Nat} {xs ys : List Value} (h : w.ownsRow base e 1 (.slice (some ⟨g, 0, none⟩) (n + k) cap) (n + k) (xs ++ ys)) (hx : xs.length = n) : w.ownsRow base e 1 (.slice (some ⟨g, 0, none⟩) n cap) n xs := by
  rcases h.2 with ⟨h', _⟩ | ⟨g', cap', cur, h', hb, hg, h1, h2, h3, h4⟩
  · simp at h'
  · simp only [Value.slice.injEq, Option.some.injEq, Addr.mk.injEq, and_true, true_and] at h'
    obtain ⟨rfl, rfl⟩ := h'
    refine ⟨by omega, .inr ⟨g, cap, cur, rfl, hb, hg, by omega, h2, h3, ?_⟩⟩
    have := congrArg (List.take n) h4
    rw [List.take_take, List.take_append_of_le_length (by omega), List.take_of_length_le (l := xs) (by omega), Nat.mul_one, Nat.min_eq_left (by omega)] at this
    rw [Nat.mul_one]; exact this

theorem not_nat (n : Nat) (h : n < 4294967296) : 4294967295 ^^^ n = 4294967295 - n := by
  refine Nat.eq_of_testBit_eq fun i => ?_
  have e1 : (4294967295 : Nat) = 2 ^ 32 - 1 := by decide
  have e2 : 4294967295 - n = 2 ^ 32 - (n + 1) := by omega
  rw [e2, Nat.testBit_two_pow_sub_succ (by omega), Nat.testBit_xor, e1, Nat.testBit_two_pow_sub_one]
  by_cases hi : i < 32
  · simp [hi]
  · have : n.testBit i = false := Nat.testBit_lt_two_pow (Nat.lt_of_lt_of_le h (by
      have := Nat.pow_le_pow_right (n := 2) (by omega) (show 32 ≤ i by omega)
      omega))
    simp [hi, this]
theorem not_u32 (x : Int) (h0 : 0 ≤ x) (h1 : x ≤ 4294967295) : bits BinOp.xor IntKind.u32 (if IntKind.u32.signed = true then -1 else IntKind.u32.max) x = 4294967295 - x := by
  have e : (if IntKind.u32.signed = true then (-1 : Int) else IntKind.u32.max) = 4294967295 := by decide
  rw [e, u32_xor _ _ (by omega) (by omega) h0 (by omega)]
  have := not_nat x.toNat (by omega)
  have e2 : Int.toNat 4294967295 = 4294967295 := rfl
  rw [e2, this]
  omega

theorem grown_trans {a b c : World} {r : Option Nat} (h : a.grownBy b r) (g : b.grownBy c r) : a.grownBy c r :=
  ⟨g.os.trans h.os, g.tape.trans h.tape, g.output.trans h.output, Nat.le_trans h.size g.size, fun k hk hr => (g.block k (Nat.lt_of_lt_of_le hk h.size) hr).trans (h.block k hk hr)⟩

set_option maxHeartbeats 1600000 in
set_option maxRecDepth 100000 in
theorem over_own (base g n cap : Nat) (xs : List Int) (w : World) (hw : Wd xs) (h : w.ownsRow base 94 1 (.slice (some ⟨g, 0, none⟩) n cap) n (xs.map (Value.int .u32))) :
    Calls Tryz.prog 85 #[.slice (some ⟨g, 0, none⟩) n cap] w fun e w' => e = .returned (.tuple #[]) ∧ w'.ownsRow base 94 1 (.slice (some ⟨g, 0, none⟩) n cap) n ((compl xs).map (Value.int .u32)) ∧ w.grownBy w' (some g) := by
  obtain ⟨i0, hi, hz0, hz1, hz2⟩ := info_parts Tryz.infoW
  have hl : xs.length = n := by have := h.1; simpa using this
  have HL := hid hl
  obtain ⟨hnc, hcm⟩ : n ≤ cap ∧ cap ≤ maxLen := by
    rcases h.2 with ⟨h', _⟩ | ⟨g', cap', cur, h', hb, hg, h1, h2, h3, h4⟩
    · simp at h'
    · simp only [Value.slice.injEq, Option.some.injEq, Addr.mk.injEq, and_true, true_and] at h'
      obtain ⟨rfl, rfl⟩ := h'
      exact ⟨h1, h2⟩
  have hcm' : cap ≤ 9223372036854775807 := by unfold maxLen at hcm; omega
  clear hl
  go_enter Tryz.func85, Tryz.ntmps85
  go_wp2
  go_loopw [3] (fun t wr => ∃ k : Nat, k ≤ n ∧ t = .int .i64 k ∧ wr.ownsRow base 94 1 (.slice (some ⟨g, 0, none⟩) n cap) n ((part xs k).map (Value.int .u32)) ∧ w.grownBy wr (some g)) (fun t _ => n - (intOf t).toNat)
  case atStart => exact ⟨0, Nat.zero_le _, rfl, by rw [part_zero]; exact h, World.grownBy.refl _ _⟩
  case round =>
    obtain ⟨k, hk, rfl, ho, hg⟩ := hrel
    by_cases hlt : k < n
    · have hcx : wr.cell? ⟨g, k, none⟩ = some (.int .u32 (xs[k]?.getD 0)) := by
        rw [ho.cellAt k (by omega), List.getElem?_map, part_at xs k (by rw [HL.out]; exact hlt)]; rfl
      have hfx : wr.frozen? ⟨g, k, none⟩ = false := ho.frozenAt k
      have hbd := hw.at k
      have hst := ho.stored k (Value.int .u32 (4294967295 - xs[k]?.getD 0))
      rw [← List.map_set, ← part_succ xs k (by rw [HL.out]; exact hlt)] at hst
      have HST := hid hst
      clear hst
      go_wp2
      go_roundw
      case rel => exact ⟨k + 1, by omega, by go_num, by rw [not_u32 _ hbd.1 hbd.2]; exact HST.out.1, by rw [not_u32 _ hbd.1 hbd.2]; exact grown_trans hg HST.out.2⟩
      case measure => simp [intOf]; omega
    · have hkn : k = n := by omega
      subst hkn
      rw [part_all xs k (by rw [HL.out]; omega)] at ho
      obtain ⟨w2, hw2⟩ : ∃ w2, w2 = wr := ⟨_, rfl⟩
      subst hw2
      have HO := hid ho
      have HG := hid hg
      clear ho hg
      go_wp2
      go_loopw [0, 4] (fun l t wr => ∃ c : Nat, k + c ≤ cap ∧ t = .int .i64 ((k : Int) + c) ∧ l = .slice (some ⟨g, 0, none⟩) (k + c) cap ∧ wr.ownsRow base 94 1 (.slice (some ⟨g, 0, none⟩) (k + c) cap) (k + c) ((compl xs).map (Value.int .u32) ++ List.replicate c (.int .u32 2882343476)) ∧ w.grownBy wr (some g)) (fun _ t _ => cap - (intOf t).toNat)
      case atStart => exact ⟨0, by omega, by go_num, rfl, by simpa using HO.out, HG.out⟩
      case round =>
        obtain ⟨c, hc, rfl, rfl, ho, hg⟩ := hrel
        by_cases hlt : k + c < cap
        · obtain ⟨R, hR⟩ : ∃ R, R = (compl xs).map (Value.int .u32) ++ List.replicate c (.int .u32 2882343476) := ⟨_, rfl⟩
          have HM : Hid ((compl xs).map (Value.int .u32) ++ List.replicate (c + 1) (.int .u32 2882343476) = R ++ [.int .u32 2882343476]) := by
            show _ = _
            rw [hR, List.append_assoc, ← List.replicate_succ']
          rw [← hR] at ho
          clear hR
          go_wp2_with (at_builtin; refine wpList_append_fits _ rfl _ _ 24 rfl base 94 i0 1 Tryz.underlying24 hi hz1 g (k + c) cap R rfl (ho.alloc _) ⟨wr.heap.size, 0, none⟩ 1 1 [.int .u32 2882343476] rfl rfl (cell_one_new _ _ _) (by simp [Value.oneCell']) (by omega) ?_)
          intro w3 ho3 hg3
          have hg4 : w.grownBy w3 (some g) := grown_trans (grown_trans hg (World.grownBy_alloc _ _ _)) hg3
          clear hg3
          go_wp2
          go_roundw
          case rel => exact ⟨c + 1, by omega, by go_num, by simp; omega, by rw [HM.out]; exact ho3, hg4⟩
          case measure => simp [intOf]; omega
        · have hkc : k + c = cap := by omega
          have HF : Hid (wr.ownsRow base 94 1 (.slice (some ⟨g, 0, none⟩) k cap) k ((compl xs).map (Value.int .u32))) := owns_front ho (by simp [compl, HL.out])
          clear ho
          go_wp2
          go_end0
          exact ⟨rfl, HF.out, hg⟩
end Go.Proofs.YtldeiapikkebgaaGreatDoor

/- nat.divideByWord divides a number of the call's own by one word, in place, and tells the rest: whatever the words, the divisor not being 0. -/
namespace Go.Proofs.YtldeiapikkebgaaGreatDoor
open Go.RowKit
set_option linter.unusedVariables false

theorem segTo_cons (ys : List Int) : ∀ m k, segTo ys k (m + 1) = ys[k]?.getD 0 + segTo ys (k + 1) m * 4294967296
  | 0, k => by simp [segTo]
  | m + 1, k => by
    have ih := segTo_cons ys m k
    rw [segTo_succ ys k (m + 1), ih, segTo_succ ys (k + 1) m, pw_succ, Int.add_mul, show k + (m + 1) = k + 1 + m by omega, Int.mul_assoc]
    omega
theorem segTo_zero (ys : List Int) (k : Nat) : segTo ys 0 k = valTo ys k := by
  have := valTo_seg ys 0 k
  simp [valTo] at this
  exact this.symm

theorem div_word (x r z t : Int) (hx : 1 ≤ x) (hr0 : 0 ≤ r) (hr : r < x) (hz : 0 ≤ z ∧ z ≤ 4294967295) (ht : t = z + r * 4294967296) : 0 ≤ t ∧ 0 ≤ t / x ∧ t / x ≤ 4294967295 ∧ 0 ≤ t % x ∧ t % x < x := by
  have h0 : 0 ≤ t := by omega
  refine ⟨h0, Int.ediv_nonneg h0 (by omega), ?_, Int.emod_nonneg _ (by omega), Int.emod_lt_of_pos _ (by omega)⟩
  have : t / x < 4294967296 := Int.ediv_lt_of_lt_mul (by omega) (by omega)
  omega

theorem div_step (ys us : List Int) (n k : Nat) (x r t : Int) (hk : k < us.length) (hn : n = us.length) (ht : t = ys[k]?.getD 0 + r * 4294967296)
    (h : segTo ys (k + 1) (n - (k + 1)) = segTo us (k + 1) (n - (k + 1)) * x + r) :
    segTo ys k (n - k) = segTo (us.set k (t / x)) k (n - k) * x + t % x := by
  obtain ⟨m, hm⟩ : ∃ m, n - k = m + 1 := ⟨n - k - 1, by omega⟩
  have hm2 : n - (k + 1) = m := by omega
  rw [hm, segTo_cons, segTo_cons, List.getElem?_set, if_pos rfl, if_pos hk]
  rw [hm2] at h
  rw [h, segTo_congr (us.set k (t / x)) us (k + 1) m (fun j hj => by rw [List.getElem?_set, if_neg (by omega)])]
  have e := Int.mul_ediv_add_emod t x
  show _ = (t / x + _) * x + t % x
  rw [Int.add_mul, Int.add_mul, Int.mul_comm (t / x) x, Int.mul_assoc, Int.mul_comm x 4294967296, ← Int.mul_assoc]
  omega

def OwnC (w : World) (base g n cap : Nat) (ys : List Int) : Prop := w.ownsRow base 94 1 (.slice (some ⟨g, 0, none⟩) n cap) n (ys.map (Value.int .u32))
theorem OwnC.len {w : World} {base g n cap : Nat} {ys : List Int} (h : OwnC w base g n cap ys) : ys.length = n := by have := h.1; simpa using this
theorem OwnC.cell {w : World} {base g n cap : Nat} {ys : List Int} (h : OwnC w base g n cap ys) (k : Nat) (hk : k < n) : w.cell? ⟨g, k, none⟩ = some (.int .u32 (ys[k]?.getD 0)) := by
  have hl := h.len
  rw [World.ownsRow.cellAt h k (by omega), List.getElem?_map, List.getElem?_eq_getElem (by omega)]; rfl
theorem OwnC.free {w : World} {base g n cap : Nat} {ys : List Int} (h : OwnC w base g n cap ys) (k : Nat) : w.frozen? ⟨g, k, none⟩ = false := World.ownsRow.frozenAt h k
theorem OwnC.set {w : World} {base g n cap : Nat} {ys : List Int} (h : OwnC w base g n cap ys) (k : Nat) (z : Int) : OwnC (w.setCell ⟨g, k, none⟩ (.int .u32 z)) base g n cap (ys.set k z) ∧ w.grownBy (w.setCell ⟨g, k, none⟩ (.int .u32 z)) (some g) := by
  have := World.ownsRow.stored h k (.int .u32 z)
  rw [← List.map_set] at this
  exact this
theorem OwnC.cap {w : World} {base g n cap : Nat} {ys : List Int} (h : OwnC w base g n cap ys) : n ≤ cap ∧ cap ≤ maxLen := by
  rcases h.2 with ⟨h', _⟩ | ⟨g', cap', cur, h', hb, hg, h1, h2, h3, h4⟩
  · simp at h'
  · simp only [Value.slice.injEq, Option.some.injEq, Addr.mk.injEq, and_true, true_and] at h'
    obtain ⟨rfl, rfl⟩ := h'
    exact ⟨h1, h2⟩
theorem OwnC.take {w : World} {base g n cap : Nat} {ys : List Int} (h : OwnC w base g n cap ys) (k : Nat) (hk : k ≤ n) : OwnC w base g k cap (ys.take k) := by
  have hl := h.len
  have := owns_front (n := k) (k := n - k) (xs := (ys.take k).map (Value.int .u32)) (ys := (ys.drop k).map (Value.int .u32)) (w := w) (base := base) (e := 94) (g := g) (cap := cap)
    (by rw [← List.map_append, List.take_append_drop, show k + (n - k) = n by omega]; exact h) (by rw [List.length_map, List.length_take]; omega)
  exact this

set_option maxHeartbeats 3200000 in
set_option maxRecDepth 100000 in
theorem divideByWord_any (base g n cap : Nat) (ys : List Int) (x : Int) (w : World) (ho : OwnC w base g n cap ys) (hwy : Wd ys) (hn : n ≤ 1099511627776) (hx : 1 ≤ x ∧ x ≤ 4294967295) :
    Calls Tryz.prog 113 #[.slice (some ⟨g, 0, none⟩) n cap, .int .u32 x] w fun e w' => ∃ (r : Int) (us : List Int), e = .returned (.int .u32 r) ∧ 0 ≤ r ∧ r < x ∧ OwnC w' base g n cap us ∧ Wd us ∧ val ys = val us * x + r ∧ w.grownBy w' (some g) := by
  have hx1 := hx.1
  have hx2 := hx.2
  have hlen := ho.len
  have HLN := hid hlen
  clear hx hlen
  go_enter Tryz.func113, Tryz.ntmps113
  go_wp2_with fail
  go_loopw [5, 6] (fun c t wr => ∃ (k : Nat) (r : Int) (us : List Int), k ≤ n ∧ t = .int .i64 ((k : Int) - 1) ∧ c = .int .u64 r ∧ 0 ≤ r ∧ r < x ∧ Wd us ∧ Hid (segTo ys k (n - k) = segTo us k (n - k) * x + r) ∧
    Hid (∀ j, j < k → us[j]?.getD 0 = ys[j]?.getD 0) ∧ OwnC wr base g n cap us ∧ w.grownBy wr (some g)) (fun _ t _ => (intOf t + 1).toNat)
  case atStart => exact ⟨n, 0, ys, by omega, rfl, rfl, by omega, by omega, hwy, show _ = _ by rw [Nat.sub_self]; simp [segTo], fun _ _ => rfl, ho, World.grownBy.refl _ _⟩
  case round =>
    obtain ⟨k, r, us, hk, rfl, rfl, r0, r1, hwu, HV, HK, hou, hg⟩ := hrel
    rcases k with _ | k
    · have HV' : Hid (val ys = val us * x + r) := by
        show _ = _
        have e := HV.out
        rw [segTo_zero, segTo_zero, valTo_stable ys _ (by have := HLN.out; omega), valTo_stable us _ (by have := hou.len; omega)] at e
        exact e
      clear HV
      go_wp2
      go_ret
      exact ⟨r, us, rfl, r0, r1, hou, hwu, HV'.out, hg⟩
    · have ek : (((k + 1 : Nat) : Int) - 1) = (k : Int) := by omega
      rw [ek]
      clear ek
      have y1 := hou.cell k (by omega)
      have f1 := hou.free k
      have bu := hwu.at k
      have hlu := hou.len
      obtain ⟨t, ht⟩ : ∃ t, t = us[k]?.getD 0 + r * 4294967296 := ⟨_, rfl⟩
      have hor : bits BinOp.or IntKind.u64 (r * 4294967296) (us[k]?.getD 0) = t := by rw [or_join r _ r0 (by omega) bu.1 bu.2, ht]
      obtain ⟨t0, q0, q1, m0, m1⟩ := div_word x r (us[k]?.getD 0) t hx1 r0 r1 bu ht
      have t2 : t ≤ 18446744073709551615 := by omega
      have HV' := hid (div_step ys us n k x r t (by omega) hlu.symm (by rw [ht, HK.out k (by omega)]) HV.out)
      have HK' : Hid (∀ j, j < k → (us.set k (t / x))[j]?.getD 0 = ys[j]?.getD 0) := fun j hj => by
        rw [List.getElem?_set, if_neg (by omega)]; exact HK.out j (by omega)
      have HO' := hid (hou.set k (t / x)).1
      have HG' := hid (grown_trans hg (hou.set k (t / x)).2)
      clear hlu hou hg HV HK ht
      go_wp2
      go_roundw
      case rel => exact ⟨k, t % x, us.set k (t / x), by omega, rfl, rfl, m0, m1, hwu.set k ⟨q0, q1⟩, HV', HK', HO'.out, HG'.out⟩
      case measure => simp [intOf]
end Go.Proofs.YtldeiapikkebgaaGreatDoor

/- nat.raise, nat.lower: words moved up and down by whole words and bits, in new memory. -/
namespace Go.Proofs.YtldeiapikkebgaaGreatDoor
open Go.RowKit
set_option linter.unusedVariables false

theorem two_pos (t : Nat) : (0 : Int) < 2 ^ t := Int.pow_pos (by decide)
theorem two_le {t u : Nat} (h : t ≤ u) : (2 : Int) ^ t ≤ 2 ^ u := by
  obtain ⟨d, rfl⟩ : ∃ d, u = t + d := ⟨u - t, by omega⟩
  rw [Int.pow_add]
  have h1 := two_pos t
  have h2 := two_pos d
  have h3 : (2 : Int) ^ t * 1 ≤ 2 ^ t * 2 ^ d := Int.mul_le_mul_of_nonneg_left (by omega) (by omega)
  omega
theorem or_low (c x : Int) (t : Nat) (ht : t ≤ 32) (c0 : 0 ≤ c) (c1 : c < 2 ^ t) (x0 : 0 ≤ x) (x1 : x ≤ 4294967295) (hp : x * 2 ^ t ≤ 18446744073709551615) : bits BinOp.or IntKind.u64 c (x * 2 ^ t) = c + x * 2 ^ t := by
  have h1 := two_pos t
  have h2 : (2 : Int) ^ t ≤ 2 ^ 32 := two_le ht
  have h3 : 0 ≤ x * 2 ^ t := Int.mul_nonneg x0 (Int.le_of_lt h1)
  obtain ⟨C, rfl⟩ := Int.eq_ofNat_of_zero_le c0
  obtain ⟨X, rfl⟩ := Int.eq_ofNat_of_zero_le x0
  have e1 : (X : Int) * 2 ^ t = ((X * 2 ^ t : Nat) : Int) := by rw [Int.natCast_mul, Int.natCast_pow]; rfl
  have e2 : ((2 ^ t : Nat) : Int) = 2 ^ t := by rw [Int.natCast_pow]; rfl
  rw [e1] at hp ⊢
  rw [← e2] at c1
  rw [u64_or _ _ (by omega) (by omega) (by omega) (by omega), Int.toNat_natCast, Int.toNat_natCast, Nat.or_comm, nat_join t _ _ (Nat.mul_mod_left _ _) (Int.ofNat_lt.1 c1)]
  omega
theorem shl_word (x : Int) (t : Nat) (ht : t ≤ 31) (x0 : 0 ≤ x) (x1 : x ≤ 4294967295) : 0 ≤ x * 2 ^ t ∧ x * 2 ^ t ≤ 4294967295 * 2 ^ t ∧ (2 : Int) ^ t ≤ 2147483648 ∧ 0 < (2 : Int) ^ t := by
  have h1 := two_pos t
  have h2 : (2 : Int) ^ t ≤ 2 ^ 31 := two_le ht
  exact ⟨Int.mul_nonneg x0 (Int.le_of_lt h1), Int.mul_le_mul_of_nonneg_right x1 (Int.le_of_lt h1), h2, h1⟩

theorem raise_step (xs us : List Int) (W k : Nat) (P c t : Int) (hk : W + k < us.length) (ht : t = c + xs[k]?.getD 0 * P)
    (h : segTo us W k + c * 4294967296 ^ k = valTo xs k * P) :
    segTo (us.set (W + k) (t % 4294967296)) W (k + 1) + t / 4294967296 * 4294967296 ^ (k + 1) = valTo xs (k + 1) * P := by
  rw [segTo_set us W k _ hk, valTo_succ, pw_succ, Int.add_mul, ← h]
  have e := carry_step (4294967296 ^ k) (t % 4294967296) (t / 4294967296) t (by omega)
  have e2 : t * 4294967296 ^ k = c * 4294967296 ^ k + xs[k]?.getD 0 * 4294967296 ^ k * P := by
    rw [ht, Int.add_mul, Int.mul_assoc, Int.mul_comm P, ← Int.mul_assoc]
  omega

set_option maxHeartbeats 3200000 in
set_option maxRecDepth 100000 in
theorem raise_any (a : Option Addr) (n cap : Nat) (xs : List Int) (W t : Nat) (w : World) (h : Reads w w.heap.size a n cap xs) (hn : n ≤ 274877906944) (hn0 : 0 < n) (hW : W ≤ 274877906944) (ht : t ≤ 31) :
    Calls Tryz.prog 185 #[.slice a n cap, .int .i64 W, .int .i64 t] w fun e w' => ∃ (ys : List Int), e = .returned (.slice (some ⟨w.heap.size, 0, none⟩) (n + W + 1) (n + W + 1)) ∧ OwnW w' w.heap.size w.heap.size (n + W + 1) ys ∧ Wd ys ∧ val ys = val xs * 2 ^ t * 4294967296 ^ W ∧ Below w.heap.size w w' := by
  obtain ⟨i0, hi, hz0, hz1, hz2⟩ := info_parts Tryz.infoW
  rcases h.2.2.1 with h0 | ⟨b1, o1, rfl, hb1, hc1⟩
  · omega
  · have hwA := h.2.1
    have HL := hid h.1
    have HA := hid hc1
    clear hc1 h
    go_enter Tryz.func185, Tryz.ntmps185
    go_wp2_with (at_make; refine wpList_make_full _ rfl _ _ 24 rfl w.heap.size 94 i0 (.int .u32 0) 1 Tryz.underlying24 hi hz0 hz1 _ _ _ _ (n + W + 1) rfl rfl (by omega) (by omega) (by rw [hz2]; omega) (by unfold maxLen; omega) (Nat.le_refl _) ?_)
    intro w1 hown hgrow
    have hbel : Below w.heap.size w w1 := (Below.refl _ _).grown hgrow (Nat.le_refl _) (fun k hk => by simp at hk)
    have HO := hid (OwnW.made hown)
    clear hown hgrow
    go_wp2_with fail
    go_loopw [8, 19] (fun c z wr => ∃ (k : Nat) (cc : Int) (us : List Int), k ≤ n ∧ z = .int .i64 k ∧ c = .int .u64 cc ∧ 0 ≤ cc ∧ Hid (cc < 2 ^ t) ∧ Wd us ∧ Hid (segTo us W k + cc * 4294967296 ^ k = valTo xs k * 2 ^ t) ∧
      Hid (∀ j, j < W ∨ W + k ≤ j → us[j]?.getD 0 = 0) ∧ OwnW wr w.heap.size w.heap.size (n + W + 1) us ∧ Below w.heap.size w wr) (fun _ z _ => n - (intOf z).toNat)
    case atStart =>
      have hz : ∀ j : Nat, (List.replicate (n + W + 1) (0 : Int))[j]?.getD 0 = 0 := fun j => by rw [List.getElem?_replicate]; split <;> rfl
      exact ⟨0, 0, _, by omega, rfl, rfl, by omega, two_pos t, Wd.replicate _, show _ = _ by simp [segTo, valTo], fun j _ => hz j, HO.out, hbel⟩
    case round =>
      obtain ⟨k, cc, us, hk, rfl, rfl, c0, C1, hwu, HV, HK, ho, hb⟩ := hrel
      by_cases hlt : k < n
      · have x1 : wr.cell? ⟨b1, o1 + k, none⟩ = some (.int .u32 (xs[k]?.getD 0)) := (hb.cell (p := ⟨b1, o1 + k, none⟩) hb1).trans (HA.out k hlt)
        have bx := hwA.at k
        have y1 := ho.cell (W + k) (by omega)
        have f1 := ho.free (W + k)
        have hlu := ho.len
        obtain ⟨q0, q1, q2, q3⟩ := shl_word _ t ht bx.1 bx.2
        have hor := or_low cc (xs[k]?.getD 0) t (by omega) c0 C1.out bx.1 bx.2 (by omega)
        obtain ⟨p, hp⟩ : ∃ p, xs[k]?.getD 0 * 2 ^ t = p := ⟨_, rfl⟩
        have c1 := C1.out
        obtain ⟨u, hu⟩ : ∃ u, u = cc + p := ⟨_, rfl⟩
        rw [hp] at q0 q1 hor
        rw [← hu] at hor
        have u0 : 0 ≤ u := by omega
        have u1 : u ≤ 18446744073709551615 := by omega
        have p1 : p ≤ 18446744073709551615 := by omega
        have HC' : Hid (u / 4294967296 < 2 ^ t) := by
          show _ < _
          refine Int.ediv_lt_of_lt_mul (by omega) ?_
          omega
        have HV' := hid (raise_step xs us W k (2 ^ t) cc u (by omega) (by rw [hu, ← hp]) HV.out)
        have HK' : Hid (∀ j, j < W ∨ W + (k + 1) ≤ j → (us.set (W + k) (u % 4294967296))[j]?.getD 0 = 0) := fun j hj => by
          rw [List.getElem?_set, if_neg (by omega)]
          exact HK.out j (by omega)
        have HO' := hid (ho.set (W + k) (u % 4294967296))
        have HB' := hid (hb.setCell (p := ⟨w.heap.size, W + k, none⟩) (Nat.le_refl _) (.int .u32 (u % 4294967296)))
        have hkW : ((k : Int) + (W : Int)) = ((W + k : Nat) : Int) := by omega
        clear hlu ho hb HV HK hu q1 q2 q3 c1 C1
        go_wp2_with fail
        go_roundw
        case rel => exact ⟨k + 1, u / 4294967296, us.set (W + k) (u % 4294967296), by omega, by go_num, by go_num, by omega, HC', hwu.set _ (by omega), HV', HK', HO'.out, HB'.out⟩
        case measure => simp [intOf]; omega
      · have hkn : k = n := by omega
        subst hkn
        have y1 := ho.cell (k + W) (by omega)
        have f1 := ho.free (k + W)
        have hlu := ho.len
        have c1 : cc ≤ 4294967295 := by have := C1.out; have := (shl_word 0 t ht (by omega) (by omega)).2.2.1; omega
        have HO' := hid (ho.set (k + W) cc)
        have HB' := hid (hb.setCell (p := ⟨w.heap.size, k + W, none⟩) (Nat.le_refl _) (.int .u32 cc))
        have HV' : Hid (val (us.set (k + W) cc) = val xs * 2 ^ t * 4294967296 ^ W) := by
          show _ = _
          rw [← valTo_stable _ (k + W + 1) (by rw [List.length_set]; omega), valTo_set us (k + W) cc (by omega), Nat.add_comm k W, valTo_seg us W k,
            valTo_congr us [] W (fun j hj => by rw [HK.out j (.inl hj)]; rfl), valTo_stable [] _ (by simp), val_nil, ← valTo_stable xs k (by have := HL.out; omega), ← HV.out, Int.add_mul, Int.mul_assoc cc, ← Int.pow_add, Nat.add_comm k W]
          omega
        clear hlu ho hb HV HK C1
        go_wp2_with fail
        go_ret
        exact ⟨us.set (k + W) cc, rfl, HO'.out, hwu.set _ ⟨c0, c1⟩, HV'.out, HB'.out⟩

theorem lower_word (s x z Q R : Int) (hs : 0 ≤ s) (hz : z = s % 4294967296) (x0 : 0 ≤ x) (x1 : x ≤ 4294967295) (hQ : 0 < Q) (hR : 4294967296 = Q * R) :
    (x + z * 4294967296) / Q % 4294967296 + s / Q * 4294967296 = (x + s * 4294967296) / Q := by
  have h1 : z % Q = s % Q := by rw [hz]; exact Int.emod_emod_of_dvd s ⟨R, hR⟩
  obtain ⟨r, hr⟩ : ∃ r, r = s % Q := ⟨_, rfl⟩
  rw [← hr] at h1
  have r0 : 0 ≤ r := by rw [hr]; exact Int.emod_nonneg _ (by omega)
  have r1 : r < Q := by rw [hr]; exact Int.emod_lt_of_pos _ hQ
  have e1 : s = Q * (s / Q) + r := by rw [hr]; exact (Int.mul_ediv_add_emod s Q).symm
  have e2 : z = Q * (z / Q) + r := by rw [← h1]; exact (Int.mul_ediv_add_emod z Q).symm
  have e3 : x + z * 4294967296 = (x + r * 4294967296) + Q * (z / Q * 4294967296) := by
    have : z * 4294967296 = (Q * (z / Q) + r) * 4294967296 := by rw [← e2]
    rw [this, Int.add_mul, Int.mul_assoc]; omega
  have e4 : x + s * 4294967296 = (x + r * 4294967296) + Q * (s / Q * 4294967296) := by
    have : s * 4294967296 = (Q * (s / Q) + r) * 4294967296 := by rw [← e1]
    rw [this, Int.add_mul, Int.mul_assoc]; omega
  rw [e3, e4, Int.add_mul_ediv_left _ _ (by omega), Int.add_mul_ediv_left _ _ (by omega)]
  have h3 : 0 ≤ (x + r * 4294967296) / Q := Int.ediv_nonneg (by omega) (by omega)
  have h4 : (x + r * 4294967296) / Q < 4294967296 := Int.ediv_lt_of_lt_mul hQ (by
    have : (r + 1) * 4294967296 ≤ Q * 4294967296 := Int.mul_le_mul_of_nonneg_right (by omega) (by omega)
    rw [Int.mul_comm 4294967296 Q]
    omega)
  omega
theorem two_split (t : Nat) (ht : t ≤ 32) : (4294967296 : Int) = 2 ^ t * 2 ^ (32 - t) := by
  rw [← Int.pow_add, show t + (32 - t) = 32 by omega]; rfl
theorem segTo_nonneg {xs : List Int} (hw : Wd xs) (i : Nat) : ∀ k, 0 ≤ segTo xs i k
  | 0 => Int.le_refl _
  | k + 1 => by
    have ih := segTo_nonneg hw i k
    have h1 := hw.at (i + k)
    have h2 : 0 ≤ xs[i + k]?.getD 0 * 4294967296 ^ k := Int.mul_nonneg h1.1 (Int.le_of_lt (pw_pos k))
    rw [segTo_succ]
    omega
theorem segTo_low {xs : List Int} (hw : Wd xs) (i m : Nat) (hm : m = 0 → xs[i]?.getD 0 = 0) : segTo xs i m % 4294967296 = xs[i]?.getD 0 := by
  have h1 := hw.at i
  cases m with
  | zero => rw [hm rfl]; rfl
  | succ m => rw [segTo_cons]; omega

set_option maxHeartbeats 3200000 in
set_option maxRecDepth 100000 in
theorem lower_any (a : Option Addr) (n cap : Nat) (xs : List Int) (W t : Nat) (w : World) (h : Reads w w.heap.size a n cap xs) (hn : n ≤ 274877906944) (hW : W < n) (ht : t ≤ 31) :
    Calls Tryz.prog 187 #[.slice a n cap, .int .i64 W, .int .i64 t] w fun e w' => ∃ (ys : List Int), e = .returned (.slice (some ⟨w.heap.size, 0, none⟩) (n - W) (n - W)) ∧ OwnW w' w.heap.size w.heap.size (n - W) ys ∧ Wd ys ∧ val ys = val xs / 4294967296 ^ W / 2 ^ t ∧ Below w.heap.size w w' := by
  obtain ⟨i0, hi, hz0, hz1, hz2⟩ := info_parts Tryz.infoW
  rcases h.2.2.1 with h0 | ⟨b1, o1, rfl, hb1, hc1⟩
  · omega
  · have hwA := h.2.1
    have HL := hid h.1
    have HA := hid hc1
    obtain ⟨m, hm⟩ : ∃ m, n = W + m := ⟨n - W, by omega⟩
    subst hm
    have hnm : W + m - W = m := by omega
    have him : (((W + m : Nat) : Int) - (W : Int)) = (m : Int) := by omega
    clear hc1 h
    rw [hnm]
    clear hnm
    go_enter Tryz.func187, Tryz.ntmps187
    go_wp2_with (at_make; refine wpList_make_full _ rfl _ _ 24 rfl w.heap.size 94 i0 (.int .u32 0) 1 Tryz.underlying24 hi hz0 hz1 _ _ _ _ m rfl rfl (by omega) (by omega) (by rw [hz2]; omega) (by unfold maxLen; omega) (Nat.le_refl _) ?_)
    intro w1 hown hgrow
    have hbel : Below w.heap.size w w1 := (Below.refl _ _).grown hgrow (Nat.le_refl _) (fun k hk => by simp at hk)
    have HO := hid (OwnW.made hown)
    clear hown hgrow
    go_wp2_with fail
    go_loopw [8, 9] (fun c z wr => ∃ (k : Nat) (ab : Int) (us : List Int), k ≤ m ∧ z = .int .i64 ((k : Int) - 1) ∧ c = .int .u64 ab ∧ 0 ≤ ab ∧ ab ≤ 18446744073709551615 ∧ Hid (ab % 4294967296 = xs[W + k]?.getD 0) ∧ Wd us ∧ Hid (segTo us k (m - k) = segTo xs (W + k) (m - k) / 2 ^ t) ∧
      OwnW wr w.heap.size w.heap.size m us ∧ Below w.heap.size w wr) (fun _ z _ => (intOf z + 1).toNat)
    case atStart =>
      refine ⟨m, 0, _, by omega, rfl, rfl, by omega, by omega, ?_, Wd.replicate _, ?_, HO.out, hbel⟩
      · show _ = _; rw [List.getElem?_eq_none (by have := HL.out; omega)]; rfl
      · show _ = _; rw [Nat.sub_self]; show (0 : Int) = 0 / 2 ^ t; simp
    case round =>
      obtain ⟨k, ab, us, hk, rfl, rfl, a0, a1, HZ, hwu, HV, ho, hb⟩ := hrel
      rcases k with _ | k
      · have HV' : Hid (val us = val xs / 4294967296 ^ W / 2 ^ t) := by
          show _ = _
          have e := HV.out
          rw [segTo_zero, Nat.sub_zero, Nat.add_zero, valTo_stable us _ (by have := ho.len; omega)] at e
          rw [e, ← valTo_stable xs (W + m) (by have := HL.out; omega), valTo_seg xs W m]
          have b := valTo_bounds hwA W
          rw [Int.add_mul_ediv_right _ _ (by have := pw_pos W; omega), Int.ediv_eq_zero_of_lt b.1 b.2]
          simp
        clear HV HZ
        go_wp2_with fail
        go_ret
        exact ⟨us, rfl, ho, hwu, HV'.out, hb⟩
      · have ek : (((k + 1 : Nat) : Int) - 1) = (k : Int) := by omega
        rw [ek]
        clear ek
        have x1 : wr.cell? ⟨b1, o1 + (W + k), none⟩ = some (.int .u32 (xs[W + k]?.getD 0)) := (hb.cell (p := ⟨b1, o1 + (W + k), none⟩) hb1).trans (HA.out (W + k) (by omega))
        have bx := hwA.at (W + k)
        have bz := hwA.at (W + (k + 1))
        have y1 := ho.cell k (by omega)
        have f1 := ho.free k
        have hlu := ho.len
        have hkW : ((k : Int) + (W : Int)) = ((W + k : Nat) : Int) := by omega
        obtain ⟨z, hz⟩ : ∃ z, z = xs[W + (k + 1)]?.getD 0 := ⟨_, rfl⟩
        have hzz := HZ.out
        rw [← hz] at bz hzz
        have hwr : IntKind.u64.wrap (ab * 4294967296) = z * 4294967296 := by rw [IntKind.wrap_u64]; omega
        have hwr2 : ab * 4294967296 % 18446744073709551616 = z * 4294967296 := by omega
        obtain ⟨u, hu⟩ : ∃ u, u = xs[W + k]?.getD 0 + z * 4294967296 := ⟨_, rfl⟩
        have hor : bits BinOp.or IntKind.u64 (z * 4294967296) (xs[W + k]?.getD 0) = u := by rw [or_join z _ bz.1 bz.2 bx.1 bx.2, hu]
        have hQ := two_pos t
        have q0 : 0 ≤ u / 2 ^ t := Int.ediv_nonneg (by omega) (by omega)
        have q1 : u / 2 ^ t ≤ 18446744073709551615 := by
          have : u / 2 ^ t ≤ u := Int.ediv_le_self _ (by omega)
          omega
        obtain ⟨q, hq⟩ : ∃ q, u / 2 ^ t = q := ⟨_, rfl⟩
        rw [hq] at q0 q1
        have HZ' : Hid (u % 4294967296 = xs[W + k]?.getD 0) := by show _ = _; omega
        have HV' : Hid (segTo (us.set k (q % 4294967296)) k (m - k) = segTo xs (W + k) (m - k) / 2 ^ t) := by
          show _ = _
          obtain ⟨d, hd⟩ : ∃ d, m - k = d + 1 := ⟨m - k - 1, by omega⟩
          have e := HV.out
          rw [show m - (k + 1) = d by omega, show W + (k + 1) = W + k + 1 by omega] at e
          rw [hd, segTo_cons, segTo_cons, List.getElem?_set, if_pos rfl, if_pos (by omega), segTo_congr (us.set k (q % 4294967296)) us (k + 1) d (fun j hj => by rw [List.getElem?_set, if_neg (by omega)]), e, ← hq, hu]
          refine lower_word _ _ z (2 ^ t) (2 ^ (32 - t)) (segTo_nonneg hwA _ _) ?_ bx.1 bx.2 hQ (two_split t (by omega))
          rw [segTo_low hwA (W + k + 1) d (fun h => by rw [List.getElem?_eq_none (by have := HL.out; omega)]; rfl), hz]
          rfl
        have HO' := hid (ho.set k (q % 4294967296))
        have HB' := hid (hb.setCell (p := ⟨w.heap.size, k, none⟩) (Nat.le_refl _) (.int .u32 (q % 4294967296)))
        have u0 : 0 ≤ u := by omega
        have u1 : u ≤ 18446744073709551615 := by omega
        clear hlu ho hb HV HZ hu hz hzz hQ
        go_wp2_with fail
        go_roundw
        case rel => exact ⟨k, u, us.set k (q % 4294967296), by omega, by go_num, by go_num, u0, u1, HZ', hwu.set _ (by omega), HV', HO'.out, HB'.out⟩
        case measure => simp [intOf]
end Go.Proofs.YtldeiapikkebgaaGreatDoor

/- nat.takeTimes, nat.giveBack: a divisor taken off a window of words so many times, and given back once. -/
namespace Go.Proofs.YtldeiapikkebgaaGreatDoor
open Go.RowKit
set_option linter.unusedVariables false

theorem take_step (ds us ys : List Int) (i k : Nat) (x o T z o2 : Int) (hk : i + k < us.length) (hT : T = o + x * ds[k]?.getD 0) (hz : z - o2 * 4294967296 = us[i + k]?.getD 0 - T) (hu : us[i + k]?.getD 0 = ys[i + k]?.getD 0)
    (h : segTo us i k - o * 4294967296 ^ k = segTo ys i k - x * valTo ds k) :
    segTo (us.set (i + k) z) i (k + 1) - o2 * 4294967296 ^ (k + 1) = segTo ys i (k + 1) - x * valTo ds (k + 1) := by
  rw [segTo_set us i k _ hk, segTo_succ ys, valTo_succ, pw_succ, Int.mul_add, ← hu]
  have e1 : (z - o2 * 4294967296) * 4294967296 ^ k = (us[i + k]?.getD 0 - T) * 4294967296 ^ k := by rw [hz]
  rw [Int.sub_mul, Int.sub_mul, hT, Int.add_mul, Int.mul_assoc x, Int.mul_assoc o2, Int.mul_comm 4294967296 (4294967296 ^ k)] at e1
  omega

set_option maxHeartbeats 3200000 in
set_option maxRecDepth 100000 in
theorem takeTimes_any (base g N i m cap : Nat) (ys : List Int) (b : Option Addr) (cap' : Nat) (ds : List Int) (x : Int) (w : World) (ho : OwnW w base g N ys) (hwy : Wd ys) (him : i + m + 1 ≤ N) (hcap : cap = N - i) (hN : N ≤ 1099511627776)
    (h : Reads w base b m cap' ds) (hm : 0 < m) (hx : 0 ≤ x ∧ x ≤ 4294967295) :
    Calls Tryz.prog 189 #[.slice (some ⟨g, i, none⟩) (m + 1) cap, .slice b m cap', .int .u32 x] w fun e w' => ∃ (sh : Bool) (us : List Int), e = .returned (.bool sh) ∧ OwnW w' base g N us ∧ Wd us ∧
      (∀ j, j < i ∨ i + m + 1 ≤ j → us[j]?.getD 0 = ys[j]?.getD 0) ∧ segTo us i (m + 1) = segTo ys i (m + 1) - x * val ds + (if sh then 4294967296 ^ (m + 1) else 0) ∧ w.grownBy w' (some g) := by
  have hbase := ho.base
  rcases h.2.2.1 with h0 | ⟨b2, o2, rfl, hb2, hc2⟩
  · omega
  · have hwz := h.2.1
    have HL := hid h.1
    have HC := hid hc2
    have hcm : m + 1 ≤ cap := by omega
    have hcz : ¬ cap = 0 := by omega
    clear h hc2
    go_enter Tryz.func189, Tryz.ntmps189
    go_wp2_with fail
    go_loopw [8, 17] (fun c t wr => ∃ (k : Nat) (o : Int) (us : List Int), k ≤ m ∧ t = .int .i64 k ∧ c = .int .u64 o ∧ 0 ≤ o ∧ o ≤ 4294967296 ∧ Wd us ∧ Hid (segTo us i k - o * 4294967296 ^ k = segTo ys i k - x * valTo ds k) ∧
      Hid (∀ j, j < i ∨ i + k ≤ j → us[j]?.getD 0 = ys[j]?.getD 0) ∧ OwnW wr base g N us ∧ w.grownBy wr (some g)) (fun _ t _ => m - (intOf t).toNat)
    case atStart => exact ⟨0, 0, ys, by omega, rfl, rfl, by omega, by omega, hwy, show _ = _ by simp [segTo, valTo], fun _ _ => rfl, ho, World.grownBy.refl _ _⟩
    case round =>
      obtain ⟨k, o, us, hk, rfl, rfl, c0, c1, hwu, HV, HK, hou, hg⟩ := hrel
      have hb : Below base w wr := (Below.refl _ _).grown hg (by omega) (fun k hk => by simp at hk; omega)
      by_cases hlt : k < m
      · have x1 : wr.cell? ⟨b2, o2 + k, none⟩ = some (.int .u32 (ds[k]?.getD 0)) := (hb.cell (p := ⟨b2, o2 + k, none⟩) hb2).trans (HC.out k hlt)
        have y1 := hou.cell (i + k) (by omega)
        have f1 := hou.free (i + k)
        have bz := hwz.at k
        have bu := hwu.at (i + k)
        obtain ⟨p, hp⟩ : ∃ p, x * ds[k]?.getD 0 = p := ⟨_, rfl⟩
        have bp := prod_word x (ds[k]?.getD 0) hx bz
        rw [hp] at bp
        have hlu := hou.len
        obtain ⟨T, hT⟩ : ∃ T, o + p = T := ⟨_, rfl⟩
        obtain ⟨d, hd⟩ : ∃ d, (us[i + k]?.getD 0 - T % 4294967296) % 18446744073709551616 = d := ⟨_, rfl⟩
        have hwr : IntKind.u64.wrap (us[i + k]?.getD 0 - T % 4294967296) = d := by rw [IntKind.wrap_u64, hd]
        have T0 : 0 ≤ T ∧ T ≤ 18446744073709551615 := by omega
        have d0 : 0 ≤ d ∧ d ≤ 18446744073709551615 := by omega
        have hz : d % 4294967296 - (T / 4294967296 + d / 9223372036854775808) * 4294967296 = us[i + k]?.getD 0 - T := by omega
        have o0 : 0 ≤ T / 4294967296 + d / 9223372036854775808 ∧ T / 4294967296 + d / 9223372036854775808 ≤ 4294967296 := by omega
        have HO0 := hid o0
        have HV' := hid (take_step ds us ys i k x o T (d % 4294967296) (T / 4294967296 + d / 9223372036854775808) (by omega) (by rw [hp, hT]) hz (HK.out _ (by omega)) HV.out)
        have HK' : Hid (∀ j, j < i ∨ i + (k + 1) ≤ j → (us.set (i + k) (d % 4294967296))[j]?.getD 0 = ys[j]?.getD 0) := fun j hj => by
          rw [List.getElem?_set, if_neg (by omega)]
          exact HK.out j (by omega)
        have HO' := hid (hou.set (i + k) (d % 4294967296))
        have HB' := hid (grown_trans hg (OwnC.set (cap := N) hou (i + k) (d % 4294967296)).2)
        have hs63 : 0 ≤ d / 9223372036854775808 := by omega
        clear hlu hou hb hg HV HK hz o0
        go_wp2_with fail
        go_roundw
        case rel => exact ⟨k + 1, T / 4294967296 + d / 9223372036854775808, us.set (i + k) (d % 4294967296), by omega, by go_num, by go_num, HO0.out.1, HO0.out.2, hwu.set _ (by omega), HV', HK', HO'.out, HB'.out⟩
        case measure => simp [intOf]; omega
      · have hkm : k = m := by omega
        subst hkm
        have y1 := hou.cell (i + k) (by omega)
        have f1 := hou.free (i + k)
        have bu := hwu.at (i + k)
        have hlu := hou.len
        obtain ⟨z, hz⟩ : ∃ z, (us[i + k]?.getD 0 - o % 4294967296) % 4294967296 = z := ⟨_, rfl⟩
        have hwr : IntKind.u32.wrap (us[i + k]?.getD 0 - o % 4294967296) = z := by rw [IntKind.wrap_u32, hz]
        have z0 : 0 ≤ z ∧ z ≤ 4294967295 := by omega
        have HO' := hid (hou.set (i + k) z)
        have HB' := hid (grown_trans hg (OwnC.set (cap := N) hou (i + k) z).2)
        have HK' : Hid (∀ j, j < i ∨ i + k + 1 ≤ j → (us.set (i + k) z)[j]?.getD 0 = ys[j]?.getD 0) := fun j hj => by
          rw [List.getElem?_set, if_neg (by omega)]
          exact HK.out j (by omega)
        have HV' : Hid (segTo (us.set (i + k) z) i (k + 1) = segTo ys i (k + 1) - x * val ds + (if decide (us[i + k]?.getD 0 < o) then 4294967296 ^ (k + 1) else 0)) := by
          show _ = _
          have e := HV.out
          rw [segTo_set us i k _ (by omega), segTo_succ ys, ← HK.out (i + k) (by omega), ← valTo_stable ds k (by have := HL.out; omega), pw_succ]
          have e2 : z * 4294967296 ^ k = (us[i + k]?.getD 0 - o + (if decide (us[i + k]?.getD 0 < o) then 4294967296 else 0)) * 4294967296 ^ k := by
            congr 1
            by_cases c : us[i + k]?.getD 0 < o
            · simp only [c, decide_true, if_true]; omega
            · simp only [c, decide_false]; simp; omega
          rw [e2, Int.add_mul, Int.sub_mul]
          by_cases c : us[i + k]?.getD 0 < o
          · simp only [c, decide_true, if_true]; omega
          · simp only [c, decide_false]; simp; omega
        clear hlu hou hb hg HV HK hz
        go_wp2_with fail
        go_ret
        exact ⟨_, us.set (i + k) z, rfl, HO'.out, hwu.set _ z0, HK'.out, HV'.out, HB'.out⟩
end Go.Proofs.YtldeiapikkebgaaGreatDoor

/- nat.giveBack, nat.guess, nat.nextWord: one word of a quotient. -/
namespace Go.Proofs.YtldeiapikkebgaaGreatDoor
open Go.RowKit
set_option linter.unusedVariables false

theorem give_step (ds us ys : List Int) (i k : Nat) (c T : Int) (hk : i + k < us.length) (hT : T = c + (us[i + k]?.getD 0 + ds[k]?.getD 0)) (hu : us[i + k]?.getD 0 = ys[i + k]?.getD 0)
    (h : segTo us i k + c * 4294967296 ^ k = segTo ys i k + valTo ds k) :
    segTo (us.set (i + k) (T % 4294967296)) i (k + 1) + T / 4294967296 * 4294967296 ^ (k + 1) = segTo ys i (k + 1) + valTo ds (k + 1) := by
  rw [segTo_set us i k _ hk, segTo_succ ys, valTo_succ, pw_succ, ← hu]
  have e := carry_step (4294967296 ^ k) (T % 4294967296) (T / 4294967296) T (by omega)
  have e2 : T * 4294967296 ^ k = c * 4294967296 ^ k + (us[i + k]?.getD 0 * 4294967296 ^ k + ds[k]?.getD 0 * 4294967296 ^ k) := by
    rw [hT, Int.add_mul, Int.add_mul]
  omega

set_option maxHeartbeats 3200000 in
set_option maxRecDepth 100000 in
theorem giveBack_any (base g N i m cap : Nat) (ys : List Int) (b : Option Addr) (cap' : Nat) (ds : List Int) (w : World) (ho : OwnW w base g N ys) (hwy : Wd ys) (him : i + m + 1 ≤ N) (hcap : cap = N - i) (hN : N ≤ 1099511627776)
    (h : Reads w base b m cap' ds) (hm : 0 < m) :
    Calls Tryz.prog 190 #[.slice (some ⟨g, i, none⟩) (m + 1) cap, .slice b m cap'] w fun e w' => ∃ (c : Int) (us : List Int), e = .returned (.tuple #[]) ∧ OwnW w' base g N us ∧ Wd us ∧ (c = 0 ∨ c = 1) ∧
      (∀ j, j < i ∨ i + m + 1 ≤ j → us[j]?.getD 0 = ys[j]?.getD 0) ∧ segTo us i (m + 1) = segTo ys i (m + 1) + val ds - c * 4294967296 ^ (m + 1) ∧ w.grownBy w' (some g) := by
  have hbase := ho.base
  rcases h.2.2.1 with h0 | ⟨b2, o2, rfl, hb2, hc2⟩
  · omega
  · have hwz := h.2.1
    have HL := hid h.1
    have HC := hid hc2
    have hcm : m + 1 ≤ cap := by omega
    have hcz : ¬ cap = 0 := by omega
    clear h hc2
    go_enter Tryz.func190, Tryz.ntmps190
    go_wp2_with fail
    go_loopw [5, 12] (fun c t wr => ∃ (k : Nat) (o : Int) (us : List Int), k ≤ m ∧ t = .int .i64 k ∧ c = .int .u64 o ∧ 0 ≤ o ∧ o ≤ 1 ∧ Wd us ∧ Hid (segTo us i k + o * 4294967296 ^ k = segTo ys i k + valTo ds k) ∧
      Hid (∀ j, j < i ∨ i + k ≤ j → us[j]?.getD 0 = ys[j]?.getD 0) ∧ OwnW wr base g N us ∧ w.grownBy wr (some g)) (fun _ t _ => m - (intOf t).toNat)
    case atStart => exact ⟨0, 0, ys, by omega, rfl, rfl, by omega, by omega, hwy, show _ = _ by simp [segTo, valTo], fun _ _ => rfl, ho, World.grownBy.refl _ _⟩
    case round =>
      obtain ⟨k, o, us, hk, rfl, rfl, c0, c1, hwu, HV, HK, hou, hg⟩ := hrel
      have hb : Below base w wr := (Below.refl _ _).grown hg (by omega) (fun k hk => by simp at hk; omega)
      by_cases hlt : k < m
      · have x1 : wr.cell? ⟨b2, o2 + k, none⟩ = some (.int .u32 (ds[k]?.getD 0)) := (hb.cell (p := ⟨b2, o2 + k, none⟩) hb2).trans (HC.out k hlt)
        have y1 := hou.cell (i + k) (by omega)
        have f1 := hou.free (i + k)
        have bz := hwz.at k
        have bu := hwu.at (i + k)
        have hlu := hou.len
        obtain ⟨T, hT⟩ : ∃ T, T = o + (us[i + k]?.getD 0 + ds[k]?.getD 0) := ⟨_, rfl⟩
        have HT := hid hT
        have T0 : 0 ≤ T ∧ T ≤ 8589934591 := by omega
        have HV' := hid (give_step ds us ys i k o T (by omega) hT (HK.out _ (by omega)) HV.out)
        have HK' : Hid (∀ j, j < i ∨ i + (k + 1) ≤ j → (us.set (i + k) (T % 4294967296))[j]?.getD 0 = ys[j]?.getD 0) := fun j hj => by
          rw [List.getElem?_set, if_neg (by omega)]
          exact HK.out j (by omega)
        have HO' := hid (hou.set (i + k) (T % 4294967296))
        have HB' := hid (grown_trans hg (OwnC.set (cap := N) hou (i + k) (T % 4294967296)).2)
        clear hlu hou hb hg HV HK hT
        go_wp2_with fail
        go_roundw
        case rel => rw [← HT.out]; exact ⟨k + 1, T / 4294967296, us.set (i + k) (T % 4294967296), by omega, by go_num, by go_num, by omega, by omega, hwu.set _ (by omega), HV', HK', HO'.out, HB'.out⟩
        case measure => simp [intOf]; omega
      · have hkm : k = m := by omega
        subst hkm
        have y1 := hou.cell (i + k) (by omega)
        have f1 := hou.free (i + k)
        have bu := hwu.at (i + k)
        have hlu := hou.len
        obtain ⟨z, hz⟩ : ∃ z, (us[i + k]?.getD 0 + o) % 4294967296 = z := ⟨_, rfl⟩
        have hwr : IntKind.u32.wrap (us[i + k]?.getD 0 + o) = z := by rw [IntKind.wrap_u32, hz]
        have z0 : 0 ≤ z ∧ z ≤ 4294967295 := by omega
        obtain ⟨c, hc⟩ : ∃ c, c = (us[i + k]?.getD 0 + o) / 4294967296 := ⟨_, rfl⟩
        have HCC : Hid (c = 0 ∨ c = 1) := by show _ ∨ _; omega
        have HO' := hid (hou.set (i + k) z)
        have HB' := hid (grown_trans hg (OwnC.set (cap := N) hou (i + k) z).2)
        have HK' : Hid (∀ j, j < i ∨ i + k + 1 ≤ j → (us.set (i + k) z)[j]?.getD 0 = ys[j]?.getD 0) := fun j hj => by
          rw [List.getElem?_set, if_neg (by omega)]
          exact HK.out j (by omega)
        have HV' : Hid (segTo (us.set (i + k) z) i (k + 1) = segTo ys i (k + 1) + val ds - c * 4294967296 ^ (k + 1)) := by
          show _ = _
          have e := HV.out
          rw [segTo_set us i k _ (by omega), segTo_succ ys, ← HK.out (i + k) (by omega), ← valTo_stable ds k (by have := HL.out; omega), pw_succ]
          have e2 := carry_step (4294967296 ^ k) z c (us[i + k]?.getD 0 + o) (by omega)
          rw [Int.add_mul] at e2
          omega
        clear hlu hou hb hg HV HK hz hc
        go_wp2_with fail
        go_end0
        exact ⟨c, us.set (i + k) z, rfl, HO'.out, hwu.set _ z0, HCC.out, HK'.out, HV'.out, HB'.out⟩

theorem guess_first (P h l dl u2 u1 u0 ll t : Int) (hP : 0 < P) (hh : 0 < h) (l0 : 0 ≤ l) (dl0 : 0 ≤ dl) (ll1 : ll < P) (hu0 : 0 ≤ u0 ∧ u0 ≤ 4294967295) (ht : t = u1 + u2 * 4294967296) (t0 : 0 ≤ t) :
    ll + (u0 + t * 4294967296) * P < (t / h + 1) * (dl + (l + h * 4294967296) * P) := by
  have e := Int.mul_ediv_add_emod t h
  have e1 := Int.emod_lt_of_pos t hh
  have q0 : 0 ≤ t / h := Int.ediv_nonneg t0 (by omega)
  have e2 : t + 1 ≤ (t / h + 1) * h := by rw [Int.add_mul, Int.mul_comm (t / h) h]; omega
  have e3 : (t + 1) * 4294967296 * P ≤ (t / h + 1) * h * 4294967296 * P := Int.mul_le_mul_of_nonneg_right (Int.mul_le_mul_of_nonneg_right e2 (by omega)) (by omega)
  have e4 : (t / h + 1) * (dl + (l + h * 4294967296) * P) = (t / h + 1) * dl + (t / h + 1) * (l * P) + (t / h + 1) * h * 4294967296 * P := by
    rw [Int.mul_add, Int.add_mul l, Int.mul_add, Int.mul_assoc ((t / h + 1) * h), Int.mul_assoc (t / h + 1) h, Int.mul_assoc h]; omega
  have e5 : 0 ≤ (t / h + 1) * dl := Int.mul_nonneg (by omega) dl0
  have e6 : 0 ≤ (t / h + 1) * (l * P) := Int.mul_nonneg (by omega) (Int.mul_nonneg l0 (by omega))
  have e7 : (u0 + t * 4294967296 + 1) * P ≤ (t + 1) * 4294967296 * P := Int.mul_le_mul_of_nonneg_right (by omega) (by omega)
  rw [Int.add_mul _ 1 P] at e7
  rw [e4]
  omega
theorem guess_less (P h l dl t u0 ll q r : Int) (hP : 0 < P) (dl0 : 0 ≤ dl) (ll1 : ll < P) (q0 : 0 ≤ q) (hr : q * h + r = t) (hgt : u0 + r * 4294967296 < q * l) :
    ll + (u0 + t * 4294967296) * P < q * (dl + (l + h * 4294967296) * P) := by
  have e1 : u0 + t * 4294967296 + 1 ≤ q * (l + h * 4294967296) := by
    rw [Int.mul_add, ← Int.mul_assoc, ← hr, Int.add_mul]; omega
  have e2 : (u0 + t * 4294967296 + 1) * P ≤ q * (l + h * 4294967296) * P := Int.mul_le_mul_of_nonneg_right e1 (by omega)
  rw [Int.add_mul _ 1 P] at e2
  have e3 : 0 ≤ q * dl := Int.mul_nonneg q0 dl0
  rw [Int.mul_add q dl, ← Int.mul_assoc q]
  omega
theorem guess_most (P h l dl t u0 ll q r : Int) (hP : 0 < P) (dl0 : 0 ≤ dl) (dl1 : dl < P) (ll0 : 0 ≤ ll) (hh : 1 ≤ h) (l0 : 0 ≤ l) (q0 : 0 ≤ q) (q1 : q ≤ 4294967295) (hr : q * h + r = t) (hle : q * l ≤ u0 + r * 4294967296) :
    q * (dl + (l + h * 4294967296) * P) ≤ (ll + (u0 + t * 4294967296) * P) + (dl + (l + h * 4294967296) * P) := by
  have e1 : q * (l + h * 4294967296) ≤ u0 + t * 4294967296 := by
    rw [Int.mul_add, ← Int.mul_assoc, ← hr, Int.add_mul]; omega
  have e2 : q * (l + h * 4294967296) * P ≤ (u0 + t * 4294967296) * P := Int.mul_le_mul_of_nonneg_right e1 (by omega)
  have e3 : q * dl ≤ 4294967296 * P := by
    have a1 : q * dl ≤ q * P := Int.mul_le_mul_of_nonneg_left (by omega) q0
    have a2 : q * P ≤ 4294967296 * P := Int.mul_le_mul_of_nonneg_right (by omega) (by omega)
    omega
  have e4 : 4294967296 * P ≤ (l + h * 4294967296) * P := Int.mul_le_mul_of_nonneg_right (by omega) (by omega)
  rw [Int.mul_add q dl, ← Int.mul_assoc q]
  omega
end Go.Proofs.YtldeiapikkebgaaGreatDoor

/- nat.guess, nat.nextWord: one word of a quotient. -/
namespace Go.Proofs.YtldeiapikkebgaaGreatDoor
open Go.RowKit
set_option linter.unusedVariables false

theorem bdn {B : Nat} {a w : World} (h : Below B a w) (n : Nat) : Below B a (w.drewN n) := h.trans ⟨rfl, rfl, rfl, Nat.le_refl _, fun _ _ => rfl⟩
theorem seg_three (ys : List Int) (i e : Nat) : segTo ys i (e + 3) = segTo ys i e + (ys[i + e]?.getD 0 + (ys[i + (e + 1)]?.getD 0 + ys[i + (e + 2)]?.getD 0 * 4294967296) * 4294967296) * 4294967296 ^ e := by
  rw [segTo_succ, segTo_succ, segTo_succ, pw_succ (e + 1), pw_succ e]
  generalize ys[i + (e + 2)]?.getD 0 = u2
  generalize ys[i + (e + 1)]?.getD 0 = u1
  generalize ys[i + e]?.getD 0 = u0
  generalize (4294967296 : Int) ^ e = P
  have e1 : u2 * (P * 4294967296 * 4294967296) = u2 * 4294967296 * 4294967296 * P := by rw [Int.mul_assoc P, Int.mul_comm P, ← Int.mul_assoc, ← Int.mul_assoc]
  have e2 : u1 * (P * 4294967296) = u1 * 4294967296 * P := by rw [Int.mul_comm P, ← Int.mul_assoc]
  rw [e1, e2, Int.add_mul u0, Int.add_mul u1, Int.add_mul (u1 * 4294967296)]
  omega
theorem val_two_top (ds : List Int) (e : Nat) (h : ds.length = e + 2) : val ds = valTo ds e + (ds[e]?.getD 0 + ds[e + 1]?.getD 0 * 4294967296) * 4294967296 ^ e := by
  unfold val
  rw [h, valTo_succ, valTo_succ, pw_succ, Int.add_mul, Int.mul_assoc (ds[e + 1]?.getD 0), Int.mul_comm 4294967296 (4294967296 ^ e)]
  omega
theorem segTo_bounds {xs : List Int} (hw : Wd xs) (i : Nat) : ∀ k, 0 ≤ segTo xs i k ∧ segTo xs i k < 4294967296 ^ k
  | 0 => ⟨Int.le_refl _, by simp [segTo]⟩
  | k + 1 => by
    obtain ⟨h0, h1⟩ := segTo_bounds hw i k
    obtain ⟨z0, z1⟩ := hw.at (i + k)
    have hp := pw_pos k
    rw [segTo_succ, pw_succ]
    have e1 : 0 ≤ xs[i + k]?.getD 0 * 4294967296 ^ k := Int.mul_nonneg z0 (Int.le_of_lt hp)
    have e2 : xs[i + k]?.getD 0 * 4294967296 ^ k ≤ 4294967295 * 4294967296 ^ k := Int.mul_le_mul_of_nonneg_right z1 (Int.le_of_lt hp)
    omega

theorem guess_top (P H Lo dl ll t u0 : Int) (hP : 0 < P) (dl1 : dl < P) (ll0 : 0 ≤ ll) (hu : 0 ≤ u0) (h : ll + (u0 + t * 4294967296) * P < 4294967296 * (dl + (Lo + H * 4294967296) * P)) : t ≤ Lo + H * 4294967296 := by
  by_cases c : t ≤ Lo + H * 4294967296
  · exact c
  · have e1 : (Lo + H * 4294967296 + 1) * 4294967296 * P ≤ (u0 + t * 4294967296) * P := Int.mul_le_mul_of_nonneg_right (by omega) (by omega)
    have e2 : (Lo + H * 4294967296 + 1) * 4294967296 * P = 4294967296 * ((Lo + H * 4294967296) * P) + 4294967296 * P := by
      rw [Int.mul_comm (Lo + H * 4294967296 + 1), Int.mul_assoc, Int.add_mul, Int.one_mul, Int.mul_add]
    rw [Int.mul_add] at h
    omega
theorem guess_break (H Lo t q r : Int) (h0 : 0 < H) (hr : q * H + r = t) (ht : t ≤ Lo + H * 4294967296) (hb : 4294967296 ≤ r) (hl : Lo ≤ 4294967295) : q ≤ 4294967295 := by
  have e : q * H < 4294967296 * H := by omega
  have := Int.lt_of_mul_lt_mul_right e (by omega)
  omega
theorem guess_down (D q L : Int) (hD : 0 ≤ D) (hq : 4294967296 ≤ q) (h : L < 4294967296 * D) : L < (q - 1 + 1) * D := by
  have : 4294967296 * D ≤ q * D := Int.mul_le_mul_of_nonneg_right hq hD
  rw [show q - 1 + 1 = q by omega]; omega

set_option maxHeartbeats 3200000 in
set_option maxRecDepth 100000 in
theorem guess_any (base g N i e cap : Nat) (ys : List Int) (b : Option Addr) (cap' : Nat) (ds : List Int) (w : World) (ho : OwnW w base g N ys) (hwy : Wd ys) (him : i + (e + 2) + 1 ≤ N) (hcap : cap = N - i) (hN : N ≤ 1099511627776)
    (h : Reads w base b (e + 2) cap' ds) (hh : 1 ≤ ds[e + 1]?.getD 0) (hLD : segTo ys i (e + 3) < 4294967296 * val ds) :
    Calls Tryz.prog 188 #[.slice (some ⟨g, i, none⟩) (e + 2 + 1) cap, .slice b (e + 2) cap'] w fun x w' => ∃ q : Int, x = .returned (.int .u32 q) ∧ 0 ≤ q ∧ q ≤ 4294967295 ∧ segTo ys i (e + 3) < (q + 1) * val ds ∧ q * val ds ≤ segTo ys i (e + 3) + val ds ∧ Below w.heap.size w w' := by
  rcases h.2.2.1 with h0 | ⟨b2, o2, rfl, hb2, hc2⟩
  · omega
  · have hwz := h.2.1
    have hl := h.1
    have c1 := hc2 (e + 1) (by omega)
    have c0 := hc2 e (by omega)
    have l2 := ho.cell (i + (e + 2)) (by omega)
    have l1 := ho.cell (i + (e + 1)) (by omega)
    have l0 := ho.cell (i + e) (by omega)
    have bh := hwz.at (e + 1)
    have bl := hwz.at e
    have b2' := hwy.at (i + (e + 2))
    have b1' := hwy.at (i + (e + 1))
    have b0' := hwy.at (i + e)
    have hS := seg_three ys i e
    have hD := val_two_top ds e hl
    have sb := segTo_bounds hwy i e
    have vb := valTo_bounds hwz e
    generalize ds[e + 1]?.getD 0 = H at *
    generalize ds[e]?.getD 0 = Lo at *
    generalize ys[i + (e + 2)]?.getD 0 = u2 at *
    generalize ys[i + (e + 1)]?.getD 0 = u1 at *
    generalize ys[i + e]?.getD 0 = u0 at *
    obtain ⟨t, ht⟩ : ∃ t, t = u1 + u2 * 4294967296 := ⟨_, rfl⟩
    have hor : bits BinOp.or IntKind.u64 (u2 * 4294967296) u1 = t := by rw [or_join u2 _ b2'.1 b2'.2 b1'.1 b1'.2, ht]
    have t0 : 0 ≤ t ∧ t ≤ 18446744073709551615 := by omega
    have P0 := pw_pos e
    have HTB : Hid (t ≤ Lo + H * 4294967296) := guess_top (4294967296 ^ e) H Lo (valTo ds e) (segTo ys i e) t u0 P0 vb.2 sb.1 b0'.1 (by rw [hS, hD, ← ht] at hLD; exact hLD)
    have HQ0 : Hid (segTo ys i (e + 3) < (t / H + 1) * val ds) := by
      show _ < _
      rw [hS, hD, ← ht]
      exact guess_first (4294967296 ^ e) H Lo (valTo ds e) u2 u1 u0 (segTo ys i e) t P0 (by omega) bl.1 vb.1 sb.2 b0' ht t0.1
    have HLESS : Hid (∀ q r : Int, 0 ≤ q → q * H + r = t → u0 + r * 4294967296 < q * Lo → segTo ys i (e + 3) < (q - 1 + 1) * val ds) := fun q r hq hr hgt => by
      rw [hS, hD, ← ht, show q - 1 + 1 = q by omega]
      exact guess_less (4294967296 ^ e) H Lo (valTo ds e) t u0 (segTo ys i e) q r P0 vb.1 sb.2 hq hr hgt
    have HMOST : Hid (∀ q r : Int, 0 ≤ q → q ≤ 4294967295 → q * H + r = t → q * Lo ≤ u0 + r * 4294967296 → q * val ds ≤ segTo ys i (e + 3) + val ds) := fun q r hq hq1 hr hle => by
      rw [hS, hD, ← ht]
      exact guess_most (4294967296 ^ e) H Lo (valTo ds e) t u0 (segTo ys i e) q r P0 vb.1 vb.2 sb.1 hh bl.1 hq hq1 hr hle
    have hcm : e + 2 + 1 ≤ cap := by omega
    have q0 : 0 ≤ t / H := Int.ediv_nonneg t0.1 (by omega)
    have q1 : t / H ≤ t := Int.ediv_le_self _ (by omega)
    have r0 : 0 ≤ t % H := Int.emod_nonneg _ (by omega)
    have r1 : t % H < H := Int.emod_lt_of_pos _ (by omega)
    have HE0 : Hid (t / H * H + t % H = t) := by show _ = _; rw [Int.mul_comm]; exact Int.mul_ediv_add_emod t H
    have hHz : ¬ H = 0 := by omega
    have HLD := hid hLD
    have HDN := hid (val_nonneg hwz)
    clear hc2 h hl hS hD sb vb hLD ho ht P0
    go_enter Tryz.func188, Tryz.ntmps188
    go_wp2_with fail
    go_quiet (fail)
    go_wp2_with fail
    go_quiet (fail)
    go_wp2_with fail
    go_quiet (fail)
    go_wp2_with fail
    go_loopw [9, 10] (fun c d wr => ∃ (q r : Int), c = .int .u64 q ∧ d = .int .u64 r ∧ 0 ≤ q ∧ q ≤ 18446744073709551615 ∧ 0 ≤ r ∧ r ≤ 4294967295 ∧ Hid (q * H + r = t) ∧ Hid (segTo ys i (e + 3) < (q + 1) * val ds) ∧ wr.cell? ⟨g, i + e, none⟩ = some (.int .u32 u0) ∧ Below w.heap.size w wr) (fun c _ _ => (intOf c).toNat)
    case atStart => exact ⟨t / H, t % H, rfl, rfl, q0, by omega, r0, by omega, HE0, HQ0, l0, bdn (bdn (bdn (Below.refl _ _) _) _) _⟩
    case round =>
      obtain ⟨q, r, rfl, rfl, qa, qb, ra, rb, HE, HQ, lw, hb⟩ := hrel
      clear q0 q1 r0 r1 HE0 HQ0 c1 c0 l0 l1 l2 hor
      have hE' : (q - 1) * H + (r + H) = t := by rw [Int.sub_mul, Int.one_mul]; have := HE.out; omega
      have HE' := hid hE'
      by_cases big : 4294967295 < q
      · have HQ' : Hid (segTo ys i (e + 3) < (q - 1 + 1) * val ds) := guess_down (val ds) q _ HDN.out (by omega) HLD.out
        by_cases rr : 4294967295 < r + H
        · have qc := guess_break H Lo t (q - 1) (r + H) (by omega) hE' HTB.out (by omega) bl.2
          have HM : Hid ((q - 1) * val ds ≤ segTo ys i (e + 3) + val ds) := HMOST.out (q - 1) (r + H) (by omega) qc hE' (by
            have a := prod_word (q - 1) Lo ⟨by omega, qc⟩ bl
            omega)
          clear hE'
          go_wp2_with fail
          go_ret
          exact ⟨q - 1, ret_int (by omega), by omega, qc, HQ'.out, HM.out, hb⟩
        · clear hE'
          go_wp2_with fail
          go_roundw
          case rel => exact ⟨q - 1, r + H, by go_num, by go_num, by omega, by omega, by omega, by omega, HE', HQ', lw, hb⟩
          case measure => simp [intOf]; omega
      · have bp := prod_word q Lo ⟨qa, by omega⟩ bl
        obtain ⟨p, hp⟩ : ∃ p, q * Lo = p := ⟨_, rfl⟩
        rw [hp] at bp
        obtain ⟨s, hs⟩ : ∃ s, s = u0 + r * 4294967296 := ⟨_, rfl⟩
        have hor : bits BinOp.or IntKind.u64 (r * 4294967296) u0 = s := by rw [or_join r _ ra rb b0'.1 b0'.2, hs]
        by_cases gt : s < p
        · have HQ' : Hid (segTo ys i (e + 3) < (q - 1 + 1) * val ds) := HLESS.out q r qa HE.out (by rw [hp, ← hs]; exact gt)
          have q1 : 1 ≤ q := by
            by_cases c : q = 0
            · rw [c] at hp; simp at hp; omega
            · omega
          by_cases rr : 4294967295 < r + H
          · have qc := guess_break H Lo t (q - 1) (r + H) (by omega) hE' HTB.out (by omega) bl.2
            have HM : Hid ((q - 1) * val ds ≤ segTo ys i (e + 3) + val ds) := HMOST.out (q - 1) (r + H) (by omega) qc hE' (by
              have a := prod_word (q - 1) Lo ⟨by omega, qc⟩ bl
              omega)
            clear hE' hs
            go_wp2_with fail
            go_ret
            exact ⟨q - 1, ret_int (by omega), by omega, qc, HQ'.out, HM.out, hb⟩
          · clear hE' hs
            go_wp2_with fail
            go_roundw
            case rel => exact ⟨q - 1, r + H, by go_num, by go_num, by omega, by omega, by omega, by omega, HE', HQ', lw, hb⟩
            case measure => simp [intOf]; omega
        · have HM : Hid (q * val ds ≤ segTo ys i (e + 3) + val ds) := HMOST.out q r qa (by omega) HE.out (by rw [hp, ← hs]; omega)
          clear hE' hs
          go_wp2_with fail
          go_ret
          exact ⟨q, ret_int (by omega), qa, by omega, HQ.out, HM.out, hb⟩
end Go.Proofs.YtldeiapikkebgaaGreatDoor

/- nat.nextWord: one word of a quotient. -/
namespace Go.Proofs.YtldeiapikkebgaaGreatDoor
open Go.RowKit
set_option linter.unusedVariables false

theorem grown_of_below {w w' : World} (hb : Below w.heap.size w w') (r : Option Nat) : w.grownBy w' r := ⟨hb.os, hb.tape, hb.output, hb.size, fun k hk _ => hb.block k hk⟩

set_option maxHeartbeats 800000 in
set_option maxRecDepth 100000 in
theorem nextWord_any (base g N i e cap : Nat) (ys : List Int) (b : Option Addr) (cap' : Nat) (ds : List Int) (w : World) (ho : OwnW w base g N ys) (hwy : Wd ys) (him : i + (e + 2) + 1 ≤ N) (hcap : cap = N - i) (hN : N ≤ 1099511627776)
    (h : Reads w base b (e + 2) cap' ds) (hh : 1 ≤ ds[e + 1]?.getD 0) (hLD : segTo ys i (e + 3) < 4294967296 * val ds) :
    Calls Tryz.prog 186 #[.slice (some ⟨g, i, none⟩) (e + 2 + 1) cap, .slice b (e + 2) cap'] w fun x w' => ∃ (q : Int) (us : List Int), x = .returned (.int .u32 q) ∧ 0 ≤ q ∧ q ≤ 4294967295 ∧ OwnW w' base g N us ∧ Wd us ∧
      (∀ j, j < i ∨ i + (e + 2) + 1 ≤ j → us[j]?.getD 0 = ys[j]?.getD 0) ∧ segTo us i (e + 3) = segTo ys i (e + 3) - q * val ds ∧ segTo us i (e + 3) < val ds ∧ w.grownBy w' (some g) := by
  subst hcap
  have hbase := ho.base
  have hbw : base ≤ w.heap.size := by omega
  have HG := hid (guess_any base g N i e _ ys b cap' ds w ho hwy him rfl hN h hh hLD)
  have vd := val_lt h.2.1
  have vd0 := val_nonneg h.2.1
  rw [h.1] at vd
  have sb := segTo_bounds hwy i (e + 3)
  have hpw : (4294967296 : Int) ^ (e + 2) ≤ 4294967296 ^ (e + 3) := pw_le (by omega)
  have HF := hid (And.intro vd (And.intro vd0 (And.intro sb hpw)))
  have HR := hid h
  have HO := hid ho
  clear h ho vd vd0 sb hpw hLD
  go_enter Tryz.func186, Tryz.ntmps186
  go_wp2_with fail
  refine Calls.mono HG.out ?_
  rintro x w1 ⟨q, rfl, q0, q1, ha, hb, hbel⟩
  rw [Int.add_mul, Int.one_mul] at ha
  have HA := hid ha
  have HBB := hid hb
  clear ha hb
  have o1 : OwnW w1 base g N ys := owns_later HO.out hbel
  have r1 := HR.out.later (hbel.mono hbw) (Nat.le_refl _)
  have hs1 := hbel.size
  have HT := hid (takeTimes_any base g N i (e + 2) _ ys b cap' ds q w1 o1 hwy him rfl hN r1 (by omega) ⟨q0, q1⟩)
  have hbel' : Below base w w1 := hbel.mono hbw
  have hg1 := grown_of_below hbel (some g)
  clear o1 HG HO hbel
  go_wp2_with fail
  refine Calls.mono HT.out ?_
  rintro x w2 ⟨sh, us, rfl, o2, wu, ku, hv, hg2⟩
  have hg3 := grown_trans hg1 hg2
  have hb2 : Below base w1 w2 := (Below.refl _ _).grown hg2 (by omega) (fun k hk => by simp at hk; omega)
  have sb2 := segTo_bounds wu i (e + 3)
  rw [show e + 2 + 1 = e + 3 from rfl] at hv
  obtain ⟨vd, vd0, sb, hpw⟩ := HF.out
  have ha := HA.out
  have hb := HBB.out
  cases sh with
  | false =>
    rw [if_neg (by decide)] at hv
    have hlt : segTo us i (e + 3) < val ds := by omega
    have HV : Hid (segTo us i (e + 3) = segTo ys i (e + 3) - q * val ds) := by show _ = _; omega
    have HLT := hid hlt
    clear hv sb sb2 hpw vd vd0 ha hb hlt HT
    go_wp2_with fail
    go_ret
    exact ⟨q, us, rfl, q0, q1, o2, wu, ku, HV.out, HLT.out, hg3⟩
  | true =>
    rw [if_pos rfl] at hv
    have hq1 : 1 ≤ q := by
      by_cases c : q = 0
      · rw [c] at hv; simp at hv; omega
      · omega
    have hbs := hbel'.size
    have HB := hid (giveBack_any base g N i (e + 2) _ us b cap' ds w2 o2 wu him rfl hN (r1.later hb2 (Nat.le_refl _)) (by omega))
    have HV := hid hv
    clear hv o2 ha hb HT vd vd0 sb hpw sb2
    go_wp2_with fail
    refine Calls.mono HB.out ?_
    rintro x w3 ⟨c, zs, rfl, o3, wz, hc, kz, hvz, hg4⟩
    have sb2 := segTo_bounds wu i (e + 3)
    have sb3 := segTo_bounds wz i (e + 3)
    obtain ⟨vd, vd0, sb, hpw⟩ := HF.out
    rw [show e + 2 + 1 = e + 3 from rfl] at hvz
    have e1 : (q - 1) * val ds = q * val ds - val ds := by rw [Int.sub_mul, Int.one_mul]
    have hc1 : c = 1 := by
      rcases hc with hc | hc
      · rw [hc] at hvz
        have := HV.out
        have := HBB.out
        simp at hvz
        omega
      · exact hc
    rw [hc1, Int.one_mul] at hvz
    have HV2 : Hid (segTo zs i (e + 3) = segTo ys i (e + 3) - (q - 1) * val ds) := by show _ = _; rw [e1]; have := HV.out; omega
    have HLT : Hid (segTo zs i (e + 3) < val ds) := by show _ < _; have := HV.out; have := HA.out; have := HBB.out; omega
    have HO3 := hid o3
    have HKZ : Hid (∀ j, j < i ∨ i + (e + 2) + 1 ≤ j → zs[j]?.getD 0 = ys[j]?.getD 0) := fun j hj => by rw [kz j hj]; exact ku j hj
    have hg5 := grown_trans hg3 hg4
    have hqq : IntKind.u32.wrap (q - 1) = q - 1 := by rw [IntKind.wrap_u32]; omega
    clear hvz o3 kz ku e1 hg4 hg3 HB sb sb2 sb3 hpw vd vd0
    go_wp2_with fail
    go_ret
    exact ⟨q - 1, zs, rfl, by omega, by omega, HO3.out, wz, HKZ.out, HV2.out, HLT.out, hg5⟩
end Go.Proofs.YtldeiapikkebgaaGreatDoor

/- math/bits.Len32, nat.Bits and slackwaterref01.Bits tell how many bits a number has: of every word, of every list that can be read. -/
namespace Go.Proofs.YtldeiapikkebgaaGreatDoor
open Go.RowKit
set_option linter.unusedVariables false

set_option maxHeartbeats 800000 in
set_option maxRecDepth 100000 in
theorem len32_any (x : Int) (w : World) (h0 : 0 ≤ x) (h1 : x ≤ 4294967295) :
    Calls Tryz.prog 182 #[.int .u32 x] w fun e w' => e = .returned (.int .i64 (Lib.bitLen x.toNat)) ∧ w = w' := by
  by_cases p1 : 65536 ≤ x
  · by_cases p2 : 256 ≤ x / 65536
    · have q0 : 0 ≤ x / 65536 / 256 := by omega
      have q1 : x / 65536 / 256 ≤ 255 := by omega
      have g8 := Lib.bitLen_le8' (x / 65536 / 256) q0 q1
      have l8 := Lib.len8_of (x / 65536 / 256) q0 q1
      have HG : Hid ((24 : Int) + (Lib.bitLen (x / 65536 / 256).toNat : Int) = (Lib.bitLen x.toNat : Int)) := by
        have e1 := Lib.bitLen_shift16 x.toNat (by omega) (by omega)
        have e2 := Lib.bitLen_shift8 (x.toNat / 65536) (by omega) (by omega)
        have e3 : x.toNat / 65536 / 256 = (x / 65536 / 256).toNat := by omega
        rw [e3] at e2
        show _ = _
        omega
      go_enter Tryz.func182, Tryz.ntmps182
      go_wp2
      go_ret
      exact ⟨ret_int HG.out, rfl⟩
    · have q0 : 0 ≤ x / 65536 := by omega
      have q1 : x / 65536 ≤ 255 := by omega
      have g8 := Lib.bitLen_le8' (x / 65536) q0 q1
      have l8 := Lib.len8_of (x / 65536) q0 q1
      have HG : Hid ((16 : Int) + (Lib.bitLen (x / 65536).toNat : Int) = (Lib.bitLen x.toNat : Int)) := by
        have e1 := Lib.bitLen_shift16 x.toNat (by omega) (by omega)
        have e3 : x.toNat / 65536 = (x / 65536).toNat := by omega
        rw [e3] at e1
        show _ = _
        omega
      go_enter Tryz.func182, Tryz.ntmps182
      go_wp2
      go_ret
      exact ⟨ret_int HG.out, rfl⟩
  · by_cases p2 : 256 ≤ x
    · have q0 : 0 ≤ x / 256 := by omega
      have q1 : x / 256 ≤ 255 := by omega
      have g8 := Lib.bitLen_le8' (x / 256) q0 q1
      have l8 := Lib.len8_of (x / 256) q0 q1
      have HG : Hid ((8 : Int) + (Lib.bitLen (x / 256).toNat : Int) = (Lib.bitLen x.toNat : Int)) := by
        have e1 := Lib.bitLen_shift8 x.toNat (by omega) (by omega)
        have e3 : x.toNat / 256 = (x / 256).toNat := by omega
        rw [e3] at e1
        show _ = _
        omega
      go_enter Tryz.func182, Tryz.ntmps182
      go_wp2
      go_ret
      exact ⟨ret_int HG.out, rfl⟩
    · have q1 : x ≤ 255 := by omega
      have g8 := Lib.bitLen_le8' x h0 q1
      have l8 := Lib.len8_of x h0 q1
      go_enter Tryz.func182, Tryz.ntmps182
      go_wp2
      go_ret
      exact ⟨rfl, rfl⟩

def bitsOf (xs : List Int) : Nat := if sz xs = 0 then 0 else (sz xs - 1) * 32 + Lib.bitLen (xs[sz xs - 1]?.getD 0).toNat

theorem bitLen_le32 (x : Int) (h : x ≤ 4294967295) : Lib.bitLen x.toNat ≤ 32 := Lib.bitLen_le x.toNat 32 (by omega) (by omega)

set_option maxHeartbeats 1600000 in
set_option maxRecDepth 100000 in
theorem refBits_any (a : Option Addr) (n cap : Nat) (xs : List Int) (w : World) (h : Reads w w.heap.size a n cap xs) (hn : n ≤ 1099511627776) :
    Calls Tryz.prog 153 #[.slice a n cap] w fun e w' => e = .returned (.int .i64 (bitsOf xs)) ∧ Below w.heap.size w w' := by
  have sx := sz_le xs
  rw [h.1] at sx
  have HU : Hid (bitsOf xs = if sz xs = 0 then 0 else (sz xs - 1) * 32 + Lib.bitLen (xs[sz xs - 1]?.getD 0).toNat) := rfl
  have ht := refTrim_any a n cap xs w h hn
  have hw := h.2.1.trimmed
  have hbd := h.2.1.at (sz xs - 1)
  have hg := trimmed_get xs (sz xs - 1)
  obtain ⟨R, hR⟩ : ∃ R, R = trimmed xs := ⟨_, rfl⟩
  rw [← hR] at ht hw hg
  obtain ⟨s, hs⟩ : ∃ s, s = sz xs := ⟨_, rfl⟩
  rw [← hs] at ht sx HU hbd hg
  have HT := hid ht
  clear hs hR ht h
  go_enter Tryz.func153, Tryz.ntmps153
  go_wp2_with fail
  refine Calls.mono HT.out ?_
  rintro e w1 ⟨v, rfl, hown, hbel⟩
  obtain ⟨a1, c1, hv, hr⟩ := Reads.own hown hw
  rw [hv]
  rcases s with _ | s
  · go_wp2
    go_ret
    exact ⟨ret_int (by rw [HU.out]; rfl), hbel⟩
  · rcases hr.2.2.1 with h0 | ⟨b, o, hab, hb, hc⟩
    · omega
    · have hcx := hc s (by omega)
      rw [Nat.add_sub_cancel] at hg hbd
      rw [hg] at hcx
      rw [hab]
      have hne : (((s + 1 : Nat) : Int) == 0) = false := by simp; omega
      have h32 := bitLen_le32 _ hbd.2
      have HU' : Hid ((bitsOf xs : Int) = (s : Int) * 32 + (Lib.bitLen (xs[s]?.getD 0).toNat : Int)) := by
        have e := HU.out
        rw [if_neg (by omega), Nat.add_sub_cancel] at e
        show _ = _
        omega
      obtain ⟨z, hz⟩ : ∃ z, z = xs[s]?.getD 0 := ⟨_, rfl⟩
      rw [← hz] at hcx hbd h32 HU'
      clear HU hr hc hv hab hown hg hw HT hz
      go_wp2
      go_loop [4, 5] (fun t x => ∃ (c : Nat) (y : Int), 0 ≤ y ∧ y ≤ 4294967295 ∧ x = .int .u32 y ∧ t = .int .i64 ((s : Int) * 32 + c) ∧ c ≤ 32 ∧ Hid (Lib.bitLen z.toNat = c + Lib.bitLen y.toNat)) (fun _ x => (intOf x).toNat)
      case atStart => exact ⟨0, z, hbd.1, hbd.2, rfl, by go_num, by omega, show _ = _ by omega⟩
      case round =>
        obtain ⟨c, y, y0, y1, rfl, rfl, c32, HB⟩ := hrel
        by_cases hy : 0 < y
        · have hh := Lib.bitLen_half y.toNat (by omega) (by omega)
          have e3 : y.toNat / 2 = (y / 2).toNat := by omega
          rw [e3] at hh
          have c31 : c + 1 ≤ 32 := by have := HB.out; omega
          have HB' : Hid (Lib.bitLen z.toNat = c + 1 + Lib.bitLen (y / 2).toNat) := by show _ = _; have := HB.out; omega
          clear hh e3
          go_wp2
          go_round
          case rel => exact ⟨c + 1, y / 2, by omega, by omega, rfl, by go_num, by omega, HB'⟩
          case measure => simp [intOf]; omega
        · have y00 : y = 0 := by omega
          subst y00
          go_wp2
          go_ret
          exact ⟨ret_int (by rw [HU'.out]; have := HB.out; have e : Lib.bitLen (Int.toNat 0) = 0 := rfl; omega), hbel⟩
end Go.Proofs.YtldeiapikkebgaaGreatDoor

/- nat.Compare and slackwaterref01.Compare tell the order of the values; nat.Check and slackwaterref01.Check the error of a list: of every list that can be read. -/
namespace Go.Proofs.YtldeiapikkebgaaGreatDoor
open Go.RowKit
set_option linter.unusedVariables false

set_option maxHeartbeats 1600000 in
set_option maxRecDepth 100000 in
theorem compare_any (a : Option Addr) (n cap : Nat) (xs : List Int) (b : Option Addr) (m cap' : Nat) (ys : List Int) (w : World) (h : Reads w w.heap.size a n cap xs) (g : Reads w w.heap.size b m cap' ys) (hn : n ≤ 281474976710656) (hm : m ≤ 281474976710656) :
    Calls Tryz.prog 161 #[.slice a n cap, .slice b m cap'] w fun e w' => e = .returned (.int .i64 (cmpI (val xs) (val ys))) ∧ Below w.heap.size w w' := by
  have hl := h.1
  have gl := g.1
  have sx := sz_le xs
  have sy := sz_le ys
  rw [hl] at sx
  rw [gl] at sy
  by_cases h1 : sz xs < sz ys
  · have HV : Hid (val xs < val ys) := val_lt_of h.2.1 g.2.1 (sz ys - 1) (by
      have t := sz_top ys (by omega)
      have b := g.2.1.at (sz ys - 1)
      rw [sz_behind xs (sz ys - 1) (by omega)]; omega) (fun j hj => by rw [sz_behind xs j (by omega), sz_behind ys j (by omega)])
    have hi : ((sz xs : Nat) : Int) < (sz ys : Int) := by omega
    clear hl gl
    go_enter Tryz.func161, Tryz.ntmps161
    go_wp2_with fail
    refine (size_any _ _ _ xs _ _ h hn).mono ?_
    rintro e w' ⟨rfl, rfl⟩
    go_wp2_with fail
    refine (size_any _ _ _ ys _ _ g hm).mono ?_
    rintro e w' ⟨rfl, rfl⟩
    go_wp2
    go_ret
    exact ⟨ret_int (cmpI_lt HV.out).symm, Below.refl _ _⟩
  · by_cases h2 : sz ys < sz xs
    · have HV : Hid (val ys < val xs) := val_lt_of g.2.1 h.2.1 (sz xs - 1) (by
        have t := sz_top xs (by omega)
        have b := h.2.1.at (sz xs - 1)
        rw [sz_behind ys (sz xs - 1) (by omega)]; omega) (fun j hj => by rw [sz_behind xs j (by omega), sz_behind ys j (by omega)])
      have hi : ((sz ys : Nat) : Int) < (sz xs : Int) := by omega
      clear hl gl
      go_enter Tryz.func161, Tryz.ntmps161
      go_wp2_with fail
      refine (size_any _ _ _ xs _ _ h hn).mono ?_
      rintro e w' ⟨rfl, rfl⟩
      go_wp2_with fail
      refine (size_any _ _ _ ys _ _ g hm).mono ?_
      rintro e w' ⟨rfl, rfl⟩
      go_wp2
      go_ret
      exact ⟨ret_int (cmpI_gt HV.out).symm, Below.refl _ _⟩
    · have e3 : sz ys = sz xs := by omega
      obtain ⟨s, hs⟩ : ∃ s, s = sz xs := ⟨_, rfl⟩
      have ux : ∀ j : Nat, s ≤ j → xs[j]?.getD 0 = ys[j]?.getD 0 := fun j hj => by rw [sz_behind xs j (by omega), sz_behind ys j (by omega)]
      have hx0 := size_any a n cap xs _ w h hn
      have hy0 := size_any b m cap' ys _ w g hm
      rw [e3] at hy0
      rw [← hs] at hx0 hy0
      have hsn : s ≤ n := by omega
      have hsm : s ≤ m := by omega
      have HX := hx0
      have UX : Hid (∀ j : Nat, s ≤ j → xs[j]?.getD 0 = ys[j]?.getD 0) := ux
      have WX : Hid (Wd xs ∧ Wd ys) := ⟨h.2.1, g.2.1⟩
      have hcx : s = 0 ∨ ∃ b1 o1 b2 o2, a = some ⟨b1, o1, none⟩ ∧ b = some ⟨b2, o2, none⟩ ∧ b1 < w.heap.size ∧ b2 < w.heap.size ∧
          (∀ j, j < n → w.cell? ⟨b1, o1 + j, none⟩ = some (.int .u32 (xs[j]?.getD 0))) ∧ (∀ j, j < m → w.cell? ⟨b2, o2 + j, none⟩ = some (.int .u32 (ys[j]?.getD 0))) := by
        by_cases s0 : s = 0
        · exact .inl s0
        · rcases h.2.2.1 with h0 | ⟨b1, o1, e1, l1, c1⟩
          · omega
          · rcases g.2.2.1 with g0 | ⟨b2, o2, e2, l2, c2⟩
            · omega
            · exact .inr ⟨b1, o1, b2, o2, e1, e2, l1, l2, c1, c2⟩
      have HXc := hid hx0
      have HYc := hid hy0
      clear hl gl h g hx0 hy0 HX ux e3 hs h1 h2 sx sy
      rcases hcx with rfl | ⟨b1, o1, b2, o2, rfl, rfl, hb1, hb2, hc, gc⟩
      · go_enter Tryz.func161, Tryz.ntmps161
        go_wp2_with fail
        refine Calls.mono HXc.out ?_
        rintro e w' ⟨rfl, rfl⟩
        go_wp2_with fail
        refine Calls.mono HYc.out ?_
        rintro e w' ⟨rfl, rfl⟩
        go_wp2
        refine wp_loop_rounds 1 ?_
        rw [rounds_succ]
        go_wp2
        go_ret
        exact ⟨ret_int (cmpI_eq (val_eq_of fun j => UX.out j (Nat.zero_le _))).symm, Below.refl _ _⟩
      · go_enter Tryz.func161, Tryz.ntmps161
        go_wp2_with fail
        refine Calls.mono HXc.out ?_
        rintro e w' ⟨rfl, rfl⟩
        go_wp2_with fail
        refine Calls.mono HYc.out ?_
        rintro e w' ⟨rfl, rfl⟩
        go_wp2
        go_loopw [7] (fun t wr => ∃ k : Nat, k ≤ s ∧ t = .int .i64 ((k : Int) - 1) ∧ Hid (∀ j : Nat, k ≤ j → xs[j]?.getD 0 = ys[j]?.getD 0) ∧ Below w.heap.size w wr) (fun t _ => (intOf t + 1).toNat)
        case atStart => exact ⟨s, Nat.le_refl _, rfl, UX, Below.refl _ _⟩
        case round =>
          obtain ⟨k, hk, rfl, HS, hbel⟩ := hrel
          rcases k with _ | k
          · go_wp2
            go_ret
            exact ⟨ret_int (cmpI_eq (val_eq_of fun j => HS.out j (Nat.zero_le _))).symm, hbel⟩
          · have ek : (((k + 1 : Nat) : Int) - 1) = (k : Int) := by omega
            rw [ek]
            clear ek
            have c1 : wr.cell? ⟨b1, o1 + k, none⟩ = some (.int .u32 (xs[k]?.getD 0)) := (hbel.cell (p := ⟨b1, o1 + k, none⟩) hb1).trans (hc k (by omega))
            have c2 : wr.cell? ⟨b2, o2 + k, none⟩ = some (.int .u32 (ys[k]?.getD 0)) := (hbel.cell (p := ⟨b2, o2 + k, none⟩) hb2).trans (gc k (by omega))
            have c1d : wr.drew.cell? ⟨b1, o1 + k, none⟩ = some (.int .u32 (xs[k]?.getD 0)) := c1
            have c2d : wr.drew.cell? ⟨b2, o2 + k, none⟩ = some (.int .u32 (ys[k]?.getD 0)) := c2
            by_cases p1 : xs[k]?.getD 0 < ys[k]?.getD 0
            · go_wp2
              go_region
              all_goals go_wp2
              all_goals
                go_ret
                exact ⟨ret_int (cmpI_lt (val_lt_of WX.out.1 WX.out.2 k p1 (fun j hj => HS.out j (by omega)))).symm, hbel.drew⟩
            · by_cases p2 : ys[k]?.getD 0 < xs[k]?.getD 0
              · go_wp2
                go_region
                all_goals go_wp2
                all_goals go_region
                all_goals go_wp2
                all_goals
                  go_ret
                  exact ⟨ret_int (cmpI_gt (val_lt_of WX.out.2 WX.out.1 k p2 (fun j hj => (HS.out j (by omega)).symm))).symm, hbel.drew.drew⟩
              · have HE : Hid (xs[k]?.getD 0 = ys[k]?.getD 0) := show _ = _ by omega
                go_wp2
                go_region
                all_goals go_wp2
                all_goals go_region
                all_goals go_wp2
                all_goals
                  go_roundw
                  case rel => exact ⟨k, by omega, by go_num, fun j hj => (by
                    by_cases e : j = k
                    · rw [e]; exact HE.out
                    · exact HS.out j (by omega)), hbel.drew.drew⟩
                  case measure => simp [intOf]
end Go.Proofs.YtldeiapikkebgaaGreatDoor

/- slackwaterref01.Compare tells the order of the values; nat.Check and slackwaterref01.Check the error of a list; the law's own 'heavy': of every list that can be read. -/
namespace Go.Proofs.YtldeiapikkebgaaGreatDoor
open Go.RowKit
set_option linter.unusedVariables false

set_option maxHeartbeats 1600000 in
set_option maxRecDepth 100000 in
theorem refCompare_any (a : Option Addr) (n cap : Nat) (xs : List Int) (b : Option Addr) (m cap' : Nat) (ys : List Int) (w : World) (h : Reads w w.heap.size a n cap xs) (g : Reads w w.heap.size b m cap' ys) (hn : n ≤ 281474976710656) (hm : m ≤ 281474976710656) :
    Calls Tryz.prog 151 #[.slice a n cap, .slice b m cap'] w fun e w' => e = .returned (.int .i64 (cmpI (val xs) (val ys))) ∧ w = w' := by
  have UX : Hid (∀ j : Nat, n ≤ j → m ≤ j → xs[j]?.getD 0 = ys[j]?.getD 0) := fun j hj hj' => by
    have h1 := h.1
    have g1 := g.1
    rw [List.getElem?_eq_none (by omega), List.getElem?_eq_none (by omega)]
  have WX : Hid (Wd xs ∧ Wd ys) := ⟨h.2.1, g.2.1⟩
  have HX : Hid (Reads w w.heap.size a n cap xs) := h
  have HY : Hid (Reads w w.heap.size b m cap' ys) := g
  clear h g
  by_cases hnm : n < m
  all_goals
    go_enter Tryz.func151, Tryz.ntmps151
    go_wp2_with fail
    go_loop [6] (fun t => ∃ k : Nat, k ≤ n + m ∧ t = .int .i64 ((k : Int) - 1) ∧ Hid (∀ j : Nat, k ≤ j → xs[j]?.getD 0 = ys[j]?.getD 0)) (fun t => (intOf t + 1).toNat)
    case atStart => first | exact ⟨m, by omega, by go_num, fun j hj => UX.out j (by omega) (by omega)⟩ | exact ⟨n, by omega, by go_num, fun j hj => UX.out j (by omega) (by omega)⟩
    case round =>
      obtain ⟨k, hk, rfl, HS⟩ := hrel
      rcases k with _ | k
      · go_wp2_with fail
        go_ret
        exact ⟨ret_int (cmpI_eq (val_eq_of fun j => HS.out j (Nat.zero_le _))).symm, rfl⟩
      · have ek : (((k + 1 : Nat) : Int) - 1) = (k : Int) := by omega
        rw [ek]
        clear ek
        go_wp2_with fail
        refine (word_any _ _ _ xs _ _ _ HX.out hn (by omega)).mono ?_
        rintro e w' ⟨rfl, rfl⟩
        rw [Int.toNat_natCast]
        go_wp2_with fail
        refine (word_any _ _ _ ys _ _ _ HY.out hm (by omega)).mono ?_
        rintro e w' ⟨rfl, rfl⟩
        rw [Int.toNat_natCast]
        by_cases p1 : xs[k]?.getD 0 < ys[k]?.getD 0
        · go_wp2
          go_ret
          exact ⟨ret_int (cmpI_lt (val_lt_of WX.out.1 WX.out.2 k p1 (fun j hj => HS.out j (by omega)))).symm, rfl⟩
        · by_cases p2 : ys[k]?.getD 0 < xs[k]?.getD 0
          · go_wp2
            go_ret
            exact ⟨ret_int (cmpI_gt (val_lt_of WX.out.2 WX.out.1 k p2 (fun j hj => (HS.out j (by omega)).symm))).symm, rfl⟩
          · have HE : Hid (xs[k]?.getD 0 = ys[k]?.getD 0) := show _ = _ by omega
            go_wp2
            go_round
            case rel => exact ⟨k, by omega, by go_num, fun j hj => (by
              by_cases e : j = k
              · rw [e]; exact HE.out
              · exact HS.out j (by omega))⟩
            case measure => simp [intOf]

def chk (xs : List Int) : Int := if 8192 < xs.length then 3 else if sz xs = xs.length then 0 else 11

set_option maxHeartbeats 800000 in
set_option maxRecDepth 100000 in
theorem check_any (a : Option Addr) (n cap : Nat) (xs : List Int) (w : World) (h : Reads w w.heap.size a n cap xs) (hn : n ≤ 281474976710656) :
    Calls Tryz.prog 88 #[.slice a n cap] w fun e w' => e = .returned (.int .i64 (chk xs)) ∧ w = w' := by
  have hl := h.1
  by_cases h1 : 8192 < n
  · have HC : Hid (chk xs = 3) := by unfold chk; rw [if_pos (by omega)]; rfl
    clear hl h
    go_enter Tryz.func88, Tryz.ntmps88
    go_wp2_with fail
    go_ret
    exact ⟨ret_int HC.out.symm, rfl⟩
  · by_cases h2 : sz xs = n
    · have HC : Hid (chk xs = 0) := by unfold chk; rw [if_neg (by omega), if_pos (by omega)]; rfl
      have hx := size_any a n cap xs _ w h hn
      rw [h2] at hx
      have hne : ((n : Int) != (n : Int)) = false := by simp
      have HX := hid hx
      clear hl h h2 hx
      go_enter Tryz.func88, Tryz.ntmps88
      go_wp2_with fail
      refine Calls.mono HX.out ?_
      rintro e w' ⟨rfl, rfl⟩
      go_wp2
      go_ret
      exact ⟨ret_int HC.out.symm, rfl⟩
    · have HC : Hid (chk xs = 11) := by unfold chk; rw [if_neg (by omega), if_neg (by omega)]; rfl
      have hne : ((sz xs : Int) != (n : Int)) = true := by simp; omega
      clear hl h2
      go_enter Tryz.func88, Tryz.ntmps88
      go_wp2_with fail
      refine (size_any _ _ _ xs _ _ h hn).mono ?_
      rintro e w' ⟨rfl, rfl⟩
      go_wp2
      go_ret
      exact ⟨ret_int HC.out.symm, rfl⟩

set_option maxHeartbeats 800000 in
set_option maxRecDepth 100000 in
theorem refCheck_any (a : Option Addr) (n cap : Nat) (xs : List Int) (w : World) (h : Reads w w.heap.size a n cap xs) (hn : n ≤ 281474976710656) :
    Calls Tryz.prog 71 #[.slice a n cap] w fun e w' => e = .returned (.int .i64 (chk xs)) ∧ w = w' := by
  have hl := h.1
  by_cases h1 : 8192 < n
  · have HC : Hid (chk xs = 3) := by unfold chk; rw [if_pos (by omega)]; rfl
    clear hl h
    go_enter Tryz.func71, Tryz.ntmps71
    go_wp2_with fail
    go_ret
    exact ⟨ret_int HC.out.symm, rfl⟩
  · rcases h.2.2.1 with h0 | ⟨b, o, rfl, hb, hc⟩
    · subst h0
      have HC : Hid (chk xs = 0) := by unfold chk; rw [if_neg (by omega), if_pos (by have := sz_le xs; omega)]; rfl
      clear hl h
      go_enter Tryz.func71, Tryz.ntmps71
      go_wp2
      go_ret
      exact ⟨ret_int HC.out.symm, rfl⟩
    · by_cases h0 : n = 0
      · subst h0
        have HC : Hid (chk xs = 0) := by unfold chk; rw [if_neg (by omega), if_pos (by have := sz_le xs; omega)]; rfl
        clear hl h
        go_enter Tryz.func71, Tryz.ntmps71
        go_wp2
        go_ret
        exact ⟨ret_int HC.out.symm, rfl⟩
      · have hcx := hc (n - 1) (by omega)
        have hpos : 0 < n := by omega
        have hiff := sz_eq_iff xs
        rw [hl] at hiff
        by_cases hz : xs[n - 1]?.getD 0 = 0
        · have HC : Hid (chk xs = 11) := by
            unfold chk; rw [if_neg (by omega), if_neg (fun e => by
              rw [hl] at e
              rcases hiff.1 e with e | e
              · omega
              · exact e (by simpa using hz))]; rfl
          have hzb : (xs[n - 1]?.getD 0 == 0) = true := by simp [hz]
          clear hl h hz hiff hc h0 hb
          go_enter Tryz.func71, Tryz.ntmps71
          go_wp2
          go_ret
          exact ⟨ret_int HC.out.symm, rfl⟩
        · have HC : Hid (chk xs = 0) := by
            unfold chk; rw [if_neg (by omega), if_pos (by rw [hl]; exact hiff.2 (.inr (by simpa using hz)))]; rfl
          have hzb : (xs[n - 1]?.getD 0 == 0) = false := by simp [hz]
          clear hl h hz hiff hc h0 hb
          go_enter Tryz.func71, Tryz.ntmps71
          go_wp2
          go_ret
          exact ⟨ret_int HC.out.symm, rfl⟩

def heavy (n : Nat) : Bool := decide (300 < n ∧ n ≤ 8192 ∨ 8201 < n)
end Go.Proofs.YtldeiapikkebgaaGreatDoor

/- nat.Of, slackwaterref01.Of, nat.Uint64, slackwaterref01.Uint64: from numbers of 64 bits to words and back: of every number and of every list that can be read. -/
namespace Go.Proofs.YtldeiapikkebgaaGreatDoor
open Go.RowKit
set_option linter.unusedVariables false

theorem of_wd (x : Int) (h0 : 0 ≤ x) (h1 : x ≤ 18446744073709551615) : Wd [x % 4294967296, x / 4294967296] := Wd.cons (by omega) (Wd.one (by omega))

set_option maxHeartbeats 800000 in
set_option maxRecDepth 100000 in
theorem of_any (x : Int) (w : World) (h0 : 0 ≤ x) (h1 : x ≤ 18446744073709551615) :
    Calls Tryz.prog 107 #[.int .u64 x] w fun e w' => ∃ v, e = .returned v ∧ w'.ownsRow w.heap.size 94 1 v (sz [x % 4294967296, x / 4294967296]) ((trimmed [x % 4294967296, x / 4294967296]).map (Value.int .u32)) ∧ Below w.heap.size w w' := by
  have hr := Reads.lit w 94 _ (of_wd x h0 h1) (by simp [maxLen])
  have HR := hid hr
  clear hr
  go_enter Tryz.func107, Tryz.ntmps107
  go_wp2_with fail
  refine (trim_any _ _ _ [x % 4294967296, x / 4294967296] _ HR.out (by simp)).mono ?_
  rintro e w1 ⟨v, rfl, hown, hbel⟩
  have hb : Below w.heap.size w w1 := ((Below.refl _ _).alloc (Nat.le_refl _) _).trans (hbel.mono (by simp))
  go_wp2
  go_ret
  exact ⟨_, rfl, owns_base hown (by simp), hb⟩

set_option maxHeartbeats 800000 in
set_option maxRecDepth 100000 in
theorem refOf_any (x : Int) (w : World) (h0 : 0 ≤ x) (h1 : x ≤ 18446744073709551615) :
    Calls Tryz.prog 152 #[.int .u64 x] w fun e w' => ∃ v, e = .returned v ∧ w'.ownsRow w.heap.size 94 1 v (sz [x % 4294967296, x / 4294967296]) ((trimmed [x % 4294967296, x / 4294967296]).map (Value.int .u32)) ∧ Below w.heap.size w w' := by
  have hr := Reads.lit w 94 _ (of_wd x h0 h1) (by simp [maxLen])
  have HR := hid hr
  clear hr
  go_enter Tryz.func152, Tryz.ntmps152
  go_wp2_with fail
  refine (refTrim_any _ _ _ [x % 4294967296, x / 4294967296] _ HR.out (by simp)).mono ?_
  rintro e w1 ⟨v, rfl, hown, hbel⟩
  have hb : Below w.heap.size w w1 := ((Below.refl _ _).alloc (Nat.le_refl _) _).trans (hbel.mono (by simp))
  go_wp2
  go_ret
  exact ⟨_, rfl, owns_base hown (by simp), hb⟩

def u64of (xs : List Int) : Int := if sz xs ≤ 2 then val xs else 0
theorem ret_two {a b : Int} {p q : Bool} (h : a = b) (g : p = q) : Ending.returned (.tuple #[.int .u64 a, .bool p]) = .returned (.tuple #[.int .u64 b, .bool q]) := by rw [h, g]

set_option maxHeartbeats 1600000 in
set_option maxRecDepth 100000 in
theorem uint64_any (a : Option Addr) (n cap : Nat) (xs : List Int) (w : World) (h : Reads w w.heap.size a n cap xs) (hn : n ≤ 281474976710656) :
    Calls Tryz.prog 179 #[.slice a n cap] w fun e w' => e = .returned (.tuple #[.int .u64 (u64of xs), .bool (decide (sz xs ≤ 2))]) ∧ Below w.heap.size w w' := by
  have hx := size_any a n cap xs _ w h hn
  have hs := val_sz xs
  have sx := sz_le xs
  obtain ⟨hl, hw, hc, hcap⟩ := h
  rw [hl] at sx
  have b0 := hw.at 0
  have b1 := hw.at 1
  have cells : 0 < sz xs → ∃ b o, a = some ⟨b, o, none⟩ ∧ w.cell? ⟨b, o, none⟩ = some (.int .u32 (xs[0]?.getD 0)) ∧ (1 < sz xs → w.cell? ⟨b, o + 1, none⟩ = some (.int .u32 (xs[1]?.getD 0))) := fun hp => by
    rcases hc with h0 | ⟨b, o, rfl, hb, hc⟩
    · omega
    · exact ⟨b, o, rfl, hc 0 (by omega), fun h => hc 1 (by omega)⟩
  clear hc hcap
  by_cases s0 : sz xs = 0
  · have HV : Hid (0 = u64of xs ∧ true = decide (sz xs ≤ 2)) := ⟨by unfold u64of; rw [if_pos (by omega), hs, s0]; rfl, (decide_eq_true (by omega)).symm⟩
    rw [s0] at hx
    have HX := hid hx
    clear hx hl s0 cells hs sx
    go_enter Tryz.func179, Tryz.ntmps179
    go_wp2_with fail
    refine Calls.mono HX.out ?_
    rintro e w' ⟨rfl, rfl⟩
    go_wp2
    go_ret2
    exact ⟨ret_two HV.out.1 HV.out.2, Below.refl _ _⟩
  · obtain ⟨b, o, rfl, c0, c1⟩ := cells (by omega)
    by_cases s1 : sz xs = 1
    · have HV : Hid (xs[0]?.getD 0 = u64of xs ∧ true = decide (sz xs ≤ 2)) := ⟨by unfold u64of; rw [if_pos (by omega), hs, s1]; simp [valTo], (decide_eq_true (by omega)).symm⟩
      rw [s1] at hx
      have hn1 : 1 ≤ n := by omega
      have HX := hid hx
      clear hx hl s0 s1 cells hs sx c1 hw b1
      go_enter Tryz.func179, Tryz.ntmps179
      go_wp2_with fail
      refine Calls.mono HX.out ?_
      rintro e w' ⟨rfl, rfl⟩
      go_wp2
      go_ret2
      exact ⟨ret_two HV.out.1 HV.out.2, Below.refl _ _⟩
    · by_cases s2 : sz xs = 2
      · have HV : Hid (xs[0]?.getD 0 + xs[1]?.getD 0 * 4294967296 = u64of xs ∧ true = decide (sz xs ≤ 2)) := ⟨by unfold u64of; rw [if_pos (by omega), hs, s2]; simp [valTo], (decide_eq_true (by omega)).symm⟩
        have c1 := c1 (by omega)
        have c0d : w.drew.cell? ⟨b, o, none⟩ = some (.int .u32 (xs[0]?.getD 0)) := c0
        have c1d : w.drew.cell? ⟨b, o + 1, none⟩ = some (.int .u32 (xs[1]?.getD 0)) := c1
        rw [s2] at hx
        have hn1 : 2 ≤ n := by omega
        have HX := hid hx
        clear hx hl s0 s1 s2 cells hs sx hw
        go_enter Tryz.func179, Tryz.ntmps179
        go_wp2_with fail
        refine Calls.mono HX.out ?_
        rintro e w' ⟨rfl, rfl⟩
        go_wp2
        go_region
        all_goals go_wp2
        all_goals
          go_ret2
          exact ⟨ret_two ((or_join _ _ b1.1 b1.2 b0.1 b0.2).trans HV.out.1) HV.out.2, (Below.refl _ _).drew⟩
      · have HV : Hid (0 = u64of xs ∧ false = decide (sz xs ≤ 2)) := ⟨by unfold u64of; rw [if_neg (by omega)], (decide_eq_false (by omega)).symm⟩
        have e0 : ((sz xs : Int) == 0) = false := by simp; omega
        have e1 : ((sz xs : Int) == 1) = false := by simp; omega
        have e2 : ((sz xs : Int) == 2) = false := by simp; omega
        have HX := hid hx
        clear hx hl s0 s1 s2 cells hs sx hw
        go_enter Tryz.func179, Tryz.ntmps179
        go_wp2_with fail
        refine Calls.mono HX.out ?_
        rintro e w' ⟨rfl, rfl⟩
        go_wp2
        go_ret2
        exact ⟨ret_two HV.out.1 HV.out.2, Below.refl _ _⟩

end Go.Proofs.YtldeiapikkebgaaGreatDoor

/- The contracts so far, at a slice value of which it is known only that it reads as a list of words. -/
namespace Go.Proofs.YtldeiapikkebgaaGreatDoor
open Go.RowKit
set_option linter.unusedVariables false

def Sl (w : World) (v : Value) (xs : List Int) : Prop := ∃ a cap, v = .slice a xs.length cap ∧ Reads w w.heap.size a xs.length cap xs

theorem Sl.wd {w : World} {v : Value} {xs : List Int} (h : Sl w v xs) : Wd xs := h.choose_spec.choose_spec.2.2.1
theorem Sl.later {w w' : World} {v : Value} {xs : List Int} (h : Sl w v xs) (hb : Below w.heap.size w w') : Sl w' v xs := by
  obtain ⟨a, cap, rfl, hr⟩ := h
  exact ⟨a, cap, rfl, hr.later hb hb.size⟩
theorem Sl.own {w : World} {base e n : Nat} {v : Value} {xs : List Int} (h : w.ownsRow base e 1 v n (xs.map (Value.int .u32))) (hw : Wd xs) : Sl w v xs := by
  have hl : xs.length = n := by have := h.1; simpa using this
  obtain ⟨a, cap, rfl, hr⟩ := Reads.own h hw
  subst hl
  exact ⟨a, cap, rfl, hr⟩

theorem same_sl (v u : Value) (xs ys : List Int) (w : World) (h : Sl w v xs) (g : Sl w u ys) (hn : xs.length ≤ 281474976710656) (hm : ys.length ≤ 281474976710656) :
    Calls Tryz.prog 84 #[v, u] w fun e w' => e = .returned (.bool (decide (xs = ys))) ∧ Below w.heap.size w w' := by
  obtain ⟨a, cap, rfl, hr⟩ := h
  obtain ⟨b, cap', rfl, gr⟩ := g
  exact same_any a _ cap xs b _ cap' ys w hr gr hn hm
theorem copyWords_sl (v : Value) (xs : List Int) (w : World) (h : Sl w v xs) (hn : xs.length ≤ 1099511627776) :
    Calls Tryz.prog 83 #[v] w fun e w' => ∃ v, e = .returned v ∧ w'.ownsRow w.heap.size 94 1 v xs.length (xs.map (Value.int .u32)) ∧ Below w.heap.size w w' := by
  obtain ⟨a, cap, rfl, hr⟩ := h
  exact copyWords_any a _ cap xs w hr hn
theorem lentWords_sl (v : Value) (xs : List Int) (w : World) (h : Sl w v xs) (hn : xs.length ≤ 549755813888) :
    Calls Tryz.prog 63 #[v] w fun e w' => ∃ v, e = .returned v ∧ w'.ownsRow w.heap.size 94 1 v (xs.length + 3) ((xs ++ marks 3).map (Value.int .u32)) ∧ Below w.heap.size w w' := by
  obtain ⟨a, cap, rfl, hr⟩ := h
  exact lentWords_any a _ cap xs w hr hn
theorem keptWords_sl (v u : Value) (xs ys : List Int) (w : World) (h : Sl w v xs) (g : Sl w u ys) (hn : xs.length ≤ 549755813888) (hm : ys.length ≤ 274877906944) :
    Calls Tryz.prog 82 #[v, u] w fun e w' => e = .returned (.bool (decide (xs = ys ++ marks 3))) ∧ Below w.heap.size w w' := by
  obtain ⟨a, cap, rfl, hr⟩ := h
  obtain ⟨b, cap', rfl, gr⟩ := g
  exact keptWords_any a _ cap xs b _ cap' ys w hr gr hn hm
theorem trim_sl (v : Value) (xs : List Int) (w : World) (h : Sl w v xs) (hn : xs.length ≤ 1099511627776) :
    Calls Tryz.prog 112 #[v] w fun e w' => ∃ v, e = .returned v ∧ w'.ownsRow w.heap.size 94 1 v (sz xs) ((trimmed xs).map (Value.int .u32)) ∧ Below w.heap.size w w' := by
  obtain ⟨a, cap, rfl, hr⟩ := h
  exact trim_any a _ cap xs w hr hn
theorem refTrim_sl (v : Value) (xs : List Int) (w : World) (h : Sl w v xs) (hn : xs.length ≤ 1099511627776) :
    Calls Tryz.prog 125 #[v] w fun e w' => ∃ v, e = .returned v ∧ w'.ownsRow w.heap.size 94 1 v (sz xs) ((trimmed xs).map (Value.int .u32)) ∧ Below w.heap.size w w' := by
  obtain ⟨a, cap, rfl, hr⟩ := h
  exact refTrim_any a _ cap xs w hr hn
theorem compare_sl (v u : Value) (xs ys : List Int) (w : World) (h : Sl w v xs) (g : Sl w u ys) (hn : xs.length ≤ 281474976710656) (hm : ys.length ≤ 281474976710656) :
    Calls Tryz.prog 161 #[v, u] w fun e w' => e = .returned (.int .i64 (cmpI (val xs) (val ys))) ∧ Below w.heap.size w w' := by
  obtain ⟨a, cap, rfl, hr⟩ := h
  obtain ⟨b, cap', rfl, gr⟩ := g
  exact compare_any a _ cap xs b _ cap' ys w hr gr hn hm
theorem refCompare_sl (v u : Value) (xs ys : List Int) (w : World) (h : Sl w v xs) (g : Sl w u ys) (hn : xs.length ≤ 281474976710656) (hm : ys.length ≤ 281474976710656) :
    Calls Tryz.prog 151 #[v, u] w fun e w' => e = .returned (.int .i64 (cmpI (val xs) (val ys))) ∧ w = w' := by
  obtain ⟨a, cap, rfl, hr⟩ := h
  obtain ⟨b, cap', rfl, gr⟩ := g
  exact refCompare_any a _ cap xs b _ cap' ys w hr gr hn hm
theorem check_sl (v : Value) (xs : List Int) (w : World) (h : Sl w v xs) (hn : xs.length ≤ 281474976710656) :
    Calls Tryz.prog 88 #[v] w fun e w' => e = .returned (.int .i64 (chk xs)) ∧ w = w' := by
  obtain ⟨a, cap, rfl, hr⟩ := h
  exact check_any a _ cap xs w hr hn
theorem refCheck_sl (v : Value) (xs : List Int) (w : World) (h : Sl w v xs) (hn : xs.length ≤ 281474976710656) :
    Calls Tryz.prog 71 #[v] w fun e w' => e = .returned (.int .i64 (chk xs)) ∧ w = w' := by
  obtain ⟨a, cap, rfl, hr⟩ := h
  exact refCheck_any a _ cap xs w hr hn
theorem uint64_sl (v : Value) (xs : List Int) (w : World) (h : Sl w v xs) (hn : xs.length ≤ 281474976710656) :
    Calls Tryz.prog 179 #[v] w fun e w' => e = .returned (.tuple #[.int .u64 (u64of xs), .bool (decide (sz xs ≤ 2))]) ∧ Below w.heap.size w w' := by
  obtain ⟨a, cap, rfl, hr⟩ := h
  exact uint64_any a _ cap xs w hr hn
theorem refBits_sl (v : Value) (xs : List Int) (w : World) (h : Sl w v xs) (hn : xs.length ≤ 1099511627776) :
    Calls Tryz.prog 153 #[v] w fun e w' => e = .returned (.int .i64 (bitsOf xs)) ∧ Below w.heap.size w w' := by
  obtain ⟨a, cap, rfl, hr⟩ := h
  exact refBits_any a _ cap xs w hr hn

set_option maxHeartbeats 400000 in
set_option maxRecDepth 100000 in
theorem over_sl (base n : Nat) (v : Value) (xs : List Int) (w : World) (hw : Wd xs) (h : w.ownsRow base 94 1 v n (xs.map (Value.int .u32))) :
    Calls Tryz.prog 85 #[v] w fun e w' => e = .returned (.tuple #[]) ∧ w'.ownsRow base 94 1 v n ((compl xs).map (Value.int .u32)) ∧ w.grownBy w' v.ownBlock := by
  rcases h.2 with ⟨rfl, rfl⟩ | ⟨g, cap, cur, rfl, hrest⟩
  · have hx : xs = [] := List.eq_nil_of_length_eq_zero (by have := h.1; simpa using this)
    subst hx
    have HH := hid h
    clear h
    go_enter Tryz.func85, Tryz.ntmps85
    go_wp2
    refine wp_loop_rounds 1 ?_
    rw [rounds_succ]
    go_wp2
    refine wp_loop_rounds 1 ?_
    rw [rounds_succ]
    go_wp2
    go_end0
    exact ⟨rfl, HH.out, World.grownBy.refl _ _⟩
  · exact over_own base g n cap xs w hw h
end Go.Proofs.YtldeiapikkebgaaGreatDoor

/- nat.Add, nat.Sub, nat.Mul: of every two lists that can be read the sum, the difference, the product, or the error, in new memory. -/
namespace Go.Proofs.YtldeiapikkebgaaGreatDoor
open Go.RowKit
set_option linter.unusedVariables false

def both (xs ys : List Int) : Int := if chk xs = 0 then chk ys else chk xs
theorem chk_ok {xs : List Int} (h : chk xs = 0) : xs.length ≤ 8192 ∧ Trimmed xs := by
  unfold chk at h
  split at h
  · omega
  · split at h
    · rename_i h1 h2; exact ⟨by omega, h2⟩
    · omega
theorem both_ok {xs ys : List Int} (h : both xs ys = 0) : chk xs = 0 ∧ chk ys = 0 := by
  unfold both at h
  split at h
  · exact ⟨by assumption, h⟩
  · contradiction

set_option maxHeartbeats 800000 in
set_option maxRecDepth 100000 in
theorem checkBoth_sl (v u : Value) (xs ys : List Int) (w : World) (h : Sl w v xs) (g : Sl w u ys) (hn : xs.length ≤ 281474976710656) (hm : ys.length ≤ 281474976710656) :
    Calls Tryz.prog 137 #[v, u] w fun e w' => e = .returned (.int .i64 (both xs ys)) ∧ w = w' := by
  by_cases hc : chk xs = 0
  · have HC := hid (check_sl v xs w h hn)
    rw [hc] at HC
    have HU : Hid (both xs ys = chk ys) := by show _ = _; unfold both; rw [if_pos hc]
    clear hc
    go_enter Tryz.func137, Tryz.ntmps137
    go_wp2_with fail
    refine Calls.mono HC.out ?_
    rintro e w' ⟨rfl, rfl⟩
    go_wp2_with fail
    refine (check_sl u ys w g hm).mono ?_
    rintro e w' ⟨rfl, rfl⟩
    go_wp2
    go_ret
    exact ⟨ret_int HU.out.symm, rfl⟩
  · have hne : (chk xs != 0) = true := by simp [hc]
    have HU : Hid (both xs ys = chk xs) := by show _ = _; unfold both; rw [if_neg hc]
    clear hc
    go_enter Tryz.func137, Tryz.ntmps137
    go_wp2_with fail
    refine (check_sl v xs w h hn).mono ?_
    rintro e w' ⟨rfl, rfl⟩
    go_wp2
    go_ret
    exact ⟨ret_int HU.out.symm, rfl⟩

def Told (w : World) (e t : Int) (x : Ending) (w' : World) : Prop :=
  ∃ v zs code, x = .returned (.tuple #[v, .int .i64 code]) ∧ w'.ownsRow w.heap.size 94 1 v zs.length (zs.map (Value.int .u32)) ∧ Tells e t zs code ∧ Below w.heap.size w w'

theorem val_ge {xs : List Int} (hw : Wd xs) (ht : Trimmed xs) (h0 : 0 < xs.length) : (4294967296 : Int) ^ (xs.length - 1) ≤ val xs := by
  have t := sz_top xs (by rw [ht]; exact h0)
  rw [ht] at t
  have b := hw.at (xs.length - 1)
  obtain ⟨m, hm⟩ : ∃ m, xs.length = m + 1 := ⟨xs.length - 1, by omega⟩
  rw [hm, Nat.add_sub_cancel] at t b ⊢
  have e : val xs = valTo xs (m + 1) := by rw [← hm]; rfl
  rw [e, valTo_succ]
  have b2 := (valTo_bounds hw m).1
  have h2 : 1 * (4294967296 : Int) ^ m ≤ xs[m]?.getD 0 * 4294967296 ^ m := Int.mul_le_mul_of_nonneg_right (by omega) (Int.le_of_lt (pw_pos m))
  omega

end Go.Proofs.YtldeiapikkebgaaGreatDoor

/- nat.divide where the number is less than the divisor, or the divisor has one word: quotient and rest, in new memory. -/
namespace Go.Proofs.YtldeiapikkebgaaGreatDoor
open Go.RowKit
set_option linter.unusedVariables false

def Lies (v : Value) (lo hi : Nat) : Prop := ∀ g, v.ownBlock = some g → lo ≤ g ∧ g < hi

def Divided (w : World) (xs ys : List Int) (x : Ending) (w' : World) : Prop :=
  ∃ v u q r c, x = .returned (.tuple #[v, u]) ∧ w'.ownsRow w.heap.size 94 1 v q.length (q.map (Value.int .u32)) ∧ w'.ownsRow w.heap.size 94 1 u r.length (r.map (Value.int .u32)) ∧
    Lies v w.heap.size c ∧ Lies u c w'.heap.size ∧ w.heap.size ≤ c ∧ c ≤ w'.heap.size ∧ Wd q ∧ Wd r ∧ Trimmed q ∧ Trimmed r ∧ val xs = val q * val ys + val r ∧ val r < val ys ∧ Below w.heap.size w w'

theorem owns_len {w : World} {base e n : Nat} {v : Value} {xs : List Int} (h : w.ownsRow base e 1 v n (xs.map (Value.int .u32))) : w.ownsRow base e 1 v xs.length (xs.map (Value.int .u32)) := by
  have : xs.length = n := by have := h.1; simpa using this
  rw [this]; exact h

theorem wrap_u64_in (r : Int) (h0 : 0 ≤ r) (h1 : r ≤ 18446744073709551615) : IntKind.u64.wrap r = r := by
  rw [IntKind.wrap_u64]; omega
theorem own_slice' {w : World} {base e n : Nat} {v : Value} {xs : List Value} (h : w.ownsRow base e 1 v n xs) : ∃ a cap, v = .slice a n cap := by
  rcases h.2 with ⟨h1, h0⟩ | ⟨g, cap, cur, hv, _⟩
  · subst h0; exact ⟨_, _, h1⟩
  · exact ⟨_, _, hv⟩
theorem own_shape' {w : World} {base e n : Nat} {v : Value} {xs : List Value} (h : w.ownsRow base e 1 v n xs) (hn : 0 < n) : ∃ g cap, v = .slice (some ⟨g, 0, none⟩) n cap ∧ n ≤ cap ∧ cap ≤ maxLen := by
  rcases h.2 with ⟨_, h0⟩ | ⟨g, cap, cur, hv, _, _, h1, h2, _⟩
  · omega
  · exact ⟨g, cap, hv, h1, h2⟩

set_option maxHeartbeats 1600000 in
set_option maxRecDepth 100000 in
theorem divide_less (v u : Value) (xs ys : List Int) (w : World) (h : Sl w v xs) (g : Sl w u ys) (hn : xs.length ≤ 8192) (hm : ys.length ≤ 8192) (hlt : val xs < val ys) :
    Calls Tryz.prog 178 #[v, u] w (Divided w xs ys) := by
  have HCM := hid (compare_sl v u xs ys w h g (by omega) (by omega))
  rw [cmpI_lt hlt] at HCM
  have HT := hid hlt
  have wx := h.wd
  clear hlt g
  go_enter Tryz.func178, Tryz.ntmps178
  go_wp2_with fail
  refine Calls.mono HCM.out ?_
  rintro e w1 ⟨rfl, hb1⟩
  have h1 := h.later hb1
  go_wp2_with fail
  refine (trim_sl v xs w1 h1 (by omega)).mono ?_
  rintro e w2 ⟨vt, rfl, ot, hb2⟩
  have hsz := hb1.size
  have hsz2 := hb2.size
  have HF : Hid (Divided w xs ys (.returned (.tuple #[.slice none 0 0, vt])) w2) := by
    refine ⟨_, _, [], trimmed xs, w1.heap.size, rfl, World.ownsRow_nil _ _ _ _, owns_base (owns_len ot) hsz, ?_, ?_, hsz, hsz2, Wd.nil, wx.trimmed, Trimmed.nil, Trimmed.trimmed xs, ?_, ?_, hb1.trans (hb2.mono hsz)⟩
    · intro g hg; simp [Value.ownBlock] at hg
    · intro g hg; exact ot.lt g hg
    · rw [val_trimmed, val_nil]; omega
    · rw [val_trimmed]; exact HT.out
  clear ot
  go_wp2
  go_ret2
  exact HF.out

set_option maxHeartbeats 800000 in
set_option maxRecDepth 100000 in
theorem divide_word (v u : Value) (xs : List Int) (y : Int) (w : World) (h : Sl w v xs) (g : Sl w u [y]) (hn : xs.length ≤ 8192) (hx : Trimmed xs) (hy : 1 ≤ y) (hge : y ≤ val xs) :
    Calls Tryz.prog 178 #[v, u] w (Divided w xs [y]) := by
  have wx := h.wd
  have wy := g.wd.head
  have hci : 0 ≤ cmpI (val xs) (val [y]) := by rw [val_one]; unfold cmpI; rw [if_neg (by omega)]; split <;> omega
  have hpos : 0 < xs.length := by
    by_cases e : xs.length = 0
    · have : xs = [] := List.eq_nil_of_length_eq_zero e
      subst this
      rw [val_nil] at hge
      omega
    · omega
  have CC := hid (compare_sl v u xs [y] w h g (by omega) (by simp))
  obtain ⟨b, cap', rfl, gr⟩ := g
  rcases gr.2.2.1 with h0 | ⟨b2, o2, rfl, hb2, hc2⟩
  · simp at h0
  · have hc0 : w.cell? ⟨b2, o2, none⟩ = some (.int .u32 y) := by simpa using hc2 0 (by simp)
    have HX := hid hx
    clear gr hc2 hge hx
    go_enter Tryz.func178, Tryz.ntmps178
    go_wp2_with fail
    refine Calls.mono CC.out ?_
    rintro e w1 ⟨rfl, hb1⟩
    have h1 := h.later hb1
    clear h CC
    go_wp2_with fail
    refine (trim_sl v xs w1 h1 (by omega)).mono ?_
    rintro e w2 ⟨vt, rfl, ot, hb2'⟩
    rw [show sz xs = xs.length from HX.out, trimmed_of HX.out] at ot
    obtain ⟨gq, cq, hvq, _, _⟩ := own_shape' ot hpos
    rw [hvq] at ot ⊢
    have hs1 := hb1.size
    have hs2 := hb2'.size
    have hc0' : w2.cell? ⟨b2, o2, none⟩ = some (.int .u32 y) := ((hb1.trans (hb2'.mono hs1)).cell (p := ⟨b2, o2, none⟩) hb2).trans hc0
    go_wp2_with fail
    refine (divideByWord_any _ _ _ _ xs y w2 ot wx (by omega) ⟨hy, wy.2⟩).mono ?_
    rintro e w3 ⟨r, us, rfl, r0, r1, ou, hwu, hvu, hg3⟩
    have HV := hid hvu
    have r2 : r ≤ 4294967295 := by have := wy.2; omega
    have hlu := ou.len
    have sx := sz_le us
    rw [hlu] at sx
    have hs3 := hg3.size
    have hgq := World.ownsRow.lt ou gq rfl
    have hr3 : Reads w3.drew w3.heap.size (some ⟨gq, 0, none⟩) xs.length cq us := by
      obtain ⟨a, cap, hv, hr⟩ := Reads.own ou hwu
      simp only [Value.slice.injEq] at hv
      obtain ⟨rfl, _, rfl⟩ := hv
      exact hr
    have hcq := (OwnC.cap ou)
    have hcq2 : cq ≤ 9223372036854775807 := by have := hcq.2; unfold maxLen at this; omega
    have hcq1 := hcq.1
    have hwr : IntKind.u64.wrap r = r := wrap_u64_in r r0 (by omega)
    have HZ := hid (size_any _ _ cq us _ w3.drew hr3 (by omega))
    have HO := hid (of_any r w3.drew r0 (by omega))
    have HU := hid ou
    have HB3 : Hid (Below w.heap.size w w3) := ((hb1.trans (hb2'.mono hs1)).grown hg3 (by omega) (fun k hk => by simp at hk; omega))
    clear hvu ou hg3 hb1 hb2' ot hr3 hcq hlu h1
    go_wp2_with fail
    go_region_with (first | (go_at_call 111; refine Calls.mono HZ.out ?_; rintro e w' ⟨rfl, rfl⟩) | (go_at_call 107; refine Calls.mono HO.out ?_; rintro e w4 ⟨vr, rfl, or4, hb4⟩; obtain ⟨ar, cr, rfl⟩ := own_slice' or4))
    all_goals
      have hb4' : Below w3.heap.size w3 w4 := ((Below.refl _ w3).drew).trans hb4
      have hs4 := hb4'.size
      have HF : Hid (Divided w xs [y] (.returned (.tuple #[.slice (some ⟨gq, 0, none⟩) (sz us) cq, .slice ar (sz [r % 4294967296, r / 4294967296]) cr])) w4) := by
        refine ⟨_, _, trimmed us, trimmed [r % 4294967296, r / 4294967296], w3.heap.size, rfl, ?_, ?_, ?_, ?_, by omega, hs4, hwu.trimmed, (of_wd r r0 (by omega)).trimmed, Trimmed.trimmed _, Trimmed.trimmed _, ?_, ?_, HB3.out.trans (hb4'.mono (by omega))⟩
        · rw [length_trimmed]
          have o1 : w3.ownsRow w1.heap.size 94 1 (.slice (some ⟨gq, 0, none⟩) (sz us) cq) (sz us) ((trimmed us).map (Value.int .u32)) := OwnC.take HU.out (sz us) sx
          exact owns_base (owns_later o1 hb4') (by omega)
        · exact owns_base (owns_len or4) (by show w.heap.size ≤ w3.heap.size; omega)
        · intro g hg
          simp [Value.ownBlock] at hg
          omega
        · intro g hg; exact or4.lt g hg
        · rw [val_trimmed, val_trimmed, val_one, val_two, HV.out]
          omega
        · rw [val_trimmed, val_one, val_two]
          omega
      clear or4 hb4 hb4'
      go_wp2
      go_ret2
      exact HF.out
end Go.Proofs.YtldeiapikkebgaaGreatDoor

/- slackwaterkit.ApartWords answers true of lists that lie in blocks of their own, each in another one; below them nothing is written. -/
namespace Go.Proofs.YtldeiapikkebgaaGreatDoor
open Go.RowKit
set_option linter.unusedVariables false

theorem Tryz.infoL : (Tryz.prog.info? 24).map (fun i => (i.zero, i.size, i.bytes)) = some (some (.slice none 0 0), 1, 24) := by kernel_rfl

structure Lists (w : World) (base bl m : Nat) (V : Nat → Value) (X : Nat → List Int) : Prop where
  wd : ∀ j, j < m → Wd (X j)
  len : ∀ j, j < m → (X j).length ≤ 1099511627776
  own : ∀ j, j < m → w.ownsRow base 94 1 (V j) (X j).length ((X j).map (Value.int .u32))
  apart : ∀ i j, i < m → j < m → i ≠ j → (V i).ownBlock = none ∨ (V i).ownBlock ≠ (V j).ownBlock
  row : ∃ cl : Array Value, w.heap[bl]? = some (.cells cl 24 (0, 0)) ∧ ∀ j, j < m → cl[j]? = some (V j)

theorem block_lt {w : World} {g : Nat} {o : Obj} (h : w.heap[g]? = some o) : g < w.heap.size := by
  have : w.heap[g]?.isSome := by rw [h]; rfl
  simpa using this

def I1 (w : World) (m : Nat) (X : Nat → List Int) (k : Nat) (wr : World) : Prop :=
  ∃ us : List Value, us.length = m ∧ wr.heap[w.heap.size]? = some (.cells us.toArray 24 (0, 0)) ∧
    (∀ j, j < k → ∃ u, us[j]? = some u ∧ wr.ownsRow (w.heap.size + 1) 94 1 u (X j).length ((X j).map (Value.int .u32))) ∧ Below w.heap.size w wr

theorem I1.step {w wr w1 : World} {m k : Nat} {X : Nat → List Int} {v : Value} (h : I1 w m X k wr) (hk : k < m)
    (ho : w1.ownsRow wr.heap.size 94 1 v (X k).length ((X k).map (Value.int .u32))) (hb : Below wr.heap.size wr w1) : I1 w m X (k + 1) (w1.setCell ⟨w.heap.size, k, none⟩ v) := by
  obtain ⟨us, hl, hg, hu, hbel⟩ := h
  have hgw := block_lt hg
  have hg1 : w1.heap[w.heap.size]? = some (.cells us.toArray 24 (0, 0)) := (hb.block _ hgw).trans hg
  refine ⟨us.set k v, by simpa using hl, ?_, ?_, (hbel.trans (hb.mono hbel.size)).setCell (Nat.le_refl _) _⟩
  · rw [heap_setCell_same w1 w.heap.size k us.toArray 24 v hg1]
    simp
  · intro j hj
    by_cases e : j = k
    · subst e
      exact ⟨v, by simp [hl, hk], ownsRow_setCell_below (owns_base ho (by omega)) (by simp) _⟩
    · obtain ⟨u, h1, h2⟩ := hu j (by omega)
      exact ⟨u, by rw [List.getElem?_set, if_neg (by omega)]; exact h1, ownsRow_setCell_below (owns_later h2 hb) (by simp) _⟩

structure I2 (w : World) (base bl gw m : Nat) (V U : Nat → Value) (X : Nat → List Int) (k : Nat) (wr : World) : Prop where
  lists : ∀ j, j < m → wr.ownsRow base 94 1 (V j) (X j).length ((if j < k then compl (X j) else X j).map (Value.int .u32))
  was : ∀ j, j < m → wr.ownsRow (gw + 1) 94 1 (U j) (X j).length ((X j).map (Value.int .u32))
  low : ∀ j, j < m → ∀ g, (V j).ownBlock = some g → g < gw
  rowL : ∃ cl : Array Value, wr.heap[bl]? = some (.cells cl 24 (0, 0)) ∧ ∀ j, j < m → cl[j]? = some (V j)
  rowW : ∃ cl : Array Value, wr.heap[gw]? = some (.cells cl 24 (0, 0)) ∧ ∀ j, j < m → cl[j]? = some (U j)
  below : Below base w wr

theorem I2.later {w wr wa : World} {base bl gw m k : Nat} {V U : Nat → Value} {X : Nat → List Int} (h : I2 w base bl gw m V U X k wr) (hb : Below wr.heap.size wr wa) (hbs : base ≤ wr.heap.size) : I2 w base bl gw m V U X k wa where
  lists j hj := owns_later (h.lists j hj) hb
  was j hj := owns_later (h.was j hj) hb
  low := h.low
  rowL := by
    obtain ⟨cl, h1, h2⟩ := h.rowL
    exact ⟨cl, (hb.block _ (block_lt h1)).trans h1, h2⟩
  rowW := by
    obtain ⟨cl, h1, h2⟩ := h.rowW
    exact ⟨cl, (hb.block _ (block_lt h1)).trans h1, h2⟩
  below := h.below.trans (hb.mono hbs)

theorem I2.step {w wa wb : World} {base bl gw m k : Nat} {V U : Nat → Value} {X : Nat → List Int} (h : I2 w base bl gw m V U X k wa) (hk : k < m) (hbs : base ≤ wa.heap.size)
    (ap : ∀ i j, i < m → j < m → i ≠ j → (V i).ownBlock = none ∨ (V i).ownBlock ≠ (V j).ownBlock)
    (ho : wb.ownsRow base 94 1 (V k) (X k).length ((compl (X k)).map (Value.int .u32))) (hg : wa.grownBy wb (V k).ownBlock) : I2 w base bl gw m V U X (k + 1) wb where
  lists j hj := by
    by_cases e : j = k
    · subst e; rw [if_pos (by omega)]; exact ho
    · have := (h.lists j hj).kept hg (ap j k hj hk e)
      by_cases e2 : j < k
      · rw [if_pos e2] at this; rw [if_pos (by omega)]; exact this
      · rw [if_neg e2] at this; rw [if_neg (by omega)]; exact this
  was j hj := by
    refine (h.was j hj).kept hg ?_
    cases hv : (U j).ownBlock with
    | none => exact .inl rfl
    | some g =>
      right
      intro e
      have h1 := ((h.was j hj).lt g hv).1
      have h2 := h.low k hk g e.symm
      omega
  low := h.low
  rowL := by
    obtain ⟨cl, h1, h2⟩ := h.rowL
    refine ⟨cl, ?_, h2⟩
    rw [hg.block bl (block_lt h1) (fun e => ?_)]
    · exact h1
    · rcases (h.lists k hk).2 with ⟨hv, _⟩ | ⟨g, cap, cur, hv, _, hgc, _⟩
      · rw [hv] at e; simp [Value.ownBlock] at e
      · rw [hv] at e
        simp [Value.ownBlock] at e
        subst e
        rw [h1] at hgc
        simp at hgc
  rowW := by
    obtain ⟨cl, h1, h2⟩ := h.rowW
    refine ⟨cl, ?_, h2⟩
    rw [hg.block gw (block_lt h1) (fun e => ?_)]
    · exact h1
    · have := h.low k hk gw e.symm
      omega
  below := h.below.grown hg hbs (fun g e => ((h.lists k hk).lt g e).1)

theorem row_cell {w : World} {g m e : Nat} {V : Nat → Value} (h : ∃ cl : Array Value, w.heap[g]? = some (.cells cl e (0, 0)) ∧ ∀ j, j < m → cl[j]? = some (V j)) (j : Nat) (hj : j < m) : w.cell? ⟨g, j, none⟩ = some (V j) := by
  obtain ⟨cl, h1, h2⟩ := h
  rw [cell_of_row w g j cl e (0, 0) h1]; exact h2 j hj

end Go.Proofs.YtldeiapikkebgaaGreatDoor

/- What the laws share: a slice that came in is read; lists made one behind the other lie apart. -/
namespace Go.Proofs.YtldeiapikkebgaaGreatDoor
open Go.RowKit
set_option linter.unusedVariables false

theorem bt {a b c : World} (h : Below a.heap.size a b) (g : Below b.heap.size b c) : Below a.heap.size a c := h.trans (g.mono h.size)

theorem cell_block {w : World} {b o : Nat} {v : Value} (h : w.cell? ⟨b, o, none⟩ = some v) : b < w.heap.size := by
  by_cases hb : b < w.heap.size
  · exact hb
  · have : w.heap[b]? = none := by simp; omega
    simp [World.cell?, this] at h

theorem reads_of_row {w : World} {a : Option Addr} {len cap : Nat} {zs : List Int}
    (h : (a = none ∧ len = 0 ∧ cap = 0 ∧ zs = []) ∨ ∃ x, a = some x ∧ len ≤ cap ∧ cap ≤ maxLen ∧ zs.length = cap ∧ (∀ i, i < zs.length → w.cell? (x.add i) = some (.int .u32 (zs.getD i 0))) ∧ ∀ n ∈ zs, (Lit.int .u32 n).wf = true) :
    Reads w w.heap.size a len cap (zs.take len) := by
  rcases h with ⟨rfl, rfl, rfl, rfl⟩ | ⟨x, rfl, hl, hm, hz, hc, hw⟩
  · exact ⟨rfl, Wd.nil, .inl rfl, Nat.le_refl _, Nat.zero_le _, fun _ => rfl⟩
  · refine ⟨by rw [List.length_take]; omega, fun z hz' => ?_, ?_, hl, hm, fun h => by simp at h⟩
    · have := hw z (List.mem_of_mem_take hz')
      have h1 : IntKind.u32.min = 0 := rfl
      have h2 : IntKind.u32.max = 4294967295 := rfl
      simp only [Lit.wf, Bool.and_eq_true, decide_eq_true_eq] at this
      omega
    · by_cases h0 : len = 0
      · exact .inl h0
      · right
        obtain ⟨b, o, spot⟩ := x
        have hc0 := hc 0 (by omega)
        have hs : spot = none := by simpa [Addr.add] using World.cell?_spot hc0
        subst hs
        refine ⟨b, o, rfl, cell_block (by simpa [Addr.add] using hc0), fun j hj => ?_⟩
        have := hc j (by omega)
        rw [Addr.add_lit] at this
        rw [this, List.getElem?_take, if_pos hj]
        rfl

def Within (v : Value) (lo hi : Nat) : Prop := ∀ g, v.ownBlock = some g → lo ≤ g ∧ g < hi
end Go.Proofs.YtldeiapikkebgaaGreatDoor

/- The laws' own helpers: put (a number of at most 60 words out of any list), add and mul (without errors), awake (the document's examples hold). -/
namespace Go.Proofs.YtldeiapikkebgaaGreatDoor
open Go.RowKit
set_option linter.unusedVariables false

theorem len_of_lt {zs : List Int} (hw : Wd zs) (ht : Trimmed zs) {L : Nat} (h : val zs < 4294967296 ^ L) : zs.length ≤ L := by
  by_cases e : zs.length ≤ L
  · exact e
  · have h1 := val_ge hw ht (by omega)
    have h2 : (4294967296 : Int) ^ L ≤ 4294967296 ^ (zs.length - 1) := pw_le (by omega)
    omega
theorem lt_wide {x : Int} {L : Nat} (h : x < 4294967296 ^ L) (hL : L ≤ 8192) : x < wide := by
  have : (4294967296 : Int) ^ L ≤ 4294967296 ^ 8192 := pw_le hL
  unfold wide
  omega
theorem chk_good {xs : List Int} (hl : xs.length ≤ 8192) (ht : Trimmed xs) : chk xs = 0 := by
  unfold chk; rw [if_neg (by omega), if_pos (show sz xs = xs.length from ht)]
theorem both_good {xs ys : List Int} (h : chk xs = 0) (g : chk ys = 0) : both xs ys = 0 := by unfold both; rw [if_pos h, g]

theorem alloc_later (w : World) (o : Obj) : Below w.heap.size w (w.alloc o) := (Below.refl _ _).alloc (Nat.le_refl _) _

end Go.Proofs.YtldeiapikkebgaaGreatDoor

/- nat.Shift: of every list that can be read and every number the list moved up or down, or the error, in new memory. -/
namespace Go.Proofs.YtldeiapikkebgaaGreatDoor
open Go.RowKit
set_option linter.unusedVariables false

theorem pw_two (k : Nat) : (4294967296 : Int) ^ k = 2 ^ (32 * k) := by
  rw [Int.pow_mul]; rfl
theorem bitLen_bounds (x : Int) (h0 : 1 ≤ x) (h1 : x ≤ 4294967295) : 1 ≤ Lib.bitLen x.toNat ∧ (2 : Int) ^ (Lib.bitLen x.toNat - 1) ≤ x ∧ x < 2 ^ Lib.bitLen x.toNat := by
  obtain ⟨a, b, c⟩ := Lib.bitLenAux_bounds 64 x.toNat (by omega) (by omega)
  refine ⟨a, ?_, ?_⟩
  · have := Int.ofNat_le.2 b
    rw [Int.natCast_pow, Int.toNat_of_nonneg (by omega)] at this
    exact this
  · have := Int.ofNat_lt.2 c
    rw [Int.natCast_pow, Int.toNat_of_nonneg (by omega)] at this
    exact this
theorem bits_bounds {xs : List Int} (hw : Wd xs) (hp : 0 < sz xs) : 1 ≤ bitsOf xs ∧ (2 : Int) ^ (bitsOf xs - 1) ≤ val xs ∧ val xs < 2 ^ bitsOf xs ∧ bitsOf xs ≤ 32 * sz xs ∧ 32 * (sz xs - 1) < bitsOf xs := by
  obtain ⟨m, hm⟩ : ∃ m, sz xs = m + 1 := ⟨sz xs - 1, by omega⟩
  have ht := sz_top xs hp
  have hb := hw.at m
  have h32 := bitLen_le32 (xs[m]?.getD 0) hb.2
  rw [hm, Nat.add_sub_cancel] at ht
  obtain ⟨b1, b2, b3⟩ := bitLen_bounds (xs[m]?.getD 0) (by omega) hb.2
  have e : bitsOf xs = m * 32 + Lib.bitLen (xs[m]?.getD 0).toNat := by unfold bitsOf; rw [hm, if_neg (by omega), Nat.add_sub_cancel]
  have hv : val xs = valTo xs m + xs[m]?.getD 0 * 4294967296 ^ m := by rw [val_sz, hm, valTo_succ]
  have vb := valTo_bounds hw m
  rw [e, hv]
  generalize Lib.bitLen (xs[m]?.getD 0).toNat = L at *
  have hpw := pw_pos m
  refine ⟨by omega, ?_, ?_, by omega, by omega⟩
  · have e1 : (2 : Int) ^ (m * 32 + L - 1) = 2 ^ (L - 1) * 4294967296 ^ m := by rw [pw_two, ← Int.pow_add]; congr 1; omega
    have e2 : (2 : Int) ^ (L - 1) * 4294967296 ^ m ≤ xs[m]?.getD 0 * 4294967296 ^ m := Int.mul_le_mul_of_nonneg_right b2 (Int.le_of_lt hpw)
    rw [e1]; omega
  · have e1 : (2 : Int) ^ (m * 32 + L) = 2 ^ L * 4294967296 ^ m := by rw [pw_two, ← Int.pow_add]; congr 1; omega
    have e2 : (xs[m]?.getD 0 + 1) * 4294967296 ^ m ≤ (2 : Int) ^ L * 4294967296 ^ m := Int.mul_le_mul_of_nonneg_right (by omega) (Int.le_of_lt hpw)
    rw [Int.add_mul] at e2
    rw [e1]; omega

end Go.Proofs.YtldeiapikkebgaaGreatDoor

/- nat.divideLong: quotient and rest by two words or more, in new memory. -/
namespace Go.Proofs.YtldeiapikkebgaaGreatDoor
open Go.RowKit
set_option linter.unusedVariables false

theorem lead_any (x : Int) (w : World) (h0 : 1 ≤ x) (h1 : x ≤ 4294967295) :
    Calls Tryz.prog 174 #[.int .u32 x] w fun e w' => e = .returned (.int .i64 ((32 - Lib.bitLen x.toNat : Nat) : Int)) ∧ w = w' := by
  have h2 := bitLen_le32 x h1
  have HL := hid (len32_any x w (by omega) h1)
  obtain ⟨L, hL⟩ : ∃ L, Lib.bitLen x.toNat = L := ⟨_, rfl⟩
  rw [hL] at HL h2 ⊢
  clear hL
  go_enter Tryz.func174, Tryz.ntmps174
  go_wp2_with fail
  refine Calls.mono HL.out ?_
  rintro e w' ⟨rfl, rfl⟩
  go_wp2_with fail
  go_ret
  exact ⟨ret_int (by omega), rfl⟩

theorem raise_zero (a : Option Addr) (n cap : Nat) (xs : List Int) (t : Nat) (w : World) (h : Reads w w.heap.size a n cap xs) (hn : n ≤ 274877906944) (hn0 : 0 < n) (ht : t ≤ 31) :
    Calls Tryz.prog 185 #[.slice a n cap, .int .i64 0, .int .i64 t] w fun e w' => ∃ (ys : List Int), e = .returned (.slice (some ⟨w.heap.size, 0, none⟩) (n + 1) (n + 1)) ∧ OwnW w' w.heap.size w.heap.size (n + 1) ys ∧ Wd ys ∧ val ys = val xs * 2 ^ t ∧ Below w.heap.size w w' := by
  refine Calls.mono (raise_any a n cap xs 0 t w h hn hn0 (by omega) ht) ?_
  rintro e w' ⟨ys, rfl, oy, wy, hv, hb⟩
  exact ⟨ys, rfl, oy, wy, by rw [hv, Int.pow_zero, Int.mul_one], hb⟩
theorem lower_zero (a : Option Addr) (n cap : Nat) (xs : List Int) (t : Nat) (w : World) (h : Reads w w.heap.size a n cap xs) (hn : n ≤ 274877906944) (hn0 : 0 < n) (ht : t ≤ 31) :
    Calls Tryz.prog 187 #[.slice a n cap, .int .i64 0, .int .i64 t] w fun e w' => ∃ (ys : List Int), e = .returned (.slice (some ⟨w.heap.size, 0, none⟩) n n) ∧ OwnW w' w.heap.size w.heap.size n ys ∧ Wd ys ∧ val ys = val xs / 2 ^ t ∧ Below w.heap.size w w' := by
  refine Calls.mono (lower_any a n cap xs 0 t w h hn hn0 ht) ?_
  rintro e w' ⟨ys, rfl, oy, wy, hv, hb⟩
  exact ⟨ys, rfl, oy, wy, by rw [hv, Int.pow_zero, Int.ediv_one], hb⟩

theorem normal {ys : List Int} (hw : Wd ys) (ht : Trimmed ys) (e : Nat) (hl : ys.length = e + 2) : 1 ≤ ys[e + 1]?.getD 0 ∧ ys[e + 1]?.getD 0 ≤ 4294967295 ∧ 32 - Lib.bitLen (ys[e + 1]?.getD 0).toNat ≤ 31 ∧
    val ys * 2 ^ (32 - Lib.bitLen (ys[e + 1]?.getD 0).toNat) < 4294967296 ^ (e + 2) ∧ (4294967296 : Int) ^ (e + 2) ≤ 2 * (val ys * 2 ^ (32 - Lib.bitLen (ys[e + 1]?.getD 0).toNat)) := by
  have hs : sz ys = e + 2 := by rw [ht]; exact hl
  have tp := sz_top ys (by omega)
  rw [hs, show e + 2 - 1 = e + 1 by omega] at tp
  have b := hw.at (e + 1)
  obtain ⟨l1, l2, l3⟩ := bitLen_bounds (ys[e + 1]?.getD 0) (by omega) b.2
  have l4 := bitLen_le32 (ys[e + 1]?.getD 0) b.2
  obtain ⟨b1, b2, b3, b4, b5⟩ := bits_bounds hw (by omega)
  have hb : bitsOf ys = (e + 1) * 32 + Lib.bitLen (ys[e + 1]?.getD 0).toNat := by unfold bitsOf; rw [hs, if_neg (by omega), show e + 2 - 1 = e + 1 by omega]
  rw [hb] at b1 b2 b3
  generalize Lib.bitLen (ys[e + 1]?.getD 0).toNat = L at *
  have p := two_pos (32 - L)
  refine ⟨by omega, b.2, by omega, ?_, ?_⟩
  · have e1 : val ys * 2 ^ (32 - L) < 2 ^ ((e + 1) * 32 + L) * 2 ^ (32 - L) := Int.mul_lt_mul_of_pos_right b3 p
    rw [← Int.pow_add] at e1
    rw [pw_two, show 32 * (e + 2) = (e + 1) * 32 + L + (32 - L) by omega]
    exact e1
  · have e1 : (2 : Int) ^ ((e + 1) * 32 + L - 1) * 2 ^ (32 - L) ≤ val ys * 2 ^ (32 - L) := Int.mul_le_mul_of_nonneg_right b2 (Int.le_of_lt p)
    rw [← Int.pow_add] at e1
    have e2 : (2 : Int) ^ (32 * (e + 2)) = 2 * 2 ^ ((e + 1) * 32 + L - 1 + (32 - L)) := by
      rw [show 32 * (e + 2) = ((e + 1) * 32 + L - 1 + (32 - L)) + 1 by omega, Int.pow_succ, Int.mul_comm]
    rw [pw_two, e2]
    omega
theorem top_nought {ds : List Int} (hw : Wd ds) (m : Nat) (hl : ds.length = m + 1) (h : val ds < 4294967296 ^ m) : val (ds.take m) = val ds := by
  have e : val ds = valTo ds m + ds[m]?.getD 0 * 4294967296 ^ m := by unfold val; rw [hl, valTo_succ]
  have b := (valTo_bounds hw m).1
  have hz : ds[m]?.getD 0 = 0 := by
    have hb := hw.at m
    by_cases c : ds[m]?.getD 0 = 0
    · exact c
    · have : 1 * (4294967296 : Int) ^ m ≤ ds[m]?.getD 0 * 4294967296 ^ m := Int.mul_le_mul_of_nonneg_right (by omega) (Int.le_of_lt (pw_pos m))
      omega
  rw [e, hz]
  unfold val
  rw [List.length_take, hl, Nat.min_eq_left (by omega), valTo_congr (ds.take m) ds m (fun j hj => by rw [List.getElem?_take, if_pos hj])]
  omega
theorem top_one {ds : List Int} (hw : Wd ds) (e : Nat) (hl : ds.length = e + 2) (h : (4294967296 : Int) ^ (e + 2) ≤ 2 * val ds) : 1 ≤ ds[e + 1]?.getD 0 := by
  have hb := hw.at (e + 1)
  by_cases c : ds[e + 1]?.getD 0 = 0
  · have e1 : val ds = valTo ds (e + 1) + ds[e + 1]?.getD 0 * 4294967296 ^ (e + 1) := by unfold val; rw [hl, valTo_succ]
    rw [c] at e1
    have b := (valTo_bounds hw (e + 1)).2
    have := pw_succ (e + 1)
    have hp := pw_pos (e + 1)
    rw [show e + 2 = e + 1 + 1 from rfl] at h
    omega
  · omega
theorem long_start (A D : Int) (n m K : Nat) (X : Int) (t : Nat) (ht : t ≤ 31) (hn : m + K = n + 1) (hX : X < 4294967296 ^ n) (hX0 : 0 ≤ X) (hA : A = X * 2 ^ t) (hD : (4294967296 : Int) ^ m ≤ 2 * D) : A < D * 4294967296 ^ K := by
  have p := two_pos t
  have e1 : X * 2 ^ t < 4294967296 ^ n * 2 ^ t := Int.mul_lt_mul_of_pos_right hX p
  have e2 : (4294967296 : Int) ^ n * 2 ^ t ≤ 4294967296 ^ n * 2 ^ 31 := Int.mul_le_mul_of_nonneg_left (two_le ht) (Int.le_of_lt (pw_pos n))
  have e3 : (4294967296 : Int) ^ m * 4294967296 ^ K ≤ 2 * D * 4294967296 ^ K := Int.mul_le_mul_of_nonneg_right hD (Int.le_of_lt (pw_pos K))
  rw [← Int.pow_add, hn, pw_succ, Int.mul_assoc] at e3
  rw [hA]
  omega
theorem long_step (us vs qs : List Int) (m K k : Nat) (A D q : Int) (hk : k < K) (hlq : qs.length = K) (wv : Wd vs) (hDm : D < 4294967296 ^ m)
    (hA : A = valTo us (k + 1 + m) + segTo qs (k + 1) (K - (k + 1)) * D * 4294967296 ^ (k + 1))
    (hlow : ∀ j, j < k → vs[j]?.getD 0 = us[j]?.getD 0) (hseg : segTo vs k (m + 1) = segTo us k (m + 1) - q * D) (hlt : segTo vs k (m + 1) < D) :
    A = valTo vs (k + m) + segTo (qs.set k q) k (K - k) * D * 4294967296 ^ k ∧ segTo vs k m < D := by
  have hz : vs[k + m]?.getD 0 = 0 := by
    have hb := wv.at (k + m)
    have sb := segTo_nonneg wv k m
    by_cases c : vs[k + m]?.getD 0 = 0
    · exact c
    · have : 1 * (4294967296 : Int) ^ m ≤ vs[k + m]?.getD 0 * 4294967296 ^ m := Int.mul_le_mul_of_nonneg_right (by omega) (Int.le_of_lt (pw_pos m))
      rw [segTo_succ] at hlt
      omega
  have hs : segTo vs k (m + 1) = segTo vs k m := by rw [segTo_succ, hz]; omega
  refine ⟨?_, by rw [← hs]; exact hlt⟩
  obtain ⟨d, hd⟩ : ∃ d, K - k = d + 1 := ⟨K - k - 1, by omega⟩
  rw [show k + 1 + m = k + (m + 1) by omega, valTo_seg us k (m + 1), show K - (k + 1) = d by omega, pw_succ k] at hA
  rw [valTo_seg vs k m, ← hs, hseg, hd, segTo_cons (qs.set k q) d k, List.getElem?_set, if_pos rfl, if_pos (by omega), segTo_congr (qs.set k q) qs (k + 1) d (fun j hj => by rw [List.getElem?_set, if_neg (by omega)]),
    valTo_congr vs us k hlow, hA]
  show _ = valTo us k + (segTo us k (m + 1) - q * D) * 4294967296 ^ k + (q + _) * D * 4294967296 ^ k
  rw [Int.sub_mul, Int.add_mul, Int.add_mul, Int.mul_comm (4294967296 ^ k) 4294967296, ← Int.mul_assoc, Int.mul_assoc (segTo qs (k + 1) d) D 4294967296, Int.mul_comm D 4294967296, ← Int.mul_assoc]
  omega
end Go.Proofs.YtldeiapikkebgaaGreatDoor

/- nat.divideLong: quotient and rest by two words or more, in new memory. -/
namespace Go.Proofs.YtldeiapikkebgaaGreatDoor
open Go.RowKit
set_option linter.unusedVariables false

set_option maxHeartbeats 800000 in
set_option maxRecDepth 100000 in
theorem divideLong_any (v u : Value) (xs ys : List Int) (e : Nat) (w : World) (h : Sl w v xs) (g : Sl w u ys) (hn : xs.length ≤ 8192) (hx : Trimmed xs) (hy : Trimmed ys) (hl : ys.length = e + 2) (hge : ys.length ≤ xs.length) :
    Calls Tryz.prog 184 #[v, u] w (Divided w xs ys) := by
  obtain ⟨i0, hi, hz0, hz1, hz2⟩ := info_parts Tryz.infoW
  have wx := h.wd
  have wy := g.wd
  obtain ⟨a, cap, rfl, hr⟩ := h
  obtain ⟨b, cap', rfl, gr⟩ := g
  obtain ⟨n, hnn⟩ : ∃ n, xs.length = n := ⟨_, rfl⟩
  rw [hl] at gr hge ⊢
  rw [hnn] at hr hn hge ⊢
  obtain ⟨K, hK⟩ : ∃ K, e + 2 + K = n + 1 := ⟨n + 1 - (e + 2), by omega⟩
  obtain ⟨s1, s2, s3, s4, s5⟩ := normal wy hy e hl
  obtain ⟨t, ht⟩ : ∃ t, 32 - Lib.bitLen (ys[e + 1]?.getD 0).toNat = t := ⟨_, rfl⟩
  have HLD := hid (lead_any (ys[e + 1]?.getD 0) w s1 s2)
  rw [ht] at s3 s4 s5 HLD
  have HR1 := hid (raise_zero b (e + 2) cap' ys t w gr (by omega) (by omega) s3)
  rcases gr.2.2.1 with h0 | ⟨b2, o2, rfl, hb2, hc2⟩
  · omega
  have hc0 := hc2 (e + 1) (by omega)
  have HX := hid hr
  have HN := hid (And.intro hnn hl)
  have HS4 := hid s4
  have HS5 := hid s5
  generalize ys[e + 1]?.getD 0 = top at *
  clear hc2 gr hr hnn hl s4 s5 ht
  go_enter Tryz.func184, Tryz.ntmps184
  go_wp2_with fail
  refine Calls.mono HLD.out ?_
  rintro x w' ⟨rfl, rfl⟩
  go_wp2_with fail
  refine Calls.mono HR1.out ?_
  rintro x w1 ⟨dF, rfl, oF, wF, hvF, hb1⟩
  have hlF := oF.len
  have hvd : val (dF.take (e + 2)) = val ys * 2 ^ t := by rw [top_nought wF (e + 2) (by omega) (by rw [hvF]; exact HS4.out), hvF]
  have oD : OwnC w1 w.heap.size w.heap.size (e + 2) (e + 2 + 1) (dF.take (e + 2)) := OwnC.take (cap := e + 2 + 1) oF (e + 2) (by omega)
  have wD : Wd (dF.take (e + 2)) := wF.take _
  have lD : (dF.take (e + 2)).length = e + 2 := by rw [List.length_take]; omega
  generalize dF.take (e + 2) = ds at *
  have hg1 := oF.base
  have hs1 := hb1.size
  have hrD : Reads w1 w1.heap.size (some ⟨w.heap.size, 0, none⟩) (e + 2) (e + 2 + 1) ds := by
    obtain ⟨a, cap, hv, hr⟩ := Reads.own oD wD
    simp only [Value.slice.injEq] at hv
    obtain ⟨rfl, _, rfl⟩ := hv
    exact hr
  have HR2 := hid (raise_zero a n cap xs t w1 (HX.out.later hb1 hs1) (by omega) (by omega) s3)
  have HVD := hid hvd
  have HRD := hid hrD
  have HLDS := hid lD
  have HB1 := hid hb1
  clear oF wF hvF hlF hvd oD hrD lD hb1 HLD HR1 HX
  go_wp2_with fail
  refine Calls.mono HR2.out ?_
  rintro x w2 ⟨lf, rfl, oL, wL, hvL, hb2'⟩
  have hs2 := hb2'.size
  have hgL := oL.base
  have HVL := hid hvL
  have HOL := hid oL
  have HB2 := hid hb2'
  have hKi : ((n : Int) - ((e : Int) + 2) + 1) = (K : Int) := by omega
  clear hvL oL hb2' HR2
  go_wp2_with (at_make; refine wpList_make_full _ rfl _ _ 24 rfl w2.heap.size 94 i0 (.int .u32 0) 1 Tryz.underlying24 hi hz0 hz1 _ _ _ _ K rfl rfl (by omega) (by omega) (by rw [hz2]; omega) (by unfold maxLen; omega) (Nat.le_refl _) ?_)
  intro w3 hown hgrow
  have hbel3 : Below w2.heap.size w2 w3 := (Below.refl _ _).grown hgrow (Nat.le_refl _) (fun k hk => by simp at hk)
  have hs3 := hbel3.size
  have HOQ := hid (OwnW.made hown)
  have HB3 := hid hbel3
  have hgQ := (OwnW.made hown).base
  clear hown hgrow hbel3
  go_wp2_with fail
  go_loopw [9] (fun z wr => ∃ (k : Nat) (us qs : List Int), k ≤ K ∧ z = .int .i64 ((k : Int) - 1) ∧ Wd us ∧ Wd qs ∧ Hid (val lf = valTo us (k + (e + 2)) + segTo qs k (K - k) * val ds * 4294967296 ^ k) ∧ Hid (segTo us k (e + 2) < val ds) ∧
    OwnW wr w1.heap.size w1.heap.size (n + 1) us ∧ OwnW wr w2.heap.size w2.heap.size K qs ∧ Below w1.heap.size w1 wr) (fun z _ => (intOf z + 1).toNat)
  case atStart =>
    have hll := HOL.out.len
    have hKm : K + (e + 2) = n + 1 := by omega
    have hst := long_start (val lf) (val ds) n (e + 2) K (val xs) t s3 hK (by have := val_lt wx; rw [HN.out.1] at this; exact this) (val_nonneg wx) HVL.out (by rw [HVD.out]; exact HS5.out)
    refine ⟨K, lf, List.replicate K 0, Nat.le_refl _, rfl, wL, Wd.replicate _, ?_, ?_, owns_later HOL.out HB3.out, HOQ.out, HB2.out.trans (HB3.out.mono hs2)⟩
    · show _ = _
      rw [hKm, valTo_stable lf _ (by omega), Nat.sub_self]
      simp [segTo]
    · show _ < _
      have e1 : val lf = valTo lf K + segTo lf K (e + 2) * 4294967296 ^ K := by rw [← valTo_seg, hKm, valTo_stable lf _ (by omega)]
      have b := (valTo_bounds wL K).1
      exact Int.lt_of_mul_lt_mul_right (show segTo lf K (e + 2) * 4294967296 ^ K < val ds * 4294967296 ^ K by omega) (Int.le_of_lt (pw_pos K))
  case round =>
    obtain ⟨k, us, qs, hk, rfl, wu, wq, HV, HS, oU, oQ, hb⟩ := hrel
    have hbs := hb.size
    have hqb := oQ.base
    rcases k with _ | k
    · have oT : OwnC wr w1.heap.size w1.heap.size (e + 2) (n + 1) (us.take (e + 2)) := OwnC.take (cap := n + 1) oU (e + 2) (by omega)
      have hrT : Reads wr wr.heap.size (some ⟨w1.heap.size, 0, none⟩) (e + 2) (n + 1) (us.take (e + 2)) := by
        obtain ⟨a, cap, hv, hr⟩ := Reads.own oT (wu.take _)
        simp only [Value.slice.injEq] at hv
        obtain ⟨rfl, _, rfl⟩ := hv
        exact hr
      have hlu := oU.len
      have hlq := oQ.len
      have hvR : val (us.take (e + 2)) = valTo us (e + 2) := by
        unfold val
        rw [List.length_take, Nat.min_eq_left (by omega), valTo_congr (us.take (e + 2)) us _ (fun j hj => by rw [List.getElem?_take, if_pos hj])]
      have HF : Hid (val xs = val qs * val ys + val (us.take (e + 2)) / 2 ^ t ∧ val (us.take (e + 2)) / 2 ^ t < val ys) := by
        have e1 := HV.out
        have e2 := HS.out
        rw [segTo_zero] at e2
        rw [segTo_zero, Nat.zero_add, Nat.sub_zero, valTo_stable qs K (by omega), Int.pow_zero, Int.mul_one, HVL.out, HVD.out, ← hvR, ← Int.mul_assoc] at e1
        rw [← hvR, HVD.out] at e2
        have hp := two_pos t
        have e3 : val (us.take (e + 2)) = (val xs - val qs * val ys) * 2 ^ t := by rw [Int.sub_mul]; omega
        have e4 : val (us.take (e + 2)) / 2 ^ t = val xs - val qs * val ys := by rw [e3]; exact Int.mul_ediv_cancel _ (by omega)
        refine ⟨by rw [e4]; omega, Int.ediv_lt_of_lt_mul hp e2⟩
      have HLW := hid (lower_zero (some ⟨w1.heap.size, 0, none⟩) (e + 2) (n + 1) (us.take (e + 2)) t wr hrT (by omega) (by omega) s3)
      have HOQ' := hid oQ
      have HBW : Hid (Below w.heap.size w wr) := HB1.out.trans (hb.mono hs1)
      clear oT hrT hvR hlu HV HS oU oQ hb
      go_wp2_with fail
      refine Calls.mono HLW.out ?_
      rintro x w5 ⟨rs, rfl, oR, wR, hvR, hb5⟩
      have hs5 := hb5.size
      have oQ5 : OwnC w5 w2.heap.size w2.heap.size K K qs := owns_later HOQ'.out hb5
      have sq := sz_le qs
      rw [hlq] at sq
      have hlr := oR.len
      have sr := sz_le rs
      rw [hlr] at sr
      have hrQ : Reads w5.drew w5.heap.size (some ⟨w2.heap.size, 0, none⟩) K K qs := by
        obtain ⟨a, cap, hv, hr⟩ := Reads.own oQ5 wq
        simp only [Value.slice.injEq] at hv
        obtain ⟨rfl, _, rfl⟩ := hv
        exact hr
      have hrR : Reads w5.drew w5.heap.size (some ⟨wr.heap.size, 0, none⟩) (e + 2) (e + 2) rs := by
        obtain ⟨a, cap, hv, hr⟩ := Reads.own oR wR
        simp only [Value.slice.injEq] at hv
        obtain ⟨rfl, _, rfl⟩ := hv
        exact hr
      have HZ1 := hid (size_any _ _ _ qs _ w5.drew hrQ (by omega))
      have HZ2 := hid (size_any _ _ _ rs _ w5.drew hrR (by omega))
      have hbR := oR.base
      have HFIN : Hid (Divided w xs ys (.returned (.tuple #[.slice (some ⟨w2.heap.size, 0, none⟩) (sz qs) K, .slice (some ⟨wr.heap.size, 0, none⟩) (sz rs) (e + 2)])) w5.drew) := by
        have hbd : Below w5.heap.size w5 w5.drew := (Below.refl _ w5).drew
        refine ⟨_, _, trimmed qs, trimmed rs, wr.heap.size, rfl, ?_, ?_, ?_, ?_, by omega, by show wr.heap.size ≤ w5.heap.size; omega, wq.trimmed, wR.trimmed, Trimmed.trimmed _, Trimmed.trimmed _, ?_, ?_, HBW.out.trans ((hb5.mono (by omega)).trans (hbd.mono (by omega)))⟩
        · rw [length_trimmed]
          have o1 : w5.ownsRow w2.heap.size 94 1 (.slice (some ⟨w2.heap.size, 0, none⟩) (sz qs) K) (sz qs) ((trimmed qs).map (Value.int .u32)) := OwnC.take oQ5 (sz qs) sq
          exact owns_base (owns_later o1 hbd) (by omega)
        · rw [length_trimmed]
          have o1 : w5.ownsRow wr.heap.size 94 1 (.slice (some ⟨wr.heap.size, 0, none⟩) (sz rs) (e + 2)) (sz rs) ((trimmed rs).map (Value.int .u32)) := OwnC.take (cap := e + 2) oR (sz rs) sr
          exact owns_base (owns_later o1 hbd) (by omega)
        · intro g hg; simp [Value.ownBlock] at hg; omega
        · intro g hg; simp [Value.ownBlock] at hg; show _ ∧ g < w5.heap.size; omega
        · rw [val_trimmed, val_trimmed, hvR]; exact HF.out.1
        · rw [val_trimmed, hvR]; exact HF.out.2
      clear oR oQ5 hrQ hrR hvR hb5 hlr hlq HF HLW
      go_wp2_with fail
      go_region_with (first | (go_at_call 111; with_reducible refine Calls.mono HZ1.out ?_; rintro e w' ⟨rfl, rfl⟩) | (go_at_call 111; with_reducible refine Calls.mono HZ2.out ?_; rintro e w' ⟨rfl, rfl⟩))
      all_goals
        go_wp2
        go_ret2
        exact HFIN.out
    · have ek : (((k + 1 : Nat) : Int) - 1) = (k : Int) := by omega
      rw [ek]
      clear ek
      have bu := wu.at k
      have hseg : segTo us k (e + 3) = us[k]?.getD 0 + segTo us (k + 1) (e + 2) * 4294967296 := segTo_cons us (e + 2) k
      have hLD : segTo us k (e + 3) < 4294967296 * val ds := by rw [hseg]; have := HS.out; omega
      have HNW := hid (nextWord_any w1.heap.size w1.heap.size (n + 1) k e _ us (some ⟨w.heap.size, 0, none⟩) (e + 2 + 1) ds wr oU wu (by omega) rfl (by omega) (HRD.out.later hb (Nat.le_refl _)) (top_one wD e HLDS.out (by rw [HVD.out]; exact HS5.out)) hLD)
      have HOQ' := hid oQ
      have HB' := hid hb
      have hne : ¬ n + 1 = k := by omega
      clear hLD hseg bu oU oQ hb
      go_wp2_with fail
      rw [show k + (e + 2) + 1 - k = e + 2 + 1 by omega]
      refine Calls.mono HNW.out ?_
      rintro x w6 ⟨q, vs, rfl, q0, q1, oV, wv, kv, hsv, hlv, hg6⟩
      have oQ6 : OwnW w6 w2.heap.size w2.heap.size K qs := World.ownsRow.kept HOQ'.out hg6 (by right; intro e; simp [Value.ownBlock] at e; omega)
      have y1 := oQ6.cell k (by omega)
      have f1 := oQ6.free k
      have hlq := oQ6.len
      have hsv' : segTo vs k (e + 2 + 1) = segTo us k (e + 2 + 1) - q * val ds := hsv
      have hlv' : segTo vs k (e + 2 + 1) < val ds := hlv
      have hst := long_step us vs qs (e + 2) K k (val lf) (val ds) q (by omega) hlq wv (by rw [HVD.out]; exact HS4.out) HV.out (fun j hj => kv j (.inl hj)) hsv' hlv'
      have HST1 := hid hst.1
      have HST2 := hid hst.2
      have hos := OwnC.set (cap := K) oQ6 k q
      have HOQ2 : Hid (OwnW (w6.setCell ⟨w2.heap.size, k, none⟩ (.int .u32 q)) w2.heap.size w2.heap.size K (qs.set k q)) := hos.1
      have HOU : Hid (OwnW (w6.setCell ⟨w2.heap.size, k, none⟩ (.int .u32 q)) w1.heap.size w1.heap.size (n + 1) vs) := World.ownsRow.kept oV hos.2 (by right; intro e; simp [Value.ownBlock] at e; omega)
      have hb6 : Below w1.heap.size wr w6 := (Below.refl _ _).grown hg6 hbs (fun k hk => by simp at hk; omega)
      have HB6 : Hid (Below w1.heap.size w1 (w6.setCell ⟨w2.heap.size, k, none⟩ (.int .u32 q))) := (HB'.out.trans hb6).setCell (p := ⟨w2.heap.size, k, none⟩) hs2 (.int .u32 q)
      clear oQ6 hlq hsv hlv hsv' hlv' hst hos hb6 hg6 oV kv HNW HOQ' HB' HV HS
      go_wp2_with fail
      go_roundw
      case rel => exact ⟨k, vs, qs.set k q, by omega, by go_num, wv, wq.set _ ⟨q0, q1⟩, HST1, HST2, HOU.out, HOQ2.out, HB6.out⟩
      case measure => simp [intOf]
end Go.Proofs.YtldeiapikkebgaaGreatDoor

/- nat.divide, nat.DivMod: of every two numbers quotient and rest, in new memory; nat.Shift by any number. -/
namespace Go.Proofs.YtldeiapikkebgaaGreatDoor
open Go.RowKit
set_option linter.unusedVariables false

theorem len_le_of_val {xs ys : List Int} (wx : Wd xs) (wy : Wd ys) (ty : Trimmed ys) (h : val ys ≤ val xs) : ys.length ≤ xs.length := len_of_lt wy ty (by have := val_lt wx; omega)

set_option maxHeartbeats 800000 in
set_option maxRecDepth 100000 in
theorem divide_long (v u : Value) (xs ys : List Int) (e : Nat) (w : World) (h : Sl w v xs) (g : Sl w u ys) (hn : xs.length ≤ 8192) (hx : Trimmed xs) (hy : Trimmed ys) (hl : ys.length = e + 2) (hge : val ys ≤ val xs) :
    Calls Tryz.prog 178 #[v, u] w (Divided w xs ys) := by
  have hle := len_le_of_val h.wd g.wd hy hge
  have hci : 0 ≤ cmpI (val xs) (val ys) := by unfold cmpI; rw [if_neg (by omega)]; split <;> omega
  have CC := hid (compare_sl v u xs ys w h g (by omega) (by omega))
  obtain ⟨c, hc⟩ : ∃ c, cmpI (val xs) (val ys) = c := ⟨_, rfl⟩
  rw [hc] at CC hci
  have HD : Hid (∀ w1, Below w.heap.size w w1 → Calls Tryz.prog 184 #[v, u] w1 (Divided w1 xs ys)) := fun w1 hb => divideLong_any v u xs ys e w1 (h.later hb) (g.later hb) hn hx hy hl hle
  obtain ⟨b, cap', rfl, gr⟩ := g
  have h1 : ((ys.length : Int) == 1) = false := by simp; omega
  clear hc gr h hl hge
  go_enter Tryz.func178, Tryz.ntmps178
  go_wp2_with fail
  refine Calls.mono CC.out ?_
  rintro x w1 ⟨rfl, hb1⟩
  have HDD := hid (HD.out w1 hb1)
  have hs1 := hb1.size
  go_wp2_with fail
  refine Calls.mono HDD.out ?_
  rintro x w2 ⟨v1, u1, q, r, c, rfl, oq, orr, lq, lr, c1, c2, wq, wr, tq, tr, hv, hlt, hb2⟩
  have HF : Hid (Divided w xs ys (.returned (.tuple #[v1, u1])) w2) := ⟨v1, u1, q, r, c, rfl, owns_base oq hs1, owns_base orr hs1, fun g hg => by have := lq g hg; omega, lr, by omega, c2, wq, wr, tq, tr, hv, hlt, hb1.trans (hb2.mono hs1)⟩
  clear oq orr hv hlt hb2 HDD
  go_wp2_with fail
  go_ret2
  exact HF.out

theorem divide_any (v u : Value) (xs ys : List Int) (w : World) (h : Sl w v xs) (g : Sl w u ys) (hn : xs.length ≤ 8192) (hm : ys.length ≤ 8192) (hx : Trimmed xs) (hy : Trimmed ys) (h0 : 0 < ys.length) :
    Calls Tryz.prog 178 #[v, u] w (Divided w xs ys) := by
  by_cases hlt : val xs < val ys
  · exact divide_less v u xs ys w h g hn hm hlt
  · by_cases h1 : ys.length = 1
    · obtain ⟨y, rfl⟩ := List.length_eq_one_iff.1 h1
      have hy1 : 1 ≤ y := by
        have b := g.wd.head
        by_cases c : y = 0
        · rw [c] at hy; simp [Trimmed, sz, szTo] at hy
        · omega
      exact divide_word v u xs y w h g hn hx hy1 (by rw [val_one] at hlt; omega)
    · exact divide_long v u xs ys (ys.length - 2) w h g hn hx hy (by omega) (by omega)

end Go.Proofs.YtldeiapikkebgaaGreatDoor

/- nat.smallDivisor: the greatest common divisor where the second number has at most two words, in new memory. -/
namespace Go.Proofs.YtldeiapikkebgaaGreatDoor
open Go.RowKit
set_option linter.unusedVariables false

def gcdI (x y : Int) : Int := (Int.gcd x y : Int)
theorem gcdI_zero (x : Int) (h : 0 ≤ x) : gcdI x 0 = x := by unfold gcdI; rw [Int.gcd_zero_right]; omega
theorem gcdI_comm (x y : Int) : gcdI x y = gcdI y x := by unfold gcdI; rw [Int.gcd_comm]
theorem gcdI_mod (x y : Int) : gcdI x y = gcdI y (x % y) := by
  unfold gcdI
  congr 1
  have e := Int.mul_ediv_add_emod x y
  have h : Int.gcd y x = Int.gcd y (x % y) := by
    have h2 : Int.gcd y (x / y * y + x % y) = Int.gcd y (x % y) := Int.gcd_mul_right_add_right y (x % y) (x / y)
    rw [Int.mul_comm, e] at h2
    exact h2
  rw [Int.gcd_comm, h]
theorem gcdI_rest {x y q r : Int} (h : x = q * y + r) : gcdI x y = gcdI y r := by
  unfold gcdI
  congr 1
  rw [Int.gcd_comm, h]
  exact Int.gcd_mul_right_add_right y r q

def Told1 (w : World) (t : Int) (x : Ending) (w' : World) : Prop := ∃ v zs, x = .returned v ∧ w'.ownsRow w.heap.size 94 1 v zs.length (zs.map (Value.int .u32)) ∧ Wd zs ∧ Trimmed zs ∧ val zs = t ∧ Below w.heap.size w w'

theorem val_le2 {ys : List Int} (hw : Wd ys) (h : ys.length ≤ 2) : val ys ≤ 18446744073709551615 := by
  have h1 := val_lt hw
  have h2 : (4294967296 : Int) ^ ys.length ≤ 4294967296 ^ 2 := pw_le h
  omega
theorem u64of_eq {ys : List Int} (h : ys.length ≤ 2) : u64of ys = val ys := by
  unfold u64of
  rw [if_pos (by have := sz_le ys; omega)]

set_option maxHeartbeats 1600000 in
set_option maxRecDepth 100000 in
theorem smallDivisor_any (v u : Value) (xs ys : List Int) (w : World) (h : Sl w v xs) (g : Sl w u ys) (hn : xs.length ≤ 8192) (hx : Trimmed xs) (hy : Trimmed ys) (hl : ys.length ≤ 2) :
    Calls Tryz.prog 165 #[v, u] w (Told1 w (gcdI (val xs) (val ys))) := by
  have wx := h.wd
  have wy := g.wd
  by_cases h0 : ys.length = 0
  · have hz : ys = [] := List.eq_nil_of_length_eq_zero h0
    subst hz
    have HT := hid (trim_sl v xs w h (by omega))
    rw [show sz xs = xs.length from hx, trimmed_of hx] at HT
    have HG : Hid (val xs = gcdI (val xs) (val [])) := by show _ = _; rw [val_nil, gcdI_zero _ (val_nonneg wx)]
    obtain ⟨b, cap', rfl, gr⟩ := g
    clear h gr h0
    go_enter Tryz.func165, Tryz.ntmps165
    go_wp2_with fail
    refine Calls.mono HT.out ?_
    rintro e w1 ⟨v1, rfl, o1, hb⟩
    have HO := hid o1
    clear o1
    go_wp2_with fail
    go_ret
    exact ⟨v1, xs, rfl, HO.out, wx, hx, HG.out, hb⟩
  · have HD := hid (divide_any v u xs ys w h g hn (by omega) hx hy (by omega))
    have HGS := hid g
    obtain ⟨b, cap', rfl, gr⟩ := g
    have hz : ((ys.length : Int) == 0) = false := by simp; exact fun e => h0 (by rw [e]; rfl)
    clear h gr h0
    go_enter Tryz.func165, Tryz.ntmps165
    go_wp2_with fail
    refine Calls.mono HD.out ?_
    rintro e w1 ⟨v1, u1, q, r, c, rfl, oq, orr, _, _, _, _, wq, wR, tq, tr, hv, hlt, hb⟩
    have sR := Sl.own orr wR
    have lr : r.length ≤ 2 := len_of_lt wR tr (by have h1 := val_lt wy; have h2 : (4294967296 : Int) ^ ys.length ≤ 4294967296 ^ 2 := pw_le hl; omega)
    have HU1 := hid (uint64_sl _ ys w1 (HGS.out.later hb) (by omega))
    rw [u64of_eq hl] at HU1
    have HGG := hid (gcdI_rest hv)
    have HSR := hid sR
    have py := val_le2 wy hl
    have pr := val_le2 wR lr
    have py0 := val_nonneg wy
    have pr0 := val_nonneg wR
    obtain ⟨Y, hY⟩ : ∃ Y, val ys = Y := ⟨_, rfl⟩
    obtain ⟨R, hR⟩ : ∃ R, val r = R := ⟨_, rfl⟩
    rw [hY] at HU1 HGG py py0 ⊢
    rw [hR] at HGG pr pr0
    have HR := hid hR
    have HY := hid hY
    clear oq orr hv hlt sR HD HGS hY hR
    go_wp2_with fail
    refine Calls.mono HU1.out ?_
    rintro e w2 ⟨rfl, hb2⟩
    have HU2 := hid (uint64_sl _ r w2 (HSR.out.later hb2) (by omega))
    rw [u64of_eq lr, HR.out] at HU2
    have hb3 := bt hb hb2
    clear hb hb2 HU1 HSR
    go_wp2_with fail
    refine Calls.mono HU2.out ?_
    rintro e w3 ⟨rfl, hb2⟩
    have hb := bt hb3 hb2
    clear hb3 hb2 HU2
    go_wp2_with fail
    go_loopw [7, 9] (fun c d ww => ∃ (p q : Int), c = .int .u64 p ∧ d = .int .u64 q ∧ 0 ≤ p ∧ p ≤ 18446744073709551615 ∧ 0 ≤ q ∧ q ≤ 18446744073709551615 ∧ Hid (gcdI p q = gcdI (val xs) Y) ∧ Below w.heap.size w ww) (fun _ d _ => (intOf d).toNat)
    case atStart => exact ⟨Y, R, rfl, rfl, py0, py, pr0, pr, HGG.out.symm, hb⟩
    case round =>
      obtain ⟨p, q, rfl, rfl, p0, p1, q0, q1, HG, hbw⟩ := hrel
      by_cases hq : q = 0
      · subst hq
        have HF : Hid (p = gcdI (val xs) Y) := by show _ = _; rw [← HG.out, gcdI_zero p p0]
        have HOF := hid (of_any p wr p0 p1)
        go_wp2_with fail
        refine Calls.mono HOF.out ?_
        rintro e w4 ⟨v4, rfl, o4, hb4⟩
        have HO := hid (owns_base (owns_len o4) hbw.size)
        have hb5 := bt hbw hb4
        clear o4 hb4 HOF
        go_wp2_with fail
        go_ret
        exact ⟨v4, _, rfl, HO.out, (of_wd p p0 p1).trimmed, Trimmed.trimmed _, by rw [val_trimmed, val_two, HY.out, ← HF.out]; omega, hb5⟩
      · have hne : (q != 0) = true := by simp [hq]
        have m0 : 0 ≤ p % q := Int.emod_nonneg _ hq
        have m1 : p % q < q := Int.emod_lt_of_pos _ (by omega)
        have HG' : Hid (gcdI q (p % q) = gcdI (val xs) Y) := by show _ = _; rw [← gcdI_mod]; exact HG.out
        go_wp2_with fail
        go_quiet (fail)
        go_wp2_with fail
        go_roundw
        case rel => exact ⟨q, p % q, rfl, by go_num, q0, q1, m0, by omega, HG', bdn hbw _⟩
        case measure => simp [intOf]; omega
end Go.Proofs.YtldeiapikkebgaaGreatDoor

/- Fractions as plain arithmetic: numerator over denominator with nothing in common; sums and products as they are worked with what is in common taken out first. Nothing here speaks of the program. -/
namespace Go.Proofs.YtldeiapikkebgaaGreatDoor
open Go.RowKit

theorem gcd1 {x y : Int} : gcdI x y = 1 ↔ Int.gcd x y = 1 := by unfold gcdI; omega
theorem q_parts {a b x y g : Int} (hg : g = gcdI a b) (h0 : 0 < g) (hx : a = x * g) (hy : b = y * g) : gcdI x y = 1 := by
  have e : gcdI (x * g) (y * g) = gcdI x y * g := by
    show ((Int.gcd (x * g) (y * g) : Nat) : Int) = (Int.gcd x y : Int) * g
    rw [Int.gcd_mul_right, Int.natCast_mul]
    congr 1
    omega
  rw [← hx, ← hy, ← hg] at e
  have e2 : g * 1 = g * gcdI x y := by rw [Int.mul_one, Int.mul_comm]; exact e
  exact (Int.eq_of_mul_eq_mul_left (by omega) e2).symm

theorem fr_num {x d : Int} (hd : 0 < d) (h : gcdI x d = 1) : (Rat.divInt x d).num = x ∧ ((Rat.divInt x d).den : Int) = d := by
  have h1 : Int.gcd d x = 1 := by rw [Int.gcd_comm]; exact gcd1.1 h
  constructor
  · rw [Rat.num_divInt, h1, Int.sign_eq_one_of_pos hd]; simp
  · rw [Rat.den_divInt, h1, if_neg (by omega)]; simp; omega
theorem fr_inj {x d y e : Int} (hd : 0 < d) (h : gcdI x d = 1) (he : 0 < e) (g : gcdI y e = 1) (hq : Rat.divInt x d = Rat.divInt y e) : x = y ∧ d = e := by
  obtain ⟨a1, a2⟩ := fr_num hd h
  obtain ⟨b1, b2⟩ := fr_num he g
  exact ⟨by rw [← a1, ← b1, hq], by rw [← a2, ← b2, hq]⟩
theorem pos_left {x y : Int} (h : 0 < x * y) (hy : 0 < y) : 0 < x := by
  rcases Int.lt_trichotomy x 0 with h1 | h1 | h1
  · have := Int.mul_neg_of_neg_of_pos h1 hy; omega
  · subst h1; simp at h
  · exact h1
theorem fr_make {x d g p e : Int} (hd : 0 < d) (hg : g = gcdI x d) (hp : x = p * g) (he : d = e * g) : 0 < e ∧ gcdI p e = 1 ∧ Rat.divInt p e = Rat.divInt x d := by
  have hg0 : 0 < g := by
    have : 0 < Int.gcd x d := Int.gcd_pos_iff.2 (Or.inr (by omega))
    rw [hg]; unfold gcdI; omega
  have e0 : 0 < e := pos_left (by omega) hg0
  refine ⟨e0, q_parts hg hg0 hp he, ?_⟩
  rw [Rat.divInt_eq_divInt_iff (by omega) (by omega), hp, he]
  grind
end Go.Proofs.YtldeiapikkebgaaGreatDoor

/- nat.leap: one more of Euclid's steps, and whether it holds. -/
namespace Go.Proofs.YtldeiapikkebgaaGreatDoor
open Go.RowKit
set_option linter.unusedVariables false

set_option maxHeartbeats 400000 in
set_option maxRecDepth 100000 in
theorem sizeOf_any (x : Int) (w : World) (h0 : -4611686018427387904 ≤ x) (h1 : x ≤ 4611686018427387904) :
    Calls Tryz.prog 183 #[.int .i64 x] w fun e w' => e = .returned (.int .i64 (x.natAbs : Int)) ∧ w = w' := by
  by_cases h : x < 0
  · go_enter Tryz.func183, Tryz.ntmps183
    go_wp2_with fail
    go_ret
    exact ⟨ret_int (by omega), rfl⟩
  · go_enter Tryz.func183, Tryz.ntmps183
    go_wp2_with fail
    go_ret
    exact ⟨ret_int (by omega), rfl⟩

set_option maxHeartbeats 800000 in
set_option maxRecDepth 100000 in
theorem step_any (s a b c d q : Int) (w : World) (hs : 0 ≤ s ∧ s ≤ 4611686018427387904) (h1 : IntKind.i64.wrap (q * c) = q * c) (h2 : IntKind.i64.wrap (q * d) = q * d) (h3 : IntKind.i64.wrap (a - q * c) = a - q * c) (h4 : IntKind.i64.wrap (b - q * d) = b - q * d) :
    Calls Tryz.prog 176 #[.agg #[.int .i64 s, .int .i64 a, .int .i64 b, .int .i64 c, .int .i64 d], .int .i64 q] w fun e w' => e = .returned (.agg #[.int .i64 (s + 1), .int .i64 c, .int .i64 d, .int .i64 (a - q * c), .int .i64 (b - q * d)]) ∧ Below w.heap.size w w' := by
  go_enter Tryz.func176, Tryz.ntmps176
  go_wp2_with fail
  go_returns
  exact ⟨rfl, bt (alloc_later _ _) (alloc_later _ _)⟩

set_option maxHeartbeats 800000 in
set_option maxRecDepth 100000 in
theorem holds_any (s a b c d p q : Int) (w : World) (hb : -4611686018427387904 ≤ b ∧ b ≤ 4611686018427387904) (hd : -4611686018427387904 ≤ d ∧ d ≤ 4611686018427387904) (hp : 0 ≤ p ∧ p ≤ 4611686018427387904) (hq : 0 ≤ q ∧ q ≤ 4611686018427387904)
    (hsum : (b.natAbs : Int) + (d.natAbs : Int) ≤ 9223372036854775807) :
    Calls Tryz.prog 177 #[.agg #[.int .i64 s, .int .i64 a, .int .i64 b, .int .i64 c, .int .i64 d], .int .i64 p, .int .i64 q] w fun e w' => e = .returned (.bool (decide ((d.natAbs : Int) ≤ q ∧ (b.natAbs : Int) + (d.natAbs : Int) ≤ p - q))) ∧ Below w.heap.size w w' := by
  have HB := hid (fun ww => Calls.mono (sizeOf_any b ww hb.1 hb.2) (R' := fun e w' => e = .returned (.int .i64 (b.natAbs : Int)) ∧ w' = ww) (fun _ _ h => ⟨h.1, h.2.symm⟩))
  have HD := hid (fun ww => Calls.mono (sizeOf_any d ww hd.1 hd.2) (R' := fun e w' => e = .returned (.int .i64 (d.natAbs : Int)) ∧ w' = ww) (fun _ _ h => ⟨h.1, h.2.symm⟩))
  have f0 : 0 ≤ (b.natAbs : Int) := by omega
  have s0 : 0 ≤ (d.natAbs : Int) := by omega
  obtain ⟨F, hF⟩ : ∃ F : Int, (b.natAbs : Int) = F := ⟨_, rfl⟩
  obtain ⟨S, hS⟩ : ∃ S : Int, (d.natAbs : Int) = S := ⟨_, rfl⟩
  rw [hF] at HB f0 hsum ⊢
  rw [hS] at HD s0 hsum ⊢
  clear hF hS hb hd
  by_cases c1 : S ≤ q
  · by_cases c2 : F + S ≤ p - q
    · have HR : Hid (decide (S ≤ q ∧ F + S ≤ p - q) = true) := decide_eq_true ⟨c1, c2⟩
      go_enter Tryz.func177, Tryz.ntmps177
      go_wp2_with fail
      go_quiet ((go_at_call 183; first | exact Calls.quiet_of_same (HB.out _) | exact Calls.quiet_of_same (HD.out _)))
      go_wp2_with fail
      go_returns
      exact ⟨ret_bool (by first | exact HR.out.symm | (simp; omega)), bdn (alloc_later _ _) _⟩
    · have HR : Hid (decide (S ≤ q ∧ F + S ≤ p - q) = false) := decide_eq_false (fun h => c2 h.2)
      go_enter Tryz.func177, Tryz.ntmps177
      go_wp2_with fail
      go_quiet ((go_at_call 183; first | exact Calls.quiet_of_same (HB.out _) | exact Calls.quiet_of_same (HD.out _)))
      go_wp2_with fail
      go_returns
      exact ⟨ret_bool (by first | exact HR.out.symm | (simp; omega)), bdn (alloc_later _ _) _⟩
  · have HR : Hid (decide (S ≤ q ∧ F + S ≤ p - q) = false) := decide_eq_false (fun h => c1 h.1)
    go_enter Tryz.func177, Tryz.ntmps177
    go_wp2_with fail
    go_quiet ((go_at_call 183; first | exact Calls.quiet_of_same (HB.out _) | exact Calls.quiet_of_same (HD.out _)))
    go_wp2_with fail
    go_returns
    exact ⟨ret_bool (by first | exact HR.out.symm | (simp; omega)), bdn (alloc_later _ _) _⟩
end Go.Proofs.YtldeiapikkebgaaGreatDoor

/- nat.highest: the highest 62 bits of three words or more, moved up by the first one's noughts. -/
namespace Go.Proofs.YtldeiapikkebgaaGreatDoor
open Go.RowKit
set_option linter.unusedVariables false

theorem val_three (xs : List Int) (e : Nat) (h : xs.length = e + 3) : val xs = valTo xs e + (xs[e]?.getD 0 + (xs[e + 1]?.getD 0 + xs[e + 2]?.getD 0 * 4294967296) * 4294967296) * 4294967296 ^ e := by
  have := seg_three xs 0 e
  rw [segTo_zero, segTo_zero] at this
  simp only [Nat.zero_add] at this
  unfold val
  rw [h]
  exact this
theorem high_value (h2 h1 h0 : Int) (s : Nat) (hs : s ≤ 31) (b0 : 0 ≤ h0) : ((h1 + h2 * 4294967296) * 2 ^ s + h0 / 2 ^ (32 - s)) / 4 = (h0 + (h1 + h2 * 4294967296) * 4294967296) / 2 ^ (34 - s) := by
  have p := two_pos (32 - s)
  have e1 : (2 : Int) ^ (34 - s) = 2 ^ (32 - s) * 4 := by rw [show 34 - s = (32 - s) + 2 by omega, Int.pow_add]; rfl
  have e2 : (4294967296 : Int) = 2 ^ s * 2 ^ (32 - s) := two_split s (by omega)
  have e3 : (h0 + (h1 + h2 * 4294967296) * 4294967296) / 2 ^ (32 - s) = (h1 + h2 * 4294967296) * 2 ^ s + h0 / 2 ^ (32 - s) := by
    have : (h1 + h2 * 4294967296) * 4294967296 = (h1 + h2 * 4294967296) * 2 ^ s * 2 ^ (32 - s) := by rw [Int.mul_assoc, ← e2]
    rw [this, Int.add_mul_ediv_right _ _ (by omega)]
    omega
  rw [e1, ← Int.ediv_ediv_of_nonneg (by omega), e3]

theorem or_shl (c x : Int) (t : Nat) (c0 : 0 ≤ c) (c1 : c < 2 ^ t) (x0 : 0 ≤ x) (hp : x * 2 ^ t + c ≤ 18446744073709551615) : bits BinOp.or IntKind.u64 (x * 2 ^ t) c = x * 2 ^ t + c := by
  have h1 := two_pos t
  have h3 : 0 ≤ x * 2 ^ t := Int.mul_nonneg x0 (Int.le_of_lt h1)
  obtain ⟨C, rfl⟩ := Int.eq_ofNat_of_zero_le c0
  obtain ⟨X, rfl⟩ := Int.eq_ofNat_of_zero_le x0
  have e1 : (X : Int) * 2 ^ t = ((X * 2 ^ t : Nat) : Int) := by rw [Int.natCast_mul, Int.natCast_pow]; rfl
  have e2 : ((2 ^ t : Nat) : Int) = 2 ^ t := by rw [Int.natCast_pow]; rfl
  rw [e1] at hp ⊢
  rw [← e2] at c1
  rw [u64_or _ _ (by omega) (by omega) (by omega) (by omega), Int.toNat_natCast, Int.toNat_natCast, nat_join t _ _ (Nat.mul_mod_left _ _) (Int.ofNat_lt.1 c1)]
  omega

set_option maxHeartbeats 800000 in
set_option maxRecDepth 100000 in
theorem highest_any (a : Option Addr) (e cap : Nat) (xs : List Int) (s : Nat) (w : World) (h : Reads w w.heap.size a (e + 3) cap xs) (hn : e ≤ 8192) (hs : s ≤ 31) (hfit : xs[e + 2]?.getD 0 * 2 ^ s < 4294967296) :
    Calls Tryz.prog 175 #[.slice a (e + 3) cap, .int .i64 s] w fun x w' => x = .returned (.int .i64 (val xs / 4294967296 ^ e / 2 ^ (34 - s))) ∧ 0 ≤ val xs / 4294967296 ^ e / 2 ^ (34 - s) ∧ val xs / 4294967296 ^ e / 2 ^ (34 - s) < 4611686018427387904 ∧ Below w.heap.size w w' := by
  rcases h.2.2.1 with h0 | ⟨b2, o2, rfl, hb2, hc2⟩
  · omega
  · have hwz := h.2.1
    have c2 := hc2 (e + 2) (by omega)
    have c1 := hc2 (e + 1) (by omega)
    have c0 := hc2 e (by omega)
    have b2' := hwz.at (e + 2)
    have b1' := hwz.at (e + 1)
    have b0' := hwz.at e
    have hv := val_three xs e h.1
    have vb := valTo_bounds hwz e
    have hT : val xs / 4294967296 ^ e = xs[e]?.getD 0 + (xs[e + 1]?.getD 0 + xs[e + 2]?.getD 0 * 4294967296) * 4294967296 := by
      rw [hv, Int.add_mul_ediv_right _ _ (by have := pw_pos e; omega), Int.ediv_eq_zero_of_lt vb.1 vb.2]
      omega
    rw [hT]
    generalize xs[e + 2]?.getD 0 = H2 at *
    generalize xs[e + 1]?.getD 0 = H1 at *
    generalize xs[e]?.getD 0 = H0 at *
    rw [← high_value H2 H1 H0 s hs b0'.1]
    obtain ⟨t, ht⟩ : ∃ t, t = H1 + H2 * 4294967296 := ⟨_, rfl⟩
    have hor : bits BinOp.or IntKind.u64 (H2 * 4294967296) H1 = t := by rw [or_join H2 _ b2'.1 b2'.2 b1'.1 b1'.2, ht]
    rw [← ht]
    have ps := two_pos s
    have pr := two_pos (32 - s)
    have t0 : 0 ≤ t := by omega
    obtain ⟨r, hr⟩ : ∃ r : Nat, r = 32 - s := ⟨_, rfl⟩
    have hri : (32 : Int) - (s : Int) = (r : Int) := by omega
    have e2 : (4294967296 : Int) = 2 ^ s * 2 ^ r := by rw [hr]; exact two_split s (by omega)
    rw [← hr] at pr ⊢
    have hH : H2 + 1 ≤ 2 ^ r := Int.lt_of_mul_lt_mul_left (show 2 ^ s * H2 < 2 ^ s * 2 ^ r by rw [← e2, Int.mul_comm]; exact hfit) (by omega)
    have hts : (t + 1) * 2 ^ s ≤ 18446744073709551616 := by
      have a1 : (t + 1) * 2 ^ s ≤ (H2 + 1) * 4294967296 * 2 ^ s := Int.mul_le_mul_of_nonneg_right (by omega) (by omega)
      have a2 : (H2 + 1) * 2 ^ s ≤ 2 ^ r * 2 ^ s := Int.mul_le_mul_of_nonneg_right hH (by omega)
      rw [Int.mul_comm (2 ^ r), ← e2] at a2
      rw [Int.mul_assoc, Int.mul_comm 4294967296, ← Int.mul_assoc] at a1
      omega
    rw [Int.add_mul, Int.one_mul] at hts
    have k0 : 0 ≤ H0 / 2 ^ r := Int.ediv_nonneg b0'.1 (by omega)
    have k1 : H0 / 2 ^ r < 2 ^ s := Int.ediv_lt_of_lt_mul pr (by rw [← e2]; omega)
    have m0 : 0 ≤ t * 2 ^ s := Int.mul_nonneg t0 (by omega)
    have hor2 := or_shl (H0 / 2 ^ r) t s k0 k1 t0 (by omega)
    obtain ⟨k, hk⟩ : ∃ k, H0 / 2 ^ r = k := ⟨_, rfl⟩
    obtain ⟨m, hm⟩ : ∃ m, t * 2 ^ s = m := ⟨_, rfl⟩
    rw [hk] at k0 k1 hor2 ⊢
    rw [hm] at m0 hts hor2 ⊢
    obtain ⟨u, hu⟩ : ∃ u, m + k = u := ⟨_, rfl⟩
    rw [hu] at hor2 ⊢
    have u0 : 0 ≤ u := by omega
    have u1 : u ≤ 18446744073709551615 := by omega
    have m1 : m ≤ 18446744073709551615 := by omega
    have t1 : t ≤ 18446744073709551615 := by omega
    have HPS := hid ps
    clear hc2 h hv vb hT hfit e2 hH hr hu hts k1 ps pr ht
    go_enter Tryz.func175, Tryz.ntmps175
    go_wp2_with fail
    go_quiet (fail)
    go_wp2_with fail
    go_quiet (fail)
    go_wp2_with fail
    go_ret
    exact ⟨ret_int (by omega), by omega, by omega, by first | exact bdn (Below.refl _ _) _ | exact bdn (bdn (Below.refl _ _) _) _⟩
end Go.Proofs.YtldeiapikkebgaaGreatDoor

/- A struct's memory: a block of its cells. -/
namespace Go.Proofs.YtldeiapikkebgaaGreatDoor
open Go.RowKit
set_option linter.unusedVariables false

def Box (w : World) (b t : Nat) (vs : Array Value) : Prop := w.heap[b]? = some (.cells vs t (0, 0))
theorem Box.cell {w : World} {b t : Nat} {vs : Array Value} (h : Box w b t vs) (j : Nat) : w.cell? ⟨b, j, none⟩ = vs[j]? := by
  unfold Box at h
  simp [World.cell?, h]
theorem Box.free {w : World} {b t : Nat} {vs : Array Value} (h : Box w b t vs) (j : Nat) : w.frozen? ⟨b, j, none⟩ = false := by
  unfold Box at h
  simp [World.frozen?, h]
theorem Box.later {w w' : World} {B b t : Nat} {vs : Array Value} (h : Box w b t vs) (hb : Below B w w') (hlt : b < B) : Box w' b t vs := by
  unfold Box at *
  rw [hb.block b hlt]; exact h
theorem Box.lt {w : World} {b t : Nat} {vs : Array Value} (h : Box w b t vs) : b < w.heap.size := by
  unfold Box at h
  have : w.heap[b]?.isSome := by rw [h]; rfl
  simpa using this
theorem Box.made (w : World) (t : Nat) (vs : Array Value) : Box (w.alloc (.cells vs t)) w.heap.size t vs := by
  unfold Box
  show (w.heap.push _)[w.heap.size]? = _
  rw [Array.getElem?_push, if_pos rfl]
theorem Box.other {w : World} {b t : Nat} {vs : Array Value} (h : Box w b t vs) (p : Addr) (v : Value) (hne : b ≠ p.block) : Box (w.setCell p v) b t vs := by
  unfold Box at *
  rw [Below.heap_setCell w p v b hne]; exact h
theorem Box.drewN {w : World} {b t : Nat} {vs : Array Value} (h : Box w b t vs) (n : Nat) : Box (w.drewN n) b t vs := h
theorem Box.set {w : World} {b t : Nat} {vs : Array Value} (h : Box w b t vs) (j : Nat) (v : Value) : Box (w.setCell ⟨b, j, none⟩ v) b t (vs.setIfInBounds j v) := by
  unfold Box at *
  simp only [World.setCell, Array.getElem?_modify, if_pos, h]
  simp
end Go.Proofs.YtldeiapikkebgaaGreatDoor

/- (nat.leap).apply: two numbers in own memory become two sums of multiples of them. -/
namespace Go.Proofs.YtldeiapikkebgaaGreatDoor
open Go.RowKit
set_option linter.unusedVariables false

theorem OwnC.drewN {w : World} {base g n cap : Nat} {ys : List Int} (h : OwnC w base g n cap ys) (m : Nat) : OwnC (w.drewN m) base g n cap ys := h

theorem OwnC.base {w : World} {base g n cap : Nat} {ys : List Int} (h : OwnC w base g n cap ys) : base ≤ g ∧ g < w.heap.size := World.ownsRow.lt h g rfl

theorem apply_step (xs ys us : List Int) (k : Nat) (a b c p1 p2 T : Int) (hk : k < us.length) (h1 : a * xs[k]?.getD 0 = p1) (h2 : b * ys[k]?.getD 0 = p2) (hT : c + (p1 + p2) = T)
    (h : valTo us k + c * 4294967296 ^ k = a * valTo xs k + b * valTo ys k) :
    valTo (us.set k (T % 4294967296)) (k + 1) + T / 4294967296 * 4294967296 ^ (k + 1) = a * valTo xs (k + 1) + b * valTo ys (k + 1) := by
  rw [valTo_set us k _ hk, valTo_succ xs, valTo_succ ys, pw_succ, Int.mul_add, Int.mul_add, ← Int.mul_assoc a, ← Int.mul_assoc b, h1, h2]
  have e := carry_step (4294967296 ^ k) (T % 4294967296) (T / 4294967296) T (by omega)
  have e2 : T * 4294967296 ^ k = c * 4294967296 ^ k + (p1 * 4294967296 ^ k + p2 * 4294967296 ^ k) := by
    rw [← hT, Int.add_mul, Int.add_mul]
  omega

def Coef (a b : Int) : Prop := (0 ≤ a ∧ a ≤ 2147483647 ∧ -2147483647 ≤ b ∧ b ≤ 0) ∨ (-2147483647 ≤ a ∧ a ≤ 0 ∧ 0 ≤ b ∧ b ≤ 2147483647)
theorem coef_pos (a v : Int) (h0 : 0 ≤ a) (h1 : a ≤ 2147483647) (v0 : 0 ≤ v) (v1 : v ≤ 4294967295) : 0 ≤ a * v ∧ a * v ≤ 9223372030412324865 := by
  have e1 := Int.mul_nonneg h0 v0
  have e2 : a * v ≤ 2147483647 * v := Int.mul_le_mul_of_nonneg_right h1 v0
  omega
theorem coef_neg (a v : Int) (h0 : -2147483647 ≤ a) (h1 : a ≤ 0) (v0 : 0 ≤ v) (v1 : v ≤ 4294967295) : -9223372030412324865 ≤ a * v ∧ a * v ≤ 0 := by
  have := coef_pos (-a) v (by omega) (by omega) v0 v1
  rw [Int.neg_mul] at this
  omega
theorem Coef.bounds {a b : Int} (h : Coef a b) {v w p1 p2 : Int} (v0 : 0 ≤ v ∧ v ≤ 4294967295) (w0 : 0 ≤ w ∧ w ≤ 4294967295) (h1 : a * v = p1) (h2 : b * w = p2) :
    (-9223372030412324865 ≤ p1 ∧ p1 ≤ 9223372030412324865) ∧ (-9223372030412324865 ≤ p2 ∧ p2 ≤ 9223372030412324865) ∧ (-9223372030412324865 ≤ p1 + p2 ∧ p1 + p2 ≤ 9223372030412324865) := by
  rcases h with ⟨a0, a1, b0, b1⟩ | ⟨a0, a1, b0, b1⟩
  · have e1 := coef_pos a v a0 a1 v0.1 v0.2
    have e2 := coef_neg b w b0 b1 w0.1 w0.2
    omega
  · have e1 := coef_neg a v a0 a1 v0.1 v0.2
    have e2 := coef_pos b w b0 b1 w0.1 w0.2
    omega
theorem Coef.wide {a b : Int} (h : Coef a b) : (-2147483647 ≤ a ∧ a ≤ 2147483647) ∧ (-2147483647 ≤ b ∧ b ≤ 2147483647) := by
  rcases h with h | h <;> omega

theorem apply_end {us : List Int} (hw : Wd us) (n : Nat) (c V : Int) (hl : us.length = n) (h0 : 0 ≤ V) (h1 : V < 4294967296 ^ n) (h : valTo us n + c * 4294967296 ^ n = V) : val us = V := by
  have b := valTo_bounds hw n
  have hp := pw_pos n
  have hc : c = 0 := by
    have e1 : c * 4294967296 ^ n < 1 * 4294967296 ^ n := by omega
    have e2 : (-1) * 4294967296 ^ n < c * 4294967296 ^ n := by omega
    have e3 := Int.lt_of_mul_lt_mul_right e1 (by omega)
    have e4 := Int.lt_of_mul_lt_mul_right e2 (by omega)
    omega
  rw [hc] at h
  rw [← valTo_stable us n (by omega)]
  omega

set_option maxHeartbeats 3200000 in
set_option maxRecDepth 100000 in
theorem apply_any (base gx gy n capx capy : Nat) (xs ys : List Int) (s a b c d : Int) (w : World) (hx : OwnC w base gx n capx xs) (hy : OwnC w base gy n capy ys) (hne : gx ≠ gy) (wx : Wd xs) (wy : Wd ys) (hn : n ≤ 8192)
    (h1 : Coef a b) (h2 : Coef c d) (x0 : 0 ≤ a * val xs + b * val ys) (x1 : a * val xs + b * val ys < 4294967296 ^ n) (y0 : 0 ≤ c * val xs + d * val ys) (y1 : c * val xs + d * val ys < 4294967296 ^ n) :
    Calls Tryz.prog 163 #[.agg #[.int .i64 s, .int .i64 a, .int .i64 b, .int .i64 c, .int .i64 d], .slice (some ⟨gx, 0, none⟩) n capx, .slice (some ⟨gy, 0, none⟩) n capy] w fun e w' => ∃ us vs, e = .returned (.tuple #[]) ∧ OwnC w' base gx n capx us ∧ OwnC w' base gy n capy vs ∧ Wd us ∧ Wd vs ∧
      val us = a * val xs + b * val ys ∧ val vs = c * val xs + d * val ys ∧ Below base w w' := by
  have bx := hx.base
  have by' := hy.base
  have cx := hx.cap
  have cy := hy.cap
  have lx := hx.len
  have ly := hy.len
  unfold maxLen at cx cy
  have HX0 := hid (And.intro x0 (And.intro x1 (And.intro y0 y1)))
  have HL := hid (And.intro lx ly)
  have hne2 : ¬ gx = gy := hne
  have hne3 : ¬ gy = gx := fun e => hne e.symm
  have HOX := hid (owns_later hx (alloc_later w (.cells #[.int .i64 s, .int .i64 a, .int .i64 b, .int .i64 c, .int .i64 d] 177)))
  have HOY := hid (owns_later hy (alloc_later w (.cells #[.int .i64 s, .int .i64 a, .int .i64 b, .int .i64 c, .int .i64 d] 177)))
  have HBX := hid (Box.made w 177 #[.int .i64 s, .int .i64 a, .int .i64 b, .int .i64 c, .int .i64 d])
  have HW := hid (And.intro h1.wide h2.wide)
  have H1 := hid h1
  have H2 := hid h2
  clear x0 x1 y0 y1 hx hy lx ly h1 h2 hne
  have hncy : n ≤ capy := cy.1
  go_enter Tryz.func163, Tryz.ntmps163
  go_wp2_with fail
  go_loopw [6, 7, 17] (fun cu cv t wr => ∃ (k : Nat) (c1 c2 : Int) (us vs : List Int), k ≤ n ∧ t = .int .i64 k ∧ cu = .int .i64 c1 ∧ cv = .int .i64 c2 ∧ -2147483647 ≤ c1 ∧ c1 ≤ 2147483647 ∧ -2147483647 ≤ c2 ∧ c2 ≤ 2147483647 ∧ Wd us ∧ Wd vs ∧
    Hid (valTo us k + c1 * 4294967296 ^ k = a * valTo xs k + b * valTo ys k) ∧ Hid (valTo vs k + c2 * 4294967296 ^ k = c * valTo xs k + d * valTo ys k) ∧ Hid (∀ j, k ≤ j → us[j]?.getD 0 = xs[j]?.getD 0 ∧ vs[j]?.getD 0 = ys[j]?.getD 0) ∧
    OwnC wr base gx n capx us ∧ OwnC wr base gy n capy vs ∧ Box wr w.heap.size 177 #[.int .i64 s, .int .i64 a, .int .i64 b, .int .i64 c, .int .i64 d] ∧ Below base w wr) (fun _ _ t _ => n - (intOf t).toNat)
  case atStart => exact ⟨0, 0, 0, xs, ys, by omega, rfl, rfl, rfl, by omega, by omega, by omega, by omega, wx, wy, show _ = _ by simp [valTo], show _ = _ by simp [valTo], fun _ _ => ⟨rfl, rfl⟩, HOX.out, HOY.out, HBX.out, (alloc_later _ _).mono (by omega)⟩
  case round =>
    obtain ⟨k, c1, c2, us, vs, hk, rfl, rfl, rfl, c10, c11, c20, c21, wu, wv, HV1, HV2, HK, ou, ov, hbox, hbel⟩ := hrel
    by_cases hlt : k < n
    · have u1 := ou.cell k hlt
      have v1 := ov.cell k hlt
      have fu := ou.free k
      have fv := ov.free k
      have q1 : wr.cell? ⟨w.heap.size, 1, none⟩ = some (.int .i64 a) := hbox.cell 1
      have q2 : wr.cell? ⟨w.heap.size, 2, none⟩ = some (.int .i64 b) := hbox.cell 2
      have q3 : wr.cell? ⟨w.heap.size, 3, none⟩ = some (.int .i64 c) := hbox.cell 3
      have q4 : wr.cell? ⟨w.heap.size, 4, none⟩ = some (.int .i64 d) := hbox.cell 4
      have bv := wu.at k
      have bw := wv.at k
      have hk2 := HK.out k (Nat.le_refl _)
      rw [hk2.1] at u1 bv
      rw [hk2.2] at v1 bw
      obtain ⟨p1, hp1⟩ : ∃ p, a * xs[k]?.getD 0 = p := ⟨_, rfl⟩
      obtain ⟨p2, hp2⟩ : ∃ p, b * ys[k]?.getD 0 = p := ⟨_, rfl⟩
      obtain ⟨p3, hp3⟩ : ∃ p, c * xs[k]?.getD 0 = p := ⟨_, rfl⟩
      obtain ⟨p4, hp4⟩ : ∃ p, d * ys[k]?.getD 0 = p := ⟨_, rfl⟩
      have B1 := H1.out.bounds bv bw hp1 hp2
      have B2 := H2.out.bounds bv bw hp3 hp4
      obtain ⟨T, hT⟩ : ∃ T, c1 + (p1 + p2) = T := ⟨_, rfl⟩
      obtain ⟨U, hU⟩ : ∃ U, c2 + (p3 + p4) = U := ⟨_, rfl⟩
      have hlu := ou.len
      have hlv := ov.len
      have HV1' := hid (apply_step xs ys us k a b c1 p1 p2 T (by omega) hp1 hp2 hT HV1.out)
      have HV2' := hid (apply_step xs ys vs k c d c2 p3 p4 U (by omega) hp3 hp4 hU HV2.out)
      have T0 : -9223372032559808512 ≤ T ∧ T ≤ 9223372032559808512 := by omega
      have U0 : -9223372032559808512 ≤ U ∧ U ≤ 9223372032559808512 := by omega
      obtain ⟨z, hz⟩ : ∃ z, T % 4294967296 = z := ⟨_, rfl⟩
      obtain ⟨y, hy⟩ : ∃ y, U % 4294967296 = y := ⟨_, rfl⟩
      have z0 : 0 ≤ z ∧ z ≤ 4294967295 := by omega
      have y0 : 0 ≤ y ∧ y ≤ 4294967295 := by omega
      have hwz : IntKind.u32.wrap T = z := by rw [IntKind.wrap_u32, hz]
      have hwy : IntKind.u32.wrap U = y := by rw [IntKind.wrap_u32, hy]
      rw [hz] at HV1'
      rw [hy] at HV2'
      have HK' : Hid (∀ j, k + 1 ≤ j → (us.set k z)[j]?.getD 0 = xs[j]?.getD 0 ∧ (vs.set k y)[j]?.getD 0 = ys[j]?.getD 0) := fun j hj => by
        rw [List.getElem?_set, if_neg (by omega), List.getElem?_set, if_neg (by omega)]
        exact HK.out j (by omega)
      have HC : Hid ((-2147483647 ≤ T / 4294967296 ∧ T / 4294967296 ≤ 2147483647) ∧ (-2147483647 ≤ U / 4294967296 ∧ U / 4294967296 ≤ 2147483647)) := by show _ ∧ _; omega
      have hout : ∀ m, OwnC (((wr.drewN m).setCell ⟨gx, k, none⟩ (.int .u32 z)).setCell ⟨gy, k, none⟩ (.int .u32 y)) base gx n capx (us.set k z) ∧ OwnC (((wr.drewN m).setCell ⟨gx, k, none⟩ (.int .u32 z)).setCell ⟨gy, k, none⟩ (.int .u32 y)) base gy n capy (vs.set k y) ∧
          Box (((wr.drewN m).setCell ⟨gx, k, none⟩ (.int .u32 z)).setCell ⟨gy, k, none⟩ (.int .u32 y)) w.heap.size 177 #[.int .i64 s, .int .i64 a, .int .i64 b, .int .i64 c, .int .i64 d] ∧ Below base w (((wr.drewN m).setCell ⟨gx, k, none⟩ (.int .u32 z)).setCell ⟨gy, k, none⟩ (.int .u32 y)) := fun m => by
        have s1 := OwnC.set (ou.drewN m) k z
        have o2 : OwnC ((wr.drewN m).setCell ⟨gx, k, none⟩ (.int .u32 z)) base gy n capy vs := World.ownsRow.kept (ov.drewN m) s1.2 (by right; intro e; simp [Value.ownBlock] at e; omega)
        have s2 := OwnC.set o2 k y
        have o1 := World.ownsRow.kept s1.1 s2.2 (by right; intro e; simp [Value.ownBlock] at e; omega)
        refine ⟨o1, s2.1, (Box.other (Box.other (hbox.drewN m) _ _ (by show _ ≠ gx; omega)) _ _ (by show _ ≠ gy; omega)), ?_⟩
        exact ((bdn hbel m).setCell (p := ⟨gx, k, none⟩) bx.1 _).setCell (p := ⟨gy, k, none⟩) by'.1 _
      have HOUT := hid hout
      have hwn : w.heap.size < wr.heap.size := hbox.lt
      clear hout hlu hlv ou ov hbox hbel HV1 HV2 HK hk2 hz hy HOX HOY HBX
      go_wp2_with fail
      go_quiet (fail)
      go_wp2_with fail
      go_roundw
      case rel => exact ⟨k + 1, T / 4294967296, U / 4294967296, us.set k z, vs.set k y, by omega, by go_num, by go_num, by go_num, HC.out.1.1, HC.out.1.2, HC.out.2.1, HC.out.2.2, wu.set _ z0, wv.set _ y0, HV1', HV2', HK', (HOUT.out _).1, (HOUT.out _).2.1, (HOUT.out _).2.2.1, (HOUT.out _).2.2.2⟩
      case measure => simp [intOf]; omega
    · have hkn : k = n := by omega
      subst hkn
      have hlu := ou.len
      have hlv := ov.len
      have HF1 : Hid (val us = a * val xs + b * val ys) := apply_end wu k c1 _ hlu HX0.out.1 HX0.out.2.1 (by have e := HV1.out; rw [valTo_stable xs k (by have := HL.out.1; omega), valTo_stable ys k (by have := HL.out.2; omega)] at e; exact e)
      have HF2 : Hid (val vs = c * val xs + d * val ys) := apply_end wv k c2 _ hlv HX0.out.2.2.1 HX0.out.2.2.2 (by have e := HV2.out; rw [valTo_stable xs k (by have := HL.out.1; omega), valTo_stable ys k (by have := HL.out.2; omega)] at e; exact e)
      have HO1 := hid ou
      have HO2 := hid ov
      clear ou ov hlu hlv
      go_wp2_with fail
      go_end0
      exact ⟨us, vs, rfl, HO1.out, HO2.out, wu, wv, HF1.out, HF2.out, hbel⟩
end Go.Proofs.YtldeiapikkebgaaGreatDoor

/- Euclid's steps, many at once: plain arithmetic, nothing of the program. -/
namespace Go.Proofs.YtldeiapikkebgaaGreatDoor
open Go.RowKit
set_option linter.unusedVariables false

structure Lp (s g A B C D : Int) : Prop where
  a0 : 0 ≤ A
  b0 : 0 ≤ B
  c0 : 0 ≤ C
  cd : C ≤ D
  d1 : 1 ≤ D
  det : A * D - B * C = g
  sgn : g = 1 ∨ g = -1
  way : (s = 0 ∧ A = 1 ∧ B = 0 ∧ C = 0 ∧ D = 1) ∨ (1 ≤ s ∧ A ≤ B ∧ 1 ≤ B ∧ B ≤ D ∧ 1 ≤ C)

theorem Lp.first : Lp 0 1 1 0 0 1 := ⟨by omega, by omega, by omega, by omega, by omega, by omega, .inl rfl, .inl ⟨rfl, rfl, rfl, rfl, rfl⟩⟩

theorem Lp.step {s g A B C D Q : Int} (h : Lp s g A B C D) (hQ : 1 ≤ Q) : Lp (s + 1) (-g) C D (A + Q * C) (B + Q * D) := by
  obtain ⟨a0, b0, c0, cd, d1, det, sgn, way⟩ := h
  have q1 : 0 ≤ Q * C := Int.mul_nonneg (by omega) c0
  have q2 : Q * C ≤ Q * D := Int.mul_le_mul_of_nonneg_left cd (by omega)
  have q3 : 1 * D ≤ Q * D := Int.mul_le_mul_of_nonneg_right hQ (by omega)
  have q4 : 1 * C ≤ Q * C := Int.mul_le_mul_of_nonneg_right hQ c0
  rw [Int.one_mul] at q3 q4
  have hdet : C * (B + Q * D) - D * (A + Q * C) = -g := by
    rw [Int.mul_add, Int.mul_add, Int.mul_comm C B, Int.mul_comm D A, ← Int.mul_assoc C, ← Int.mul_assoc D, Int.mul_comm C Q, Int.mul_comm D Q, Int.mul_assoc Q C, Int.mul_assoc Q D, Int.mul_comm D C]
    omega
  rcases way with ⟨e0, e1, e2, e3, e4⟩ | ⟨w1, w2, w3, w4, w5⟩
  · subst e1 e2 e3 e4
    refine ⟨by omega, by omega, by omega, by omega, by omega, hdet, by omega, .inr ⟨by omega, by omega, by omega, by omega, by omega⟩⟩
  · refine ⟨by omega, by omega, by omega, by omega, by omega, hdet, by omega, .inr ⟨by omega, by omega, by omega, by omega, by omega⟩⟩

theorem pair_step {A B C D Q p q r p0 q0 : Int} (hp : p = Q * q + r) (h1 : p0 = D * p + B * q) (h2 : q0 = C * p + A * q) :
    p0 = (B + Q * D) * q + D * r ∧ q0 = (A + Q * C) * q + C * r := by
  subst hp
  constructor
  · rw [h1, Int.mul_add, Int.add_mul, ← Int.mul_assoc, Int.mul_comm D Q]; omega
  · rw [h2, Int.mul_add, Int.add_mul, ← Int.mul_assoc, Int.mul_comm C Q]; omega

theorem pair_back {g A B C D p q p0 q0 : Int} (det : A * D - B * C = g) (sgn : g = 1 ∨ g = -1) (h1 : p0 = D * p + B * q) (h2 : q0 = C * p + A * q) :
    p = g * A * p0 + -(g * B) * q0 ∧ q = -(g * C) * p0 + g * D * q0 := by
  have e1 : A * p0 - B * q0 = g * p := by
    rw [h1, h2, Int.mul_add, Int.mul_add, ← Int.mul_assoc A D, ← Int.mul_assoc B C, ← Int.mul_assoc A B, ← Int.mul_assoc B A, Int.mul_comm B A, ← det, Int.sub_mul]; omega
  have e2 : D * q0 - C * p0 = g * q := by
    rw [h1, h2, Int.mul_add, Int.mul_add, ← Int.mul_assoc D C, ← Int.mul_assoc C D, ← Int.mul_assoc D A, ← Int.mul_assoc C B, Int.mul_comm D A, Int.mul_comm C B, Int.mul_comm D C, ← det, Int.sub_mul]; omega
  rcases sgn with rfl | rfl
  · simp only [Int.one_mul, Int.neg_mul] at *
    omega
  · simp only [Int.neg_mul, Int.one_mul, Int.neg_neg] at *
    omega

theorem low_part {C D K xl yl : Int} (c0 : 0 ≤ C) (cd : C ≤ D) (x0 : 0 ≤ xl) (x1 : xl < K) (y0 : 0 ≤ yl) (y1 : yl < K) : -(D * (K - 1)) ≤ D * yl - C * xl ∧ D * yl - C * xl ≤ D * (K - 1) ∧ -(D * (K - 1)) ≤ C * xl - D * yl := by
  have e1 : D * yl ≤ D * (K - 1) := Int.mul_le_mul_of_nonneg_left (by omega) (by omega)
  have e2 : C * xl ≤ C * (K - 1) := Int.mul_le_mul_of_nonneg_left (by omega) c0
  have e3 : C * (K - 1) ≤ D * (K - 1) := Int.mul_le_mul_of_nonneg_right cd (by omega)
  have e4 : 0 ≤ D * yl := Int.mul_nonneg (by omega) y0
  have e5 : 0 ≤ C * xl := Int.mul_nonneg c0 x0
  omega

structure Leaps (X Y a b c d : Int) : Prop where
  ab : Coef a b
  cd : Coef c d
  pos : 0 ≤ c * X + d * Y
  lt : c * X + d * Y < a * X + b * Y
  le : a * X + b * Y ≤ X
  less : (a * X + b * Y) + (c * X + d * Y) < X + Y
  same : gcdI (a * X + b * Y) (c * X + d * Y) = gcdI X Y

theorem gcd_dvd_of {x y u v a b c d : Int} (h1 : u = a * x + b * y) (h2 : v = c * x + d * y) : Int.gcd x y ∣ Int.gcd u v := by
  rw [← Int.ofNat_dvd]
  exact Int.dvd_coe_gcd (by rw [h1]; exact Int.dvd_add (Int.dvd_mul_of_dvd_right (Int.gcd_dvd_left ..)) (Int.dvd_mul_of_dvd_right (Int.gcd_dvd_right ..))) (by rw [h2]; exact Int.dvd_add (Int.dvd_mul_of_dvd_right (Int.gcd_dvd_left ..)) (Int.dvd_mul_of_dvd_right (Int.gcd_dvd_right ..)))

theorem leaps_of {s g A B C D p q K xl yl X Y : Int} (h : Lp s g A B C D) (hs : 1 ≤ s) (hK : 1 ≤ K) (x0 : 0 ≤ xl) (x1 : xl < K) (y0 : 0 ≤ yl) (y1 : yl < K)
    (hX : X = (D * p + B * q) * K + xl) (hY : Y = (C * p + A * q) * K + yl) (hD : D ≤ 2147483647) (hq : D ≤ q) (hpq : B + D ≤ p - q) : Leaps X Y (g * A) (-(g * B)) (-(g * C)) (g * D) := by
  obtain ⟨a0, b0, c0, cd, d1, det, sgn, way⟩ := h
  obtain ⟨_, w2, w3, w4, w5⟩ : 1 ≤ s ∧ A ≤ B ∧ 1 ≤ B ∧ B ≤ D ∧ 1 ≤ C := by
    rcases way with ⟨e, _⟩ | h
    · omega
    · exact h
  have hcoef : Coef (g * A) (-(g * B)) ∧ Coef (-(g * C)) (g * D) := by
    rcases sgn with rfl | rfl
    · simp only [Int.one_mul]; exact ⟨.inl ⟨by omega, by omega, by omega, by omega⟩, .inr ⟨by omega, by omega, by omega, by omega⟩⟩
    · simp only [Int.neg_mul, Int.one_mul, Int.neg_neg]; exact ⟨.inr ⟨by omega, by omega, by omega, by omega⟩, .inl ⟨by omega, by omega, by omega, by omega⟩⟩
  -- the two sums, by the highest bits and by what is below
  obtain ⟨u, hu⟩ : ∃ u, g * A * X + -(g * B) * Y = u := ⟨_, rfl⟩
  obtain ⟨v, hv⟩ : ∃ v, -(g * C) * X + g * D * Y = v := ⟨_, rfl⟩
  have pb := pair_back (p := p) (q := q) det sgn rfl rfl
  have hue : u = p * K + g * (A * xl - B * yl) := by
    rw [← hu, hX, hY]
    have e := pb.1
    generalize D * p + B * q = P at *
    generalize C * p + A * q = R at *
    rw [e, Int.mul_add, Int.mul_add, Int.add_mul, ← Int.mul_assoc, ← Int.mul_assoc, Int.mul_sub, ← Int.mul_assoc g A, ← Int.mul_assoc g B, Int.neg_mul (g * B) yl]
    omega
  have hve : v = q * K + g * (D * yl - C * xl) := by
    rw [← hv, hX, hY]
    have e := pb.2
    generalize D * p + B * q = P at *
    generalize C * p + A * q = R at *
    rw [e, Int.mul_add, Int.mul_add, Int.add_mul, ← Int.mul_assoc, ← Int.mul_assoc, Int.mul_sub, ← Int.mul_assoc g D, ← Int.mul_assoc g C, Int.neg_mul (g * C) xl]
    omega
  have hXe : X = D * u + B * v := by
    have e : g * g = 1 := by rcases sgn with rfl | rfl <;> rfl
    have e1 : D * u + B * v = g * (A * D - B * C) * X := by
      rw [← hu, ← hv, Int.mul_add, Int.mul_add, Int.mul_sub, Int.sub_mul]
      have f1 : D * (g * A * X) = g * (A * D) * X := by rw [← Int.mul_assoc, Int.mul_comm D, Int.mul_assoc g A D]
      have f2 : D * (-(g * B) * Y) = -(g * B * D * Y) := by rw [Int.neg_mul, Int.mul_neg, ← Int.mul_assoc, Int.mul_comm D (g * B)]
      have f3 : B * (-(g * C) * X) = -(g * (B * C) * X) := by rw [Int.neg_mul, Int.mul_neg, ← Int.mul_assoc, Int.mul_comm B (g * C), Int.mul_assoc g C B, Int.mul_comm C B]
      have f4 : B * (g * D * Y) = g * B * D * Y := by rw [← Int.mul_assoc, ← Int.mul_assoc, Int.mul_comm B g]
      rw [f1, f2, f3, f4]
      omega
    rw [e1, det, e, Int.one_mul]
  have hYe : Y = C * u + A * v := by
    have e : g * g = 1 := by rcases sgn with rfl | rfl <;> rfl
    have e1 : C * u + A * v = g * (A * D - B * C) * Y := by
      rw [← hu, ← hv, Int.mul_add, Int.mul_add, Int.mul_sub, Int.sub_mul]
      have f1 : C * (g * A * X) = g * A * C * X := by rw [← Int.mul_assoc, Int.mul_comm C (g * A)]
      have f2 : C * (-(g * B) * Y) = -(g * (B * C) * Y) := by rw [Int.neg_mul, Int.mul_neg, ← Int.mul_assoc, Int.mul_comm C (g * B), Int.mul_assoc g B C]
      have f3 : A * (-(g * C) * X) = -(g * A * C * X) := by rw [Int.neg_mul, Int.mul_neg, ← Int.mul_assoc, ← Int.mul_assoc, Int.mul_comm A g]
      have f4 : A * (g * D * Y) = g * (A * D) * Y := by rw [← Int.mul_assoc, ← Int.mul_assoc, Int.mul_comm A g, Int.mul_assoc g A D]
      rw [f1, f2, f3, f4]
      omega
    rw [e1, det, e, Int.one_mul]
  have l1 := low_part (C := C) (D := D) (K := K) c0 cd x0 x1 y0 y1
  have l2 := low_part (C := A + C) (D := B + D) (K := K) (xl := xl) (yl := yl) (by omega) (by omega) x0 x1 y0 y1
  have k1 : D * K ≤ q * K := Int.mul_le_mul_of_nonneg_right hq (by omega)
  have k2 : (B + D) * K ≤ (p - q) * K := Int.mul_le_mul_of_nonneg_right hpq (by omega)
  rw [Int.mul_sub, Int.mul_one] at l1 l2
  rw [Int.sub_mul] at k2
  rw [Int.add_mul (A) C xl, Int.add_mul B D yl] at l2
  have v0 : 0 ≤ v := by
    rw [hve]
    rcases sgn with rfl | rfl
    · rw [Int.one_mul]; omega
    · rw [Int.neg_mul, Int.one_mul]; omega
  have uv : v < u := by
    rw [hve, hue]
    rcases sgn with rfl | rfl
    · rw [Int.one_mul, Int.one_mul]; omega
    · rw [Int.neg_mul, Int.one_mul, Int.neg_mul, Int.one_mul]; omega
  have m1 : 1 * u ≤ D * u := Int.mul_le_mul_of_nonneg_right d1 (by omega)
  have m2 : 0 ≤ B * v := Int.mul_nonneg b0 v0
  have m2' : 1 * v ≤ B * v := Int.mul_le_mul_of_nonneg_right w3 v0
  have m3 : 1 * u ≤ C * u := Int.mul_le_mul_of_nonneg_right w5 (by omega)
  have m4 : 0 ≤ A * v := Int.mul_nonneg a0 v0
  refine ⟨hcoef.1, hcoef.2, ?_, ?_, ?_, ?_, ?_⟩
  · rw [hv]; exact v0
  · rw [hu, hv]; exact uv
  · rw [hu]; omega
  · rw [hu, hv]; omega
  · rw [hu, hv]
    unfold gcdI
    congr 1
    exact Nat.dvd_antisymm (gcd_dvd_of (x := u) (y := v) hXe hYe) (gcd_dvd_of (x := X) (y := Y) hu.symm hv.symm)

theorem Lp.small {s g A B C D p q P0 : Int} (h : Lp s g A B C D) (hp : 1 ≤ p) (hq : 0 ≤ q) (h1 : P0 = D * p + B * q) (hP : P0 ≤ 4611686018427387903) : D ≤ 4611686018427387903 := by
  have e1 : D * 1 ≤ D * p := Int.mul_le_mul_of_nonneg_left hp (by have := h.d1; omega)
  have e2 : 0 ≤ B * q := Int.mul_nonneg h.b0 hq
  omega
theorem Lp.held {s g A B C D p q P0 : Int} (h : Lp s g A B C D) (hq : D ≤ q) (hpq : B + D ≤ p - q) (h1 : P0 = D * p + B * q) (hP : P0 ≤ 4611686018427387903) : D ≤ 2147483647 := by
  by_cases c : D ≤ 2147483647
  · exact c
  · have hb := h.b0
    have e1 : D * 2147483648 ≤ D * p := Int.mul_le_mul_of_nonneg_left (by omega) (by omega)
    have e2 : 0 ≤ B * q := Int.mul_nonneg h.b0 (by omega)
    omega
end Go.Proofs.YtldeiapikkebgaaGreatDoor

