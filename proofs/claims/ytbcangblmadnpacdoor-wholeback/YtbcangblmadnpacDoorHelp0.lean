/- The laws' own helpers: put (a number of at most 60 words out of any list), add and mul (without errors), awake (the document's examples hold). -/
import Derived.Test.YtbcangblmadnpacDoorDiv1
import Derived.Test.YtbcangblmadnpacDoorLaw
namespace Go.Proofs.YtbcangblmadnpacDoor
open Go.RowKit
set_option linter.unusedVariables false

theorem Sl.lit (w : World) (zs : List Int) (hw : Wd zs) (hm : zs.length ≤ maxLen) : Sl (w.alloc (.cells ((zs.map (Value.int .u32)).toArray) 40)) (.slice (some ⟨w.heap.size, 0, none⟩) zs.length zs.length) zs :=
  ⟨_, _, rfl, Reads.lit w 40 zs hw hm⟩

theorem len_of_lt {zs : List Int} (hw : Wd zs) (ht : Trimmed zs) {L : Nat} (h : val zs < 4294967296 ^ L) : zs.length ≤ L := by
  by_cases e : zs.length ≤ L
  · exact e
  · have h1 := val_ge hw ht (by omega)
    have h2 : (4294967296 : Int) ^ L ≤ 4294967296 ^ (zs.length - 1) := pw_le (by omega)
    omega
theorem lt_wide {x : Int} {L : Nat} (h : x < 4294967296 ^ L) (hL : L ≤ 8192) : x < wide := by
  have : (4294967296 : Int) ^ L ≤ 4294967296 ^ 8192 := pw_le hL
  unfold wide
  omega
theorem chk_good {xs : List Int} (hl : xs.length ≤ 8192) (ht : Trimmed xs) : chk xs = 0 := by
  unfold chk; rw [if_neg (by omega), if_pos (show sz xs = xs.length from ht)]
theorem both_good {xs ys : List Int} (h : chk xs = 0) (g : chk ys = 0) : both xs ys = 0 := by unfold both; rw [if_pos h, g]

/-- A number in new memory. -/
def NumIs (w : World) (t : Int) (L : Nat) (x : Ending) (w' : World) : Prop := ∃ v zs, x = .returned v ∧ Sl w' v zs ∧ Trimmed zs ∧ val zs = t ∧ zs.length ≤ L ∧ Below w.heap.size w w'

set_option maxHeartbeats 800000 in
set_option maxRecDepth 100000 in
theorem divMod_word (v u : Value) (xs : List Int) (y : Int) (w : World) (h : Sl w v xs) (g : Sl w u [y]) (tx : Trimmed xs) (lx : xs.length ≤ 8192) (hy : 1 ≤ y) :
    Calls Tryd.prog 60 #[v, u] w fun e w' => ∃ v1 u1 q r, e = .returned (.tuple #[v1, u1, .int .i64 0]) ∧ Sl w' v1 q ∧ Sl w' u1 r ∧ Trimmed q ∧ Trimmed r ∧ val xs = val q * y + val r ∧ val r < y ∧ Below w.heap.size w w' := by
  have ty : Trimmed [y] := by
    have e : ¬ y = 0 := by omega
    simp [Trimmed, sz, szTo, e]
  have HB := hid (checkBoth_sl v u xs [y] w h g (by omega) (by simp))
  rw [both_good (chk_good lx tx) (chk_good (by simp) ty)] at HB
  have HD : Hid (Calls Tryd.prog 77 #[v, u] w (Divided w xs [y])) := by
    by_cases hlt : val xs < y
    · exact divide_less v u xs [y] w h g lx (by simp) (by rw [val_one]; exact hlt)
    · exact divide_word v u xs y w h g lx tx hy (by omega)
  obtain ⟨b, cap', rfl, gr⟩ := g
  clear gr h ty
  go_enter Tryd.func60, Tryd.ntmps60
  go_wp2_with fail
  refine Calls.mono HB.out ?_
  rintro e w' ⟨rfl, rfl⟩
  go_wp2_with fail
  refine Calls.mono HD.out ?_
  rintro e w1 ⟨v1, u1, q, r, c, rfl, oq, orr, _, _, _, _, wq, wr, tq, tr, hv, hlt, hbel⟩
  have HQ := hid (Sl.own oq wq)
  have HR := hid (Sl.own orr wr)
  rw [val_one] at hv hlt
  have HV := hid hv
  have HLT := hid hlt
  clear oq orr hv hlt
  go_wp2
  go_ret3
  exact ⟨v1, u1, q, r, rfl, HQ.out, HR.out, tq, tr, HV.out, HLT.out, hbel⟩

theorem ofTrim {zs ys : List Int} {w : World} {v : Value} (h : Sl w v zs) (tz : Trimmed zs) (wy : Wd ys) (ty : Trimmed ys) (hv : val zs = val ys) : zs = ys := trimmed_eq h.wd wy tz ty hv

theorem Sl.lit' (w : World) (b : Nat) (zs : List Int) (cs : Array Value) (n : Nat) (hb : b = w.heap.size) (hw : Wd zs) (hm : zs.length ≤ maxLen) (hc : cs = (zs.map (Value.int .u32)).toArray) (hn : n = zs.length) : Sl (w.alloc (.cells cs 40)) (.slice (some ⟨b, 0, none⟩) n n) zs := by
  subst hb; subst hc; subst hn
  exact Sl.lit w zs hw hm
theorem alloc_later (w : World) (o : Obj) : Below w.heap.size w (w.alloc o) := (Below.refl _ _).alloc (Nat.le_refl _) _

/-- Two short lists, laid one behind the other. -/
theorem two_lits (w : World) (xs ys : List Int) (cs ds : Array Value) (n m : Nat) (hx : Wd xs) (hy : Wd ys) (lx : xs.length ≤ 10) (ly : ys.length ≤ 10) (hc : cs = (xs.map (Value.int .u32)).toArray) (hd : ds = (ys.map (Value.int .u32)).toArray) (hn : n = xs.length) (hm : m = ys.length) :
    Sl ((w.alloc (.cells cs 40)).alloc (.cells ds 40)) (.slice (some ⟨w.heap.size, 0, none⟩) n n) xs ∧ Sl ((w.alloc (.cells cs 40)).alloc (.cells ds 40)) (.slice (some ⟨w.heap.size + 1, 0, none⟩) m m) ys ∧
      Below w.heap.size w ((w.alloc (.cells cs 40)).alloc (.cells ds 40)) := by
  have m1 : xs.length ≤ maxLen := by unfold maxLen; omega
  have m2 : ys.length ≤ maxLen := by unfold maxLen; omega
  exact ⟨(Sl.lit' w _ xs cs n rfl hx m1 hc hn).later (alloc_later _ _), Sl.lit' _ _ ys ds m (by simp) hy m2 hd hm, bt (alloc_later _ _) (alloc_later _ _)⟩

/-- A number and no error, in new memory. -/
def Num2 (w : World) (t : Int) (L : Nat) (x : Ending) (w' : World) : Prop := ∃ a cap zs, x = .returned (.tuple #[.slice a zs.length cap, .int .i64 0]) ∧ Sl w' (.slice a zs.length cap) zs ∧ Trimmed zs ∧ val zs = t ∧ zs.length ≤ L ∧ Below w.heap.size w w'
theorem Told.num {w w' : World} {t : Int} {x : Ending} (h : Told w 0 t x w') (L : Nat) (hlt : t < 4294967296 ^ L) (hL : L ≤ 8192) : Num2 w t L x w' := by
  obtain ⟨v, zs, code, rfl, ho, ht, hb⟩ := h
  obtain ⟨rfl, hv⟩ := ht.good rfl (lt_wide hlt hL)
  have s := Sl.own ho ht.wd
  obtain ⟨a, cap, rfl, hr⟩ := s
  exact ⟨a, cap, zs, rfl, ⟨a, cap, rfl, hr⟩, ht.trim, hv, len_of_lt ht.wd ht.trim (by rw [hv]; exact hlt), hb⟩
end Go.Proofs.YtbcangblmadnpacDoor
