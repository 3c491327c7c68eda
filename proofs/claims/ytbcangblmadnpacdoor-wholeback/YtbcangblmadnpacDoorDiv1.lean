/- nat.divide where the number is less than the divisor, or the divisor has one word: quotient and rest, in new memory. -/
import Derived.Test.YtbcangblmadnpacDoorWord
import Derived.Test.YtbcangblmadnpacDoorOps
import Derived.Deep.RegionWith
namespace Go.Proofs.YtbcangblmadnpacDoor
open Go.RowKit
set_option linter.unusedVariables false

/-- The blocks of a value lie between two numbers. -/
def Lies (v : Value) (lo hi : Nat) : Prop := ∀ g, v.ownBlock = some g → lo ≤ g ∧ g < hi

/-- What a division does: new memory alone; the quotient's lies ahead of the rest's. -/
def Divided (w : World) (xs ys : List Int) (x : Ending) (w' : World) : Prop :=
  ∃ v u q r c, x = .returned (.tuple #[v, u]) ∧ w'.ownsRow w.heap.size 40 1 v q.length (q.map (Value.int .u32)) ∧ w'.ownsRow w.heap.size 40 1 u r.length (r.map (Value.int .u32)) ∧
    Lies v w.heap.size c ∧ Lies u c w'.heap.size ∧ w.heap.size ≤ c ∧ c ≤ w'.heap.size ∧ Wd q ∧ Wd r ∧ Trimmed q ∧ Trimmed r ∧ val xs = val q * val ys + val r ∧ val r < val ys ∧ Below w.heap.size w w'

theorem owns_len {w : World} {base e n : Nat} {v : Value} {xs : List Int} (h : w.ownsRow base e 1 v n (xs.map (Value.int .u32))) : w.ownsRow base e 1 v xs.length (xs.map (Value.int .u32)) := by
  have : xs.length = n := by have := h.1; simpa using this
  rw [this]; exact h

theorem wrap_u64_in (r : Int) (h0 : 0 ≤ r) (h1 : r ≤ 18446744073709551615) : IntKind.u64.wrap r = r := by
  rw [IntKind.wrap_u64]; omega
theorem own_slice' {w : World} {base e n : Nat} {v : Value} {xs : List Value} (h : w.ownsRow base e 1 v n xs) : ∃ a cap, v = .slice a n cap := by
  rcases h.2 with ⟨h1, h0⟩ | ⟨g, cap, cur, hv, _⟩
  · subst h0; exact ⟨_, _, h1⟩
  · exact ⟨_, _, hv⟩
theorem own_shape' {w : World} {base e n : Nat} {v : Value} {xs : List Value} (h : w.ownsRow base e 1 v n xs) (hn : 0 < n) : ∃ g cap, v = .slice (some ⟨g, 0, none⟩) n cap ∧ n ≤ cap ∧ cap ≤ maxLen := by
  rcases h.2 with ⟨_, h0⟩ | ⟨g, cap, cur, hv, _, _, h1, h2, _⟩
  · omega
  · exact ⟨g, cap, hv, h1, h2⟩

set_option maxHeartbeats 1600000 in
set_option maxRecDepth 100000 in
theorem divide_less (v u : Value) (xs ys : List Int) (w : World) (h : Sl w v xs) (g : Sl w u ys) (hn : xs.length ≤ 8192) (hm : ys.length ≤ 8192) (hlt : val xs < val ys) :
    Calls Tryd.prog 77 #[v, u] w (Divided w xs ys) := by
  have HCM := hid (compare_sl v u xs ys w h g (by omega) (by omega))
  rw [cmpI_lt hlt] at HCM
  have HT := hid hlt
  have wx := h.wd
  clear hlt g
  go_enter Tryd.func77, Tryd.ntmps77
  go_wp2_with fail
  refine Calls.mono HCM.out ?_
  rintro e w1 ⟨rfl, hb1⟩
  have h1 := h.later hb1
  go_wp2_with fail
  refine (trim_sl v xs w1 h1 (by omega)).mono ?_
  rintro e w2 ⟨vt, rfl, ot, hb2⟩
  have hsz := hb1.size
  have hsz2 := hb2.size
  have HF : Hid (Divided w xs ys (.returned (.tuple #[.slice none 0 0, vt])) w2) := by
    refine ⟨_, _, [], trimmed xs, w1.heap.size, rfl, World.ownsRow_nil _ _ _ _, owns_base (owns_len ot) hsz, ?_, ?_, hsz, hsz2, Wd.nil, wx.trimmed, Trimmed.nil, Trimmed.trimmed xs, ?_, ?_, hb1.trans (hb2.mono hsz)⟩
    · intro g hg; simp [Value.ownBlock] at hg
    · intro g hg; exact ot.lt g hg
    · rw [val_trimmed, val_nil]; omega
    · rw [val_trimmed]; exact HT.out
  clear ot
  go_wp2
  go_ret2
  exact HF.out

set_option maxHeartbeats 800000 in
set_option maxRecDepth 100000 in
theorem divide_word (v u : Value) (xs : List Int) (y : Int) (w : World) (h : Sl w v xs) (g : Sl w u [y]) (hn : xs.length ≤ 8192) (hx : Trimmed xs) (hy : 1 ≤ y) (hge : y ≤ val xs) :
    Calls Tryd.prog 77 #[v, u] w (Divided w xs [y]) := by
  have wx := h.wd
  have wy := g.wd.head
  have hci : 0 ≤ cmpI (val xs) (val [y]) := by rw [val_one]; unfold cmpI; rw [if_neg (by omega)]; split <;> omega
  have hpos : 0 < xs.length := by
    by_cases e : xs.length = 0
    · have : xs = [] := List.eq_nil_of_length_eq_zero e
      subst this
      rw [val_nil] at hge
      omega
    · omega
  have CC := hid (compare_sl v u xs [y] w h g (by omega) (by simp))
  obtain ⟨b, cap', rfl, gr⟩ := g
  rcases gr.2.2.1 with h0 | ⟨b2, o2, rfl, hb2, hc2⟩
  · simp at h0
  · have hc0 : w.cell? ⟨b2, o2, none⟩ = some (.int .u32 y) := by simpa using hc2 0 (by simp)
    have HX := hid hx
    clear gr hc2 hge hx
    go_enter Tryd.func77, Tryd.ntmps77
    go_wp2_with fail
    refine Calls.mono CC.out ?_
    rintro e w1 ⟨rfl, hb1⟩
    have h1 := h.later hb1
    clear h CC
    go_wp2_with fail
    refine (trim_sl v xs w1 h1 (by omega)).mono ?_
    rintro e w2 ⟨vt, rfl, ot, hb2'⟩
    rw [show sz xs = xs.length from HX.out, trimmed_of HX.out] at ot
    obtain ⟨gq, cq, hvq, _, _⟩ := own_shape' ot hpos
    rw [hvq] at ot ⊢
    have hs1 := hb1.size
    have hs2 := hb2'.size
    have hc0' : w2.cell? ⟨b2, o2, none⟩ = some (.int .u32 y) := ((hb1.trans (hb2'.mono hs1)).cell (p := ⟨b2, o2, none⟩) hb2).trans hc0
    go_wp2_with fail
    refine (divideByWord_any _ _ _ _ xs y w2 ot wx (by omega) ⟨hy, wy.2⟩).mono ?_
    rintro e w3 ⟨r, us, rfl, r0, r1, ou, hwu, hvu, hg3⟩
    have HV := hid hvu
    have r2 : r ≤ 4294967295 := by have := wy.2; omega
    have hlu := ou.len
    have sx := sz_le us
    rw [hlu] at sx
    have hs3 := hg3.size
    have hgq := World.ownsRow.lt ou gq rfl
    have hr3 : Reads w3.drew w3.heap.size (some ⟨gq, 0, none⟩) xs.length cq us := by
      obtain ⟨a, cap, hv, hr⟩ := Reads.own ou hwu
      simp only [Value.slice.injEq] at hv
      obtain ⟨rfl, _, rfl⟩ := hv
      exact hr
    have hcq := (OwnC.cap ou)
    have hcq2 : cq ≤ 9223372036854775807 := by have := hcq.2; unfold maxLen at this; omega
    have hcq1 := hcq.1
    have hwr : IntKind.u64.wrap r = r := wrap_u64_in r r0 (by omega)
    have HZ := hid (size_any _ _ cq us _ w3.drew hr3 (by omega))
    have HO := hid (of_any r w3.drew r0 (by omega))
    have HU := hid ou
    have HB3 : Hid (Below w.heap.size w w3) := ((hb1.trans (hb2'.mono hs1)).grown hg3 (by omega) (fun k hk => by simp at hk; omega))
    clear hvu ou hg3 hb1 hb2' ot hr3 hcq hlu h1
    go_wp2_with fail
    go_region_with (first | (go_at_call 63; refine Calls.mono HZ.out ?_; rintro e w' ⟨rfl, rfl⟩) | (go_at_call 59; refine Calls.mono HO.out ?_; rintro e w4 ⟨vr, rfl, or4, hb4⟩; obtain ⟨ar, cr, rfl⟩ := own_slice' or4))
    all_goals
      have hb4' : Below w3.heap.size w3 w4 := ((Below.refl _ w3).drew).trans hb4
      have hs4 := hb4'.size
      have HF : Hid (Divided w xs [y] (.returned (.tuple #[.slice (some ⟨gq, 0, none⟩) (sz us) cq, .slice ar (sz [r % 4294967296, r / 4294967296]) cr])) w4) := by
        refine ⟨_, _, trimmed us, trimmed [r % 4294967296, r / 4294967296], w3.heap.size, rfl, ?_, ?_, ?_, ?_, by omega, hs4, hwu.trimmed, (of_wd r r0 (by omega)).trimmed, Trimmed.trimmed _, Trimmed.trimmed _, ?_, ?_, HB3.out.trans (hb4'.mono (by omega))⟩
        · rw [length_trimmed]
          have o1 : w3.ownsRow w1.heap.size 40 1 (.slice (some ⟨gq, 0, none⟩) (sz us) cq) (sz us) ((trimmed us).map (Value.int .u32)) := OwnC.take HU.out (sz us) sx
          exact owns_base (owns_later o1 hb4') (by omega)
        · exact owns_base (owns_len or4) (by show w.heap.size ≤ w3.heap.size; omega)
        · intro g hg
          simp [Value.ownBlock] at hg
          omega
        · intro g hg; exact or4.lt g hg
        · rw [val_trimmed, val_trimmed, val_one, val_two, HV.out]
          omega
        · rw [val_trimmed, val_one, val_two]
          omega
      clear or4 hb4 hb4'
      go_wp2
      go_ret2
      exact HF.out
end Go.Proofs.YtbcangblmadnpacDoor
