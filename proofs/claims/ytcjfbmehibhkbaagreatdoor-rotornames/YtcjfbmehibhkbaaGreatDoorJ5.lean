/- My texts on the way to RotorNames, one behind the other: contracts of the program and of the document's answers. -/
import Derived.Test.YtcjfbmehibhkbaaGreatDoorJ4
/- Lists of rotors: Apart of both sides, of every list; a row of rotors, cell by cell. -/
namespace Go.Proofs.YtcjfbmehibhkbaaGreatDoor
open Go.RowKit Go.Maps
set_option linter.unusedVariables false
set_option linter.unusedSimpArgs false

/-- What Apart tells of any list. -/
def RAq (xs : List (Int × Int)) (v c : Int) : Prop := (xs.length ≤ 64 ∧ RAp xs v c) ∨ (64 < xs.length ∧ v = 0 ∧ c = 3)
theorem RAq.one {xs : List (Int × Int)} {v c v' c' : Int} (h : RAq xs v c) (h' : RAq xs v' c') : v = v' ∧ c = c' := by
  rcases h with ⟨l, h⟩ | ⟨l, h1, h2⟩ <;> rcases h' with ⟨l', h'⟩ | ⟨l', h1', h2'⟩
  · exact h.one h'
  · omega
  · omega
  · exact ⟨h1.trans h1'.symm, h2.trans h2'.symm⟩

set_option maxHeartbeats 800000 in
set_option maxRecDepth 100000 in
theorem oapart_long (a : Option Addr) (n cap : Nat) (w : World) (hn : 64 < n) (hm : n ≤ 9223372036854775807) :
    Calls Tryz.prog 6 #[.slice a n cap] w fun e w' => e = .returned (.tuple #[.int .i64 0, .int .i64 3]) ∧ Below w.heap.size w w' := by
  have h1 : (64 : Int) < (n : Int) := by omega
  go_enter Tryz.func6, Tryz.ntmps6
  go_wp2_with fail
  refine bodyPost_ret (v := .tuple #[.int .i64 0, .int .i64 3]) (by simp [results, Tryz.results6, go_sem]) rfl ?_
  exact ⟨rfl, Below.refl _ _⟩
theorem oapart_q (b o n cap : Nat) (xs : List (Int × Int)) (w : World) (hl : xs.length = n) (h32 : ∀ j, in32 (xO xs j).1 (xO xs j).2) (hb : b < w.heap.size)
    (hx : ∀ j, j < n → w.cell? ⟨b, o + j * 2, none⟩ = some (.int .i32 (xO xs j).1) ∧ w.cell? ⟨b, o + j * 2 + 1, none⟩ = some (.int .i32 (xO xs j).2)) (hn : n ≤ 100) :
    Calls Tryz.prog 6 #[.slice (some ⟨b, o, none⟩) n cap] w fun e w' => ∃ v c, e = .returned (.tuple #[.int .i64 v, .int .i64 c]) ∧ RAq xs v c ∧ Below w.heap.size w w' := by
  by_cases h : n ≤ 64
  · refine Calls.mono (oapart_ok b o n cap xs w hl h32 hb hx h) ?_
    rintro e w1 ⟨v, c, he, hr, hb⟩
    exact ⟨v, c, he, .inl ⟨by omega, hr⟩, hb⟩
  · refine Calls.mono (oapart_long _ n cap w (by omega) (by omega)) ?_
    rintro e w1 ⟨he, hb⟩
    exact ⟨0, 3, he, .inr ⟨by omega, rfl, rfl⟩, hb⟩
end Go.Proofs.YtcjfbmehibhkbaaGreatDoor

/- The laws' lives of layer 5: the chapter's first example. (tools/mkrq7.py) -/
namespace Go.Proofs.YtcjfbmehibhkbaaGreatDoor
open Go.RowKit
set_option linter.unusedVariables false
set_option linter.unusedSimpArgs false

theorem olit (w : World) (x : Int) : (w.alloc (.cells #[.int .u32 x] 38)).ownsRow w.heap.size 38 1 (.slice (some ⟨w.heap.size, 0, none⟩) 1 1) 1 [.int .u32 x] := World.ownsRow_lit w #[.int .u32 x] 1 (Nat.le_refl _) (by decide) rfl
theorem olit' {w : World} {b : Nat} (x : Int) (h : w.heap.size = b) : (w.alloc (.cells #[.int .u32 x] 38)).ownsRow b 38 1 (.slice (some ⟨b, 0, none⟩) 1 1) 1 [.int .u32 x] := by subst h; exact olit w x
theorem owd1 {x : Int} (h0 : 0 ≤ x) (h1 : x < 4294967296) : Wd [x] := fun z hz => by
  have : z = x := by simpa using hz
  omega
theorem oOf21 (w : World) : Calls Tryz.prog 17 #[.agg #[.int .i32 2, .int .i32 1]] w fun e w' => ∃ a1 c1 a2 c2 a3 c3 a4 c4, e = .returned (.tuple #[.agg #[.bool false, .slice a1 1 c1, .slice a2 1 c2, .bool false, .slice a3 1 c3, .slice a4 1 c4], .int .i64 0]) ∧ Hid (w'.ownsRow w.heap.size 38 1 (.slice a1 1 c1) 1 [.int .u32 3] ∧ w'.ownsRow w.heap.size 38 1 (.slice a2 1 c2) 1 [.int .u32 5] ∧ w'.ownsRow w.heap.size 38 1 (.slice a3 1 c3) 1 [.int .u32 4] ∧ w'.ownsRow w.heap.size 38 1 (.slice a4 1 c4) 1 [.int .u32 5]) ∧ Hid (Below w.heap.size w w') := by
  refine Calls.mono (oOf_good 2 1 w (by decide)) ?_
  rintro e w' ⟨g, h, a1, c1, a2, c2, a3, c3, a4, c4, rfl, ho, hg, hh, hb, _⟩
  have ig := hg.out
  have ih := hh.out
  rw [o_div1, o_div1] at ig ih
  obtain ⟨⟨i1, i2⟩, ⟨i3, i4⟩, w1, w2, w3, w4⟩ := ig
  obtain ⟨⟨j1, j2⟩, _, v1, v2, _⟩ := ih
  obtain ⟨e1, t1, _⟩ := o_whole w1 w2 i1 i2
  obtain ⟨e2, t2, _⟩ := o_whole w3 w4 i3 i4
  obtain ⟨e3, t3, _⟩ := o_whole v1 v2 j1 j2
  obtain ⟨p1, p2⟩ := o_pos1 w1 t1 (e1.trans (show oRe 2 1 = 3 by decide)) (by decide) (by decide)
  obtain ⟨p3, p4⟩ := o_pos1 w3 t2 (e2.trans (show oIm 2 1 = 4 by decide)) (by decide) (by decide)
  obtain ⟨p5, p6⟩ := o_pos1 v1 t3 (e3.trans (show oNm 2 1 = 5 by decide)) (by decide) (by decide)
  have ho' := ho.out
  rw [p2, p4, p6] at ho'
  rw [p1, p2, p3, p4, p6]
  exact ⟨a1, c1, a2, c2, a3, c3, a4, c4, rfl, ho', hb⟩

set_option maxHeartbeats 3200000 in
set_option maxRecDepth 100000 in
theorem olives_any (w : World) : Calls Tryz.prog 10 #[] w fun e w' => e = .returned (.bool true) ∧ Below w.heap.size w w' := by
  have HD := hid (oOf21 w)
  go_enter Tryz.func10, Tryz.ntmps10
  go_wp2_with fail
  refine Calls.mono HD.out ?_
  rintro e w1 ⟨a1, c1, a2, c2, a3, c3, a4, c4, rfl, ho, hb⟩
  clear HD
  obtain ⟨Y, hY⟩ : ∃ Y, w1.alloc (.cells #[.bool false, .slice none 0 0, .slice none 0 0, .bool false, .slice none 0 0, .slice none 0 0] 31) = Y := ⟨_, rfl⟩
  have HY : Hid (Box Y w1.heap.size 31 #[.bool false, .slice none 0 0, .slice none 0 0, .bool false, .slice none 0 0, .slice none 0 0]) := by rw [← hY]; exact Box.made w1 _ _
  have HYB : Hid (Below w1.heap.size w1 Y) := by rw [← hY]; exact alloc_later _ _
  obtain ⟨A0, A1, A2, A3, A4, A5, qA0, qA1, qA2, qA3, qA4, qA5, ⟨rA0, rA1, rA2, rA3, rA4, rA5⟩, ⟨fA0, fA1, fA2, fA3, fA4, fA5⟩, HA⟩ := rchain6 HY.out (by decide) (.bool false) (.slice a1 1 c1) (.slice a2 1 c2) (.bool false) (.slice a3 1 c3) (.slice a4 1 c4)
  have HBA : Hid (Below w.heap.size w A5) := HA.out.2.2.2.1 _ _ hb.out.size (bt hb.out HYB.out)
  have HO : Hid (A5.ownsRow w.heap.size 38 1 (.slice a1 1 c1) 1 [.int .u32 3] ∧ A5.ownsRow w.heap.size 38 1 (.slice a2 1 c2) 1 [.int .u32 5] ∧ A5.ownsRow w.heap.size 38 1 (.slice a3 1 c3) 1 [.int .u32 4] ∧ A5.ownsRow w.heap.size 38 1 (.slice a4 1 c4) 1 [.int .u32 5]) := by
    have q := ho.out
    have P := HA.out.2.2.1
    exact ⟨P _ _ _ _ (owns_later q.1 HYB.out), P _ _ _ _ (owns_later q.2.1 HYB.out), P _ _ _ _ (owns_later q.2.2.1 HYB.out), P _ _ _ _ (owns_later q.2.2.2 HYB.out)⟩
  have p0 : A5.cell? ⟨w1.heap.size, 0, none⟩ = some (.bool false) := (HA.out.1).cell 0
  have p1 : A5.cell? ⟨w1.heap.size, 1, none⟩ = some (.slice a1 1 c1) := (HA.out.1).cell 1
  have p2 : A5.cell? ⟨w1.heap.size, 2, none⟩ = some (.slice a2 1 c2) := (HA.out.1).cell 2
  have p3 : A5.cell? ⟨w1.heap.size, 3, none⟩ = some (.bool false) := (HA.out.1).cell 3
  have p4 : A5.cell? ⟨w1.heap.size, 4, none⟩ = some (.slice a3 1 c3) := (HA.out.1).cell 4
  have p5 : A5.cell? ⟨w1.heap.size, 5, none⟩ = some (.slice a4 1 c4) := (HA.out.1).cell 5
  obtain ⟨U, hU⟩ : ∃ U, ((((A5.alloc (.cells #[.int .u32 3] 38)).alloc (.cells #[.int .u32 5] 38)).alloc (.cells #[.int .u32 4] 38)).alloc (.cells #[.int .u32 5] 38)) = U := ⟨_, rfl⟩
  have HU : Hid (Below A5.heap.size A5 U) := by rw [← hU]; exact bt (bt (bt (alloc_later _ _) (alloc_later _ _)) (alloc_later _ _)) (alloc_later _ _)
  have HL : Hid (U.ownsRow (A5.heap.size) 38 1 (.slice (some ⟨A5.heap.size, 0, none⟩) 1 1) 1 [.int .u32 3] ∧ U.ownsRow (A5.heap.size + 1) 38 1 (.slice (some ⟨A5.heap.size + 1, 0, none⟩) 1 1) 1 [.int .u32 5] ∧ U.ownsRow (A5.heap.size + 1 + 1) 38 1 (.slice (some ⟨A5.heap.size + 1 + 1, 0, none⟩) 1 1) 1 [.int .u32 4] ∧ U.ownsRow (A5.heap.size + 1 + 1 + 1) 38 1 (.slice (some ⟨A5.heap.size + 1 + 1 + 1, 0, none⟩) 1 1) 1 [.int .u32 5]) := by
    rw [← hU]
    refine ⟨?_, ?_, ?_, ?_⟩
    · exact owns_later (owns_later (owns_later (olit A5 3) (alloc_later _ _)) (alloc_later _ _)) (alloc_later _ _)
    · exact owns_later (owns_later (olit' 5 (by simp)) (alloc_later _ _)) (alloc_later _ _)
    · exact owns_later (olit' 4 (by simp)) (alloc_later _ _)
    · exact olit' 5 (by simp)
  have HS : Hid (Calls Tryz.prog 23 #[.agg #[.bool false, .slice a1 1 c1, .slice a2 1 c2, .bool false, .slice a3 1 c3, .slice a4 1 c4], .agg #[.bool false, .slice (some ⟨A5.heap.size, 0, none⟩) 1 1, .slice (some ⟨A5.heap.size + 1, 0, none⟩) 1 1, .bool false, .slice (some ⟨A5.heap.size + 1 + 1, 0, none⟩) 1 1, .slice (some ⟨A5.heap.size + 1 + 1 + 1, 0, none⟩) 1 1]] U fun x w' => x = .returned (.bool true) ∧ Below U.heap.size U w') :=
    gsameGauss_eq false a1 c1 [3] a2 c2 [5] false a3 c3 [4] a4 c4 [5] (some ⟨A5.heap.size, 0, none⟩) 1 (some ⟨A5.heap.size + 1, 0, none⟩) 1 (some ⟨A5.heap.size + 1 + 1, 0, none⟩) 1 (some ⟨A5.heap.size + 1 + 1 + 1, 0, none⟩) 1 U (Sl.own (owns_later HO.out.1 HU.out) (owd1 (by decide) (by decide))) (Sl.own (owns_later HO.out.2.1 HU.out) (owd1 (by decide) (by decide))) (Sl.own (owns_later HO.out.2.2.1 HU.out) (owd1 (by decide) (by decide))) (Sl.own (owns_later HO.out.2.2.2 HU.out) (owd1 (by decide) (by decide))) (Sl.own HL.out.1 (owd1 (by decide) (by decide))) (Sl.own HL.out.2.1 (owd1 (by decide) (by decide))) (Sl.own HL.out.2.2.1 (owd1 (by decide) (by decide))) (Sl.own HL.out.2.2.2 (owd1 (by decide) (by decide))) (by decide) (by decide) (by decide) (by decide)
  clear HL HO ho hb HYB HY
  go_wp2_with fail
  refine Calls.mono HS.out ?_
  rintro e w2 ⟨rfl, hb2⟩
  have HF := hid (bt (bt HBA.out HU.out) hb2)
  clear HS hb2
  go_wp2_with fail
  go_ret
  exact ⟨rfl, HF.out⟩
end Go.Proofs.YtcjfbmehibhkbaaGreatDoor

