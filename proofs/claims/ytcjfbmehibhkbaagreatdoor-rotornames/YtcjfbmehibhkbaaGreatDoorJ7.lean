/- My texts on the way to RotorNames, one behind the other: contracts of the program and of the document's answers. -/
import Derived.Test.YtcjfbmehibhkbaaGreatDoorJ1
import Derived.Test.YtcjfbmehibhkbaaGreatDoorJ4
import Derived.Test.YtcjfbmehibhkbaaGreatDoorJ5
import Derived.Test.YtcjfbmehibhkbaaGreatDoorJ6
import Derived.LoopN
/- What RotorNames calls, at its known numbers. -/
namespace Go.Proofs.YtcjfbmehibhkbaaGreatDoor
open Go.RowKit
set_option linter.unusedVariables false
set_option linter.unusedSimpArgs false

theorem rn_ok : rOK 2 1 := by decide +kernel
theorem rn_wd {l : List Int} (h : l.all (fun x => decide (0 ≤ x) && decide (x ≤ 4294967295)) = true) : Wd l := fun x hx => by
  have := List.all_eq_true.1 h x hx
  simp at this
  exact this
/-- A power of the rotor 2, 1 by its words. -/
theorem rn_words {g : G6} {q1 q2 : Rat} (hi : g.Is q1 q2) (n : Bool) (xs ys : List Int) (m : Bool) (us vs : List Int) (hw : Wd xs ∧ Wd ys ∧ Wd us ∧ Wd vs) (c1 : rchk n xs ys = 0) (c2 : rchk m us vs = 0) (e1 : q1 = rq n xs ys) (e2 : q2 = rq m us vs) : (g.n = n ∧ g.xs = xs ∧ g.ys = ys) ∧ (g.m = m ∧ g.us = us ∧ g.vs = vs) :=
  ⟨pgood_same hi.2.2.1 hi.2.2.2.1 hw.1 hw.2.1 hi.1.1 c1 (hi.1.2.trans e1), pgood_same hi.2.2.2.2.1 hi.2.2.2.2.2 hw.2.2.1 hw.2.2.2 hi.2.1.1 c2 (hi.2.1.2.trans e2)⟩
set_option maxHeartbeats 1600000 in
/-- The text of a complex fraction whose words are known. -/
theorem rn_text (g : G6) (n : Bool) (xs ys : List Int) (m : Bool) (us vs : List Int) (S : ByteArray) (he : (g.n = n ∧ g.xs = xs ∧ g.ys = ys) ∧ (g.m = m ∧ g.us = us ∧ g.vs = vs)) (hc : gchk n xs ys m us vs = 0) (ht : gtext n xs ys m us vs = S.data.toList) (hl : S.data.toList.length ≤ 65536) (w : World) (sg : g.Sl4 w) (htab : Tab w) :
    Calls Tryz.prog 8 #[.agg #[.bool g.n, .slice g.a g.xs.length g.ca, .slice g.b g.ys.length g.cb, .bool g.m, .slice g.c g.us.length g.cc, .slice g.d g.vs.length g.cd]] w fun e w' => e = .returned (.string S) ∧ Below w.heap.size w w' := by
  obtain ⟨X, hX⟩ : ∃ X, w.alloc (.cells #[.bool g.n, .slice g.a g.xs.length g.ca, .slice g.b g.ys.length g.cb, .bool g.m, .slice g.c g.us.length g.cc, .slice g.d g.vs.length g.cd] 31) = X := ⟨_, rfl⟩
  have HB : Hid (Below w.heap.size w X) := by rw [← hX]; exact alloc_later _ _
  have HG : Hid (Box X w.heap.size 31 #[.bool g.n, .slice g.a g.xs.length g.ca, .slice g.b g.ys.length g.cb, .bool g.m, .slice g.c g.us.length g.cc, .slice g.d g.vs.length g.cd]) := by rw [← hX]; exact Box.made w _ _
  have s := sg.later HB.out
  have HP : Hid (Calls Tryz.prog 19 #[.agg #[.bool g.n, .slice g.a g.xs.length g.ca, .slice g.b g.ys.length g.cb, .bool g.m, .slice g.c g.us.length g.cc, .slice g.d g.vs.length g.cd]] X fun x w' => x = .returned (.tuple #[.string S, .int .i64 0]) ∧ Below X.heap.size X w') := by
    refine Calls.mono (gPrint_any g.n g.a g.ca g.xs g.b g.cb g.ys g.m g.c g.cc g.us g.d g.cd g.vs X s.1 s.2.1 s.2.2.1 s.2.2.2 (htab.later HB.out)) ?_
    rintro x w' ⟨S', rfl, hS, _, hb⟩
    have e0 : gpErr g.n g.xs g.ys g.m g.us g.vs = 0 := by
      rw [he.1.1, he.1.2.1, he.1.2.2, he.2.1, he.2.2.1, he.2.2.2]
      unfold gpErr
      rw [hc, fstE_zero, ht, if_neg (by omega)]
    have e1 := hS e0
    rw [he.1.1, he.1.2.1, he.1.2.2, he.2.1, he.2.2.1, he.2.2.2, ht] at e1
    have e2 : S' = S := ByteArray.ext (Array.ext' e1)
    rw [e0, e2]
    exact ⟨rfl, hb⟩
  have p0 : X.cell? ⟨w.heap.size, 0, none⟩ = some (.bool g.n) := HG.out.cell 0
  have p1 : X.cell? ⟨w.heap.size, 1, none⟩ = some (.slice g.a g.xs.length g.ca) := HG.out.cell 1
  have p2 : X.cell? ⟨w.heap.size, 2, none⟩ = some (.slice g.b g.ys.length g.cb) := HG.out.cell 2
  have p3 : X.cell? ⟨w.heap.size, 3, none⟩ = some (.bool g.m) := HG.out.cell 3
  have p4 : X.cell? ⟨w.heap.size, 4, none⟩ = some (.slice g.c g.us.length g.cc) := HG.out.cell 4
  have p5 : X.cell? ⟨w.heap.size, 5, none⟩ = some (.slice g.d g.vs.length g.cd) := HG.out.cell 5
  clear s sg htab he hc ht hl HG
  go_enter Tryz.func8, Tryz.ntmps8
  go_wp2_with fail
  clear hX
  refine Calls.mono HP.out ?_
  rintro x w1 ⟨rfl, hb⟩
  have HB1 := hid (bt HB.out hb)
  clear hb HP p0 p1 p2 p3 p4 p5
  go_wp2_with fail
  go_ret
  exact ⟨rfl, HB1.out⟩
set_option maxHeartbeats 1600000 in
/-- Apart of nothing. -/
theorem rn_nil (w : World) : Calls Tryz.prog 6 #[.slice none 0 0] w fun e w' => e = .returned (.tuple #[.int .i64 (-1), .int .i64 0]) ∧ Below w.heap.size w w' := by
  have hmm := @run_makeMap Tryz.prog
  go_enter Tryz.func6, Tryz.ntmps6
  go_wp2_with fail
  refine wp_loop_rounds 1 ?_
  rw [rounds_succ]
  go_wp2_with fail
  refine wp_loop_rounds 1 ?_
  rw [rounds_succ]
  go_wp2_with fail
  refine bodyPost_ret (v := .tuple #[.int .i64 (-1), .int .i64 0]) (by simp [results, Tryz.results6, go_sem]) rfl ?_
  exact ⟨rfl, by first | exact alloc_later _ _ | exact Below.refl _ _⟩
/-- Apart of a list that is known. -/
theorem rn_apart (b n cap : Nat) (xs : List (Int × Int)) (v c : Int) (w : World) (hl : xs.length = n) (h32 : ∀ j, in32 (xO xs j).1 (xO xs j).2) (hb : b < w.heap.size)
    (hx : ∀ j, j < n → w.cell? ⟨b, 0 + j * 2, none⟩ = some (.int .i32 (xO xs j).1) ∧ w.cell? ⟨b, 0 + j * 2 + 1, none⟩ = some (.int .i32 (xO xs j).2)) (hn : n ≤ 100) (hr : RAq xs v c) :
    Calls Tryz.prog 6 #[.slice (some ⟨b, 0, none⟩) n cap] w fun e w' => e = .returned (.tuple #[.int .i64 v, .int .i64 c]) ∧ Below w.heap.size w w' := by
  refine Calls.mono (oapart_q b 0 n cap xs w hl h32 hb hx hn) ?_
  rintro e w' ⟨v', c', rfl, hq, hb'⟩
  obtain ⟨e1, e2⟩ := hr.one hq
  subst e1 e2
  exact ⟨rfl, hb'⟩
theorem rn_three : RAq [(2, 1), (3, 1), (2, 1)] 2 0 := by
  refine .inl ⟨by decide, .inr ⟨rfl, ?_, .inl ⟨2, rfl, by decide, ⟨0, by decide, rfl⟩, ?_⟩⟩⟩
  · intro j hj
    match j, hj with
    | 0, _ => show rOK 2 1; decide +kernel
    | 1, _ => show rOK 3 1; decide +kernel
    | 2, _ => show rOK 2 1; decide +kernel
  · intro j hj
    match j, hj with
    | 0, _ => rintro ⟨k, hk, _⟩; omega
    | 1, _ =>
      rintro ⟨k, hk, h⟩
      obtain rfl : k = 0 := by omega
      exact absurd h (by decide)
theorem rn_two : RAq [(2, 1), (0, 0)] 1 150 := by
  refine .inl ⟨by decide, .inl ⟨rfl, 1, rfl, by decide, ?_, ?_⟩⟩
  · show ¬ rOK 0 0; decide +kernel
  · intro j hj
    obtain rfl : j = 0 := by omega
    show rOK 2 1; decide +kernel
theorem rn_long (l : List (Int × Int)) (h : 64 < l.length) : RAq l 0 3 := .inr ⟨h, rfl, rfl⟩
theorem rn_pairs {l : List (Int × Int)} (h : l.all (fun p => decide (-2147483648 ≤ p.1) && decide (p.1 ≤ 2147483647) && decide (-2147483648 ≤ p.2) && decide (p.2 ≤ 2147483647)) = true) : ∀ j, in32 (xO l j).1 (xO l j).2 := by
  intro j
  unfold xO
  rcases Nat.lt_or_ge j l.length with q | q
  · rw [List.getElem?_eq_getElem q]
    have := List.all_eq_true.1 h _ (List.getElem_mem q)
    simp at this
    exact ⟨⟨this.1.1.1, this.1.1.2⟩, ⟨this.1.2, this.2⟩⟩
  · rw [List.getElem?_eq_none q]
    unfold in32
    simp
/-- Sixty-five rotors that are nothing. -/
def rnRow : Obj := .cells (Array.replicate 130 (.int .i32 0)) 23
theorem rn_make (w : World) : (Instr.makeSlice 24 (.int .i64 65) (.int .i64 65)).run Tryz.prog w = .ok (.slice (some ⟨w.heap.size, 0, none⟩) 65 65) (w.alloc rnRow) := by kernel_rfl
theorem rn_cells (w : World) (j : Nat) (hj : j < 130) : (w.alloc rnRow).cell? ⟨w.heap.size, j, none⟩ = some (.int .i32 0) := by
  have h : (w.alloc rnRow).heap[w.heap.size]? = some rnRow := Box.made w _ _
  unfold World.cell?
  rw [show (w.alloc rnRow).heap[(⟨w.heap.size, j, none⟩ : Addr).block]? = some rnRow from h]
  simp [rnRow, hj]
theorem rn_zero (j : Nat) : xO (List.replicate 65 ((0 : Int), (0 : Int))) j = (0, 0) := by
  unfold xO
  rw [List.getElem?_replicate]
  split <;> rfl
/-- One, in its form, is no rotor's number. -/
theorem rn_none (a b c d : Option Addr) (ca cb cc cd : Nat) : ∀ f r, rOK f r → ¬ NIs ⟨false, a, ca, [1], b, cb, [1], false, c, cc, [], d, cd, [1]⟩ f r := by
  intro f r hr hn
  obtain ⟨x, y, _, _, h3, _⟩ := nis_words hr hn
  cases h3
end Go.Proofs.YtcjfbmehibhkbaaGreatDoor

/- The law RotorNames: the document's numbers and examples of layer 5. (tools/mkrtnames.py) -/
namespace Go.Proofs.YtcjfbmehibhkbaaGreatDoor
open Go.RowKit
set_option linter.unusedVariables false
set_option linter.unusedSimpArgs false

set_option maxHeartbeats 12800000 in
set_option maxRecDepth 100000 in
theorem rotorNames_any (w : World) (htab : Tab w) :
    Calls Tryz.prog 3 #[] w fun e w' => e = .returned (.bool true) ∧ Below w.heap.size w w' := by
  obtain ⟨X, hX⟩ : ∃ X, w.alloc (.cells #[.int .i32 0, .int .i32 0, .int .i32 0, .int .i32 1, .int .i32 1, .int .i32 1, .int .i32 2, .int .i32 0, .int .i32 2, .int .i32 4, .int .i32 1001, .int .i32 1, .int .i32 3, .int .i32 (-3), .int .i32 (-2), .int .i32 1, .int .i32 1, .int .i32 1001] 23) = X := ⟨_, rfl⟩
  have HW0 : Hid (Below w.heap.size w X) := by rw [← hX]; exact alloc_later _ _
  have Hbad0 : Hid (Box X w.heap.size 23 #[.int .i32 0, .int .i32 0, .int .i32 0, .int .i32 1, .int .i32 1, .int .i32 1, .int .i32 2, .int .i32 0, .int .i32 2, .int .i32 4, .int .i32 1001, .int .i32 1, .int .i32 3, .int .i32 (-3), .int .i32 (-2), .int .i32 1, .int .i32 1, .int .i32 1001]) := by rw [← hX]; exact Box.made w _ _
  have HTAB := hid (fun V (hv : Below w.heap.size w V) => htab.later hv)
  clear htab
  have C0 : Hid (∀ V, Calls Tryz.prog 4 #[.agg #[.int .i32 0, .int .i32 0]] V fun e w' => e = .returned (.int .i64 150) ∧ Below V.heap.size V w') := fun V => by
    have q := ocheck_any 0 0 V (by unfold in32; omega)
    rw [show ochk 0 0 = 150 by decide +kernel] at q
    exact q
  have C1 : Hid (∀ V, Calls Tryz.prog 4 #[.agg #[.int .i32 0, .int .i32 1]] V fun e w' => e = .returned (.int .i64 150) ∧ Below V.heap.size V w') := fun V => by
    have q := ocheck_any 0 1 V (by unfold in32; omega)
    rw [show ochk 0 1 = 150 by decide +kernel] at q
    exact q
  have C2 : Hid (∀ V, Calls Tryz.prog 4 #[.agg #[.int .i32 1, .int .i32 1]] V fun e w' => e = .returned (.int .i64 150) ∧ Below V.heap.size V w') := fun V => by
    have q := ocheck_any 1 1 V (by unfold in32; omega)
    rw [show ochk 1 1 = 150 by decide +kernel] at q
    exact q
  have C3 : Hid (∀ V, Calls Tryz.prog 4 #[.agg #[.int .i32 2, .int .i32 0]] V fun e w' => e = .returned (.int .i64 150) ∧ Below V.heap.size V w') := fun V => by
    have q := ocheck_any 2 0 V (by unfold in32; omega)
    rw [show ochk 2 0 = 150 by decide +kernel] at q
    exact q
  have C4 : Hid (∀ V, Calls Tryz.prog 4 #[.agg #[.int .i32 2, .int .i32 4]] V fun e w' => e = .returned (.int .i64 150) ∧ Below V.heap.size V w') := fun V => by
    have q := ocheck_any 2 4 V (by unfold in32; omega)
    rw [show ochk 2 4 = 150 by decide +kernel] at q
    exact q
  have C5 : Hid (∀ V, Calls Tryz.prog 4 #[.agg #[.int .i32 1001, .int .i32 1]] V fun e w' => e = .returned (.int .i64 150) ∧ Below V.heap.size V w') := fun V => by
    have q := ocheck_any 1001 1 V (by unfold in32; omega)
    rw [show ochk 1001 1 = 150 by decide +kernel] at q
    exact q
  have C6 : Hid (∀ V, Calls Tryz.prog 4 #[.agg #[.int .i32 3, .int .i32 (-3)]] V fun e w' => e = .returned (.int .i64 150) ∧ Below V.heap.size V w') := fun V => by
    have q := ocheck_any 3 (-3) V (by unfold in32; omega)
    rw [show ochk 3 (-3) = 150 by decide +kernel] at q
    exact q
  have C7 : Hid (∀ V, Calls Tryz.prog 4 #[.agg #[.int .i32 (-2), .int .i32 1]] V fun e w' => e = .returned (.int .i64 150) ∧ Below V.heap.size V w') := fun V => by
    have q := ocheck_any (-2) 1 V (by unfold in32; omega)
    rw [show ochk (-2) 1 = 150 by decide +kernel] at q
    exact q
  have C8 : Hid (∀ V, Calls Tryz.prog 4 #[.agg #[.int .i32 1, .int .i32 1001]] V fun e w' => e = .returned (.int .i64 150) ∧ Below V.heap.size V w') := fun V => by
    have q := ocheck_any 1 1001 V (by unfold in32; omega)
    rw [show ochk 1 1001 = 150 by decide +kernel] at q
    exact q
  go_enter Tryz.func3, Tryz.ntmps3
  go_wp2_with fail
  clear hX
  refine wp_loop_rounds 10 ?_
  rw [rounds_succ]
  have HD := hid (C0.out X)
  have b0 : X.cell? ⟨w.heap.size, 0, none⟩ = some (.int .i32 0) := Hbad0.out.cell 0
  have b1 : X.cell? ⟨w.heap.size, 1, none⟩ = some (.int .i32 0) := Hbad0.out.cell 1
  go_wp2_with fail
  refine Calls.mono HD.out ?_
  rintro e x0 ⟨rfl, hb⟩
  clear HD b0 b1 C0
  have HW1 := hid (bt HW0.out hb)
  have Hbad1 := hid (Hbad0.out.later hb Hbad0.out.lt)
  clear HW0 Hbad0
  clear hb
  go_wp2_with fail
  rw [rounds_succ]
  have HD := hid (C1.out x0)
  have b0 : x0.cell? ⟨w.heap.size, 2, none⟩ = some (.int .i32 0) := Hbad1.out.cell 2
  have b1 : x0.cell? ⟨w.heap.size, 3, none⟩ = some (.int .i32 1) := Hbad1.out.cell 3
  go_wp2_with fail
  refine Calls.mono HD.out ?_
  rintro e x1 ⟨rfl, hb⟩
  clear HD b0 b1 C1
  have HW2 := hid (bt HW1.out hb)
  have Hbad2 := hid (Hbad1.out.later hb Hbad1.out.lt)
  clear HW1 Hbad1
  clear hb
  go_wp2_with fail
  rw [rounds_succ]
  have HD := hid (C2.out x1)
  have b0 : x1.cell? ⟨w.heap.size, 4, none⟩ = some (.int .i32 1) := Hbad2.out.cell 4
  have b1 : x1.cell? ⟨w.heap.size, 5, none⟩ = some (.int .i32 1) := Hbad2.out.cell 5
  go_wp2_with fail
  refine Calls.mono HD.out ?_
  rintro e x2 ⟨rfl, hb⟩
  clear HD b0 b1 C2
  have HW3 := hid (bt HW2.out hb)
  have Hbad3 := hid (Hbad2.out.later hb Hbad2.out.lt)
  clear HW2 Hbad2
  clear hb
  go_wp2_with fail
  rw [rounds_succ]
  have HD := hid (C3.out x2)
  have b0 : x2.cell? ⟨w.heap.size, 6, none⟩ = some (.int .i32 2) := Hbad3.out.cell 6
  have b1 : x2.cell? ⟨w.heap.size, 7, none⟩ = some (.int .i32 0) := Hbad3.out.cell 7
  go_wp2_with fail
  refine Calls.mono HD.out ?_
  rintro e x3 ⟨rfl, hb⟩
  clear HD b0 b1 C3
  have HW4 := hid (bt HW3.out hb)
  have Hbad4 := hid (Hbad3.out.later hb Hbad3.out.lt)
  clear HW3 Hbad3
  clear hb
  go_wp2_with fail
  rw [rounds_succ]
  have HD := hid (C4.out x3)
  have b0 : x3.cell? ⟨w.heap.size, 8, none⟩ = some (.int .i32 2) := Hbad4.out.cell 8
  have b1 : x3.cell? ⟨w.heap.size, 9, none⟩ = some (.int .i32 4) := Hbad4.out.cell 9
  go_wp2_with fail
  refine Calls.mono HD.out ?_
  rintro e x4 ⟨rfl, hb⟩
  clear HD b0 b1 C4
  have HW5 := hid (bt HW4.out hb)
  have Hbad5 := hid (Hbad4.out.later hb Hbad4.out.lt)
  clear HW4 Hbad4
  clear hb
  go_wp2_with fail
  rw [rounds_succ]
  have HD := hid (C5.out x4)
  have b0 : x4.cell? ⟨w.heap.size, 10, none⟩ = some (.int .i32 1001) := Hbad5.out.cell 10
  have b1 : x4.cell? ⟨w.heap.size, 11, none⟩ = some (.int .i32 1) := Hbad5.out.cell 11
  go_wp2_with fail
  refine Calls.mono HD.out ?_
  rintro e x5 ⟨rfl, hb⟩
  clear HD b0 b1 C5
  have HW6 := hid (bt HW5.out hb)
  have Hbad6 := hid (Hbad5.out.later hb Hbad5.out.lt)
  clear HW5 Hbad5
  clear hb
  go_wp2_with fail
  rw [rounds_succ]
  have HD := hid (C6.out x5)
  have b0 : x5.cell? ⟨w.heap.size, 12, none⟩ = some (.int .i32 3) := Hbad6.out.cell 12
  have b1 : x5.cell? ⟨w.heap.size, 13, none⟩ = some (.int .i32 (-3)) := Hbad6.out.cell 13
  go_wp2_with fail
  refine Calls.mono HD.out ?_
  rintro e x6 ⟨rfl, hb⟩
  clear HD b0 b1 C6
  have HW7 := hid (bt HW6.out hb)
  have Hbad7 := hid (Hbad6.out.later hb Hbad6.out.lt)
  clear HW6 Hbad6
  clear hb
  go_wp2_with fail
  rw [rounds_succ]
  have HD := hid (C7.out x6)
  have b0 : x6.cell? ⟨w.heap.size, 14, none⟩ = some (.int .i32 (-2)) := Hbad7.out.cell 14
  have b1 : x6.cell? ⟨w.heap.size, 15, none⟩ = some (.int .i32 1) := Hbad7.out.cell 15
  go_wp2_with fail
  refine Calls.mono HD.out ?_
  rintro e x7 ⟨rfl, hb⟩
  clear HD b0 b1 C7
  have HW8 := hid (bt HW7.out hb)
  have Hbad8 := hid (Hbad7.out.later hb Hbad7.out.lt)
  clear HW7 Hbad7
  clear hb
  go_wp2_with fail
  rw [rounds_succ]
  have HD := hid (C8.out x7)
  have b0 : x7.cell? ⟨w.heap.size, 16, none⟩ = some (.int .i32 1) := Hbad8.out.cell 16
  have b1 : x7.cell? ⟨w.heap.size, 17, none⟩ = some (.int .i32 1001) := Hbad8.out.cell 17
  go_wp2_with fail
  refine Calls.mono HD.out ?_
  rintro e x8 ⟨rfl, hb⟩
  clear HD b0 b1 C8
  have HW9 := hid (bt HW8.out hb)
  have Hbad9 := hid (Hbad8.out.later hb Hbad8.out.lt)
  clear HW8 Hbad8
  clear hb
  go_wp2_with fail
  rw [rounds_succ]
  clear Hbad9
  obtain ⟨Yr, hYr⟩ : ∃ Y, x8.alloc (.cells #[.int .i32 0, .int .i32 0] 23) = Y := ⟨_, rfl⟩
  have NYr : Hid (Box Yr x8.heap.size 23 #[.int .i32 0, .int .i32 0]) := by rw [← hYr]; exact Box.made x8 _ _
  have BYr : Hid (Below x8.heap.size x8 Yr) := by rw [← hYr]; exact alloc_later _ _
  obtain ⟨Kr0, Kr1, qKr0, qKr1, ⟨rKr0, rKr1⟩, ⟨fKr0, fKr1⟩, Pr⟩ := rchain2 NYr.out (by decide) (.int .i32 2) (.int .i32 1)
  have HW10 : Hid (Below w.heap.size w Kr1) := Pr.out.2.2.2.1 _ _ HW9.out.size (bt HW9.out BYr.out)
  have Hr10 := hid Pr.out.1
  clear HW9 NYr BYr Pr
  have HQ : Hid (∀ V, Calls Tryz.prog 5 #[.agg #[.int .i32 2, .int .i32 1], .int .i64 1025] V fun e w' => e = .returned (.tuple #[.agg #[.bool false, .slice none 0 0, .slice none 0 0, .bool false, .slice none 0 0, .slice none 0 0], .int .i64 2]) ∧ Below V.heap.size V w') := fun V => by
    have q := oPower_bad 2 1 1025 V (by unfold in32; omega) (by omega) (by omega) (.inr ⟨rn_ok, by omega⟩)
    rw [if_pos rn_ok] at q
    exact q
  have HD := hid (HQ.out Kr1)
  have cr0 : Kr1.cell? ⟨x8.heap.size, 0, none⟩ = some (.int .i32 2) := Hr10.out.cell 0
  have cr1 : Kr1.cell? ⟨x8.heap.size, 1, none⟩ = some (.int .i32 1) := Hr10.out.cell 1
  go_wp2_with fail
  clear qKr0 qKr1 rKr0 rKr1 fKr0 fKr1 hYr
  refine Calls.mono HD.out ?_
  rintro e w11 ⟨rfl, hb⟩
  clear HD cr0 cr1
  clear HQ
  have HW12 := hid (bt HW10.out hb)
  have Hr12 := hid (Hr10.out.later hb Hr10.out.lt)
  clear HW10 Hr10
  clear hb
  obtain ⟨Ye1, hYe1⟩ : ∃ Y, w11.alloc (.cells #[.bool false, .slice none 0 0, .slice none 0 0, .bool false, .slice none 0 0, .slice none 0 0] 31) = Y := ⟨_, rfl⟩
  have NYe1 : Hid (Box Ye1 w11.heap.size 31 #[.bool false, .slice none 0 0, .slice none 0 0, .bool false, .slice none 0 0, .slice none 0 0]) := by rw [← hYe1]; exact Box.made w11 _ _
  have BYe1 : Hid (Below w11.heap.size w11 Ye1) := by rw [← hYe1]; exact alloc_later _ _
  obtain ⟨Ke10, Ke11, Ke12, Ke13, Ke14, Ke15, qKe10, qKe11, qKe12, qKe13, qKe14, qKe15, ⟨rKe10, rKe11, rKe12, rKe13, rKe14, rKe15⟩, ⟨fKe10, fKe11, fKe12, fKe13, fKe14, fKe15⟩, Pe1⟩ := rchain6 NYe1.out (by decide) (.bool false) (.slice none 0 0) (.slice none 0 0) (.bool false) (.slice none 0 0) (.slice none 0 0)
  have HW13 : Hid (Below w.heap.size w Ke15) := Pe1.out.2.2.2.1 _ _ HW12.out.size (bt HW12.out BYe1.out)
  have Hr13 := hid (Pe1.out.2.1 _ _ _ (Nat.ne_of_lt Hr12.out.lt) (Hr12.out.later BYe1.out Hr12.out.lt))
  have He113 := hid Pe1.out.1
  clear HW12 Hr12 NYe1 BYe1 Pe1
  have HQ : Hid (∀ V, Calls Tryz.prog 5 #[.agg #[.int .i32 2, .int .i32 1], .int .i64 (-1025)] V fun e w' => e = .returned (.tuple #[.agg #[.bool false, .slice none 0 0, .slice none 0 0, .bool false, .slice none 0 0, .slice none 0 0], .int .i64 2]) ∧ Below V.heap.size V w') := fun V => by
    have q := oPower_bad 2 1 (-1025) V (by unfold in32; omega) (by omega) (by omega) (.inr ⟨rn_ok, by omega⟩)
    rw [if_pos rn_ok] at q
    exact q
  have HD := hid (HQ.out Ke15)
  have cr0 : Ke15.cell? ⟨x8.heap.size, 0, none⟩ = some (.int .i32 2) := Hr13.out.cell 0
  have cr1 : Ke15.cell? ⟨x8.heap.size, 1, none⟩ = some (.int .i32 1) := Hr13.out.cell 1
  go_wp2_with fail
  clear qKe10 qKe11 qKe12 qKe13 qKe14 qKe15 rKe10 rKe11 rKe12 rKe13 rKe14 rKe15 fKe10 fKe11 fKe12 fKe13 fKe14 fKe15 hYe1
  refine Calls.mono HD.out ?_
  rintro e w14 ⟨rfl, hb⟩
  clear HD cr0 cr1
  clear HQ
  have HW15 := hid (bt HW13.out hb)
  have Hr15 := hid (Hr13.out.later hb Hr13.out.lt)
  have He115 := hid (He113.out.later hb He113.out.lt)
  clear HW13 Hr13 He113
  clear hb
  obtain ⟨Ye2, hYe2⟩ : ∃ Y, w14.alloc (.cells #[.bool false, .slice none 0 0, .slice none 0 0, .bool false, .slice none 0 0, .slice none 0 0] 31) = Y := ⟨_, rfl⟩
  have NYe2 : Hid (Box Ye2 w14.heap.size 31 #[.bool false, .slice none 0 0, .slice none 0 0, .bool false, .slice none 0 0, .slice none 0 0]) := by rw [← hYe2]; exact Box.made w14 _ _
  have BYe2 : Hid (Below w14.heap.size w14 Ye2) := by rw [← hYe2]; exact alloc_later _ _
  obtain ⟨Ke20, Ke21, Ke22, Ke23, Ke24, Ke25, qKe20, qKe21, qKe22, qKe23, qKe24, qKe25, ⟨rKe20, rKe21, rKe22, rKe23, rKe24, rKe25⟩, ⟨fKe20, fKe21, fKe22, fKe23, fKe24, fKe25⟩, Pe2⟩ := rchain6 NYe2.out (by decide) (.bool false) (.slice none 0 0) (.slice none 0 0) (.bool false) (.slice none 0 0) (.slice none 0 0)
  have HW16 : Hid (Below w.heap.size w Ke25) := Pe2.out.2.2.2.1 _ _ HW15.out.size (bt HW15.out BYe2.out)
  have Hr16 := hid (Pe2.out.2.1 _ _ _ (Nat.ne_of_lt Hr15.out.lt) (Hr15.out.later BYe2.out Hr15.out.lt))
  have He116 := hid (Pe2.out.2.1 _ _ _ (Nat.ne_of_lt He115.out.lt) (He115.out.later BYe2.out He115.out.lt))
  have He216 := hid Pe2.out.1
  clear HW15 Hr15 He115 NYe2 BYe2 Pe2
  have HD := hid (oPower_any 2 1 2 Ke25 rn_ok (by decide) (by decide))
  have cr0 : Ke25.cell? ⟨x8.heap.size, 0, none⟩ = some (.int .i32 2) := Hr16.out.cell 0
  have cr1 : Ke25.cell? ⟨x8.heap.size, 1, none⟩ = some (.int .i32 1) := Hr16.out.cell 1
  go_wp2_with fail
  clear qKe20 qKe21 qKe22 qKe23 qKe24 qKe25 rKe20 rKe21 rKe22 rKe23 rKe24 rKe25 fKe20 fKe21 fKe22 fKe23 fKe24 fKe25 hYe2
  refine Calls.mono HD.out ?_
  rintro e w17 ⟨gp, rfl, ok, ik, hb, _⟩
  clear HD cr0 cr1
  have Ogp0 := hid (ok.out.base HW16.out.size)
  have Igp := hid ik.out
  clear ok ik
  have HW18 := hid (bt HW16.out hb.out)
  have Hr18 := hid (Hr16.out.later hb.out Hr16.out.lt)
  have He118 := hid (He116.out.later hb.out He116.out.lt)
  have He218 := hid (He216.out.later hb.out He216.out.lt)
  clear HW16 Hr16 He116 He216
  clear hb
  have Ep := hid (rn_words Igp.out true [7] [25] false [24] [25] ⟨rn_wd (by decide), rn_wd (by decide), rn_wd (by decide), rn_wd (by decide)⟩ (by decide +kernel) (by decide +kernel) (by decide +kernel) (by decide +kernel))
  obtain ⟨Ygp, hYgp⟩ : ∃ Y, w17.alloc (.cells #[.bool false, .slice none 0 0, .slice none 0 0, .bool false, .slice none 0 0, .slice none 0 0] 31) = Y := ⟨_, rfl⟩
  have NYgp : Hid (Box Ygp w17.heap.size 31 #[.bool false, .slice none 0 0, .slice none 0 0, .bool false, .slice none 0 0, .slice none 0 0]) := by rw [← hYgp]; exact Box.made w17 _ _
  have BYgp : Hid (Below w17.heap.size w17 Ygp) := by rw [← hYgp]; exact alloc_later _ _
  obtain ⟨Kgp0, Kgp1, Kgp2, Kgp3, Kgp4, Kgp5, qKgp0, qKgp1, qKgp2, qKgp3, qKgp4, qKgp5, ⟨rKgp0, rKgp1, rKgp2, rKgp3, rKgp4, rKgp5⟩, ⟨fKgp0, fKgp1, fKgp2, fKgp3, fKgp4, fKgp5⟩, Pgp⟩ := rchain6 NYgp.out (by decide) (.bool gp.n) (.slice gp.a gp.xs.length gp.ca) (.slice gp.b gp.ys.length gp.cb) (.bool gp.m) (.slice gp.c gp.us.length gp.cc) (.slice gp.d gp.vs.length gp.cd)
  have HW19 : Hid (Below w.heap.size w Kgp5) := Pgp.out.2.2.2.1 _ _ HW18.out.size (bt HW18.out BYgp.out)
  have Hr19 := hid (Pgp.out.2.1 _ _ _ (Nat.ne_of_lt Hr18.out.lt) (Hr18.out.later BYgp.out Hr18.out.lt))
  have He119 := hid (Pgp.out.2.1 _ _ _ (Nat.ne_of_lt He118.out.lt) (He118.out.later BYgp.out He118.out.lt))
  have He219 := hid (Pgp.out.2.1 _ _ _ (Nat.ne_of_lt He218.out.lt) (He218.out.later BYgp.out He218.out.lt))
  have Ogp19 := hid (ow_put (Ogp0.out.later BYgp.out) Pgp.out.2.2.1)
  have Hgp19 := hid Pgp.out.1
  clear HW18 Hr18 He118 He218 Ogp0 NYgp BYgp Pgp
  have HD := hid (oPower_any 2 1 (-1) Kgp5 rn_ok (by decide) (by decide))
  have cr0 : Kgp5.cell? ⟨x8.heap.size, 0, none⟩ = some (.int .i32 2) := Hr19.out.cell 0
  have cr1 : Kgp5.cell? ⟨x8.heap.size, 1, none⟩ = some (.int .i32 1) := Hr19.out.cell 1
  go_wp2_with fail
  clear qKgp0 qKgp1 qKgp2 qKgp3 qKgp4 qKgp5 rKgp0 rKgp1 rKgp2 rKgp3 rKgp4 rKgp5 fKgp0 fKgp1 fKgp2 fKgp3 fKgp4 fKgp5 hYgp
  refine Calls.mono HD.out ?_
  rintro e w20 ⟨gm, rfl, ok, ik, hb, _⟩
  clear HD cr0 cr1
  have Ogm0 := hid (ok.out.base HW19.out.size)
  have Igm := hid ik.out
  clear ok ik
  have HW21 := hid (bt HW19.out hb.out)
  have Hr21 := hid (Hr19.out.later hb.out Hr19.out.lt)
  have He121 := hid (He119.out.later hb.out He119.out.lt)
  have He221 := hid (He219.out.later hb.out He219.out.lt)
  have Hgp21 := hid (Hgp19.out.later hb.out Hgp19.out.lt)
  have Ogp21 := hid (Ogp19.out.later hb.out)
  clear HW19 Hr19 He119 He219 Hgp19 Ogp19
  clear hb
  have Em := hid (rn_words Igm.out false [3] [5] true [4] [5] ⟨rn_wd (by decide), rn_wd (by decide), rn_wd (by decide), rn_wd (by decide)⟩ (by decide +kernel) (by decide +kernel) (by decide +kernel) (by decide +kernel))
  obtain ⟨Ygm, hYgm⟩ : ∃ Y, w20.alloc (.cells #[.bool false, .slice none 0 0, .slice none 0 0, .bool false, .slice none 0 0, .slice none 0 0] 31) = Y := ⟨_, rfl⟩
  have NYgm : Hid (Box Ygm w20.heap.size 31 #[.bool false, .slice none 0 0, .slice none 0 0, .bool false, .slice none 0 0, .slice none 0 0]) := by rw [← hYgm]; exact Box.made w20 _ _
  have BYgm : Hid (Below w20.heap.size w20 Ygm) := by rw [← hYgm]; exact alloc_later _ _
  obtain ⟨Kgm0, Kgm1, Kgm2, Kgm3, Kgm4, Kgm5, qKgm0, qKgm1, qKgm2, qKgm3, qKgm4, qKgm5, ⟨rKgm0, rKgm1, rKgm2, rKgm3, rKgm4, rKgm5⟩, ⟨fKgm0, fKgm1, fKgm2, fKgm3, fKgm4, fKgm5⟩, Pgm⟩ := rchain6 NYgm.out (by decide) (.bool gm.n) (.slice gm.a gm.xs.length gm.ca) (.slice gm.b gm.ys.length gm.cb) (.bool gm.m) (.slice gm.c gm.us.length gm.cc) (.slice gm.d gm.vs.length gm.cd)
  have HW22 : Hid (Below w.heap.size w Kgm5) := Pgm.out.2.2.2.1 _ _ HW21.out.size (bt HW21.out BYgm.out)
  have Hr22 := hid (Pgm.out.2.1 _ _ _ (Nat.ne_of_lt Hr21.out.lt) (Hr21.out.later BYgm.out Hr21.out.lt))
  have He122 := hid (Pgm.out.2.1 _ _ _ (Nat.ne_of_lt He121.out.lt) (He121.out.later BYgm.out He121.out.lt))
  have He222 := hid (Pgm.out.2.1 _ _ _ (Nat.ne_of_lt He221.out.lt) (He221.out.later BYgm.out He221.out.lt))
  have Hgp22 := hid (Pgm.out.2.1 _ _ _ (Nat.ne_of_lt Hgp21.out.lt) (Hgp21.out.later BYgm.out Hgp21.out.lt))
  have Ogp22 := hid (ow_put (Ogp21.out.later BYgm.out) Pgm.out.2.2.1)
  have Ogm22 := hid (ow_put (Ogm0.out.later BYgm.out) Pgm.out.2.2.1)
  have Hgm22 := hid Pgm.out.1
  clear HW21 Hr21 He121 He221 Hgp21 Ogp21 Ogm0 NYgm BYgm Pgm
  have HD := hid (oPower_any 2 1 0 Kgm5 rn_ok (by decide) (by decide))
  have cr0 : Kgm5.cell? ⟨x8.heap.size, 0, none⟩ = some (.int .i32 2) := Hr22.out.cell 0
  have cr1 : Kgm5.cell? ⟨x8.heap.size, 1, none⟩ = some (.int .i32 1) := Hr22.out.cell 1
  go_wp2_with fail
  clear qKgm0 qKgm1 qKgm2 qKgm3 qKgm4 qKgm5 rKgm0 rKgm1 rKgm2 rKgm3 rKgm4 rKgm5 fKgm0 fKgm1 fKgm2 fKgm3 fKgm4 fKgm5 hYgm
  refine Calls.mono HD.out ?_
  rintro e w23 ⟨go, rfl, ok, ik, hb, _⟩
  clear HD cr0 cr1
  have Ogo0 := hid (ok.out.base HW22.out.size)
  have Igo := hid ik.out
  clear ok ik
  have HW24 := hid (bt HW22.out hb.out)
  have Hr24 := hid (Hr22.out.later hb.out Hr22.out.lt)
  have He124 := hid (He122.out.later hb.out He122.out.lt)
  have He224 := hid (He222.out.later hb.out He222.out.lt)
  have Hgp24 := hid (Hgp22.out.later hb.out Hgp22.out.lt)
  have Hgm24 := hid (Hgm22.out.later hb.out Hgm22.out.lt)
  have Ogp24 := hid (Ogp22.out.later hb.out)
  have Ogm24 := hid (Ogm22.out.later hb.out)
  clear HW22 Hr22 He122 He222 Hgp22 Hgm22 Ogp22 Ogm22
  clear hb
  have Eo := hid (rn_words Igo.out false [1] [1] false [] [1] ⟨rn_wd (by decide), rn_wd (by decide), rn_wd (by decide), rn_wd (by decide)⟩ (by decide +kernel) (by decide +kernel) (by decide +kernel) (by decide +kernel))
  obtain ⟨Ygo, hYgo⟩ : ∃ Y, w23.alloc (.cells #[.bool false, .slice none 0 0, .slice none 0 0, .bool false, .slice none 0 0, .slice none 0 0] 31) = Y := ⟨_, rfl⟩
  have NYgo : Hid (Box Ygo w23.heap.size 31 #[.bool false, .slice none 0 0, .slice none 0 0, .bool false, .slice none 0 0, .slice none 0 0]) := by rw [← hYgo]; exact Box.made w23 _ _
  have BYgo : Hid (Below w23.heap.size w23 Ygo) := by rw [← hYgo]; exact alloc_later _ _
  obtain ⟨Kgo0, Kgo1, Kgo2, Kgo3, Kgo4, Kgo5, qKgo0, qKgo1, qKgo2, qKgo3, qKgo4, qKgo5, ⟨rKgo0, rKgo1, rKgo2, rKgo3, rKgo4, rKgo5⟩, ⟨fKgo0, fKgo1, fKgo2, fKgo3, fKgo4, fKgo5⟩, Pgo⟩ := rchain6 NYgo.out (by decide) (.bool go.n) (.slice go.a go.xs.length go.ca) (.slice go.b go.ys.length go.cb) (.bool go.m) (.slice go.c go.us.length go.cc) (.slice go.d go.vs.length go.cd)
  have HW25 : Hid (Below w.heap.size w Kgo5) := Pgo.out.2.2.2.1 _ _ HW24.out.size (bt HW24.out BYgo.out)
  have Hr25 := hid (Pgo.out.2.1 _ _ _ (Nat.ne_of_lt Hr24.out.lt) (Hr24.out.later BYgo.out Hr24.out.lt))
  have He125 := hid (Pgo.out.2.1 _ _ _ (Nat.ne_of_lt He124.out.lt) (He124.out.later BYgo.out He124.out.lt))
  have He225 := hid (Pgo.out.2.1 _ _ _ (Nat.ne_of_lt He224.out.lt) (He224.out.later BYgo.out He224.out.lt))
  have Hgp25 := hid (Pgo.out.2.1 _ _ _ (Nat.ne_of_lt Hgp24.out.lt) (Hgp24.out.later BYgo.out Hgp24.out.lt))
  have Hgm25 := hid (Pgo.out.2.1 _ _ _ (Nat.ne_of_lt Hgm24.out.lt) (Hgm24.out.later BYgo.out Hgm24.out.lt))
  have Ogp25 := hid (ow_put (Ogp24.out.later BYgo.out) Pgo.out.2.2.1)
  have Ogm25 := hid (ow_put (Ogm24.out.later BYgo.out) Pgo.out.2.2.1)
  have Ogo25 := hid (ow_put (Ogo0.out.later BYgo.out) Pgo.out.2.2.1)
  have Hgo25 := hid Pgo.out.1
  clear HW24 Hr24 He124 He224 Hgp24 Hgm24 Ogp24 Ogm24 Ogo0 NYgo BYgo Pgo
  obtain ⟨U, hU⟩ : ∃ U, Kgo5.alloc (.cells #[.int .i32 2, .int .i32 1, .int .i32 3, .int .i32 1, .int .i32 2, .int .i32 1] 23) = U := ⟨_, rfl⟩
  have BU : Hid (Below Kgo5.heap.size Kgo5 U) := by rw [← hU]; exact alloc_later _ _
  have BX : Hid (Box U Kgo5.heap.size 23 #[.int .i32 2, .int .i32 1, .int .i32 3, .int .i32 1, .int .i32 2, .int .i32 1]) := by rw [← hU]; exact Box.made Kgo5 _ _
  have HA : Hid (Calls Tryz.prog 6 #[.slice (some ⟨Kgo5.heap.size, 0, none⟩) 3 3] U fun e w' => e = .returned (.tuple #[.int .i64 2, .int .i64 0]) ∧ Below U.heap.size U w') := rn_apart Kgo5.heap.size 3 3 [(2, 1), (3, 1), (2, 1)] 2 0 U rfl (rn_pairs (by decide)) BX.out.lt (fun j hj => by
      match j, hj with
      | 0, _ => exact ⟨BX.out.cell 0, BX.out.cell 1⟩
      | 1, _ => exact ⟨BX.out.cell 2, BX.out.cell 3⟩
      | 2, _ => exact ⟨BX.out.cell 4, BX.out.cell 5⟩) (by decide) rn_three
  have cr0 : Kgo5.cell? ⟨x8.heap.size, 0, none⟩ = some (.int .i32 2) := Hr25.out.cell 0
  have cr1 : Kgo5.cell? ⟨x8.heap.size, 1, none⟩ = some (.int .i32 1) := Hr25.out.cell 1
  go_wp2_with fail
  clear qKgo0 qKgo1 qKgo2 qKgo3 qKgo4 qKgo5 rKgo0 rKgo1 rKgo2 rKgo3 rKgo4 rKgo5 fKgo0 fKgo1 fKgo2 fKgo3 fKgo4 fKgo5 hYgo cr0 cr1 hU
  refine Calls.mono HA.out ?_
  rintro e w26 ⟨rfl, hb⟩
  have BV := hid (bt BU.out hb)
  clear HA hb BU BX
  have HW27 := hid (bt HW25.out BV.out)
  have Hr27 := hid (Hr25.out.later BV.out Hr25.out.lt)
  have He127 := hid (He125.out.later BV.out He125.out.lt)
  have He227 := hid (He225.out.later BV.out He225.out.lt)
  have Hgp27 := hid (Hgp25.out.later BV.out Hgp25.out.lt)
  have Hgm27 := hid (Hgm25.out.later BV.out Hgm25.out.lt)
  have Hgo27 := hid (Hgo25.out.later BV.out Hgo25.out.lt)
  have Ogp27 := hid (Ogp25.out.later BV.out)
  have Ogm27 := hid (Ogm25.out.later BV.out)
  have Ogo27 := hid (Ogo25.out.later BV.out)
  clear HW25 Hr25 He125 He225 Hgp25 Hgm25 Hgo25 Ogp25 Ogm25 Ogo25
  clear BV
  have HD := hid (rn_nil w26)
  go_wp2_with fail
  refine Calls.mono HD.out ?_
  rintro e w28 ⟨rfl, hb⟩
  clear HD 
  have HW29 := hid (bt HW27.out hb)
  have Hr29 := hid (Hr27.out.later hb Hr27.out.lt)
  have He129 := hid (He127.out.later hb He127.out.lt)
  have He229 := hid (He227.out.later hb He227.out.lt)
  have Hgp29 := hid (Hgp27.out.later hb Hgp27.out.lt)
  have Hgm29 := hid (Hgm27.out.later hb Hgm27.out.lt)
  have Hgo29 := hid (Hgo27.out.later hb Hgo27.out.lt)
  have Ogp29 := hid (Ogp27.out.later hb)
  have Ogm29 := hid (Ogm27.out.later hb)
  have Ogo29 := hid (Ogo27.out.later hb)
  clear HW27 Hr27 He127 He227 Hgp27 Hgm27 Hgo27 Ogp27 Ogm27 Ogo27
  clear hb
  obtain ⟨U, hU⟩ : ∃ U, w28.alloc (.cells #[.int .i32 2, .int .i32 1, .int .i32 0, .int .i32 0] 23) = U := ⟨_, rfl⟩
  have BU : Hid (Below w28.heap.size w28 U) := by rw [← hU]; exact alloc_later _ _
  have BX : Hid (Box U w28.heap.size 23 #[.int .i32 2, .int .i32 1, .int .i32 0, .int .i32 0]) := by rw [← hU]; exact Box.made w28 _ _
  have HA : Hid (Calls Tryz.prog 6 #[.slice (some ⟨w28.heap.size, 0, none⟩) 2 2] U fun e w' => e = .returned (.tuple #[.int .i64 1, .int .i64 150]) ∧ Below U.heap.size U w') := rn_apart w28.heap.size 2 2 [(2, 1), (0, 0)] 1 150 U rfl (rn_pairs (by decide)) BX.out.lt (fun j hj => by
      match j, hj with
      | 0, _ => exact ⟨BX.out.cell 0, BX.out.cell 1⟩
      | 1, _ => exact ⟨BX.out.cell 2, BX.out.cell 3⟩) (by decide) rn_two
  have cr0 : w28.cell? ⟨x8.heap.size, 0, none⟩ = some (.int .i32 2) := Hr29.out.cell 0
  have cr1 : w28.cell? ⟨x8.heap.size, 1, none⟩ = some (.int .i32 1) := Hr29.out.cell 1
  go_wp2_with fail
  clear cr0 cr1 hU
  refine Calls.mono HA.out ?_
  rintro e w30 ⟨rfl, hb⟩
  have BV := hid (bt BU.out hb)
  clear HA hb BU BX
  have HW31 := hid (bt HW29.out BV.out)
  have Hr31 := hid (Hr29.out.later BV.out Hr29.out.lt)
  have He131 := hid (He129.out.later BV.out He129.out.lt)
  have He231 := hid (He229.out.later BV.out He229.out.lt)
  have Hgp31 := hid (Hgp29.out.later BV.out Hgp29.out.lt)
  have Hgm31 := hid (Hgm29.out.later BV.out Hgm29.out.lt)
  have Hgo31 := hid (Hgo29.out.later BV.out Hgo29.out.lt)
  have Ogp31 := hid (Ogp29.out.later BV.out)
  have Ogm31 := hid (Ogm29.out.later BV.out)
  have Ogo31 := hid (Ogo29.out.later BV.out)
  clear HW29 Hr29 He129 He229 Hgp29 Hgm29 Hgo29 Ogp29 Ogm29 Ogo29
  clear BV
  have hmk := rn_make w30
  obtain ⟨U, hU⟩ : ∃ U, w30.alloc rnRow = U := ⟨_, rfl⟩
  have BU : Hid (Below w30.heap.size w30 U) := by rw [← hU]; exact alloc_later _ _
  have HA : Hid (Calls Tryz.prog 6 #[.slice (some ⟨w30.heap.size, 0, none⟩) 65 65] U fun e w' => e = .returned (.tuple #[.int .i64 0, .int .i64 3]) ∧ Below U.heap.size U w') := by
    rw [← hU]
    exact rn_apart w30.heap.size 65 65 (List.replicate 65 (0, 0)) 0 3 _ (by rw [List.length_replicate]) (fun j => by rw [rn_zero]; unfold in32; omega) (Box.made w30 _ _).lt (fun j hj => by rw [rn_zero]; exact ⟨rn_cells _ _ (by omega), rn_cells _ _ (by omega)⟩) (by decide) (rn_long _ (by rw [List.length_replicate]; decide))
  rw [hU] at hmk
  go_wp2_with fail
  clear hU hmk
  refine Calls.mono HA.out ?_
  rintro e wm ⟨rfl, hb⟩
  have BV := hid (bt BU.out hb)
  clear HA hb BU
  have HW32 := hid (bt HW31.out BV.out)
  have Hr32 := hid (Hr31.out.later BV.out Hr31.out.lt)
  have He132 := hid (He131.out.later BV.out He131.out.lt)
  have He232 := hid (He231.out.later BV.out He231.out.lt)
  have Hgp32 := hid (Hgp31.out.later BV.out Hgp31.out.lt)
  have Hgm32 := hid (Hgm31.out.later BV.out Hgm31.out.lt)
  have Hgo32 := hid (Hgo31.out.later BV.out Hgo31.out.lt)
  have Ogp32 := hid (Ogp31.out.later BV.out)
  have Ogm32 := hid (Ogm31.out.later BV.out)
  have Ogo32 := hid (Ogo31.out.later BV.out)
  clear HW31 Hr31 He131 He231 Hgp31 Hgm31 Hgo31 Ogp31 Ogm31 Ogo31
  clear BV
  obtain ⟨U, hU⟩ : ∃ U, ((wm.alloc (.cells #[.int .u32 1] 38)).alloc (.cells #[.int .u32 1] 38)).alloc (.cells #[.int .u32 1] 38) = U := ⟨_, rfl⟩
  have BU : Hid (Below wm.heap.size wm U) := by rw [← hU]; exact bt (bt (alloc_later _ _) (alloc_later _ _)) (alloc_later _ _)
  have HA : Hid (Calls Tryz.prog 7 #[.agg #[.bool false, .slice (some ⟨wm.heap.size, 0, none⟩) 1 1, .slice (some ⟨wm.heap.size + 1, 0, none⟩) 1 1, .bool false, .slice none 0 0, .slice (some ⟨wm.heap.size + 1 + 1, 0, none⟩) 1 1]] U fun z w' => z = .returned (.tuple #[.agg #[.int .i32 0, .int .i32 0], .bool false]) ∧ Below U.heap.size U w') := by
    refine oFind_no ⟨false, some ⟨wm.heap.size, 0, none⟩, 1, [1], some ⟨wm.heap.size + 1, 0, none⟩, 1, [1], false, none, 0, [], some ⟨wm.heap.size + 1 + 1, 0, none⟩, 1, [1]⟩ (rn_none _ _ _ _ _ _ _ _) U ?_
    rw [← hU]
    exact ⟨(Sl.own (olit wm 1) (rn_wd (l := [1]) (by decide))).later (bt (alloc_later _ _) (alloc_later _ _)), (Sl.own (olit' 1 (by simp)) (rn_wd (l := [1]) (by decide))).later (alloc_later _ _), ⟨none, 0, rfl, rfl, Wd.nil, .inl rfl, Nat.le_refl _, Nat.zero_le _, fun _ => rfl⟩, Sl.own (olit' 1 (by simp)) (rn_wd (l := [1]) (by decide))⟩
  go_wp2_with fail
  clear hU
  refine Calls.mono HA.out ?_
  rintro e wf ⟨rfl, hb⟩
  have BV := hid (bt BU.out hb)
  clear HA hb BU
  have HW33 := hid (bt HW32.out BV.out)
  have Hr33 := hid (Hr32.out.later BV.out Hr32.out.lt)
  have He133 := hid (He132.out.later BV.out He132.out.lt)
  have He233 := hid (He232.out.later BV.out He232.out.lt)
  have Hgp33 := hid (Hgp32.out.later BV.out Hgp32.out.lt)
  have Hgm33 := hid (Hgm32.out.later BV.out Hgm32.out.lt)
  have Hgo33 := hid (Hgo32.out.later BV.out Hgo32.out.lt)
  have Ogp33 := hid (Ogp32.out.later BV.out)
  have Ogm33 := hid (Ogm32.out.later BV.out)
  have Ogo33 := hid (Ogo32.out.later BV.out)
  clear HW32 Hr32 He132 He232 Hgp32 Hgm32 Hgo32 Ogp32 Ogm32 Ogo32
  clear BV
  obtain ⟨Yx, hYx⟩ : ∃ Y, wf.alloc (.cells #[.int .i32 0, .int .i32 0] 23) = Y := ⟨_, rfl⟩
  have NYx : Hid (Box Yx wf.heap.size 23 #[.int .i32 0, .int .i32 0]) := by rw [← hYx]; exact Box.made wf _ _
  have BYx : Hid (Below wf.heap.size wf Yx) := by rw [← hYx]; exact alloc_later _ _
  obtain ⟨Kx0, Kx1, qKx0, qKx1, ⟨rKx0, rKx1⟩, ⟨fKx0, fKx1⟩, Px⟩ := rchain2 NYx.out (by decide) (.int .i32 0) (.int .i32 0)
  have HW34 : Hid (Below w.heap.size w Kx1) := Px.out.2.2.2.1 _ _ HW33.out.size (bt HW33.out BYx.out)
  have Hr34 := hid (Px.out.2.1 _ _ _ (Nat.ne_of_lt Hr33.out.lt) (Hr33.out.later BYx.out Hr33.out.lt))
  have He134 := hid (Px.out.2.1 _ _ _ (Nat.ne_of_lt He133.out.lt) (He133.out.later BYx.out He133.out.lt))
  have He234 := hid (Px.out.2.1 _ _ _ (Nat.ne_of_lt He233.out.lt) (He233.out.later BYx.out He233.out.lt))
  have Hgp34 := hid (Px.out.2.1 _ _ _ (Nat.ne_of_lt Hgp33.out.lt) (Hgp33.out.later BYx.out Hgp33.out.lt))
  have Hgm34 := hid (Px.out.2.1 _ _ _ (Nat.ne_of_lt Hgm33.out.lt) (Hgm33.out.later BYx.out Hgm33.out.lt))
  have Hgo34 := hid (Px.out.2.1 _ _ _ (Nat.ne_of_lt Hgo33.out.lt) (Hgo33.out.later BYx.out Hgo33.out.lt))
  have Ogp34 := hid (ow_put (Ogp33.out.later BYx.out) Px.out.2.2.1)
  have Ogm34 := hid (ow_put (Ogm33.out.later BYx.out) Px.out.2.2.1)
  have Ogo34 := hid (ow_put (Ogo33.out.later BYx.out) Px.out.2.2.1)
  have Hx34 := hid Px.out.1
  clear HW33 Hr33 He133 He233 Hgp33 Hgm33 Hgo33 Ogp33 Ogm33 Ogo33 NYx BYx Px
  have HQ : Hid (∀ V, Calls Tryz.prog 4 #[.agg #[.int .i32 1, .int .i32 (-1000)]] V fun e w' => e = .returned (.int .i64 0) ∧ Below V.heap.size V w') := fun V => by
    have q := ocheck_any 1 (-1000) V (by unfold in32; omega)
    rw [show ochk 1 (-1000) = 0 by decide +kernel] at q
    exact q
  have HD := hid (HQ.out Kx1)
  go_wp2_with fail
  clear qKx0 qKx1 rKx0 rKx1 fKx0 fKx1 hYx
  refine Calls.mono HD.out ?_
  rintro e w35 ⟨rfl, hb⟩
  clear HD 
  clear HQ
  have HW36 := hid (bt HW34.out hb)
  have Hr36 := hid (Hr34.out.later hb Hr34.out.lt)
  have He136 := hid (He134.out.later hb He134.out.lt)
  have He236 := hid (He234.out.later hb He234.out.lt)
  have Hgp36 := hid (Hgp34.out.later hb Hgp34.out.lt)
  have Hgm36 := hid (Hgm34.out.later hb Hgm34.out.lt)
  have Hgo36 := hid (Hgo34.out.later hb Hgo34.out.lt)
  have Hx36 := hid (Hx34.out.later hb Hx34.out.lt)
  have Ogp36 := hid (Ogp34.out.later hb)
  have Ogm36 := hid (Ogm34.out.later hb)
  have Ogo36 := hid (Ogo34.out.later hb)
  clear HW34 Hr34 He134 He234 Hgp34 Hgm34 Hgo34 Hx34 Ogp34 Ogm34 Ogo34
  clear hb
  have HD := hid (rn_text gp true [7] [25] false [24] [25] ⟨#[45, 55, 47, 50, 53, 32, 50, 52, 47, 50, 53]⟩ Ep.out (by decide +kernel) (by decide +kernel) (by decide) w35 (Ogp36.out.sl Igp.out) (HTAB.out w35 HW36.out))
  have cgp0 : w35.cell? ⟨w17.heap.size, 0, none⟩ = some (.bool gp.n) := Hgp36.out.cell 0
  have cgp1 : w35.cell? ⟨w17.heap.size, 1, none⟩ = some (.slice gp.a gp.xs.length gp.ca) := Hgp36.out.cell 1
  have cgp2 : w35.cell? ⟨w17.heap.size, 2, none⟩ = some (.slice gp.b gp.ys.length gp.cb) := Hgp36.out.cell 2
  have cgp3 : w35.cell? ⟨w17.heap.size, 3, none⟩ = some (.bool gp.m) := Hgp36.out.cell 3
  have cgp4 : w35.cell? ⟨w17.heap.size, 4, none⟩ = some (.slice gp.c gp.us.length gp.cc) := Hgp36.out.cell 4
  have cgp5 : w35.cell? ⟨w17.heap.size, 5, none⟩ = some (.slice gp.d gp.vs.length gp.cd) := Hgp36.out.cell 5
  go_wp2_with fail
  refine Calls.mono HD.out ?_
  rintro e w37 ⟨rfl, hb⟩
  clear HD cgp0 cgp1 cgp2 cgp3 cgp4 cgp5
  have HW38 := hid (bt HW36.out hb)
  have Hr38 := hid (Hr36.out.later hb Hr36.out.lt)
  have He138 := hid (He136.out.later hb He136.out.lt)
  have He238 := hid (He236.out.later hb He236.out.lt)
  have Hgp38 := hid (Hgp36.out.later hb Hgp36.out.lt)
  have Hgm38 := hid (Hgm36.out.later hb Hgm36.out.lt)
  have Hgo38 := hid (Hgo36.out.later hb Hgo36.out.lt)
  have Hx38 := hid (Hx36.out.later hb Hx36.out.lt)
  have Ogp38 := hid (Ogp36.out.later hb)
  have Ogm38 := hid (Ogm36.out.later hb)
  have Ogo38 := hid (Ogo36.out.later hb)
  clear HW36 Hr36 He136 He236 Hgp36 Hgm36 Hgo36 Hx36 Ogp36 Ogm36 Ogo36
  clear hb
  have HD := hid (rn_text gm false [3] [5] true [4] [5] ⟨#[51, 47, 53, 32, 45, 52, 47, 53]⟩ Em.out (by decide +kernel) (by decide +kernel) (by decide) w37 (Ogm38.out.sl Igm.out) (HTAB.out w37 HW38.out))
  have cgm0 : w37.cell? ⟨w20.heap.size, 0, none⟩ = some (.bool gm.n) := Hgm38.out.cell 0
  have cgm1 : w37.cell? ⟨w20.heap.size, 1, none⟩ = some (.slice gm.a gm.xs.length gm.ca) := Hgm38.out.cell 1
  have cgm2 : w37.cell? ⟨w20.heap.size, 2, none⟩ = some (.slice gm.b gm.ys.length gm.cb) := Hgm38.out.cell 2
  have cgm3 : w37.cell? ⟨w20.heap.size, 3, none⟩ = some (.bool gm.m) := Hgm38.out.cell 3
  have cgm4 : w37.cell? ⟨w20.heap.size, 4, none⟩ = some (.slice gm.c gm.us.length gm.cc) := Hgm38.out.cell 4
  have cgm5 : w37.cell? ⟨w20.heap.size, 5, none⟩ = some (.slice gm.d gm.vs.length gm.cd) := Hgm38.out.cell 5
  go_wp2_with fail
  refine Calls.mono HD.out ?_
  rintro e w39 ⟨rfl, hb⟩
  clear HD cgm0 cgm1 cgm2 cgm3 cgm4 cgm5
  have HW40 := hid (bt HW38.out hb)
  have Hr40 := hid (Hr38.out.later hb Hr38.out.lt)
  have He140 := hid (He138.out.later hb He138.out.lt)
  have He240 := hid (He238.out.later hb He238.out.lt)
  have Hgp40 := hid (Hgp38.out.later hb Hgp38.out.lt)
  have Hgm40 := hid (Hgm38.out.later hb Hgm38.out.lt)
  have Hgo40 := hid (Hgo38.out.later hb Hgo38.out.lt)
  have Hx40 := hid (Hx38.out.later hb Hx38.out.lt)
  have Ogp40 := hid (Ogp38.out.later hb)
  have Ogm40 := hid (Ogm38.out.later hb)
  have Ogo40 := hid (Ogo38.out.later hb)
  clear HW38 Hr38 He138 He238 Hgp38 Hgm38 Hgo38 Hx38 Ogp38 Ogm38 Ogo38
  clear hb
  have HD := hid (rn_text go false [1] [1] false [] [1] ⟨#[49, 32, 48]⟩ Eo.out (by decide +kernel) (by decide +kernel) (by decide) w39 (Ogo40.out.sl Igo.out) (HTAB.out w39 HW40.out))
  have cgo0 : w39.cell? ⟨w23.heap.size, 0, none⟩ = some (.bool go.n) := Hgo40.out.cell 0
  have cgo1 : w39.cell? ⟨w23.heap.size, 1, none⟩ = some (.slice go.a go.xs.length go.ca) := Hgo40.out.cell 1
  have cgo2 : w39.cell? ⟨w23.heap.size, 2, none⟩ = some (.slice go.b go.ys.length go.cb) := Hgo40.out.cell 2
  have cgo3 : w39.cell? ⟨w23.heap.size, 3, none⟩ = some (.bool go.m) := Hgo40.out.cell 3
  have cgo4 : w39.cell? ⟨w23.heap.size, 4, none⟩ = some (.slice go.c go.us.length go.cc) := Hgo40.out.cell 4
  have cgo5 : w39.cell? ⟨w23.heap.size, 5, none⟩ = some (.slice go.d go.vs.length go.cd) := Hgo40.out.cell 5
  go_wp2_with fail
  refine Calls.mono HD.out ?_
  rintro e w41 ⟨rfl, hb⟩
  clear HD cgo0 cgo1 cgo2 cgo3 cgo4 cgo5
  have HW42 := hid (bt HW40.out hb)
  have Hr42 := hid (Hr40.out.later hb Hr40.out.lt)
  have He142 := hid (He140.out.later hb He140.out.lt)
  have He242 := hid (He240.out.later hb He240.out.lt)
  have Hgp42 := hid (Hgp40.out.later hb Hgp40.out.lt)
  have Hgm42 := hid (Hgm40.out.later hb Hgm40.out.lt)
  have Hgo42 := hid (Hgo40.out.later hb Hgo40.out.lt)
  have Hx42 := hid (Hx40.out.later hb Hx40.out.lt)
  have Ogp42 := hid (Ogp40.out.later hb)
  have Ogm42 := hid (Ogm40.out.later hb)
  have Ogo42 := hid (Ogo40.out.later hb)
  clear HW40 Hr40 He140 He240 Hgp40 Hgm40 Hgo40 Hx40 Ogp40 Ogm40 Ogo40
  clear hb
  have hEQ := roEq 0 0 0 0
  simp only [BEq.rfl, Bool.and_self] at hEQ
  have HQ : Hid (∀ V, Calls Tryz.prog 9 #[.agg #[.int .i32 2, .int .i32 1], .agg #[.int .i32 1, .int .i32 2]] V fun e w' => e = .returned (.tuple #[.int .i64 (-1), .int .i64 0]) ∧ Below V.heap.size V w') := fun V => by
    have q := rorder_any 2 1 1 2 V (by unfold in32; omega) (by unfold in32; omega)
    rw [show rOrd 2 1 1 2 = ((-1), 0) by decide +kernel] at q
    exact q
  have HD := hid (HQ.out w41)
  have cr0 : w41.cell? ⟨x8.heap.size, 0, none⟩ = some (.int .i32 2) := Hr42.out.cell 0
  have cr1 : w41.cell? ⟨x8.heap.size, 1, none⟩ = some (.int .i32 1) := Hr42.out.cell 1
  have cx0 : w41.cell? ⟨wf.heap.size, 0, none⟩ = some (.int .i32 0) := Hx42.out.cell 0
  have cx1 : w41.cell? ⟨wf.heap.size, 1, none⟩ = some (.int .i32 0) := Hx42.out.cell 1
  go_wp2_with fail
  refine Calls.mono HD.out ?_
  rintro e w43 ⟨rfl, hb⟩
  clear HD cr0 cr1 cx0 cx1
  clear HQ
  have HW44 := hid (bt HW42.out hb)
  have Hr44 := hid (Hr42.out.later hb Hr42.out.lt)
  have He144 := hid (He142.out.later hb He142.out.lt)
  have He244 := hid (He242.out.later hb He242.out.lt)
  have Hgp44 := hid (Hgp42.out.later hb Hgp42.out.lt)
  have Hgm44 := hid (Hgm42.out.later hb Hgm42.out.lt)
  have Hgo44 := hid (Hgo42.out.later hb Hgo42.out.lt)
  have Hx44 := hid (Hx42.out.later hb Hx42.out.lt)
  have Ogp44 := hid (Ogp42.out.later hb)
  have Ogm44 := hid (Ogm42.out.later hb)
  have Ogo44 := hid (Ogo42.out.later hb)
  clear HW42 Hr42 He142 He242 Hgp42 Hgm42 Hgo42 Hx42 Ogp42 Ogm42 Ogo42
  clear hb
  have HQ : Hid (∀ V, Calls Tryz.prog 9 #[.agg #[.int .i32 3, .int .i32 (-1)], .agg #[.int .i32 2, .int .i32 1]] V fun e w' => e = .returned (.tuple #[.int .i64 1, .int .i64 0]) ∧ Below V.heap.size V w') := fun V => by
    have q := rorder_any 3 (-1) 2 1 V (by unfold in32; omega) (by unfold in32; omega)
    rw [show rOrd 3 (-1) 2 1 = (1, 0) by decide +kernel] at q
    exact q
  have HD := hid (HQ.out w43)
  have cr0 : w43.cell? ⟨x8.heap.size, 0, none⟩ = some (.int .i32 2) := Hr44.out.cell 0
  have cr1 : w43.cell? ⟨x8.heap.size, 1, none⟩ = some (.int .i32 1) := Hr44.out.cell 1
  go_wp2_with fail
  refine Calls.mono HD.out ?_
  rintro e w45 ⟨rfl, hb⟩
  clear HD cr0 cr1
  clear HQ
  have HW46 := hid (bt HW44.out hb)
  have Hr46 := hid (Hr44.out.later hb Hr44.out.lt)
  have He146 := hid (He144.out.later hb He144.out.lt)
  have He246 := hid (He244.out.later hb He244.out.lt)
  have Hgp46 := hid (Hgp44.out.later hb Hgp44.out.lt)
  have Hgm46 := hid (Hgm44.out.later hb Hgm44.out.lt)
  have Hgo46 := hid (Hgo44.out.later hb Hgo44.out.lt)
  have Hx46 := hid (Hx44.out.later hb Hx44.out.lt)
  have Ogp46 := hid (Ogp44.out.later hb)
  have Ogm46 := hid (Ogm44.out.later hb)
  have Ogo46 := hid (Ogo44.out.later hb)
  clear HW44 Hr44 He144 He244 Hgp44 Hgm44 Hgo44 Hx44 Ogp44 Ogm44 Ogo44
  clear hb
  have HQ : Hid (∀ V, Calls Tryz.prog 9 #[.agg #[.int .i32 2, .int .i32 1], .agg #[.int .i32 2, .int .i32 1]] V fun e w' => e = .returned (.tuple #[.int .i64 0, .int .i64 0]) ∧ Below V.heap.size V w') := fun V => by
    have q := rorder_any 2 1 2 1 V (by unfold in32; omega) (by unfold in32; omega)
    rw [show rOrd 2 1 2 1 = (0, 0) by decide +kernel] at q
    exact q
  have HD := hid (HQ.out w45)
  have cr0 : w45.cell? ⟨x8.heap.size, 0, none⟩ = some (.int .i32 2) := Hr46.out.cell 0
  have cr1 : w45.cell? ⟨x8.heap.size, 1, none⟩ = some (.int .i32 1) := Hr46.out.cell 1
  go_wp2_with fail
  refine Calls.mono HD.out ?_
  rintro e w47 ⟨rfl, hb⟩
  clear HD cr0 cr1
  clear HQ
  have HW48 := hid (bt HW46.out hb)
  have Hr48 := hid (Hr46.out.later hb Hr46.out.lt)
  have He148 := hid (He146.out.later hb He146.out.lt)
  have He248 := hid (He246.out.later hb He246.out.lt)
  have Hgp48 := hid (Hgp46.out.later hb Hgp46.out.lt)
  have Hgm48 := hid (Hgm46.out.later hb Hgm46.out.lt)
  have Hgo48 := hid (Hgo46.out.later hb Hgo46.out.lt)
  have Hx48 := hid (Hx46.out.later hb Hx46.out.lt)
  have Ogp48 := hid (Ogp46.out.later hb)
  have Ogm48 := hid (Ogm46.out.later hb)
  have Ogo48 := hid (Ogo46.out.later hb)
  clear HW46 Hr46 He146 He246 Hgp46 Hgm46 Hgo46 Hx46 Ogp46 Ogm46 Ogo46
  clear hb
  have HD := hid (olives_any w47)
  go_wp2_with fail
  refine Calls.mono HD.out ?_
  rintro e w49 ⟨rfl, hb⟩
  clear HD 
  have HW50 := hid (bt HW48.out hb)
  have Hr50 := hid (Hr48.out.later hb Hr48.out.lt)
  have He150 := hid (He148.out.later hb He148.out.lt)
  have He250 := hid (He248.out.later hb He248.out.lt)
  have Hgp50 := hid (Hgp48.out.later hb Hgp48.out.lt)
  have Hgm50 := hid (Hgm48.out.later hb Hgm48.out.lt)
  have Hgo50 := hid (Hgo48.out.later hb Hgo48.out.lt)
  have Hx50 := hid (Hx48.out.later hb Hx48.out.lt)
  have Ogp50 := hid (Ogp48.out.later hb)
  have Ogm50 := hid (Ogm48.out.later hb)
  have Ogo50 := hid (Ogo48.out.later hb)
  clear HW48 Hr48 He148 He248 Hgp48 Hgm48 Hgo48 Hx48 Ogp48 Ogm48 Ogo48
  clear hb
  go_wp2_with fail
  go_ret
  exact ⟨rfl, HW50.out⟩
end Go.Proofs.YtcjfbmehibhkbaaGreatDoor

