/- My texts on the way to TurnBack, one behind the other: contracts of the program and of the document's answers. -/
import Derived.Test.YtnhkbnmkcnmbgaaDoorJ1
/- The law TurnBack answers true, and writes nothing that was there: whatever two turns and whatever text come in, where the library's variables stand as its text lays them. -/
namespace Go.Proofs.YtnhkbnmkcnmbgaaDoor
open Go.RowKit
set_option linter.unusedVariables false

theorem okI.in64b {p q : Int} (h : okI p q) : in64 p q := by
  obtain ⟨a, b, c, d, _⟩ := h
  exact ⟨⟨by omega, by omega⟩, by omega, by omega⟩
theorem txt_len {p q : Int} (h : in64 p q) : (txtT p q).length ≤ 43 := by
  have a := itoa_len p h.1.1 h.1.2
  have b := itoa_len q h.2.1 h.2.2
  unfold txtT
  rw [List.length_append, List.length_cons]
  omega
theorem print_ok {p q : Int} (h : okI p q) : pV (printR p q) = .tuple #[.string ⟨(txtT p q).toArray⟩, .int .i64 0] := by unfold printR; rw [if_pos h]; rfl
theorem print_no {p q : Int} (h : ¬ okI p q) : pV (printR p q) = .tuple #[.string ⟨#[]⟩, .int .i64 180] := by unfold printR; rw [if_neg h]; rfl
theorem bytes_back (s : ByteArray) : (⟨s.data.toList.toArray⟩ : ByteArray) = s := by
  apply ByteArray.ext
  show s.data.toList.toArray = s.data
  rw [Array.toArray_toList]

set_option maxHeartbeats 6400000 in
set_option maxRecDepth 100000 in
theorem turnBack_0any0 (p q r s x1 x2 : Int) (S : ByteArray) (w : World) (hs : S.size ≤ 281474976710656) (htab : TabT w) (herr : ErrT w) (h1 : in64 p q) (h2 : in64 r s) (ht : ¬ okI p q) (hx : readR S.data.toList = (0, 0, 180)) :
    Calls Tryd.prog 5 #[.agg #[.int .i64 p, .int .i64 q], .agg #[.int .i64 r, .int .i64 s], .string S] w fun e w' => e = .returned (.bool true) ∧ Below w.heap.size w w' := by
  have HX := hid (boxes2 w 23 #[.int .i64 p, .int .i64 q] #[.int .i64 r, .int .i64 s])
  have HLV := hid tlives_any
  have HPt : Hid (∀ V, Below w.heap.size w V → Calls Tryd.prog 17 #[.agg #[.int .i64 p, .int .i64 q]] V fun e w' => e = .returned (pV (printR p q)) ∧ Below V.heap.size V w') := fun V hv => tprint_any p q V h1 (htab.later hv)
  have HRs : Hid (∀ V, Below w.heap.size w V → Calls Tryd.prog 13 #[.string S] V fun e w' => e = .returned (tV (readR S.data.toList)) ∧ Below V.heap.size V w') := fun V hv => tparse_any S V hs (herr.later hv) (htab.later hv)
  rw [print_no ht] at HPt
  rw [hx, show tV (0, 0, 180) = Value.tuple #[.agg #[.int .i64 0, .int .i64 0], .int .i64 180] from rfl] at HRs
  have HBt := hid HX.out.1
  have HBu := hid HX.out.2.1
  have HB := hid HX.out.2.2
  clear HX htab herr h1 h2 ht hx 
  go_enter Tryd.func5, Tryd.ntmps5
  go_wp2_with fail
  generalize (w.alloc (.cells #[.int .i64 p, .int .i64 q] 23)).alloc (.cells #[.int .i64 r, .int .i64 s] 23) = X at *
  refine Calls.mono (HLV.out _) ?_
  rintro e w1 ⟨rfl, hb⟩
  replace HBt := hid (HBt.out.later hb HBt.out.lt)
  replace HBu := hid (HBu.out.later hb HBu.out.lt)
  replace HB := hid (b2 HB.out hb)
  clear hb
  obtain ⟨ct0, ct1, ft0, ft1⟩ := fbox_facts HBt.out (Below.refl _ _)
  obtain ⟨cu0, cu1, fu0, fu1⟩ := fbox_facts HBu.out (Below.refl _ _)
  go_wp2_with fail
  refine Calls.mono (HPt.out _ HB.out) ?_
  rintro e w2 ⟨rfl, hb⟩
  replace HBt := hid (HBt.out.later hb HBt.out.lt)
  replace HBu := hid (HBu.out.later hb HBu.out.lt)
  replace HB := hid (b2 HB.out hb)
  clear hb
  clear ct0 ct1 ft0 ft1
  clear cu0 cu1 fu0 fu1
  obtain ⟨ct0, ct1, ft0, ft1⟩ := fbox_facts HBt.out (Below.refl _ _)
  obtain ⟨cu0, cu1, fu0, fu1⟩ := fbox_facts HBu.out (Below.refl _ _)
  go_wp2_with fail
  refine Calls.mono (HRs.out _ HB.out) ?_
  rintro e w9 ⟨rfl, hb⟩
  replace HBt := hid (HBt.out.later hb HBt.out.lt)
  replace HBu := hid (HBu.out.later hb HBu.out.lt)
  replace HB := hid (b2 HB.out hb)
  clear hb
  clear ct0 ct1 ft0 ft1
  clear cu0 cu1 fu0 fu1
  have HLE := hid HB.out.size
  have HN := hid (boxes1 w9 23 #[.int .i64 0, .int .i64 0])
  obtain ⟨wa, hW⟩ : ∃ wa, w9.alloc (.cells #[.int .i64 0, .int .i64 0] 23) = wa := ⟨_, rfl⟩
  rw [hW] at HN
  replace HBt := hid (HBt.out.later HN.out.2 HBt.out.lt)
  replace HBu := hid (HBu.out.later HN.out.2 HBu.out.lt)
  replace HB := hid (b2 HB.out HN.out.2)
  have HBz := hid HN.out.1
  clear HN
  obtain ⟨cz0, cz1, fz0, fz1⟩ := fbox_facts HBz.out (Below.refl _ _)
  go_wp2_with fail
  clear hW
  go_ret
  first | exact ⟨rfl, HB.out⟩ | exact ⟨rfl, fput2 HB.out _ HLE.out _ _⟩

set_option maxHeartbeats 6400000 in
set_option maxRecDepth 100000 in
theorem turnBack_1err0 (p q r s x1 x2 : Int) (S : ByteArray) (w : World) (hs : S.size ≤ 281474976710656) (htab : TabT w) (herr : ErrT w) (h1 : in64 p q) (h2 : in64 r s) (ht : okI p q) (hu : ¬ okI r s) (hx : readR S.data.toList = (0, 0, 180)) :
    Calls Tryd.prog 5 #[.agg #[.int .i64 p, .int .i64 q], .agg #[.int .i64 r, .int .i64 s], .string S] w fun e w' => e = .returned (.bool true) ∧ Below w.heap.size w w' := by
  have HX := hid (boxes2 w 23 #[.int .i64 p, .int .i64 q] #[.int .i64 r, .int .i64 s])
  have HLV := hid tlives_any
  have HPt : Hid (∀ V, Below w.heap.size w V → Calls Tryd.prog 17 #[.agg #[.int .i64 p, .int .i64 q]] V fun e w' => e = .returned (pV (printR p q)) ∧ Below V.heap.size V w') := fun V hv => tprint_any p q V h1 (htab.later hv)
  have HRs : Hid (∀ V, Below w.heap.size w V → Calls Tryd.prog 13 #[.string S] V fun e w' => e = .returned (tV (readR S.data.toList)) ∧ Below V.heap.size V w') := fun V hv => tparse_any S V hs (herr.later hv) (htab.later hv)
  rw [print_ok ht] at HPt
  have HRt : Hid (∀ V, Below w.heap.size w V → Calls Tryd.prog 13 #[.string ⟨(txtT p q).toArray⟩] V fun e w' => e = .returned (tV (readR (txtT p q))) ∧ Below V.heap.size V w') := fun V hv => by
    have e := tparse_any ⟨(txtT p q).toArray⟩ V (by show (txtT p q).toArray.size ≤ _; rw [List.size_toArray]; have := txt_len h1; omega) (herr.later hv) (htab.later hv)
    exact e
  rw [read_txt ht, show tV (p, q, 0) = Value.tuple #[.agg #[.int .i64 p, .int .i64 q], .int .i64 0] from rfl] at HRt
  have HOt := hid (fun V => tof_any p q V h1)
  rw [of_self ht, show tV (p, q, 0) = Value.tuple #[.agg #[.int .i64 p, .int .i64 q], .int .i64 0] from rfl] at HOt
  generalize (txtT p q).toArray = tx' at HPt HRt
  have HC1 := hid (fun V => tcompare_any p q r s V h1 h2)
  have HC2 := hid (fun V => tcompare_any r s p q V h2 h1)
  rw [show cmpR p q r s = (0, 180) by unfold cmpR; rw [if_neg (fun k => hu k.2)]] at HC1
  rw [show cmpR r s p q = (0, 180) by unfold cmpR; rw [if_neg (fun k => hu k.1)]] at HC2
  rw [show cV (0, 180) = Value.tuple #[.int .i64 0, .int .i64 180] from rfl] at HC1 HC2
  rw [hx, show tV (0, 0, 180) = Value.tuple #[.agg #[.int .i64 0, .int .i64 0], .int .i64 180] from rfl] at HRs
  have HBt := hid HX.out.1
  have HBu := hid HX.out.2.1
  have HB := hid HX.out.2.2
  clear HX htab herr h1 h2 ht hx hu 
  go_enter Tryd.func5, Tryd.ntmps5
  go_wp2_with fail
  generalize (w.alloc (.cells #[.int .i64 p, .int .i64 q] 23)).alloc (.cells #[.int .i64 r, .int .i64 s] 23) = X at *
  refine Calls.mono (HLV.out _) ?_
  rintro e w1 ⟨rfl, hb⟩
  replace HBt := hid (HBt.out.later hb HBt.out.lt)
  replace HBu := hid (HBu.out.later hb HBu.out.lt)
  replace HB := hid (b2 HB.out hb)
  clear hb
  obtain ⟨ct0, ct1, ft0, ft1⟩ := fbox_facts HBt.out (Below.refl _ _)
  obtain ⟨cu0, cu1, fu0, fu1⟩ := fbox_facts HBu.out (Below.refl _ _)
  go_wp2_with fail
  refine Calls.mono (HPt.out _ HB.out) ?_
  rintro e w2 ⟨rfl, hb⟩
  replace HBt := hid (HBt.out.later hb HBt.out.lt)
  replace HBu := hid (HBu.out.later hb HBu.out.lt)
  replace HB := hid (b2 HB.out hb)
  clear hb
  clear ct0 ct1 ft0 ft1
  clear cu0 cu1 fu0 fu1
  obtain ⟨ct0, ct1, ft0, ft1⟩ := fbox_facts HBt.out (Below.refl _ _)
  obtain ⟨cu0, cu1, fu0, fu1⟩ := fbox_facts HBu.out (Below.refl _ _)
  go_wp2_with fail
  refine Calls.mono (HRt.out _ HB.out) ?_
  rintro e w3 ⟨rfl, hb⟩
  replace HBt := hid (HBt.out.later hb HBt.out.lt)
  replace HBu := hid (HBu.out.later hb HBu.out.lt)
  replace HB := hid (b2 HB.out hb)
  clear hb
  clear ct0 ct1 ft0 ft1
  clear cu0 cu1 fu0 fu1
  have HN := hid (boxes1 w3 23 #[.int .i64 p, .int .i64 q])
  obtain ⟨w4, hW⟩ : ∃ w4, w3.alloc (.cells #[.int .i64 p, .int .i64 q] 23) = w4 := ⟨_, rfl⟩
  rw [hW] at HN
  replace HBt := hid (HBt.out.later HN.out.2 HBt.out.lt)
  replace HBu := hid (HBu.out.later HN.out.2 HBu.out.lt)
  replace HB := hid (b2 HB.out HN.out.2)
  have HBx := hid HN.out.1
  clear HN
  obtain ⟨ct0, ct1, ft0, ft1⟩ := fbox_facts HBt.out (Below.refl _ _)
  go_wp2_with fail
  clear hW
  refine Calls.mono (HOt.out _) ?_
  rintro e w5 ⟨rfl, hb⟩
  replace HBt := hid (HBt.out.later hb HBt.out.lt)
  replace HBu := hid (HBu.out.later hb HBu.out.lt)
  replace HBx := hid (HBx.out.later hb HBx.out.lt)
  replace HB := hid (b2 HB.out hb)
  clear hb
  clear ct0 ct1 ft0 ft1
  have HN := hid (boxes1 w5 23 #[.int .i64 p, .int .i64 q])
  obtain ⟨w6, hW⟩ : ∃ w6, w5.alloc (.cells #[.int .i64 p, .int .i64 q] 23) = w6 := ⟨_, rfl⟩
  rw [hW] at HN
  replace HBt := hid (HBt.out.later HN.out.2 HBt.out.lt)
  replace HBu := hid (HBu.out.later HN.out.2 HBu.out.lt)
  replace HBx := hid (HBx.out.later HN.out.2 HBx.out.lt)
  replace HB := hid (b2 HB.out HN.out.2)
  have HBy := hid HN.out.1
  clear HN
  obtain ⟨cx0, cx1, fx0, fx1⟩ := fbox_facts HBx.out (Below.refl _ _)
  obtain ⟨cy0, cy1, fy0, fy1⟩ := fbox_facts HBy.out (Below.refl _ _)
  obtain ⟨ct0, ct1, ft0, ft1⟩ := fbox_facts HBt.out (Below.refl _ _)
  obtain ⟨cu0, cu1, fu0, fu1⟩ := fbox_facts HBu.out (Below.refl _ _)
  go_wp2_with fail
  clear hW
  refine Calls.mono (HC1.out _) ?_
  rintro e w7 ⟨rfl, hb⟩
  replace HBt := hid (HBt.out.later hb HBt.out.lt)
  replace HBu := hid (HBu.out.later hb HBu.out.lt)
  replace HBx := hid (HBx.out.later hb HBx.out.lt)
  replace HBy := hid (HBy.out.later hb HBy.out.lt)
  replace HB := hid (b2 HB.out hb)
  clear hb
  clear cx0 cx1 fx0 fx1
  clear cy0 cy1 fy0 fy1
  clear ct0 ct1 ft0 ft1
  clear cu0 cu1 fu0 fu1
  obtain ⟨ct0, ct1, ft0, ft1⟩ := fbox_facts HBt.out (Below.refl _ _)
  obtain ⟨cu0, cu1, fu0, fu1⟩ := fbox_facts HBu.out (Below.refl _ _)
  go_wp2_with fail
  refine Calls.mono (HC2.out _) ?_
  rintro e w8 ⟨rfl, hb⟩
  replace HBt := hid (HBt.out.later hb HBt.out.lt)
  replace HBu := hid (HBu.out.later hb HBu.out.lt)
  replace HBx := hid (HBx.out.later hb HBx.out.lt)
  replace HBy := hid (HBy.out.later hb HBy.out.lt)
  replace HB := hid (b2 HB.out hb)
  clear hb
  clear ct0 ct1 ft0 ft1
  clear cu0 cu1 fu0 fu1
  obtain ⟨ct0, ct1, ft0, ft1⟩ := fbox_facts HBt.out (Below.refl _ _)
  obtain ⟨cu0, cu1, fu0, fu1⟩ := fbox_facts HBu.out (Below.refl _ _)
  go_wp2_with fail
  refine Calls.mono (HRs.out _ HB.out) ?_
  rintro e w9 ⟨rfl, hb⟩
  replace HBt := hid (HBt.out.later hb HBt.out.lt)
  replace HBu := hid (HBu.out.later hb HBu.out.lt)
  replace HBx := hid (HBx.out.later hb HBx.out.lt)
  replace HBy := hid (HBy.out.later hb HBy.out.lt)
  replace HB := hid (b2 HB.out hb)
  clear hb
  clear ct0 ct1 ft0 ft1
  clear cu0 cu1 fu0 fu1
  have HLE := hid HB.out.size
  have HN := hid (boxes1 w9 23 #[.int .i64 0, .int .i64 0])
  obtain ⟨wa, hW⟩ : ∃ wa, w9.alloc (.cells #[.int .i64 0, .int .i64 0] 23) = wa := ⟨_, rfl⟩
  rw [hW] at HN
  replace HBt := hid (HBt.out.later HN.out.2 HBt.out.lt)
  replace HBu := hid (HBu.out.later HN.out.2 HBu.out.lt)
  replace HBx := hid (HBx.out.later HN.out.2 HBx.out.lt)
  replace HBy := hid (HBy.out.later HN.out.2 HBy.out.lt)
  replace HB := hid (b2 HB.out HN.out.2)
  have HBz := hid HN.out.1
  clear HN
  obtain ⟨cz0, cz1, fz0, fz1⟩ := fbox_facts HBz.out (Below.refl _ _)
  go_wp2_with fail
  clear hW
  go_ret
  first | exact ⟨rfl, HB.out⟩ | exact ⟨rfl, fput2 HB.out _ HLE.out _ _⟩

set_option maxHeartbeats 6400000 in
set_option maxRecDepth 100000 in
theorem turnBack_1lt0 (p q r s x1 x2 : Int) (S : ByteArray) (w : World) (hs : S.size ≤ 281474976710656) (htab : TabT w) (herr : ErrT w) (h1 : in64 p q) (h2 : in64 r s) (ht : okI p q) (hu : okI r s) (hc : ordI (p * s) (r * q) = -1) (hx : readR S.data.toList = (0, 0, 180)) :
    Calls Tryd.prog 5 #[.agg #[.int .i64 p, .int .i64 q], .agg #[.int .i64 r, .int .i64 s], .string S] w fun e w' => e = .returned (.bool true) ∧ Below w.heap.size w w' := by
  have HX := hid (boxes2 w 23 #[.int .i64 p, .int .i64 q] #[.int .i64 r, .int .i64 s])
  have HLV := hid tlives_any
  have HPt : Hid (∀ V, Below w.heap.size w V → Calls Tryd.prog 17 #[.agg #[.int .i64 p, .int .i64 q]] V fun e w' => e = .returned (pV (printR p q)) ∧ Below V.heap.size V w') := fun V hv => tprint_any p q V h1 (htab.later hv)
  have HRs : Hid (∀ V, Below w.heap.size w V → Calls Tryd.prog 13 #[.string S] V fun e w' => e = .returned (tV (readR S.data.toList)) ∧ Below V.heap.size V w') := fun V hv => tparse_any S V hs (herr.later hv) (htab.later hv)
  rw [print_ok ht] at HPt
  have HRt : Hid (∀ V, Below w.heap.size w V → Calls Tryd.prog 13 #[.string ⟨(txtT p q).toArray⟩] V fun e w' => e = .returned (tV (readR (txtT p q))) ∧ Below V.heap.size V w') := fun V hv => by
    have e := tparse_any ⟨(txtT p q).toArray⟩ V (by show (txtT p q).toArray.size ≤ _; rw [List.size_toArray]; have := txt_len h1; omega) (herr.later hv) (htab.later hv)
    exact e
  rw [read_txt ht, show tV (p, q, 0) = Value.tuple #[.agg #[.int .i64 p, .int .i64 q], .int .i64 0] from rfl] at HRt
  have HOt := hid (fun V => tof_any p q V h1)
  rw [of_self ht, show tV (p, q, 0) = Value.tuple #[.agg #[.int .i64 p, .int .i64 q], .int .i64 0] from rfl] at HOt
  generalize (txtT p q).toArray = tx' at HPt HRt
  have HC1 := hid (fun V => tcompare_any p q r s V h1 h2)
  have HC2 := hid (fun V => tcompare_any r s p q V h2 h1)
  rw [show cmpR p q r s = (-1, 0) by unfold cmpR; rw [if_pos ⟨ht, hu⟩, hc]] at HC1
  rw [show cmpR r s p q = (1, 0) by unfold cmpR; rw [if_pos ⟨hu, ht⟩, ord_neg, hc]; try rfl] at HC2
  rw [show cV (-1, 0) = Value.tuple #[.int .i64 (-1), .int .i64 0] from rfl] at HC1
  rw [show cV (1, 0) = Value.tuple #[.int .i64 (1), .int .i64 0] from rfl] at HC2
  have hne : ¬ (p = r ∧ q = s) := fun k => by
    have hz := (ord_zero ht hu)
    rw [hc] at hz
    exact absurd (hz.2 k) (by decide)
  rw [hx, show tV (0, 0, 180) = Value.tuple #[.agg #[.int .i64 0, .int .i64 0], .int .i64 180] from rfl] at HRs
  have HBt := hid HX.out.1
  have HBu := hid HX.out.2.1
  have HB := hid HX.out.2.2
  clear HX htab herr h1 h2 ht hx hu hc 
  go_enter Tryd.func5, Tryd.ntmps5
  go_wp2_with fail
  generalize (w.alloc (.cells #[.int .i64 p, .int .i64 q] 23)).alloc (.cells #[.int .i64 r, .int .i64 s] 23) = X at *
  refine Calls.mono (HLV.out _) ?_
  rintro e w1 ⟨rfl, hb⟩
  replace HBt := hid (HBt.out.later hb HBt.out.lt)
  replace HBu := hid (HBu.out.later hb HBu.out.lt)
  replace HB := hid (b2 HB.out hb)
  clear hb
  obtain ⟨ct0, ct1, ft0, ft1⟩ := fbox_facts HBt.out (Below.refl _ _)
  obtain ⟨cu0, cu1, fu0, fu1⟩ := fbox_facts HBu.out (Below.refl _ _)
  go_wp2_with fail
  refine Calls.mono (HPt.out _ HB.out) ?_
  rintro e w2 ⟨rfl, hb⟩
  replace HBt := hid (HBt.out.later hb HBt.out.lt)
  replace HBu := hid (HBu.out.later hb HBu.out.lt)
  replace HB := hid (b2 HB.out hb)
  clear hb
  clear ct0 ct1 ft0 ft1
  clear cu0 cu1 fu0 fu1
  obtain ⟨ct0, ct1, ft0, ft1⟩ := fbox_facts HBt.out (Below.refl _ _)
  obtain ⟨cu0, cu1, fu0, fu1⟩ := fbox_facts HBu.out (Below.refl _ _)
  go_wp2_with fail
  refine Calls.mono (HRt.out _ HB.out) ?_
  rintro e w3 ⟨rfl, hb⟩
  replace HBt := hid (HBt.out.later hb HBt.out.lt)
  replace HBu := hid (HBu.out.later hb HBu.out.lt)
  replace HB := hid (b2 HB.out hb)
  clear hb
  clear ct0 ct1 ft0 ft1
  clear cu0 cu1 fu0 fu1
  have HN := hid (boxes1 w3 23 #[.int .i64 p, .int .i64 q])
  obtain ⟨w4, hW⟩ : ∃ w4, w3.alloc (.cells #[.int .i64 p, .int .i64 q] 23) = w4 := ⟨_, rfl⟩
  rw [hW] at HN
  replace HBt := hid (HBt.out.later HN.out.2 HBt.out.lt)
  replace HBu := hid (HBu.out.later HN.out.2 HBu.out.lt)
  replace HB := hid (b2 HB.out HN.out.2)
  have HBx := hid HN.out.1
  clear HN
  obtain ⟨ct0, ct1, ft0, ft1⟩ := fbox_facts HBt.out (Below.refl _ _)
  go_wp2_with fail
  clear hW
  refine Calls.mono (HOt.out _) ?_
  rintro e w5 ⟨rfl, hb⟩
  replace HBt := hid (HBt.out.later hb HBt.out.lt)
  replace HBu := hid (HBu.out.later hb HBu.out.lt)
  replace HBx := hid (HBx.out.later hb HBx.out.lt)
  replace HB := hid (b2 HB.out hb)
  clear hb
  clear ct0 ct1 ft0 ft1
  have HN := hid (boxes1 w5 23 #[.int .i64 p, .int .i64 q])
  obtain ⟨w6, hW⟩ : ∃ w6, w5.alloc (.cells #[.int .i64 p, .int .i64 q] 23) = w6 := ⟨_, rfl⟩
  rw [hW] at HN
  replace HBt := hid (HBt.out.later HN.out.2 HBt.out.lt)
  replace HBu := hid (HBu.out.later HN.out.2 HBu.out.lt)
  replace HBx := hid (HBx.out.later HN.out.2 HBx.out.lt)
  replace HB := hid (b2 HB.out HN.out.2)
  have HBy := hid HN.out.1
  clear HN
  obtain ⟨cx0, cx1, fx0, fx1⟩ := fbox_facts HBx.out (Below.refl _ _)
  obtain ⟨cy0, cy1, fy0, fy1⟩ := fbox_facts HBy.out (Below.refl _ _)
  obtain ⟨ct0, ct1, ft0, ft1⟩ := fbox_facts HBt.out (Below.refl _ _)
  obtain ⟨cu0, cu1, fu0, fu1⟩ := fbox_facts HBu.out (Below.refl _ _)
  go_wp2_with fail
  clear hW
  refine Calls.mono (HC1.out _) ?_
  rintro e w7 ⟨rfl, hb⟩
  replace HBt := hid (HBt.out.later hb HBt.out.lt)
  replace HBu := hid (HBu.out.later hb HBu.out.lt)
  replace HBx := hid (HBx.out.later hb HBx.out.lt)
  replace HBy := hid (HBy.out.later hb HBy.out.lt)
  replace HB := hid (b2 HB.out hb)
  clear hb
  clear cx0 cx1 fx0 fx1
  clear cy0 cy1 fy0 fy1
  clear ct0 ct1 ft0 ft1
  clear cu0 cu1 fu0 fu1
  obtain ⟨ct0, ct1, ft0, ft1⟩ := fbox_facts HBt.out (Below.refl _ _)
  obtain ⟨cu0, cu1, fu0, fu1⟩ := fbox_facts HBu.out (Below.refl _ _)
  go_wp2_with fail
  refine Calls.mono (HC2.out _) ?_
  rintro e w8 ⟨rfl, hb⟩
  replace HBt := hid (HBt.out.later hb HBt.out.lt)
  replace HBu := hid (HBu.out.later hb HBu.out.lt)
  replace HBx := hid (HBx.out.later hb HBx.out.lt)
  replace HBy := hid (HBy.out.later hb HBy.out.lt)
  replace HB := hid (b2 HB.out hb)
  clear hb
  clear ct0 ct1 ft0 ft1
  clear cu0 cu1 fu0 fu1
  obtain ⟨ct0, ct1, ft0, ft1⟩ := fbox_facts HBt.out (Below.refl _ _)
  obtain ⟨cu0, cu1, fu0, fu1⟩ := fbox_facts HBu.out (Below.refl _ _)
  go_wp2_with fail
  all_goals
    refine Calls.mono (HRs.out _ HB.out) ?_
    rintro e w9 ⟨rfl, hb⟩
    replace HBt := hid (HBt.out.later hb HBt.out.lt)
    replace HBu := hid (HBu.out.later hb HBu.out.lt)
    replace HBx := hid (HBx.out.later hb HBx.out.lt)
    replace HBy := hid (HBy.out.later hb HBy.out.lt)
    replace HB := hid (b2 HB.out hb)
    clear hb
    clear ct0 ct1 ft0 ft1
    clear cu0 cu1 fu0 fu1
    have HLE := hid HB.out.size
    have HN := hid (boxes1 w9 23 #[.int .i64 0, .int .i64 0])
    obtain ⟨wa, hW⟩ : ∃ wa, w9.alloc (.cells #[.int .i64 0, .int .i64 0] 23) = wa := ⟨_, rfl⟩
    rw [hW] at HN
    replace HBt := hid (HBt.out.later HN.out.2 HBt.out.lt)
    replace HBu := hid (HBu.out.later HN.out.2 HBu.out.lt)
    replace HBx := hid (HBx.out.later HN.out.2 HBx.out.lt)
    replace HBy := hid (HBy.out.later HN.out.2 HBy.out.lt)
    replace HB := hid (b2 HB.out HN.out.2)
    have HBz := hid HN.out.1
    clear HN
    obtain ⟨cz0, cz1, fz0, fz1⟩ := fbox_facts HBz.out (Below.refl _ _)
    go_wp2_with fail
    clear hW
    go_ret
    first | exact ⟨rfl, HB.out⟩ | exact ⟨rfl, fput2 HB.out _ HLE.out _ _⟩

set_option maxHeartbeats 6400000 in
set_option maxRecDepth 100000 in
theorem turnBack_1eq0 (p q r s x1 x2 : Int) (S : ByteArray) (w : World) (hs : S.size ≤ 281474976710656) (htab : TabT w) (herr : ErrT w) (h1 : in64 p q) (ht : okI p q) (hx : readR S.data.toList = (0, 0, 180)) :
    Calls Tryd.prog 5 #[.agg #[.int .i64 p, .int .i64 q], .agg #[.int .i64 p, .int .i64 q], .string S] w fun e w' => e = .returned (.bool true) ∧ Below w.heap.size w w' := by
  have HX := hid (boxes2 w 23 #[.int .i64 p, .int .i64 q] #[.int .i64 p, .int .i64 q])
  have HLV := hid tlives_any
  have HPt : Hid (∀ V, Below w.heap.size w V → Calls Tryd.prog 17 #[.agg #[.int .i64 p, .int .i64 q]] V fun e w' => e = .returned (pV (printR p q)) ∧ Below V.heap.size V w') := fun V hv => tprint_any p q V h1 (htab.later hv)
  have HRs : Hid (∀ V, Below w.heap.size w V → Calls Tryd.prog 13 #[.string S] V fun e w' => e = .returned (tV (readR S.data.toList)) ∧ Below V.heap.size V w') := fun V hv => tparse_any S V hs (herr.later hv) (htab.later hv)
  rw [print_ok ht] at HPt
  have HRt : Hid (∀ V, Below w.heap.size w V → Calls Tryd.prog 13 #[.string ⟨(txtT p q).toArray⟩] V fun e w' => e = .returned (tV (readR (txtT p q))) ∧ Below V.heap.size V w') := fun V hv => by
    have e := tparse_any ⟨(txtT p q).toArray⟩ V (by show (txtT p q).toArray.size ≤ _; rw [List.size_toArray]; have := txt_len h1; omega) (herr.later hv) (htab.later hv)
    exact e
  rw [read_txt ht, show tV (p, q, 0) = Value.tuple #[.agg #[.int .i64 p, .int .i64 q], .int .i64 0] from rfl] at HRt
  have HOt := hid (fun V => tof_any p q V h1)
  rw [of_self ht, show tV (p, q, 0) = Value.tuple #[.agg #[.int .i64 p, .int .i64 q], .int .i64 0] from rfl] at HOt
  generalize (txtT p q).toArray = tx' at HPt HRt
  have HC1 := hid (fun V => tcompare_any p q p q V h1 h1)
  rw [show cmpR p q p q = (0, 0) by unfold cmpR; rw [if_pos ⟨ht, ht⟩, (ord_zero ht ht).2 ⟨rfl, rfl⟩]] at HC1
  rw [show cV (0, 0) = Value.tuple #[.int .i64 0, .int .i64 0] from rfl] at HC1
  have HC2 := hid HC1.out
  rw [hx, show tV (0, 0, 180) = Value.tuple #[.agg #[.int .i64 0, .int .i64 0], .int .i64 180] from rfl] at HRs
  have HBt := hid HX.out.1
  have HBu := hid HX.out.2.1
  have HB := hid HX.out.2.2
  clear HX htab herr h1 ht hx 
  go_enter Tryd.func5, Tryd.ntmps5
  go_wp2_with fail
  generalize (w.alloc (.cells #[.int .i64 p, .int .i64 q] 23)).alloc (.cells #[.int .i64 p, .int .i64 q] 23) = X at *
  refine Calls.mono (HLV.out _) ?_
  rintro e w1 ⟨rfl, hb⟩
  replace HBt := hid (HBt.out.later hb HBt.out.lt)
  replace HBu := hid (HBu.out.later hb HBu.out.lt)
  replace HB := hid (b2 HB.out hb)
  clear hb
  obtain ⟨ct0, ct1, ft0, ft1⟩ := fbox_facts HBt.out (Below.refl _ _)
  obtain ⟨cu0, cu1, fu0, fu1⟩ := fbox_facts HBu.out (Below.refl _ _)
  go_wp2_with fail
  refine Calls.mono (HPt.out _ HB.out) ?_
  rintro e w2 ⟨rfl, hb⟩
  replace HBt := hid (HBt.out.later hb HBt.out.lt)
  replace HBu := hid (HBu.out.later hb HBu.out.lt)
  replace HB := hid (b2 HB.out hb)
  clear hb
  clear ct0 ct1 ft0 ft1
  clear cu0 cu1 fu0 fu1
  obtain ⟨ct0, ct1, ft0, ft1⟩ := fbox_facts HBt.out (Below.refl _ _)
  obtain ⟨cu0, cu1, fu0, fu1⟩ := fbox_facts HBu.out (Below.refl _ _)
  go_wp2_with fail
  refine Calls.mono (HRt.out _ HB.out) ?_
  rintro e w3 ⟨rfl, hb⟩
  replace HBt := hid (HBt.out.later hb HBt.out.lt)
  replace HBu := hid (HBu.out.later hb HBu.out.lt)
  replace HB := hid (b2 HB.out hb)
  clear hb
  clear ct0 ct1 ft0 ft1
  clear cu0 cu1 fu0 fu1
  have HN := hid (boxes1 w3 23 #[.int .i64 p, .int .i64 q])
  obtain ⟨w4, hW⟩ : ∃ w4, w3.alloc (.cells #[.int .i64 p, .int .i64 q] 23) = w4 := ⟨_, rfl⟩
  rw [hW] at HN
  replace HBt := hid (HBt.out.later HN.out.2 HBt.out.lt)
  replace HBu := hid (HBu.out.later HN.out.2 HBu.out.lt)
  replace HB := hid (b2 HB.out HN.out.2)
  have HBx := hid HN.out.1
  clear HN
  obtain ⟨ct0, ct1, ft0, ft1⟩ := fbox_facts HBt.out (Below.refl _ _)
  go_wp2_with fail
  clear hW
  refine Calls.mono (HOt.out _) ?_
  rintro e w5 ⟨rfl, hb⟩
  replace HBt := hid (HBt.out.later hb HBt.out.lt)
  replace HBu := hid (HBu.out.later hb HBu.out.lt)
  replace HBx := hid (HBx.out.later hb HBx.out.lt)
  replace HB := hid (b2 HB.out hb)
  clear hb
  clear ct0 ct1 ft0 ft1
  have HN := hid (boxes1 w5 23 #[.int .i64 p, .int .i64 q])
  obtain ⟨w6, hW⟩ : ∃ w6, w5.alloc (.cells #[.int .i64 p, .int .i64 q] 23) = w6 := ⟨_, rfl⟩
  rw [hW] at HN
  replace HBt := hid (HBt.out.later HN.out.2 HBt.out.lt)
  replace HBu := hid (HBu.out.later HN.out.2 HBu.out.lt)
  replace HBx := hid (HBx.out.later HN.out.2 HBx.out.lt)
  replace HB := hid (b2 HB.out HN.out.2)
  have HBy := hid HN.out.1
  clear HN
  obtain ⟨cx0, cx1, fx0, fx1⟩ := fbox_facts HBx.out (Below.refl _ _)
  obtain ⟨cy0, cy1, fy0, fy1⟩ := fbox_facts HBy.out (Below.refl _ _)
  obtain ⟨ct0, ct1, ft0, ft1⟩ := fbox_facts HBt.out (Below.refl _ _)
  obtain ⟨cu0, cu1, fu0, fu1⟩ := fbox_facts HBu.out (Below.refl _ _)
  go_wp2_with fail
  clear hW
  refine Calls.mono (HC1.out _) ?_
  rintro e w7 ⟨rfl, hb⟩
  replace HBt := hid (HBt.out.later hb HBt.out.lt)
  replace HBu := hid (HBu.out.later hb HBu.out.lt)
  replace HBx := hid (HBx.out.later hb HBx.out.lt)
  replace HBy := hid (HBy.out.later hb HBy.out.lt)
  replace HB := hid (b2 HB.out hb)
  clear hb
  clear cx0 cx1 fx0 fx1
  clear cy0 cy1 fy0 fy1
  clear ct0 ct1 ft0 ft1
  clear cu0 cu1 fu0 fu1
  obtain ⟨ct0, ct1, ft0, ft1⟩ := fbox_facts HBt.out (Below.refl _ _)
  obtain ⟨cu0, cu1, fu0, fu1⟩ := fbox_facts HBu.out (Below.refl _ _)
  go_wp2_with fail
  refine Calls.mono (HC2.out _) ?_
  rintro e w8 ⟨rfl, hb⟩
  replace HBt := hid (HBt.out.later hb HBt.out.lt)
  replace HBu := hid (HBu.out.later hb HBu.out.lt)
  replace HBx := hid (HBx.out.later hb HBx.out.lt)
  replace HBy := hid (HBy.out.later hb HBy.out.lt)
  replace HB := hid (b2 HB.out hb)
  clear hb
  clear ct0 ct1 ft0 ft1
  clear cu0 cu1 fu0 fu1
  obtain ⟨ct0, ct1, ft0, ft1⟩ := fbox_facts HBt.out (Below.refl _ _)
  obtain ⟨cu0, cu1, fu0, fu1⟩ := fbox_facts HBu.out (Below.refl _ _)
  go_wp2_with fail
  refine Calls.mono (HRs.out _ HB.out) ?_
  rintro e w9 ⟨rfl, hb⟩
  replace HBt := hid (HBt.out.later hb HBt.out.lt)
  replace HBu := hid (HBu.out.later hb HBu.out.lt)
  replace HBx := hid (HBx.out.later hb HBx.out.lt)
  replace HBy := hid (HBy.out.later hb HBy.out.lt)
  replace HB := hid (b2 HB.out hb)
  clear hb
  clear ct0 ct1 ft0 ft1
  clear cu0 cu1 fu0 fu1
  have HLE := hid HB.out.size
  have HN := hid (boxes1 w9 23 #[.int .i64 0, .int .i64 0])
  obtain ⟨wa, hW⟩ : ∃ wa, w9.alloc (.cells #[.int .i64 0, .int .i64 0] 23) = wa := ⟨_, rfl⟩
  rw [hW] at HN
  replace HBt := hid (HBt.out.later HN.out.2 HBt.out.lt)
  replace HBu := hid (HBu.out.later HN.out.2 HBu.out.lt)
  replace HBx := hid (HBx.out.later HN.out.2 HBx.out.lt)
  replace HBy := hid (HBy.out.later HN.out.2 HBy.out.lt)
  replace HB := hid (b2 HB.out HN.out.2)
  have HBz := hid HN.out.1
  clear HN
  obtain ⟨cz0, cz1, fz0, fz1⟩ := fbox_facts HBz.out (Below.refl _ _)
  go_wp2_with fail
  clear hW
  go_ret
  first | exact ⟨rfl, HB.out⟩ | exact ⟨rfl, fput2 HB.out _ HLE.out _ _⟩

set_option maxHeartbeats 6400000 in
set_option maxRecDepth 100000 in
theorem turnBack_1gt0 (p q r s x1 x2 : Int) (S : ByteArray) (w : World) (hs : S.size ≤ 281474976710656) (htab : TabT w) (herr : ErrT w) (h1 : in64 p q) (h2 : in64 r s) (ht : okI p q) (hu : okI r s) (hc : ordI (p * s) (r * q) = 1) (hx : readR S.data.toList = (0, 0, 180)) :
    Calls Tryd.prog 5 #[.agg #[.int .i64 p, .int .i64 q], .agg #[.int .i64 r, .int .i64 s], .string S] w fun e w' => e = .returned (.bool true) ∧ Below w.heap.size w w' := by
  have HX := hid (boxes2 w 23 #[.int .i64 p, .int .i64 q] #[.int .i64 r, .int .i64 s])
  have HLV := hid tlives_any
  have HPt : Hid (∀ V, Below w.heap.size w V → Calls Tryd.prog 17 #[.agg #[.int .i64 p, .int .i64 q]] V fun e w' => e = .returned (pV (printR p q)) ∧ Below V.heap.size V w') := fun V hv => tprint_any p q V h1 (htab.later hv)
  have HRs : Hid (∀ V, Below w.heap.size w V → Calls Tryd.prog 13 #[.string S] V fun e w' => e = .returned (tV (readR S.data.toList)) ∧ Below V.heap.size V w') := fun V hv => tparse_any S V hs (herr.later hv) (htab.later hv)
  rw [print_ok ht] at HPt
  have HRt : Hid (∀ V, Below w.heap.size w V → Calls Tryd.prog 13 #[.string ⟨(txtT p q).toArray⟩] V fun e w' => e = .returned (tV (readR (txtT p q))) ∧ Below V.heap.size V w') := fun V hv => by
    have e := tparse_any ⟨(txtT p q).toArray⟩ V (by show (txtT p q).toArray.size ≤ _; rw [List.size_toArray]; have := txt_len h1; omega) (herr.later hv) (htab.later hv)
    exact e
  rw [read_txt ht, show tV (p, q, 0) = Value.tuple #[.agg #[.int .i64 p, .int .i64 q], .int .i64 0] from rfl] at HRt
  have HOt := hid (fun V => tof_any p q V h1)
  rw [of_self ht, show tV (p, q, 0) = Value.tuple #[.agg #[.int .i64 p, .int .i64 q], .int .i64 0] from rfl] at HOt
  generalize (txtT p q).toArray = tx' at HPt HRt
  have HC1 := hid (fun V => tcompare_any p q r s V h1 h2)
  have HC2 := hid (fun V => tcompare_any r s p q V h2 h1)
  rw [show cmpR p q r s = (1, 0) by unfold cmpR; rw [if_pos ⟨ht, hu⟩, hc]] at HC1
  rw [show cmpR r s p q = (-1, 0) by unfold cmpR; rw [if_pos ⟨hu, ht⟩, ord_neg, hc]; try rfl] at HC2
  rw [show cV (1, 0) = Value.tuple #[.int .i64 (1), .int .i64 0] from rfl] at HC1
  rw [show cV (-1, 0) = Value.tuple #[.int .i64 (-1), .int .i64 0] from rfl] at HC2
  have hne : ¬ (p = r ∧ q = s) := fun k => by
    have hz := (ord_zero ht hu)
    rw [hc] at hz
    exact absurd (hz.2 k) (by decide)
  rw [hx, show tV (0, 0, 180) = Value.tuple #[.agg #[.int .i64 0, .int .i64 0], .int .i64 180] from rfl] at HRs
  have HBt := hid HX.out.1
  have HBu := hid HX.out.2.1
  have HB := hid HX.out.2.2
  clear HX htab herr h1 h2 ht hx hu hc 
  go_enter Tryd.func5, Tryd.ntmps5
  go_wp2_with fail
  generalize (w.alloc (.cells #[.int .i64 p, .int .i64 q] 23)).alloc (.cells #[.int .i64 r, .int .i64 s] 23) = X at *
  refine Calls.mono (HLV.out _) ?_
  rintro e w1 ⟨rfl, hb⟩
  replace HBt := hid (HBt.out.later hb HBt.out.lt)
  replace HBu := hid (HBu.out.later hb HBu.out.lt)
  replace HB := hid (b2 HB.out hb)
  clear hb
  obtain ⟨ct0, ct1, ft0, ft1⟩ := fbox_facts HBt.out (Below.refl _ _)
  obtain ⟨cu0, cu1, fu0, fu1⟩ := fbox_facts HBu.out (Below.refl _ _)
  go_wp2_with fail
  refine Calls.mono (HPt.out _ HB.out) ?_
  rintro e w2 ⟨rfl, hb⟩
  replace HBt := hid (HBt.out.later hb HBt.out.lt)
  replace HBu := hid (HBu.out.later hb HBu.out.lt)
  replace HB := hid (b2 HB.out hb)
  clear hb
  clear ct0 ct1 ft0 ft1
  clear cu0 cu1 fu0 fu1
  obtain ⟨ct0, ct1, ft0, ft1⟩ := fbox_facts HBt.out (Below.refl _ _)
  obtain ⟨cu0, cu1, fu0, fu1⟩ := fbox_facts HBu.out (Below.refl _ _)
  go_wp2_with fail
  refine Calls.mono (HRt.out _ HB.out) ?_
  rintro e w3 ⟨rfl, hb⟩
  replace HBt := hid (HBt.out.later hb HBt.out.lt)
  replace HBu := hid (HBu.out.later hb HBu.out.lt)
  replace HB := hid (b2 HB.out hb)
  clear hb
  clear ct0 ct1 ft0 ft1
  clear cu0 cu1 fu0 fu1
  have HN := hid (boxes1 w3 23 #[.int .i64 p, .int .i64 q])
  obtain ⟨w4, hW⟩ : ∃ w4, w3.alloc (.cells #[.int .i64 p, .int .i64 q] 23) = w4 := ⟨_, rfl⟩
  rw [hW] at HN
  replace HBt := hid (HBt.out.later HN.out.2 HBt.out.lt)
  replace HBu := hid (HBu.out.later HN.out.2 HBu.out.lt)
  replace HB := hid (b2 HB.out HN.out.2)
  have HBx := hid HN.out.1
  clear HN
  obtain ⟨ct0, ct1, ft0, ft1⟩ := fbox_facts HBt.out (Below.refl _ _)
  go_wp2_with fail
  clear hW
  refine Calls.mono (HOt.out _) ?_
  rintro e w5 ⟨rfl, hb⟩
  replace HBt := hid (HBt.out.later hb HBt.out.lt)
  replace HBu := hid (HBu.out.later hb HBu.out.lt)
  replace HBx := hid (HBx.out.later hb HBx.out.lt)
  replace HB := hid (b2 HB.out hb)
  clear hb
  clear ct0 ct1 ft0 ft1
  have HN := hid (boxes1 w5 23 #[.int .i64 p, .int .i64 q])
  obtain ⟨w6, hW⟩ : ∃ w6, w5.alloc (.cells #[.int .i64 p, .int .i64 q] 23) = w6 := ⟨_, rfl⟩
  rw [hW] at HN
  replace HBt := hid (HBt.out.later HN.out.2 HBt.out.lt)
  replace HBu := hid (HBu.out.later HN.out.2 HBu.out.lt)
  replace HBx := hid (HBx.out.later HN.out.2 HBx.out.lt)
  replace HB := hid (b2 HB.out HN.out.2)
  have HBy := hid HN.out.1
  clear HN
  obtain ⟨cx0, cx1, fx0, fx1⟩ := fbox_facts HBx.out (Below.refl _ _)
  obtain ⟨cy0, cy1, fy0, fy1⟩ := fbox_facts HBy.out (Below.refl _ _)
  obtain ⟨ct0, ct1, ft0, ft1⟩ := fbox_facts HBt.out (Below.refl _ _)
  obtain ⟨cu0, cu1, fu0, fu1⟩ := fbox_facts HBu.out (Below.refl _ _)
  go_wp2_with fail
  clear hW
  refine Calls.mono (HC1.out _) ?_
  rintro e w7 ⟨rfl, hb⟩
  replace HBt := hid (HBt.out.later hb HBt.out.lt)
  replace HBu := hid (HBu.out.later hb HBu.out.lt)
  replace HBx := hid (HBx.out.later hb HBx.out.lt)
  replace HBy := hid (HBy.out.later hb HBy.out.lt)
  replace HB := hid (b2 HB.out hb)
  clear hb
  clear cx0 cx1 fx0 fx1
  clear cy0 cy1 fy0 fy1
  clear ct0 ct1 ft0 ft1
  clear cu0 cu1 fu0 fu1
  obtain ⟨ct0, ct1, ft0, ft1⟩ := fbox_facts HBt.out (Below.refl _ _)
  obtain ⟨cu0, cu1, fu0, fu1⟩ := fbox_facts HBu.out (Below.refl _ _)
  go_wp2_with fail
  refine Calls.mono (HC2.out _) ?_
  rintro e w8 ⟨rfl, hb⟩
  replace HBt := hid (HBt.out.later hb HBt.out.lt)
  replace HBu := hid (HBu.out.later hb HBu.out.lt)
  replace HBx := hid (HBx.out.later hb HBx.out.lt)
  replace HBy := hid (HBy.out.later hb HBy.out.lt)
  replace HB := hid (b2 HB.out hb)
  clear hb
  clear ct0 ct1 ft0 ft1
  clear cu0 cu1 fu0 fu1
  obtain ⟨ct0, ct1, ft0, ft1⟩ := fbox_facts HBt.out (Below.refl _ _)
  obtain ⟨cu0, cu1, fu0, fu1⟩ := fbox_facts HBu.out (Below.refl _ _)
  go_wp2_with fail
  all_goals
    refine Calls.mono (HRs.out _ HB.out) ?_
    rintro e w9 ⟨rfl, hb⟩
    replace HBt := hid (HBt.out.later hb HBt.out.lt)
    replace HBu := hid (HBu.out.later hb HBu.out.lt)
    replace HBx := hid (HBx.out.later hb HBx.out.lt)
    replace HBy := hid (HBy.out.later hb HBy.out.lt)
    replace HB := hid (b2 HB.out hb)
    clear hb
    clear ct0 ct1 ft0 ft1
    clear cu0 cu1 fu0 fu1
    have HLE := hid HB.out.size
    have HN := hid (boxes1 w9 23 #[.int .i64 0, .int .i64 0])
    obtain ⟨wa, hW⟩ : ∃ wa, w9.alloc (.cells #[.int .i64 0, .int .i64 0] 23) = wa := ⟨_, rfl⟩
    rw [hW] at HN
    replace HBt := hid (HBt.out.later HN.out.2 HBt.out.lt)
    replace HBu := hid (HBu.out.later HN.out.2 HBu.out.lt)
    replace HBx := hid (HBx.out.later HN.out.2 HBx.out.lt)
    replace HBy := hid (HBy.out.later HN.out.2 HBy.out.lt)
    replace HB := hid (b2 HB.out HN.out.2)
    have HBz := hid HN.out.1
    clear HN
    obtain ⟨cz0, cz1, fz0, fz1⟩ := fbox_facts HBz.out (Below.refl _ _)
    go_wp2_with fail
    clear hW
    go_ret
    first | exact ⟨rfl, HB.out⟩ | exact ⟨rfl, fput2 HB.out _ HLE.out _ _⟩

set_option maxHeartbeats 6400000 in
set_option maxRecDepth 100000 in
theorem turnBack_0any1 (p q r s x1 x2 : Int) (S : ByteArray) (w : World) (hs : S.size ≤ 281474976710656) (htab : TabT w) (herr : ErrT w) (h1 : in64 p q) (h2 : in64 r s) (ht : ¬ okI p q) (hx : readR S.data.toList = (x1, x2, 0)) (ox : okI x1 x2) (tx : txtT x1 x2 = S.data.toList) :
    Calls Tryd.prog 5 #[.agg #[.int .i64 p, .int .i64 q], .agg #[.int .i64 r, .int .i64 s], .string S] w fun e w' => e = .returned (.bool true) ∧ Below w.heap.size w w' := by
  have HX := hid (boxes2 w 23 #[.int .i64 p, .int .i64 q] #[.int .i64 r, .int .i64 s])
  have HLV := hid tlives_any
  have HPt : Hid (∀ V, Below w.heap.size w V → Calls Tryd.prog 17 #[.agg #[.int .i64 p, .int .i64 q]] V fun e w' => e = .returned (pV (printR p q)) ∧ Below V.heap.size V w') := fun V hv => tprint_any p q V h1 (htab.later hv)
  have HRs : Hid (∀ V, Below w.heap.size w V → Calls Tryd.prog 13 #[.string S] V fun e w' => e = .returned (tV (readR S.data.toList)) ∧ Below V.heap.size V w') := fun V hv => tparse_any S V hs (herr.later hv) (htab.later hv)
  rw [print_no ht] at HPt
  rw [hx, show tV (x1, x2, 0) = Value.tuple #[.agg #[.int .i64 x1, .int .i64 x2], .int .i64 0] from rfl] at HRs
  have HPx : Hid (∀ V, Below w.heap.size w V → Calls Tryd.prog 17 #[.agg #[.int .i64 x1, .int .i64 x2]] V fun e w' => e = .returned (pV (printR x1 x2)) ∧ Below V.heap.size V w') := fun V hv => tprint_any x1 x2 V ox.in64b (htab.later hv)
  rw [print_ok ox, tx, bytes_back] at HPx
  have HBt := hid HX.out.1
  have HBu := hid HX.out.2.1
  have HB := hid HX.out.2.2
  clear HX htab herr h1 h2 ht hx ox tx 
  go_enter Tryd.func5, Tryd.ntmps5
  go_wp2_with fail
  generalize (w.alloc (.cells #[.int .i64 p, .int .i64 q] 23)).alloc (.cells #[.int .i64 r, .int .i64 s] 23) = X at *
  refine Calls.mono (HLV.out _) ?_
  rintro e w1 ⟨rfl, hb⟩
  replace HBt := hid (HBt.out.later hb HBt.out.lt)
  replace HBu := hid (HBu.out.later hb HBu.out.lt)
  replace HB := hid (b2 HB.out hb)
  clear hb
  obtain ⟨ct0, ct1, ft0, ft1⟩ := fbox_facts HBt.out (Below.refl _ _)
  obtain ⟨cu0, cu1, fu0, fu1⟩ := fbox_facts HBu.out (Below.refl _ _)
  go_wp2_with fail
  refine Calls.mono (HPt.out _ HB.out) ?_
  rintro e w2 ⟨rfl, hb⟩
  replace HBt := hid (HBt.out.later hb HBt.out.lt)
  replace HBu := hid (HBu.out.later hb HBu.out.lt)
  replace HB := hid (b2 HB.out hb)
  clear hb
  clear ct0 ct1 ft0 ft1
  clear cu0 cu1 fu0 fu1
  obtain ⟨ct0, ct1, ft0, ft1⟩ := fbox_facts HBt.out (Below.refl _ _)
  obtain ⟨cu0, cu1, fu0, fu1⟩ := fbox_facts HBu.out (Below.refl _ _)
  go_wp2_with fail
  refine Calls.mono (HRs.out _ HB.out) ?_
  rintro e w9 ⟨rfl, hb⟩
  replace HBt := hid (HBt.out.later hb HBt.out.lt)
  replace HBu := hid (HBu.out.later hb HBu.out.lt)
  replace HB := hid (b2 HB.out hb)
  clear hb
  clear ct0 ct1 ft0 ft1
  clear cu0 cu1 fu0 fu1
  have HLE := hid HB.out.size
  have HN := hid (boxes1 w9 23 #[.int .i64 x1, .int .i64 x2])
  obtain ⟨wa, hW⟩ : ∃ wa, w9.alloc (.cells #[.int .i64 x1, .int .i64 x2] 23) = wa := ⟨_, rfl⟩
  rw [hW] at HN
  replace HBt := hid (HBt.out.later HN.out.2 HBt.out.lt)
  replace HBu := hid (HBu.out.later HN.out.2 HBu.out.lt)
  replace HB := hid (b2 HB.out HN.out.2)
  have HBz := hid HN.out.1
  clear HN
  obtain ⟨cz0, cz1, fz0, fz1⟩ := fbox_facts HBz.out (Below.refl _ _)
  go_wp2_with fail
  clear hW
  refine Calls.mono (HPx.out _ HB.out) ?_
  rintro e wb ⟨rfl, hb⟩
  replace HBt := hid (HBt.out.later hb HBt.out.lt)
  replace HBu := hid (HBu.out.later hb HBu.out.lt)
  replace HBz := hid (HBz.out.later hb HBz.out.lt)
  replace HB := hid (b2 HB.out hb)
  clear hb
  clear cz0 cz1 fz0 fz1
  go_wp2_with fail
  go_ret
  first | exact ⟨rfl, HB.out⟩ | exact ⟨rfl, fput2 HB.out _ HLE.out _ _⟩

set_option maxHeartbeats 6400000 in
set_option maxRecDepth 100000 in
theorem turnBack_1err1 (p q r s x1 x2 : Int) (S : ByteArray) (w : World) (hs : S.size ≤ 281474976710656) (htab : TabT w) (herr : ErrT w) (h1 : in64 p q) (h2 : in64 r s) (ht : okI p q) (hu : ¬ okI r s) (hx : readR S.data.toList = (x1, x2, 0)) (ox : okI x1 x2) (tx : txtT x1 x2 = S.data.toList) :
    Calls Tryd.prog 5 #[.agg #[.int .i64 p, .int .i64 q], .agg #[.int .i64 r, .int .i64 s], .string S] w fun e w' => e = .returned (.bool true) ∧ Below w.heap.size w w' := by
  have HX := hid (boxes2 w 23 #[.int .i64 p, .int .i64 q] #[.int .i64 r, .int .i64 s])
  have HLV := hid tlives_any
  have HPt : Hid (∀ V, Below w.heap.size w V → Calls Tryd.prog 17 #[.agg #[.int .i64 p, .int .i64 q]] V fun e w' => e = .returned (pV (printR p q)) ∧ Below V.heap.size V w') := fun V hv => tprint_any p q V h1 (htab.later hv)
  have HRs : Hid (∀ V, Below w.heap.size w V → Calls Tryd.prog 13 #[.string S] V fun e w' => e = .returned (tV (readR S.data.toList)) ∧ Below V.heap.size V w') := fun V hv => tparse_any S V hs (herr.later hv) (htab.later hv)
  rw [print_ok ht] at HPt
  have HRt : Hid (∀ V, Below w.heap.size w V → Calls Tryd.prog 13 #[.string ⟨(txtT p q).toArray⟩] V fun e w' => e = .returned (tV (readR (txtT p q))) ∧ Below V.heap.size V w') := fun V hv => by
    have e := tparse_any ⟨(txtT p q).toArray⟩ V (by show (txtT p q).toArray.size ≤ _; rw [List.size_toArray]; have := txt_len h1; omega) (herr.later hv) (htab.later hv)
    exact e
  rw [read_txt ht, show tV (p, q, 0) = Value.tuple #[.agg #[.int .i64 p, .int .i64 q], .int .i64 0] from rfl] at HRt
  have HOt := hid (fun V => tof_any p q V h1)
  rw [of_self ht, show tV (p, q, 0) = Value.tuple #[.agg #[.int .i64 p, .int .i64 q], .int .i64 0] from rfl] at HOt
  generalize (txtT p q).toArray = tx' at HPt HRt
  have HC1 := hid (fun V => tcompare_any p q r s V h1 h2)
  have HC2 := hid (fun V => tcompare_any r s p q V h2 h1)
  rw [show cmpR p q r s = (0, 180) by unfold cmpR; rw [if_neg (fun k => hu k.2)]] at HC1
  rw [show cmpR r s p q = (0, 180) by unfold cmpR; rw [if_neg (fun k => hu k.1)]] at HC2
  rw [show cV (0, 180) = Value.tuple #[.int .i64 0, .int .i64 180] from rfl] at HC1 HC2
  rw [hx, show tV (x1, x2, 0) = Value.tuple #[.agg #[.int .i64 x1, .int .i64 x2], .int .i64 0] from rfl] at HRs
  have HPx : Hid (∀ V, Below w.heap.size w V → Calls Tryd.prog 17 #[.agg #[.int .i64 x1, .int .i64 x2]] V fun e w' => e = .returned (pV (printR x1 x2)) ∧ Below V.heap.size V w') := fun V hv => tprint_any x1 x2 V ox.in64b (htab.later hv)
  rw [print_ok ox, tx, bytes_back] at HPx
  have HBt := hid HX.out.1
  have HBu := hid HX.out.2.1
  have HB := hid HX.out.2.2
  clear HX htab herr h1 h2 ht hx ox tx hu 
  go_enter Tryd.func5, Tryd.ntmps5
  go_wp2_with fail
  generalize (w.alloc (.cells #[.int .i64 p, .int .i64 q] 23)).alloc (.cells #[.int .i64 r, .int .i64 s] 23) = X at *
  refine Calls.mono (HLV.out _) ?_
  rintro e w1 ⟨rfl, hb⟩
  replace HBt := hid (HBt.out.later hb HBt.out.lt)
  replace HBu := hid (HBu.out.later hb HBu.out.lt)
  replace HB := hid (b2 HB.out hb)
  clear hb
  obtain ⟨ct0, ct1, ft0, ft1⟩ := fbox_facts HBt.out (Below.refl _ _)
  obtain ⟨cu0, cu1, fu0, fu1⟩ := fbox_facts HBu.out (Below.refl _ _)
  go_wp2_with fail
  refine Calls.mono (HPt.out _ HB.out) ?_
  rintro e w2 ⟨rfl, hb⟩
  replace HBt := hid (HBt.out.later hb HBt.out.lt)
  replace HBu := hid (HBu.out.later hb HBu.out.lt)
  replace HB := hid (b2 HB.out hb)
  clear hb
  clear ct0 ct1 ft0 ft1
  clear cu0 cu1 fu0 fu1
  obtain ⟨ct0, ct1, ft0, ft1⟩ := fbox_facts HBt.out (Below.refl _ _)
  obtain ⟨cu0, cu1, fu0, fu1⟩ := fbox_facts HBu.out (Below.refl _ _)
  go_wp2_with fail
  refine Calls.mono (HRt.out _ HB.out) ?_
  rintro e w3 ⟨rfl, hb⟩
  replace HBt := hid (HBt.out.later hb HBt.out.lt)
  replace HBu := hid (HBu.out.later hb HBu.out.lt)
  replace HB := hid (b2 HB.out hb)
  clear hb
  clear ct0 ct1 ft0 ft1
  clear cu0 cu1 fu0 fu1
  have HN := hid (boxes1 w3 23 #[.int .i64 p, .int .i64 q])
  obtain ⟨w4, hW⟩ : ∃ w4, w3.alloc (.cells #[.int .i64 p, .int .i64 q] 23) = w4 := ⟨_, rfl⟩
  rw [hW] at HN
  replace HBt := hid (HBt.out.later HN.out.2 HBt.out.lt)
  replace HBu := hid (HBu.out.later HN.out.2 HBu.out.lt)
  replace HB := hid (b2 HB.out HN.out.2)
  have HBx := hid HN.out.1
  clear HN
  obtain ⟨ct0, ct1, ft0, ft1⟩ := fbox_facts HBt.out (Below.refl _ _)
  go_wp2_with fail
  clear hW
  refine Calls.mono (HOt.out _) ?_
  rintro e w5 ⟨rfl, hb⟩
  replace HBt := hid (HBt.out.later hb HBt.out.lt)
  replace HBu := hid (HBu.out.later hb HBu.out.lt)
  replace HBx := hid (HBx.out.later hb HBx.out.lt)
  replace HB := hid (b2 HB.out hb)
  clear hb
  clear ct0 ct1 ft0 ft1
  have HN := hid (boxes1 w5 23 #[.int .i64 p, .int .i64 q])
  obtain ⟨w6, hW⟩ : ∃ w6, w5.alloc (.cells #[.int .i64 p, .int .i64 q] 23) = w6 := ⟨_, rfl⟩
  rw [hW] at HN
  replace HBt := hid (HBt.out.later HN.out.2 HBt.out.lt)
  replace HBu := hid (HBu.out.later HN.out.2 HBu.out.lt)
  replace HBx := hid (HBx.out.later HN.out.2 HBx.out.lt)
  replace HB := hid (b2 HB.out HN.out.2)
  have HBy := hid HN.out.1
  clear HN
  obtain ⟨cx0, cx1, fx0, fx1⟩ := fbox_facts HBx.out (Below.refl _ _)
  obtain ⟨cy0, cy1, fy0, fy1⟩ := fbox_facts HBy.out (Below.refl _ _)
  obtain ⟨ct0, ct1, ft0, ft1⟩ := fbox_facts HBt.out (Below.refl _ _)
  obtain ⟨cu0, cu1, fu0, fu1⟩ := fbox_facts HBu.out (Below.refl _ _)
  go_wp2_with fail
  clear hW
  refine Calls.mono (HC1.out _) ?_
  rintro e w7 ⟨rfl, hb⟩
  replace HBt := hid (HBt.out.later hb HBt.out.lt)
  replace HBu := hid (HBu.out.later hb HBu.out.lt)
  replace HBx := hid (HBx.out.later hb HBx.out.lt)
  replace HBy := hid (HBy.out.later hb HBy.out.lt)
  replace HB := hid (b2 HB.out hb)
  clear hb
  clear cx0 cx1 fx0 fx1
  clear cy0 cy1 fy0 fy1
  clear ct0 ct1 ft0 ft1
  clear cu0 cu1 fu0 fu1
  obtain ⟨ct0, ct1, ft0, ft1⟩ := fbox_facts HBt.out (Below.refl _ _)
  obtain ⟨cu0, cu1, fu0, fu1⟩ := fbox_facts HBu.out (Below.refl _ _)
  go_wp2_with fail
  refine Calls.mono (HC2.out _) ?_
  rintro e w8 ⟨rfl, hb⟩
  replace HBt := hid (HBt.out.later hb HBt.out.lt)
  replace HBu := hid (HBu.out.later hb HBu.out.lt)
  replace HBx := hid (HBx.out.later hb HBx.out.lt)
  replace HBy := hid (HBy.out.later hb HBy.out.lt)
  replace HB := hid (b2 HB.out hb)
  clear hb
  clear ct0 ct1 ft0 ft1
  clear cu0 cu1 fu0 fu1
  obtain ⟨ct0, ct1, ft0, ft1⟩ := fbox_facts HBt.out (Below.refl _ _)
  obtain ⟨cu0, cu1, fu0, fu1⟩ := fbox_facts HBu.out (Below.refl _ _)
  go_wp2_with fail
  refine Calls.mono (HRs.out _ HB.out) ?_
  rintro e w9 ⟨rfl, hb⟩
  replace HBt := hid (HBt.out.later hb HBt.out.lt)
  replace HBu := hid (HBu.out.later hb HBu.out.lt)
  replace HBx := hid (HBx.out.later hb HBx.out.lt)
  replace HBy := hid (HBy.out.later hb HBy.out.lt)
  replace HB := hid (b2 HB.out hb)
  clear hb
  clear ct0 ct1 ft0 ft1
  clear cu0 cu1 fu0 fu1
  have HLE := hid HB.out.size
  have HN := hid (boxes1 w9 23 #[.int .i64 x1, .int .i64 x2])
  obtain ⟨wa, hW⟩ : ∃ wa, w9.alloc (.cells #[.int .i64 x1, .int .i64 x2] 23) = wa := ⟨_, rfl⟩
  rw [hW] at HN
  replace HBt := hid (HBt.out.later HN.out.2 HBt.out.lt)
  replace HBu := hid (HBu.out.later HN.out.2 HBu.out.lt)
  replace HBx := hid (HBx.out.later HN.out.2 HBx.out.lt)
  replace HBy := hid (HBy.out.later HN.out.2 HBy.out.lt)
  replace HB := hid (b2 HB.out HN.out.2)
  have HBz := hid HN.out.1
  clear HN
  obtain ⟨cz0, cz1, fz0, fz1⟩ := fbox_facts HBz.out (Below.refl _ _)
  go_wp2_with fail
  clear hW
  refine Calls.mono (HPx.out _ HB.out) ?_
  rintro e wb ⟨rfl, hb⟩
  replace HBt := hid (HBt.out.later hb HBt.out.lt)
  replace HBu := hid (HBu.out.later hb HBu.out.lt)
  replace HBx := hid (HBx.out.later hb HBx.out.lt)
  replace HBy := hid (HBy.out.later hb HBy.out.lt)
  replace HBz := hid (HBz.out.later hb HBz.out.lt)
  replace HB := hid (b2 HB.out hb)
  clear hb
  clear cz0 cz1 fz0 fz1
  go_wp2_with fail
  go_ret
  first | exact ⟨rfl, HB.out⟩ | exact ⟨rfl, fput2 HB.out _ HLE.out _ _⟩

set_option maxHeartbeats 6400000 in
set_option maxRecDepth 100000 in
theorem turnBack_1lt1 (p q r s x1 x2 : Int) (S : ByteArray) (w : World) (hs : S.size ≤ 281474976710656) (htab : TabT w) (herr : ErrT w) (h1 : in64 p q) (h2 : in64 r s) (ht : okI p q) (hu : okI r s) (hc : ordI (p * s) (r * q) = -1) (hx : readR S.data.toList = (x1, x2, 0)) (ox : okI x1 x2) (tx : txtT x1 x2 = S.data.toList) :
    Calls Tryd.prog 5 #[.agg #[.int .i64 p, .int .i64 q], .agg #[.int .i64 r, .int .i64 s], .string S] w fun e w' => e = .returned (.bool true) ∧ Below w.heap.size w w' := by
  have HX := hid (boxes2 w 23 #[.int .i64 p, .int .i64 q] #[.int .i64 r, .int .i64 s])
  have HLV := hid tlives_any
  have HPt : Hid (∀ V, Below w.heap.size w V → Calls Tryd.prog 17 #[.agg #[.int .i64 p, .int .i64 q]] V fun e w' => e = .returned (pV (printR p q)) ∧ Below V.heap.size V w') := fun V hv => tprint_any p q V h1 (htab.later hv)
  have HRs : Hid (∀ V, Below w.heap.size w V → Calls Tryd.prog 13 #[.string S] V fun e w' => e = .returned (tV (readR S.data.toList)) ∧ Below V.heap.size V w') := fun V hv => tparse_any S V hs (herr.later hv) (htab.later hv)
  rw [print_ok ht] at HPt
  have HRt : Hid (∀ V, Below w.heap.size w V → Calls Tryd.prog 13 #[.string ⟨(txtT p q).toArray⟩] V fun e w' => e = .returned (tV (readR (txtT p q))) ∧ Below V.heap.size V w') := fun V hv => by
    have e := tparse_any ⟨(txtT p q).toArray⟩ V (by show (txtT p q).toArray.size ≤ _; rw [List.size_toArray]; have := txt_len h1; omega) (herr.later hv) (htab.later hv)
    exact e
  rw [read_txt ht, show tV (p, q, 0) = Value.tuple #[.agg #[.int .i64 p, .int .i64 q], .int .i64 0] from rfl] at HRt
  have HOt := hid (fun V => tof_any p q V h1)
  rw [of_self ht, show tV (p, q, 0) = Value.tuple #[.agg #[.int .i64 p, .int .i64 q], .int .i64 0] from rfl] at HOt
  generalize (txtT p q).toArray = tx' at HPt HRt
  have HC1 := hid (fun V => tcompare_any p q r s V h1 h2)
  have HC2 := hid (fun V => tcompare_any r s p q V h2 h1)
  rw [show cmpR p q r s = (-1, 0) by unfold cmpR; rw [if_pos ⟨ht, hu⟩, hc]] at HC1
  rw [show cmpR r s p q = (1, 0) by unfold cmpR; rw [if_pos ⟨hu, ht⟩, ord_neg, hc]; try rfl] at HC2
  rw [show cV (-1, 0) = Value.tuple #[.int .i64 (-1), .int .i64 0] from rfl] at HC1
  rw [show cV (1, 0) = Value.tuple #[.int .i64 (1), .int .i64 0] from rfl] at HC2
  have hne : ¬ (p = r ∧ q = s) := fun k => by
    have hz := (ord_zero ht hu)
    rw [hc] at hz
    exact absurd (hz.2 k) (by decide)
  rw [hx, show tV (x1, x2, 0) = Value.tuple #[.agg #[.int .i64 x1, .int .i64 x2], .int .i64 0] from rfl] at HRs
  have HPx : Hid (∀ V, Below w.heap.size w V → Calls Tryd.prog 17 #[.agg #[.int .i64 x1, .int .i64 x2]] V fun e w' => e = .returned (pV (printR x1 x2)) ∧ Below V.heap.size V w') := fun V hv => tprint_any x1 x2 V ox.in64b (htab.later hv)
  rw [print_ok ox, tx, bytes_back] at HPx
  have HBt := hid HX.out.1
  have HBu := hid HX.out.2.1
  have HB := hid HX.out.2.2
  clear HX htab herr h1 h2 ht hx ox tx hu hc 
  go_enter Tryd.func5, Tryd.ntmps5
  go_wp2_with fail
  generalize (w.alloc (.cells #[.int .i64 p, .int .i64 q] 23)).alloc (.cells #[.int .i64 r, .int .i64 s] 23) = X at *
  refine Calls.mono (HLV.out _) ?_
  rintro e w1 ⟨rfl, hb⟩
  replace HBt := hid (HBt.out.later hb HBt.out.lt)
  replace HBu := hid (HBu.out.later hb HBu.out.lt)
  replace HB := hid (b2 HB.out hb)
  clear hb
  obtain ⟨ct0, ct1, ft0, ft1⟩ := fbox_facts HBt.out (Below.refl _ _)
  obtain ⟨cu0, cu1, fu0, fu1⟩ := fbox_facts HBu.out (Below.refl _ _)
  go_wp2_with fail
  refine Calls.mono (HPt.out _ HB.out) ?_
  rintro e w2 ⟨rfl, hb⟩
  replace HBt := hid (HBt.out.later hb HBt.out.lt)
  replace HBu := hid (HBu.out.later hb HBu.out.lt)
  replace HB := hid (b2 HB.out hb)
  clear hb
  clear ct0 ct1 ft0 ft1
  clear cu0 cu1 fu0 fu1
  obtain ⟨ct0, ct1, ft0, ft1⟩ := fbox_facts HBt.out (Below.refl _ _)
  obtain ⟨cu0, cu1, fu0, fu1⟩ := fbox_facts HBu.out (Below.refl _ _)
  go_wp2_with fail
  refine Calls.mono (HRt.out _ HB.out) ?_
  rintro e w3 ⟨rfl, hb⟩
  replace HBt := hid (HBt.out.later hb HBt.out.lt)
  replace HBu := hid (HBu.out.later hb HBu.out.lt)
  replace HB := hid (b2 HB.out hb)
  clear hb
  clear ct0 ct1 ft0 ft1
  clear cu0 cu1 fu0 fu1
  have HN := hid (boxes1 w3 23 #[.int .i64 p, .int .i64 q])
  obtain ⟨w4, hW⟩ : ∃ w4, w3.alloc (.cells #[.int .i64 p, .int .i64 q] 23) = w4 := ⟨_, rfl⟩
  rw [hW] at HN
  replace HBt := hid (HBt.out.later HN.out.2 HBt.out.lt)
  replace HBu := hid (HBu.out.later HN.out.2 HBu.out.lt)
  replace HB := hid (b2 HB.out HN.out.2)
  have HBx := hid HN.out.1
  clear HN
  obtain ⟨ct0, ct1, ft0, ft1⟩ := fbox_facts HBt.out (Below.refl _ _)
  go_wp2_with fail
  clear hW
  refine Calls.mono (HOt.out _) ?_
  rintro e w5 ⟨rfl, hb⟩
  replace HBt := hid (HBt.out.later hb HBt.out.lt)
  replace HBu := hid (HBu.out.later hb HBu.out.lt)
  replace HBx := hid (HBx.out.later hb HBx.out.lt)
  replace HB := hid (b2 HB.out hb)
  clear hb
  clear ct0 ct1 ft0 ft1
  have HN := hid (boxes1 w5 23 #[.int .i64 p, .int .i64 q])
  obtain ⟨w6, hW⟩ : ∃ w6, w5.alloc (.cells #[.int .i64 p, .int .i64 q] 23) = w6 := ⟨_, rfl⟩
  rw [hW] at HN
  replace HBt := hid (HBt.out.later HN.out.2 HBt.out.lt)
  replace HBu := hid (HBu.out.later HN.out.2 HBu.out.lt)
  replace HBx := hid (HBx.out.later HN.out.2 HBx.out.lt)
  replace HB := hid (b2 HB.out HN.out.2)
  have HBy := hid HN.out.1
  clear HN
  obtain ⟨cx0, cx1, fx0, fx1⟩ := fbox_facts HBx.out (Below.refl _ _)
  obtain ⟨cy0, cy1, fy0, fy1⟩ := fbox_facts HBy.out (Below.refl _ _)
  obtain ⟨ct0, ct1, ft0, ft1⟩ := fbox_facts HBt.out (Below.refl _ _)
  obtain ⟨cu0, cu1, fu0, fu1⟩ := fbox_facts HBu.out (Below.refl _ _)
  go_wp2_with fail
  clear hW
  refine Calls.mono (HC1.out _) ?_
  rintro e w7 ⟨rfl, hb⟩
  replace HBt := hid (HBt.out.later hb HBt.out.lt)
  replace HBu := hid (HBu.out.later hb HBu.out.lt)
  replace HBx := hid (HBx.out.later hb HBx.out.lt)
  replace HBy := hid (HBy.out.later hb HBy.out.lt)
  replace HB := hid (b2 HB.out hb)
  clear hb
  clear cx0 cx1 fx0 fx1
  clear cy0 cy1 fy0 fy1
  clear ct0 ct1 ft0 ft1
  clear cu0 cu1 fu0 fu1
  obtain ⟨ct0, ct1, ft0, ft1⟩ := fbox_facts HBt.out (Below.refl _ _)
  obtain ⟨cu0, cu1, fu0, fu1⟩ := fbox_facts HBu.out (Below.refl _ _)
  go_wp2_with fail
  refine Calls.mono (HC2.out _) ?_
  rintro e w8 ⟨rfl, hb⟩
  replace HBt := hid (HBt.out.later hb HBt.out.lt)
  replace HBu := hid (HBu.out.later hb HBu.out.lt)
  replace HBx := hid (HBx.out.later hb HBx.out.lt)
  replace HBy := hid (HBy.out.later hb HBy.out.lt)
  replace HB := hid (b2 HB.out hb)
  clear hb
  clear ct0 ct1 ft0 ft1
  clear cu0 cu1 fu0 fu1
  obtain ⟨ct0, ct1, ft0, ft1⟩ := fbox_facts HBt.out (Below.refl _ _)
  obtain ⟨cu0, cu1, fu0, fu1⟩ := fbox_facts HBu.out (Below.refl _ _)
  go_wp2_with fail
  all_goals
    refine Calls.mono (HRs.out _ HB.out) ?_
    rintro e w9 ⟨rfl, hb⟩
    replace HBt := hid (HBt.out.later hb HBt.out.lt)
    replace HBu := hid (HBu.out.later hb HBu.out.lt)
    replace HBx := hid (HBx.out.later hb HBx.out.lt)
    replace HBy := hid (HBy.out.later hb HBy.out.lt)
    replace HB := hid (b2 HB.out hb)
    clear hb
    clear ct0 ct1 ft0 ft1
    clear cu0 cu1 fu0 fu1
    have HLE := hid HB.out.size
    have HN := hid (boxes1 w9 23 #[.int .i64 x1, .int .i64 x2])
    obtain ⟨wa, hW⟩ : ∃ wa, w9.alloc (.cells #[.int .i64 x1, .int .i64 x2] 23) = wa := ⟨_, rfl⟩
    rw [hW] at HN
    replace HBt := hid (HBt.out.later HN.out.2 HBt.out.lt)
    replace HBu := hid (HBu.out.later HN.out.2 HBu.out.lt)
    replace HBx := hid (HBx.out.later HN.out.2 HBx.out.lt)
    replace HBy := hid (HBy.out.later HN.out.2 HBy.out.lt)
    replace HB := hid (b2 HB.out HN.out.2)
    have HBz := hid HN.out.1
    clear HN
    obtain ⟨cz0, cz1, fz0, fz1⟩ := fbox_facts HBz.out (Below.refl _ _)
    go_wp2_with fail
    clear hW
    refine Calls.mono (HPx.out _ HB.out) ?_
    rintro e wb ⟨rfl, hb⟩
    replace HBt := hid (HBt.out.later hb HBt.out.lt)
    replace HBu := hid (HBu.out.later hb HBu.out.lt)
    replace HBx := hid (HBx.out.later hb HBx.out.lt)
    replace HBy := hid (HBy.out.later hb HBy.out.lt)
    replace HBz := hid (HBz.out.later hb HBz.out.lt)
    replace HB := hid (b2 HB.out hb)
    clear hb
    clear cz0 cz1 fz0 fz1
    go_wp2_with fail
    go_ret
    first | exact ⟨rfl, HB.out⟩ | exact ⟨rfl, fput2 HB.out _ HLE.out _ _⟩

set_option maxHeartbeats 6400000 in
set_option maxRecDepth 100000 in
theorem turnBack_1eq1 (p q r s x1 x2 : Int) (S : ByteArray) (w : World) (hs : S.size ≤ 281474976710656) (htab : TabT w) (herr : ErrT w) (h1 : in64 p q) (ht : okI p q) (hx : readR S.data.toList = (x1, x2, 0)) (ox : okI x1 x2) (tx : txtT x1 x2 = S.data.toList) :
    Calls Tryd.prog 5 #[.agg #[.int .i64 p, .int .i64 q], .agg #[.int .i64 p, .int .i64 q], .string S] w fun e w' => e = .returned (.bool true) ∧ Below w.heap.size w w' := by
  have HX := hid (boxes2 w 23 #[.int .i64 p, .int .i64 q] #[.int .i64 p, .int .i64 q])
  have HLV := hid tlives_any
  have HPt : Hid (∀ V, Below w.heap.size w V → Calls Tryd.prog 17 #[.agg #[.int .i64 p, .int .i64 q]] V fun e w' => e = .returned (pV (printR p q)) ∧ Below V.heap.size V w') := fun V hv => tprint_any p q V h1 (htab.later hv)
  have HRs : Hid (∀ V, Below w.heap.size w V → Calls Tryd.prog 13 #[.string S] V fun e w' => e = .returned (tV (readR S.data.toList)) ∧ Below V.heap.size V w') := fun V hv => tparse_any S V hs (herr.later hv) (htab.later hv)
  rw [print_ok ht] at HPt
  have HRt : Hid (∀ V, Below w.heap.size w V → Calls Tryd.prog 13 #[.string ⟨(txtT p q).toArray⟩] V fun e w' => e = .returned (tV (readR (txtT p q))) ∧ Below V.heap.size V w') := fun V hv => by
    have e := tparse_any ⟨(txtT p q).toArray⟩ V (by show (txtT p q).toArray.size ≤ _; rw [List.size_toArray]; have := txt_len h1; omega) (herr.later hv) (htab.later hv)
    exact e
  rw [read_txt ht, show tV (p, q, 0) = Value.tuple #[.agg #[.int .i64 p, .int .i64 q], .int .i64 0] from rfl] at HRt
  have HOt := hid (fun V => tof_any p q V h1)
  rw [of_self ht, show tV (p, q, 0) = Value.tuple #[.agg #[.int .i64 p, .int .i64 q], .int .i64 0] from rfl] at HOt
  generalize (txtT p q).toArray = tx' at HPt HRt
  have HC1 := hid (fun V => tcompare_any p q p q V h1 h1)
  rw [show cmpR p q p q = (0, 0) by unfold cmpR; rw [if_pos ⟨ht, ht⟩, (ord_zero ht ht).2 ⟨rfl, rfl⟩]] at HC1
  rw [show cV (0, 0) = Value.tuple #[.int .i64 0, .int .i64 0] from rfl] at HC1
  have HC2 := hid HC1.out
  rw [hx, show tV (x1, x2, 0) = Value.tuple #[.agg #[.int .i64 x1, .int .i64 x2], .int .i64 0] from rfl] at HRs
  have HPx : Hid (∀ V, Below w.heap.size w V → Calls Tryd.prog 17 #[.agg #[.int .i64 x1, .int .i64 x2]] V fun e w' => e = .returned (pV (printR x1 x2)) ∧ Below V.heap.size V w') := fun V hv => tprint_any x1 x2 V ox.in64b (htab.later hv)
  rw [print_ok ox, tx, bytes_back] at HPx
  have HBt := hid HX.out.1
  have HBu := hid HX.out.2.1
  have HB := hid HX.out.2.2
  clear HX htab herr h1 ht hx ox tx 
  go_enter Tryd.func5, Tryd.ntmps5
  go_wp2_with fail
  generalize (w.alloc (.cells #[.int .i64 p, .int .i64 q] 23)).alloc (.cells #[.int .i64 p, .int .i64 q] 23) = X at *
  refine Calls.mono (HLV.out _) ?_
  rintro e w1 ⟨rfl, hb⟩
  replace HBt := hid (HBt.out.later hb HBt.out.lt)
  replace HBu := hid (HBu.out.later hb HBu.out.lt)
  replace HB := hid (b2 HB.out hb)
  clear hb
  obtain ⟨ct0, ct1, ft0, ft1⟩ := fbox_facts HBt.out (Below.refl _ _)
  obtain ⟨cu0, cu1, fu0, fu1⟩ := fbox_facts HBu.out (Below.refl _ _)
  go_wp2_with fail
  refine Calls.mono (HPt.out _ HB.out) ?_
  rintro e w2 ⟨rfl, hb⟩
  replace HBt := hid (HBt.out.later hb HBt.out.lt)
  replace HBu := hid (HBu.out.later hb HBu.out.lt)
  replace HB := hid (b2 HB.out hb)
  clear hb
  clear ct0 ct1 ft0 ft1
  clear cu0 cu1 fu0 fu1
  obtain ⟨ct0, ct1, ft0, ft1⟩ := fbox_facts HBt.out (Below.refl _ _)
  obtain ⟨cu0, cu1, fu0, fu1⟩ := fbox_facts HBu.out (Below.refl _ _)
  go_wp2_with fail
  refine Calls.mono (HRt.out _ HB.out) ?_
  rintro e w3 ⟨rfl, hb⟩
  replace HBt := hid (HBt.out.later hb HBt.out.lt)
  replace HBu := hid (HBu.out.later hb HBu.out.lt)
  replace HB := hid (b2 HB.out hb)
  clear hb
  clear ct0 ct1 ft0 ft1
  clear cu0 cu1 fu0 fu1
  have HN := hid (boxes1 w3 23 #[.int .i64 p, .int .i64 q])
  obtain ⟨w4, hW⟩ : ∃ w4, w3.alloc (.cells #[.int .i64 p, .int .i64 q] 23) = w4 := ⟨_, rfl⟩
  rw [hW] at HN
  replace HBt := hid (HBt.out.later HN.out.2 HBt.out.lt)
  replace HBu := hid (HBu.out.later HN.out.2 HBu.out.lt)
  replace HB := hid (b2 HB.out HN.out.2)
  have HBx := hid HN.out.1
  clear HN
  obtain ⟨ct0, ct1, ft0, ft1⟩ := fbox_facts HBt.out (Below.refl _ _)
  go_wp2_with fail
  clear hW
  refine Calls.mono (HOt.out _) ?_
  rintro e w5 ⟨rfl, hb⟩
  replace HBt := hid (HBt.out.later hb HBt.out.lt)
  replace HBu := hid (HBu.out.later hb HBu.out.lt)
  replace HBx := hid (HBx.out.later hb HBx.out.lt)
  replace HB := hid (b2 HB.out hb)
  clear hb
  clear ct0 ct1 ft0 ft1
  have HN := hid (boxes1 w5 23 #[.int .i64 p, .int .i64 q])
  obtain ⟨w6, hW⟩ : ∃ w6, w5.alloc (.cells #[.int .i64 p, .int .i64 q] 23) = w6 := ⟨_, rfl⟩
  rw [hW] at HN
  replace HBt := hid (HBt.out.later HN.out.2 HBt.out.lt)
  replace HBu := hid (HBu.out.later HN.out.2 HBu.out.lt)
  replace HBx := hid (HBx.out.later HN.out.2 HBx.out.lt)
  replace HB := hid (b2 HB.out HN.out.2)
  have HBy := hid HN.out.1
  clear HN
  obtain ⟨cx0, cx1, fx0, fx1⟩ := fbox_facts HBx.out (Below.refl _ _)
  obtain ⟨cy0, cy1, fy0, fy1⟩ := fbox_facts HBy.out (Below.refl _ _)
  obtain ⟨ct0, ct1, ft0, ft1⟩ := fbox_facts HBt.out (Below.refl _ _)
  obtain ⟨cu0, cu1, fu0, fu1⟩ := fbox_facts HBu.out (Below.refl _ _)
  go_wp2_with fail
  clear hW
  refine Calls.mono (HC1.out _) ?_
  rintro e w7 ⟨rfl, hb⟩
  replace HBt := hid (HBt.out.later hb HBt.out.lt)
  replace HBu := hid (HBu.out.later hb HBu.out.lt)
  replace HBx := hid (HBx.out.later hb HBx.out.lt)
  replace HBy := hid (HBy.out.later hb HBy.out.lt)
  replace HB := hid (b2 HB.out hb)
  clear hb
  clear cx0 cx1 fx0 fx1
  clear cy0 cy1 fy0 fy1
  clear ct0 ct1 ft0 ft1
  clear cu0 cu1 fu0 fu1
  obtain ⟨ct0, ct1, ft0, ft1⟩ := fbox_facts HBt.out (Below.refl _ _)
  obtain ⟨cu0, cu1, fu0, fu1⟩ := fbox_facts HBu.out (Below.refl _ _)
  go_wp2_with fail
  refine Calls.mono (HC2.out _) ?_
  rintro e w8 ⟨rfl, hb⟩
  replace HBt := hid (HBt.out.later hb HBt.out.lt)
  replace HBu := hid (HBu.out.later hb HBu.out.lt)
  replace HBx := hid (HBx.out.later hb HBx.out.lt)
  replace HBy := hid (HBy.out.later hb HBy.out.lt)
  replace HB := hid (b2 HB.out hb)
  clear hb
  clear ct0 ct1 ft0 ft1
  clear cu0 cu1 fu0 fu1
  obtain ⟨ct0, ct1, ft0, ft1⟩ := fbox_facts HBt.out (Below.refl _ _)
  obtain ⟨cu0, cu1, fu0, fu1⟩ := fbox_facts HBu.out (Below.refl _ _)
  go_wp2_with fail
  refine Calls.mono (HRs.out _ HB.out) ?_
  rintro e w9 ⟨rfl, hb⟩
  replace HBt := hid (HBt.out.later hb HBt.out.lt)
  replace HBu := hid (HBu.out.later hb HBu.out.lt)
  replace HBx := hid (HBx.out.later hb HBx.out.lt)
  replace HBy := hid (HBy.out.later hb HBy.out.lt)
  replace HB := hid (b2 HB.out hb)
  clear hb
  clear ct0 ct1 ft0 ft1
  clear cu0 cu1 fu0 fu1
  have HLE := hid HB.out.size
  have HN := hid (boxes1 w9 23 #[.int .i64 x1, .int .i64 x2])
  obtain ⟨wa, hW⟩ : ∃ wa, w9.alloc (.cells #[.int .i64 x1, .int .i64 x2] 23) = wa := ⟨_, rfl⟩
  rw [hW] at HN
  replace HBt := hid (HBt.out.later HN.out.2 HBt.out.lt)
  replace HBu := hid (HBu.out.later HN.out.2 HBu.out.lt)
  replace HBx := hid (HBx.out.later HN.out.2 HBx.out.lt)
  replace HBy := hid (HBy.out.later HN.out.2 HBy.out.lt)
  replace HB := hid (b2 HB.out HN.out.2)
  have HBz := hid HN.out.1
  clear HN
  obtain ⟨cz0, cz1, fz0, fz1⟩ := fbox_facts HBz.out (Below.refl _ _)
  go_wp2_with fail
  clear hW
  refine Calls.mono (HPx.out _ HB.out) ?_
  rintro e wb ⟨rfl, hb⟩
  replace HBt := hid (HBt.out.later hb HBt.out.lt)
  replace HBu := hid (HBu.out.later hb HBu.out.lt)
  replace HBx := hid (HBx.out.later hb HBx.out.lt)
  replace HBy := hid (HBy.out.later hb HBy.out.lt)
  replace HBz := hid (HBz.out.later hb HBz.out.lt)
  replace HB := hid (b2 HB.out hb)
  clear hb
  clear cz0 cz1 fz0 fz1
  go_wp2_with fail
  go_ret
  first | exact ⟨rfl, HB.out⟩ | exact ⟨rfl, fput2 HB.out _ HLE.out _ _⟩

set_option maxHeartbeats 6400000 in
set_option maxRecDepth 100000 in
theorem turnBack_1gt1 (p q r s x1 x2 : Int) (S : ByteArray) (w : World) (hs : S.size ≤ 281474976710656) (htab : TabT w) (herr : ErrT w) (h1 : in64 p q) (h2 : in64 r s) (ht : okI p q) (hu : okI r s) (hc : ordI (p * s) (r * q) = 1) (hx : readR S.data.toList = (x1, x2, 0)) (ox : okI x1 x2) (tx : txtT x1 x2 = S.data.toList) :
    Calls Tryd.prog 5 #[.agg #[.int .i64 p, .int .i64 q], .agg #[.int .i64 r, .int .i64 s], .string S] w fun e w' => e = .returned (.bool true) ∧ Below w.heap.size w w' := by
  have HX := hid (boxes2 w 23 #[.int .i64 p, .int .i64 q] #[.int .i64 r, .int .i64 s])
  have HLV := hid tlives_any
  have HPt : Hid (∀ V, Below w.heap.size w V → Calls Tryd.prog 17 #[.agg #[.int .i64 p, .int .i64 q]] V fun e w' => e = .returned (pV (printR p q)) ∧ Below V.heap.size V w') := fun V hv => tprint_any p q V h1 (htab.later hv)
  have HRs : Hid (∀ V, Below w.heap.size w V → Calls Tryd.prog 13 #[.string S] V fun e w' => e = .returned (tV (readR S.data.toList)) ∧ Below V.heap.size V w') := fun V hv => tparse_any S V hs (herr.later hv) (htab.later hv)
  rw [print_ok ht] at HPt
  have HRt : Hid (∀ V, Below w.heap.size w V → Calls Tryd.prog 13 #[.string ⟨(txtT p q).toArray⟩] V fun e w' => e = .returned (tV (readR (txtT p q))) ∧ Below V.heap.size V w') := fun V hv => by
    have e := tparse_any ⟨(txtT p q).toArray⟩ V (by show (txtT p q).toArray.size ≤ _; rw [List.size_toArray]; have := txt_len h1; omega) (herr.later hv) (htab.later hv)
    exact e
  rw [read_txt ht, show tV (p, q, 0) = Value.tuple #[.agg #[.int .i64 p, .int .i64 q], .int .i64 0] from rfl] at HRt
  have HOt := hid (fun V => tof_any p q V h1)
  rw [of_self ht, show tV (p, q, 0) = Value.tuple #[.agg #[.int .i64 p, .int .i64 q], .int .i64 0] from rfl] at HOt
  generalize (txtT p q).toArray = tx' at HPt HRt
  have HC1 := hid (fun V => tcompare_any p q r s V h1 h2)
  have HC2 := hid (fun V => tcompare_any r s p q V h2 h1)
  rw [show cmpR p q r s = (1, 0) by unfold cmpR; rw [if_pos ⟨ht, hu⟩, hc]] at HC1
  rw [show cmpR r s p q = (-1, 0) by unfold cmpR; rw [if_pos ⟨hu, ht⟩, ord_neg, hc]; try rfl] at HC2
  rw [show cV (1, 0) = Value.tuple #[.int .i64 (1), .int .i64 0] from rfl] at HC1
  rw [show cV (-1, 0) = Value.tuple #[.int .i64 (-1), .int .i64 0] from rfl] at HC2
  have hne : ¬ (p = r ∧ q = s) := fun k => by
    have hz := (ord_zero ht hu)
    rw [hc] at hz
    exact absurd (hz.2 k) (by decide)
  rw [hx, show tV (x1, x2, 0) = Value.tuple #[.agg #[.int .i64 x1, .int .i64 x2], .int .i64 0] from rfl] at HRs
  have HPx : Hid (∀ V, Below w.heap.size w V → Calls Tryd.prog 17 #[.agg #[.int .i64 x1, .int .i64 x2]] V fun e w' => e = .returned (pV (printR x1 x2)) ∧ Below V.heap.size V w') := fun V hv => tprint_any x1 x2 V ox.in64b (htab.later hv)
  rw [print_ok ox, tx, bytes_back] at HPx
  have HBt := hid HX.out.1
  have HBu := hid HX.out.2.1
  have HB := hid HX.out.2.2
  clear HX htab herr h1 h2 ht hx ox tx hu hc 
  go_enter Tryd.func5, Tryd.ntmps5
  go_wp2_with fail
  generalize (w.alloc (.cells #[.int .i64 p, .int .i64 q] 23)).alloc (.cells #[.int .i64 r, .int .i64 s] 23) = X at *
  refine Calls.mono (HLV.out _) ?_
  rintro e w1 ⟨rfl, hb⟩
  replace HBt := hid (HBt.out.later hb HBt.out.lt)
  replace HBu := hid (HBu.out.later hb HBu.out.lt)
  replace HB := hid (b2 HB.out hb)
  clear hb
  obtain ⟨ct0, ct1, ft0, ft1⟩ := fbox_facts HBt.out (Below.refl _ _)
  obtain ⟨cu0, cu1, fu0, fu1⟩ := fbox_facts HBu.out (Below.refl _ _)
  go_wp2_with fail
  refine Calls.mono (HPt.out _ HB.out) ?_
  rintro e w2 ⟨rfl, hb⟩
  replace HBt := hid (HBt.out.later hb HBt.out.lt)
  replace HBu := hid (HBu.out.later hb HBu.out.lt)
  replace HB := hid (b2 HB.out hb)
  clear hb
  clear ct0 ct1 ft0 ft1
  clear cu0 cu1 fu0 fu1
  obtain ⟨ct0, ct1, ft0, ft1⟩ := fbox_facts HBt.out (Below.refl _ _)
  obtain ⟨cu0, cu1, fu0, fu1⟩ := fbox_facts HBu.out (Below.refl _ _)
  go_wp2_with fail
  refine Calls.mono (HRt.out _ HB.out) ?_
  rintro e w3 ⟨rfl, hb⟩
  replace HBt := hid (HBt.out.later hb HBt.out.lt)
  replace HBu := hid (HBu.out.later hb HBu.out.lt)
  replace HB := hid (b2 HB.out hb)
  clear hb
  clear ct0 ct1 ft0 ft1
  clear cu0 cu1 fu0 fu1
  have HN := hid (boxes1 w3 23 #[.int .i64 p, .int .i64 q])
  obtain ⟨w4, hW⟩ : ∃ w4, w3.alloc (.cells #[.int .i64 p, .int .i64 q] 23) = w4 := ⟨_, rfl⟩
  rw [hW] at HN
  replace HBt := hid (HBt.out.later HN.out.2 HBt.out.lt)
  replace HBu := hid (HBu.out.later HN.out.2 HBu.out.lt)
  replace HB := hid (b2 HB.out HN.out.2)
  have HBx := hid HN.out.1
  clear HN
  obtain ⟨ct0, ct1, ft0, ft1⟩ := fbox_facts HBt.out (Below.refl _ _)
  go_wp2_with fail
  clear hW
  refine Calls.mono (HOt.out _) ?_
  rintro e w5 ⟨rfl, hb⟩
  replace HBt := hid (HBt.out.later hb HBt.out.lt)
  replace HBu := hid (HBu.out.later hb HBu.out.lt)
  replace HBx := hid (HBx.out.later hb HBx.out.lt)
  replace HB := hid (b2 HB.out hb)
  clear hb
  clear ct0 ct1 ft0 ft1
  have HN := hid (boxes1 w5 23 #[.int .i64 p, .int .i64 q])
  obtain ⟨w6, hW⟩ : ∃ w6, w5.alloc (.cells #[.int .i64 p, .int .i64 q] 23) = w6 := ⟨_, rfl⟩
  rw [hW] at HN
  replace HBt := hid (HBt.out.later HN.out.2 HBt.out.lt)
  replace HBu := hid (HBu.out.later HN.out.2 HBu.out.lt)
  replace HBx := hid (HBx.out.later HN.out.2 HBx.out.lt)
  replace HB := hid (b2 HB.out HN.out.2)
  have HBy := hid HN.out.1
  clear HN
  obtain ⟨cx0, cx1, fx0, fx1⟩ := fbox_facts HBx.out (Below.refl _ _)
  obtain ⟨cy0, cy1, fy0, fy1⟩ := fbox_facts HBy.out (Below.refl _ _)
  obtain ⟨ct0, ct1, ft0, ft1⟩ := fbox_facts HBt.out (Below.refl _ _)
  obtain ⟨cu0, cu1, fu0, fu1⟩ := fbox_facts HBu.out (Below.refl _ _)
  go_wp2_with fail
  clear hW
  refine Calls.mono (HC1.out _) ?_
  rintro e w7 ⟨rfl, hb⟩
  replace HBt := hid (HBt.out.later hb HBt.out.lt)
  replace HBu := hid (HBu.out.later hb HBu.out.lt)
  replace HBx := hid (HBx.out.later hb HBx.out.lt)
  replace HBy := hid (HBy.out.later hb HBy.out.lt)
  replace HB := hid (b2 HB.out hb)
  clear hb
  clear cx0 cx1 fx0 fx1
  clear cy0 cy1 fy0 fy1
  clear ct0 ct1 ft0 ft1
  clear cu0 cu1 fu0 fu1
  obtain ⟨ct0, ct1, ft0, ft1⟩ := fbox_facts HBt.out (Below.refl _ _)
  obtain ⟨cu0, cu1, fu0, fu1⟩ := fbox_facts HBu.out (Below.refl _ _)
  go_wp2_with fail
  refine Calls.mono (HC2.out _) ?_
  rintro e w8 ⟨rfl, hb⟩
  replace HBt := hid (HBt.out.later hb HBt.out.lt)
  replace HBu := hid (HBu.out.later hb HBu.out.lt)
  replace HBx := hid (HBx.out.later hb HBx.out.lt)
  replace HBy := hid (HBy.out.later hb HBy.out.lt)
  replace HB := hid (b2 HB.out hb)
  clear hb
  clear ct0 ct1 ft0 ft1
  clear cu0 cu1 fu0 fu1
  obtain ⟨ct0, ct1, ft0, ft1⟩ := fbox_facts HBt.out (Below.refl _ _)
  obtain ⟨cu0, cu1, fu0, fu1⟩ := fbox_facts HBu.out (Below.refl _ _)
  go_wp2_with fail
  all_goals
    refine Calls.mono (HRs.out _ HB.out) ?_
    rintro e w9 ⟨rfl, hb⟩
    replace HBt := hid (HBt.out.later hb HBt.out.lt)
    replace HBu := hid (HBu.out.later hb HBu.out.lt)
    replace HBx := hid (HBx.out.later hb HBx.out.lt)
    replace HBy := hid (HBy.out.later hb HBy.out.lt)
    replace HB := hid (b2 HB.out hb)
    clear hb
    clear ct0 ct1 ft0 ft1
    clear cu0 cu1 fu0 fu1
    have HLE := hid HB.out.size
    have HN := hid (boxes1 w9 23 #[.int .i64 x1, .int .i64 x2])
    obtain ⟨wa, hW⟩ : ∃ wa, w9.alloc (.cells #[.int .i64 x1, .int .i64 x2] 23) = wa := ⟨_, rfl⟩
    rw [hW] at HN
    replace HBt := hid (HBt.out.later HN.out.2 HBt.out.lt)
    replace HBu := hid (HBu.out.later HN.out.2 HBu.out.lt)
    replace HBx := hid (HBx.out.later HN.out.2 HBx.out.lt)
    replace HBy := hid (HBy.out.later HN.out.2 HBy.out.lt)
    replace HB := hid (b2 HB.out HN.out.2)
    have HBz := hid HN.out.1
    clear HN
    obtain ⟨cz0, cz1, fz0, fz1⟩ := fbox_facts HBz.out (Below.refl _ _)
    go_wp2_with fail
    clear hW
    refine Calls.mono (HPx.out _ HB.out) ?_
    rintro e wb ⟨rfl, hb⟩
    replace HBt := hid (HBt.out.later hb HBt.out.lt)
    replace HBu := hid (HBu.out.later hb HBu.out.lt)
    replace HBx := hid (HBx.out.later hb HBx.out.lt)
    replace HBy := hid (HBy.out.later hb HBy.out.lt)
    replace HBz := hid (HBz.out.later hb HBz.out.lt)
    replace HB := hid (b2 HB.out hb)
    clear hb
    clear cz0 cz1 fz0 fz1
    go_wp2_with fail
    go_ret
    first | exact ⟨rfl, HB.out⟩ | exact ⟨rfl, fput2 HB.out _ HLE.out _ _⟩

theorem turnBack_walk (p q r s : Int) (S : ByteArray) (w : World) (h1 : in64 p q) (h2 : in64 r s) (hs : S.size ≤ 281474976710656) (htab : TabT w) (herr : ErrT w) :
    Calls Tryd.prog 5 #[.agg #[.int .i64 p, .int .i64 q], .agg #[.int .i64 r, .int .i64 s], .string S] w fun e w' => e = .returned (.bool true) ∧ Below w.heap.size w w' := by
  rcases read_cases S.data.toList with ⟨x1, x2, hx, ox, tx⟩ | hx
  · by_cases ht : okI p q
    · by_cases hu : okI r s
      · have ho : ordI (p * s) (r * q) = -1 ∨ ordI (p * s) (r * q) = 0 ∨ ordI (p * s) (r * q) = 1 := by unfold ordI; split <;> (try split) <;> simp
        rcases ho with hc | hc | hc
        · exact turnBack_1lt1 p q r s x1 x2 S w hs htab herr h1 h2 ht hu hc hx ox tx
        · obtain ⟨rfl, rfl⟩ := (ord_zero ht hu).1 hc
          exact turnBack_1eq1 p q p q x1 x2 S w hs htab herr h1 ht hx ox tx
        · exact turnBack_1gt1 p q r s x1 x2 S w hs htab herr h1 h2 ht hu hc hx ox tx
      · exact turnBack_1err1 p q r s x1 x2 S w hs htab herr h1 h2 ht hu hx ox tx
    · exact turnBack_0any1 p q r s x1 x2 S w hs htab herr h1 h2 ht hx ox tx
  · by_cases ht : okI p q
    · by_cases hu : okI r s
      · have ho : ordI (p * s) (r * q) = -1 ∨ ordI (p * s) (r * q) = 0 ∨ ordI (p * s) (r * q) = 1 := by unfold ordI; split <;> (try split) <;> simp
        rcases ho with hc | hc | hc
        · exact turnBack_1lt0 p q r s 0 0 S w hs htab herr h1 h2 ht hu hc hx
        · obtain ⟨rfl, rfl⟩ := (ord_zero ht hu).1 hc
          exact turnBack_1eq0 p q p q 0 0 S w hs htab herr h1 ht hx
        · exact turnBack_1gt0 p q r s 0 0 S w hs htab herr h1 h2 ht hu hc hx
      · exact turnBack_1err0 p q r s 0 0 S w hs htab herr h1 h2 ht hu hx
    · exact turnBack_0any0 p q r s 0 0 S w hs htab herr h1 h2 ht hx
end Go.Proofs.YtnhkbnmkcnmbgaaDoor

