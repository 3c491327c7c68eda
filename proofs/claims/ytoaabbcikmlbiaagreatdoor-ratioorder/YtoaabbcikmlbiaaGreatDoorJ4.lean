/- My texts on the way to RatioOrder, one behind the other: contracts of the program and of the document's answers. -/
import Derived.Test.YtoaabbcikmlbiaaGreatDoorJ3
import Derived.Lib.IndexLaws
import Derived.Test.YtoaabbcikmlbiaaGreatDoorShelf
/- Fractions: ratio.Print: of any fraction, good or refused. -/
namespace Go.Proofs.YtoaabbcikmlbiaaGreatDoor
open Go.RowKit Go.Lib
set_option linter.unusedVariables false

/-- A fraction's text. -/
def rtext (n : Bool) (xs ys : List Int) : List UInt8 := if ys = [1] then wtext n xs else wtext n xs ++ 47 :: decDigits (val ys).toNat

set_option maxHeartbeats 1600000 in
set_option maxRecDepth 100000 in
theorem rPrint_err (n : Bool) (a : Option Addr) (ca : Nat) (xs : List Int) (b : Option Addr) (cb : Nat) (ys : List Int) (w : World) (sx : Sl w (.slice a xs.length ca) xs) (sy : Sl w (.slice b ys.length cb) ys) (he : rchk n xs ys ≠ 0) :
    Calls Tryz.prog 37 #[.agg #[.bool n, .slice a xs.length ca, .slice b ys.length cb]] w fun e w' => e = .returned (.tuple #[.string ⟨#[]⟩, .int .i64 (rchk n xs ys)]) ∧ Below w.heap.size w w' := by
  have HB := hid (alloc_later w (.cells #[.bool n, .slice a xs.length ca, .slice b ys.length cb] 24))
  have HC := hid (rcheck_any n _ xs _ ys (w.alloc (.cells #[.bool n, .slice a xs.length ca, .slice b ys.length cb] 24)) (sx.later HB.out) (sy.later HB.out))
  obtain ⟨E, hE⟩ : ∃ E, rchk n xs ys = E := ⟨_, rfl⟩
  rw [hE] at HC he ⊢
  have he' : (E == 0) = false := beq_eq_false_iff_ne.2 he
  clear he hE sx sy
  go_enter Tryz.func37, Tryz.ntmps37
  go_wp2_with fail
  refine Calls.mono HC.out ?_
  rintro e w1 ⟨rfl, hb1⟩
  have HBN := hid (bt HB.out hb1)
  clear hb1 HC
  go_wp2_with fail
  go_ret2
  exact ⟨rfl, HBN.out⟩

set_option maxHeartbeats 3200000 in
set_option maxRecDepth 100000 in
theorem rPrint_ok (n : Bool) (a : Option Addr) (ca : Nat) (xs : List Int) (b : Option Addr) (cb : Nat) (ys : List Int) (w : World) (sx : Sl w (.slice a xs.length ca) xs) (sy : Sl w (.slice b ys.length cb) ys) (hx : rchk n xs ys = 0) (htab : Tab w) :
    Calls Tryz.prog 37 #[.agg #[.bool n, .slice a xs.length ca, .slice b ys.length cb]] w fun e w' => ∃ T : ByteArray, e = .returned (.tuple #[.string T, .int .i64 0]) ∧ T.data.toList = rtext n xs ys ∧ Below w.heap.size w w' := by
  obtain ⟨lx, ly, tx, ty, y0', nx, g1⟩ := rchk_ok hx
  have wx := sx.wd
  have wy := sy.wd
  have HB := hid (alloc_later w (.cells #[.bool n, .slice a xs.length ca, .slice b ys.length cb] 24))
  have HN := hid (Box.made w 24 #[.bool n, .slice a xs.length ca, .slice b ys.length cb])
  have HS := hid (And.intro (sx.later HB.out) (sy.later HB.out))
  have HC := hid (rcheck_any n _ xs _ ys (w.alloc (.cells #[.bool n, .slice a xs.length ca, .slice b ys.length cb] 24)) HS.out.1 HS.out.2)
  rw [hx] at HC
  have HW := hid (fun ww (hb : Below (w.alloc (.cells #[.bool n, .slice a xs.length ca, .slice b ys.length cb] 24)).heap.size (w.alloc (.cells #[.bool n, .slice a xs.length ca, .slice b ys.length cb] 24)) ww) => wprint_any n _ xs ww (HS.out.1.later hb) (wchk_good lx tx nx) (htab.later (bt HB.out hb)))
  have HO := hid (fun ww (hb : Below (w.alloc (.cells #[.bool n, .slice a xs.length ca, .slice b ys.length cb] 24)).heap.size (w.alloc (.cells #[.bool n, .slice a xs.length ca, .slice b ys.length cb] 24)) ww) => isOne_any _ ys ww (HS.out.2.later hb))
  have HD := hid (fun ww (hb : Below (w.alloc (.cells #[.bool n, .slice a xs.length ca, .slice b ys.length cb] 24)).heap.size (w.alloc (.cells #[.bool n, .slice a xs.length ca, .slice b ys.length cb] 24)) ww) => print_any _ ys ww (HS.out.2.later hb) (by omega) (htab.later (bt HB.out hb)))
  rw [chk_good (by omega) ty, if_pos rfl] at HD
  have hd1 := dec_short wx lx
  have hd2 := dec_short wy ly
  obtain ⟨D, hD⟩ : ∃ D : ByteArray, D = ⟨(decDigits (val ys).toNat).toArray⟩ := ⟨_, rfl⟩
  rw [← hD] at HD
  have HDL : Hid (D.data.toList = decDigits (val ys).toNat) := by show _ = _; rw [hD]
  have hDs : D.size ≤ 20481 := by rw [hD]; show (decDigits (val ys).toNat).toArray.size ≤ _; rw [List.size_toArray]; exact hd2
  have HL1 : Hid ((wtext n xs).length ≤ 20482) := by
    show _ ≤ _
    unfold wtext
    rw [List.length_append]
    have : (if n then [45] else [] : List UInt8).length ≤ 1 := by cases n <;> simp
    omega
  clear sx sy hx tx ty g1 htab wx wy hD hd1 hd2 nx y0'
  by_cases h1 : ys = [1]
  · rw [decide_eq_true h1] at HO
    have HR : Hid (rtext n xs ys = wtext n xs) := by show _ = _; unfold rtext; rw [if_pos h1]
    rw [HR.out]
    clear h1
    go_enter Tryz.func37, Tryz.ntmps37
    go_wp2_with fail
    refine Calls.mono HC.out ?_
    generalize (w.alloc (.cells #[.bool n, .slice a xs.length ca, .slice b ys.length cb] 24)) = X at *
    rintro e w1 ⟨rfl, hb1⟩
    obtain ⟨p0, p1, p2, _⟩ := res_box3 HN.out hb1
    have HW1 := hid (HW.out w1 hb1)
    have HB1 := hid hb1
    clear hb1 HC HW HD
    go_wp2_with fail
    refine Calls.mono HW1.out ?_
    rintro e w2 ⟨T, rfl, hT, hb2⟩
    have HT := hid hT
    have HB2 := hid (bt HB1.out hb2)
    have HO2 := hid (HO.out w2 HB2.out)
    clear hT hb2 HW1 HO p0 p1 p2
    obtain ⟨p0, p1, p2, _⟩ := res_box3 HN.out HB2.out
    go_wp2_with fail
    refine Calls.mono HO2.out ?_
    rintro e w3 ⟨rfl, rfl⟩
    go_wp2_with fail
    go_ret2
    exact ⟨T, rfl, HT.out, bt HB.out HB2.out⟩
  · rw [decide_eq_false h1] at HO
    have HR : Hid (rtext n xs ys = wtext n xs ++ 47 :: decDigits (val ys).toNat) := by show _ = _; unfold rtext; rw [if_neg h1]
    rw [HR.out]
    clear h1
    go_enter Tryz.func37, Tryz.ntmps37
    go_wp2_with fail
    refine Calls.mono HC.out ?_
    generalize (w.alloc (.cells #[.bool n, .slice a xs.length ca, .slice b ys.length cb] 24)) = X at *
    rintro e w1 ⟨rfl, hb1⟩
    obtain ⟨p0, p1, p2, _⟩ := res_box3 HN.out hb1
    have HW1 := hid (HW.out w1 hb1)
    have HB1 := hid hb1
    clear hb1 HC HW
    go_wp2_with fail
    refine Calls.mono HW1.out ?_
    rintro e w2 ⟨T, rfl, hT, hb2⟩
    have HT := hid hT
    have hTs : T.size ≤ 20482 := by
      have e1 : T.data.toList.length = T.size := Array.length_toList
      rw [← e1, hT]
      exact HL1.out
    have HB2 := hid (bt HB1.out hb2)
    have HO2 := hid (HO.out w2 HB2.out)
    have HD2 := hid (HD.out w2 HB2.out)
    clear hT hb2 HW1 HO HD p0 p1 p2
    obtain ⟨p0, p1, p2, _⟩ := res_box3 HN.out HB2.out
    go_wp2_with fail
    refine Calls.mono HO2.out ?_
    rintro e w3 ⟨rfl, rfl⟩
    go_wp2_with fail
    refine Calls.mono HD2.out ?_
    rintro e w4 ⟨rfl, hb4⟩
    have HBN := hid (bt HB.out (bt HB2.out hb4))
    have hg1 : ¬ (9223372036854775807 : Int) < (T.size : Int) + 1 := by omega
    have hg2 : ¬ (9223372036854775807 : Int) < (T.size : Int) + 1 + (D.size : Int) := by omega
    clear hb4 HD2
    go_wp2_with fail
    go_ret2
    refine ⟨_, rfl, ?_, HBN.out⟩
    rw [← HDL.out, ← HT.out]
    simp
end Go.Proofs.YtoaabbcikmlbiaaGreatDoor

/- Fractions as texts: what a text says, and that a fraction's own text says that fraction. -/
namespace Go.Proofs.YtoaabbcikmlbiaaGreatDoor
open Go.RowKit Go.Lib
set_option linter.unusedVariables false

/-- A text taken apart: its sign, the place of the bar, what stands ahead of it, what behind it. -/
def rneg (l : List UInt8) : Bool := decide (l[0]? = some 45)
def rbar (l : List UInt8) : Int := indexByte (wdig (rneg l) l) 47
def rup (l : List UInt8) : List UInt8 := if rbar l = -1 then wdig (rneg l) l else (wdig (rneg l) l).take (rbar l).toNat
def rdn (l : List UInt8) : List UInt8 := if rbar l = -1 then [] else (wdig (rneg l) l).drop ((rbar l).toNat + 1)
def rnu (l : List UInt8) : Int := numTo (rup l) (rup l).length
def rde (l : List UInt8) : Int := if rbar l = -1 then 1 else numTo (rdn l) (rdn l).length
/-- Is it a fraction's own text? -/
def rgood (l : List UInt8) : Prop := IsNum (rup l) ∧ (rbar l = -1 ∨ IsNum (rdn l) ∧ rde l ≠ 1) ∧ 0 < rde l ∧ (rneg l = false ∨ 0 < rnu l) ∧ gcdI (rnu l) (rde l) = 1
open Classical in
/-- Parse's error, of a text. -/
noncomputable def prErr (s : ByteArray) : Int := if 65536 < s.size then 3 else if rgood s.data.toList then 0 else 130
def rpq (l : List UInt8) : Rat := Rat.divInt (sg (rneg l) (rnu l)) (rde l)

theorem bar_none {d : List UInt8} (h : Dg d) : indexByte d 47 = -1 := by
  have g := indexByte_ge d 47
  by_cases c : indexByte d 47 = -1
  · exact c
  · obtain ⟨e, _⟩ := indexByte_some (l := d) (c := 47) (o := (indexByte d 47).toNat) (by omega)
    have t := h _ (List.mem_of_getElem? e)
    exact absurd t.1 (by decide)
theorem bar_at {d : List UInt8} (h : Dg d) (e : List UInt8) : indexByte (d ++ 47 :: e) 47 = d.length := by
  have g := indexByte_ge (d ++ 47 :: e) 47
  have hat : (d ++ 47 :: e)[d.length]? = some 47 := by simp
  by_cases c : indexByte (d ++ 47 :: e) 47 = -1
  · exact absurd hat (indexByte_none c _)
  · obtain ⟨e1, e2⟩ := indexByte_some (l := d ++ 47 :: e) (c := 47) (o := (indexByte (d ++ 47 :: e) 47).toNat) (by omega)
    have hk : indexByte (d ++ 47 :: e) 47 = ((indexByte (d ++ 47 :: e) 47).toNat : Int) := by omega
    generalize (indexByte (d ++ 47 :: e) 47).toNat = K at e1 e2 hk
    have k1 : ¬ K < d.length := fun hk => by
      rw [List.getElem?_append_left hk] at e1
      have t := h _ (List.mem_of_getElem? e1)
      exact absurd t.1 (by decide)
    have k2 : ¬ d.length < K := fun hk => e2 _ hk hat
    omega
theorem bar_parts {l : List UInt8} (h : indexByte l 47 ≠ -1) : l = l.take (indexByte l 47).toNat ++ 47 :: l.drop ((indexByte l 47).toNat + 1) ∧ (indexByte l 47).toNat < l.length := by
  have g := indexByte_ge l 47
  obtain ⟨e1, _⟩ := indexByte_some (l := l) (c := 47) (o := (indexByte l 47).toNat) (by omega)
  generalize (indexByte l 47).toNat = K at e1 ⊢
  obtain ⟨hk, e2⟩ := List.getElem?_eq_some_iff.1 e1
  refine ⟨?_, hk⟩
  have e3 := List.drop_eq_getElem_cons hk
  rw [e2] at e3
  rw [← e3, List.take_append_drop]
theorem rtext_eq (n : Bool) (xs ys : List Int) : rtext n xs ys = (if n then [45] else []) ++ (decDigits (val xs).toNat ++ if ys = [1] then [] else 47 :: decDigits (val ys).toNat) := by
  unfold rtext wtext
  by_cases c : ys = [1]
  · rw [if_pos c, if_pos c]; simp
  · rw [if_neg c, if_neg c]; simp
theorem rneg_text (n : Bool) (xs ys : List Int) : rneg (rtext n xs ys) = n := by
  obtain ⟨d1, _, _⟩ := isNum_dec (val xs).toNat
  rw [rtext_eq]
  unfold rneg
  cases n with
  | true => simp
  | false =>
    apply decide_eq_false
    intro e
    simp only [Bool.false_eq_true, if_false, List.nil_append] at e
    rw [List.getElem?_append_left d1.1] at e
    have t := d1.2.2 _ (List.mem_of_getElem? e)
    exact absurd t.1 (by decide)
theorem wdig_text (n : Bool) (xs ys : List Int) : wdig (rneg (rtext n xs ys)) (rtext n xs ys) = decDigits (val xs).toNat ++ if ys = [1] then [] else 47 :: decDigits (val ys).toNat := by
  rw [rneg_text, rtext_eq]
  cases n <;> simp [wdig]
/-- What a fraction's text says. -/
theorem text_says (n : Bool) {xs ys : List Int} (wx : Wd xs) (wy : Wd ys) : IsNum (rup (rtext n xs ys)) ∧ (rbar (rtext n xs ys) = -1 ∨ IsNum (rdn (rtext n xs ys)) ∧ ys ≠ [1]) ∧ rnu (rtext n xs ys) = val xs ∧ rde (rtext n xs ys) = val ys := by
  obtain ⟨d1, d2, _⟩ := isNum_dec (val xs).toNat
  obtain ⟨f1, f2, _⟩ := isNum_dec (val ys).toNat
  have v0 := val_nonneg wx
  have u0 := val_nonneg wy
  have e := wdig_text n xs ys
  by_cases c : ys = [1]
  · rw [if_pos c, List.append_nil] at e
    have hb : rbar (rtext n xs ys) = -1 := by unfold rbar; rw [e]; exact bar_none d1.2.2
    have hu : rup (rtext n xs ys) = decDigits (val xs).toNat := by unfold rup; rw [if_pos hb, e]
    refine ⟨by rw [hu]; exact d1, .inl hb, ?_, ?_⟩
    · unfold rnu; rw [hu, d2]; omega
    · unfold rde; rw [if_pos hb, c]; simp [val, valTo]
  · rw [if_neg c] at e
    have hb : rbar (rtext n xs ys) = ((decDigits (val xs).toNat).length : Int) := by unfold rbar; rw [e]; exact bar_at d1.2.2 _
    have hn : ¬ rbar (rtext n xs ys) = -1 := by omega
    have ht : (rbar (rtext n xs ys)).toNat = (decDigits (val xs).toNat).length := by omega
    have hu : rup (rtext n xs ys) = decDigits (val xs).toNat := by unfold rup; rw [if_neg hn, e, ht]; simp
    have hd : rdn (rtext n xs ys) = decDigits (val ys).toNat := by unfold rdn; rw [if_neg hn, e, ht]; simp
    refine ⟨by rw [hu]; exact d1, .inr ⟨by rw [hd]; exact f1, c⟩, ?_, ?_⟩
    · unfold rnu; rw [hu, d2]; omega
    · unfold rde; rw [if_neg hn, hd, f2]; omega
theorem rpq_text (n : Bool) {xs ys : List Int} (wx : Wd xs) (wy : Wd ys) : rpq (rtext n xs ys) = rq n xs ys := by
  obtain ⟨_, _, e1, e2⟩ := text_says n wx wy
  unfold rpq rq
  rw [rneg_text, e1, e2]
  rfl
theorem rgood_text {n : Bool} {xs ys : List Int} (wx : Wd xs) (wy : Wd ys) (h : rform n xs ys) : rgood (rtext n xs ys) := by
  obtain ⟨hb, h0, hs, hg⟩ := h
  obtain ⟨h1, h2⟩ := both_ok hb
  obtain ⟨_, tx⟩ := chk_ok h1
  obtain ⟨_, ty⟩ := chk_ok h2
  obtain ⟨a1, a2, a3, a4⟩ := text_says n wx wy
  refine ⟨a1, ?_, by rw [a4]; exact val_pos' wy ty h0, ?_, by rw [a3, a4]; exact hg⟩
  · rcases a2 with a2 | ⟨a2, a5⟩
    · exact .inl a2
    · exact .inr ⟨a2, by rw [a4]; exact fun e => a5 ((one_iff wy ty).2 e)⟩
  · rcases hs with hs | hs
    · left; rw [rneg_text]; exact hs
    · right; rw [a3]; exact val_pos' wx tx hs
theorem wdig_back (l : List UInt8) : (if rneg l then [45] else []) ++ wdig (rneg l) l = l := by
  cases l with
  | nil => rfl
  | cons c l =>
    by_cases h : c = 45
    · subst h; simp [rneg, wdig]
    · have e : rneg (c :: l) = false := decide_eq_false (by simp [h])
      rw [e]; simp [wdig]
/-- A text that is a fraction's own is the text of what it says. -/
theorem says_text {l : List UInt8} (h : rgood l) {xs ys : List Int} (wy : Wd ys) (ty : Trimmed ys) (hx : val xs = rnu l) (hy : val ys = rde l) : rtext (rneg l) xs ys = l := by
  obtain ⟨h1, h2, _, _, _⟩ := h
  have d1 : decDigits (val xs).toNat = rup l := by
    rw [hx]
    unfold rnu
    exact dec_num ((rup l).length - 1) _ (by have := h1.1; omega) h1
  rw [rtext_eq, d1]
  conv => rhs; rw [← wdig_back l]
  congr 1
  rcases h2 with h2 | ⟨h2, h3⟩
  · have e1 : rde l = 1 := by unfold rde; rw [if_pos h2]
    rw [if_pos ((one_iff wy ty).2 (hy.trans e1))]
    unfold rup
    rw [if_pos h2]; simp
  · by_cases hb : rbar l = -1
    · exact absurd (show rde l = 1 by unfold rde; rw [if_pos hb]) h3
    · rw [if_neg (fun e => h3 (hy ▸ (one_iff wy ty).1 e))]
      have d2 : decDigits (val ys).toNat = rdn l := by
        rw [hy]
        unfold rde
        rw [if_neg hb]
        exact dec_num ((rdn l).length - 1) _ (by have := h2.1; omega) h2
      rw [d2]
      unfold rup rdn
      rw [if_neg hb, if_neg hb]
      exact (bar_parts (l := wdig (rneg l) l) hb).1.symm
theorem ten8 (k : Nat) : (10 : Int) ^ (8 * k) ≤ 4294967296 ^ k := by
  induction k with
  | zero => simp
  | succ k ih =>
    rw [show 8 * (k + 1) = 8 * k + 8 by omega, Int.pow_add, pw_succ]
    have e : (10 : Int) ^ 8 = 100000000 := by decide
    have p : (0 : Int) < 10 ^ (8 * k) := Int.pow_pos (by decide)
    rw [e]
    omega
theorem ten_mono {a b : Nat} (h : a ≤ b) : (10 : Int) ^ a ≤ 10 ^ b := by
  obtain ⟨c, rfl⟩ := Nat.le.dest h
  rw [Int.pow_add]
  have p : (0 : Int) < 10 ^ a := Int.pow_pos (by decide)
  have q : (0 : Int) < 10 ^ c := Int.pow_pos (by decide)
  have := Int.mul_le_mul_of_nonneg_left (show (1 : Int) ≤ 10 ^ c by omega) (Int.le_of_lt p)
  omega
/-- At most 65,536 digits go into 8,192 words. -/
theorem num_wide {l : List UInt8} (hd : Dg l) (hl : l.length ≤ 65536) : numTo l l.length < wide := by
  have h1 := (numTo_bounds hd l.length).2
  have h2 : (10 : Int) ^ l.length ≤ 10 ^ (8 * 8192) := ten_mono (by omega)
  have h3 := ten8 8192
  have e : wide = 4294967296 ^ 8192 := rfl
  rw [e]
  exact Int.lt_of_lt_of_le h1 (Int.le_trans h2 h3)
theorem RTells.self {n : Bool} {xs ys : List Int} (wx : Wd xs) (wy : Wd ys) (h : rchk n xs ys = 0) : RTells 0 (rq n xs ys) n xs ys 0 := by
  obtain ⟨lx, ly, tx, ty, y0, s0, g⟩ := rchk_ok h
  have hd := val_pos' wy ty y0
  obtain ⟨m, us, vs, c, e1, e2, e3, r⟩ := rtells_of (n := n) wx tx wy ty hd g
  have e4 := e1 none 0 none 0
  unfold rtoldV at e4
  rw [if_neg (by omega)] at e4
  have hc : c = 0 := by
    simp at e4
    exact e4.2.symm
  subst hc
  have hm : (n && decide (0 < xs.length)) = n := by
    rcases s0 with rfl | s0
    · rfl
    · rw [decide_eq_true s0, Bool.and_true]
  rw [hm] at e4
  have hn : n = m := by simp at e4; exact e4
  subst hn
  rw [if_pos rfl] at e2 e3
  subst e2 e3
  exact r
end Go.Proofs.YtoaabbcikmlbiaaGreatDoor

/- strings.Cut by a bar. -/
namespace Go.Proofs.YtoaabbcikmlbiaaGreatDoor
open Go.RowKit Go.Lib
set_option linter.unusedVariables false

set_option maxHeartbeats 3200000 in
set_option maxRecDepth 100000 in
theorem index_bar (s : ByteArray) (w : World) :
    Calls Tryz.prog 84 #[.string s, .string ⟨#[47]⟩] w fun e w' => e = .returned (.int .i64 (indexByte s.data.toList 47)) ∧ w = w' := by
  have HH := hid (Tryz.stringslite_IndexByte s 47 w)
  by_cases c : s.data.toList = [47]
  · have hc : (([47] : List UInt8) == s.toList) = true := by rw [toList_data, c]; rfl
    have hi : Hid (indexByte s.data.toList 47 = 0) := by show _ = _; rw [c]; rfl
    rw [hi.out]
    clear HH c
    go_enter Tryz.func84, Tryz.ntmps84
    go_wp2_with fail
    go_ret
    exact ⟨rfl, rfl⟩
  · have hc : (([47] : List UInt8) == s.toList) = false := by rw [toList_data]; exact beq_eq_false_iff_ne.2 (fun e => c e.symm)
    clear c
    go_enter Tryz.func84, Tryz.ntmps84
    go_wp2_with fail
    refine Calls.mono HH.out ?_
    rintro e w' ⟨rfl, rfl⟩
    go_wp2_with fail
    go_ret
    exact ⟨rfl, rfl⟩
set_option maxHeartbeats 3200000 in
set_option maxRecDepth 100000 in
theorem cutl_no (s : ByteArray) (w : World) (h : indexByte s.data.toList 47 = -1) :
    Calls Tryz.prog 65 #[.string s, .string ⟨#[47]⟩] w fun e w' => e = .returned (.tuple #[.string s, .string ⟨#[]⟩, .bool false]) ∧ w = w' := by
  have HH := hid (index_bar s w)
  rw [h] at HH
  clear h
  go_enter Tryz.func65, Tryz.ntmps65
  go_wp2_with fail
  refine Calls.mono HH.out ?_
  rintro e w' ⟨rfl, rfl⟩
  go_wp2_with fail
  go_ret3
  exact ⟨rfl, rfl⟩
set_option maxHeartbeats 3200000 in
set_option maxRecDepth 100000 in
theorem cutl_yes (s : ByteArray) (w : World) (i : Nat) (h : indexByte s.data.toList 47 = (i : Int)) (hi : i + 1 ≤ s.size) (hs : s.size ≤ 65536) :
    Calls Tryz.prog 65 #[.string s, .string ⟨#[47]⟩] w fun e w' => e = .returned (.tuple #[.string (s.extract 0 i), .string (s.extract (i + 1) s.size), .bool true]) ∧ Below w.heap.size w w' := by
  have HH := hid (index_bar s w)
  rw [h] at HH
  clear h
  have c1 : (0 : Int) ≤ ↑i := by omega
  have c2 : (↑i : Int) ≤ ↑s.size := by omega
  have c3 : (0 : Int) ≤ ↑i + 1 := by omega
  have c4 : (↑i + 1 : Int) ≤ ↑s.size := by omega
  have cw : IntKind.i64.wrap ((i : Int) + 1) = (i : Int) + 1 := by rw [IntKind.wrap_i64]; omega
  go_enter Tryz.func65, Tryz.ntmps65
  go_wp2_with fail
  refine Calls.mono HH.out ?_
  rintro e w' ⟨rfl, rfl⟩
  go_wp2_with fail
  go_region
  go_wp2_with fail
  go_ret3
  exact ⟨rfl, (Below.refl _ _).drew⟩
set_option maxHeartbeats 1600000 in
set_option maxRecDepth 100000 in
theorem cut_no (s : ByteArray) (w : World) (h : indexByte s.data.toList 47 = -1) :
    Calls Tryz.prog 52 #[.string s, .string ⟨#[47]⟩] w fun e w' => e = .returned (.tuple #[.string s, .string ⟨#[]⟩, .bool false]) ∧ w = w' := by
  have HH := hid (cutl_no s w h)
  clear h
  go_enter Tryz.func52, Tryz.ntmps52
  go_wp2_with fail
  refine Calls.mono HH.out ?_
  rintro e w' ⟨rfl, rfl⟩
  go_wp2_with fail
  go_ret3
  exact ⟨rfl, rfl⟩
set_option maxHeartbeats 1600000 in
set_option maxRecDepth 100000 in
theorem cut_yes (s : ByteArray) (w : World) (i : Nat) (h : indexByte s.data.toList 47 = (i : Int)) (hi : i + 1 ≤ s.size) (hs : s.size ≤ 65536) :
    Calls Tryz.prog 52 #[.string s, .string ⟨#[47]⟩] w fun e w' => e = .returned (.tuple #[.string (s.extract 0 i), .string (s.extract (i + 1) s.size), .bool true]) ∧ Below w.heap.size w w' := by
  have HH := hid (cutl_yes s w i h hi hs)
  clear h
  go_enter Tryz.func52, Tryz.ntmps52
  go_wp2_with fail
  refine Calls.mono HH.out ?_
  rintro e w' ⟨rfl, hb⟩
  go_wp2_with fail
  go_ret3
  exact ⟨rfl, hb⟩

end Go.Proofs.YtoaabbcikmlbiaaGreatDoor

/- Fractions read from a text: ratio.read, for any text. -/
namespace Go.Proofs.YtoaabbcikmlbiaaGreatDoor
open Go.RowKit Go.Lib
set_option linter.unusedVariables false

/-- What read tells: a sign, two rows of the call's own, apart; in a fraction's one form just where the text is one's own. -/
def RRead (w : World) (l : List UInt8) (x : Ending) (w' : World) : Prop :=
  ∃ n v xs u ys, x = .returned (.agg #[.bool n, v, u]) ∧ w'.ownsRow w.heap.size 44 1 v xs.length (xs.map (Value.int .u32)) ∧ w'.ownsRow w.heap.size 44 1 u ys.length (ys.map (Value.int .u32)) ∧ Wd xs ∧ Wd ys ∧ xs.length ≤ 8192 ∧ ys.length ≤ 8192 ∧ (rform n xs ys ↔ rgood l) ∧ (rgood l → n = rneg l ∧ Trimmed xs ∧ Trimmed ys ∧ val xs = rnu l ∧ val ys = rde l) ∧ Below w.heap.size w w' ∧ Cut w v u w'
theorem rread_bad {w w' : World} {l : List UInt8} (h : ¬ rgood l) (hb : Below w.heap.size w w') : RRead w l (.returned (.agg #[.bool false, .slice none 0 0, .slice none 0 0])) w' :=
  ⟨false, _, [], _, [], rfl, World.ownsRow_nil _ _ _ _, World.ownsRow_nil _ _ _ _, Wd.nil, Wd.nil, by simp, by simp, ⟨fun e => absurd e.2.1 (by simp), fun e => absurd e h⟩, fun e => absurd e h, hb, w'.heap.size, hb.size, Nat.le_refl _, fun g hg => by simp [Value.ownBlock] at hg, fun g hg => by simp [Value.ownBlock] at hg⟩
theorem rform_good {n : Bool} {xs ys : List Int} (wx : Wd xs) (wy : Wd ys) (tx : Trimmed xs) (ty : Trimmed ys) (lx : xs.length ≤ 8192) (ly : ys.length ≤ 8192) {l : List UInt8} (hn : n = rneg l) (hx : val xs = rnu l) (hy : val ys = rde l) (h1 : IsNum (rup l)) (h2 : rbar l = -1 ∨ IsNum (rdn l) ∧ rde l ≠ 1) : rform n xs ys ↔ rgood l := by
  have hp : 0 < ys.length ↔ 0 < rde l := by
    rw [← hy]
    exact ⟨fun h => val_pos' wy ty h, fun h => by
      by_cases c : ys.length = 0
      · obtain rfl := List.length_eq_zero_iff.1 c
        simp [val, valTo] at h
      · omega⟩
  have hq : 0 < xs.length ↔ 0 < rnu l := by
    rw [← hx]
    exact ⟨fun h => val_pos' wx tx h, fun h => by
      by_cases c : xs.length = 0
      · obtain rfl := List.length_eq_zero_iff.1 c
        simp [val, valTo] at h
      · omega⟩
  unfold rform rgood
  rw [hp, hq, hn, hx, hy]
  exact ⟨fun e => ⟨h1, h2, e.2.1, e.2.2.1, e.2.2.2⟩, fun e => ⟨both_good (chk_good lx tx) (chk_good ly ty), e.2.2.1, e.2.2.2.1, e.2.2.2.2⟩⟩
theorem rread_put {w U W : World} {l : List UInt8} {n : Bool} {v u : Value} {xs ys : List Int} (hU : Below w.heap.size w U) (hlt : w.heap.size < U.heap.size) (hW : Below U.heap.size U W) (o1 : One U W v xs (rnu l)) (o2 : One U W u ys (rde l)) (hc : Cut U v u W) (lx : xs.length ≤ 8192) (ly : ys.length ≤ 8192) (hn : n = rneg l) (h1 : IsNum (rup l)) (h2 : rbar l = -1 ∨ IsNum (rdn l) ∧ rde l ≠ 1) (x y z : Value) :
    RRead w l (.returned (.agg #[.bool n, v, u])) (((W.setCell ⟨w.heap.size, 0, none⟩ x).setCell ⟨w.heap.size, 1, none⟩ y).setCell ⟨w.heap.size, 2, none⟩ z) :=
  ⟨n, v, xs, u, ys, rfl, owns_base (own_put3 o1.1 _ (fun g hg => by have := (World.ownsRow.lt o1.1 g hg).1; omega) _ _ _) (by omega), owns_base (own_put3 o2.1 _ (fun g hg => by have := (World.ownsRow.lt o2.1 g hg).1; omega) _ _ _) (by omega), o1.2.1, o2.2.1, lx, ly, rform_good o1.2.1 o2.2.1 o1.2.2.1 o2.2.2.1 lx ly hn o1.2.2.2 o2.2.2.2 h1 h2, fun _ => ⟨hn, o1.2.2.1, o2.2.2.1, o1.2.2.2, o2.2.2.2⟩, below_put3 (bt hU hW) _ (Nat.le_refl _) _ _ _, hc.up (by omega) (by simp)⟩
theorem parse_good (T : ByteArray) (w : World) (hs : T.size ≤ 65536) (l : List UInt8) (hl : T.data.toList = l) (h : IsNum l) :
    Calls Tryz.prog 53 #[.string T] w fun x w' => ∃ a zs c, x = .returned (.tuple #[.slice a (List.length zs) c, .int .i64 0]) ∧ Hid (One w w' (.slice a (List.length zs) c) zs (numTo l l.length) ∧ zs.length ≤ 8192) ∧ Below w.heap.size w w' := by
  have HP := parse_any T w (by unfold maxLen; omega)
  rw [pErr_ok T hs (by rw [hl]; exact h)] at HP
  have hw := num_wide h.2.2 (by rw [← hl, size_list]; exact hs)
  refine Calls.mono HP ?_
  rintro x w' ⟨v, zs, code, rfl, o, t, hb⟩
  obtain ⟨a, c, hv⟩ := own_slice' o
  subst hv
  have e : numTo T.data.toList T.size = numTo l l.length := by rw [← size_list, hl]
  rw [e] at t
  obtain ⟨rfl, hz⟩ := t.good rfl hw
  exact ⟨a, zs, c, rfl, ⟨⟨o, t.wd, t.trim, hz⟩, own_len (U := w) (V := w') ⟨o, t.wd, t.trim, hz⟩ hw⟩, hb⟩
theorem parse_bad (T : ByteArray) (w : World) (hs : T.size ≤ 65536) (l : List UInt8) (hl : T.data.toList = l) (h : ¬ IsNum l) :
    Calls Tryz.prog 53 #[.string T] w fun x w' => ∃ a c, x = .returned (.tuple #[.slice a 0 c, .int .i64 110]) ∧ Below w.heap.size w w' := by
  have HP := parse_any T w (by unfold maxLen; omega)
  rw [pErr_not T hs (by rw [hl]; exact h)] at HP
  refine Calls.mono HP ?_
  rintro x w' ⟨v, zs, code, rfl, o, t, hb⟩
  obtain ⟨a, c, hv⟩ := own_slice' o
  subst hv
  obtain ⟨rfl, rfl⟩ := t.bad (by decide)
  exact ⟨a, c, rfl, hb⟩
theorem of_one (w : World) : Calls Tryz.prog 50 #[.int .u64 1] w fun x w' => ∃ a c, x = .returned (.slice a 1 c) ∧ Hid (One w w' (.slice a 1 c) [1] 1) ∧ Below w.heap.size w w' := by
  refine Calls.mono (of_any 1 w (by decide) (by decide)) ?_
  rintro x w' ⟨v, rfl, o, hb⟩
  have e1 : sz [(1 : Int) % 4294967296, 1 / 4294967296] = 1 := by decide
  have e2 : trimmed [(1 : Int) % 4294967296, 1 / 4294967296] = [1] := by decide
  rw [e1, e2] at o
  obtain ⟨a, c, hv⟩ := own_slice' o
  subst hv
  exact ⟨a, c, rfl, ⟨o, Wd.one (by omega), rfl, by simp [val, valTo]⟩, hb⟩

set_option maxHeartbeats 6400000 in
set_option maxRecDepth 100000 in
theorem read_A1 (s : ByteArray) (w : World) (hs : s.size ≤ 65536) (hB : rbar s.data.toList = -1) (hU : ¬ IsNum (rup s.data.toList)) :
    Calls Tryz.prog 36 #[.string s] w (RRead w s.data.toList) := by
  have HB := hid (alloc_later w (.cells #[.bool false, .slice none 0 0, .slice none 0 0] 24))
  have HZ := hid (Box.made w 24 #[.bool false, .slice none 0 0, .slice none 0 0])
  have HLT : Hid (w.heap.size < (w.alloc (.cells #[.bool false, .slice none 0 0, .slice none 0 0] 24)).heap.size) := by show _ < _; simp
  have HCP := hid (cutPrefix_minus s (w.alloc (.cells #[.bool false, .slice none 0 0, .slice none 0 0] 24)) hs)
  have hss := size_list s
  rw [show decide (s.data.toList[0]? = some 45) = rneg s.data.toList from rfl] at HCP
  have HBR := hid hB
  have HU := hid hU
  have HBAD : Hid (¬ rgood s.data.toList) := fun h => hU h.1
  clear hB hU
  go_enter Tryz.func36, Tryz.ntmps36
  go_wp2_with fail
  refine Calls.mono HCP.out ?_
  rintro e w' ⟨T, b, rfl, hbb, hTw, rfl⟩
  have hTs : T.size ≤ 65536 := by
    rw [← size_list, hTw]
    split
    · rw [List.length_drop]; omega
    · omega
  have hTb : indexByte T.data.toList 47 = rbar s.data.toList := by rw [hTw, hbb]; rfl
  have hTw' : T.data.toList = wdig (rneg s.data.toList) s.data.toList := by rw [hTw, hbb]; rfl
  clear hTw HCP
  have HC := hid (cut_no T (w.alloc (.cells #[.bool false, .slice none 0 0, .slice none 0 0] 24)) (by rw [hTb]; exact HBR.out))
  have HA : Hid (T.data.toList = rup s.data.toList) := by show _ = _; rw [hTw']; unfold rup; rw [if_pos HBR.out]
  clear hTb hTw'
  go_wp2_with fail
  refine Calls.mono HC.out ?_
  rintro e w1 ⟨rfl, rfl⟩
  clear HC
  have HH := hid (parse_bad T (w.alloc (.cells #[.bool false, .slice none 0 0, .slice none 0 0] 24)) hTs _ HA.out HU.out)
  go_wp2_with fail
  refine Calls.mono HH.out ?_
  rintro e w2 ⟨a2, c2, rfl, hb2⟩
  clear HH
  obtain ⟨r0, r1, r2, f0, f1, f2⟩ := res_box3 HZ.out hb2
  have HBA := hid (bt HB.out hb2)
  go_wp2_with fail
  refine bodyPost_ret (v := .agg #[.bool false, .slice none 0 0, .slice none 0 0]) (by simp [results, Tryz.results36, go_sem, r0, r1, r2]) rfl ?_
  exact rread_bad HBAD.out (below_put3 HBA.out _ (Nat.le_refl _) _ _ _)

set_option maxHeartbeats 6400000 in
set_option maxRecDepth 100000 in
theorem read_A2 (s : ByteArray) (w : World) (hs : s.size ≤ 65536) (hB : ¬ rbar s.data.toList = -1) (hU : ¬ IsNum (rup s.data.toList)) :
    Calls Tryz.prog 36 #[.string s] w (RRead w s.data.toList) := by
  have HB := hid (alloc_later w (.cells #[.bool false, .slice none 0 0, .slice none 0 0] 24))
  have HZ := hid (Box.made w 24 #[.bool false, .slice none 0 0, .slice none 0 0])
  have HLT : Hid (w.heap.size < (w.alloc (.cells #[.bool false, .slice none 0 0, .slice none 0 0] 24)).heap.size) := by show _ < _; simp
  have HCP := hid (cutPrefix_minus s (w.alloc (.cells #[.bool false, .slice none 0 0, .slice none 0 0] 24)) hs)
  have hss := size_list s
  rw [show decide (s.data.toList[0]? = some 45) = rneg s.data.toList from rfl] at HCP
  have HBR := hid hB
  have HU := hid hU
  have HBAD : Hid (¬ rgood s.data.toList) := fun h => hU h.1
  clear hB hU
  go_enter Tryz.func36, Tryz.ntmps36
  go_wp2_with fail
  refine Calls.mono HCP.out ?_
  rintro e w' ⟨T, b, rfl, hbb, hTw, rfl⟩
  have hTs : T.size ≤ 65536 := by
    rw [← size_list, hTw]
    split
    · rw [List.length_drop]; omega
    · omega
  have hTb : indexByte T.data.toList 47 = rbar s.data.toList := by rw [hTw, hbb]; rfl
  have hTw' : T.data.toList = wdig (rneg s.data.toList) s.data.toList := by rw [hTw, hbb]; rfl
  clear hTw HCP
  obtain ⟨i, hi⟩ : ∃ i : Nat, rbar s.data.toList = (i : Int) := ⟨(rbar s.data.toList).toNat, by have := indexByte_ge (wdig (rneg s.data.toList) s.data.toList) 47; have h := HBR.out; have e : rbar s.data.toList = indexByte (wdig (rneg s.data.toList) s.data.toList) 47 := rfl; omega⟩
  have hil : i + 1 ≤ T.size := by
    have h := (bar_parts (l := T.data.toList) (by rw [hTb]; exact HBR.out)).2
    rw [hTb, size_list] at h
    omega
  have HC := hid (cut_yes T (w.alloc (.cells #[.bool false, .slice none 0 0, .slice none 0 0] 24)) i (by rw [hTb]; exact hi) hil hTs)
  have HA : Hid ((T.extract 0 i).data.toList = rup s.data.toList) := by show _ = _; rw [extract_list, hTw']; unfold rup; rw [if_neg HBR.out, hi]; simp
  have HD : Hid ((T.extract (i + 1) T.size).data.toList = rdn s.data.toList) := by
    show _ = _
    rw [extract_list, List.take_of_length_le (by rw [List.length_drop, size_list]; omega), hTw']
    unfold rdn
    rw [if_neg HBR.out, hi]; simp
  have hAs : (T.extract 0 i).size ≤ 65536 := by rw [← size_list, extract_list, List.length_take, List.length_drop, size_list]; omega
  have hDs : (T.extract (i + 1) T.size).size ≤ 65536 := by rw [← size_list, extract_list, List.length_take, List.length_drop, size_list]; omega
  generalize T.extract 0 i = A at *
  generalize T.extract (i + 1) T.size = D at *
  clear hTw' hTb hi hil hTs
  go_wp2_with fail
  refine Calls.mono HC.out ?_
  rintro e w1 ⟨rfl, hb1⟩
  clear HC
  have HH := hid (parse_bad A w1 hAs _ HA.out HU.out)
  go_wp2_with fail
  refine Calls.mono HH.out ?_
  rintro e w2 ⟨a2, c2, rfl, hb2⟩
  clear HH
  obtain ⟨r0, r1, r2, f0, f1, f2⟩ := res_box3 HZ.out (bt hb1 hb2)
  have HBA := hid (bt HB.out (bt hb1 hb2))
  go_wp2_with fail
  refine bodyPost_ret (v := .agg #[.bool false, .slice none 0 0, .slice none 0 0]) (by simp [results, Tryz.results36, go_sem, r0, r1, r2]) rfl ?_
  exact rread_bad HBAD.out (below_put3 HBA.out _ (Nat.le_refl _) _ _ _)

set_option maxHeartbeats 6400000 in
set_option maxRecDepth 100000 in
theorem read_B (s : ByteArray) (w : World) (hs : s.size ≤ 65536) (hB : rbar s.data.toList = -1) (hU : IsNum (rup s.data.toList)) :
    Calls Tryz.prog 36 #[.string s] w (RRead w s.data.toList) := by
  have HB := hid (alloc_later w (.cells #[.bool false, .slice none 0 0, .slice none 0 0] 24))
  have HZ := hid (Box.made w 24 #[.bool false, .slice none 0 0, .slice none 0 0])
  have HLT : Hid (w.heap.size < (w.alloc (.cells #[.bool false, .slice none 0 0, .slice none 0 0] 24)).heap.size) := by show _ < _; simp
  have HCP := hid (cutPrefix_minus s (w.alloc (.cells #[.bool false, .slice none 0 0, .slice none 0 0] 24)) hs)
  have hss := size_list s
  rw [show decide (s.data.toList[0]? = some 45) = rneg s.data.toList from rfl] at HCP
  have HBR := hid hB
  have HU := hid hU
  clear hB hU
  go_enter Tryz.func36, Tryz.ntmps36
  go_wp2_with fail
  refine Calls.mono HCP.out ?_
  rintro e w' ⟨T, b, rfl, hbb, hTw, rfl⟩
  have hTs : T.size ≤ 65536 := by
    rw [← size_list, hTw]
    split
    · rw [List.length_drop]; omega
    · omega
  have hTb : indexByte T.data.toList 47 = rbar s.data.toList := by rw [hTw, hbb]; rfl
  have hTw' : T.data.toList = wdig (rneg s.data.toList) s.data.toList := by rw [hTw, hbb]; rfl
  clear hTw HCP
  have HC := hid (cut_no T (w.alloc (.cells #[.bool false, .slice none 0 0, .slice none 0 0] 24)) (by rw [hTb]; exact HBR.out))
  have HA : Hid (T.data.toList = rup s.data.toList) := by show _ = _; rw [hTw']; unfold rup; rw [if_pos HBR.out]
  clear hTb hTw'
  go_wp2_with fail
  refine Calls.mono HC.out ?_
  rintro e w1 ⟨rfl, rfl⟩
  clear HC
  have HH := hid (parse_good T (w.alloc (.cells #[.bool false, .slice none 0 0, .slice none 0 0] 24)) hTs _ HA.out HU.out)
  go_wp2_with fail
  refine Calls.mono HH.out ?_
  rintro e w2 ⟨a2, z2, c2, rfl, H2, hb2⟩
  clear HH
  have HH := hid (of_one w2)
  go_wp2_with fail
  refine Calls.mono HH.out ?_
  rintro e w3 ⟨a3, c3, rfl, H3, hb3⟩
  clear HH
  have HW := hid (bt hb2 hb3)
  obtain ⟨r0, r1, r2, f0, f1, f2⟩ := res_box3 HZ.out HW.out
  have hz2 := hb2.size
  have hz3 := hb3.size
  have HO2 : Hid (One (w.alloc (.cells #[.bool false, .slice none 0 0, .slice none 0 0] 24)) w3 (.slice a2 z2.length c2) z2 (rnu s.data.toList)) := ⟨owns_later H2.out.1.1 hb3, H2.out.1.2⟩
  have HDE : Hid (rde s.data.toList = 1) := by show _ = _; unfold rde; rw [if_pos HBR.out]
  have HO3 : Hid (One (w.alloc (.cells #[.bool false, .slice none 0 0, .slice none 0 0] 24)) w3 (.slice a3 1 c3) [1] (rde s.data.toList)) := ⟨owns_base H3.out.1 (by omega), H3.out.2.1, H3.out.2.2.1, by rw [HDE.out]; exact H3.out.2.2.2⟩
  have HCUT : Hid (Cut (w.alloc (.cells #[.bool false, .slice none 0 0, .slice none 0 0] 24)) (.slice a2 z2.length c2) (.slice a3 1 c3) w3) := cut_two (Nat.le_refl _) hz2 hz3 (World.ownsRow.lt H2.out.1.1) (World.ownsRow.lt H3.out.1)
  have HLL := hid H2.out.2
  clear hb2 hb3 hz2 hz3 H2 H3
  subst hbb
  go_wp2_with fail
  refine bodyPost_ret (v := .agg #[.bool (rneg s.data.toList), .slice a2 z2.length c2, .slice a3 1 c3]) (by simp [results, Tryz.results36, go_sem, r0, r1, r2]) rfl ?_
  exact rread_put HB.out HLT.out HW.out HO2.out HO3.out HCUT.out HLL.out (by simp) rfl HU.out (.inl HBR.out) _ _ _

set_option maxHeartbeats 6400000 in
set_option maxRecDepth 100000 in
theorem read_C (s : ByteArray) (w : World) (hs : s.size ≤ 65536) (hB : ¬ rbar s.data.toList = -1) (hU : IsNum (rup s.data.toList)) (hV : ¬ IsNum (rdn s.data.toList)) :
    Calls Tryz.prog 36 #[.string s] w (RRead w s.data.toList) := by
  have HB := hid (alloc_later w (.cells #[.bool false, .slice none 0 0, .slice none 0 0] 24))
  have HZ := hid (Box.made w 24 #[.bool false, .slice none 0 0, .slice none 0 0])
  have HLT : Hid (w.heap.size < (w.alloc (.cells #[.bool false, .slice none 0 0, .slice none 0 0] 24)).heap.size) := by show _ < _; simp
  have HCP := hid (cutPrefix_minus s (w.alloc (.cells #[.bool false, .slice none 0 0, .slice none 0 0] 24)) hs)
  have hss := size_list s
  rw [show decide (s.data.toList[0]? = some 45) = rneg s.data.toList from rfl] at HCP
  have HBR := hid hB
  have HU := hid hU
  have HV := hid hV
  have HBAD : Hid (¬ rgood s.data.toList) := fun h => h.2.1.elim hB (fun e => hV e.1)
  clear hB hU hV
  go_enter Tryz.func36, Tryz.ntmps36
  go_wp2_with fail
  refine Calls.mono HCP.out ?_
  rintro e w' ⟨T, b, rfl, hbb, hTw, rfl⟩
  have hTs : T.size ≤ 65536 := by
    rw [← size_list, hTw]
    split
    · rw [List.length_drop]; omega
    · omega
  have hTb : indexByte T.data.toList 47 = rbar s.data.toList := by rw [hTw, hbb]; rfl
  have hTw' : T.data.toList = wdig (rneg s.data.toList) s.data.toList := by rw [hTw, hbb]; rfl
  clear hTw HCP
  obtain ⟨i, hi⟩ : ∃ i : Nat, rbar s.data.toList = (i : Int) := ⟨(rbar s.data.toList).toNat, by have := indexByte_ge (wdig (rneg s.data.toList) s.data.toList) 47; have h := HBR.out; have e : rbar s.data.toList = indexByte (wdig (rneg s.data.toList) s.data.toList) 47 := rfl; omega⟩
  have hil : i + 1 ≤ T.size := by
    have h := (bar_parts (l := T.data.toList) (by rw [hTb]; exact HBR.out)).2
    rw [hTb, size_list] at h
    omega
  have HC := hid (cut_yes T (w.alloc (.cells #[.bool false, .slice none 0 0, .slice none 0 0] 24)) i (by rw [hTb]; exact hi) hil hTs)
  have HA : Hid ((T.extract 0 i).data.toList = rup s.data.toList) := by show _ = _; rw [extract_list, hTw']; unfold rup; rw [if_neg HBR.out, hi]; simp
  have HD : Hid ((T.extract (i + 1) T.size).data.toList = rdn s.data.toList) := by
    show _ = _
    rw [extract_list, List.take_of_length_le (by rw [List.length_drop, size_list]; omega), hTw']
    unfold rdn
    rw [if_neg HBR.out, hi]; simp
  have hAs : (T.extract 0 i).size ≤ 65536 := by rw [← size_list, extract_list, List.length_take, List.length_drop, size_list]; omega
  have hDs : (T.extract (i + 1) T.size).size ≤ 65536 := by rw [← size_list, extract_list, List.length_take, List.length_drop, size_list]; omega
  generalize T.extract 0 i = A at *
  generalize T.extract (i + 1) T.size = D at *
  clear hTw' hTb hi hil hTs
  go_wp2_with fail
  refine Calls.mono HC.out ?_
  rintro e w1 ⟨rfl, hb1⟩
  clear HC
  have HH := hid (parse_good A w1 hAs _ HA.out HU.out)
  go_wp2_with fail
  refine Calls.mono HH.out ?_
  rintro e w2 ⟨a2, z2, c2, rfl, H2, hb2⟩
  clear HH
  have HH := hid (parse_bad D w2 hDs _ HD.out HV.out)
  go_wp2_with fail
  refine Calls.mono HH.out ?_
  rintro e w3 ⟨a3, c3, rfl, hb3⟩
  clear HH
  obtain ⟨r0, r1, r2, f0, f1, f2⟩ := res_box3 HZ.out (bt hb1 (bt hb2 hb3))
  have HBA := hid (bt HB.out (bt hb1 (bt hb2 hb3)))
  go_wp2_with fail
  refine bodyPost_ret (v := .agg #[.bool false, .slice none 0 0, .slice none 0 0]) (by simp [results, Tryz.results36, go_sem, r0, r1, r2]) rfl ?_
  exact rread_bad HBAD.out (below_put3 HBA.out _ (Nat.le_refl _) _ _ _)

set_option maxHeartbeats 6400000 in
set_option maxRecDepth 100000 in
theorem read_D (s : ByteArray) (w : World) (hs : s.size ≤ 65536) (hB : ¬ rbar s.data.toList = -1) (hU : IsNum (rup s.data.toList)) (hV : IsNum (rdn s.data.toList)) (hO : rde s.data.toList = 1) :
    Calls Tryz.prog 36 #[.string s] w (RRead w s.data.toList) := by
  have HB := hid (alloc_later w (.cells #[.bool false, .slice none 0 0, .slice none 0 0] 24))
  have HZ := hid (Box.made w 24 #[.bool false, .slice none 0 0, .slice none 0 0])
  have HLT : Hid (w.heap.size < (w.alloc (.cells #[.bool false, .slice none 0 0, .slice none 0 0] 24)).heap.size) := by show _ < _; simp
  have HCP := hid (cutPrefix_minus s (w.alloc (.cells #[.bool false, .slice none 0 0, .slice none 0 0] 24)) hs)
  have hss := size_list s
  rw [show decide (s.data.toList[0]? = some 45) = rneg s.data.toList from rfl] at HCP
  have HBR := hid hB
  have HU := hid hU
  have HV := hid hV
  have HBAD : Hid (¬ rgood s.data.toList) := fun h => h.2.1.elim hB (fun e => e.2 hO)
  have hde : rde s.data.toList = numTo (rdn s.data.toList) (rdn s.data.toList).length := by unfold rde; rw [if_neg hB]
  have hval : ∀ z : List Int, Wd z → Trimmed z → val z = numTo (rdn s.data.toList) (rdn s.data.toList).length → decide (z = [1]) = true := fun z w t v => decide_eq_true ((one_iff w t).2 (by rw [v, ← hde]; exact hO))
  clear hB hU hV hO hde
  go_enter Tryz.func36, Tryz.ntmps36
  go_wp2_with fail
  refine Calls.mono HCP.out ?_
  rintro e w' ⟨T, b, rfl, hbb, hTw, rfl⟩
  have hTs : T.size ≤ 65536 := by
    rw [← size_list, hTw]
    split
    · rw [List.length_drop]; omega
    · omega
  have hTb : indexByte T.data.toList 47 = rbar s.data.toList := by rw [hTw, hbb]; rfl
  have hTw' : T.data.toList = wdig (rneg s.data.toList) s.data.toList := by rw [hTw, hbb]; rfl
  clear hTw HCP
  obtain ⟨i, hi⟩ : ∃ i : Nat, rbar s.data.toList = (i : Int) := ⟨(rbar s.data.toList).toNat, by have := indexByte_ge (wdig (rneg s.data.toList) s.data.toList) 47; have h := HBR.out; have e : rbar s.data.toList = indexByte (wdig (rneg s.data.toList) s.data.toList) 47 := rfl; omega⟩
  have hil : i + 1 ≤ T.size := by
    have h := (bar_parts (l := T.data.toList) (by rw [hTb]; exact HBR.out)).2
    rw [hTb, size_list] at h
    omega
  have HC := hid (cut_yes T (w.alloc (.cells #[.bool false, .slice none 0 0, .slice none 0 0] 24)) i (by rw [hTb]; exact hi) hil hTs)
  have HA : Hid ((T.extract 0 i).data.toList = rup s.data.toList) := by show _ = _; rw [extract_list, hTw']; unfold rup; rw [if_neg HBR.out, hi]; simp
  have HD : Hid ((T.extract (i + 1) T.size).data.toList = rdn s.data.toList) := by
    show _ = _
    rw [extract_list, List.take_of_length_le (by rw [List.length_drop, size_list]; omega), hTw']
    unfold rdn
    rw [if_neg HBR.out, hi]; simp
  have hAs : (T.extract 0 i).size ≤ 65536 := by rw [← size_list, extract_list, List.length_take, List.length_drop, size_list]; omega
  have hDs : (T.extract (i + 1) T.size).size ≤ 65536 := by rw [← size_list, extract_list, List.length_take, List.length_drop, size_list]; omega
  generalize T.extract 0 i = A at *
  generalize T.extract (i + 1) T.size = D at *
  clear hTw' hTb hi hil hTs
  go_wp2_with fail
  refine Calls.mono HC.out ?_
  rintro e w1 ⟨rfl, hb1⟩
  clear HC
  have HH := hid (parse_good A w1 hAs _ HA.out HU.out)
  go_wp2_with fail
  refine Calls.mono HH.out ?_
  rintro e w2 ⟨a2, z2, c2, rfl, H2, hb2⟩
  clear HH
  have HH := hid (parse_good D w2 hDs _ HD.out HV.out)
  go_wp2_with fail
  refine Calls.mono HH.out ?_
  rintro e w3 ⟨a3, z3, c3, rfl, H3, hb3⟩
  clear HH
  have HI := isOne_any _ z3 w3 (Sl.own H3.out.1.1 H3.out.1.2.1)
  rw [hval z3 H3.out.1.2.1 H3.out.1.2.2.1 H3.out.1.2.2.2] at HI
  clear hval
  have HH := hid (HI)
  go_wp2_with fail
  refine Calls.mono HH.out ?_
  rintro e w4 ⟨rfl, rfl⟩
  clear HH
  obtain ⟨r0, r1, r2, f0, f1, f2⟩ := res_box3 HZ.out (bt hb1 (bt hb2 hb3))
  have HBA := hid (bt HB.out (bt hb1 (bt hb2 hb3)))
  go_wp2_with fail
  refine bodyPost_ret (v := .agg #[.bool false, .slice none 0 0, .slice none 0 0]) (by simp [results, Tryz.results36, go_sem, r0, r1, r2]) rfl ?_
  exact rread_bad HBAD.out (below_put3 HBA.out _ (Nat.le_refl _) _ _ _)

set_option maxHeartbeats 6400000 in
set_option maxRecDepth 100000 in
theorem read_E (s : ByteArray) (w : World) (hs : s.size ≤ 65536) (hB : ¬ rbar s.data.toList = -1) (hU : IsNum (rup s.data.toList)) (hV : IsNum (rdn s.data.toList)) (hO : ¬ rde s.data.toList = 1) :
    Calls Tryz.prog 36 #[.string s] w (RRead w s.data.toList) := by
  have HB := hid (alloc_later w (.cells #[.bool false, .slice none 0 0, .slice none 0 0] 24))
  have HZ := hid (Box.made w 24 #[.bool false, .slice none 0 0, .slice none 0 0])
  have HLT : Hid (w.heap.size < (w.alloc (.cells #[.bool false, .slice none 0 0, .slice none 0 0] 24)).heap.size) := by show _ < _; simp
  have HCP := hid (cutPrefix_minus s (w.alloc (.cells #[.bool false, .slice none 0 0, .slice none 0 0] 24)) hs)
  have hss := size_list s
  rw [show decide (s.data.toList[0]? = some 45) = rneg s.data.toList from rfl] at HCP
  have HBR := hid hB
  have HU := hid hU
  have HV := hid hV
  have HO := hid hO
  have hde : rde s.data.toList = numTo (rdn s.data.toList) (rdn s.data.toList).length := by unfold rde; rw [if_neg hB]
  have hval : ∀ z : List Int, Wd z → Trimmed z → val z = numTo (rdn s.data.toList) (rdn s.data.toList).length → decide (z = [1]) = false := fun z w t v => decide_eq_false (fun e => hO (by rw [hde, ← v]; exact (one_iff w t).1 e))
  have HDE := hid hde
  clear hB hU hV hO hde
  go_enter Tryz.func36, Tryz.ntmps36
  go_wp2_with fail
  refine Calls.mono HCP.out ?_
  rintro e w' ⟨T, b, rfl, hbb, hTw, rfl⟩
  have hTs : T.size ≤ 65536 := by
    rw [← size_list, hTw]
    split
    · rw [List.length_drop]; omega
    · omega
  have hTb : indexByte T.data.toList 47 = rbar s.data.toList := by rw [hTw, hbb]; rfl
  have hTw' : T.data.toList = wdig (rneg s.data.toList) s.data.toList := by rw [hTw, hbb]; rfl
  clear hTw HCP
  obtain ⟨i, hi⟩ : ∃ i : Nat, rbar s.data.toList = (i : Int) := ⟨(rbar s.data.toList).toNat, by have := indexByte_ge (wdig (rneg s.data.toList) s.data.toList) 47; have h := HBR.out; have e : rbar s.data.toList = indexByte (wdig (rneg s.data.toList) s.data.toList) 47 := rfl; omega⟩
  have hil : i + 1 ≤ T.size := by
    have h := (bar_parts (l := T.data.toList) (by rw [hTb]; exact HBR.out)).2
    rw [hTb, size_list] at h
    omega
  have HC := hid (cut_yes T (w.alloc (.cells #[.bool false, .slice none 0 0, .slice none 0 0] 24)) i (by rw [hTb]; exact hi) hil hTs)
  have HA : Hid ((T.extract 0 i).data.toList = rup s.data.toList) := by show _ = _; rw [extract_list, hTw']; unfold rup; rw [if_neg HBR.out, hi]; simp
  have HD : Hid ((T.extract (i + 1) T.size).data.toList = rdn s.data.toList) := by
    show _ = _
    rw [extract_list, List.take_of_length_le (by rw [List.length_drop, size_list]; omega), hTw']
    unfold rdn
    rw [if_neg HBR.out, hi]; simp
  have hAs : (T.extract 0 i).size ≤ 65536 := by rw [← size_list, extract_list, List.length_take, List.length_drop, size_list]; omega
  have hDs : (T.extract (i + 1) T.size).size ≤ 65536 := by rw [← size_list, extract_list, List.length_take, List.length_drop, size_list]; omega
  generalize T.extract 0 i = A at *
  generalize T.extract (i + 1) T.size = D at *
  clear hTw' hTb hi hil hTs
  go_wp2_with fail
  refine Calls.mono HC.out ?_
  rintro e w1 ⟨rfl, hb1⟩
  clear HC
  have HH := hid (parse_good A w1 hAs _ HA.out HU.out)
  go_wp2_with fail
  refine Calls.mono HH.out ?_
  rintro e w2 ⟨a2, z2, c2, rfl, H2, hb2⟩
  clear HH
  have HH := hid (parse_good D w2 hDs _ HD.out HV.out)
  go_wp2_with fail
  refine Calls.mono HH.out ?_
  rintro e w3 ⟨a3, z3, c3, rfl, H3, hb3⟩
  clear HH
  have HI := isOne_any _ z3 w3 (Sl.own H3.out.1.1 H3.out.1.2.1)
  rw [hval z3 H3.out.1.2.1 H3.out.1.2.2.1 H3.out.1.2.2.2] at HI
  clear hval
  have HH := hid (HI)
  go_wp2_with fail
  refine Calls.mono HH.out ?_
  rintro e w4 ⟨rfl, rfl⟩
  clear HH
  have HW := hid (bt hb1 (bt hb2 hb3))
  obtain ⟨r0, r1, r2, f0, f1, f2⟩ := res_box3 HZ.out HW.out
  have hz1 := hb1.size
  have hz2 := hb2.size
  have hz3 := hb3.size
  have HO2 : Hid (One (w.alloc (.cells #[.bool false, .slice none 0 0, .slice none 0 0] 24)) w3 (.slice a2 z2.length c2) z2 (rnu s.data.toList)) := ⟨owns_base (owns_later H2.out.1.1 hb3) hz1, H2.out.1.2⟩
  have HO3 : Hid (One (w.alloc (.cells #[.bool false, .slice none 0 0, .slice none 0 0] 24)) w3 (.slice a3 z3.length c3) z3 (rde s.data.toList)) := ⟨owns_base H3.out.1.1 (by omega), H3.out.1.2.1, H3.out.1.2.2.1, by rw [HDE.out]; exact H3.out.1.2.2.2⟩
  have HCUT : Hid (Cut (w.alloc (.cells #[.bool false, .slice none 0 0, .slice none 0 0] 24)) (.slice a2 z2.length c2) (.slice a3 z3.length c3) w3) := cut_two hz1 hz2 hz3 (World.ownsRow.lt H2.out.1.1) (World.ownsRow.lt H3.out.1.1)
  have HLL := hid (And.intro H2.out.2 H3.out.2)
  clear hb1 hb2 hb3 hz1 hz2 hz3 H2 H3
  have HBB := hid hbb
  subst hbb
  go_wp2_with fail
  refine bodyPost_ret (v := .agg #[.bool (rneg s.data.toList), .slice a2 z2.length c2, .slice a3 z3.length c3]) (by simp [results, Tryz.results36, go_sem, r0, r1, r2]) rfl ?_
  exact rread_put HB.out HLT.out HW.out HO2.out HO3.out HCUT.out HLL.out.1 HLL.out.2 rfl HU.out (.inr ⟨HV.out, HO.out⟩) _ _ _
end Go.Proofs.YtoaabbcikmlbiaaGreatDoor

/- Fractions read from a text: ratio.Parse, for any text. -/
namespace Go.Proofs.YtoaabbcikmlbiaaGreatDoor
open Go.RowKit Go.Lib
set_option linter.unusedVariables false

theorem read_any (s : ByteArray) (w : World) (hs : s.size ≤ 65536) : Calls Tryz.prog 36 #[.string s] w (RRead w s.data.toList) := by
  by_cases hB : rbar s.data.toList = -1
  · by_cases hU : IsNum (rup s.data.toList)
    · exact read_B s w hs hB hU
    · exact read_A1 s w hs hB hU
  · by_cases hU : IsNum (rup s.data.toList)
    · by_cases hV : IsNum (rdn s.data.toList)
      · by_cases hO : rde s.data.toList = 1
        · exact read_D s w hs hB hU hV hO
        · exact read_E s w hs hB hU hV hO
      · exact read_C s w hs hB hU hV
    · exact read_A2 s w hs hB hU
theorem prErr_good {s : ByteArray} (hs : s.size ≤ 65536) (h : rgood s.data.toList) : prErr s = 0 := by unfold prErr; rw [if_neg (by omega), if_pos h]
theorem prErr_bad {s : ByteArray} (hs : s.size ≤ 65536) (h : ¬ rgood s.data.toList) : prErr s = 130 := by unfold prErr; rw [if_neg (by omega), if_neg h]
theorem prErr_long {s : ByteArray} (hs : 65536 < s.size) : prErr s = 3 := by unfold prErr; rw [if_pos hs]
theorem rtold_zero {w W : World} {e : Int} {q : Rat} (he : e ≠ 0) (hb : Below w.heap.size w W) : RToldA w e q (.returned (.tuple #[.agg #[.bool false, .slice none 0 0, .slice none 0 0], .int .i64 e])) W :=
  ⟨false, _, [], _, [], e, rfl, World.ownsRow_nil _ _ _ _, World.ownsRow_nil _ _ _ _, RTells.err he, hb, W.heap.size, hb.size, Nat.le_refl _, fun g hg => by simp [Value.ownBlock] at hg, fun g hg => by simp [Value.ownBlock] at hg⟩

set_option maxHeartbeats 3200000 in
set_option maxRecDepth 100000 in
theorem rparse_long (s : ByteArray) (w : World) (hs : 65536 < s.size) (hm : s.size ≤ 9223372036854775807) (q : Rat) : Calls Tryz.prog 20 #[.string s] w (RToldA w 3 q) := by
  have hs' : (65536 : Int) < (s.size : Int) := by omega
  go_enter Tryz.func20, Tryz.ntmps20
  go_wp2_with fail
  refine bodyPost_ret (v := .tuple #[.agg #[.bool false, .slice none 0 0, .slice none 0 0], .int .i64 3]) (by simp [results, Tryz.results20, go_sem]) rfl ?_
  exact rtold_zero (by decide) (alloc_later _ _)
set_option maxHeartbeats 6400000 in
set_option maxRecDepth 100000 in
theorem rparse_any (s : ByteArray) (w : World) (hs : s.size ≤ 65536) : Calls Tryz.prog 20 #[.string s] w (RToldA w (prErr s) (rpq s.data.toList)) := by
  have hs' : ¬ (65536 : Int) < (s.size : Int) := by omega
  have HB := hid (alloc_later w (.cells #[.bool false, .slice none 0 0, .slice none 0 0] 24))
  have HZ := hid (Box.made w 24 #[.bool false, .slice none 0 0, .slice none 0 0])
  have HLT : Hid (w.heap.size < (w.alloc (.cells #[.bool false, .slice none 0 0, .slice none 0 0] 24)).heap.size) := by show _ < _; simp
  have HR := hid (read_any s (w.alloc (.cells #[.bool false, .slice none 0 0, .slice none 0 0] 24)) hs)
  by_cases hg : rgood s.data.toList
  · rw [prErr_good hs hg]
    have HG := hid hg
    clear hg hs
    go_enter Tryz.func20, Tryz.ntmps20
    go_wp2_with fail
    refine Calls.mono HR.out ?_
    generalize (w.alloc (.cells #[.bool false, .slice none 0 0, .slice none 0 0] 24)) = X at *
    rintro e w1 ⟨n, v, xs, u, ys, rfl, o1, o2, wx, wy, lx, ly, hiff, hval, hb1, hcut⟩
    obtain ⟨a1, c1, hv⟩ := own_slice' o1
    subst hv
    obtain ⟨a2, c2, hv⟩ := own_slice' o2
    subst hv
    obtain ⟨hn, tx, ty, vx, vy⟩ := hval HG.out
    have HAL := hid (alloc_later w1 (.cells #[.bool n, .slice a1 xs.length c1, .slice a2 ys.length c2] 24))
    have HBX := hid (Box.made w1 24 #[.bool n, .slice a1 xs.length c1, .slice a2 ys.length c2])
    have HI := inOneForm_any n _ xs _ ys (w1.alloc (.cells #[.bool n, .slice a1 xs.length c1, .slice a2 ys.length c2] 24)) ((Sl.own o1 wx).later HAL.out) ((Sl.own o2 wy).later HAL.out) (by omega) (by omega)
    rw [decide_eq_true (hiff.2 HG.out)] at HI
    have HH := hid HI
    have HO1 : Hid (One X w1 (.slice a1 xs.length c1) xs (rnu s.data.toList)) := ⟨o1, wx, tx, vx⟩
    have HO2 : Hid (One X w1 (.slice a2 ys.length c2) ys (rde s.data.toList)) := ⟨o2, wy, ty, vy⟩
    have HCUT := hid hcut
    have HN := hid hn
    have HB1 := hid (bt hb1 HAL.out)
    clear o1 o2 wx wy lx ly hiff hval hb1 hcut HI hn tx ty vx vy HR
    go_wp2_with fail
    refine Calls.mono HH.out ?_
    rintro e w2 ⟨rfl, hb2⟩
    obtain ⟨p0, p1, p2, _, _, _⟩ := res_box3 HBX.out hb2
    have HAB := hid (bt HAL.out hb2)
    have hz := HAB.out.size
    have HT := hid (rtold_cut2 (n := n) (q := rpq s.data.toList) (bt HB1.out hb2) (HO1.out.later HAB.out) (HO2.out.later HAB.out) (HCUT.out.up (Nat.le_refl _) hz) HG.out.2.2.1 HG.out.2.2.2.2 (by rw [HN.out]; rfl))
    have HB2 := hid (bt HB1.out hb2)
    clear hb2 HH HAB HBX HAL
    go_wp2_with fail
    refine Calls.mono HT.out ?_
    rintro e w3 ⟨k9, a8, z8, c8, a9, z9, c9, code, rfl, HE9, hb3, _⟩
    obtain ⟨r0, r1, r2, f0, f1, f2⟩ := res_box3 HZ.out hb3
    have HBW := hid (bt HB.out hb3)
    clear hb3 HT
    go_wp2_with fail
    refine bodyPost_ret (v := .tuple #[.agg #[.bool k9, .slice a8 z8.length c8, .slice a9 z9.length c9], .int .i64 code]) (by simp [results, Tryz.results20, go_sem, r0, r1, r2]) rfl ?_
    exact RToldA.put HE9.out w.heap.size HLT.out (Nat.le_refl _) HBW.out _ _ _
  · rw [prErr_bad hs hg]
    have HG := hid hg
    clear hg hs
    go_enter Tryz.func20, Tryz.ntmps20
    go_wp2_with fail
    refine Calls.mono HR.out ?_
    generalize (w.alloc (.cells #[.bool false, .slice none 0 0, .slice none 0 0] 24)) = X at *
    rintro e w1 ⟨n, v, xs, u, ys, rfl, o1, o2, wx, wy, lx, ly, hiff, hval, hb1, hcut⟩
    obtain ⟨a1, c1, hv⟩ := own_slice' o1
    subst hv
    obtain ⟨a2, c2, hv⟩ := own_slice' o2
    subst hv
    have HAL := hid (alloc_later w1 (.cells #[.bool n, .slice a1 xs.length c1, .slice a2 ys.length c2] 24))
    have HI := inOneForm_any n _ xs _ ys (w1.alloc (.cells #[.bool n, .slice a1 xs.length c1, .slice a2 ys.length c2] 24)) ((Sl.own o1 wx).later HAL.out) ((Sl.own o2 wy).later HAL.out) (by omega) (by omega)
    rw [decide_eq_false (fun e => HG.out (hiff.1 e))] at HI
    have HH := hid HI
    have HB1 := hid (bt hb1 HAL.out)
    clear o1 o2 wx wy lx ly hiff hval hb1 hcut HI HR
    go_wp2_with fail
    refine Calls.mono HH.out ?_
    rintro e w2 ⟨rfl, hb2⟩
    obtain ⟨r0, r1, r2, f0, f1, f2⟩ := res_box3 HZ.out (bt HB1.out hb2)
    have HBW := hid (bt HB.out (bt HB1.out hb2))
    clear hb2 HH
    go_wp2_with fail
    refine bodyPost_ret (v := .tuple #[.agg #[.bool false, .slice none 0 0, .slice none 0 0], .int .i64 130]) (by simp [results, Tryz.results20, go_sem, r0, r1, r2]) rfl ?_
    exact rtold_zero (by decide) (below_put3 HBW.out _ (Nat.le_refl _) _ _ _)
end Go.Proofs.YtoaabbcikmlbiaaGreatDoor

/- Fractions: ratio.Make, ratio.Small. -/
namespace Go.Proofs.YtoaabbcikmlbiaaGreatDoor
open Go.RowKit
set_option linter.unusedVariables false

set_option maxHeartbeats 3200000 in
set_option maxRecDepth 100000 in
theorem rmake_e1 (n : Bool) (a : Option Addr) (ca : Nat) (xs : List Int) (m : Bool) (b : Option Addr) (cb : Nat) (ys : List Int) (w : World) (h : Sl w (.slice a xs.length ca) xs) (g : Sl w (.slice b ys.length cb) ys) (lx : xs.length ≤ 281474976710656) (ly : ys.length ≤ 281474976710656) (hx : wchk n xs ≠ 0) (q : Rat) :
    Calls Tryz.prog 17 #[.agg #[.bool n, .slice a xs.length ca], .agg #[.bool m, .slice b ys.length cb]] w (RToldA w (wchk n xs) q) := by
  have HB : Hid (Below w.heap.size w (((w.alloc (.cells #[.bool n, .slice a xs.length ca] 41)).alloc (.cells #[.bool m, .slice b ys.length cb] 41)).alloc (.cells #[.bool false, .slice none 0 0, .slice none 0 0] 24))) := bt (bt (alloc_later _ _) (alloc_later _ _)) (alloc_later _ _)
  have HZ : Hid (Box (((w.alloc (.cells #[.bool n, .slice a xs.length ca] 41)).alloc (.cells #[.bool m, .slice b ys.length cb] 41)).alloc (.cells #[.bool false, .slice none 0 0, .slice none 0 0] 24)) (w.heap.size + 1 + 1) 24 #[.bool false, .slice none 0 0, .slice none 0 0]) := by
    have e := Box.made ((w.alloc (.cells #[.bool n, .slice a xs.length ca] 41)).alloc (.cells #[.bool m, .slice b ys.length cb] 41)) 24 #[.bool false, .slice none 0 0, .slice none 0 0]
    simp at e
    exact e
  have HN : Hid (Box (((w.alloc (.cells #[.bool n, .slice a xs.length ca] 41)).alloc (.cells #[.bool m, .slice b ys.length cb] 41)).alloc (.cells #[.bool false, .slice none 0 0, .slice none 0 0] 24)) w.heap.size 41 #[.bool n, .slice a xs.length ca]) := Box.later (Box.later (Box.made w _ _) (alloc_later _ _) (by simp)) (alloc_later _ _) (by simp; omega)
  have HM : Hid (Box (((w.alloc (.cells #[.bool n, .slice a xs.length ca] 41)).alloc (.cells #[.bool m, .slice b ys.length cb] 41)).alloc (.cells #[.bool false, .slice none 0 0, .slice none 0 0] 24)) (w.heap.size + 1) 41 #[.bool m, .slice b ys.length cb]) := by
    have e := Box.later (Box.made (w.alloc (.cells #[.bool n, .slice a xs.length ca] 41)) 41 #[.bool m, .slice b ys.length cb]) (alloc_later ((w.alloc (.cells #[.bool n, .slice a xs.length ca] 41)).alloc (.cells #[.bool m, .slice b ys.length cb] 41)) (.cells #[.bool false, .slice none 0 0, .slice none 0 0] 24)) (by simp)
    simp at e
    exact e
  have HS := hid (And.intro (h.later HB.out) (g.later HB.out))
  have HXS : Hid (w.heap.size + 1 + 1 < (((w.alloc (.cells #[.bool n, .slice a xs.length ca] 41)).alloc (.cells #[.bool m, .slice b ys.length cb] 41)).alloc (.cells #[.bool false, .slice none 0 0, .slice none 0 0] 24)).heap.size) := HZ.out.lt
  have HC1 := hid (wcheck_any n _ xs _ HS.out.1 lx)
  obtain ⟨e1, he1⟩ : ∃ e1, wchk n xs = e1 := ⟨_, rfl⟩
  rw [he1] at HC1 hx ⊢
  have hx' : (e1 == 0) = false := beq_eq_false_iff_ne.2 hx
  have HE := hid hx
  clear he1 hx
  clear h g
  go_enter Tryz.func17, Tryz.ntmps17
  go_wp2_with fail
  refine Calls.mono HC1.out ?_
  generalize (((w.alloc (.cells #[.bool n, .slice a xs.length ca] 41)).alloc (.cells #[.bool m, .slice b ys.length cb] 41)).alloc (.cells #[.bool false, .slice none 0 0, .slice none 0 0] 24)) = X at *
  rintro e w1 ⟨rfl, hb1⟩
  have HB1 := hid hb1
  clear hb1 HC1
  obtain ⟨y0, y1, y2, f0, f1, f2⟩ := res_box3 HZ.out HB1.out
  have HBN := hid (below_put3 (bt HB.out HB1.out) (w.heap.size + 1 + 1) (by omega) (.bool false) (.slice none 0 0) (.slice none 0 0))
  clear HN HM HZ HS
  go_wp2_with fail
  refine bodyPost_ret (v := .tuple #[.agg #[.bool false, .slice none 0 0, .slice none 0 0], .int .i64 e1]) (by simp [results, Tryz.results17, go_sem, y0, y1, y2]) rfl ?_
  exact ⟨false, _, [], _, [], _, rfl, World.ownsRow_nil _ _ _ _, World.ownsRow_nil _ _ _ _, RTells.err HE.out, HBN.out, ⟨w.heap.size, Nat.le_refl _, HBN.out.size, fun g hg => by simp [Value.ownBlock] at hg, fun g hg => by simp [Value.ownBlock] at hg⟩⟩

set_option maxHeartbeats 3200000 in
set_option maxRecDepth 100000 in
theorem rmake_e2 (n : Bool) (a : Option Addr) (ca : Nat) (xs : List Int) (m : Bool) (b : Option Addr) (cb : Nat) (ys : List Int) (w : World) (h : Sl w (.slice a xs.length ca) xs) (g : Sl w (.slice b ys.length cb) ys) (lx : xs.length ≤ 281474976710656) (ly : ys.length ≤ 281474976710656) (hx : wchk n xs = 0) (hy : wchk m ys ≠ 0) (q : Rat) :
    Calls Tryz.prog 17 #[.agg #[.bool n, .slice a xs.length ca], .agg #[.bool m, .slice b ys.length cb]] w (RToldA w (wchk m ys) q) := by
  have HB : Hid (Below w.heap.size w (((w.alloc (.cells #[.bool n, .slice a xs.length ca] 41)).alloc (.cells #[.bool m, .slice b ys.length cb] 41)).alloc (.cells #[.bool false, .slice none 0 0, .slice none 0 0] 24))) := bt (bt (alloc_later _ _) (alloc_later _ _)) (alloc_later _ _)
  have HZ : Hid (Box (((w.alloc (.cells #[.bool n, .slice a xs.length ca] 41)).alloc (.cells #[.bool m, .slice b ys.length cb] 41)).alloc (.cells #[.bool false, .slice none 0 0, .slice none 0 0] 24)) (w.heap.size + 1 + 1) 24 #[.bool false, .slice none 0 0, .slice none 0 0]) := by
    have e := Box.made ((w.alloc (.cells #[.bool n, .slice a xs.length ca] 41)).alloc (.cells #[.bool m, .slice b ys.length cb] 41)) 24 #[.bool false, .slice none 0 0, .slice none 0 0]
    simp at e
    exact e
  have HN : Hid (Box (((w.alloc (.cells #[.bool n, .slice a xs.length ca] 41)).alloc (.cells #[.bool m, .slice b ys.length cb] 41)).alloc (.cells #[.bool false, .slice none 0 0, .slice none 0 0] 24)) w.heap.size 41 #[.bool n, .slice a xs.length ca]) := Box.later (Box.later (Box.made w _ _) (alloc_later _ _) (by simp)) (alloc_later _ _) (by simp; omega)
  have HM : Hid (Box (((w.alloc (.cells #[.bool n, .slice a xs.length ca] 41)).alloc (.cells #[.bool m, .slice b ys.length cb] 41)).alloc (.cells #[.bool false, .slice none 0 0, .slice none 0 0] 24)) (w.heap.size + 1) 41 #[.bool m, .slice b ys.length cb]) := by
    have e := Box.later (Box.made (w.alloc (.cells #[.bool n, .slice a xs.length ca] 41)) 41 #[.bool m, .slice b ys.length cb]) (alloc_later ((w.alloc (.cells #[.bool n, .slice a xs.length ca] 41)).alloc (.cells #[.bool m, .slice b ys.length cb] 41)) (.cells #[.bool false, .slice none 0 0, .slice none 0 0] 24)) (by simp)
    simp at e
    exact e
  have HS := hid (And.intro (h.later HB.out) (g.later HB.out))
  have HXS : Hid (w.heap.size + 1 + 1 < (((w.alloc (.cells #[.bool n, .slice a xs.length ca] 41)).alloc (.cells #[.bool m, .slice b ys.length cb] 41)).alloc (.cells #[.bool false, .slice none 0 0, .slice none 0 0] 24)).heap.size) := HZ.out.lt
  have HC1 := hid (wcheck_any n _ xs _ HS.out.1 lx)
  rw [hx] at HC1
  obtain ⟨e1, he1⟩ : ∃ e1, wchk m ys = e1 := ⟨_, rfl⟩
  have HC2 := hid (fun ww (hb : Below _ (((w.alloc (.cells #[.bool n, .slice a xs.length ca] 41)).alloc (.cells #[.bool m, .slice b ys.length cb] 41)).alloc (.cells #[.bool false, .slice none 0 0, .slice none 0 0] 24)) ww) => wcheck_any m _ ys ww (HS.out.2.later hb) ly)
  rw [he1] at HC2 hy ⊢
  have hy' : (e1 == 0) = false := beq_eq_false_iff_ne.2 hy
  have HE := hid hy
  clear he1 hy hx
  clear h g
  go_enter Tryz.func17, Tryz.ntmps17
  go_wp2_with fail
  refine Calls.mono HC1.out ?_
  generalize (((w.alloc (.cells #[.bool n, .slice a xs.length ca] 41)).alloc (.cells #[.bool m, .slice b ys.length cb] 41)).alloc (.cells #[.bool false, .slice none 0 0, .slice none 0 0] 24)) = X at *
  rintro e w1 ⟨rfl, hb1⟩
  have HB1 := hid hb1
  clear hb1 HC1
  have HC := hid (HC2.out w1 HB1.out)
  obtain ⟨q0, q1, _, _⟩ := (HM.out.later HB1.out HM.out.lt).c2
  clear HC2
  go_wp2_with fail
  refine Calls.mono HC.out ?_
  rintro e w2 ⟨rfl, hb2⟩
  have HB2 := hid (bt HB1.out hb2)
  clear hb2 HC q0 q1
  obtain ⟨y0, y1, y2, f0, f1, f2⟩ := res_box3 HZ.out HB2.out
  have HBN := hid (below_put3 (bt HB.out HB2.out) (w.heap.size + 1 + 1) (by omega) (.bool false) (.slice none 0 0) (.slice none 0 0))
  clear HN HM HZ HS
  go_wp2_with fail
  refine bodyPost_ret (v := .tuple #[.agg #[.bool false, .slice none 0 0, .slice none 0 0], .int .i64 e1]) (by simp [results, Tryz.results17, go_sem, y0, y1, y2]) rfl ?_
  exact ⟨false, _, [], _, [], _, rfl, World.ownsRow_nil _ _ _ _, World.ownsRow_nil _ _ _ _, RTells.err HE.out, HBN.out, ⟨w.heap.size, Nat.le_refl _, HBN.out.size, fun g hg => by simp [Value.ownBlock] at hg, fun g hg => by simp [Value.ownBlock] at hg⟩⟩

set_option maxHeartbeats 3200000 in
set_option maxRecDepth 100000 in
theorem rmake_z (n : Bool) (a : Option Addr) (ca : Nat) (xs : List Int) (m : Bool) (b : Option Addr) (cb : Nat) (ys : List Int) (w : World) (h : Sl w (.slice a xs.length ca) xs) (g : Sl w (.slice b ys.length cb) ys) (lx : xs.length ≤ 281474976710656) (ly : ys.length ≤ 281474976710656) (hx : wchk n xs = 0) (hy : wchk m ys = 0) (h0 : ys.length = 0) (q : Rat) :
    Calls Tryz.prog 17 #[.agg #[.bool n, .slice a xs.length ca], .agg #[.bool m, .slice b ys.length cb]] w (RToldA w 7 q) := by
  have HB : Hid (Below w.heap.size w (((w.alloc (.cells #[.bool n, .slice a xs.length ca] 41)).alloc (.cells #[.bool m, .slice b ys.length cb] 41)).alloc (.cells #[.bool false, .slice none 0 0, .slice none 0 0] 24))) := bt (bt (alloc_later _ _) (alloc_later _ _)) (alloc_later _ _)
  have HZ : Hid (Box (((w.alloc (.cells #[.bool n, .slice a xs.length ca] 41)).alloc (.cells #[.bool m, .slice b ys.length cb] 41)).alloc (.cells #[.bool false, .slice none 0 0, .slice none 0 0] 24)) (w.heap.size + 1 + 1) 24 #[.bool false, .slice none 0 0, .slice none 0 0]) := by
    have e := Box.made ((w.alloc (.cells #[.bool n, .slice a xs.length ca] 41)).alloc (.cells #[.bool m, .slice b ys.length cb] 41)) 24 #[.bool false, .slice none 0 0, .slice none 0 0]
    simp at e
    exact e
  have HN : Hid (Box (((w.alloc (.cells #[.bool n, .slice a xs.length ca] 41)).alloc (.cells #[.bool m, .slice b ys.length cb] 41)).alloc (.cells #[.bool false, .slice none 0 0, .slice none 0 0] 24)) w.heap.size 41 #[.bool n, .slice a xs.length ca]) := Box.later (Box.later (Box.made w _ _) (alloc_later _ _) (by simp)) (alloc_later _ _) (by simp; omega)
  have HM : Hid (Box (((w.alloc (.cells #[.bool n, .slice a xs.length ca] 41)).alloc (.cells #[.bool m, .slice b ys.length cb] 41)).alloc (.cells #[.bool false, .slice none 0 0, .slice none 0 0] 24)) (w.heap.size + 1) 41 #[.bool m, .slice b ys.length cb]) := by
    have e := Box.later (Box.made (w.alloc (.cells #[.bool n, .slice a xs.length ca] 41)) 41 #[.bool m, .slice b ys.length cb]) (alloc_later ((w.alloc (.cells #[.bool n, .slice a xs.length ca] 41)).alloc (.cells #[.bool m, .slice b ys.length cb] 41)) (.cells #[.bool false, .slice none 0 0, .slice none 0 0] 24)) (by simp)
    simp at e
    exact e
  have HS := hid (And.intro (h.later HB.out) (g.later HB.out))
  have HXS : Hid (w.heap.size + 1 + 1 < (((w.alloc (.cells #[.bool n, .slice a xs.length ca] 41)).alloc (.cells #[.bool m, .slice b ys.length cb] 41)).alloc (.cells #[.bool false, .slice none 0 0, .slice none 0 0] 24)).heap.size) := HZ.out.lt
  have HC1 := hid (wcheck_any n _ xs _ HS.out.1 lx)
  rw [hx] at HC1
  have HC2 := hid (fun ww (hb : Below _ (((w.alloc (.cells #[.bool n, .slice a xs.length ca] 41)).alloc (.cells #[.bool m, .slice b ys.length cb] 41)).alloc (.cells #[.bool false, .slice none 0 0, .slice none 0 0] 24)) ww) => wcheck_any m _ ys ww (HS.out.2.later hb) ly)
  rw [hy] at HC2
  have h0' : ((ys.length : Int) == 0) = true := by rw [h0]; rfl
  have HE : Hid ((7 : Int) ≠ 0) := by show _ ≠ _; omega
  clear hx hy h0
  clear h g
  go_enter Tryz.func17, Tryz.ntmps17
  go_wp2_with fail
  refine Calls.mono HC1.out ?_
  generalize (((w.alloc (.cells #[.bool n, .slice a xs.length ca] 41)).alloc (.cells #[.bool m, .slice b ys.length cb] 41)).alloc (.cells #[.bool false, .slice none 0 0, .slice none 0 0] 24)) = X at *
  rintro e w1 ⟨rfl, hb1⟩
  have HB1 := hid hb1
  clear hb1 HC1
  have HC := hid (HC2.out w1 HB1.out)
  obtain ⟨q0, q1, _, _⟩ := (HM.out.later HB1.out HM.out.lt).c2
  clear HC2
  go_wp2_with fail
  refine Calls.mono HC.out ?_
  rintro e w2 ⟨rfl, hb2⟩
  have HB2 := hid (bt HB1.out hb2)
  clear hb2 HC q0 q1
  obtain ⟨q0, q1, _, _⟩ := (HM.out.later HB2.out HM.out.lt).c2
  obtain ⟨y0, y1, y2, f0, f1, f2⟩ := res_box3 HZ.out HB2.out
  have HBN := hid (below_put3 (bt HB.out HB2.out) (w.heap.size + 1 + 1) (by omega) (.bool false) (.slice none 0 0) (.slice none 0 0))
  clear HN HM HZ HS
  go_wp2_with fail
  refine bodyPost_ret (v := .tuple #[.agg #[.bool false, .slice none 0 0, .slice none 0 0], .int .i64 7]) (by simp [results, Tryz.results17, go_sem, y0, y1, y2]) rfl ?_
  exact ⟨false, _, [], _, [], _, rfl, World.ownsRow_nil _ _ _ _, World.ownsRow_nil _ _ _ _, RTells.err HE.out, HBN.out, ⟨w.heap.size, Nat.le_refl _, HBN.out.size, fun g hg => by simp [Value.ownBlock] at hg, fun g hg => by simp [Value.ownBlock] at hg⟩⟩

set_option maxHeartbeats 6400000 in
set_option maxRecDepth 100000 in
theorem rmake_ok (n : Bool) (a : Option Addr) (ca : Nat) (xs : List Int) (m : Bool) (b : Option Addr) (cb : Nat) (ys : List Int) (w : World) (h : Sl w (.slice a xs.length ca) xs) (g : Sl w (.slice b ys.length cb) ys) (lx : xs.length ≤ 281474976710656) (ly : ys.length ≤ 281474976710656) (hx : wchk n xs = 0) (hy : wchk m ys = 0) (h0 : 0 < ys.length) :
    Calls Tryz.prog 17 #[.agg #[.bool n, .slice a xs.length ca], .agg #[.bool m, .slice b ys.length cb]] w (RToldA w 0 (Rat.divInt (wval n xs) (wval m ys))) := by
  obtain ⟨kx, tx, _⟩ := wchk_ok hx
  obtain ⟨ky, ty, _⟩ := wchk_ok hy
  have wx := h.wd
  have wy := g.wd
  have HB : Hid (Below w.heap.size w (((w.alloc (.cells #[.bool n, .slice a xs.length ca] 41)).alloc (.cells #[.bool m, .slice b ys.length cb] 41)).alloc (.cells #[.bool false, .slice none 0 0, .slice none 0 0] 24))) := bt (bt (alloc_later _ _) (alloc_later _ _)) (alloc_later _ _)
  have HZ : Hid (Box (((w.alloc (.cells #[.bool n, .slice a xs.length ca] 41)).alloc (.cells #[.bool m, .slice b ys.length cb] 41)).alloc (.cells #[.bool false, .slice none 0 0, .slice none 0 0] 24)) (w.heap.size + 1 + 1) 24 #[.bool false, .slice none 0 0, .slice none 0 0]) := by
    have e := Box.made ((w.alloc (.cells #[.bool n, .slice a xs.length ca] 41)).alloc (.cells #[.bool m, .slice b ys.length cb] 41)) 24 #[.bool false, .slice none 0 0, .slice none 0 0]
    simp at e
    exact e
  have HN : Hid (Box (((w.alloc (.cells #[.bool n, .slice a xs.length ca] 41)).alloc (.cells #[.bool m, .slice b ys.length cb] 41)).alloc (.cells #[.bool false, .slice none 0 0, .slice none 0 0] 24)) w.heap.size 41 #[.bool n, .slice a xs.length ca]) := Box.later (Box.later (Box.made w _ _) (alloc_later _ _) (by simp)) (alloc_later _ _) (by simp; omega)
  have HM : Hid (Box (((w.alloc (.cells #[.bool n, .slice a xs.length ca] 41)).alloc (.cells #[.bool m, .slice b ys.length cb] 41)).alloc (.cells #[.bool false, .slice none 0 0, .slice none 0 0] 24)) (w.heap.size + 1) 41 #[.bool m, .slice b ys.length cb]) := by
    have e := Box.later (Box.made (w.alloc (.cells #[.bool n, .slice a xs.length ca] 41)) 41 #[.bool m, .slice b ys.length cb]) (alloc_later ((w.alloc (.cells #[.bool n, .slice a xs.length ca] 41)).alloc (.cells #[.bool m, .slice b ys.length cb] 41)) (.cells #[.bool false, .slice none 0 0, .slice none 0 0] 24)) (by simp)
    simp at e
    exact e
  have HS := hid (And.intro (h.later HB.out) (g.later HB.out))
  have HXS : Hid (w.heap.size + 1 + 1 < (((w.alloc (.cells #[.bool n, .slice a xs.length ca] 41)).alloc (.cells #[.bool m, .slice b ys.length cb] 41)).alloc (.cells #[.bool false, .slice none 0 0, .slice none 0 0] 24)).heap.size) := HZ.out.lt
  have HC1 := hid (wcheck_any n _ xs _ HS.out.1 lx)
  rw [hx] at HC1
  have HC2 := hid (fun ww (hb : Below _ (((w.alloc (.cells #[.bool n, .slice a xs.length ca] 41)).alloc (.cells #[.bool m, .slice b ys.length cb] 41)).alloc (.cells #[.bool false, .slice none 0 0, .slice none 0 0] 24)) ww) => wcheck_any m _ ys ww (HS.out.2.later hb) ly)
  rw [hy] at HC2
  have h0' : ((ys.length : Int) == 0) = false := beq_eq_false_iff_ne.2 (by omega)
  have HPY : Hid (0 < val ys) := by have := val_pos' wy ty h0; show _ < _; omega
  have HG : Hid (0 < gcdI (val xs) (val ys) ∧ gcdI (val xs) (val ys) ≤ val ys ∧ val ys < 4294967296 ^ 2048) := ⟨gcd_pos_right HPY.out, gcd_le_right HPY.out, below2048 wy ky⟩
  have HMP := hid (make_parts (n := n) (m := m) (val_nonneg wx) HPY.out)
  have HTT := hid (And.intro tx ty)
  obtain ⟨s, hs⟩ : ∃ s, (!(n == m)) = s := ⟨_, rfl⟩
  have HSG := hid (show (n != m) = s from hs)
  clear h g hx hy h0 tx ty
  go_enter Tryz.func17, Tryz.ntmps17
  go_wp2_with fail
  refine Calls.mono HC1.out ?_
  generalize (((w.alloc (.cells #[.bool n, .slice a xs.length ca] 41)).alloc (.cells #[.bool m, .slice b ys.length cb] 41)).alloc (.cells #[.bool false, .slice none 0 0, .slice none 0 0] 24)) = X at *
  rintro e w1 ⟨rfl, hb1⟩
  have HB1 := hid hb1
  clear hb1 HC1
  have HC := hid (HC2.out w1 HB1.out)
  obtain ⟨q0, q1, _, _⟩ := (HM.out.later HB1.out HM.out.lt).c2
  clear HC2
  go_wp2_with fail
  refine Calls.mono HC.out ?_
  rintro e w2 ⟨rfl, hb2⟩
  have HB2 := hid (bt HB1.out hb2)
  clear hb2 HC q0 q1
  have HK : Hid (∀ V, Below X.heap.size X V → V.cell? ⟨w.heap.size, 0, none⟩ = some (.bool n) ∧ V.cell? ⟨w.heap.size, 1, none⟩ = some (.slice a xs.length ca) ∧ V.cell? ⟨w.heap.size + 1, 0, none⟩ = some (.bool m) ∧ V.cell? ⟨w.heap.size + 1, 1, none⟩ = some (.slice b ys.length cb)) := fun V hb => by
    obtain ⟨p0, p1, _, _⟩ := (HN.out.later hb HN.out.lt).c2
    obtain ⟨q0, q1, _, _⟩ := (HM.out.later hb HM.out.lt).c2
    exact ⟨p0, p1, q0, q1⟩
  have HCM := hid (told1_at _ HK.out w2 HB2.out (rcommon_any _ _ xs ys w2 (HS.out.1.later HB2.out) (HS.out.2.later HB2.out) (by omega) (by omega) HTT.out.1 HTT.out.2))
  obtain ⟨p0, p1, q0, q1⟩ := HK.out w2 HB2.out
  go_wp2_with fail
  refine Calls.mono HCM.out ?_
  rintro e w3 ⟨a3, z3, c3, rfl, HE3, _, hb3, HS3⟩
  have hb3d := hb3.drew
  have HO3 := hid (HE3.out.later (Below.drew (Below.refl _ w3)))
  clear HCM HE3 HS3 p0 p1 q0 q1
  have hs0 := HK.out _ hb3d
  have HQX := hid (fun ww (hv' : Below X.heap.size X ww) (h : One X ww (.slice a3 z3.length c3) z3 (gcdI (val xs) (val ys))) => quot_in _ HK.out hv' (HS.out.1.later hv') (by omega) HTT.out.1 h HG.out.1 (by have := HG.out; omega))
  have HQY := hid (fun ww (hv' : Below X.heap.size X ww) (h : One X ww (.slice a3 z3.length c3) z3 (gcdI (val xs) (val ys))) => quot_in _ HK.out hv' (HS.out.2.later hv') (by omega) HTT.out.2 h HG.out.1 (by have := HG.out; omega))
  have HTL := hid (fun (ww : World) (hb : Below X.heap.size X ww) (a4 : Option Addr) (z4 : List Int) (c4 : Nat) (a5 : Option Addr) (z5 : List Int) (c5 : Nat) (g1 : One X ww (.slice a4 z4.length c4) z4 (val xs / gcdI (val xs) (val ys))) (g2 : One X ww (.slice a5 z5.length c5) z5 (val ys / gcdI (val xs) (val ys))) (hc : Cut X (.slice a4 z4.length c4) (.slice a5 z5.length c5) ww) => rtold_cut (n := s) (q := Rat.divInt (wval n xs) (wval m ys)) _ HK.out hb g1 g2 hc HMP.out.1 HMP.out.2.1 (by rw [← HSG.out]; exact HMP.out.2.2))
  have hq0 : w.heap.size + 1 + 1 ≠ w.heap.size := by omega
  have hq1 : w.heap.size + 1 + 1 ≠ w.heap.size + 1 := by omega
  clear HTT HG HPY
  go_wp2_with fail
  go_region_held3 (fun V : World => V.cell? ⟨w.heap.size, 0, none⟩ = some (.bool n) ∧ V.cell? ⟨w.heap.size, 1, none⟩ = some (.slice a xs.length ca) ∧ V.cell? ⟨w.heap.size + 1, 0, none⟩ = some (.bool m) ∧ V.cell? ⟨w.heap.size + 1, 1, none⟩ = some (.slice b ys.length cb)) (first | exact hs9 | exact hs5 | exact hs4 | exact hs0 | (simp [hs9, World.cell?_setCell_far, hq0]))
    (first
      | (go_at_call 25; with_reducible refine Calls.mono (HTL.out _ hb5 _ _ _ _ _ _ (HE4.out.1.later HS5.out) HE5.out.1 (cut_two hb3d.size HS4.out.size HS5.out.size HE4.out.2 HE5.out.2)) ?_; rintro e w9 ⟨k9, a8, z8, c8, a9, z9, c9, code, rfl, HE9, hs9, hb9⟩; obtain ⟨y0, y1, y2, f0, f1, f2⟩ := res_box3 HZ.out hb9)
      | (go_at_call 34; with_reducible refine Calls.mono (HQY.out _ hb4 (HO3.out.later HS4.out)) ?_; rintro e w5 ⟨a5, z5, c5, rfl, HE5, hs5, hb5, HS5⟩)
      | (go_at_call 34; with_reducible refine Calls.mono (HQX.out _ hb3d HO3.out) ?_; rintro e w4 ⟨a4, z4, c4, rfl, HE4, hs4, hb4, HS4⟩))
  all_goals
    have HBW := hid (bt HB.out hb9)
    have HR := hid HE9.out
    clear HK HQX HQY HTL HE4 HE5 HE9 HS4 HS5 HO3 hs0 hs4 hs5 hs9 hb3 hb3d hb4 hb5 hb9 HMP HSG
    go_wp2_with fail
    refine bodyPost_ret (v := .tuple #[.agg #[.bool k9, .slice a8 z8.length c8, .slice a9 z9.length c9], .int .i64 code]) (by simp [results, Tryz.results17, go_sem, y0, y1, y2]) rfl ?_
    exact RToldA.put HR.out (w.heap.size + 1 + 1) HXS.out (by omega) HBW.out _ _ _

theorem rmake_any (n : Bool) (a : Option Addr) (ca : Nat) (xs : List Int) (m : Bool) (b : Option Addr) (cb : Nat) (ys : List Int) (w : World) (h : Sl w (.slice a xs.length ca) xs) (g : Sl w (.slice b ys.length cb) ys) (lx : xs.length ≤ 281474976710656) (ly : ys.length ≤ 281474976710656) :
    Calls Tryz.prog 17 #[.agg #[.bool n, .slice a xs.length ca], .agg #[.bool m, .slice b ys.length cb]] w (RToldA w (mkErr n xs m ys) (Rat.divInt (wval n xs) (wval m ys))) := by
  unfold mkErr
  by_cases hb : wboth n xs m ys = 0
  · obtain ⟨hx, hy⟩ := wboth_ok hb
    rw [if_pos hb]
    by_cases h0 : ys.length = 0
    · rw [if_pos h0]
      exact rmake_z n a ca xs m b cb ys w h g lx ly hx hy h0 _
    · rw [if_neg h0]
      exact rmake_ok n a ca xs m b cb ys w h g lx ly hx hy (by omega)
  · rw [if_neg hb]
    unfold wboth at hb ⊢
    by_cases hx : wchk n xs = 0
    · rw [if_pos hx] at hb ⊢
      exact rmake_e2 n a ca xs m b cb ys w h g lx ly hx hb _
    · rw [if_neg hx]
      exact rmake_e1 n a ca xs m b cb ys w h g lx ly hx _
end Go.Proofs.YtoaabbcikmlbiaaGreatDoor

/- Fractions: ratio.Small. -/
namespace Go.Proofs.YtoaabbcikmlbiaaGreatDoor
open Go.RowKit
set_option linter.unusedVariables false

theorem small_err {n m : Bool} {zs us : List Int} {y : Int} (l1 : zs.length ≤ 2) (t1 : Trimmed zs) (s1 : n = false ∨ 0 < zs.length) (w2 : Wd us) (l2 : us.length ≤ 2) (t2 : Trimmed us) (s2 : m = false ∨ 0 < us.length) (v2 : wval m us = y) : mkErr n zs m us = if y = 0 then 7 else 0 := by
  unfold mkErr
  rw [wboth_good (wchk_good (by omega) t1 s1) (wchk_good (by omega) t2 s2), if_pos rfl]
  by_cases c : us.length = 0
  · have e0 : val us = 0 := trimmed_zero' c
    have : y = 0 := by rw [← v2]; cases m <;> simp [wval, e0]
    rw [if_pos c, if_pos this]
  · have e0 := val_pos' w2 t2 (by omega)
    have : ¬ y = 0 := by rw [← v2]; cases m <;> simp [wval] <;> omega
    rw [if_neg c, if_neg this]

set_option maxHeartbeats 1600000 in
set_option maxRecDepth 100000 in
theorem rsmall_any (x y : Int) (w : World) (x0 : -9223372036854775808 ≤ x) (x1 : x ≤ 9223372036854775807) (y0 : -9223372036854775808 ≤ y) (y1 : y ≤ 9223372036854775807) :
    Calls Tryz.prog 19 #[.int .i64 x, .int .i64 y] w (RToldA w (if y = 0 then 7 else 0) (Rat.divInt x y)) := by
  have HB : Hid (Below w.heap.size w (w.alloc (.cells #[.bool false, .slice none 0 0, .slice none 0 0] 24))) := alloc_later _ _
  have HZ : Hid (Box (w.alloc (.cells #[.bool false, .slice none 0 0, .slice none 0 0] 24)) w.heap.size 24 #[.bool false, .slice none 0 0, .slice none 0 0]) := Box.made w _ _
  have HO1 := hid (wof_any x (w.alloc (.cells #[.bool false, .slice none 0 0, .slice none 0 0] 24)) x0 x1)
  obtain ⟨E, hE⟩ : ∃ E : Int, (if y = 0 then (7 : Int) else 0) = E := ⟨_, rfl⟩
  rw [hE]
  have HE := hid hE
  clear hE
  go_enter Tryz.func19, Tryz.ntmps19
  go_wp2_with fail
  refine Calls.mono HO1.out ?_
  generalize (w.alloc (.cells #[.bool false, .slice none 0 0, .slice none 0 0] 24)) = X at *
  rintro e w1 ⟨n1, v1, z1, rfl, o1, wd1, t1, l1, s1, hv1, hb1⟩
  obtain ⟨a1, c1, hs1⟩ := own_slice' o1
  subst hs1
  have HO2 := hid (wof_any y w1 y0 y1)
  have HS1 := hid (Sl.own o1 wd1)
  have HV1 := hid (And.intro t1 (And.intro s1 hv1))
  have HB1 := hid hb1
  clear o1 wd1 t1 s1 hv1 hb1 HO1
  go_wp2_with fail
  refine Calls.mono HO2.out ?_
  rintro e w2 ⟨n2, v2, z2, rfl, o2, wd2, t2, l2, s2, hv2, hb2⟩
  obtain ⟨a2, c2, hs2⟩ := own_slice' o2
  subst hs2
  have HM := hid (rmake_any n1 a1 c1 z1 n2 a2 c2 z2 w2 (HS1.out.later hb2) (Sl.own o2 wd2) (by omega) (by omega))
  rw [small_err l1 HV1.out.1 HV1.out.2.1 wd2 l2 t2 s2 hv2, HE.out, HV1.out.2.2, hv2] at HM
  have HB2 := hid (bt HB1.out hb2)
  clear o2 wd2 t2 s2 hv2 hb2 HO2 HS1 HV1
  go_wp2_with fail
  refine Calls.mono HM.out ?_
  rintro e w3 ⟨k3, v3, z3, u3, r3, code, rfl, o3, o4, t3, hb3, hc3⟩
  obtain ⟨a3, c3, hs3⟩ := own_slice' o3
  subst hs3
  obtain ⟨a4, c4, hs4⟩ := own_slice' o4
  subst hs4
  have HR := hid (And.intro o3 (And.intro o4 (And.intro t3 hc3)))
  obtain ⟨y0', y1', y2', f0, f1, f2⟩ := res_box3 HZ.out (bt HB2.out hb3)
  have HBW := hid (bt HB.out (bt HB2.out hb3))
  have HLT : Hid (w.heap.size < w2.heap.size) := Nat.lt_of_lt_of_le HZ.out.lt HB2.out.size
  clear o3 o4 t3 hb3 hc3 HM
  go_wp2_with fail
  refine bodyPost_ret (v := .tuple #[.agg #[.bool k3, .slice a3 z3.length c3, .slice a4 r3.length c4], .int .i64 code]) (by simp [results, Tryz.results19, go_sem, y0', y1', y2']) rfl ?_
  exact RToldA.put HR.out w.heap.size HLT.out (Nat.le_refl _) HBW.out _ _ _
end Go.Proofs.YtoaabbcikmlbiaaGreatDoor

/- The laws of fractions: small, is, and awake (the document's examples), whatever the world, where the table of powers of ten stands. -/
namespace Go.Proofs.YtoaabbcikmlbiaaGreatDoor
open Go.RowKit Go.Lib
set_option linter.unusedVariables false

/-- A fraction told alone. -/
def RVal (w : World) (e : Int) (q : Rat) (x : Ending) (w' : World) : Prop :=
  ∃ n v xs u ys code, x = .returned (.agg #[.bool n, v, u]) ∧ w'.ownsRow w.heap.size 44 1 v xs.length (xs.map (Value.int .u32)) ∧ w'.ownsRow w.heap.size 44 1 u ys.length (ys.map (Value.int .u32)) ∧ RTells e q n xs ys code ∧ Below w.heap.size w w' ∧ Cut w v u w'
theorem RVal.put {w U w3 : World} {e : Int} {q : Rat} {k : Bool} {v u : Value} {zs ds : List Int} {code : Int} (h : w3.ownsRow U.heap.size 44 1 v zs.length (zs.map (Value.int .u32)) ∧ w3.ownsRow U.heap.size 44 1 u ds.length (ds.map (Value.int .u32)) ∧ RTells e q k zs ds code ∧ Cut U v u w3) (b : Nat) (hb : b < U.heap.size) (hw : w.heap.size ≤ b) (hbw : Below w.heap.size w w3) (x y z : Value) :
    RVal w e q (.returned (.agg #[.bool k, v, u])) (((w3.setCell ⟨b, 0, none⟩ x).setCell ⟨b, 1, none⟩ y).setCell ⟨b, 2, none⟩ z) :=
  ⟨k, v, zs, u, ds, code, rfl, owns_base (own_put3 h.1 b (fun g hg => by have := (World.ownsRow.lt h.1 g hg).1; omega) _ _ _) (by omega), owns_base (own_put3 h.2.1 b (fun g hg => by have := (World.ownsRow.lt h.2.1 g hg).1; omega) _ _ _) (by omega), h.2.2.1, below_put3 hbw b hw _ _ _, h.2.2.2.up (by omega) (by simp)⟩
set_option maxHeartbeats 1600000 in
set_option maxRecDepth 100000 in
theorem lawSmall_any (x y : Int) (w : World) (x0 : -9223372036854775808 ≤ x) (x1 : x ≤ 9223372036854775807) (y0 : -9223372036854775808 ≤ y) (y1 : y ≤ 9223372036854775807) :
    Calls Tryz.prog 18 #[.int .i64 x, .int .i64 y] w (RVal w (if y = 0 then 7 else 0) (Rat.divInt x y)) := by
  have HB := hid (alloc_later w (.cells #[.bool false, .slice none 0 0, .slice none 0 0] 24))
  have HZ := hid (Box.made w 24 #[.bool false, .slice none 0 0, .slice none 0 0])
  have HLT : Hid (w.heap.size < (w.alloc (.cells #[.bool false, .slice none 0 0, .slice none 0 0] 24)).heap.size) := by show _ < _; simp
  have HR := hid (rsmall_any x y (w.alloc (.cells #[.bool false, .slice none 0 0, .slice none 0 0] 24)) x0 x1 y0 y1)
  clear x0 x1 y0 y1
  generalize (if y = 0 then (7 : Int) else 0) = ee at *
  generalize Rat.divInt x y = q at *
  go_enter Tryz.func18, Tryz.ntmps18
  go_wp2_with fail
  refine Calls.mono HR.out ?_
  generalize (w.alloc (.cells #[.bool false, .slice none 0 0, .slice none 0 0] 24)) = X at *
  rintro e w1 ⟨n, v, xs, u, ys, code, rfl, o1, o2, t, hb1, hcut⟩
  obtain ⟨a1, c1, hv⟩ := own_slice' o1
  subst hv
  obtain ⟨a2, c2, hv⟩ := own_slice' o2
  subst hv
  have hb4 := bt hb1 (alloc_later w1 (.cells #[.bool n, .slice a1 xs.length c1, .slice a2 ys.length c2] 24))
  obtain ⟨r0, r1, r2, f0, f1, f2⟩ := res_box3 HZ.out hb4
  have HE := hid (And.intro (owns_later o1 (alloc_later w1 (.cells #[.bool n, .slice a1 xs.length c1, .slice a2 ys.length c2] 24))) (And.intro (owns_later o2 (alloc_later w1 (.cells #[.bool n, .slice a1 xs.length c1, .slice a2 ys.length c2] 24))) (And.intro t (hcut.up (Nat.le_refl _) (alloc_later w1 (.cells #[.bool n, .slice a1 xs.length c1, .slice a2 ys.length c2] 24)).size))))
  have HW := hid (bt HB.out hb4)
  have hne : w1.heap.size ≠ w.heap.size := by have := hb1.size; have := HLT.out; omega
  clear o1 o2 t hcut hb1 hb4 HR
  go_wp2_with fail
  refine bodyPost_ret (v := .agg #[.bool n, .slice a1 xs.length c1, .slice a2 ys.length c2]) (by simp [results, Tryz.results18, go_sem, r0, r1, r2]) rfl ?_
  exact RVal.put HE.out w.heap.size HLT.out (Nat.le_refl _) HW.out _ _ _
set_option maxHeartbeats 1600000 in
set_option maxRecDepth 100000 in
theorem lawIs_yes (n : Bool) (a : Option Addr) (ca : Nat) (xs : List Int) (b : Option Addr) (cb : Nat) (ys : List Int) (t : ByteArray) (w : World) (sx : Sl w (.slice a xs.length ca) xs) (sy : Sl w (.slice b ys.length cb) ys) (hx : rchk n xs ys = 0) (ht : t.data.toList = rtext n xs ys) (htab : Tab w) :
    Calls Tryz.prog 21 #[.agg #[.bool n, .slice a xs.length ca, .slice b ys.length cb], .int .i64 0, .string t] w fun e w' => e = .returned (.bool true) ∧ Below w.heap.size w w' := by
  have HB := hid (alloc_later w (.cells #[.bool n, .slice a xs.length ca, .slice b ys.length cb] 24))
  have HP := hid (rPrint_ok n a ca xs b cb ys (w.alloc (.cells #[.bool n, .slice a xs.length ca, .slice b ys.length cb] 24)) (sx.later HB.out) (sy.later HB.out) hx (htab.later HB.out))
  have HT := hid ht
  have hq : (t.toList == t.toList) = true := by simp
  clear sx sy hx ht htab
  go_enter Tryz.func21, Tryz.ntmps21
  go_wp2_with fail
  refine Calls.mono HP.out ?_
  rintro e w1 ⟨T, rfl, hT, hb1⟩
  obtain rfl : T = t := ByteArray.ext (Array.toList_inj.1 (hT.trans HT.out.symm))
  have HW := hid (bt HB.out hb1)
  clear hb1 HP hT HT
  go_wp2_with fail
  go_ret
  exact ⟨rfl, HW.out⟩
/-- What a call tells is the fraction that is known. -/
theorem RTells.lit {e : Int} {q : Rat} {n m : Bool} {xs ys us vs : List Int} {c : Int} (h : RTells e q n xs ys c) (he : e = 0) (wu : Wd us) (wv : Wd vs) (hk : rchk m us vs = 0) (hq : rq m us vs = q) : n = m ∧ xs = us ∧ ys = vs ∧ c = 0 := by
  subst he
  have g := RTells.self wu wv hk
  rw [hq] at g
  exact h.same g
theorem lit_wd {x : Int} (h0 : 0 ≤ x) (h1 : x < 4294967296) : Wd [x] := Wd.one ⟨h0, by omega⟩
theorem trim_one {x : Int} (h : x ≠ 0) : Trimmed [x] := by
  unfold Trimmed
  show szTo [x] 1 = 1
  simp [szTo, h]
theorem chk_lit (n : Bool) (x y : Int) (hx : 0 < x ∧ x < 4294967296) (hy : 0 < y ∧ y < 4294967296) (hg : gcdI x y = 1) : rchk n [x] [y] = 0 := by
  have e1 : val [x] = x := by simp [val, valTo]
  have e2 : val [y] = y := by simp [val, valTo]
  exact rchk_good (by simp) (by simp) (trim_one (by omega)) (trim_one (by omega)) (by simp) (.inr (by simp)) (by rw [e1, e2]; exact hg)
theorem wdn (x : Int) (h : 0 ≤ x ∧ x ≤ 4294967295) : Wd [x] := Wd.one h
theorem k32 : rchk true [3] [2] = 0 := chk_lit _ _ _ (by decide) (by decide) (by decide)
theorem k12 : rchk false [1] [2] = 0 := chk_lit _ _ _ (by decide) (by decide) (by decide)
theorem k13 : rchk false [1] [3] = 0 := chk_lit _ _ _ (by decide) (by decide) (by decide)
theorem k14 : rchk true [1] [4] = 0 := chk_lit _ _ _ (by decide) (by decide) (by decide)
theorem k56 : rchk false [5] [6] = 0 := chk_lit _ _ _ (by decide) (by decide) (by decide)
theorem k21 : rchk true [2] [1] = 0 := chk_lit _ _ _ (by decide) (by decide) (by decide)
theorem rq_lit (n : Bool) (x y : Int) : rq n [x] [y] = Rat.divInt (sg n x) y := by
  have e1 : val [x] = x := by simp [val, valTo]
  have e2 : val [y] = y := by simp [val, valTo]
  show Rat.divInt (sg n (val [x])) (val [y]) = _
  rw [e1, e2]
theorem q32 : rq true [3] [2] = Rat.divInt 6 (-4) := by rw [rq_lit]; decide +kernel
theorem q12 : rq false [1] [2] = Rat.divInt 1 2 := by rw [rq_lit]; decide +kernel
theorem q13 : rq false [1] [3] = Rat.divInt 1 3 := by rw [rq_lit]; decide +kernel
theorem q14 : rq true [1] [4] = Rat.divInt (-1) 4 := by rw [rq_lit]; decide +kernel
theorem q56 : rq false [5] [6] = rq false [1] [2] + rq false [1] [3] := by rw [rq_lit, rq_lit, rq_lit]; decide +kernel
theorem q21 : rq true [2] [1] = rq false [1] [2] / rq true [1] [4] := by rw [rq_lit, rq_lit, rq_lit]; decide +kernel
theorem t32 : ([45, 51, 47, 50] : List UInt8) = rtext true [3] [2] := by
  rw [rtext_eq, show val [3] = 3 by simp [val, valTo], show val [2] = 2 by simp [val, valTo], show (3 : Int).toNat = 3 from rfl, show (2 : Int).toNat = 2 from rfl, decDigits_one (by decide), decDigits_one (by decide)]
  decide
theorem t56 : ([53, 47, 54] : List UInt8) = rtext false [5] [6] := by
  rw [rtext_eq, show val [5] = 5 by simp [val, valTo], show val [6] = 6 by simp [val, valTo], show (5 : Int).toNat = 5 from rfl, show (6 : Int).toNat = 6 from rfl, decDigits_one (by decide), decDigits_one (by decide)]
  decide
theorem t21 : ([45, 50] : List UInt8) = rtext true [2] [1] := by
  rw [rtext_eq, show val [2] = 2 by simp [val, valTo], show (2 : Int).toNat = 2 from rfl, decDigits_one (by decide)]
  decide
theorem good32 : prErr ⟨#[45, 51, 47, 50]⟩ = 0 ∧ rpq (⟨#[45, 51, 47, 50]⟩ : ByteArray).data.toList = rq true [3] [2] := by
  have e : (⟨#[45, 51, 47, 50]⟩ : ByteArray).data.toList = rtext true [3] [2] := t32
  have w1 := wdn 3 (by decide)
  have w2 := wdn 2 (by decide)
  have hf : rform true [3] [2] := by
    have k := k32
    unfold rchk at k
    rw [if_neg (by decide)] at k
    by_cases c : rform true [3] [2]
    · exact c
    · rw [if_neg c] at k; exact absurd k (by decide)
  refine ⟨prErr_good (by decide) (by rw [e]; exact rgood_text w1 w2 hf), ?_⟩
  rw [e]
  exact rpq_text true w1 w2
theorem qErr_good {n m : Bool} {xs ys us vs : List Int} (h : rchk n xs ys = 0) (g : rchk m us vs = 0) (h0 : us ≠ []) : qErr n xs ys m us vs = 0 := by
  unfold qErr
  rw [if_pos (rboth_good h g), if_neg (fun e => h0 (List.length_eq_zero_iff.1 e))]

set_option maxHeartbeats 12800000 in
set_option maxRecDepth 100000 in
theorem rawake_any (w : World) (htab : Tab w) : Calls Tryz.prog 5 #[] w fun e w' => e = .returned (.bool true) ∧ Below w.heap.size w w' := by
  have H : Hid (St w w [] []) := ⟨(fun p hp => by cases hp), (fun p hp => by cases hp), Below.refl _ _⟩
  have HTAB := hid htab
  clear htab
  go_enter Tryz.func5, Tryz.ntmps5
  have HC := hid (rsmall_any 6 (-4) w (by decide) (by decide) (by decide) (by decide))
  go_wp2_with fail
  refine Calls.mono HC.out ?_
  rintro e w1 ⟨N1, U1, Z1, T1, D1, C1, rfl, o1, q1, t1, hb, hcut⟩
  clear HC
  obtain ⟨A1, K1, hs⟩ := own_slice' o1
  subst hs
  obtain ⟨B1, L1, hs⟩ := own_slice' q1
  subst hs
  have HT1 := hid t1
  have wz1 := t1.wx
  have wd1 := t1.wy
  obtain ⟨lz1, ld1⟩ := t1.len
  clear t1 hcut
  replace H := hid (H.out.later hb)
  clear hb
  replace H := hid (H.out.more o1)
  clear o1
  replace H := hid (H.out.more q1)
  clear q1
  have HL1 : Hid (N1 = true ∧ Z1 = [3] ∧ D1 = [2] ∧ C1 = 0) := HT1.out.lit (by decide) (wdn 3 (by decide)) (wdn 2 (by decide)) k32 (q32)
  clear HT1
  have hc1 : C1 = 0 := HL1.out.2.2.2
  subst hc1
  replace H := hid (H.out.put N1 (.slice A1 Z1.length K1) (.slice B1 D1.length L1))
  have HC := hid (lawSmall_any 1 2 (w1.alloc (.cells #[.bool N1, .slice A1 Z1.length K1, .slice B1 D1.length L1] 24)) (by decide) (by decide) (by decide) (by decide))
  go_wp2_with fail
  refine Calls.mono HC.out ?_
  generalize (w1.alloc (.cells #[.bool N1, .slice A1 Z1.length K1, .slice B1 D1.length L1] 24)) = V1 at *
  rintro e w2 ⟨N2, U2, Z2, T2, D2, C2, rfl, o2, q2, t2, hb, hcut⟩
  clear HC
  obtain ⟨A2, K2, hs⟩ := own_slice' o2
  subst hs
  obtain ⟨B2, L2, hs⟩ := own_slice' q2
  subst hs
  have HT2 := hid t2
  have wz2 := t2.wx
  have wd2 := t2.wy
  obtain ⟨lz2, ld2⟩ := t2.len
  clear t2 hcut
  replace H := hid (H.out.later hb)
  clear hb
  replace H := hid (H.out.more o2)
  clear o2
  replace H := hid (H.out.more q2)
  clear q2
  have HL2 : Hid (N2 = false ∧ Z2 = [1] ∧ D2 = [2] ∧ C2 = 0) := HT2.out.lit (by decide) (wdn 1 (by decide)) (wdn 2 (by decide)) k12 (q12)
  clear HT2
  have HC := hid (lawSmall_any 1 3 w2 (by decide) (by decide) (by decide) (by decide))
  go_wp2_with fail
  refine Calls.mono HC.out ?_
  rintro e w3 ⟨N3, U3, Z3, T3, D3, C3, rfl, o3, q3, t3, hb, hcut⟩
  clear HC
  obtain ⟨A3, K3, hs⟩ := own_slice' o3
  subst hs
  obtain ⟨B3, L3, hs⟩ := own_slice' q3
  subst hs
  have HT3 := hid t3
  have wz3 := t3.wx
  have wd3 := t3.wy
  obtain ⟨lz3, ld3⟩ := t3.len
  clear t3 hcut
  replace H := hid (H.out.later hb)
  clear hb
  replace H := hid (H.out.more o3)
  clear o3
  replace H := hid (H.out.more q3)
  clear q3
  have HL3 : Hid (N3 = false ∧ Z3 = [1] ∧ D3 = [3] ∧ C3 = 0) := HT3.out.lit (by decide) (wdn 1 (by decide)) (wdn 3 (by decide)) k13 (q13)
  clear HT3
  have HC := hid (rAdd_full N2 _ _ Z2 _ _ D2 N3 _ _ Z3 _ _ D3 _ (H.out.sl wz2 (.tail _ (.tail _ (.tail _ (.head _))))) (H.out.sl wd2 (.tail _ (.tail _ (.head _)))) (H.out.sl wz3 (.tail _ (.head _))) (H.out.sl wd3 (.head _)))
  go_wp2_with fail
  refine Calls.mono HC.out ?_
  rintro e w4 ⟨N4, U4, Z4, T4, D4, C4, rfl, o4, q4, t4, hb, hcut⟩
  clear HC
  obtain ⟨A4, K4, hs⟩ := own_slice' o4
  subst hs
  obtain ⟨B4, L4, hs⟩ := own_slice' q4
  subst hs
  have HT4 := hid t4
  have wz4 := t4.wx
  have wd4 := t4.wy
  obtain ⟨lz4, ld4⟩ := t4.len
  clear t4 hcut
  replace H := hid (H.out.later hb)
  clear hb
  replace H := hid (H.out.more o4)
  clear o4
  replace H := hid (H.out.more q4)
  clear q4
  have HL4 : Hid (N4 = false ∧ Z4 = [5] ∧ D4 = [6] ∧ C4 = 0) := HT4.out.lit (by rw [HL2.out.1, HL2.out.2.1, HL2.out.2.2.1, HL3.out.1, HL3.out.2.1, HL3.out.2.2.1]; exact rboth_good k12 k13) (wdn 5 (by decide)) (wdn 6 (by decide)) k56 (by rw [HL2.out.1, HL2.out.2.1, HL2.out.2.2.1, HL3.out.1, HL3.out.2.1, HL3.out.2.2.1]; exact q56)
  clear HT4
  have hc4 : C4 = 0 := HL4.out.2.2.2
  subst hc4
  replace H := hid (H.out.put N4 (.slice A4 Z4.length K4) (.slice B4 D4.length L4))
  have HC := hid (lawSmall_any 1 2 (w4.alloc (.cells #[.bool N4, .slice A4 Z4.length K4, .slice B4 D4.length L4] 24)) (by decide) (by decide) (by decide) (by decide))
  go_wp2_with fail
  refine Calls.mono HC.out ?_
  generalize (w4.alloc (.cells #[.bool N4, .slice A4 Z4.length K4, .slice B4 D4.length L4] 24)) = V4 at *
  rintro e w5 ⟨N5, U5, Z5, T5, D5, C5, rfl, o5, q5, t5, hb, hcut⟩
  clear HC
  obtain ⟨A5, K5, hs⟩ := own_slice' o5
  subst hs
  obtain ⟨B5, L5, hs⟩ := own_slice' q5
  subst hs
  have HT5 := hid t5
  have wz5 := t5.wx
  have wd5 := t5.wy
  obtain ⟨lz5, ld5⟩ := t5.len
  clear t5 hcut
  replace H := hid (H.out.later hb)
  clear hb
  replace H := hid (H.out.more o5)
  clear o5
  replace H := hid (H.out.more q5)
  clear q5
  have HL5 : Hid (N5 = false ∧ Z5 = [1] ∧ D5 = [2] ∧ C5 = 0) := HT5.out.lit (by decide) (wdn 1 (by decide)) (wdn 2 (by decide)) k12 (q12)
  clear HT5
  have HC := hid (lawSmall_any (-1) 4 w5 (by decide) (by decide) (by decide) (by decide))
  go_wp2_with fail
  refine Calls.mono HC.out ?_
  rintro e w6 ⟨N6, U6, Z6, T6, D6, C6, rfl, o6, q6, t6, hb, hcut⟩
  clear HC
  obtain ⟨A6, K6, hs⟩ := own_slice' o6
  subst hs
  obtain ⟨B6, L6, hs⟩ := own_slice' q6
  subst hs
  have HT6 := hid t6
  have wz6 := t6.wx
  have wd6 := t6.wy
  obtain ⟨lz6, ld6⟩ := t6.len
  clear t6 hcut
  replace H := hid (H.out.later hb)
  clear hb
  replace H := hid (H.out.more o6)
  clear o6
  replace H := hid (H.out.more q6)
  clear q6
  have HL6 : Hid (N6 = true ∧ Z6 = [1] ∧ D6 = [4] ∧ C6 = 0) := HT6.out.lit (by decide) (wdn 1 (by decide)) (wdn 4 (by decide)) k14 (q14)
  clear HT6
  have HC := hid (rQuo_full N5 _ _ Z5 _ _ D5 N6 _ _ Z6 _ _ D6 _ (H.out.sl wz5 (.tail _ (.tail _ (.tail _ (.head _))))) (H.out.sl wd5 (.tail _ (.tail _ (.head _)))) (H.out.sl wz6 (.tail _ (.head _))) (H.out.sl wd6 (.head _)))
  go_wp2_with fail
  refine Calls.mono HC.out ?_
  rintro e w7 ⟨N7, U7, Z7, T7, D7, C7, rfl, o7, q7, t7, hb, hcut⟩
  clear HC
  obtain ⟨A7, K7, hs⟩ := own_slice' o7
  subst hs
  obtain ⟨B7, L7, hs⟩ := own_slice' q7
  subst hs
  have HT7 := hid t7
  have wz7 := t7.wx
  have wd7 := t7.wy
  obtain ⟨lz7, ld7⟩ := t7.len
  clear t7 hcut
  replace H := hid (H.out.later hb)
  clear hb
  replace H := hid (H.out.more o7)
  clear o7
  replace H := hid (H.out.more q7)
  clear q7
  have HL7 : Hid (N7 = true ∧ Z7 = [2] ∧ D7 = [1] ∧ C7 = 0) := HT7.out.lit (by rw [HL5.out.1, HL5.out.2.1, HL5.out.2.2.1, HL6.out.1, HL6.out.2.1, HL6.out.2.2.1]; exact qErr_good k12 k14 (by decide)) (wdn 2 (by decide)) (wdn 1 (by decide)) k21 (by rw [HL5.out.1, HL5.out.2.1, HL5.out.2.2.1, HL6.out.1, HL6.out.2.1, HL6.out.2.2.1]; exact q21)
  clear HT7
  have hc7 : C7 = 0 := HL7.out.2.2.2
  subst hc7
  replace H := hid (H.out.put N7 (.slice A7 Z7.length K7) (.slice B7 D7.length L7))
  have HC := hid (rparse_any ⟨#[45, 51, 47, 50]⟩ (w7.alloc (.cells #[.bool N7, .slice A7 Z7.length K7, .slice B7 D7.length L7] 24)) (by decide))
  go_wp2_with fail
  refine Calls.mono HC.out ?_
  generalize (w7.alloc (.cells #[.bool N7, .slice A7 Z7.length K7, .slice B7 D7.length L7] 24)) = V7 at *
  rintro e w8 ⟨N8, U8, Z8, T8, D8, C8, rfl, o8, q8, t8, hb, hcut⟩
  clear HC
  obtain ⟨A8, K8, hs⟩ := own_slice' o8
  subst hs
  obtain ⟨B8, L8, hs⟩ := own_slice' q8
  subst hs
  have HT8 := hid t8
  have wz8 := t8.wx
  have wd8 := t8.wy
  obtain ⟨lz8, ld8⟩ := t8.len
  clear t8 hcut
  replace H := hid (H.out.later hb)
  clear hb
  replace H := hid (H.out.more o8)
  clear o8
  replace H := hid (H.out.more q8)
  clear q8
  have HL8 : Hid (N8 = true ∧ Z8 = [3] ∧ D8 = [2] ∧ C8 = 0) := HT8.out.lit (good32.1) (wdn 3 (by decide)) (wdn 2 (by decide)) k32 (good32.2.symm)
  clear HT8
  have hc8 : C8 = 0 := HL8.out.2.2.2
  subst hc8
  replace H := hid (H.out.put N8 (.slice A8 Z8.length K8) (.slice B8 D8.length L8))
  have HC := hid (lawIs_yes N1 _ _ Z1 _ _ D1 ⟨#[45, 51, 47, 50]⟩ _ (H.out.sl wz1 (.tail _ (.tail _ (.tail _ (.tail _ (.tail _ (.tail _ (.tail _ (.tail _ (.tail _ (.tail _ (.tail _ (.tail _ (.tail _ (.tail _ (.tail _ (.head _))))))))))))))))) (H.out.sl wd1 (.tail _ (.tail _ (.tail _ (.tail _ (.tail _ (.tail _ (.tail _ (.tail _ (.tail _ (.tail _ (.tail _ (.tail _ (.tail _ (.tail _ (.head _)))))))))))))))) (by rw [HL1.out.1, HL1.out.2.1, HL1.out.2.2.1]; exact k32) (by rw [HL1.out.1, HL1.out.2.1, HL1.out.2.2.1]; exact t32) (HTAB.out.later H.out.bel))
  obtain ⟨p00, p01, p02⟩ := H.out.get (.tail _ (.tail _ (.tail _ (.head _))))
  go_wp2_with fail
  refine Calls.mono HC.out ?_
  generalize (w8.alloc (.cells #[.bool N8, .slice A8 Z8.length K8, .slice B8 D8.length L8] 24)) = V8 at *
  rintro e w9 ⟨rfl, hb⟩
  clear p00 p01 p02
  clear HC
  replace H := hid (H.out.later hb)
  clear hb
  have HC := hid (lawIs_yes N4 _ _ Z4 _ _ D4 ⟨#[53, 47, 54]⟩ _ (H.out.sl wz4 (.tail _ (.tail _ (.tail _ (.tail _ (.tail _ (.tail _ (.tail _ (.tail _ (.tail _ (.head _))))))))))) (H.out.sl wd4 (.tail _ (.tail _ (.tail _ (.tail _ (.tail _ (.tail _ (.tail _ (.tail _ (.head _)))))))))) (by rw [HL4.out.1, HL4.out.2.1, HL4.out.2.2.1]; exact k56) (by rw [HL4.out.1, HL4.out.2.1, HL4.out.2.2.1]; exact t56) (HTAB.out.later H.out.bel))
  obtain ⟨p00, p01, p02⟩ := H.out.get (.tail _ (.tail _ (.head _)))
  go_wp2_with fail
  refine Calls.mono HC.out ?_
  rintro e w10 ⟨rfl, hb⟩
  clear p00 p01 p02
  clear HC
  replace H := hid (H.out.later hb)
  clear hb
  have HC := hid (lawIs_yes N7 _ _ Z7 _ _ D7 ⟨#[45, 50]⟩ _ (H.out.sl wz7 (.tail _ (.tail _ (.tail _ (.head _))))) (H.out.sl wd7 (.tail _ (.tail _ (.head _)))) (by rw [HL7.out.1, HL7.out.2.1, HL7.out.2.2.1]; exact k21) (by rw [HL7.out.1, HL7.out.2.1, HL7.out.2.2.1]; exact t21) (HTAB.out.later H.out.bel))
  obtain ⟨p00, p01, p02⟩ := H.out.get (.tail _ (.head _))
  go_wp2_with fail
  refine Calls.mono HC.out ?_
  rintro e w11 ⟨rfl, hb⟩
  clear p00 p01 p02
  clear HC
  replace H := hid (H.out.later hb)
  clear hb
  have HC := hid (lawIs_yes N8 _ _ Z8 _ _ D8 ⟨#[45, 51, 47, 50]⟩ _ (H.out.sl wz8 (.tail _ (.head _))) (H.out.sl wd8 (.head _)) (by rw [HL8.out.1, HL8.out.2.1, HL8.out.2.2.1]; exact k32) (by rw [HL8.out.1, HL8.out.2.1, HL8.out.2.2.1]; exact t32) (HTAB.out.later H.out.bel))
  obtain ⟨p00, p01, p02⟩ := H.out.get (.head _)
  go_wp2_with fail
  refine Calls.mono HC.out ?_
  rintro e w12 ⟨rfl, hb⟩
  clear p00 p01 p02
  clear HC
  replace H := hid (H.out.later hb)
  clear hb
  have hsame : decide (N1 = N8 ∧ Z1 = Z8 ∧ D1 = D8) = true := decide_eq_true ⟨by rw [HL1.out.1, HL8.out.1], by rw [HL1.out.2.1, HL8.out.2.1], by rw [HL1.out.2.2.1, HL8.out.2.2.1]⟩
  have HSM := rSame_any N1 _ _ Z1 _ _ D1 N8 _ _ Z8 _ _ D8 w12 (H.out.sl wz1 (.tail _ (.tail _ (.tail _ (.tail _ (.tail _ (.tail _ (.tail _ (.tail _ (.tail _ (.tail _ (.tail _ (.tail _ (.tail _ (.tail _ (.tail _ (.head _))))))))))))))))) (H.out.sl wd1 (.tail _ (.tail _ (.tail _ (.tail _ (.tail _ (.tail _ (.tail _ (.tail _ (.tail _ (.tail _ (.tail _ (.tail _ (.tail _ (.tail _ (.head _)))))))))))))))) (H.out.sl wz8 (.tail _ (.head _))) (H.out.sl wd8 (.head _)) (by omega) (by omega) (by omega) (by omega)
  rw [hsame] at HSM
  clear hsame
  have HC := hid (HSM)
  obtain ⟨p00, p01, p02⟩ := H.out.get (.tail _ (.tail _ (.tail _ (.head _))))
  obtain ⟨p10, p11, p12⟩ := H.out.get (.head _)
  go_wp2_with fail
  refine Calls.mono HC.out ?_
  rintro e w13 ⟨rfl, hb⟩
  clear p00 p01 p02 p10 p11 p12
  clear HC
  replace H := hid (H.out.later hb)
  clear hb
  go_wp2_with fail
  go_ret
  exact ⟨rfl, H.out.bel⟩
end Go.Proofs.YtoaabbcikmlbiaaGreatDoor

/- The law RatioField answers true, and writes nothing that was there: whatever three fractions come in. -/
namespace Go.Proofs.YtoaabbcikmlbiaaGreatDoor
open Go.RowKit Go.Lib
set_option linter.unusedVariables false

theorem RTells.zero {e : Int} {q : Rat} {n : Bool} {xs ys : List Int} {c : Int} (h : RTells e q n xs ys c) (hc : c = 0) : e = 0 ∧ rchk n xs ys = 0 ∧ rq n xs ys = q := by
  by_cases he : e = 0
  · by_cases hl : rlong q
    · have := (h.long he hl).2.2.2; omega
    · exact ⟨he, (h.good he hl).2⟩
  · have := (h.bad he).2.2.2; omega
theorem rq_inj {n m : Bool} {xs ys us vs : List Int} (wx : Wd xs) (wy : Wd ys) (wu : Wd us) (wv : Wd vs) (h : rchk n xs ys = 0) (g : rchk m us vs = 0) (e : rq n xs ys = rq m us vs) : n = m ∧ xs = us ∧ ys = vs := by
  have a := RTells.self wx wy h
  rw [e] at a
  obtain ⟨b1, b2, b3, _⟩ := a.same (RTells.self wu wv g)
  exact ⟨b1, b2, b3⟩
theorem orz {b : Bool} {c : Int} (h : (b || decide (c ≠ 0)) = false) : b = false ∧ c = 0 := by
  cases b
  · exact ⟨rfl, by simpa using h⟩
  · simp at h
theorem rat_back (a b : Rat) : a + b + -b = a := by rw [Rat.add_assoc, Rat.add_neg_cancel, Rat.add_zero]
theorem rat_less (a b : Rat) : a + b - b = a := by rw [Rat.sub_eq_add_neg]; exact rat_back a b
theorem rat_quo (a b : Rat) (h : b ≠ 0) : a * b / b = a := by rw [Rat.div_def, Rat.mul_assoc, Rat.mul_inv_cancel _ h, Rat.mul_one]
theorem rq_zero {n : Bool} {xs ys : List Int} (wx : Wd xs) (wy : Wd ys) (h : rchk n xs ys = 0) (h0 : xs ≠ []) : rq n xs ys ≠ 0 := by
  obtain ⟨lx, ly, tx, ty, y0, s0, g⟩ := rchk_ok h
  intro e
  have k : rchk false [] [1] = 0 := rchk_good (by simp) (by simp) rfl rfl (by simp) (.inl rfl) (by decide)
  have e0 : rq false [] [1] = 0 := by unfold rq; rfl
  obtain ⟨_, e1, _⟩ := rq_inj wx wy Wd.nil (wdn 1 (by decide)) h k (by rw [e, e0])
  exact h0 e1

set_option maxHeartbeats 25600000 in
set_option maxRecDepth 100000 in
theorem ratioField_walk (n0 : Bool) (a0 : Option Addr) (ca0 : Nat) (xs0 : List Int) (b0 : Option Addr) (cb0 : Nat) (ys0 : List Int) (n1 : Bool) (a1 : Option Addr) (ca1 : Nat) (xs1 : List Int) (b1 : Option Addr) (cb1 : Nat) (ys1 : List Int) (n2 : Bool) (a2 : Option Addr) (ca2 : Nat) (xs2 : List Int) (b2 : Option Addr) (cb2 : Nat) (ys2 : List Int) (w : World) (s0 : Sl w (.slice a0 xs0.length ca0) xs0) (t0 : Sl w (.slice b0 ys0.length cb0) ys0) (s1 : Sl w (.slice a1 xs1.length ca1) xs1) (t1 : Sl w (.slice b1 ys1.length cb1) ys1) (s2 : Sl w (.slice a2 xs2.length ca2) xs2) (t2 : Sl w (.slice b2 ys2.length cb2) ys2) (htab : Tab w) :
    Calls Tryz.prog 3 #[.agg #[.bool n0, .slice a0 xs0.length ca0, .slice b0 ys0.length cb0], .agg #[.bool n1, .slice a1 xs1.length ca1, .slice b1 ys1.length cb1], .agg #[.bool n2, .slice a2 xs2.length ca2, .slice b2 ys2.length cb2]] w fun e w' => e = .returned (.bool true) ∧ Below w.heap.size w w' := by
  have wx0 := s0.wd
  have wy0 := t0.wd
  have S0 := hid (And.intro s0 t0)
  clear s0 t0
  have wx1 := s1.wd
  have wy1 := t1.wd
  have S1 := hid (And.intro s1 t1)
  clear s1 t1
  have wx2 := s2.wd
  have wy2 := t2.wd
  have S2 := hid (And.intro s2 t2)
  clear s2 t2
  have H0 : St w w [] [] := ⟨(fun p hp => by cases hp), (fun p hp => by cases hp), Below.refl _ _⟩
  have H := ((H0.put n0 (.slice a0 xs0.length ca0) (.slice b0 ys0.length cb0)).put n1 (.slice a1 xs1.length ca1) (.slice b1 ys1.length cb1)).put n2 (.slice a2 xs2.length ca2) (.slice b2 ys2.length cb2)
  rw [show ((w.alloc (.cells #[.bool n0, .slice a0 xs0.length ca0, .slice b0 ys0.length cb0] 24)).alloc (.cells #[.bool n1, .slice a1 xs1.length ca1, .slice b1 ys1.length cb1] 24)).heap.size = w.heap.size + 1 + 1 by simp, show (w.alloc (.cells #[.bool n0, .slice a0 xs0.length ca0, .slice b0 ys0.length cb0] 24)).heap.size = w.heap.size + 1 by simp] at H
  replace H := hid H
  have HTAB := hid htab
  clear htab H0
  go_enter Tryz.func3, Tryz.ntmps3
  have HC := hid (rawake_any (((w.alloc (.cells #[.bool n0, .slice a0 xs0.length ca0, .slice b0 ys0.length cb0] 24)).alloc (.cells #[.bool n1, .slice a1 xs1.length ca1, .slice b1 ys1.length cb1] 24)).alloc (.cells #[.bool n2, .slice a2 xs2.length ca2, .slice b2 ys2.length cb2] 24)) (HTAB.out.later H.out.bel))
  go_wp2_with fail
  refine Calls.mono HC.out ?_
  generalize (((w.alloc (.cells #[.bool n0, .slice a0 xs0.length ca0, .slice b0 ys0.length cb0] 24)).alloc (.cells #[.bool n1, .slice a1 xs1.length ca1, .slice b1 ys1.length cb1] 24)).alloc (.cells #[.bool n2, .slice a2 xs2.length ca2, .slice b2 ys2.length cb2] 24)) = X at *
  rintro e w1 ⟨rfl, hb⟩
  clear HC
  replace H := hid (H.out.later hb)
  clear hb
  have hpx := H.out.bel.size
  have HF := hid (Box.made w1 27 #[.bool false])
  replace H := hid (H.out.later (alloc_later w1 (.cells #[.bool false] 27)))
  have HC := hid (rAdd_full n0 _ _ xs0 _ _ ys0 n1 _ _ xs1 _ _ ys1 (w1.alloc (.cells #[.bool false] 27)) (S0.out.1.later H.out.bel) (S0.out.2.later H.out.bel) (S1.out.1.later H.out.bel) (S1.out.2.later H.out.bel))
  obtain ⟨p00, p01, p02⟩ := H.out.get (.tail _ (.tail _ (.head _)))
  obtain ⟨p10, p11, p12⟩ := H.out.get (.tail _ (.head _))
  go_wp2_with fail
  refine Calls.mono HC.out ?_
  generalize (w1.alloc (.cells #[.bool false] 27)) = V0 at *
  rintro e w2 ⟨N1, U1, Z1, T1, D1, C1, rfl, o1, q1, t1, hb, hcut⟩
  clear p00 p01 p02 p10 p11 p12
  clear HC
  obtain ⟨A1, K1, hs⟩ := own_slice' o1
  subst hs
  obtain ⟨B1, L1, hs⟩ := own_slice' q1
  subst hs
  have HT1 := hid t1
  have wz1 := t1.wx
  have wd1 := t1.wy
  obtain ⟨lz1, ld1⟩ := t1.len
  clear t1 hcut
  replace H := hid (H.out.later hb)
  replace HF := hid (HF.out.later hb HF.out.lt)
  clear hb
  replace H := hid (H.out.more o1)
  clear o1
  replace H := hid (H.out.more q1)
  clear q1
  replace H := hid (H.out.put N1 (.slice A1 Z1.length K1) (.slice B1 D1.length L1))
  replace HF := hid (HF.out.later (alloc_later w2 (.cells #[.bool N1, .slice A1 Z1.length K1, .slice B1 D1.length L1] 24)) HF.out.lt)
  obtain ⟨g1, hg⟩ : ∃ g, (false || decide (C1 ≠ 0)) = g := ⟨_, rfl⟩
  have HTK := take_any false N1 A1 Z1.length K1 B1 D1.length L1 C1 (w2.alloc (.cells #[.bool N1, .slice A1 Z1.length K1, .slice B1 D1.length L1] 24))
  rw [hg] at HTK
  have HG1 := hid hg
  clear hg
  have pf : (w2.alloc (.cells #[.bool N1, .slice A1 Z1.length K1, .slice B1 D1.length L1] 24)).cell? ⟨w1.heap.size, 0, none⟩ = some (.bool false) := HF.out.cell 0
  have HC := hid (HTK)
  obtain ⟨p00, p01, p02⟩ := H.out.get (.head _)
  go_wp2_with fail
  refine Calls.mono HC.out ?_
  generalize (w2.alloc (.cells #[.bool N1, .slice A1 Z1.length K1, .slice B1 D1.length L1] 24)) = V2 at *
  rintro e w3 ⟨rfl, hb⟩
  clear p00 p01 p02
  clear HC
  clear pf HTK
  replace H := hid (H.out.later hb)
  replace HF := hid (HF.out.later hb HF.out.lt)
  clear hb
  obtain ⟨e0, e1, e2⟩ := H.out.same (.head _)
  obtain ⟨f0, f1, f2⟩ := H.out.free (.head _)
  have fx : w3.frozen? ⟨w1.heap.size, 0, none⟩ = false := HF.out.free 0
  have cx : w3.cell? ⟨w1.heap.size, 0, none⟩ = some (.bool false) := HF.out.cell 0
  obtain ⟨cy0, cy1, cy2⟩ := H.out.get (.head _)
  have HFN : Hid (Box (w3.setCell ⟨w1.heap.size, 0, none⟩ (.bool g1)) w1.heap.size 27 #[.bool g1]) := HF.out.set 0 _
  replace H := hid (H.out.flag HF.out hpx (by decide) (by decide) 0 (.bool g1))
  obtain ⟨v4, ex⟩ : ∃ V, w3.setCell ⟨w1.heap.size, 0, none⟩ (.bool g1) = V := ⟨_, rfl⟩
  rw [ex] at H HFN
  replace HF := hid HFN.out
  clear HFN
  have HC := hid (rAdd_full n1 _ _ xs1 _ _ ys1 n0 _ _ xs0 _ _ ys0 v4 (S1.out.1.later H.out.bel) (S1.out.2.later H.out.bel) (S0.out.1.later H.out.bel) (S0.out.2.later H.out.bel))
  obtain ⟨p00, p01, p02⟩ := H.out.get (.tail _ (.tail _ (.head _)))
  obtain ⟨p10, p11, p12⟩ := H.out.get (.tail _ (.tail _ (.tail _ (.head _))))
  go_wp2_with fail
  refine Calls.mono HC.out ?_
  rintro e w5 ⟨N2, U2, Z2, T2, D2, C2, rfl, o2, q2, t2, hb, hcut⟩
  clear p00 p01 p02 p10 p11 p12
  clear HC e0 e1 e2 f0 f1 f2 fx cx cy0 cy1 cy2 ex
  obtain ⟨A2, K2, hs⟩ := own_slice' o2
  subst hs
  obtain ⟨B2, L2, hs⟩ := own_slice' q2
  subst hs
  have HT2 := hid t2
  have wz2 := t2.wx
  have wd2 := t2.wy
  obtain ⟨lz2, ld2⟩ := t2.len
  clear t2 hcut
  replace H := hid (H.out.later hb)
  replace HF := hid (HF.out.later hb HF.out.lt)
  clear hb
  replace H := hid (H.out.more o2)
  clear o2
  replace H := hid (H.out.more q2)
  clear q2
  replace H := hid (H.out.put N2 (.slice A2 Z2.length K2) (.slice B2 D2.length L2))
  replace HF := hid (HF.out.later (alloc_later w5 (.cells #[.bool N2, .slice A2 Z2.length K2, .slice B2 D2.length L2] 24)) HF.out.lt)
  obtain ⟨g2, hg⟩ : ∃ g, (g1 || decide (C2 ≠ 0)) = g := ⟨_, rfl⟩
  have HTK := take_any g1 N2 A2 Z2.length K2 B2 D2.length L2 C2 (w5.alloc (.cells #[.bool N2, .slice A2 Z2.length K2, .slice B2 D2.length L2] 24))
  rw [hg] at HTK
  have HG2 := hid hg
  clear hg
  have pf : (w5.alloc (.cells #[.bool N2, .slice A2 Z2.length K2, .slice B2 D2.length L2] 24)).cell? ⟨w1.heap.size, 0, none⟩ = some (.bool g1) := HF.out.cell 0
  have HC := hid (HTK)
  obtain ⟨p00, p01, p02⟩ := H.out.get (.head _)
  go_wp2_with fail
  refine Calls.mono HC.out ?_
  generalize (w5.alloc (.cells #[.bool N2, .slice A2 Z2.length K2, .slice B2 D2.length L2] 24)) = V5 at *
  rintro e w6 ⟨rfl, hb⟩
  clear p00 p01 p02
  clear HC
  clear pf HTK
  replace H := hid (H.out.later hb)
  replace HF := hid (HF.out.later hb HF.out.lt)
  clear hb
  obtain ⟨e0, e1, e2⟩ := H.out.same (.head _)
  obtain ⟨f0, f1, f2⟩ := H.out.free (.head _)
  have fx : w6.frozen? ⟨w1.heap.size, 0, none⟩ = false := HF.out.free 0
  have cx : w6.cell? ⟨w1.heap.size, 0, none⟩ = some (.bool g1) := HF.out.cell 0
  obtain ⟨cy0, cy1, cy2⟩ := H.out.get (.head _)
  have HFN : Hid (Box (w6.setCell ⟨w1.heap.size, 0, none⟩ (.bool g2)) w1.heap.size 27 #[.bool g2]) := HF.out.set 0 _
  replace H := hid (H.out.flag HF.out hpx (by decide) (by decide) 0 (.bool g2))
  obtain ⟨v7, ex⟩ : ∃ V, w6.setCell ⟨w1.heap.size, 0, none⟩ (.bool g2) = V := ⟨_, rfl⟩
  rw [ex] at H HFN
  replace HF := hid HFN.out
  clear HFN
  have HC := hid (rAdd_full N1 _ _ Z1 _ _ D1 n2 _ _ xs2 _ _ ys2 v7 (H.out.sl wz1 (.tail _ (.tail _ (.tail _ (.head _))))) (H.out.sl wd1 (.tail _ (.tail _ (.head _)))) (S2.out.1.later H.out.bel) (S2.out.2.later H.out.bel))
  obtain ⟨p00, p01, p02⟩ := H.out.get (.tail _ (.head _))
  obtain ⟨p10, p11, p12⟩ := H.out.get (.tail _ (.tail _ (.head _)))
  go_wp2_with fail
  refine Calls.mono HC.out ?_
  rintro e w8 ⟨N3, U3, Z3, T3, D3, C3, rfl, o3, q3, t3, hb, hcut⟩
  clear p00 p01 p02 p10 p11 p12
  clear HC e0 e1 e2 f0 f1 f2 fx cx cy0 cy1 cy2 ex
  obtain ⟨A3, K3, hs⟩ := own_slice' o3
  subst hs
  obtain ⟨B3, L3, hs⟩ := own_slice' q3
  subst hs
  have HT3 := hid t3
  have wz3 := t3.wx
  have wd3 := t3.wy
  obtain ⟨lz3, ld3⟩ := t3.len
  clear t3 hcut
  replace H := hid (H.out.later hb)
  replace HF := hid (HF.out.later hb HF.out.lt)
  clear hb
  replace H := hid (H.out.more o3)
  clear o3
  replace H := hid (H.out.more q3)
  clear q3
  replace H := hid (H.out.put N3 (.slice A3 Z3.length K3) (.slice B3 D3.length L3))
  replace HF := hid (HF.out.later (alloc_later w8 (.cells #[.bool N3, .slice A3 Z3.length K3, .slice B3 D3.length L3] 24)) HF.out.lt)
  obtain ⟨g3, hg⟩ : ∃ g, (g2 || decide (C3 ≠ 0)) = g := ⟨_, rfl⟩
  have HTK := take_any g2 N3 A3 Z3.length K3 B3 D3.length L3 C3 (w8.alloc (.cells #[.bool N3, .slice A3 Z3.length K3, .slice B3 D3.length L3] 24))
  rw [hg] at HTK
  have HG3 := hid hg
  clear hg
  have pf : (w8.alloc (.cells #[.bool N3, .slice A3 Z3.length K3, .slice B3 D3.length L3] 24)).cell? ⟨w1.heap.size, 0, none⟩ = some (.bool g2) := HF.out.cell 0
  have HC := hid (HTK)
  obtain ⟨p00, p01, p02⟩ := H.out.get (.head _)
  go_wp2_with fail
  refine Calls.mono HC.out ?_
  generalize (w8.alloc (.cells #[.bool N3, .slice A3 Z3.length K3, .slice B3 D3.length L3] 24)) = V8 at *
  rintro e w9 ⟨rfl, hb⟩
  clear p00 p01 p02
  clear HC
  clear pf HTK
  replace H := hid (H.out.later hb)
  replace HF := hid (HF.out.later hb HF.out.lt)
  clear hb
  obtain ⟨e0, e1, e2⟩ := H.out.same (.head _)
  obtain ⟨f0, f1, f2⟩ := H.out.free (.head _)
  have fx : w9.frozen? ⟨w1.heap.size, 0, none⟩ = false := HF.out.free 0
  have cx : w9.cell? ⟨w1.heap.size, 0, none⟩ = some (.bool g2) := HF.out.cell 0
  obtain ⟨cy0, cy1, cy2⟩ := H.out.get (.head _)
  have HFN : Hid (Box (w9.setCell ⟨w1.heap.size, 0, none⟩ (.bool g3)) w1.heap.size 27 #[.bool g3]) := HF.out.set 0 _
  replace H := hid (H.out.flag HF.out hpx (by decide) (by decide) 0 (.bool g3))
  obtain ⟨v10, ex⟩ : ∃ V, w9.setCell ⟨w1.heap.size, 0, none⟩ (.bool g3) = V := ⟨_, rfl⟩
  rw [ex] at H HFN
  replace HF := hid HFN.out
  clear HFN
  have HC := hid (rAdd_full n1 _ _ xs1 _ _ ys1 n2 _ _ xs2 _ _ ys2 v10 (S1.out.1.later H.out.bel) (S1.out.2.later H.out.bel) (S2.out.1.later H.out.bel) (S2.out.2.later H.out.bel))
  obtain ⟨p00, p01, p02⟩ := H.out.get (.tail _ (.tail _ (.tail _ (.tail _ (.head _)))))
  obtain ⟨p10, p11, p12⟩ := H.out.get (.tail _ (.tail _ (.tail _ (.head _))))
  go_wp2_with fail
  refine Calls.mono HC.out ?_
  rintro e w11 ⟨N4, U4, Z4, T4, D4, C4, rfl, o4, q4, t4, hb, hcut⟩
  clear p00 p01 p02 p10 p11 p12
  clear HC e0 e1 e2 f0 f1 f2 fx cx cy0 cy1 cy2 ex
  obtain ⟨A4, K4, hs⟩ := own_slice' o4
  subst hs
  obtain ⟨B4, L4, hs⟩ := own_slice' q4
  subst hs
  have HT4 := hid t4
  have wz4 := t4.wx
  have wd4 := t4.wy
  obtain ⟨lz4, ld4⟩ := t4.len
  clear t4 hcut
  replace H := hid (H.out.later hb)
  replace HF := hid (HF.out.later hb HF.out.lt)
  clear hb
  replace H := hid (H.out.more o4)
  clear o4
  replace H := hid (H.out.more q4)
  clear q4
  replace H := hid (H.out.put N4 (.slice A4 Z4.length K4) (.slice B4 D4.length L4))
  replace HF := hid (HF.out.later (alloc_later w11 (.cells #[.bool N4, .slice A4 Z4.length K4, .slice B4 D4.length L4] 24)) HF.out.lt)
  obtain ⟨g4, hg⟩ : ∃ g, (g3 || decide (C4 ≠ 0)) = g := ⟨_, rfl⟩
  have HTK := take_any g3 N4 A4 Z4.length K4 B4 D4.length L4 C4 (w11.alloc (.cells #[.bool N4, .slice A4 Z4.length K4, .slice B4 D4.length L4] 24))
  rw [hg] at HTK
  have HG4 := hid hg
  clear hg
  have pf : (w11.alloc (.cells #[.bool N4, .slice A4 Z4.length K4, .slice B4 D4.length L4] 24)).cell? ⟨w1.heap.size, 0, none⟩ = some (.bool g3) := HF.out.cell 0
  have HC := hid (HTK)
  obtain ⟨p00, p01, p02⟩ := H.out.get (.head _)
  go_wp2_with fail
  refine Calls.mono HC.out ?_
  generalize (w11.alloc (.cells #[.bool N4, .slice A4 Z4.length K4, .slice B4 D4.length L4] 24)) = V11 at *
  rintro e w12 ⟨rfl, hb⟩
  clear p00 p01 p02
  clear HC
  clear pf HTK
  replace H := hid (H.out.later hb)
  replace HF := hid (HF.out.later hb HF.out.lt)
  clear hb
  obtain ⟨e0, e1, e2⟩ := H.out.same (.head _)
  obtain ⟨f0, f1, f2⟩ := H.out.free (.head _)
  have fx : w12.frozen? ⟨w1.heap.size, 0, none⟩ = false := HF.out.free 0
  have cx : w12.cell? ⟨w1.heap.size, 0, none⟩ = some (.bool g3) := HF.out.cell 0
  obtain ⟨cy0, cy1, cy2⟩ := H.out.get (.head _)
  have HFN : Hid (Box (w12.setCell ⟨w1.heap.size, 0, none⟩ (.bool g4)) w1.heap.size 27 #[.bool g4]) := HF.out.set 0 _
  replace H := hid (H.out.flag HF.out hpx (by decide) (by decide) 0 (.bool g4))
  obtain ⟨v13, ex⟩ : ∃ V, w12.setCell ⟨w1.heap.size, 0, none⟩ (.bool g4) = V := ⟨_, rfl⟩
  rw [ex] at H HFN
  replace HF := hid HFN.out
  clear HFN
  have HC := hid (rAdd_full n0 _ _ xs0 _ _ ys0 N4 _ _ Z4 _ _ D4 v13 (S0.out.1.later H.out.bel) (S0.out.2.later H.out.bel) (H.out.sl wz4 (.tail _ (.head _))) (H.out.sl wd4 (.head _)))
  obtain ⟨p00, p01, p02⟩ := H.out.get (.tail _ (.tail _ (.tail _ (.tail _ (.tail _ (.tail _ (.head _)))))))
  obtain ⟨p10, p11, p12⟩ := H.out.get (.head _)
  go_wp2_with fail
  refine Calls.mono HC.out ?_
  rintro e w14 ⟨N5, U5, Z5, T5, D5, C5, rfl, o5, q5, t5, hb, hcut⟩
  clear p00 p01 p02 p10 p11 p12
  clear HC e0 e1 e2 f0 f1 f2 fx cx cy0 cy1 cy2 ex
  obtain ⟨A5, K5, hs⟩ := own_slice' o5
  subst hs
  obtain ⟨B5, L5, hs⟩ := own_slice' q5
  subst hs
  have HT5 := hid t5
  have wz5 := t5.wx
  have wd5 := t5.wy
  obtain ⟨lz5, ld5⟩ := t5.len
  clear t5 hcut
  replace H := hid (H.out.later hb)
  replace HF := hid (HF.out.later hb HF.out.lt)
  clear hb
  replace H := hid (H.out.more o5)
  clear o5
  replace H := hid (H.out.more q5)
  clear q5
  replace H := hid (H.out.put N5 (.slice A5 Z5.length K5) (.slice B5 D5.length L5))
  replace HF := hid (HF.out.later (alloc_later w14 (.cells #[.bool N5, .slice A5 Z5.length K5, .slice B5 D5.length L5] 24)) HF.out.lt)
  obtain ⟨g5, hg⟩ : ∃ g, (g4 || decide (C5 ≠ 0)) = g := ⟨_, rfl⟩
  have HTK := take_any g4 N5 A5 Z5.length K5 B5 D5.length L5 C5 (w14.alloc (.cells #[.bool N5, .slice A5 Z5.length K5, .slice B5 D5.length L5] 24))
  rw [hg] at HTK
  have HG5 := hid hg
  clear hg
  have pf : (w14.alloc (.cells #[.bool N5, .slice A5 Z5.length K5, .slice B5 D5.length L5] 24)).cell? ⟨w1.heap.size, 0, none⟩ = some (.bool g4) := HF.out.cell 0
  have HC := hid (HTK)
  obtain ⟨p00, p01, p02⟩ := H.out.get (.head _)
  go_wp2_with fail
  refine Calls.mono HC.out ?_
  generalize (w14.alloc (.cells #[.bool N5, .slice A5 Z5.length K5, .slice B5 D5.length L5] 24)) = V14 at *
  rintro e w15 ⟨rfl, hb⟩
  clear p00 p01 p02
  clear HC
  clear pf HTK
  replace H := hid (H.out.later hb)
  replace HF := hid (HF.out.later hb HF.out.lt)
  clear hb
  obtain ⟨e0, e1, e2⟩ := H.out.same (.head _)
  obtain ⟨f0, f1, f2⟩ := H.out.free (.head _)
  have fx : w15.frozen? ⟨w1.heap.size, 0, none⟩ = false := HF.out.free 0
  have cx : w15.cell? ⟨w1.heap.size, 0, none⟩ = some (.bool g4) := HF.out.cell 0
  obtain ⟨cy0, cy1, cy2⟩ := H.out.get (.head _)
  have HFN : Hid (Box (w15.setCell ⟨w1.heap.size, 0, none⟩ (.bool g5)) w1.heap.size 27 #[.bool g5]) := HF.out.set 0 _
  replace H := hid (H.out.flag HF.out hpx (by decide) (by decide) 0 (.bool g5))
  obtain ⟨v16, ex⟩ : ∃ V, w15.setCell ⟨w1.heap.size, 0, none⟩ (.bool g5) = V := ⟨_, rfl⟩
  rw [ex] at H HFN
  replace HF := hid HFN.out
  clear HFN
  have HC := hid (rMul_full n0 _ _ xs0 _ _ ys0 N4 _ _ Z4 _ _ D4 v16 (S0.out.1.later H.out.bel) (S0.out.2.later H.out.bel) (H.out.sl wz4 (.tail _ (.tail _ (.tail _ (.head _))))) (H.out.sl wd4 (.tail _ (.tail _ (.head _)))))
  obtain ⟨p00, p01, p02⟩ := H.out.get (.tail _ (.tail _ (.tail _ (.tail _ (.tail _ (.tail _ (.tail _ (.head _))))))))
  obtain ⟨p10, p11, p12⟩ := H.out.get (.tail _ (.head _))
  go_wp2_with fail
  refine Calls.mono HC.out ?_
  rintro e w17 ⟨N6, U6, Z6, T6, D6, C6, rfl, o6, q6, t6, hb, hcut⟩
  clear p00 p01 p02 p10 p11 p12
  clear HC e0 e1 e2 f0 f1 f2 fx cx cy0 cy1 cy2 ex
  obtain ⟨A6, K6, hs⟩ := own_slice' o6
  subst hs
  obtain ⟨B6, L6, hs⟩ := own_slice' q6
  subst hs
  have HT6 := hid t6
  have wz6 := t6.wx
  have wd6 := t6.wy
  obtain ⟨lz6, ld6⟩ := t6.len
  clear t6 hcut
  replace H := hid (H.out.later hb)
  replace HF := hid (HF.out.later hb HF.out.lt)
  clear hb
  replace H := hid (H.out.more o6)
  clear o6
  replace H := hid (H.out.more q6)
  clear q6
  replace H := hid (H.out.put N6 (.slice A6 Z6.length K6) (.slice B6 D6.length L6))
  replace HF := hid (HF.out.later (alloc_later w17 (.cells #[.bool N6, .slice A6 Z6.length K6, .slice B6 D6.length L6] 24)) HF.out.lt)
  obtain ⟨g6, hg⟩ : ∃ g, (g5 || decide (C6 ≠ 0)) = g := ⟨_, rfl⟩
  have HTK := take_any g5 N6 A6 Z6.length K6 B6 D6.length L6 C6 (w17.alloc (.cells #[.bool N6, .slice A6 Z6.length K6, .slice B6 D6.length L6] 24))
  rw [hg] at HTK
  have HG6 := hid hg
  clear hg
  have pf : (w17.alloc (.cells #[.bool N6, .slice A6 Z6.length K6, .slice B6 D6.length L6] 24)).cell? ⟨w1.heap.size, 0, none⟩ = some (.bool g5) := HF.out.cell 0
  have HC := hid (HTK)
  obtain ⟨p00, p01, p02⟩ := H.out.get (.head _)
  go_wp2_with fail
  refine Calls.mono HC.out ?_
  generalize (w17.alloc (.cells #[.bool N6, .slice A6 Z6.length K6, .slice B6 D6.length L6] 24)) = V17 at *
  rintro e w18 ⟨rfl, hb⟩
  clear p00 p01 p02
  clear HC
  clear pf HTK
  replace H := hid (H.out.later hb)
  replace HF := hid (HF.out.later hb HF.out.lt)
  clear hb
  obtain ⟨e0, e1, e2⟩ := H.out.same (.head _)
  obtain ⟨f0, f1, f2⟩ := H.out.free (.head _)
  have fx : w18.frozen? ⟨w1.heap.size, 0, none⟩ = false := HF.out.free 0
  have cx : w18.cell? ⟨w1.heap.size, 0, none⟩ = some (.bool g5) := HF.out.cell 0
  obtain ⟨cy0, cy1, cy2⟩ := H.out.get (.head _)
  have HFN : Hid (Box (w18.setCell ⟨w1.heap.size, 0, none⟩ (.bool g6)) w1.heap.size 27 #[.bool g6]) := HF.out.set 0 _
  replace H := hid (H.out.flag HF.out hpx (by decide) (by decide) 0 (.bool g6))
  obtain ⟨v19, ex⟩ : ∃ V, w18.setCell ⟨w1.heap.size, 0, none⟩ (.bool g6) = V := ⟨_, rfl⟩
  rw [ex] at H HFN
  replace HF := hid HFN.out
  clear HFN
  have HC := hid (rMul_full n0 _ _ xs0 _ _ ys0 n1 _ _ xs1 _ _ ys1 v19 (S0.out.1.later H.out.bel) (S0.out.2.later H.out.bel) (S1.out.1.later H.out.bel) (S1.out.2.later H.out.bel))
  obtain ⟨p00, p01, p02⟩ := H.out.get (.tail _ (.tail _ (.tail _ (.tail _ (.tail _ (.tail _ (.tail _ (.tail _ (.head _)))))))))
  obtain ⟨p10, p11, p12⟩ := H.out.get (.tail _ (.tail _ (.tail _ (.tail _ (.tail _ (.tail _ (.tail _ (.head _))))))))
  go_wp2_with fail
  refine Calls.mono HC.out ?_
  rintro e w20 ⟨N7, U7, Z7, T7, D7, C7, rfl, o7, q7, t7, hb, hcut⟩
  clear p00 p01 p02 p10 p11 p12
  clear HC e0 e1 e2 f0 f1 f2 fx cx cy0 cy1 cy2 ex
  obtain ⟨A7, K7, hs⟩ := own_slice' o7
  subst hs
  obtain ⟨B7, L7, hs⟩ := own_slice' q7
  subst hs
  have HT7 := hid t7
  have wz7 := t7.wx
  have wd7 := t7.wy
  obtain ⟨lz7, ld7⟩ := t7.len
  clear t7 hcut
  replace H := hid (H.out.later hb)
  replace HF := hid (HF.out.later hb HF.out.lt)
  clear hb
  replace H := hid (H.out.more o7)
  clear o7
  replace H := hid (H.out.more q7)
  clear q7
  replace H := hid (H.out.put N7 (.slice A7 Z7.length K7) (.slice B7 D7.length L7))
  replace HF := hid (HF.out.later (alloc_later w20 (.cells #[.bool N7, .slice A7 Z7.length K7, .slice B7 D7.length L7] 24)) HF.out.lt)
  obtain ⟨g7, hg⟩ : ∃ g, (g6 || decide (C7 ≠ 0)) = g := ⟨_, rfl⟩
  have HTK := take_any g6 N7 A7 Z7.length K7 B7 D7.length L7 C7 (w20.alloc (.cells #[.bool N7, .slice A7 Z7.length K7, .slice B7 D7.length L7] 24))
  rw [hg] at HTK
  have HG7 := hid hg
  clear hg
  have pf : (w20.alloc (.cells #[.bool N7, .slice A7 Z7.length K7, .slice B7 D7.length L7] 24)).cell? ⟨w1.heap.size, 0, none⟩ = some (.bool g6) := HF.out.cell 0
  have HC := hid (HTK)
  obtain ⟨p00, p01, p02⟩ := H.out.get (.head _)
  go_wp2_with fail
  refine Calls.mono HC.out ?_
  generalize (w20.alloc (.cells #[.bool N7, .slice A7 Z7.length K7, .slice B7 D7.length L7] 24)) = V20 at *
  rintro e w21 ⟨rfl, hb⟩
  clear p00 p01 p02
  clear HC
  clear pf HTK
  replace H := hid (H.out.later hb)
  replace HF := hid (HF.out.later hb HF.out.lt)
  clear hb
  obtain ⟨e0, e1, e2⟩ := H.out.same (.head _)
  obtain ⟨f0, f1, f2⟩ := H.out.free (.head _)
  have fx : w21.frozen? ⟨w1.heap.size, 0, none⟩ = false := HF.out.free 0
  have cx : w21.cell? ⟨w1.heap.size, 0, none⟩ = some (.bool g6) := HF.out.cell 0
  obtain ⟨cy0, cy1, cy2⟩ := H.out.get (.head _)
  have HFN : Hid (Box (w21.setCell ⟨w1.heap.size, 0, none⟩ (.bool g7)) w1.heap.size 27 #[.bool g7]) := HF.out.set 0 _
  replace H := hid (H.out.flag HF.out hpx (by decide) (by decide) 0 (.bool g7))
  obtain ⟨v22, ex⟩ : ∃ V, w21.setCell ⟨w1.heap.size, 0, none⟩ (.bool g7) = V := ⟨_, rfl⟩
  rw [ex] at H HFN
  replace HF := hid HFN.out
  clear HFN
  have HC := hid (rMul_full n1 _ _ xs1 _ _ ys1 n0 _ _ xs0 _ _ ys0 v22 (S1.out.1.later H.out.bel) (S1.out.2.later H.out.bel) (S0.out.1.later H.out.bel) (S0.out.2.later H.out.bel))
  obtain ⟨p00, p01, p02⟩ := H.out.get (.tail _ (.tail _ (.tail _ (.tail _ (.tail _ (.tail _ (.tail _ (.tail _ (.head _)))))))))
  obtain ⟨p10, p11, p12⟩ := H.out.get (.tail _ (.tail _ (.tail _ (.tail _ (.tail _ (.tail _ (.tail _ (.tail _ (.tail _ (.head _))))))))))
  go_wp2_with fail
  refine Calls.mono HC.out ?_
  rintro e w23 ⟨N8, U8, Z8, T8, D8, C8, rfl, o8, q8, t8, hb, hcut⟩
  clear p00 p01 p02 p10 p11 p12
  clear HC e0 e1 e2 f0 f1 f2 fx cx cy0 cy1 cy2 ex
  obtain ⟨A8, K8, hs⟩ := own_slice' o8
  subst hs
  obtain ⟨B8, L8, hs⟩ := own_slice' q8
  subst hs
  have HT8 := hid t8
  have wz8 := t8.wx
  have wd8 := t8.wy
  obtain ⟨lz8, ld8⟩ := t8.len
  clear t8 hcut
  replace H := hid (H.out.later hb)
  replace HF := hid (HF.out.later hb HF.out.lt)
  clear hb
  replace H := hid (H.out.more o8)
  clear o8
  replace H := hid (H.out.more q8)
  clear q8
  replace H := hid (H.out.put N8 (.slice A8 Z8.length K8) (.slice B8 D8.length L8))
  replace HF := hid (HF.out.later (alloc_later w23 (.cells #[.bool N8, .slice A8 Z8.length K8, .slice B8 D8.length L8] 24)) HF.out.lt)
  obtain ⟨g8, hg⟩ : ∃ g, (g7 || decide (C8 ≠ 0)) = g := ⟨_, rfl⟩
  have HTK := take_any g7 N8 A8 Z8.length K8 B8 D8.length L8 C8 (w23.alloc (.cells #[.bool N8, .slice A8 Z8.length K8, .slice B8 D8.length L8] 24))
  rw [hg] at HTK
  have HG8 := hid hg
  clear hg
  have pf : (w23.alloc (.cells #[.bool N8, .slice A8 Z8.length K8, .slice B8 D8.length L8] 24)).cell? ⟨w1.heap.size, 0, none⟩ = some (.bool g7) := HF.out.cell 0
  have HC := hid (HTK)
  obtain ⟨p00, p01, p02⟩ := H.out.get (.head _)
  go_wp2_with fail
  refine Calls.mono HC.out ?_
  generalize (w23.alloc (.cells #[.bool N8, .slice A8 Z8.length K8, .slice B8 D8.length L8] 24)) = V23 at *
  rintro e w24 ⟨rfl, hb⟩
  clear p00 p01 p02
  clear HC
  clear pf HTK
  replace H := hid (H.out.later hb)
  replace HF := hid (HF.out.later hb HF.out.lt)
  clear hb
  obtain ⟨e0, e1, e2⟩ := H.out.same (.head _)
  obtain ⟨f0, f1, f2⟩ := H.out.free (.head _)
  have fx : w24.frozen? ⟨w1.heap.size, 0, none⟩ = false := HF.out.free 0
  have cx : w24.cell? ⟨w1.heap.size, 0, none⟩ = some (.bool g7) := HF.out.cell 0
  obtain ⟨cy0, cy1, cy2⟩ := H.out.get (.head _)
  have HFN : Hid (Box (w24.setCell ⟨w1.heap.size, 0, none⟩ (.bool g8)) w1.heap.size 27 #[.bool g8]) := HF.out.set 0 _
  replace H := hid (H.out.flag HF.out hpx (by decide) (by decide) 0 (.bool g8))
  obtain ⟨v25, ex⟩ : ∃ V, w24.setCell ⟨w1.heap.size, 0, none⟩ (.bool g8) = V := ⟨_, rfl⟩
  rw [ex] at H HFN
  replace HF := hid HFN.out
  clear HFN
  have HC := hid (rMul_full n0 _ _ xs0 _ _ ys0 n2 _ _ xs2 _ _ ys2 v25 (S0.out.1.later H.out.bel) (S0.out.2.later H.out.bel) (S2.out.1.later H.out.bel) (S2.out.2.later H.out.bel))
  obtain ⟨p00, p01, p02⟩ := H.out.get (.tail _ (.tail _ (.tail _ (.tail _ (.tail _ (.tail _ (.tail _ (.tail _ (.tail _ (.tail _ (.head _)))))))))))
  obtain ⟨p10, p11, p12⟩ := H.out.get (.tail _ (.tail _ (.tail _ (.tail _ (.tail _ (.tail _ (.tail _ (.tail _ (.head _)))))))))
  go_wp2_with fail
  refine Calls.mono HC.out ?_
  rintro e w26 ⟨N9, U9, Z9, T9, D9, C9, rfl, o9, q9, t9, hb, hcut⟩
  clear p00 p01 p02 p10 p11 p12
  clear HC e0 e1 e2 f0 f1 f2 fx cx cy0 cy1 cy2 ex
  obtain ⟨A9, K9, hs⟩ := own_slice' o9
  subst hs
  obtain ⟨B9, L9, hs⟩ := own_slice' q9
  subst hs
  have HT9 := hid t9
  have wz9 := t9.wx
  have wd9 := t9.wy
  obtain ⟨lz9, ld9⟩ := t9.len
  clear t9 hcut
  replace H := hid (H.out.later hb)
  replace HF := hid (HF.out.later hb HF.out.lt)
  clear hb
  replace H := hid (H.out.more o9)
  clear o9
  replace H := hid (H.out.more q9)
  clear q9
  replace H := hid (H.out.put N9 (.slice A9 Z9.length K9) (.slice B9 D9.length L9))
  replace HF := hid (HF.out.later (alloc_later w26 (.cells #[.bool N9, .slice A9 Z9.length K9, .slice B9 D9.length L9] 24)) HF.out.lt)
  obtain ⟨g9, hg⟩ : ∃ g, (g8 || decide (C9 ≠ 0)) = g := ⟨_, rfl⟩
  have HTK := take_any g8 N9 A9 Z9.length K9 B9 D9.length L9 C9 (w26.alloc (.cells #[.bool N9, .slice A9 Z9.length K9, .slice B9 D9.length L9] 24))
  rw [hg] at HTK
  have HG9 := hid hg
  clear hg
  have pf : (w26.alloc (.cells #[.bool N9, .slice A9 Z9.length K9, .slice B9 D9.length L9] 24)).cell? ⟨w1.heap.size, 0, none⟩ = some (.bool g8) := HF.out.cell 0
  have HC := hid (HTK)
  obtain ⟨p00, p01, p02⟩ := H.out.get (.head _)
  go_wp2_with fail
  refine Calls.mono HC.out ?_
  generalize (w26.alloc (.cells #[.bool N9, .slice A9 Z9.length K9, .slice B9 D9.length L9] 24)) = V26 at *
  rintro e w27 ⟨rfl, hb⟩
  clear p00 p01 p02
  clear HC
  clear pf HTK
  replace H := hid (H.out.later hb)
  replace HF := hid (HF.out.later hb HF.out.lt)
  clear hb
  obtain ⟨e0, e1, e2⟩ := H.out.same (.head _)
  obtain ⟨f0, f1, f2⟩ := H.out.free (.head _)
  have fx : w27.frozen? ⟨w1.heap.size, 0, none⟩ = false := HF.out.free 0
  have cx : w27.cell? ⟨w1.heap.size, 0, none⟩ = some (.bool g8) := HF.out.cell 0
  obtain ⟨cy0, cy1, cy2⟩ := H.out.get (.head _)
  have HFN : Hid (Box (w27.setCell ⟨w1.heap.size, 0, none⟩ (.bool g9)) w1.heap.size 27 #[.bool g9]) := HF.out.set 0 _
  replace H := hid (H.out.flag HF.out hpx (by decide) (by decide) 0 (.bool g9))
  obtain ⟨v28, ex⟩ : ∃ V, w27.setCell ⟨w1.heap.size, 0, none⟩ (.bool g9) = V := ⟨_, rfl⟩
  rw [ex] at H HFN
  replace HF := hid HFN.out
  clear HFN
  have HC := hid (rAdd_full N7 _ _ Z7 _ _ D7 N9 _ _ Z9 _ _ D9 v28 (H.out.sl wz7 (.tail _ (.tail _ (.tail _ (.tail _ (.tail _ (.head _))))))) (H.out.sl wd7 (.tail _ (.tail _ (.tail _ (.tail _ (.head _)))))) (H.out.sl wz9 (.tail _ (.head _))) (H.out.sl wd9 (.head _)))
  obtain ⟨p00, p01, p02⟩ := H.out.get (.tail _ (.tail _ (.head _)))
  obtain ⟨p10, p11, p12⟩ := H.out.get (.head _)
  go_wp2_with fail
  refine Calls.mono HC.out ?_
  rintro e w29 ⟨N10, U10, Z10, T10, D10, C10, rfl, o10, q10, t10, hb, hcut⟩
  clear p00 p01 p02 p10 p11 p12
  clear HC e0 e1 e2 f0 f1 f2 fx cx cy0 cy1 cy2 ex
  obtain ⟨A10, K10, hs⟩ := own_slice' o10
  subst hs
  obtain ⟨B10, L10, hs⟩ := own_slice' q10
  subst hs
  have HT10 := hid t10
  have wz10 := t10.wx
  have wd10 := t10.wy
  obtain ⟨lz10, ld10⟩ := t10.len
  clear t10 hcut
  replace H := hid (H.out.later hb)
  replace HF := hid (HF.out.later hb HF.out.lt)
  clear hb
  replace H := hid (H.out.more o10)
  clear o10
  replace H := hid (H.out.more q10)
  clear q10
  replace H := hid (H.out.put N10 (.slice A10 Z10.length K10) (.slice B10 D10.length L10))
  replace HF := hid (HF.out.later (alloc_later w29 (.cells #[.bool N10, .slice A10 Z10.length K10, .slice B10 D10.length L10] 24)) HF.out.lt)
  obtain ⟨g10, hg⟩ : ∃ g, (g9 || decide (C10 ≠ 0)) = g := ⟨_, rfl⟩
  have HTK := take_any g9 N10 A10 Z10.length K10 B10 D10.length L10 C10 (w29.alloc (.cells #[.bool N10, .slice A10 Z10.length K10, .slice B10 D10.length L10] 24))
  rw [hg] at HTK
  have HG10 := hid hg
  clear hg
  have pf : (w29.alloc (.cells #[.bool N10, .slice A10 Z10.length K10, .slice B10 D10.length L10] 24)).cell? ⟨w1.heap.size, 0, none⟩ = some (.bool g9) := HF.out.cell 0
  have HC := hid (HTK)
  obtain ⟨p00, p01, p02⟩ := H.out.get (.head _)
  go_wp2_with fail
  refine Calls.mono HC.out ?_
  generalize (w29.alloc (.cells #[.bool N10, .slice A10 Z10.length K10, .slice B10 D10.length L10] 24)) = V29 at *
  rintro e w30 ⟨rfl, hb⟩
  clear p00 p01 p02
  clear HC
  clear pf HTK
  replace H := hid (H.out.later hb)
  replace HF := hid (HF.out.later hb HF.out.lt)
  clear hb
  obtain ⟨e0, e1, e2⟩ := H.out.same (.head _)
  obtain ⟨f0, f1, f2⟩ := H.out.free (.head _)
  have fx : w30.frozen? ⟨w1.heap.size, 0, none⟩ = false := HF.out.free 0
  have cx : w30.cell? ⟨w1.heap.size, 0, none⟩ = some (.bool g9) := HF.out.cell 0
  obtain ⟨cy0, cy1, cy2⟩ := H.out.get (.head _)
  have HFN : Hid (Box (w30.setCell ⟨w1.heap.size, 0, none⟩ (.bool g10)) w1.heap.size 27 #[.bool g10]) := HF.out.set 0 _
  replace H := hid (H.out.flag HF.out hpx (by decide) (by decide) 0 (.bool g10))
  obtain ⟨v31, ex⟩ : ∃ V, w30.setCell ⟨w1.heap.size, 0, none⟩ (.bool g10) = V := ⟨_, rfl⟩
  rw [ex] at H HFN
  replace HF := hid HFN.out
  clear HFN
  have HC := hid (rSub_full N1 _ _ Z1 _ _ D1 n1 _ _ xs1 _ _ ys1 v31 (H.out.sl wz1 (.tail _ (.tail _ (.tail _ (.tail _ (.tail _ (.tail _ (.tail _ (.tail _ (.tail _ (.tail _ (.tail _ (.tail _ (.tail _ (.tail _ (.tail _ (.tail _ (.tail _ (.tail _ (.tail _ (.head _))))))))))))))))))))) (H.out.sl wd1 (.tail _ (.tail _ (.tail _ (.tail _ (.tail _ (.tail _ (.tail _ (.tail _ (.tail _ (.tail _ (.tail _ (.tail _ (.tail _ (.tail _ (.tail _ (.tail _ (.tail _ (.tail _ (.head _)))))))))))))))))))) (S1.out.1.later H.out.bel) (S1.out.2.later H.out.bel))
  obtain ⟨p00, p01, p02⟩ := H.out.get (.tail _ (.tail _ (.tail _ (.tail _ (.tail _ (.tail _ (.tail _ (.tail _ (.tail _ (.head _))))))))))
  obtain ⟨p10, p11, p12⟩ := H.out.get (.tail _ (.tail _ (.tail _ (.tail _ (.tail _ (.tail _ (.tail _ (.tail _ (.tail _ (.tail _ (.tail _ (.head _))))))))))))
  go_wp2_with fail
  refine Calls.mono HC.out ?_
  rintro e w32 ⟨N11, U11, Z11, T11, D11, C11, rfl, o11, q11, t11, hb, hcut⟩
  clear p00 p01 p02 p10 p11 p12
  clear HC e0 e1 e2 f0 f1 f2 fx cx cy0 cy1 cy2 ex
  obtain ⟨A11, K11, hs⟩ := own_slice' o11
  subst hs
  obtain ⟨B11, L11, hs⟩ := own_slice' q11
  subst hs
  have HT11 := hid t11
  have wz11 := t11.wx
  have wd11 := t11.wy
  obtain ⟨lz11, ld11⟩ := t11.len
  clear t11 hcut
  replace H := hid (H.out.later hb)
  replace HF := hid (HF.out.later hb HF.out.lt)
  clear hb
  replace H := hid (H.out.more o11)
  clear o11
  replace H := hid (H.out.more q11)
  clear q11
  replace H := hid (H.out.put N11 (.slice A11 Z11.length K11) (.slice B11 D11.length L11))
  replace HF := hid (HF.out.later (alloc_later w32 (.cells #[.bool N11, .slice A11 Z11.length K11, .slice B11 D11.length L11] 24)) HF.out.lt)
  obtain ⟨g11, hg⟩ : ∃ g, (g10 || decide (C11 ≠ 0)) = g := ⟨_, rfl⟩
  have HTK := take_any g10 N11 A11 Z11.length K11 B11 D11.length L11 C11 (w32.alloc (.cells #[.bool N11, .slice A11 Z11.length K11, .slice B11 D11.length L11] 24))
  rw [hg] at HTK
  have HG11 := hid hg
  clear hg
  have pf : (w32.alloc (.cells #[.bool N11, .slice A11 Z11.length K11, .slice B11 D11.length L11] 24)).cell? ⟨w1.heap.size, 0, none⟩ = some (.bool g10) := HF.out.cell 0
  have HC := hid (HTK)
  obtain ⟨p00, p01, p02⟩ := H.out.get (.head _)
  go_wp2_with fail
  refine Calls.mono HC.out ?_
  generalize (w32.alloc (.cells #[.bool N11, .slice A11 Z11.length K11, .slice B11 D11.length L11] 24)) = V32 at *
  rintro e w33 ⟨rfl, hb⟩
  clear p00 p01 p02
  clear HC
  clear pf HTK
  replace H := hid (H.out.later hb)
  replace HF := hid (HF.out.later hb HF.out.lt)
  clear hb
  obtain ⟨e0, e1, e2⟩ := H.out.same (.head _)
  obtain ⟨f0, f1, f2⟩ := H.out.free (.head _)
  have fx : w33.frozen? ⟨w1.heap.size, 0, none⟩ = false := HF.out.free 0
  have cx : w33.cell? ⟨w1.heap.size, 0, none⟩ = some (.bool g10) := HF.out.cell 0
  obtain ⟨cy0, cy1, cy2⟩ := H.out.get (.head _)
  have HFN : Hid (Box (w33.setCell ⟨w1.heap.size, 0, none⟩ (.bool g11)) w1.heap.size 27 #[.bool g11]) := HF.out.set 0 _
  replace H := hid (H.out.flag HF.out hpx (by decide) (by decide) 0 (.bool g11))
  obtain ⟨v34, ex⟩ : ∃ V, w33.setCell ⟨w1.heap.size, 0, none⟩ (.bool g11) = V := ⟨_, rfl⟩
  rw [ex] at H HFN
  replace HF := hid HFN.out
  clear HFN
  have HC := hid (rNeg_full n1 _ _ xs1 _ _ ys1 v34 (S1.out.1.later H.out.bel) (S1.out.2.later H.out.bel))
  obtain ⟨p00, p01, p02⟩ := H.out.get (.tail _ (.tail _ (.tail _ (.tail _ (.tail _ (.tail _ (.tail _ (.tail _ (.tail _ (.tail _ (.tail _ (.tail _ (.head _)))))))))))))
  go_wp2_with fail
  refine Calls.mono HC.out ?_
  rintro e w35 ⟨N12, U12, Z12, T12, D12, C12, rfl, o12, q12, t12, hb, hcut⟩
  clear p00 p01 p02
  clear HC e0 e1 e2 f0 f1 f2 fx cx cy0 cy1 cy2 ex
  obtain ⟨A12, K12, hs⟩ := own_slice' o12
  subst hs
  obtain ⟨B12, L12, hs⟩ := own_slice' q12
  subst hs
  have HT12 := hid t12
  have wz12 := t12.wx
  have wd12 := t12.wy
  obtain ⟨lz12, ld12⟩ := t12.len
  clear t12 hcut
  replace H := hid (H.out.later hb)
  replace HF := hid (HF.out.later hb HF.out.lt)
  clear hb
  replace H := hid (H.out.more o12)
  clear o12
  replace H := hid (H.out.more q12)
  clear q12
  replace H := hid (H.out.put N12 (.slice A12 Z12.length K12) (.slice B12 D12.length L12))
  replace HF := hid (HF.out.later (alloc_later w35 (.cells #[.bool N12, .slice A12 Z12.length K12, .slice B12 D12.length L12] 24)) HF.out.lt)
  obtain ⟨g12, hg⟩ : ∃ g, (g11 || decide (C12 ≠ 0)) = g := ⟨_, rfl⟩
  have HTK := take_any g11 N12 A12 Z12.length K12 B12 D12.length L12 C12 (w35.alloc (.cells #[.bool N12, .slice A12 Z12.length K12, .slice B12 D12.length L12] 24))
  rw [hg] at HTK
  have HG12 := hid hg
  clear hg
  have pf : (w35.alloc (.cells #[.bool N12, .slice A12 Z12.length K12, .slice B12 D12.length L12] 24)).cell? ⟨w1.heap.size, 0, none⟩ = some (.bool g11) := HF.out.cell 0
  have HC := hid (HTK)
  obtain ⟨p00, p01, p02⟩ := H.out.get (.head _)
  go_wp2_with fail
  refine Calls.mono HC.out ?_
  generalize (w35.alloc (.cells #[.bool N12, .slice A12 Z12.length K12, .slice B12 D12.length L12] 24)) = V35 at *
  rintro e w36 ⟨rfl, hb⟩
  clear p00 p01 p02
  clear HC
  clear pf HTK
  replace H := hid (H.out.later hb)
  replace HF := hid (HF.out.later hb HF.out.lt)
  clear hb
  obtain ⟨e0, e1, e2⟩ := H.out.same (.head _)
  obtain ⟨f0, f1, f2⟩ := H.out.free (.head _)
  have fx : w36.frozen? ⟨w1.heap.size, 0, none⟩ = false := HF.out.free 0
  have cx : w36.cell? ⟨w1.heap.size, 0, none⟩ = some (.bool g11) := HF.out.cell 0
  obtain ⟨cy0, cy1, cy2⟩ := H.out.get (.head _)
  have HFN : Hid (Box (w36.setCell ⟨w1.heap.size, 0, none⟩ (.bool g12)) w1.heap.size 27 #[.bool g12]) := HF.out.set 0 _
  replace H := hid (H.out.flag HF.out hpx (by decide) (by decide) 0 (.bool g12))
  obtain ⟨v37, ex⟩ : ∃ V, w36.setCell ⟨w1.heap.size, 0, none⟩ (.bool g12) = V := ⟨_, rfl⟩
  rw [ex] at H HFN
  replace HF := hid HFN.out
  clear HFN
  have HC := hid (rAdd_full N1 _ _ Z1 _ _ D1 N12 _ _ Z12 _ _ D12 v37 (H.out.sl wz1 (.tail _ (.tail _ (.tail _ (.tail _ (.tail _ (.tail _ (.tail _ (.tail _ (.tail _ (.tail _ (.tail _ (.tail _ (.tail _ (.tail _ (.tail _ (.tail _ (.tail _ (.tail _ (.tail _ (.tail _ (.tail _ (.tail _ (.tail _ (.head _))))))))))))))))))))))))) (H.out.sl wd1 (.tail _ (.tail _ (.tail _ (.tail _ (.tail _ (.tail _ (.tail _ (.tail _ (.tail _ (.tail _ (.tail _ (.tail _ (.tail _ (.tail _ (.tail _ (.tail _ (.tail _ (.tail _ (.tail _ (.tail _ (.tail _ (.tail _ (.head _)))))))))))))))))))))))) (H.out.sl wz12 (.tail _ (.head _))) (H.out.sl wd12 (.head _)))
  obtain ⟨p00, p01, p02⟩ := H.out.get (.tail _ (.tail _ (.tail _ (.tail _ (.tail _ (.tail _ (.tail _ (.tail _ (.tail _ (.tail _ (.tail _ (.head _))))))))))))
  obtain ⟨p10, p11, p12⟩ := H.out.get (.head _)
  go_wp2_with fail
  refine Calls.mono HC.out ?_
  rintro e w38 ⟨N13, U13, Z13, T13, D13, C13, rfl, o13, q13, t13, hb, hcut⟩
  clear p00 p01 p02 p10 p11 p12
  clear HC e0 e1 e2 f0 f1 f2 fx cx cy0 cy1 cy2 ex
  obtain ⟨A13, K13, hs⟩ := own_slice' o13
  subst hs
  obtain ⟨B13, L13, hs⟩ := own_slice' q13
  subst hs
  have HT13 := hid t13
  have wz13 := t13.wx
  have wd13 := t13.wy
  obtain ⟨lz13, ld13⟩ := t13.len
  clear t13 hcut
  replace H := hid (H.out.later hb)
  replace HF := hid (HF.out.later hb HF.out.lt)
  clear hb
  replace H := hid (H.out.more o13)
  clear o13
  replace H := hid (H.out.more q13)
  clear q13
  replace H := hid (H.out.put N13 (.slice A13 Z13.length K13) (.slice B13 D13.length L13))
  replace HF := hid (HF.out.later (alloc_later w38 (.cells #[.bool N13, .slice A13 Z13.length K13, .slice B13 D13.length L13] 24)) HF.out.lt)
  obtain ⟨g13, hg⟩ : ∃ g, (g12 || decide (C13 ≠ 0)) = g := ⟨_, rfl⟩
  have HTK := take_any g12 N13 A13 Z13.length K13 B13 D13.length L13 C13 (w38.alloc (.cells #[.bool N13, .slice A13 Z13.length K13, .slice B13 D13.length L13] 24))
  rw [hg] at HTK
  have HG13 := hid hg
  clear hg
  have pf : (w38.alloc (.cells #[.bool N13, .slice A13 Z13.length K13, .slice B13 D13.length L13] 24)).cell? ⟨w1.heap.size, 0, none⟩ = some (.bool g12) := HF.out.cell 0
  have HC := hid (HTK)
  obtain ⟨p00, p01, p02⟩ := H.out.get (.head _)
  go_wp2_with fail
  refine Calls.mono HC.out ?_
  generalize (w38.alloc (.cells #[.bool N13, .slice A13 Z13.length K13, .slice B13 D13.length L13] 24)) = V38 at *
  rintro e w39 ⟨rfl, hb⟩
  clear p00 p01 p02
  clear HC
  clear pf HTK
  replace H := hid (H.out.later hb)
  replace HF := hid (HF.out.later hb HF.out.lt)
  clear hb
  obtain ⟨e0, e1, e2⟩ := H.out.same (.head _)
  obtain ⟨f0, f1, f2⟩ := H.out.free (.head _)
  have fx : w39.frozen? ⟨w1.heap.size, 0, none⟩ = false := HF.out.free 0
  have cx : w39.cell? ⟨w1.heap.size, 0, none⟩ = some (.bool g12) := HF.out.cell 0
  obtain ⟨cy0, cy1, cy2⟩ := H.out.get (.head _)
  have HFN : Hid (Box (w39.setCell ⟨w1.heap.size, 0, none⟩ (.bool g13)) w1.heap.size 27 #[.bool g13]) := HF.out.set 0 _
  replace H := hid (H.out.flag HF.out hpx (by decide) (by decide) 0 (.bool g13))
  obtain ⟨v40, ex⟩ : ∃ V, w39.setCell ⟨w1.heap.size, 0, none⟩ (.bool g13) = V := ⟨_, rfl⟩
  rw [ex] at H HFN
  replace HF := hid HFN.out
  clear HFN
  cases g13
  case true =>
    have px0 : v40.cell? ⟨w1.heap.size, 0, none⟩ = some (.bool true) := HF.out.cell 0
    go_wp2_with fail
    go_ret
    exact ⟨rfl, H.out.bel⟩
  case false =>
    obtain ⟨h12, z13⟩ := orz HG13.out
    obtain ⟨h11, z12⟩ := orz (HG12.out.trans h12)
    obtain ⟨h10, z11⟩ := orz (HG11.out.trans h11)
    obtain ⟨h9, z10⟩ := orz (HG10.out.trans h10)
    obtain ⟨h8, z9⟩ := orz (HG9.out.trans h9)
    obtain ⟨h7, z8⟩ := orz (HG8.out.trans h8)
    obtain ⟨h6, z7⟩ := orz (HG7.out.trans h7)
    obtain ⟨h5, z6⟩ := orz (HG6.out.trans h6)
    obtain ⟨h4, z5⟩ := orz (HG5.out.trans h5)
    obtain ⟨h3, z4⟩ := orz (HG4.out.trans h4)
    obtain ⟨h2, z3⟩ := orz (HG3.out.trans h3)
    obtain ⟨h1, z2⟩ := orz (HG2.out.trans h2)
    obtain ⟨_, z1⟩ := orz (HG1.out.trans h1)
    have R1 := hid (HT1.out.zero z1)
    have R2 := hid (HT2.out.zero z2)
    have R3 := hid (HT3.out.zero z3)
    have R4 := hid (HT4.out.zero z4)
    have R5 := hid (HT5.out.zero z5)
    have R6 := hid (HT6.out.zero z6)
    have R7 := hid (HT7.out.zero z7)
    have R8 := hid (HT8.out.zero z8)
    have R9 := hid (HT9.out.zero z9)
    have R10 := hid (HT10.out.zero z10)
    have R11 := hid (HT11.out.zero z11)
    have R12 := hid (HT12.out.zero z12)
    have R13 := hid (HT13.out.zero z13)
    clear h1 h2 h3 h4 h5 h6 h7 h8 h9 h10 h11 h12 z1 z2 z3 z4 z5 z6 z7 z8 z9 z10 z11 z12 z13 HG1 HG2 HG3 HG4 HG5 HG6 HG7 HG8 HG9 HG10 HG11 HG12 HG13 HT1 HT2 HT3 HT4 HT5 HT6 HT7 HT8 HT9 HT10 HT11 HT12 HT13
    have KA := hid (rboth_ok R1.out.1).1
    have KB := hid (rboth_ok R1.out.1).2
    have KC := hid (rboth_ok R3.out.1).2
    have la := rchk_ok KA.out
    have lxa := la.1
    have lya := la.2.1
    clear la
    have Q1 : Hid (rq N1 Z1 D1 = rq N2 Z2 D2) := by show _ = _; rw [R1.out.2.2, R2.out.2.2]; exact Rat.add_comm _ _
    have Q2 : Hid (rq N3 Z3 D3 = rq N5 Z5 D5) := by show _ = _; rw [R3.out.2.2, R5.out.2.2, R1.out.2.2, R4.out.2.2]; exact Rat.add_assoc _ _ _
    have Q3 : Hid (rq N7 Z7 D7 = rq N8 Z8 D8) := by show _ = _; rw [R7.out.2.2, R8.out.2.2]; exact Rat.mul_comm _ _
    have Q4 : Hid (rq N6 Z6 D6 = rq N10 Z10 D10) := by show _ = _; rw [R6.out.2.2, R10.out.2.2, R4.out.2.2, R7.out.2.2, R9.out.2.2]; exact Rat.mul_add _ _ _
    have Q5 : Hid (rq N11 Z11 D11 = rq n0 xs0 ys0) := by show _ = _; rw [R11.out.2.2, R1.out.2.2]; exact rat_less _ _
    have Q6 : Hid (rq N13 Z13 D13 = rq n0 xs0 ys0) := by show _ = _; rw [R13.out.2.2, R12.out.2.2, R1.out.2.2]; exact rat_back _ _
    have px0 : v40.cell? ⟨w1.heap.size, 0, none⟩ = some (.bool false) := HF.out.cell 0
    by_cases h0 : xs1 = []
    · have HSG := rSign_any n1 _ _ xs1 _ _ ys1 v40 (S1.out.1.later H.out.bel) (S1.out.2.later H.out.bel)
      rw [show rsgn n1 xs1 ys1 = 0 by unfold rsgn; rw [if_pos KB.out, if_pos (by rw [h0]; rfl)]] at HSG
      clear h0
      have HC := hid (HSG)
      obtain ⟨p00, p01, p02⟩ := H.out.get (.tail _ (.tail _ (.tail _ (.tail _ (.tail _ (.tail _ (.tail _ (.tail _ (.tail _ (.tail _ (.tail _ (.tail _ (.tail _ (.tail _ (.head _)))))))))))))))
      go_wp2_with fail
      refine Calls.mono HC.out ?_
      rintro e w41 ⟨rfl, hb⟩
      clear p00 p01 p02
      clear HC e0 e1 e2 f0 f1 f2 fx cx cy0 cy1 cy2 ex
      replace H := hid (H.out.later hb)
      replace HF := hid (HF.out.later hb HF.out.lt)
      clear hb
      clear HSG px0
      have HSM := rSame_any N1 _ _ Z1 _ _ D1 N2 _ _ Z2 _ _ D2 w41 (H.out.sl wz1 (.tail _ (.tail _ (.tail _ (.tail _ (.tail _ (.tail _ (.tail _ (.tail _ (.tail _ (.tail _ (.tail _ (.tail _ (.tail _ (.tail _ (.tail _ (.tail _ (.tail _ (.tail _ (.tail _ (.tail _ (.tail _ (.tail _ (.tail _ (.tail _ (.tail _ (.head _))))))))))))))))))))))))))) (H.out.sl wd1 (.tail _ (.tail _ (.tail _ (.tail _ (.tail _ (.tail _ (.tail _ (.tail _ (.tail _ (.tail _ (.tail _ (.tail _ (.tail _ (.tail _ (.tail _ (.tail _ (.tail _ (.tail _ (.tail _ (.tail _ (.tail _ (.tail _ (.tail _ (.tail _ (.head _)))))))))))))))))))))))))) (H.out.sl wz2 (.tail _ (.tail _ (.tail _ (.tail _ (.tail _ (.tail _ (.tail _ (.tail _ (.tail _ (.tail _ (.tail _ (.tail _ (.tail _ (.tail _ (.tail _ (.tail _ (.tail _ (.tail _ (.tail _ (.tail _ (.tail _ (.tail _ (.tail _ (.head _))))))))))))))))))))))))) (H.out.sl wd2 (.tail _ (.tail _ (.tail _ (.tail _ (.tail _ (.tail _ (.tail _ (.tail _ (.tail _ (.tail _ (.tail _ (.tail _ (.tail _ (.tail _ (.tail _ (.tail _ (.tail _ (.tail _ (.tail _ (.tail _ (.tail _ (.tail _ (.head _)))))))))))))))))))))))) (by omega) (by omega) (by omega) (by omega)
      rw [decide_eq_true (rq_inj wz1 wd1 wz2 wd2 R1.out.2.1 R2.out.2.1 Q1.out)] at HSM
      have HC := hid (HSM)
      obtain ⟨p00, p01, p02⟩ := H.out.get (.tail _ (.tail _ (.tail _ (.tail _ (.tail _ (.tail _ (.tail _ (.tail _ (.tail _ (.tail _ (.tail _ (.tail _ (.head _)))))))))))))
      obtain ⟨p10, p11, p12⟩ := H.out.get (.tail _ (.tail _ (.tail _ (.tail _ (.tail _ (.tail _ (.tail _ (.tail _ (.tail _ (.tail _ (.tail _ (.head _))))))))))))
      go_wp2_with fail
      refine Calls.mono HC.out ?_
      rintro e w42 ⟨rfl, hb⟩
      clear p00 p01 p02 p10 p11 p12
      clear HC
      replace H := hid (H.out.later hb)
      replace HF := hid (HF.out.later hb HF.out.lt)
      clear hb
      clear HSM
      have HSM := rSame_any N3 _ _ Z3 _ _ D3 N5 _ _ Z5 _ _ D5 w42 (H.out.sl wz3 (.tail _ (.tail _ (.tail _ (.tail _ (.tail _ (.tail _ (.tail _ (.tail _ (.tail _ (.tail _ (.tail _ (.tail _ (.tail _ (.tail _ (.tail _ (.tail _ (.tail _ (.tail _ (.tail _ (.tail _ (.tail _ (.head _))))))))))))))))))))))) (H.out.sl wd3 (.tail _ (.tail _ (.tail _ (.tail _ (.tail _ (.tail _ (.tail _ (.tail _ (.tail _ (.tail _ (.tail _ (.tail _ (.tail _ (.tail _ (.tail _ (.tail _ (.tail _ (.tail _ (.tail _ (.tail _ (.head _)))))))))))))))))))))) (H.out.sl wz5 (.tail _ (.tail _ (.tail _ (.tail _ (.tail _ (.tail _ (.tail _ (.tail _ (.tail _ (.tail _ (.tail _ (.tail _ (.tail _ (.tail _ (.tail _ (.tail _ (.tail _ (.head _))))))))))))))))))) (H.out.sl wd5 (.tail _ (.tail _ (.tail _ (.tail _ (.tail _ (.tail _ (.tail _ (.tail _ (.tail _ (.tail _ (.tail _ (.tail _ (.tail _ (.tail _ (.tail _ (.tail _ (.head _)))))))))))))))))) (by omega) (by omega) (by omega) (by omega)
      rw [decide_eq_true (rq_inj wz3 wd3 wz5 wd5 R3.out.2.1 R5.out.2.1 Q2.out)] at HSM
      have HC := hid (HSM)
      obtain ⟨p00, p01, p02⟩ := H.out.get (.tail _ (.tail _ (.tail _ (.tail _ (.tail _ (.tail _ (.tail _ (.tail _ (.tail _ (.tail _ (.head _)))))))))))
      obtain ⟨p10, p11, p12⟩ := H.out.get (.tail _ (.tail _ (.tail _ (.tail _ (.tail _ (.tail _ (.tail _ (.tail _ (.head _)))))))))
      go_wp2_with fail
      refine Calls.mono HC.out ?_
      rintro e w43 ⟨rfl, hb⟩
      clear p00 p01 p02 p10 p11 p12
      clear HC
      replace H := hid (H.out.later hb)
      replace HF := hid (HF.out.later hb HF.out.lt)
      clear hb
      clear HSM
      have HSM := rSame_any N7 _ _ Z7 _ _ D7 N8 _ _ Z8 _ _ D8 w43 (H.out.sl wz7 (.tail _ (.tail _ (.tail _ (.tail _ (.tail _ (.tail _ (.tail _ (.tail _ (.tail _ (.tail _ (.tail _ (.tail _ (.tail _ (.head _))))))))))))))) (H.out.sl wd7 (.tail _ (.tail _ (.tail _ (.tail _ (.tail _ (.tail _ (.tail _ (.tail _ (.tail _ (.tail _ (.tail _ (.tail _ (.head _)))))))))))))) (H.out.sl wz8 (.tail _ (.tail _ (.tail _ (.tail _ (.tail _ (.tail _ (.tail _ (.tail _ (.tail _ (.tail _ (.tail _ (.head _))))))))))))) (H.out.sl wd8 (.tail _ (.tail _ (.tail _ (.tail _ (.tail _ (.tail _ (.tail _ (.tail _ (.tail _ (.tail _ (.head _)))))))))))) (by omega) (by omega) (by omega) (by omega)
      rw [decide_eq_true (rq_inj wz7 wd7 wz8 wd8 R7.out.2.1 R8.out.2.1 Q3.out)] at HSM
      have HC := hid (HSM)
      obtain ⟨p00, p01, p02⟩ := H.out.get (.tail _ (.tail _ (.tail _ (.tail _ (.tail _ (.tail _ (.head _)))))))
      obtain ⟨p10, p11, p12⟩ := H.out.get (.tail _ (.tail _ (.tail _ (.tail _ (.tail _ (.head _))))))
      go_wp2_with fail
      refine Calls.mono HC.out ?_
      rintro e w44 ⟨rfl, hb⟩
      clear p00 p01 p02 p10 p11 p12
      clear HC
      replace H := hid (H.out.later hb)
      replace HF := hid (HF.out.later hb HF.out.lt)
      clear hb
      clear HSM
      have HSM := rSame_any N6 _ _ Z6 _ _ D6 N10 _ _ Z10 _ _ D10 w44 (H.out.sl wz6 (.tail _ (.tail _ (.tail _ (.tail _ (.tail _ (.tail _ (.tail _ (.tail _ (.tail _ (.tail _ (.tail _ (.tail _ (.tail _ (.tail _ (.tail _ (.head _))))))))))))))))) (H.out.sl wd6 (.tail _ (.tail _ (.tail _ (.tail _ (.tail _ (.tail _ (.tail _ (.tail _ (.tail _ (.tail _ (.tail _ (.tail _ (.tail _ (.tail _ (.head _)))))))))))))))) (H.out.sl wz10 (.tail _ (.tail _ (.tail _ (.tail _ (.tail _ (.tail _ (.tail _ (.head _))))))))) (H.out.sl wd10 (.tail _ (.tail _ (.tail _ (.tail _ (.tail _ (.tail _ (.head _)))))))) (by omega) (by omega) (by omega) (by omega)
      rw [decide_eq_true (rq_inj wz6 wd6 wz10 wd10 R6.out.2.1 R10.out.2.1 Q4.out)] at HSM
      have HC := hid (HSM)
      obtain ⟨p00, p01, p02⟩ := H.out.get (.tail _ (.tail _ (.tail _ (.tail _ (.tail _ (.tail _ (.tail _ (.head _))))))))
      obtain ⟨p10, p11, p12⟩ := H.out.get (.tail _ (.tail _ (.tail _ (.head _))))
      go_wp2_with fail
      refine Calls.mono HC.out ?_
      rintro e w45 ⟨rfl, hb⟩
      clear p00 p01 p02 p10 p11 p12
      clear HC
      replace H := hid (H.out.later hb)
      replace HF := hid (HF.out.later hb HF.out.lt)
      clear hb
      clear HSM
      have HSM := rSame_any N11 _ _ Z11 _ _ D11 n0 _ _ xs0 _ _ ys0 w45 (H.out.sl wz11 (.tail _ (.tail _ (.tail _ (.tail _ (.tail _ (.head _))))))) (H.out.sl wd11 (.tail _ (.tail _ (.tail _ (.tail _ (.head _)))))) (S0.out.1.later H.out.bel) (S0.out.2.later H.out.bel) (by omega) (by omega) (by omega) (by omega)
      rw [decide_eq_true (rq_inj wz11 wd11 wx0 wy0 R11.out.2.1 KA.out Q5.out)] at HSM
      have HC := hid (HSM)
      obtain ⟨p00, p01, p02⟩ := H.out.get (.tail _ (.tail _ (.head _)))
      obtain ⟨p10, p11, p12⟩ := H.out.get (.tail _ (.tail _ (.tail _ (.tail _ (.tail _ (.tail _ (.tail _ (.tail _ (.tail _ (.tail _ (.tail _ (.tail _ (.tail _ (.tail _ (.tail _ (.head _))))))))))))))))
      go_wp2_with fail
      refine Calls.mono HC.out ?_
      rintro e w46 ⟨rfl, hb⟩
      clear p00 p01 p02 p10 p11 p12
      clear HC
      replace H := hid (H.out.later hb)
      replace HF := hid (HF.out.later hb HF.out.lt)
      clear hb
      clear HSM
      have HSM := rSame_any N13 _ _ Z13 _ _ D13 n0 _ _ xs0 _ _ ys0 w46 (H.out.sl wz13 (.tail _ (.head _))) (H.out.sl wd13 (.head _)) (S0.out.1.later H.out.bel) (S0.out.2.later H.out.bel) (by omega) (by omega) (by omega) (by omega)
      rw [decide_eq_true (rq_inj wz13 wd13 wx0 wy0 R13.out.2.1 KA.out Q6.out)] at HSM
      have HC := hid (HSM)
      obtain ⟨p00, p01, p02⟩ := H.out.get (.head _)
      obtain ⟨p10, p11, p12⟩ := H.out.get (.tail _ (.tail _ (.tail _ (.tail _ (.tail _ (.tail _ (.tail _ (.tail _ (.tail _ (.tail _ (.tail _ (.tail _ (.tail _ (.tail _ (.tail _ (.head _))))))))))))))))
      go_wp2_with fail
      refine Calls.mono HC.out ?_
      rintro e w47 ⟨rfl, hb⟩
      clear p00 p01 p02 p10 p11 p12
      clear HC
      replace H := hid (H.out.later hb)
      replace HF := hid (HF.out.later hb HF.out.lt)
      clear hb
      clear HSM
      go_wp2_with fail
      go_ret
      exact ⟨rfl, H.out.bel⟩
    · obtain ⟨sg1, hsg⟩ : ∃ t, rsgn n1 xs1 ys1 = t := ⟨_, rfl⟩
      have HSG := rSign_any n1 _ _ xs1 _ _ ys1 v40 (S1.out.1.later H.out.bel) (S1.out.2.later H.out.bel)
      rw [hsg] at HSG
      have hs0 : (sg1 != 0) = true := by
        rw [← hsg]; unfold rsgn; rw [if_pos KB.out, if_neg (fun e => h0 (List.length_eq_zero_iff.1 e))]
        cases n1 <;> rfl
      have hs1 : (sg1 == 0) = false := by
        rw [← hsg]; unfold rsgn; rw [if_pos KB.out, if_neg (fun e => h0 (List.length_eq_zero_iff.1 e))]
        cases n1 <;> rfl
      have H0 := hid h0
      clear hsg h0
      have HC := hid (HSG)
      obtain ⟨p00, p01, p02⟩ := H.out.get (.tail _ (.tail _ (.tail _ (.tail _ (.tail _ (.tail _ (.tail _ (.tail _ (.tail _ (.tail _ (.tail _ (.tail _ (.tail _ (.tail _ (.head _)))))))))))))))
      go_wp2_with fail
      refine Calls.mono HC.out ?_
      rintro e w41 ⟨rfl, hb⟩
      clear p00 p01 p02
      clear HC e0 e1 e2 f0 f1 f2 fx cx cy0 cy1 cy2 ex
      replace H := hid (H.out.later hb)
      replace HF := hid (HF.out.later hb HF.out.lt)
      clear hb
      clear HSG px0
      have HC := hid (rQuo_full N7 _ _ Z7 _ _ D7 n1 _ _ xs1 _ _ ys1 w41 (H.out.sl wz7 (.tail _ (.tail _ (.tail _ (.tail _ (.tail _ (.tail _ (.tail _ (.tail _ (.tail _ (.tail _ (.tail _ (.tail _ (.tail _ (.head _))))))))))))))) (H.out.sl wd7 (.tail _ (.tail _ (.tail _ (.tail _ (.tail _ (.tail _ (.tail _ (.tail _ (.tail _ (.tail _ (.tail _ (.tail _ (.head _)))))))))))))) (S1.out.1.later H.out.bel) (S1.out.2.later H.out.bel))
      obtain ⟨p00, p01, p02⟩ := H.out.get (.tail _ (.tail _ (.tail _ (.tail _ (.tail _ (.tail _ (.head _)))))))
      obtain ⟨p10, p11, p12⟩ := H.out.get (.tail _ (.tail _ (.tail _ (.tail _ (.tail _ (.tail _ (.tail _ (.tail _ (.tail _ (.tail _ (.tail _ (.tail _ (.tail _ (.tail _ (.head _)))))))))))))))
      go_wp2_with fail
      refine Calls.mono HC.out ?_
      rintro e w42 ⟨N14, U14, Z14, T14, D14, C14, rfl, o14, q14, t14, hb, hcut⟩
      clear p00 p01 p02 p10 p11 p12
      clear HC
      obtain ⟨A14, K14, hs⟩ := own_slice' o14
      subst hs
      obtain ⟨B14, L14, hs⟩ := own_slice' q14
      subst hs
      have HT14 := hid t14
      have wz14 := t14.wx
      have wd14 := t14.wy
      obtain ⟨lz14, ld14⟩ := t14.len
      clear t14 hcut
      replace H := hid (H.out.later hb)
      replace HF := hid (HF.out.later hb HF.out.lt)
      clear hb
      replace H := hid (H.out.more o14)
      clear o14
      replace H := hid (H.out.more q14)
      clear q14
      have HE : Hid (N14 = n0 ∧ Z14 = xs0 ∧ D14 = ys0 ∧ C14 = 0) := HT14.out.lit (qErr_good R7.out.2.1 KB.out H0.out) wx0 wy0 KA.out (by rw [R7.out.2.2]; exact (rat_quo _ _ (rq_zero wx1 wy1 KB.out H0.out)).symm)
      clear HT14
      have hc14 : C14 = 0 := HE.out.2.2.2
      subst hc14
      replace H := hid (H.out.put N14 (.slice A14 Z14.length K14) (.slice B14 D14.length L14))
      replace HF := hid (HF.out.later (alloc_later w42 (.cells #[.bool N14, .slice A14 Z14.length K14, .slice B14 D14.length L14] 24)) HF.out.lt)
      have HSM := rSame_any N14 _ _ Z14 _ _ D14 n0 _ _ xs0 _ _ ys0 (w42.alloc (.cells #[.bool N14, .slice A14 Z14.length K14, .slice B14 D14.length L14] 24)) (H.out.sl wz14 (.tail _ (.head _))) (H.out.sl wd14 (.head _)) (S0.out.1.later H.out.bel) (S0.out.2.later H.out.bel) (by omega) (by omega) (by omega) (by omega)
      rw [decide_eq_true ⟨HE.out.1, HE.out.2.1, HE.out.2.2.1⟩] at HSM
      have HC := hid (HSM)
      obtain ⟨p00, p01, p02⟩ := H.out.get (.head _)
      obtain ⟨p10, p11, p12⟩ := H.out.get (.tail _ (.tail _ (.tail _ (.tail _ (.tail _ (.tail _ (.tail _ (.tail _ (.tail _ (.tail _ (.tail _ (.tail _ (.tail _ (.tail _ (.tail _ (.tail _ (.head _)))))))))))))))))
      go_wp2_with fail
      refine Calls.mono HC.out ?_
      generalize (w42.alloc (.cells #[.bool N14, .slice A14 Z14.length K14, .slice B14 D14.length L14] 24)) = V42 at *
      rintro e w43 ⟨rfl, hb⟩
      clear p00 p01 p02 p10 p11 p12
      clear HC
      replace H := hid (H.out.later hb)
      replace HF := hid (HF.out.later hb HF.out.lt)
      clear hb
      clear HSM hs0 hs1
      have HSM := rSame_any N1 _ _ Z1 _ _ D1 N2 _ _ Z2 _ _ D2 w43 (H.out.sl wz1 (.tail _ (.tail _ (.tail _ (.tail _ (.tail _ (.tail _ (.tail _ (.tail _ (.tail _ (.tail _ (.tail _ (.tail _ (.tail _ (.tail _ (.tail _ (.tail _ (.tail _ (.tail _ (.tail _ (.tail _ (.tail _ (.tail _ (.tail _ (.tail _ (.tail _ (.tail _ (.tail _ (.head _))))))))))))))))))))))))))))) (H.out.sl wd1 (.tail _ (.tail _ (.tail _ (.tail _ (.tail _ (.tail _ (.tail _ (.tail _ (.tail _ (.tail _ (.tail _ (.tail _ (.tail _ (.tail _ (.tail _ (.tail _ (.tail _ (.tail _ (.tail _ (.tail _ (.tail _ (.tail _ (.tail _ (.tail _ (.tail _ (.tail _ (.head _)))))))))))))))))))))))))))) (H.out.sl wz2 (.tail _ (.tail _ (.tail _ (.tail _ (.tail _ (.tail _ (.tail _ (.tail _ (.tail _ (.tail _ (.tail _ (.tail _ (.tail _ (.tail _ (.tail _ (.tail _ (.tail _ (.tail _ (.tail _ (.tail _ (.tail _ (.tail _ (.tail _ (.tail _ (.tail _ (.head _))))))))))))))))))))))))))) (H.out.sl wd2 (.tail _ (.tail _ (.tail _ (.tail _ (.tail _ (.tail _ (.tail _ (.tail _ (.tail _ (.tail _ (.tail _ (.tail _ (.tail _ (.tail _ (.tail _ (.tail _ (.tail _ (.tail _ (.tail _ (.tail _ (.tail _ (.tail _ (.tail _ (.tail _ (.head _)))))))))))))))))))))))))) (by omega) (by omega) (by omega) (by omega)
      rw [decide_eq_true (rq_inj wz1 wd1 wz2 wd2 R1.out.2.1 R2.out.2.1 Q1.out)] at HSM
      have HC := hid (HSM)
      obtain ⟨p00, p01, p02⟩ := H.out.get (.tail _ (.tail _ (.tail _ (.tail _ (.tail _ (.tail _ (.tail _ (.tail _ (.tail _ (.tail _ (.tail _ (.tail _ (.tail _ (.head _))))))))))))))
      obtain ⟨p10, p11, p12⟩ := H.out.get (.tail _ (.tail _ (.tail _ (.tail _ (.tail _ (.tail _ (.tail _ (.tail _ (.tail _ (.tail _ (.tail _ (.tail _ (.head _)))))))))))))
      go_wp2_with fail
      refine Calls.mono HC.out ?_
      rintro e w44 ⟨rfl, hb⟩
      clear p00 p01 p02 p10 p11 p12
      clear HC
      replace H := hid (H.out.later hb)
      replace HF := hid (HF.out.later hb HF.out.lt)
      clear hb
      clear HSM
      have HSM := rSame_any N3 _ _ Z3 _ _ D3 N5 _ _ Z5 _ _ D5 w44 (H.out.sl wz3 (.tail _ (.tail _ (.tail _ (.tail _ (.tail _ (.tail _ (.tail _ (.tail _ (.tail _ (.tail _ (.tail _ (.tail _ (.tail _ (.tail _ (.tail _ (.tail _ (.tail _ (.tail _ (.tail _ (.tail _ (.tail _ (.tail _ (.tail _ (.head _))))))))))))))))))))))))) (H.out.sl wd3 (.tail _ (.tail _ (.tail _ (.tail _ (.tail _ (.tail _ (.tail _ (.tail _ (.tail _ (.tail _ (.tail _ (.tail _ (.tail _ (.tail _ (.tail _ (.tail _ (.tail _ (.tail _ (.tail _ (.tail _ (.tail _ (.tail _ (.head _)))))))))))))))))))))))) (H.out.sl wz5 (.tail _ (.tail _ (.tail _ (.tail _ (.tail _ (.tail _ (.tail _ (.tail _ (.tail _ (.tail _ (.tail _ (.tail _ (.tail _ (.tail _ (.tail _ (.tail _ (.tail _ (.tail _ (.tail _ (.head _))))))))))))))))))))) (H.out.sl wd5 (.tail _ (.tail _ (.tail _ (.tail _ (.tail _ (.tail _ (.tail _ (.tail _ (.tail _ (.tail _ (.tail _ (.tail _ (.tail _ (.tail _ (.tail _ (.tail _ (.tail _ (.tail _ (.head _)))))))))))))))))))) (by omega) (by omega) (by omega) (by omega)
      rw [decide_eq_true (rq_inj wz3 wd3 wz5 wd5 R3.out.2.1 R5.out.2.1 Q2.out)] at HSM
      have HC := hid (HSM)
      obtain ⟨p00, p01, p02⟩ := H.out.get (.tail _ (.tail _ (.tail _ (.tail _ (.tail _ (.tail _ (.tail _ (.tail _ (.tail _ (.tail _ (.tail _ (.head _))))))))))))
      obtain ⟨p10, p11, p12⟩ := H.out.get (.tail _ (.tail _ (.tail _ (.tail _ (.tail _ (.tail _ (.tail _ (.tail _ (.tail _ (.head _))))))))))
      go_wp2_with fail
      refine Calls.mono HC.out ?_
      rintro e w45 ⟨rfl, hb⟩
      clear p00 p01 p02 p10 p11 p12
      clear HC
      replace H := hid (H.out.later hb)
      replace HF := hid (HF.out.later hb HF.out.lt)
      clear hb
      clear HSM
      have HSM := rSame_any N7 _ _ Z7 _ _ D7 N8 _ _ Z8 _ _ D8 w45 (H.out.sl wz7 (.tail _ (.tail _ (.tail _ (.tail _ (.tail _ (.tail _ (.tail _ (.tail _ (.tail _ (.tail _ (.tail _ (.tail _ (.tail _ (.tail _ (.tail _ (.head _))))))))))))))))) (H.out.sl wd7 (.tail _ (.tail _ (.tail _ (.tail _ (.tail _ (.tail _ (.tail _ (.tail _ (.tail _ (.tail _ (.tail _ (.tail _ (.tail _ (.tail _ (.head _)))))))))))))))) (H.out.sl wz8 (.tail _ (.tail _ (.tail _ (.tail _ (.tail _ (.tail _ (.tail _ (.tail _ (.tail _ (.tail _ (.tail _ (.tail _ (.tail _ (.head _))))))))))))))) (H.out.sl wd8 (.tail _ (.tail _ (.tail _ (.tail _ (.tail _ (.tail _ (.tail _ (.tail _ (.tail _ (.tail _ (.tail _ (.tail _ (.head _)))))))))))))) (by omega) (by omega) (by omega) (by omega)
      rw [decide_eq_true (rq_inj wz7 wd7 wz8 wd8 R7.out.2.1 R8.out.2.1 Q3.out)] at HSM
      have HC := hid (HSM)
      obtain ⟨p00, p01, p02⟩ := H.out.get (.tail _ (.tail _ (.tail _ (.tail _ (.tail _ (.tail _ (.tail _ (.head _))))))))
      obtain ⟨p10, p11, p12⟩ := H.out.get (.tail _ (.tail _ (.tail _ (.tail _ (.tail _ (.tail _ (.head _)))))))
      go_wp2_with fail
      refine Calls.mono HC.out ?_
      rintro e w46 ⟨rfl, hb⟩
      clear p00 p01 p02 p10 p11 p12
      clear HC
      replace H := hid (H.out.later hb)
      replace HF := hid (HF.out.later hb HF.out.lt)
      clear hb
      clear HSM
      have HSM := rSame_any N6 _ _ Z6 _ _ D6 N10 _ _ Z10 _ _ D10 w46 (H.out.sl wz6 (.tail _ (.tail _ (.tail _ (.tail _ (.tail _ (.tail _ (.tail _ (.tail _ (.tail _ (.tail _ (.tail _ (.tail _ (.tail _ (.tail _ (.tail _ (.tail _ (.tail _ (.head _))))))))))))))))))) (H.out.sl wd6 (.tail _ (.tail _ (.tail _ (.tail _ (.tail _ (.tail _ (.tail _ (.tail _ (.tail _ (.tail _ (.tail _ (.tail _ (.tail _ (.tail _ (.tail _ (.tail _ (.head _)))))))))))))))))) (H.out.sl wz10 (.tail _ (.tail _ (.tail _ (.tail _ (.tail _ (.tail _ (.tail _ (.tail _ (.tail _ (.head _))))))))))) (H.out.sl wd10 (.tail _ (.tail _ (.tail _ (.tail _ (.tail _ (.tail _ (.tail _ (.tail _ (.head _)))))))))) (by omega) (by omega) (by omega) (by omega)
      rw [decide_eq_true (rq_inj wz6 wd6 wz10 wd10 R6.out.2.1 R10.out.2.1 Q4.out)] at HSM
      have HC := hid (HSM)
      obtain ⟨p00, p01, p02⟩ := H.out.get (.tail _ (.tail _ (.tail _ (.tail _ (.tail _ (.tail _ (.tail _ (.tail _ (.head _)))))))))
      obtain ⟨p10, p11, p12⟩ := H.out.get (.tail _ (.tail _ (.tail _ (.tail _ (.head _)))))
      go_wp2_with fail
      refine Calls.mono HC.out ?_
      rintro e w47 ⟨rfl, hb⟩
      clear p00 p01 p02 p10 p11 p12
      clear HC
      replace H := hid (H.out.later hb)
      replace HF := hid (HF.out.later hb HF.out.lt)
      clear hb
      clear HSM
      have HSM := rSame_any N11 _ _ Z11 _ _ D11 n0 _ _ xs0 _ _ ys0 w47 (H.out.sl wz11 (.tail _ (.tail _ (.tail _ (.tail _ (.tail _ (.tail _ (.tail _ (.head _))))))))) (H.out.sl wd11 (.tail _ (.tail _ (.tail _ (.tail _ (.tail _ (.tail _ (.head _)))))))) (S0.out.1.later H.out.bel) (S0.out.2.later H.out.bel) (by omega) (by omega) (by omega) (by omega)
      rw [decide_eq_true (rq_inj wz11 wd11 wx0 wy0 R11.out.2.1 KA.out Q5.out)] at HSM
      have HC := hid (HSM)
      obtain ⟨p00, p01, p02⟩ := H.out.get (.tail _ (.tail _ (.tail _ (.head _))))
      obtain ⟨p10, p11, p12⟩ := H.out.get (.tail _ (.tail _ (.tail _ (.tail _ (.tail _ (.tail _ (.tail _ (.tail _ (.tail _ (.tail _ (.tail _ (.tail _ (.tail _ (.tail _ (.tail _ (.tail _ (.head _)))))))))))))))))
      go_wp2_with fail
      refine Calls.mono HC.out ?_
      rintro e w48 ⟨rfl, hb⟩
      clear p00 p01 p02 p10 p11 p12
      clear HC
      replace H := hid (H.out.later hb)
      replace HF := hid (HF.out.later hb HF.out.lt)
      clear hb
      clear HSM
      have HSM := rSame_any N13 _ _ Z13 _ _ D13 n0 _ _ xs0 _ _ ys0 w48 (H.out.sl wz13 (.tail _ (.tail _ (.tail _ (.head _))))) (H.out.sl wd13 (.tail _ (.tail _ (.head _)))) (S0.out.1.later H.out.bel) (S0.out.2.later H.out.bel) (by omega) (by omega) (by omega) (by omega)
      rw [decide_eq_true (rq_inj wz13 wd13 wx0 wy0 R13.out.2.1 KA.out Q6.out)] at HSM
      have HC := hid (HSM)
      obtain ⟨p00, p01, p02⟩ := H.out.get (.tail _ (.head _))
      obtain ⟨p10, p11, p12⟩ := H.out.get (.tail _ (.tail _ (.tail _ (.tail _ (.tail _ (.tail _ (.tail _ (.tail _ (.tail _ (.tail _ (.tail _ (.tail _ (.tail _ (.tail _ (.tail _ (.tail _ (.head _)))))))))))))))))
      go_wp2_with fail
      refine Calls.mono HC.out ?_
      rintro e w49 ⟨rfl, hb⟩
      clear p00 p01 p02 p10 p11 p12
      clear HC
      replace H := hid (H.out.later hb)
      replace HF := hid (HF.out.later hb HF.out.lt)
      clear hb
      clear HSM
      go_wp2_with fail
      go_ret
      exact ⟨rfl, H.out.bel⟩

theorem ratioField_in (n0 : Bool) (a0 : Option Addr) (k0 ca0 : Nat) (xs0 : List Int) (b0 : Option Addr) (l0 cb0 : Nat) (ys0 : List Int) (n1 : Bool) (a1 : Option Addr) (k1 ca1 : Nat) (xs1 : List Int) (b1 : Option Addr) (l1 cb1 : Nat) (ys1 : List Int) (n2 : Bool) (a2 : Option Addr) (k2 ca2 : Nat) (xs2 : List Int) (b2 : Option Addr) (l2 cb2 : Nat) (ys2 : List Int) (w : World) (h0 : Reads w w.heap.size a0 k0 ca0 xs0) (g0 : Reads w w.heap.size b0 l0 cb0 ys0) (h1 : Reads w w.heap.size a1 k1 ca1 xs1) (g1 : Reads w w.heap.size b1 l1 cb1 ys1) (h2 : Reads w w.heap.size a2 k2 ca2 xs2) (g2 : Reads w w.heap.size b2 l2 cb2 ys2) (htab : Tab w) :
    Calls Tryz.prog 3 #[.agg #[.bool n0, .slice a0 k0 ca0, .slice b0 l0 cb0], .agg #[.bool n1, .slice a1 k1 ca1, .slice b1 l1 cb1], .agg #[.bool n2, .slice a2 k2 ca2, .slice b2 l2 cb2]] w fun e w' => e = .returned (.bool true) ∧ Below w.heap.size w w' := by
  have e0 := h0.1
  have f0 := g0.1
  subst e0
  subst f0
  have e1 := h1.1
  have f1 := g1.1
  subst e1
  subst f1
  have e2 := h2.1
  have f2 := g2.1
  subst e2
  subst f2
  exact ratioField_walk n0 a0 ca0 xs0 b0 cb0 ys0 n1 a1 ca1 xs1 b1 cb1 ys1 n2 a2 ca2 xs2 b2 cb2 ys2 w ⟨_, _, rfl, h0⟩ ⟨_, _, rfl, g0⟩ ⟨_, _, rfl, h1⟩ ⟨_, _, rfl, g1⟩ ⟨_, _, rfl, h2⟩ ⟨_, _, rfl, g2⟩ htab
end Go.Proofs.YtoaabbcikmlbiaaGreatDoor

/- Orders of fractions: signs, comparisons, floors, in whole numbers. -/
namespace Go.Proofs.YtoaabbcikmlbiaaGreatDoor
open Go.RowKit
set_option linter.unusedVariables false

theorem cmpI_neg (x y : Int) : cmpI y x = -cmpI x y := by
  unfold cmpI
  by_cases h1 : x < y
  · rw [if_pos h1, if_neg (by omega), if_pos h1]; rfl
  · by_cases h2 : y < x
    · rw [if_pos h2, if_neg h1, if_pos h2]
    · rw [if_neg h1, if_neg h1, if_neg h2, if_neg h2]; rfl
theorem cmpI_range (x y : Int) : -1 ≤ cmpI x y ∧ cmpI x y ≤ 1 := by
  unfold cmpI
  split
  · omega
  · split <;> omega
theorem cmpI_zero {x y : Int} : cmpI x y = 0 ↔ x = y := by
  unfold cmpI
  split
  · omega
  · split <;> omega
theorem cmpI_le {x y : Int} (h : x ≤ y) : cmpI x y ≤ 0 := by
  unfold cmpI
  split
  · omega
  · split <;> omega
theorem floor_fits {X Y L : Int} (hY : 0 < Y) (h1 : -L < X) (h2 : X < L) : -L < X / Y ∧ X / Y < L := by
  by_cases c : 0 ≤ X
  · have a1 := Int.ediv_nonneg c (Int.le_of_lt hY)
    have a2 := Int.ediv_le_self Y c
    omega
  · have a1 : X / Y < 0 := Int.ediv_neg_of_neg_of_pos (by omega) hY
    have a2 : X ≤ X / Y := by
      rw [Int.le_ediv_iff_mul_le hY]
      have t : X * (Y - 1) ≤ 0 := Int.mul_nonpos_of_nonpos_of_nonneg (by omega) (by omega)
      rw [Int.mul_sub, Int.mul_one] at t
      omega
    omega
theorem wval_lim {n : Bool} {xs : List Int} (wx : Wd xs) (lx : xs.length ≤ 2048) : -wlim < wval n xs ∧ wval n xs < wlim := by
  have h0 := val_nonneg wx
  have h1 : val xs < wlim := below2048 wx lx
  cases n
  · show -wlim < val xs ∧ val xs < wlim; omega
  · show -wlim < -val xs ∧ -val xs < wlim; omega
theorem rq_cross {n m : Bool} {xs ys us vs : List Int} (hy : 0 < val ys) (hv : 0 < val vs) : rq n xs ys = rq m us vs ↔ wval n xs * val vs = wval m us * val ys := by
  unfold rq
  exact Rat.divInt_eq_divInt_iff (by omega) (by omega)
theorem less_cross {n m k : Bool} {xs ys us vs zs ds : List Int} (hy : 0 < val ys) (hv : 0 < val vs) (hd : 0 < val ds) (h : rq k zs ds = rq n xs ys - rq m us vs) : wval k zs * (val ys * val vs) = (wval n xs * val vs - wval m us * val ys) * val ds := by
  unfold rq at h
  rw [Rat.divInt_sub_divInt _ _ (by omega) (by omega)] at h
  exact (Rat.divInt_eq_divInt_iff (by omega) (by have := Int.mul_pos hy hv; omega)).1 h
theorem sign_cmp {k : Bool} {zs ds : List Int} (wz : Wd zs) (hk : rchk k zs ds = 0) {P Q A B : Int} (hP : 0 < P) (hQ : 0 < Q) (h : wval k zs * P = (A - B) * Q) : rsgn k zs ds = cmpI A B := by
  obtain ⟨_, _, tz, _, _, s0, _⟩ := rchk_ok hk
  unfold rsgn
  rw [if_pos hk]
  by_cases c : zs.length = 0
  · rw [if_pos c]
    obtain rfl := List.length_eq_zero_iff.1 c
    have e : wval k [] = 0 := by cases k <;> simp [wval, val, valTo]
    rw [e, Int.zero_mul] at h
    have e2 : A - B = 0 := by
      rcases Int.mul_eq_zero.1 h.symm with h | h
      · exact h
      · omega
    exact (cmpI_eq (by omega)).symm
  · rw [if_neg c]
    have hp := val_pos' wz tz (by omega)
    cases k with
    | false =>
      have t : 0 < wval false zs * P := Int.mul_pos hp hP
      rw [h] at t
      have t2 : 0 < A - B := by
        by_cases d : 0 < A - B
        · exact d
        · have := Int.mul_nonpos_of_nonpos_of_nonneg (show A - B ≤ 0 by omega) (Int.le_of_lt hQ)
          omega
      rw [if_neg (by decide)]
      exact (cmpI_gt (by omega)).symm
    | true =>
      have t0 : 0 < val zs * P := Int.mul_pos hp hP
      have t : wval true zs * P = -(val zs * P) := by show -val zs * P = _; rw [Int.neg_mul]
      rw [h] at t
      have t2 : A - B < 0 := by
        by_cases d : A - B < 0
        · exact d
        · have := Int.mul_nonneg (show 0 ≤ A - B by omega) (Int.le_of_lt hQ)
          omega
      rw [if_pos rfl]
      exact (cmpI_lt (by omega)).symm
/-- A whole number as a fraction. -/
theorem whole_chk {n : Bool} {zs : List Int} (wz : Wd zs) (tz : Trimmed zs) (s : n = false ∨ 0 < zs.length) (lz : zs.length ≤ 2048) : rchk n zs [1] = 0 := by
  refine rchk_good lz (by simp) tz rfl (by simp) s ?_
  rw [show val [1] = 1 by simp [val, valTo]]
  unfold gcdI
  simp
theorem floor_cmp {X Y F : Int} (hY : 0 < Y) (hF : F = X / Y) : cmpI (F * Y) (X * 1) ≤ 0 := by
  subst hF
  rw [Int.mul_one]
  exact cmpI_le (Int.ediv_mul_le X (by omega))
theorem next_cmp {X Y F W D : Int} (hY : 0 < Y) (hD : 0 < D) (hF : F = X / Y) (h : W = (F + 1) * D) : cmpI (X * D) (W * Y) = -1 := by
  subst hF
  apply cmpI_lt
  have t := Int.lt_ediv_add_one_mul_self X hY
  have t2 := Int.mul_lt_mul_of_pos_right t hD
  rw [h]
  have e : (X / Y + 1) * D * Y = (X / Y + 1) * Y * D := by rw [Int.mul_assoc, Int.mul_comm D Y, ← Int.mul_assoc]
  rw [e]
  exact t2
theorem rq_whole {k : Bool} {zs ds : List Int} {F : Int} (hd : 0 < val ds) (h : rq k zs ds = Rat.divInt F 1) : wval k zs = F * val ds := by
  unfold rq at h
  have e := (Rat.divInt_eq_divInt_iff (by omega) (by decide)).1 h
  rw [Int.mul_one] at e
  exact e
end Go.Proofs.YtoaabbcikmlbiaaGreatDoor

/- The law RatioOrder answers true, and writes nothing that was there: whatever two fractions come in. -/
namespace Go.Proofs.YtoaabbcikmlbiaaGreatDoor
open Go.RowKit Go.Lib
set_option linter.unusedVariables false

theorem rboth_turn {n m : Bool} {xs ys us vs : List Int} (h : rboth n xs ys m us vs ≠ 0) : rboth m us vs n xs ys ≠ 0 := fun e => h (rboth_good (rboth_ok e).2 (rboth_ok e).1)
theorem sl_lit (W : World) (x : Int) (hx : 0 ≤ x ∧ x ≤ 4294967295) : Sl (W.alloc (.cells #[.int .u32 x] 44)) (.slice (some ⟨W.heap.size, 0, none⟩) 1 1) [x] :=
  Sl.own (base := W.heap.size) (xs := [x]) ⟨rfl, .inr ⟨W.heap.size, 1, #[.int .u32 x], rfl, Nat.le_refl _, heap_alloc_new W _, Nat.le_refl _, by decide, rfl, rfl⟩⟩ (wdn x hx)
theorem make_whole {n : Bool} {zs : List Int} (h : wchk n zs = 0) : mkErr n zs false [1] = 0 := by
  unfold mkErr
  rw [wboth_good h (wchk_good (n := false) (xs := [1]) (by simp) rfl (.inl rfl)), if_pos rfl, if_neg (by simp)]
theorem zbr {w V : World} (hb : Below (w.alloc (.cells #[.bool false, .slice none 0 0, .slice none 0 0] 24)).heap.size (w.alloc (.cells #[.bool false, .slice none 0 0, .slice none 0 0] 24)) V) : Box V w.heap.size 24 #[.bool false, .slice none 0 0, .slice none 0 0] := (Box.made w 24 _).later hb (by simp)
theorem Box.c3 {U : World} {b t : Nat} {u0 u1 u2 : Value} (h : Box U b t #[u0, u1, u2]) : U.cell? ⟨b, 0, none⟩ = some u0 ∧ U.cell? ⟨b, 1, none⟩ = some u1 ∧ U.cell? ⟨b, 2, none⟩ = some u2 ∧ U.frozen? ⟨b, 0, none⟩ = false ∧ U.frozen? ⟨b, 1, none⟩ = false ∧ U.frozen? ⟨b, 2, none⟩ = false := ⟨h.cell 0, h.cell 1, h.cell 2, h.free 0, h.free 1, h.free 2⟩
theorem nes1 {p q : Nat} (h : p < q) : ¬ p = q ∧ ¬ q = p := by omega
/-- Two rows of the call's own. -/
def Fr (X U : World) (v u : Value) (zs ds : List Int) : Prop := U.ownsRow X.heap.size 44 1 v zs.length (zs.map (Value.int .u32)) ∧ U.ownsRow X.heap.size 44 1 u ds.length (ds.map (Value.int .u32))
theorem Fr.later {X U U' : World} {v u : Value} {zs ds : List Int} (h : Fr X U v u zs ds) (hb : Below U.heap.size U U') : Fr X U' v u zs ds := ⟨owns_later h.1 hb, owns_later h.2 hb⟩
def Nx (V wx : World) (p : Nat) (n : Bool) (v u : Value) (zs ds : List Int) : Prop := Box wx p 24 #[.bool n, v, u] ∧ Fr V wx v u zs ds ∧ Below V.heap.size V wx
theorem nx_old {V W : World} {p : Nat} {n : Bool} {v u : Value} {zs ds : List Int} (h : Fr V W v u zs ds) (hb : Below V.heap.size V W) (b : Box W p 24 #[.bool false, .slice none 0 0, .slice none 0 0]) (lp : V.heap.size ≤ p) : Nx V (((W.setCell ⟨p, 0, none⟩ (.bool n)).setCell ⟨p, 1, none⟩ v).setCell ⟨p, 2, none⟩ u) p n v u zs ds :=
  ⟨((b.set 0 _).set 1 _).set 2 _, ⟨own_put3 h.1 p (own_ne_box h.1 b (by decide)) _ _ _, own_put3 h.2 p (own_ne_box h.2 b (by decide)) _ _ _⟩, below_put3 hb p lp _ _ _⟩
theorem nx_new {V W : World} {n : Bool} {v u : Value} {zs ds : List Int} (h : Fr V W v u zs ds) (hb : Below V.heap.size V W) : Nx V (W.alloc (.cells #[.bool n, v, u] 24)) W.heap.size n v u zs ds :=
  ⟨Box.made W _ _, h.later (alloc_later _ _), bt hb (alloc_later _ _)⟩
theorem St.cons {w W : World} {l : List (Nat × Array Value)} {r : List (Nat × Value × List Int)} (h : St w W l r) {g : Nat} {vs : Array Value} (b : Box W g 24 vs) : St w W ((g, vs) :: l) r :=
  ⟨fun p hp => by
    cases hp with
    | head => exact b
    | tail _ hp => exact h.box p hp, h.row, h.bel⟩
theorem k11 : rchk false [1] [1] = 0 := chk_lit _ _ _ (by decide) (by decide) (by decide)
theorem q11 : rq false [1] [1] = Rat.divInt 1 1 := rq_lit _ _ _
theorem next_q {n : Bool} {zs : List Int} : rq n zs [1] + rq false [1] [1] = Rat.divInt (wval n zs + 1) 1 := by
  rw [q11]
  unfold rq
  rw [show val [1] = 1 by simp [val, valTo], Rat.divInt_add_divInt _ _ (by decide) (by decide)]
  simp

set_option maxHeartbeats 25600000 in
set_option maxRecDepth 100000 in
theorem ratioOrder_bad (n0 : Bool) (a0 : Option Addr) (ca0 : Nat) (xs0 : List Int) (b0 : Option Addr) (cb0 : Nat) (ys0 : List Int) (n1 : Bool) (a1 : Option Addr) (ca1 : Nat) (xs1 : List Int) (b1 : Option Addr) (cb1 : Nat) (ys1 : List Int) (w : World) (s0 : Sl w (.slice a0 xs0.length ca0) xs0) (t0 : Sl w (.slice b0 ys0.length cb0) ys0) (s1 : Sl w (.slice a1 xs1.length ca1) xs1) (t1 : Sl w (.slice b1 ys1.length cb1) ys1) (htab : Tab w) (hB : rboth n0 xs0 ys0 n1 xs1 ys1 ≠ 0) :
    Calls Tryz.prog 4 #[.agg #[.bool n0, .slice a0 xs0.length ca0, .slice b0 ys0.length cb0], .agg #[.bool n1, .slice a1 xs1.length ca1, .slice b1 ys1.length cb1]] w fun e w' => e = .returned (.bool true) ∧ Below w.heap.size w w' := by
  have wx0 := s0.wd
  have wy0 := t0.wd
  have S0 := hid (And.intro s0 t0)
  clear s0 t0
  have wx1 := s1.wd
  have wy1 := t1.wd
  have S1 := hid (And.intro s1 t1)
  clear s1 t1
  have H0 : St w w [] [] := ⟨(fun p hp => by cases hp), (fun p hp => by cases hp), Below.refl _ _⟩
  have H := (H0.put n0 (.slice a0 xs0.length ca0) (.slice b0 ys0.length cb0)).put n1 (.slice a1 xs1.length ca1) (.slice b1 ys1.length cb1)
  rw [show (w.alloc (.cells #[.bool n0, .slice a0 xs0.length ca0, .slice b0 ys0.length cb0] 24)).heap.size = w.heap.size + 1 by simp] at H
  replace H := hid H
  have HTAB := hid htab
  clear htab H0
  have RB := hid hB
  have RC := hid (rboth_turn hB)
  obtain ⟨e1, he1⟩ : ∃ e, rboth n0 xs0 ys0 n1 xs1 ys1 = e := ⟨_, rfl⟩
  obtain ⟨e2, he2⟩ : ∃ e, rboth n1 xs1 ys1 n0 xs0 ys0 = e := ⟨_, rfl⟩
  have h1 : (e1 != 0) = true := bne_iff_ne.2 (by rw [← he1]; exact hB)
  have h1b : (e1 == 0) = false := beq_eq_false_iff_ne.2 (by rw [← he1]; exact hB)
  have HE := hid (And.intro he1 he2)
  clear hB he1 he2
  go_enter Tryz.func4, Tryz.ntmps4
  have HC := hid (rawake_any ((w.alloc (.cells #[.bool n0, .slice a0 xs0.length ca0, .slice b0 ys0.length cb0] 24)).alloc (.cells #[.bool n1, .slice a1 xs1.length ca1, .slice b1 ys1.length cb1] 24)) (HTAB.out.later H.out.bel))
  go_wp2_with fail
  refine Calls.mono HC.out ?_
  generalize ((w.alloc (.cells #[.bool n0, .slice a0 xs0.length ca0, .slice b0 ys0.length cb0] 24)).alloc (.cells #[.bool n1, .slice a1 xs1.length ca1, .slice b1 ys1.length cb1] 24)) = X at *
  rintro e w1 ⟨rfl, hb⟩
  clear HC
  replace H := hid (H.out.later hb)
  clear hb
  have HK := rCompare_full n0 _ _ xs0 _ _ ys0 n1 _ _ xs1 _ _ ys1 w1 (S0.out.1.later H.out.bel) (S0.out.2.later H.out.bel) (S1.out.1.later H.out.bel) (S1.out.2.later H.out.bel)
  rw [show rcmp n0 xs0 ys0 n1 xs1 ys1 = 0 by unfold rcmp; rw [if_neg RB.out], HE.out.1] at HK
  have HC := hid (HK)
  obtain ⟨p00, p01, p02⟩ := H.out.get (.tail _ (.head _))
  obtain ⟨p10, p11, p12⟩ := H.out.get (.head _)
  go_wp2_with fail
  refine Calls.mono HC.out ?_
  rintro e w2 ⟨rfl, hb⟩
  clear p00 p01 p02 p10 p11 p12
  clear HC
  replace H := hid (H.out.later hb)
  clear hb
  clear HK
  have HK := rCompare_full n1 _ _ xs1 _ _ ys1 n0 _ _ xs0 _ _ ys0 w2 (S1.out.1.later H.out.bel) (S1.out.2.later H.out.bel) (S0.out.1.later H.out.bel) (S0.out.2.later H.out.bel)
  rw [show rcmp n1 xs1 ys1 n0 xs0 ys0 = 0 by unfold rcmp; rw [if_neg RC.out], HE.out.2] at HK
  have HC := hid (HK)
  obtain ⟨p00, p01, p02⟩ := H.out.get (.head _)
  obtain ⟨p10, p11, p12⟩ := H.out.get (.tail _ (.head _))
  go_wp2_with fail
  refine Calls.mono HC.out ?_
  rintro e w3 ⟨rfl, hb⟩
  clear p00 p01 p02 p10 p11 p12
  clear HC
  replace H := hid (H.out.later hb)
  clear hb
  clear HK
  by_cases hA : rchk n0 xs0 ys0 = 0
  · have HK := rcheck_any n0 _ xs0 _ ys0 w3 (S0.out.1.later H.out.bel) (S0.out.2.later H.out.bel)
    rw [hA] at HK
    have HC := hid (HK)
    obtain ⟨p00, p01, p02⟩ := H.out.get (.tail _ (.head _))
    go_wp2_with fail
    refine Calls.mono HC.out ?_
    rintro e w4 ⟨rfl, hb⟩
    clear p00 p01 p02
    clear HC
    replace H := hid (H.out.later hb)
    clear hb
    clear HK
    obtain ⟨e3, he3⟩ : ∃ e, rchk n1 xs1 ys1 = e := ⟨_, rfl⟩
    have h3 : (e3 != 0) = true := bne_iff_ne.2 (by rw [← he3]; exact fun h => RB.out (rboth_good hA h))
    have h3b : (e3 == 0) = false := beq_eq_false_iff_ne.2 (by rw [← he3]; exact fun h => RB.out (rboth_good hA h))
    have HK := rcheck_any n1 _ xs1 _ ys1 w4 (S1.out.1.later H.out.bel) (S1.out.2.later H.out.bel)
    rw [he3] at HK
    clear he3 hA
    have HC := hid (HK)
    obtain ⟨p00, p01, p02⟩ := H.out.get (.head _)
    go_wp2_with fail
    refine Calls.mono HC.out ?_
    rintro e w5 ⟨rfl, hb⟩
    clear p00 p01 p02
    clear HC
    replace H := hid (H.out.later hb)
    clear hb
    clear HK
    go_wp2_with fail
    go_ret
    exact ⟨rfl, H.out.bel⟩
  · obtain ⟨e3, he3⟩ : ∃ e, rchk n0 xs0 ys0 = e := ⟨_, rfl⟩
    have h3 : (e3 != 0) = true := bne_iff_ne.2 (by rw [← he3]; exact hA)
    have h3b : (e3 == 0) = false := beq_eq_false_iff_ne.2 (by rw [← he3]; exact hA)
    have HK := rcheck_any n0 _ xs0 _ ys0 w3 (S0.out.1.later H.out.bel) (S0.out.2.later H.out.bel)
    rw [he3] at HK
    clear he3 hA
    have HC := hid (HK)
    obtain ⟨p00, p01, p02⟩ := H.out.get (.tail _ (.head _))
    go_wp2_with fail
    refine Calls.mono HC.out ?_
    rintro e w4 ⟨rfl, hb⟩
    clear p00 p01 p02
    clear HC
    replace H := hid (H.out.later hb)
    clear hb
    clear HK
    go_wp2_with fail
    go_ret
    exact ⟨rfl, H.out.bel⟩

set_option maxHeartbeats 25600000 in
set_option maxRecDepth 100000 in
theorem ratioOrder_good (n0 : Bool) (a0 : Option Addr) (ca0 : Nat) (xs0 : List Int) (b0 : Option Addr) (cb0 : Nat) (ys0 : List Int) (n1 : Bool) (a1 : Option Addr) (ca1 : Nat) (xs1 : List Int) (b1 : Option Addr) (cb1 : Nat) (ys1 : List Int) (w : World) (s0 : Sl w (.slice a0 xs0.length ca0) xs0) (t0 : Sl w (.slice b0 ys0.length cb0) ys0) (s1 : Sl w (.slice a1 xs1.length ca1) xs1) (t1 : Sl w (.slice b1 ys1.length cb1) ys1) (htab : Tab w) (hB : rboth n0 xs0 ys0 n1 xs1 ys1 = 0) :
    Calls Tryz.prog 4 #[.agg #[.bool n0, .slice a0 xs0.length ca0, .slice b0 ys0.length cb0], .agg #[.bool n1, .slice a1 xs1.length ca1, .slice b1 ys1.length cb1]] w fun e w' => e = .returned (.bool true) ∧ Below w.heap.size w w' := by
  have wx0 := s0.wd
  have wy0 := t0.wd
  have S0 := hid (And.intro s0 t0)
  clear s0 t0
  have wx1 := s1.wd
  have wy1 := t1.wd
  have S1 := hid (And.intro s1 t1)
  clear s1 t1
  have H0 : St w w [] [] := ⟨(fun p hp => by cases hp), (fun p hp => by cases hp), Below.refl _ _⟩
  have H := (H0.put n0 (.slice a0 xs0.length ca0) (.slice b0 ys0.length cb0)).put n1 (.slice a1 xs1.length ca1) (.slice b1 ys1.length cb1)
  rw [show (w.alloc (.cells #[.bool n0, .slice a0 xs0.length ca0, .slice b0 ys0.length cb0] 24)).heap.size = w.heap.size + 1 by simp] at H
  replace H := hid H
  have HTAB := hid htab
  clear htab H0
  have KA := hid (rboth_ok hB).1
  have KB := hid (rboth_ok hB).2
  have RB := hid hB
  have RC := hid (rboth_good KB.out KA.out)
  clear hB
  obtain ⟨lx0, ly0, _, ty0, yp0, _, _⟩ := rchk_ok KA.out
  obtain ⟨lx1, ly1, _, ty1, yp1, _, _⟩ := rchk_ok KB.out
  have PY := hid (val_pos' wy0 ty0 yp0)
  have PV := hid (val_pos' wy1 ty1 yp1)
  clear ty0 ty1 yp0 yp1
  obtain ⟨cc, hcc⟩ : ∃ c, cmpI (wval n0 xs0 * val ys1) (wval n1 xs1 * val ys0) = c := ⟨_, rfl⟩
  have HR := cmpI_range (wval n0 xs0 * val ys1) (wval n1 xs1 * val ys0)
  rw [hcc] at HR
  obtain ⟨r1, r2⟩ := HR
  have r3 : ¬ cc < -1 := by omega
  have r4 : ¬ 1 < cc := by omega
  have c1 : rcmp n0 xs0 ys0 n1 xs1 ys1 = cc := by unfold rcmp; rw [if_pos RB.out, hcc]
  have c2 : rcmp n1 xs1 ys1 n0 xs0 ys0 = -cc := by unfold rcmp; rw [if_pos RC.out, cmpI_neg, hcc]
  have r5 : IntKind.i64.wrap (- -cc) = cc := by rw [IntKind.wrap_i64]; omega
  have HSD : Hid (decide (n0 = n1 ∧ xs0 = xs1 ∧ ys0 = ys1) = (cc == 0)) := by
    show _ = _
    by_cases e : cc = 0
    · rw [e]; exact decide_eq_true (rq_inj wx0 wy0 wx1 wy1 KA.out KB.out ((rq_cross PY.out PV.out).2 (cmpI_zero.1 (hcc.trans e))))
    · rw [beq_eq_false_iff_ne.2 e]; exact decide_eq_false (fun t => e (hcc.symm.trans (cmpI_zero.2 (by rw [t.1, t.2.1, t.2.2]))))
  have HCC := hid hcc
  clear hcc
  go_enter Tryz.func4, Tryz.ntmps4
  have HC := hid (rawake_any ((w.alloc (.cells #[.bool n0, .slice a0 xs0.length ca0, .slice b0 ys0.length cb0] 24)).alloc (.cells #[.bool n1, .slice a1 xs1.length ca1, .slice b1 ys1.length cb1] 24)) (HTAB.out.later H.out.bel))
  go_wp2_with fail
  refine Calls.mono HC.out ?_
  generalize ((w.alloc (.cells #[.bool n0, .slice a0 xs0.length ca0, .slice b0 ys0.length cb0] 24)).alloc (.cells #[.bool n1, .slice a1 xs1.length ca1, .slice b1 ys1.length cb1] 24)) = X at *
  rintro e w1 ⟨rfl, hb⟩
  clear HC
  replace H := hid (H.out.later hb)
  clear hb
  have HK := rCompare_full n0 _ _ xs0 _ _ ys0 n1 _ _ xs1 _ _ ys1 w1 (S0.out.1.later H.out.bel) (S0.out.2.later H.out.bel) (S1.out.1.later H.out.bel) (S1.out.2.later H.out.bel)
  rw [c1, RB.out] at HK
  have HC := hid (HK)
  obtain ⟨p00, p01, p02⟩ := H.out.get (.tail _ (.head _))
  obtain ⟨p10, p11, p12⟩ := H.out.get (.head _)
  go_wp2_with fail
  refine Calls.mono HC.out ?_
  rintro e w2 ⟨rfl, hb⟩
  clear p00 p01 p02 p10 p11 p12
  clear HC
  replace H := hid (H.out.later hb)
  clear hb
  clear HK
  have HK := rCompare_full n1 _ _ xs1 _ _ ys1 n0 _ _ xs0 _ _ ys0 w2 (S1.out.1.later H.out.bel) (S1.out.2.later H.out.bel) (S0.out.1.later H.out.bel) (S0.out.2.later H.out.bel)
  rw [c2, RC.out] at HK
  have HC := hid (HK)
  obtain ⟨p00, p01, p02⟩ := H.out.get (.head _)
  obtain ⟨p10, p11, p12⟩ := H.out.get (.tail _ (.head _))
  go_wp2_with fail
  refine Calls.mono HC.out ?_
  rintro e w3 ⟨rfl, hb⟩
  clear p00 p01 p02 p10 p11 p12
  clear HC
  replace H := hid (H.out.later hb)
  clear hb
  clear HK c1 c2
  have HC := hid (rSub_full n0 _ _ xs0 _ _ ys0 n1 _ _ xs1 _ _ ys1 w3 (S0.out.1.later H.out.bel) (S0.out.2.later H.out.bel) (S1.out.1.later H.out.bel) (S1.out.2.later H.out.bel))
  obtain ⟨p00, p01, p02⟩ := H.out.get (.tail _ (.head _))
  obtain ⟨p10, p11, p12⟩ := H.out.get (.head _)
  go_wp2_with fail
  refine Calls.mono HC.out ?_
  rintro e w4 ⟨N1, U1, Z1, T1, D1, C1, rfl, o1, q1, t1, hb, hcut⟩
  clear p00 p01 p02 p10 p11 p12
  clear HC
  obtain ⟨A1, K1, hs⟩ := own_slice' o1
  subst hs
  obtain ⟨B1, L1, hs⟩ := own_slice' q1
  subst hs
  have HT1 := hid t1
  have wz1 := t1.wx
  have wd1 := t1.wy
  obtain ⟨lz1, ld1⟩ := t1.len
  clear t1 hcut
  replace H := hid (H.out.later hb)
  clear hb
  replace H := hid (H.out.more o1)
  clear o1
  replace H := hid (H.out.more q1)
  clear q1
  rw [RB.out] at HT1
  replace H := hid (H.out.put N1 (.slice A1 Z1.length K1) (.slice B1 D1.length L1))
  have HSM := rSame_any n0 _ _ xs0 _ _ ys0 n1 _ _ xs1 _ _ ys1 (w4.alloc (.cells #[.bool N1, .slice A1 Z1.length K1, .slice B1 D1.length L1] 24)) (S0.out.1.later H.out.bel) (S0.out.2.later H.out.bel) (S1.out.1.later H.out.bel) (S1.out.2.later H.out.bel) (by omega) (by omega) (by omega) (by omega)
  rw [HSD.out] at HSM
  have HC := hid (HSM)
  obtain ⟨p00, p01, p02⟩ := H.out.get (.tail _ (.tail _ (.head _)))
  obtain ⟨p10, p11, p12⟩ := H.out.get (.tail _ (.head _))
  go_wp2_with fail
  refine Calls.mono HC.out ?_
  generalize (w4.alloc (.cells #[.bool N1, .slice A1 Z1.length K1, .slice B1 D1.length L1] 24)) = V4 at *
  rintro e w5 ⟨rfl, hb⟩
  clear p00 p01 p02 p10 p11 p12
  clear HC
  replace H := hid (H.out.later hb)
  clear hb
  clear HSM
  by_cases hC : C1 = 0
  · have R1 := hid (HT1.out.zero hC)
    subst hC
    clear HT1
    have PD := hid (by obtain ⟨_, _, _, td, d0, _, _⟩ := rchk_ok R1.out.2.1; exact val_pos' wd1 td d0 : 0 < val D1)
    have HK := rSign_any N1 _ _ Z1 _ _ D1 w5 (H.out.sl wz1 (.tail _ (.head _))) (H.out.sl wd1 (.head _))
    rw [sign_cmp wz1 R1.out.2.1 (Int.mul_pos PY.out PV.out) PD.out (less_cross PY.out PV.out PD.out R1.out.2.2), HCC.out] at HK
    have HC := hid (HK)
    obtain ⟨p00, p01, p02⟩ := H.out.get (.head _)
    go_wp2_with fail
    refine Calls.mono HC.out ?_
    rintro e w6 ⟨rfl, hb⟩
    clear p00 p01 p02
    clear HC
    replace H := hid (H.out.later hb)
    clear hb
    clear HK
    have HK := rcheck_any N1 _ Z1 _ D1 w6 (H.out.sl wz1 (.tail _ (.head _))) (H.out.sl wd1 (.head _))
    rw [R1.out.2.1] at HK
    have HC := hid (HK)
    obtain ⟨p00, p01, p02⟩ := H.out.get (.head _)
    go_wp2_with fail
    refine Calls.mono HC.out ?_
    rintro e w7 ⟨rfl, hb⟩
    clear p00 p01 p02
    clear HC
    replace H := hid (H.out.later hb)
    clear hb
    clear HK
    have HC := hid (rFloor_full n0 _ _ xs0 _ _ ys0 w7 (S0.out.1.later H.out.bel) (S0.out.2.later H.out.bel))
    obtain ⟨p00, p01, p02⟩ := H.out.get (.tail _ (.tail _ (.head _)))
    go_wp2_with fail
    refine Calls.mono HC.out ?_
    rintro e w8 ⟨nL, vL, zL, cL, rfl, oL, tL, hb⟩
    clear p00 p01 p02
    clear HC
    obtain ⟨aL, kL, hs⟩ := own_slice' oL
    subst hs
    rw [KA.out] at tL
    have HFT := floor_fits PY.out (wval_lim (n := n0) wx0 lx0).1 (wval_lim (n := n0) wx0 lx0).2
    obtain ⟨hcL, vL⟩ := tL.good rfl HFT.1 HFT.2
    subst hcL
    clear HFT
    have HV := hid vL
    have HKL := hid (whole_chk tL.wd tL.trim tL.sign tL.len)
    have HWL := hid (wchk_good tL.len tL.trim tL.sign)
    have wzL := tL.wd
    have llL := tL.len
    clear vL tL
    replace H := hid (H.out.later hb)
    clear hb
    replace H := hid (H.out.more oL)
    clear oL
    have HSO : Sl (((w8.alloc (.cells #[.bool nL, .slice aL zL.length kL] 41)).alloc (.cells #[.int .u32 1] 44)).alloc (.cells #[.bool false, .slice (some ⟨w8.heap.size + 1, 0, none⟩) 1 1] 41)) (.slice (some ⟨w8.heap.size + 1, 0, none⟩) 1 1) [1] := by
      have e := (sl_lit (w8.alloc (.cells #[.bool nL, .slice aL zL.length kL] 41)) 1 (by decide)).later (alloc_later _ (.cells #[.bool false, .slice (some ⟨w8.heap.size + 1, 0, none⟩) 1 1] 41))
      rw [show (w8.alloc (.cells #[.bool nL, .slice aL zL.length kL] 41)).heap.size = w8.heap.size + 1 by simp] at e
      exact e
    replace H := hid (((H.out.later (alloc_later w8 (.cells #[.bool nL, .slice aL zL.length kL] 41))).later (alloc_later _ (.cells #[.int .u32 1] 44))).later (alloc_later _ (.cells #[.bool false, .slice (some ⟨w8.heap.size + 1, 0, none⟩) 1 1] 41)))
    have HK : Calls Tryz.prog 17 #[.agg #[.bool nL, .slice aL zL.length kL], .agg #[.bool false, .slice (some ⟨w8.heap.size + 1, 0, none⟩) 1 1]] (((w8.alloc (.cells #[.bool nL, .slice aL zL.length kL] 41)).alloc (.cells #[.int .u32 1] 44)).alloc (.cells #[.bool false, .slice (some ⟨w8.heap.size + 1, 0, none⟩) 1 1] 41)) (RToldA (((w8.alloc (.cells #[.bool nL, .slice aL zL.length kL] 41)).alloc (.cells #[.int .u32 1] 44)).alloc (.cells #[.bool false, .slice (some ⟨w8.heap.size + 1, 0, none⟩) 1 1] 41)) (mkErr nL zL false [1]) (rq nL zL [1])) := rmake_any nL aL kL zL false _ _ [1] (((w8.alloc (.cells #[.bool nL, .slice aL zL.length kL] 41)).alloc (.cells #[.int .u32 1] 44)).alloc (.cells #[.bool false, .slice (some ⟨w8.heap.size + 1, 0, none⟩) 1 1] 41)) (H.out.sl wzL (.head _)) HSO (by omega) (by simp)
    rw [make_whole HWL.out] at HK
    clear HSO
    have HC := hid (HK)
    go_wp2_with fail
    refine Calls.mono HC.out ?_
    generalize (((w8.alloc (.cells #[.bool nL, .slice aL zL.length kL] 41)).alloc (.cells #[.int .u32 1] 44)).alloc (.cells #[.bool false, .slice (some ⟨w8.heap.size + 1, 0, none⟩) 1 1] 41)) = Y0 at *
    rintro e w9 ⟨N2, U2, Z2, T2, D2, C2, rfl, o2, q2, t2, hb, hcut⟩
    clear HC
    obtain ⟨A2, K2, hs⟩ := own_slice' o2
    subst hs
    obtain ⟨B2, L2, hs⟩ := own_slice' q2
    subst hs
    have HT2 := hid t2
    have wz2 := t2.wx
    have wd2 := t2.wy
    obtain ⟨lz2, ld2⟩ := t2.len
    clear t2 hcut
    replace H := hid (H.out.later hb)
    clear hb
    replace H := hid (H.out.more o2)
    clear o2
    replace H := hid (H.out.more q2)
    clear q2
    clear HK
    have HE2 : Hid (N2 = nL ∧ Z2 = zL ∧ D2 = [1] ∧ C2 = 0) := HT2.out.lit rfl wzL (wdn 1 (by decide)) HKL.out rfl
    clear HT2
    have hc2 : C2 = 0 := HE2.out.2.2.2
    subst hc2
    replace H := hid (H.out.put N2 (.slice A2 Z2.length K2) (.slice B2 D2.length L2))
    go_upto_region 14 with fail
    have hpf : w9.heap.size < (w9.alloc (.cells #[.bool N2, .slice A2 Z2.length K2, .slice B2 D2.length L2] 24)).heap.size := by simp
    generalize (w9.alloc (.cells #[.bool N2, .slice A2 Z2.length K2, .slice B2 D2.length L2] 24)) = V9 at *
    have HK : Hid (∀ U, Below V9.heap.size V9 U → (U.cell? ⟨w9.heap.size, 0, none⟩ = some (.bool N2) ∧ U.cell? ⟨w9.heap.size, 1, none⟩ = some (.slice A2 Z2.length K2) ∧ U.cell? ⟨w9.heap.size, 2, none⟩ = some (.slice B2 D2.length L2))) := fun U hb => (H.out.later hb).get (.head _)
    have HBR := hid (Below.refl V9.heap.size V9)
    have HP1 : Hid (∀ U, Below V9.heap.size V9 U → Calls Tryz.prog 18 #[.int .i64 1, .int .i64 1] U fun e U' => ∃ n3 a3q z3 c3 b3q d3 l3, e = .returned (.agg #[.bool n3, .slice a3q (List.length z3) c3, .slice b3q (List.length d3) l3]) ∧ Hid ((Fr V9 U' (.slice a3q (List.length z3) c3) (.slice b3q (List.length d3) l3) z3 d3 ∧ n3 = false ∧ z3 = [1] ∧ d3 = [1]) ∧ Below U.heap.size U U' ∧ Below V9.heap.size V9 U') ∧ (U'.cell? ⟨w9.heap.size, 0, none⟩ = some (.bool N2) ∧ U'.cell? ⟨w9.heap.size, 1, none⟩ = some (.slice A2 Z2.length K2) ∧ U'.cell? ⟨w9.heap.size, 2, none⟩ = some (.slice B2 D2.length L2))) := fun U hb => by
      refine Calls.mono (lawSmall_any 1 1 U (by decide) (by decide) (by decide) (by decide)) ?_
      rintro e U' ⟨n, v, xs, u, ys, code, rfl, o1, o2, t, hb2, _⟩
      obtain ⟨a3, c3, hs⟩ := own_slice' o1
      subst hs
      obtain ⟨b3, l3, hs⟩ := own_slice' o2
      subst hs
      obtain ⟨g1, g2, g3, _⟩ := t.lit (by decide) (wdn 1 (by decide)) (wdn 1 (by decide)) k11 q11
      exact ⟨n, a3, xs, c3, b3, ys, l3, rfl, ⟨⟨⟨owns_base o1 hb.size, owns_base o2 hb.size⟩, g1, g2, g3⟩, hb2, bt hb hb2⟩, HK.out U' (bt hb hb2)⟩
    have HP2 : Hid (∀ U, Below V9.heap.size V9 U → ∀ n3 a3q z3 c3 b3q d3 l3, Fr V9 U (.slice a3q (List.length z3) c3) (.slice b3q (List.length d3) l3) z3 d3 → n3 = false ∧ z3 = [1] ∧ d3 = [1] → Calls Tryz.prog 6 #[.agg #[.bool N2, .slice A2 Z2.length K2, .slice B2 D2.length L2], .agg #[.bool n3, .slice a3q (List.length z3) c3, .slice b3q (List.length d3) l3]] U fun e U' => ∃ n4 a4q z4 c4 b4q d4 l4 cd, e = .returned (.tuple #[.agg #[.bool n4, .slice a4q (List.length z4) c4, .slice b4q (List.length d4) l4], .int .i64 cd]) ∧ Hid ((Fr V9 U' (.slice a4q (List.length z4) c4) (.slice b4q (List.length d4) l4) z4 d4 ∧ RTells 0 (Rat.divInt (wval n0 xs0 / val ys0 + 1) 1) n4 z4 d4 cd) ∧ Below U.heap.size U U' ∧ Below V9.heap.size V9 U') ∧ (U'.cell? ⟨w9.heap.size, 0, none⟩ = some (.bool N2) ∧ U'.cell? ⟨w9.heap.size, 1, none⟩ = some (.slice A2 Z2.length K2) ∧ U'.cell? ⟨w9.heap.size, 2, none⟩ = some (.slice B2 D2.length L2))) := fun U hb n3 a3q z3 c3 b3q d3 l3 hf hl => by
      have HU := H.out.later hb
      have w3 : Wd z3 := by rw [hl.2.1]; exact wdn 1 (by decide)
      have w4 : Wd d3 := by rw [hl.2.2]; exact wdn 1 (by decide)
      have e := rAdd_full N2 _ _ Z2 _ _ D2 n3 _ _ z3 _ _ d3 U (HU.sl wz2 (.tail _ (.head _))) (HU.sl wd2 (.head _)) (Sl.own hf.1 w3) (Sl.own hf.2 w4)
      have he : rboth N2 Z2 D2 n3 z3 d3 = 0 := by rw [HE2.out.1, HE2.out.2.1, HE2.out.2.2.1, hl.1, hl.2.1, hl.2.2]; exact rboth_good HKL.out k11
      have hq : rq N2 Z2 D2 + rq n3 z3 d3 = Rat.divInt (wval n0 xs0 / val ys0 + 1) 1 := by rw [HE2.out.1, HE2.out.2.1, HE2.out.2.2.1, hl.1, hl.2.1, hl.2.2, next_q, HV.out]
      rw [he, hq] at e
      refine Calls.mono e ?_
      rintro e U' ⟨n, v, xs, u, ys, code, rfl, o1, o2, t, hb2, _⟩
      obtain ⟨a3, c3, hs⟩ := own_slice' o1
      subst hs
      obtain ⟨b3, l3, hs⟩ := own_slice' o2
      subst hs
      exact ⟨n, a3, xs, c3, b3, ys, l3, code, rfl, ⟨⟨⟨owns_base o1 hb.size, owns_base o2 hb.size⟩, t⟩, hb2, bt hb hb2⟩, HK.out U' (bt hb hb2)⟩
    obtain ⟨m1, m2⟩ := nes1 hpf
    go_cut [17, 18] from 121 (fun s17 s18 wx => ∃ p n4 a4q z4 c4 b4q d4 l4 cd, s17 = .pointer (some ⟨p, 0, none⟩) ∧ s18 = .int .i64 cd ∧ Hid (Nx V9 wx p n4 (.slice a4q (List.length z4) c4) (.slice b4q (List.length d4) l4) z4 d4 ∧ RTells 0 (Rat.divInt (wval n0 xs0 / val ys0 + 1) 1) n4 z4 d4 cd))
    case first =>
      have hs0 := HK.out _ HBR.out.drew
      go_region_held3 (fun U : World => (U.cell? ⟨w9.heap.size, 0, none⟩ = some (.bool N2) ∧ U.cell? ⟨w9.heap.size, 1, none⟩ = some (.slice A2 Z2.length K2) ∧ U.cell? ⟨w9.heap.size, 2, none⟩ = some (.slice B2 D2.length L2))) (first | exact hs5 | exact hs4 | exact hs0 | with_reducible exact HK.out _ (bel_al HE5.out.2.2 _) | with_reducible exact HK.out _ (bel_al HE4.out.2.2 _) | with_reducible exact HK.out _ (bel_al HBR.out _).drew | with_reducible exact HK.out _ (below_put3 HE5.out.2.2 _ (by omega) _ _ _) | go_keep)
        (first
          | (go_at_call 6; with_reducible refine Calls.mono (HP2.out _ (by first | exact HE4.out.2.2 | exact bel_al HE4.out.2.2 _) _ _ _ _ _ _ _ (by first | exact HE4.out.1.1 | exact Fr.later HE4.out.1.1 (alloc_later _ _)) HE4.out.1.2) ?_; rintro e w5q ⟨n4, a4q, z4, c4, b4q, d4, l4, cd, rfl, HE5, hs5⟩; (first | (have HL5 := hid (bel_unal (w := w4q) HE5.out.2.1)) | (have HL5 := hid HE5.out.2.1)); (first | (have HY1 := hid (HZ1.out.later HL5.out HZ1.out.lt); clear y0 y1 y2 y3 y4 y5; obtain ⟨j0, j1, j2, j3, j4, j5⟩ := HY1.out.c3; obtain ⟨j6, j7⟩ := new_ne' HY1.out) | skip); (first | (have HY2 := hid (zbr HE5.out.2.1); obtain ⟨j0, j1, j2, j3, j4, j5⟩ := HY2.out.c3; obtain ⟨j6, j7⟩ := new_ne' HY2.out) | skip))
          | (go_at_call 18; with_reducible refine Calls.mono (HP1.out _ (by first | exact HBR.out.drew | exact (bel_al HBR.out _).drew)) ?_; rintro e w4q ⟨n3, a3q, z3, c3, b3q, d3, l3, rfl, HE4, hs4⟩; have hz4 := HE4.out.2.2.size; obtain ⟨l1q, l2q⟩ := nes1 (Nat.lt_of_lt_of_le hpf HE4.out.2.2.size); (first | (have HZ1 := hid (zbr (bel_undrew HE4.out.2.1)); obtain ⟨y0, y1, y2, y3, y4, y5⟩ := HZ1.out.c3; obtain ⟨y6, y7⟩ := new_ne' HZ1.out) | skip)))
      all_goals
        have hz5 := HE5.out.2.2.size
        go_wp2_with fail
        go_meet
      all_goals (first | with_reducible exact ⟨_, n4, a4q, z4, c4, b4q, d4, l4, cd, rfl, rfl, hid (And.intro (nx_old HE5.out.1.1 HE5.out.2.2 HY1.out (by omega)) HE5.out.1.2)⟩ | with_reducible exact ⟨_, n4, a4q, z4, c4, b4q, d4, l4, cd, rfl, rfl, hid (And.intro (nx_old HE5.out.1.1 HE5.out.2.2 HY2.out (by omega)) HE5.out.1.2)⟩ | with_reducible exact ⟨_, n4, a4q, z4, c4, b4q, d4, l4, cd, rfl, rfl, hid (And.intro (nx_new HE5.out.1.1 HE5.out.2.2) HE5.out.1.2)⟩)
    case rest =>
      obtain ⟨pn, N4, A4, Z4, K4, B4, D4, L4, C4, rfl, rfl, HNm⟩ := hcut
      have HT4 := hid HNm.out.2
      have wz4 := HT4.out.wx
      have wd4 := HT4.out.wy
      replace H := hid ((((H.out.later HNm.out.1.2.2).more HNm.out.1.2.1.1).more HNm.out.1.2.1.2).cons HNm.out.1.1)
      clear HNm HK HP1 HP2 HBR m1 m2
      have KF : Hid (rchk N2 Z2 D2 = 0) := by show _ = _; rw [HE2.out.1, HE2.out.2.1, HE2.out.2.2.1]; exact HKL.out
      obtain ⟨x5, hx5⟩ : ∃ x, rcmp N2 Z2 D2 n0 xs0 ys0 = x := ⟨_, rfl⟩
      have hx6 : x5 ≤ 0 := by
        rw [← hx5]; unfold rcmp; rw [if_pos (rboth_good KF.out KA.out), HE2.out.1, HE2.out.2.1, HE2.out.2.2.1, show val [1] = 1 by simp [val, valTo]]
        exact floor_cmp PY.out HV.out
      have HK := rCompare_full N2 _ _ Z2 _ _ D2 n0 _ _ xs0 _ _ ys0 wc (H.out.sl wz2 (.tail _ (.tail _ (.tail _ (.head _))))) (H.out.sl wd2 (.tail _ (.tail _ (.head _)))) (S0.out.1.later H.out.bel) (S0.out.2.later H.out.bel)
      rw [hx5, rboth_good KF.out KA.out] at HK
      clear hx5
      have HC := hid (HK)
      obtain ⟨p00, p01, p02⟩ := H.out.get (.tail _ (.head _))
      obtain ⟨p10, p11, p12⟩ := H.out.get (.tail _ (.tail _ (.tail _ (.tail _ (.head _)))))
      go_wp2_with fail
      refine Calls.mono HC.out ?_
      rintro e w10 ⟨rfl, hb⟩
      clear p00 p01 p02 p10 p11 p12
      clear HC
      replace H := hid (H.out.later hb)
      clear hb
      clear HK
      by_cases hD : C4 = 0
      · have R4 := hid (HT4.out.zero hD)
        subst hD
        clear HT4
        have PN := hid (by obtain ⟨_, _, _, td, d0, _, _⟩ := rchk_ok R4.out.2.1; exact val_pos' wd4 td d0 : 0 < val D4)
        have hy5 : rcmp n0 xs0 ys0 N4 Z4 D4 = -1 := by unfold rcmp; rw [if_pos (rboth_good KA.out R4.out.2.1)]; exact next_cmp PY.out PN.out rfl (rq_whole PN.out R4.out.2.2)
        have HK := rCompare_full n0 _ _ xs0 _ _ ys0 N4 _ _ Z4 _ _ D4 w10 (S0.out.1.later H.out.bel) (S0.out.2.later H.out.bel) (H.out.sl wz4 (.tail _ (.head _))) (H.out.sl wd4 (.head _))
        rw [hy5, rboth_good KA.out R4.out.2.1] at HK
        clear hy5
        have HC := hid (HK)
        obtain ⟨p00, p01, p02⟩ := H.out.get (.tail _ (.tail _ (.tail _ (.tail _ (.head _)))))
        obtain ⟨p10, p11, p12⟩ := H.out.get (.head _)
        go_wp2_with fail
        refine Calls.mono HC.out ?_
        rintro e w11 ⟨rfl, hb⟩
        clear p00 p01 p02 p10 p11 p12
        clear HC
        replace H := hid (H.out.later hb)
        clear hb
        clear HK
        go_wp2_with fail
        go_ret
        exact ⟨rfl, H.out.bel⟩
      · have hd1 : (C4 != 0) = true := bne_iff_ne.2 hD
        have hd2 : (C4 == 0) = false := beq_eq_false_iff_ne.2 hD
        clear hD
        obtain ⟨y5, hy5⟩ : ∃ y, rcmp n0 xs0 ys0 N4 Z4 D4 = y := ⟨_, rfl⟩
        obtain ⟨o5, ho5⟩ : ∃ y, rboth n0 xs0 ys0 N4 Z4 D4 = y := ⟨_, rfl⟩
        have HK := rCompare_full n0 _ _ xs0 _ _ ys0 N4 _ _ Z4 _ _ D4 w10 (S0.out.1.later H.out.bel) (S0.out.2.later H.out.bel) (H.out.sl wz4 (.tail _ (.head _))) (H.out.sl wd4 (.head _))
        rw [hy5, ho5] at HK
        clear hy5 ho5
        have HC := hid (HK)
        obtain ⟨p00, p01, p02⟩ := H.out.get (.tail _ (.tail _ (.tail _ (.tail _ (.head _)))))
        obtain ⟨p10, p11, p12⟩ := H.out.get (.head _)
        go_wp2_with fail
        refine Calls.mono HC.out ?_
        rintro e w11 ⟨rfl, hb⟩
        clear p00 p01 p02 p10 p11 p12
        clear HC
        replace H := hid (H.out.later hb)
        clear hb
        clear HK
        go_wp2_with fail
        go_ret
        exact ⟨rfl, H.out.bel⟩
  · have hg1 : (C1 == 0) = false := beq_eq_false_iff_ne.2 hC
    have hg2 : (C1 != 0) = true := bne_iff_ne.2 hC
    clear hC HT1
    have HC := hid (rFloor_full n0 _ _ xs0 _ _ ys0 w5 (S0.out.1.later H.out.bel) (S0.out.2.later H.out.bel))
    obtain ⟨p00, p01, p02⟩ := H.out.get (.tail _ (.tail _ (.head _)))
    go_wp2_with fail
    refine Calls.mono HC.out ?_
    rintro e w6 ⟨nL, vL, zL, cL, rfl, oL, tL, hb⟩
    clear p00 p01 p02
    clear HC
    obtain ⟨aL, kL, hs⟩ := own_slice' oL
    subst hs
    rw [KA.out] at tL
    have HFT := floor_fits PY.out (wval_lim (n := n0) wx0 lx0).1 (wval_lim (n := n0) wx0 lx0).2
    obtain ⟨hcL, vL⟩ := tL.good rfl HFT.1 HFT.2
    subst hcL
    clear HFT
    have HV := hid vL
    have HKL := hid (whole_chk tL.wd tL.trim tL.sign tL.len)
    have HWL := hid (wchk_good tL.len tL.trim tL.sign)
    have wzL := tL.wd
    have llL := tL.len
    clear vL tL
    replace H := hid (H.out.later hb)
    clear hb
    replace H := hid (H.out.more oL)
    clear oL
    have HSO : Sl (((w6.alloc (.cells #[.bool nL, .slice aL zL.length kL] 41)).alloc (.cells #[.int .u32 1] 44)).alloc (.cells #[.bool false, .slice (some ⟨w6.heap.size + 1, 0, none⟩) 1 1] 41)) (.slice (some ⟨w6.heap.size + 1, 0, none⟩) 1 1) [1] := by
      have e := (sl_lit (w6.alloc (.cells #[.bool nL, .slice aL zL.length kL] 41)) 1 (by decide)).later (alloc_later _ (.cells #[.bool false, .slice (some ⟨w6.heap.size + 1, 0, none⟩) 1 1] 41))
      rw [show (w6.alloc (.cells #[.bool nL, .slice aL zL.length kL] 41)).heap.size = w6.heap.size + 1 by simp] at e
      exact e
    replace H := hid (((H.out.later (alloc_later w6 (.cells #[.bool nL, .slice aL zL.length kL] 41))).later (alloc_later _ (.cells #[.int .u32 1] 44))).later (alloc_later _ (.cells #[.bool false, .slice (some ⟨w6.heap.size + 1, 0, none⟩) 1 1] 41)))
    have HK : Calls Tryz.prog 17 #[.agg #[.bool nL, .slice aL zL.length kL], .agg #[.bool false, .slice (some ⟨w6.heap.size + 1, 0, none⟩) 1 1]] (((w6.alloc (.cells #[.bool nL, .slice aL zL.length kL] 41)).alloc (.cells #[.int .u32 1] 44)).alloc (.cells #[.bool false, .slice (some ⟨w6.heap.size + 1, 0, none⟩) 1 1] 41)) (RToldA (((w6.alloc (.cells #[.bool nL, .slice aL zL.length kL] 41)).alloc (.cells #[.int .u32 1] 44)).alloc (.cells #[.bool false, .slice (some ⟨w6.heap.size + 1, 0, none⟩) 1 1] 41)) (mkErr nL zL false [1]) (rq nL zL [1])) := rmake_any nL aL kL zL false _ _ [1] (((w6.alloc (.cells #[.bool nL, .slice aL zL.length kL] 41)).alloc (.cells #[.int .u32 1] 44)).alloc (.cells #[.bool false, .slice (some ⟨w6.heap.size + 1, 0, none⟩) 1 1] 41)) (H.out.sl wzL (.head _)) HSO (by omega) (by simp)
    rw [make_whole HWL.out] at HK
    clear HSO
    have HC := hid (HK)
    go_wp2_with fail
    refine Calls.mono HC.out ?_
    generalize (((w6.alloc (.cells #[.bool nL, .slice aL zL.length kL] 41)).alloc (.cells #[.int .u32 1] 44)).alloc (.cells #[.bool false, .slice (some ⟨w6.heap.size + 1, 0, none⟩) 1 1] 41)) = Y0 at *
    rintro e w7 ⟨N2, U2, Z2, T2, D2, C2, rfl, o2, q2, t2, hb, hcut⟩
    clear HC
    obtain ⟨A2, K2, hs⟩ := own_slice' o2
    subst hs
    obtain ⟨B2, L2, hs⟩ := own_slice' q2
    subst hs
    have HT2 := hid t2
    have wz2 := t2.wx
    have wd2 := t2.wy
    obtain ⟨lz2, ld2⟩ := t2.len
    clear t2 hcut
    replace H := hid (H.out.later hb)
    clear hb
    replace H := hid (H.out.more o2)
    clear o2
    replace H := hid (H.out.more q2)
    clear q2
    clear HK
    have HE2 : Hid (N2 = nL ∧ Z2 = zL ∧ D2 = [1] ∧ C2 = 0) := HT2.out.lit rfl wzL (wdn 1 (by decide)) HKL.out rfl
    clear HT2
    have hc2 : C2 = 0 := HE2.out.2.2.2
    subst hc2
    replace H := hid (H.out.put N2 (.slice A2 Z2.length K2) (.slice B2 D2.length L2))
    go_upto_region 14 with fail
    have hpf : w7.heap.size < (w7.alloc (.cells #[.bool N2, .slice A2 Z2.length K2, .slice B2 D2.length L2] 24)).heap.size := by simp
    generalize (w7.alloc (.cells #[.bool N2, .slice A2 Z2.length K2, .slice B2 D2.length L2] 24)) = V7 at *
    have HK : Hid (∀ U, Below V7.heap.size V7 U → (U.cell? ⟨w7.heap.size, 0, none⟩ = some (.bool N2) ∧ U.cell? ⟨w7.heap.size, 1, none⟩ = some (.slice A2 Z2.length K2) ∧ U.cell? ⟨w7.heap.size, 2, none⟩ = some (.slice B2 D2.length L2))) := fun U hb => (H.out.later hb).get (.head _)
    have HBR := hid (Below.refl V7.heap.size V7)
    have HP1 : Hid (∀ U, Below V7.heap.size V7 U → Calls Tryz.prog 18 #[.int .i64 1, .int .i64 1] U fun e U' => ∃ n3 a3q z3 c3 b3q d3 l3, e = .returned (.agg #[.bool n3, .slice a3q (List.length z3) c3, .slice b3q (List.length d3) l3]) ∧ Hid ((Fr V7 U' (.slice a3q (List.length z3) c3) (.slice b3q (List.length d3) l3) z3 d3 ∧ n3 = false ∧ z3 = [1] ∧ d3 = [1]) ∧ Below U.heap.size U U' ∧ Below V7.heap.size V7 U') ∧ (U'.cell? ⟨w7.heap.size, 0, none⟩ = some (.bool N2) ∧ U'.cell? ⟨w7.heap.size, 1, none⟩ = some (.slice A2 Z2.length K2) ∧ U'.cell? ⟨w7.heap.size, 2, none⟩ = some (.slice B2 D2.length L2))) := fun U hb => by
      refine Calls.mono (lawSmall_any 1 1 U (by decide) (by decide) (by decide) (by decide)) ?_
      rintro e U' ⟨n, v, xs, u, ys, code, rfl, o1, o2, t, hb2, _⟩
      obtain ⟨a3, c3, hs⟩ := own_slice' o1
      subst hs
      obtain ⟨b3, l3, hs⟩ := own_slice' o2
      subst hs
      obtain ⟨g1, g2, g3, _⟩ := t.lit (by decide) (wdn 1 (by decide)) (wdn 1 (by decide)) k11 q11
      exact ⟨n, a3, xs, c3, b3, ys, l3, rfl, ⟨⟨⟨owns_base o1 hb.size, owns_base o2 hb.size⟩, g1, g2, g3⟩, hb2, bt hb hb2⟩, HK.out U' (bt hb hb2)⟩
    have HP2 : Hid (∀ U, Below V7.heap.size V7 U → ∀ n3 a3q z3 c3 b3q d3 l3, Fr V7 U (.slice a3q (List.length z3) c3) (.slice b3q (List.length d3) l3) z3 d3 → n3 = false ∧ z3 = [1] ∧ d3 = [1] → Calls Tryz.prog 6 #[.agg #[.bool N2, .slice A2 Z2.length K2, .slice B2 D2.length L2], .agg #[.bool n3, .slice a3q (List.length z3) c3, .slice b3q (List.length d3) l3]] U fun e U' => ∃ n4 a4q z4 c4 b4q d4 l4 cd, e = .returned (.tuple #[.agg #[.bool n4, .slice a4q (List.length z4) c4, .slice b4q (List.length d4) l4], .int .i64 cd]) ∧ Hid ((Fr V7 U' (.slice a4q (List.length z4) c4) (.slice b4q (List.length d4) l4) z4 d4 ∧ RTells 0 (Rat.divInt (wval n0 xs0 / val ys0 + 1) 1) n4 z4 d4 cd) ∧ Below U.heap.size U U' ∧ Below V7.heap.size V7 U') ∧ (U'.cell? ⟨w7.heap.size, 0, none⟩ = some (.bool N2) ∧ U'.cell? ⟨w7.heap.size, 1, none⟩ = some (.slice A2 Z2.length K2) ∧ U'.cell? ⟨w7.heap.size, 2, none⟩ = some (.slice B2 D2.length L2))) := fun U hb n3 a3q z3 c3 b3q d3 l3 hf hl => by
      have HU := H.out.later hb
      have w3 : Wd z3 := by rw [hl.2.1]; exact wdn 1 (by decide)
      have w4 : Wd d3 := by rw [hl.2.2]; exact wdn 1 (by decide)
      have e := rAdd_full N2 _ _ Z2 _ _ D2 n3 _ _ z3 _ _ d3 U (HU.sl wz2 (.tail _ (.head _))) (HU.sl wd2 (.head _)) (Sl.own hf.1 w3) (Sl.own hf.2 w4)
      have he : rboth N2 Z2 D2 n3 z3 d3 = 0 := by rw [HE2.out.1, HE2.out.2.1, HE2.out.2.2.1, hl.1, hl.2.1, hl.2.2]; exact rboth_good HKL.out k11
      have hq : rq N2 Z2 D2 + rq n3 z3 d3 = Rat.divInt (wval n0 xs0 / val ys0 + 1) 1 := by rw [HE2.out.1, HE2.out.2.1, HE2.out.2.2.1, hl.1, hl.2.1, hl.2.2, next_q, HV.out]
      rw [he, hq] at e
      refine Calls.mono e ?_
      rintro e U' ⟨n, v, xs, u, ys, code, rfl, o1, o2, t, hb2, _⟩
      obtain ⟨a3, c3, hs⟩ := own_slice' o1
      subst hs
      obtain ⟨b3, l3, hs⟩ := own_slice' o2
      subst hs
      exact ⟨n, a3, xs, c3, b3, ys, l3, code, rfl, ⟨⟨⟨owns_base o1 hb.size, owns_base o2 hb.size⟩, t⟩, hb2, bt hb hb2⟩, HK.out U' (bt hb hb2)⟩
    obtain ⟨m1, m2⟩ := nes1 hpf
    go_cut [17, 18] from 121 (fun s17 s18 wx => ∃ p n4 a4q z4 c4 b4q d4 l4 cd, s17 = .pointer (some ⟨p, 0, none⟩) ∧ s18 = .int .i64 cd ∧ Hid (Nx V7 wx p n4 (.slice a4q (List.length z4) c4) (.slice b4q (List.length d4) l4) z4 d4 ∧ RTells 0 (Rat.divInt (wval n0 xs0 / val ys0 + 1) 1) n4 z4 d4 cd))
    case first =>
      have hs0 := HK.out _ HBR.out.drew
      go_region_held3 (fun U : World => (U.cell? ⟨w7.heap.size, 0, none⟩ = some (.bool N2) ∧ U.cell? ⟨w7.heap.size, 1, none⟩ = some (.slice A2 Z2.length K2) ∧ U.cell? ⟨w7.heap.size, 2, none⟩ = some (.slice B2 D2.length L2))) (first | exact hs5 | exact hs4 | exact hs0 | with_reducible exact HK.out _ (bel_al HE5.out.2.2 _) | with_reducible exact HK.out _ (bel_al HE4.out.2.2 _) | with_reducible exact HK.out _ (bel_al HBR.out _).drew | with_reducible exact HK.out _ (below_put3 HE5.out.2.2 _ (by omega) _ _ _) | go_keep)
        (first
          | (go_at_call 6; with_reducible refine Calls.mono (HP2.out _ (by first | exact HE4.out.2.2 | exact bel_al HE4.out.2.2 _) _ _ _ _ _ _ _ (by first | exact HE4.out.1.1 | exact Fr.later HE4.out.1.1 (alloc_later _ _)) HE4.out.1.2) ?_; rintro e w5q ⟨n4, a4q, z4, c4, b4q, d4, l4, cd, rfl, HE5, hs5⟩; (first | (have HL5 := hid (bel_unal (w := w4q) HE5.out.2.1)) | (have HL5 := hid HE5.out.2.1)); (first | (have HY1 := hid (HZ1.out.later HL5.out HZ1.out.lt); clear y0 y1 y2 y3 y4 y5; obtain ⟨j0, j1, j2, j3, j4, j5⟩ := HY1.out.c3; obtain ⟨j6, j7⟩ := new_ne' HY1.out) | skip); (first | (have HY2 := hid (zbr HE5.out.2.1); obtain ⟨j0, j1, j2, j3, j4, j5⟩ := HY2.out.c3; obtain ⟨j6, j7⟩ := new_ne' HY2.out) | skip))
          | (go_at_call 18; with_reducible refine Calls.mono (HP1.out _ (by first | exact HBR.out.drew | exact (bel_al HBR.out _).drew)) ?_; rintro e w4q ⟨n3, a3q, z3, c3, b3q, d3, l3, rfl, HE4, hs4⟩; have hz4 := HE4.out.2.2.size; obtain ⟨l1q, l2q⟩ := nes1 (Nat.lt_of_lt_of_le hpf HE4.out.2.2.size); (first | (have HZ1 := hid (zbr (bel_undrew HE4.out.2.1)); obtain ⟨y0, y1, y2, y3, y4, y5⟩ := HZ1.out.c3; obtain ⟨y6, y7⟩ := new_ne' HZ1.out) | skip)))
      all_goals
        have hz5 := HE5.out.2.2.size
        go_wp2_with fail
        go_meet
      all_goals (first | with_reducible exact ⟨_, n4, a4q, z4, c4, b4q, d4, l4, cd, rfl, rfl, hid (And.intro (nx_old HE5.out.1.1 HE5.out.2.2 HY1.out (by omega)) HE5.out.1.2)⟩ | with_reducible exact ⟨_, n4, a4q, z4, c4, b4q, d4, l4, cd, rfl, rfl, hid (And.intro (nx_old HE5.out.1.1 HE5.out.2.2 HY2.out (by omega)) HE5.out.1.2)⟩ | with_reducible exact ⟨_, n4, a4q, z4, c4, b4q, d4, l4, cd, rfl, rfl, hid (And.intro (nx_new HE5.out.1.1 HE5.out.2.2) HE5.out.1.2)⟩)
    case rest =>
      obtain ⟨pn, N4, A4, Z4, K4, B4, D4, L4, C4, rfl, rfl, HNm⟩ := hcut
      have HT4 := hid HNm.out.2
      have wz4 := HT4.out.wx
      have wd4 := HT4.out.wy
      replace H := hid ((((H.out.later HNm.out.1.2.2).more HNm.out.1.2.1.1).more HNm.out.1.2.1.2).cons HNm.out.1.1)
      clear HNm HK HP1 HP2 HBR m1 m2
      have KF : Hid (rchk N2 Z2 D2 = 0) := by show _ = _; rw [HE2.out.1, HE2.out.2.1, HE2.out.2.2.1]; exact HKL.out
      obtain ⟨x5, hx5⟩ : ∃ x, rcmp N2 Z2 D2 n0 xs0 ys0 = x := ⟨_, rfl⟩
      have hx6 : x5 ≤ 0 := by
        rw [← hx5]; unfold rcmp; rw [if_pos (rboth_good KF.out KA.out), HE2.out.1, HE2.out.2.1, HE2.out.2.2.1, show val [1] = 1 by simp [val, valTo]]
        exact floor_cmp PY.out HV.out
      have HK := rCompare_full N2 _ _ Z2 _ _ D2 n0 _ _ xs0 _ _ ys0 wc (H.out.sl wz2 (.tail _ (.tail _ (.tail _ (.head _))))) (H.out.sl wd2 (.tail _ (.tail _ (.head _)))) (S0.out.1.later H.out.bel) (S0.out.2.later H.out.bel)
      rw [hx5, rboth_good KF.out KA.out] at HK
      clear hx5
      have HC := hid (HK)
      obtain ⟨p00, p01, p02⟩ := H.out.get (.tail _ (.head _))
      obtain ⟨p10, p11, p12⟩ := H.out.get (.tail _ (.tail _ (.tail _ (.tail _ (.head _)))))
      go_wp2_with fail
      refine Calls.mono HC.out ?_
      rintro e w8 ⟨rfl, hb⟩
      clear p00 p01 p02 p10 p11 p12
      clear HC
      replace H := hid (H.out.later hb)
      clear hb
      clear HK
      by_cases hD : C4 = 0
      · have R4 := hid (HT4.out.zero hD)
        subst hD
        clear HT4
        have PN := hid (by obtain ⟨_, _, _, td, d0, _, _⟩ := rchk_ok R4.out.2.1; exact val_pos' wd4 td d0 : 0 < val D4)
        have hy5 : rcmp n0 xs0 ys0 N4 Z4 D4 = -1 := by unfold rcmp; rw [if_pos (rboth_good KA.out R4.out.2.1)]; exact next_cmp PY.out PN.out rfl (rq_whole PN.out R4.out.2.2)
        have HK := rCompare_full n0 _ _ xs0 _ _ ys0 N4 _ _ Z4 _ _ D4 w8 (S0.out.1.later H.out.bel) (S0.out.2.later H.out.bel) (H.out.sl wz4 (.tail _ (.head _))) (H.out.sl wd4 (.head _))
        rw [hy5, rboth_good KA.out R4.out.2.1] at HK
        clear hy5
        have HC := hid (HK)
        obtain ⟨p00, p01, p02⟩ := H.out.get (.tail _ (.tail _ (.tail _ (.tail _ (.head _)))))
        obtain ⟨p10, p11, p12⟩ := H.out.get (.head _)
        go_wp2_with fail
        refine Calls.mono HC.out ?_
        rintro e w9 ⟨rfl, hb⟩
        clear p00 p01 p02 p10 p11 p12
        clear HC
        replace H := hid (H.out.later hb)
        clear hb
        clear HK
        go_wp2_with fail
        go_ret
        exact ⟨rfl, H.out.bel⟩
      · have hd1 : (C4 != 0) = true := bne_iff_ne.2 hD
        have hd2 : (C4 == 0) = false := beq_eq_false_iff_ne.2 hD
        clear hD
        obtain ⟨y5, hy5⟩ : ∃ y, rcmp n0 xs0 ys0 N4 Z4 D4 = y := ⟨_, rfl⟩
        obtain ⟨o5, ho5⟩ : ∃ y, rboth n0 xs0 ys0 N4 Z4 D4 = y := ⟨_, rfl⟩
        have HK := rCompare_full n0 _ _ xs0 _ _ ys0 N4 _ _ Z4 _ _ D4 w8 (S0.out.1.later H.out.bel) (S0.out.2.later H.out.bel) (H.out.sl wz4 (.tail _ (.head _))) (H.out.sl wd4 (.head _))
        rw [hy5, ho5] at HK
        clear hy5 ho5
        have HC := hid (HK)
        obtain ⟨p00, p01, p02⟩ := H.out.get (.tail _ (.tail _ (.tail _ (.tail _ (.head _)))))
        obtain ⟨p10, p11, p12⟩ := H.out.get (.head _)
        go_wp2_with fail
        refine Calls.mono HC.out ?_
        rintro e w9 ⟨rfl, hb⟩
        clear p00 p01 p02 p10 p11 p12
        clear HC
        replace H := hid (H.out.later hb)
        clear hb
        clear HK
        go_wp2_with fail
        go_ret
        exact ⟨rfl, H.out.bel⟩

theorem ratioOrder_in (n0 : Bool) (a0 : Option Addr) (k0 ca0 : Nat) (xs0 : List Int) (b0 : Option Addr) (l0 cb0 : Nat) (ys0 : List Int) (n1 : Bool) (a1 : Option Addr) (k1 ca1 : Nat) (xs1 : List Int) (b1 : Option Addr) (l1 cb1 : Nat) (ys1 : List Int) (w : World) (h0 : Reads w w.heap.size a0 k0 ca0 xs0) (g0 : Reads w w.heap.size b0 l0 cb0 ys0) (h1 : Reads w w.heap.size a1 k1 ca1 xs1) (g1 : Reads w w.heap.size b1 l1 cb1 ys1) (htab : Tab w) :
    Calls Tryz.prog 4 #[.agg #[.bool n0, .slice a0 k0 ca0, .slice b0 l0 cb0], .agg #[.bool n1, .slice a1 k1 ca1, .slice b1 l1 cb1]] w fun e w' => e = .returned (.bool true) ∧ Below w.heap.size w w' := by
  have e0 := h0.1
  have f0 := g0.1
  subst e0
  subst f0
  have e1 := h1.1
  have f1 := g1.1
  subst e1
  subst f1
  by_cases hB : rboth n0 xs0 ys0 n1 xs1 ys1 = 0
  · exact ratioOrder_good n0 a0 ca0 xs0 b0 cb0 ys0 n1 a1 ca1 xs1 b1 cb1 ys1 w ⟨_, _, rfl, h0⟩ ⟨_, _, rfl, g0⟩ ⟨_, _, rfl, h1⟩ ⟨_, _, rfl, g1⟩ htab hB
  · exact ratioOrder_bad n0 a0 ca0 xs0 b0 cb0 ys0 n1 a1 ca1 xs1 b1 cb1 ys1 w ⟨_, _, rfl, h0⟩ ⟨_, _, rfl, g0⟩ ⟨_, _, rfl, h1⟩ ⟨_, _, rfl, g1⟩ htab hB
end Go.Proofs.YtoaabbcikmlbiaaGreatDoor

