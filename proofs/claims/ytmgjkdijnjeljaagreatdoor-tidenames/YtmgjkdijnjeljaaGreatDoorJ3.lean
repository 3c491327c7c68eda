/- My texts on the way to TideNames, one behind the other: contracts of the program and of the document's answers. -/
import Derived.Test.YtmgjkdijnjeljaaGreatDoorJ2
import Derived.Lib.IndexLaws
import Derived.Test.YtmgjkdijnjeljaaGreatDoorShelf
import Derived.Deep.RegionHeld3
import Derived.Laws.ResultCell
/- Fractions: ratio.Print: of any fraction, good or refused. -/
namespace Go.Proofs.YtmgjkdijnjeljaaGreatDoor
open Go.RowKit Go.Lib
set_option linter.unusedVariables false

/-- A fraction's text. -/
def rtext (n : Bool) (xs ys : List Int) : List UInt8 := if ys = [1] then wtext n xs else wtext n xs ++ 47 :: decDigits (val ys).toNat

set_option maxHeartbeats 1600000 in
set_option maxRecDepth 100000 in
theorem rPrint_err (n : Bool) (a : Option Addr) (ca : Nat) (xs : List Int) (b : Option Addr) (cb : Nat) (ys : List Int) (w : World) (sx : Sl w (.slice a xs.length ca) xs) (sy : Sl w (.slice b ys.length cb) ys) (he : rchk n xs ys ≠ 0) :
    Calls Tryz.prog 50 #[.agg #[.bool n, .slice a xs.length ca, .slice b ys.length cb]] w fun e w' => e = .returned (.tuple #[.string ⟨#[]⟩, .int .i64 (rchk n xs ys)]) ∧ Below w.heap.size w w' := by
  have HB := hid (alloc_later w (.cells #[.bool n, .slice a xs.length ca, .slice b ys.length cb] 27))
  have HC := hid (rcheck_any n _ xs _ ys (w.alloc (.cells #[.bool n, .slice a xs.length ca, .slice b ys.length cb] 27)) (sx.later HB.out) (sy.later HB.out))
  obtain ⟨E, hE⟩ : ∃ E, rchk n xs ys = E := ⟨_, rfl⟩
  rw [hE] at HC he ⊢
  have he' : (E == 0) = false := beq_eq_false_iff_ne.2 he
  clear he hE sx sy
  go_enter Tryz.func50, Tryz.ntmps50
  go_wp2_with fail
  refine Calls.mono HC.out ?_
  rintro e w1 ⟨rfl, hb1⟩
  have HBN := hid (bt HB.out hb1)
  clear hb1 HC
  go_wp2_with fail
  go_ret2
  exact ⟨rfl, HBN.out⟩

set_option maxHeartbeats 3200000 in
set_option maxRecDepth 100000 in
theorem rPrint_ok (n : Bool) (a : Option Addr) (ca : Nat) (xs : List Int) (b : Option Addr) (cb : Nat) (ys : List Int) (w : World) (sx : Sl w (.slice a xs.length ca) xs) (sy : Sl w (.slice b ys.length cb) ys) (hx : rchk n xs ys = 0) (htab : Tab w) :
    Calls Tryz.prog 50 #[.agg #[.bool n, .slice a xs.length ca, .slice b ys.length cb]] w fun e w' => ∃ T : ByteArray, e = .returned (.tuple #[.string T, .int .i64 0]) ∧ T.data.toList = rtext n xs ys ∧ Below w.heap.size w w' := by
  obtain ⟨lx, ly, tx, ty, y0', nx, g1⟩ := rchk_ok hx
  have wx := sx.wd
  have wy := sy.wd
  have HB := hid (alloc_later w (.cells #[.bool n, .slice a xs.length ca, .slice b ys.length cb] 27))
  have HN := hid (Box.made w 27 #[.bool n, .slice a xs.length ca, .slice b ys.length cb])
  have HS := hid (And.intro (sx.later HB.out) (sy.later HB.out))
  have HC := hid (rcheck_any n _ xs _ ys (w.alloc (.cells #[.bool n, .slice a xs.length ca, .slice b ys.length cb] 27)) HS.out.1 HS.out.2)
  rw [hx] at HC
  have HW := hid (fun ww (hb : Below (w.alloc (.cells #[.bool n, .slice a xs.length ca, .slice b ys.length cb] 27)).heap.size (w.alloc (.cells #[.bool n, .slice a xs.length ca, .slice b ys.length cb] 27)) ww) => wprint_any n _ xs ww (HS.out.1.later hb) (wchk_good lx tx nx) (htab.later (bt HB.out hb)))
  have HO := hid (fun ww (hb : Below (w.alloc (.cells #[.bool n, .slice a xs.length ca, .slice b ys.length cb] 27)).heap.size (w.alloc (.cells #[.bool n, .slice a xs.length ca, .slice b ys.length cb] 27)) ww) => isOne_any _ ys ww (HS.out.2.later hb))
  have HD := hid (fun ww (hb : Below (w.alloc (.cells #[.bool n, .slice a xs.length ca, .slice b ys.length cb] 27)).heap.size (w.alloc (.cells #[.bool n, .slice a xs.length ca, .slice b ys.length cb] 27)) ww) => print_any _ ys ww (HS.out.2.later hb) (by omega) (htab.later (bt HB.out hb)))
  rw [chk_good (by omega) ty, if_pos rfl] at HD
  have hd1 := dec_short wx lx
  have hd2 := dec_short wy ly
  obtain ⟨D, hD⟩ : ∃ D : ByteArray, D = ⟨(decDigits (val ys).toNat).toArray⟩ := ⟨_, rfl⟩
  rw [← hD] at HD
  have HDL : Hid (D.data.toList = decDigits (val ys).toNat) := by show _ = _; rw [hD]
  have hDs : D.size ≤ 20481 := by rw [hD]; show (decDigits (val ys).toNat).toArray.size ≤ _; rw [List.size_toArray]; exact hd2
  have HL1 : Hid ((wtext n xs).length ≤ 20482) := by
    show _ ≤ _
    unfold wtext
    rw [List.length_append]
    have : (if n then [45] else [] : List UInt8).length ≤ 1 := by cases n <;> simp
    omega
  clear sx sy hx tx ty g1 htab wx wy hD hd1 hd2 nx y0'
  by_cases h1 : ys = [1]
  · rw [decide_eq_true h1] at HO
    have HR : Hid (rtext n xs ys = wtext n xs) := by show _ = _; unfold rtext; rw [if_pos h1]
    rw [HR.out]
    clear h1
    go_enter Tryz.func50, Tryz.ntmps50
    go_wp2_with fail
    refine Calls.mono HC.out ?_
    generalize (w.alloc (.cells #[.bool n, .slice a xs.length ca, .slice b ys.length cb] 27)) = X at *
    rintro e w1 ⟨rfl, hb1⟩
    obtain ⟨p0, p1, p2, _⟩ := res_box3 HN.out hb1
    have HW1 := hid (HW.out w1 hb1)
    have HB1 := hid hb1
    clear hb1 HC HW HD
    go_wp2_with fail
    refine Calls.mono HW1.out ?_
    rintro e w2 ⟨T, rfl, hT, hb2⟩
    have HT := hid hT
    have HB2 := hid (bt HB1.out hb2)
    have HO2 := hid (HO.out w2 HB2.out)
    clear hT hb2 HW1 HO p0 p1 p2
    obtain ⟨p0, p1, p2, _⟩ := res_box3 HN.out HB2.out
    go_wp2_with fail
    refine Calls.mono HO2.out ?_
    rintro e w3 ⟨rfl, rfl⟩
    go_wp2_with fail
    go_ret2
    exact ⟨T, rfl, HT.out, bt HB.out HB2.out⟩
  · rw [decide_eq_false h1] at HO
    have HR : Hid (rtext n xs ys = wtext n xs ++ 47 :: decDigits (val ys).toNat) := by show _ = _; unfold rtext; rw [if_neg h1]
    rw [HR.out]
    clear h1
    go_enter Tryz.func50, Tryz.ntmps50
    go_wp2_with fail
    refine Calls.mono HC.out ?_
    generalize (w.alloc (.cells #[.bool n, .slice a xs.length ca, .slice b ys.length cb] 27)) = X at *
    rintro e w1 ⟨rfl, hb1⟩
    obtain ⟨p0, p1, p2, _⟩ := res_box3 HN.out hb1
    have HW1 := hid (HW.out w1 hb1)
    have HB1 := hid hb1
    clear hb1 HC HW
    go_wp2_with fail
    refine Calls.mono HW1.out ?_
    rintro e w2 ⟨T, rfl, hT, hb2⟩
    have HT := hid hT
    have hTs : T.size ≤ 20482 := by
      have e1 : T.data.toList.length = T.size := Array.length_toList
      rw [← e1, hT]
      exact HL1.out
    have HB2 := hid (bt HB1.out hb2)
    have HO2 := hid (HO.out w2 HB2.out)
    have HD2 := hid (HD.out w2 HB2.out)
    clear hT hb2 HW1 HO HD p0 p1 p2
    obtain ⟨p0, p1, p2, _⟩ := res_box3 HN.out HB2.out
    go_wp2_with fail
    refine Calls.mono HO2.out ?_
    rintro e w3 ⟨rfl, rfl⟩
    go_wp2_with fail
    refine Calls.mono HD2.out ?_
    rintro e w4 ⟨rfl, hb4⟩
    have HBN := hid (bt HB.out (bt HB2.out hb4))
    have hg1 : ¬ (9223372036854775807 : Int) < (T.size : Int) + 1 := by omega
    have hg2 : ¬ (9223372036854775807 : Int) < (T.size : Int) + 1 + (D.size : Int) := by omega
    clear hb4 HD2
    go_wp2_with fail
    go_ret2
    refine ⟨_, rfl, ?_, HBN.out⟩
    rw [← HDL.out, ← HT.out]
    simp
end Go.Proofs.YtmgjkdijnjeljaaGreatDoor

/- Fractions as texts: what a text says, and that a fraction's own text says that fraction. -/
namespace Go.Proofs.YtmgjkdijnjeljaaGreatDoor
open Go.RowKit Go.Lib
set_option linter.unusedVariables false

/-- A text taken apart: its sign, the place of the bar, what stands ahead of it, what behind it. -/
def rneg (l : List UInt8) : Bool := decide (l[0]? = some 45)
def rbar (l : List UInt8) : Int := indexByte (wdig (rneg l) l) 47
def rup (l : List UInt8) : List UInt8 := if rbar l = -1 then wdig (rneg l) l else (wdig (rneg l) l).take (rbar l).toNat
def rdn (l : List UInt8) : List UInt8 := if rbar l = -1 then [] else (wdig (rneg l) l).drop ((rbar l).toNat + 1)
def rnu (l : List UInt8) : Int := numTo (rup l) (rup l).length
def rde (l : List UInt8) : Int := if rbar l = -1 then 1 else numTo (rdn l) (rdn l).length
/-- Is it a fraction's own text? -/
def rgood (l : List UInt8) : Prop := IsNum (rup l) ∧ (rbar l = -1 ∨ IsNum (rdn l) ∧ rde l ≠ 1) ∧ 0 < rde l ∧ (rneg l = false ∨ 0 < rnu l) ∧ gcdI (rnu l) (rde l) = 1
open Classical in
/-- Parse's error, of a text. -/
noncomputable def prErr (s : ByteArray) : Int := if 65536 < s.size then 3 else if rgood s.data.toList then 0 else 130
def rpq (l : List UInt8) : Rat := Rat.divInt (sg (rneg l) (rnu l)) (rde l)

theorem bar_none {d : List UInt8} (h : Dg d) : indexByte d 47 = -1 := by
  have g := indexByte_ge d 47
  by_cases c : indexByte d 47 = -1
  · exact c
  · obtain ⟨e, _⟩ := indexByte_some (l := d) (c := 47) (o := (indexByte d 47).toNat) (by omega)
    have t := h _ (List.mem_of_getElem? e)
    exact absurd t.1 (by decide)
theorem bar_at {d : List UInt8} (h : Dg d) (e : List UInt8) : indexByte (d ++ 47 :: e) 47 = d.length := by
  have g := indexByte_ge (d ++ 47 :: e) 47
  have hat : (d ++ 47 :: e)[d.length]? = some 47 := by simp
  by_cases c : indexByte (d ++ 47 :: e) 47 = -1
  · exact absurd hat (indexByte_none c _)
  · obtain ⟨e1, e2⟩ := indexByte_some (l := d ++ 47 :: e) (c := 47) (o := (indexByte (d ++ 47 :: e) 47).toNat) (by omega)
    have hk : indexByte (d ++ 47 :: e) 47 = ((indexByte (d ++ 47 :: e) 47).toNat : Int) := by omega
    generalize (indexByte (d ++ 47 :: e) 47).toNat = K at e1 e2 hk
    have k1 : ¬ K < d.length := fun hk => by
      rw [List.getElem?_append_left hk] at e1
      have t := h _ (List.mem_of_getElem? e1)
      exact absurd t.1 (by decide)
    have k2 : ¬ d.length < K := fun hk => e2 _ hk hat
    omega
theorem bar_parts {l : List UInt8} (h : indexByte l 47 ≠ -1) : l = l.take (indexByte l 47).toNat ++ 47 :: l.drop ((indexByte l 47).toNat + 1) ∧ (indexByte l 47).toNat < l.length := by
  have g := indexByte_ge l 47
  obtain ⟨e1, _⟩ := indexByte_some (l := l) (c := 47) (o := (indexByte l 47).toNat) (by omega)
  generalize (indexByte l 47).toNat = K at e1 ⊢
  obtain ⟨hk, e2⟩ := List.getElem?_eq_some_iff.1 e1
  refine ⟨?_, hk⟩
  have e3 := List.drop_eq_getElem_cons hk
  rw [e2] at e3
  rw [← e3, List.take_append_drop]
theorem rtext_eq (n : Bool) (xs ys : List Int) : rtext n xs ys = (if n then [45] else []) ++ (decDigits (val xs).toNat ++ if ys = [1] then [] else 47 :: decDigits (val ys).toNat) := by
  unfold rtext wtext
  by_cases c : ys = [1]
  · rw [if_pos c, if_pos c]; simp
  · rw [if_neg c, if_neg c]; simp
theorem rneg_text (n : Bool) (xs ys : List Int) : rneg (rtext n xs ys) = n := by
  obtain ⟨d1, _, _⟩ := isNum_dec (val xs).toNat
  rw [rtext_eq]
  unfold rneg
  cases n with
  | true => simp
  | false =>
    apply decide_eq_false
    intro e
    simp only [Bool.false_eq_true, if_false, List.nil_append] at e
    rw [List.getElem?_append_left d1.1] at e
    have t := d1.2.2 _ (List.mem_of_getElem? e)
    exact absurd t.1 (by decide)
theorem wdig_text (n : Bool) (xs ys : List Int) : wdig (rneg (rtext n xs ys)) (rtext n xs ys) = decDigits (val xs).toNat ++ if ys = [1] then [] else 47 :: decDigits (val ys).toNat := by
  rw [rneg_text, rtext_eq]
  cases n <;> simp [wdig]
/-- What a fraction's text says. -/
theorem text_says (n : Bool) {xs ys : List Int} (wx : Wd xs) (wy : Wd ys) : IsNum (rup (rtext n xs ys)) ∧ (rbar (rtext n xs ys) = -1 ∨ IsNum (rdn (rtext n xs ys)) ∧ ys ≠ [1]) ∧ rnu (rtext n xs ys) = val xs ∧ rde (rtext n xs ys) = val ys := by
  obtain ⟨d1, d2, _⟩ := isNum_dec (val xs).toNat
  obtain ⟨f1, f2, _⟩ := isNum_dec (val ys).toNat
  have v0 := val_nonneg wx
  have u0 := val_nonneg wy
  have e := wdig_text n xs ys
  by_cases c : ys = [1]
  · rw [if_pos c, List.append_nil] at e
    have hb : rbar (rtext n xs ys) = -1 := by unfold rbar; rw [e]; exact bar_none d1.2.2
    have hu : rup (rtext n xs ys) = decDigits (val xs).toNat := by unfold rup; rw [if_pos hb, e]
    refine ⟨by rw [hu]; exact d1, .inl hb, ?_, ?_⟩
    · unfold rnu; rw [hu, d2]; omega
    · unfold rde; rw [if_pos hb, c]; simp [val, valTo]
  · rw [if_neg c] at e
    have hb : rbar (rtext n xs ys) = ((decDigits (val xs).toNat).length : Int) := by unfold rbar; rw [e]; exact bar_at d1.2.2 _
    have hn : ¬ rbar (rtext n xs ys) = -1 := by omega
    have ht : (rbar (rtext n xs ys)).toNat = (decDigits (val xs).toNat).length := by omega
    have hu : rup (rtext n xs ys) = decDigits (val xs).toNat := by unfold rup; rw [if_neg hn, e, ht]; simp
    have hd : rdn (rtext n xs ys) = decDigits (val ys).toNat := by unfold rdn; rw [if_neg hn, e, ht]; simp
    refine ⟨by rw [hu]; exact d1, .inr ⟨by rw [hd]; exact f1, c⟩, ?_, ?_⟩
    · unfold rnu; rw [hu, d2]; omega
    · unfold rde; rw [if_neg hn, hd, f2]; omega
theorem rpq_text (n : Bool) {xs ys : List Int} (wx : Wd xs) (wy : Wd ys) : rpq (rtext n xs ys) = rq n xs ys := by
  obtain ⟨_, _, e1, e2⟩ := text_says n wx wy
  unfold rpq rq
  rw [rneg_text, e1, e2]
  rfl
theorem rgood_text {n : Bool} {xs ys : List Int} (wx : Wd xs) (wy : Wd ys) (h : rform n xs ys) : rgood (rtext n xs ys) := by
  obtain ⟨hb, h0, hs, hg⟩ := h
  obtain ⟨h1, h2⟩ := both_ok hb
  obtain ⟨_, tx⟩ := chk_ok h1
  obtain ⟨_, ty⟩ := chk_ok h2
  obtain ⟨a1, a2, a3, a4⟩ := text_says n wx wy
  refine ⟨a1, ?_, by rw [a4]; exact val_pos' wy ty h0, ?_, by rw [a3, a4]; exact hg⟩
  · rcases a2 with a2 | ⟨a2, a5⟩
    · exact .inl a2
    · exact .inr ⟨a2, by rw [a4]; exact fun e => a5 ((one_iff wy ty).2 e)⟩
  · rcases hs with hs | hs
    · left; rw [rneg_text]; exact hs
    · right; rw [a3]; exact val_pos' wx tx hs
theorem wdig_back (l : List UInt8) : (if rneg l then [45] else []) ++ wdig (rneg l) l = l := by
  cases l with
  | nil => rfl
  | cons c l =>
    by_cases h : c = 45
    · subst h; simp [rneg, wdig]
    · have e : rneg (c :: l) = false := decide_eq_false (by simp [h])
      rw [e]; simp [wdig]
/-- A text that is a fraction's own is the text of what it says. -/
theorem says_text {l : List UInt8} (h : rgood l) {xs ys : List Int} (wy : Wd ys) (ty : Trimmed ys) (hx : val xs = rnu l) (hy : val ys = rde l) : rtext (rneg l) xs ys = l := by
  obtain ⟨h1, h2, _, _, _⟩ := h
  have d1 : decDigits (val xs).toNat = rup l := by
    rw [hx]
    unfold rnu
    exact dec_num ((rup l).length - 1) _ (by have := h1.1; omega) h1
  rw [rtext_eq, d1]
  conv => rhs; rw [← wdig_back l]
  congr 1
  rcases h2 with h2 | ⟨h2, h3⟩
  · have e1 : rde l = 1 := by unfold rde; rw [if_pos h2]
    rw [if_pos ((one_iff wy ty).2 (hy.trans e1))]
    unfold rup
    rw [if_pos h2]; simp
  · by_cases hb : rbar l = -1
    · exact absurd (show rde l = 1 by unfold rde; rw [if_pos hb]) h3
    · rw [if_neg (fun e => h3 (hy ▸ (one_iff wy ty).1 e))]
      have d2 : decDigits (val ys).toNat = rdn l := by
        rw [hy]
        unfold rde
        rw [if_neg hb]
        exact dec_num ((rdn l).length - 1) _ (by have := h2.1; omega) h2
      rw [d2]
      unfold rup rdn
      rw [if_neg hb, if_neg hb]
      exact (bar_parts (l := wdig (rneg l) l) hb).1.symm
theorem ten8 (k : Nat) : (10 : Int) ^ (8 * k) ≤ 4294967296 ^ k := by
  induction k with
  | zero => simp
  | succ k ih =>
    rw [show 8 * (k + 1) = 8 * k + 8 by omega, Int.pow_add, pw_succ]
    have e : (10 : Int) ^ 8 = 100000000 := by decide
    have p : (0 : Int) < 10 ^ (8 * k) := Int.pow_pos (by decide)
    rw [e]
    omega
theorem ten_mono {a b : Nat} (h : a ≤ b) : (10 : Int) ^ a ≤ 10 ^ b := by
  obtain ⟨c, rfl⟩ := Nat.le.dest h
  rw [Int.pow_add]
  have p : (0 : Int) < 10 ^ a := Int.pow_pos (by decide)
  have q : (0 : Int) < 10 ^ c := Int.pow_pos (by decide)
  have := Int.mul_le_mul_of_nonneg_left (show (1 : Int) ≤ 10 ^ c by omega) (Int.le_of_lt p)
  omega
/-- At most 65,536 digits go into 8,192 words. -/
theorem num_wide {l : List UInt8} (hd : Dg l) (hl : l.length ≤ 65536) : numTo l l.length < wide := by
  have h1 := (numTo_bounds hd l.length).2
  have h2 : (10 : Int) ^ l.length ≤ 10 ^ (8 * 8192) := ten_mono (by omega)
  have h3 := ten8 8192
  have e : wide = 4294967296 ^ 8192 := rfl
  rw [e]
  exact Int.lt_of_lt_of_le h1 (Int.le_trans h2 h3)
theorem RTells.self {n : Bool} {xs ys : List Int} (wx : Wd xs) (wy : Wd ys) (h : rchk n xs ys = 0) : RTells 0 (rq n xs ys) n xs ys 0 := by
  obtain ⟨lx, ly, tx, ty, y0, s0, g⟩ := rchk_ok h
  have hd := val_pos' wy ty y0
  obtain ⟨m, us, vs, c, e1, e2, e3, r⟩ := rtells_of (n := n) wx tx wy ty hd g
  have e4 := e1 none 0 none 0
  unfold rtoldV at e4
  rw [if_neg (by omega)] at e4
  have hc : c = 0 := by
    simp at e4
    exact e4.2.symm
  subst hc
  have hm : (n && decide (0 < xs.length)) = n := by
    rcases s0 with rfl | s0
    · rfl
    · rw [decide_eq_true s0, Bool.and_true]
  rw [hm] at e4
  have hn : n = m := by simp at e4; exact e4
  subst hn
  rw [if_pos rfl] at e2 e3
  subst e2 e3
  exact r
end Go.Proofs.YtmgjkdijnjeljaaGreatDoor

/- strings.Cut by a bar. -/
namespace Go.Proofs.YtmgjkdijnjeljaaGreatDoor
open Go.RowKit Go.Lib
set_option linter.unusedVariables false

set_option maxHeartbeats 3200000 in
set_option maxRecDepth 100000 in
theorem index_bar (s : ByteArray) (w : World) :
    Calls Tryz.prog 55 #[.string s, .string ⟨#[47]⟩] w fun e w' => e = .returned (.int .i64 (indexByte s.data.toList 47)) ∧ w = w' := by
  have HH := hid (Tryz.stringslite_IndexByte s 47 w)
  by_cases c : s.data.toList = [47]
  · have hc : (([47] : List UInt8) == s.toList) = true := by rw [toList_data, c]; rfl
    have hi : Hid (indexByte s.data.toList 47 = 0) := by show _ = _; rw [c]; rfl
    rw [hi.out]
    clear HH c
    go_enter Tryz.func55, Tryz.ntmps55
    go_wp2_with fail
    go_ret
    exact ⟨rfl, rfl⟩
  · have hc : (([47] : List UInt8) == s.toList) = false := by rw [toList_data]; exact beq_eq_false_iff_ne.2 (fun e => c e.symm)
    clear c
    go_enter Tryz.func55, Tryz.ntmps55
    go_wp2_with fail
    refine Calls.mono HH.out ?_
    rintro e w' ⟨rfl, rfl⟩
    go_wp2_with fail
    go_ret
    exact ⟨rfl, rfl⟩
set_option maxHeartbeats 3200000 in
set_option maxRecDepth 100000 in
theorem cutl_no (s : ByteArray) (w : World) (h : indexByte s.data.toList 47 = -1) :
    Calls Tryz.prog 36 #[.string s, .string ⟨#[47]⟩] w fun e w' => e = .returned (.tuple #[.string s, .string ⟨#[]⟩, .bool false]) ∧ w = w' := by
  have HH := hid (index_bar s w)
  rw [h] at HH
  clear h
  go_enter Tryz.func36, Tryz.ntmps36
  go_wp2_with fail
  refine Calls.mono HH.out ?_
  rintro e w' ⟨rfl, rfl⟩
  go_wp2_with fail
  go_ret3
  exact ⟨rfl, rfl⟩
set_option maxHeartbeats 3200000 in
set_option maxRecDepth 100000 in
theorem cutl_yes (s : ByteArray) (w : World) (i : Nat) (h : indexByte s.data.toList 47 = (i : Int)) (hi : i + 1 ≤ s.size) (hs : s.size ≤ 65536) :
    Calls Tryz.prog 36 #[.string s, .string ⟨#[47]⟩] w fun e w' => e = .returned (.tuple #[.string (s.extract 0 i), .string (s.extract (i + 1) s.size), .bool true]) ∧ Below w.heap.size w w' := by
  have HH := hid (index_bar s w)
  rw [h] at HH
  clear h
  have c1 : (0 : Int) ≤ ↑i := by omega
  have c2 : (↑i : Int) ≤ ↑s.size := by omega
  have c3 : (0 : Int) ≤ ↑i + 1 := by omega
  have c4 : (↑i + 1 : Int) ≤ ↑s.size := by omega
  have cw : IntKind.i64.wrap ((i : Int) + 1) = (i : Int) + 1 := by rw [IntKind.wrap_i64]; omega
  go_enter Tryz.func36, Tryz.ntmps36
  go_wp2_with fail
  refine Calls.mono HH.out ?_
  rintro e w' ⟨rfl, rfl⟩
  go_wp2_with fail
  go_region
  go_wp2_with fail
  go_ret3
  exact ⟨rfl, (Below.refl _ _).drew⟩
set_option maxHeartbeats 1600000 in
set_option maxRecDepth 100000 in
theorem cut_no (s : ByteArray) (w : World) (h : indexByte s.data.toList 47 = -1) :
    Calls Tryz.prog 20 #[.string s, .string ⟨#[47]⟩] w fun e w' => e = .returned (.tuple #[.string s, .string ⟨#[]⟩, .bool false]) ∧ w = w' := by
  have HH := hid (cutl_no s w h)
  clear h
  go_enter Tryz.func20, Tryz.ntmps20
  go_wp2_with fail
  refine Calls.mono HH.out ?_
  rintro e w' ⟨rfl, rfl⟩
  go_wp2_with fail
  go_ret3
  exact ⟨rfl, rfl⟩
set_option maxHeartbeats 1600000 in
set_option maxRecDepth 100000 in
theorem cut_yes (s : ByteArray) (w : World) (i : Nat) (h : indexByte s.data.toList 47 = (i : Int)) (hi : i + 1 ≤ s.size) (hs : s.size ≤ 65536) :
    Calls Tryz.prog 20 #[.string s, .string ⟨#[47]⟩] w fun e w' => e = .returned (.tuple #[.string (s.extract 0 i), .string (s.extract (i + 1) s.size), .bool true]) ∧ Below w.heap.size w w' := by
  have HH := hid (cutl_yes s w i h hi hs)
  clear h
  go_enter Tryz.func20, Tryz.ntmps20
  go_wp2_with fail
  refine Calls.mono HH.out ?_
  rintro e w' ⟨rfl, hb⟩
  go_wp2_with fail
  go_ret3
  exact ⟨rfl, hb⟩

end Go.Proofs.YtmgjkdijnjeljaaGreatDoor

/- Fractions read from a text: ratio.read, for any text. -/
namespace Go.Proofs.YtmgjkdijnjeljaaGreatDoor
open Go.RowKit Go.Lib
set_option linter.unusedVariables false

/-- What read tells: a sign, two rows of the call's own, apart; in a fraction's one form just where the text is one's own. -/
def RRead (w : World) (l : List UInt8) (x : Ending) (w' : World) : Prop :=
  ∃ n v xs u ys, x = .returned (.agg #[.bool n, v, u]) ∧ w'.ownsRow w.heap.size 85 1 v xs.length (xs.map (Value.int .u32)) ∧ w'.ownsRow w.heap.size 85 1 u ys.length (ys.map (Value.int .u32)) ∧ Wd xs ∧ Wd ys ∧ xs.length ≤ 8192 ∧ ys.length ≤ 8192 ∧ (rform n xs ys ↔ rgood l) ∧ (rgood l → n = rneg l ∧ Trimmed xs ∧ Trimmed ys ∧ val xs = rnu l ∧ val ys = rde l) ∧ Below w.heap.size w w' ∧ Cut w v u w'
theorem rread_bad {w w' : World} {l : List UInt8} (h : ¬ rgood l) (hb : Below w.heap.size w w') : RRead w l (.returned (.agg #[.bool false, .slice none 0 0, .slice none 0 0])) w' :=
  ⟨false, _, [], _, [], rfl, World.ownsRow_nil _ _ _ _, World.ownsRow_nil _ _ _ _, Wd.nil, Wd.nil, by simp, by simp, ⟨fun e => absurd e.2.1 (by simp), fun e => absurd e h⟩, fun e => absurd e h, hb, w'.heap.size, hb.size, Nat.le_refl _, fun g hg => by simp [Value.ownBlock] at hg, fun g hg => by simp [Value.ownBlock] at hg⟩
theorem rform_good {n : Bool} {xs ys : List Int} (wx : Wd xs) (wy : Wd ys) (tx : Trimmed xs) (ty : Trimmed ys) (lx : xs.length ≤ 8192) (ly : ys.length ≤ 8192) {l : List UInt8} (hn : n = rneg l) (hx : val xs = rnu l) (hy : val ys = rde l) (h1 : IsNum (rup l)) (h2 : rbar l = -1 ∨ IsNum (rdn l) ∧ rde l ≠ 1) : rform n xs ys ↔ rgood l := by
  have hp : 0 < ys.length ↔ 0 < rde l := by
    rw [← hy]
    exact ⟨fun h => val_pos' wy ty h, fun h => by
      by_cases c : ys.length = 0
      · obtain rfl := List.length_eq_zero_iff.1 c
        simp [val, valTo] at h
      · omega⟩
  have hq : 0 < xs.length ↔ 0 < rnu l := by
    rw [← hx]
    exact ⟨fun h => val_pos' wx tx h, fun h => by
      by_cases c : xs.length = 0
      · obtain rfl := List.length_eq_zero_iff.1 c
        simp [val, valTo] at h
      · omega⟩
  unfold rform rgood
  rw [hp, hq, hn, hx, hy]
  exact ⟨fun e => ⟨h1, h2, e.2.1, e.2.2.1, e.2.2.2⟩, fun e => ⟨both_good (chk_good lx tx) (chk_good ly ty), e.2.2.1, e.2.2.2.1, e.2.2.2.2⟩⟩
theorem rread_put {w U W : World} {l : List UInt8} {n : Bool} {v u : Value} {xs ys : List Int} (hU : Below w.heap.size w U) (hlt : w.heap.size < U.heap.size) (hW : Below U.heap.size U W) (o1 : One U W v xs (rnu l)) (o2 : One U W u ys (rde l)) (hc : Cut U v u W) (lx : xs.length ≤ 8192) (ly : ys.length ≤ 8192) (hn : n = rneg l) (h1 : IsNum (rup l)) (h2 : rbar l = -1 ∨ IsNum (rdn l) ∧ rde l ≠ 1) (x y z : Value) :
    RRead w l (.returned (.agg #[.bool n, v, u])) (((W.setCell ⟨w.heap.size, 0, none⟩ x).setCell ⟨w.heap.size, 1, none⟩ y).setCell ⟨w.heap.size, 2, none⟩ z) :=
  ⟨n, v, xs, u, ys, rfl, owns_base (own_put3 o1.1 _ (fun g hg => by have := (World.ownsRow.lt o1.1 g hg).1; omega) _ _ _) (by omega), owns_base (own_put3 o2.1 _ (fun g hg => by have := (World.ownsRow.lt o2.1 g hg).1; omega) _ _ _) (by omega), o1.2.1, o2.2.1, lx, ly, rform_good o1.2.1 o2.2.1 o1.2.2.1 o2.2.2.1 lx ly hn o1.2.2.2 o2.2.2.2 h1 h2, fun _ => ⟨hn, o1.2.2.1, o2.2.2.1, o1.2.2.2, o2.2.2.2⟩, below_put3 (bt hU hW) _ (Nat.le_refl _) _ _ _, hc.up (by omega) (by simp)⟩
theorem parse_good (T : ByteArray) (w : World) (hs : T.size ≤ 65536) (l : List UInt8) (hl : T.data.toList = l) (h : IsNum l) :
    Calls Tryz.prog 76 #[.string T] w fun x w' => ∃ a zs c, x = .returned (.tuple #[.slice a (List.length zs) c, .int .i64 0]) ∧ Hid (One w w' (.slice a (List.length zs) c) zs (numTo l l.length) ∧ zs.length ≤ 8192) ∧ Below w.heap.size w w' := by
  have HP := parse_any T w (by unfold maxLen; omega)
  rw [pErr_ok T hs (by rw [hl]; exact h)] at HP
  have hw := num_wide h.2.2 (by rw [← hl, size_list]; exact hs)
  refine Calls.mono HP ?_
  rintro x w' ⟨v, zs, code, rfl, o, t, hb⟩
  obtain ⟨a, c, hv⟩ := own_slice' o
  subst hv
  have e : numTo T.data.toList T.size = numTo l l.length := by rw [← size_list, hl]
  rw [e] at t
  obtain ⟨rfl, hz⟩ := t.good rfl hw
  exact ⟨a, zs, c, rfl, ⟨⟨o, t.wd, t.trim, hz⟩, own_len (U := w) (V := w') ⟨o, t.wd, t.trim, hz⟩ hw⟩, hb⟩
theorem parse_bad (T : ByteArray) (w : World) (hs : T.size ≤ 65536) (l : List UInt8) (hl : T.data.toList = l) (h : ¬ IsNum l) :
    Calls Tryz.prog 76 #[.string T] w fun x w' => ∃ a c, x = .returned (.tuple #[.slice a 0 c, .int .i64 110]) ∧ Below w.heap.size w w' := by
  have HP := parse_any T w (by unfold maxLen; omega)
  rw [pErr_not T hs (by rw [hl]; exact h)] at HP
  refine Calls.mono HP ?_
  rintro x w' ⟨v, zs, code, rfl, o, t, hb⟩
  obtain ⟨a, c, hv⟩ := own_slice' o
  subst hv
  obtain ⟨rfl, rfl⟩ := t.bad (by decide)
  exact ⟨a, c, rfl, hb⟩
theorem of_one (w : World) : Calls Tryz.prog 49 #[.int .u64 1] w fun x w' => ∃ a c, x = .returned (.slice a 1 c) ∧ Hid (One w w' (.slice a 1 c) [1] 1) ∧ Below w.heap.size w w' := by
  refine Calls.mono (of_any 1 w (by decide) (by decide)) ?_
  rintro x w' ⟨v, rfl, o, hb⟩
  have e1 : sz [(1 : Int) % 4294967296, 1 / 4294967296] = 1 := by decide
  have e2 : trimmed [(1 : Int) % 4294967296, 1 / 4294967296] = [1] := by decide
  rw [e1, e2] at o
  obtain ⟨a, c, hv⟩ := own_slice' o
  subst hv
  exact ⟨a, c, rfl, ⟨o, Wd.one (by omega), rfl, by simp [val, valTo]⟩, hb⟩

set_option maxHeartbeats 6400000 in
set_option maxRecDepth 100000 in
theorem read_A1 (s : ByteArray) (w : World) (hs : s.size ≤ 65536) (hB : rbar s.data.toList = -1) (hU : ¬ IsNum (rup s.data.toList)) :
    Calls Tryz.prog 57 #[.string s] w (RRead w s.data.toList) := by
  have HB := hid (alloc_later w (.cells #[.bool false, .slice none 0 0, .slice none 0 0] 27))
  have HZ := hid (Box.made w 27 #[.bool false, .slice none 0 0, .slice none 0 0])
  have HLT : Hid (w.heap.size < (w.alloc (.cells #[.bool false, .slice none 0 0, .slice none 0 0] 27)).heap.size) := by show _ < _; simp
  have HCP := hid (cutPrefix_minus s (w.alloc (.cells #[.bool false, .slice none 0 0, .slice none 0 0] 27)) hs)
  have hss := size_list s
  rw [show decide (s.data.toList[0]? = some 45) = rneg s.data.toList from rfl] at HCP
  have HBR := hid hB
  have HU := hid hU
  have HBAD : Hid (¬ rgood s.data.toList) := fun h => hU h.1
  clear hB hU
  go_enter Tryz.func57, Tryz.ntmps57
  go_wp2_with fail
  refine Calls.mono HCP.out ?_
  rintro e w' ⟨T, b, rfl, hbb, hTw, rfl⟩
  have hTs : T.size ≤ 65536 := by
    rw [← size_list, hTw]
    split
    · rw [List.length_drop]; omega
    · omega
  have hTb : indexByte T.data.toList 47 = rbar s.data.toList := by rw [hTw, hbb]; rfl
  have hTw' : T.data.toList = wdig (rneg s.data.toList) s.data.toList := by rw [hTw, hbb]; rfl
  clear hTw HCP
  have HC := hid (cut_no T (w.alloc (.cells #[.bool false, .slice none 0 0, .slice none 0 0] 27)) (by rw [hTb]; exact HBR.out))
  have HA : Hid (T.data.toList = rup s.data.toList) := by show _ = _; rw [hTw']; unfold rup; rw [if_pos HBR.out]
  clear hTb hTw'
  go_wp2_with fail
  refine Calls.mono HC.out ?_
  rintro e w1 ⟨rfl, rfl⟩
  clear HC
  have HH := hid (parse_bad T (w.alloc (.cells #[.bool false, .slice none 0 0, .slice none 0 0] 27)) hTs _ HA.out HU.out)
  go_wp2_with fail
  refine Calls.mono HH.out ?_
  rintro e w2 ⟨a2, c2, rfl, hb2⟩
  clear HH
  obtain ⟨r0, r1, r2, f0, f1, f2⟩ := res_box3 HZ.out hb2
  have HBA := hid (bt HB.out hb2)
  go_wp2_with fail
  refine bodyPost_ret (v := .agg #[.bool false, .slice none 0 0, .slice none 0 0]) (by simp [results, Tryz.results57, go_sem, r0, r1, r2]) rfl ?_
  exact rread_bad HBAD.out (below_put3 HBA.out _ (Nat.le_refl _) _ _ _)

set_option maxHeartbeats 6400000 in
set_option maxRecDepth 100000 in
theorem read_A2 (s : ByteArray) (w : World) (hs : s.size ≤ 65536) (hB : ¬ rbar s.data.toList = -1) (hU : ¬ IsNum (rup s.data.toList)) :
    Calls Tryz.prog 57 #[.string s] w (RRead w s.data.toList) := by
  have HB := hid (alloc_later w (.cells #[.bool false, .slice none 0 0, .slice none 0 0] 27))
  have HZ := hid (Box.made w 27 #[.bool false, .slice none 0 0, .slice none 0 0])
  have HLT : Hid (w.heap.size < (w.alloc (.cells #[.bool false, .slice none 0 0, .slice none 0 0] 27)).heap.size) := by show _ < _; simp
  have HCP := hid (cutPrefix_minus s (w.alloc (.cells #[.bool false, .slice none 0 0, .slice none 0 0] 27)) hs)
  have hss := size_list s
  rw [show decide (s.data.toList[0]? = some 45) = rneg s.data.toList from rfl] at HCP
  have HBR := hid hB
  have HU := hid hU
  have HBAD : Hid (¬ rgood s.data.toList) := fun h => hU h.1
  clear hB hU
  go_enter Tryz.func57, Tryz.ntmps57
  go_wp2_with fail
  refine Calls.mono HCP.out ?_
  rintro e w' ⟨T, b, rfl, hbb, hTw, rfl⟩
  have hTs : T.size ≤ 65536 := by
    rw [← size_list, hTw]
    split
    · rw [List.length_drop]; omega
    · omega
  have hTb : indexByte T.data.toList 47 = rbar s.data.toList := by rw [hTw, hbb]; rfl
  have hTw' : T.data.toList = wdig (rneg s.data.toList) s.data.toList := by rw [hTw, hbb]; rfl
  clear hTw HCP
  obtain ⟨i, hi⟩ : ∃ i : Nat, rbar s.data.toList = (i : Int) := ⟨(rbar s.data.toList).toNat, by have := indexByte_ge (wdig (rneg s.data.toList) s.data.toList) 47; have h := HBR.out; have e : rbar s.data.toList = indexByte (wdig (rneg s.data.toList) s.data.toList) 47 := rfl; omega⟩
  have hil : i + 1 ≤ T.size := by
    have h := (bar_parts (l := T.data.toList) (by rw [hTb]; exact HBR.out)).2
    rw [hTb, size_list] at h
    omega
  have HC := hid (cut_yes T (w.alloc (.cells #[.bool false, .slice none 0 0, .slice none 0 0] 27)) i (by rw [hTb]; exact hi) hil hTs)
  have HA : Hid ((T.extract 0 i).data.toList = rup s.data.toList) := by show _ = _; rw [extract_list, hTw']; unfold rup; rw [if_neg HBR.out, hi]; simp
  have HD : Hid ((T.extract (i + 1) T.size).data.toList = rdn s.data.toList) := by
    show _ = _
    rw [extract_list, List.take_of_length_le (by rw [List.length_drop, size_list]; omega), hTw']
    unfold rdn
    rw [if_neg HBR.out, hi]; simp
  have hAs : (T.extract 0 i).size ≤ 65536 := by rw [← size_list, extract_list, List.length_take, List.length_drop, size_list]; omega
  have hDs : (T.extract (i + 1) T.size).size ≤ 65536 := by rw [← size_list, extract_list, List.length_take, List.length_drop, size_list]; omega
  generalize T.extract 0 i = A at *
  generalize T.extract (i + 1) T.size = D at *
  clear hTw' hTb hi hil hTs
  go_wp2_with fail
  refine Calls.mono HC.out ?_
  rintro e w1 ⟨rfl, hb1⟩
  clear HC
  have HH := hid (parse_bad A w1 hAs _ HA.out HU.out)
  go_wp2_with fail
  refine Calls.mono HH.out ?_
  rintro e w2 ⟨a2, c2, rfl, hb2⟩
  clear HH
  obtain ⟨r0, r1, r2, f0, f1, f2⟩ := res_box3 HZ.out (bt hb1 hb2)
  have HBA := hid (bt HB.out (bt hb1 hb2))
  go_wp2_with fail
  refine bodyPost_ret (v := .agg #[.bool false, .slice none 0 0, .slice none 0 0]) (by simp [results, Tryz.results57, go_sem, r0, r1, r2]) rfl ?_
  exact rread_bad HBAD.out (below_put3 HBA.out _ (Nat.le_refl _) _ _ _)

set_option maxHeartbeats 6400000 in
set_option maxRecDepth 100000 in
theorem read_B (s : ByteArray) (w : World) (hs : s.size ≤ 65536) (hB : rbar s.data.toList = -1) (hU : IsNum (rup s.data.toList)) :
    Calls Tryz.prog 57 #[.string s] w (RRead w s.data.toList) := by
  have HB := hid (alloc_later w (.cells #[.bool false, .slice none 0 0, .slice none 0 0] 27))
  have HZ := hid (Box.made w 27 #[.bool false, .slice none 0 0, .slice none 0 0])
  have HLT : Hid (w.heap.size < (w.alloc (.cells #[.bool false, .slice none 0 0, .slice none 0 0] 27)).heap.size) := by show _ < _; simp
  have HCP := hid (cutPrefix_minus s (w.alloc (.cells #[.bool false, .slice none 0 0, .slice none 0 0] 27)) hs)
  have hss := size_list s
  rw [show decide (s.data.toList[0]? = some 45) = rneg s.data.toList from rfl] at HCP
  have HBR := hid hB
  have HU := hid hU
  clear hB hU
  go_enter Tryz.func57, Tryz.ntmps57
  go_wp2_with fail
  refine Calls.mono HCP.out ?_
  rintro e w' ⟨T, b, rfl, hbb, hTw, rfl⟩
  have hTs : T.size ≤ 65536 := by
    rw [← size_list, hTw]
    split
    · rw [List.length_drop]; omega
    · omega
  have hTb : indexByte T.data.toList 47 = rbar s.data.toList := by rw [hTw, hbb]; rfl
  have hTw' : T.data.toList = wdig (rneg s.data.toList) s.data.toList := by rw [hTw, hbb]; rfl
  clear hTw HCP
  have HC := hid (cut_no T (w.alloc (.cells #[.bool false, .slice none 0 0, .slice none 0 0] 27)) (by rw [hTb]; exact HBR.out))
  have HA : Hid (T.data.toList = rup s.data.toList) := by show _ = _; rw [hTw']; unfold rup; rw [if_pos HBR.out]
  clear hTb hTw'
  go_wp2_with fail
  refine Calls.mono HC.out ?_
  rintro e w1 ⟨rfl, rfl⟩
  clear HC
  have HH := hid (parse_good T (w.alloc (.cells #[.bool false, .slice none 0 0, .slice none 0 0] 27)) hTs _ HA.out HU.out)
  go_wp2_with fail
  refine Calls.mono HH.out ?_
  rintro e w2 ⟨a2, z2, c2, rfl, H2, hb2⟩
  clear HH
  have HH := hid (of_one w2)
  go_wp2_with fail
  refine Calls.mono HH.out ?_
  rintro e w3 ⟨a3, c3, rfl, H3, hb3⟩
  clear HH
  have HW := hid (bt hb2 hb3)
  obtain ⟨r0, r1, r2, f0, f1, f2⟩ := res_box3 HZ.out HW.out
  have hz2 := hb2.size
  have hz3 := hb3.size
  have HO2 : Hid (One (w.alloc (.cells #[.bool false, .slice none 0 0, .slice none 0 0] 27)) w3 (.slice a2 z2.length c2) z2 (rnu s.data.toList)) := ⟨owns_later H2.out.1.1 hb3, H2.out.1.2⟩
  have HDE : Hid (rde s.data.toList = 1) := by show _ = _; unfold rde; rw [if_pos HBR.out]
  have HO3 : Hid (One (w.alloc (.cells #[.bool false, .slice none 0 0, .slice none 0 0] 27)) w3 (.slice a3 1 c3) [1] (rde s.data.toList)) := ⟨owns_base H3.out.1 (by omega), H3.out.2.1, H3.out.2.2.1, by rw [HDE.out]; exact H3.out.2.2.2⟩
  have HCUT : Hid (Cut (w.alloc (.cells #[.bool false, .slice none 0 0, .slice none 0 0] 27)) (.slice a2 z2.length c2) (.slice a3 1 c3) w3) := cut_two (Nat.le_refl _) hz2 hz3 (World.ownsRow.lt H2.out.1.1) (World.ownsRow.lt H3.out.1)
  have HLL := hid H2.out.2
  clear hb2 hb3 hz2 hz3 H2 H3
  subst hbb
  go_wp2_with fail
  refine bodyPost_ret (v := .agg #[.bool (rneg s.data.toList), .slice a2 z2.length c2, .slice a3 1 c3]) (by simp [results, Tryz.results57, go_sem, r0, r1, r2]) rfl ?_
  exact rread_put HB.out HLT.out HW.out HO2.out HO3.out HCUT.out HLL.out (by simp) rfl HU.out (.inl HBR.out) _ _ _

set_option maxHeartbeats 6400000 in
set_option maxRecDepth 100000 in
theorem read_C (s : ByteArray) (w : World) (hs : s.size ≤ 65536) (hB : ¬ rbar s.data.toList = -1) (hU : IsNum (rup s.data.toList)) (hV : ¬ IsNum (rdn s.data.toList)) :
    Calls Tryz.prog 57 #[.string s] w (RRead w s.data.toList) := by
  have HB := hid (alloc_later w (.cells #[.bool false, .slice none 0 0, .slice none 0 0] 27))
  have HZ := hid (Box.made w 27 #[.bool false, .slice none 0 0, .slice none 0 0])
  have HLT : Hid (w.heap.size < (w.alloc (.cells #[.bool false, .slice none 0 0, .slice none 0 0] 27)).heap.size) := by show _ < _; simp
  have HCP := hid (cutPrefix_minus s (w.alloc (.cells #[.bool false, .slice none 0 0, .slice none 0 0] 27)) hs)
  have hss := size_list s
  rw [show decide (s.data.toList[0]? = some 45) = rneg s.data.toList from rfl] at HCP
  have HBR := hid hB
  have HU := hid hU
  have HV := hid hV
  have HBAD : Hid (¬ rgood s.data.toList) := fun h => h.2.1.elim hB (fun e => hV e.1)
  clear hB hU hV
  go_enter Tryz.func57, Tryz.ntmps57
  go_wp2_with fail
  refine Calls.mono HCP.out ?_
  rintro e w' ⟨T, b, rfl, hbb, hTw, rfl⟩
  have hTs : T.size ≤ 65536 := by
    rw [← size_list, hTw]
    split
    · rw [List.length_drop]; omega
    · omega
  have hTb : indexByte T.data.toList 47 = rbar s.data.toList := by rw [hTw, hbb]; rfl
  have hTw' : T.data.toList = wdig (rneg s.data.toList) s.data.toList := by rw [hTw, hbb]; rfl
  clear hTw HCP
  obtain ⟨i, hi⟩ : ∃ i : Nat, rbar s.data.toList = (i : Int) := ⟨(rbar s.data.toList).toNat, by have := indexByte_ge (wdig (rneg s.data.toList) s.data.toList) 47; have h := HBR.out; have e : rbar s.data.toList = indexByte (wdig (rneg s.data.toList) s.data.toList) 47 := rfl; omega⟩
  have hil : i + 1 ≤ T.size := by
    have h := (bar_parts (l := T.data.toList) (by rw [hTb]; exact HBR.out)).2
    rw [hTb, size_list] at h
    omega
  have HC := hid (cut_yes T (w.alloc (.cells #[.bool false, .slice none 0 0, .slice none 0 0] 27)) i (by rw [hTb]; exact hi) hil hTs)
  have HA : Hid ((T.extract 0 i).data.toList = rup s.data.toList) := by show _ = _; rw [extract_list, hTw']; unfold rup; rw [if_neg HBR.out, hi]; simp
  have HD : Hid ((T.extract (i + 1) T.size).data.toList = rdn s.data.toList) := by
    show _ = _
    rw [extract_list, List.take_of_length_le (by rw [List.length_drop, size_list]; omega), hTw']
    unfold rdn
    rw [if_neg HBR.out, hi]; simp
  have hAs : (T.extract 0 i).size ≤ 65536 := by rw [← size_list, extract_list, List.length_take, List.length_drop, size_list]; omega
  have hDs : (T.extract (i + 1) T.size).size ≤ 65536 := by rw [← size_list, extract_list, List.length_take, List.length_drop, size_list]; omega
  generalize T.extract 0 i = A at *
  generalize T.extract (i + 1) T.size = D at *
  clear hTw' hTb hi hil hTs
  go_wp2_with fail
  refine Calls.mono HC.out ?_
  rintro e w1 ⟨rfl, hb1⟩
  clear HC
  have HH := hid (parse_good A w1 hAs _ HA.out HU.out)
  go_wp2_with fail
  refine Calls.mono HH.out ?_
  rintro e w2 ⟨a2, z2, c2, rfl, H2, hb2⟩
  clear HH
  have HH := hid (parse_bad D w2 hDs _ HD.out HV.out)
  go_wp2_with fail
  refine Calls.mono HH.out ?_
  rintro e w3 ⟨a3, c3, rfl, hb3⟩
  clear HH
  obtain ⟨r0, r1, r2, f0, f1, f2⟩ := res_box3 HZ.out (bt hb1 (bt hb2 hb3))
  have HBA := hid (bt HB.out (bt hb1 (bt hb2 hb3)))
  go_wp2_with fail
  refine bodyPost_ret (v := .agg #[.bool false, .slice none 0 0, .slice none 0 0]) (by simp [results, Tryz.results57, go_sem, r0, r1, r2]) rfl ?_
  exact rread_bad HBAD.out (below_put3 HBA.out _ (Nat.le_refl _) _ _ _)

set_option maxHeartbeats 6400000 in
set_option maxRecDepth 100000 in
theorem read_D (s : ByteArray) (w : World) (hs : s.size ≤ 65536) (hB : ¬ rbar s.data.toList = -1) (hU : IsNum (rup s.data.toList)) (hV : IsNum (rdn s.data.toList)) (hO : rde s.data.toList = 1) :
    Calls Tryz.prog 57 #[.string s] w (RRead w s.data.toList) := by
  have HB := hid (alloc_later w (.cells #[.bool false, .slice none 0 0, .slice none 0 0] 27))
  have HZ := hid (Box.made w 27 #[.bool false, .slice none 0 0, .slice none 0 0])
  have HLT : Hid (w.heap.size < (w.alloc (.cells #[.bool false, .slice none 0 0, .slice none 0 0] 27)).heap.size) := by show _ < _; simp
  have HCP := hid (cutPrefix_minus s (w.alloc (.cells #[.bool false, .slice none 0 0, .slice none 0 0] 27)) hs)
  have hss := size_list s
  rw [show decide (s.data.toList[0]? = some 45) = rneg s.data.toList from rfl] at HCP
  have HBR := hid hB
  have HU := hid hU
  have HV := hid hV
  have HBAD : Hid (¬ rgood s.data.toList) := fun h => h.2.1.elim hB (fun e => e.2 hO)
  have hde : rde s.data.toList = numTo (rdn s.data.toList) (rdn s.data.toList).length := by unfold rde; rw [if_neg hB]
  have hval : ∀ z : List Int, Wd z → Trimmed z → val z = numTo (rdn s.data.toList) (rdn s.data.toList).length → decide (z = [1]) = true := fun z w t v => decide_eq_true ((one_iff w t).2 (by rw [v, ← hde]; exact hO))
  clear hB hU hV hO hde
  go_enter Tryz.func57, Tryz.ntmps57
  go_wp2_with fail
  refine Calls.mono HCP.out ?_
  rintro e w' ⟨T, b, rfl, hbb, hTw, rfl⟩
  have hTs : T.size ≤ 65536 := by
    rw [← size_list, hTw]
    split
    · rw [List.length_drop]; omega
    · omega
  have hTb : indexByte T.data.toList 47 = rbar s.data.toList := by rw [hTw, hbb]; rfl
  have hTw' : T.data.toList = wdig (rneg s.data.toList) s.data.toList := by rw [hTw, hbb]; rfl
  clear hTw HCP
  obtain ⟨i, hi⟩ : ∃ i : Nat, rbar s.data.toList = (i : Int) := ⟨(rbar s.data.toList).toNat, by have := indexByte_ge (wdig (rneg s.data.toList) s.data.toList) 47; have h := HBR.out; have e : rbar s.data.toList = indexByte (wdig (rneg s.data.toList) s.data.toList) 47 := rfl; omega⟩
  have hil : i + 1 ≤ T.size := by
    have h := (bar_parts (l := T.data.toList) (by rw [hTb]; exact HBR.out)).2
    rw [hTb, size_list] at h
    omega
  have HC := hid (cut_yes T (w.alloc (.cells #[.bool false, .slice none 0 0, .slice none 0 0] 27)) i (by rw [hTb]; exact hi) hil hTs)
  have HA : Hid ((T.extract 0 i).data.toList = rup s.data.toList) := by show _ = _; rw [extract_list, hTw']; unfold rup; rw [if_neg HBR.out, hi]; simp
  have HD : Hid ((T.extract (i + 1) T.size).data.toList = rdn s.data.toList) := by
    show _ = _
    rw [extract_list, List.take_of_length_le (by rw [List.length_drop, size_list]; omega), hTw']
    unfold rdn
    rw [if_neg HBR.out, hi]; simp
  have hAs : (T.extract 0 i).size ≤ 65536 := by rw [← size_list, extract_list, List.length_take, List.length_drop, size_list]; omega
  have hDs : (T.extract (i + 1) T.size).size ≤ 65536 := by rw [← size_list, extract_list, List.length_take, List.length_drop, size_list]; omega
  generalize T.extract 0 i = A at *
  generalize T.extract (i + 1) T.size = D at *
  clear hTw' hTb hi hil hTs
  go_wp2_with fail
  refine Calls.mono HC.out ?_
  rintro e w1 ⟨rfl, hb1⟩
  clear HC
  have HH := hid (parse_good A w1 hAs _ HA.out HU.out)
  go_wp2_with fail
  refine Calls.mono HH.out ?_
  rintro e w2 ⟨a2, z2, c2, rfl, H2, hb2⟩
  clear HH
  have HH := hid (parse_good D w2 hDs _ HD.out HV.out)
  go_wp2_with fail
  refine Calls.mono HH.out ?_
  rintro e w3 ⟨a3, z3, c3, rfl, H3, hb3⟩
  clear HH
  have HI := isOne_any _ z3 w3 (Sl.own H3.out.1.1 H3.out.1.2.1)
  rw [hval z3 H3.out.1.2.1 H3.out.1.2.2.1 H3.out.1.2.2.2] at HI
  clear hval
  have HH := hid (HI)
  go_wp2_with fail
  refine Calls.mono HH.out ?_
  rintro e w4 ⟨rfl, rfl⟩
  clear HH
  obtain ⟨r0, r1, r2, f0, f1, f2⟩ := res_box3 HZ.out (bt hb1 (bt hb2 hb3))
  have HBA := hid (bt HB.out (bt hb1 (bt hb2 hb3)))
  go_wp2_with fail
  refine bodyPost_ret (v := .agg #[.bool false, .slice none 0 0, .slice none 0 0]) (by simp [results, Tryz.results57, go_sem, r0, r1, r2]) rfl ?_
  exact rread_bad HBAD.out (below_put3 HBA.out _ (Nat.le_refl _) _ _ _)

set_option maxHeartbeats 6400000 in
set_option maxRecDepth 100000 in
theorem read_E (s : ByteArray) (w : World) (hs : s.size ≤ 65536) (hB : ¬ rbar s.data.toList = -1) (hU : IsNum (rup s.data.toList)) (hV : IsNum (rdn s.data.toList)) (hO : ¬ rde s.data.toList = 1) :
    Calls Tryz.prog 57 #[.string s] w (RRead w s.data.toList) := by
  have HB := hid (alloc_later w (.cells #[.bool false, .slice none 0 0, .slice none 0 0] 27))
  have HZ := hid (Box.made w 27 #[.bool false, .slice none 0 0, .slice none 0 0])
  have HLT : Hid (w.heap.size < (w.alloc (.cells #[.bool false, .slice none 0 0, .slice none 0 0] 27)).heap.size) := by show _ < _; simp
  have HCP := hid (cutPrefix_minus s (w.alloc (.cells #[.bool false, .slice none 0 0, .slice none 0 0] 27)) hs)
  have hss := size_list s
  rw [show decide (s.data.toList[0]? = some 45) = rneg s.data.toList from rfl] at HCP
  have HBR := hid hB
  have HU := hid hU
  have HV := hid hV
  have HO := hid hO
  have hde : rde s.data.toList = numTo (rdn s.data.toList) (rdn s.data.toList).length := by unfold rde; rw [if_neg hB]
  have hval : ∀ z : List Int, Wd z → Trimmed z → val z = numTo (rdn s.data.toList) (rdn s.data.toList).length → decide (z = [1]) = false := fun z w t v => decide_eq_false (fun e => hO (by rw [hde, ← v]; exact (one_iff w t).1 e))
  have HDE := hid hde
  clear hB hU hV hO hde
  go_enter Tryz.func57, Tryz.ntmps57
  go_wp2_with fail
  refine Calls.mono HCP.out ?_
  rintro e w' ⟨T, b, rfl, hbb, hTw, rfl⟩
  have hTs : T.size ≤ 65536 := by
    rw [← size_list, hTw]
    split
    · rw [List.length_drop]; omega
    · omega
  have hTb : indexByte T.data.toList 47 = rbar s.data.toList := by rw [hTw, hbb]; rfl
  have hTw' : T.data.toList = wdig (rneg s.data.toList) s.data.toList := by rw [hTw, hbb]; rfl
  clear hTw HCP
  obtain ⟨i, hi⟩ : ∃ i : Nat, rbar s.data.toList = (i : Int) := ⟨(rbar s.data.toList).toNat, by have := indexByte_ge (wdig (rneg s.data.toList) s.data.toList) 47; have h := HBR.out; have e : rbar s.data.toList = indexByte (wdig (rneg s.data.toList) s.data.toList) 47 := rfl; omega⟩
  have hil : i + 1 ≤ T.size := by
    have h := (bar_parts (l := T.data.toList) (by rw [hTb]; exact HBR.out)).2
    rw [hTb, size_list] at h
    omega
  have HC := hid (cut_yes T (w.alloc (.cells #[.bool false, .slice none 0 0, .slice none 0 0] 27)) i (by rw [hTb]; exact hi) hil hTs)
  have HA : Hid ((T.extract 0 i).data.toList = rup s.data.toList) := by show _ = _; rw [extract_list, hTw']; unfold rup; rw [if_neg HBR.out, hi]; simp
  have HD : Hid ((T.extract (i + 1) T.size).data.toList = rdn s.data.toList) := by
    show _ = _
    rw [extract_list, List.take_of_length_le (by rw [List.length_drop, size_list]; omega), hTw']
    unfold rdn
    rw [if_neg HBR.out, hi]; simp
  have hAs : (T.extract 0 i).size ≤ 65536 := by rw [← size_list, extract_list, List.length_take, List.length_drop, size_list]; omega
  have hDs : (T.extract (i + 1) T.size).size ≤ 65536 := by rw [← size_list, extract_list, List.length_take, List.length_drop, size_list]; omega
  generalize T.extract 0 i = A at *
  generalize T.extract (i + 1) T.size = D at *
  clear hTw' hTb hi hil hTs
  go_wp2_with fail
  refine Calls.mono HC.out ?_
  rintro e w1 ⟨rfl, hb1⟩
  clear HC
  have HH := hid (parse_good A w1 hAs _ HA.out HU.out)
  go_wp2_with fail
  refine Calls.mono HH.out ?_
  rintro e w2 ⟨a2, z2, c2, rfl, H2, hb2⟩
  clear HH
  have HH := hid (parse_good D w2 hDs _ HD.out HV.out)
  go_wp2_with fail
  refine Calls.mono HH.out ?_
  rintro e w3 ⟨a3, z3, c3, rfl, H3, hb3⟩
  clear HH
  have HI := isOne_any _ z3 w3 (Sl.own H3.out.1.1 H3.out.1.2.1)
  rw [hval z3 H3.out.1.2.1 H3.out.1.2.2.1 H3.out.1.2.2.2] at HI
  clear hval
  have HH := hid (HI)
  go_wp2_with fail
  refine Calls.mono HH.out ?_
  rintro e w4 ⟨rfl, rfl⟩
  clear HH
  have HW := hid (bt hb1 (bt hb2 hb3))
  obtain ⟨r0, r1, r2, f0, f1, f2⟩ := res_box3 HZ.out HW.out
  have hz1 := hb1.size
  have hz2 := hb2.size
  have hz3 := hb3.size
  have HO2 : Hid (One (w.alloc (.cells #[.bool false, .slice none 0 0, .slice none 0 0] 27)) w3 (.slice a2 z2.length c2) z2 (rnu s.data.toList)) := ⟨owns_base (owns_later H2.out.1.1 hb3) hz1, H2.out.1.2⟩
  have HO3 : Hid (One (w.alloc (.cells #[.bool false, .slice none 0 0, .slice none 0 0] 27)) w3 (.slice a3 z3.length c3) z3 (rde s.data.toList)) := ⟨owns_base H3.out.1.1 (by omega), H3.out.1.2.1, H3.out.1.2.2.1, by rw [HDE.out]; exact H3.out.1.2.2.2⟩
  have HCUT : Hid (Cut (w.alloc (.cells #[.bool false, .slice none 0 0, .slice none 0 0] 27)) (.slice a2 z2.length c2) (.slice a3 z3.length c3) w3) := cut_two hz1 hz2 hz3 (World.ownsRow.lt H2.out.1.1) (World.ownsRow.lt H3.out.1.1)
  have HLL := hid (And.intro H2.out.2 H3.out.2)
  clear hb1 hb2 hb3 hz1 hz2 hz3 H2 H3
  have HBB := hid hbb
  subst hbb
  go_wp2_with fail
  refine bodyPost_ret (v := .agg #[.bool (rneg s.data.toList), .slice a2 z2.length c2, .slice a3 z3.length c3]) (by simp [results, Tryz.results57, go_sem, r0, r1, r2]) rfl ?_
  exact rread_put HB.out HLT.out HW.out HO2.out HO3.out HCUT.out HLL.out.1 HLL.out.2 rfl HU.out (.inr ⟨HV.out, HO.out⟩) _ _ _
end Go.Proofs.YtmgjkdijnjeljaaGreatDoor

/- Fractions read from a text: ratio.Parse, for any text. -/
namespace Go.Proofs.YtmgjkdijnjeljaaGreatDoor
open Go.RowKit Go.Lib
set_option linter.unusedVariables false

theorem read_any (s : ByteArray) (w : World) (hs : s.size ≤ 65536) : Calls Tryz.prog 57 #[.string s] w (RRead w s.data.toList) := by
  by_cases hB : rbar s.data.toList = -1
  · by_cases hU : IsNum (rup s.data.toList)
    · exact read_B s w hs hB hU
    · exact read_A1 s w hs hB hU
  · by_cases hU : IsNum (rup s.data.toList)
    · by_cases hV : IsNum (rdn s.data.toList)
      · by_cases hO : rde s.data.toList = 1
        · exact read_D s w hs hB hU hV hO
        · exact read_E s w hs hB hU hV hO
      · exact read_C s w hs hB hU hV
    · exact read_A2 s w hs hB hU
theorem prErr_good {s : ByteArray} (hs : s.size ≤ 65536) (h : rgood s.data.toList) : prErr s = 0 := by unfold prErr; rw [if_neg (by omega), if_pos h]
theorem prErr_bad {s : ByteArray} (hs : s.size ≤ 65536) (h : ¬ rgood s.data.toList) : prErr s = 130 := by unfold prErr; rw [if_neg (by omega), if_neg h]
theorem prErr_long {s : ByteArray} (hs : 65536 < s.size) : prErr s = 3 := by unfold prErr; rw [if_pos hs]
theorem rtold_zero {w W : World} {e : Int} {q : Rat} (he : e ≠ 0) (hb : Below w.heap.size w W) : RToldA w e q (.returned (.tuple #[.agg #[.bool false, .slice none 0 0, .slice none 0 0], .int .i64 e])) W :=
  ⟨false, _, [], _, [], e, rfl, World.ownsRow_nil _ _ _ _, World.ownsRow_nil _ _ _ _, RTells.err he, hb, W.heap.size, hb.size, Nat.le_refl _, fun g hg => by simp [Value.ownBlock] at hg, fun g hg => by simp [Value.ownBlock] at hg⟩

set_option maxHeartbeats 3200000 in
set_option maxRecDepth 100000 in
theorem rparse_long (s : ByteArray) (w : World) (hs : 65536 < s.size) (hm : s.size ≤ 9223372036854775807) (q : Rat) : Calls Tryz.prog 38 #[.string s] w (RToldA w 3 q) := by
  have hs' : (65536 : Int) < (s.size : Int) := by omega
  go_enter Tryz.func38, Tryz.ntmps38
  go_wp2_with fail
  refine bodyPost_ret (v := .tuple #[.agg #[.bool false, .slice none 0 0, .slice none 0 0], .int .i64 3]) (by simp [results, Tryz.results38, go_sem]) rfl ?_
  exact rtold_zero (by decide) (alloc_later _ _)
set_option maxHeartbeats 6400000 in
set_option maxRecDepth 100000 in
theorem rparse_any (s : ByteArray) (w : World) (hs : s.size ≤ 65536) : Calls Tryz.prog 38 #[.string s] w (RToldA w (prErr s) (rpq s.data.toList)) := by
  have hs' : ¬ (65536 : Int) < (s.size : Int) := by omega
  have HB := hid (alloc_later w (.cells #[.bool false, .slice none 0 0, .slice none 0 0] 27))
  have HZ := hid (Box.made w 27 #[.bool false, .slice none 0 0, .slice none 0 0])
  have HLT : Hid (w.heap.size < (w.alloc (.cells #[.bool false, .slice none 0 0, .slice none 0 0] 27)).heap.size) := by show _ < _; simp
  have HR := hid (read_any s (w.alloc (.cells #[.bool false, .slice none 0 0, .slice none 0 0] 27)) hs)
  by_cases hg : rgood s.data.toList
  · rw [prErr_good hs hg]
    have HG := hid hg
    clear hg hs
    go_enter Tryz.func38, Tryz.ntmps38
    go_wp2_with fail
    refine Calls.mono HR.out ?_
    generalize (w.alloc (.cells #[.bool false, .slice none 0 0, .slice none 0 0] 27)) = X at *
    rintro e w1 ⟨n, v, xs, u, ys, rfl, o1, o2, wx, wy, lx, ly, hiff, hval, hb1, hcut⟩
    obtain ⟨a1, c1, hv⟩ := own_slice' o1
    subst hv
    obtain ⟨a2, c2, hv⟩ := own_slice' o2
    subst hv
    obtain ⟨hn, tx, ty, vx, vy⟩ := hval HG.out
    have HAL := hid (alloc_later w1 (.cells #[.bool n, .slice a1 xs.length c1, .slice a2 ys.length c2] 27))
    have HBX := hid (Box.made w1 27 #[.bool n, .slice a1 xs.length c1, .slice a2 ys.length c2])
    have HI := inOneForm_any n _ xs _ ys (w1.alloc (.cells #[.bool n, .slice a1 xs.length c1, .slice a2 ys.length c2] 27)) ((Sl.own o1 wx).later HAL.out) ((Sl.own o2 wy).later HAL.out) (by omega) (by omega)
    rw [decide_eq_true (hiff.2 HG.out)] at HI
    have HH := hid HI
    have HO1 : Hid (One X w1 (.slice a1 xs.length c1) xs (rnu s.data.toList)) := ⟨o1, wx, tx, vx⟩
    have HO2 : Hid (One X w1 (.slice a2 ys.length c2) ys (rde s.data.toList)) := ⟨o2, wy, ty, vy⟩
    have HCUT := hid hcut
    have HN := hid hn
    have HB1 := hid (bt hb1 HAL.out)
    clear o1 o2 wx wy lx ly hiff hval hb1 hcut HI hn tx ty vx vy HR
    go_wp2_with fail
    refine Calls.mono HH.out ?_
    rintro e w2 ⟨rfl, hb2⟩
    obtain ⟨p0, p1, p2, _, _, _⟩ := res_box3 HBX.out hb2
    have HAB := hid (bt HAL.out hb2)
    have hz := HAB.out.size
    have HT := hid (rtold_cut2 (n := n) (q := rpq s.data.toList) (bt HB1.out hb2) (HO1.out.later HAB.out) (HO2.out.later HAB.out) (HCUT.out.up (Nat.le_refl _) hz) HG.out.2.2.1 HG.out.2.2.2.2 (by rw [HN.out]; rfl))
    have HB2 := hid (bt HB1.out hb2)
    clear hb2 HH HAB HBX HAL
    go_wp2_with fail
    refine Calls.mono HT.out ?_
    rintro e w3 ⟨k9, a8, z8, c8, a9, z9, c9, code, rfl, HE9, hb3, _⟩
    obtain ⟨r0, r1, r2, f0, f1, f2⟩ := res_box3 HZ.out hb3
    have HBW := hid (bt HB.out hb3)
    clear hb3 HT
    go_wp2_with fail
    refine bodyPost_ret (v := .tuple #[.agg #[.bool k9, .slice a8 z8.length c8, .slice a9 z9.length c9], .int .i64 code]) (by simp [results, Tryz.results38, go_sem, r0, r1, r2]) rfl ?_
    exact RToldA.put HE9.out w.heap.size HLT.out (Nat.le_refl _) HBW.out _ _ _
  · rw [prErr_bad hs hg]
    have HG := hid hg
    clear hg hs
    go_enter Tryz.func38, Tryz.ntmps38
    go_wp2_with fail
    refine Calls.mono HR.out ?_
    generalize (w.alloc (.cells #[.bool false, .slice none 0 0, .slice none 0 0] 27)) = X at *
    rintro e w1 ⟨n, v, xs, u, ys, rfl, o1, o2, wx, wy, lx, ly, hiff, hval, hb1, hcut⟩
    obtain ⟨a1, c1, hv⟩ := own_slice' o1
    subst hv
    obtain ⟨a2, c2, hv⟩ := own_slice' o2
    subst hv
    have HAL := hid (alloc_later w1 (.cells #[.bool n, .slice a1 xs.length c1, .slice a2 ys.length c2] 27))
    have HI := inOneForm_any n _ xs _ ys (w1.alloc (.cells #[.bool n, .slice a1 xs.length c1, .slice a2 ys.length c2] 27)) ((Sl.own o1 wx).later HAL.out) ((Sl.own o2 wy).later HAL.out) (by omega) (by omega)
    rw [decide_eq_false (fun e => HG.out (hiff.1 e))] at HI
    have HH := hid HI
    have HB1 := hid (bt hb1 HAL.out)
    clear o1 o2 wx wy lx ly hiff hval hb1 hcut HI HR
    go_wp2_with fail
    refine Calls.mono HH.out ?_
    rintro e w2 ⟨rfl, hb2⟩
    obtain ⟨r0, r1, r2, f0, f1, f2⟩ := res_box3 HZ.out (bt HB1.out hb2)
    have HBW := hid (bt HB.out (bt HB1.out hb2))
    clear hb2 HH
    go_wp2_with fail
    refine bodyPost_ret (v := .tuple #[.agg #[.bool false, .slice none 0 0, .slice none 0 0], .int .i64 130]) (by simp [results, Tryz.results38, go_sem, r0, r1, r2]) rfl ?_
    exact rtold_zero (by decide) (below_put3 HBW.out _ (Nat.le_refl _) _ _ _)
end Go.Proofs.YtmgjkdijnjeljaaGreatDoor

/- Boxes of fractions, rows of the call's own and one box of a flag, in a bundle that is moved along. -/
namespace Go.Proofs.YtmgjkdijnjeljaaGreatDoor
open Go.RowKit
set_option linter.unusedVariables false

theorem Box.same {w : World} {b t : Nat} {vs : Array Value} (h : Box w b t vs) {j : Nat} {v : Value} (hv : vs[j]? = some v) : w.setCell ⟨b, j, none⟩ v = w := by
  have e : (w.setCell ⟨b, j, none⟩ v).heap = w.heap := by
    have h' : w.heap[b]? = some (.cells vs t (0, 0)) := h
    have hs : vs.setIfInBounds j v = vs := by
      apply Array.ext_getElem?
      intro k
      rw [Array.getElem?_setIfInBounds]
      by_cases c : j = k
      · subst c
        obtain ⟨hk, _⟩ := Array.getElem?_eq_some_iff.1 hv
        rw [if_pos rfl, if_pos hk, hv]
      · rw [if_neg c]
    unfold World.setCell
    apply Array.ext_getElem?
    intro k
    simp only [Array.getElem?_modify]
    by_cases c : b = k
    · subst c
      rw [if_pos rfl, h']
      simp [hs]
    · rw [if_neg c]
  cases w
  simp only [World.setCell] at e ⊢
  rw [e]
theorem own_put1 {w : World} {base e n : Nat} {v : Value} {xs : List Value} (h : w.ownsRow base e 1 v n xs) (b : Nat) (hb : ∀ g, v.ownBlock = some g → g ≠ b) (j : Nat) (v0 : Value) : (w.setCell ⟨b, j, none⟩ v0).ownsRow base e 1 v n xs := by
  have hne : v.ownBlock = none ∨ v.ownBlock ≠ some b := by
    cases hv : v.ownBlock with
    | none => exact .inl rfl
    | some g => right; intro e; exact hb g hv (Option.some.inj e)
  exact World.ownsRow.kept h (grown_set w ⟨b, j, none⟩ v0) hne
/-- Boxes that hold fractions. -/
def Bxs3 (W : World) (l : List (Nat × Array Value)) : Prop := ∀ p ∈ l, Box W p.1 27 p.2
def Rws (W : World) (l : List (Nat × Value × List Int)) : Prop := ∀ p ∈ l, W.ownsRow p.1 85 1 p.2.1 p.2.2.length (p.2.2.map (Value.int .u32))
/-- What is known of a world: boxes of fractions, rows of the call's own, what was there. -/
structure St (w W : World) (l : List (Nat × Array Value)) (r : List (Nat × Value × List Int)) : Prop where
  box : Bxs3 W l
  row : Rws W r
  bel : Below w.heap.size w W
theorem St.later {w W W' : World} {l : List (Nat × Array Value)} {r : List (Nat × Value × List Int)} (h : St w W l r) (hb : Below W.heap.size W W') : St w W' l r :=
  ⟨fun p hp => (h.box p hp).later hb (h.box p hp).lt, fun p hp => owns_later (h.row p hp) hb, bt h.bel hb⟩
theorem St.more {w W : World} {l : List (Nat × Array Value)} {r : List (Nat × Value × List Int)} (h : St w W l r) {base : Nat} {v : Value} {zs : List Int} (o : W.ownsRow base 85 1 v zs.length (zs.map (Value.int .u32))) : St w W l ((base, v, zs) :: r) :=
  ⟨h.box, fun p hp => by
    cases hp with
    | head => exact o
    | tail _ hp => exact h.row p hp, h.bel⟩
theorem St.put {w W : World} {l : List (Nat × Array Value)} {r : List (Nat × Value × List Int)} (h : St w W l r) (n : Bool) (v u : Value) : St w (W.alloc (.cells #[.bool n, v, u] 27)) ((W.heap.size, #[.bool n, v, u]) :: l) r :=
  ⟨fun p hp => by
    cases hp with
    | head => exact Box.made W _ _
    | tail _ hp => exact (h.box p hp).later (alloc_later _ _) (h.box p hp).lt, (h.later (alloc_later _ _)).row, (h.later (alloc_later _ _)).bel⟩
theorem St.get {w W : World} {l : List (Nat × Array Value)} {r : List (Nat × Value × List Int)} (h : St w W l r) {g : Nat} {n : Bool} {v u : Value} (hm : (g, #[.bool n, v, u]) ∈ l) : W.cell? ⟨g, 0, none⟩ = some (.bool n) ∧ W.cell? ⟨g, 1, none⟩ = some v ∧ W.cell? ⟨g, 2, none⟩ = some u := ⟨(h.box _ hm).cell 0, (h.box _ hm).cell 1, (h.box _ hm).cell 2⟩
theorem St.free {w W : World} {l : List (Nat × Array Value)} {r : List (Nat × Value × List Int)} (h : St w W l r) {g : Nat} {n : Bool} {v u : Value} (hm : (g, #[.bool n, v, u]) ∈ l) : W.frozen? ⟨g, 0, none⟩ = false ∧ W.frozen? ⟨g, 1, none⟩ = false ∧ W.frozen? ⟨g, 2, none⟩ = false := ⟨(h.box _ hm).free 0, (h.box _ hm).free 1, (h.box _ hm).free 2⟩
theorem St.same {w W : World} {l : List (Nat × Array Value)} {r : List (Nat × Value × List Int)} (h : St w W l r) {g : Nat} {n : Bool} {v u : Value} (hm : (g, #[.bool n, v, u]) ∈ l) : W.setCell ⟨g, 0, none⟩ (.bool n) = W ∧ W.setCell ⟨g, 1, none⟩ v = W ∧ W.setCell ⟨g, 2, none⟩ u = W := ⟨(h.box _ hm).same rfl, (h.box _ hm).same rfl, (h.box _ hm).same rfl⟩
theorem St.sl {w W : World} {l : List (Nat × Array Value)} {r : List (Nat × Value × List Int)} (h : St w W l r) {base : Nat} {v : Value} {zs : List Int} (wd : Wd zs) (hm : (base, v, zs) ∈ r) : Sl W v zs := Sl.own (h.row _ hm) wd
/-- A store into a box of another type. -/
theorem St.flag {w W : World} {l : List (Nat × Array Value)} {r : List (Nat × Value × List Int)} (h : St w W l r) {g t : Nat} {vs : Array Value} (b : Box W g t vs) (hg : w.heap.size ≤ g) (h1 : t ≠ 27) (h2 : t ≠ 85) (j : Nat) (v : Value) : St w (W.setCell ⟨g, j, none⟩ v) l r := by
  refine ⟨fun p hp => (h.box p hp).other _ _ (fun e => ?_), fun p hp => own_put1 (h.row p hp) g (own_ne_box (h.row p hp) b (Ne.symm h2)) _ _, h.bel.setCell (p := ⟨g, j, none⟩) hg _⟩
  · have e1 := h.box p hp
    rw [e] at e1
    have e2 : some (Obj.cells p.2 27 (0, 0)) = some (.cells vs t (0, 0)) := e1.symm.trans b
    injection e2 with e3
    injection e3 with _ e4 _
    exact h1 e4.symm
end Go.Proofs.YtmgjkdijnjeljaaGreatDoor

/- Complex fractions: gauss.Check; the steps' own: look, next. -/
namespace Go.Proofs.YtmgjkdijnjeljaaGreatDoor
open Go.RowKit
set_option linter.unusedVariables false

/-- The first error, else the second. -/
def fstE (E e : Int) : Int := if E = 0 then e else E
theorem fstE_zero (e : Int) : fstE 0 e = e := if_pos rfl
theorem fstE_err {E : Int} (e : Int) (h : E ≠ 0) : fstE E e = E := if_neg h
theorem grow_trans {a b c : World} {row : Option Nat} (h : a.grownBy b row) (g : b.grownBy c row) : a.grownBy c row :=
  ⟨g.os.trans h.os, g.tape.trans h.tape, g.output.trans h.output, Nat.le_trans h.size g.size, fun k hk hne => (g.block k (Nat.lt_of_lt_of_le hk h.size) hne).trans (h.block k hk hne)⟩
theorem grow_below {a b : World} (h : Below a.heap.size a b) (row : Option Nat) : a.grownBy b row := ⟨h.os, h.tape, h.output, h.size, fun k hk _ => h.block k hk⟩
theorem grow_set (w : World) (b j : Nat) (v : Value) : w.grownBy (w.setCell ⟨b, j, none⟩ v) (some b) := ⟨rfl, rfl, rfl, by simp [World.setCell], fun k _ hne => Below.heap_setCell _ _ _ _ (fun e => hne (by rw [e]))⟩
theorem Box.kept' {W W' : World} {row : Option Nat} {b t : Nat} {vs : Array Value} (h : Box W b t vs) (hg : W.grownBy W' row) (hne : some b ≠ row) : Box W' b t vs := (hg.block b h.lt hne).trans h

/-- What Check tells of two parts. -/
def gchk (n : Bool) (xs ys : List Int) (m : Bool) (us vs : List Int) : Int := fstE (rchk n xs ys) (rchk m us vs)

set_option maxHeartbeats 800000 in
set_option maxRecDepth 100000 in
theorem gcheck_any (n : Bool) (v : Value) (xs : List Int) (u : Value) (ys : List Int) (m : Bool) (v' : Value) (us : List Int) (u' : Value) (vs : List Int) (w : World) (h1 : Sl w v xs) (h2 : Sl w u ys) (h3 : Sl w v' us) (h4 : Sl w u' vs) :
    Calls Tryz.prog 19 #[.agg #[.bool n, v, u, .bool m, v', u']] w fun e w' => e = .returned (.int .i64 (gchk n xs ys m us vs)) ∧ Below w.heap.size w w' := by
  have HX := hid (Box.made w 29 #[.bool n, v, u, .bool m, v', u'])
  have HB := hid (alloc_later w (.cells #[.bool n, v, u, .bool m, v', u'] 29))
  have H1 : Hid (∀ V, Below w.heap.size w V → Calls Tryz.prog 35 #[.agg #[.bool n, v, u]] V fun e w' => e = .returned (.int .i64 (rchk n xs ys)) ∧ Below V.heap.size V w') := fun V hv => rcheck_any n v xs u ys V (h1.later hv) (h2.later hv)
  have H2 : Hid (∀ V, Below w.heap.size w V → Calls Tryz.prog 35 #[.agg #[.bool m, v', u']] V fun e w' => e = .returned (.int .i64 (rchk m us vs)) ∧ Below V.heap.size V w') := fun V hv => rcheck_any m v' us u' vs V (h3.later hv) (h4.later hv)
  obtain ⟨a, ca, rfl, _⟩ := h1
  obtain ⟨b, cb, rfl, _⟩ := h2
  obtain ⟨c, cc, rfl, _⟩ := h3
  obtain ⟨d, cd, rfl, _⟩ := h4
  have HF : Hid (∀ E, E = rchk n xs ys → (E = 0 → gchk n xs ys m us vs = rchk m us vs) ∧ (E ≠ 0 → gchk n xs ys m us vs = E)) := fun E hE => by
    subst hE
    exact ⟨fun h => by unfold gchk; rw [h, fstE_zero], fun h => fstE_err _ h⟩
  have HF := hid (HF.out _ rfl)
  generalize rchk n xs ys = E at *
  generalize rchk m us vs = F at *
  generalize gchk n xs ys m us vs = G at *
  go_enter Tryz.func19, Tryz.ntmps19
  go_wp2_with fail
  generalize w.alloc (.cells #[.bool n, .slice a xs.length ca, .slice b ys.length cb, .bool m, .slice c us.length cc, .slice d vs.length cd] 29) = X at *
  refine Calls.mono (H1.out _ HB.out) ?_
  rintro e w1 ⟨rfl, hb1⟩
  have HB1 := hid (bt HB.out hb1)
  have HX1 := hid (HX.out.later hb1 HX.out.lt)
  have k3 : w1.cell? ⟨w.heap.size, 3, none⟩ = some (.bool m) := HX1.out.cell 3
  have k4 : w1.cell? ⟨w.heap.size, 4, none⟩ = some (.slice c us.length cc) := HX1.out.cell 4
  have k5 : w1.cell? ⟨w.heap.size, 5, none⟩ = some (.slice d vs.length cd) := HX1.out.cell 5
  clear hb1 HX HX1 HB
  by_cases h : E = 0
  · subst h
    have HR := hid (HF.out.1 rfl)
    clear HF H1
    go_wp2_with fail
    refine Calls.mono (H2.out _ HB1.out) ?_
    rintro e w2 ⟨rfl, hb2⟩
    have HB2 := hid (bt HB1.out hb2)
    clear hb2
    go_wp2_with fail
    go_ret
    exact ⟨ret_int HR.out.symm, HB2.out⟩
  · have HR := hid (HF.out.2 h)
    have h' : (E == 0) = false := by simp [h]
    clear HF H1 H2
    go_wp2_with fail
    go_ret
    exact ⟨ret_int HR.out.symm, HB1.out⟩

theorem boxes3r (w : World) (t : Nat) (u v z : Array Value) : Box (((w.alloc (.cells u t)).alloc (.cells v t)).alloc (.cells z t)) w.heap.size t u ∧ Box (((w.alloc (.cells u t)).alloc (.cells v t)).alloc (.cells z t)) (w.heap.size + 1) t v ∧ Box (((w.alloc (.cells u t)).alloc (.cells v t)).alloc (.cells z t)) (w.heap.size + 1 + 1) t z ∧ Below w.heap.size w (((w.alloc (.cells u t)).alloc (.cells v t)).alloc (.cells z t)) := by
  have e1 : (w.alloc (.cells u t)).heap.size = w.heap.size + 1 := World.size_alloc _ _
  have e2 : ((w.alloc (.cells u t)).alloc (.cells v t)).heap.size = w.heap.size + 1 + 1 := by rw [World.size_alloc, World.size_alloc]
  have a := Box.made w t u
  have b := Box.made (w.alloc (.cells u t)) t v
  have c := Box.made ((w.alloc (.cells u t)).alloc (.cells v t)) t z
  have a2 := a.later (alloc_later (w.alloc (.cells u t)) (.cells v t)) a.lt
  exact ⟨a2.later (alloc_later _ _) a2.lt, e1 ▸ (b.later (alloc_later _ _) b.lt), e2 ▸ c, bt (alloc_later _ _) (bt (alloc_later _ _) (alloc_later _ _))⟩

theorem grow_put {a c : World} {p : Nat} (h : a.grownBy c (some p)) (b j : Nat) (v : Value) (hb : a.heap.size ≤ b ∨ b = p) : a.grownBy (c.setCell ⟨b, j, none⟩ v) (some p) :=
  ⟨h.os, h.tape, h.output, by simpa [World.setCell] using h.size, fun k hk hne => (Below.heap_setCell c ⟨b, j, none⟩ v k (fun e => by
    have e' : k = b := e
    rcases hb with hb | hb
    · omega
    · exact hne (by rw [e', hb]))).trans (h.block k hk hne)⟩
theorem grow_put3 {a c : World} {p : Nat} (h : a.grownBy c (some p)) (b : Nat) (u0 u1 u2 : Value) (hb : a.heap.size ≤ b ∨ b = p) : a.grownBy (((c.setCell ⟨b, 0, none⟩ u0).setCell ⟨b, 1, none⟩ u1).setCell ⟨b, 2, none⟩ u2) (some p) :=
  grow_put (grow_put (grow_put h b 0 u0 hb) b 1 u1 hb) b 2 u2 hb
theorem own_put3' {w : World} {base e n : Nat} {v : Value} {xs : List Value} (h : w.ownsRow base e 1 v n xs) (b : Nat) (hb : ∀ g, v.ownBlock = some g → g ≠ b) (u0 u1 u2 : Value) : (((w.setCell ⟨b, 0, none⟩ u0).setCell ⟨b, 1, none⟩ u1).setCell ⟨b, 2, none⟩ u2).ownsRow base e 1 v n xs :=
  own_put1 (own_put1 (own_put1 h b hb 0 u0) b hb 1 u1) b hb 2 u2
theorem box_put3 {U : World} {b t : Nat} {u0 u1 u2 : Value} (h : Box U b t #[u0, u1, u2]) (v0 v1 v2 : Value) : Box (((U.setCell ⟨b, 0, none⟩ v0).setCell ⟨b, 1, none⟩ v1).setCell ⟨b, 2, none⟩ v2) b t #[v0, v1, v2] := ((h.set 0 v0).set 1 v1).set 2 v2
theorem box_far3 {U : World} {b t b' : Nat} {vs : Array Value} (h : Box U b t vs) (hne : b ≠ b') (v0 v1 v2 : Value) : Box (((U.setCell ⟨b', 0, none⟩ v0).setCell ⟨b', 1, none⟩ v1).setCell ⟨b', 2, none⟩ v2) b t vs := ((h.other ⟨b', 0, none⟩ v0 hne).other ⟨b', 1, none⟩ v1 hne).other ⟨b', 2, none⟩ v2 hne

/-- What a step tells: a fraction, and its error in the steps' own memory. -/
def GTell (w : World) (p : Nat) (e : Int) (q : Rat) (x : Ending) (w' : World) : Prop :=
  ∃ n v xs u ys code, x = .returned (.agg #[.bool n, v, u]) ∧ w'.ownsRow w.heap.size 85 1 v xs.length (xs.map (Value.int .u32)) ∧ w'.ownsRow w.heap.size 85 1 u ys.length (ys.map (Value.int .u32)) ∧ RTells e q n xs ys code ∧ Box w' p 100 #[.int .i64 code] ∧ w.grownBy w' (some p) ∧ Cut w v u w'

end Go.Proofs.YtmgjkdijnjeljaaGreatDoor

/- Complex fractions, the steps' own: opposite, look, told. -/
namespace Go.Proofs.YtmgjkdijnjeljaaGreatDoor
open Go.RowKit
set_option linter.unusedVariables false

theorem boxes2r (w : World) (t : Nat) (u v : Array Value) : Box ((w.alloc (.cells u t)).alloc (.cells v t)) w.heap.size t u ∧ Box ((w.alloc (.cells u t)).alloc (.cells v t)) (w.heap.size + 1) t v ∧ Below w.heap.size w ((w.alloc (.cells u t)).alloc (.cells v t)) := by
  have e1 : (w.alloc (.cells u t)).heap.size = w.heap.size + 1 := World.size_alloc _ _
  have a := Box.made w t u
  have b := Box.made (w.alloc (.cells u t)) t v
  exact ⟨a.later (alloc_later _ _) a.lt, e1 ▸ b, bt (alloc_later _ _) (alloc_later _ _)⟩

set_option maxHeartbeats 1600000 in
set_option maxRecDepth 100000 in
theorem gopposite_any (p : Nat) (E : Int) (n : Bool) (a : Option Addr) (ca : Nat) (xs : List Int) (b : Option Addr) (cb : Nat) (ys : List Int) (w : World) (hp : Box w p 100 #[.int .i64 E]) (sx : Sl w (.slice a xs.length ca) xs) (sy : Sl w (.slice b ys.length cb) ys) :
    Calls Tryz.prog 42 #[.pointer (some ⟨p, 0, none⟩), .agg #[.bool n, .slice a xs.length ca, .slice b ys.length cb]] w (GTell w p (fstE E (rchk n xs ys)) (-(rq n xs ys))) := by
  have HX := hid (boxes2r w 27 #[.bool n, .slice a xs.length ca, .slice b ys.length cb] #[.bool false, .slice none 0 0, .slice none 0 0])
  obtain ⟨X, hX⟩ : ∃ X, (w.alloc (.cells #[.bool n, .slice a xs.length ca, .slice b ys.length cb] 27)).alloc (.cells #[.bool false, .slice none 0 0, .slice none 0 0] 27) = X := ⟨_, rfl⟩
  rw [hX] at HX
  have HP := hid (hp.later HX.out.2.2 hp.lt)
  have kp : X.cell? ⟨p, 0, none⟩ = some (.int .i64 E) := HP.out.cell 0
  have fp := HP.out.free 0
  have hpw : p < w.heap.size := hp.lt
  have HFF : Hid (∀ V, Below w.heap.size w V → Calls Tryz.prog 59 #[.agg #[.bool n, .slice a xs.length ca, .slice b ys.length cb]] V (RToldA V (rchk n xs ys) (-(rq n xs ys)))) := fun V hv => rNeg_full n a ca xs b cb ys V (sx.later hv) (sy.later hv)
  generalize rchk n xs ys = e at *
  generalize -(rq n xs ys) = q at *
  clear sx sy
  by_cases hE : E = 0
  · subst hE
    rw [fstE_zero]
    have c0 : X.cell? ⟨w.heap.size, 0, none⟩ = some (.bool n) := HX.out.1.cell 0
    have c1 : X.cell? ⟨w.heap.size, 1, none⟩ = some (.slice a xs.length ca) := HX.out.1.cell 1
    have c2 : X.cell? ⟨w.heap.size, 2, none⟩ = some (.slice b ys.length cb) := HX.out.1.cell 2
    go_enter Tryz.func42, Tryz.ntmps42
    go_wp2_with fail
    refine Calls.mono (HFF.out _ HX.out.2.2) ?_
    rintro x w1 ⟨k, v, zs, u, ts, code, rfl, ov, ou, ht, hb1, hcut⟩
    obtain ⟨av, cv, rfl⟩ := own_slice' ov
    obtain ⟨au, cu, rfl⟩ := own_slice' ou
    have HM1 := hid (HX.out.2.1.later hb1 HX.out.2.1.lt)
    have HP1 := hid (HP.out.later hb1 HP.out.lt)
    have m0 : w1.cell? ⟨w.heap.size + 1, 0, none⟩ = some (.bool false) := HM1.out.cell 0
    have m1 : w1.cell? ⟨w.heap.size + 1, 1, none⟩ = some (.slice none 0 0) := HM1.out.cell 1
    have m2 : w1.cell? ⟨w.heap.size + 1, 2, none⟩ = some (.slice none 0 0) := HM1.out.cell 2
    have n0 := HM1.out.free 0
    have n1 := HM1.out.free 1
    have n2 := HM1.out.free 2
    have kp1 : w1.cell? ⟨p, 0, none⟩ = some (.int .i64 0) := HP1.out.cell 0
    have fp1 := HP1.out.free 0
    have hne : p ≠ w.heap.size + 1 := by omega
    have HBB := hid (bt HX.out.2.2 hb1)
    have HOV := hid ov
    have HOU := hid ou
    have HTT := hid ht
    have HCC := hid hcut
    clear ov ou ht hcut hb1 c0 c1 c2 kp fp HFF
    go_wp2_with fail
    have h3 := HX.out.2.1.lt
    have hv : (∀ b', (Value.slice av zs.length cv).ownBlock = some b' → b' ≠ w.heap.size + 1) ∧ (∀ b', (Value.slice av zs.length cv).ownBlock = some b' → b' ≠ p) := ⟨fun b' hb => by have := (HOV.out.lt b' hb).1; omega, fun b' hb => by have := (HOV.out.lt b' hb).1; omega⟩
    have hu : (∀ b', (Value.slice au ts.length cu).ownBlock = some b' → b' ≠ w.heap.size + 1) ∧ (∀ b', (Value.slice au ts.length cu).ownBlock = some b' → b' ≠ p) := ⟨fun b' hb => by have := (HOU.out.lt b' hb).1; omega, fun b' hb => by have := (HOU.out.lt b' hb).1; omega⟩
    have B1 := box_put3 ((box_put3 HM1.out (.bool k) (.slice av zs.length cv) (.slice au ts.length cu)).other ⟨p, 0, none⟩ (.int .i64 code) (by simp; omega)) (.bool k) (.slice av zs.length cv) (.slice au ts.length cu)
    have P1 : Box _ p 100 #[.int .i64 code] := box_far3 ((box_far3 HP1.out hne (.bool k) (.slice av zs.length cv) (.slice au ts.length cu)).set 0 (.int .i64 code)) hne (.bool k) (.slice av zs.length cv) (.slice au ts.length cu)
    have V1 := own_put3' (own_put1 (own_put3' HOV.out _ hv.1 (.bool k) (.slice av zs.length cv) (.slice au ts.length cu)) p hv.2 0 (.int .i64 code)) _ hv.1 (.bool k) (.slice av zs.length cv) (.slice au ts.length cu)
    have U1 := own_put3' (own_put1 (own_put3' HOU.out _ hu.1 (.bool k) (.slice av zs.length cv) (.slice au ts.length cu)) p hu.2 0 (.int .i64 code)) _ hu.1 (.bool k) (.slice av zs.length cv) (.slice au ts.length cu)
    have G1 := grow_put3 (grow_put (grow_put3 (grow_below HBB.out (some p)) (w.heap.size + 1) (.bool k) (.slice av zs.length cv) (.slice au ts.length cu) (.inl (by omega))) p 0 (.int .i64 code) (.inr rfl)) (w.heap.size + 1) (.bool k) (.slice av zs.length cv) (.slice au ts.length cu) (.inl (by omega))
    have hXw := HX.out.2.2.size
    refine bodyPost_ret (results_cell_row (by rfl) _ _ (w.heap.size + 1) 27 _ (0, 0) _ (by rfl) B1 Tryz.underlying27 rfl (by kernel_rfl)) rfl ?_
    refine ⟨k, _, zs, _, ts, code, rfl, owns_base V1 hXw, owns_base U1 hXw, HTT.out, P1, G1, ?_⟩
    exact HCC.out.up hXw (by simp [World.setCell])
  · have hE' : (E == 0) = false := by simp [hE]
    rw [fstE_err e hE]
    have m0 : X.cell? ⟨w.heap.size + 1, 0, none⟩ = some (.bool false) := HX.out.2.1.cell 0
    have m1 : X.cell? ⟨w.heap.size + 1, 1, none⟩ = some (.slice none 0 0) := HX.out.2.1.cell 1
    have m2 : X.cell? ⟨w.heap.size + 1, 2, none⟩ = some (.slice none 0 0) := HX.out.2.1.cell 2
    have n0 := HX.out.2.1.free 0
    have n1 := HX.out.2.1.free 1
    have n2 := HX.out.2.1.free 2
    go_enter Tryz.func42, Tryz.ntmps42
    go_wp2_with fail
    have B1 := box_put3 HX.out.2.1 (.bool false) (.slice none 0 0) (.slice none 0 0)
    have P1 := box_far3 HP.out (show p ≠ w.heap.size + 1 by omega) (.bool false) (.slice none 0 0) (.slice none 0 0)
    have G1 := grow_put3 (grow_below HX.out.2.2 (some p)) (w.heap.size + 1) (.bool false) (.slice none 0 0) (.slice none 0 0) (.inl (by omega))
    refine bodyPost_ret (results_cell_row (by rfl) _ _ (w.heap.size + 1) 27 _ (0, 0) _ (by rfl) B1 Tryz.underlying27 rfl (by kernel_rfl)) rfl ?_
    refine ⟨false, _, [], _, [], E, rfl, World.ownsRow_nil _ _ _ _, World.ownsRow_nil _ _ _ _, RTells.err hE, P1, G1, ?_⟩
    exact ⟨w.heap.size, Nat.le_refl _, G1.size, fun g hg => by simp [Value.ownBlock] at hg, fun g hg => by simp [Value.ownBlock] at hg⟩

set_option maxHeartbeats 800000 in
set_option maxRecDepth 100000 in
theorem glook_any (p : Nat) (E : Int) (n : Bool) (a : Option Addr) (ca : Nat) (xs : List Int) (b : Option Addr) (cb : Nat) (ys : List Int) (m : Bool) (c : Option Addr) (cc : Nat) (us : List Int) (d : Option Addr) (cd : Nat) (vs : List Int) (w : World) (hp : Box w p 100 #[.int .i64 E]) (sx : Sl w (.slice a xs.length ca) xs) (sy : Sl w (.slice b ys.length cb) ys) (su : Sl w (.slice c us.length cc) us) (sv : Sl w (.slice d vs.length cd) vs) :
    Calls Tryz.prog 58 #[.pointer (some ⟨p, 0, none⟩), .agg #[.bool n, .slice a xs.length ca, .slice b ys.length cb, .bool m, .slice c us.length cc, .slice d vs.length cd]] w fun e w' => e = .returned (.tuple #[]) ∧ Box w' p 100 #[.int .i64 (fstE E (gchk n xs ys m us vs))] ∧ w.grownBy w' (some p) := by
  have HB := hid (Box.made w 29 #[.bool n, .slice a xs.length ca, .slice b ys.length cb, .bool m, .slice c us.length cc, .slice d vs.length cd])
  have HW := hid (alloc_later w (.cells #[.bool n, .slice a xs.length ca, .slice b ys.length cb, .bool m, .slice c us.length cc, .slice d vs.length cd] 29))
  obtain ⟨X, hX⟩ : ∃ X, w.alloc (.cells #[.bool n, .slice a xs.length ca, .slice b ys.length cb, .bool m, .slice c us.length cc, .slice d vs.length cd] 29) = X := ⟨_, rfl⟩
  rw [hX] at HB HW
  have HP := hid (hp.later HW.out hp.lt)
  have kp : X.cell? ⟨p, 0, none⟩ = some (.int .i64 E) := HP.out.cell 0
  have fp := HP.out.free 0
  have HC := hid (gcheck_any n _ xs _ ys m _ us _ vs X (sx.later HW.out) (sy.later HW.out) (su.later HW.out) (sv.later HW.out))
  generalize gchk n xs ys m us vs = e at *
  clear sx sy su sv hp
  by_cases hE : E = 0
  · subst hE
    rw [fstE_zero]
    have c0 : X.cell? ⟨w.heap.size, 0, none⟩ = some (.bool n) := HB.out.cell 0
    have c1 : X.cell? ⟨w.heap.size, 1, none⟩ = some (.slice a xs.length ca) := HB.out.cell 1
    have c2 : X.cell? ⟨w.heap.size, 2, none⟩ = some (.slice b ys.length cb) := HB.out.cell 2
    have c3 : X.cell? ⟨w.heap.size, 3, none⟩ = some (.bool m) := HB.out.cell 3
    have c4 : X.cell? ⟨w.heap.size, 4, none⟩ = some (.slice c us.length cc) := HB.out.cell 4
    have c5 : X.cell? ⟨w.heap.size, 5, none⟩ = some (.slice d vs.length cd) := HB.out.cell 5
    go_enter Tryz.func58, Tryz.ntmps58
    go_wp2_with fail
    refine Calls.mono HC.out ?_
    rintro x w1 ⟨rfl, hb1⟩
    have HP1 := hid (HP.out.later hb1 HP.out.lt)
    have kp1 : w1.cell? ⟨p, 0, none⟩ = some (.int .i64 0) := HP1.out.cell 0
    have fp1 := HP1.out.free 0
    have HBB := hid (bt HW.out hb1)
    clear hb1 c0 c1 c2 c3 c4 c5 kp fp HC
    go_wp2_with fail
    go_end0
    exact ⟨rfl, HP1.out.set 0 (.int .i64 e), grow_put (grow_below HBB.out (some p)) p 0 _ (.inr rfl)⟩
  · have hE' : (E == 0) = false := by simp [hE]
    rw [fstE_err e hE]
    go_enter Tryz.func58, Tryz.ntmps58
    go_wp2_with fail
    go_end0
    exact ⟨rfl, HP.out, grow_below HW.out (some p)⟩
end Go.Proofs.YtmgjkdijnjeljaaGreatDoor

/- Complex fractions, the steps' own: lookAt of one and of two, told. -/
namespace Go.Proofs.YtmgjkdijnjeljaaGreatDoor
open Go.RowKit
set_option linter.unusedVariables false

set_option maxHeartbeats 1600000 in
set_option maxRecDepth 100000 in
theorem glookAt1_any (g : Nat) (n : Bool) (a : Option Addr) (ca : Nat) (xs : List Int) (b : Option Addr) (cb : Nat) (ys : List Int) (m : Bool) (c : Option Addr) (cc : Nat) (us : List Int) (d : Option Addr) (cd : Nat) (vs : List Int) (w : World) (hg : Box w g 29 #[.bool n, .slice a xs.length ca, .slice b ys.length cb, .bool m, .slice c us.length cc, .slice d vs.length cd]) (sx : Sl w (.slice a xs.length ca) xs) (sy : Sl w (.slice b ys.length cb) ys) (su : Sl w (.slice c us.length cc) us) (sv : Sl w (.slice d vs.length cd) vs) :
    Calls Tryz.prog 40 #[.slice (some ⟨g, 0, none⟩) 1 1] w fun e w' => ∃ p, e = .returned (.pointer (some ⟨p, 0, none⟩)) ∧ w.heap.size ≤ p ∧ Box w' p 100 #[.int .i64 (gchk n xs ys m us vs)] ∧ Below w.heap.size w w' := by
  have HS := hid (Box.made w 100 #[.int .i64 0])
  have HW := hid (alloc_later w (.cells #[.int .i64 0] 100))
  have HL : Hid (∀ (V : World) (E : Int), Below w.heap.size w V → Box V w.heap.size 100 #[.int .i64 E] → Calls Tryz.prog 58 #[.pointer (some ⟨w.heap.size, 0, none⟩), .agg #[.bool n, .slice a xs.length ca, .slice b ys.length cb, .bool m, .slice c us.length cc, .slice d vs.length cd]] V fun e w' => e = .returned (.tuple #[]) ∧ Box w' w.heap.size 100 #[.int .i64 (fstE E (gchk n xs ys m us vs))] ∧ V.grownBy w' (some w.heap.size)) := fun V E hv hb => glook_any w.heap.size E n a ca xs b cb ys m c cc us d cd vs V hb (sx.later hv) (sy.later hv) (su.later hv) (sv.later hv)
  generalize gchk n xs ys m us vs = E1 at *
  have HG := hid hg
  have hgl : g < w.heap.size := hg.lt
  clear hg sx sy su sv
  go_enter Tryz.func40, Tryz.ntmps40
  go_wp2_with fail
  generalize w.alloc (.cells #[.int .i64 0] 100) = X at *
  refine wp_loop_rounds 2 ?_
  rw [rounds_succ]
  have k0 : X.cell? ⟨g, 0, none⟩ = some (.bool n) := (HG.out.later (HW.out) hgl).cell 0
  have k1 : X.cell? ⟨g, 1, none⟩ = some (.slice a xs.length ca) := (HG.out.later (HW.out) hgl).cell 1
  have k2 : X.cell? ⟨g, 2, none⟩ = some (.slice b ys.length cb) := (HG.out.later (HW.out) hgl).cell 2
  have k3 : X.cell? ⟨g, 3, none⟩ = some (.bool m) := (HG.out.later (HW.out) hgl).cell 3
  have k4 : X.cell? ⟨g, 4, none⟩ = some (.slice c us.length cc) := (HG.out.later (HW.out) hgl).cell 4
  have k5 : X.cell? ⟨g, 5, none⟩ = some (.slice d vs.length cd) := (HG.out.later (HW.out) hgl).cell 5
  have HA0 := hid (alloc_later X (.cells #[.bool n, .slice a xs.length ca, .slice b ys.length cb, .bool m, .slice c us.length cc, .slice d vs.length cd] 29))
  go_wp2_with fail
  generalize X.alloc (.cells #[.bool n, .slice a xs.length ca, .slice b ys.length cb, .bool m, .slice c us.length cc, .slice d vs.length cd] 29) = Y0 at *
  refine Calls.mono (HL.out Y0 0 (bt (HW.out) HA0.out) ((HS.out).later HA0.out (HS.out).lt)) ?_
  rintro e z0 ⟨rfl, hz0, hgz0⟩
  have HZ0 := hid hz0
  have HB0 : Hid (Below w.heap.size w z0) := (bt (HW.out) HA0.out).grown hgz0 (bt (HW.out) HA0.out).size (fun q hq => by have e := Option.some.inj hq; omega)
  clear hz0 hgz0 k0 k1 k2 k3 k4 k5
  go_wp2_with fail
  rw [rounds_succ]
  go_wp2_with fail
  go_ret
  refine ⟨_, rfl, Nat.le_refl _, ?_, HB0.out⟩
  have e := HZ0.out
  rw [fstE_zero] at e
  exact e

set_option maxHeartbeats 1600000 in
set_option maxRecDepth 100000 in
theorem glookAt2_any (g : Nat) (n : Bool) (a : Option Addr) (ca : Nat) (xs : List Int) (b : Option Addr) (cb : Nat) (ys : List Int) (m : Bool) (c : Option Addr) (cc : Nat) (us : List Int) (d : Option Addr) (cd : Nat) (vs : List Int) (n2 : Bool) (a2 : Option Addr) (ca2 : Nat) (xs2 : List Int) (b2' : Option Addr) (cb2 : Nat) (ys2 : List Int) (m2 : Bool) (c2 : Option Addr) (cc2 : Nat) (us2 : List Int) (d2 : Option Addr) (cd2 : Nat) (vs2 : List Int) (w : World) (hg : Box w g 29 #[.bool n, .slice a xs.length ca, .slice b ys.length cb, .bool m, .slice c us.length cc, .slice d vs.length cd, .bool n2, .slice a2 xs2.length ca2, .slice b2' ys2.length cb2, .bool m2, .slice c2 us2.length cc2, .slice d2 vs2.length cd2]) (sx : Sl w (.slice a xs.length ca) xs) (sy : Sl w (.slice b ys.length cb) ys) (su : Sl w (.slice c us.length cc) us) (sv : Sl w (.slice d vs.length cd) vs) (sx2 : Sl w (.slice a2 xs2.length ca2) xs2) (sy2 : Sl w (.slice b2' ys2.length cb2) ys2) (su2 : Sl w (.slice c2 us2.length cc2) us2) (sv2 : Sl w (.slice d2 vs2.length cd2) vs2) :
    Calls Tryz.prog 40 #[.slice (some ⟨g, 0, none⟩) 2 2] w fun e w' => ∃ p, e = .returned (.pointer (some ⟨p, 0, none⟩)) ∧ w.heap.size ≤ p ∧ Box w' p 100 #[.int .i64 (fstE (gchk n xs ys m us vs) (gchk n2 xs2 ys2 m2 us2 vs2))] ∧ Below w.heap.size w w' := by
  have HS := hid (Box.made w 100 #[.int .i64 0])
  have HW := hid (alloc_later w (.cells #[.int .i64 0] 100))
  have HL : Hid (∀ (V : World) (E : Int), Below w.heap.size w V → Box V w.heap.size 100 #[.int .i64 E] → Calls Tryz.prog 58 #[.pointer (some ⟨w.heap.size, 0, none⟩), .agg #[.bool n, .slice a xs.length ca, .slice b ys.length cb, .bool m, .slice c us.length cc, .slice d vs.length cd]] V fun e w' => e = .returned (.tuple #[]) ∧ Box w' w.heap.size 100 #[.int .i64 (fstE E (gchk n xs ys m us vs))] ∧ V.grownBy w' (some w.heap.size)) := fun V E hv hb => glook_any w.heap.size E n a ca xs b cb ys m c cc us d cd vs V hb (sx.later hv) (sy.later hv) (su.later hv) (sv.later hv)
  have HL2 : Hid (∀ (V : World) (E : Int), Below w.heap.size w V → Box V w.heap.size 100 #[.int .i64 E] → Calls Tryz.prog 58 #[.pointer (some ⟨w.heap.size, 0, none⟩), .agg #[.bool n2, .slice a2 xs2.length ca2, .slice b2' ys2.length cb2, .bool m2, .slice c2 us2.length cc2, .slice d2 vs2.length cd2]] V fun e w' => e = .returned (.tuple #[]) ∧ Box w' w.heap.size 100 #[.int .i64 (fstE E (gchk n2 xs2 ys2 m2 us2 vs2))] ∧ V.grownBy w' (some w.heap.size)) := fun V E hv hb => glook_any w.heap.size E n2 a2 ca2 xs2 b2' cb2 ys2 m2 c2 cc2 us2 d2 cd2 vs2 V hb (sx2.later hv) (sy2.later hv) (su2.later hv) (sv2.later hv)
  generalize gchk n xs ys m us vs = E1 at *
  generalize gchk n2 xs2 ys2 m2 us2 vs2 = E2 at *
  have HG := hid hg
  have hgl : g < w.heap.size := hg.lt
  clear hg sx sy su sv sx2 sy2 su2 sv2
  go_enter Tryz.func40, Tryz.ntmps40
  go_wp2_with fail
  generalize w.alloc (.cells #[.int .i64 0] 100) = X at *
  refine wp_loop_rounds 3 ?_
  rw [rounds_succ]
  have k0 : X.cell? ⟨g, 0, none⟩ = some (.bool n) := (HG.out.later (HW.out) hgl).cell 0
  have k1 : X.cell? ⟨g, 1, none⟩ = some (.slice a xs.length ca) := (HG.out.later (HW.out) hgl).cell 1
  have k2 : X.cell? ⟨g, 2, none⟩ = some (.slice b ys.length cb) := (HG.out.later (HW.out) hgl).cell 2
  have k3 : X.cell? ⟨g, 3, none⟩ = some (.bool m) := (HG.out.later (HW.out) hgl).cell 3
  have k4 : X.cell? ⟨g, 4, none⟩ = some (.slice c us.length cc) := (HG.out.later (HW.out) hgl).cell 4
  have k5 : X.cell? ⟨g, 5, none⟩ = some (.slice d vs.length cd) := (HG.out.later (HW.out) hgl).cell 5
  have HA0 := hid (alloc_later X (.cells #[.bool n, .slice a xs.length ca, .slice b ys.length cb, .bool m, .slice c us.length cc, .slice d vs.length cd] 29))
  go_wp2_with fail
  generalize X.alloc (.cells #[.bool n, .slice a xs.length ca, .slice b ys.length cb, .bool m, .slice c us.length cc, .slice d vs.length cd] 29) = Y0 at *
  refine Calls.mono (HL.out Y0 0 (bt (HW.out) HA0.out) ((HS.out).later HA0.out (HS.out).lt)) ?_
  rintro e z0 ⟨rfl, hz0, hgz0⟩
  have HZ0 := hid hz0
  have HB0 : Hid (Below w.heap.size w z0) := (bt (HW.out) HA0.out).grown hgz0 (bt (HW.out) HA0.out).size (fun q hq => by have e := Option.some.inj hq; omega)
  clear hz0 hgz0 k0 k1 k2 k3 k4 k5
  go_wp2_with fail
  rw [rounds_succ]
  have k0 : z0.cell? ⟨g, 6, none⟩ = some (.bool n2) := (HG.out.later (HB0.out) hgl).cell 6
  have k1 : z0.cell? ⟨g, 7, none⟩ = some (.slice a2 xs2.length ca2) := (HG.out.later (HB0.out) hgl).cell 7
  have k2 : z0.cell? ⟨g, 8, none⟩ = some (.slice b2' ys2.length cb2) := (HG.out.later (HB0.out) hgl).cell 8
  have k3 : z0.cell? ⟨g, 9, none⟩ = some (.bool m2) := (HG.out.later (HB0.out) hgl).cell 9
  have k4 : z0.cell? ⟨g, 10, none⟩ = some (.slice c2 us2.length cc2) := (HG.out.later (HB0.out) hgl).cell 10
  have k5 : z0.cell? ⟨g, 11, none⟩ = some (.slice d2 vs2.length cd2) := (HG.out.later (HB0.out) hgl).cell 11
  have HA1 := hid (alloc_later z0 (.cells #[.bool n2, .slice a2 xs2.length ca2, .slice b2' ys2.length cb2, .bool m2, .slice c2 us2.length cc2, .slice d2 vs2.length cd2] 29))
  go_wp2_with fail
  generalize z0.alloc (.cells #[.bool n2, .slice a2 xs2.length ca2, .slice b2' ys2.length cb2, .bool m2, .slice c2 us2.length cc2, .slice d2 vs2.length cd2] 29) = Y1 at *
  refine Calls.mono (HL2.out Y1 (fstE 0 E1) (bt (HB0.out) HA1.out) ((HZ0.out).later HA1.out (HZ0.out).lt)) ?_
  rintro e z1 ⟨rfl, hz1, hgz1⟩
  have HZ1 := hid hz1
  have HB1 : Hid (Below w.heap.size w z1) := (bt (HB0.out) HA1.out).grown hgz1 (bt (HB0.out) HA1.out).size (fun q hq => by have e := Option.some.inj hq; omega)
  clear hz1 hgz1 k0 k1 k2 k3 k4 k5
  go_wp2_with fail
  rw [rounds_succ]
  go_wp2_with fail
  go_ret
  refine ⟨_, rfl, Nat.le_refl _, ?_, HB1.out⟩
  have e := HZ1.out
  rw [fstE_zero] at e
  exact e

end Go.Proofs.YtmgjkdijnjeljaaGreatDoor

/- Complex fractions, the steps' own: told. -/
namespace Go.Proofs.YtmgjkdijnjeljaaGreatDoor
open Go.RowKit
set_option linter.unusedVariables false

theorem box_put6 {U : World} {b t : Nat} {u0 u1 u2 u3 u4 u5 : Value} (h : Box U b t #[u0, u1, u2, u3, u4, u5]) (v0 v1 v2 v3 v4 v5 : Value) : Box ((((((U.setCell ⟨b, 0, none⟩ v0).setCell ⟨b, 1, none⟩ v1).setCell ⟨b, 2, none⟩ v2).setCell ⟨b, 3, none⟩ v3).setCell ⟨b, 4, none⟩ v4).setCell ⟨b, 5, none⟩ v5) b t #[v0, v1, v2, v3, v4, v5] := (((((h.set 0 v0).set 1 v1).set 2 v2).set 3 v3).set 4 v4).set 5 v5
theorem below_put6 {B : Nat} {x U : World} (h : Below B x U) (b : Nat) (hb : B ≤ b) (v0 v1 v2 v3 v4 v5 : Value) : Below B x ((((((U.setCell ⟨b, 0, none⟩ v0).setCell ⟨b, 1, none⟩ v1).setCell ⟨b, 2, none⟩ v2).setCell ⟨b, 3, none⟩ v3).setCell ⟨b, 4, none⟩ v4).setCell ⟨b, 5, none⟩ v5) :=
  (((((h.setCell (p := ⟨b, 0, none⟩) hb _).setCell (p := ⟨b, 1, none⟩) hb _).setCell (p := ⟨b, 2, none⟩) hb _).setCell (p := ⟨b, 3, none⟩) hb _).setCell (p := ⟨b, 4, none⟩) hb _).setCell (p := ⟨b, 5, none⟩) hb _
/-- What told tells is read out of a box and a slot. -/
theorem told_run {W : World} {b : Nat} {cs : Array Value} (hb : Box W b 29 cs) (tmps : Array Value) (h4 : tmps.getD 4 undef = .pointer (some ⟨b, 0, none⟩)) (hi : (Tryz.prog.info? 29).map (·.size) = some cs.size := by kernel_rfl) : (results Tryz.f43 tmps).run Tryz.prog W = .ok (.tuple #[.agg cs, tmps.getD 5 undef]) W := by
  have h := run_loadVar_row (P := Tryz.prog) W b 29 29 cs (0, 0) _ hb Tryz.underlying29 rfl hi
  rw [results_cell_tmp (by rfl), h4]
  simp [asAddr, h]

set_option maxHeartbeats 800000 in
set_option maxRecDepth 100000 in
theorem gtold_any (p : Nat) (E : Int) (n : Bool) (a : Option Addr) (ka ca : Nat) (b : Option Addr) (kb cb : Nat) (m : Bool) (c : Option Addr) (kc cc : Nat) (d : Option Addr) (kd cd : Nat) (w : World) (hp : Box w p 100 #[.int .i64 E]) :
    Calls Tryz.prog 43 #[.pointer (some ⟨p, 0, none⟩), .agg #[.bool n, .slice a ka ca, .slice b kb cb, .bool m, .slice c kc cc, .slice d kd cd]] w fun e w' => e = .returned (.tuple #[.agg (if E = 0 then #[.bool n, .slice a ka ca, .slice b kb cb, .bool m, .slice c kc cc, .slice d kd cd] else #[.bool false, .slice none 0 0, .slice none 0 0, .bool false, .slice none 0 0, .slice none 0 0]), .int .i64 E]) ∧ Below w.heap.size w w' := by
  have HX := hid (boxes2r w 29 #[.bool n, .slice a ka ca, .slice b kb cb, .bool m, .slice c kc cc, .slice d kd cd] #[.bool false, .slice none 0 0, .slice none 0 0, .bool false, .slice none 0 0, .slice none 0 0])
  obtain ⟨X, hX⟩ : ∃ X, (w.alloc (.cells #[.bool n, .slice a ka ca, .slice b kb cb, .bool m, .slice c kc cc, .slice d kd cd] 29)).alloc (.cells #[.bool false, .slice none 0 0, .slice none 0 0, .bool false, .slice none 0 0, .slice none 0 0] 29) = X := ⟨_, rfl⟩
  rw [hX] at HX
  have HP := hid (hp.later HX.out.2.2 hp.lt)
  have kp : X.cell? ⟨p, 0, none⟩ = some (.int .i64 E) := HP.out.cell 0
  have m0 : X.cell? ⟨w.heap.size + 1, 0, none⟩ = some (.bool false) := HX.out.2.1.cell 0
  have m1 : X.cell? ⟨w.heap.size + 1, 1, none⟩ = some (.slice none 0 0) := HX.out.2.1.cell 1
  have m2 : X.cell? ⟨w.heap.size + 1, 2, none⟩ = some (.slice none 0 0) := HX.out.2.1.cell 2
  have m3 : X.cell? ⟨w.heap.size + 1, 3, none⟩ = some (.bool false) := HX.out.2.1.cell 3
  have m4 : X.cell? ⟨w.heap.size + 1, 4, none⟩ = some (.slice none 0 0) := HX.out.2.1.cell 4
  have m5 : X.cell? ⟨w.heap.size + 1, 5, none⟩ = some (.slice none 0 0) := HX.out.2.1.cell 5
  have n0 := HX.out.2.1.free 0
  have n1 := HX.out.2.1.free 1
  have n2 := HX.out.2.1.free 2
  have n3 := HX.out.2.1.free 3
  have n4 := HX.out.2.1.free 4
  have n5 := HX.out.2.1.free 5
  have hpw : p < w.heap.size := hp.lt
  clear hp
  by_cases hE : E = 0
  · subst hE
    rw [if_pos rfl]
    have c0 : X.cell? ⟨w.heap.size, 0, none⟩ = some (.bool n) := HX.out.1.cell 0
    have c1 : X.cell? ⟨w.heap.size, 1, none⟩ = some (.slice a ka ca) := HX.out.1.cell 1
    have c2 : X.cell? ⟨w.heap.size, 2, none⟩ = some (.slice b kb cb) := HX.out.1.cell 2
    have c3 : X.cell? ⟨w.heap.size, 3, none⟩ = some (.bool m) := HX.out.1.cell 3
    have c4 : X.cell? ⟨w.heap.size, 4, none⟩ = some (.slice c kc cc) := HX.out.1.cell 4
    have c5 : X.cell? ⟨w.heap.size, 5, none⟩ = some (.slice d kd cd) := HX.out.1.cell 5
    go_enter Tryz.func43, Tryz.ntmps43
    go_wp2_with fail
    have B1 := box_put6 HX.out.2.1 (.bool n) (.slice a ka ca) (.slice b kb cb) (.bool m) (.slice c kc cc) (.slice d kd cd)
    have G1 := below_put6 HX.out.2.2 (w.heap.size + 1) (by omega) (.bool n) (.slice a ka ca) (.slice b kb cb) (.bool m) (.slice c kc cc) (.slice d kd cd)
    clear m0 m1 m2 m3 m4 m5 n0 n1 n2 n3 n4 n5 c0 c1 c2 c3 c4 c5 kp
    generalize (((((X.setCell ⟨w.heap.size + 1, 0, none⟩ (.bool n)).setCell ⟨w.heap.size + 1, 1, none⟩ (.slice a ka ca)).setCell ⟨w.heap.size + 1, 2, none⟩ (.slice b kb cb)).setCell ⟨w.heap.size + 1, 3, none⟩ (.bool m)).setCell ⟨w.heap.size + 1, 4, none⟩ (.slice c kc cc)).setCell ⟨w.heap.size + 1, 5, none⟩ (.slice d kd cd) = W at *
    exact bodyPost_ret (told_run B1 _ rfl) rfl ⟨rfl, G1⟩
  · have hE' : (E == 0) = false := by simp [hE]
    rw [if_neg hE]
    have hne : p ≠ w.heap.size + 1 := by omega
    go_enter Tryz.func43, Tryz.ntmps43
    go_wp2_with fail
    go_region
    all_goals
      go_wp2_with fail
      have B1 := box_put6 HX.out.2.1 (.bool false) (.slice none 0 0) (.slice none 0 0) (.bool false) (.slice none 0 0) (.slice none 0 0)
      have G1 := below_put6 HX.out.2.2 (w.heap.size + 1) (by omega) (.bool false) (.slice none 0 0) (.slice none 0 0) (.bool false) (.slice none 0 0) (.slice none 0 0)
      clear m0 m1 m2 m3 m4 m5 n0 n1 n2 n3 n4 n5 kp
      generalize (((((X.setCell ⟨w.heap.size + 1, 0, none⟩ (.bool false)).setCell ⟨w.heap.size + 1, 1, none⟩ (.slice none 0 0)).setCell ⟨w.heap.size + 1, 2, none⟩ (.slice none 0 0)).setCell ⟨w.heap.size + 1, 3, none⟩ (.bool false)).setCell ⟨w.heap.size + 1, 4, none⟩ (.slice none 0 0)).setCell ⟨w.heap.size + 1, 5, none⟩ (.slice none 0 0) = W at *
      have B2 : Box W.drew (w.heap.size + 1) 29 #[.bool false, .slice none 0 0, .slice none 0 0, .bool false, .slice none 0 0, .slice none 0 0] := B1
      exact bodyPost_ret (told_run B2 _ rfl) rfl ⟨rfl, G1.drew⟩
end Go.Proofs.YtmgjkdijnjeljaaGreatDoor

/- Complex fractions: gauss.Add, Sub: of any two, good or refused. -/
namespace Go.Proofs.YtmgjkdijnjeljaaGreatDoor
open Go.RowKit
set_option linter.unusedVariables false

/-- What a call tells that tells a complex fraction: E what was refused ahead, L whether something on the way is too long. -/
structure GTells (E : Int) (L : Prop) (q1 q2 : Rat) (n : Bool) (xs ys : List Int) (m : Bool) (us vs : List Int) (code : Int) : Prop where
  wd : Wd xs ∧ Wd ys ∧ Wd us ∧ Wd vs
  bad : E ≠ 0 → (n = false ∧ xs = [] ∧ ys = [] ∧ m = false ∧ us = [] ∧ vs = []) ∧ code = E
  long : E = 0 → L → (n = false ∧ xs = [] ∧ ys = [] ∧ m = false ∧ us = [] ∧ vs = []) ∧ code = 3
  good : E = 0 → ¬ L → code = 0 ∧ (rchk n xs ys = 0 ∧ rq n xs ys = q1) ∧ rchk m us vs = 0 ∧ rq m us vs = q2
def GTold (w : World) (E : Int) (L : Prop) (q1 q2 : Rat) (x : Ending) (w' : World) : Prop :=
  ∃ n a ca xs b cb ys m c cc us d cd vs code, x = .returned (.tuple #[.agg #[.bool n, .slice a (List.length xs) ca, .slice b (List.length ys) cb, .bool m, .slice c (List.length us) cc, .slice d (List.length vs) cd], .int .i64 code]) ∧ (w'.ownsRow w.heap.size 85 1 (.slice a xs.length ca) xs.length (xs.map (Value.int .u32)) ∧ w'.ownsRow w.heap.size 85 1 (.slice b ys.length cb) ys.length (ys.map (Value.int .u32)) ∧ w'.ownsRow w.heap.size 85 1 (.slice c us.length cc) us.length (us.map (Value.int .u32)) ∧ w'.ownsRow w.heap.size 85 1 (.slice d vs.length cd) vs.length (vs.map (Value.int .u32))) ∧ GTells E L q1 q2 n xs ys m us vs code ∧ Below w.heap.size w w'

theorem gchk_ok {n m : Bool} {xs ys us vs : List Int} (h : gchk n xs ys m us vs = 0) : rchk n xs ys = 0 ∧ rchk m us vs = 0 := by
  unfold gchk fstE at h
  by_cases e : rchk n xs ys = 0
  · rw [if_pos e] at h; exact ⟨e, h⟩
  · rw [if_neg e] at h; exact absurd h e
theorem fstE_ok {E e : Int} (h : fstE E e = 0) : E = 0 ∧ e = 0 := by
  unfold fstE at h
  by_cases c : E = 0
  · rw [if_pos c] at h; exact ⟨c, h⟩
  · rw [if_neg c] at h; exact absurd h c

theorem own_put6 {w : World} {base e n : Nat} {v : Value} {xs : List Value} (h : w.ownsRow base e 1 v n xs) (b : Nat) (hb : ∀ g, v.ownBlock = some g → g ≠ b) (u0 u1 u2 u3 u4 u5 : Value) : ((((((w.setCell ⟨b, 0, none⟩ u0).setCell ⟨b, 1, none⟩ u1).setCell ⟨b, 2, none⟩ u2).setCell ⟨b, 3, none⟩ u3).setCell ⟨b, 4, none⟩ u4).setCell ⟨b, 5, none⟩ u5).ownsRow base e 1 v n xs :=
  own_put1 (own_put1 (own_put1 (own_put3' h b hb u0 u1 u2) b hb 3 u3) b hb 4 u4) b hb 5 u5
/-- A complex fraction is read out of a box, its error out of a slot. -/
theorem gres_run {fn : Func} {W : World} {b q u : Nat} {cs : Array Value} (hr : fn.results = #[.cell q 29, .tmp u]) (hb : Box W b 29 cs) (tmps : Array Value) (h4 : tmps.getD q undef = .pointer (some ⟨b, 0, none⟩)) (hi : (Tryz.prog.info? 29).map (·.size) = some cs.size := by kernel_rfl) : (results fn tmps).run Tryz.prog W = .ok (.tuple #[.agg cs, tmps.getD u undef]) W := by
  have h := run_loadVar_row (P := Tryz.prog) W b 29 29 cs (0, 0) _ hb Tryz.underlying29 rfl hi
  rw [results_cell_tmp hr, h4]
  simp [asAddr, h]

/-- Two steps, and what is told of them. -/
theorem gtwo {E e1 e2 : Int} {q1 q2 : Rat} {n m : Bool} {xs ys us vs : List Int} {c1 c2 : Int} (h1 : RTells (fstE E e1) q1 n xs ys c1) (h2 : RTells (fstE c1 e2) q2 m us vs c2) (z1 : E = 0 → e1 = 0) (z2 : E = 0 → e2 = 0) :
    (c2 = 0 → GTells E (rlong q1 ∨ rlong q2) q1 q2 n xs ys m us vs c2) ∧ (c2 ≠ 0 → GTells E (rlong q1 ∨ rlong q2) q1 q2 false [] [] false [] [] c2) := by
  have w4 : Wd [] := Wd.nil
  by_cases hE : E = 0
  · subst hE
    rw [fstE_zero, z1 rfl] at h1
    rw [z2 rfl] at h2
    by_cases l1 : rlong q1
    · obtain ⟨_, _, _, hc⟩ := h1.long rfl l1
      subst hc
      rw [fstE_err 0 (by decide)] at h2
      obtain ⟨_, _, _, hc2⟩ := h2.bad (by decide)
      subst hc2
      exact ⟨fun h => absurd h (by decide), fun _ => ⟨⟨w4, w4, w4, w4⟩, fun h => absurd rfl h, fun _ _ => ⟨⟨rfl, rfl, rfl, rfl, rfl, rfl⟩, rfl⟩, fun _ h => absurd (.inl l1) h⟩⟩
    · obtain ⟨hc, hk1, hv1⟩ := h1.good rfl l1
      subst hc
      rw [fstE_zero] at h2
      by_cases l2 : rlong q2
      · obtain ⟨_, _, _, hc2⟩ := h2.long rfl l2
        subst hc2
        exact ⟨fun h => absurd h (by decide), fun _ => ⟨⟨w4, w4, w4, w4⟩, fun h => absurd rfl h, fun _ _ => ⟨⟨rfl, rfl, rfl, rfl, rfl, rfl⟩, rfl⟩, fun _ h => absurd (.inr l2) h⟩⟩
      · obtain ⟨hc2, hk2, hv2⟩ := h2.good rfl l2
        subst hc2
        exact ⟨fun _ => ⟨⟨h1.wx, h1.wy, h2.wx, h2.wy⟩, fun h => absurd rfl h, fun _ h => absurd h (by rintro (h | h); exact l1 h; exact l2 h), fun _ _ => ⟨rfl, ⟨hk1, hv1⟩, hk2, hv2⟩⟩, fun h => absurd rfl h⟩
  · rw [fstE_err _ hE] at h1
    obtain ⟨_, _, _, hc⟩ := h1.bad hE
    subst hc
    rw [fstE_err _ hE] at h2
    obtain ⟨_, _, _, hc2⟩ := h2.bad hE
    subst hc2
    exact ⟨fun h => absurd h hE, fun _ => ⟨⟨w4, w4, w4, w4⟩, fun _ => ⟨⟨rfl, rfl, rfl, rfl, rfl, rfl⟩, rfl⟩, fun h => absurd h hE, fun h => absurd h hE⟩⟩
theorem rboth0 {n m : Bool} {xs ys us vs : List Int} (h : rchk n xs ys = 0) (g : rchk m us vs = 0) : rboth n xs ys m us vs = 0 := rboth_good h g

end Go.Proofs.YtmgjkdijnjeljaaGreatDoor

/- Complex fractions: what stands while steps are made one behind the other (for square, times). -/
namespace Go.Proofs.YtmgjkdijnjeljaaGreatDoor
open Go.RowKit
set_option linter.unusedVariables false

/-- What stands while steps are made: their error, the boxes of the call. -/
structure GInv (w : World) (p : Nat) (E : Int) (l : List (Nat × Nat × Array Value)) (V : World) : Prop where
  err : Box V p 100 #[.int .i64 E]
  grown : w.grownBy V (some p)
  box : ∀ x ∈ l, Box V x.1 x.2.1 x.2.2 ∧ x.1 ≠ p
theorem GInv.drew {w V : World} {p : Nat} {E : Int} {l : List (Nat × Nat × Array Value)} (h : GInv w p E l V) : GInv w p E l V.drew := ⟨h.err, ⟨h.grown.os, h.grown.tape, h.grown.output, h.grown.size, h.grown.block⟩, h.box⟩
theorem GInv.step {w V V' : World} {p : Nat} {E code : Int} {l : List (Nat × Nat × Array Value)} (h : GInv w p E l V) (hp : Box V' p 100 #[.int .i64 code]) (hg : V.grownBy V' (some p)) : GInv w p code l V' :=
  ⟨hp, grow_trans h.grown hg, fun x hx => ⟨(h.box x hx).1.kept' hg (fun e => (h.box x hx).2 (Option.some.inj e)), (h.box x hx).2⟩⟩
theorem GInv.alloc {w V : World} {p : Nat} {E : Int} {l : List (Nat × Nat × Array Value)} (h : GInv w p E l V) (ob : Obj) : GInv w p E l (V.alloc ob) :=
  ⟨h.err.later (alloc_later V ob) h.err.lt, grow_trans h.grown (World.grownBy_alloc V ob (some p)), fun x hx => ⟨(h.box x hx).1.later (alloc_later V ob) (h.box x hx).1.lt, (h.box x hx).2⟩⟩
/-- A fraction that a step told, still there. -/
structure GRow (V : World) (base : Nat) (n : Bool) (v : Value) (xs : List Int) (u : Value) (ys : List Int) : Prop where
  ov : V.ownsRow base 85 1 v xs.length (xs.map (Value.int .u32))
  ou : V.ownsRow base 85 1 u ys.length (ys.map (Value.int .u32))
theorem GRow.step {V V' : World} {base p : Nat} {n : Bool} {v u : Value} {xs ys : List Int} (h : GRow V base n v xs u ys) (hp : p < base) (hg : V.grownBy V' (some p)) : GRow V' base n v xs u ys := by
  have hk : ∀ (x : Value), (∀ g, x.ownBlock = some g → base ≤ g) → x.ownBlock = none ∨ x.ownBlock ≠ some p := fun x h1 => by
    cases e : x.ownBlock with
    | none => exact .inl rfl
    | some g => right; intro h; have e2 := Option.some.inj h; have := h1 g e; omega
  exact ⟨World.ownsRow.kept h.ov hg (hk _ (fun g hg => (h.ov.lt g hg).1)), World.ownsRow.kept h.ou hg (hk _ (fun g hg => (h.ou.lt g hg).1))⟩
theorem GRow.sl {V : World} {base : Nat} {n : Bool} {v u : Value} {xs ys : List Int} (h : GRow V base n v xs u ys) (wx : Wd xs) (wy : Wd ys) : Sl V v xs ∧ Sl V u ys := ⟨Sl.own h.ov wx, Sl.own h.ou wy⟩
theorem Sl.kept {V V' : World} {v : Value} {xs : List Int} {p : Nat} (h : Sl V v xs) (hg : V.grownBy V' (some p)) (hne : ∀ a k c, v = .slice (some a) k c → a.block ≠ p) : Sl V' v xs := by
  obtain ⟨a, cap, hv, h1, h2, h3, h4, h5, h6⟩ := h
  refine ⟨a, cap, hv, h1, h2, ?_, h4, h5, h6⟩
  rcases h3 with h3 | ⟨b, off, ha, hb, hc⟩
  · exact .inl h3
  · have hbp : b ≠ p := by subst ha; exact hne _ _ _ hv
    have hs := hg.size
    exact .inr ⟨b, off, ha, by omega, fun j hj => hg.cell (a := ⟨b, off + j, none⟩) (hc j hj) (fun e => hbp (Option.some.inj e))⟩
end Go.Proofs.YtmgjkdijnjeljaaGreatDoor

/- Complex fractions, the steps' own: square: of any complex fraction that was looked at. -/
namespace Go.Proofs.YtmgjkdijnjeljaaGreatDoor
open Go.RowKit
set_option linter.unusedVariables false

theorem cells6 {W : World} {b t : Nat} {u0 u1 u2 u3 u4 u5 : Value} (h : Box W b t #[u0, u1, u2, u3, u4, u5]) : W.cell? ⟨b, 0, none⟩ = some u0 ∧ W.cell? ⟨b, 1, none⟩ = some u1 ∧ W.cell? ⟨b, 2, none⟩ = some u2 ∧ W.cell? ⟨b, 3, none⟩ = some u3 ∧ W.cell? ⟨b, 4, none⟩ = some u4 ∧ W.cell? ⟨b, 5, none⟩ = some u5 :=
  ⟨h.cell 0, h.cell 1, h.cell 2, h.cell 3, h.cell 4, h.cell 5⟩

end Go.Proofs.YtmgjkdijnjeljaaGreatDoor

/- Complex fractions: gauss.Print: of any, good or refused. -/
namespace Go.Proofs.YtmgjkdijnjeljaaGreatDoor
open Go.RowKit
set_option linter.unusedVariables false

/-- A fraction's text, or its error alone. -/
def RPr (n : Bool) (xs ys : List Int) (w : World) (x : Ending) (w' : World) : Prop := ∃ S : ByteArray, x = .returned (.tuple #[.string S, .int .i64 (rchk n xs ys)]) ∧ (rchk n xs ys = 0 → S.data.toList = rtext n xs ys) ∧ Below w.heap.size w w'
theorem grPrint_any (n : Bool) (a : Option Addr) (ca : Nat) (xs : List Int) (b : Option Addr) (cb : Nat) (ys : List Int) (w : World) (sx : Sl w (.slice a xs.length ca) xs) (sy : Sl w (.slice b ys.length cb) ys) (htab : Tab w) :
    Calls Tryz.prog 50 #[.agg #[.bool n, .slice a xs.length ca, .slice b ys.length cb]] w (RPr n xs ys w) := by
  by_cases h : rchk n xs ys = 0
  · refine Calls.mono (rPrint_ok n a ca xs b cb ys w sx sy h htab) ?_
    rintro e w' ⟨S, rfl, hS, hb⟩
    exact ⟨S, by rw [h], fun _ => hS, hb⟩
  · refine Calls.mono (rPrint_err n a ca xs b cb ys w sx sy h) ?_
    rintro e w' ⟨rfl, hb⟩
    exact ⟨_, rfl, fun h' => absurd h' h, hb⟩
theorem rtext_short {n : Bool} {xs ys : List Int} (wx : Wd xs) (wy : Wd ys) (h : rchk n xs ys = 0) : (rtext n xs ys).length ≤ 40964 := by
  obtain ⟨lx, ly, _⟩ := rchk_ok h
  have hd1 := dec_short wx lx
  have hd2 := dec_short wy ly
  have h1 : (wtext n xs).length ≤ 20482 := by
    unfold wtext
    rw [List.length_append]
    have : (if n then [45] else [] : List UInt8).length ≤ 1 := by cases n <;> simp
    omega
  unfold rtext
  by_cases h2 : ys = [1]
  · rw [if_pos h2]; omega
  · rw [if_neg h2, List.length_append, List.length_cons]; omega
/-- The text of a complex fraction. -/
def gtext (n : Bool) (xs ys : List Int) (m : Bool) (us vs : List Int) : List UInt8 := rtext n xs ys ++ 32 :: rtext m us vs
/-- Print's error. -/
def gpErr (n : Bool) (xs ys : List Int) (m : Bool) (us vs : List Int) : Int := fstE (gchk n xs ys m us vs) (if 65536 < (gtext n xs ys m us vs).length then 3 else 0)

set_option maxHeartbeats 3200000 in
set_option maxRecDepth 100000 in
theorem gPrint_any (n : Bool) (a : Option Addr) (ca : Nat) (xs : List Int) (b : Option Addr) (cb : Nat) (ys : List Int) (m : Bool) (c : Option Addr) (cc : Nat) (us : List Int) (d : Option Addr) (cd : Nat) (vs : List Int) (w : World) (sx : Sl w (.slice a xs.length ca) xs) (sy : Sl w (.slice b ys.length cb) ys) (su : Sl w (.slice c us.length cc) us) (sv : Sl w (.slice d vs.length cd) vs) (htab : Tab w) :
    Calls Tryz.prog 30 #[.agg #[.bool n, .slice a xs.length ca, .slice b ys.length cb, .bool m, .slice c us.length cc, .slice d vs.length cd]] w fun x w' => ∃ S : ByteArray, x = .returned (.tuple #[.string S, .int .i64 (gpErr n xs ys m us vs)]) ∧ (gpErr n xs ys m us vs = 0 → S.data.toList = gtext n xs ys m us vs) ∧ (gpErr n xs ys m us vs ≠ 0 → S = ⟨#[]⟩) ∧ Below w.heap.size w w' := by
  have HX := hid (Box.made w 29 #[.bool n, .slice a xs.length ca, .slice b ys.length cb, .bool m, .slice c us.length cc, .slice d vs.length cd])
  have HB := hid (alloc_later w (.cells #[.bool n, .slice a xs.length ca, .slice b ys.length cb, .bool m, .slice c us.length cc, .slice d vs.length cd] 29))
  have H1 := hid (grPrint_any n a ca xs b cb ys (w.alloc (.cells #[.bool n, .slice a xs.length ca, .slice b ys.length cb, .bool m, .slice c us.length cc, .slice d vs.length cd] 29)) (sx.later HB.out) (sy.later HB.out) (htab.later HB.out))
  have H2 : Hid (∀ V, Below w.heap.size w V → Calls Tryz.prog 50 #[.agg #[.bool m, .slice c us.length cc, .slice d vs.length cd]] V (RPr m us vs V)) := fun V hv => grPrint_any m c cc us d cd vs V (su.later hv) (sv.later hv) (htab.later hv)
  have HG : Hid (∀ e, gchk n xs ys m us vs = e → e ≠ 0 → gpErr n xs ys m us vs = e) := fun e h he => by unfold gpErr; rw [h]; exact fstE_err _ he
  have HG0 : Hid (gchk n xs ys m us vs = 0 → gpErr n xs ys m us vs = if 65536 < (gtext n xs ys m us vs).length then 3 else 0) := fun h => by unfold gpErr; rw [h]; exact fstE_zero _
  have HK1 : Hid (rchk n xs ys ≠ 0 → gchk n xs ys m us vs = rchk n xs ys) := fun h => fstE_err _ h
  have HK2 : Hid (rchk n xs ys = 0 → gchk n xs ys m us vs = rchk m us vs) := fun h => by unfold gchk; rw [h]; exact fstE_zero _
  have HS1 : Hid (rchk n xs ys = 0 → (rtext n xs ys).length ≤ 40964) := fun h => rtext_short sx.wd sy.wd h
  have HS2 : Hid (rchk m us vs = 0 → (rtext m us vs).length ≤ 40964) := fun h => rtext_short su.wd sv.wd h
  have HGT : Hid (gtext n xs ys m us vs = rtext n xs ys ++ 32 :: rtext m us vs) := rfl
  generalize gtext n xs ys m us vs = GT at *
  generalize gpErr n xs ys m us vs = GE at *
  generalize gchk n xs ys m us vs = GC at *
  clear sx sy su sv htab
  obtain ⟨X, hX⟩ : ∃ X, w.alloc (.cells #[.bool n, .slice a xs.length ca, .slice b ys.length cb, .bool m, .slice c us.length cc, .slice d vs.length cd] 29) = X := ⟨_, rfl⟩
  rw [hX] at HX HB H1
  have k0 : X.cell? ⟨w.heap.size, 0, none⟩ = some (.bool n) := HX.out.cell 0
  have k1 : X.cell? ⟨w.heap.size, 1, none⟩ = some (.slice a xs.length ca) := HX.out.cell 1
  have k2 : X.cell? ⟨w.heap.size, 2, none⟩ = some (.slice b ys.length cb) := HX.out.cell 2
  have k3 : X.cell? ⟨w.heap.size, 3, none⟩ = some (.bool m) := HX.out.cell 3
  have k4 : X.cell? ⟨w.heap.size, 4, none⟩ = some (.slice c us.length cc) := HX.out.cell 4
  have k5 : X.cell? ⟨w.heap.size, 5, none⟩ = some (.slice d vs.length cd) := HX.out.cell 5
  have HE1 : Hid (∃ e1, rchk n xs ys = e1) := ⟨_, rfl⟩
  go_enter Tryz.func30, Tryz.ntmps30
  go_wp2_with fail
  refine Calls.mono H1.out ?_
  rintro x w1 ⟨S, rfl, hS, hb1⟩
  have HW1 := hid (bt HB.out hb1)
  have HA1 := hid (HX.out.later hb1 HX.out.lt)
  have HSS := hid hS
  clear hS hb1 H1 k0 k1 k2 k3 k4 k5
  have k0 : w1.cell? ⟨w.heap.size, 0, none⟩ = some (.bool n) := HA1.out.cell 0
  have k1 : w1.cell? ⟨w.heap.size, 1, none⟩ = some (.slice a xs.length ca) := HA1.out.cell 1
  have k2 : w1.cell? ⟨w.heap.size, 2, none⟩ = some (.slice b ys.length cb) := HA1.out.cell 2
  have k3 : w1.cell? ⟨w.heap.size, 3, none⟩ = some (.bool m) := HA1.out.cell 3
  have k4 : w1.cell? ⟨w.heap.size, 4, none⟩ = some (.slice c us.length cc) := HA1.out.cell 4
  have k5 : w1.cell? ⟨w.heap.size, 5, none⟩ = some (.slice d vs.length cd) := HA1.out.cell 5
  by_cases h1 : rchk n xs ys = 0
  · have HZ1 := hid h1
    have hSl : S.size ≤ 40964 := by
      have e1 : S.data.toList.length = S.size := Array.length_toList
      rw [← e1, HSS.out h1]
      exact HS1.out h1
    rw [h1]
    clear h1
    have H3 := hid (H2.out w1 HW1.out)
    go_wp2_with fail
    refine Calls.mono H3.out ?_
    rintro x w2 ⟨U, rfl, hU, hb2⟩
    have HW2 := hid (bt HW1.out hb2)
    have HUU := hid hU
    clear hU hb2 H3 H2 k0 k1 k2 k3 k4 k5
    by_cases h2 : rchk m us vs = 0
    · have hUl : U.size ≤ 40964 := by
        have e1 : U.data.toList.length = U.size := Array.length_toList
        rw [← e1, HUU.out h2]
        exact HS2.out h2
      have HGC := hid ((HK2.out HZ1.out).trans h2)
      have HLL : Hid (GT.length = S.size + 1 + U.size) := by
        show _ = _
        rw [HGT.out, ← HSS.out HZ1.out, ← HUU.out h2, List.length_append, List.length_cons, Array.length_toList, Array.length_toList]
        show S.size + (U.size + 1) = _
        omega
      have HTX : Hid (GT = S.data.toList ++ 32 :: U.data.toList) := by
        show _ = _
        rw [HGT.out, ← HSS.out HZ1.out, ← HUU.out h2]
      rw [h2]
      clear h2
      have hg1 : ¬ (9223372036854775807 : Int) < (S.size : Int) + 1 := by omega
      have hg2 : ¬ (9223372036854775807 : Int) < (S.size : Int) + 1 + (U.size : Int) := by omega
      have hw1 : IntKind.i64.wrap ((S.size : Int) + 1) = (S.size : Int) + 1 := by rw [IntKind.wrap_i64]; omega
      have hw2 : IntKind.i64.wrap ((S.size : Int) + 1 + (U.size : Int)) = (S.size : Int) + 1 + (U.size : Int) := by rw [IntKind.wrap_i64]; omega
      by_cases hl : (65536 : Int) < (S.size : Int) + 1 + (U.size : Int)
      · have HGE : Hid (GE = 3) := by show _ = _; rw [HG0.out HGC.out, if_pos (by have := HLL.out; omega)]
        have hlb : decide ((65536 : Int) < (S.size : Int) + 1 + (U.size : Int)) = true := decide_eq_true hl
        clear hl hSl hUl hg1 hg2
        go_wp2_with fail
        go_ret2
        rw [HGE.out]
        exact ⟨_, rfl, fun h => absurd h (by decide), fun _ => rfl, HW2.out⟩
      · have HGE : Hid (GE = 0) := by show _ = _; rw [HG0.out HGC.out, if_neg (by have := HLL.out; omega)]
        have hlb : decide ((65536 : Int) < (S.size : Int) + 1 + (U.size : Int)) = false := decide_eq_false hl
        clear hl hSl hUl
        go_wp2_with fail
        go_ret2
        rw [HGE.out]
        refine ⟨_, rfl, fun _ => ?_, fun h => absurd rfl h, HW2.out⟩
        rw [HTX.out]
        simp
    · have HGE := hid (HG.out _ (HK2.out HZ1.out) h2)
      have h2' : (rchk m us vs == 0) = false := by simp [h2]
      have h2n : (rchk m us vs != 0) = true := by simp [h2]
      go_wp2_with fail
      go_ret2
      rw [HGE.out]
      exact ⟨_, rfl, fun h => absurd h h2, fun _ => rfl, HW2.out⟩
  · have HGE := hid (HG.out _ (HK1.out h1) h1)
    have h1' : (rchk n xs ys == 0) = false := by simp [h1]
    have h1n : (rchk n xs ys != 0) = true := by simp [h1]
    clear H2
    go_wp2_with fail
    go_ret2
    rw [HGE.out]
    exact ⟨_, rfl, fun h => absurd h h1, fun _ => rfl, HW1.out⟩
end Go.Proofs.YtmgjkdijnjeljaaGreatDoor

/- Fractions: ratio.Make, ratio.Small. -/
namespace Go.Proofs.YtmgjkdijnjeljaaGreatDoor
open Go.RowKit
set_option linter.unusedVariables false

set_option maxHeartbeats 3200000 in
set_option maxRecDepth 100000 in
theorem rmake_e1 (n : Bool) (a : Option Addr) (ca : Nat) (xs : List Int) (m : Bool) (b : Option Addr) (cb : Nat) (ys : List Int) (w : World) (h : Sl w (.slice a xs.length ca) xs) (g : Sl w (.slice b ys.length cb) ys) (lx : xs.length ≤ 281474976710656) (ly : ys.length ≤ 281474976710656) (hx : wchk n xs ≠ 0) (q : Rat) :
    Calls Tryz.prog 27 #[.agg #[.bool n, .slice a xs.length ca], .agg #[.bool m, .slice b ys.length cb]] w (RToldA w (wchk n xs) q) := by
  have HB : Hid (Below w.heap.size w (((w.alloc (.cells #[.bool n, .slice a xs.length ca] 62)).alloc (.cells #[.bool m, .slice b ys.length cb] 62)).alloc (.cells #[.bool false, .slice none 0 0, .slice none 0 0] 27))) := bt (bt (alloc_later _ _) (alloc_later _ _)) (alloc_later _ _)
  have HZ : Hid (Box (((w.alloc (.cells #[.bool n, .slice a xs.length ca] 62)).alloc (.cells #[.bool m, .slice b ys.length cb] 62)).alloc (.cells #[.bool false, .slice none 0 0, .slice none 0 0] 27)) (w.heap.size + 1 + 1) 27 #[.bool false, .slice none 0 0, .slice none 0 0]) := by
    have e := Box.made ((w.alloc (.cells #[.bool n, .slice a xs.length ca] 62)).alloc (.cells #[.bool m, .slice b ys.length cb] 62)) 27 #[.bool false, .slice none 0 0, .slice none 0 0]
    simp at e
    exact e
  have HN : Hid (Box (((w.alloc (.cells #[.bool n, .slice a xs.length ca] 62)).alloc (.cells #[.bool m, .slice b ys.length cb] 62)).alloc (.cells #[.bool false, .slice none 0 0, .slice none 0 0] 27)) w.heap.size 62 #[.bool n, .slice a xs.length ca]) := Box.later (Box.later (Box.made w _ _) (alloc_later _ _) (by simp)) (alloc_later _ _) (by simp; omega)
  have HM : Hid (Box (((w.alloc (.cells #[.bool n, .slice a xs.length ca] 62)).alloc (.cells #[.bool m, .slice b ys.length cb] 62)).alloc (.cells #[.bool false, .slice none 0 0, .slice none 0 0] 27)) (w.heap.size + 1) 62 #[.bool m, .slice b ys.length cb]) := by
    have e := Box.later (Box.made (w.alloc (.cells #[.bool n, .slice a xs.length ca] 62)) 62 #[.bool m, .slice b ys.length cb]) (alloc_later ((w.alloc (.cells #[.bool n, .slice a xs.length ca] 62)).alloc (.cells #[.bool m, .slice b ys.length cb] 62)) (.cells #[.bool false, .slice none 0 0, .slice none 0 0] 27)) (by simp)
    simp at e
    exact e
  have HS := hid (And.intro (h.later HB.out) (g.later HB.out))
  have HXS : Hid (w.heap.size + 1 + 1 < (((w.alloc (.cells #[.bool n, .slice a xs.length ca] 62)).alloc (.cells #[.bool m, .slice b ys.length cb] 62)).alloc (.cells #[.bool false, .slice none 0 0, .slice none 0 0] 27)).heap.size) := HZ.out.lt
  have HC1 := hid (wcheck_any n _ xs _ HS.out.1 lx)
  obtain ⟨e1, he1⟩ : ∃ e1, wchk n xs = e1 := ⟨_, rfl⟩
  rw [he1] at HC1 hx ⊢
  have hx' : (e1 == 0) = false := beq_eq_false_iff_ne.2 hx
  have HE := hid hx
  clear he1 hx
  clear h g
  go_enter Tryz.func27, Tryz.ntmps27
  go_wp2_with fail
  refine Calls.mono HC1.out ?_
  generalize (((w.alloc (.cells #[.bool n, .slice a xs.length ca] 62)).alloc (.cells #[.bool m, .slice b ys.length cb] 62)).alloc (.cells #[.bool false, .slice none 0 0, .slice none 0 0] 27)) = X at *
  rintro e w1 ⟨rfl, hb1⟩
  have HB1 := hid hb1
  clear hb1 HC1
  obtain ⟨y0, y1, y2, f0, f1, f2⟩ := res_box3 HZ.out HB1.out
  have HBN := hid (below_put3 (bt HB.out HB1.out) (w.heap.size + 1 + 1) (by omega) (.bool false) (.slice none 0 0) (.slice none 0 0))
  clear HN HM HZ HS
  go_wp2_with fail
  refine bodyPost_ret (v := .tuple #[.agg #[.bool false, .slice none 0 0, .slice none 0 0], .int .i64 e1]) (by simp [results, Tryz.results27, go_sem, y0, y1, y2]) rfl ?_
  exact ⟨false, _, [], _, [], _, rfl, World.ownsRow_nil _ _ _ _, World.ownsRow_nil _ _ _ _, RTells.err HE.out, HBN.out, ⟨w.heap.size, Nat.le_refl _, HBN.out.size, fun g hg => by simp [Value.ownBlock] at hg, fun g hg => by simp [Value.ownBlock] at hg⟩⟩

set_option maxHeartbeats 3200000 in
set_option maxRecDepth 100000 in
theorem rmake_e2 (n : Bool) (a : Option Addr) (ca : Nat) (xs : List Int) (m : Bool) (b : Option Addr) (cb : Nat) (ys : List Int) (w : World) (h : Sl w (.slice a xs.length ca) xs) (g : Sl w (.slice b ys.length cb) ys) (lx : xs.length ≤ 281474976710656) (ly : ys.length ≤ 281474976710656) (hx : wchk n xs = 0) (hy : wchk m ys ≠ 0) (q : Rat) :
    Calls Tryz.prog 27 #[.agg #[.bool n, .slice a xs.length ca], .agg #[.bool m, .slice b ys.length cb]] w (RToldA w (wchk m ys) q) := by
  have HB : Hid (Below w.heap.size w (((w.alloc (.cells #[.bool n, .slice a xs.length ca] 62)).alloc (.cells #[.bool m, .slice b ys.length cb] 62)).alloc (.cells #[.bool false, .slice none 0 0, .slice none 0 0] 27))) := bt (bt (alloc_later _ _) (alloc_later _ _)) (alloc_later _ _)
  have HZ : Hid (Box (((w.alloc (.cells #[.bool n, .slice a xs.length ca] 62)).alloc (.cells #[.bool m, .slice b ys.length cb] 62)).alloc (.cells #[.bool false, .slice none 0 0, .slice none 0 0] 27)) (w.heap.size + 1 + 1) 27 #[.bool false, .slice none 0 0, .slice none 0 0]) := by
    have e := Box.made ((w.alloc (.cells #[.bool n, .slice a xs.length ca] 62)).alloc (.cells #[.bool m, .slice b ys.length cb] 62)) 27 #[.bool false, .slice none 0 0, .slice none 0 0]
    simp at e
    exact e
  have HN : Hid (Box (((w.alloc (.cells #[.bool n, .slice a xs.length ca] 62)).alloc (.cells #[.bool m, .slice b ys.length cb] 62)).alloc (.cells #[.bool false, .slice none 0 0, .slice none 0 0] 27)) w.heap.size 62 #[.bool n, .slice a xs.length ca]) := Box.later (Box.later (Box.made w _ _) (alloc_later _ _) (by simp)) (alloc_later _ _) (by simp; omega)
  have HM : Hid (Box (((w.alloc (.cells #[.bool n, .slice a xs.length ca] 62)).alloc (.cells #[.bool m, .slice b ys.length cb] 62)).alloc (.cells #[.bool false, .slice none 0 0, .slice none 0 0] 27)) (w.heap.size + 1) 62 #[.bool m, .slice b ys.length cb]) := by
    have e := Box.later (Box.made (w.alloc (.cells #[.bool n, .slice a xs.length ca] 62)) 62 #[.bool m, .slice b ys.length cb]) (alloc_later ((w.alloc (.cells #[.bool n, .slice a xs.length ca] 62)).alloc (.cells #[.bool m, .slice b ys.length cb] 62)) (.cells #[.bool false, .slice none 0 0, .slice none 0 0] 27)) (by simp)
    simp at e
    exact e
  have HS := hid (And.intro (h.later HB.out) (g.later HB.out))
  have HXS : Hid (w.heap.size + 1 + 1 < (((w.alloc (.cells #[.bool n, .slice a xs.length ca] 62)).alloc (.cells #[.bool m, .slice b ys.length cb] 62)).alloc (.cells #[.bool false, .slice none 0 0, .slice none 0 0] 27)).heap.size) := HZ.out.lt
  have HC1 := hid (wcheck_any n _ xs _ HS.out.1 lx)
  rw [hx] at HC1
  obtain ⟨e1, he1⟩ : ∃ e1, wchk m ys = e1 := ⟨_, rfl⟩
  have HC2 := hid (fun ww (hb : Below _ (((w.alloc (.cells #[.bool n, .slice a xs.length ca] 62)).alloc (.cells #[.bool m, .slice b ys.length cb] 62)).alloc (.cells #[.bool false, .slice none 0 0, .slice none 0 0] 27)) ww) => wcheck_any m _ ys ww (HS.out.2.later hb) ly)
  rw [he1] at HC2 hy ⊢
  have hy' : (e1 == 0) = false := beq_eq_false_iff_ne.2 hy
  have HE := hid hy
  clear he1 hy hx
  clear h g
  go_enter Tryz.func27, Tryz.ntmps27
  go_wp2_with fail
  refine Calls.mono HC1.out ?_
  generalize (((w.alloc (.cells #[.bool n, .slice a xs.length ca] 62)).alloc (.cells #[.bool m, .slice b ys.length cb] 62)).alloc (.cells #[.bool false, .slice none 0 0, .slice none 0 0] 27)) = X at *
  rintro e w1 ⟨rfl, hb1⟩
  have HB1 := hid hb1
  clear hb1 HC1
  have HC := hid (HC2.out w1 HB1.out)
  obtain ⟨q0, q1, _, _⟩ := (HM.out.later HB1.out HM.out.lt).c2
  clear HC2
  go_wp2_with fail
  refine Calls.mono HC.out ?_
  rintro e w2 ⟨rfl, hb2⟩
  have HB2 := hid (bt HB1.out hb2)
  clear hb2 HC q0 q1
  obtain ⟨y0, y1, y2, f0, f1, f2⟩ := res_box3 HZ.out HB2.out
  have HBN := hid (below_put3 (bt HB.out HB2.out) (w.heap.size + 1 + 1) (by omega) (.bool false) (.slice none 0 0) (.slice none 0 0))
  clear HN HM HZ HS
  go_wp2_with fail
  refine bodyPost_ret (v := .tuple #[.agg #[.bool false, .slice none 0 0, .slice none 0 0], .int .i64 e1]) (by simp [results, Tryz.results27, go_sem, y0, y1, y2]) rfl ?_
  exact ⟨false, _, [], _, [], _, rfl, World.ownsRow_nil _ _ _ _, World.ownsRow_nil _ _ _ _, RTells.err HE.out, HBN.out, ⟨w.heap.size, Nat.le_refl _, HBN.out.size, fun g hg => by simp [Value.ownBlock] at hg, fun g hg => by simp [Value.ownBlock] at hg⟩⟩

set_option maxHeartbeats 3200000 in
set_option maxRecDepth 100000 in
theorem rmake_z (n : Bool) (a : Option Addr) (ca : Nat) (xs : List Int) (m : Bool) (b : Option Addr) (cb : Nat) (ys : List Int) (w : World) (h : Sl w (.slice a xs.length ca) xs) (g : Sl w (.slice b ys.length cb) ys) (lx : xs.length ≤ 281474976710656) (ly : ys.length ≤ 281474976710656) (hx : wchk n xs = 0) (hy : wchk m ys = 0) (h0 : ys.length = 0) (q : Rat) :
    Calls Tryz.prog 27 #[.agg #[.bool n, .slice a xs.length ca], .agg #[.bool m, .slice b ys.length cb]] w (RToldA w 7 q) := by
  have HB : Hid (Below w.heap.size w (((w.alloc (.cells #[.bool n, .slice a xs.length ca] 62)).alloc (.cells #[.bool m, .slice b ys.length cb] 62)).alloc (.cells #[.bool false, .slice none 0 0, .slice none 0 0] 27))) := bt (bt (alloc_later _ _) (alloc_later _ _)) (alloc_later _ _)
  have HZ : Hid (Box (((w.alloc (.cells #[.bool n, .slice a xs.length ca] 62)).alloc (.cells #[.bool m, .slice b ys.length cb] 62)).alloc (.cells #[.bool false, .slice none 0 0, .slice none 0 0] 27)) (w.heap.size + 1 + 1) 27 #[.bool false, .slice none 0 0, .slice none 0 0]) := by
    have e := Box.made ((w.alloc (.cells #[.bool n, .slice a xs.length ca] 62)).alloc (.cells #[.bool m, .slice b ys.length cb] 62)) 27 #[.bool false, .slice none 0 0, .slice none 0 0]
    simp at e
    exact e
  have HN : Hid (Box (((w.alloc (.cells #[.bool n, .slice a xs.length ca] 62)).alloc (.cells #[.bool m, .slice b ys.length cb] 62)).alloc (.cells #[.bool false, .slice none 0 0, .slice none 0 0] 27)) w.heap.size 62 #[.bool n, .slice a xs.length ca]) := Box.later (Box.later (Box.made w _ _) (alloc_later _ _) (by simp)) (alloc_later _ _) (by simp; omega)
  have HM : Hid (Box (((w.alloc (.cells #[.bool n, .slice a xs.length ca] 62)).alloc (.cells #[.bool m, .slice b ys.length cb] 62)).alloc (.cells #[.bool false, .slice none 0 0, .slice none 0 0] 27)) (w.heap.size + 1) 62 #[.bool m, .slice b ys.length cb]) := by
    have e := Box.later (Box.made (w.alloc (.cells #[.bool n, .slice a xs.length ca] 62)) 62 #[.bool m, .slice b ys.length cb]) (alloc_later ((w.alloc (.cells #[.bool n, .slice a xs.length ca] 62)).alloc (.cells #[.bool m, .slice b ys.length cb] 62)) (.cells #[.bool false, .slice none 0 0, .slice none 0 0] 27)) (by simp)
    simp at e
    exact e
  have HS := hid (And.intro (h.later HB.out) (g.later HB.out))
  have HXS : Hid (w.heap.size + 1 + 1 < (((w.alloc (.cells #[.bool n, .slice a xs.length ca] 62)).alloc (.cells #[.bool m, .slice b ys.length cb] 62)).alloc (.cells #[.bool false, .slice none 0 0, .slice none 0 0] 27)).heap.size) := HZ.out.lt
  have HC1 := hid (wcheck_any n _ xs _ HS.out.1 lx)
  rw [hx] at HC1
  have HC2 := hid (fun ww (hb : Below _ (((w.alloc (.cells #[.bool n, .slice a xs.length ca] 62)).alloc (.cells #[.bool m, .slice b ys.length cb] 62)).alloc (.cells #[.bool false, .slice none 0 0, .slice none 0 0] 27)) ww) => wcheck_any m _ ys ww (HS.out.2.later hb) ly)
  rw [hy] at HC2
  have h0' : ((ys.length : Int) == 0) = true := by rw [h0]; rfl
  have HE : Hid ((7 : Int) ≠ 0) := by show _ ≠ _; omega
  clear hx hy h0
  clear h g
  go_enter Tryz.func27, Tryz.ntmps27
  go_wp2_with fail
  refine Calls.mono HC1.out ?_
  generalize (((w.alloc (.cells #[.bool n, .slice a xs.length ca] 62)).alloc (.cells #[.bool m, .slice b ys.length cb] 62)).alloc (.cells #[.bool false, .slice none 0 0, .slice none 0 0] 27)) = X at *
  rintro e w1 ⟨rfl, hb1⟩
  have HB1 := hid hb1
  clear hb1 HC1
  have HC := hid (HC2.out w1 HB1.out)
  obtain ⟨q0, q1, _, _⟩ := (HM.out.later HB1.out HM.out.lt).c2
  clear HC2
  go_wp2_with fail
  refine Calls.mono HC.out ?_
  rintro e w2 ⟨rfl, hb2⟩
  have HB2 := hid (bt HB1.out hb2)
  clear hb2 HC q0 q1
  obtain ⟨q0, q1, _, _⟩ := (HM.out.later HB2.out HM.out.lt).c2
  obtain ⟨y0, y1, y2, f0, f1, f2⟩ := res_box3 HZ.out HB2.out
  have HBN := hid (below_put3 (bt HB.out HB2.out) (w.heap.size + 1 + 1) (by omega) (.bool false) (.slice none 0 0) (.slice none 0 0))
  clear HN HM HZ HS
  go_wp2_with fail
  refine bodyPost_ret (v := .tuple #[.agg #[.bool false, .slice none 0 0, .slice none 0 0], .int .i64 7]) (by simp [results, Tryz.results27, go_sem, y0, y1, y2]) rfl ?_
  exact ⟨false, _, [], _, [], _, rfl, World.ownsRow_nil _ _ _ _, World.ownsRow_nil _ _ _ _, RTells.err HE.out, HBN.out, ⟨w.heap.size, Nat.le_refl _, HBN.out.size, fun g hg => by simp [Value.ownBlock] at hg, fun g hg => by simp [Value.ownBlock] at hg⟩⟩

set_option maxHeartbeats 6400000 in
set_option maxRecDepth 100000 in
theorem rmake_ok (n : Bool) (a : Option Addr) (ca : Nat) (xs : List Int) (m : Bool) (b : Option Addr) (cb : Nat) (ys : List Int) (w : World) (h : Sl w (.slice a xs.length ca) xs) (g : Sl w (.slice b ys.length cb) ys) (lx : xs.length ≤ 281474976710656) (ly : ys.length ≤ 281474976710656) (hx : wchk n xs = 0) (hy : wchk m ys = 0) (h0 : 0 < ys.length) :
    Calls Tryz.prog 27 #[.agg #[.bool n, .slice a xs.length ca], .agg #[.bool m, .slice b ys.length cb]] w (RToldA w 0 (Rat.divInt (wval n xs) (wval m ys))) := by
  obtain ⟨kx, tx, _⟩ := wchk_ok hx
  obtain ⟨ky, ty, _⟩ := wchk_ok hy
  have wx := h.wd
  have wy := g.wd
  have HB : Hid (Below w.heap.size w (((w.alloc (.cells #[.bool n, .slice a xs.length ca] 62)).alloc (.cells #[.bool m, .slice b ys.length cb] 62)).alloc (.cells #[.bool false, .slice none 0 0, .slice none 0 0] 27))) := bt (bt (alloc_later _ _) (alloc_later _ _)) (alloc_later _ _)
  have HZ : Hid (Box (((w.alloc (.cells #[.bool n, .slice a xs.length ca] 62)).alloc (.cells #[.bool m, .slice b ys.length cb] 62)).alloc (.cells #[.bool false, .slice none 0 0, .slice none 0 0] 27)) (w.heap.size + 1 + 1) 27 #[.bool false, .slice none 0 0, .slice none 0 0]) := by
    have e := Box.made ((w.alloc (.cells #[.bool n, .slice a xs.length ca] 62)).alloc (.cells #[.bool m, .slice b ys.length cb] 62)) 27 #[.bool false, .slice none 0 0, .slice none 0 0]
    simp at e
    exact e
  have HN : Hid (Box (((w.alloc (.cells #[.bool n, .slice a xs.length ca] 62)).alloc (.cells #[.bool m, .slice b ys.length cb] 62)).alloc (.cells #[.bool false, .slice none 0 0, .slice none 0 0] 27)) w.heap.size 62 #[.bool n, .slice a xs.length ca]) := Box.later (Box.later (Box.made w _ _) (alloc_later _ _) (by simp)) (alloc_later _ _) (by simp; omega)
  have HM : Hid (Box (((w.alloc (.cells #[.bool n, .slice a xs.length ca] 62)).alloc (.cells #[.bool m, .slice b ys.length cb] 62)).alloc (.cells #[.bool false, .slice none 0 0, .slice none 0 0] 27)) (w.heap.size + 1) 62 #[.bool m, .slice b ys.length cb]) := by
    have e := Box.later (Box.made (w.alloc (.cells #[.bool n, .slice a xs.length ca] 62)) 62 #[.bool m, .slice b ys.length cb]) (alloc_later ((w.alloc (.cells #[.bool n, .slice a xs.length ca] 62)).alloc (.cells #[.bool m, .slice b ys.length cb] 62)) (.cells #[.bool false, .slice none 0 0, .slice none 0 0] 27)) (by simp)
    simp at e
    exact e
  have HS := hid (And.intro (h.later HB.out) (g.later HB.out))
  have HXS : Hid (w.heap.size + 1 + 1 < (((w.alloc (.cells #[.bool n, .slice a xs.length ca] 62)).alloc (.cells #[.bool m, .slice b ys.length cb] 62)).alloc (.cells #[.bool false, .slice none 0 0, .slice none 0 0] 27)).heap.size) := HZ.out.lt
  have HC1 := hid (wcheck_any n _ xs _ HS.out.1 lx)
  rw [hx] at HC1
  have HC2 := hid (fun ww (hb : Below _ (((w.alloc (.cells #[.bool n, .slice a xs.length ca] 62)).alloc (.cells #[.bool m, .slice b ys.length cb] 62)).alloc (.cells #[.bool false, .slice none 0 0, .slice none 0 0] 27)) ww) => wcheck_any m _ ys ww (HS.out.2.later hb) ly)
  rw [hy] at HC2
  have h0' : ((ys.length : Int) == 0) = false := beq_eq_false_iff_ne.2 (by omega)
  have HPY : Hid (0 < val ys) := by have := val_pos' wy ty h0; show _ < _; omega
  have HG : Hid (0 < gcdI (val xs) (val ys) ∧ gcdI (val xs) (val ys) ≤ val ys ∧ val ys < 4294967296 ^ 2048) := ⟨gcd_pos_right HPY.out, gcd_le_right HPY.out, below2048 wy ky⟩
  have HMP := hid (make_parts (n := n) (m := m) (val_nonneg wx) HPY.out)
  have HTT := hid (And.intro tx ty)
  obtain ⟨s, hs⟩ : ∃ s, (!(n == m)) = s := ⟨_, rfl⟩
  have HSG := hid (show (n != m) = s from hs)
  clear h g hx hy h0 tx ty
  go_enter Tryz.func27, Tryz.ntmps27
  go_wp2_with fail
  refine Calls.mono HC1.out ?_
  generalize (((w.alloc (.cells #[.bool n, .slice a xs.length ca] 62)).alloc (.cells #[.bool m, .slice b ys.length cb] 62)).alloc (.cells #[.bool false, .slice none 0 0, .slice none 0 0] 27)) = X at *
  rintro e w1 ⟨rfl, hb1⟩
  have HB1 := hid hb1
  clear hb1 HC1
  have HC := hid (HC2.out w1 HB1.out)
  obtain ⟨q0, q1, _, _⟩ := (HM.out.later HB1.out HM.out.lt).c2
  clear HC2
  go_wp2_with fail
  refine Calls.mono HC.out ?_
  rintro e w2 ⟨rfl, hb2⟩
  have HB2 := hid (bt HB1.out hb2)
  clear hb2 HC q0 q1
  have HK : Hid (∀ V, Below X.heap.size X V → V.cell? ⟨w.heap.size, 0, none⟩ = some (.bool n) ∧ V.cell? ⟨w.heap.size, 1, none⟩ = some (.slice a xs.length ca) ∧ V.cell? ⟨w.heap.size + 1, 0, none⟩ = some (.bool m) ∧ V.cell? ⟨w.heap.size + 1, 1, none⟩ = some (.slice b ys.length cb)) := fun V hb => by
    obtain ⟨p0, p1, _, _⟩ := (HN.out.later hb HN.out.lt).c2
    obtain ⟨q0, q1, _, _⟩ := (HM.out.later hb HM.out.lt).c2
    exact ⟨p0, p1, q0, q1⟩
  have HCM := hid (told1_at _ HK.out w2 HB2.out (rcommon_any _ _ xs ys w2 (HS.out.1.later HB2.out) (HS.out.2.later HB2.out) (by omega) (by omega) HTT.out.1 HTT.out.2))
  obtain ⟨p0, p1, q0, q1⟩ := HK.out w2 HB2.out
  go_wp2_with fail
  refine Calls.mono HCM.out ?_
  rintro e w3 ⟨a3, z3, c3, rfl, HE3, _, hb3, HS3⟩
  have hb3d := hb3.drew
  have HO3 := hid (HE3.out.later (Below.drew (Below.refl _ w3)))
  clear HCM HE3 HS3 p0 p1 q0 q1
  have hs0 := HK.out _ hb3d
  have HQX := hid (fun ww (hv' : Below X.heap.size X ww) (h : One X ww (.slice a3 z3.length c3) z3 (gcdI (val xs) (val ys))) => quot_in _ HK.out hv' (HS.out.1.later hv') (by omega) HTT.out.1 h HG.out.1 (by have := HG.out; omega))
  have HQY := hid (fun ww (hv' : Below X.heap.size X ww) (h : One X ww (.slice a3 z3.length c3) z3 (gcdI (val xs) (val ys))) => quot_in _ HK.out hv' (HS.out.2.later hv') (by omega) HTT.out.2 h HG.out.1 (by have := HG.out; omega))
  have HTL := hid (fun (ww : World) (hb : Below X.heap.size X ww) (a4 : Option Addr) (z4 : List Int) (c4 : Nat) (a5 : Option Addr) (z5 : List Int) (c5 : Nat) (g1 : One X ww (.slice a4 z4.length c4) z4 (val xs / gcdI (val xs) (val ys))) (g2 : One X ww (.slice a5 z5.length c5) z5 (val ys / gcdI (val xs) (val ys))) (hc : Cut X (.slice a4 z4.length c4) (.slice a5 z5.length c5) ww) => rtold_cut (n := s) (q := Rat.divInt (wval n xs) (wval m ys)) _ HK.out hb g1 g2 hc HMP.out.1 HMP.out.2.1 (by rw [← HSG.out]; exact HMP.out.2.2))
  have hq0 : w.heap.size + 1 + 1 ≠ w.heap.size := by omega
  have hq1 : w.heap.size + 1 + 1 ≠ w.heap.size + 1 := by omega
  clear HTT HG HPY
  go_wp2_with fail
  go_region_held3 (fun V : World => V.cell? ⟨w.heap.size, 0, none⟩ = some (.bool n) ∧ V.cell? ⟨w.heap.size, 1, none⟩ = some (.slice a xs.length ca) ∧ V.cell? ⟨w.heap.size + 1, 0, none⟩ = some (.bool m) ∧ V.cell? ⟨w.heap.size + 1, 1, none⟩ = some (.slice b ys.length cb)) (first | exact hs9 | exact hs5 | exact hs4 | exact hs0 | (simp [hs9, World.cell?_setCell_far, hq0]))
    (first
      | (go_at_call 46; with_reducible refine Calls.mono (HTL.out _ hb5 _ _ _ _ _ _ (HE4.out.1.later HS5.out) HE5.out.1 (cut_two hb3d.size HS4.out.size HS5.out.size HE4.out.2 HE5.out.2)) ?_; rintro e w9 ⟨k9, a8, z8, c8, a9, z9, c9, code, rfl, HE9, hs9, hb9⟩; obtain ⟨y0, y1, y2, f0, f1, f2⟩ := res_box3 HZ.out hb9)
      | (go_at_call 47; with_reducible refine Calls.mono (HQY.out _ hb4 (HO3.out.later HS4.out)) ?_; rintro e w5 ⟨a5, z5, c5, rfl, HE5, hs5, hb5, HS5⟩)
      | (go_at_call 47; with_reducible refine Calls.mono (HQX.out _ hb3d HO3.out) ?_; rintro e w4 ⟨a4, z4, c4, rfl, HE4, hs4, hb4, HS4⟩))
  all_goals
    have HBW := hid (bt HB.out hb9)
    have HR := hid HE9.out
    clear HK HQX HQY HTL HE4 HE5 HE9 HS4 HS5 HO3 hs0 hs4 hs5 hs9 hb3 hb3d hb4 hb5 hb9 HMP HSG
    go_wp2_with fail
    refine bodyPost_ret (v := .tuple #[.agg #[.bool k9, .slice a8 z8.length c8, .slice a9 z9.length c9], .int .i64 code]) (by simp [results, Tryz.results27, go_sem, y0, y1, y2]) rfl ?_
    exact RToldA.put HR.out (w.heap.size + 1 + 1) HXS.out (by omega) HBW.out _ _ _

theorem rmake_any (n : Bool) (a : Option Addr) (ca : Nat) (xs : List Int) (m : Bool) (b : Option Addr) (cb : Nat) (ys : List Int) (w : World) (h : Sl w (.slice a xs.length ca) xs) (g : Sl w (.slice b ys.length cb) ys) (lx : xs.length ≤ 281474976710656) (ly : ys.length ≤ 281474976710656) :
    Calls Tryz.prog 27 #[.agg #[.bool n, .slice a xs.length ca], .agg #[.bool m, .slice b ys.length cb]] w (RToldA w (mkErr n xs m ys) (Rat.divInt (wval n xs) (wval m ys))) := by
  unfold mkErr
  by_cases hb : wboth n xs m ys = 0
  · obtain ⟨hx, hy⟩ := wboth_ok hb
    rw [if_pos hb]
    by_cases h0 : ys.length = 0
    · rw [if_pos h0]
      exact rmake_z n a ca xs m b cb ys w h g lx ly hx hy h0 _
    · rw [if_neg h0]
      exact rmake_ok n a ca xs m b cb ys w h g lx ly hx hy (by omega)
  · rw [if_neg hb]
    unfold wboth at hb ⊢
    by_cases hx : wchk n xs = 0
    · rw [if_pos hx] at hb ⊢
      exact rmake_e2 n a ca xs m b cb ys w h g lx ly hx hb _
    · rw [if_neg hx]
      exact rmake_e1 n a ca xs m b cb ys w h g lx ly hx _
end Go.Proofs.YtmgjkdijnjeljaaGreatDoor

/- Fractions: ratio.Small. -/
namespace Go.Proofs.YtmgjkdijnjeljaaGreatDoor
open Go.RowKit
set_option linter.unusedVariables false

theorem small_err {n m : Bool} {zs us : List Int} {y : Int} (l1 : zs.length ≤ 2) (t1 : Trimmed zs) (s1 : n = false ∨ 0 < zs.length) (w2 : Wd us) (l2 : us.length ≤ 2) (t2 : Trimmed us) (s2 : m = false ∨ 0 < us.length) (v2 : wval m us = y) : mkErr n zs m us = if y = 0 then 7 else 0 := by
  unfold mkErr
  rw [wboth_good (wchk_good (by omega) t1 s1) (wchk_good (by omega) t2 s2), if_pos rfl]
  by_cases c : us.length = 0
  · have e0 : val us = 0 := trimmed_zero' c
    have : y = 0 := by rw [← v2]; cases m <;> simp [wval, e0]
    rw [if_pos c, if_pos this]
  · have e0 := val_pos' w2 t2 (by omega)
    have : ¬ y = 0 := by rw [← v2]; cases m <;> simp [wval] <;> omega
    rw [if_neg c, if_neg this]

set_option maxHeartbeats 1600000 in
set_option maxRecDepth 100000 in
theorem rsmall_any (x y : Int) (w : World) (x0 : -9223372036854775808 ≤ x) (x1 : x ≤ 9223372036854775807) (y0 : -9223372036854775808 ≤ y) (y1 : y ≤ 9223372036854775807) :
    Calls Tryz.prog 12 #[.int .i64 x, .int .i64 y] w (RToldA w (if y = 0 then 7 else 0) (Rat.divInt x y)) := by
  have HB : Hid (Below w.heap.size w (w.alloc (.cells #[.bool false, .slice none 0 0, .slice none 0 0] 27))) := alloc_later _ _
  have HZ : Hid (Box (w.alloc (.cells #[.bool false, .slice none 0 0, .slice none 0 0] 27)) w.heap.size 27 #[.bool false, .slice none 0 0, .slice none 0 0]) := Box.made w _ _
  have HO1 := hid (wof_any x (w.alloc (.cells #[.bool false, .slice none 0 0, .slice none 0 0] 27)) x0 x1)
  obtain ⟨E, hE⟩ : ∃ E : Int, (if y = 0 then (7 : Int) else 0) = E := ⟨_, rfl⟩
  rw [hE]
  have HE := hid hE
  clear hE
  go_enter Tryz.func12, Tryz.ntmps12
  go_wp2_with fail
  refine Calls.mono HO1.out ?_
  generalize (w.alloc (.cells #[.bool false, .slice none 0 0, .slice none 0 0] 27)) = X at *
  rintro e w1 ⟨n1, v1, z1, rfl, o1, wd1, t1, l1, s1, hv1, hb1⟩
  obtain ⟨a1, c1, hs1⟩ := own_slice' o1
  subst hs1
  have HO2 := hid (wof_any y w1 y0 y1)
  have HS1 := hid (Sl.own o1 wd1)
  have HV1 := hid (And.intro t1 (And.intro s1 hv1))
  have HB1 := hid hb1
  clear o1 wd1 t1 s1 hv1 hb1 HO1
  go_wp2_with fail
  refine Calls.mono HO2.out ?_
  rintro e w2 ⟨n2, v2, z2, rfl, o2, wd2, t2, l2, s2, hv2, hb2⟩
  obtain ⟨a2, c2, hs2⟩ := own_slice' o2
  subst hs2
  have HM := hid (rmake_any n1 a1 c1 z1 n2 a2 c2 z2 w2 (HS1.out.later hb2) (Sl.own o2 wd2) (by omega) (by omega))
  rw [small_err l1 HV1.out.1 HV1.out.2.1 wd2 l2 t2 s2 hv2, HE.out, HV1.out.2.2, hv2] at HM
  have HB2 := hid (bt HB1.out hb2)
  clear o2 wd2 t2 s2 hv2 hb2 HO2 HS1 HV1
  go_wp2_with fail
  refine Calls.mono HM.out ?_
  rintro e w3 ⟨k3, v3, z3, u3, r3, code, rfl, o3, o4, t3, hb3, hc3⟩
  obtain ⟨a3, c3, hs3⟩ := own_slice' o3
  subst hs3
  obtain ⟨a4, c4, hs4⟩ := own_slice' o4
  subst hs4
  have HR := hid (And.intro o3 (And.intro o4 (And.intro t3 hc3)))
  obtain ⟨y0', y1', y2', f0, f1, f2⟩ := res_box3 HZ.out (bt HB2.out hb3)
  have HBW := hid (bt HB.out (bt HB2.out hb3))
  have HLT : Hid (w.heap.size < w2.heap.size) := Nat.lt_of_lt_of_le HZ.out.lt HB2.out.size
  clear o3 o4 t3 hb3 hc3 HM
  go_wp2_with fail
  refine bodyPost_ret (v := .tuple #[.agg #[.bool k3, .slice a3 z3.length c3, .slice a4 r3.length c4], .int .i64 code]) (by simp [results, Tryz.results12, go_sem, y0', y1', y2']) rfl ?_
  exact RToldA.put HR.out w.heap.size HLT.out (Nat.le_refl _) HBW.out _ _ _
end Go.Proofs.YtmgjkdijnjeljaaGreatDoor

/- The laws of fractions: small, is, and awake (the document's examples), whatever the world, where the table of powers of ten stands. -/
namespace Go.Proofs.YtmgjkdijnjeljaaGreatDoor
open Go.RowKit Go.Lib
set_option linter.unusedVariables false

/-- A fraction told alone. -/
def RVal (w : World) (e : Int) (q : Rat) (x : Ending) (w' : World) : Prop :=
  ∃ n v xs u ys code, x = .returned (.agg #[.bool n, v, u]) ∧ w'.ownsRow w.heap.size 85 1 v xs.length (xs.map (Value.int .u32)) ∧ w'.ownsRow w.heap.size 85 1 u ys.length (ys.map (Value.int .u32)) ∧ RTells e q n xs ys code ∧ Below w.heap.size w w' ∧ Cut w v u w'
theorem RVal.put {w U w3 : World} {e : Int} {q : Rat} {k : Bool} {v u : Value} {zs ds : List Int} {code : Int} (h : w3.ownsRow U.heap.size 85 1 v zs.length (zs.map (Value.int .u32)) ∧ w3.ownsRow U.heap.size 85 1 u ds.length (ds.map (Value.int .u32)) ∧ RTells e q k zs ds code ∧ Cut U v u w3) (b : Nat) (hb : b < U.heap.size) (hw : w.heap.size ≤ b) (hbw : Below w.heap.size w w3) (x y z : Value) :
    RVal w e q (.returned (.agg #[.bool k, v, u])) (((w3.setCell ⟨b, 0, none⟩ x).setCell ⟨b, 1, none⟩ y).setCell ⟨b, 2, none⟩ z) :=
  ⟨k, v, zs, u, ds, code, rfl, owns_base (own_put3 h.1 b (fun g hg => by have := (World.ownsRow.lt h.1 g hg).1; omega) _ _ _) (by omega), owns_base (own_put3 h.2.1 b (fun g hg => by have := (World.ownsRow.lt h.2.1 g hg).1; omega) _ _ _) (by omega), h.2.2.1, below_put3 hbw b hw _ _ _, h.2.2.2.up (by omega) (by simp)⟩
/-- What a call tells is the fraction that is known. -/
theorem RTells.lit {e : Int} {q : Rat} {n m : Bool} {xs ys us vs : List Int} {c : Int} (h : RTells e q n xs ys c) (he : e = 0) (wu : Wd us) (wv : Wd vs) (hk : rchk m us vs = 0) (hq : rq m us vs = q) : n = m ∧ xs = us ∧ ys = vs ∧ c = 0 := by
  subst he
  have g := RTells.self wu wv hk
  rw [hq] at g
  exact h.same g
theorem lit_wd {x : Int} (h0 : 0 ≤ x) (h1 : x < 4294967296) : Wd [x] := Wd.one ⟨h0, by omega⟩
theorem trim_one {x : Int} (h : x ≠ 0) : Trimmed [x] := by
  unfold Trimmed
  show szTo [x] 1 = 1
  simp [szTo, h]
theorem chk_lit (n : Bool) (x y : Int) (hx : 0 < x ∧ x < 4294967296) (hy : 0 < y ∧ y < 4294967296) (hg : gcdI x y = 1) : rchk n [x] [y] = 0 := by
  have e1 : val [x] = x := by simp [val, valTo]
  have e2 : val [y] = y := by simp [val, valTo]
  exact rchk_good (by simp) (by simp) (trim_one (by omega)) (trim_one (by omega)) (by simp) (.inr (by simp)) (by rw [e1, e2]; exact hg)
theorem wdn (x : Int) (h : 0 ≤ x ∧ x ≤ 4294967295) : Wd [x] := Wd.one h
theorem k32 : rchk true [3] [2] = 0 := chk_lit _ _ _ (by decide) (by decide) (by decide)
theorem k12 : rchk false [1] [2] = 0 := chk_lit _ _ _ (by decide) (by decide) (by decide)
theorem k13 : rchk false [1] [3] = 0 := chk_lit _ _ _ (by decide) (by decide) (by decide)
theorem k14 : rchk true [1] [4] = 0 := chk_lit _ _ _ (by decide) (by decide) (by decide)
theorem k56 : rchk false [5] [6] = 0 := chk_lit _ _ _ (by decide) (by decide) (by decide)
theorem k21 : rchk true [2] [1] = 0 := chk_lit _ _ _ (by decide) (by decide) (by decide)
theorem rq_lit (n : Bool) (x y : Int) : rq n [x] [y] = Rat.divInt (sg n x) y := by
  have e1 : val [x] = x := by simp [val, valTo]
  have e2 : val [y] = y := by simp [val, valTo]
  show Rat.divInt (sg n (val [x])) (val [y]) = _
  rw [e1, e2]
theorem q32 : rq true [3] [2] = Rat.divInt 6 (-4) := by rw [rq_lit]; decide +kernel
theorem q12 : rq false [1] [2] = Rat.divInt 1 2 := by rw [rq_lit]; decide +kernel
theorem q13 : rq false [1] [3] = Rat.divInt 1 3 := by rw [rq_lit]; decide +kernel
theorem q14 : rq true [1] [4] = Rat.divInt (-1) 4 := by rw [rq_lit]; decide +kernel
theorem q56 : rq false [5] [6] = rq false [1] [2] + rq false [1] [3] := by rw [rq_lit, rq_lit, rq_lit]; decide +kernel
theorem q21 : rq true [2] [1] = rq false [1] [2] / rq true [1] [4] := by rw [rq_lit, rq_lit, rq_lit]; decide +kernel
theorem t32 : ([45, 51, 47, 50] : List UInt8) = rtext true [3] [2] := by
  rw [rtext_eq, show val [3] = 3 by simp [val, valTo], show val [2] = 2 by simp [val, valTo], show (3 : Int).toNat = 3 from rfl, show (2 : Int).toNat = 2 from rfl, decDigits_one (by decide), decDigits_one (by decide)]
  decide
theorem t56 : ([53, 47, 54] : List UInt8) = rtext false [5] [6] := by
  rw [rtext_eq, show val [5] = 5 by simp [val, valTo], show val [6] = 6 by simp [val, valTo], show (5 : Int).toNat = 5 from rfl, show (6 : Int).toNat = 6 from rfl, decDigits_one (by decide), decDigits_one (by decide)]
  decide
theorem t21 : ([45, 50] : List UInt8) = rtext true [2] [1] := by
  rw [rtext_eq, show val [2] = 2 by simp [val, valTo], show (2 : Int).toNat = 2 from rfl, decDigits_one (by decide)]
  decide
theorem good32 : prErr ⟨#[45, 51, 47, 50]⟩ = 0 ∧ rpq (⟨#[45, 51, 47, 50]⟩ : ByteArray).data.toList = rq true [3] [2] := by
  have e : (⟨#[45, 51, 47, 50]⟩ : ByteArray).data.toList = rtext true [3] [2] := t32
  have w1 := wdn 3 (by decide)
  have w2 := wdn 2 (by decide)
  have hf : rform true [3] [2] := by
    have k := k32
    unfold rchk at k
    rw [if_neg (by decide)] at k
    by_cases c : rform true [3] [2]
    · exact c
    · rw [if_neg c] at k; exact absurd k (by decide)
  refine ⟨prErr_good (by decide) (by rw [e]; exact rgood_text w1 w2 hf), ?_⟩
  rw [e]
  exact rpq_text true w1 w2
theorem qErr_good {n m : Bool} {xs ys us vs : List Int} (h : rchk n xs ys = 0) (g : rchk m us vs = 0) (h0 : us ≠ []) : qErr n xs ys m us vs = 0 := by
  unfold qErr
  rw [if_pos (rboth_good h g), if_neg (fun e => h0 (List.length_eq_zero_iff.1 e))]

end Go.Proofs.YtmgjkdijnjeljaaGreatDoor

/- What a told fraction says where its code is 0; fractions that are the same; three laws of rational numbers. -/
namespace Go.Proofs.YtmgjkdijnjeljaaGreatDoor
open Go.RowKit Go.Lib
set_option linter.unusedVariables false

theorem RTells.zero {e : Int} {q : Rat} {n : Bool} {xs ys : List Int} {c : Int} (h : RTells e q n xs ys c) (hc : c = 0) : e = 0 ∧ rchk n xs ys = 0 ∧ rq n xs ys = q := by
  by_cases he : e = 0
  · by_cases hl : rlong q
    · have := (h.long he hl).2.2.2; omega
    · exact ⟨he, (h.good he hl).2⟩
  · have := (h.bad he).2.2.2; omega
theorem rq_inj {n m : Bool} {xs ys us vs : List Int} (wx : Wd xs) (wy : Wd ys) (wu : Wd us) (wv : Wd vs) (h : rchk n xs ys = 0) (g : rchk m us vs = 0) (e : rq n xs ys = rq m us vs) : n = m ∧ xs = us ∧ ys = vs := by
  have a := RTells.self wx wy h
  rw [e] at a
  obtain ⟨b1, b2, b3, _⟩ := a.same (RTells.self wu wv g)
  exact ⟨b1, b2, b3⟩
theorem orz {b : Bool} {c : Int} (h : (b || decide (c ≠ 0)) = false) : b = false ∧ c = 0 := by
  cases b
  · exact ⟨rfl, by simpa using h⟩
  · simp at h
theorem rat_back (a b : Rat) : a + b + -b = a := by rw [Rat.add_assoc, Rat.add_neg_cancel, Rat.add_zero]
theorem rat_less (a b : Rat) : a + b - b = a := by rw [Rat.sub_eq_add_neg]; exact rat_back a b
theorem rat_quo (a b : Rat) (h : b ≠ 0) : a * b / b = a := by rw [Rat.div_def, Rat.mul_assoc, Rat.mul_inv_cancel _ h, Rat.mul_one]
theorem rq_zero {n : Bool} {xs ys : List Int} (wx : Wd xs) (wy : Wd ys) (h : rchk n xs ys = 0) (h0 : xs ≠ []) : rq n xs ys ≠ 0 := by
  obtain ⟨lx, ly, tx, ty, y0, s0, g⟩ := rchk_ok h
  intro e
  have k : rchk false [] [1] = 0 := rchk_good (by simp) (by simp) rfl rfl (by simp) (.inl rfl) (by decide)
  have e0 : rq false [] [1] = 0 := by unfold rq; rfl
  obtain ⟨_, e1, _⟩ := rq_inj wx wy Wd.nil (wdn 1 (by decide)) h k (by rw [e, e0])
  exact h0 e1
end Go.Proofs.YtmgjkdijnjeljaaGreatDoor

