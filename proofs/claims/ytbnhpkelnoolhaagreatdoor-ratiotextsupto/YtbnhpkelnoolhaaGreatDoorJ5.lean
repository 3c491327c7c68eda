/- My texts on the way to RatioTexts, one behind the other: contracts of the program and of the document's answers. -/
import Derived.Test.YtbnhpkelnoolhaaGreatDoorJ4
import Derived.Lib.IndexLaws
import Derived.Deep.RegionHeld3
import Derived.Test.YtbnhpkelnoolhaaGreatDoorShelf
/- Fractions as texts: what a text says, and that a fraction's own text says that fraction. -/
namespace Go.Proofs.YtbnhpkelnoolhaaGreatDoor
open Go.RowKit Go.Lib
set_option linter.unusedVariables false

/-- A text taken apart: its sign, the place of the bar, what stands ahead of it, what behind it. -/
def rneg (l : List UInt8) : Bool := decide (l[0]? = some 45)
def rbar (l : List UInt8) : Int := indexByte (wdig (rneg l) l) 47
def rup (l : List UInt8) : List UInt8 := if rbar l = -1 then wdig (rneg l) l else (wdig (rneg l) l).take (rbar l).toNat
def rdn (l : List UInt8) : List UInt8 := if rbar l = -1 then [] else (wdig (rneg l) l).drop ((rbar l).toNat + 1)
def rnu (l : List UInt8) : Int := numTo (rup l) (rup l).length
def rde (l : List UInt8) : Int := if rbar l = -1 then 1 else numTo (rdn l) (rdn l).length
/-- Is it a fraction's own text? -/
def rgood (l : List UInt8) : Prop := IsNum (rup l) ∧ (rbar l = -1 ∨ IsNum (rdn l) ∧ rde l ≠ 1) ∧ 0 < rde l ∧ (rneg l = false ∨ 0 < rnu l) ∧ gcdI (rnu l) (rde l) = 1
open Classical in
/-- Parse's error, of a text. -/
noncomputable def prErr (s : ByteArray) : Int := if 65536 < s.size then 3 else if rgood s.data.toList then 0 else 130
def rpq (l : List UInt8) : Rat := Rat.divInt (sg (rneg l) (rnu l)) (rde l)

theorem bar_none {d : List UInt8} (h : Dg d) : indexByte d 47 = -1 := by
  have g := indexByte_ge d 47
  by_cases c : indexByte d 47 = -1
  · exact c
  · obtain ⟨e, _⟩ := indexByte_some (l := d) (c := 47) (o := (indexByte d 47).toNat) (by omega)
    have t := h _ (List.mem_of_getElem? e)
    exact absurd t.1 (by decide)
theorem bar_at {d : List UInt8} (h : Dg d) (e : List UInt8) : indexByte (d ++ 47 :: e) 47 = d.length := by
  have g := indexByte_ge (d ++ 47 :: e) 47
  have hat : (d ++ 47 :: e)[d.length]? = some 47 := by simp
  by_cases c : indexByte (d ++ 47 :: e) 47 = -1
  · exact absurd hat (indexByte_none c _)
  · obtain ⟨e1, e2⟩ := indexByte_some (l := d ++ 47 :: e) (c := 47) (o := (indexByte (d ++ 47 :: e) 47).toNat) (by omega)
    have hk : indexByte (d ++ 47 :: e) 47 = ((indexByte (d ++ 47 :: e) 47).toNat : Int) := by omega
    generalize (indexByte (d ++ 47 :: e) 47).toNat = K at e1 e2 hk
    have k1 : ¬ K < d.length := fun hk => by
      rw [List.getElem?_append_left hk] at e1
      have t := h _ (List.mem_of_getElem? e1)
      exact absurd t.1 (by decide)
    have k2 : ¬ d.length < K := fun hk => e2 _ hk hat
    omega
theorem bar_parts {l : List UInt8} (h : indexByte l 47 ≠ -1) : l = l.take (indexByte l 47).toNat ++ 47 :: l.drop ((indexByte l 47).toNat + 1) ∧ (indexByte l 47).toNat < l.length := by
  have g := indexByte_ge l 47
  obtain ⟨e1, _⟩ := indexByte_some (l := l) (c := 47) (o := (indexByte l 47).toNat) (by omega)
  generalize (indexByte l 47).toNat = K at e1 ⊢
  obtain ⟨hk, e2⟩ := List.getElem?_eq_some_iff.1 e1
  refine ⟨?_, hk⟩
  have e3 := List.drop_eq_getElem_cons hk
  rw [e2] at e3
  rw [← e3, List.take_append_drop]
theorem rtext_eq (n : Bool) (xs ys : List Int) : rtext n xs ys = (if n then [45] else []) ++ (decDigits (val xs).toNat ++ if ys = [1] then [] else 47 :: decDigits (val ys).toNat) := by
  unfold rtext wtext
  by_cases c : ys = [1]
  · rw [if_pos c, if_pos c]; simp
  · rw [if_neg c, if_neg c]; simp
theorem rneg_text (n : Bool) (xs ys : List Int) : rneg (rtext n xs ys) = n := by
  obtain ⟨d1, _, _⟩ := isNum_dec (val xs).toNat
  rw [rtext_eq]
  unfold rneg
  cases n with
  | true => simp
  | false =>
    apply decide_eq_false
    intro e
    simp only [Bool.false_eq_true, if_false, List.nil_append] at e
    rw [List.getElem?_append_left d1.1] at e
    have t := d1.2.2 _ (List.mem_of_getElem? e)
    exact absurd t.1 (by decide)
theorem wdig_text (n : Bool) (xs ys : List Int) : wdig (rneg (rtext n xs ys)) (rtext n xs ys) = decDigits (val xs).toNat ++ if ys = [1] then [] else 47 :: decDigits (val ys).toNat := by
  rw [rneg_text, rtext_eq]
  cases n <;> simp [wdig]
/-- What a fraction's text says. -/
theorem text_says (n : Bool) {xs ys : List Int} (wx : Wd xs) (wy : Wd ys) : IsNum (rup (rtext n xs ys)) ∧ (rbar (rtext n xs ys) = -1 ∨ IsNum (rdn (rtext n xs ys)) ∧ ys ≠ [1]) ∧ rnu (rtext n xs ys) = val xs ∧ rde (rtext n xs ys) = val ys := by
  obtain ⟨d1, d2, _⟩ := isNum_dec (val xs).toNat
  obtain ⟨f1, f2, _⟩ := isNum_dec (val ys).toNat
  have v0 := val_nonneg wx
  have u0 := val_nonneg wy
  have e := wdig_text n xs ys
  by_cases c : ys = [1]
  · rw [if_pos c, List.append_nil] at e
    have hb : rbar (rtext n xs ys) = -1 := by unfold rbar; rw [e]; exact bar_none d1.2.2
    have hu : rup (rtext n xs ys) = decDigits (val xs).toNat := by unfold rup; rw [if_pos hb, e]
    refine ⟨by rw [hu]; exact d1, .inl hb, ?_, ?_⟩
    · unfold rnu; rw [hu, d2]; omega
    · unfold rde; rw [if_pos hb, c]; simp [val, valTo]
  · rw [if_neg c] at e
    have hb : rbar (rtext n xs ys) = ((decDigits (val xs).toNat).length : Int) := by unfold rbar; rw [e]; exact bar_at d1.2.2 _
    have hn : ¬ rbar (rtext n xs ys) = -1 := by omega
    have ht : (rbar (rtext n xs ys)).toNat = (decDigits (val xs).toNat).length := by omega
    have hu : rup (rtext n xs ys) = decDigits (val xs).toNat := by unfold rup; rw [if_neg hn, e, ht]; simp
    have hd : rdn (rtext n xs ys) = decDigits (val ys).toNat := by unfold rdn; rw [if_neg hn, e, ht]; simp
    refine ⟨by rw [hu]; exact d1, .inr ⟨by rw [hd]; exact f1, c⟩, ?_, ?_⟩
    · unfold rnu; rw [hu, d2]; omega
    · unfold rde; rw [if_neg hn, hd, f2]; omega
theorem rpq_text (n : Bool) {xs ys : List Int} (wx : Wd xs) (wy : Wd ys) : rpq (rtext n xs ys) = rq n xs ys := by
  obtain ⟨_, _, e1, e2⟩ := text_says n wx wy
  unfold rpq rq
  rw [rneg_text, e1, e2]
  rfl
theorem rgood_text {n : Bool} {xs ys : List Int} (wx : Wd xs) (wy : Wd ys) (h : rform n xs ys) : rgood (rtext n xs ys) := by
  obtain ⟨hb, h0, hs, hg⟩ := h
  obtain ⟨h1, h2⟩ := both_ok hb
  obtain ⟨_, tx⟩ := chk_ok h1
  obtain ⟨_, ty⟩ := chk_ok h2
  obtain ⟨a1, a2, a3, a4⟩ := text_says n wx wy
  refine ⟨a1, ?_, by rw [a4]; exact val_pos' wy ty h0, ?_, by rw [a3, a4]; exact hg⟩
  · rcases a2 with a2 | ⟨a2, a5⟩
    · exact .inl a2
    · exact .inr ⟨a2, by rw [a4]; exact fun e => a5 ((one_iff wy ty).2 e)⟩
  · rcases hs with hs | hs
    · left; rw [rneg_text]; exact hs
    · right; rw [a3]; exact val_pos' wx tx hs
theorem wdig_back (l : List UInt8) : (if rneg l then [45] else []) ++ wdig (rneg l) l = l := by
  cases l with
  | nil => rfl
  | cons c l =>
    by_cases h : c = 45
    · subst h; simp [rneg, wdig]
    · have e : rneg (c :: l) = false := decide_eq_false (by simp [h])
      rw [e]; simp [wdig]
/-- A text that is a fraction's own is the text of what it says. -/
theorem says_text {l : List UInt8} (h : rgood l) {xs ys : List Int} (wy : Wd ys) (ty : Trimmed ys) (hx : val xs = rnu l) (hy : val ys = rde l) : rtext (rneg l) xs ys = l := by
  obtain ⟨h1, h2, _, _, _⟩ := h
  have d1 : decDigits (val xs).toNat = rup l := by
    rw [hx]
    unfold rnu
    exact dec_num ((rup l).length - 1) _ (by have := h1.1; omega) h1
  rw [rtext_eq, d1]
  conv => rhs; rw [← wdig_back l]
  congr 1
  rcases h2 with h2 | ⟨h2, h3⟩
  · have e1 : rde l = 1 := by unfold rde; rw [if_pos h2]
    rw [if_pos ((one_iff wy ty).2 (hy.trans e1))]
    unfold rup
    rw [if_pos h2]; simp
  · by_cases hb : rbar l = -1
    · exact absurd (show rde l = 1 by unfold rde; rw [if_pos hb]) h3
    · rw [if_neg (fun e => h3 (hy ▸ (one_iff wy ty).1 e))]
      have d2 : decDigits (val ys).toNat = rdn l := by
        rw [hy]
        unfold rde
        rw [if_neg hb]
        exact dec_num ((rdn l).length - 1) _ (by have := h2.1; omega) h2
      rw [d2]
      unfold rup rdn
      rw [if_neg hb, if_neg hb]
      exact (bar_parts (l := wdig (rneg l) l) hb).1.symm
theorem ten8 (k : Nat) : (10 : Int) ^ (8 * k) ≤ 4294967296 ^ k := by
  induction k with
  | zero => simp
  | succ k ih =>
    rw [show 8 * (k + 1) = 8 * k + 8 by omega, Int.pow_add, pw_succ]
    have e : (10 : Int) ^ 8 = 100000000 := by decide
    have p : (0 : Int) < 10 ^ (8 * k) := Int.pow_pos (by decide)
    rw [e]
    omega
theorem ten_mono {a b : Nat} (h : a ≤ b) : (10 : Int) ^ a ≤ 10 ^ b := by
  obtain ⟨c, rfl⟩ := Nat.le.dest h
  rw [Int.pow_add]
  have p : (0 : Int) < 10 ^ a := Int.pow_pos (by decide)
  have q : (0 : Int) < 10 ^ c := Int.pow_pos (by decide)
  have := Int.mul_le_mul_of_nonneg_left (show (1 : Int) ≤ 10 ^ c by omega) (Int.le_of_lt p)
  omega
/-- At most 65,536 digits go into 8,192 words. -/
theorem num_wide {l : List UInt8} (hd : Dg l) (hl : l.length ≤ 65536) : numTo l l.length < wide := by
  have h1 := (numTo_bounds hd l.length).2
  have h2 : (10 : Int) ^ l.length ≤ 10 ^ (8 * 8192) := ten_mono (by omega)
  have h3 := ten8 8192
  have e : wide = 4294967296 ^ 8192 := rfl
  rw [e]
  exact Int.lt_of_lt_of_le h1 (Int.le_trans h2 h3)
theorem RTells.self {n : Bool} {xs ys : List Int} (wx : Wd xs) (wy : Wd ys) (h : rchk n xs ys = 0) : RTells 0 (rq n xs ys) n xs ys 0 := by
  obtain ⟨lx, ly, tx, ty, y0, s0, g⟩ := rchk_ok h
  have hd := val_pos' wy ty y0
  obtain ⟨m, us, vs, c, e1, e2, e3, r⟩ := rtells_of (n := n) wx tx wy ty hd g
  have e4 := e1 none 0 none 0
  unfold rtoldV at e4
  rw [if_neg (by omega)] at e4
  have hc : c = 0 := by
    simp at e4
    exact e4.2.symm
  subst hc
  have hm : (n && decide (0 < xs.length)) = n := by
    rcases s0 with rfl | s0
    · rfl
    · rw [decide_eq_true s0, Bool.and_true]
  rw [hm] at e4
  have hn : n = m := by simp at e4; exact e4
  subst hn
  rw [if_pos rfl] at e2 e3
  subst e2 e3
  exact r
end Go.Proofs.YtbnhpkelnoolhaaGreatDoor

/- The document's answer for Print of a fraction. -/
namespace Go.Proofs.YtbnhpkelnoolhaaGreatDoor
open Go.RowKit Go.Lib
set_option linter.unusedVariables false

set_option maxHeartbeats 1600000 in
set_option maxRecDepth 100000 in
theorem dPrint_err (n : Bool) (a : Option Addr) (ca : Nat) (xs : List Int) (b : Option Addr) (cb : Nat) (ys : List Int) (w : World) (sx : Sl w (.slice a xs.length ca) xs) (sy : Sl w (.slice b ys.length cb) ys) (lx : xs.length ≤ 281474976710656) (ly : ys.length ≤ 281474976710656) (he : rchk n xs ys ≠ 0) :
    Calls Tryz.prog 8 #[.agg #[.bool n, .slice a xs.length ca, .slice b ys.length cb]] w fun e w' => e = .returned (.tuple #[.string ⟨#[]⟩, .int .i64 (rchk n xs ys)]) ∧ Below w.heap.size w w' := by
  have HB := hid (alloc_later w (.cells #[.bool n, .slice a xs.length ca, .slice b ys.length cb] 24))
  have HC := hid (check3_any n _ _ xs _ _ ys (w.alloc (.cells #[.bool n, .slice a xs.length ca, .slice b ys.length cb] 24)) (sx.later HB.out) (sy.later HB.out) lx ly)
  obtain ⟨e1, he1⟩ : ∃ e, rchk n xs ys = e := ⟨_, rfl⟩
  rw [he1] at HC he ⊢
  have h1 : (e1 == 0) = false := beq_eq_false_iff_ne.2 he
  have h2 : (e1 != 0) = true := bne_iff_ne.2 he
  clear sx sy he he1
  go_enter Tryz.func8, Tryz.ntmps8
  go_wp2_with fail
  refine Calls.mono HC.out ?_
  rintro e w1 ⟨rfl, hb1⟩
  have HBN := hid (bt HB.out hb1)
  clear hb1 HC
  go_wp2_with fail
  go_ret2
  exact ⟨rfl, HBN.out⟩

set_option maxHeartbeats 12800000 in
set_option maxRecDepth 100000 in
theorem dPrint_ok (n : Bool) (a : Option Addr) (ca : Nat) (xs : List Int) (b : Option Addr) (cb : Nat) (ys : List Int) (w : World) (sx : Sl w (.slice a xs.length ca) xs) (sy : Sl w (.slice b ys.length cb) ys) (hx : rchk n xs ys = 0) :
    Calls Tryz.prog 8 #[.agg #[.bool n, .slice a xs.length ca, .slice b ys.length cb]] w fun e w' => ∃ T : ByteArray, e = .returned (.tuple #[.string T, .int .i64 0]) ∧ T.data.toList = rtext n xs ys ∧ Below w.heap.size w w' := by
  obtain ⟨lx, ly, tx, ty, y0', nx, g1⟩ := rchk_ok hx
  have HB := hid (alloc_later w (.cells #[.bool n, .slice a xs.length ca, .slice b ys.length cb] 24))
  have HN := hid (Box.made w 24 #[.bool n, .slice a xs.length ca, .slice b ys.length cb])
  have HC := hid (check3_any n _ _ xs _ _ ys (w.alloc (.cells #[.bool n, .slice a xs.length ca, .slice b ys.length cb] 24)) (sx.later HB.out) (sy.later HB.out) (by omega) (by omega))
  rw [hx] at HC
  have d1 := dec_short sx.wd lx
  have d2 := dec_short sy.wd ly
  have HS := hid (And.intro (sx.later HB.out) (sy.later HB.out))
  have HTX := hid (rtext_eq n xs ys)
  have c1 := chk_good (xs := xs) (by omega) tx
  have c2 := chk_good (xs := ys) (by omega) ty
  obtain ⟨T1, hT1⟩ : ∃ T, (⟨(decDigits (val xs).toNat).toArray⟩ : ByteArray) = T := ⟨_, rfl⟩
  obtain ⟨T2, hT2⟩ : ∃ T, (⟨(decDigits (val ys).toNat).toArray⟩ : ByteArray) = T := ⟨_, rfl⟩
  have L1 : T1.data.toList = decDigits (val xs).toNat := by rw [← hT1]
  have L2 : T2.data.toList = decDigits (val ys).toNat := by rw [← hT2]
  have z1 : T1.size ≤ 20481 := by rw [← size_list, L1]; exact d1
  have z2 : T2.size ≤ 20481 := by rw [← size_list, L2]; exact d2
  have HLL := hid (And.intro L1 L2)
  have HP1 : Hid (∀ V, Below (w.alloc (.cells #[.bool n, .slice a xs.length ca, .slice b ys.length cb] 24)).heap.size (w.alloc (.cells #[.bool n, .slice a xs.length ca, .slice b ys.length cb] 24)) V → Calls Tryz.prog 32 #[.slice a xs.length ca] V fun e V' => e = .returned (.tuple #[.string T1, .int .i64 0]) ∧ Below V.heap.size V V') := fun V hb => by
    have e := refPrint_any _ xs V (HS.out.1.later hb) (by omega)
    rw [c1, if_pos rfl, hT1] at e
    exact e
  have HP2 : Hid (∀ V, Below (w.alloc (.cells #[.bool n, .slice a xs.length ca, .slice b ys.length cb] 24)).heap.size (w.alloc (.cells #[.bool n, .slice a xs.length ca, .slice b ys.length cb] 24)) V → Calls Tryz.prog 32 #[.slice b ys.length cb] V fun e V' => e = .returned (.tuple #[.string T2, .int .i64 0]) ∧ Below V.heap.size V V') := fun V hb => by
    have e := refPrint_any _ ys V (HS.out.2.later hb) (by omega)
    rw [c2, if_pos rfl, hT2] at e
    exact e
  clear sx sy hx hT1 hT2 L1 L2 c1 c2 tx ty nx g1 d1 d2
  have hg0 : ¬ (9223372036854775807 : Int) < 1 + (T1.size : Int) := by omega
  have hg1 : ¬ (9223372036854775807 : Int) < (T1.size : Int) + 1 := by omega
  have hg2 : ¬ (9223372036854775807 : Int) < (T1.size : Int) + 1 + (T2.size : Int) := by omega
  have hg3 : ¬ (9223372036854775807 : Int) < 1 + (T1.size : Int) + 1 := by omega
  have hg4 : ¬ (9223372036854775807 : Int) < 1 + (T1.size : Int) + 1 + (T2.size : Int) := by omega
  by_cases h1 : ys = [1]
  · have HY := hid h1
    clear h1
    cases n with
    | false =>
      go_enter Tryz.func8, Tryz.ntmps8
      go_wp2_with fail
      refine Calls.mono HC.out ?_
      generalize (w.alloc (.cells #[.bool false, .slice a xs.length ca, .slice b ys.length cb] 24)) = X at *
      rintro e w1 ⟨rfl, hb1⟩
      obtain ⟨p0, p1, p2, _⟩ := res_box3 HN.out hb1
      have HH := hid (HP1.out w1 hb1)
      go_wp2_with fail
      refine Calls.mono HH.out ?_
      rintro e w2 ⟨rfl, hb2⟩
      have HB2 := hid (bt hb1 hb2)
      clear HH HP1 hb1 hb2 p0 p1 p2 HC
      have HK : Hid (∀ V, Below X.heap.size X V → (V.cell? ⟨w.heap.size, 0, none⟩ = some (.bool false) ∧ V.cell? ⟨w.heap.size, 1, none⟩ = some (.slice a xs.length ca) ∧ V.cell? ⟨w.heap.size, 2, none⟩ = some (.slice b ys.length cb))) := fun V hb => by
        obtain ⟨p0, p1, p2, _, _, _⟩ := res_box3 HN.out hb
        exact ⟨p0, p1, p2⟩
      have HO1 : Hid (∀ V, Below X.heap.size X V → Calls Tryz.prog 34 #[] V fun e V' => ∃ g, e = .returned (.slice (some ⟨g, 0, none⟩) 1 1) ∧ Hid (V'.ownsRow V.heap.size 40 1 (.slice (some ⟨g, 0, none⟩) 1 1) 1 ([(1 : Int)].map (Value.int .u32)) ∧ Below X.heap.size X V') ∧ (V'.cell? ⟨w.heap.size, 0, none⟩ = some (.bool false) ∧ V'.cell? ⟨w.heap.size, 1, none⟩ = some (.slice a xs.length ca) ∧ V'.cell? ⟨w.heap.size, 2, none⟩ = some (.slice b ys.length cb))) := fun V hb => by
        refine Calls.mono (one3_any V) ?_
        rintro e V' ⟨g, rfl, o1, hb1⟩
        exact ⟨g, rfl, ⟨o1, bt hb hb1⟩, HK.out V' (bt hb hb1)⟩
      have HSM : Hid (∀ V base g, Below X.heap.size X V → V.ownsRow base 40 1 (.slice (some ⟨g, 0, none⟩) 1 1) 1 ([(1 : Int)].map (Value.int .u32)) → Calls Tryz.prog 33 #[.slice b ys.length cb, .slice (some ⟨g, 0, none⟩) 1 1] V fun e V' => e = .returned (.bool true) ∧ Hid (Below X.heap.size X V') ∧ (V'.cell? ⟨w.heap.size, 0, none⟩ = some (.bool false) ∧ V'.cell? ⟨w.heap.size, 1, none⟩ = some (.slice a xs.length ca) ∧ V'.cell? ⟨w.heap.size, 2, none⟩ = some (.slice b ys.length cb))) := fun V base g hb o => by
        have e := same3_sl _ _ ys [1] V (HS.out.2.later hb) (Sl.own (xs := [1]) o (Wd.one (by omega))) (by omega) (by simp)
        rw [decide_eq_true HY.out] at e
        refine Calls.mono e ?_
        rintro e V' ⟨rfl, hb1⟩
        exact ⟨rfl, bt hb hb1, HK.out V' (bt hb hb1)⟩
      have hs0 := HK.out _ HB2.out.drew
      obtain ⟨p0, p1, p2⟩ := HK.out _ HB2.out
      go_wp2_with fail
      clear p0 p1 p2
      go_region_held3 (fun V : World => (V.cell? ⟨w.heap.size, 0, none⟩ = some (.bool false) ∧ V.cell? ⟨w.heap.size, 1, none⟩ = some (.slice a xs.length ca) ∧ V.cell? ⟨w.heap.size, 2, none⟩ = some (.slice b ys.length cb))) (first | exact hs4 | exact hs3 | exact hs0)
        (first
          | (go_at_call 33; with_reducible refine Calls.mono (HSM.out _ _ _ HE3.out.2 HE3.out.1) ?_; rintro e w4 ⟨rfl, HE4, hs4⟩)
          | (go_at_call 34; with_reducible refine Calls.mono (HO1.out _ HB2.out.drew) ?_; rintro e w3 ⟨g3, rfl, HE3, hs3⟩))
      all_goals
        have HB4 := hid HE4.out
        clear HK HO1 HSM HE3 HE4 hs0 hs3
        go_wp2_with fail
        go_ret2
        refine ⟨_, rfl, ?_, bt HB.out HB4.out⟩
        rw [HTX.out, if_pos HY.out, ← HLL.out.1]
        simp
    | true =>
      go_enter Tryz.func8, Tryz.ntmps8
      go_wp2_with fail
      refine Calls.mono HC.out ?_
      generalize (w.alloc (.cells #[.bool true, .slice a xs.length ca, .slice b ys.length cb] 24)) = X at *
      rintro e w1 ⟨rfl, hb1⟩
      obtain ⟨p0, p1, p2, _⟩ := res_box3 HN.out hb1
      have HH := hid (HP1.out w1 hb1)
      go_wp2_with fail
      refine Calls.mono HH.out ?_
      rintro e w2 ⟨rfl, hb2⟩
      have HB2 := hid (bt hb1 hb2)
      clear HH HP1 hb1 hb2 p0 p1 p2 HC
      have HK : Hid (∀ V, Below X.heap.size X V → (V.cell? ⟨w.heap.size, 0, none⟩ = some (.bool true) ∧ V.cell? ⟨w.heap.size, 1, none⟩ = some (.slice a xs.length ca) ∧ V.cell? ⟨w.heap.size, 2, none⟩ = some (.slice b ys.length cb))) := fun V hb => by
        obtain ⟨p0, p1, p2, _, _, _⟩ := res_box3 HN.out hb
        exact ⟨p0, p1, p2⟩
      have HO1 : Hid (∀ V, Below X.heap.size X V → Calls Tryz.prog 34 #[] V fun e V' => ∃ g, e = .returned (.slice (some ⟨g, 0, none⟩) 1 1) ∧ Hid (V'.ownsRow V.heap.size 40 1 (.slice (some ⟨g, 0, none⟩) 1 1) 1 ([(1 : Int)].map (Value.int .u32)) ∧ Below X.heap.size X V') ∧ (V'.cell? ⟨w.heap.size, 0, none⟩ = some (.bool true) ∧ V'.cell? ⟨w.heap.size, 1, none⟩ = some (.slice a xs.length ca) ∧ V'.cell? ⟨w.heap.size, 2, none⟩ = some (.slice b ys.length cb))) := fun V hb => by
        refine Calls.mono (one3_any V) ?_
        rintro e V' ⟨g, rfl, o1, hb1⟩
        exact ⟨g, rfl, ⟨o1, bt hb hb1⟩, HK.out V' (bt hb hb1)⟩
      have HSM : Hid (∀ V base g, Below X.heap.size X V → V.ownsRow base 40 1 (.slice (some ⟨g, 0, none⟩) 1 1) 1 ([(1 : Int)].map (Value.int .u32)) → Calls Tryz.prog 33 #[.slice b ys.length cb, .slice (some ⟨g, 0, none⟩) 1 1] V fun e V' => e = .returned (.bool true) ∧ Hid (Below X.heap.size X V') ∧ (V'.cell? ⟨w.heap.size, 0, none⟩ = some (.bool true) ∧ V'.cell? ⟨w.heap.size, 1, none⟩ = some (.slice a xs.length ca) ∧ V'.cell? ⟨w.heap.size, 2, none⟩ = some (.slice b ys.length cb))) := fun V base g hb o => by
        have e := same3_sl _ _ ys [1] V (HS.out.2.later hb) (Sl.own (xs := [1]) o (Wd.one (by omega))) (by omega) (by simp)
        rw [decide_eq_true HY.out] at e
        refine Calls.mono e ?_
        rintro e V' ⟨rfl, hb1⟩
        exact ⟨rfl, bt hb hb1, HK.out V' (bt hb hb1)⟩
      have hs0 := HK.out _ HB2.out.drew
      obtain ⟨p0, p1, p2⟩ := HK.out _ HB2.out
      go_wp2_with fail
      clear p0 p1 p2
      go_region_held3 (fun V : World => (V.cell? ⟨w.heap.size, 0, none⟩ = some (.bool true) ∧ V.cell? ⟨w.heap.size, 1, none⟩ = some (.slice a xs.length ca) ∧ V.cell? ⟨w.heap.size, 2, none⟩ = some (.slice b ys.length cb))) (first | exact hs4 | exact hs3 | exact hs0)
        (first
          | (go_at_call 33; with_reducible refine Calls.mono (HSM.out _ _ _ HE3.out.2 HE3.out.1) ?_; rintro e w4 ⟨rfl, HE4, hs4⟩)
          | (go_at_call 34; with_reducible refine Calls.mono (HO1.out _ HB2.out.drew) ?_; rintro e w3 ⟨g3, rfl, HE3, hs3⟩))
      all_goals
        have HB4 := hid HE4.out
        clear HK HO1 HSM HE3 HE4 hs0 hs3
        go_wp2_with fail
        go_ret2
        refine ⟨_, rfl, ?_, bt HB.out HB4.out⟩
        rw [HTX.out, if_pos HY.out, ← HLL.out.1]
        simp
  · have HY := hid h1
    clear h1
    cases n with
    | false =>
      go_enter Tryz.func8, Tryz.ntmps8
      go_wp2_with fail
      refine Calls.mono HC.out ?_
      generalize (w.alloc (.cells #[.bool false, .slice a xs.length ca, .slice b ys.length cb] 24)) = X at *
      rintro e w1 ⟨rfl, hb1⟩
      obtain ⟨p0, p1, p2, _⟩ := res_box3 HN.out hb1
      have HH := hid (HP1.out w1 hb1)
      go_wp2_with fail
      refine Calls.mono HH.out ?_
      rintro e w2 ⟨rfl, hb2⟩
      have HB2 := hid (bt hb1 hb2)
      clear HH HP1 hb1 hb2 p0 p1 p2 HC
      have HK : Hid (∀ V, Below X.heap.size X V → (V.cell? ⟨w.heap.size, 0, none⟩ = some (.bool false) ∧ V.cell? ⟨w.heap.size, 1, none⟩ = some (.slice a xs.length ca) ∧ V.cell? ⟨w.heap.size, 2, none⟩ = some (.slice b ys.length cb))) := fun V hb => by
        obtain ⟨p0, p1, p2, _, _, _⟩ := res_box3 HN.out hb
        exact ⟨p0, p1, p2⟩
      have HO1 : Hid (∀ V, Below X.heap.size X V → Calls Tryz.prog 34 #[] V fun e V' => ∃ g, e = .returned (.slice (some ⟨g, 0, none⟩) 1 1) ∧ Hid (V'.ownsRow V.heap.size 40 1 (.slice (some ⟨g, 0, none⟩) 1 1) 1 ([(1 : Int)].map (Value.int .u32)) ∧ Below X.heap.size X V') ∧ (V'.cell? ⟨w.heap.size, 0, none⟩ = some (.bool false) ∧ V'.cell? ⟨w.heap.size, 1, none⟩ = some (.slice a xs.length ca) ∧ V'.cell? ⟨w.heap.size, 2, none⟩ = some (.slice b ys.length cb))) := fun V hb => by
        refine Calls.mono (one3_any V) ?_
        rintro e V' ⟨g, rfl, o1, hb1⟩
        exact ⟨g, rfl, ⟨o1, bt hb hb1⟩, HK.out V' (bt hb hb1)⟩
      have HSM : Hid (∀ V base g, Below X.heap.size X V → V.ownsRow base 40 1 (.slice (some ⟨g, 0, none⟩) 1 1) 1 ([(1 : Int)].map (Value.int .u32)) → Calls Tryz.prog 33 #[.slice b ys.length cb, .slice (some ⟨g, 0, none⟩) 1 1] V fun e V' => e = .returned (.bool false) ∧ Hid (Below X.heap.size X V') ∧ (V'.cell? ⟨w.heap.size, 0, none⟩ = some (.bool false) ∧ V'.cell? ⟨w.heap.size, 1, none⟩ = some (.slice a xs.length ca) ∧ V'.cell? ⟨w.heap.size, 2, none⟩ = some (.slice b ys.length cb))) := fun V base g hb o => by
        have e := same3_sl _ _ ys [1] V (HS.out.2.later hb) (Sl.own (xs := [1]) o (Wd.one (by omega))) (by omega) (by simp)
        rw [decide_eq_false HY.out] at e
        refine Calls.mono e ?_
        rintro e V' ⟨rfl, hb1⟩
        exact ⟨rfl, bt hb hb1, HK.out V' (bt hb hb1)⟩
      have hs0 := HK.out _ HB2.out.drew
      obtain ⟨p0, p1, p2⟩ := HK.out _ HB2.out
      go_wp2_with fail
      clear p0 p1 p2
      go_region_held3 (fun V : World => (V.cell? ⟨w.heap.size, 0, none⟩ = some (.bool false) ∧ V.cell? ⟨w.heap.size, 1, none⟩ = some (.slice a xs.length ca) ∧ V.cell? ⟨w.heap.size, 2, none⟩ = some (.slice b ys.length cb))) (first | exact hs4 | exact hs3 | exact hs0)
        (first
          | (go_at_call 33; with_reducible refine Calls.mono (HSM.out _ _ _ HE3.out.2 HE3.out.1) ?_; rintro e w4 ⟨rfl, HE4, hs4⟩)
          | (go_at_call 34; with_reducible refine Calls.mono (HO1.out _ HB2.out.drew) ?_; rintro e w3 ⟨g3, rfl, HE3, hs3⟩))
      all_goals
        have HB4 := hid HE4.out
        clear HK HO1 HSM HE3 HE4 hs0 hs3
        have HH := hid (HP2.out w4 HB4.out)
        go_wp2_with fail
        refine Calls.mono HH.out ?_
        rintro e w5 ⟨rfl, hb5⟩
        have HB5 := hid (bt HB4.out hb5)
        clear HH hb5 hs4
        go_wp2_with fail
        go_ret2
        refine ⟨_, rfl, ?_, bt HB.out HB5.out⟩
        rw [HTX.out, if_neg HY.out, ← HLL.out.1, ← HLL.out.2]
        simp
    | true =>
      go_enter Tryz.func8, Tryz.ntmps8
      go_wp2_with fail
      refine Calls.mono HC.out ?_
      generalize (w.alloc (.cells #[.bool true, .slice a xs.length ca, .slice b ys.length cb] 24)) = X at *
      rintro e w1 ⟨rfl, hb1⟩
      obtain ⟨p0, p1, p2, _⟩ := res_box3 HN.out hb1
      have HH := hid (HP1.out w1 hb1)
      go_wp2_with fail
      refine Calls.mono HH.out ?_
      rintro e w2 ⟨rfl, hb2⟩
      have HB2 := hid (bt hb1 hb2)
      clear HH HP1 hb1 hb2 p0 p1 p2 HC
      have HK : Hid (∀ V, Below X.heap.size X V → (V.cell? ⟨w.heap.size, 0, none⟩ = some (.bool true) ∧ V.cell? ⟨w.heap.size, 1, none⟩ = some (.slice a xs.length ca) ∧ V.cell? ⟨w.heap.size, 2, none⟩ = some (.slice b ys.length cb))) := fun V hb => by
        obtain ⟨p0, p1, p2, _, _, _⟩ := res_box3 HN.out hb
        exact ⟨p0, p1, p2⟩
      have HO1 : Hid (∀ V, Below X.heap.size X V → Calls Tryz.prog 34 #[] V fun e V' => ∃ g, e = .returned (.slice (some ⟨g, 0, none⟩) 1 1) ∧ Hid (V'.ownsRow V.heap.size 40 1 (.slice (some ⟨g, 0, none⟩) 1 1) 1 ([(1 : Int)].map (Value.int .u32)) ∧ Below X.heap.size X V') ∧ (V'.cell? ⟨w.heap.size, 0, none⟩ = some (.bool true) ∧ V'.cell? ⟨w.heap.size, 1, none⟩ = some (.slice a xs.length ca) ∧ V'.cell? ⟨w.heap.size, 2, none⟩ = some (.slice b ys.length cb))) := fun V hb => by
        refine Calls.mono (one3_any V) ?_
        rintro e V' ⟨g, rfl, o1, hb1⟩
        exact ⟨g, rfl, ⟨o1, bt hb hb1⟩, HK.out V' (bt hb hb1)⟩
      have HSM : Hid (∀ V base g, Below X.heap.size X V → V.ownsRow base 40 1 (.slice (some ⟨g, 0, none⟩) 1 1) 1 ([(1 : Int)].map (Value.int .u32)) → Calls Tryz.prog 33 #[.slice b ys.length cb, .slice (some ⟨g, 0, none⟩) 1 1] V fun e V' => e = .returned (.bool false) ∧ Hid (Below X.heap.size X V') ∧ (V'.cell? ⟨w.heap.size, 0, none⟩ = some (.bool true) ∧ V'.cell? ⟨w.heap.size, 1, none⟩ = some (.slice a xs.length ca) ∧ V'.cell? ⟨w.heap.size, 2, none⟩ = some (.slice b ys.length cb))) := fun V base g hb o => by
        have e := same3_sl _ _ ys [1] V (HS.out.2.later hb) (Sl.own (xs := [1]) o (Wd.one (by omega))) (by omega) (by simp)
        rw [decide_eq_false HY.out] at e
        refine Calls.mono e ?_
        rintro e V' ⟨rfl, hb1⟩
        exact ⟨rfl, bt hb hb1, HK.out V' (bt hb hb1)⟩
      have hs0 := HK.out _ HB2.out.drew
      obtain ⟨p0, p1, p2⟩ := HK.out _ HB2.out
      go_wp2_with fail
      clear p0 p1 p2
      go_region_held3 (fun V : World => (V.cell? ⟨w.heap.size, 0, none⟩ = some (.bool true) ∧ V.cell? ⟨w.heap.size, 1, none⟩ = some (.slice a xs.length ca) ∧ V.cell? ⟨w.heap.size, 2, none⟩ = some (.slice b ys.length cb))) (first | exact hs4 | exact hs3 | exact hs0)
        (first
          | (go_at_call 33; with_reducible refine Calls.mono (HSM.out _ _ _ HE3.out.2 HE3.out.1) ?_; rintro e w4 ⟨rfl, HE4, hs4⟩)
          | (go_at_call 34; with_reducible refine Calls.mono (HO1.out _ HB2.out.drew) ?_; rintro e w3 ⟨g3, rfl, HE3, hs3⟩))
      all_goals
        have HB4 := hid HE4.out
        clear HK HO1 HSM HE3 HE4 hs0 hs3
        have HH := hid (HP2.out w4 HB4.out)
        go_wp2_with fail
        refine Calls.mono HH.out ?_
        rintro e w5 ⟨rfl, hb5⟩
        have HB5 := hid (bt HB4.out hb5)
        clear HH hb5 hs4
        go_wp2_with fail
        go_ret2
        refine ⟨_, rfl, ?_, bt HB.out HB5.out⟩
        rw [HTX.out, if_neg HY.out, ← HLL.out.1, ← HLL.out.2]
        simp
end Go.Proofs.YtbnhpkelnoolhaaGreatDoor

/- strings.Cut by a bar. -/
namespace Go.Proofs.YtbnhpkelnoolhaaGreatDoor
open Go.RowKit Go.Lib
set_option linter.unusedVariables false

set_option maxHeartbeats 3200000 in
set_option maxRecDepth 100000 in
theorem index_bar (s : ByteArray) (w : World) :
    Calls Tryz.prog 120 #[.string s, .string ⟨#[47]⟩] w fun e w' => e = .returned (.int .i64 (indexByte s.data.toList 47)) ∧ w = w' := by
  have HH := hid (Tryz.stringslite_IndexByte s 47 w)
  by_cases c : s.data.toList = [47]
  · have hc : (([47] : List UInt8) == s.toList) = true := by rw [toList_data, c]; rfl
    have hi : Hid (indexByte s.data.toList 47 = 0) := by show _ = _; rw [c]; rfl
    rw [hi.out]
    clear HH c
    go_enter Tryz.func120, Tryz.ntmps120
    go_wp2_with fail
    go_ret
    exact ⟨rfl, rfl⟩
  · have hc : (([47] : List UInt8) == s.toList) = false := by rw [toList_data]; exact beq_eq_false_iff_ne.2 (fun e => c e.symm)
    clear c
    go_enter Tryz.func120, Tryz.ntmps120
    go_wp2_with fail
    refine Calls.mono HH.out ?_
    rintro e w' ⟨rfl, rfl⟩
    go_wp2_with fail
    go_ret
    exact ⟨rfl, rfl⟩
set_option maxHeartbeats 3200000 in
set_option maxRecDepth 100000 in
theorem cutl_no (s : ByteArray) (w : World) (h : indexByte s.data.toList 47 = -1) :
    Calls Tryz.prog 94 #[.string s, .string ⟨#[47]⟩] w fun e w' => e = .returned (.tuple #[.string s, .string ⟨#[]⟩, .bool false]) ∧ w = w' := by
  have HH := hid (index_bar s w)
  rw [h] at HH
  clear h
  go_enter Tryz.func94, Tryz.ntmps94
  go_wp2_with fail
  refine Calls.mono HH.out ?_
  rintro e w' ⟨rfl, rfl⟩
  go_wp2_with fail
  go_ret3
  exact ⟨rfl, rfl⟩
set_option maxHeartbeats 3200000 in
set_option maxRecDepth 100000 in
theorem cutl_yes (s : ByteArray) (w : World) (i : Nat) (h : indexByte s.data.toList 47 = (i : Int)) (hi : i + 1 ≤ s.size) (hs : s.size ≤ 65536) :
    Calls Tryz.prog 94 #[.string s, .string ⟨#[47]⟩] w fun e w' => e = .returned (.tuple #[.string (s.extract 0 i), .string (s.extract (i + 1) s.size), .bool true]) ∧ Below w.heap.size w w' := by
  have HH := hid (index_bar s w)
  rw [h] at HH
  clear h
  have c1 : (0 : Int) ≤ ↑i := by omega
  have c2 : (↑i : Int) ≤ ↑s.size := by omega
  have c3 : (0 : Int) ≤ ↑i + 1 := by omega
  have c4 : (↑i + 1 : Int) ≤ ↑s.size := by omega
  have cw : IntKind.i64.wrap ((i : Int) + 1) = (i : Int) + 1 := by rw [IntKind.wrap_i64]; omega
  go_enter Tryz.func94, Tryz.ntmps94
  go_wp2_with fail
  refine Calls.mono HH.out ?_
  rintro e w' ⟨rfl, rfl⟩
  go_wp2_with fail
  go_region
  go_wp2_with fail
  go_ret3
  exact ⟨rfl, (Below.refl _ _).drew⟩
set_option maxHeartbeats 1600000 in
set_option maxRecDepth 100000 in
theorem cut_no (s : ByteArray) (w : World) (h : indexByte s.data.toList 47 = -1) :
    Calls Tryz.prog 67 #[.string s, .string ⟨#[47]⟩] w fun e w' => e = .returned (.tuple #[.string s, .string ⟨#[]⟩, .bool false]) ∧ w = w' := by
  have HH := hid (cutl_no s w h)
  clear h
  go_enter Tryz.func67, Tryz.ntmps67
  go_wp2_with fail
  refine Calls.mono HH.out ?_
  rintro e w' ⟨rfl, rfl⟩
  go_wp2_with fail
  go_ret3
  exact ⟨rfl, rfl⟩
set_option maxHeartbeats 1600000 in
set_option maxRecDepth 100000 in
theorem cut_yes (s : ByteArray) (w : World) (i : Nat) (h : indexByte s.data.toList 47 = (i : Int)) (hi : i + 1 ≤ s.size) (hs : s.size ≤ 65536) :
    Calls Tryz.prog 67 #[.string s, .string ⟨#[47]⟩] w fun e w' => e = .returned (.tuple #[.string (s.extract 0 i), .string (s.extract (i + 1) s.size), .bool true]) ∧ Below w.heap.size w w' := by
  have HH := hid (cutl_yes s w i h hi hs)
  clear h
  go_enter Tryz.func67, Tryz.ntmps67
  go_wp2_with fail
  refine Calls.mono HH.out ?_
  rintro e w' ⟨rfl, hb⟩
  go_wp2_with fail
  go_ret3
  exact ⟨rfl, hb⟩

end Go.Proofs.YtbnhpkelnoolhaaGreatDoor

/- Fractions read from a text: ratio.read, for any text. -/
namespace Go.Proofs.YtbnhpkelnoolhaaGreatDoor
open Go.RowKit Go.Lib
set_option linter.unusedVariables false

/-- What read tells: a sign, two rows of the call's own, apart; in a fraction's one form just where the text is one's own. -/
def RRead (w : World) (l : List UInt8) (x : Ending) (w' : World) : Prop :=
  ∃ n v xs u ys, x = .returned (.agg #[.bool n, v, u]) ∧ w'.ownsRow w.heap.size 40 1 v xs.length (xs.map (Value.int .u32)) ∧ w'.ownsRow w.heap.size 40 1 u ys.length (ys.map (Value.int .u32)) ∧ Wd xs ∧ Wd ys ∧ xs.length ≤ 8192 ∧ ys.length ≤ 8192 ∧ (rform n xs ys ↔ rgood l) ∧ (rgood l → n = rneg l ∧ Trimmed xs ∧ Trimmed ys ∧ val xs = rnu l ∧ val ys = rde l) ∧ Below w.heap.size w w' ∧ Cut w v u w'
theorem rread_bad {w w' : World} {l : List UInt8} (h : ¬ rgood l) (hb : Below w.heap.size w w') : RRead w l (.returned (.agg #[.bool false, .slice none 0 0, .slice none 0 0])) w' :=
  ⟨false, _, [], _, [], rfl, World.ownsRow_nil _ _ _ _, World.ownsRow_nil _ _ _ _, Wd.nil, Wd.nil, by simp, by simp, ⟨fun e => absurd e.2.1 (by simp), fun e => absurd e h⟩, fun e => absurd e h, hb, w'.heap.size, hb.size, Nat.le_refl _, fun g hg => by simp [Value.ownBlock] at hg, fun g hg => by simp [Value.ownBlock] at hg⟩
theorem rform_good {n : Bool} {xs ys : List Int} (wx : Wd xs) (wy : Wd ys) (tx : Trimmed xs) (ty : Trimmed ys) (lx : xs.length ≤ 8192) (ly : ys.length ≤ 8192) {l : List UInt8} (hn : n = rneg l) (hx : val xs = rnu l) (hy : val ys = rde l) (h1 : IsNum (rup l)) (h2 : rbar l = -1 ∨ IsNum (rdn l) ∧ rde l ≠ 1) : rform n xs ys ↔ rgood l := by
  have hp : 0 < ys.length ↔ 0 < rde l := by
    rw [← hy]
    exact ⟨fun h => val_pos' wy ty h, fun h => by
      by_cases c : ys.length = 0
      · obtain rfl := List.length_eq_zero_iff.1 c
        simp [val, valTo] at h
      · omega⟩
  have hq : 0 < xs.length ↔ 0 < rnu l := by
    rw [← hx]
    exact ⟨fun h => val_pos' wx tx h, fun h => by
      by_cases c : xs.length = 0
      · obtain rfl := List.length_eq_zero_iff.1 c
        simp [val, valTo] at h
      · omega⟩
  unfold rform rgood
  rw [hp, hq, hn, hx, hy]
  exact ⟨fun e => ⟨h1, h2, e.2.1, e.2.2.1, e.2.2.2⟩, fun e => ⟨both_good (chk_good lx tx) (chk_good ly ty), e.2.2.1, e.2.2.2.1, e.2.2.2.2⟩⟩
theorem rread_put {w U W : World} {l : List UInt8} {n : Bool} {v u : Value} {xs ys : List Int} (hU : Below w.heap.size w U) (hlt : w.heap.size < U.heap.size) (hW : Below U.heap.size U W) (o1 : One U W v xs (rnu l)) (o2 : One U W u ys (rde l)) (hc : Cut U v u W) (lx : xs.length ≤ 8192) (ly : ys.length ≤ 8192) (hn : n = rneg l) (h1 : IsNum (rup l)) (h2 : rbar l = -1 ∨ IsNum (rdn l) ∧ rde l ≠ 1) (x y z : Value) :
    RRead w l (.returned (.agg #[.bool n, v, u])) (((W.setCell ⟨w.heap.size, 0, none⟩ x).setCell ⟨w.heap.size, 1, none⟩ y).setCell ⟨w.heap.size, 2, none⟩ z) :=
  ⟨n, v, xs, u, ys, rfl, owns_base (own_put3 o1.1 _ (fun g hg => by have := (World.ownsRow.lt o1.1 g hg).1; omega) _ _ _) (by omega), owns_base (own_put3 o2.1 _ (fun g hg => by have := (World.ownsRow.lt o2.1 g hg).1; omega) _ _ _) (by omega), o1.2.1, o2.2.1, lx, ly, rform_good o1.2.1 o2.2.1 o1.2.2.1 o2.2.2.1 lx ly hn o1.2.2.2 o2.2.2.2 h1 h2, fun _ => ⟨hn, o1.2.2.1, o2.2.2.1, o1.2.2.2, o2.2.2.2⟩, below_put3 (bt hU hW) _ (Nat.le_refl _) _ _ _, hc.up (by omega) (by simp)⟩
theorem parse_good (T : ByteArray) (w : World) (hs : T.size ≤ 65536) (l : List UInt8) (hl : T.data.toList = l) (h : IsNum l) :
    Calls Tryz.prog 68 #[.string T] w fun x w' => ∃ a zs c, x = .returned (.tuple #[.slice a (List.length zs) c, .int .i64 0]) ∧ Hid (One w w' (.slice a (List.length zs) c) zs (numTo l l.length) ∧ zs.length ≤ 8192) ∧ Below w.heap.size w w' := by
  have HP := parse_any T w (by unfold maxLen; omega)
  rw [pErr_ok T hs (by rw [hl]; exact h)] at HP
  have hw := num_wide h.2.2 (by rw [← hl, size_list]; exact hs)
  refine Calls.mono HP ?_
  rintro x w' ⟨v, zs, code, rfl, o, t, hb⟩
  obtain ⟨a, c, hv⟩ := own_slice' o
  subst hv
  have e : numTo T.data.toList T.size = numTo l l.length := by rw [← size_list, hl]
  rw [e] at t
  obtain ⟨rfl, hz⟩ := t.good rfl hw
  exact ⟨a, zs, c, rfl, ⟨⟨o, t.wd, t.trim, hz⟩, own_len (U := w) (V := w') ⟨o, t.wd, t.trim, hz⟩ hw⟩, hb⟩
theorem parse_bad (T : ByteArray) (w : World) (hs : T.size ≤ 65536) (l : List UInt8) (hl : T.data.toList = l) (h : ¬ IsNum l) :
    Calls Tryz.prog 68 #[.string T] w fun x w' => ∃ a c, x = .returned (.tuple #[.slice a 0 c, .int .i64 110]) ∧ Below w.heap.size w w' := by
  have HP := parse_any T w (by unfold maxLen; omega)
  rw [pErr_not T hs (by rw [hl]; exact h)] at HP
  refine Calls.mono HP ?_
  rintro x w' ⟨v, zs, code, rfl, o, t, hb⟩
  obtain ⟨a, c, hv⟩ := own_slice' o
  subst hv
  obtain ⟨rfl, rfl⟩ := t.bad (by decide)
  exact ⟨a, c, rfl, hb⟩
theorem of_one (w : World) : Calls Tryz.prog 51 #[.int .u64 1] w fun x w' => ∃ a c, x = .returned (.slice a 1 c) ∧ Hid (One w w' (.slice a 1 c) [1] 1) ∧ Below w.heap.size w w' := by
  refine Calls.mono (of_any 1 w (by decide) (by decide)) ?_
  rintro x w' ⟨v, rfl, o, hb⟩
  have e1 : sz [(1 : Int) % 4294967296, 1 / 4294967296] = 1 := by decide
  have e2 : trimmed [(1 : Int) % 4294967296, 1 / 4294967296] = [1] := by decide
  rw [e1, e2] at o
  obtain ⟨a, c, hv⟩ := own_slice' o
  subst hv
  exact ⟨a, c, rfl, ⟨o, Wd.one (by omega), rfl, by simp [val, valTo]⟩, hb⟩

set_option maxHeartbeats 6400000 in
set_option maxRecDepth 100000 in
theorem read_A1 (s : ByteArray) (w : World) (hs : s.size ≤ 65536) (hB : rbar s.data.toList = -1) (hU : ¬ IsNum (rup s.data.toList)) :
    Calls Tryz.prog 35 #[.string s] w (RRead w s.data.toList) := by
  have HB := hid (alloc_later w (.cells #[.bool false, .slice none 0 0, .slice none 0 0] 24))
  have HZ := hid (Box.made w 24 #[.bool false, .slice none 0 0, .slice none 0 0])
  have HLT : Hid (w.heap.size < (w.alloc (.cells #[.bool false, .slice none 0 0, .slice none 0 0] 24)).heap.size) := by show _ < _; simp
  have HCP := hid (cutPrefix_minus s (w.alloc (.cells #[.bool false, .slice none 0 0, .slice none 0 0] 24)) hs)
  have hss := size_list s
  rw [show decide (s.data.toList[0]? = some 45) = rneg s.data.toList from rfl] at HCP
  have HBR := hid hB
  have HU := hid hU
  have HBAD : Hid (¬ rgood s.data.toList) := fun h => hU h.1
  clear hB hU
  go_enter Tryz.func35, Tryz.ntmps35
  go_wp2_with fail
  refine Calls.mono HCP.out ?_
  rintro e w' ⟨T, b, rfl, hbb, hTw, rfl⟩
  have hTs : T.size ≤ 65536 := by
    rw [← size_list, hTw]
    split
    · rw [List.length_drop]; omega
    · omega
  have hTb : indexByte T.data.toList 47 = rbar s.data.toList := by rw [hTw, hbb]; rfl
  have hTw' : T.data.toList = wdig (rneg s.data.toList) s.data.toList := by rw [hTw, hbb]; rfl
  clear hTw HCP
  have HC := hid (cut_no T (w.alloc (.cells #[.bool false, .slice none 0 0, .slice none 0 0] 24)) (by rw [hTb]; exact HBR.out))
  have HA : Hid (T.data.toList = rup s.data.toList) := by show _ = _; rw [hTw']; unfold rup; rw [if_pos HBR.out]
  clear hTb hTw'
  go_wp2_with fail
  refine Calls.mono HC.out ?_
  rintro e w1 ⟨rfl, rfl⟩
  clear HC
  have HH := hid (parse_bad T (w.alloc (.cells #[.bool false, .slice none 0 0, .slice none 0 0] 24)) hTs _ HA.out HU.out)
  go_wp2_with fail
  refine Calls.mono HH.out ?_
  rintro e w2 ⟨a2, c2, rfl, hb2⟩
  clear HH
  obtain ⟨r0, r1, r2, f0, f1, f2⟩ := res_box3 HZ.out hb2
  have HBA := hid (bt HB.out hb2)
  go_wp2_with fail
  refine bodyPost_ret (v := .agg #[.bool false, .slice none 0 0, .slice none 0 0]) (by simp [results, Tryz.results35, go_sem, r0, r1, r2]) rfl ?_
  exact rread_bad HBAD.out (below_put3 HBA.out _ (Nat.le_refl _) _ _ _)

set_option maxHeartbeats 6400000 in
set_option maxRecDepth 100000 in
theorem read_A2 (s : ByteArray) (w : World) (hs : s.size ≤ 65536) (hB : ¬ rbar s.data.toList = -1) (hU : ¬ IsNum (rup s.data.toList)) :
    Calls Tryz.prog 35 #[.string s] w (RRead w s.data.toList) := by
  have HB := hid (alloc_later w (.cells #[.bool false, .slice none 0 0, .slice none 0 0] 24))
  have HZ := hid (Box.made w 24 #[.bool false, .slice none 0 0, .slice none 0 0])
  have HLT : Hid (w.heap.size < (w.alloc (.cells #[.bool false, .slice none 0 0, .slice none 0 0] 24)).heap.size) := by show _ < _; simp
  have HCP := hid (cutPrefix_minus s (w.alloc (.cells #[.bool false, .slice none 0 0, .slice none 0 0] 24)) hs)
  have hss := size_list s
  rw [show decide (s.data.toList[0]? = some 45) = rneg s.data.toList from rfl] at HCP
  have HBR := hid hB
  have HU := hid hU
  have HBAD : Hid (¬ rgood s.data.toList) := fun h => hU h.1
  clear hB hU
  go_enter Tryz.func35, Tryz.ntmps35
  go_wp2_with fail
  refine Calls.mono HCP.out ?_
  rintro e w' ⟨T, b, rfl, hbb, hTw, rfl⟩
  have hTs : T.size ≤ 65536 := by
    rw [← size_list, hTw]
    split
    · rw [List.length_drop]; omega
    · omega
  have hTb : indexByte T.data.toList 47 = rbar s.data.toList := by rw [hTw, hbb]; rfl
  have hTw' : T.data.toList = wdig (rneg s.data.toList) s.data.toList := by rw [hTw, hbb]; rfl
  clear hTw HCP
  obtain ⟨i, hi⟩ : ∃ i : Nat, rbar s.data.toList = (i : Int) := ⟨(rbar s.data.toList).toNat, by have := indexByte_ge (wdig (rneg s.data.toList) s.data.toList) 47; have h := HBR.out; have e : rbar s.data.toList = indexByte (wdig (rneg s.data.toList) s.data.toList) 47 := rfl; omega⟩
  have hil : i + 1 ≤ T.size := by
    have h := (bar_parts (l := T.data.toList) (by rw [hTb]; exact HBR.out)).2
    rw [hTb, size_list] at h
    omega
  have HC := hid (cut_yes T (w.alloc (.cells #[.bool false, .slice none 0 0, .slice none 0 0] 24)) i (by rw [hTb]; exact hi) hil hTs)
  have HA : Hid ((T.extract 0 i).data.toList = rup s.data.toList) := by show _ = _; rw [extract_list, hTw']; unfold rup; rw [if_neg HBR.out, hi]; simp
  have HD : Hid ((T.extract (i + 1) T.size).data.toList = rdn s.data.toList) := by
    show _ = _
    rw [extract_list, List.take_of_length_le (by rw [List.length_drop, size_list]; omega), hTw']
    unfold rdn
    rw [if_neg HBR.out, hi]; simp
  have hAs : (T.extract 0 i).size ≤ 65536 := by rw [← size_list, extract_list, List.length_take, List.length_drop, size_list]; omega
  have hDs : (T.extract (i + 1) T.size).size ≤ 65536 := by rw [← size_list, extract_list, List.length_take, List.length_drop, size_list]; omega
  generalize T.extract 0 i = A at *
  generalize T.extract (i + 1) T.size = D at *
  clear hTw' hTb hi hil hTs
  go_wp2_with fail
  refine Calls.mono HC.out ?_
  rintro e w1 ⟨rfl, hb1⟩
  clear HC
  have HH := hid (parse_bad A w1 hAs _ HA.out HU.out)
  go_wp2_with fail
  refine Calls.mono HH.out ?_
  rintro e w2 ⟨a2, c2, rfl, hb2⟩
  clear HH
  obtain ⟨r0, r1, r2, f0, f1, f2⟩ := res_box3 HZ.out (bt hb1 hb2)
  have HBA := hid (bt HB.out (bt hb1 hb2))
  go_wp2_with fail
  refine bodyPost_ret (v := .agg #[.bool false, .slice none 0 0, .slice none 0 0]) (by simp [results, Tryz.results35, go_sem, r0, r1, r2]) rfl ?_
  exact rread_bad HBAD.out (below_put3 HBA.out _ (Nat.le_refl _) _ _ _)

set_option maxHeartbeats 6400000 in
set_option maxRecDepth 100000 in
theorem read_B (s : ByteArray) (w : World) (hs : s.size ≤ 65536) (hB : rbar s.data.toList = -1) (hU : IsNum (rup s.data.toList)) :
    Calls Tryz.prog 35 #[.string s] w (RRead w s.data.toList) := by
  have HB := hid (alloc_later w (.cells #[.bool false, .slice none 0 0, .slice none 0 0] 24))
  have HZ := hid (Box.made w 24 #[.bool false, .slice none 0 0, .slice none 0 0])
  have HLT : Hid (w.heap.size < (w.alloc (.cells #[.bool false, .slice none 0 0, .slice none 0 0] 24)).heap.size) := by show _ < _; simp
  have HCP := hid (cutPrefix_minus s (w.alloc (.cells #[.bool false, .slice none 0 0, .slice none 0 0] 24)) hs)
  have hss := size_list s
  rw [show decide (s.data.toList[0]? = some 45) = rneg s.data.toList from rfl] at HCP
  have HBR := hid hB
  have HU := hid hU
  clear hB hU
  go_enter Tryz.func35, Tryz.ntmps35
  go_wp2_with fail
  refine Calls.mono HCP.out ?_
  rintro e w' ⟨T, b, rfl, hbb, hTw, rfl⟩
  have hTs : T.size ≤ 65536 := by
    rw [← size_list, hTw]
    split
    · rw [List.length_drop]; omega
    · omega
  have hTb : indexByte T.data.toList 47 = rbar s.data.toList := by rw [hTw, hbb]; rfl
  have hTw' : T.data.toList = wdig (rneg s.data.toList) s.data.toList := by rw [hTw, hbb]; rfl
  clear hTw HCP
  have HC := hid (cut_no T (w.alloc (.cells #[.bool false, .slice none 0 0, .slice none 0 0] 24)) (by rw [hTb]; exact HBR.out))
  have HA : Hid (T.data.toList = rup s.data.toList) := by show _ = _; rw [hTw']; unfold rup; rw [if_pos HBR.out]
  clear hTb hTw'
  go_wp2_with fail
  refine Calls.mono HC.out ?_
  rintro e w1 ⟨rfl, rfl⟩
  clear HC
  have HH := hid (parse_good T (w.alloc (.cells #[.bool false, .slice none 0 0, .slice none 0 0] 24)) hTs _ HA.out HU.out)
  go_wp2_with fail
  refine Calls.mono HH.out ?_
  rintro e w2 ⟨a2, z2, c2, rfl, H2, hb2⟩
  clear HH
  have HH := hid (of_one w2)
  go_wp2_with fail
  refine Calls.mono HH.out ?_
  rintro e w3 ⟨a3, c3, rfl, H3, hb3⟩
  clear HH
  have HW := hid (bt hb2 hb3)
  obtain ⟨r0, r1, r2, f0, f1, f2⟩ := res_box3 HZ.out HW.out
  have hz2 := hb2.size
  have hz3 := hb3.size
  have HO2 : Hid (One (w.alloc (.cells #[.bool false, .slice none 0 0, .slice none 0 0] 24)) w3 (.slice a2 z2.length c2) z2 (rnu s.data.toList)) := ⟨owns_later H2.out.1.1 hb3, H2.out.1.2⟩
  have HDE : Hid (rde s.data.toList = 1) := by show _ = _; unfold rde; rw [if_pos HBR.out]
  have HO3 : Hid (One (w.alloc (.cells #[.bool false, .slice none 0 0, .slice none 0 0] 24)) w3 (.slice a3 1 c3) [1] (rde s.data.toList)) := ⟨owns_base H3.out.1 (by omega), H3.out.2.1, H3.out.2.2.1, by rw [HDE.out]; exact H3.out.2.2.2⟩
  have HCUT : Hid (Cut (w.alloc (.cells #[.bool false, .slice none 0 0, .slice none 0 0] 24)) (.slice a2 z2.length c2) (.slice a3 1 c3) w3) := cut_two (Nat.le_refl _) hz2 hz3 (World.ownsRow.lt H2.out.1.1) (World.ownsRow.lt H3.out.1)
  have HLL := hid H2.out.2
  clear hb2 hb3 hz2 hz3 H2 H3
  subst hbb
  go_wp2_with fail
  refine bodyPost_ret (v := .agg #[.bool (rneg s.data.toList), .slice a2 z2.length c2, .slice a3 1 c3]) (by simp [results, Tryz.results35, go_sem, r0, r1, r2]) rfl ?_
  exact rread_put HB.out HLT.out HW.out HO2.out HO3.out HCUT.out HLL.out (by simp) rfl HU.out (.inl HBR.out) _ _ _

set_option maxHeartbeats 6400000 in
set_option maxRecDepth 100000 in
theorem read_C (s : ByteArray) (w : World) (hs : s.size ≤ 65536) (hB : ¬ rbar s.data.toList = -1) (hU : IsNum (rup s.data.toList)) (hV : ¬ IsNum (rdn s.data.toList)) :
    Calls Tryz.prog 35 #[.string s] w (RRead w s.data.toList) := by
  have HB := hid (alloc_later w (.cells #[.bool false, .slice none 0 0, .slice none 0 0] 24))
  have HZ := hid (Box.made w 24 #[.bool false, .slice none 0 0, .slice none 0 0])
  have HLT : Hid (w.heap.size < (w.alloc (.cells #[.bool false, .slice none 0 0, .slice none 0 0] 24)).heap.size) := by show _ < _; simp
  have HCP := hid (cutPrefix_minus s (w.alloc (.cells #[.bool false, .slice none 0 0, .slice none 0 0] 24)) hs)
  have hss := size_list s
  rw [show decide (s.data.toList[0]? = some 45) = rneg s.data.toList from rfl] at HCP
  have HBR := hid hB
  have HU := hid hU
  have HV := hid hV
  have HBAD : Hid (¬ rgood s.data.toList) := fun h => h.2.1.elim hB (fun e => hV e.1)
  clear hB hU hV
  go_enter Tryz.func35, Tryz.ntmps35
  go_wp2_with fail
  refine Calls.mono HCP.out ?_
  rintro e w' ⟨T, b, rfl, hbb, hTw, rfl⟩
  have hTs : T.size ≤ 65536 := by
    rw [← size_list, hTw]
    split
    · rw [List.length_drop]; omega
    · omega
  have hTb : indexByte T.data.toList 47 = rbar s.data.toList := by rw [hTw, hbb]; rfl
  have hTw' : T.data.toList = wdig (rneg s.data.toList) s.data.toList := by rw [hTw, hbb]; rfl
  clear hTw HCP
  obtain ⟨i, hi⟩ : ∃ i : Nat, rbar s.data.toList = (i : Int) := ⟨(rbar s.data.toList).toNat, by have := indexByte_ge (wdig (rneg s.data.toList) s.data.toList) 47; have h := HBR.out; have e : rbar s.data.toList = indexByte (wdig (rneg s.data.toList) s.data.toList) 47 := rfl; omega⟩
  have hil : i + 1 ≤ T.size := by
    have h := (bar_parts (l := T.data.toList) (by rw [hTb]; exact HBR.out)).2
    rw [hTb, size_list] at h
    omega
  have HC := hid (cut_yes T (w.alloc (.cells #[.bool false, .slice none 0 0, .slice none 0 0] 24)) i (by rw [hTb]; exact hi) hil hTs)
  have HA : Hid ((T.extract 0 i).data.toList = rup s.data.toList) := by show _ = _; rw [extract_list, hTw']; unfold rup; rw [if_neg HBR.out, hi]; simp
  have HD : Hid ((T.extract (i + 1) T.size).data.toList = rdn s.data.toList) := by
    show _ = _
    rw [extract_list, List.take_of_length_le (by rw [List.length_drop, size_list]; omega), hTw']
    unfold rdn
    rw [if_neg HBR.out, hi]; simp
  have hAs : (T.extract 0 i).size ≤ 65536 := by rw [← size_list, extract_list, List.length_take, List.length_drop, size_list]; omega
  have hDs : (T.extract (i + 1) T.size).size ≤ 65536 := by rw [← size_list, extract_list, List.length_take, List.length_drop, size_list]; omega
  generalize T.extract 0 i = A at *
  generalize T.extract (i + 1) T.size = D at *
  clear hTw' hTb hi hil hTs
  go_wp2_with fail
  refine Calls.mono HC.out ?_
  rintro e w1 ⟨rfl, hb1⟩
  clear HC
  have HH := hid (parse_good A w1 hAs _ HA.out HU.out)
  go_wp2_with fail
  refine Calls.mono HH.out ?_
  rintro e w2 ⟨a2, z2, c2, rfl, H2, hb2⟩
  clear HH
  have HH := hid (parse_bad D w2 hDs _ HD.out HV.out)
  go_wp2_with fail
  refine Calls.mono HH.out ?_
  rintro e w3 ⟨a3, c3, rfl, hb3⟩
  clear HH
  obtain ⟨r0, r1, r2, f0, f1, f2⟩ := res_box3 HZ.out (bt hb1 (bt hb2 hb3))
  have HBA := hid (bt HB.out (bt hb1 (bt hb2 hb3)))
  go_wp2_with fail
  refine bodyPost_ret (v := .agg #[.bool false, .slice none 0 0, .slice none 0 0]) (by simp [results, Tryz.results35, go_sem, r0, r1, r2]) rfl ?_
  exact rread_bad HBAD.out (below_put3 HBA.out _ (Nat.le_refl _) _ _ _)

set_option maxHeartbeats 6400000 in
set_option maxRecDepth 100000 in
theorem read_D (s : ByteArray) (w : World) (hs : s.size ≤ 65536) (hB : ¬ rbar s.data.toList = -1) (hU : IsNum (rup s.data.toList)) (hV : IsNum (rdn s.data.toList)) (hO : rde s.data.toList = 1) :
    Calls Tryz.prog 35 #[.string s] w (RRead w s.data.toList) := by
  have HB := hid (alloc_later w (.cells #[.bool false, .slice none 0 0, .slice none 0 0] 24))
  have HZ := hid (Box.made w 24 #[.bool false, .slice none 0 0, .slice none 0 0])
  have HLT : Hid (w.heap.size < (w.alloc (.cells #[.bool false, .slice none 0 0, .slice none 0 0] 24)).heap.size) := by show _ < _; simp
  have HCP := hid (cutPrefix_minus s (w.alloc (.cells #[.bool false, .slice none 0 0, .slice none 0 0] 24)) hs)
  have hss := size_list s
  rw [show decide (s.data.toList[0]? = some 45) = rneg s.data.toList from rfl] at HCP
  have HBR := hid hB
  have HU := hid hU
  have HV := hid hV
  have HBAD : Hid (¬ rgood s.data.toList) := fun h => h.2.1.elim hB (fun e => e.2 hO)
  have hde : rde s.data.toList = numTo (rdn s.data.toList) (rdn s.data.toList).length := by unfold rde; rw [if_neg hB]
  have hval : ∀ z : List Int, Wd z → Trimmed z → val z = numTo (rdn s.data.toList) (rdn s.data.toList).length → decide (z = [1]) = true := fun z w t v => decide_eq_true ((one_iff w t).2 (by rw [v, ← hde]; exact hO))
  clear hB hU hV hO hde
  go_enter Tryz.func35, Tryz.ntmps35
  go_wp2_with fail
  refine Calls.mono HCP.out ?_
  rintro e w' ⟨T, b, rfl, hbb, hTw, rfl⟩
  have hTs : T.size ≤ 65536 := by
    rw [← size_list, hTw]
    split
    · rw [List.length_drop]; omega
    · omega
  have hTb : indexByte T.data.toList 47 = rbar s.data.toList := by rw [hTw, hbb]; rfl
  have hTw' : T.data.toList = wdig (rneg s.data.toList) s.data.toList := by rw [hTw, hbb]; rfl
  clear hTw HCP
  obtain ⟨i, hi⟩ : ∃ i : Nat, rbar s.data.toList = (i : Int) := ⟨(rbar s.data.toList).toNat, by have := indexByte_ge (wdig (rneg s.data.toList) s.data.toList) 47; have h := HBR.out; have e : rbar s.data.toList = indexByte (wdig (rneg s.data.toList) s.data.toList) 47 := rfl; omega⟩
  have hil : i + 1 ≤ T.size := by
    have h := (bar_parts (l := T.data.toList) (by rw [hTb]; exact HBR.out)).2
    rw [hTb, size_list] at h
    omega
  have HC := hid (cut_yes T (w.alloc (.cells #[.bool false, .slice none 0 0, .slice none 0 0] 24)) i (by rw [hTb]; exact hi) hil hTs)
  have HA : Hid ((T.extract 0 i).data.toList = rup s.data.toList) := by show _ = _; rw [extract_list, hTw']; unfold rup; rw [if_neg HBR.out, hi]; simp
  have HD : Hid ((T.extract (i + 1) T.size).data.toList = rdn s.data.toList) := by
    show _ = _
    rw [extract_list, List.take_of_length_le (by rw [List.length_drop, size_list]; omega), hTw']
    unfold rdn
    rw [if_neg HBR.out, hi]; simp
  have hAs : (T.extract 0 i).size ≤ 65536 := by rw [← size_list, extract_list, List.length_take, List.length_drop, size_list]; omega
  have hDs : (T.extract (i + 1) T.size).size ≤ 65536 := by rw [← size_list, extract_list, List.length_take, List.length_drop, size_list]; omega
  generalize T.extract 0 i = A at *
  generalize T.extract (i + 1) T.size = D at *
  clear hTw' hTb hi hil hTs
  go_wp2_with fail
  refine Calls.mono HC.out ?_
  rintro e w1 ⟨rfl, hb1⟩
  clear HC
  have HH := hid (parse_good A w1 hAs _ HA.out HU.out)
  go_wp2_with fail
  refine Calls.mono HH.out ?_
  rintro e w2 ⟨a2, z2, c2, rfl, H2, hb2⟩
  clear HH
  have HH := hid (parse_good D w2 hDs _ HD.out HV.out)
  go_wp2_with fail
  refine Calls.mono HH.out ?_
  rintro e w3 ⟨a3, z3, c3, rfl, H3, hb3⟩
  clear HH
  have HI := isOne_any _ z3 w3 (Sl.own H3.out.1.1 H3.out.1.2.1)
  rw [hval z3 H3.out.1.2.1 H3.out.1.2.2.1 H3.out.1.2.2.2] at HI
  clear hval
  have HH := hid (HI)
  go_wp2_with fail
  refine Calls.mono HH.out ?_
  rintro e w4 ⟨rfl, rfl⟩
  clear HH
  obtain ⟨r0, r1, r2, f0, f1, f2⟩ := res_box3 HZ.out (bt hb1 (bt hb2 hb3))
  have HBA := hid (bt HB.out (bt hb1 (bt hb2 hb3)))
  go_wp2_with fail
  refine bodyPost_ret (v := .agg #[.bool false, .slice none 0 0, .slice none 0 0]) (by simp [results, Tryz.results35, go_sem, r0, r1, r2]) rfl ?_
  exact rread_bad HBAD.out (below_put3 HBA.out _ (Nat.le_refl _) _ _ _)

set_option maxHeartbeats 6400000 in
set_option maxRecDepth 100000 in
theorem read_E (s : ByteArray) (w : World) (hs : s.size ≤ 65536) (hB : ¬ rbar s.data.toList = -1) (hU : IsNum (rup s.data.toList)) (hV : IsNum (rdn s.data.toList)) (hO : ¬ rde s.data.toList = 1) :
    Calls Tryz.prog 35 #[.string s] w (RRead w s.data.toList) := by
  have HB := hid (alloc_later w (.cells #[.bool false, .slice none 0 0, .slice none 0 0] 24))
  have HZ := hid (Box.made w 24 #[.bool false, .slice none 0 0, .slice none 0 0])
  have HLT : Hid (w.heap.size < (w.alloc (.cells #[.bool false, .slice none 0 0, .slice none 0 0] 24)).heap.size) := by show _ < _; simp
  have HCP := hid (cutPrefix_minus s (w.alloc (.cells #[.bool false, .slice none 0 0, .slice none 0 0] 24)) hs)
  have hss := size_list s
  rw [show decide (s.data.toList[0]? = some 45) = rneg s.data.toList from rfl] at HCP
  have HBR := hid hB
  have HU := hid hU
  have HV := hid hV
  have HO := hid hO
  have hde : rde s.data.toList = numTo (rdn s.data.toList) (rdn s.data.toList).length := by unfold rde; rw [if_neg hB]
  have hval : ∀ z : List Int, Wd z → Trimmed z → val z = numTo (rdn s.data.toList) (rdn s.data.toList).length → decide (z = [1]) = false := fun z w t v => decide_eq_false (fun e => hO (by rw [hde, ← v]; exact (one_iff w t).1 e))
  have HDE := hid hde
  clear hB hU hV hO hde
  go_enter Tryz.func35, Tryz.ntmps35
  go_wp2_with fail
  refine Calls.mono HCP.out ?_
  rintro e w' ⟨T, b, rfl, hbb, hTw, rfl⟩
  have hTs : T.size ≤ 65536 := by
    rw [← size_list, hTw]
    split
    · rw [List.length_drop]; omega
    · omega
  have hTb : indexByte T.data.toList 47 = rbar s.data.toList := by rw [hTw, hbb]; rfl
  have hTw' : T.data.toList = wdig (rneg s.data.toList) s.data.toList := by rw [hTw, hbb]; rfl
  clear hTw HCP
  obtain ⟨i, hi⟩ : ∃ i : Nat, rbar s.data.toList = (i : Int) := ⟨(rbar s.data.toList).toNat, by have := indexByte_ge (wdig (rneg s.data.toList) s.data.toList) 47; have h := HBR.out; have e : rbar s.data.toList = indexByte (wdig (rneg s.data.toList) s.data.toList) 47 := rfl; omega⟩
  have hil : i + 1 ≤ T.size := by
    have h := (bar_parts (l := T.data.toList) (by rw [hTb]; exact HBR.out)).2
    rw [hTb, size_list] at h
    omega
  have HC := hid (cut_yes T (w.alloc (.cells #[.bool false, .slice none 0 0, .slice none 0 0] 24)) i (by rw [hTb]; exact hi) hil hTs)
  have HA : Hid ((T.extract 0 i).data.toList = rup s.data.toList) := by show _ = _; rw [extract_list, hTw']; unfold rup; rw [if_neg HBR.out, hi]; simp
  have HD : Hid ((T.extract (i + 1) T.size).data.toList = rdn s.data.toList) := by
    show _ = _
    rw [extract_list, List.take_of_length_le (by rw [List.length_drop, size_list]; omega), hTw']
    unfold rdn
    rw [if_neg HBR.out, hi]; simp
  have hAs : (T.extract 0 i).size ≤ 65536 := by rw [← size_list, extract_list, List.length_take, List.length_drop, size_list]; omega
  have hDs : (T.extract (i + 1) T.size).size ≤ 65536 := by rw [← size_list, extract_list, List.length_take, List.length_drop, size_list]; omega
  generalize T.extract 0 i = A at *
  generalize T.extract (i + 1) T.size = D at *
  clear hTw' hTb hi hil hTs
  go_wp2_with fail
  refine Calls.mono HC.out ?_
  rintro e w1 ⟨rfl, hb1⟩
  clear HC
  have HH := hid (parse_good A w1 hAs _ HA.out HU.out)
  go_wp2_with fail
  refine Calls.mono HH.out ?_
  rintro e w2 ⟨a2, z2, c2, rfl, H2, hb2⟩
  clear HH
  have HH := hid (parse_good D w2 hDs _ HD.out HV.out)
  go_wp2_with fail
  refine Calls.mono HH.out ?_
  rintro e w3 ⟨a3, z3, c3, rfl, H3, hb3⟩
  clear HH
  have HI := isOne_any _ z3 w3 (Sl.own H3.out.1.1 H3.out.1.2.1)
  rw [hval z3 H3.out.1.2.1 H3.out.1.2.2.1 H3.out.1.2.2.2] at HI
  clear hval
  have HH := hid (HI)
  go_wp2_with fail
  refine Calls.mono HH.out ?_
  rintro e w4 ⟨rfl, rfl⟩
  clear HH
  have HW := hid (bt hb1 (bt hb2 hb3))
  obtain ⟨r0, r1, r2, f0, f1, f2⟩ := res_box3 HZ.out HW.out
  have hz1 := hb1.size
  have hz2 := hb2.size
  have hz3 := hb3.size
  have HO2 : Hid (One (w.alloc (.cells #[.bool false, .slice none 0 0, .slice none 0 0] 24)) w3 (.slice a2 z2.length c2) z2 (rnu s.data.toList)) := ⟨owns_base (owns_later H2.out.1.1 hb3) hz1, H2.out.1.2⟩
  have HO3 : Hid (One (w.alloc (.cells #[.bool false, .slice none 0 0, .slice none 0 0] 24)) w3 (.slice a3 z3.length c3) z3 (rde s.data.toList)) := ⟨owns_base H3.out.1.1 (by omega), H3.out.1.2.1, H3.out.1.2.2.1, by rw [HDE.out]; exact H3.out.1.2.2.2⟩
  have HCUT : Hid (Cut (w.alloc (.cells #[.bool false, .slice none 0 0, .slice none 0 0] 24)) (.slice a2 z2.length c2) (.slice a3 z3.length c3) w3) := cut_two hz1 hz2 hz3 (World.ownsRow.lt H2.out.1.1) (World.ownsRow.lt H3.out.1.1)
  have HLL := hid (And.intro H2.out.2 H3.out.2)
  clear hb1 hb2 hb3 hz1 hz2 hz3 H2 H3
  have HBB := hid hbb
  subst hbb
  go_wp2_with fail
  refine bodyPost_ret (v := .agg #[.bool (rneg s.data.toList), .slice a2 z2.length c2, .slice a3 z3.length c3]) (by simp [results, Tryz.results35, go_sem, r0, r1, r2]) rfl ?_
  exact rread_put HB.out HLT.out HW.out HO2.out HO3.out HCUT.out HLL.out.1 HLL.out.2 rfl HU.out (.inr ⟨HV.out, HO.out⟩) _ _ _
end Go.Proofs.YtbnhpkelnoolhaaGreatDoor

/- Fractions read from a text: ratio.Parse, for any text. -/
namespace Go.Proofs.YtbnhpkelnoolhaaGreatDoor
open Go.RowKit Go.Lib
set_option linter.unusedVariables false

theorem read_any (s : ByteArray) (w : World) (hs : s.size ≤ 65536) : Calls Tryz.prog 35 #[.string s] w (RRead w s.data.toList) := by
  by_cases hB : rbar s.data.toList = -1
  · by_cases hU : IsNum (rup s.data.toList)
    · exact read_B s w hs hB hU
    · exact read_A1 s w hs hB hU
  · by_cases hU : IsNum (rup s.data.toList)
    · by_cases hV : IsNum (rdn s.data.toList)
      · by_cases hO : rde s.data.toList = 1
        · exact read_D s w hs hB hU hV hO
        · exact read_E s w hs hB hU hV hO
      · exact read_C s w hs hB hU hV
    · exact read_A2 s w hs hB hU
theorem prErr_good {s : ByteArray} (hs : s.size ≤ 65536) (h : rgood s.data.toList) : prErr s = 0 := by unfold prErr; rw [if_neg (by omega), if_pos h]
theorem prErr_bad {s : ByteArray} (hs : s.size ≤ 65536) (h : ¬ rgood s.data.toList) : prErr s = 130 := by unfold prErr; rw [if_neg (by omega), if_neg h]
theorem prErr_long {s : ByteArray} (hs : 65536 < s.size) : prErr s = 3 := by unfold prErr; rw [if_pos hs]
theorem rtold_zero {w W : World} {e : Int} {q : Rat} (he : e ≠ 0) (hb : Below w.heap.size w W) : RToldA w e q (.returned (.tuple #[.agg #[.bool false, .slice none 0 0, .slice none 0 0], .int .i64 e])) W :=
  ⟨false, _, [], _, [], e, rfl, World.ownsRow_nil _ _ _ _, World.ownsRow_nil _ _ _ _, RTells.err he, hb, W.heap.size, hb.size, Nat.le_refl _, fun g hg => by simp [Value.ownBlock] at hg, fun g hg => by simp [Value.ownBlock] at hg⟩

set_option maxHeartbeats 3200000 in
set_option maxRecDepth 100000 in
theorem rparse_long (s : ByteArray) (w : World) (hs : 65536 < s.size) (hm : s.size ≤ 9223372036854775807) (q : Rat) : Calls Tryz.prog 9 #[.string s] w (RToldA w 3 q) := by
  have hs' : (65536 : Int) < (s.size : Int) := by omega
  go_enter Tryz.func9, Tryz.ntmps9
  go_wp2_with fail
  refine bodyPost_ret (v := .tuple #[.agg #[.bool false, .slice none 0 0, .slice none 0 0], .int .i64 3]) (by simp [results, Tryz.results9, go_sem]) rfl ?_
  exact rtold_zero (by decide) (alloc_later _ _)
set_option maxHeartbeats 6400000 in
set_option maxRecDepth 100000 in
theorem rparse_any (s : ByteArray) (w : World) (hs : s.size ≤ 65536) : Calls Tryz.prog 9 #[.string s] w (RToldA w (prErr s) (rpq s.data.toList)) := by
  have hs' : ¬ (65536 : Int) < (s.size : Int) := by omega
  have HB := hid (alloc_later w (.cells #[.bool false, .slice none 0 0, .slice none 0 0] 24))
  have HZ := hid (Box.made w 24 #[.bool false, .slice none 0 0, .slice none 0 0])
  have HLT : Hid (w.heap.size < (w.alloc (.cells #[.bool false, .slice none 0 0, .slice none 0 0] 24)).heap.size) := by show _ < _; simp
  have HR := hid (read_any s (w.alloc (.cells #[.bool false, .slice none 0 0, .slice none 0 0] 24)) hs)
  by_cases hg : rgood s.data.toList
  · rw [prErr_good hs hg]
    have HG := hid hg
    clear hg hs
    go_enter Tryz.func9, Tryz.ntmps9
    go_wp2_with fail
    refine Calls.mono HR.out ?_
    generalize (w.alloc (.cells #[.bool false, .slice none 0 0, .slice none 0 0] 24)) = X at *
    rintro e w1 ⟨n, v, xs, u, ys, rfl, o1, o2, wx, wy, lx, ly, hiff, hval, hb1, hcut⟩
    obtain ⟨a1, c1, hv⟩ := own_slice' o1
    subst hv
    obtain ⟨a2, c2, hv⟩ := own_slice' o2
    subst hv
    obtain ⟨hn, tx, ty, vx, vy⟩ := hval HG.out
    have HAL := hid (alloc_later w1 (.cells #[.bool n, .slice a1 xs.length c1, .slice a2 ys.length c2] 24))
    have HBX := hid (Box.made w1 24 #[.bool n, .slice a1 xs.length c1, .slice a2 ys.length c2])
    have HI := inOneForm_any n _ xs _ ys (w1.alloc (.cells #[.bool n, .slice a1 xs.length c1, .slice a2 ys.length c2] 24)) ((Sl.own o1 wx).later HAL.out) ((Sl.own o2 wy).later HAL.out) (by omega) (by omega)
    rw [decide_eq_true (hiff.2 HG.out)] at HI
    have HH := hid HI
    have HO1 : Hid (One X w1 (.slice a1 xs.length c1) xs (rnu s.data.toList)) := ⟨o1, wx, tx, vx⟩
    have HO2 : Hid (One X w1 (.slice a2 ys.length c2) ys (rde s.data.toList)) := ⟨o2, wy, ty, vy⟩
    have HCUT := hid hcut
    have HN := hid hn
    have HB1 := hid (bt hb1 HAL.out)
    clear o1 o2 wx wy lx ly hiff hval hb1 hcut HI hn tx ty vx vy HR
    go_wp2_with fail
    refine Calls.mono HH.out ?_
    rintro e w2 ⟨rfl, hb2⟩
    obtain ⟨p0, p1, p2, _, _, _⟩ := res_box3 HBX.out hb2
    have HAB := hid (bt HAL.out hb2)
    have hz := HAB.out.size
    have HT := hid (rtold_cut2 (n := n) (q := rpq s.data.toList) (bt HB1.out hb2) (HO1.out.later HAB.out) (HO2.out.later HAB.out) (HCUT.out.up (Nat.le_refl _) hz) HG.out.2.2.1 HG.out.2.2.2.2 (by rw [HN.out]; rfl))
    have HB2 := hid (bt HB1.out hb2)
    clear hb2 HH HAB HBX HAL
    go_wp2_with fail
    refine Calls.mono HT.out ?_
    rintro e w3 ⟨k9, a8, z8, c8, a9, z9, c9, code, rfl, HE9, hb3, _⟩
    obtain ⟨r0, r1, r2, f0, f1, f2⟩ := res_box3 HZ.out hb3
    have HBW := hid (bt HB.out hb3)
    clear hb3 HT
    go_wp2_with fail
    refine bodyPost_ret (v := .tuple #[.agg #[.bool k9, .slice a8 z8.length c8, .slice a9 z9.length c9], .int .i64 code]) (by simp [results, Tryz.results9, go_sem, r0, r1, r2]) rfl ?_
    exact RToldA.put HE9.out w.heap.size HLT.out (Nat.le_refl _) HBW.out _ _ _
  · rw [prErr_bad hs hg]
    have HG := hid hg
    clear hg hs
    go_enter Tryz.func9, Tryz.ntmps9
    go_wp2_with fail
    refine Calls.mono HR.out ?_
    generalize (w.alloc (.cells #[.bool false, .slice none 0 0, .slice none 0 0] 24)) = X at *
    rintro e w1 ⟨n, v, xs, u, ys, rfl, o1, o2, wx, wy, lx, ly, hiff, hval, hb1, hcut⟩
    obtain ⟨a1, c1, hv⟩ := own_slice' o1
    subst hv
    obtain ⟨a2, c2, hv⟩ := own_slice' o2
    subst hv
    have HAL := hid (alloc_later w1 (.cells #[.bool n, .slice a1 xs.length c1, .slice a2 ys.length c2] 24))
    have HI := inOneForm_any n _ xs _ ys (w1.alloc (.cells #[.bool n, .slice a1 xs.length c1, .slice a2 ys.length c2] 24)) ((Sl.own o1 wx).later HAL.out) ((Sl.own o2 wy).later HAL.out) (by omega) (by omega)
    rw [decide_eq_false (fun e => HG.out (hiff.1 e))] at HI
    have HH := hid HI
    have HB1 := hid (bt hb1 HAL.out)
    clear o1 o2 wx wy lx ly hiff hval hb1 hcut HI HR
    go_wp2_with fail
    refine Calls.mono HH.out ?_
    rintro e w2 ⟨rfl, hb2⟩
    obtain ⟨r0, r1, r2, f0, f1, f2⟩ := res_box3 HZ.out (bt HB1.out hb2)
    have HBW := hid (bt HB.out (bt HB1.out hb2))
    clear hb2 HH
    go_wp2_with fail
    refine bodyPost_ret (v := .tuple #[.agg #[.bool false, .slice none 0 0, .slice none 0 0], .int .i64 130]) (by simp [results, Tryz.results9, go_sem, r0, r1, r2]) rfl ?_
    exact rtold_zero (by decide) (below_put3 HBW.out _ (Nat.le_refl _) _ _ _)
end Go.Proofs.YtbnhpkelnoolhaaGreatDoor

/- The document's answer for Parse of a fraction: how many digits stand at a place; the number that digits say. -/
namespace Go.Proofs.YtbnhpkelnoolhaaGreatDoor
open Go.RowKit Go.Lib
set_option linter.unusedVariables false

def dig (c : UInt8) : Prop := 48 ≤ (c.toNat : Int) ∧ (c.toNat : Int) ≤ 57
/-- Just the first n from a place on are digits. -/
structure Lead (l : List UInt8) (at' n : Nat) : Prop where
  len : at' + n ≤ l.length
  all : ∀ j, j < n → dig (l[at' + j]?.getD 0)
  stop : at' + n < l.length → ¬ dig (l[at' + n]?.getD 0)
/-- What digits tells. -/
def Digs (l : List UInt8) (at' n r : Nat) : Prop := Lead l at' n ∧ ((r = n ∧ (1 < n → l[at']?.getD 0 ≠ 48)) ∨ (r = 0 ∧ 1 < n ∧ l[at']?.getD 0 = 48))

set_option maxHeartbeats 6400000 in
set_option maxRecDepth 100000 in
theorem digits_any (s : ByteArray) (at' : Nat) (w : World) (hs : s.size ≤ 65536) (ha : at' ≤ s.size) :
    Calls Tryz.prog 38 #[.string s, .int .i64 at'] w fun e w' => ∃ n r : Nat, e = .returned (.int .i64 r) ∧ Hid (Digs s.data.toList at' n r) ∧ w = w' := by
  have HL := hid (size_list s)
  go_enter Tryz.func38, Tryz.ntmps38
  go_wp2_with fail
  go_loop [5] (fun t => ∃ k : Nat, at' + k ≤ s.size ∧ t = .int .i64 k ∧ Hid (∀ j : Nat, j < k → dig (s.data.toList[at' + j]?.getD 0))) (fun t => s.size - (RowKit.intOf t).toNat)
  case atStart => exact ⟨0, by omega, rfl, fun j hj => by omega⟩
  case round =>
    obtain ⟨k, hk, rfl, HJ⟩ := hrel
    have hw : IntKind.i64.wrap ((at' : Int) + (k : Int)) = (at' : Int) + (k : Int) := by rw [IntKind.wrap_i64]; omega
    by_cases hlt : at' + k < s.size
    · have hlt' : (at' : Int) + (k : Int) < (s.size : Int) := by omega
      have h0 : (0 : Int) ≤ (at' : Int) + (k : Int) := by omega
      have htn : ((at' : Int) + (k : Int)).toNat = at' + k := by omega
      have bk := byte_at s (at' + k) hlt
      by_cases d1 : (s[at' + k].toNat : Int) < 48
      · have HLD : Hid (Lead s.data.toList at' k) := ⟨by have := HL.out; omega, HJ.out, fun _ h => by rw [bk] at h; have h1 : 48 ≤ (s[at' + k].toNat : Int) := h.1; omega⟩
        clear bk
        by_cases hk1 : 1 < k
        · have hk1' : (1 : Int) < (k : Int) := by omega
          have ha' : at' < s.size := by omega
          have b0 := byte_at s at' ha'
          by_cases hz : (s[at'].toNat : Int) = 48
          · have hz' : ((s[at'].toNat : Int) == 48) = true := by simp [hz]
            have HZ : Hid (s.data.toList[at']?.getD 0 = 48) := by show _ = _; rw [b0]; exact UInt8.toNat_inj.1 (by show s[at'].toNat = 48; omega)
            clear b0 hz
            go_wp2_with fail
            go_ret
            exact ⟨k, 0, rfl, ⟨HLD.out, .inr ⟨rfl, hk1, HZ.out⟩⟩, rfl⟩
          · have hz' : ((s[at'].toNat : Int) == 48) = false := by simp [hz]
            have HZ : Hid (s.data.toList[at']?.getD 0 ≠ 48) := fun h => by rw [b0] at h; apply hz; have h2 : s[at'] = 48 := h; rw [h2]; rfl
            clear b0 hz
            go_wp2_with fail
            go_ret
            exact ⟨k, k, rfl, ⟨HLD.out, .inl ⟨rfl, fun _ => HZ.out⟩⟩, rfl⟩
        · have hk1' : ¬ (1 : Int) < (k : Int) := by omega
          go_wp2_with fail
          go_ret
          exact ⟨k, k, rfl, ⟨HLD.out, .inl ⟨rfl, fun h => absurd h hk1⟩⟩, rfl⟩
      · by_cases d2 : 57 < (s[at' + k].toNat : Int)
        · have HLD : Hid (Lead s.data.toList at' k) := ⟨by have := HL.out; omega, HJ.out, fun _ h => by rw [bk] at h; have h1 : (s[at' + k].toNat : Int) ≤ 57 := h.2; omega⟩
          clear bk
          by_cases hk1 : 1 < k
          · have hk1' : (1 : Int) < (k : Int) := by omega
            have ha' : at' < s.size := by omega
            have b0 := byte_at s at' ha'
            by_cases hz : (s[at'].toNat : Int) = 48
            · have hz' : ((s[at'].toNat : Int) == 48) = true := by simp [hz]
              have HZ : Hid (s.data.toList[at']?.getD 0 = 48) := by show _ = _; rw [b0]; exact UInt8.toNat_inj.1 (by show s[at'].toNat = 48; omega)
              clear b0 hz
              go_wp2_with fail
              go_ret
              exact ⟨k, 0, rfl, ⟨HLD.out, .inr ⟨rfl, hk1, HZ.out⟩⟩, rfl⟩
            · have hz' : ((s[at'].toNat : Int) == 48) = false := by simp [hz]
              have HZ : Hid (s.data.toList[at']?.getD 0 ≠ 48) := fun h => by rw [b0] at h; apply hz; have h2 : s[at'] = 48 := h; rw [h2]; rfl
              clear b0 hz
              go_wp2_with fail
              go_ret
              exact ⟨k, k, rfl, ⟨HLD.out, .inl ⟨rfl, fun _ => HZ.out⟩⟩, rfl⟩
          · have hk1' : ¬ (1 : Int) < (k : Int) := by omega
            go_wp2_with fail
            go_ret
            exact ⟨k, k, rfl, ⟨HLD.out, .inl ⟨rfl, fun h => absurd h hk1⟩⟩, rfl⟩
        · have HJ' : Hid (∀ j : Nat, j < k + 1 → dig (s.data.toList[at' + j]?.getD 0)) := fun j hj => by
            by_cases e : j = k
            · rw [e, bk]; show 48 ≤ (s[at' + k].toNat : Int) ∧ (s[at' + k].toNat : Int) ≤ 57; omega
            · exact HJ.out j (by omega)
          clear bk
          go_wp2_with fail
          go_round
          case rel => exact ⟨k + 1, by omega, by go_num, HJ'⟩
          case measure => simp [RowKit.intOf]; omega
    · have hlt' : ¬ (at' : Int) + (k : Int) < (s.size : Int) := by omega
      have HLD : Hid (Lead s.data.toList at' k) := ⟨by have := HL.out; omega, HJ.out, fun h => by have := HL.out; omega⟩
      by_cases hk1 : 1 < k
      · have hk1' : (1 : Int) < (k : Int) := by omega
        have ha' : at' < s.size := by omega
        have b0 := byte_at s at' ha'
        by_cases hz : (s[at'].toNat : Int) = 48
        · have hz' : ((s[at'].toNat : Int) == 48) = true := by simp [hz]
          have HZ : Hid (s.data.toList[at']?.getD 0 = 48) := by show _ = _; rw [b0]; exact UInt8.toNat_inj.1 (by show s[at'].toNat = 48; omega)
          clear b0 hz
          go_wp2_with fail
          go_ret
          exact ⟨k, 0, rfl, ⟨HLD.out, .inr ⟨rfl, hk1, HZ.out⟩⟩, rfl⟩
        · have hz' : ((s[at'].toNat : Int) == 48) = false := by simp [hz]
          have HZ : Hid (s.data.toList[at']?.getD 0 ≠ 48) := fun h => by rw [b0] at h; apply hz; have h2 : s[at'] = 48 := h; rw [h2]; rfl
          clear b0 hz
          go_wp2_with fail
          go_ret
          exact ⟨k, k, rfl, ⟨HLD.out, .inl ⟨rfl, fun _ => HZ.out⟩⟩, rfl⟩
      · have hk1' : ¬ (1 : Int) < (k : Int) := by omega
        go_wp2_with fail
        go_ret
        exact ⟨k, k, rfl, ⟨HLD.out, .inl ⟨rfl, fun h => absurd h hk1⟩⟩, rfl⟩

theorem number_good (T : ByteArray) (w : World) (hs : T.size ≤ 65536) (l : List UInt8) (hl : T.data.toList = l) (h : IsNum l) :
    Calls Tryz.prog 39 #[.string T] w fun x w' => ∃ a zs c, x = .returned (.slice a (List.length zs) c) ∧ Hid (One w w' (.slice a (List.length zs) c) zs (numTo l l.length) ∧ zs.length ≤ 8192) ∧ Below w.heap.size w w' := by
  have HP := refParse_any T w (by unfold maxLen; omega)
  rw [pErr_ok T hs (by rw [hl]; exact h)] at HP
  have hw := num_wide h.2.2 (by rw [← hl, size_list]; exact hs)
  have HQ : Hid (Calls Tryz.prog 70 #[.string T] w fun x w' => ∃ a zs c, x = .returned (.tuple #[.slice a (List.length zs) c, .int .i64 0]) ∧ Hid (One w w' (.slice a (List.length zs) c) zs (numTo l l.length) ∧ zs.length ≤ 8192) ∧ Hid (Below w.heap.size w w')) := by
    refine Calls.mono HP ?_
    rintro x w' ⟨v, zs, code, rfl, o, t, hb⟩
    obtain ⟨a, c, hv⟩ := own_slice' o
    subst hv
    have e : numTo T.data.toList T.size = numTo l l.length := by rw [← size_list, hl]
    rw [e] at t
    obtain ⟨rfl, hz⟩ := t.good rfl hw
    exact ⟨a, zs, c, rfl, ⟨⟨o, t.wd, t.trim, hz⟩, own_len (U := w) (V := w') ⟨o, t.wd, t.trim, hz⟩ hw⟩, hb⟩
  clear HP hw hs hl h
  go_enter Tryz.func39, Tryz.ntmps39
  go_wp2_with fail
  refine Calls.mono HQ.out ?_
  rintro e w1 ⟨a, zs, c, rfl, HE, HB⟩
  go_wp2_with fail
  go_ret
  exact ⟨a, zs, c, rfl, HE, HB.out⟩
end Go.Proofs.YtbnhpkelnoolhaaGreatDoor

/- What the digits at a place say of a text: whether it is a fraction's own. -/
namespace Go.Proofs.YtbnhpkelnoolhaaGreatDoor
open Go.RowKit Go.Lib
set_option linter.unusedVariables false

theorem Lead.uniq {l : List UInt8} {A n m : Nat} (h : Lead l A n) (g : Lead l A m) : n = m := by
  by_cases c : n < m
  · exact absurd (g.all n c) (h.stop (by have := g.len; omega))
  · by_cases d : m < n
    · exact absurd (h.all m d) (g.stop (by have := h.len; omega))
    · omega
theorem Digs.uniq {l : List UInt8} {A n m r q : Nat} (h : Digs l A n r) (g : Digs l A m q) : n = m ∧ r = q := by
  obtain rfl := h.1.uniq g.1
  refine ⟨rfl, ?_⟩
  rcases h.2 with ⟨h1, h2⟩ | ⟨h1, h2, h3⟩
  · rcases g.2 with ⟨g1, g2⟩ | ⟨g1, g2, g3⟩
    · omega
    · exact absurd g3 (h2 g2)
  · rcases g.2 with ⟨g1, g2⟩ | ⟨g1, g2, g3⟩
    · exact absurd h3 (g2 h2)
    · omega
theorem lead_ex (l : List UInt8) : ∀ (k A : Nat), A + k = l.length → ∃ n, Lead l A n
  | 0, A, h => ⟨0, by omega, fun j hj => by omega, fun h' => by omega⟩
  | k + 1, A, h => by
    by_cases c : dig (l[A]?.getD 0)
    · obtain ⟨n, hn⟩ := lead_ex l k (A + 1) (by omega)
      refine ⟨n + 1, by have := hn.len; omega, fun j hj => ?_, fun h' => ?_⟩
      · cases j with
        | zero => exact c
        | succ j => have e := hn.all j (by omega); rw [show A + 1 + j = A + (j + 1) by omega] at e; exact e
      · have e := hn.stop (by omega)
        rw [show A + 1 + n = A + (n + 1) by omega] at e
        exact e
    · exact ⟨0, by omega, fun j hj => by omega, fun _ => c⟩
theorem digs_ex {l : List UInt8} {A : Nat} (h : A ≤ l.length) : ∃ n r, Digs l A n r := by
  obtain ⟨n, hn⟩ := lead_ex l (l.length - A) A (by omega)
  by_cases c : 1 < n ∧ l[A]?.getD 0 = 48
  · exact ⟨n, 0, hn, .inr ⟨rfl, c.1, c.2⟩⟩
  · exact ⟨n, n, hn, .inl ⟨rfl, fun h1 h2 => c ⟨h1, h2⟩⟩⟩
theorem at_drop (l : List UInt8) (A j : Nat) : (l.drop A)[j]? = l[A + j]? := by rw [List.getElem?_drop]
theorem lead_dg {l : List UInt8} {A n : Nat} (h : Lead l A n) : Dg ((l.drop A).take n) := fun c hc => by
  obtain ⟨j, hj, e⟩ := List.mem_iff_getElem.1 hc
  have hj' : j < n := by rw [List.length_take] at hj; omega
  have e2 : ((l.drop A).take n)[j]? = some c := by rw [List.getElem?_eq_getElem hj, e]
  rw [List.getElem?_take_of_lt hj', at_drop] at e2
  have t := h.all j hj'
  rw [e2] at t
  exact t
theorem lead_len {l : List UInt8} {A n : Nat} (h : Lead l A n) : ((l.drop A).take n).length = n := by
  have := h.len
  rw [List.length_take, List.length_drop]; omega
theorem digs_num {l : List UInt8} {A n r : Nat} (h : Digs l A n r) (hr : r ≠ 0) : r = n ∧ IsNum ((l.drop A).take n) := by
  rcases h.2 with ⟨h1, h2⟩ | ⟨h1, h2, h3⟩
  · refine ⟨h1, ?_⟩
    have e := lead_len h.1
    refine ⟨by omega, fun h0 => ?_, lead_dg h.1⟩
    rw [e]
    rw [List.getElem?_take_of_lt (by omega), at_drop, Nat.add_zero] at h0
    by_cases c : 1 < n
    · exact absurd h0 (h2 c)
    · omega
  · omega
theorem digs_not {l : List UInt8} {A n : Nat} (h : Digs l A n 0) : ¬ IsNum ((l.drop A).take n) := fun g => by
  have e := lead_len h.1
  have g1 := g.1
  have g2 := g.2.1
  rw [e] at g1 g2
  rcases h.2 with ⟨h1, h2⟩ | ⟨h1, h2, h3⟩
  · omega
  · rw [List.getElem?_take_of_lt (by omega), at_drop, Nat.add_zero] at g2
    have := g2 h3
    omega
/-- Where the sign ends. -/
def from' (l : List UInt8) : Nat := if rneg l then 1 else 0
theorem wdig_from (l : List UInt8) : wdig (rneg l) l = l.drop (from' l) := by
  unfold wdig from'
  cases rneg l <;> simp
theorem up_end {l : List UInt8} {n : Nat} (h : Lead l (from' l) n) (he : from' l + n = l.length) : rbar l = -1 ∧ rup l = (l.drop (from' l)).take n := by
  have e : (l.drop (from' l)).take n = l.drop (from' l) := List.take_of_length_le (by rw [List.length_drop]; omega)
  have d := lead_dg h
  rw [e] at d ⊢
  have b : rbar l = -1 := by unfold rbar; rw [wdig_from]; exact bar_none d
  exact ⟨b, by unfold rup; rw [if_pos b, wdig_from]⟩
theorem lead_split {l : List UInt8} {A n : Nat} {c : UInt8} (h : Lead l A n) (hc : l[A + n]? = some c) : l.drop A = (l.drop A).take n ++ c :: l.drop (A + n + 1) := by
  obtain ⟨hk, e2⟩ := List.getElem?_eq_some_iff.1 hc
  have e3 := List.drop_eq_getElem_cons hk
  rw [e2] at e3
  rw [← e3, ← List.drop_drop, List.take_append_drop]
theorem up_bar {l : List UInt8} {n : Nat} (h : Lead l (from' l) n) (hc : l[from' l + n]? = some 47) : rbar l = n ∧ rup l = (l.drop (from' l)).take n ∧ rdn l = l.drop (from' l + n + 1) := by
  have e := lead_split h hc
  have ln := lead_len h
  have b : rbar l = n := by
    unfold rbar
    rw [wdig_from, e, bar_at (lead_dg h), ln]
  have nb : ¬ rbar l = -1 := by omega
  refine ⟨b, ?_, ?_⟩
  · unfold rup; rw [if_neg nb, wdig_from, b]; rfl
  · unfold rdn
    rw [if_neg nb, wdig_from, b, List.drop_drop]
    congr 1
theorem up_other {l : List UInt8} {n : Nat} (h : Lead l (from' l) n) (hl : from' l + n < l.length) (hc : l[from' l + n]?.getD 0 ≠ 47) : ¬ IsNum (rup l) := fun g => by
  have hz : (wdig (rneg l) l)[n]? = l[from' l + n]? := by rw [wdig_from, at_drop]
  have hs := h.stop hl
  have hsome : l[from' l + n]? = some (l[from' l + n]?.getD 0) := by rw [List.getElem?_eq_getElem hl]; rfl
  have hin : l[from' l + n]?.getD 0 ∈ rup l := by
    unfold rup
    by_cases b : rbar l = -1
    · rw [if_pos b]
      exact List.mem_of_getElem? (hz.trans hsome)
    · rw [if_neg b]
      have g1 := indexByte_ge (wdig (rneg l) l) 47
      have eb : rbar l = indexByte (wdig (rneg l) l) 47 := rfl
      obtain ⟨e1, e2⟩ := indexByte_some (l := wdig (rneg l) l) (c := 47) (o := (rbar l).toNat) (by omega)
      have k1 : ¬ (rbar l).toNat < n := fun hk => by
        have t := h.all _ hk
        rw [← at_drop, ← wdig_from, e1] at t
        exact absurd t.1 (by decide)
      have k2 : (rbar l).toNat ≠ n := fun hk => by
        rw [hk, hz, hsome] at e1
        exact hc (Option.some.inj e1)
      exact List.mem_of_getElem? (i := n) (by rw [List.getElem?_take_of_lt (by omega)]; exact hz.trans hsome)
  exact hs (g.2.2 _ hin)
theorem bad_first {l : List UInt8} {n : Nat} (h : Digs l (from' l) n 0) : ¬ rgood l := fun g => by
  by_cases c : from' l + n < l.length
  · by_cases d : l[from' l + n]?.getD 0 = 47
    · have e : l[from' l + n]? = some 47 := by rw [List.getElem?_eq_getElem c] at d ⊢; exact congrArg some d
      obtain ⟨_, e2, _⟩ := up_bar h.1 e
      exact digs_not h (e2 ▸ g.1)
    · exact up_other h.1 c d g.1
  · obtain ⟨_, e2⟩ := up_end h.1 (by have := h.1.len; omega)
    exact digs_not h (e2 ▸ g.1)
theorem up_any {l : List UInt8} {n : Nat} (h : Lead l (from' l) n) (g : IsNum (rup l)) : rup l = (l.drop (from' l)).take n := by
  by_cases c : from' l + n < l.length
  · by_cases d : l[from' l + n]?.getD 0 = 47
    · have e : l[from' l + n]? = some 47 := by rw [List.getElem?_eq_getElem c] at d ⊢; exact congrArg some d
      exact (up_bar h e).2.1
    · exact absurd g (up_other h c d)
  · exact (up_end h (by have := h.len; omega)).2
/-- A nought behind a minus. -/
theorem bad_zero {l : List UInt8} {n r : Nat} (h : Digs l (from' l) n r) (hr : r ≠ 0) (hn : rneg l = true) (hz : l[1]?.getD 0 = 48) : ¬ rgood l := fun g => by
  obtain ⟨rfl, _⟩ := digs_num h hr
  have ef : from' l = 1 := by unfold from'; rw [hn]; rfl
  have e := up_any h.1 g.1
  have ln := lead_len h.1
  have g2 := g.1.2.1
  have h0 : (rup l)[0]?.getD 0 = 48 := by rw [e, List.getElem?_take_of_lt (by omega), at_drop, ef]; exact hz
  have l1 := g2 h0
  rw [e, ln] at l1
  have r1 : r = 1 := by omega
  have hnu : rnu l = 0 := by
    unfold rnu
    rw [show (rup l).length = 1 by rw [e, ln]; exact r1]
    have h1 : (rup l)[0]?.getD 48 = 48 := by
      cases hx : (rup l)[0]? with
      | none => rfl
      | some c => rw [hx] at h0; exact h0
    simp only [numTo]
    rw [h1]; rfl
  rcases g.2.2.2.1 with t | t
  · rw [hn] at t; cases t
  · omega
theorem sign_good {l : List UInt8} {n r : Nat} (h : Digs l (from' l) n r) (hr : r ≠ 0) (hu : rup l = (l.drop (from' l)).take n) (hz : rneg l = true → l[1]?.getD 0 ≠ 48) : rneg l = false ∨ 0 < rnu l := by
  cases hn : rneg l with
  | false => exact .inl rfl
  | true =>
    right
    obtain ⟨rfl, hN⟩ := digs_num h hr
    have ef : from' l = 1 := by unfold from'; rw [hn]; rfl
    have ln := lead_len h.1
    have h0 : ¬ (rup l)[0]?.getD 0 = 48 := by rw [hu, List.getElem?_take_of_lt (by omega), at_drop, ef]; exact hz hn
    have t := num_pos (rup l) (by rw [hu]; exact hN.2.2) h0 (by rw [hu, ln]; omega) (r - 1)
    unfold rnu
    rw [hu, ln] at *
    rw [show r - 1 + 1 = r by omega] at t
    omega
theorem good_end {l : List UInt8} {n r : Nat} (h : Digs l (from' l) n r) (hr : r ≠ 0) (he : from' l + n = l.length) (hz : rneg l = true → l[1]?.getD 0 ≠ 48) : rgood l ∧ rnu l = numTo ((l.drop (from' l)).take n) ((l.drop (from' l)).take n).length ∧ rde l = 1 := by
  obtain ⟨b, e⟩ := up_end h.1 he
  have d : rde l = 1 := by unfold rde; rw [if_pos b]
  refine ⟨⟨by rw [e]; exact (digs_num h hr).2, .inl b, by rw [d]; decide, sign_good h hr e hz, by rw [d]; unfold gcdI; simp⟩, by unfold rnu; rw [e], d⟩
theorem bad_behind {l : List UInt8} {n m q : Nat} (h : Lead l (from' l) n) (hc : l[from' l + n]? = some 47) (g : Digs l (from' l + n + 1) m q) (hq : q = 0 ∨ from' l + n + 1 + q ≠ l.length) : ¬ rgood l := fun t => by
  obtain ⟨b, _, e⟩ := up_bar h hc
  have tn : IsNum (rdn l) := t.2.1.elim (fun x => by omega) (fun x => x.1)
  rw [e] at tn
  by_cases c : from' l + n + 1 + m = l.length
  · have e2 : (l.drop (from' l + n + 1)).take m = l.drop (from' l + n + 1) := List.take_of_length_le (by rw [List.length_drop]; omega)
    rcases hq with rfl | hq
    · exact digs_not g (e2.symm ▸ tn)
    · by_cases hq0 : q = 0
      · subst hq0; exact digs_not g (e2.symm ▸ tn)
      · have := (digs_num g hq0).1
        omega
  · have lm := g.1.len
    have hlt : from' l + n + 1 + m < l.length := by omega
    refine g.1.stop hlt (tn.2.2 _ (List.mem_of_getElem? (i := m) ?_))
    rw [at_drop, List.getElem?_eq_getElem hlt]; rfl
theorem both_num {l : List UInt8} {n r m q : Nat} (h : Digs l (from' l) n r) (hr : r ≠ 0) (hc : l[from' l + n]? = some 47) (g : Digs l (from' l + n + 1) m q) (hq : q ≠ 0) (he : from' l + n + 1 + q = l.length) (hz : rneg l = true → l[1]?.getD 0 ≠ 48) :
    IsNum (l.drop (from' l + n + 1)) ∧ rnu l = numTo ((l.drop (from' l)).take n) ((l.drop (from' l)).take n).length ∧ rde l = numTo (l.drop (from' l + n + 1)) (l.drop (from' l + n + 1)).length ∧ (rgood l ↔ 0 < rde l ∧ rde l ≠ 1 ∧ gcdI (rnu l) (rde l) = 1) := by
  obtain ⟨b, e1, e2⟩ := up_bar h.1 hc
  obtain ⟨rfl, n1⟩ := digs_num h hr
  obtain ⟨rfl, n2⟩ := digs_num g hq
  have e3 : (l.drop (from' l + r + 1)).take q = l.drop (from' l + r + 1) := List.take_of_length_le (by rw [List.length_drop]; omega)
  rw [e3] at n2
  have nb : ¬ rbar l = -1 := by omega
  refine ⟨n2, by unfold rnu; rw [e1], by unfold rde; rw [if_neg nb, e2], ⟨fun t => ⟨t.2.2.1, t.2.1.elim (fun x => absurd x nb) (fun x => x.2), t.2.2.2.2⟩, fun t => ⟨by rw [e1]; exact n1, .inr ⟨by rw [e2]; exact n2, t.2.1⟩, t.1, sign_good h hr e1 hz, t.2.2⟩⟩⟩
end Go.Proofs.YtbnhpkelnoolhaaGreatDoor

/- Boxes of fractions, rows of the call's own and one box of a flag, in a bundle that is moved along. -/
namespace Go.Proofs.YtbnhpkelnoolhaaGreatDoor
open Go.RowKit
set_option linter.unusedVariables false

theorem Box.same {w : World} {b t : Nat} {vs : Array Value} (h : Box w b t vs) {j : Nat} {v : Value} (hv : vs[j]? = some v) : w.setCell ⟨b, j, none⟩ v = w := by
  have e : (w.setCell ⟨b, j, none⟩ v).heap = w.heap := by
    have h' : w.heap[b]? = some (.cells vs t (0, 0)) := h
    have hs : vs.setIfInBounds j v = vs := by
      apply Array.ext_getElem?
      intro k
      rw [Array.getElem?_setIfInBounds]
      by_cases c : j = k
      · subst c
        obtain ⟨hk, _⟩ := Array.getElem?_eq_some_iff.1 hv
        rw [if_pos rfl, if_pos hk, hv]
      · rw [if_neg c]
    unfold World.setCell
    apply Array.ext_getElem?
    intro k
    simp only [Array.getElem?_modify]
    by_cases c : b = k
    · subst c
      rw [if_pos rfl, h']
      simp [hs]
    · rw [if_neg c]
  cases w
  simp only [World.setCell] at e ⊢
  rw [e]
theorem own_put1 {w : World} {base e n : Nat} {v : Value} {xs : List Value} (h : w.ownsRow base e 1 v n xs) (b : Nat) (hb : ∀ g, v.ownBlock = some g → g ≠ b) (j : Nat) (v0 : Value) : (w.setCell ⟨b, j, none⟩ v0).ownsRow base e 1 v n xs := by
  have hne : v.ownBlock = none ∨ v.ownBlock ≠ some b := by
    cases hv : v.ownBlock with
    | none => exact .inl rfl
    | some g => right; intro e; exact hb g hv (Option.some.inj e)
  exact World.ownsRow.kept h (grown_set w ⟨b, j, none⟩ v0) hne
/-- Boxes that hold fractions. -/
def Bxs3 (W : World) (l : List (Nat × Array Value)) : Prop := ∀ p ∈ l, Box W p.1 24 p.2
def Rws (W : World) (l : List (Nat × Value × List Int)) : Prop := ∀ p ∈ l, W.ownsRow p.1 40 1 p.2.1 p.2.2.length (p.2.2.map (Value.int .u32))
/-- What is known of a world: boxes of fractions, rows of the call's own, what was there. -/
structure St (w W : World) (l : List (Nat × Array Value)) (r : List (Nat × Value × List Int)) : Prop where
  box : Bxs3 W l
  row : Rws W r
  bel : Below w.heap.size w W
theorem St.later {w W W' : World} {l : List (Nat × Array Value)} {r : List (Nat × Value × List Int)} (h : St w W l r) (hb : Below W.heap.size W W') : St w W' l r :=
  ⟨fun p hp => (h.box p hp).later hb (h.box p hp).lt, fun p hp => owns_later (h.row p hp) hb, bt h.bel hb⟩
theorem St.more {w W : World} {l : List (Nat × Array Value)} {r : List (Nat × Value × List Int)} (h : St w W l r) {base : Nat} {v : Value} {zs : List Int} (o : W.ownsRow base 40 1 v zs.length (zs.map (Value.int .u32))) : St w W l ((base, v, zs) :: r) :=
  ⟨h.box, fun p hp => by
    cases hp with
    | head => exact o
    | tail _ hp => exact h.row p hp, h.bel⟩
theorem St.put {w W : World} {l : List (Nat × Array Value)} {r : List (Nat × Value × List Int)} (h : St w W l r) (n : Bool) (v u : Value) : St w (W.alloc (.cells #[.bool n, v, u] 24)) ((W.heap.size, #[.bool n, v, u]) :: l) r :=
  ⟨fun p hp => by
    cases hp with
    | head => exact Box.made W _ _
    | tail _ hp => exact (h.box p hp).later (alloc_later _ _) (h.box p hp).lt, (h.later (alloc_later _ _)).row, (h.later (alloc_later _ _)).bel⟩
theorem St.get {w W : World} {l : List (Nat × Array Value)} {r : List (Nat × Value × List Int)} (h : St w W l r) {g : Nat} {n : Bool} {v u : Value} (hm : (g, #[.bool n, v, u]) ∈ l) : W.cell? ⟨g, 0, none⟩ = some (.bool n) ∧ W.cell? ⟨g, 1, none⟩ = some v ∧ W.cell? ⟨g, 2, none⟩ = some u := ⟨(h.box _ hm).cell 0, (h.box _ hm).cell 1, (h.box _ hm).cell 2⟩
theorem St.free {w W : World} {l : List (Nat × Array Value)} {r : List (Nat × Value × List Int)} (h : St w W l r) {g : Nat} {n : Bool} {v u : Value} (hm : (g, #[.bool n, v, u]) ∈ l) : W.frozen? ⟨g, 0, none⟩ = false ∧ W.frozen? ⟨g, 1, none⟩ = false ∧ W.frozen? ⟨g, 2, none⟩ = false := ⟨(h.box _ hm).free 0, (h.box _ hm).free 1, (h.box _ hm).free 2⟩
theorem St.same {w W : World} {l : List (Nat × Array Value)} {r : List (Nat × Value × List Int)} (h : St w W l r) {g : Nat} {n : Bool} {v u : Value} (hm : (g, #[.bool n, v, u]) ∈ l) : W.setCell ⟨g, 0, none⟩ (.bool n) = W ∧ W.setCell ⟨g, 1, none⟩ v = W ∧ W.setCell ⟨g, 2, none⟩ u = W := ⟨(h.box _ hm).same rfl, (h.box _ hm).same rfl, (h.box _ hm).same rfl⟩
theorem St.sl {w W : World} {l : List (Nat × Array Value)} {r : List (Nat × Value × List Int)} (h : St w W l r) {base : Nat} {v : Value} {zs : List Int} (wd : Wd zs) (hm : (base, v, zs) ∈ r) : Sl W v zs := Sl.own (h.row _ hm) wd
/-- A store into a box of another type. -/
theorem St.flag {w W : World} {l : List (Nat × Array Value)} {r : List (Nat × Value × List Int)} (h : St w W l r) {g t : Nat} {vs : Array Value} (b : Box W g t vs) (hg : w.heap.size ≤ g) (h1 : t ≠ 24) (h2 : t ≠ 40) (j : Nat) (v : Value) : St w (W.setCell ⟨g, j, none⟩ v) l r := by
  refine ⟨fun p hp => (h.box p hp).other _ _ (fun e => ?_), fun p hp => own_put1 (h.row p hp) g (own_ne_box (h.row p hp) b (Ne.symm h2)) _ _, h.bel.setCell (p := ⟨g, j, none⟩) hg _⟩
  · have e1 := h.box p hp
    rw [e] at e1
    have e2 : some (Obj.cells p.2 24 (0, 0)) = some (.cells vs t (0, 0)) := e1.symm.trans b
    injection e2 with e3
    injection e3 with _ e4 _
    exact h1 e4.symm
end Go.Proofs.YtbnhpkelnoolhaaGreatDoor

/- The laws of fractions: small, is, and awake (the document's examples), whatever the world, where the table of powers of ten stands. -/
namespace Go.Proofs.YtbnhpkelnoolhaaGreatDoor
open Go.RowKit Go.Lib
set_option linter.unusedVariables false

/-- A fraction told alone. -/
def RVal (w : World) (e : Int) (q : Rat) (x : Ending) (w' : World) : Prop :=
  ∃ n v xs u ys code, x = .returned (.agg #[.bool n, v, u]) ∧ w'.ownsRow w.heap.size 40 1 v xs.length (xs.map (Value.int .u32)) ∧ w'.ownsRow w.heap.size 40 1 u ys.length (ys.map (Value.int .u32)) ∧ RTells e q n xs ys code ∧ Below w.heap.size w w' ∧ Cut w v u w'
theorem RVal.put {w U w3 : World} {e : Int} {q : Rat} {k : Bool} {v u : Value} {zs ds : List Int} {code : Int} (h : w3.ownsRow U.heap.size 40 1 v zs.length (zs.map (Value.int .u32)) ∧ w3.ownsRow U.heap.size 40 1 u ds.length (ds.map (Value.int .u32)) ∧ RTells e q k zs ds code ∧ Cut U v u w3) (b : Nat) (hb : b < U.heap.size) (hw : w.heap.size ≤ b) (hbw : Below w.heap.size w w3) (x y z : Value) :
    RVal w e q (.returned (.agg #[.bool k, v, u])) (((w3.setCell ⟨b, 0, none⟩ x).setCell ⟨b, 1, none⟩ y).setCell ⟨b, 2, none⟩ z) :=
  ⟨k, v, zs, u, ds, code, rfl, owns_base (own_put3 h.1 b (fun g hg => by have := (World.ownsRow.lt h.1 g hg).1; omega) _ _ _) (by omega), owns_base (own_put3 h.2.1 b (fun g hg => by have := (World.ownsRow.lt h.2.1 g hg).1; omega) _ _ _) (by omega), h.2.2.1, below_put3 hbw b hw _ _ _, h.2.2.2.up (by omega) (by simp)⟩
set_option maxHeartbeats 1600000 in
set_option maxRecDepth 100000 in
theorem lawSmall_any (x y : Int) (w : World) (x0 : -9223372036854775808 ≤ x) (x1 : x ≤ 9223372036854775807) (y0 : -9223372036854775808 ≤ y) (y1 : y ≤ 9223372036854775807) :
    Calls Tryz.prog 19 #[.int .i64 x, .int .i64 y] w (RVal w (if y = 0 then 7 else 0) (Rat.divInt x y)) := by
  have HB := hid (alloc_later w (.cells #[.bool false, .slice none 0 0, .slice none 0 0] 24))
  have HZ := hid (Box.made w 24 #[.bool false, .slice none 0 0, .slice none 0 0])
  have HLT : Hid (w.heap.size < (w.alloc (.cells #[.bool false, .slice none 0 0, .slice none 0 0] 24)).heap.size) := by show _ < _; simp
  have HR := hid (rsmall_any x y (w.alloc (.cells #[.bool false, .slice none 0 0, .slice none 0 0] 24)) x0 x1 y0 y1)
  clear x0 x1 y0 y1
  generalize (if y = 0 then (7 : Int) else 0) = ee at *
  generalize Rat.divInt x y = q at *
  go_enter Tryz.func19, Tryz.ntmps19
  go_wp2_with fail
  refine Calls.mono HR.out ?_
  generalize (w.alloc (.cells #[.bool false, .slice none 0 0, .slice none 0 0] 24)) = X at *
  rintro e w1 ⟨n, v, xs, u, ys, code, rfl, o1, o2, t, hb1, hcut⟩
  obtain ⟨a1, c1, hv⟩ := own_slice' o1
  subst hv
  obtain ⟨a2, c2, hv⟩ := own_slice' o2
  subst hv
  have hb4 := bt hb1 (alloc_later w1 (.cells #[.bool n, .slice a1 xs.length c1, .slice a2 ys.length c2] 24))
  obtain ⟨r0, r1, r2, f0, f1, f2⟩ := res_box3 HZ.out hb4
  have HE := hid (And.intro (owns_later o1 (alloc_later w1 (.cells #[.bool n, .slice a1 xs.length c1, .slice a2 ys.length c2] 24))) (And.intro (owns_later o2 (alloc_later w1 (.cells #[.bool n, .slice a1 xs.length c1, .slice a2 ys.length c2] 24))) (And.intro t (hcut.up (Nat.le_refl _) (alloc_later w1 (.cells #[.bool n, .slice a1 xs.length c1, .slice a2 ys.length c2] 24)).size))))
  have HW := hid (bt HB.out hb4)
  have hne : w1.heap.size ≠ w.heap.size := by have := hb1.size; have := HLT.out; omega
  clear o1 o2 t hcut hb1 hb4 HR
  go_wp2_with fail
  refine bodyPost_ret (v := .agg #[.bool n, .slice a1 xs.length c1, .slice a2 ys.length c2]) (by simp [results, Tryz.results19, go_sem, r0, r1, r2]) rfl ?_
  exact RVal.put HE.out w.heap.size HLT.out (Nat.le_refl _) HW.out _ _ _
set_option maxHeartbeats 1600000 in
set_option maxRecDepth 100000 in
theorem lawIs_yes (n : Bool) (a : Option Addr) (ca : Nat) (xs : List Int) (b : Option Addr) (cb : Nat) (ys : List Int) (t : ByteArray) (w : World) (sx : Sl w (.slice a xs.length ca) xs) (sy : Sl w (.slice b ys.length cb) ys) (hx : rchk n xs ys = 0) (ht : t.data.toList = rtext n xs ys) (htab : Tab w) :
    Calls Tryz.prog 23 #[.agg #[.bool n, .slice a xs.length ca, .slice b ys.length cb], .int .i64 0, .string t] w fun e w' => e = .returned (.bool true) ∧ Below w.heap.size w w' := by
  have HB := hid (alloc_later w (.cells #[.bool n, .slice a xs.length ca, .slice b ys.length cb] 24))
  have HP := hid (rPrint_ok n a ca xs b cb ys (w.alloc (.cells #[.bool n, .slice a xs.length ca, .slice b ys.length cb] 24)) (sx.later HB.out) (sy.later HB.out) hx (htab.later HB.out))
  have HT := hid ht
  have hq : (t.toList == t.toList) = true := by simp
  clear sx sy hx ht htab
  go_enter Tryz.func23, Tryz.ntmps23
  go_wp2_with fail
  refine Calls.mono HP.out ?_
  rintro e w1 ⟨T, rfl, hT, hb1⟩
  obtain rfl : T = t := ByteArray.ext (Array.toList_inj.1 (hT.trans HT.out.symm))
  have HW := hid (bt HB.out hb1)
  clear hb1 HP hT HT
  go_wp2_with fail
  go_ret
  exact ⟨rfl, HW.out⟩
/-- What a call tells is the fraction that is known. -/
theorem RTells.lit {e : Int} {q : Rat} {n m : Bool} {xs ys us vs : List Int} {c : Int} (h : RTells e q n xs ys c) (he : e = 0) (wu : Wd us) (wv : Wd vs) (hk : rchk m us vs = 0) (hq : rq m us vs = q) : n = m ∧ xs = us ∧ ys = vs ∧ c = 0 := by
  subst he
  have g := RTells.self wu wv hk
  rw [hq] at g
  exact h.same g
theorem lit_wd {x : Int} (h0 : 0 ≤ x) (h1 : x < 4294967296) : Wd [x] := Wd.one ⟨h0, by omega⟩
theorem trim_one {x : Int} (h : x ≠ 0) : Trimmed [x] := by
  unfold Trimmed
  show szTo [x] 1 = 1
  simp [szTo, h]
theorem chk_lit (n : Bool) (x y : Int) (hx : 0 < x ∧ x < 4294967296) (hy : 0 < y ∧ y < 4294967296) (hg : gcdI x y = 1) : rchk n [x] [y] = 0 := by
  have e1 : val [x] = x := by simp [val, valTo]
  have e2 : val [y] = y := by simp [val, valTo]
  exact rchk_good (by simp) (by simp) (trim_one (by omega)) (trim_one (by omega)) (by simp) (.inr (by simp)) (by rw [e1, e2]; exact hg)
theorem wdn (x : Int) (h : 0 ≤ x ∧ x ≤ 4294967295) : Wd [x] := Wd.one h
theorem k32 : rchk true [3] [2] = 0 := chk_lit _ _ _ (by decide) (by decide) (by decide)
theorem k12 : rchk false [1] [2] = 0 := chk_lit _ _ _ (by decide) (by decide) (by decide)
theorem k13 : rchk false [1] [3] = 0 := chk_lit _ _ _ (by decide) (by decide) (by decide)
theorem k14 : rchk true [1] [4] = 0 := chk_lit _ _ _ (by decide) (by decide) (by decide)
theorem k56 : rchk false [5] [6] = 0 := chk_lit _ _ _ (by decide) (by decide) (by decide)
theorem k21 : rchk true [2] [1] = 0 := chk_lit _ _ _ (by decide) (by decide) (by decide)
theorem rq_lit (n : Bool) (x y : Int) : rq n [x] [y] = Rat.divInt (sg n x) y := by
  have e1 : val [x] = x := by simp [val, valTo]
  have e2 : val [y] = y := by simp [val, valTo]
  show Rat.divInt (sg n (val [x])) (val [y]) = _
  rw [e1, e2]
theorem q32 : rq true [3] [2] = Rat.divInt 6 (-4) := by rw [rq_lit]; decide +kernel
theorem q12 : rq false [1] [2] = Rat.divInt 1 2 := by rw [rq_lit]; decide +kernel
theorem q13 : rq false [1] [3] = Rat.divInt 1 3 := by rw [rq_lit]; decide +kernel
theorem q14 : rq true [1] [4] = Rat.divInt (-1) 4 := by rw [rq_lit]; decide +kernel
theorem q56 : rq false [5] [6] = rq false [1] [2] + rq false [1] [3] := by rw [rq_lit, rq_lit, rq_lit]; decide +kernel
theorem q21 : rq true [2] [1] = rq false [1] [2] / rq true [1] [4] := by rw [rq_lit, rq_lit, rq_lit]; decide +kernel
theorem t32 : ([45, 51, 47, 50] : List UInt8) = rtext true [3] [2] := by
  rw [rtext_eq, show val [3] = 3 by simp [val, valTo], show val [2] = 2 by simp [val, valTo], show (3 : Int).toNat = 3 from rfl, show (2 : Int).toNat = 2 from rfl, decDigits_one (by decide), decDigits_one (by decide)]
  decide
theorem t56 : ([53, 47, 54] : List UInt8) = rtext false [5] [6] := by
  rw [rtext_eq, show val [5] = 5 by simp [val, valTo], show val [6] = 6 by simp [val, valTo], show (5 : Int).toNat = 5 from rfl, show (6 : Int).toNat = 6 from rfl, decDigits_one (by decide), decDigits_one (by decide)]
  decide
theorem t21 : ([45, 50] : List UInt8) = rtext true [2] [1] := by
  rw [rtext_eq, show val [2] = 2 by simp [val, valTo], show (2 : Int).toNat = 2 from rfl, decDigits_one (by decide)]
  decide
theorem good32 : prErr ⟨#[45, 51, 47, 50]⟩ = 0 ∧ rpq (⟨#[45, 51, 47, 50]⟩ : ByteArray).data.toList = rq true [3] [2] := by
  have e : (⟨#[45, 51, 47, 50]⟩ : ByteArray).data.toList = rtext true [3] [2] := t32
  have w1 := wdn 3 (by decide)
  have w2 := wdn 2 (by decide)
  have hf : rform true [3] [2] := by
    have k := k32
    unfold rchk at k
    rw [if_neg (by decide)] at k
    by_cases c : rform true [3] [2]
    · exact c
    · rw [if_neg c] at k; exact absurd k (by decide)
  refine ⟨prErr_good (by decide) (by rw [e]; exact rgood_text w1 w2 hf), ?_⟩
  rw [e]
  exact rpq_text true w1 w2
theorem qErr_good {n m : Bool} {xs ys us vs : List Int} (h : rchk n xs ys = 0) (g : rchk m us vs = 0) (h0 : us ≠ []) : qErr n xs ys m us vs = 0 := by
  unfold qErr
  rw [if_pos (rboth_good h g), if_neg (fun e => h0 (List.length_eq_zero_iff.1 e))]

set_option maxHeartbeats 12800000 in
set_option maxRecDepth 100000 in
theorem rawake_any (w : World) (htab : Tab w) : Calls Tryz.prog 14 #[] w fun e w' => e = .returned (.bool true) ∧ Below w.heap.size w w' := by
  have H : Hid (St w w [] []) := ⟨(fun p hp => by cases hp), (fun p hp => by cases hp), Below.refl _ _⟩
  have HTAB := hid htab
  clear htab
  go_enter Tryz.func14, Tryz.ntmps14
  have HC := hid (rsmall_any 6 (-4) w (by decide) (by decide) (by decide) (by decide))
  go_wp2_with fail
  refine Calls.mono HC.out ?_
  rintro e w1 ⟨N1, U1, Z1, T1, D1, C1, rfl, o1, q1, t1, hb, hcut⟩
  clear HC
  obtain ⟨A1, K1, hs⟩ := own_slice' o1
  subst hs
  obtain ⟨B1, L1, hs⟩ := own_slice' q1
  subst hs
  have HT1 := hid t1
  have wz1 := t1.wx
  have wd1 := t1.wy
  obtain ⟨lz1, ld1⟩ := t1.len
  clear t1 hcut
  replace H := hid (H.out.later hb)
  clear hb
  replace H := hid (H.out.more o1)
  clear o1
  replace H := hid (H.out.more q1)
  clear q1
  have HL1 : Hid (N1 = true ∧ Z1 = [3] ∧ D1 = [2] ∧ C1 = 0) := HT1.out.lit (by decide) (wdn 3 (by decide)) (wdn 2 (by decide)) k32 (q32)
  clear HT1
  have hc1 : C1 = 0 := HL1.out.2.2.2
  subst hc1
  replace H := hid (H.out.put N1 (.slice A1 Z1.length K1) (.slice B1 D1.length L1))
  have HC := hid (lawSmall_any 1 2 (w1.alloc (.cells #[.bool N1, .slice A1 Z1.length K1, .slice B1 D1.length L1] 24)) (by decide) (by decide) (by decide) (by decide))
  go_wp2_with fail
  refine Calls.mono HC.out ?_
  generalize (w1.alloc (.cells #[.bool N1, .slice A1 Z1.length K1, .slice B1 D1.length L1] 24)) = V1 at *
  rintro e w2 ⟨N2, U2, Z2, T2, D2, C2, rfl, o2, q2, t2, hb, hcut⟩
  clear HC
  obtain ⟨A2, K2, hs⟩ := own_slice' o2
  subst hs
  obtain ⟨B2, L2, hs⟩ := own_slice' q2
  subst hs
  have HT2 := hid t2
  have wz2 := t2.wx
  have wd2 := t2.wy
  obtain ⟨lz2, ld2⟩ := t2.len
  clear t2 hcut
  replace H := hid (H.out.later hb)
  clear hb
  replace H := hid (H.out.more o2)
  clear o2
  replace H := hid (H.out.more q2)
  clear q2
  have HL2 : Hid (N2 = false ∧ Z2 = [1] ∧ D2 = [2] ∧ C2 = 0) := HT2.out.lit (by decide) (wdn 1 (by decide)) (wdn 2 (by decide)) k12 (q12)
  clear HT2
  have HC := hid (lawSmall_any 1 3 w2 (by decide) (by decide) (by decide) (by decide))
  go_wp2_with fail
  refine Calls.mono HC.out ?_
  rintro e w3 ⟨N3, U3, Z3, T3, D3, C3, rfl, o3, q3, t3, hb, hcut⟩
  clear HC
  obtain ⟨A3, K3, hs⟩ := own_slice' o3
  subst hs
  obtain ⟨B3, L3, hs⟩ := own_slice' q3
  subst hs
  have HT3 := hid t3
  have wz3 := t3.wx
  have wd3 := t3.wy
  obtain ⟨lz3, ld3⟩ := t3.len
  clear t3 hcut
  replace H := hid (H.out.later hb)
  clear hb
  replace H := hid (H.out.more o3)
  clear o3
  replace H := hid (H.out.more q3)
  clear q3
  have HL3 : Hid (N3 = false ∧ Z3 = [1] ∧ D3 = [3] ∧ C3 = 0) := HT3.out.lit (by decide) (wdn 1 (by decide)) (wdn 3 (by decide)) k13 (q13)
  clear HT3
  have HC := hid (rAdd_full N2 _ _ Z2 _ _ D2 N3 _ _ Z3 _ _ D3 _ (H.out.sl wz2 (.tail _ (.tail _ (.tail _ (.head _))))) (H.out.sl wd2 (.tail _ (.tail _ (.head _)))) (H.out.sl wz3 (.tail _ (.head _))) (H.out.sl wd3 (.head _)))
  go_wp2_with fail
  refine Calls.mono HC.out ?_
  rintro e w4 ⟨N4, U4, Z4, T4, D4, C4, rfl, o4, q4, t4, hb, hcut⟩
  clear HC
  obtain ⟨A4, K4, hs⟩ := own_slice' o4
  subst hs
  obtain ⟨B4, L4, hs⟩ := own_slice' q4
  subst hs
  have HT4 := hid t4
  have wz4 := t4.wx
  have wd4 := t4.wy
  obtain ⟨lz4, ld4⟩ := t4.len
  clear t4 hcut
  replace H := hid (H.out.later hb)
  clear hb
  replace H := hid (H.out.more o4)
  clear o4
  replace H := hid (H.out.more q4)
  clear q4
  have HL4 : Hid (N4 = false ∧ Z4 = [5] ∧ D4 = [6] ∧ C4 = 0) := HT4.out.lit (by rw [HL2.out.1, HL2.out.2.1, HL2.out.2.2.1, HL3.out.1, HL3.out.2.1, HL3.out.2.2.1]; exact rboth_good k12 k13) (wdn 5 (by decide)) (wdn 6 (by decide)) k56 (by rw [HL2.out.1, HL2.out.2.1, HL2.out.2.2.1, HL3.out.1, HL3.out.2.1, HL3.out.2.2.1]; exact q56)
  clear HT4
  have hc4 : C4 = 0 := HL4.out.2.2.2
  subst hc4
  replace H := hid (H.out.put N4 (.slice A4 Z4.length K4) (.slice B4 D4.length L4))
  have HC := hid (lawSmall_any 1 2 (w4.alloc (.cells #[.bool N4, .slice A4 Z4.length K4, .slice B4 D4.length L4] 24)) (by decide) (by decide) (by decide) (by decide))
  go_wp2_with fail
  refine Calls.mono HC.out ?_
  generalize (w4.alloc (.cells #[.bool N4, .slice A4 Z4.length K4, .slice B4 D4.length L4] 24)) = V4 at *
  rintro e w5 ⟨N5, U5, Z5, T5, D5, C5, rfl, o5, q5, t5, hb, hcut⟩
  clear HC
  obtain ⟨A5, K5, hs⟩ := own_slice' o5
  subst hs
  obtain ⟨B5, L5, hs⟩ := own_slice' q5
  subst hs
  have HT5 := hid t5
  have wz5 := t5.wx
  have wd5 := t5.wy
  obtain ⟨lz5, ld5⟩ := t5.len
  clear t5 hcut
  replace H := hid (H.out.later hb)
  clear hb
  replace H := hid (H.out.more o5)
  clear o5
  replace H := hid (H.out.more q5)
  clear q5
  have HL5 : Hid (N5 = false ∧ Z5 = [1] ∧ D5 = [2] ∧ C5 = 0) := HT5.out.lit (by decide) (wdn 1 (by decide)) (wdn 2 (by decide)) k12 (q12)
  clear HT5
  have HC := hid (lawSmall_any (-1) 4 w5 (by decide) (by decide) (by decide) (by decide))
  go_wp2_with fail
  refine Calls.mono HC.out ?_
  rintro e w6 ⟨N6, U6, Z6, T6, D6, C6, rfl, o6, q6, t6, hb, hcut⟩
  clear HC
  obtain ⟨A6, K6, hs⟩ := own_slice' o6
  subst hs
  obtain ⟨B6, L6, hs⟩ := own_slice' q6
  subst hs
  have HT6 := hid t6
  have wz6 := t6.wx
  have wd6 := t6.wy
  obtain ⟨lz6, ld6⟩ := t6.len
  clear t6 hcut
  replace H := hid (H.out.later hb)
  clear hb
  replace H := hid (H.out.more o6)
  clear o6
  replace H := hid (H.out.more q6)
  clear q6
  have HL6 : Hid (N6 = true ∧ Z6 = [1] ∧ D6 = [4] ∧ C6 = 0) := HT6.out.lit (by decide) (wdn 1 (by decide)) (wdn 4 (by decide)) k14 (q14)
  clear HT6
  have HC := hid (rQuo_full N5 _ _ Z5 _ _ D5 N6 _ _ Z6 _ _ D6 _ (H.out.sl wz5 (.tail _ (.tail _ (.tail _ (.head _))))) (H.out.sl wd5 (.tail _ (.tail _ (.head _)))) (H.out.sl wz6 (.tail _ (.head _))) (H.out.sl wd6 (.head _)))
  go_wp2_with fail
  refine Calls.mono HC.out ?_
  rintro e w7 ⟨N7, U7, Z7, T7, D7, C7, rfl, o7, q7, t7, hb, hcut⟩
  clear HC
  obtain ⟨A7, K7, hs⟩ := own_slice' o7
  subst hs
  obtain ⟨B7, L7, hs⟩ := own_slice' q7
  subst hs
  have HT7 := hid t7
  have wz7 := t7.wx
  have wd7 := t7.wy
  obtain ⟨lz7, ld7⟩ := t7.len
  clear t7 hcut
  replace H := hid (H.out.later hb)
  clear hb
  replace H := hid (H.out.more o7)
  clear o7
  replace H := hid (H.out.more q7)
  clear q7
  have HL7 : Hid (N7 = true ∧ Z7 = [2] ∧ D7 = [1] ∧ C7 = 0) := HT7.out.lit (by rw [HL5.out.1, HL5.out.2.1, HL5.out.2.2.1, HL6.out.1, HL6.out.2.1, HL6.out.2.2.1]; exact qErr_good k12 k14 (by decide)) (wdn 2 (by decide)) (wdn 1 (by decide)) k21 (by rw [HL5.out.1, HL5.out.2.1, HL5.out.2.2.1, HL6.out.1, HL6.out.2.1, HL6.out.2.2.1]; exact q21)
  clear HT7
  have hc7 : C7 = 0 := HL7.out.2.2.2
  subst hc7
  replace H := hid (H.out.put N7 (.slice A7 Z7.length K7) (.slice B7 D7.length L7))
  have HC := hid (rparse_any ⟨#[45, 51, 47, 50]⟩ (w7.alloc (.cells #[.bool N7, .slice A7 Z7.length K7, .slice B7 D7.length L7] 24)) (by decide))
  go_wp2_with fail
  refine Calls.mono HC.out ?_
  generalize (w7.alloc (.cells #[.bool N7, .slice A7 Z7.length K7, .slice B7 D7.length L7] 24)) = V7 at *
  rintro e w8 ⟨N8, U8, Z8, T8, D8, C8, rfl, o8, q8, t8, hb, hcut⟩
  clear HC
  obtain ⟨A8, K8, hs⟩ := own_slice' o8
  subst hs
  obtain ⟨B8, L8, hs⟩ := own_slice' q8
  subst hs
  have HT8 := hid t8
  have wz8 := t8.wx
  have wd8 := t8.wy
  obtain ⟨lz8, ld8⟩ := t8.len
  clear t8 hcut
  replace H := hid (H.out.later hb)
  clear hb
  replace H := hid (H.out.more o8)
  clear o8
  replace H := hid (H.out.more q8)
  clear q8
  have HL8 : Hid (N8 = true ∧ Z8 = [3] ∧ D8 = [2] ∧ C8 = 0) := HT8.out.lit (good32.1) (wdn 3 (by decide)) (wdn 2 (by decide)) k32 (good32.2.symm)
  clear HT8
  have hc8 : C8 = 0 := HL8.out.2.2.2
  subst hc8
  replace H := hid (H.out.put N8 (.slice A8 Z8.length K8) (.slice B8 D8.length L8))
  have HC := hid (lawIs_yes N1 _ _ Z1 _ _ D1 ⟨#[45, 51, 47, 50]⟩ _ (H.out.sl wz1 (.tail _ (.tail _ (.tail _ (.tail _ (.tail _ (.tail _ (.tail _ (.tail _ (.tail _ (.tail _ (.tail _ (.tail _ (.tail _ (.tail _ (.tail _ (.head _))))))))))))))))) (H.out.sl wd1 (.tail _ (.tail _ (.tail _ (.tail _ (.tail _ (.tail _ (.tail _ (.tail _ (.tail _ (.tail _ (.tail _ (.tail _ (.tail _ (.tail _ (.head _)))))))))))))))) (by rw [HL1.out.1, HL1.out.2.1, HL1.out.2.2.1]; exact k32) (by rw [HL1.out.1, HL1.out.2.1, HL1.out.2.2.1]; exact t32) (HTAB.out.later H.out.bel))
  obtain ⟨p00, p01, p02⟩ := H.out.get (.tail _ (.tail _ (.tail _ (.head _))))
  go_wp2_with fail
  refine Calls.mono HC.out ?_
  generalize (w8.alloc (.cells #[.bool N8, .slice A8 Z8.length K8, .slice B8 D8.length L8] 24)) = V8 at *
  rintro e w9 ⟨rfl, hb⟩
  clear p00 p01 p02
  clear HC
  replace H := hid (H.out.later hb)
  clear hb
  have HC := hid (lawIs_yes N4 _ _ Z4 _ _ D4 ⟨#[53, 47, 54]⟩ _ (H.out.sl wz4 (.tail _ (.tail _ (.tail _ (.tail _ (.tail _ (.tail _ (.tail _ (.tail _ (.tail _ (.head _))))))))))) (H.out.sl wd4 (.tail _ (.tail _ (.tail _ (.tail _ (.tail _ (.tail _ (.tail _ (.tail _ (.head _)))))))))) (by rw [HL4.out.1, HL4.out.2.1, HL4.out.2.2.1]; exact k56) (by rw [HL4.out.1, HL4.out.2.1, HL4.out.2.2.1]; exact t56) (HTAB.out.later H.out.bel))
  obtain ⟨p00, p01, p02⟩ := H.out.get (.tail _ (.tail _ (.head _)))
  go_wp2_with fail
  refine Calls.mono HC.out ?_
  rintro e w10 ⟨rfl, hb⟩
  clear p00 p01 p02
  clear HC
  replace H := hid (H.out.later hb)
  clear hb
  have HC := hid (lawIs_yes N7 _ _ Z7 _ _ D7 ⟨#[45, 50]⟩ _ (H.out.sl wz7 (.tail _ (.tail _ (.tail _ (.head _))))) (H.out.sl wd7 (.tail _ (.tail _ (.head _)))) (by rw [HL7.out.1, HL7.out.2.1, HL7.out.2.2.1]; exact k21) (by rw [HL7.out.1, HL7.out.2.1, HL7.out.2.2.1]; exact t21) (HTAB.out.later H.out.bel))
  obtain ⟨p00, p01, p02⟩ := H.out.get (.tail _ (.head _))
  go_wp2_with fail
  refine Calls.mono HC.out ?_
  rintro e w11 ⟨rfl, hb⟩
  clear p00 p01 p02
  clear HC
  replace H := hid (H.out.later hb)
  clear hb
  have HC := hid (lawIs_yes N8 _ _ Z8 _ _ D8 ⟨#[45, 51, 47, 50]⟩ _ (H.out.sl wz8 (.tail _ (.head _))) (H.out.sl wd8 (.head _)) (by rw [HL8.out.1, HL8.out.2.1, HL8.out.2.2.1]; exact k32) (by rw [HL8.out.1, HL8.out.2.1, HL8.out.2.2.1]; exact t32) (HTAB.out.later H.out.bel))
  obtain ⟨p00, p01, p02⟩ := H.out.get (.head _)
  go_wp2_with fail
  refine Calls.mono HC.out ?_
  rintro e w12 ⟨rfl, hb⟩
  clear p00 p01 p02
  clear HC
  replace H := hid (H.out.later hb)
  clear hb
  have hsame : decide (N1 = N8 ∧ Z1 = Z8 ∧ D1 = D8) = true := decide_eq_true ⟨by rw [HL1.out.1, HL8.out.1], by rw [HL1.out.2.1, HL8.out.2.1], by rw [HL1.out.2.2.1, HL8.out.2.2.1]⟩
  have HSM := rSame_any N1 _ _ Z1 _ _ D1 N8 _ _ Z8 _ _ D8 w12 (H.out.sl wz1 (.tail _ (.tail _ (.tail _ (.tail _ (.tail _ (.tail _ (.tail _ (.tail _ (.tail _ (.tail _ (.tail _ (.tail _ (.tail _ (.tail _ (.tail _ (.head _))))))))))))))))) (H.out.sl wd1 (.tail _ (.tail _ (.tail _ (.tail _ (.tail _ (.tail _ (.tail _ (.tail _ (.tail _ (.tail _ (.tail _ (.tail _ (.tail _ (.tail _ (.head _)))))))))))))))) (H.out.sl wz8 (.tail _ (.head _))) (H.out.sl wd8 (.head _)) (by omega) (by omega) (by omega) (by omega)
  rw [hsame] at HSM
  clear hsame
  have HC := hid (HSM)
  obtain ⟨p00, p01, p02⟩ := H.out.get (.tail _ (.tail _ (.tail _ (.head _))))
  obtain ⟨p10, p11, p12⟩ := H.out.get (.head _)
  go_wp2_with fail
  refine Calls.mono HC.out ?_
  rintro e w13 ⟨rfl, hb⟩
  clear p00 p01 p02 p10 p11 p12
  clear HC
  replace H := hid (H.out.later hb)
  clear hb
  go_wp2_with fail
  go_ret
  exact ⟨rfl, H.out.bel⟩
end Go.Proofs.YtbnhpkelnoolhaaGreatDoor

/- The document's answer for Parse of a fraction: for any text. -/
namespace Go.Proofs.YtbnhpkelnoolhaaGreatDoor
open Go.RowKit Go.Lib
set_option linter.unusedVariables false

theorem RTold.zero {w W : World} {e : Int} {q : Rat} (he : e ≠ 0) (hb : Below w.heap.size w W) : RTold w e q (.returned (.tuple #[.agg #[.bool false, .slice none 0 0, .slice none 0 0], .int .i64 e])) W :=
  ⟨false, _, [], _, [], e, rfl, World.ownsRow_nil _ _ _ _, World.ownsRow_nil _ _ _ _, RTells.err he, hb⟩
theorem byte_list (s : ByteArray) (k : Nat) (h : k < s.size) : s.data.toList[k]?.getD 0 = s[k] := by rw [byte_at s k h]; rfl
theorem wrapI {x : Int} (h0 : 0 ≤ x) (h1 : x ≤ 1000000) : IntKind.i64.wrap x = x ∧ wrap64 x = x := ⟨by rw [IntKind.wrap_i64]; omega, by unfold wrap64; omega⟩
theorem cast1 (r : Nat) : ((r + 1 : Nat) : Int) = (r : Int) + 1 := by omega
theorem cast2 (r : Nat) : ((1 + r + 1 : Nat) : Int) = 1 + (r : Int) + 1 := by omega
theorem byte_yes {c d : UInt8} {k : Int} (h : c = d) (hk : (d.toNat : Int) = k) : ((c.toNat : Int) == k) = true := by rw [h, hk]; simp
theorem byte_no {c d : UInt8} {k : Int} (h : ¬ c = d) (hk : (d.toNat : Int) = k) : ((c.toNat : Int) == k) = false := beq_eq_false_iff_ne.2 (fun e => h (UInt8.toNat_inj.1 (by omega)))
end Go.Proofs.YtbnhpkelnoolhaaGreatDoor

/- The document's answer for Parse of a fraction, way by way: without a sign. -/
namespace Go.Proofs.YtbnhpkelnoolhaaGreatDoor
open Go.RowKit Go.Lib
set_option linter.unusedVariables false

set_option maxHeartbeats 6400000 in
set_option maxRecDepth 100000 in
theorem dparse_C1e (s : ByteArray) (w : World) (hs : s.size ≤ 65536) (h0 : s.size = 0) (n : Nat) (hd : Digs s.data.toList 0 n 0) (q : Rat) :
    Calls Tryz.prog 10 #[.string s] w (RTold w 130 q) := by
  have HB := hid (alloc_later w (.cells #[.bool false, .slice none 0 0, .slice none 0 0] 24))
  have HZ := hid (Box.made w 24 #[.bool false, .slice none 0 0, .slice none 0 0])
  have hs' : ¬ (65536 : Int) < (s.size : Int) := by omega
  have hz0 : ¬ (0 : Int) < (s.size : Int) := by omega
  have HD := hid hd
  clear hd
  go_enter Tryz.func10, Tryz.ntmps10
  have HH := hid (digits_any s 0 (w.alloc (.cells #[.bool false, .slice none 0 0, .slice none 0 0] 24)) hs (by omega))
  go_wp2_with fail
  refine Calls.mono HH.out ?_
  rintro e w1 ⟨n', r', rfl, HD', rfl⟩
  obtain ⟨rfl, rfl⟩ := Digs.uniq HD.out HD'.out
  clear HH HD'
  obtain ⟨r0, r1, r2, f0, f1, f2⟩ := res_box3 HZ.out (Below.refl (w.alloc (.cells #[.bool false, .slice none 0 0, .slice none 0 0] 24)).heap.size (w.alloc (.cells #[.bool false, .slice none 0 0, .slice none 0 0] 24)))
  have HBA := hid (bt HB.out (Below.refl (w.alloc (.cells #[.bool false, .slice none 0 0, .slice none 0 0] 24)).heap.size (w.alloc (.cells #[.bool false, .slice none 0 0, .slice none 0 0] 24))))
  go_wp2_with fail
  refine bodyPost_ret (v := .tuple #[.agg #[.bool false, .slice none 0 0, .slice none 0 0], .int .i64 130]) (by simp [results, Tryz.results10, go_sem, r0, r1, r2]) rfl ?_
  exact RTold.zero (by decide) HB.out

set_option maxHeartbeats 6400000 in
set_option maxRecDepth 100000 in
theorem dparse_C10 (s : ByteArray) (w : World) (hs : s.size ≤ 65536) (h0 : 0 < s.size) (hc : ¬ s[0] = 45) (n : Nat) (hd : Digs s.data.toList 0 n 0) (q : Rat) :
    Calls Tryz.prog 10 #[.string s] w (RTold w 130 q) := by
  have HB := hid (alloc_later w (.cells #[.bool false, .slice none 0 0, .slice none 0 0] 24))
  have HZ := hid (Box.made w 24 #[.bool false, .slice none 0 0, .slice none 0 0])
  have hs' : ¬ (65536 : Int) < (s.size : Int) := by omega
  have hz0 : (0 : Int) < (s.size : Int) := by omega
  have hq0 : ((s[0].toNat : Int) == 45) = false := byte_no (d := 45) hc rfl
  have HD := hid hd
  clear hd
  go_enter Tryz.func10, Tryz.ntmps10
  have HH := hid (digits_any s 0 (w.alloc (.cells #[.bool false, .slice none 0 0, .slice none 0 0] 24)) hs (by omega))
  go_wp2_with fail
  refine Calls.mono HH.out ?_
  rintro e w1 ⟨n', r', rfl, HD', rfl⟩
  obtain ⟨rfl, rfl⟩ := Digs.uniq HD.out HD'.out
  clear HH HD'
  obtain ⟨r0, r1, r2, f0, f1, f2⟩ := res_box3 HZ.out (Below.refl (w.alloc (.cells #[.bool false, .slice none 0 0, .slice none 0 0] 24)).heap.size (w.alloc (.cells #[.bool false, .slice none 0 0, .slice none 0 0] 24)))
  have HBA := hid (bt HB.out (Below.refl (w.alloc (.cells #[.bool false, .slice none 0 0, .slice none 0 0] 24)).heap.size (w.alloc (.cells #[.bool false, .slice none 0 0, .slice none 0 0] 24))))
  go_wp2_with fail
  refine bodyPost_ret (v := .tuple #[.agg #[.bool false, .slice none 0 0, .slice none 0 0], .int .i64 130]) (by simp [results, Tryz.results10, go_sem, r0, r1, r2]) rfl ?_
  exact RTold.zero (by decide) HB.out

set_option maxHeartbeats 6400000 in
set_option maxRecDepth 100000 in
theorem dparse_E0 (s : ByteArray) (w : World) (hs : s.size ≤ 65536) (h0 : 0 < s.size) (hc : ¬ s[0] = 45) (n r : Nat) (hd : Digs s.data.toList 0 n r) (hr : r ≠ 0) (he : 0 + r = s.size) (q : Rat) (hq : Rat.divInt (sg false (numTo ((s.data.toList.drop 0).take r) ((s.data.toList.drop 0).take r).length)) 1 = q) :
    Calls Tryz.prog 10 #[.string s] w (RTold w 0 q) := by
  have HB := hid (alloc_later w (.cells #[.bool false, .slice none 0 0, .slice none 0 0] 24))
  have HZ := hid (Box.made w 24 #[.bool false, .slice none 0 0, .slice none 0 0])
  have hs' : ¬ (65536 : Int) < (s.size : Int) := by omega
  have hz0 : (0 : Int) < (s.size : Int) := by omega
  have hq0 : ((s[0].toNat : Int) == 45) = false := byte_no (d := 45) hc rfl
  have HD := hid hd
  obtain ⟨hrn, hN⟩ := digs_num hd hr
  subst hrn
  have HLN := hid hd.1.len
  have HNM := hid hN
  have hls := size_list s
  have hr1 : ((r : Int) == 0) = false := beq_eq_false_iff_ne.2 (by omega)
  clear hN hd
  have hbA := HLN.out
  rw [hls] at hbA
  have HWB : Hid ((0 : Int) ≤ (r : Int) ∧ (r : Int) ≤ 1000000) := ⟨by omega, by omega⟩
  have ht1 : (r : Int).toNat = 0 + r := by omega
  have hb1 : (0 : Int) ≤ (r : Int) := by omega
  have hb2 : (r : Int) ≤ (s.size : Int) := by omega
  have hb3 : (0 : Int) ≤ (r : Int) := by omega
  have HX1 : Hid ((s.extract 0 r).data.toList = (s.data.toList.drop 0).take r) := by show _ = _; rw [extract_list]; congr 1
  have hx1 : (s.extract 0 r).size ≤ 65536 := by rw [← size_list, HX1.out, List.length_take, List.length_drop]; omega
  have hlt : ¬ (r : Int) < (s.size : Int) := by omega
  have HQQ := hid hq
  clear hq he hls
  obtain ⟨hw1, hw2⟩ := wrapI HWB.out.1 HWB.out.2
  clear HWB
  go_enter Tryz.func10, Tryz.ntmps10
  have HH := hid (digits_any s 0 (w.alloc (.cells #[.bool false, .slice none 0 0, .slice none 0 0] 24)) hs (by omega))
  go_wp2_with fail
  refine Calls.mono HH.out ?_
  rintro e w1 ⟨n', r', rfl, HD', rfl⟩
  obtain ⟨rfl, rfl⟩ := Digs.uniq HD.out HD'.out
  clear HH HD'
  have HH := hid (number_good (s.extract 0 r) (w.alloc (.cells #[.bool false, .slice none 0 0, .slice none 0 0] 24)) hx1 _ HX1.out HNM.out)
  go_wp2_with fail
  refine Calls.mono HH.out ?_
  rintro e w2 ⟨a2, z2, c2, rfl, H2, hb2⟩
  clear HH hx1 HX1
  generalize s.extract 0 r = T1 at *
  have HH := hid (one3_any w2)
  go_wp2_with fail
  refine Calls.mono HH.out ?_
  rintro e w3 ⟨g3, rfl, o3, hb3⟩
  clear HH
  have HB3 := hid (bt hb2 hb3)
  have HO3 := hid o3
  have HZ2 := hid ((Sl.own H2.out.1.1 H2.out.1.2.1).later hb3)
  have HL2 := hid (And.intro H2.out.2 H2.out.1.2.2.1)
  have HQ : Hid (Rat.divInt (sg false (val z2)) (val [1]) = q) := by show _ = _; rw [H2.out.1.2.2.2, show val [1] = 1 by simp [val, valTo]]; exact HQQ.out
  clear o3 hb2 hb3 H2 HQQ
  have HO : Calls Tryz.prog 41 #[.bool false, .slice a2 z2.length c2, .slice (some ⟨g3, 0, none⟩) 1 1] w3 (RTold w3 0 (Rat.divInt (sg false (val z2)) (val [1]))) := of3_any false _ _ z2 _ _ [1] w3 HZ2.out (Sl.own (xs := [1]) HO3.out (Wd.one (by omega))) HL2.out.1 (by simp) HL2.out.2 rfl (by simp)
  rw [HQ.out] at HO
  have HH := hid (HO)
  go_wp2_with fail
  refine Calls.mono HH.out ?_
  rintro e w9 ⟨k9, v9, z9, u9, d9, code, rfl, o9, p9, t9, hb9⟩
  clear HH
  obtain ⟨a9, c9, hv⟩ := own_slice' o9
  subst hv
  obtain ⟨b9, l9, hv⟩ := own_slice' p9
  subst hv
  have hbX := bt HB3.out hb9
  obtain ⟨r0, r1, r2, f0, f1, f2⟩ := res_box3 HZ.out hbX
  have HBW := hid (bt HB.out hbX)
  have hzz := (HB3.out).size
  have HE9 := hid (And.intro (owns_base o9 hzz) (And.intro (owns_base p9 hzz) t9))
  have HLT : Hid (w.heap.size < (w.alloc (.cells #[.bool false, .slice none 0 0, .slice none 0 0] 24)).heap.size) := by show _ < _; simp
  clear hbX o9 p9 t9 hb9 hzz HO
  go_wp2_with fail
  refine bodyPost_ret (v := .tuple #[.agg #[.bool k9, .slice a9 z9.length c9, .slice b9 d9.length l9], .int .i64 code]) (by simp [results, Tryz.results10, go_sem, r0, r1, r2]) rfl ?_
  exact RTold.put HE9.out w.heap.size HLT.out (Nat.le_refl _) HBW.out _ _ _

set_option maxHeartbeats 6400000 in
set_option maxRecDepth 100000 in
theorem dparse_B0 (s : ByteArray) (w : World) (hs : s.size ≤ 65536) (h0 : 0 < s.size) (hc : ¬ s[0] = 45) (n r : Nat) (hd : Digs s.data.toList 0 n r) (hr : r ≠ 0) (he : 0 + r < s.size) (hc2 : ¬ s[0 + r] = 47) (q : Rat) :
    Calls Tryz.prog 10 #[.string s] w (RTold w 130 q) := by
  have HB := hid (alloc_later w (.cells #[.bool false, .slice none 0 0, .slice none 0 0] 24))
  have HZ := hid (Box.made w 24 #[.bool false, .slice none 0 0, .slice none 0 0])
  have hs' : ¬ (65536 : Int) < (s.size : Int) := by omega
  have hz0 : (0 : Int) < (s.size : Int) := by omega
  have hq0 : ((s[0].toNat : Int) == 45) = false := byte_no (d := 45) hc rfl
  have HD := hid hd
  obtain ⟨hrn, hN⟩ := digs_num hd hr
  subst hrn
  have HLN := hid hd.1.len
  have HNM := hid hN
  have hls := size_list s
  have hr1 : ((r : Int) == 0) = false := beq_eq_false_iff_ne.2 (by omega)
  clear hN hd
  have hbA := HLN.out
  rw [hls] at hbA
  have HWB : Hid ((0 : Int) ≤ (r : Int) ∧ (r : Int) ≤ 1000000) := ⟨by omega, by omega⟩
  have ht1 : (r : Int).toNat = 0 + r := by omega
  have hb1 : (0 : Int) ≤ (r : Int) := by omega
  have hb2 : (r : Int) ≤ (s.size : Int) := by omega
  have hb3 : (0 : Int) ≤ (r : Int) := by omega
  have HX1 : Hid ((s.extract 0 r).data.toList = (s.data.toList.drop 0).take r) := by show _ = _; rw [extract_list]; congr 1
  have hx1 : (s.extract 0 r).size ≤ 65536 := by rw [← size_list, HX1.out, List.length_take, List.length_drop]; omega
  have hlt : (r : Int) < (s.size : Int) := by omega
  have hlb : r < s.size := by omega
  have hcb : ((s[r].toNat : Int) == 47) = false := byte_no (d := 47) (by have e := hc2; simp only [Nat.zero_add] at e; exact e) rfl
  clear hc2 hls
  obtain ⟨hw1, hw2⟩ := wrapI HWB.out.1 HWB.out.2
  clear HWB
  go_enter Tryz.func10, Tryz.ntmps10
  have HH := hid (digits_any s 0 (w.alloc (.cells #[.bool false, .slice none 0 0, .slice none 0 0] 24)) hs (by omega))
  go_wp2_with fail
  refine Calls.mono HH.out ?_
  rintro e w1 ⟨n', r', rfl, HD', rfl⟩
  obtain ⟨rfl, rfl⟩ := Digs.uniq HD.out HD'.out
  clear HH HD'
  have HH := hid (number_good (s.extract 0 r) (w.alloc (.cells #[.bool false, .slice none 0 0, .slice none 0 0] 24)) hx1 _ HX1.out HNM.out)
  go_wp2_with fail
  refine Calls.mono HH.out ?_
  rintro e w2 ⟨a2, z2, c2, rfl, H2, hb2⟩
  clear HH hx1 HX1
  generalize s.extract 0 r = T1 at *
  have HH := hid (one3_any w2)
  go_wp2_with fail
  refine Calls.mono HH.out ?_
  rintro e w3 ⟨g3, rfl, o3, hb3⟩
  clear HH
  obtain ⟨r0, r1, r2, f0, f1, f2⟩ := res_box3 HZ.out (bt hb2 hb3)
  have HBA := hid (bt HB.out (bt hb2 hb3))
  go_wp2_with fail
  refine bodyPost_ret (v := .tuple #[.agg #[.bool false, .slice none 0 0, .slice none 0 0], .int .i64 130]) (by simp [results, Tryz.results10, go_sem, r0, r1, r2]) rfl ?_
  exact RTold.zero (by decide) (below_put3 HBA.out _ (Nat.le_refl _) _ _ _)

set_option maxHeartbeats 6400000 in
set_option maxRecDepth 100000 in
theorem dparse_F10 (s : ByteArray) (w : World) (hs : s.size ≤ 65536) (h0 : 0 < s.size) (hc : ¬ s[0] = 45) (n r : Nat) (hd : Digs s.data.toList 0 n r) (hr : r ≠ 0) (he : 0 + r < s.size) (hc2 : s[0 + r] = 47) (m p : Nat) (hd2 : Digs s.data.toList (r + 1) m p) (hp : p = 0) (q : Rat) :
    Calls Tryz.prog 10 #[.string s] w (RTold w 130 q) := by
  have HB := hid (alloc_later w (.cells #[.bool false, .slice none 0 0, .slice none 0 0] 24))
  have HZ := hid (Box.made w 24 #[.bool false, .slice none 0 0, .slice none 0 0])
  have hs' : ¬ (65536 : Int) < (s.size : Int) := by omega
  have hz0 : (0 : Int) < (s.size : Int) := by omega
  have hq0 : ((s[0].toNat : Int) == 45) = false := byte_no (d := 45) hc rfl
  have HD := hid hd
  obtain ⟨hrn, hN⟩ := digs_num hd hr
  subst hrn
  have HLN := hid hd.1.len
  have HNM := hid hN
  have hls := size_list s
  have hr1 : ((r : Int) == 0) = false := beq_eq_false_iff_ne.2 (by omega)
  clear hN hd
  have hbA := HLN.out
  rw [hls] at hbA
  have HWB : Hid ((0 : Int) ≤ (r : Int) ∧ (r : Int) ≤ 1000000) := ⟨by omega, by omega⟩
  have ht1 : (r : Int).toNat = 0 + r := by omega
  have hb1 : (0 : Int) ≤ (r : Int) := by omega
  have hb2 : (r : Int) ≤ (s.size : Int) := by omega
  have hb3 : (0 : Int) ≤ (r : Int) := by omega
  have HX1 : Hid ((s.extract 0 r).data.toList = (s.data.toList.drop 0).take r) := by show _ = _; rw [extract_list]; congr 1
  have hx1 : (s.extract 0 r).size ≤ 65536 := by rw [← size_list, HX1.out, List.length_take, List.length_drop]; omega
  have hlt : (r : Int) < (s.size : Int) := by omega
  have hlb : r < s.size := by omega
  have hcb : ((s[r].toNat : Int) == 47) = true := byte_yes (d := 47) (by have e := hc2; simp only [Nat.zero_add] at e; exact e) rfl
  have HWU : Hid ((0 : Int) ≤ ((r : Int) + 1) ∧ ((r : Int) + 1) ≤ 1000000) := ⟨by omega, by omega⟩
  have HD2 := hid hd2
  have hlm := hd2.1.len
  rw [hls] at hlm
  have hpm : p ≤ m := by rcases hd2.2 with e | e <;> omega
  have HWV : Hid ((0 : Int) ≤ ((r : Int) + 1) + (p : Int) ∧ ((r : Int) + 1) + (p : Int) ≤ 1000000) := ⟨by omega, by omega⟩
  have HKB : Hid ((((r + 1) : Nat) : Int) = ((r : Int) + 1)) := cast1 r
  have HDG : Hid (∀ V, Calls Tryz.prog 38 #[.string s, .int .i64 ((r : Int) + 1)] V fun e V' => ∃ n1 r1 : Nat, e = .returned (.int .i64 r1) ∧ Hid (Digs s.data.toList (r + 1) n1 r1) ∧ V = V') := fun V => by
    have e := digits_any s (r + 1) V hs hlb
    rw [HKB.out] at e
    exact e
  clear hc2 hd2
  have hp0 : ((p : Int) == 0) = true := by rw [hp]; rfl
  clear hp hls
  obtain ⟨hw1, hw2⟩ := wrapI HWB.out.1 HWB.out.2
  clear HWB
  obtain ⟨hu1, hu2⟩ := wrapI HWU.out.1 HWU.out.2
  clear HWU
  obtain ⟨hv1, hv2⟩ := wrapI HWV.out.1 HWV.out.2
  clear HWV
  go_enter Tryz.func10, Tryz.ntmps10
  have HH := hid (digits_any s 0 (w.alloc (.cells #[.bool false, .slice none 0 0, .slice none 0 0] 24)) hs (by omega))
  go_wp2_with fail
  refine Calls.mono HH.out ?_
  rintro e w1 ⟨n', r', rfl, HD', rfl⟩
  obtain ⟨rfl, rfl⟩ := Digs.uniq HD.out HD'.out
  clear HH HD'
  have HH := hid (number_good (s.extract 0 r) (w.alloc (.cells #[.bool false, .slice none 0 0, .slice none 0 0] 24)) hx1 _ HX1.out HNM.out)
  go_wp2_with fail
  refine Calls.mono HH.out ?_
  rintro e w2 ⟨a2, z2, c2, rfl, H2, hb2⟩
  clear HH hx1 HX1
  generalize s.extract 0 r = T1 at *
  have HH := hid (one3_any w2)
  go_wp2_with fail
  refine Calls.mono HH.out ?_
  rintro e w3 ⟨g3, rfl, o3, hb3⟩
  clear HH
  have HH := hid (HDG.out w3)
  go_wp2_with fail
  refine Calls.mono HH.out ?_
  rintro e w4 ⟨m', p', rfl, HD', rfl⟩
  obtain ⟨rfl, rfl⟩ := Digs.uniq HD2.out HD'.out
  clear HH HD' HDG
  obtain ⟨r0, r1, r2, f0, f1, f2⟩ := res_box3 HZ.out (bt hb2 hb3)
  have HBA := hid (bt HB.out (bt hb2 hb3))
  go_wp2_with fail
  refine bodyPost_ret (v := .tuple #[.agg #[.bool false, .slice none 0 0, .slice none 0 0], .int .i64 130]) (by simp [results, Tryz.results10, go_sem, r0, r1, r2]) rfl ?_
  exact RTold.zero (by decide) (below_put3 HBA.out _ (Nat.le_refl _) _ _ _)

set_option maxHeartbeats 6400000 in
set_option maxRecDepth 100000 in
theorem dparse_F20 (s : ByteArray) (w : World) (hs : s.size ≤ 65536) (h0 : 0 < s.size) (hc : ¬ s[0] = 45) (n r : Nat) (hd : Digs s.data.toList 0 n r) (hr : r ≠ 0) (he : 0 + r < s.size) (hc2 : s[0 + r] = 47) (m p : Nat) (hd2 : Digs s.data.toList (r + 1) m p) (hp : p ≠ 0) (hq2 : (r + 1) + p ≠ s.size) (q : Rat) :
    Calls Tryz.prog 10 #[.string s] w (RTold w 130 q) := by
  have HB := hid (alloc_later w (.cells #[.bool false, .slice none 0 0, .slice none 0 0] 24))
  have HZ := hid (Box.made w 24 #[.bool false, .slice none 0 0, .slice none 0 0])
  have hs' : ¬ (65536 : Int) < (s.size : Int) := by omega
  have hz0 : (0 : Int) < (s.size : Int) := by omega
  have hq0 : ((s[0].toNat : Int) == 45) = false := byte_no (d := 45) hc rfl
  have HD := hid hd
  obtain ⟨hrn, hN⟩ := digs_num hd hr
  subst hrn
  have HLN := hid hd.1.len
  have HNM := hid hN
  have hls := size_list s
  have hr1 : ((r : Int) == 0) = false := beq_eq_false_iff_ne.2 (by omega)
  clear hN hd
  have hbA := HLN.out
  rw [hls] at hbA
  have HWB : Hid ((0 : Int) ≤ (r : Int) ∧ (r : Int) ≤ 1000000) := ⟨by omega, by omega⟩
  have ht1 : (r : Int).toNat = 0 + r := by omega
  have hb1 : (0 : Int) ≤ (r : Int) := by omega
  have hb2 : (r : Int) ≤ (s.size : Int) := by omega
  have hb3 : (0 : Int) ≤ (r : Int) := by omega
  have HX1 : Hid ((s.extract 0 r).data.toList = (s.data.toList.drop 0).take r) := by show _ = _; rw [extract_list]; congr 1
  have hx1 : (s.extract 0 r).size ≤ 65536 := by rw [← size_list, HX1.out, List.length_take, List.length_drop]; omega
  have hlt : (r : Int) < (s.size : Int) := by omega
  have hlb : r < s.size := by omega
  have hcb : ((s[r].toNat : Int) == 47) = true := byte_yes (d := 47) (by have e := hc2; simp only [Nat.zero_add] at e; exact e) rfl
  have HWU : Hid ((0 : Int) ≤ ((r : Int) + 1) ∧ ((r : Int) + 1) ≤ 1000000) := ⟨by omega, by omega⟩
  have HD2 := hid hd2
  have hlm := hd2.1.len
  rw [hls] at hlm
  have hpm : p ≤ m := by rcases hd2.2 with e | e <;> omega
  have HWV : Hid ((0 : Int) ≤ ((r : Int) + 1) + (p : Int) ∧ ((r : Int) + 1) + (p : Int) ≤ 1000000) := ⟨by omega, by omega⟩
  have HKB : Hid ((((r + 1) : Nat) : Int) = ((r : Int) + 1)) := cast1 r
  have HDG : Hid (∀ V, Calls Tryz.prog 38 #[.string s, .int .i64 ((r : Int) + 1)] V fun e V' => ∃ n1 r1 : Nat, e = .returned (.int .i64 r1) ∧ Hid (Digs s.data.toList (r + 1) n1 r1) ∧ V = V') := fun V => by
    have e := digits_any s (r + 1) V hs hlb
    rw [HKB.out] at e
    exact e
  clear hc2 hd2
  have hp0 : ((p : Int) == 0) = false := beq_eq_false_iff_ne.2 (by omega)
  have hp1 : (((r : Int) + 1) + (p : Int) == (s.size : Int)) = false := beq_eq_false_iff_ne.2 (by omega)
  have hp2 : (((r : Int) + 1) + (p : Int) != (s.size : Int)) = true := bne_iff_ne.2 (by omega)
  clear hp hq2 hls
  obtain ⟨hw1, hw2⟩ := wrapI HWB.out.1 HWB.out.2
  clear HWB
  obtain ⟨hu1, hu2⟩ := wrapI HWU.out.1 HWU.out.2
  clear HWU
  obtain ⟨hv1, hv2⟩ := wrapI HWV.out.1 HWV.out.2
  clear HWV
  go_enter Tryz.func10, Tryz.ntmps10
  have HH := hid (digits_any s 0 (w.alloc (.cells #[.bool false, .slice none 0 0, .slice none 0 0] 24)) hs (by omega))
  go_wp2_with fail
  refine Calls.mono HH.out ?_
  rintro e w1 ⟨n', r', rfl, HD', rfl⟩
  obtain ⟨rfl, rfl⟩ := Digs.uniq HD.out HD'.out
  clear HH HD'
  have HH := hid (number_good (s.extract 0 r) (w.alloc (.cells #[.bool false, .slice none 0 0, .slice none 0 0] 24)) hx1 _ HX1.out HNM.out)
  go_wp2_with fail
  refine Calls.mono HH.out ?_
  rintro e w2 ⟨a2, z2, c2, rfl, H2, hb2⟩
  clear HH hx1 HX1
  generalize s.extract 0 r = T1 at *
  have HH := hid (one3_any w2)
  go_wp2_with fail
  refine Calls.mono HH.out ?_
  rintro e w3 ⟨g3, rfl, o3, hb3⟩
  clear HH
  have HH := hid (HDG.out w3)
  go_wp2_with fail
  refine Calls.mono HH.out ?_
  rintro e w4 ⟨m', p', rfl, HD', rfl⟩
  obtain ⟨rfl, rfl⟩ := Digs.uniq HD2.out HD'.out
  clear HH HD' HDG
  obtain ⟨r0, r1, r2, f0, f1, f2⟩ := res_box3 HZ.out (bt hb2 hb3)
  have HBA := hid (bt HB.out (bt hb2 hb3))
  go_wp2_with fail
  refine bodyPost_ret (v := .tuple #[.agg #[.bool false, .slice none 0 0, .slice none 0 0], .int .i64 130]) (by simp [results, Tryz.results10, go_sem, r0, r1, r2]) rfl ?_
  exact RTold.zero (by decide) (below_put3 HBA.out _ (Nat.le_refl _) _ _ _)

set_option maxHeartbeats 6400000 in
set_option maxRecDepth 100000 in
theorem dparse_G00 (s : ByteArray) (w : World) (hs : s.size ≤ 65536) (h0 : 0 < s.size) (hc : ¬ s[0] = 45) (n r : Nat) (hd : Digs s.data.toList 0 n r) (hr : r ≠ 0) (he : 0 + r < s.size) (hc2 : s[0 + r] = 47) (m p : Nat) (hd2 : Digs s.data.toList (r + 1) m p) (hp : p ≠ 0) (hq2 : (r + 1) + p = s.size) (hn2 : IsNum (s.data.toList.drop (r + 1))) (hY : (numTo (s.data.toList.drop (r + 1)) (s.data.toList.drop (r + 1)).length) = 0) (q : Rat) :
    Calls Tryz.prog 10 #[.string s] w (RTold w 130 q) := by
  have HB := hid (alloc_later w (.cells #[.bool false, .slice none 0 0, .slice none 0 0] 24))
  have HZ := hid (Box.made w 24 #[.bool false, .slice none 0 0, .slice none 0 0])
  have hs' : ¬ (65536 : Int) < (s.size : Int) := by omega
  have hz0 : (0 : Int) < (s.size : Int) := by omega
  have hq0 : ((s[0].toNat : Int) == 45) = false := byte_no (d := 45) hc rfl
  have HD := hid hd
  obtain ⟨hrn, hN⟩ := digs_num hd hr
  subst hrn
  have HLN := hid hd.1.len
  have HNM := hid hN
  have hls := size_list s
  have hr1 : ((r : Int) == 0) = false := beq_eq_false_iff_ne.2 (by omega)
  clear hN hd
  have hbA := HLN.out
  rw [hls] at hbA
  have HWB : Hid ((0 : Int) ≤ (r : Int) ∧ (r : Int) ≤ 1000000) := ⟨by omega, by omega⟩
  have ht1 : (r : Int).toNat = 0 + r := by omega
  have hb1 : (0 : Int) ≤ (r : Int) := by omega
  have hb2 : (r : Int) ≤ (s.size : Int) := by omega
  have hb3 : (0 : Int) ≤ (r : Int) := by omega
  have HX1 : Hid ((s.extract 0 r).data.toList = (s.data.toList.drop 0).take r) := by show _ = _; rw [extract_list]; congr 1
  have hx1 : (s.extract 0 r).size ≤ 65536 := by rw [← size_list, HX1.out, List.length_take, List.length_drop]; omega
  have hlt : (r : Int) < (s.size : Int) := by omega
  have hlb : r < s.size := by omega
  have hcb : ((s[r].toNat : Int) == 47) = true := byte_yes (d := 47) (by have e := hc2; simp only [Nat.zero_add] at e; exact e) rfl
  have HWU : Hid ((0 : Int) ≤ ((r : Int) + 1) ∧ ((r : Int) + 1) ≤ 1000000) := ⟨by omega, by omega⟩
  have HD2 := hid hd2
  have hlm := hd2.1.len
  rw [hls] at hlm
  have hpm : p ≤ m := by rcases hd2.2 with e | e <;> omega
  have HWV : Hid ((0 : Int) ≤ ((r : Int) + 1) + (p : Int) ∧ ((r : Int) + 1) + (p : Int) ≤ 1000000) := ⟨by omega, by omega⟩
  have HKB : Hid ((((r + 1) : Nat) : Int) = ((r : Int) + 1)) := cast1 r
  have HDG : Hid (∀ V, Calls Tryz.prog 38 #[.string s, .int .i64 ((r : Int) + 1)] V fun e V' => ∃ n1 r1 : Nat, e = .returned (.int .i64 r1) ∧ Hid (Digs s.data.toList (r + 1) n1 r1) ∧ V = V') := fun V => by
    have e := digits_any s (r + 1) V hs hlb
    rw [HKB.out] at e
    exact e
  clear hc2 hd2
  have hp0 : ((p : Int) == 0) = false := beq_eq_false_iff_ne.2 (by omega)
  have hp1 : (((r : Int) + 1) + (p : Int) == (s.size : Int)) = true := beq_iff_eq.2 (by omega)
  have hp2 : (((r : Int) + 1) + (p : Int) != (s.size : Int)) = false := by rw [bne, hp1]; rfl
  have HX2 : Hid ((s.extract (r + 1) s.size).data.toList = s.data.toList.drop (r + 1)) := by show _ = _; rw [extract_list]; exact List.take_of_length_le (by rw [List.length_drop]; omega)
  have hx2 : (s.extract (r + 1) s.size).size ≤ 65536 := by rw [← size_list, HX2.out, List.length_drop]; omega
  have hy1 : (0 : Int) ≤ ((r : Int) + 1) := by omega
  have hy2 : ((r : Int) + 1) ≤ (s.size : Int) := by omega
  have hy3 : ((r : Int) + 1).toNat = (r + 1) := by omega
  have HN2 := hid hn2
  clear hp hq2 hn2 hls
  have HY := hid hY
  clear hY
  obtain ⟨hw1, hw2⟩ := wrapI HWB.out.1 HWB.out.2
  clear HWB
  obtain ⟨hu1, hu2⟩ := wrapI HWU.out.1 HWU.out.2
  clear HWU
  obtain ⟨hv1, hv2⟩ := wrapI HWV.out.1 HWV.out.2
  clear HWV
  go_enter Tryz.func10, Tryz.ntmps10
  have HH := hid (digits_any s 0 (w.alloc (.cells #[.bool false, .slice none 0 0, .slice none 0 0] 24)) hs (by omega))
  go_wp2_with fail
  refine Calls.mono HH.out ?_
  rintro e w1 ⟨n', r', rfl, HD', rfl⟩
  obtain ⟨rfl, rfl⟩ := Digs.uniq HD.out HD'.out
  clear HH HD'
  have HH := hid (number_good (s.extract 0 r) (w.alloc (.cells #[.bool false, .slice none 0 0, .slice none 0 0] 24)) hx1 _ HX1.out HNM.out)
  go_wp2_with fail
  refine Calls.mono HH.out ?_
  rintro e w2 ⟨a2, z2, c2, rfl, H2, hb2⟩
  clear HH hx1 HX1
  generalize s.extract 0 r = T1 at *
  have HH := hid (one3_any w2)
  go_wp2_with fail
  refine Calls.mono HH.out ?_
  rintro e w3 ⟨g3, rfl, o3, hb3⟩
  clear HH
  have HH := hid (HDG.out w3)
  go_wp2_with fail
  refine Calls.mono HH.out ?_
  rintro e w4 ⟨m', p', rfl, HD', rfl⟩
  obtain ⟨rfl, rfl⟩ := Digs.uniq HD2.out HD'.out
  clear HH HD' HDG
  have HH := hid (number_good (s.extract (r + 1) s.size) w3 hx2 _ HX2.out HN2.out)
  go_wp2_with fail
  refine Calls.mono HH.out ?_
  rintro e w4 ⟨a4, z4, c4, rfl, H4, hb4⟩
  clear HH hx2 HX2
  generalize s.extract (r + 1) s.size = T2 at *
  have HB4 := hid (bt (bt hb2 hb3) hb4)
  have HO2 := hid (H2.out.1.later (bt hb3 hb4))
  have HL2 := hid (And.intro H2.out.2 H2.out.1.2.2.1)
  have HO4 := hid H4.out.1
  have HL4 := hid H4.out.2
  have lz2 := H2.out.2
  have lz4 := H4.out.2
  clear hb2 hb3 hb4 H2 H4 o3
  have HG := refGcd_sl _ _ z2 z4 w4 HO2.out.sl HO4.out.sl (by omega) (by omega)
  rw [both_good (chk_good lz2 HO2.out.2.2.1) (chk_good lz4 HO4.out.2.2.1)] at HG
  have HGW := hid (gcd_wide HO2.out.2.1 HO4.out.2.1 (both_good (chk_good lz2 HO2.out.2.2.1) (chk_good lz4 HO4.out.2.2.1)))
  have HH := hid HG
  clear HG
  go_wp2_with fail
  refine Calls.mono HH.out ?_
  rintro e w5 ⟨v5, z5, cd5, rfl, o5, t5, hb5⟩
  obtain ⟨a5, c5, hv⟩ := own_slice' o5
  subst hv
  obtain ⟨hc5, hv5⟩ := t5.good rfl HGW.out
  have l5 : z5.length ≤ 8192 := len_of_lt t5.wd t5.trim (by rw [hv5]; exact HGW.out)
  have HO5 := hid (And.intro (Sl.own o5 t5.wd) (And.intro t5.wd (And.intro t5.trim hv5)))
  have HB5 := hid (bt HB4.out hb5)
  have HZ2 := hid (HO2.out.sl.later hb5)
  have HZ4 := hid (HO4.out.sl.later hb5)
  clear HH o5 t5 hc5 hv5 HGW hb5
  have hl4 : ((z4.length : Int) == 0) = true := by
    have e : z4.length = 0 := by
      by_cases c : z4.length = 0
      · exact c
      · have e2 := val_pos' HO4.out.2.1 HO4.out.2.2.1 (by omega); rw [HO4.out.2.2.2, HY.out] at e2; omega
    rw [e]; rfl
  obtain ⟨r0, r1, r2, f0, f1, f2⟩ := res_box3 HZ.out HB5.out
  have HBA := hid (bt HB.out HB5.out)
  go_wp2_with fail
  refine bodyPost_ret (v := .tuple #[.agg #[.bool false, .slice none 0 0, .slice none 0 0], .int .i64 130]) (by simp [results, Tryz.results10, go_sem, r0, r1, r2]) rfl ?_
  exact RTold.zero (by decide) (below_put3 HBA.out _ (Nat.le_refl _) _ _ _)

set_option maxHeartbeats 6400000 in
set_option maxRecDepth 100000 in
theorem dparse_G10 (s : ByteArray) (w : World) (hs : s.size ≤ 65536) (h0 : 0 < s.size) (hc : ¬ s[0] = 45) (n r : Nat) (hd : Digs s.data.toList 0 n r) (hr : r ≠ 0) (he : 0 + r < s.size) (hc2 : s[0 + r] = 47) (m p : Nat) (hd2 : Digs s.data.toList (r + 1) m p) (hp : p ≠ 0) (hq2 : (r + 1) + p = s.size) (hn2 : IsNum (s.data.toList.drop (r + 1))) (hY : (numTo (s.data.toList.drop (r + 1)) (s.data.toList.drop (r + 1)).length) = 1) (q : Rat) :
    Calls Tryz.prog 10 #[.string s] w (RTold w 130 q) := by
  have HB := hid (alloc_later w (.cells #[.bool false, .slice none 0 0, .slice none 0 0] 24))
  have HZ := hid (Box.made w 24 #[.bool false, .slice none 0 0, .slice none 0 0])
  have hs' : ¬ (65536 : Int) < (s.size : Int) := by omega
  have hz0 : (0 : Int) < (s.size : Int) := by omega
  have hq0 : ((s[0].toNat : Int) == 45) = false := byte_no (d := 45) hc rfl
  have HD := hid hd
  obtain ⟨hrn, hN⟩ := digs_num hd hr
  subst hrn
  have HLN := hid hd.1.len
  have HNM := hid hN
  have hls := size_list s
  have hr1 : ((r : Int) == 0) = false := beq_eq_false_iff_ne.2 (by omega)
  clear hN hd
  have hbA := HLN.out
  rw [hls] at hbA
  have HWB : Hid ((0 : Int) ≤ (r : Int) ∧ (r : Int) ≤ 1000000) := ⟨by omega, by omega⟩
  have ht1 : (r : Int).toNat = 0 + r := by omega
  have hb1 : (0 : Int) ≤ (r : Int) := by omega
  have hb2 : (r : Int) ≤ (s.size : Int) := by omega
  have hb3 : (0 : Int) ≤ (r : Int) := by omega
  have HX1 : Hid ((s.extract 0 r).data.toList = (s.data.toList.drop 0).take r) := by show _ = _; rw [extract_list]; congr 1
  have hx1 : (s.extract 0 r).size ≤ 65536 := by rw [← size_list, HX1.out, List.length_take, List.length_drop]; omega
  have hlt : (r : Int) < (s.size : Int) := by omega
  have hlb : r < s.size := by omega
  have hcb : ((s[r].toNat : Int) == 47) = true := byte_yes (d := 47) (by have e := hc2; simp only [Nat.zero_add] at e; exact e) rfl
  have HWU : Hid ((0 : Int) ≤ ((r : Int) + 1) ∧ ((r : Int) + 1) ≤ 1000000) := ⟨by omega, by omega⟩
  have HD2 := hid hd2
  have hlm := hd2.1.len
  rw [hls] at hlm
  have hpm : p ≤ m := by rcases hd2.2 with e | e <;> omega
  have HWV : Hid ((0 : Int) ≤ ((r : Int) + 1) + (p : Int) ∧ ((r : Int) + 1) + (p : Int) ≤ 1000000) := ⟨by omega, by omega⟩
  have HKB : Hid ((((r + 1) : Nat) : Int) = ((r : Int) + 1)) := cast1 r
  have HDG : Hid (∀ V, Calls Tryz.prog 38 #[.string s, .int .i64 ((r : Int) + 1)] V fun e V' => ∃ n1 r1 : Nat, e = .returned (.int .i64 r1) ∧ Hid (Digs s.data.toList (r + 1) n1 r1) ∧ V = V') := fun V => by
    have e := digits_any s (r + 1) V hs hlb
    rw [HKB.out] at e
    exact e
  clear hc2 hd2
  have hp0 : ((p : Int) == 0) = false := beq_eq_false_iff_ne.2 (by omega)
  have hp1 : (((r : Int) + 1) + (p : Int) == (s.size : Int)) = true := beq_iff_eq.2 (by omega)
  have hp2 : (((r : Int) + 1) + (p : Int) != (s.size : Int)) = false := by rw [bne, hp1]; rfl
  have HX2 : Hid ((s.extract (r + 1) s.size).data.toList = s.data.toList.drop (r + 1)) := by show _ = _; rw [extract_list]; exact List.take_of_length_le (by rw [List.length_drop]; omega)
  have hx2 : (s.extract (r + 1) s.size).size ≤ 65536 := by rw [← size_list, HX2.out, List.length_drop]; omega
  have hy1 : (0 : Int) ≤ ((r : Int) + 1) := by omega
  have hy2 : ((r : Int) + 1) ≤ (s.size : Int) := by omega
  have hy3 : ((r : Int) + 1).toNat = (r + 1) := by omega
  have HN2 := hid hn2
  clear hp hq2 hn2 hls
  have HY1 := hid hY
  have HY : Hid (¬ (numTo (s.data.toList.drop (r + 1)) (s.data.toList.drop (r + 1)).length) = 0) := by show ¬ _; omega
  clear hY
  obtain ⟨hw1, hw2⟩ := wrapI HWB.out.1 HWB.out.2
  clear HWB
  obtain ⟨hu1, hu2⟩ := wrapI HWU.out.1 HWU.out.2
  clear HWU
  obtain ⟨hv1, hv2⟩ := wrapI HWV.out.1 HWV.out.2
  clear HWV
  go_enter Tryz.func10, Tryz.ntmps10
  have HH := hid (digits_any s 0 (w.alloc (.cells #[.bool false, .slice none 0 0, .slice none 0 0] 24)) hs (by omega))
  go_wp2_with fail
  refine Calls.mono HH.out ?_
  rintro e w1 ⟨n', r', rfl, HD', rfl⟩
  obtain ⟨rfl, rfl⟩ := Digs.uniq HD.out HD'.out
  clear HH HD'
  have HH := hid (number_good (s.extract 0 r) (w.alloc (.cells #[.bool false, .slice none 0 0, .slice none 0 0] 24)) hx1 _ HX1.out HNM.out)
  go_wp2_with fail
  refine Calls.mono HH.out ?_
  rintro e w2 ⟨a2, z2, c2, rfl, H2, hb2⟩
  clear HH hx1 HX1
  generalize s.extract 0 r = T1 at *
  have HH := hid (one3_any w2)
  go_wp2_with fail
  refine Calls.mono HH.out ?_
  rintro e w3 ⟨g3, rfl, o3, hb3⟩
  clear HH
  have HH := hid (HDG.out w3)
  go_wp2_with fail
  refine Calls.mono HH.out ?_
  rintro e w4 ⟨m', p', rfl, HD', rfl⟩
  obtain ⟨rfl, rfl⟩ := Digs.uniq HD2.out HD'.out
  clear HH HD' HDG
  have HH := hid (number_good (s.extract (r + 1) s.size) w3 hx2 _ HX2.out HN2.out)
  go_wp2_with fail
  refine Calls.mono HH.out ?_
  rintro e w4 ⟨a4, z4, c4, rfl, H4, hb4⟩
  clear HH hx2 HX2
  generalize s.extract (r + 1) s.size = T2 at *
  have HB4 := hid (bt (bt hb2 hb3) hb4)
  have HO2 := hid (H2.out.1.later (bt hb3 hb4))
  have HL2 := hid (And.intro H2.out.2 H2.out.1.2.2.1)
  have HO4 := hid H4.out.1
  have HL4 := hid H4.out.2
  have lz2 := H2.out.2
  have lz4 := H4.out.2
  clear hb2 hb3 hb4 H2 H4 o3
  have HG := refGcd_sl _ _ z2 z4 w4 HO2.out.sl HO4.out.sl (by omega) (by omega)
  rw [both_good (chk_good lz2 HO2.out.2.2.1) (chk_good lz4 HO4.out.2.2.1)] at HG
  have HGW := hid (gcd_wide HO2.out.2.1 HO4.out.2.1 (both_good (chk_good lz2 HO2.out.2.2.1) (chk_good lz4 HO4.out.2.2.1)))
  have HH := hid HG
  clear HG
  go_wp2_with fail
  refine Calls.mono HH.out ?_
  rintro e w5 ⟨v5, z5, cd5, rfl, o5, t5, hb5⟩
  obtain ⟨a5, c5, hv⟩ := own_slice' o5
  subst hv
  obtain ⟨hc5, hv5⟩ := t5.good rfl HGW.out
  have l5 : z5.length ≤ 8192 := len_of_lt t5.wd t5.trim (by rw [hv5]; exact HGW.out)
  have HO5 := hid (And.intro (Sl.own o5 t5.wd) (And.intro t5.wd (And.intro t5.trim hv5)))
  have HB5 := hid (bt HB4.out hb5)
  have HZ2 := hid (HO2.out.sl.later hb5)
  have HZ4 := hid (HO4.out.sl.later hb5)
  clear HH o5 t5 hc5 hv5 HGW hb5
  have hl4 : ((z4.length : Int) == 0) = false := by
    apply beq_eq_false_iff_ne.2
    intro e
    have e3 : z4 = [] := List.length_eq_zero_iff.1 (by omega)
    have e2 := HO4.out.2.2.2
    rw [e3] at e2
    exact HY.out (by rw [← e2]; simp [val, valTo])
  have HH := hid (one3_any w5)
  go_wp2_with fail
  refine Calls.mono HH.out ?_
  rintro e w6 ⟨g6, rfl, o6, hb6⟩
  clear HH
  have HSM : Calls Tryz.prog 33 #[.slice a4 z4.length c4, .slice (some ⟨g6, 0, none⟩) 1 1] w6 fun e w' => e = .returned (.bool (decide (z4 = [1]))) ∧ Below w6.heap.size w6 w' := same3_sl _ _ z4 [1] w6 (HZ4.out.later hb6) (Sl.own (xs := [1]) o6 (Wd.one (by omega))) (by omega) (by simp)
  rw [decide_eq_true ((one_iff HO4.out.2.1 HO4.out.2.2.1).2 (HO4.out.2.2.2.trans HY1.out))] at HSM
  have HH := hid HSM
  clear HSM
  go_wp2_with fail
  refine Calls.mono HH.out ?_
  rintro e w7 ⟨rfl, hb7⟩
  clear HH
  obtain ⟨r0, r1, r2, f0, f1, f2⟩ := res_box3 HZ.out (bt HB5.out (bt hb6 hb7))
  have HBA := hid (bt HB.out (bt HB5.out (bt hb6 hb7)))
  go_wp2_with fail
  refine bodyPost_ret (v := .tuple #[.agg #[.bool false, .slice none 0 0, .slice none 0 0], .int .i64 130]) (by simp [results, Tryz.results10, go_sem, r0, r1, r2]) rfl ?_
  exact RTold.zero (by decide) (below_put3 HBA.out _ (Nat.le_refl _) _ _ _)

set_option maxHeartbeats 6400000 in
set_option maxRecDepth 100000 in
theorem dparse_G20 (s : ByteArray) (w : World) (hs : s.size ≤ 65536) (h0 : 0 < s.size) (hc : ¬ s[0] = 45) (n r : Nat) (hd : Digs s.data.toList 0 n r) (hr : r ≠ 0) (he : 0 + r < s.size) (hc2 : s[0 + r] = 47) (m p : Nat) (hd2 : Digs s.data.toList (r + 1) m p) (hp : p ≠ 0) (hq2 : (r + 1) + p = s.size) (hn2 : IsNum (s.data.toList.drop (r + 1))) (hY : ¬ (numTo (s.data.toList.drop (r + 1)) (s.data.toList.drop (r + 1)).length) = 0) (hY1 : ¬ (numTo (s.data.toList.drop (r + 1)) (s.data.toList.drop (r + 1)).length) = 1) (hg : ¬ gcdI (numTo ((s.data.toList.drop 0).take r) ((s.data.toList.drop 0).take r).length) (numTo (s.data.toList.drop (r + 1)) (s.data.toList.drop (r + 1)).length) = 1) (q : Rat) :
    Calls Tryz.prog 10 #[.string s] w (RTold w 130 q) := by
  have HB := hid (alloc_later w (.cells #[.bool false, .slice none 0 0, .slice none 0 0] 24))
  have HZ := hid (Box.made w 24 #[.bool false, .slice none 0 0, .slice none 0 0])
  have hs' : ¬ (65536 : Int) < (s.size : Int) := by omega
  have hz0 : (0 : Int) < (s.size : Int) := by omega
  have hq0 : ((s[0].toNat : Int) == 45) = false := byte_no (d := 45) hc rfl
  have HD := hid hd
  obtain ⟨hrn, hN⟩ := digs_num hd hr
  subst hrn
  have HLN := hid hd.1.len
  have HNM := hid hN
  have hls := size_list s
  have hr1 : ((r : Int) == 0) = false := beq_eq_false_iff_ne.2 (by omega)
  clear hN hd
  have hbA := HLN.out
  rw [hls] at hbA
  have HWB : Hid ((0 : Int) ≤ (r : Int) ∧ (r : Int) ≤ 1000000) := ⟨by omega, by omega⟩
  have ht1 : (r : Int).toNat = 0 + r := by omega
  have hb1 : (0 : Int) ≤ (r : Int) := by omega
  have hb2 : (r : Int) ≤ (s.size : Int) := by omega
  have hb3 : (0 : Int) ≤ (r : Int) := by omega
  have HX1 : Hid ((s.extract 0 r).data.toList = (s.data.toList.drop 0).take r) := by show _ = _; rw [extract_list]; congr 1
  have hx1 : (s.extract 0 r).size ≤ 65536 := by rw [← size_list, HX1.out, List.length_take, List.length_drop]; omega
  have hlt : (r : Int) < (s.size : Int) := by omega
  have hlb : r < s.size := by omega
  have hcb : ((s[r].toNat : Int) == 47) = true := byte_yes (d := 47) (by have e := hc2; simp only [Nat.zero_add] at e; exact e) rfl
  have HWU : Hid ((0 : Int) ≤ ((r : Int) + 1) ∧ ((r : Int) + 1) ≤ 1000000) := ⟨by omega, by omega⟩
  have HD2 := hid hd2
  have hlm := hd2.1.len
  rw [hls] at hlm
  have hpm : p ≤ m := by rcases hd2.2 with e | e <;> omega
  have HWV : Hid ((0 : Int) ≤ ((r : Int) + 1) + (p : Int) ∧ ((r : Int) + 1) + (p : Int) ≤ 1000000) := ⟨by omega, by omega⟩
  have HKB : Hid ((((r + 1) : Nat) : Int) = ((r : Int) + 1)) := cast1 r
  have HDG : Hid (∀ V, Calls Tryz.prog 38 #[.string s, .int .i64 ((r : Int) + 1)] V fun e V' => ∃ n1 r1 : Nat, e = .returned (.int .i64 r1) ∧ Hid (Digs s.data.toList (r + 1) n1 r1) ∧ V = V') := fun V => by
    have e := digits_any s (r + 1) V hs hlb
    rw [HKB.out] at e
    exact e
  clear hc2 hd2
  have hp0 : ((p : Int) == 0) = false := beq_eq_false_iff_ne.2 (by omega)
  have hp1 : (((r : Int) + 1) + (p : Int) == (s.size : Int)) = true := beq_iff_eq.2 (by omega)
  have hp2 : (((r : Int) + 1) + (p : Int) != (s.size : Int)) = false := by rw [bne, hp1]; rfl
  have HX2 : Hid ((s.extract (r + 1) s.size).data.toList = s.data.toList.drop (r + 1)) := by show _ = _; rw [extract_list]; exact List.take_of_length_le (by rw [List.length_drop]; omega)
  have hx2 : (s.extract (r + 1) s.size).size ≤ 65536 := by rw [← size_list, HX2.out, List.length_drop]; omega
  have hy1 : (0 : Int) ≤ ((r : Int) + 1) := by omega
  have hy2 : ((r : Int) + 1) ≤ (s.size : Int) := by omega
  have hy3 : ((r : Int) + 1).toNat = (r + 1) := by omega
  have HN2 := hid hn2
  clear hp hq2 hn2 hls
  have HY := hid hY
  have HY1 := hid hY1
  have HGG := hid hg
  clear hY hY1 hg
  obtain ⟨hw1, hw2⟩ := wrapI HWB.out.1 HWB.out.2
  clear HWB
  obtain ⟨hu1, hu2⟩ := wrapI HWU.out.1 HWU.out.2
  clear HWU
  obtain ⟨hv1, hv2⟩ := wrapI HWV.out.1 HWV.out.2
  clear HWV
  go_enter Tryz.func10, Tryz.ntmps10
  have HH := hid (digits_any s 0 (w.alloc (.cells #[.bool false, .slice none 0 0, .slice none 0 0] 24)) hs (by omega))
  go_wp2_with fail
  refine Calls.mono HH.out ?_
  rintro e w1 ⟨n', r', rfl, HD', rfl⟩
  obtain ⟨rfl, rfl⟩ := Digs.uniq HD.out HD'.out
  clear HH HD'
  have HH := hid (number_good (s.extract 0 r) (w.alloc (.cells #[.bool false, .slice none 0 0, .slice none 0 0] 24)) hx1 _ HX1.out HNM.out)
  go_wp2_with fail
  refine Calls.mono HH.out ?_
  rintro e w2 ⟨a2, z2, c2, rfl, H2, hb2⟩
  clear HH hx1 HX1
  generalize s.extract 0 r = T1 at *
  have HH := hid (one3_any w2)
  go_wp2_with fail
  refine Calls.mono HH.out ?_
  rintro e w3 ⟨g3, rfl, o3, hb3⟩
  clear HH
  have HH := hid (HDG.out w3)
  go_wp2_with fail
  refine Calls.mono HH.out ?_
  rintro e w4 ⟨m', p', rfl, HD', rfl⟩
  obtain ⟨rfl, rfl⟩ := Digs.uniq HD2.out HD'.out
  clear HH HD' HDG
  have HH := hid (number_good (s.extract (r + 1) s.size) w3 hx2 _ HX2.out HN2.out)
  go_wp2_with fail
  refine Calls.mono HH.out ?_
  rintro e w4 ⟨a4, z4, c4, rfl, H4, hb4⟩
  clear HH hx2 HX2
  generalize s.extract (r + 1) s.size = T2 at *
  have HB4 := hid (bt (bt hb2 hb3) hb4)
  have HO2 := hid (H2.out.1.later (bt hb3 hb4))
  have HL2 := hid (And.intro H2.out.2 H2.out.1.2.2.1)
  have HO4 := hid H4.out.1
  have HL4 := hid H4.out.2
  have lz2 := H2.out.2
  have lz4 := H4.out.2
  clear hb2 hb3 hb4 H2 H4 o3
  have HG := refGcd_sl _ _ z2 z4 w4 HO2.out.sl HO4.out.sl (by omega) (by omega)
  rw [both_good (chk_good lz2 HO2.out.2.2.1) (chk_good lz4 HO4.out.2.2.1)] at HG
  have HGW := hid (gcd_wide HO2.out.2.1 HO4.out.2.1 (both_good (chk_good lz2 HO2.out.2.2.1) (chk_good lz4 HO4.out.2.2.1)))
  have HH := hid HG
  clear HG
  go_wp2_with fail
  refine Calls.mono HH.out ?_
  rintro e w5 ⟨v5, z5, cd5, rfl, o5, t5, hb5⟩
  obtain ⟨a5, c5, hv⟩ := own_slice' o5
  subst hv
  obtain ⟨hc5, hv5⟩ := t5.good rfl HGW.out
  have l5 : z5.length ≤ 8192 := len_of_lt t5.wd t5.trim (by rw [hv5]; exact HGW.out)
  have HO5 := hid (And.intro (Sl.own o5 t5.wd) (And.intro t5.wd (And.intro t5.trim hv5)))
  have HB5 := hid (bt HB4.out hb5)
  have HZ2 := hid (HO2.out.sl.later hb5)
  have HZ4 := hid (HO4.out.sl.later hb5)
  clear HH o5 t5 hc5 hv5 HGW hb5
  have hl4 : ((z4.length : Int) == 0) = false := by
    apply beq_eq_false_iff_ne.2
    intro e
    have e3 : z4 = [] := List.length_eq_zero_iff.1 (by omega)
    have e2 := HO4.out.2.2.2
    rw [e3] at e2
    exact HY.out (by rw [← e2]; simp [val, valTo])
  have HH := hid (one3_any w5)
  go_wp2_with fail
  refine Calls.mono HH.out ?_
  rintro e w6 ⟨g6, rfl, o6, hb6⟩
  clear HH
  have HSM : Calls Tryz.prog 33 #[.slice a4 z4.length c4, .slice (some ⟨g6, 0, none⟩) 1 1] w6 fun e w' => e = .returned (.bool (decide (z4 = [1]))) ∧ Below w6.heap.size w6 w' := same3_sl _ _ z4 [1] w6 (HZ4.out.later hb6) (Sl.own (xs := [1]) o6 (Wd.one (by omega))) (by omega) (by simp)
  rw [decide_eq_false (fun e => HY1.out (HO4.out.2.2.2.symm.trans ((one_iff HO4.out.2.1 HO4.out.2.2.1).1 e)))] at HSM
  have HH := hid HSM
  clear HSM
  go_wp2_with fail
  refine Calls.mono HH.out ?_
  rintro e w7 ⟨rfl, hb7⟩
  clear HH
  have HB7 := hid (bt hb6 hb7)
  clear hb6 hb7 o6
  have HH := hid (one3_any w7)
  go_wp2_with fail
  refine Calls.mono HH.out ?_
  rintro e w8 ⟨g8, rfl, o8, hb8⟩
  clear HH
  have HSM : Calls Tryz.prog 33 #[.slice a5 z5.length c5, .slice (some ⟨g8, 0, none⟩) 1 1] w8 fun e w' => e = .returned (.bool (decide (z5 = [1]))) ∧ Below w8.heap.size w8 w' := same3_sl _ _ z5 [1] w8 (HO5.out.1.later (bt HB7.out hb8)) (Sl.own (xs := [1]) o8 (Wd.one (by omega))) (by omega) (by simp)
  rw [decide_eq_false (fun e => HGG.out (by have e2 := (one_iff HO5.out.2.1 HO5.out.2.2.1).1 e; rw [HO5.out.2.2.2, HO2.out.2.2.2, HO4.out.2.2.2] at e2; exact e2))] at HSM
  have HH := hid HSM
  clear HSM
  go_wp2_with fail
  refine Calls.mono HH.out ?_
  rintro e w9 ⟨rfl, hb9⟩
  clear HH
  obtain ⟨r0, r1, r2, f0, f1, f2⟩ := res_box3 HZ.out (bt HB5.out (bt HB7.out (bt hb8 hb9)))
  have HBA := hid (bt HB.out (bt HB5.out (bt HB7.out (bt hb8 hb9))))
  go_wp2_with fail
  refine bodyPost_ret (v := .tuple #[.agg #[.bool false, .slice none 0 0, .slice none 0 0], .int .i64 130]) (by simp [results, Tryz.results10, go_sem, r0, r1, r2]) rfl ?_
  exact RTold.zero (by decide) (below_put3 HBA.out _ (Nat.le_refl _) _ _ _)

set_option maxHeartbeats 6400000 in
set_option maxRecDepth 100000 in
theorem dparse_G30 (s : ByteArray) (w : World) (hs : s.size ≤ 65536) (h0 : 0 < s.size) (hc : ¬ s[0] = 45) (n r : Nat) (hd : Digs s.data.toList 0 n r) (hr : r ≠ 0) (he : 0 + r < s.size) (hc2 : s[0 + r] = 47) (m p : Nat) (hd2 : Digs s.data.toList (r + 1) m p) (hp : p ≠ 0) (hq2 : (r + 1) + p = s.size) (hn2 : IsNum (s.data.toList.drop (r + 1))) (hY : ¬ (numTo (s.data.toList.drop (r + 1)) (s.data.toList.drop (r + 1)).length) = 0) (hY1 : ¬ (numTo (s.data.toList.drop (r + 1)) (s.data.toList.drop (r + 1)).length) = 1) (hg : gcdI (numTo ((s.data.toList.drop 0).take r) ((s.data.toList.drop 0).take r).length) (numTo (s.data.toList.drop (r + 1)) (s.data.toList.drop (r + 1)).length) = 1) (q : Rat) (hq : Rat.divInt (sg false (numTo ((s.data.toList.drop 0).take r) ((s.data.toList.drop 0).take r).length)) (numTo (s.data.toList.drop (r + 1)) (s.data.toList.drop (r + 1)).length) = q) :
    Calls Tryz.prog 10 #[.string s] w (RTold w 0 q) := by
  have HB := hid (alloc_later w (.cells #[.bool false, .slice none 0 0, .slice none 0 0] 24))
  have HZ := hid (Box.made w 24 #[.bool false, .slice none 0 0, .slice none 0 0])
  have hs' : ¬ (65536 : Int) < (s.size : Int) := by omega
  have hz0 : (0 : Int) < (s.size : Int) := by omega
  have hq0 : ((s[0].toNat : Int) == 45) = false := byte_no (d := 45) hc rfl
  have HD := hid hd
  obtain ⟨hrn, hN⟩ := digs_num hd hr
  subst hrn
  have HLN := hid hd.1.len
  have HNM := hid hN
  have hls := size_list s
  have hr1 : ((r : Int) == 0) = false := beq_eq_false_iff_ne.2 (by omega)
  clear hN hd
  have hbA := HLN.out
  rw [hls] at hbA
  have HWB : Hid ((0 : Int) ≤ (r : Int) ∧ (r : Int) ≤ 1000000) := ⟨by omega, by omega⟩
  have ht1 : (r : Int).toNat = 0 + r := by omega
  have hb1 : (0 : Int) ≤ (r : Int) := by omega
  have hb2 : (r : Int) ≤ (s.size : Int) := by omega
  have hb3 : (0 : Int) ≤ (r : Int) := by omega
  have HX1 : Hid ((s.extract 0 r).data.toList = (s.data.toList.drop 0).take r) := by show _ = _; rw [extract_list]; congr 1
  have hx1 : (s.extract 0 r).size ≤ 65536 := by rw [← size_list, HX1.out, List.length_take, List.length_drop]; omega
  have hlt : (r : Int) < (s.size : Int) := by omega
  have hlb : r < s.size := by omega
  have hcb : ((s[r].toNat : Int) == 47) = true := byte_yes (d := 47) (by have e := hc2; simp only [Nat.zero_add] at e; exact e) rfl
  have HWU : Hid ((0 : Int) ≤ ((r : Int) + 1) ∧ ((r : Int) + 1) ≤ 1000000) := ⟨by omega, by omega⟩
  have HD2 := hid hd2
  have hlm := hd2.1.len
  rw [hls] at hlm
  have hpm : p ≤ m := by rcases hd2.2 with e | e <;> omega
  have HWV : Hid ((0 : Int) ≤ ((r : Int) + 1) + (p : Int) ∧ ((r : Int) + 1) + (p : Int) ≤ 1000000) := ⟨by omega, by omega⟩
  have HKB : Hid ((((r + 1) : Nat) : Int) = ((r : Int) + 1)) := cast1 r
  have HDG : Hid (∀ V, Calls Tryz.prog 38 #[.string s, .int .i64 ((r : Int) + 1)] V fun e V' => ∃ n1 r1 : Nat, e = .returned (.int .i64 r1) ∧ Hid (Digs s.data.toList (r + 1) n1 r1) ∧ V = V') := fun V => by
    have e := digits_any s (r + 1) V hs hlb
    rw [HKB.out] at e
    exact e
  clear hc2 hd2
  have hp0 : ((p : Int) == 0) = false := beq_eq_false_iff_ne.2 (by omega)
  have hp1 : (((r : Int) + 1) + (p : Int) == (s.size : Int)) = true := beq_iff_eq.2 (by omega)
  have hp2 : (((r : Int) + 1) + (p : Int) != (s.size : Int)) = false := by rw [bne, hp1]; rfl
  have HX2 : Hid ((s.extract (r + 1) s.size).data.toList = s.data.toList.drop (r + 1)) := by show _ = _; rw [extract_list]; exact List.take_of_length_le (by rw [List.length_drop]; omega)
  have hx2 : (s.extract (r + 1) s.size).size ≤ 65536 := by rw [← size_list, HX2.out, List.length_drop]; omega
  have hy1 : (0 : Int) ≤ ((r : Int) + 1) := by omega
  have hy2 : ((r : Int) + 1) ≤ (s.size : Int) := by omega
  have hy3 : ((r : Int) + 1).toNat = (r + 1) := by omega
  have HN2 := hid hn2
  clear hp hq2 hn2 hls
  have HY := hid hY
  have HY1 := hid hY1
  have HGG := hid hg
  have HQQ := hid hq
  clear hY hY1 hg hq
  obtain ⟨hw1, hw2⟩ := wrapI HWB.out.1 HWB.out.2
  clear HWB
  obtain ⟨hu1, hu2⟩ := wrapI HWU.out.1 HWU.out.2
  clear HWU
  obtain ⟨hv1, hv2⟩ := wrapI HWV.out.1 HWV.out.2
  clear HWV
  go_enter Tryz.func10, Tryz.ntmps10
  have HH := hid (digits_any s 0 (w.alloc (.cells #[.bool false, .slice none 0 0, .slice none 0 0] 24)) hs (by omega))
  go_wp2_with fail
  refine Calls.mono HH.out ?_
  rintro e w1 ⟨n', r', rfl, HD', rfl⟩
  obtain ⟨rfl, rfl⟩ := Digs.uniq HD.out HD'.out
  clear HH HD'
  have HH := hid (number_good (s.extract 0 r) (w.alloc (.cells #[.bool false, .slice none 0 0, .slice none 0 0] 24)) hx1 _ HX1.out HNM.out)
  go_wp2_with fail
  refine Calls.mono HH.out ?_
  rintro e w2 ⟨a2, z2, c2, rfl, H2, hb2⟩
  clear HH hx1 HX1
  generalize s.extract 0 r = T1 at *
  have HH := hid (one3_any w2)
  go_wp2_with fail
  refine Calls.mono HH.out ?_
  rintro e w3 ⟨g3, rfl, o3, hb3⟩
  clear HH
  have HH := hid (HDG.out w3)
  go_wp2_with fail
  refine Calls.mono HH.out ?_
  rintro e w4 ⟨m', p', rfl, HD', rfl⟩
  obtain ⟨rfl, rfl⟩ := Digs.uniq HD2.out HD'.out
  clear HH HD' HDG
  have HH := hid (number_good (s.extract (r + 1) s.size) w3 hx2 _ HX2.out HN2.out)
  go_wp2_with fail
  refine Calls.mono HH.out ?_
  rintro e w4 ⟨a4, z4, c4, rfl, H4, hb4⟩
  clear HH hx2 HX2
  generalize s.extract (r + 1) s.size = T2 at *
  have HB4 := hid (bt (bt hb2 hb3) hb4)
  have HO2 := hid (H2.out.1.later (bt hb3 hb4))
  have HL2 := hid (And.intro H2.out.2 H2.out.1.2.2.1)
  have HO4 := hid H4.out.1
  have HL4 := hid H4.out.2
  have lz2 := H2.out.2
  have lz4 := H4.out.2
  clear hb2 hb3 hb4 H2 H4 o3
  have HG := refGcd_sl _ _ z2 z4 w4 HO2.out.sl HO4.out.sl (by omega) (by omega)
  rw [both_good (chk_good lz2 HO2.out.2.2.1) (chk_good lz4 HO4.out.2.2.1)] at HG
  have HGW := hid (gcd_wide HO2.out.2.1 HO4.out.2.1 (both_good (chk_good lz2 HO2.out.2.2.1) (chk_good lz4 HO4.out.2.2.1)))
  have HH := hid HG
  clear HG
  go_wp2_with fail
  refine Calls.mono HH.out ?_
  rintro e w5 ⟨v5, z5, cd5, rfl, o5, t5, hb5⟩
  obtain ⟨a5, c5, hv⟩ := own_slice' o5
  subst hv
  obtain ⟨hc5, hv5⟩ := t5.good rfl HGW.out
  have l5 : z5.length ≤ 8192 := len_of_lt t5.wd t5.trim (by rw [hv5]; exact HGW.out)
  have HO5 := hid (And.intro (Sl.own o5 t5.wd) (And.intro t5.wd (And.intro t5.trim hv5)))
  have HB5 := hid (bt HB4.out hb5)
  have HZ2 := hid (HO2.out.sl.later hb5)
  have HZ4 := hid (HO4.out.sl.later hb5)
  clear HH o5 t5 hc5 hv5 HGW hb5
  have hl4 : ((z4.length : Int) == 0) = false := by
    apply beq_eq_false_iff_ne.2
    intro e
    have e3 : z4 = [] := List.length_eq_zero_iff.1 (by omega)
    have e2 := HO4.out.2.2.2
    rw [e3] at e2
    exact HY.out (by rw [← e2]; simp [val, valTo])
  have HH := hid (one3_any w5)
  go_wp2_with fail
  refine Calls.mono HH.out ?_
  rintro e w6 ⟨g6, rfl, o6, hb6⟩
  clear HH
  have HSM : Calls Tryz.prog 33 #[.slice a4 z4.length c4, .slice (some ⟨g6, 0, none⟩) 1 1] w6 fun e w' => e = .returned (.bool (decide (z4 = [1]))) ∧ Below w6.heap.size w6 w' := same3_sl _ _ z4 [1] w6 (HZ4.out.later hb6) (Sl.own (xs := [1]) o6 (Wd.one (by omega))) (by omega) (by simp)
  rw [decide_eq_false (fun e => HY1.out (HO4.out.2.2.2.symm.trans ((one_iff HO4.out.2.1 HO4.out.2.2.1).1 e)))] at HSM
  have HH := hid HSM
  clear HSM
  go_wp2_with fail
  refine Calls.mono HH.out ?_
  rintro e w7 ⟨rfl, hb7⟩
  clear HH
  have HB7 := hid (bt hb6 hb7)
  clear hb6 hb7 o6
  have HH := hid (one3_any w7)
  go_wp2_with fail
  refine Calls.mono HH.out ?_
  rintro e w8 ⟨g8, rfl, o8, hb8⟩
  clear HH
  have HSM : Calls Tryz.prog 33 #[.slice a5 z5.length c5, .slice (some ⟨g8, 0, none⟩) 1 1] w8 fun e w' => e = .returned (.bool (decide (z5 = [1]))) ∧ Below w8.heap.size w8 w' := same3_sl _ _ z5 [1] w8 (HO5.out.1.later (bt HB7.out hb8)) (Sl.own (xs := [1]) o8 (Wd.one (by omega))) (by omega) (by simp)
  rw [decide_eq_true ((one_iff HO5.out.2.1 HO5.out.2.2.1).2 (by rw [HO5.out.2.2.2, HO2.out.2.2.2, HO4.out.2.2.2]; exact HGG.out))] at HSM
  have HH := hid HSM
  clear HSM
  go_wp2_with fail
  refine Calls.mono HH.out ?_
  rintro e wa ⟨rfl, hba⟩
  clear HH
  have HBA := hid (bt HB7.out (bt hb8 hba))
  have HBB := hid (bt HB5.out HBA.out)
  replace HZ2 := hid (HZ2.out.later HBA.out)
  replace HZ4 := hid (HZ4.out.later HBA.out)
  have HQ : Hid (Rat.divInt (sg false (val z2)) (val z4) = q) := by show _ = _; rw [HO2.out.2.2.2, HO4.out.2.2.2]; exact HQQ.out
  have hz4p : 0 < z4.length := by
    by_cases c : z4.length = 0
    · rw [c] at hl4; simp at hl4
    · omega
  clear hb8 hba HB7 HB5 HO5 o8 hl4
  have HO : Calls Tryz.prog 41 #[.bool false, .slice a2 z2.length c2, .slice a4 z4.length c4] wa (RTold wa 0 (Rat.divInt (sg false (val z2)) (val z4))) := of3_any false _ _ z2 _ _ z4 wa HZ2.out HZ4.out HL2.out.1 HL4.out HL2.out.2 HO4.out.2.2.1 hz4p
  rw [HQ.out] at HO
  have HH := hid (HO)
  go_wp2_with fail
  refine Calls.mono HH.out ?_
  rintro e w9 ⟨k9, v9, z9, u9, d9, code, rfl, o9, p9, t9, hb9⟩
  clear HH
  obtain ⟨a9, c9, hv⟩ := own_slice' o9
  subst hv
  obtain ⟨b9, l9, hv⟩ := own_slice' p9
  subst hv
  have hbX := bt HBB.out hb9
  obtain ⟨r0, r1, r2, f0, f1, f2⟩ := res_box3 HZ.out hbX
  have HBW := hid (bt HB.out hbX)
  have hzz := (HBB.out).size
  have HE9 := hid (And.intro (owns_base o9 hzz) (And.intro (owns_base p9 hzz) t9))
  have HLT : Hid (w.heap.size < (w.alloc (.cells #[.bool false, .slice none 0 0, .slice none 0 0] 24)).heap.size) := by show _ < _; simp
  clear hbX o9 p9 t9 hb9 hzz HO
  go_wp2_with fail
  refine bodyPost_ret (v := .tuple #[.agg #[.bool k9, .slice a9 z9.length c9, .slice b9 d9.length l9], .int .i64 code]) (by simp [results, Tryz.results10, go_sem, r0, r1, r2]) rfl ?_
  exact RTold.put HE9.out w.heap.size HLT.out (Nat.le_refl _) HBW.out _ _ _
end Go.Proofs.YtbnhpkelnoolhaaGreatDoor

/- The document's answer for Parse of a fraction, way by way: behind a minus. -/
namespace Go.Proofs.YtbnhpkelnoolhaaGreatDoor
open Go.RowKit Go.Lib
set_option linter.unusedVariables false

set_option maxHeartbeats 6400000 in
set_option maxRecDepth 100000 in
theorem dparse_C11 (s : ByteArray) (w : World) (hs : s.size ≤ 65536) (h0 : 0 < s.size) (hc : s[0] = 45) (n : Nat) (hd : Digs s.data.toList 1 n 0) (q : Rat) :
    Calls Tryz.prog 10 #[.string s] w (RTold w 130 q) := by
  have HB := hid (alloc_later w (.cells #[.bool false, .slice none 0 0, .slice none 0 0] 24))
  have HZ := hid (Box.made w 24 #[.bool false, .slice none 0 0, .slice none 0 0])
  have hs' : ¬ (65536 : Int) < (s.size : Int) := by omega
  have hz0 : (0 : Int) < (s.size : Int) := by omega
  have hq0 : ((s[0].toNat : Int) == 45) = true := byte_yes (d := 45) hc rfl
  have HD := hid hd
  clear hd
  go_enter Tryz.func10, Tryz.ntmps10
  have HH := hid (digits_any s 1 (w.alloc (.cells #[.bool false, .slice none 0 0, .slice none 0 0] 24)) hs (by omega))
  go_wp2_with fail
  refine Calls.mono HH.out ?_
  rintro e w1 ⟨n', r', rfl, HD', rfl⟩
  obtain ⟨rfl, rfl⟩ := Digs.uniq HD.out HD'.out
  clear HH HD'
  obtain ⟨r0, r1, r2, f0, f1, f2⟩ := res_box3 HZ.out (Below.refl (w.alloc (.cells #[.bool false, .slice none 0 0, .slice none 0 0] 24)).heap.size (w.alloc (.cells #[.bool false, .slice none 0 0, .slice none 0 0] 24)))
  have HBA := hid (bt HB.out (Below.refl (w.alloc (.cells #[.bool false, .slice none 0 0, .slice none 0 0] 24)).heap.size (w.alloc (.cells #[.bool false, .slice none 0 0, .slice none 0 0] 24))))
  go_wp2_with fail
  refine bodyPost_ret (v := .tuple #[.agg #[.bool false, .slice none 0 0, .slice none 0 0], .int .i64 130]) (by simp [results, Tryz.results10, go_sem, r0, r1, r2]) rfl ?_
  exact RTold.zero (by decide) HB.out

set_option maxHeartbeats 6400000 in
set_option maxRecDepth 100000 in
theorem dparse_C2 (s : ByteArray) (w : World) (hs : s.size ≤ 65536) (h0 : 0 < s.size) (hc : s[0] = 45) (n r : Nat) (hd : Digs s.data.toList 1 n r) (hr : r ≠ 0) (h1 : 1 < s.size) (hz : s[1] = 48) (q : Rat) :
    Calls Tryz.prog 10 #[.string s] w (RTold w 130 q) := by
  have HB := hid (alloc_later w (.cells #[.bool false, .slice none 0 0, .slice none 0 0] 24))
  have HZ := hid (Box.made w 24 #[.bool false, .slice none 0 0, .slice none 0 0])
  have hs' : ¬ (65536 : Int) < (s.size : Int) := by omega
  have hz0 : (0 : Int) < (s.size : Int) := by omega
  have hq0 : ((s[0].toNat : Int) == 45) = true := byte_yes (d := 45) hc rfl
  have HD := hid hd
  have hr1 : ((r : Int) == 0) = false := beq_eq_false_iff_ne.2 (by omega)
  have hz1 : ((s[1].toNat : Int) == 48) = true := byte_yes (d := 48) (hz) rfl
  clear hd hz
  go_enter Tryz.func10, Tryz.ntmps10
  have HH := hid (digits_any s 1 (w.alloc (.cells #[.bool false, .slice none 0 0, .slice none 0 0] 24)) hs (by omega))
  go_wp2_with fail
  refine Calls.mono HH.out ?_
  rintro e w1 ⟨n', r', rfl, HD', rfl⟩
  obtain ⟨rfl, rfl⟩ := Digs.uniq HD.out HD'.out
  clear HH HD'
  obtain ⟨r0, r1, r2, f0, f1, f2⟩ := res_box3 HZ.out (Below.refl (w.alloc (.cells #[.bool false, .slice none 0 0, .slice none 0 0] 24)).heap.size (w.alloc (.cells #[.bool false, .slice none 0 0, .slice none 0 0] 24)))
  have HBA := hid (bt HB.out (Below.refl (w.alloc (.cells #[.bool false, .slice none 0 0, .slice none 0 0] 24)).heap.size (w.alloc (.cells #[.bool false, .slice none 0 0, .slice none 0 0] 24))))
  go_wp2_with fail
  refine bodyPost_ret (v := .tuple #[.agg #[.bool false, .slice none 0 0, .slice none 0 0], .int .i64 130]) (by simp [results, Tryz.results10, go_sem, r0, r1, r2]) rfl ?_
  exact RTold.zero (by decide) HB.out

set_option maxHeartbeats 6400000 in
set_option maxRecDepth 100000 in
theorem dparse_E1 (s : ByteArray) (w : World) (hs : s.size ≤ 65536) (h0 : 0 < s.size) (hc : s[0] = 45) (n r : Nat) (hd : Digs s.data.toList 1 n r) (hr : r ≠ 0) (h1 : 1 < s.size) (hz : ¬ s[1] = 48) (he : 1 + r = s.size) (q : Rat) (hq : Rat.divInt (sg true (numTo ((s.data.toList.drop 1).take r) ((s.data.toList.drop 1).take r).length)) 1 = q) :
    Calls Tryz.prog 10 #[.string s] w (RTold w 0 q) := by
  have HB := hid (alloc_later w (.cells #[.bool false, .slice none 0 0, .slice none 0 0] 24))
  have HZ := hid (Box.made w 24 #[.bool false, .slice none 0 0, .slice none 0 0])
  have hs' : ¬ (65536 : Int) < (s.size : Int) := by omega
  have hz0 : (0 : Int) < (s.size : Int) := by omega
  have hq0 : ((s[0].toNat : Int) == 45) = true := byte_yes (d := 45) hc rfl
  have HD := hid hd
  obtain ⟨hrn, hN⟩ := digs_num hd hr
  subst hrn
  have HLN := hid hd.1.len
  have HNM := hid hN
  have hls := size_list s
  have hr1 : ((r : Int) == 0) = false := beq_eq_false_iff_ne.2 (by omega)
  have hz1 : ((s[1].toNat : Int) == 48) = false := byte_no (d := 48) (hz) rfl
  clear hN hd hz
  have hbA := HLN.out
  rw [hls] at hbA
  have HWB : Hid ((0 : Int) ≤ (1 + (r : Int)) ∧ (1 + (r : Int)) ≤ 1000000) := ⟨by omega, by omega⟩
  have ht1 : (1 + (r : Int)).toNat = 1 + r := by omega
  have hb1 : (0 : Int) ≤ (1 + (r : Int)) := by omega
  have hb2 : (1 + (r : Int)) ≤ (s.size : Int) := by omega
  have hb3 : (1 : Int) ≤ (1 + (r : Int)) := by omega
  have HX1 : Hid ((s.extract 1 (1 + r)).data.toList = (s.data.toList.drop 1).take r) := by show _ = _; rw [extract_list]; congr 1; omega
  have hx1 : (s.extract 1 (1 + r)).size ≤ 65536 := by rw [← size_list, HX1.out, List.length_take, List.length_drop]; omega
  have hlt : ¬ (1 + (r : Int)) < (s.size : Int) := by omega
  have HQQ := hid hq
  clear hq he hls
  obtain ⟨hw1, hw2⟩ := wrapI HWB.out.1 HWB.out.2
  clear HWB
  go_enter Tryz.func10, Tryz.ntmps10
  have HH := hid (digits_any s 1 (w.alloc (.cells #[.bool false, .slice none 0 0, .slice none 0 0] 24)) hs (by omega))
  go_wp2_with fail
  refine Calls.mono HH.out ?_
  rintro e w1 ⟨n', r', rfl, HD', rfl⟩
  obtain ⟨rfl, rfl⟩ := Digs.uniq HD.out HD'.out
  clear HH HD'
  have HH := hid (number_good (s.extract 1 (1 + r)) (w.alloc (.cells #[.bool false, .slice none 0 0, .slice none 0 0] 24)) hx1 _ HX1.out HNM.out)
  go_wp2_with fail
  refine Calls.mono HH.out ?_
  rintro e w2 ⟨a2, z2, c2, rfl, H2, hb2⟩
  clear HH hx1 HX1
  generalize s.extract 1 (1 + r) = T1 at *
  have HH := hid (one3_any w2)
  go_wp2_with fail
  refine Calls.mono HH.out ?_
  rintro e w3 ⟨g3, rfl, o3, hb3⟩
  clear HH
  have HB3 := hid (bt hb2 hb3)
  have HO3 := hid o3
  have HZ2 := hid ((Sl.own H2.out.1.1 H2.out.1.2.1).later hb3)
  have HL2 := hid (And.intro H2.out.2 H2.out.1.2.2.1)
  have HQ : Hid (Rat.divInt (sg true (val z2)) (val [1]) = q) := by show _ = _; rw [H2.out.1.2.2.2, show val [1] = 1 by simp [val, valTo]]; exact HQQ.out
  clear o3 hb2 hb3 H2 HQQ
  have HO : Calls Tryz.prog 41 #[.bool true, .slice a2 z2.length c2, .slice (some ⟨g3, 0, none⟩) 1 1] w3 (RTold w3 0 (Rat.divInt (sg true (val z2)) (val [1]))) := of3_any true _ _ z2 _ _ [1] w3 HZ2.out (Sl.own (xs := [1]) HO3.out (Wd.one (by omega))) HL2.out.1 (by simp) HL2.out.2 rfl (by simp)
  rw [HQ.out] at HO
  have HH := hid (HO)
  go_wp2_with fail
  refine Calls.mono HH.out ?_
  rintro e w9 ⟨k9, v9, z9, u9, d9, code, rfl, o9, p9, t9, hb9⟩
  clear HH
  obtain ⟨a9, c9, hv⟩ := own_slice' o9
  subst hv
  obtain ⟨b9, l9, hv⟩ := own_slice' p9
  subst hv
  have hbX := bt HB3.out hb9
  obtain ⟨r0, r1, r2, f0, f1, f2⟩ := res_box3 HZ.out hbX
  have HBW := hid (bt HB.out hbX)
  have hzz := (HB3.out).size
  have HE9 := hid (And.intro (owns_base o9 hzz) (And.intro (owns_base p9 hzz) t9))
  have HLT : Hid (w.heap.size < (w.alloc (.cells #[.bool false, .slice none 0 0, .slice none 0 0] 24)).heap.size) := by show _ < _; simp
  clear hbX o9 p9 t9 hb9 hzz HO
  go_wp2_with fail
  refine bodyPost_ret (v := .tuple #[.agg #[.bool k9, .slice a9 z9.length c9, .slice b9 d9.length l9], .int .i64 code]) (by simp [results, Tryz.results10, go_sem, r0, r1, r2]) rfl ?_
  exact RTold.put HE9.out w.heap.size HLT.out (Nat.le_refl _) HBW.out _ _ _

set_option maxHeartbeats 6400000 in
set_option maxRecDepth 100000 in
theorem dparse_B1 (s : ByteArray) (w : World) (hs : s.size ≤ 65536) (h0 : 0 < s.size) (hc : s[0] = 45) (n r : Nat) (hd : Digs s.data.toList 1 n r) (hr : r ≠ 0) (h1 : 1 < s.size) (hz : ¬ s[1] = 48) (he : 1 + r < s.size) (hc2 : ¬ s[1 + r] = 47) (q : Rat) :
    Calls Tryz.prog 10 #[.string s] w (RTold w 130 q) := by
  have HB := hid (alloc_later w (.cells #[.bool false, .slice none 0 0, .slice none 0 0] 24))
  have HZ := hid (Box.made w 24 #[.bool false, .slice none 0 0, .slice none 0 0])
  have hs' : ¬ (65536 : Int) < (s.size : Int) := by omega
  have hz0 : (0 : Int) < (s.size : Int) := by omega
  have hq0 : ((s[0].toNat : Int) == 45) = true := byte_yes (d := 45) hc rfl
  have HD := hid hd
  obtain ⟨hrn, hN⟩ := digs_num hd hr
  subst hrn
  have HLN := hid hd.1.len
  have HNM := hid hN
  have hls := size_list s
  have hr1 : ((r : Int) == 0) = false := beq_eq_false_iff_ne.2 (by omega)
  have hz1 : ((s[1].toNat : Int) == 48) = false := byte_no (d := 48) (hz) rfl
  clear hN hd hz
  have hbA := HLN.out
  rw [hls] at hbA
  have HWB : Hid ((0 : Int) ≤ (1 + (r : Int)) ∧ (1 + (r : Int)) ≤ 1000000) := ⟨by omega, by omega⟩
  have ht1 : (1 + (r : Int)).toNat = 1 + r := by omega
  have hb1 : (0 : Int) ≤ (1 + (r : Int)) := by omega
  have hb2 : (1 + (r : Int)) ≤ (s.size : Int) := by omega
  have hb3 : (1 : Int) ≤ (1 + (r : Int)) := by omega
  have HX1 : Hid ((s.extract 1 (1 + r)).data.toList = (s.data.toList.drop 1).take r) := by show _ = _; rw [extract_list]; congr 1; omega
  have hx1 : (s.extract 1 (1 + r)).size ≤ 65536 := by rw [← size_list, HX1.out, List.length_take, List.length_drop]; omega
  have hlt : (1 + (r : Int)) < (s.size : Int) := by omega
  have hlb : 1 + r < s.size := by omega
  have hcb : ((s[1 + r].toNat : Int) == 47) = false := byte_no (d := 47) (by exact hc2) rfl
  clear hc2 hls
  obtain ⟨hw1, hw2⟩ := wrapI HWB.out.1 HWB.out.2
  clear HWB
  go_enter Tryz.func10, Tryz.ntmps10
  have HH := hid (digits_any s 1 (w.alloc (.cells #[.bool false, .slice none 0 0, .slice none 0 0] 24)) hs (by omega))
  go_wp2_with fail
  refine Calls.mono HH.out ?_
  rintro e w1 ⟨n', r', rfl, HD', rfl⟩
  obtain ⟨rfl, rfl⟩ := Digs.uniq HD.out HD'.out
  clear HH HD'
  have HH := hid (number_good (s.extract 1 (1 + r)) (w.alloc (.cells #[.bool false, .slice none 0 0, .slice none 0 0] 24)) hx1 _ HX1.out HNM.out)
  go_wp2_with fail
  refine Calls.mono HH.out ?_
  rintro e w2 ⟨a2, z2, c2, rfl, H2, hb2⟩
  clear HH hx1 HX1
  generalize s.extract 1 (1 + r) = T1 at *
  have HH := hid (one3_any w2)
  go_wp2_with fail
  refine Calls.mono HH.out ?_
  rintro e w3 ⟨g3, rfl, o3, hb3⟩
  clear HH
  obtain ⟨r0, r1, r2, f0, f1, f2⟩ := res_box3 HZ.out (bt hb2 hb3)
  have HBA := hid (bt HB.out (bt hb2 hb3))
  go_wp2_with fail
  refine bodyPost_ret (v := .tuple #[.agg #[.bool false, .slice none 0 0, .slice none 0 0], .int .i64 130]) (by simp [results, Tryz.results10, go_sem, r0, r1, r2]) rfl ?_
  exact RTold.zero (by decide) (below_put3 HBA.out _ (Nat.le_refl _) _ _ _)

set_option maxHeartbeats 6400000 in
set_option maxRecDepth 100000 in
theorem dparse_F11 (s : ByteArray) (w : World) (hs : s.size ≤ 65536) (h0 : 0 < s.size) (hc : s[0] = 45) (n r : Nat) (hd : Digs s.data.toList 1 n r) (hr : r ≠ 0) (h1 : 1 < s.size) (hz : ¬ s[1] = 48) (he : 1 + r < s.size) (hc2 : s[1 + r] = 47) (m p : Nat) (hd2 : Digs s.data.toList (1 + r + 1) m p) (hp : p = 0) (q : Rat) :
    Calls Tryz.prog 10 #[.string s] w (RTold w 130 q) := by
  have HB := hid (alloc_later w (.cells #[.bool false, .slice none 0 0, .slice none 0 0] 24))
  have HZ := hid (Box.made w 24 #[.bool false, .slice none 0 0, .slice none 0 0])
  have hs' : ¬ (65536 : Int) < (s.size : Int) := by omega
  have hz0 : (0 : Int) < (s.size : Int) := by omega
  have hq0 : ((s[0].toNat : Int) == 45) = true := byte_yes (d := 45) hc rfl
  have HD := hid hd
  obtain ⟨hrn, hN⟩ := digs_num hd hr
  subst hrn
  have HLN := hid hd.1.len
  have HNM := hid hN
  have hls := size_list s
  have hr1 : ((r : Int) == 0) = false := beq_eq_false_iff_ne.2 (by omega)
  have hz1 : ((s[1].toNat : Int) == 48) = false := byte_no (d := 48) (hz) rfl
  clear hN hd hz
  have hbA := HLN.out
  rw [hls] at hbA
  have HWB : Hid ((0 : Int) ≤ (1 + (r : Int)) ∧ (1 + (r : Int)) ≤ 1000000) := ⟨by omega, by omega⟩
  have ht1 : (1 + (r : Int)).toNat = 1 + r := by omega
  have hb1 : (0 : Int) ≤ (1 + (r : Int)) := by omega
  have hb2 : (1 + (r : Int)) ≤ (s.size : Int) := by omega
  have hb3 : (1 : Int) ≤ (1 + (r : Int)) := by omega
  have HX1 : Hid ((s.extract 1 (1 + r)).data.toList = (s.data.toList.drop 1).take r) := by show _ = _; rw [extract_list]; congr 1; omega
  have hx1 : (s.extract 1 (1 + r)).size ≤ 65536 := by rw [← size_list, HX1.out, List.length_take, List.length_drop]; omega
  have hlt : (1 + (r : Int)) < (s.size : Int) := by omega
  have hlb : 1 + r < s.size := by omega
  have hcb : ((s[1 + r].toNat : Int) == 47) = true := byte_yes (d := 47) (by exact hc2) rfl
  have HWU : Hid ((0 : Int) ≤ (1 + (r : Int) + 1) ∧ (1 + (r : Int) + 1) ≤ 1000000) := ⟨by omega, by omega⟩
  have HD2 := hid hd2
  have hlm := hd2.1.len
  rw [hls] at hlm
  have hpm : p ≤ m := by rcases hd2.2 with e | e <;> omega
  have HWV : Hid ((0 : Int) ≤ (1 + (r : Int) + 1) + (p : Int) ∧ (1 + (r : Int) + 1) + (p : Int) ≤ 1000000) := ⟨by omega, by omega⟩
  have HKB : Hid ((((1 + r + 1) : Nat) : Int) = (1 + (r : Int) + 1)) := cast2 r
  have HDG : Hid (∀ V, Calls Tryz.prog 38 #[.string s, .int .i64 (1 + (r : Int) + 1)] V fun e V' => ∃ n1 r1 : Nat, e = .returned (.int .i64 r1) ∧ Hid (Digs s.data.toList (1 + r + 1) n1 r1) ∧ V = V') := fun V => by
    have e := digits_any s (1 + r + 1) V hs hlb
    rw [HKB.out] at e
    exact e
  clear hc2 hd2
  have hp0 : ((p : Int) == 0) = true := by rw [hp]; rfl
  clear hp hls
  obtain ⟨hw1, hw2⟩ := wrapI HWB.out.1 HWB.out.2
  clear HWB
  obtain ⟨hu1, hu2⟩ := wrapI HWU.out.1 HWU.out.2
  clear HWU
  obtain ⟨hv1, hv2⟩ := wrapI HWV.out.1 HWV.out.2
  clear HWV
  go_enter Tryz.func10, Tryz.ntmps10
  have HH := hid (digits_any s 1 (w.alloc (.cells #[.bool false, .slice none 0 0, .slice none 0 0] 24)) hs (by omega))
  go_wp2_with fail
  refine Calls.mono HH.out ?_
  rintro e w1 ⟨n', r', rfl, HD', rfl⟩
  obtain ⟨rfl, rfl⟩ := Digs.uniq HD.out HD'.out
  clear HH HD'
  have HH := hid (number_good (s.extract 1 (1 + r)) (w.alloc (.cells #[.bool false, .slice none 0 0, .slice none 0 0] 24)) hx1 _ HX1.out HNM.out)
  go_wp2_with fail
  refine Calls.mono HH.out ?_
  rintro e w2 ⟨a2, z2, c2, rfl, H2, hb2⟩
  clear HH hx1 HX1
  generalize s.extract 1 (1 + r) = T1 at *
  have HH := hid (one3_any w2)
  go_wp2_with fail
  refine Calls.mono HH.out ?_
  rintro e w3 ⟨g3, rfl, o3, hb3⟩
  clear HH
  have HH := hid (HDG.out w3)
  go_wp2_with fail
  refine Calls.mono HH.out ?_
  rintro e w4 ⟨m', p', rfl, HD', rfl⟩
  obtain ⟨rfl, rfl⟩ := Digs.uniq HD2.out HD'.out
  clear HH HD' HDG
  obtain ⟨r0, r1, r2, f0, f1, f2⟩ := res_box3 HZ.out (bt hb2 hb3)
  have HBA := hid (bt HB.out (bt hb2 hb3))
  go_wp2_with fail
  refine bodyPost_ret (v := .tuple #[.agg #[.bool false, .slice none 0 0, .slice none 0 0], .int .i64 130]) (by simp [results, Tryz.results10, go_sem, r0, r1, r2]) rfl ?_
  exact RTold.zero (by decide) (below_put3 HBA.out _ (Nat.le_refl _) _ _ _)

set_option maxHeartbeats 6400000 in
set_option maxRecDepth 100000 in
theorem dparse_F21 (s : ByteArray) (w : World) (hs : s.size ≤ 65536) (h0 : 0 < s.size) (hc : s[0] = 45) (n r : Nat) (hd : Digs s.data.toList 1 n r) (hr : r ≠ 0) (h1 : 1 < s.size) (hz : ¬ s[1] = 48) (he : 1 + r < s.size) (hc2 : s[1 + r] = 47) (m p : Nat) (hd2 : Digs s.data.toList (1 + r + 1) m p) (hp : p ≠ 0) (hq2 : (1 + r + 1) + p ≠ s.size) (q : Rat) :
    Calls Tryz.prog 10 #[.string s] w (RTold w 130 q) := by
  have HB := hid (alloc_later w (.cells #[.bool false, .slice none 0 0, .slice none 0 0] 24))
  have HZ := hid (Box.made w 24 #[.bool false, .slice none 0 0, .slice none 0 0])
  have hs' : ¬ (65536 : Int) < (s.size : Int) := by omega
  have hz0 : (0 : Int) < (s.size : Int) := by omega
  have hq0 : ((s[0].toNat : Int) == 45) = true := byte_yes (d := 45) hc rfl
  have HD := hid hd
  obtain ⟨hrn, hN⟩ := digs_num hd hr
  subst hrn
  have HLN := hid hd.1.len
  have HNM := hid hN
  have hls := size_list s
  have hr1 : ((r : Int) == 0) = false := beq_eq_false_iff_ne.2 (by omega)
  have hz1 : ((s[1].toNat : Int) == 48) = false := byte_no (d := 48) (hz) rfl
  clear hN hd hz
  have hbA := HLN.out
  rw [hls] at hbA
  have HWB : Hid ((0 : Int) ≤ (1 + (r : Int)) ∧ (1 + (r : Int)) ≤ 1000000) := ⟨by omega, by omega⟩
  have ht1 : (1 + (r : Int)).toNat = 1 + r := by omega
  have hb1 : (0 : Int) ≤ (1 + (r : Int)) := by omega
  have hb2 : (1 + (r : Int)) ≤ (s.size : Int) := by omega
  have hb3 : (1 : Int) ≤ (1 + (r : Int)) := by omega
  have HX1 : Hid ((s.extract 1 (1 + r)).data.toList = (s.data.toList.drop 1).take r) := by show _ = _; rw [extract_list]; congr 1; omega
  have hx1 : (s.extract 1 (1 + r)).size ≤ 65536 := by rw [← size_list, HX1.out, List.length_take, List.length_drop]; omega
  have hlt : (1 + (r : Int)) < (s.size : Int) := by omega
  have hlb : 1 + r < s.size := by omega
  have hcb : ((s[1 + r].toNat : Int) == 47) = true := byte_yes (d := 47) (by exact hc2) rfl
  have HWU : Hid ((0 : Int) ≤ (1 + (r : Int) + 1) ∧ (1 + (r : Int) + 1) ≤ 1000000) := ⟨by omega, by omega⟩
  have HD2 := hid hd2
  have hlm := hd2.1.len
  rw [hls] at hlm
  have hpm : p ≤ m := by rcases hd2.2 with e | e <;> omega
  have HWV : Hid ((0 : Int) ≤ (1 + (r : Int) + 1) + (p : Int) ∧ (1 + (r : Int) + 1) + (p : Int) ≤ 1000000) := ⟨by omega, by omega⟩
  have HKB : Hid ((((1 + r + 1) : Nat) : Int) = (1 + (r : Int) + 1)) := cast2 r
  have HDG : Hid (∀ V, Calls Tryz.prog 38 #[.string s, .int .i64 (1 + (r : Int) + 1)] V fun e V' => ∃ n1 r1 : Nat, e = .returned (.int .i64 r1) ∧ Hid (Digs s.data.toList (1 + r + 1) n1 r1) ∧ V = V') := fun V => by
    have e := digits_any s (1 + r + 1) V hs hlb
    rw [HKB.out] at e
    exact e
  clear hc2 hd2
  have hp0 : ((p : Int) == 0) = false := beq_eq_false_iff_ne.2 (by omega)
  have hp1 : ((1 + (r : Int) + 1) + (p : Int) == (s.size : Int)) = false := beq_eq_false_iff_ne.2 (by omega)
  have hp2 : ((1 + (r : Int) + 1) + (p : Int) != (s.size : Int)) = true := bne_iff_ne.2 (by omega)
  clear hp hq2 hls
  obtain ⟨hw1, hw2⟩ := wrapI HWB.out.1 HWB.out.2
  clear HWB
  obtain ⟨hu1, hu2⟩ := wrapI HWU.out.1 HWU.out.2
  clear HWU
  obtain ⟨hv1, hv2⟩ := wrapI HWV.out.1 HWV.out.2
  clear HWV
  go_enter Tryz.func10, Tryz.ntmps10
  have HH := hid (digits_any s 1 (w.alloc (.cells #[.bool false, .slice none 0 0, .slice none 0 0] 24)) hs (by omega))
  go_wp2_with fail
  refine Calls.mono HH.out ?_
  rintro e w1 ⟨n', r', rfl, HD', rfl⟩
  obtain ⟨rfl, rfl⟩ := Digs.uniq HD.out HD'.out
  clear HH HD'
  have HH := hid (number_good (s.extract 1 (1 + r)) (w.alloc (.cells #[.bool false, .slice none 0 0, .slice none 0 0] 24)) hx1 _ HX1.out HNM.out)
  go_wp2_with fail
  refine Calls.mono HH.out ?_
  rintro e w2 ⟨a2, z2, c2, rfl, H2, hb2⟩
  clear HH hx1 HX1
  generalize s.extract 1 (1 + r) = T1 at *
  have HH := hid (one3_any w2)
  go_wp2_with fail
  refine Calls.mono HH.out ?_
  rintro e w3 ⟨g3, rfl, o3, hb3⟩
  clear HH
  have HH := hid (HDG.out w3)
  go_wp2_with fail
  refine Calls.mono HH.out ?_
  rintro e w4 ⟨m', p', rfl, HD', rfl⟩
  obtain ⟨rfl, rfl⟩ := Digs.uniq HD2.out HD'.out
  clear HH HD' HDG
  obtain ⟨r0, r1, r2, f0, f1, f2⟩ := res_box3 HZ.out (bt hb2 hb3)
  have HBA := hid (bt HB.out (bt hb2 hb3))
  go_wp2_with fail
  refine bodyPost_ret (v := .tuple #[.agg #[.bool false, .slice none 0 0, .slice none 0 0], .int .i64 130]) (by simp [results, Tryz.results10, go_sem, r0, r1, r2]) rfl ?_
  exact RTold.zero (by decide) (below_put3 HBA.out _ (Nat.le_refl _) _ _ _)

set_option maxHeartbeats 6400000 in
set_option maxRecDepth 100000 in
theorem dparse_G01 (s : ByteArray) (w : World) (hs : s.size ≤ 65536) (h0 : 0 < s.size) (hc : s[0] = 45) (n r : Nat) (hd : Digs s.data.toList 1 n r) (hr : r ≠ 0) (h1 : 1 < s.size) (hz : ¬ s[1] = 48) (he : 1 + r < s.size) (hc2 : s[1 + r] = 47) (m p : Nat) (hd2 : Digs s.data.toList (1 + r + 1) m p) (hp : p ≠ 0) (hq2 : (1 + r + 1) + p = s.size) (hn2 : IsNum (s.data.toList.drop (1 + r + 1))) (hY : (numTo (s.data.toList.drop (1 + r + 1)) (s.data.toList.drop (1 + r + 1)).length) = 0) (q : Rat) :
    Calls Tryz.prog 10 #[.string s] w (RTold w 130 q) := by
  have HB := hid (alloc_later w (.cells #[.bool false, .slice none 0 0, .slice none 0 0] 24))
  have HZ := hid (Box.made w 24 #[.bool false, .slice none 0 0, .slice none 0 0])
  have hs' : ¬ (65536 : Int) < (s.size : Int) := by omega
  have hz0 : (0 : Int) < (s.size : Int) := by omega
  have hq0 : ((s[0].toNat : Int) == 45) = true := byte_yes (d := 45) hc rfl
  have HD := hid hd
  obtain ⟨hrn, hN⟩ := digs_num hd hr
  subst hrn
  have HLN := hid hd.1.len
  have HNM := hid hN
  have hls := size_list s
  have hr1 : ((r : Int) == 0) = false := beq_eq_false_iff_ne.2 (by omega)
  have hz1 : ((s[1].toNat : Int) == 48) = false := byte_no (d := 48) (hz) rfl
  clear hN hd hz
  have hbA := HLN.out
  rw [hls] at hbA
  have HWB : Hid ((0 : Int) ≤ (1 + (r : Int)) ∧ (1 + (r : Int)) ≤ 1000000) := ⟨by omega, by omega⟩
  have ht1 : (1 + (r : Int)).toNat = 1 + r := by omega
  have hb1 : (0 : Int) ≤ (1 + (r : Int)) := by omega
  have hb2 : (1 + (r : Int)) ≤ (s.size : Int) := by omega
  have hb3 : (1 : Int) ≤ (1 + (r : Int)) := by omega
  have HX1 : Hid ((s.extract 1 (1 + r)).data.toList = (s.data.toList.drop 1).take r) := by show _ = _; rw [extract_list]; congr 1; omega
  have hx1 : (s.extract 1 (1 + r)).size ≤ 65536 := by rw [← size_list, HX1.out, List.length_take, List.length_drop]; omega
  have hlt : (1 + (r : Int)) < (s.size : Int) := by omega
  have hlb : 1 + r < s.size := by omega
  have hcb : ((s[1 + r].toNat : Int) == 47) = true := byte_yes (d := 47) (by exact hc2) rfl
  have HWU : Hid ((0 : Int) ≤ (1 + (r : Int) + 1) ∧ (1 + (r : Int) + 1) ≤ 1000000) := ⟨by omega, by omega⟩
  have HD2 := hid hd2
  have hlm := hd2.1.len
  rw [hls] at hlm
  have hpm : p ≤ m := by rcases hd2.2 with e | e <;> omega
  have HWV : Hid ((0 : Int) ≤ (1 + (r : Int) + 1) + (p : Int) ∧ (1 + (r : Int) + 1) + (p : Int) ≤ 1000000) := ⟨by omega, by omega⟩
  have HKB : Hid ((((1 + r + 1) : Nat) : Int) = (1 + (r : Int) + 1)) := cast2 r
  have HDG : Hid (∀ V, Calls Tryz.prog 38 #[.string s, .int .i64 (1 + (r : Int) + 1)] V fun e V' => ∃ n1 r1 : Nat, e = .returned (.int .i64 r1) ∧ Hid (Digs s.data.toList (1 + r + 1) n1 r1) ∧ V = V') := fun V => by
    have e := digits_any s (1 + r + 1) V hs hlb
    rw [HKB.out] at e
    exact e
  clear hc2 hd2
  have hp0 : ((p : Int) == 0) = false := beq_eq_false_iff_ne.2 (by omega)
  have hp1 : ((1 + (r : Int) + 1) + (p : Int) == (s.size : Int)) = true := beq_iff_eq.2 (by omega)
  have hp2 : ((1 + (r : Int) + 1) + (p : Int) != (s.size : Int)) = false := by rw [bne, hp1]; rfl
  have HX2 : Hid ((s.extract (1 + r + 1) s.size).data.toList = s.data.toList.drop (1 + r + 1)) := by show _ = _; rw [extract_list]; exact List.take_of_length_le (by rw [List.length_drop]; omega)
  have hx2 : (s.extract (1 + r + 1) s.size).size ≤ 65536 := by rw [← size_list, HX2.out, List.length_drop]; omega
  have hy1 : (0 : Int) ≤ (1 + (r : Int) + 1) := by omega
  have hy2 : (1 + (r : Int) + 1) ≤ (s.size : Int) := by omega
  have hy3 : (1 + (r : Int) + 1).toNat = (1 + r + 1) := by omega
  have HN2 := hid hn2
  clear hp hq2 hn2 hls
  have HY := hid hY
  clear hY
  obtain ⟨hw1, hw2⟩ := wrapI HWB.out.1 HWB.out.2
  clear HWB
  obtain ⟨hu1, hu2⟩ := wrapI HWU.out.1 HWU.out.2
  clear HWU
  obtain ⟨hv1, hv2⟩ := wrapI HWV.out.1 HWV.out.2
  clear HWV
  go_enter Tryz.func10, Tryz.ntmps10
  have HH := hid (digits_any s 1 (w.alloc (.cells #[.bool false, .slice none 0 0, .slice none 0 0] 24)) hs (by omega))
  go_wp2_with fail
  refine Calls.mono HH.out ?_
  rintro e w1 ⟨n', r', rfl, HD', rfl⟩
  obtain ⟨rfl, rfl⟩ := Digs.uniq HD.out HD'.out
  clear HH HD'
  have HH := hid (number_good (s.extract 1 (1 + r)) (w.alloc (.cells #[.bool false, .slice none 0 0, .slice none 0 0] 24)) hx1 _ HX1.out HNM.out)
  go_wp2_with fail
  refine Calls.mono HH.out ?_
  rintro e w2 ⟨a2, z2, c2, rfl, H2, hb2⟩
  clear HH hx1 HX1
  generalize s.extract 1 (1 + r) = T1 at *
  have HH := hid (one3_any w2)
  go_wp2_with fail
  refine Calls.mono HH.out ?_
  rintro e w3 ⟨g3, rfl, o3, hb3⟩
  clear HH
  have HH := hid (HDG.out w3)
  go_wp2_with fail
  refine Calls.mono HH.out ?_
  rintro e w4 ⟨m', p', rfl, HD', rfl⟩
  obtain ⟨rfl, rfl⟩ := Digs.uniq HD2.out HD'.out
  clear HH HD' HDG
  have HH := hid (number_good (s.extract (1 + r + 1) s.size) w3 hx2 _ HX2.out HN2.out)
  go_wp2_with fail
  refine Calls.mono HH.out ?_
  rintro e w4 ⟨a4, z4, c4, rfl, H4, hb4⟩
  clear HH hx2 HX2
  generalize s.extract (1 + r + 1) s.size = T2 at *
  have HB4 := hid (bt (bt hb2 hb3) hb4)
  have HO2 := hid (H2.out.1.later (bt hb3 hb4))
  have HL2 := hid (And.intro H2.out.2 H2.out.1.2.2.1)
  have HO4 := hid H4.out.1
  have HL4 := hid H4.out.2
  have lz2 := H2.out.2
  have lz4 := H4.out.2
  clear hb2 hb3 hb4 H2 H4 o3
  have HG := refGcd_sl _ _ z2 z4 w4 HO2.out.sl HO4.out.sl (by omega) (by omega)
  rw [both_good (chk_good lz2 HO2.out.2.2.1) (chk_good lz4 HO4.out.2.2.1)] at HG
  have HGW := hid (gcd_wide HO2.out.2.1 HO4.out.2.1 (both_good (chk_good lz2 HO2.out.2.2.1) (chk_good lz4 HO4.out.2.2.1)))
  have HH := hid HG
  clear HG
  go_wp2_with fail
  refine Calls.mono HH.out ?_
  rintro e w5 ⟨v5, z5, cd5, rfl, o5, t5, hb5⟩
  obtain ⟨a5, c5, hv⟩ := own_slice' o5
  subst hv
  obtain ⟨hc5, hv5⟩ := t5.good rfl HGW.out
  have l5 : z5.length ≤ 8192 := len_of_lt t5.wd t5.trim (by rw [hv5]; exact HGW.out)
  have HO5 := hid (And.intro (Sl.own o5 t5.wd) (And.intro t5.wd (And.intro t5.trim hv5)))
  have HB5 := hid (bt HB4.out hb5)
  have HZ2 := hid (HO2.out.sl.later hb5)
  have HZ4 := hid (HO4.out.sl.later hb5)
  clear HH o5 t5 hc5 hv5 HGW hb5
  have hl4 : ((z4.length : Int) == 0) = true := by
    have e : z4.length = 0 := by
      by_cases c : z4.length = 0
      · exact c
      · have e2 := val_pos' HO4.out.2.1 HO4.out.2.2.1 (by omega); rw [HO4.out.2.2.2, HY.out] at e2; omega
    rw [e]; rfl
  obtain ⟨r0, r1, r2, f0, f1, f2⟩ := res_box3 HZ.out HB5.out
  have HBA := hid (bt HB.out HB5.out)
  go_wp2_with fail
  refine bodyPost_ret (v := .tuple #[.agg #[.bool false, .slice none 0 0, .slice none 0 0], .int .i64 130]) (by simp [results, Tryz.results10, go_sem, r0, r1, r2]) rfl ?_
  exact RTold.zero (by decide) (below_put3 HBA.out _ (Nat.le_refl _) _ _ _)

set_option maxHeartbeats 6400000 in
set_option maxRecDepth 100000 in
theorem dparse_G11 (s : ByteArray) (w : World) (hs : s.size ≤ 65536) (h0 : 0 < s.size) (hc : s[0] = 45) (n r : Nat) (hd : Digs s.data.toList 1 n r) (hr : r ≠ 0) (h1 : 1 < s.size) (hz : ¬ s[1] = 48) (he : 1 + r < s.size) (hc2 : s[1 + r] = 47) (m p : Nat) (hd2 : Digs s.data.toList (1 + r + 1) m p) (hp : p ≠ 0) (hq2 : (1 + r + 1) + p = s.size) (hn2 : IsNum (s.data.toList.drop (1 + r + 1))) (hY : (numTo (s.data.toList.drop (1 + r + 1)) (s.data.toList.drop (1 + r + 1)).length) = 1) (q : Rat) :
    Calls Tryz.prog 10 #[.string s] w (RTold w 130 q) := by
  have HB := hid (alloc_later w (.cells #[.bool false, .slice none 0 0, .slice none 0 0] 24))
  have HZ := hid (Box.made w 24 #[.bool false, .slice none 0 0, .slice none 0 0])
  have hs' : ¬ (65536 : Int) < (s.size : Int) := by omega
  have hz0 : (0 : Int) < (s.size : Int) := by omega
  have hq0 : ((s[0].toNat : Int) == 45) = true := byte_yes (d := 45) hc rfl
  have HD := hid hd
  obtain ⟨hrn, hN⟩ := digs_num hd hr
  subst hrn
  have HLN := hid hd.1.len
  have HNM := hid hN
  have hls := size_list s
  have hr1 : ((r : Int) == 0) = false := beq_eq_false_iff_ne.2 (by omega)
  have hz1 : ((s[1].toNat : Int) == 48) = false := byte_no (d := 48) (hz) rfl
  clear hN hd hz
  have hbA := HLN.out
  rw [hls] at hbA
  have HWB : Hid ((0 : Int) ≤ (1 + (r : Int)) ∧ (1 + (r : Int)) ≤ 1000000) := ⟨by omega, by omega⟩
  have ht1 : (1 + (r : Int)).toNat = 1 + r := by omega
  have hb1 : (0 : Int) ≤ (1 + (r : Int)) := by omega
  have hb2 : (1 + (r : Int)) ≤ (s.size : Int) := by omega
  have hb3 : (1 : Int) ≤ (1 + (r : Int)) := by omega
  have HX1 : Hid ((s.extract 1 (1 + r)).data.toList = (s.data.toList.drop 1).take r) := by show _ = _; rw [extract_list]; congr 1; omega
  have hx1 : (s.extract 1 (1 + r)).size ≤ 65536 := by rw [← size_list, HX1.out, List.length_take, List.length_drop]; omega
  have hlt : (1 + (r : Int)) < (s.size : Int) := by omega
  have hlb : 1 + r < s.size := by omega
  have hcb : ((s[1 + r].toNat : Int) == 47) = true := byte_yes (d := 47) (by exact hc2) rfl
  have HWU : Hid ((0 : Int) ≤ (1 + (r : Int) + 1) ∧ (1 + (r : Int) + 1) ≤ 1000000) := ⟨by omega, by omega⟩
  have HD2 := hid hd2
  have hlm := hd2.1.len
  rw [hls] at hlm
  have hpm : p ≤ m := by rcases hd2.2 with e | e <;> omega
  have HWV : Hid ((0 : Int) ≤ (1 + (r : Int) + 1) + (p : Int) ∧ (1 + (r : Int) + 1) + (p : Int) ≤ 1000000) := ⟨by omega, by omega⟩
  have HKB : Hid ((((1 + r + 1) : Nat) : Int) = (1 + (r : Int) + 1)) := cast2 r
  have HDG : Hid (∀ V, Calls Tryz.prog 38 #[.string s, .int .i64 (1 + (r : Int) + 1)] V fun e V' => ∃ n1 r1 : Nat, e = .returned (.int .i64 r1) ∧ Hid (Digs s.data.toList (1 + r + 1) n1 r1) ∧ V = V') := fun V => by
    have e := digits_any s (1 + r + 1) V hs hlb
    rw [HKB.out] at e
    exact e
  clear hc2 hd2
  have hp0 : ((p : Int) == 0) = false := beq_eq_false_iff_ne.2 (by omega)
  have hp1 : ((1 + (r : Int) + 1) + (p : Int) == (s.size : Int)) = true := beq_iff_eq.2 (by omega)
  have hp2 : ((1 + (r : Int) + 1) + (p : Int) != (s.size : Int)) = false := by rw [bne, hp1]; rfl
  have HX2 : Hid ((s.extract (1 + r + 1) s.size).data.toList = s.data.toList.drop (1 + r + 1)) := by show _ = _; rw [extract_list]; exact List.take_of_length_le (by rw [List.length_drop]; omega)
  have hx2 : (s.extract (1 + r + 1) s.size).size ≤ 65536 := by rw [← size_list, HX2.out, List.length_drop]; omega
  have hy1 : (0 : Int) ≤ (1 + (r : Int) + 1) := by omega
  have hy2 : (1 + (r : Int) + 1) ≤ (s.size : Int) := by omega
  have hy3 : (1 + (r : Int) + 1).toNat = (1 + r + 1) := by omega
  have HN2 := hid hn2
  clear hp hq2 hn2 hls
  have HY1 := hid hY
  have HY : Hid (¬ (numTo (s.data.toList.drop (1 + r + 1)) (s.data.toList.drop (1 + r + 1)).length) = 0) := by show ¬ _; omega
  clear hY
  obtain ⟨hw1, hw2⟩ := wrapI HWB.out.1 HWB.out.2
  clear HWB
  obtain ⟨hu1, hu2⟩ := wrapI HWU.out.1 HWU.out.2
  clear HWU
  obtain ⟨hv1, hv2⟩ := wrapI HWV.out.1 HWV.out.2
  clear HWV
  go_enter Tryz.func10, Tryz.ntmps10
  have HH := hid (digits_any s 1 (w.alloc (.cells #[.bool false, .slice none 0 0, .slice none 0 0] 24)) hs (by omega))
  go_wp2_with fail
  refine Calls.mono HH.out ?_
  rintro e w1 ⟨n', r', rfl, HD', rfl⟩
  obtain ⟨rfl, rfl⟩ := Digs.uniq HD.out HD'.out
  clear HH HD'
  have HH := hid (number_good (s.extract 1 (1 + r)) (w.alloc (.cells #[.bool false, .slice none 0 0, .slice none 0 0] 24)) hx1 _ HX1.out HNM.out)
  go_wp2_with fail
  refine Calls.mono HH.out ?_
  rintro e w2 ⟨a2, z2, c2, rfl, H2, hb2⟩
  clear HH hx1 HX1
  generalize s.extract 1 (1 + r) = T1 at *
  have HH := hid (one3_any w2)
  go_wp2_with fail
  refine Calls.mono HH.out ?_
  rintro e w3 ⟨g3, rfl, o3, hb3⟩
  clear HH
  have HH := hid (HDG.out w3)
  go_wp2_with fail
  refine Calls.mono HH.out ?_
  rintro e w4 ⟨m', p', rfl, HD', rfl⟩
  obtain ⟨rfl, rfl⟩ := Digs.uniq HD2.out HD'.out
  clear HH HD' HDG
  have HH := hid (number_good (s.extract (1 + r + 1) s.size) w3 hx2 _ HX2.out HN2.out)
  go_wp2_with fail
  refine Calls.mono HH.out ?_
  rintro e w4 ⟨a4, z4, c4, rfl, H4, hb4⟩
  clear HH hx2 HX2
  generalize s.extract (1 + r + 1) s.size = T2 at *
  have HB4 := hid (bt (bt hb2 hb3) hb4)
  have HO2 := hid (H2.out.1.later (bt hb3 hb4))
  have HL2 := hid (And.intro H2.out.2 H2.out.1.2.2.1)
  have HO4 := hid H4.out.1
  have HL4 := hid H4.out.2
  have lz2 := H2.out.2
  have lz4 := H4.out.2
  clear hb2 hb3 hb4 H2 H4 o3
  have HG := refGcd_sl _ _ z2 z4 w4 HO2.out.sl HO4.out.sl (by omega) (by omega)
  rw [both_good (chk_good lz2 HO2.out.2.2.1) (chk_good lz4 HO4.out.2.2.1)] at HG
  have HGW := hid (gcd_wide HO2.out.2.1 HO4.out.2.1 (both_good (chk_good lz2 HO2.out.2.2.1) (chk_good lz4 HO4.out.2.2.1)))
  have HH := hid HG
  clear HG
  go_wp2_with fail
  refine Calls.mono HH.out ?_
  rintro e w5 ⟨v5, z5, cd5, rfl, o5, t5, hb5⟩
  obtain ⟨a5, c5, hv⟩ := own_slice' o5
  subst hv
  obtain ⟨hc5, hv5⟩ := t5.good rfl HGW.out
  have l5 : z5.length ≤ 8192 := len_of_lt t5.wd t5.trim (by rw [hv5]; exact HGW.out)
  have HO5 := hid (And.intro (Sl.own o5 t5.wd) (And.intro t5.wd (And.intro t5.trim hv5)))
  have HB5 := hid (bt HB4.out hb5)
  have HZ2 := hid (HO2.out.sl.later hb5)
  have HZ4 := hid (HO4.out.sl.later hb5)
  clear HH o5 t5 hc5 hv5 HGW hb5
  have hl4 : ((z4.length : Int) == 0) = false := by
    apply beq_eq_false_iff_ne.2
    intro e
    have e3 : z4 = [] := List.length_eq_zero_iff.1 (by omega)
    have e2 := HO4.out.2.2.2
    rw [e3] at e2
    exact HY.out (by rw [← e2]; simp [val, valTo])
  have HH := hid (one3_any w5)
  go_wp2_with fail
  refine Calls.mono HH.out ?_
  rintro e w6 ⟨g6, rfl, o6, hb6⟩
  clear HH
  have HSM : Calls Tryz.prog 33 #[.slice a4 z4.length c4, .slice (some ⟨g6, 0, none⟩) 1 1] w6 fun e w' => e = .returned (.bool (decide (z4 = [1]))) ∧ Below w6.heap.size w6 w' := same3_sl _ _ z4 [1] w6 (HZ4.out.later hb6) (Sl.own (xs := [1]) o6 (Wd.one (by omega))) (by omega) (by simp)
  rw [decide_eq_true ((one_iff HO4.out.2.1 HO4.out.2.2.1).2 (HO4.out.2.2.2.trans HY1.out))] at HSM
  have HH := hid HSM
  clear HSM
  go_wp2_with fail
  refine Calls.mono HH.out ?_
  rintro e w7 ⟨rfl, hb7⟩
  clear HH
  obtain ⟨r0, r1, r2, f0, f1, f2⟩ := res_box3 HZ.out (bt HB5.out (bt hb6 hb7))
  have HBA := hid (bt HB.out (bt HB5.out (bt hb6 hb7)))
  go_wp2_with fail
  refine bodyPost_ret (v := .tuple #[.agg #[.bool false, .slice none 0 0, .slice none 0 0], .int .i64 130]) (by simp [results, Tryz.results10, go_sem, r0, r1, r2]) rfl ?_
  exact RTold.zero (by decide) (below_put3 HBA.out _ (Nat.le_refl _) _ _ _)

set_option maxHeartbeats 6400000 in
set_option maxRecDepth 100000 in
theorem dparse_G21 (s : ByteArray) (w : World) (hs : s.size ≤ 65536) (h0 : 0 < s.size) (hc : s[0] = 45) (n r : Nat) (hd : Digs s.data.toList 1 n r) (hr : r ≠ 0) (h1 : 1 < s.size) (hz : ¬ s[1] = 48) (he : 1 + r < s.size) (hc2 : s[1 + r] = 47) (m p : Nat) (hd2 : Digs s.data.toList (1 + r + 1) m p) (hp : p ≠ 0) (hq2 : (1 + r + 1) + p = s.size) (hn2 : IsNum (s.data.toList.drop (1 + r + 1))) (hY : ¬ (numTo (s.data.toList.drop (1 + r + 1)) (s.data.toList.drop (1 + r + 1)).length) = 0) (hY1 : ¬ (numTo (s.data.toList.drop (1 + r + 1)) (s.data.toList.drop (1 + r + 1)).length) = 1) (hg : ¬ gcdI (numTo ((s.data.toList.drop 1).take r) ((s.data.toList.drop 1).take r).length) (numTo (s.data.toList.drop (1 + r + 1)) (s.data.toList.drop (1 + r + 1)).length) = 1) (q : Rat) :
    Calls Tryz.prog 10 #[.string s] w (RTold w 130 q) := by
  have HB := hid (alloc_later w (.cells #[.bool false, .slice none 0 0, .slice none 0 0] 24))
  have HZ := hid (Box.made w 24 #[.bool false, .slice none 0 0, .slice none 0 0])
  have hs' : ¬ (65536 : Int) < (s.size : Int) := by omega
  have hz0 : (0 : Int) < (s.size : Int) := by omega
  have hq0 : ((s[0].toNat : Int) == 45) = true := byte_yes (d := 45) hc rfl
  have HD := hid hd
  obtain ⟨hrn, hN⟩ := digs_num hd hr
  subst hrn
  have HLN := hid hd.1.len
  have HNM := hid hN
  have hls := size_list s
  have hr1 : ((r : Int) == 0) = false := beq_eq_false_iff_ne.2 (by omega)
  have hz1 : ((s[1].toNat : Int) == 48) = false := byte_no (d := 48) (hz) rfl
  clear hN hd hz
  have hbA := HLN.out
  rw [hls] at hbA
  have HWB : Hid ((0 : Int) ≤ (1 + (r : Int)) ∧ (1 + (r : Int)) ≤ 1000000) := ⟨by omega, by omega⟩
  have ht1 : (1 + (r : Int)).toNat = 1 + r := by omega
  have hb1 : (0 : Int) ≤ (1 + (r : Int)) := by omega
  have hb2 : (1 + (r : Int)) ≤ (s.size : Int) := by omega
  have hb3 : (1 : Int) ≤ (1 + (r : Int)) := by omega
  have HX1 : Hid ((s.extract 1 (1 + r)).data.toList = (s.data.toList.drop 1).take r) := by show _ = _; rw [extract_list]; congr 1; omega
  have hx1 : (s.extract 1 (1 + r)).size ≤ 65536 := by rw [← size_list, HX1.out, List.length_take, List.length_drop]; omega
  have hlt : (1 + (r : Int)) < (s.size : Int) := by omega
  have hlb : 1 + r < s.size := by omega
  have hcb : ((s[1 + r].toNat : Int) == 47) = true := byte_yes (d := 47) (by exact hc2) rfl
  have HWU : Hid ((0 : Int) ≤ (1 + (r : Int) + 1) ∧ (1 + (r : Int) + 1) ≤ 1000000) := ⟨by omega, by omega⟩
  have HD2 := hid hd2
  have hlm := hd2.1.len
  rw [hls] at hlm
  have hpm : p ≤ m := by rcases hd2.2 with e | e <;> omega
  have HWV : Hid ((0 : Int) ≤ (1 + (r : Int) + 1) + (p : Int) ∧ (1 + (r : Int) + 1) + (p : Int) ≤ 1000000) := ⟨by omega, by omega⟩
  have HKB : Hid ((((1 + r + 1) : Nat) : Int) = (1 + (r : Int) + 1)) := cast2 r
  have HDG : Hid (∀ V, Calls Tryz.prog 38 #[.string s, .int .i64 (1 + (r : Int) + 1)] V fun e V' => ∃ n1 r1 : Nat, e = .returned (.int .i64 r1) ∧ Hid (Digs s.data.toList (1 + r + 1) n1 r1) ∧ V = V') := fun V => by
    have e := digits_any s (1 + r + 1) V hs hlb
    rw [HKB.out] at e
    exact e
  clear hc2 hd2
  have hp0 : ((p : Int) == 0) = false := beq_eq_false_iff_ne.2 (by omega)
  have hp1 : ((1 + (r : Int) + 1) + (p : Int) == (s.size : Int)) = true := beq_iff_eq.2 (by omega)
  have hp2 : ((1 + (r : Int) + 1) + (p : Int) != (s.size : Int)) = false := by rw [bne, hp1]; rfl
  have HX2 : Hid ((s.extract (1 + r + 1) s.size).data.toList = s.data.toList.drop (1 + r + 1)) := by show _ = _; rw [extract_list]; exact List.take_of_length_le (by rw [List.length_drop]; omega)
  have hx2 : (s.extract (1 + r + 1) s.size).size ≤ 65536 := by rw [← size_list, HX2.out, List.length_drop]; omega
  have hy1 : (0 : Int) ≤ (1 + (r : Int) + 1) := by omega
  have hy2 : (1 + (r : Int) + 1) ≤ (s.size : Int) := by omega
  have hy3 : (1 + (r : Int) + 1).toNat = (1 + r + 1) := by omega
  have HN2 := hid hn2
  clear hp hq2 hn2 hls
  have HY := hid hY
  have HY1 := hid hY1
  have HGG := hid hg
  clear hY hY1 hg
  obtain ⟨hw1, hw2⟩ := wrapI HWB.out.1 HWB.out.2
  clear HWB
  obtain ⟨hu1, hu2⟩ := wrapI HWU.out.1 HWU.out.2
  clear HWU
  obtain ⟨hv1, hv2⟩ := wrapI HWV.out.1 HWV.out.2
  clear HWV
  go_enter Tryz.func10, Tryz.ntmps10
  have HH := hid (digits_any s 1 (w.alloc (.cells #[.bool false, .slice none 0 0, .slice none 0 0] 24)) hs (by omega))
  go_wp2_with fail
  refine Calls.mono HH.out ?_
  rintro e w1 ⟨n', r', rfl, HD', rfl⟩
  obtain ⟨rfl, rfl⟩ := Digs.uniq HD.out HD'.out
  clear HH HD'
  have HH := hid (number_good (s.extract 1 (1 + r)) (w.alloc (.cells #[.bool false, .slice none 0 0, .slice none 0 0] 24)) hx1 _ HX1.out HNM.out)
  go_wp2_with fail
  refine Calls.mono HH.out ?_
  rintro e w2 ⟨a2, z2, c2, rfl, H2, hb2⟩
  clear HH hx1 HX1
  generalize s.extract 1 (1 + r) = T1 at *
  have HH := hid (one3_any w2)
  go_wp2_with fail
  refine Calls.mono HH.out ?_
  rintro e w3 ⟨g3, rfl, o3, hb3⟩
  clear HH
  have HH := hid (HDG.out w3)
  go_wp2_with fail
  refine Calls.mono HH.out ?_
  rintro e w4 ⟨m', p', rfl, HD', rfl⟩
  obtain ⟨rfl, rfl⟩ := Digs.uniq HD2.out HD'.out
  clear HH HD' HDG
  have HH := hid (number_good (s.extract (1 + r + 1) s.size) w3 hx2 _ HX2.out HN2.out)
  go_wp2_with fail
  refine Calls.mono HH.out ?_
  rintro e w4 ⟨a4, z4, c4, rfl, H4, hb4⟩
  clear HH hx2 HX2
  generalize s.extract (1 + r + 1) s.size = T2 at *
  have HB4 := hid (bt (bt hb2 hb3) hb4)
  have HO2 := hid (H2.out.1.later (bt hb3 hb4))
  have HL2 := hid (And.intro H2.out.2 H2.out.1.2.2.1)
  have HO4 := hid H4.out.1
  have HL4 := hid H4.out.2
  have lz2 := H2.out.2
  have lz4 := H4.out.2
  clear hb2 hb3 hb4 H2 H4 o3
  have HG := refGcd_sl _ _ z2 z4 w4 HO2.out.sl HO4.out.sl (by omega) (by omega)
  rw [both_good (chk_good lz2 HO2.out.2.2.1) (chk_good lz4 HO4.out.2.2.1)] at HG
  have HGW := hid (gcd_wide HO2.out.2.1 HO4.out.2.1 (both_good (chk_good lz2 HO2.out.2.2.1) (chk_good lz4 HO4.out.2.2.1)))
  have HH := hid HG
  clear HG
  go_wp2_with fail
  refine Calls.mono HH.out ?_
  rintro e w5 ⟨v5, z5, cd5, rfl, o5, t5, hb5⟩
  obtain ⟨a5, c5, hv⟩ := own_slice' o5
  subst hv
  obtain ⟨hc5, hv5⟩ := t5.good rfl HGW.out
  have l5 : z5.length ≤ 8192 := len_of_lt t5.wd t5.trim (by rw [hv5]; exact HGW.out)
  have HO5 := hid (And.intro (Sl.own o5 t5.wd) (And.intro t5.wd (And.intro t5.trim hv5)))
  have HB5 := hid (bt HB4.out hb5)
  have HZ2 := hid (HO2.out.sl.later hb5)
  have HZ4 := hid (HO4.out.sl.later hb5)
  clear HH o5 t5 hc5 hv5 HGW hb5
  have hl4 : ((z4.length : Int) == 0) = false := by
    apply beq_eq_false_iff_ne.2
    intro e
    have e3 : z4 = [] := List.length_eq_zero_iff.1 (by omega)
    have e2 := HO4.out.2.2.2
    rw [e3] at e2
    exact HY.out (by rw [← e2]; simp [val, valTo])
  have HH := hid (one3_any w5)
  go_wp2_with fail
  refine Calls.mono HH.out ?_
  rintro e w6 ⟨g6, rfl, o6, hb6⟩
  clear HH
  have HSM : Calls Tryz.prog 33 #[.slice a4 z4.length c4, .slice (some ⟨g6, 0, none⟩) 1 1] w6 fun e w' => e = .returned (.bool (decide (z4 = [1]))) ∧ Below w6.heap.size w6 w' := same3_sl _ _ z4 [1] w6 (HZ4.out.later hb6) (Sl.own (xs := [1]) o6 (Wd.one (by omega))) (by omega) (by simp)
  rw [decide_eq_false (fun e => HY1.out (HO4.out.2.2.2.symm.trans ((one_iff HO4.out.2.1 HO4.out.2.2.1).1 e)))] at HSM
  have HH := hid HSM
  clear HSM
  go_wp2_with fail
  refine Calls.mono HH.out ?_
  rintro e w7 ⟨rfl, hb7⟩
  clear HH
  have HB7 := hid (bt hb6 hb7)
  clear hb6 hb7 o6
  have HH := hid (one3_any w7)
  go_wp2_with fail
  refine Calls.mono HH.out ?_
  rintro e w8 ⟨g8, rfl, o8, hb8⟩
  clear HH
  have HSM : Calls Tryz.prog 33 #[.slice a5 z5.length c5, .slice (some ⟨g8, 0, none⟩) 1 1] w8 fun e w' => e = .returned (.bool (decide (z5 = [1]))) ∧ Below w8.heap.size w8 w' := same3_sl _ _ z5 [1] w8 (HO5.out.1.later (bt HB7.out hb8)) (Sl.own (xs := [1]) o8 (Wd.one (by omega))) (by omega) (by simp)
  rw [decide_eq_false (fun e => HGG.out (by have e2 := (one_iff HO5.out.2.1 HO5.out.2.2.1).1 e; rw [HO5.out.2.2.2, HO2.out.2.2.2, HO4.out.2.2.2] at e2; exact e2))] at HSM
  have HH := hid HSM
  clear HSM
  go_wp2_with fail
  refine Calls.mono HH.out ?_
  rintro e w9 ⟨rfl, hb9⟩
  clear HH
  obtain ⟨r0, r1, r2, f0, f1, f2⟩ := res_box3 HZ.out (bt HB5.out (bt HB7.out (bt hb8 hb9)))
  have HBA := hid (bt HB.out (bt HB5.out (bt HB7.out (bt hb8 hb9))))
  go_wp2_with fail
  refine bodyPost_ret (v := .tuple #[.agg #[.bool false, .slice none 0 0, .slice none 0 0], .int .i64 130]) (by simp [results, Tryz.results10, go_sem, r0, r1, r2]) rfl ?_
  exact RTold.zero (by decide) (below_put3 HBA.out _ (Nat.le_refl _) _ _ _)

set_option maxHeartbeats 6400000 in
set_option maxRecDepth 100000 in
theorem dparse_G31 (s : ByteArray) (w : World) (hs : s.size ≤ 65536) (h0 : 0 < s.size) (hc : s[0] = 45) (n r : Nat) (hd : Digs s.data.toList 1 n r) (hr : r ≠ 0) (h1 : 1 < s.size) (hz : ¬ s[1] = 48) (he : 1 + r < s.size) (hc2 : s[1 + r] = 47) (m p : Nat) (hd2 : Digs s.data.toList (1 + r + 1) m p) (hp : p ≠ 0) (hq2 : (1 + r + 1) + p = s.size) (hn2 : IsNum (s.data.toList.drop (1 + r + 1))) (hY : ¬ (numTo (s.data.toList.drop (1 + r + 1)) (s.data.toList.drop (1 + r + 1)).length) = 0) (hY1 : ¬ (numTo (s.data.toList.drop (1 + r + 1)) (s.data.toList.drop (1 + r + 1)).length) = 1) (hg : gcdI (numTo ((s.data.toList.drop 1).take r) ((s.data.toList.drop 1).take r).length) (numTo (s.data.toList.drop (1 + r + 1)) (s.data.toList.drop (1 + r + 1)).length) = 1) (q : Rat) (hq : Rat.divInt (sg true (numTo ((s.data.toList.drop 1).take r) ((s.data.toList.drop 1).take r).length)) (numTo (s.data.toList.drop (1 + r + 1)) (s.data.toList.drop (1 + r + 1)).length) = q) :
    Calls Tryz.prog 10 #[.string s] w (RTold w 0 q) := by
  have HB := hid (alloc_later w (.cells #[.bool false, .slice none 0 0, .slice none 0 0] 24))
  have HZ := hid (Box.made w 24 #[.bool false, .slice none 0 0, .slice none 0 0])
  have hs' : ¬ (65536 : Int) < (s.size : Int) := by omega
  have hz0 : (0 : Int) < (s.size : Int) := by omega
  have hq0 : ((s[0].toNat : Int) == 45) = true := byte_yes (d := 45) hc rfl
  have HD := hid hd
  obtain ⟨hrn, hN⟩ := digs_num hd hr
  subst hrn
  have HLN := hid hd.1.len
  have HNM := hid hN
  have hls := size_list s
  have hr1 : ((r : Int) == 0) = false := beq_eq_false_iff_ne.2 (by omega)
  have hz1 : ((s[1].toNat : Int) == 48) = false := byte_no (d := 48) (hz) rfl
  clear hN hd hz
  have hbA := HLN.out
  rw [hls] at hbA
  have HWB : Hid ((0 : Int) ≤ (1 + (r : Int)) ∧ (1 + (r : Int)) ≤ 1000000) := ⟨by omega, by omega⟩
  have ht1 : (1 + (r : Int)).toNat = 1 + r := by omega
  have hb1 : (0 : Int) ≤ (1 + (r : Int)) := by omega
  have hb2 : (1 + (r : Int)) ≤ (s.size : Int) := by omega
  have hb3 : (1 : Int) ≤ (1 + (r : Int)) := by omega
  have HX1 : Hid ((s.extract 1 (1 + r)).data.toList = (s.data.toList.drop 1).take r) := by show _ = _; rw [extract_list]; congr 1; omega
  have hx1 : (s.extract 1 (1 + r)).size ≤ 65536 := by rw [← size_list, HX1.out, List.length_take, List.length_drop]; omega
  have hlt : (1 + (r : Int)) < (s.size : Int) := by omega
  have hlb : 1 + r < s.size := by omega
  have hcb : ((s[1 + r].toNat : Int) == 47) = true := byte_yes (d := 47) (by exact hc2) rfl
  have HWU : Hid ((0 : Int) ≤ (1 + (r : Int) + 1) ∧ (1 + (r : Int) + 1) ≤ 1000000) := ⟨by omega, by omega⟩
  have HD2 := hid hd2
  have hlm := hd2.1.len
  rw [hls] at hlm
  have hpm : p ≤ m := by rcases hd2.2 with e | e <;> omega
  have HWV : Hid ((0 : Int) ≤ (1 + (r : Int) + 1) + (p : Int) ∧ (1 + (r : Int) + 1) + (p : Int) ≤ 1000000) := ⟨by omega, by omega⟩
  have HKB : Hid ((((1 + r + 1) : Nat) : Int) = (1 + (r : Int) + 1)) := cast2 r
  have HDG : Hid (∀ V, Calls Tryz.prog 38 #[.string s, .int .i64 (1 + (r : Int) + 1)] V fun e V' => ∃ n1 r1 : Nat, e = .returned (.int .i64 r1) ∧ Hid (Digs s.data.toList (1 + r + 1) n1 r1) ∧ V = V') := fun V => by
    have e := digits_any s (1 + r + 1) V hs hlb
    rw [HKB.out] at e
    exact e
  clear hc2 hd2
  have hp0 : ((p : Int) == 0) = false := beq_eq_false_iff_ne.2 (by omega)
  have hp1 : ((1 + (r : Int) + 1) + (p : Int) == (s.size : Int)) = true := beq_iff_eq.2 (by omega)
  have hp2 : ((1 + (r : Int) + 1) + (p : Int) != (s.size : Int)) = false := by rw [bne, hp1]; rfl
  have HX2 : Hid ((s.extract (1 + r + 1) s.size).data.toList = s.data.toList.drop (1 + r + 1)) := by show _ = _; rw [extract_list]; exact List.take_of_length_le (by rw [List.length_drop]; omega)
  have hx2 : (s.extract (1 + r + 1) s.size).size ≤ 65536 := by rw [← size_list, HX2.out, List.length_drop]; omega
  have hy1 : (0 : Int) ≤ (1 + (r : Int) + 1) := by omega
  have hy2 : (1 + (r : Int) + 1) ≤ (s.size : Int) := by omega
  have hy3 : (1 + (r : Int) + 1).toNat = (1 + r + 1) := by omega
  have HN2 := hid hn2
  clear hp hq2 hn2 hls
  have HY := hid hY
  have HY1 := hid hY1
  have HGG := hid hg
  have HQQ := hid hq
  clear hY hY1 hg hq
  obtain ⟨hw1, hw2⟩ := wrapI HWB.out.1 HWB.out.2
  clear HWB
  obtain ⟨hu1, hu2⟩ := wrapI HWU.out.1 HWU.out.2
  clear HWU
  obtain ⟨hv1, hv2⟩ := wrapI HWV.out.1 HWV.out.2
  clear HWV
  go_enter Tryz.func10, Tryz.ntmps10
  have HH := hid (digits_any s 1 (w.alloc (.cells #[.bool false, .slice none 0 0, .slice none 0 0] 24)) hs (by omega))
  go_wp2_with fail
  refine Calls.mono HH.out ?_
  rintro e w1 ⟨n', r', rfl, HD', rfl⟩
  obtain ⟨rfl, rfl⟩ := Digs.uniq HD.out HD'.out
  clear HH HD'
  have HH := hid (number_good (s.extract 1 (1 + r)) (w.alloc (.cells #[.bool false, .slice none 0 0, .slice none 0 0] 24)) hx1 _ HX1.out HNM.out)
  go_wp2_with fail
  refine Calls.mono HH.out ?_
  rintro e w2 ⟨a2, z2, c2, rfl, H2, hb2⟩
  clear HH hx1 HX1
  generalize s.extract 1 (1 + r) = T1 at *
  have HH := hid (one3_any w2)
  go_wp2_with fail
  refine Calls.mono HH.out ?_
  rintro e w3 ⟨g3, rfl, o3, hb3⟩
  clear HH
  have HH := hid (HDG.out w3)
  go_wp2_with fail
  refine Calls.mono HH.out ?_
  rintro e w4 ⟨m', p', rfl, HD', rfl⟩
  obtain ⟨rfl, rfl⟩ := Digs.uniq HD2.out HD'.out
  clear HH HD' HDG
  have HH := hid (number_good (s.extract (1 + r + 1) s.size) w3 hx2 _ HX2.out HN2.out)
  go_wp2_with fail
  refine Calls.mono HH.out ?_
  rintro e w4 ⟨a4, z4, c4, rfl, H4, hb4⟩
  clear HH hx2 HX2
  generalize s.extract (1 + r + 1) s.size = T2 at *
  have HB4 := hid (bt (bt hb2 hb3) hb4)
  have HO2 := hid (H2.out.1.later (bt hb3 hb4))
  have HL2 := hid (And.intro H2.out.2 H2.out.1.2.2.1)
  have HO4 := hid H4.out.1
  have HL4 := hid H4.out.2
  have lz2 := H2.out.2
  have lz4 := H4.out.2
  clear hb2 hb3 hb4 H2 H4 o3
  have HG := refGcd_sl _ _ z2 z4 w4 HO2.out.sl HO4.out.sl (by omega) (by omega)
  rw [both_good (chk_good lz2 HO2.out.2.2.1) (chk_good lz4 HO4.out.2.2.1)] at HG
  have HGW := hid (gcd_wide HO2.out.2.1 HO4.out.2.1 (both_good (chk_good lz2 HO2.out.2.2.1) (chk_good lz4 HO4.out.2.2.1)))
  have HH := hid HG
  clear HG
  go_wp2_with fail
  refine Calls.mono HH.out ?_
  rintro e w5 ⟨v5, z5, cd5, rfl, o5, t5, hb5⟩
  obtain ⟨a5, c5, hv⟩ := own_slice' o5
  subst hv
  obtain ⟨hc5, hv5⟩ := t5.good rfl HGW.out
  have l5 : z5.length ≤ 8192 := len_of_lt t5.wd t5.trim (by rw [hv5]; exact HGW.out)
  have HO5 := hid (And.intro (Sl.own o5 t5.wd) (And.intro t5.wd (And.intro t5.trim hv5)))
  have HB5 := hid (bt HB4.out hb5)
  have HZ2 := hid (HO2.out.sl.later hb5)
  have HZ4 := hid (HO4.out.sl.later hb5)
  clear HH o5 t5 hc5 hv5 HGW hb5
  have hl4 : ((z4.length : Int) == 0) = false := by
    apply beq_eq_false_iff_ne.2
    intro e
    have e3 : z4 = [] := List.length_eq_zero_iff.1 (by omega)
    have e2 := HO4.out.2.2.2
    rw [e3] at e2
    exact HY.out (by rw [← e2]; simp [val, valTo])
  have HH := hid (one3_any w5)
  go_wp2_with fail
  refine Calls.mono HH.out ?_
  rintro e w6 ⟨g6, rfl, o6, hb6⟩
  clear HH
  have HSM : Calls Tryz.prog 33 #[.slice a4 z4.length c4, .slice (some ⟨g6, 0, none⟩) 1 1] w6 fun e w' => e = .returned (.bool (decide (z4 = [1]))) ∧ Below w6.heap.size w6 w' := same3_sl _ _ z4 [1] w6 (HZ4.out.later hb6) (Sl.own (xs := [1]) o6 (Wd.one (by omega))) (by omega) (by simp)
  rw [decide_eq_false (fun e => HY1.out (HO4.out.2.2.2.symm.trans ((one_iff HO4.out.2.1 HO4.out.2.2.1).1 e)))] at HSM
  have HH := hid HSM
  clear HSM
  go_wp2_with fail
  refine Calls.mono HH.out ?_
  rintro e w7 ⟨rfl, hb7⟩
  clear HH
  have HB7 := hid (bt hb6 hb7)
  clear hb6 hb7 o6
  have HH := hid (one3_any w7)
  go_wp2_with fail
  refine Calls.mono HH.out ?_
  rintro e w8 ⟨g8, rfl, o8, hb8⟩
  clear HH
  have HSM : Calls Tryz.prog 33 #[.slice a5 z5.length c5, .slice (some ⟨g8, 0, none⟩) 1 1] w8 fun e w' => e = .returned (.bool (decide (z5 = [1]))) ∧ Below w8.heap.size w8 w' := same3_sl _ _ z5 [1] w8 (HO5.out.1.later (bt HB7.out hb8)) (Sl.own (xs := [1]) o8 (Wd.one (by omega))) (by omega) (by simp)
  rw [decide_eq_true ((one_iff HO5.out.2.1 HO5.out.2.2.1).2 (by rw [HO5.out.2.2.2, HO2.out.2.2.2, HO4.out.2.2.2]; exact HGG.out))] at HSM
  have HH := hid HSM
  clear HSM
  go_wp2_with fail
  refine Calls.mono HH.out ?_
  rintro e wa ⟨rfl, hba⟩
  clear HH
  have HBA := hid (bt HB7.out (bt hb8 hba))
  have HBB := hid (bt HB5.out HBA.out)
  replace HZ2 := hid (HZ2.out.later HBA.out)
  replace HZ4 := hid (HZ4.out.later HBA.out)
  have HQ : Hid (Rat.divInt (sg true (val z2)) (val z4) = q) := by show _ = _; rw [HO2.out.2.2.2, HO4.out.2.2.2]; exact HQQ.out
  have hz4p : 0 < z4.length := by
    by_cases c : z4.length = 0
    · rw [c] at hl4; simp at hl4
    · omega
  clear hb8 hba HB7 HB5 HO5 o8 hl4
  have HO : Calls Tryz.prog 41 #[.bool true, .slice a2 z2.length c2, .slice a4 z4.length c4] wa (RTold wa 0 (Rat.divInt (sg true (val z2)) (val z4))) := of3_any true _ _ z2 _ _ z4 wa HZ2.out HZ4.out HL2.out.1 HL4.out HL2.out.2 HO4.out.2.2.1 hz4p
  rw [HQ.out] at HO
  have HH := hid (HO)
  go_wp2_with fail
  refine Calls.mono HH.out ?_
  rintro e w9 ⟨k9, v9, z9, u9, d9, code, rfl, o9, p9, t9, hb9⟩
  clear HH
  obtain ⟨a9, c9, hv⟩ := own_slice' o9
  subst hv
  obtain ⟨b9, l9, hv⟩ := own_slice' p9
  subst hv
  have hbX := bt HBB.out hb9
  obtain ⟨r0, r1, r2, f0, f1, f2⟩ := res_box3 HZ.out hbX
  have HBW := hid (bt HB.out hbX)
  have hzz := (HBB.out).size
  have HE9 := hid (And.intro (owns_base o9 hzz) (And.intro (owns_base p9 hzz) t9))
  have HLT : Hid (w.heap.size < (w.alloc (.cells #[.bool false, .slice none 0 0, .slice none 0 0] 24)).heap.size) := by show _ < _; simp
  clear hbX o9 p9 t9 hb9 hzz HO
  go_wp2_with fail
  refine bodyPost_ret (v := .tuple #[.agg #[.bool k9, .slice a9 z9.length c9, .slice b9 d9.length l9], .int .i64 code]) (by simp [results, Tryz.results10, go_sem, r0, r1, r2]) rfl ?_
  exact RTold.put HE9.out w.heap.size HLT.out (Nat.le_refl _) HBW.out _ _ _
end Go.Proofs.YtbnhpkelnoolhaaGreatDoor

/- The document's answer for Parse of a fraction, for any text. -/
namespace Go.Proofs.YtbnhpkelnoolhaaGreatDoor
open Go.RowKit Go.Lib
set_option linter.unusedVariables false

set_option maxHeartbeats 3200000 in
set_option maxRecDepth 100000 in
theorem dparse_long (s : ByteArray) (w : World) (hs : 65536 < s.size) (hm : s.size ≤ 9223372036854775807) (q : Rat) : Calls Tryz.prog 10 #[.string s] w (RTold w 3 q) := by
  have hs' : (65536 : Int) < (s.size : Int) := by omega
  go_enter Tryz.func10, Tryz.ntmps10
  go_wp2_with fail
  refine bodyPost_ret (v := .tuple #[.agg #[.bool false, .slice none 0 0, .slice none 0 0], .int .i64 3]) (by simp [results, Tryz.results10, go_sem]) rfl ?_
  exact RTold.zero (by decide) (alloc_later _ _)

theorem dparse_A0 (s : ByteArray) (w : World) (hs : s.size ≤ 65536) (h0 : 0 < s.size) (hc : ¬ s[0] = 45) : Calls Tryz.prog 10 #[.string s] w (RTold w (prErr s) (rpq s.data.toList)) := by
  have hl := size_list s
  have hn : rneg s.data.toList = false := by
    unfold rneg
    rw [byte_at s 0 h0]
    exact decide_eq_false (fun e => hc (Option.some.inj e))
  have ef : from' s.data.toList = 0 := by unfold from'; rw [hn]; rfl
  obtain ⟨n, r, hd⟩ := digs_ex (l := s.data.toList) (A := 0) (by omega)
  have hd' : Digs s.data.toList (from' s.data.toList) n r := by rw [ef]; exact hd
  by_cases hr : r = 0
  · subst hr
    rw [prErr_bad hs (bad_first hd')]
    exact dparse_C10 s w hs h0 hc n hd _
  · obtain ⟨hrn, hN⟩ := digs_num hd hr
    have hln := hd.1.len
    rw [hl] at hln
    · by_cases he : 0 + r = s.size
      · obtain ⟨g1, g2, g3⟩ := good_end hd' hr (by rw [ef, hl, ← hrn]; exact he) (fun e => by rw [hn] at e; cases e)
        rw [prErr_good hs g1]
        refine dparse_E0 s w hs h0 hc n r hd hr he _ ?_
        unfold rpq
        rw [hn, g2, g3, ef, hrn]
      · have hlt : 0 + r < s.size := by omega
        by_cases hc2 : s[0 + r] = 47
        · have hat : s.data.toList[from' s.data.toList + n]? = some 47 := by rw [ef, ← hrn, byte_at s (0 + r) hlt, hc2]
          obtain ⟨m, p, hd2⟩ := digs_ex (l := s.data.toList) (A := (r + 1)) (by omega)
          have hd2' : Digs s.data.toList (from' s.data.toList + n + 1) m p := by rw [ef, ← hrn]; rw [Nat.zero_add]; exact hd2
          by_cases hp : p = 0
          · rw [prErr_bad hs (bad_behind hd'.1 hat hd2' (.inl hp))]
            exact dparse_F10 s w hs h0 hc n r hd hr hlt hc2 m p hd2 hp _
          · by_cases hq2 : (r + 1) + p = s.size
            · obtain ⟨n2, v1, v2, hi⟩ := both_num hd' hr hat hd2' hp (by rw [ef, ← hrn, hl]; omega) (fun e => by rw [hn] at e; cases e)
              have ek : from' s.data.toList + n + 1 = (r + 1) := by rw [ef, ← hrn]; omega
              rw [ek] at n2 v2
              rw [ef, ← hrn] at v1
              by_cases hY : numTo (s.data.toList.drop (r + 1)) (s.data.toList.drop (r + 1)).length = 0
              · rw [prErr_bad hs (fun g => by have := (hi.1 g).1; rw [v2, hY] at this; omega)]
                exact dparse_G00 s w hs h0 hc n r hd hr hlt hc2 m p hd2 hp hq2 n2 hY _
              · by_cases hY1 : numTo (s.data.toList.drop (r + 1)) (s.data.toList.drop (r + 1)).length = 1
                · rw [prErr_bad hs (fun g => (hi.1 g).2.1 (v2.trans hY1))]
                  exact dparse_G10 s w hs h0 hc n r hd hr hlt hc2 m p hd2 hp hq2 n2 hY1 _
                · by_cases hg : gcdI (numTo ((s.data.toList.drop 0).take r) ((s.data.toList.drop 0).take r).length) (numTo (s.data.toList.drop (r + 1)) (s.data.toList.drop (r + 1)).length) = 1
                  · have h00 := (numTo_bounds n2.2.2 (s.data.toList.drop (r + 1)).length).1
                    rw [prErr_good hs (hi.2 ⟨by rw [v2]; omega, by rw [v2]; exact hY1, by rw [v1, v2]; exact hg⟩)]
                    refine dparse_G30 s w hs h0 hc n r hd hr hlt hc2 m p hd2 hp hq2 n2 hY hY1 hg _ ?_
                    unfold rpq
                    rw [hn, v1, v2]
                  · rw [prErr_bad hs (fun g => hg (by have := (hi.1 g).2.2; rw [v1, v2] at this; exact this))]
                    exact dparse_G20 s w hs h0 hc n r hd hr hlt hc2 m p hd2 hp hq2 n2 hY hY1 hg _
            · rw [prErr_bad hs (bad_behind hd'.1 hat hd2' (.inr (by rw [ef, ← hrn, hl]; omega)))]
              exact dparse_F20 s w hs h0 hc n r hd hr hlt hc2 m p hd2 hp hq2 _
        · rw [prErr_bad hs (fun g => up_other hd'.1 (by rw [ef, ← hrn, hl]; exact hlt) (by rw [ef, ← hrn, byte_list s (0 + r) hlt]; exact hc2) g.1)]
          exact dparse_B0 s w hs h0 hc n r hd hr hlt hc2 _

theorem dparse_A1 (s : ByteArray) (w : World) (hs : s.size ≤ 65536) (h0 : 0 < s.size) (hc : s[0] = 45) : Calls Tryz.prog 10 #[.string s] w (RTold w (prErr s) (rpq s.data.toList)) := by
  have hl := size_list s
  have hn : rneg s.data.toList = true := by
    unfold rneg
    rw [byte_at s 0 h0]
    rw [hc]; rfl
  have ef : from' s.data.toList = 1 := by unfold from'; rw [hn]; rfl
  obtain ⟨n, r, hd⟩ := digs_ex (l := s.data.toList) (A := 1) (by omega)
  have hd' : Digs s.data.toList (from' s.data.toList) n r := by rw [ef]; exact hd
  by_cases hr : r = 0
  · subst hr
    rw [prErr_bad hs (bad_first hd')]
    exact dparse_C11 s w hs h0 hc n hd _
  · obtain ⟨hrn, hN⟩ := digs_num hd hr
    have hln := hd.1.len
    rw [hl] at hln
    have h1 : 1 < s.size := by omega
    by_cases hz : s[1] = 48
    · rw [prErr_bad hs (bad_zero hd' hr hn (by rw [byte_list s 1 h1]; exact hz))]
      exact dparse_C2 s w hs h0 hc n r hd hr h1 hz _
    · by_cases he : 1 + r = s.size
      · obtain ⟨g1, g2, g3⟩ := good_end hd' hr (by rw [ef, hl, ← hrn]; exact he) (fun _ => by rw [byte_list s 1 h1]; exact hz)
        rw [prErr_good hs g1]
        refine dparse_E1 s w hs h0 hc n r hd hr h1 hz he _ ?_
        unfold rpq
        rw [hn, g2, g3, ef, hrn]
      · have hlt : 1 + r < s.size := by omega
        by_cases hc2 : s[1 + r] = 47
        · have hat : s.data.toList[from' s.data.toList + n]? = some 47 := by rw [ef, ← hrn, byte_at s (1 + r) hlt, hc2]
          obtain ⟨m, p, hd2⟩ := digs_ex (l := s.data.toList) (A := (1 + r + 1)) (by omega)
          have hd2' : Digs s.data.toList (from' s.data.toList + n + 1) m p := by rw [ef, ← hrn]; exact hd2
          by_cases hp : p = 0
          · rw [prErr_bad hs (bad_behind hd'.1 hat hd2' (.inl hp))]
            exact dparse_F11 s w hs h0 hc n r hd hr h1 hz hlt hc2 m p hd2 hp _
          · by_cases hq2 : (1 + r + 1) + p = s.size
            · obtain ⟨n2, v1, v2, hi⟩ := both_num hd' hr hat hd2' hp (by rw [ef, ← hrn, hl]; omega) (fun _ => by rw [byte_list s 1 h1]; exact hz)
              have ek : from' s.data.toList + n + 1 = (1 + r + 1) := by rw [ef, ← hrn]
              rw [ek] at n2 v2
              rw [ef, ← hrn] at v1
              by_cases hY : numTo (s.data.toList.drop (1 + r + 1)) (s.data.toList.drop (1 + r + 1)).length = 0
              · rw [prErr_bad hs (fun g => by have := (hi.1 g).1; rw [v2, hY] at this; omega)]
                exact dparse_G01 s w hs h0 hc n r hd hr h1 hz hlt hc2 m p hd2 hp hq2 n2 hY _
              · by_cases hY1 : numTo (s.data.toList.drop (1 + r + 1)) (s.data.toList.drop (1 + r + 1)).length = 1
                · rw [prErr_bad hs (fun g => (hi.1 g).2.1 (v2.trans hY1))]
                  exact dparse_G11 s w hs h0 hc n r hd hr h1 hz hlt hc2 m p hd2 hp hq2 n2 hY1 _
                · by_cases hg : gcdI (numTo ((s.data.toList.drop 1).take r) ((s.data.toList.drop 1).take r).length) (numTo (s.data.toList.drop (1 + r + 1)) (s.data.toList.drop (1 + r + 1)).length) = 1
                  · have h00 := (numTo_bounds n2.2.2 (s.data.toList.drop (1 + r + 1)).length).1
                    rw [prErr_good hs (hi.2 ⟨by rw [v2]; omega, by rw [v2]; exact hY1, by rw [v1, v2]; exact hg⟩)]
                    refine dparse_G31 s w hs h0 hc n r hd hr h1 hz hlt hc2 m p hd2 hp hq2 n2 hY hY1 hg _ ?_
                    unfold rpq
                    rw [hn, v1, v2]
                  · rw [prErr_bad hs (fun g => hg (by have := (hi.1 g).2.2; rw [v1, v2] at this; exact this))]
                    exact dparse_G21 s w hs h0 hc n r hd hr h1 hz hlt hc2 m p hd2 hp hq2 n2 hY hY1 hg _
            · rw [prErr_bad hs (bad_behind hd'.1 hat hd2' (.inr (by rw [ef, ← hrn, hl]; omega)))]
              exact dparse_F21 s w hs h0 hc n r hd hr h1 hz hlt hc2 m p hd2 hp hq2 _
        · rw [prErr_bad hs (fun g => up_other hd'.1 (by rw [ef, ← hrn, hl]; exact hlt) (by rw [ef, ← hrn, byte_list s (1 + r) hlt]; exact hc2) g.1)]
          exact dparse_B1 s w hs h0 hc n r hd hr h1 hz hlt hc2 _

theorem dparse_any (s : ByteArray) (w : World) (hm : s.size ≤ 9223372036854775807) : Calls Tryz.prog 10 #[.string s] w (RTold w (prErr s) (rpq s.data.toList)) := by
  by_cases hs : s.size ≤ 65536
  · by_cases h0 : s.size = 0
    · have hl := size_list s
      have hn : s.data.toList = [] := List.length_eq_zero_iff.1 (by omega)
      have ef : from' s.data.toList = 0 := by rw [hn]; rfl
      obtain ⟨n, r, hd⟩ := digs_ex (l := s.data.toList) (A := 0) (by omega)
      have hr : r = 0 := by
        have h1 := hd.1.len
        rcases hd.2 with e | e <;> omega
      subst hr
      rw [prErr_bad hs (bad_first (by rw [ef]; exact hd))]
      exact dparse_C1e s w hs h0 n hd _
    · by_cases hc : s[0] = 45
      · exact dparse_A1 s w hs (by omega) hc
      · exact dparse_A0 s w hs (by omega) hc
  · rw [prErr_long (by omega)]
    exact dparse_long s w (by omega) hm _
end Go.Proofs.YtbnhpkelnoolhaaGreatDoor

/- What a told fraction says where its code is 0; fractions that are the same; three laws of rational numbers. -/
namespace Go.Proofs.YtbnhpkelnoolhaaGreatDoor
open Go.RowKit Go.Lib
set_option linter.unusedVariables false

theorem RTells.zero {e : Int} {q : Rat} {n : Bool} {xs ys : List Int} {c : Int} (h : RTells e q n xs ys c) (hc : c = 0) : e = 0 ∧ rchk n xs ys = 0 ∧ rq n xs ys = q := by
  by_cases he : e = 0
  · by_cases hl : rlong q
    · have := (h.long he hl).2.2.2; omega
    · exact ⟨he, (h.good he hl).2⟩
  · have := (h.bad he).2.2.2; omega
theorem rq_inj {n m : Bool} {xs ys us vs : List Int} (wx : Wd xs) (wy : Wd ys) (wu : Wd us) (wv : Wd vs) (h : rchk n xs ys = 0) (g : rchk m us vs = 0) (e : rq n xs ys = rq m us vs) : n = m ∧ xs = us ∧ ys = vs := by
  have a := RTells.self wx wy h
  rw [e] at a
  obtain ⟨b1, b2, b3, _⟩ := a.same (RTells.self wu wv g)
  exact ⟨b1, b2, b3⟩
theorem orz {b : Bool} {c : Int} (h : (b || decide (c ≠ 0)) = false) : b = false ∧ c = 0 := by
  cases b
  · exact ⟨rfl, by simpa using h⟩
  · simp at h
theorem rat_back (a b : Rat) : a + b + -b = a := by rw [Rat.add_assoc, Rat.add_neg_cancel, Rat.add_zero]
theorem rat_less (a b : Rat) : a + b - b = a := by rw [Rat.sub_eq_add_neg]; exact rat_back a b
theorem rat_quo (a b : Rat) (h : b ≠ 0) : a * b / b = a := by rw [Rat.div_def, Rat.mul_assoc, Rat.mul_inv_cancel _ h, Rat.mul_one]
theorem rq_zero {n : Bool} {xs ys : List Int} (wx : Wd xs) (wy : Wd ys) (h : rchk n xs ys = 0) (h0 : xs ≠ []) : rq n xs ys ≠ 0 := by
  obtain ⟨lx, ly, tx, ty, y0, s0, g⟩ := rchk_ok h
  intro e
  have k : rchk false [] [1] = 0 := rchk_good (by simp) (by simp) rfl rfl (by simp) (.inl rfl) (by decide)
  have e0 : rq false [] [1] = 0 := by unfold rq; rfl
  obtain ⟨_, e1, _⟩ := rq_inj wx wy Wd.nil (wdn 1 (by decide)) h k (by rw [e, e0])
  exact h0 e1
end Go.Proofs.YtbnhpkelnoolhaaGreatDoor

/- The law RatioBack answers true, and writes nothing that was there: whatever fraction and text come in. -/
namespace Go.Proofs.YtbnhpkelnoolhaaGreatDoor
open Go.RowKit Go.Lib
set_option linter.unusedVariables false

theorem rtext_short {n : Bool} {xs ys : List Int} (wx : Wd xs) (wy : Wd ys) (h : rchk n xs ys = 0) (T : ByteArray) (hT : T.data.toList = rtext n xs ys) : T.size ≤ 65536 := by
  obtain ⟨lx, ly, _⟩ := rchk_ok h
  have d1 := dec_short wx lx
  have d2 := dec_short wy ly
  rw [← size_list, hT, rtext_eq]
  cases n <;> by_cases c : ys = [1] <;> simp [c] <;> omega
theorem rparse_full (s : ByteArray) (w : World) (hm : s.size ≤ 9223372036854775807) : Calls Tryz.prog 9 #[.string s] w (RToldA w (prErr s) (rpq s.data.toList)) := by
  by_cases h : s.size ≤ 65536
  · exact rparse_any s w h
  · rw [prErr_long (by omega)]
    exact rparse_long s w (by omega) hm _
theorem rform_of {n : Bool} {xs ys : List Int} (h : rchk n xs ys = 0) : rform n xs ys := by
  unfold rchk at h
  by_cases c : 2048 < max xs.length ys.length
  · rw [if_pos c] at h; omega
  · rw [if_neg c] at h
    by_cases d : rform n xs ys
    · exact d
    · rw [if_neg d] at h; omega
theorem prErr_text {n : Bool} {xs ys : List Int} (wx : Wd xs) (wy : Wd ys) (h : rchk n xs ys = 0) (T : ByteArray) (hT : T.data.toList = rtext n xs ys) : prErr T = 0 ∧ rpq T.data.toList = rq n xs ys := by
  refine ⟨prErr_good (rtext_short wx wy h T hT) (by rw [hT]; exact rgood_text wx wy (rform_of h)), ?_⟩
  rw [hT]
  exact rpq_text n wx wy
theorem prErr_zero {s : ByteArray} (h : prErr s = 0) : rgood s.data.toList := by
  unfold prErr at h
  by_cases c : 65536 < s.size
  · rw [if_pos c] at h; omega
  · rw [if_neg c] at h
    by_cases d : rgood s.data.toList
    · exact d
    · rw [if_neg d] at h; omega
theorem sg_parts {n m : Bool} {x y : Int} (hx : 0 ≤ x) (hy : 0 ≤ y) (h1 : n = false ∨ 0 < x) (h2 : m = false ∨ 0 < y) (h : sg n x = sg m y) : n = m ∧ x = y := by
  cases n <;> cases m <;> simp [sg] at h h1 h2 ⊢ <;> omega
/-- What was read prints as it was. -/
theorem read_text {l : List UInt8} (h : rgood l) {n : Bool} {xs ys : List Int} (wx : Wd xs) (wy : Wd ys) (hk : rchk n xs ys = 0) (hq : rq n xs ys = rpq l) : rtext n xs ys = l := by
  obtain ⟨lx, ly, tx, ty, y0, s0, g⟩ := rchk_ok hk
  have py := val_pos' wy ty y0
  obtain ⟨a1, a2⟩ := fr_num (x := sg n (val xs)) py (by rw [gcd_sg]; exact g)
  obtain ⟨b1, b2⟩ := fr_num (x := sg (rneg l) (rnu l)) h.2.2.1 (by rw [gcd_sg]; exact h.2.2.2.2)
  have e : Rat.divInt (sg n (val xs)) (val ys) = Rat.divInt (sg (rneg l) (rnu l)) (rde l) := hq
  rw [e] at a1 a2
  have n0 : 0 ≤ rnu l := (numTo_bounds h.1.2.2 _).1
  obtain ⟨c1, c2⟩ := sg_parts (val_nonneg wx) n0 (s0.imp id (fun t => val_pos' wx tx t)) h.2.2.2.1 (a1.symm.trans b1)
  rw [c1]
  exact says_text h wy ty c2 (by omega)
theorem RTells.none {e : Int} {q : Rat} {n : Bool} {xs ys : List Int} {c : Int} (h : RTells e q n xs ys c) (hc : c ≠ 0) : xs.length = 0 ∧ ys.length = 0 := by
  by_cases he : e = 0
  · by_cases hl : rlong q
    · obtain ⟨_, h2, h3, _⟩ := h.long he hl
      rw [h2, h3]; simp
    · exact absurd (h.good he hl).1 hc
  · obtain ⟨_, h2, h3, _⟩ := h.bad he
    rw [h2, h3]; simp

set_option maxHeartbeats 25600000 in
set_option maxRecDepth 100000 in
theorem ratioBack_bad (n0 : Bool) (a0 : Option Addr) (ca0 : Nat) (xs0 : List Int) (b0 : Option Addr) (cb0 : Nat) (ys0 : List Int) (s : ByteArray) (w : World) (s0 : Sl w (.slice a0 xs0.length ca0) xs0) (t0 : Sl w (.slice b0 ys0.length cb0) ys0) (hm : s.size ≤ 9223372036854775807) (htab : Tab w) (hB : rchk n0 xs0 ys0 ≠ 0) :
    Calls Tryz.prog 4 #[.agg #[.bool n0, .slice a0 xs0.length ca0, .slice b0 ys0.length cb0], .string s] w fun e w' => e = .returned (.bool true) ∧ Below w.heap.size w w' := by
  have wx0 := s0.wd
  have wy0 := t0.wd
  have S0 := hid (And.intro s0 t0)
  clear s0 t0
  have H0 : St w w [] [] := ⟨(fun p hp => by cases hp), (fun p hp => by cases hp), Below.refl _ _⟩
  have H := hid (H0.put n0 (.slice a0 xs0.length ca0) (.slice b0 ys0.length cb0))
  have HTAB := hid htab
  have hq0 : (s.toList == s.toList) = true := by simp
  clear htab H0
  obtain ⟨e1, he1⟩ : ∃ e, rchk n0 xs0 ys0 = e := ⟨_, rfl⟩
  have h1 : (e1 == 0) = false := beq_eq_false_iff_ne.2 (by rw [← he1]; exact hB)
  have HB := hid hB
  have HE := hid he1
  clear hB he1
  go_enter Tryz.func4, Tryz.ntmps4
  have HC := hid (rawake_any (w.alloc (.cells #[.bool n0, .slice a0 xs0.length ca0, .slice b0 ys0.length cb0] 24)) (HTAB.out.later H.out.bel))
  go_wp2_with fail
  refine Calls.mono HC.out ?_
  generalize (w.alloc (.cells #[.bool n0, .slice a0 xs0.length ca0, .slice b0 ys0.length cb0] 24)) = X at *
  rintro e w1 ⟨rfl, hb⟩
  clear HC
  replace H := hid (H.out.later hb)
  clear hb
  have HK := rPrint_err n0 _ _ xs0 _ _ ys0 w1 (S0.out.1.later H.out.bel) (S0.out.2.later H.out.bel) HB.out
  rw [HE.out] at HK
  have HC := hid (HK)
  obtain ⟨p00, p01, p02⟩ := H.out.get (.head _)
  go_wp2_with fail
  refine Calls.mono HC.out ?_
  rintro e w2 ⟨rfl, hb⟩
  clear p00 p01 p02
  clear HC
  replace H := hid (H.out.later hb)
  clear hb
  clear HK
  have HK := rcheck_any n0 _ xs0 _ ys0 w2 (S0.out.1.later H.out.bel) (S0.out.2.later H.out.bel)
  rw [HE.out] at HK
  have HC := hid (HK)
  obtain ⟨p00, p01, p02⟩ := H.out.get (.head _)
  go_wp2_with fail
  refine Calls.mono HC.out ?_
  rintro e w3 ⟨rfl, hb⟩
  clear p00 p01 p02
  clear HC
  replace H := hid (H.out.later hb)
  clear hb
  clear HK
  have HC := hid (rparse_full s w3 hm)
  go_wp2_with fail
  refine Calls.mono HC.out ?_
  rintro e w4 ⟨N5, U5, Z5, T5, D5, C5, rfl, o5, q5, t5, hb, hcut⟩
  clear HC
  obtain ⟨A5, K5, hs⟩ := own_slice' o5
  subst hs
  obtain ⟨B5, L5, hs⟩ := own_slice' q5
  subst hs
  have HT5 := hid t5
  have wz5 := t5.wx
  have wd5 := t5.wy
  obtain ⟨lz5, ld5⟩ := t5.len
  clear t5 hcut
  replace H := hid (H.out.later hb)
  clear hb
  replace H := hid (H.out.more o5)
  clear o5
  replace H := hid (H.out.more q5)
  clear q5
  by_cases hC : C5 = 0
  · have R5 := hid (HT5.out.zero hC)
    have HTX := hid (read_text (prErr_zero R5.out.1) wz5 wd5 R5.out.2.1 R5.out.2.2)
    subst hC
    clear HT5
    replace H := hid (H.out.put N5 (.slice A5 Z5.length K5) (.slice B5 D5.length L5))
    have HC := hid (rPrint_ok N5 _ _ Z5 _ _ D5 (w4.alloc (.cells #[.bool N5, .slice A5 Z5.length K5, .slice B5 D5.length L5] 24)) (H.out.sl wz5 (.tail _ (.head _))) (H.out.sl wd5 (.head _)) R5.out.2.1 (HTAB.out.later H.out.bel))
    obtain ⟨p00, p01, p02⟩ := H.out.get (.head _)
    go_wp2_with fail
    refine Calls.mono HC.out ?_
    generalize (w4.alloc (.cells #[.bool N5, .slice A5 Z5.length K5, .slice B5 D5.length L5] 24)) = V4 at *
    rintro e w5 ⟨U, rfl, hU, hb⟩
    clear p00 p01 p02
    clear HC
    obtain rfl : U = s := ByteArray.ext (Array.toList_inj.1 (hU.trans HTX.out))
    clear hU HTX
    replace H := hid (H.out.later hb)
    clear hb
    have HK := rcheck_any N5 _ Z5 _ D5 w5 (H.out.sl wz5 (.tail _ (.head _))) (H.out.sl wd5 (.head _))
    rw [R5.out.2.1] at HK
    have HC := hid (HK)
    obtain ⟨p00, p01, p02⟩ := H.out.get (.head _)
    go_wp2_with fail
    refine Calls.mono HC.out ?_
    rintro e w6 ⟨rfl, hb⟩
    clear p00 p01 p02
    clear HC
    replace H := hid (H.out.later hb)
    clear hb
    clear HK
    go_wp2_with fail
    go_ret
    exact ⟨rfl, H.out.bel⟩
  · have hg1 : (C5 == 0) = false := beq_eq_false_iff_ne.2 hC
    have hg2 : (C5 != 0) = true := bne_iff_ne.2 hC
    obtain ⟨hz1, hz2⟩ := HT5.out.none hC
    clear hC HT5
    go_wp2_with fail
    go_ret
    exact ⟨rfl, bt H.out.bel (alloc_later _ _)⟩

set_option maxHeartbeats 25600000 in
set_option maxRecDepth 100000 in
theorem ratioBack_good (n0 : Bool) (a0 : Option Addr) (ca0 : Nat) (xs0 : List Int) (b0 : Option Addr) (cb0 : Nat) (ys0 : List Int) (s : ByteArray) (w : World) (s0 : Sl w (.slice a0 xs0.length ca0) xs0) (t0 : Sl w (.slice b0 ys0.length cb0) ys0) (hm : s.size ≤ 9223372036854775807) (htab : Tab w) (hB : rchk n0 xs0 ys0 = 0) :
    Calls Tryz.prog 4 #[.agg #[.bool n0, .slice a0 xs0.length ca0, .slice b0 ys0.length cb0], .string s] w fun e w' => e = .returned (.bool true) ∧ Below w.heap.size w w' := by
  have wx0 := s0.wd
  have wy0 := t0.wd
  have S0 := hid (And.intro s0 t0)
  clear s0 t0
  have H0 : St w w [] [] := ⟨(fun p hp => by cases hp), (fun p hp => by cases hp), Below.refl _ _⟩
  have H := hid (H0.put n0 (.slice a0 xs0.length ca0) (.slice b0 ys0.length cb0))
  have HTAB := hid htab
  have hq0 : (s.toList == s.toList) = true := by simp
  clear htab H0
  have KA := hid hB
  obtain ⟨lx0, ly0, _⟩ := rchk_ok hB
  clear hB
  go_enter Tryz.func4, Tryz.ntmps4
  have HC := hid (rawake_any (w.alloc (.cells #[.bool n0, .slice a0 xs0.length ca0, .slice b0 ys0.length cb0] 24)) (HTAB.out.later H.out.bel))
  go_wp2_with fail
  refine Calls.mono HC.out ?_
  generalize (w.alloc (.cells #[.bool n0, .slice a0 xs0.length ca0, .slice b0 ys0.length cb0] 24)) = X at *
  rintro e w1 ⟨rfl, hb⟩
  clear HC
  replace H := hid (H.out.later hb)
  clear hb
  have HC := hid (rPrint_ok n0 _ _ xs0 _ _ ys0 w1 (S0.out.1.later H.out.bel) (S0.out.2.later H.out.bel) KA.out (HTAB.out.later H.out.bel))
  obtain ⟨p00, p01, p02⟩ := H.out.get (.head _)
  go_wp2_with fail
  refine Calls.mono HC.out ?_
  rintro e w2 ⟨T, rfl, hT, hb⟩
  clear p00 p01 p02
  clear HC
  have HPT := hid (prErr_text wx0 wy0 KA.out T hT)
  have HSZ := hid (rtext_short wx0 wy0 KA.out T hT)
  clear hT
  replace H := hid (H.out.later hb)
  clear hb
  have HK := rcheck_any n0 _ xs0 _ ys0 w2 (S0.out.1.later H.out.bel) (S0.out.2.later H.out.bel)
  rw [KA.out] at HK
  have HC := hid (HK)
  obtain ⟨p00, p01, p02⟩ := H.out.get (.head _)
  go_wp2_with fail
  refine Calls.mono HC.out ?_
  rintro e w3 ⟨rfl, hb⟩
  clear p00 p01 p02
  clear HC
  replace H := hid (H.out.later hb)
  clear hb
  clear HK
  have HC := hid (rparse_any T w3 HSZ.out)
  go_wp2_with fail
  refine Calls.mono HC.out ?_
  rintro e w4 ⟨N1, U1, Z1, T1, D1, C1, rfl, o1, q1, t1, hb, hcut⟩
  clear HC
  obtain ⟨A1, K1, hs⟩ := own_slice' o1
  subst hs
  obtain ⟨B1, L1, hs⟩ := own_slice' q1
  subst hs
  have HT1 := hid t1
  have wz1 := t1.wx
  have wd1 := t1.wy
  obtain ⟨lz1, ld1⟩ := t1.len
  clear t1 hcut
  replace H := hid (H.out.later hb)
  clear hb
  replace H := hid (H.out.more o1)
  clear o1
  replace H := hid (H.out.more q1)
  clear q1
  have HE1 : Hid (N1 = n0 ∧ Z1 = xs0 ∧ D1 = ys0 ∧ C1 = 0) := HT1.out.lit HPT.out.1 wx0 wy0 KA.out HPT.out.2.symm
  clear HT1
  have hc1 : C1 = 0 := HE1.out.2.2.2
  subst hc1
  replace H := hid (H.out.put N1 (.slice A1 Z1.length K1) (.slice B1 D1.length L1))
  have HSM := rSame_any N1 _ _ Z1 _ _ D1 n0 _ _ xs0 _ _ ys0 (w4.alloc (.cells #[.bool N1, .slice A1 Z1.length K1, .slice B1 D1.length L1] 24)) (H.out.sl wz1 (.tail _ (.head _))) (H.out.sl wd1 (.head _)) (S0.out.1.later H.out.bel) (S0.out.2.later H.out.bel) (by omega) (by omega) (by omega) (by omega)
  rw [decide_eq_true ⟨HE1.out.1, HE1.out.2.1, HE1.out.2.2.1⟩] at HSM
  have HC := hid (HSM)
  obtain ⟨p00, p01, p02⟩ := H.out.get (.head _)
  obtain ⟨p10, p11, p12⟩ := H.out.get (.tail _ (.head _))
  go_wp2_with fail
  refine Calls.mono HC.out ?_
  generalize (w4.alloc (.cells #[.bool N1, .slice A1 Z1.length K1, .slice B1 D1.length L1] 24)) = V4 at *
  rintro e w5 ⟨rfl, hb⟩
  clear p00 p01 p02 p10 p11 p12
  clear HC
  replace H := hid (H.out.later hb)
  clear hb
  clear HSM
  have HC := hid (rparse_full s w5 hm)
  go_wp2_with fail
  refine Calls.mono HC.out ?_
  rintro e w6 ⟨N5, U5, Z5, T5, D5, C5, rfl, o5, q5, t5, hb, hcut⟩
  clear HC
  obtain ⟨A5, K5, hs⟩ := own_slice' o5
  subst hs
  obtain ⟨B5, L5, hs⟩ := own_slice' q5
  subst hs
  have HT5 := hid t5
  have wz5 := t5.wx
  have wd5 := t5.wy
  obtain ⟨lz5, ld5⟩ := t5.len
  clear t5 hcut
  replace H := hid (H.out.later hb)
  clear hb
  replace H := hid (H.out.more o5)
  clear o5
  replace H := hid (H.out.more q5)
  clear q5
  by_cases hC : C5 = 0
  · have R5 := hid (HT5.out.zero hC)
    have HTX := hid (read_text (prErr_zero R5.out.1) wz5 wd5 R5.out.2.1 R5.out.2.2)
    subst hC
    clear HT5
    replace H := hid (H.out.put N5 (.slice A5 Z5.length K5) (.slice B5 D5.length L5))
    have HC := hid (rPrint_ok N5 _ _ Z5 _ _ D5 (w6.alloc (.cells #[.bool N5, .slice A5 Z5.length K5, .slice B5 D5.length L5] 24)) (H.out.sl wz5 (.tail _ (.head _))) (H.out.sl wd5 (.head _)) R5.out.2.1 (HTAB.out.later H.out.bel))
    obtain ⟨p00, p01, p02⟩ := H.out.get (.head _)
    go_wp2_with fail
    refine Calls.mono HC.out ?_
    generalize (w6.alloc (.cells #[.bool N5, .slice A5 Z5.length K5, .slice B5 D5.length L5] 24)) = V6 at *
    rintro e w7 ⟨U, rfl, hU, hb⟩
    clear p00 p01 p02
    clear HC
    obtain rfl : U = s := ByteArray.ext (Array.toList_inj.1 (hU.trans HTX.out))
    clear hU HTX
    replace H := hid (H.out.later hb)
    clear hb
    have HK := rcheck_any N5 _ Z5 _ D5 w7 (H.out.sl wz5 (.tail _ (.head _))) (H.out.sl wd5 (.head _))
    rw [R5.out.2.1] at HK
    have HC := hid (HK)
    obtain ⟨p00, p01, p02⟩ := H.out.get (.head _)
    go_wp2_with fail
    refine Calls.mono HC.out ?_
    rintro e w8 ⟨rfl, hb⟩
    clear p00 p01 p02
    clear HC
    replace H := hid (H.out.later hb)
    clear hb
    clear HK
    go_wp2_with fail
    go_ret
    exact ⟨rfl, H.out.bel⟩
  · have hg1 : (C5 == 0) = false := beq_eq_false_iff_ne.2 hC
    have hg2 : (C5 != 0) = true := bne_iff_ne.2 hC
    obtain ⟨hz1, hz2⟩ := HT5.out.none hC
    clear hC HT5
    go_wp2_with fail
    go_ret
    exact ⟨rfl, bt H.out.bel (alloc_later _ _)⟩

theorem ratioBack_in (n0 : Bool) (a0 : Option Addr) (k0 ca0 : Nat) (xs0 : List Int) (b0 : Option Addr) (l0 cb0 : Nat) (ys0 : List Int) (s : ByteArray) (w : World) (h0 : Reads w w.heap.size a0 k0 ca0 xs0) (g0 : Reads w w.heap.size b0 l0 cb0 ys0) (hm : s.size ≤ maxLen) (htab : Tab w) :
    Calls Tryz.prog 4 #[.agg #[.bool n0, .slice a0 k0 ca0, .slice b0 l0 cb0], .string s] w fun e w' => e = .returned (.bool true) ∧ Below w.heap.size w w' := by
  have e0 := h0.1
  have f0 := g0.1
  subst e0
  subst f0
  unfold maxLen at hm
  by_cases hB : rchk n0 xs0 ys0 = 0
  · exact ratioBack_good n0 a0 ca0 xs0 b0 cb0 ys0 s w ⟨_, _, rfl, h0⟩ ⟨_, _, rfl, g0⟩ (by omega) htab hB
  · exact ratioBack_bad n0 a0 ca0 xs0 b0 cb0 ys0 s w ⟨_, _, rfl, h0⟩ ⟨_, _, rfl, g0⟩ (by omega) htab hB
end Go.Proofs.YtbnhpkelnoolhaaGreatDoor

