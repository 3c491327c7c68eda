/- My texts on the way to TideNames, one behind the other: contracts of the program and of the document's answers. -/
import Derived.Test.YtmgjkdijnjeljaaGreatDoorJ2
import Derived.Test.YtmgjkdijnjeljaaGreatDoorShelf
import Derived.Handy
import Derived.Lib.IndexLaws
import Derived.Deep.RegionHeld3
import Derived.Laws.ResultCell
import Derived.Deep.QuietTactic
import Derived.Lib.AtoiErrMem
import Derived.Lib.ItoaLen
/- Whole numbers as texts: whole.Print, strings.CutPrefix by a minus, whole.Parse. -/
namespace Go.Proofs.YtmgjkdijnjeljaaGreatDoor
open Go.RowKit Go.Lib
set_option linter.unusedVariables false

theorem wdec_len : ∀ (k n : Nat), n < 10 ^ (k + 1) → (decDigits n).length ≤ k + 1
  | 0, n, h => by rw [decDigits_one (by simpa using h)]; simp
  | k + 1, n, h => by
    by_cases c : n < 10
    · rw [decDigits_one c]; simp
    · have ih := wdec_len k (n / 10) (by rw [Nat.pow_succ] at h; omega)
      rw [decDigits, dif_neg c, List.length_append, List.length_singleton]
      omega
theorem ten_pow (m : Nat) : (4294967296 : Int) ^ m ≤ 10 ^ (10 * m) := by
  induction m with
  | zero => simp
  | succ m ih =>
    rw [pw_succ, show 10 * (m + 1) = 10 * m + 10 by omega, Int.pow_add]
    have p := pw_pos m
    have e : (10 : Int) ^ 10 = 10000000000 := by decide
    rw [e]
    omega
theorem dec_short' {xs : List Int} (hw : Wd xs) (m : Nat) (hl : xs.length ≤ m) : (decDigits (val xs).toNat).length ≤ 10 * m + 1 := by
  have h1 := val_lt hw
  have h2 : (4294967296 : Int) ^ xs.length ≤ 4294967296 ^ m := pw_le hl
  have h3 := ten_pow m
  have h0 := val_nonneg hw
  have h4 : val xs < 10 ^ (10 * m) := Int.lt_of_lt_of_le h1 (Int.le_trans h2 h3)
  have h6 : (10 : Int) ^ (10 * m + 1) = 10 ^ (10 * m) * 10 := Int.pow_succ _ _
  have h7 : (0 : Int) < 10 ^ (10 * m) := Int.pow_pos (by decide)
  have h5 : (((val xs).toNat : Nat) : Int) < ((10 ^ (10 * m + 1) : Nat) : Int) := by
    rw [Int.toNat_of_nonneg h0, Int.natCast_pow]
    show _ < (10 : Int) ^ (10 * m + 1)
    rw [h6]; omega
  exact wdec_len (10 * m) _ (Int.ofNat_lt.1 h5)
theorem dec_short {xs : List Int} (hw : Wd xs) (hl : xs.length ≤ 2048) : (decDigits (val xs).toNat).length ≤ 20481 := by
  have := dec_short' hw 2048 hl
  omega
theorem ten_le (k : Nat) : (10 : Int) ^ k ≤ 4294967296 ^ k := by
  induction k with
  | zero => simp
  | succ k ih =>
    rw [Int.pow_succ, pw_succ]
    have p := pw_pos k
    omega

/-- The text of a whole number. -/
def wtext (n : Bool) (xs : List Int) : List UInt8 := (if n then [45] else []) ++ decDigits (val xs).toNat

set_option maxHeartbeats 1600000 in
set_option maxRecDepth 100000 in
theorem wprint_any (n : Bool) (v : Value) (xs : List Int) (w : World) (h : Sl w v xs) (hx : wchk n xs = 0) (htab : Tab w) :
    Calls Tryz.prog 64 #[.agg #[.bool n, v]] w fun e w' => ∃ T : ByteArray, e = .returned (.tuple #[.string T, .int .i64 0]) ∧ T.data.toList = wtext n xs ∧ Below w.heap.size w w' := by
  obtain ⟨lx, tx, _⟩ := wchk_ok hx
  have wx := h.wd
  have HB := hid (alloc_later w (.cells #[.bool n, v] 62))
  have HX := hid (Box.made w 62 #[.bool n, v])
  have HC := hid (wcheck_any n v xs _ (h.later HB.out) (by omega))
  rw [hx] at HC
  have HP := hid (fun w1 (hb : Below (w.alloc (.cells #[.bool n, v] 62)).heap.size (w.alloc (.cells #[.bool n, v] 62)) w1) => print_any v xs w1 ((h.later HB.out).later hb) (by omega) (htab.later (bt HB.out hb)))
  rw [chk_good (by omega) tx, if_pos rfl] at HP
  obtain ⟨D, hD⟩ : ∃ D : ByteArray, D = ⟨(decDigits (val xs).toNat).toArray⟩ := ⟨_, rfl⟩
  have hds : D.size ≤ 20481 := by
    have e : D.size = (decDigits (val xs).toNat).length := by rw [hD]; exact (size_list _).symm
    rw [e]; exact dec_short wx lx
  have HDL : Hid (D.data.toList = decDigits (val xs).toNat) := by rw [hD]; rfl
  rw [← hD] at HP
  obtain ⟨a, cap, rfl, hr⟩ := h
  clear hr hD hx
  cases n with
  | false =>
    go_enter Tryz.func64, Tryz.ntmps64
    go_wp2_with fail
    refine Calls.mono HC.out ?_
    rintro e w1 ⟨rfl, hb1⟩
    obtain ⟨p0, p1, _, _⟩ := res_box HX.out hb1
    have HP1 := hid (HP.out w1 hb1)
    have HB1 := hid hb1
    clear hb1 HP
    go_wp2_with fail
    refine Calls.mono HP1.out ?_
    rintro e w2 ⟨rfl, hb2⟩
    obtain ⟨q0, q1, _, _⟩ := res_box HX.out (bt HB1.out hb2)
    have hbF := bt HB.out (bt HB1.out hb2)
    clear hb2 p0 p1
    go_wp2_with fail
    go_ret2
    exact ⟨D, rfl, HDL.out, hbF⟩
  | true =>
    go_enter Tryz.func64, Tryz.ntmps64
    go_wp2_with fail
    refine Calls.mono HC.out ?_
    rintro e w1 ⟨rfl, hb1⟩
    obtain ⟨p0, p1, _, _⟩ := res_box HX.out hb1
    have HP1 := hid (HP.out w1 hb1)
    have HB1 := hid hb1
    clear hb1 HP
    go_wp2_with fail
    refine Calls.mono HP1.out ?_
    rintro e w2 ⟨rfl, hb2⟩
    obtain ⟨q0, q1, _, _⟩ := res_box HX.out (bt HB1.out hb2)
    have hbF := bt HB.out (bt HB1.out hb2)
    clear hb2 p0 p1
    go_wp2_with fail
    go_ret2
    refine ⟨_, rfl, ?_, hbF⟩
    show _ = 45 :: decDigits (val xs).toNat
    rw [← HDL.out]
    simp

theorem cut_minus (s : ByteArray) (w : World) (hs : s.size ≤ 65536) :
    Calls Tryz.prog 94 #[.string s, .string ⟨#[45]⟩] w fun e w' => ∃ (T : ByteArray) (b : Bool), e = .returned (.tuple #[.string T, .bool b]) ∧ b = decide (s.data.toList[0]? = some 45) ∧ T.data.toList = (if b then s.data.toList.drop 1 else s.data.toList) ∧ w = w' := by
  have HH := hid (Tryz.stringslite_HasPrefix s ⟨#[45]⟩ w)
  have e0 : Lib.hasPrefix s.data.toList (⟨#[45]⟩ : ByteArray).data.toList = decide (s.data.toList[0]? = some 45) := by
    cases hl : s.data.toList with
    | nil => simp [Lib.hasPrefix]
    | cons c l =>
      by_cases hc : c = 45
      · subst hc; simp [Lib.hasPrefix, List.isPrefixOf]
      · have hc' : ¬ (45 : UInt8) = c := fun e => hc e.symm
        simp [Lib.hasPrefix, List.isPrefixOf, hc, hc']
  rw [e0] at HH
  by_cases c : s.data.toList[0]? = some 45
  · have hd : decide (s.data.toList[0]? = some 45) = true := decide_eq_true c
    rw [hd] at HH ⊢
    have h1 : 1 ≤ s.size := by
      rw [← size_list]
      by_cases z : s.data.toList.length = 0
      · rw [List.getElem?_eq_none (by omega)] at c; cases c
      · omega
    have HX := hid (extract_list s 1 s.size)
    clear c hd e0
    go_enter Tryz.func94, Tryz.ntmps94
    go_wp2_with fail
    refine Calls.mono HH.out ?_
    rintro e w' ⟨rfl, rfl⟩
    go_wp2_with fail
    go_ret2
    refine ⟨_, true, rfl, rfl, ?_, rfl⟩
    rw [if_pos rfl, HX.out, List.take_of_length_le (by rw [List.length_drop, size_list]; omega)]
  · have hd : decide (s.data.toList[0]? = some 45) = false := decide_eq_false c
    rw [hd] at HH ⊢
    clear c hd e0
    go_enter Tryz.func94, Tryz.ntmps94
    go_wp2_with fail
    refine Calls.mono HH.out ?_
    rintro e w' ⟨rfl, rfl⟩
    go_wp2_with fail
    go_ret2
    exact ⟨s, false, rfl, rfl, rfl, rfl⟩

theorem cutPrefix_minus (s : ByteArray) (w : World) (hs : s.size ≤ 65536) :
    Calls Tryz.prog 75 #[.string s, .string ⟨#[45]⟩] w fun e w' => ∃ (T : ByteArray) (b : Bool), e = .returned (.tuple #[.string T, .bool b]) ∧ b = decide (s.data.toList[0]? = some 45) ∧ T.data.toList = (if b then s.data.toList.drop 1 else s.data.toList) ∧ w = w' := by
  have HH := hid (cut_minus s w hs)
  go_enter Tryz.func75, Tryz.ntmps75
  go_wp2_with fail
  refine Calls.mono HH.out ?_
  rintro e w' ⟨T, b, rfl, h1, h2, rfl⟩
  have HR := hid (And.intro h1 h2)
  clear h1 h2
  go_wp2_with fail
  go_ret2
  exact ⟨T, b, rfl, HR.out.1, HR.out.2, rfl⟩
/-- What stands behind a minus. -/
def wdig (b : Bool) (l : List UInt8) : List UInt8 := if b then l.drop 1 else l
def wneg (s : ByteArray) : Bool := decide (s.data.toList[0]? = some 45)
def wnum (s : ByteArray) : Int := numTo (wdig (wneg s) s.data.toList) (wdig (wneg s) s.data.toList).length
open Classical in
/-- Parse's error, of a text. -/
noncomputable def wpErr (s : ByteArray) : Int := if 65536 < s.size then 3 else if IsNum (wdig (wneg s) s.data.toList) ∧ (wneg s = false ∨ 0 < wnum s) then 0 else 120
theorem pErr_ok (s : ByteArray) (hs : s.size ≤ 65536) (h : IsNum s.data.toList) : pErr s = 0 := by unfold pErr; rw [if_neg (by omega), if_pos h]
theorem pErr_not (s : ByteArray) (hs : s.size ≤ 65536) (h : ¬ IsNum s.data.toList) : pErr s = 110 := by unfold pErr; rw [if_neg (by omega), if_neg h]

set_option maxHeartbeats 800000 in
set_option maxRecDepth 100000 in
theorem wprint_err (n : Bool) (v : Value) (xs : List Int) (w : World) (h : Sl w v xs) (hl : xs.length ≤ 281474976710656) (hx : wchk n xs ≠ 0) :
    Calls Tryz.prog 64 #[.agg #[.bool n, v]] w fun e w' => e = .returned (.tuple #[.string ⟨#[]⟩, .int .i64 (wchk n xs)]) ∧ Below w.heap.size w w' := by
  have HB := hid (alloc_later w (.cells #[.bool n, v] 62))
  have HC := hid (wcheck_any n v xs _ (h.later HB.out) (by omega))
  have hne : (wchk n xs != 0) = true := by simp [hx]
  obtain ⟨c, hc⟩ : ∃ c, wchk n xs = c := ⟨_, rfl⟩
  rw [hc] at HC hne ⊢
  obtain ⟨a, cap, rfl, hr⟩ := h
  clear hr hc hx
  go_enter Tryz.func64, Tryz.ntmps64
  go_wp2_with fail
  refine Calls.mono HC.out ?_
  rintro e w1 ⟨rfl, hb1⟩
  have hbF := bt HB.out hb1
  clear hb1
  go_wp2_with fail
  go_ret2
  exact ⟨rfl, hbF⟩

theorem digit_first {l : List UInt8} (h : IsNum l) : ¬ l[0]? = some 45 := fun e => by
  have h1 := h.2.2 45 (List.mem_of_getElem? e)
  have h2 : ((45 : UInt8).toNat : Int) = 45 := rfl
  omega
/-- A whole number's text is read as it. -/
theorem text_parse {n : Bool} {xs : List Int} (wx : Wd xs) (hx : wchk n xs = 0) (T : ByteArray) (hT : T.data.toList = wtext n xs) : T.size ≤ 65536 ∧ wpErr T = 0 ∧ sg (wneg T) (wnum T) = wval n xs := by
  obtain ⟨lx, tx, sx⟩ := wchk_ok hx
  obtain ⟨d1, d2, _⟩ := isNum_dec (val xs).toNat
  have d3 := dec_short wx lx
  have v0 := val_nonneg wx
  have hneg : wneg T = n := by
    unfold wneg
    rw [hT]
    unfold wtext
    cases n with
    | false => exact decide_eq_false (digit_first d1)
    | true => rfl
  have hdig : wdig n T.data.toList = decDigits (val xs).toNat := by
    rw [hT]; unfold wdig wtext
    cases n <;> rfl
  have hnum : wnum T = val xs := by
    unfold wnum
    rw [hneg, hdig, d2]
    omega
  have hsz : T.size ≤ 65536 := by
    rw [← size_list, hT]
    unfold wtext
    rw [List.length_append]
    have : (if n = true then [(45 : UInt8)] else []).length ≤ 1 := by cases n <;> simp
    omega
  refine ⟨hsz, ?_, ?_⟩
  · unfold wpErr
    have hcond : IsNum (wdig (wneg T) T.data.toList) ∧ (wneg T = false ∨ 0 < wnum T) := ⟨by rw [hneg, hdig]; exact d1, by
      rcases sx with e | e
      · left; rw [hneg]; exact e
      · right; rw [hnum]; have := val_pos' wx tx e; omega⟩
    rw [if_neg (by omega), if_pos hcond]
  · rw [hneg, hnum]; rfl
/-- Unlike numbers have unlike texts. -/
theorem text_inj {n m : Bool} {xs ys : List Int} (wx : Wd xs) (wy : Wd ys) (hx : wchk n xs = 0) (hy : wchk m ys = 0) (T U : ByteArray) (hT : T.data.toList = wtext n xs) (hU : U.data.toList = wtext m ys) : T = U ↔ (n = m ∧ xs = ys) := by
  constructor
  · intro e
    have a1 := (text_parse wx hx T hT).2.2
    have a2 := (text_parse wy hy U hU).2.2
    rw [e, a2] at a1
    obtain ⟨_, tx, sx⟩ := wchk_ok hx
    obtain ⟨_, ty, sy⟩ := wchk_ok hy
    exact wsame' wx wy tx ty sx sy a1.symm
  · rintro ⟨rfl, rfl⟩
    have e : T.data.toList = U.data.toList := hT.trans hU.symm
    exact ByteArray.ext (Array.toList_inj.1 e)
/-- What a text is read as has that text. -/
theorem parse_text (s : ByteArray) (he : wpErr s = 0) {n : Bool} {zs : List Int} (wz : Wd zs) (hz : wchk n zs = 0) (hv : wval n zs = sg (wneg s) (wnum s)) : wtext n zs = s.data.toList := by
  unfold wpErr at he
  by_cases h1 : 65536 < s.size
  · rw [if_pos h1] at he; omega
  · rw [if_neg h1] at he
    by_cases h2 : IsNum (wdig (wneg s) s.data.toList) ∧ (wneg s = false ∨ 0 < wnum s)
    · obtain ⟨hN, hs⟩ := h2
      have h0 : 0 ≤ wnum s := (numTo_bounds hN.2.2 _).1
      obtain ⟨_, tz, sz'⟩ := wchk_ok hz
      have v0 := val_nonneg wz
      have hp := val_pos' wz tz
      obtain ⟨hn, hval⟩ : n = wneg s ∧ val zs = wnum s := by
        generalize wneg s = b at *
        cases n <;> cases b <;> simp [wval, sg] at hv hs sz' ⊢
        · exact hv
        · omega
        · have := hp (by omega); omega
        · exact hv
      have hd : decDigits (wnum s).toNat = wdig (wneg s) s.data.toList := by
        obtain ⟨k, hk⟩ : ∃ k, (wdig (wneg s) s.data.toList).length = k + 1 := ⟨_, (Nat.succ_pred_eq_of_pos hN.1).symm⟩
        exact dec_num k _ hk hN
      unfold wtext
      rw [hval, hd, hn]
      unfold wdig
      cases hw : wneg s with
      | false => rfl
      | true =>
        have hc : s.data.toList[0]? = some 45 := of_decide_eq_true hw
        cases hl : s.data.toList with
        | nil => rw [hl] at hc; cases hc
        | cons c l => rw [hl] at hc; simp at hc; simp [hc]
    · rw [if_neg h2] at he; omega
theorem num_small (s : ByteArray) (hs : s.size ≤ 400) (he : wpErr s = 0) : -wlim < sg (wneg s) (wnum s) ∧ sg (wneg s) (wnum s) < wlim := by
  unfold wpErr at he
  rw [if_neg (by omega)] at he
  by_cases h2 : IsNum (wdig (wneg s) s.data.toList) ∧ (wneg s = false ∨ 0 < wnum s)
  · have hb := numTo_bounds h2.1.2.2 (wdig (wneg s) s.data.toList).length
    have hl : (wdig (wneg s) s.data.toList).length ≤ 400 := by
      have := size_list s
      unfold wdig
      split
      · rw [List.length_drop]; omega
      · omega
    have e1 : (10 : Int) ^ (wdig (wneg s) s.data.toList).length ≤ 4294967296 ^ (wdig (wneg s) s.data.toList).length := ten_le _
    have e2 : (4294967296 : Int) ^ (wdig (wneg s) s.data.toList).length ≤ wlim := by unfold wlim; exact pw_le (by omega)
    have e3 : wnum s < wlim := Int.lt_of_lt_of_le hb.2 (Int.le_trans e1 e2)
    have e4 : 0 ≤ wnum s := hb.1
    have e5 := wlim_pos
    cases wneg s <;> simp [sg] <;> omega
  · rw [if_neg h2] at he; omega
end Go.Proofs.YtmgjkdijnjeljaaGreatDoor

/- Fractions: ratio.Print: of any fraction, good or refused. -/
namespace Go.Proofs.YtmgjkdijnjeljaaGreatDoor
open Go.RowKit Go.Lib
set_option linter.unusedVariables false

/-- A fraction's text. -/
def rtext (n : Bool) (xs ys : List Int) : List UInt8 := if ys = [1] then wtext n xs else wtext n xs ++ 47 :: decDigits (val ys).toNat

set_option maxHeartbeats 1600000 in
set_option maxRecDepth 100000 in
theorem rPrint_err (n : Bool) (a : Option Addr) (ca : Nat) (xs : List Int) (b : Option Addr) (cb : Nat) (ys : List Int) (w : World) (sx : Sl w (.slice a xs.length ca) xs) (sy : Sl w (.slice b ys.length cb) ys) (he : rchk n xs ys ≠ 0) :
    Calls Tryz.prog 50 #[.agg #[.bool n, .slice a xs.length ca, .slice b ys.length cb]] w fun e w' => e = .returned (.tuple #[.string ⟨#[]⟩, .int .i64 (rchk n xs ys)]) ∧ Below w.heap.size w w' := by
  have HB := hid (alloc_later w (.cells #[.bool n, .slice a xs.length ca, .slice b ys.length cb] 27))
  have HC := hid (rcheck_any n _ xs _ ys (w.alloc (.cells #[.bool n, .slice a xs.length ca, .slice b ys.length cb] 27)) (sx.later HB.out) (sy.later HB.out))
  obtain ⟨E, hE⟩ : ∃ E, rchk n xs ys = E := ⟨_, rfl⟩
  rw [hE] at HC he ⊢
  have he' : (E == 0) = false := beq_eq_false_iff_ne.2 he
  clear he hE sx sy
  go_enter Tryz.func50, Tryz.ntmps50
  go_wp2_with fail
  refine Calls.mono HC.out ?_
  rintro e w1 ⟨rfl, hb1⟩
  have HBN := hid (bt HB.out hb1)
  clear hb1 HC
  go_wp2_with fail
  go_ret2
  exact ⟨rfl, HBN.out⟩

set_option maxHeartbeats 3200000 in
set_option maxRecDepth 100000 in
theorem rPrint_ok (n : Bool) (a : Option Addr) (ca : Nat) (xs : List Int) (b : Option Addr) (cb : Nat) (ys : List Int) (w : World) (sx : Sl w (.slice a xs.length ca) xs) (sy : Sl w (.slice b ys.length cb) ys) (hx : rchk n xs ys = 0) (htab : Tab w) :
    Calls Tryz.prog 50 #[.agg #[.bool n, .slice a xs.length ca, .slice b ys.length cb]] w fun e w' => ∃ T : ByteArray, e = .returned (.tuple #[.string T, .int .i64 0]) ∧ T.data.toList = rtext n xs ys ∧ Below w.heap.size w w' := by
  obtain ⟨lx, ly, tx, ty, y0', nx, g1⟩ := rchk_ok hx
  have wx := sx.wd
  have wy := sy.wd
  have HB := hid (alloc_later w (.cells #[.bool n, .slice a xs.length ca, .slice b ys.length cb] 27))
  have HN := hid (Box.made w 27 #[.bool n, .slice a xs.length ca, .slice b ys.length cb])
  have HS := hid (And.intro (sx.later HB.out) (sy.later HB.out))
  have HC := hid (rcheck_any n _ xs _ ys (w.alloc (.cells #[.bool n, .slice a xs.length ca, .slice b ys.length cb] 27)) HS.out.1 HS.out.2)
  rw [hx] at HC
  have HW := hid (fun ww (hb : Below (w.alloc (.cells #[.bool n, .slice a xs.length ca, .slice b ys.length cb] 27)).heap.size (w.alloc (.cells #[.bool n, .slice a xs.length ca, .slice b ys.length cb] 27)) ww) => wprint_any n _ xs ww (HS.out.1.later hb) (wchk_good lx tx nx) (htab.later (bt HB.out hb)))
  have HO := hid (fun ww (hb : Below (w.alloc (.cells #[.bool n, .slice a xs.length ca, .slice b ys.length cb] 27)).heap.size (w.alloc (.cells #[.bool n, .slice a xs.length ca, .slice b ys.length cb] 27)) ww) => isOne_any _ ys ww (HS.out.2.later hb))
  have HD := hid (fun ww (hb : Below (w.alloc (.cells #[.bool n, .slice a xs.length ca, .slice b ys.length cb] 27)).heap.size (w.alloc (.cells #[.bool n, .slice a xs.length ca, .slice b ys.length cb] 27)) ww) => print_any _ ys ww (HS.out.2.later hb) (by omega) (htab.later (bt HB.out hb)))
  rw [chk_good (by omega) ty, if_pos rfl] at HD
  have hd1 := dec_short wx lx
  have hd2 := dec_short wy ly
  obtain ⟨D, hD⟩ : ∃ D : ByteArray, D = ⟨(decDigits (val ys).toNat).toArray⟩ := ⟨_, rfl⟩
  rw [← hD] at HD
  have HDL : Hid (D.data.toList = decDigits (val ys).toNat) := by show _ = _; rw [hD]
  have hDs : D.size ≤ 20481 := by rw [hD]; show (decDigits (val ys).toNat).toArray.size ≤ _; rw [List.size_toArray]; exact hd2
  have HL1 : Hid ((wtext n xs).length ≤ 20482) := by
    show _ ≤ _
    unfold wtext
    rw [List.length_append]
    have : (if n then [45] else [] : List UInt8).length ≤ 1 := by cases n <;> simp
    omega
  clear sx sy hx tx ty g1 htab wx wy hD hd1 hd2 nx y0'
  by_cases h1 : ys = [1]
  · rw [decide_eq_true h1] at HO
    have HR : Hid (rtext n xs ys = wtext n xs) := by show _ = _; unfold rtext; rw [if_pos h1]
    rw [HR.out]
    clear h1
    go_enter Tryz.func50, Tryz.ntmps50
    go_wp2_with fail
    refine Calls.mono HC.out ?_
    generalize (w.alloc (.cells #[.bool n, .slice a xs.length ca, .slice b ys.length cb] 27)) = X at *
    rintro e w1 ⟨rfl, hb1⟩
    obtain ⟨p0, p1, p2, _⟩ := res_box3 HN.out hb1
    have HW1 := hid (HW.out w1 hb1)
    have HB1 := hid hb1
    clear hb1 HC HW HD
    go_wp2_with fail
    refine Calls.mono HW1.out ?_
    rintro e w2 ⟨T, rfl, hT, hb2⟩
    have HT := hid hT
    have HB2 := hid (bt HB1.out hb2)
    have HO2 := hid (HO.out w2 HB2.out)
    clear hT hb2 HW1 HO p0 p1 p2
    obtain ⟨p0, p1, p2, _⟩ := res_box3 HN.out HB2.out
    go_wp2_with fail
    refine Calls.mono HO2.out ?_
    rintro e w3 ⟨rfl, rfl⟩
    go_wp2_with fail
    go_ret2
    exact ⟨T, rfl, HT.out, bt HB.out HB2.out⟩
  · rw [decide_eq_false h1] at HO
    have HR : Hid (rtext n xs ys = wtext n xs ++ 47 :: decDigits (val ys).toNat) := by show _ = _; unfold rtext; rw [if_neg h1]
    rw [HR.out]
    clear h1
    go_enter Tryz.func50, Tryz.ntmps50
    go_wp2_with fail
    refine Calls.mono HC.out ?_
    generalize (w.alloc (.cells #[.bool n, .slice a xs.length ca, .slice b ys.length cb] 27)) = X at *
    rintro e w1 ⟨rfl, hb1⟩
    obtain ⟨p0, p1, p2, _⟩ := res_box3 HN.out hb1
    have HW1 := hid (HW.out w1 hb1)
    have HB1 := hid hb1
    clear hb1 HC HW
    go_wp2_with fail
    refine Calls.mono HW1.out ?_
    rintro e w2 ⟨T, rfl, hT, hb2⟩
    have HT := hid hT
    have hTs : T.size ≤ 20482 := by
      have e1 : T.data.toList.length = T.size := Array.length_toList
      rw [← e1, hT]
      exact HL1.out
    have HB2 := hid (bt HB1.out hb2)
    have HO2 := hid (HO.out w2 HB2.out)
    have HD2 := hid (HD.out w2 HB2.out)
    clear hT hb2 HW1 HO HD p0 p1 p2
    obtain ⟨p0, p1, p2, _⟩ := res_box3 HN.out HB2.out
    go_wp2_with fail
    refine Calls.mono HO2.out ?_
    rintro e w3 ⟨rfl, rfl⟩
    go_wp2_with fail
    refine Calls.mono HD2.out ?_
    rintro e w4 ⟨rfl, hb4⟩
    have HBN := hid (bt HB.out (bt HB2.out hb4))
    have hg1 : ¬ (9223372036854775807 : Int) < (T.size : Int) + 1 := by omega
    have hg2 : ¬ (9223372036854775807 : Int) < (T.size : Int) + 1 + (D.size : Int) := by omega
    clear hb4 HD2
    go_wp2_with fail
    go_ret2
    refine ⟨_, rfl, ?_, HBN.out⟩
    rw [← HDL.out, ← HT.out]
    simp
end Go.Proofs.YtmgjkdijnjeljaaGreatDoor

/- Fractions as texts: what a text says, and that a fraction's own text says that fraction. -/
namespace Go.Proofs.YtmgjkdijnjeljaaGreatDoor
open Go.RowKit Go.Lib
set_option linter.unusedVariables false

/-- A text taken apart: its sign, the place of the bar, what stands ahead of it, what behind it. -/
def rneg (l : List UInt8) : Bool := decide (l[0]? = some 45)
def rbar (l : List UInt8) : Int := indexByte (wdig (rneg l) l) 47
def rup (l : List UInt8) : List UInt8 := if rbar l = -1 then wdig (rneg l) l else (wdig (rneg l) l).take (rbar l).toNat
def rdn (l : List UInt8) : List UInt8 := if rbar l = -1 then [] else (wdig (rneg l) l).drop ((rbar l).toNat + 1)
def rnu (l : List UInt8) : Int := numTo (rup l) (rup l).length
def rde (l : List UInt8) : Int := if rbar l = -1 then 1 else numTo (rdn l) (rdn l).length
/-- Is it a fraction's own text? -/
def rgood (l : List UInt8) : Prop := IsNum (rup l) ∧ (rbar l = -1 ∨ IsNum (rdn l) ∧ rde l ≠ 1) ∧ 0 < rde l ∧ (rneg l = false ∨ 0 < rnu l) ∧ gcdI (rnu l) (rde l) = 1
open Classical in
/-- Parse's error, of a text. -/
noncomputable def prErr (s : ByteArray) : Int := if 65536 < s.size then 3 else if rgood s.data.toList then 0 else 130
def rpq (l : List UInt8) : Rat := Rat.divInt (sg (rneg l) (rnu l)) (rde l)

theorem bar_none {d : List UInt8} (h : Dg d) : indexByte d 47 = -1 := by
  have g := indexByte_ge d 47
  by_cases c : indexByte d 47 = -1
  · exact c
  · obtain ⟨e, _⟩ := indexByte_some (l := d) (c := 47) (o := (indexByte d 47).toNat) (by omega)
    have t := h _ (List.mem_of_getElem? e)
    exact absurd t.1 (by decide)
theorem bar_at {d : List UInt8} (h : Dg d) (e : List UInt8) : indexByte (d ++ 47 :: e) 47 = d.length := by
  have g := indexByte_ge (d ++ 47 :: e) 47
  have hat : (d ++ 47 :: e)[d.length]? = some 47 := by simp
  by_cases c : indexByte (d ++ 47 :: e) 47 = -1
  · exact absurd hat (indexByte_none c _)
  · obtain ⟨e1, e2⟩ := indexByte_some (l := d ++ 47 :: e) (c := 47) (o := (indexByte (d ++ 47 :: e) 47).toNat) (by omega)
    have hk : indexByte (d ++ 47 :: e) 47 = ((indexByte (d ++ 47 :: e) 47).toNat : Int) := by omega
    generalize (indexByte (d ++ 47 :: e) 47).toNat = K at e1 e2 hk
    have k1 : ¬ K < d.length := fun hk => by
      rw [List.getElem?_append_left hk] at e1
      have t := h _ (List.mem_of_getElem? e1)
      exact absurd t.1 (by decide)
    have k2 : ¬ d.length < K := fun hk => e2 _ hk hat
    omega
theorem bar_parts {l : List UInt8} (h : indexByte l 47 ≠ -1) : l = l.take (indexByte l 47).toNat ++ 47 :: l.drop ((indexByte l 47).toNat + 1) ∧ (indexByte l 47).toNat < l.length := by
  have g := indexByte_ge l 47
  obtain ⟨e1, _⟩ := indexByte_some (l := l) (c := 47) (o := (indexByte l 47).toNat) (by omega)
  generalize (indexByte l 47).toNat = K at e1 ⊢
  obtain ⟨hk, e2⟩ := List.getElem?_eq_some_iff.1 e1
  refine ⟨?_, hk⟩
  have e3 := List.drop_eq_getElem_cons hk
  rw [e2] at e3
  rw [← e3, List.take_append_drop]
theorem rtext_eq (n : Bool) (xs ys : List Int) : rtext n xs ys = (if n then [45] else []) ++ (decDigits (val xs).toNat ++ if ys = [1] then [] else 47 :: decDigits (val ys).toNat) := by
  unfold rtext wtext
  by_cases c : ys = [1]
  · rw [if_pos c, if_pos c]; simp
  · rw [if_neg c, if_neg c]; simp
theorem rneg_text (n : Bool) (xs ys : List Int) : rneg (rtext n xs ys) = n := by
  obtain ⟨d1, _, _⟩ := isNum_dec (val xs).toNat
  rw [rtext_eq]
  unfold rneg
  cases n with
  | true => simp
  | false =>
    apply decide_eq_false
    intro e
    simp only [Bool.false_eq_true, if_false, List.nil_append] at e
    rw [List.getElem?_append_left d1.1] at e
    have t := d1.2.2 _ (List.mem_of_getElem? e)
    exact absurd t.1 (by decide)
theorem wdig_text (n : Bool) (xs ys : List Int) : wdig (rneg (rtext n xs ys)) (rtext n xs ys) = decDigits (val xs).toNat ++ if ys = [1] then [] else 47 :: decDigits (val ys).toNat := by
  rw [rneg_text, rtext_eq]
  cases n <;> simp [wdig]
/-- What a fraction's text says. -/
theorem text_says (n : Bool) {xs ys : List Int} (wx : Wd xs) (wy : Wd ys) : IsNum (rup (rtext n xs ys)) ∧ (rbar (rtext n xs ys) = -1 ∨ IsNum (rdn (rtext n xs ys)) ∧ ys ≠ [1]) ∧ rnu (rtext n xs ys) = val xs ∧ rde (rtext n xs ys) = val ys := by
  obtain ⟨d1, d2, _⟩ := isNum_dec (val xs).toNat
  obtain ⟨f1, f2, _⟩ := isNum_dec (val ys).toNat
  have v0 := val_nonneg wx
  have u0 := val_nonneg wy
  have e := wdig_text n xs ys
  by_cases c : ys = [1]
  · rw [if_pos c, List.append_nil] at e
    have hb : rbar (rtext n xs ys) = -1 := by unfold rbar; rw [e]; exact bar_none d1.2.2
    have hu : rup (rtext n xs ys) = decDigits (val xs).toNat := by unfold rup; rw [if_pos hb, e]
    refine ⟨by rw [hu]; exact d1, .inl hb, ?_, ?_⟩
    · unfold rnu; rw [hu, d2]; omega
    · unfold rde; rw [if_pos hb, c]; simp [val, valTo]
  · rw [if_neg c] at e
    have hb : rbar (rtext n xs ys) = ((decDigits (val xs).toNat).length : Int) := by unfold rbar; rw [e]; exact bar_at d1.2.2 _
    have hn : ¬ rbar (rtext n xs ys) = -1 := by omega
    have ht : (rbar (rtext n xs ys)).toNat = (decDigits (val xs).toNat).length := by omega
    have hu : rup (rtext n xs ys) = decDigits (val xs).toNat := by unfold rup; rw [if_neg hn, e, ht]; simp
    have hd : rdn (rtext n xs ys) = decDigits (val ys).toNat := by unfold rdn; rw [if_neg hn, e, ht]; simp
    refine ⟨by rw [hu]; exact d1, .inr ⟨by rw [hd]; exact f1, c⟩, ?_, ?_⟩
    · unfold rnu; rw [hu, d2]; omega
    · unfold rde; rw [if_neg hn, hd, f2]; omega
theorem rpq_text (n : Bool) {xs ys : List Int} (wx : Wd xs) (wy : Wd ys) : rpq (rtext n xs ys) = rq n xs ys := by
  obtain ⟨_, _, e1, e2⟩ := text_says n wx wy
  unfold rpq rq
  rw [rneg_text, e1, e2]
  rfl
theorem rgood_text {n : Bool} {xs ys : List Int} (wx : Wd xs) (wy : Wd ys) (h : rform n xs ys) : rgood (rtext n xs ys) := by
  obtain ⟨hb, h0, hs, hg⟩ := h
  obtain ⟨h1, h2⟩ := both_ok hb
  obtain ⟨_, tx⟩ := chk_ok h1
  obtain ⟨_, ty⟩ := chk_ok h2
  obtain ⟨a1, a2, a3, a4⟩ := text_says n wx wy
  refine ⟨a1, ?_, by rw [a4]; exact val_pos' wy ty h0, ?_, by rw [a3, a4]; exact hg⟩
  · rcases a2 with a2 | ⟨a2, a5⟩
    · exact .inl a2
    · exact .inr ⟨a2, by rw [a4]; exact fun e => a5 ((one_iff wy ty).2 e)⟩
  · rcases hs with hs | hs
    · left; rw [rneg_text]; exact hs
    · right; rw [a3]; exact val_pos' wx tx hs
theorem wdig_back (l : List UInt8) : (if rneg l then [45] else []) ++ wdig (rneg l) l = l := by
  cases l with
  | nil => rfl
  | cons c l =>
    by_cases h : c = 45
    · subst h; simp [rneg, wdig]
    · have e : rneg (c :: l) = false := decide_eq_false (by simp [h])
      rw [e]; simp [wdig]
/-- A text that is a fraction's own is the text of what it says. -/
theorem says_text {l : List UInt8} (h : rgood l) {xs ys : List Int} (wy : Wd ys) (ty : Trimmed ys) (hx : val xs = rnu l) (hy : val ys = rde l) : rtext (rneg l) xs ys = l := by
  obtain ⟨h1, h2, _, _, _⟩ := h
  have d1 : decDigits (val xs).toNat = rup l := by
    rw [hx]
    unfold rnu
    exact dec_num ((rup l).length - 1) _ (by have := h1.1; omega) h1
  rw [rtext_eq, d1]
  conv => rhs; rw [← wdig_back l]
  congr 1
  rcases h2 with h2 | ⟨h2, h3⟩
  · have e1 : rde l = 1 := by unfold rde; rw [if_pos h2]
    rw [if_pos ((one_iff wy ty).2 (hy.trans e1))]
    unfold rup
    rw [if_pos h2]; simp
  · by_cases hb : rbar l = -1
    · exact absurd (show rde l = 1 by unfold rde; rw [if_pos hb]) h3
    · rw [if_neg (fun e => h3 (hy ▸ (one_iff wy ty).1 e))]
      have d2 : decDigits (val ys).toNat = rdn l := by
        rw [hy]
        unfold rde
        rw [if_neg hb]
        exact dec_num ((rdn l).length - 1) _ (by have := h2.1; omega) h2
      rw [d2]
      unfold rup rdn
      rw [if_neg hb, if_neg hb]
      exact (bar_parts (l := wdig (rneg l) l) hb).1.symm
theorem ten8 (k : Nat) : (10 : Int) ^ (8 * k) ≤ 4294967296 ^ k := by
  induction k with
  | zero => simp
  | succ k ih =>
    rw [show 8 * (k + 1) = 8 * k + 8 by omega, Int.pow_add, pw_succ]
    have e : (10 : Int) ^ 8 = 100000000 := by decide
    have p : (0 : Int) < 10 ^ (8 * k) := Int.pow_pos (by decide)
    rw [e]
    omega
theorem ten_mono {a b : Nat} (h : a ≤ b) : (10 : Int) ^ a ≤ 10 ^ b := by
  obtain ⟨c, rfl⟩ := Nat.le.dest h
  rw [Int.pow_add]
  have p : (0 : Int) < 10 ^ a := Int.pow_pos (by decide)
  have q : (0 : Int) < 10 ^ c := Int.pow_pos (by decide)
  have := Int.mul_le_mul_of_nonneg_left (show (1 : Int) ≤ 10 ^ c by omega) (Int.le_of_lt p)
  omega
/-- At most 65,536 digits go into 8,192 words. -/
theorem num_wide {l : List UInt8} (hd : Dg l) (hl : l.length ≤ 65536) : numTo l l.length < wide := by
  have h1 := (numTo_bounds hd l.length).2
  have h2 : (10 : Int) ^ l.length ≤ 10 ^ (8 * 8192) := ten_mono (by omega)
  have h3 := ten8 8192
  have e : wide = 4294967296 ^ 8192 := rfl
  rw [e]
  exact Int.lt_of_lt_of_le h1 (Int.le_trans h2 h3)
theorem RTells.self {n : Bool} {xs ys : List Int} (wx : Wd xs) (wy : Wd ys) (h : rchk n xs ys = 0) : RTells 0 (rq n xs ys) n xs ys 0 := by
  obtain ⟨lx, ly, tx, ty, y0, s0, g⟩ := rchk_ok h
  have hd := val_pos' wy ty y0
  obtain ⟨m, us, vs, c, e1, e2, e3, r⟩ := rtells_of (n := n) wx tx wy ty hd g
  have e4 := e1 none 0 none 0
  unfold rtoldV at e4
  rw [if_neg (by omega)] at e4
  have hc : c = 0 := by
    simp at e4
    exact e4.2.symm
  subst hc
  have hm : (n && decide (0 < xs.length)) = n := by
    rcases s0 with rfl | s0
    · rfl
    · rw [decide_eq_true s0, Bool.and_true]
  rw [hm] at e4
  have hn : n = m := by simp at e4; exact e4
  subst hn
  rw [if_pos rfl] at e2 e3
  subst e2 e3
  exact r
end Go.Proofs.YtmgjkdijnjeljaaGreatDoor

/- strings.Cut by a bar. -/
namespace Go.Proofs.YtmgjkdijnjeljaaGreatDoor
open Go.RowKit Go.Lib
set_option linter.unusedVariables false

set_option maxHeartbeats 3200000 in
set_option maxRecDepth 100000 in
theorem index_bar (s : ByteArray) (w : World) :
    Calls Tryz.prog 55 #[.string s, .string ⟨#[47]⟩] w fun e w' => e = .returned (.int .i64 (indexByte s.data.toList 47)) ∧ w = w' := by
  have HH := hid (Tryz.stringslite_IndexByte s 47 w)
  by_cases c : s.data.toList = [47]
  · have hc : (([47] : List UInt8) == s.toList) = true := by rw [toList_data, c]; rfl
    have hi : Hid (indexByte s.data.toList 47 = 0) := by show _ = _; rw [c]; rfl
    rw [hi.out]
    clear HH c
    go_enter Tryz.func55, Tryz.ntmps55
    go_wp2_with fail
    go_ret
    exact ⟨rfl, rfl⟩
  · have hc : (([47] : List UInt8) == s.toList) = false := by rw [toList_data]; exact beq_eq_false_iff_ne.2 (fun e => c e.symm)
    clear c
    go_enter Tryz.func55, Tryz.ntmps55
    go_wp2_with fail
    refine Calls.mono HH.out ?_
    rintro e w' ⟨rfl, rfl⟩
    go_wp2_with fail
    go_ret
    exact ⟨rfl, rfl⟩
set_option maxHeartbeats 3200000 in
set_option maxRecDepth 100000 in
theorem cutl_no (s : ByteArray) (w : World) (h : indexByte s.data.toList 47 = -1) :
    Calls Tryz.prog 36 #[.string s, .string ⟨#[47]⟩] w fun e w' => e = .returned (.tuple #[.string s, .string ⟨#[]⟩, .bool false]) ∧ w = w' := by
  have HH := hid (index_bar s w)
  rw [h] at HH
  clear h
  go_enter Tryz.func36, Tryz.ntmps36
  go_wp2_with fail
  refine Calls.mono HH.out ?_
  rintro e w' ⟨rfl, rfl⟩
  go_wp2_with fail
  go_ret3
  exact ⟨rfl, rfl⟩
set_option maxHeartbeats 3200000 in
set_option maxRecDepth 100000 in
theorem cutl_yes (s : ByteArray) (w : World) (i : Nat) (h : indexByte s.data.toList 47 = (i : Int)) (hi : i + 1 ≤ s.size) (hs : s.size ≤ 65536) :
    Calls Tryz.prog 36 #[.string s, .string ⟨#[47]⟩] w fun e w' => e = .returned (.tuple #[.string (s.extract 0 i), .string (s.extract (i + 1) s.size), .bool true]) ∧ Below w.heap.size w w' := by
  have HH := hid (index_bar s w)
  rw [h] at HH
  clear h
  have c1 : (0 : Int) ≤ ↑i := by omega
  have c2 : (↑i : Int) ≤ ↑s.size := by omega
  have c3 : (0 : Int) ≤ ↑i + 1 := by omega
  have c4 : (↑i + 1 : Int) ≤ ↑s.size := by omega
  have cw : IntKind.i64.wrap ((i : Int) + 1) = (i : Int) + 1 := by rw [IntKind.wrap_i64]; omega
  go_enter Tryz.func36, Tryz.ntmps36
  go_wp2_with fail
  refine Calls.mono HH.out ?_
  rintro e w' ⟨rfl, rfl⟩
  go_wp2_with fail
  go_region
  go_wp2_with fail
  go_ret3
  exact ⟨rfl, (Below.refl _ _).drew⟩
set_option maxHeartbeats 1600000 in
set_option maxRecDepth 100000 in
theorem cut_no (s : ByteArray) (w : World) (h : indexByte s.data.toList 47 = -1) :
    Calls Tryz.prog 20 #[.string s, .string ⟨#[47]⟩] w fun e w' => e = .returned (.tuple #[.string s, .string ⟨#[]⟩, .bool false]) ∧ w = w' := by
  have HH := hid (cutl_no s w h)
  clear h
  go_enter Tryz.func20, Tryz.ntmps20
  go_wp2_with fail
  refine Calls.mono HH.out ?_
  rintro e w' ⟨rfl, rfl⟩
  go_wp2_with fail
  go_ret3
  exact ⟨rfl, rfl⟩
set_option maxHeartbeats 1600000 in
set_option maxRecDepth 100000 in
theorem cut_yes (s : ByteArray) (w : World) (i : Nat) (h : indexByte s.data.toList 47 = (i : Int)) (hi : i + 1 ≤ s.size) (hs : s.size ≤ 65536) :
    Calls Tryz.prog 20 #[.string s, .string ⟨#[47]⟩] w fun e w' => e = .returned (.tuple #[.string (s.extract 0 i), .string (s.extract (i + 1) s.size), .bool true]) ∧ Below w.heap.size w w' := by
  have HH := hid (cutl_yes s w i h hi hs)
  clear h
  go_enter Tryz.func20, Tryz.ntmps20
  go_wp2_with fail
  refine Calls.mono HH.out ?_
  rintro e w' ⟨rfl, hb⟩
  go_wp2_with fail
  go_ret3
  exact ⟨rfl, hb⟩

end Go.Proofs.YtmgjkdijnjeljaaGreatDoor

/- Fractions read from a text: ratio.read, for any text. -/
namespace Go.Proofs.YtmgjkdijnjeljaaGreatDoor
open Go.RowKit Go.Lib
set_option linter.unusedVariables false

/-- What read tells: a sign, two rows of the call's own, apart; in a fraction's one form just where the text is one's own. -/
def RRead (w : World) (l : List UInt8) (x : Ending) (w' : World) : Prop :=
  ∃ n v xs u ys, x = .returned (.agg #[.bool n, v, u]) ∧ w'.ownsRow w.heap.size 85 1 v xs.length (xs.map (Value.int .u32)) ∧ w'.ownsRow w.heap.size 85 1 u ys.length (ys.map (Value.int .u32)) ∧ Wd xs ∧ Wd ys ∧ xs.length ≤ 8192 ∧ ys.length ≤ 8192 ∧ (rform n xs ys ↔ rgood l) ∧ (rgood l → n = rneg l ∧ Trimmed xs ∧ Trimmed ys ∧ val xs = rnu l ∧ val ys = rde l) ∧ Below w.heap.size w w' ∧ Cut w v u w'
theorem rread_bad {w w' : World} {l : List UInt8} (h : ¬ rgood l) (hb : Below w.heap.size w w') : RRead w l (.returned (.agg #[.bool false, .slice none 0 0, .slice none 0 0])) w' :=
  ⟨false, _, [], _, [], rfl, World.ownsRow_nil _ _ _ _, World.ownsRow_nil _ _ _ _, Wd.nil, Wd.nil, by simp, by simp, ⟨fun e => absurd e.2.1 (by simp), fun e => absurd e h⟩, fun e => absurd e h, hb, w'.heap.size, hb.size, Nat.le_refl _, fun g hg => by simp [Value.ownBlock] at hg, fun g hg => by simp [Value.ownBlock] at hg⟩
theorem rform_good {n : Bool} {xs ys : List Int} (wx : Wd xs) (wy : Wd ys) (tx : Trimmed xs) (ty : Trimmed ys) (lx : xs.length ≤ 8192) (ly : ys.length ≤ 8192) {l : List UInt8} (hn : n = rneg l) (hx : val xs = rnu l) (hy : val ys = rde l) (h1 : IsNum (rup l)) (h2 : rbar l = -1 ∨ IsNum (rdn l) ∧ rde l ≠ 1) : rform n xs ys ↔ rgood l := by
  have hp : 0 < ys.length ↔ 0 < rde l := by
    rw [← hy]
    exact ⟨fun h => val_pos' wy ty h, fun h => by
      by_cases c : ys.length = 0
      · obtain rfl := List.length_eq_zero_iff.1 c
        simp [val, valTo] at h
      · omega⟩
  have hq : 0 < xs.length ↔ 0 < rnu l := by
    rw [← hx]
    exact ⟨fun h => val_pos' wx tx h, fun h => by
      by_cases c : xs.length = 0
      · obtain rfl := List.length_eq_zero_iff.1 c
        simp [val, valTo] at h
      · omega⟩
  unfold rform rgood
  rw [hp, hq, hn, hx, hy]
  exact ⟨fun e => ⟨h1, h2, e.2.1, e.2.2.1, e.2.2.2⟩, fun e => ⟨both_good (chk_good lx tx) (chk_good ly ty), e.2.2.1, e.2.2.2.1, e.2.2.2.2⟩⟩
theorem rread_put {w U W : World} {l : List UInt8} {n : Bool} {v u : Value} {xs ys : List Int} (hU : Below w.heap.size w U) (hlt : w.heap.size < U.heap.size) (hW : Below U.heap.size U W) (o1 : One U W v xs (rnu l)) (o2 : One U W u ys (rde l)) (hc : Cut U v u W) (lx : xs.length ≤ 8192) (ly : ys.length ≤ 8192) (hn : n = rneg l) (h1 : IsNum (rup l)) (h2 : rbar l = -1 ∨ IsNum (rdn l) ∧ rde l ≠ 1) (x y z : Value) :
    RRead w l (.returned (.agg #[.bool n, v, u])) (((W.setCell ⟨w.heap.size, 0, none⟩ x).setCell ⟨w.heap.size, 1, none⟩ y).setCell ⟨w.heap.size, 2, none⟩ z) :=
  ⟨n, v, xs, u, ys, rfl, owns_base (own_put3 o1.1 _ (fun g hg => by have := (World.ownsRow.lt o1.1 g hg).1; omega) _ _ _) (by omega), owns_base (own_put3 o2.1 _ (fun g hg => by have := (World.ownsRow.lt o2.1 g hg).1; omega) _ _ _) (by omega), o1.2.1, o2.2.1, lx, ly, rform_good o1.2.1 o2.2.1 o1.2.2.1 o2.2.2.1 lx ly hn o1.2.2.2 o2.2.2.2 h1 h2, fun _ => ⟨hn, o1.2.2.1, o2.2.2.1, o1.2.2.2, o2.2.2.2⟩, below_put3 (bt hU hW) _ (Nat.le_refl _) _ _ _, hc.up (by omega) (by simp)⟩
theorem parse_good (T : ByteArray) (w : World) (hs : T.size ≤ 65536) (l : List UInt8) (hl : T.data.toList = l) (h : IsNum l) :
    Calls Tryz.prog 76 #[.string T] w fun x w' => ∃ a zs c, x = .returned (.tuple #[.slice a (List.length zs) c, .int .i64 0]) ∧ Hid (One w w' (.slice a (List.length zs) c) zs (numTo l l.length) ∧ zs.length ≤ 8192) ∧ Below w.heap.size w w' := by
  have HP := parse_any T w (by unfold maxLen; omega)
  rw [pErr_ok T hs (by rw [hl]; exact h)] at HP
  have hw := num_wide h.2.2 (by rw [← hl, size_list]; exact hs)
  refine Calls.mono HP ?_
  rintro x w' ⟨v, zs, code, rfl, o, t, hb⟩
  obtain ⟨a, c, hv⟩ := own_slice' o
  subst hv
  have e : numTo T.data.toList T.size = numTo l l.length := by rw [← size_list, hl]
  rw [e] at t
  obtain ⟨rfl, hz⟩ := t.good rfl hw
  exact ⟨a, zs, c, rfl, ⟨⟨o, t.wd, t.trim, hz⟩, own_len (U := w) (V := w') ⟨o, t.wd, t.trim, hz⟩ hw⟩, hb⟩
theorem parse_bad (T : ByteArray) (w : World) (hs : T.size ≤ 65536) (l : List UInt8) (hl : T.data.toList = l) (h : ¬ IsNum l) :
    Calls Tryz.prog 76 #[.string T] w fun x w' => ∃ a c, x = .returned (.tuple #[.slice a 0 c, .int .i64 110]) ∧ Below w.heap.size w w' := by
  have HP := parse_any T w (by unfold maxLen; omega)
  rw [pErr_not T hs (by rw [hl]; exact h)] at HP
  refine Calls.mono HP ?_
  rintro x w' ⟨v, zs, code, rfl, o, t, hb⟩
  obtain ⟨a, c, hv⟩ := own_slice' o
  subst hv
  obtain ⟨rfl, rfl⟩ := t.bad (by decide)
  exact ⟨a, c, rfl, hb⟩
theorem of_one (w : World) : Calls Tryz.prog 49 #[.int .u64 1] w fun x w' => ∃ a c, x = .returned (.slice a 1 c) ∧ Hid (One w w' (.slice a 1 c) [1] 1) ∧ Below w.heap.size w w' := by
  refine Calls.mono (of_any 1 w (by decide) (by decide)) ?_
  rintro x w' ⟨v, rfl, o, hb⟩
  have e1 : sz [(1 : Int) % 4294967296, 1 / 4294967296] = 1 := by decide
  have e2 : trimmed [(1 : Int) % 4294967296, 1 / 4294967296] = [1] := by decide
  rw [e1, e2] at o
  obtain ⟨a, c, hv⟩ := own_slice' o
  subst hv
  exact ⟨a, c, rfl, ⟨o, Wd.one (by omega), rfl, by simp [val, valTo]⟩, hb⟩

set_option maxHeartbeats 6400000 in
set_option maxRecDepth 100000 in
theorem read_A1 (s : ByteArray) (w : World) (hs : s.size ≤ 65536) (hB : rbar s.data.toList = -1) (hU : ¬ IsNum (rup s.data.toList)) :
    Calls Tryz.prog 57 #[.string s] w (RRead w s.data.toList) := by
  have HB := hid (alloc_later w (.cells #[.bool false, .slice none 0 0, .slice none 0 0] 27))
  have HZ := hid (Box.made w 27 #[.bool false, .slice none 0 0, .slice none 0 0])
  have HLT : Hid (w.heap.size < (w.alloc (.cells #[.bool false, .slice none 0 0, .slice none 0 0] 27)).heap.size) := by show _ < _; simp
  have HCP := hid (cutPrefix_minus s (w.alloc (.cells #[.bool false, .slice none 0 0, .slice none 0 0] 27)) hs)
  have hss := size_list s
  rw [show decide (s.data.toList[0]? = some 45) = rneg s.data.toList from rfl] at HCP
  have HBR := hid hB
  have HU := hid hU
  have HBAD : Hid (¬ rgood s.data.toList) := fun h => hU h.1
  clear hB hU
  go_enter Tryz.func57, Tryz.ntmps57
  go_wp2_with fail
  refine Calls.mono HCP.out ?_
  rintro e w' ⟨T, b, rfl, hbb, hTw, rfl⟩
  have hTs : T.size ≤ 65536 := by
    rw [← size_list, hTw]
    split
    · rw [List.length_drop]; omega
    · omega
  have hTb : indexByte T.data.toList 47 = rbar s.data.toList := by rw [hTw, hbb]; rfl
  have hTw' : T.data.toList = wdig (rneg s.data.toList) s.data.toList := by rw [hTw, hbb]; rfl
  clear hTw HCP
  have HC := hid (cut_no T (w.alloc (.cells #[.bool false, .slice none 0 0, .slice none 0 0] 27)) (by rw [hTb]; exact HBR.out))
  have HA : Hid (T.data.toList = rup s.data.toList) := by show _ = _; rw [hTw']; unfold rup; rw [if_pos HBR.out]
  clear hTb hTw'
  go_wp2_with fail
  refine Calls.mono HC.out ?_
  rintro e w1 ⟨rfl, rfl⟩
  clear HC
  have HH := hid (parse_bad T (w.alloc (.cells #[.bool false, .slice none 0 0, .slice none 0 0] 27)) hTs _ HA.out HU.out)
  go_wp2_with fail
  refine Calls.mono HH.out ?_
  rintro e w2 ⟨a2, c2, rfl, hb2⟩
  clear HH
  obtain ⟨r0, r1, r2, f0, f1, f2⟩ := res_box3 HZ.out hb2
  have HBA := hid (bt HB.out hb2)
  go_wp2_with fail
  refine bodyPost_ret (v := .agg #[.bool false, .slice none 0 0, .slice none 0 0]) (by simp [results, Tryz.results57, go_sem, r0, r1, r2]) rfl ?_
  exact rread_bad HBAD.out (below_put3 HBA.out _ (Nat.le_refl _) _ _ _)

set_option maxHeartbeats 6400000 in
set_option maxRecDepth 100000 in
theorem read_A2 (s : ByteArray) (w : World) (hs : s.size ≤ 65536) (hB : ¬ rbar s.data.toList = -1) (hU : ¬ IsNum (rup s.data.toList)) :
    Calls Tryz.prog 57 #[.string s] w (RRead w s.data.toList) := by
  have HB := hid (alloc_later w (.cells #[.bool false, .slice none 0 0, .slice none 0 0] 27))
  have HZ := hid (Box.made w 27 #[.bool false, .slice none 0 0, .slice none 0 0])
  have HLT : Hid (w.heap.size < (w.alloc (.cells #[.bool false, .slice none 0 0, .slice none 0 0] 27)).heap.size) := by show _ < _; simp
  have HCP := hid (cutPrefix_minus s (w.alloc (.cells #[.bool false, .slice none 0 0, .slice none 0 0] 27)) hs)
  have hss := size_list s
  rw [show decide (s.data.toList[0]? = some 45) = rneg s.data.toList from rfl] at HCP
  have HBR := hid hB
  have HU := hid hU
  have HBAD : Hid (¬ rgood s.data.toList) := fun h => hU h.1
  clear hB hU
  go_enter Tryz.func57, Tryz.ntmps57
  go_wp2_with fail
  refine Calls.mono HCP.out ?_
  rintro e w' ⟨T, b, rfl, hbb, hTw, rfl⟩
  have hTs : T.size ≤ 65536 := by
    rw [← size_list, hTw]
    split
    · rw [List.length_drop]; omega
    · omega
  have hTb : indexByte T.data.toList 47 = rbar s.data.toList := by rw [hTw, hbb]; rfl
  have hTw' : T.data.toList = wdig (rneg s.data.toList) s.data.toList := by rw [hTw, hbb]; rfl
  clear hTw HCP
  obtain ⟨i, hi⟩ : ∃ i : Nat, rbar s.data.toList = (i : Int) := ⟨(rbar s.data.toList).toNat, by have := indexByte_ge (wdig (rneg s.data.toList) s.data.toList) 47; have h := HBR.out; have e : rbar s.data.toList = indexByte (wdig (rneg s.data.toList) s.data.toList) 47 := rfl; omega⟩
  have hil : i + 1 ≤ T.size := by
    have h := (bar_parts (l := T.data.toList) (by rw [hTb]; exact HBR.out)).2
    rw [hTb, size_list] at h
    omega
  have HC := hid (cut_yes T (w.alloc (.cells #[.bool false, .slice none 0 0, .slice none 0 0] 27)) i (by rw [hTb]; exact hi) hil hTs)
  have HA : Hid ((T.extract 0 i).data.toList = rup s.data.toList) := by show _ = _; rw [extract_list, hTw']; unfold rup; rw [if_neg HBR.out, hi]; simp
  have HD : Hid ((T.extract (i + 1) T.size).data.toList = rdn s.data.toList) := by
    show _ = _
    rw [extract_list, List.take_of_length_le (by rw [List.length_drop, size_list]; omega), hTw']
    unfold rdn
    rw [if_neg HBR.out, hi]; simp
  have hAs : (T.extract 0 i).size ≤ 65536 := by rw [← size_list, extract_list, List.length_take, List.length_drop, size_list]; omega
  have hDs : (T.extract (i + 1) T.size).size ≤ 65536 := by rw [← size_list, extract_list, List.length_take, List.length_drop, size_list]; omega
  generalize T.extract 0 i = A at *
  generalize T.extract (i + 1) T.size = D at *
  clear hTw' hTb hi hil hTs
  go_wp2_with fail
  refine Calls.mono HC.out ?_
  rintro e w1 ⟨rfl, hb1⟩
  clear HC
  have HH := hid (parse_bad A w1 hAs _ HA.out HU.out)
  go_wp2_with fail
  refine Calls.mono HH.out ?_
  rintro e w2 ⟨a2, c2, rfl, hb2⟩
  clear HH
  obtain ⟨r0, r1, r2, f0, f1, f2⟩ := res_box3 HZ.out (bt hb1 hb2)
  have HBA := hid (bt HB.out (bt hb1 hb2))
  go_wp2_with fail
  refine bodyPost_ret (v := .agg #[.bool false, .slice none 0 0, .slice none 0 0]) (by simp [results, Tryz.results57, go_sem, r0, r1, r2]) rfl ?_
  exact rread_bad HBAD.out (below_put3 HBA.out _ (Nat.le_refl _) _ _ _)

set_option maxHeartbeats 6400000 in
set_option maxRecDepth 100000 in
theorem read_B (s : ByteArray) (w : World) (hs : s.size ≤ 65536) (hB : rbar s.data.toList = -1) (hU : IsNum (rup s.data.toList)) :
    Calls Tryz.prog 57 #[.string s] w (RRead w s.data.toList) := by
  have HB := hid (alloc_later w (.cells #[.bool false, .slice none 0 0, .slice none 0 0] 27))
  have HZ := hid (Box.made w 27 #[.bool false, .slice none 0 0, .slice none 0 0])
  have HLT : Hid (w.heap.size < (w.alloc (.cells #[.bool false, .slice none 0 0, .slice none 0 0] 27)).heap.size) := by show _ < _; simp
  have HCP := hid (cutPrefix_minus s (w.alloc (.cells #[.bool false, .slice none 0 0, .slice none 0 0] 27)) hs)
  have hss := size_list s
  rw [show decide (s.data.toList[0]? = some 45) = rneg s.data.toList from rfl] at HCP
  have HBR := hid hB
  have HU := hid hU
  clear hB hU
  go_enter Tryz.func57, Tryz.ntmps57
  go_wp2_with fail
  refine Calls.mono HCP.out ?_
  rintro e w' ⟨T, b, rfl, hbb, hTw, rfl⟩
  have hTs : T.size ≤ 65536 := by
    rw [← size_list, hTw]
    split
    · rw [List.length_drop]; omega
    · omega
  have hTb : indexByte T.data.toList 47 = rbar s.data.toList := by rw [hTw, hbb]; rfl
  have hTw' : T.data.toList = wdig (rneg s.data.toList) s.data.toList := by rw [hTw, hbb]; rfl
  clear hTw HCP
  have HC := hid (cut_no T (w.alloc (.cells #[.bool false, .slice none 0 0, .slice none 0 0] 27)) (by rw [hTb]; exact HBR.out))
  have HA : Hid (T.data.toList = rup s.data.toList) := by show _ = _; rw [hTw']; unfold rup; rw [if_pos HBR.out]
  clear hTb hTw'
  go_wp2_with fail
  refine Calls.mono HC.out ?_
  rintro e w1 ⟨rfl, rfl⟩
  clear HC
  have HH := hid (parse_good T (w.alloc (.cells #[.bool false, .slice none 0 0, .slice none 0 0] 27)) hTs _ HA.out HU.out)
  go_wp2_with fail
  refine Calls.mono HH.out ?_
  rintro e w2 ⟨a2, z2, c2, rfl, H2, hb2⟩
  clear HH
  have HH := hid (of_one w2)
  go_wp2_with fail
  refine Calls.mono HH.out ?_
  rintro e w3 ⟨a3, c3, rfl, H3, hb3⟩
  clear HH
  have HW := hid (bt hb2 hb3)
  obtain ⟨r0, r1, r2, f0, f1, f2⟩ := res_box3 HZ.out HW.out
  have hz2 := hb2.size
  have hz3 := hb3.size
  have HO2 : Hid (One (w.alloc (.cells #[.bool false, .slice none 0 0, .slice none 0 0] 27)) w3 (.slice a2 z2.length c2) z2 (rnu s.data.toList)) := ⟨owns_later H2.out.1.1 hb3, H2.out.1.2⟩
  have HDE : Hid (rde s.data.toList = 1) := by show _ = _; unfold rde; rw [if_pos HBR.out]
  have HO3 : Hid (One (w.alloc (.cells #[.bool false, .slice none 0 0, .slice none 0 0] 27)) w3 (.slice a3 1 c3) [1] (rde s.data.toList)) := ⟨owns_base H3.out.1 (by omega), H3.out.2.1, H3.out.2.2.1, by rw [HDE.out]; exact H3.out.2.2.2⟩
  have HCUT : Hid (Cut (w.alloc (.cells #[.bool false, .slice none 0 0, .slice none 0 0] 27)) (.slice a2 z2.length c2) (.slice a3 1 c3) w3) := cut_two (Nat.le_refl _) hz2 hz3 (World.ownsRow.lt H2.out.1.1) (World.ownsRow.lt H3.out.1)
  have HLL := hid H2.out.2
  clear hb2 hb3 hz2 hz3 H2 H3
  subst hbb
  go_wp2_with fail
  refine bodyPost_ret (v := .agg #[.bool (rneg s.data.toList), .slice a2 z2.length c2, .slice a3 1 c3]) (by simp [results, Tryz.results57, go_sem, r0, r1, r2]) rfl ?_
  exact rread_put HB.out HLT.out HW.out HO2.out HO3.out HCUT.out HLL.out (by simp) rfl HU.out (.inl HBR.out) _ _ _

set_option maxHeartbeats 6400000 in
set_option maxRecDepth 100000 in
theorem read_C (s : ByteArray) (w : World) (hs : s.size ≤ 65536) (hB : ¬ rbar s.data.toList = -1) (hU : IsNum (rup s.data.toList)) (hV : ¬ IsNum (rdn s.data.toList)) :
    Calls Tryz.prog 57 #[.string s] w (RRead w s.data.toList) := by
  have HB := hid (alloc_later w (.cells #[.bool false, .slice none 0 0, .slice none 0 0] 27))
  have HZ := hid (Box.made w 27 #[.bool false, .slice none 0 0, .slice none 0 0])
  have HLT : Hid (w.heap.size < (w.alloc (.cells #[.bool false, .slice none 0 0, .slice none 0 0] 27)).heap.size) := by show _ < _; simp
  have HCP := hid (cutPrefix_minus s (w.alloc (.cells #[.bool false, .slice none 0 0, .slice none 0 0] 27)) hs)
  have hss := size_list s
  rw [show decide (s.data.toList[0]? = some 45) = rneg s.data.toList from rfl] at HCP
  have HBR := hid hB
  have HU := hid hU
  have HV := hid hV
  have HBAD : Hid (¬ rgood s.data.toList) := fun h => h.2.1.elim hB (fun e => hV e.1)
  clear hB hU hV
  go_enter Tryz.func57, Tryz.ntmps57
  go_wp2_with fail
  refine Calls.mono HCP.out ?_
  rintro e w' ⟨T, b, rfl, hbb, hTw, rfl⟩
  have hTs : T.size ≤ 65536 := by
    rw [← size_list, hTw]
    split
    · rw [List.length_drop]; omega
    · omega
  have hTb : indexByte T.data.toList 47 = rbar s.data.toList := by rw [hTw, hbb]; rfl
  have hTw' : T.data.toList = wdig (rneg s.data.toList) s.data.toList := by rw [hTw, hbb]; rfl
  clear hTw HCP
  obtain ⟨i, hi⟩ : ∃ i : Nat, rbar s.data.toList = (i : Int) := ⟨(rbar s.data.toList).toNat, by have := indexByte_ge (wdig (rneg s.data.toList) s.data.toList) 47; have h := HBR.out; have e : rbar s.data.toList = indexByte (wdig (rneg s.data.toList) s.data.toList) 47 := rfl; omega⟩
  have hil : i + 1 ≤ T.size := by
    have h := (bar_parts (l := T.data.toList) (by rw [hTb]; exact HBR.out)).2
    rw [hTb, size_list] at h
    omega
  have HC := hid (cut_yes T (w.alloc (.cells #[.bool false, .slice none 0 0, .slice none 0 0] 27)) i (by rw [hTb]; exact hi) hil hTs)
  have HA : Hid ((T.extract 0 i).data.toList = rup s.data.toList) := by show _ = _; rw [extract_list, hTw']; unfold rup; rw [if_neg HBR.out, hi]; simp
  have HD : Hid ((T.extract (i + 1) T.size).data.toList = rdn s.data.toList) := by
    show _ = _
    rw [extract_list, List.take_of_length_le (by rw [List.length_drop, size_list]; omega), hTw']
    unfold rdn
    rw [if_neg HBR.out, hi]; simp
  have hAs : (T.extract 0 i).size ≤ 65536 := by rw [← size_list, extract_list, List.length_take, List.length_drop, size_list]; omega
  have hDs : (T.extract (i + 1) T.size).size ≤ 65536 := by rw [← size_list, extract_list, List.length_take, List.length_drop, size_list]; omega
  generalize T.extract 0 i = A at *
  generalize T.extract (i + 1) T.size = D at *
  clear hTw' hTb hi hil hTs
  go_wp2_with fail
  refine Calls.mono HC.out ?_
  rintro e w1 ⟨rfl, hb1⟩
  clear HC
  have HH := hid (parse_good A w1 hAs _ HA.out HU.out)
  go_wp2_with fail
  refine Calls.mono HH.out ?_
  rintro e w2 ⟨a2, z2, c2, rfl, H2, hb2⟩
  clear HH
  have HH := hid (parse_bad D w2 hDs _ HD.out HV.out)
  go_wp2_with fail
  refine Calls.mono HH.out ?_
  rintro e w3 ⟨a3, c3, rfl, hb3⟩
  clear HH
  obtain ⟨r0, r1, r2, f0, f1, f2⟩ := res_box3 HZ.out (bt hb1 (bt hb2 hb3))
  have HBA := hid (bt HB.out (bt hb1 (bt hb2 hb3)))
  go_wp2_with fail
  refine bodyPost_ret (v := .agg #[.bool false, .slice none 0 0, .slice none 0 0]) (by simp [results, Tryz.results57, go_sem, r0, r1, r2]) rfl ?_
  exact rread_bad HBAD.out (below_put3 HBA.out _ (Nat.le_refl _) _ _ _)

set_option maxHeartbeats 6400000 in
set_option maxRecDepth 100000 in
theorem read_D (s : ByteArray) (w : World) (hs : s.size ≤ 65536) (hB : ¬ rbar s.data.toList = -1) (hU : IsNum (rup s.data.toList)) (hV : IsNum (rdn s.data.toList)) (hO : rde s.data.toList = 1) :
    Calls Tryz.prog 57 #[.string s] w (RRead w s.data.toList) := by
  have HB := hid (alloc_later w (.cells #[.bool false, .slice none 0 0, .slice none 0 0] 27))
  have HZ := hid (Box.made w 27 #[.bool false, .slice none 0 0, .slice none 0 0])
  have HLT : Hid (w.heap.size < (w.alloc (.cells #[.bool false, .slice none 0 0, .slice none 0 0] 27)).heap.size) := by show _ < _; simp
  have HCP := hid (cutPrefix_minus s (w.alloc (.cells #[.bool false, .slice none 0 0, .slice none 0 0] 27)) hs)
  have hss := size_list s
  rw [show decide (s.data.toList[0]? = some 45) = rneg s.data.toList from rfl] at HCP
  have HBR := hid hB
  have HU := hid hU
  have HV := hid hV
  have HBAD : Hid (¬ rgood s.data.toList) := fun h => h.2.1.elim hB (fun e => e.2 hO)
  have hde : rde s.data.toList = numTo (rdn s.data.toList) (rdn s.data.toList).length := by unfold rde; rw [if_neg hB]
  have hval : ∀ z : List Int, Wd z → Trimmed z → val z = numTo (rdn s.data.toList) (rdn s.data.toList).length → decide (z = [1]) = true := fun z w t v => decide_eq_true ((one_iff w t).2 (by rw [v, ← hde]; exact hO))
  clear hB hU hV hO hde
  go_enter Tryz.func57, Tryz.ntmps57
  go_wp2_with fail
  refine Calls.mono HCP.out ?_
  rintro e w' ⟨T, b, rfl, hbb, hTw, rfl⟩
  have hTs : T.size ≤ 65536 := by
    rw [← size_list, hTw]
    split
    · rw [List.length_drop]; omega
    · omega
  have hTb : indexByte T.data.toList 47 = rbar s.data.toList := by rw [hTw, hbb]; rfl
  have hTw' : T.data.toList = wdig (rneg s.data.toList) s.data.toList := by rw [hTw, hbb]; rfl
  clear hTw HCP
  obtain ⟨i, hi⟩ : ∃ i : Nat, rbar s.data.toList = (i : Int) := ⟨(rbar s.data.toList).toNat, by have := indexByte_ge (wdig (rneg s.data.toList) s.data.toList) 47; have h := HBR.out; have e : rbar s.data.toList = indexByte (wdig (rneg s.data.toList) s.data.toList) 47 := rfl; omega⟩
  have hil : i + 1 ≤ T.size := by
    have h := (bar_parts (l := T.data.toList) (by rw [hTb]; exact HBR.out)).2
    rw [hTb, size_list] at h
    omega
  have HC := hid (cut_yes T (w.alloc (.cells #[.bool false, .slice none 0 0, .slice none 0 0] 27)) i (by rw [hTb]; exact hi) hil hTs)
  have HA : Hid ((T.extract 0 i).data.toList = rup s.data.toList) := by show _ = _; rw [extract_list, hTw']; unfold rup; rw [if_neg HBR.out, hi]; simp
  have HD : Hid ((T.extract (i + 1) T.size).data.toList = rdn s.data.toList) := by
    show _ = _
    rw [extract_list, List.take_of_length_le (by rw [List.length_drop, size_list]; omega), hTw']
    unfold rdn
    rw [if_neg HBR.out, hi]; simp
  have hAs : (T.extract 0 i).size ≤ 65536 := by rw [← size_list, extract_list, List.length_take, List.length_drop, size_list]; omega
  have hDs : (T.extract (i + 1) T.size).size ≤ 65536 := by rw [← size_list, extract_list, List.length_take, List.length_drop, size_list]; omega
  generalize T.extract 0 i = A at *
  generalize T.extract (i + 1) T.size = D at *
  clear hTw' hTb hi hil hTs
  go_wp2_with fail
  refine Calls.mono HC.out ?_
  rintro e w1 ⟨rfl, hb1⟩
  clear HC
  have HH := hid (parse_good A w1 hAs _ HA.out HU.out)
  go_wp2_with fail
  refine Calls.mono HH.out ?_
  rintro e w2 ⟨a2, z2, c2, rfl, H2, hb2⟩
  clear HH
  have HH := hid (parse_good D w2 hDs _ HD.out HV.out)
  go_wp2_with fail
  refine Calls.mono HH.out ?_
  rintro e w3 ⟨a3, z3, c3, rfl, H3, hb3⟩
  clear HH
  have HI := isOne_any _ z3 w3 (Sl.own H3.out.1.1 H3.out.1.2.1)
  rw [hval z3 H3.out.1.2.1 H3.out.1.2.2.1 H3.out.1.2.2.2] at HI
  clear hval
  have HH := hid (HI)
  go_wp2_with fail
  refine Calls.mono HH.out ?_
  rintro e w4 ⟨rfl, rfl⟩
  clear HH
  obtain ⟨r0, r1, r2, f0, f1, f2⟩ := res_box3 HZ.out (bt hb1 (bt hb2 hb3))
  have HBA := hid (bt HB.out (bt hb1 (bt hb2 hb3)))
  go_wp2_with fail
  refine bodyPost_ret (v := .agg #[.bool false, .slice none 0 0, .slice none 0 0]) (by simp [results, Tryz.results57, go_sem, r0, r1, r2]) rfl ?_
  exact rread_bad HBAD.out (below_put3 HBA.out _ (Nat.le_refl _) _ _ _)

set_option maxHeartbeats 6400000 in
set_option maxRecDepth 100000 in
theorem read_E (s : ByteArray) (w : World) (hs : s.size ≤ 65536) (hB : ¬ rbar s.data.toList = -1) (hU : IsNum (rup s.data.toList)) (hV : IsNum (rdn s.data.toList)) (hO : ¬ rde s.data.toList = 1) :
    Calls Tryz.prog 57 #[.string s] w (RRead w s.data.toList) := by
  have HB := hid (alloc_later w (.cells #[.bool false, .slice none 0 0, .slice none 0 0] 27))
  have HZ := hid (Box.made w 27 #[.bool false, .slice none 0 0, .slice none 0 0])
  have HLT : Hid (w.heap.size < (w.alloc (.cells #[.bool false, .slice none 0 0, .slice none 0 0] 27)).heap.size) := by show _ < _; simp
  have HCP := hid (cutPrefix_minus s (w.alloc (.cells #[.bool false, .slice none 0 0, .slice none 0 0] 27)) hs)
  have hss := size_list s
  rw [show decide (s.data.toList[0]? = some 45) = rneg s.data.toList from rfl] at HCP
  have HBR := hid hB
  have HU := hid hU
  have HV := hid hV
  have HO := hid hO
  have hde : rde s.data.toList = numTo (rdn s.data.toList) (rdn s.data.toList).length := by unfold rde; rw [if_neg hB]
  have hval : ∀ z : List Int, Wd z → Trimmed z → val z = numTo (rdn s.data.toList) (rdn s.data.toList).length → decide (z = [1]) = false := fun z w t v => decide_eq_false (fun e => hO (by rw [hde, ← v]; exact (one_iff w t).1 e))
  have HDE := hid hde
  clear hB hU hV hO hde
  go_enter Tryz.func57, Tryz.ntmps57
  go_wp2_with fail
  refine Calls.mono HCP.out ?_
  rintro e w' ⟨T, b, rfl, hbb, hTw, rfl⟩
  have hTs : T.size ≤ 65536 := by
    rw [← size_list, hTw]
    split
    · rw [List.length_drop]; omega
    · omega
  have hTb : indexByte T.data.toList 47 = rbar s.data.toList := by rw [hTw, hbb]; rfl
  have hTw' : T.data.toList = wdig (rneg s.data.toList) s.data.toList := by rw [hTw, hbb]; rfl
  clear hTw HCP
  obtain ⟨i, hi⟩ : ∃ i : Nat, rbar s.data.toList = (i : Int) := ⟨(rbar s.data.toList).toNat, by have := indexByte_ge (wdig (rneg s.data.toList) s.data.toList) 47; have h := HBR.out; have e : rbar s.data.toList = indexByte (wdig (rneg s.data.toList) s.data.toList) 47 := rfl; omega⟩
  have hil : i + 1 ≤ T.size := by
    have h := (bar_parts (l := T.data.toList) (by rw [hTb]; exact HBR.out)).2
    rw [hTb, size_list] at h
    omega
  have HC := hid (cut_yes T (w.alloc (.cells #[.bool false, .slice none 0 0, .slice none 0 0] 27)) i (by rw [hTb]; exact hi) hil hTs)
  have HA : Hid ((T.extract 0 i).data.toList = rup s.data.toList) := by show _ = _; rw [extract_list, hTw']; unfold rup; rw [if_neg HBR.out, hi]; simp
  have HD : Hid ((T.extract (i + 1) T.size).data.toList = rdn s.data.toList) := by
    show _ = _
    rw [extract_list, List.take_of_length_le (by rw [List.length_drop, size_list]; omega), hTw']
    unfold rdn
    rw [if_neg HBR.out, hi]; simp
  have hAs : (T.extract 0 i).size ≤ 65536 := by rw [← size_list, extract_list, List.length_take, List.length_drop, size_list]; omega
  have hDs : (T.extract (i + 1) T.size).size ≤ 65536 := by rw [← size_list, extract_list, List.length_take, List.length_drop, size_list]; omega
  generalize T.extract 0 i = A at *
  generalize T.extract (i + 1) T.size = D at *
  clear hTw' hTb hi hil hTs
  go_wp2_with fail
  refine Calls.mono HC.out ?_
  rintro e w1 ⟨rfl, hb1⟩
  clear HC
  have HH := hid (parse_good A w1 hAs _ HA.out HU.out)
  go_wp2_with fail
  refine Calls.mono HH.out ?_
  rintro e w2 ⟨a2, z2, c2, rfl, H2, hb2⟩
  clear HH
  have HH := hid (parse_good D w2 hDs _ HD.out HV.out)
  go_wp2_with fail
  refine Calls.mono HH.out ?_
  rintro e w3 ⟨a3, z3, c3, rfl, H3, hb3⟩
  clear HH
  have HI := isOne_any _ z3 w3 (Sl.own H3.out.1.1 H3.out.1.2.1)
  rw [hval z3 H3.out.1.2.1 H3.out.1.2.2.1 H3.out.1.2.2.2] at HI
  clear hval
  have HH := hid (HI)
  go_wp2_with fail
  refine Calls.mono HH.out ?_
  rintro e w4 ⟨rfl, rfl⟩
  clear HH
  have HW := hid (bt hb1 (bt hb2 hb3))
  obtain ⟨r0, r1, r2, f0, f1, f2⟩ := res_box3 HZ.out HW.out
  have hz1 := hb1.size
  have hz2 := hb2.size
  have hz3 := hb3.size
  have HO2 : Hid (One (w.alloc (.cells #[.bool false, .slice none 0 0, .slice none 0 0] 27)) w3 (.slice a2 z2.length c2) z2 (rnu s.data.toList)) := ⟨owns_base (owns_later H2.out.1.1 hb3) hz1, H2.out.1.2⟩
  have HO3 : Hid (One (w.alloc (.cells #[.bool false, .slice none 0 0, .slice none 0 0] 27)) w3 (.slice a3 z3.length c3) z3 (rde s.data.toList)) := ⟨owns_base H3.out.1.1 (by omega), H3.out.1.2.1, H3.out.1.2.2.1, by rw [HDE.out]; exact H3.out.1.2.2.2⟩
  have HCUT : Hid (Cut (w.alloc (.cells #[.bool false, .slice none 0 0, .slice none 0 0] 27)) (.slice a2 z2.length c2) (.slice a3 z3.length c3) w3) := cut_two hz1 hz2 hz3 (World.ownsRow.lt H2.out.1.1) (World.ownsRow.lt H3.out.1.1)
  have HLL := hid (And.intro H2.out.2 H3.out.2)
  clear hb1 hb2 hb3 hz1 hz2 hz3 H2 H3
  have HBB := hid hbb
  subst hbb
  go_wp2_with fail
  refine bodyPost_ret (v := .agg #[.bool (rneg s.data.toList), .slice a2 z2.length c2, .slice a3 z3.length c3]) (by simp [results, Tryz.results57, go_sem, r0, r1, r2]) rfl ?_
  exact rread_put HB.out HLT.out HW.out HO2.out HO3.out HCUT.out HLL.out.1 HLL.out.2 rfl HU.out (.inr ⟨HV.out, HO.out⟩) _ _ _
end Go.Proofs.YtmgjkdijnjeljaaGreatDoor

/- Fractions read from a text: ratio.Parse, for any text. -/
namespace Go.Proofs.YtmgjkdijnjeljaaGreatDoor
open Go.RowKit Go.Lib
set_option linter.unusedVariables false

theorem read_any (s : ByteArray) (w : World) (hs : s.size ≤ 65536) : Calls Tryz.prog 57 #[.string s] w (RRead w s.data.toList) := by
  by_cases hB : rbar s.data.toList = -1
  · by_cases hU : IsNum (rup s.data.toList)
    · exact read_B s w hs hB hU
    · exact read_A1 s w hs hB hU
  · by_cases hU : IsNum (rup s.data.toList)
    · by_cases hV : IsNum (rdn s.data.toList)
      · by_cases hO : rde s.data.toList = 1
        · exact read_D s w hs hB hU hV hO
        · exact read_E s w hs hB hU hV hO
      · exact read_C s w hs hB hU hV
    · exact read_A2 s w hs hB hU
theorem prErr_good {s : ByteArray} (hs : s.size ≤ 65536) (h : rgood s.data.toList) : prErr s = 0 := by unfold prErr; rw [if_neg (by omega), if_pos h]
theorem prErr_bad {s : ByteArray} (hs : s.size ≤ 65536) (h : ¬ rgood s.data.toList) : prErr s = 130 := by unfold prErr; rw [if_neg (by omega), if_neg h]
theorem prErr_long {s : ByteArray} (hs : 65536 < s.size) : prErr s = 3 := by unfold prErr; rw [if_pos hs]
theorem rtold_zero {w W : World} {e : Int} {q : Rat} (he : e ≠ 0) (hb : Below w.heap.size w W) : RToldA w e q (.returned (.tuple #[.agg #[.bool false, .slice none 0 0, .slice none 0 0], .int .i64 e])) W :=
  ⟨false, _, [], _, [], e, rfl, World.ownsRow_nil _ _ _ _, World.ownsRow_nil _ _ _ _, RTells.err he, hb, W.heap.size, hb.size, Nat.le_refl _, fun g hg => by simp [Value.ownBlock] at hg, fun g hg => by simp [Value.ownBlock] at hg⟩

set_option maxHeartbeats 3200000 in
set_option maxRecDepth 100000 in
theorem rparse_long (s : ByteArray) (w : World) (hs : 65536 < s.size) (hm : s.size ≤ 9223372036854775807) (q : Rat) : Calls Tryz.prog 38 #[.string s] w (RToldA w 3 q) := by
  have hs' : (65536 : Int) < (s.size : Int) := by omega
  go_enter Tryz.func38, Tryz.ntmps38
  go_wp2_with fail
  refine bodyPost_ret (v := .tuple #[.agg #[.bool false, .slice none 0 0, .slice none 0 0], .int .i64 3]) (by simp [results, Tryz.results38, go_sem]) rfl ?_
  exact rtold_zero (by decide) (alloc_later _ _)
set_option maxHeartbeats 6400000 in
set_option maxRecDepth 100000 in
theorem rparse_any (s : ByteArray) (w : World) (hs : s.size ≤ 65536) : Calls Tryz.prog 38 #[.string s] w (RToldA w (prErr s) (rpq s.data.toList)) := by
  have hs' : ¬ (65536 : Int) < (s.size : Int) := by omega
  have HB := hid (alloc_later w (.cells #[.bool false, .slice none 0 0, .slice none 0 0] 27))
  have HZ := hid (Box.made w 27 #[.bool false, .slice none 0 0, .slice none 0 0])
  have HLT : Hid (w.heap.size < (w.alloc (.cells #[.bool false, .slice none 0 0, .slice none 0 0] 27)).heap.size) := by show _ < _; simp
  have HR := hid (read_any s (w.alloc (.cells #[.bool false, .slice none 0 0, .slice none 0 0] 27)) hs)
  by_cases hg : rgood s.data.toList
  · rw [prErr_good hs hg]
    have HG := hid hg
    clear hg hs
    go_enter Tryz.func38, Tryz.ntmps38
    go_wp2_with fail
    refine Calls.mono HR.out ?_
    generalize (w.alloc (.cells #[.bool false, .slice none 0 0, .slice none 0 0] 27)) = X at *
    rintro e w1 ⟨n, v, xs, u, ys, rfl, o1, o2, wx, wy, lx, ly, hiff, hval, hb1, hcut⟩
    obtain ⟨a1, c1, hv⟩ := own_slice' o1
    subst hv
    obtain ⟨a2, c2, hv⟩ := own_slice' o2
    subst hv
    obtain ⟨hn, tx, ty, vx, vy⟩ := hval HG.out
    have HAL := hid (alloc_later w1 (.cells #[.bool n, .slice a1 xs.length c1, .slice a2 ys.length c2] 27))
    have HBX := hid (Box.made w1 27 #[.bool n, .slice a1 xs.length c1, .slice a2 ys.length c2])
    have HI := inOneForm_any n _ xs _ ys (w1.alloc (.cells #[.bool n, .slice a1 xs.length c1, .slice a2 ys.length c2] 27)) ((Sl.own o1 wx).later HAL.out) ((Sl.own o2 wy).later HAL.out) (by omega) (by omega)
    rw [decide_eq_true (hiff.2 HG.out)] at HI
    have HH := hid HI
    have HO1 : Hid (One X w1 (.slice a1 xs.length c1) xs (rnu s.data.toList)) := ⟨o1, wx, tx, vx⟩
    have HO2 : Hid (One X w1 (.slice a2 ys.length c2) ys (rde s.data.toList)) := ⟨o2, wy, ty, vy⟩
    have HCUT := hid hcut
    have HN := hid hn
    have HB1 := hid (bt hb1 HAL.out)
    clear o1 o2 wx wy lx ly hiff hval hb1 hcut HI hn tx ty vx vy HR
    go_wp2_with fail
    refine Calls.mono HH.out ?_
    rintro e w2 ⟨rfl, hb2⟩
    obtain ⟨p0, p1, p2, _, _, _⟩ := res_box3 HBX.out hb2
    have HAB := hid (bt HAL.out hb2)
    have hz := HAB.out.size
    have HT := hid (rtold_cut2 (n := n) (q := rpq s.data.toList) (bt HB1.out hb2) (HO1.out.later HAB.out) (HO2.out.later HAB.out) (HCUT.out.up (Nat.le_refl _) hz) HG.out.2.2.1 HG.out.2.2.2.2 (by rw [HN.out]; rfl))
    have HB2 := hid (bt HB1.out hb2)
    clear hb2 HH HAB HBX HAL
    go_wp2_with fail
    refine Calls.mono HT.out ?_
    rintro e w3 ⟨k9, a8, z8, c8, a9, z9, c9, code, rfl, HE9, hb3, _⟩
    obtain ⟨r0, r1, r2, f0, f1, f2⟩ := res_box3 HZ.out hb3
    have HBW := hid (bt HB.out hb3)
    clear hb3 HT
    go_wp2_with fail
    refine bodyPost_ret (v := .tuple #[.agg #[.bool k9, .slice a8 z8.length c8, .slice a9 z9.length c9], .int .i64 code]) (by simp [results, Tryz.results38, go_sem, r0, r1, r2]) rfl ?_
    exact RToldA.put HE9.out w.heap.size HLT.out (Nat.le_refl _) HBW.out _ _ _
  · rw [prErr_bad hs hg]
    have HG := hid hg
    clear hg hs
    go_enter Tryz.func38, Tryz.ntmps38
    go_wp2_with fail
    refine Calls.mono HR.out ?_
    generalize (w.alloc (.cells #[.bool false, .slice none 0 0, .slice none 0 0] 27)) = X at *
    rintro e w1 ⟨n, v, xs, u, ys, rfl, o1, o2, wx, wy, lx, ly, hiff, hval, hb1, hcut⟩
    obtain ⟨a1, c1, hv⟩ := own_slice' o1
    subst hv
    obtain ⟨a2, c2, hv⟩ := own_slice' o2
    subst hv
    have HAL := hid (alloc_later w1 (.cells #[.bool n, .slice a1 xs.length c1, .slice a2 ys.length c2] 27))
    have HI := inOneForm_any n _ xs _ ys (w1.alloc (.cells #[.bool n, .slice a1 xs.length c1, .slice a2 ys.length c2] 27)) ((Sl.own o1 wx).later HAL.out) ((Sl.own o2 wy).later HAL.out) (by omega) (by omega)
    rw [decide_eq_false (fun e => HG.out (hiff.1 e))] at HI
    have HH := hid HI
    have HB1 := hid (bt hb1 HAL.out)
    clear o1 o2 wx wy lx ly hiff hval hb1 hcut HI HR
    go_wp2_with fail
    refine Calls.mono HH.out ?_
    rintro e w2 ⟨rfl, hb2⟩
    obtain ⟨r0, r1, r2, f0, f1, f2⟩ := res_box3 HZ.out (bt HB1.out hb2)
    have HBW := hid (bt HB.out (bt HB1.out hb2))
    clear hb2 HH
    go_wp2_with fail
    refine bodyPost_ret (v := .tuple #[.agg #[.bool false, .slice none 0 0, .slice none 0 0], .int .i64 130]) (by simp [results, Tryz.results38, go_sem, r0, r1, r2]) rfl ?_
    exact rtold_zero (by decide) (below_put3 HBW.out _ (Nat.le_refl _) _ _ _)
end Go.Proofs.YtmgjkdijnjeljaaGreatDoor

/- Boxes of fractions, rows of the call's own and one box of a flag, in a bundle that is moved along. -/
namespace Go.Proofs.YtmgjkdijnjeljaaGreatDoor
open Go.RowKit
set_option linter.unusedVariables false

theorem Box.same {w : World} {b t : Nat} {vs : Array Value} (h : Box w b t vs) {j : Nat} {v : Value} (hv : vs[j]? = some v) : w.setCell ⟨b, j, none⟩ v = w := by
  have e : (w.setCell ⟨b, j, none⟩ v).heap = w.heap := by
    have h' : w.heap[b]? = some (.cells vs t (0, 0)) := h
    have hs : vs.setIfInBounds j v = vs := by
      apply Array.ext_getElem?
      intro k
      rw [Array.getElem?_setIfInBounds]
      by_cases c : j = k
      · subst c
        obtain ⟨hk, _⟩ := Array.getElem?_eq_some_iff.1 hv
        rw [if_pos rfl, if_pos hk, hv]
      · rw [if_neg c]
    unfold World.setCell
    apply Array.ext_getElem?
    intro k
    simp only [Array.getElem?_modify]
    by_cases c : b = k
    · subst c
      rw [if_pos rfl, h']
      simp [hs]
    · rw [if_neg c]
  cases w
  simp only [World.setCell] at e ⊢
  rw [e]
theorem own_put1 {w : World} {base e n : Nat} {v : Value} {xs : List Value} (h : w.ownsRow base e 1 v n xs) (b : Nat) (hb : ∀ g, v.ownBlock = some g → g ≠ b) (j : Nat) (v0 : Value) : (w.setCell ⟨b, j, none⟩ v0).ownsRow base e 1 v n xs := by
  have hne : v.ownBlock = none ∨ v.ownBlock ≠ some b := by
    cases hv : v.ownBlock with
    | none => exact .inl rfl
    | some g => right; intro e; exact hb g hv (Option.some.inj e)
  exact World.ownsRow.kept h (grown_set w ⟨b, j, none⟩ v0) hne
/-- Boxes that hold fractions. -/
def Bxs3 (W : World) (l : List (Nat × Array Value)) : Prop := ∀ p ∈ l, Box W p.1 27 p.2
def Rws (W : World) (l : List (Nat × Value × List Int)) : Prop := ∀ p ∈ l, W.ownsRow p.1 85 1 p.2.1 p.2.2.length (p.2.2.map (Value.int .u32))
/-- What is known of a world: boxes of fractions, rows of the call's own, what was there. -/
structure St (w W : World) (l : List (Nat × Array Value)) (r : List (Nat × Value × List Int)) : Prop where
  box : Bxs3 W l
  row : Rws W r
  bel : Below w.heap.size w W
theorem St.later {w W W' : World} {l : List (Nat × Array Value)} {r : List (Nat × Value × List Int)} (h : St w W l r) (hb : Below W.heap.size W W') : St w W' l r :=
  ⟨fun p hp => (h.box p hp).later hb (h.box p hp).lt, fun p hp => owns_later (h.row p hp) hb, bt h.bel hb⟩
theorem St.more {w W : World} {l : List (Nat × Array Value)} {r : List (Nat × Value × List Int)} (h : St w W l r) {base : Nat} {v : Value} {zs : List Int} (o : W.ownsRow base 85 1 v zs.length (zs.map (Value.int .u32))) : St w W l ((base, v, zs) :: r) :=
  ⟨h.box, fun p hp => by
    cases hp with
    | head => exact o
    | tail _ hp => exact h.row p hp, h.bel⟩
theorem St.put {w W : World} {l : List (Nat × Array Value)} {r : List (Nat × Value × List Int)} (h : St w W l r) (n : Bool) (v u : Value) : St w (W.alloc (.cells #[.bool n, v, u] 27)) ((W.heap.size, #[.bool n, v, u]) :: l) r :=
  ⟨fun p hp => by
    cases hp with
    | head => exact Box.made W _ _
    | tail _ hp => exact (h.box p hp).later (alloc_later _ _) (h.box p hp).lt, (h.later (alloc_later _ _)).row, (h.later (alloc_later _ _)).bel⟩
theorem St.get {w W : World} {l : List (Nat × Array Value)} {r : List (Nat × Value × List Int)} (h : St w W l r) {g : Nat} {n : Bool} {v u : Value} (hm : (g, #[.bool n, v, u]) ∈ l) : W.cell? ⟨g, 0, none⟩ = some (.bool n) ∧ W.cell? ⟨g, 1, none⟩ = some v ∧ W.cell? ⟨g, 2, none⟩ = some u := ⟨(h.box _ hm).cell 0, (h.box _ hm).cell 1, (h.box _ hm).cell 2⟩
theorem St.free {w W : World} {l : List (Nat × Array Value)} {r : List (Nat × Value × List Int)} (h : St w W l r) {g : Nat} {n : Bool} {v u : Value} (hm : (g, #[.bool n, v, u]) ∈ l) : W.frozen? ⟨g, 0, none⟩ = false ∧ W.frozen? ⟨g, 1, none⟩ = false ∧ W.frozen? ⟨g, 2, none⟩ = false := ⟨(h.box _ hm).free 0, (h.box _ hm).free 1, (h.box _ hm).free 2⟩
theorem St.same {w W : World} {l : List (Nat × Array Value)} {r : List (Nat × Value × List Int)} (h : St w W l r) {g : Nat} {n : Bool} {v u : Value} (hm : (g, #[.bool n, v, u]) ∈ l) : W.setCell ⟨g, 0, none⟩ (.bool n) = W ∧ W.setCell ⟨g, 1, none⟩ v = W ∧ W.setCell ⟨g, 2, none⟩ u = W := ⟨(h.box _ hm).same rfl, (h.box _ hm).same rfl, (h.box _ hm).same rfl⟩
theorem St.sl {w W : World} {l : List (Nat × Array Value)} {r : List (Nat × Value × List Int)} (h : St w W l r) {base : Nat} {v : Value} {zs : List Int} (wd : Wd zs) (hm : (base, v, zs) ∈ r) : Sl W v zs := Sl.own (h.row _ hm) wd
/-- A store into a box of another type. -/
theorem St.flag {w W : World} {l : List (Nat × Array Value)} {r : List (Nat × Value × List Int)} (h : St w W l r) {g t : Nat} {vs : Array Value} (b : Box W g t vs) (hg : w.heap.size ≤ g) (h1 : t ≠ 27) (h2 : t ≠ 85) (j : Nat) (v : Value) : St w (W.setCell ⟨g, j, none⟩ v) l r := by
  refine ⟨fun p hp => (h.box p hp).other _ _ (fun e => ?_), fun p hp => own_put1 (h.row p hp) g (own_ne_box (h.row p hp) b (Ne.symm h2)) _ _, h.bel.setCell (p := ⟨g, j, none⟩) hg _⟩
  · have e1 := h.box p hp
    rw [e] at e1
    have e2 : some (Obj.cells p.2 27 (0, 0)) = some (.cells vs t (0, 0)) := e1.symm.trans b
    injection e2 with e3
    injection e3 with _ e4 _
    exact h1 e4.symm
end Go.Proofs.YtmgjkdijnjeljaaGreatDoor

/- Complex fractions: gauss.Check; the steps' own: look, next. -/
namespace Go.Proofs.YtmgjkdijnjeljaaGreatDoor
open Go.RowKit
set_option linter.unusedVariables false

/-- The first error, else the second. -/
def fstE (E e : Int) : Int := if E = 0 then e else E
theorem fstE_zero (e : Int) : fstE 0 e = e := if_pos rfl
theorem fstE_err {E : Int} (e : Int) (h : E ≠ 0) : fstE E e = E := if_neg h
theorem grow_trans {a b c : World} {row : Option Nat} (h : a.grownBy b row) (g : b.grownBy c row) : a.grownBy c row :=
  ⟨g.os.trans h.os, g.tape.trans h.tape, g.output.trans h.output, Nat.le_trans h.size g.size, fun k hk hne => (g.block k (Nat.lt_of_lt_of_le hk h.size) hne).trans (h.block k hk hne)⟩
theorem grow_below {a b : World} (h : Below a.heap.size a b) (row : Option Nat) : a.grownBy b row := ⟨h.os, h.tape, h.output, h.size, fun k hk _ => h.block k hk⟩
theorem grow_set (w : World) (b j : Nat) (v : Value) : w.grownBy (w.setCell ⟨b, j, none⟩ v) (some b) := ⟨rfl, rfl, rfl, by simp [World.setCell], fun k _ hne => Below.heap_setCell _ _ _ _ (fun e => hne (by rw [e]))⟩
theorem Box.kept' {W W' : World} {row : Option Nat} {b t : Nat} {vs : Array Value} (h : Box W b t vs) (hg : W.grownBy W' row) (hne : some b ≠ row) : Box W' b t vs := (hg.block b h.lt hne).trans h

/-- What Check tells of two parts. -/
def gchk (n : Bool) (xs ys : List Int) (m : Bool) (us vs : List Int) : Int := fstE (rchk n xs ys) (rchk m us vs)

set_option maxHeartbeats 800000 in
set_option maxRecDepth 100000 in
theorem gcheck_any (n : Bool) (v : Value) (xs : List Int) (u : Value) (ys : List Int) (m : Bool) (v' : Value) (us : List Int) (u' : Value) (vs : List Int) (w : World) (h1 : Sl w v xs) (h2 : Sl w u ys) (h3 : Sl w v' us) (h4 : Sl w u' vs) :
    Calls Tryz.prog 19 #[.agg #[.bool n, v, u, .bool m, v', u']] w fun e w' => e = .returned (.int .i64 (gchk n xs ys m us vs)) ∧ Below w.heap.size w w' := by
  have HX := hid (Box.made w 29 #[.bool n, v, u, .bool m, v', u'])
  have HB := hid (alloc_later w (.cells #[.bool n, v, u, .bool m, v', u'] 29))
  have H1 : Hid (∀ V, Below w.heap.size w V → Calls Tryz.prog 35 #[.agg #[.bool n, v, u]] V fun e w' => e = .returned (.int .i64 (rchk n xs ys)) ∧ Below V.heap.size V w') := fun V hv => rcheck_any n v xs u ys V (h1.later hv) (h2.later hv)
  have H2 : Hid (∀ V, Below w.heap.size w V → Calls Tryz.prog 35 #[.agg #[.bool m, v', u']] V fun e w' => e = .returned (.int .i64 (rchk m us vs)) ∧ Below V.heap.size V w') := fun V hv => rcheck_any m v' us u' vs V (h3.later hv) (h4.later hv)
  obtain ⟨a, ca, rfl, _⟩ := h1
  obtain ⟨b, cb, rfl, _⟩ := h2
  obtain ⟨c, cc, rfl, _⟩ := h3
  obtain ⟨d, cd, rfl, _⟩ := h4
  have HF : Hid (∀ E, E = rchk n xs ys → (E = 0 → gchk n xs ys m us vs = rchk m us vs) ∧ (E ≠ 0 → gchk n xs ys m us vs = E)) := fun E hE => by
    subst hE
    exact ⟨fun h => by unfold gchk; rw [h, fstE_zero], fun h => fstE_err _ h⟩
  have HF := hid (HF.out _ rfl)
  generalize rchk n xs ys = E at *
  generalize rchk m us vs = F at *
  generalize gchk n xs ys m us vs = G at *
  go_enter Tryz.func19, Tryz.ntmps19
  go_wp2_with fail
  generalize w.alloc (.cells #[.bool n, .slice a xs.length ca, .slice b ys.length cb, .bool m, .slice c us.length cc, .slice d vs.length cd] 29) = X at *
  refine Calls.mono (H1.out _ HB.out) ?_
  rintro e w1 ⟨rfl, hb1⟩
  have HB1 := hid (bt HB.out hb1)
  have HX1 := hid (HX.out.later hb1 HX.out.lt)
  have k3 : w1.cell? ⟨w.heap.size, 3, none⟩ = some (.bool m) := HX1.out.cell 3
  have k4 : w1.cell? ⟨w.heap.size, 4, none⟩ = some (.slice c us.length cc) := HX1.out.cell 4
  have k5 : w1.cell? ⟨w.heap.size, 5, none⟩ = some (.slice d vs.length cd) := HX1.out.cell 5
  clear hb1 HX HX1 HB
  by_cases h : E = 0
  · subst h
    have HR := hid (HF.out.1 rfl)
    clear HF H1
    go_wp2_with fail
    refine Calls.mono (H2.out _ HB1.out) ?_
    rintro e w2 ⟨rfl, hb2⟩
    have HB2 := hid (bt HB1.out hb2)
    clear hb2
    go_wp2_with fail
    go_ret
    exact ⟨ret_int HR.out.symm, HB2.out⟩
  · have HR := hid (HF.out.2 h)
    have h' : (E == 0) = false := by simp [h]
    clear HF H1 H2
    go_wp2_with fail
    go_ret
    exact ⟨ret_int HR.out.symm, HB1.out⟩

theorem boxes3r (w : World) (t : Nat) (u v z : Array Value) : Box (((w.alloc (.cells u t)).alloc (.cells v t)).alloc (.cells z t)) w.heap.size t u ∧ Box (((w.alloc (.cells u t)).alloc (.cells v t)).alloc (.cells z t)) (w.heap.size + 1) t v ∧ Box (((w.alloc (.cells u t)).alloc (.cells v t)).alloc (.cells z t)) (w.heap.size + 1 + 1) t z ∧ Below w.heap.size w (((w.alloc (.cells u t)).alloc (.cells v t)).alloc (.cells z t)) := by
  have e1 : (w.alloc (.cells u t)).heap.size = w.heap.size + 1 := World.size_alloc _ _
  have e2 : ((w.alloc (.cells u t)).alloc (.cells v t)).heap.size = w.heap.size + 1 + 1 := by rw [World.size_alloc, World.size_alloc]
  have a := Box.made w t u
  have b := Box.made (w.alloc (.cells u t)) t v
  have c := Box.made ((w.alloc (.cells u t)).alloc (.cells v t)) t z
  have a2 := a.later (alloc_later (w.alloc (.cells u t)) (.cells v t)) a.lt
  exact ⟨a2.later (alloc_later _ _) a2.lt, e1 ▸ (b.later (alloc_later _ _) b.lt), e2 ▸ c, bt (alloc_later _ _) (bt (alloc_later _ _) (alloc_later _ _))⟩

theorem grow_put {a c : World} {p : Nat} (h : a.grownBy c (some p)) (b j : Nat) (v : Value) (hb : a.heap.size ≤ b ∨ b = p) : a.grownBy (c.setCell ⟨b, j, none⟩ v) (some p) :=
  ⟨h.os, h.tape, h.output, by simpa [World.setCell] using h.size, fun k hk hne => (Below.heap_setCell c ⟨b, j, none⟩ v k (fun e => by
    have e' : k = b := e
    rcases hb with hb | hb
    · omega
    · exact hne (by rw [e', hb]))).trans (h.block k hk hne)⟩
theorem grow_put3 {a c : World} {p : Nat} (h : a.grownBy c (some p)) (b : Nat) (u0 u1 u2 : Value) (hb : a.heap.size ≤ b ∨ b = p) : a.grownBy (((c.setCell ⟨b, 0, none⟩ u0).setCell ⟨b, 1, none⟩ u1).setCell ⟨b, 2, none⟩ u2) (some p) :=
  grow_put (grow_put (grow_put h b 0 u0 hb) b 1 u1 hb) b 2 u2 hb
theorem own_put3' {w : World} {base e n : Nat} {v : Value} {xs : List Value} (h : w.ownsRow base e 1 v n xs) (b : Nat) (hb : ∀ g, v.ownBlock = some g → g ≠ b) (u0 u1 u2 : Value) : (((w.setCell ⟨b, 0, none⟩ u0).setCell ⟨b, 1, none⟩ u1).setCell ⟨b, 2, none⟩ u2).ownsRow base e 1 v n xs :=
  own_put1 (own_put1 (own_put1 h b hb 0 u0) b hb 1 u1) b hb 2 u2
theorem box_put3 {U : World} {b t : Nat} {u0 u1 u2 : Value} (h : Box U b t #[u0, u1, u2]) (v0 v1 v2 : Value) : Box (((U.setCell ⟨b, 0, none⟩ v0).setCell ⟨b, 1, none⟩ v1).setCell ⟨b, 2, none⟩ v2) b t #[v0, v1, v2] := ((h.set 0 v0).set 1 v1).set 2 v2
theorem box_far3 {U : World} {b t b' : Nat} {vs : Array Value} (h : Box U b t vs) (hne : b ≠ b') (v0 v1 v2 : Value) : Box (((U.setCell ⟨b', 0, none⟩ v0).setCell ⟨b', 1, none⟩ v1).setCell ⟨b', 2, none⟩ v2) b t vs := ((h.other ⟨b', 0, none⟩ v0 hne).other ⟨b', 1, none⟩ v1 hne).other ⟨b', 2, none⟩ v2 hne

/-- What a step tells: a fraction, and its error in the steps' own memory. -/
def GTell (w : World) (p : Nat) (e : Int) (q : Rat) (x : Ending) (w' : World) : Prop :=
  ∃ n v xs u ys code, x = .returned (.agg #[.bool n, v, u]) ∧ w'.ownsRow w.heap.size 85 1 v xs.length (xs.map (Value.int .u32)) ∧ w'.ownsRow w.heap.size 85 1 u ys.length (ys.map (Value.int .u32)) ∧ RTells e q n xs ys code ∧ Box w' p 100 #[.int .i64 code] ∧ w.grownBy w' (some p) ∧ Cut w v u w'

end Go.Proofs.YtmgjkdijnjeljaaGreatDoor

/- Complex fractions, the steps' own: opposite, look, told. -/
namespace Go.Proofs.YtmgjkdijnjeljaaGreatDoor
open Go.RowKit
set_option linter.unusedVariables false

theorem boxes2r (w : World) (t : Nat) (u v : Array Value) : Box ((w.alloc (.cells u t)).alloc (.cells v t)) w.heap.size t u ∧ Box ((w.alloc (.cells u t)).alloc (.cells v t)) (w.heap.size + 1) t v ∧ Below w.heap.size w ((w.alloc (.cells u t)).alloc (.cells v t)) := by
  have e1 : (w.alloc (.cells u t)).heap.size = w.heap.size + 1 := World.size_alloc _ _
  have a := Box.made w t u
  have b := Box.made (w.alloc (.cells u t)) t v
  exact ⟨a.later (alloc_later _ _) a.lt, e1 ▸ b, bt (alloc_later _ _) (alloc_later _ _)⟩

set_option maxHeartbeats 1600000 in
set_option maxRecDepth 100000 in
theorem gopposite_any (p : Nat) (E : Int) (n : Bool) (a : Option Addr) (ca : Nat) (xs : List Int) (b : Option Addr) (cb : Nat) (ys : List Int) (w : World) (hp : Box w p 100 #[.int .i64 E]) (sx : Sl w (.slice a xs.length ca) xs) (sy : Sl w (.slice b ys.length cb) ys) :
    Calls Tryz.prog 42 #[.pointer (some ⟨p, 0, none⟩), .agg #[.bool n, .slice a xs.length ca, .slice b ys.length cb]] w (GTell w p (fstE E (rchk n xs ys)) (-(rq n xs ys))) := by
  have HX := hid (boxes2r w 27 #[.bool n, .slice a xs.length ca, .slice b ys.length cb] #[.bool false, .slice none 0 0, .slice none 0 0])
  obtain ⟨X, hX⟩ : ∃ X, (w.alloc (.cells #[.bool n, .slice a xs.length ca, .slice b ys.length cb] 27)).alloc (.cells #[.bool false, .slice none 0 0, .slice none 0 0] 27) = X := ⟨_, rfl⟩
  rw [hX] at HX
  have HP := hid (hp.later HX.out.2.2 hp.lt)
  have kp : X.cell? ⟨p, 0, none⟩ = some (.int .i64 E) := HP.out.cell 0
  have fp := HP.out.free 0
  have hpw : p < w.heap.size := hp.lt
  have HFF : Hid (∀ V, Below w.heap.size w V → Calls Tryz.prog 59 #[.agg #[.bool n, .slice a xs.length ca, .slice b ys.length cb]] V (RToldA V (rchk n xs ys) (-(rq n xs ys)))) := fun V hv => rNeg_full n a ca xs b cb ys V (sx.later hv) (sy.later hv)
  generalize rchk n xs ys = e at *
  generalize -(rq n xs ys) = q at *
  clear sx sy
  by_cases hE : E = 0
  · subst hE
    rw [fstE_zero]
    have c0 : X.cell? ⟨w.heap.size, 0, none⟩ = some (.bool n) := HX.out.1.cell 0
    have c1 : X.cell? ⟨w.heap.size, 1, none⟩ = some (.slice a xs.length ca) := HX.out.1.cell 1
    have c2 : X.cell? ⟨w.heap.size, 2, none⟩ = some (.slice b ys.length cb) := HX.out.1.cell 2
    go_enter Tryz.func42, Tryz.ntmps42
    go_wp2_with fail
    refine Calls.mono (HFF.out _ HX.out.2.2) ?_
    rintro x w1 ⟨k, v, zs, u, ts, code, rfl, ov, ou, ht, hb1, hcut⟩
    obtain ⟨av, cv, rfl⟩ := own_slice' ov
    obtain ⟨au, cu, rfl⟩ := own_slice' ou
    have HM1 := hid (HX.out.2.1.later hb1 HX.out.2.1.lt)
    have HP1 := hid (HP.out.later hb1 HP.out.lt)
    have m0 : w1.cell? ⟨w.heap.size + 1, 0, none⟩ = some (.bool false) := HM1.out.cell 0
    have m1 : w1.cell? ⟨w.heap.size + 1, 1, none⟩ = some (.slice none 0 0) := HM1.out.cell 1
    have m2 : w1.cell? ⟨w.heap.size + 1, 2, none⟩ = some (.slice none 0 0) := HM1.out.cell 2
    have n0 := HM1.out.free 0
    have n1 := HM1.out.free 1
    have n2 := HM1.out.free 2
    have kp1 : w1.cell? ⟨p, 0, none⟩ = some (.int .i64 0) := HP1.out.cell 0
    have fp1 := HP1.out.free 0
    have hne : p ≠ w.heap.size + 1 := by omega
    have HBB := hid (bt HX.out.2.2 hb1)
    have HOV := hid ov
    have HOU := hid ou
    have HTT := hid ht
    have HCC := hid hcut
    clear ov ou ht hcut hb1 c0 c1 c2 kp fp HFF
    go_wp2_with fail
    have h3 := HX.out.2.1.lt
    have hv : (∀ b', (Value.slice av zs.length cv).ownBlock = some b' → b' ≠ w.heap.size + 1) ∧ (∀ b', (Value.slice av zs.length cv).ownBlock = some b' → b' ≠ p) := ⟨fun b' hb => by have := (HOV.out.lt b' hb).1; omega, fun b' hb => by have := (HOV.out.lt b' hb).1; omega⟩
    have hu : (∀ b', (Value.slice au ts.length cu).ownBlock = some b' → b' ≠ w.heap.size + 1) ∧ (∀ b', (Value.slice au ts.length cu).ownBlock = some b' → b' ≠ p) := ⟨fun b' hb => by have := (HOU.out.lt b' hb).1; omega, fun b' hb => by have := (HOU.out.lt b' hb).1; omega⟩
    have B1 := box_put3 ((box_put3 HM1.out (.bool k) (.slice av zs.length cv) (.slice au ts.length cu)).other ⟨p, 0, none⟩ (.int .i64 code) (by simp; omega)) (.bool k) (.slice av zs.length cv) (.slice au ts.length cu)
    have P1 : Box _ p 100 #[.int .i64 code] := box_far3 ((box_far3 HP1.out hne (.bool k) (.slice av zs.length cv) (.slice au ts.length cu)).set 0 (.int .i64 code)) hne (.bool k) (.slice av zs.length cv) (.slice au ts.length cu)
    have V1 := own_put3' (own_put1 (own_put3' HOV.out _ hv.1 (.bool k) (.slice av zs.length cv) (.slice au ts.length cu)) p hv.2 0 (.int .i64 code)) _ hv.1 (.bool k) (.slice av zs.length cv) (.slice au ts.length cu)
    have U1 := own_put3' (own_put1 (own_put3' HOU.out _ hu.1 (.bool k) (.slice av zs.length cv) (.slice au ts.length cu)) p hu.2 0 (.int .i64 code)) _ hu.1 (.bool k) (.slice av zs.length cv) (.slice au ts.length cu)
    have G1 := grow_put3 (grow_put (grow_put3 (grow_below HBB.out (some p)) (w.heap.size + 1) (.bool k) (.slice av zs.length cv) (.slice au ts.length cu) (.inl (by omega))) p 0 (.int .i64 code) (.inr rfl)) (w.heap.size + 1) (.bool k) (.slice av zs.length cv) (.slice au ts.length cu) (.inl (by omega))
    have hXw := HX.out.2.2.size
    refine bodyPost_ret (results_cell_row (by rfl) _ _ (w.heap.size + 1) 27 _ (0, 0) _ (by rfl) B1 Tryz.underlying27 rfl (by kernel_rfl)) rfl ?_
    refine ⟨k, _, zs, _, ts, code, rfl, owns_base V1 hXw, owns_base U1 hXw, HTT.out, P1, G1, ?_⟩
    exact HCC.out.up hXw (by simp [World.setCell])
  · have hE' : (E == 0) = false := by simp [hE]
    rw [fstE_err e hE]
    have m0 : X.cell? ⟨w.heap.size + 1, 0, none⟩ = some (.bool false) := HX.out.2.1.cell 0
    have m1 : X.cell? ⟨w.heap.size + 1, 1, none⟩ = some (.slice none 0 0) := HX.out.2.1.cell 1
    have m2 : X.cell? ⟨w.heap.size + 1, 2, none⟩ = some (.slice none 0 0) := HX.out.2.1.cell 2
    have n0 := HX.out.2.1.free 0
    have n1 := HX.out.2.1.free 1
    have n2 := HX.out.2.1.free 2
    go_enter Tryz.func42, Tryz.ntmps42
    go_wp2_with fail
    have B1 := box_put3 HX.out.2.1 (.bool false) (.slice none 0 0) (.slice none 0 0)
    have P1 := box_far3 HP.out (show p ≠ w.heap.size + 1 by omega) (.bool false) (.slice none 0 0) (.slice none 0 0)
    have G1 := grow_put3 (grow_below HX.out.2.2 (some p)) (w.heap.size + 1) (.bool false) (.slice none 0 0) (.slice none 0 0) (.inl (by omega))
    refine bodyPost_ret (results_cell_row (by rfl) _ _ (w.heap.size + 1) 27 _ (0, 0) _ (by rfl) B1 Tryz.underlying27 rfl (by kernel_rfl)) rfl ?_
    refine ⟨false, _, [], _, [], E, rfl, World.ownsRow_nil _ _ _ _, World.ownsRow_nil _ _ _ _, RTells.err hE, P1, G1, ?_⟩
    exact ⟨w.heap.size, Nat.le_refl _, G1.size, fun g hg => by simp [Value.ownBlock] at hg, fun g hg => by simp [Value.ownBlock] at hg⟩

set_option maxHeartbeats 800000 in
set_option maxRecDepth 100000 in
theorem glook_any (p : Nat) (E : Int) (n : Bool) (a : Option Addr) (ca : Nat) (xs : List Int) (b : Option Addr) (cb : Nat) (ys : List Int) (m : Bool) (c : Option Addr) (cc : Nat) (us : List Int) (d : Option Addr) (cd : Nat) (vs : List Int) (w : World) (hp : Box w p 100 #[.int .i64 E]) (sx : Sl w (.slice a xs.length ca) xs) (sy : Sl w (.slice b ys.length cb) ys) (su : Sl w (.slice c us.length cc) us) (sv : Sl w (.slice d vs.length cd) vs) :
    Calls Tryz.prog 58 #[.pointer (some ⟨p, 0, none⟩), .agg #[.bool n, .slice a xs.length ca, .slice b ys.length cb, .bool m, .slice c us.length cc, .slice d vs.length cd]] w fun e w' => e = .returned (.tuple #[]) ∧ Box w' p 100 #[.int .i64 (fstE E (gchk n xs ys m us vs))] ∧ w.grownBy w' (some p) := by
  have HB := hid (Box.made w 29 #[.bool n, .slice a xs.length ca, .slice b ys.length cb, .bool m, .slice c us.length cc, .slice d vs.length cd])
  have HW := hid (alloc_later w (.cells #[.bool n, .slice a xs.length ca, .slice b ys.length cb, .bool m, .slice c us.length cc, .slice d vs.length cd] 29))
  obtain ⟨X, hX⟩ : ∃ X, w.alloc (.cells #[.bool n, .slice a xs.length ca, .slice b ys.length cb, .bool m, .slice c us.length cc, .slice d vs.length cd] 29) = X := ⟨_, rfl⟩
  rw [hX] at HB HW
  have HP := hid (hp.later HW.out hp.lt)
  have kp : X.cell? ⟨p, 0, none⟩ = some (.int .i64 E) := HP.out.cell 0
  have fp := HP.out.free 0
  have HC := hid (gcheck_any n _ xs _ ys m _ us _ vs X (sx.later HW.out) (sy.later HW.out) (su.later HW.out) (sv.later HW.out))
  generalize gchk n xs ys m us vs = e at *
  clear sx sy su sv hp
  by_cases hE : E = 0
  · subst hE
    rw [fstE_zero]
    have c0 : X.cell? ⟨w.heap.size, 0, none⟩ = some (.bool n) := HB.out.cell 0
    have c1 : X.cell? ⟨w.heap.size, 1, none⟩ = some (.slice a xs.length ca) := HB.out.cell 1
    have c2 : X.cell? ⟨w.heap.size, 2, none⟩ = some (.slice b ys.length cb) := HB.out.cell 2
    have c3 : X.cell? ⟨w.heap.size, 3, none⟩ = some (.bool m) := HB.out.cell 3
    have c4 : X.cell? ⟨w.heap.size, 4, none⟩ = some (.slice c us.length cc) := HB.out.cell 4
    have c5 : X.cell? ⟨w.heap.size, 5, none⟩ = some (.slice d vs.length cd) := HB.out.cell 5
    go_enter Tryz.func58, Tryz.ntmps58
    go_wp2_with fail
    refine Calls.mono HC.out ?_
    rintro x w1 ⟨rfl, hb1⟩
    have HP1 := hid (HP.out.later hb1 HP.out.lt)
    have kp1 : w1.cell? ⟨p, 0, none⟩ = some (.int .i64 0) := HP1.out.cell 0
    have fp1 := HP1.out.free 0
    have HBB := hid (bt HW.out hb1)
    clear hb1 c0 c1 c2 c3 c4 c5 kp fp HC
    go_wp2_with fail
    go_end0
    exact ⟨rfl, HP1.out.set 0 (.int .i64 e), grow_put (grow_below HBB.out (some p)) p 0 _ (.inr rfl)⟩
  · have hE' : (E == 0) = false := by simp [hE]
    rw [fstE_err e hE]
    go_enter Tryz.func58, Tryz.ntmps58
    go_wp2_with fail
    go_end0
    exact ⟨rfl, HP.out, grow_below HW.out (some p)⟩
end Go.Proofs.YtmgjkdijnjeljaaGreatDoor

/- Complex fractions, the steps' own: lookAt of one and of two, told. -/
namespace Go.Proofs.YtmgjkdijnjeljaaGreatDoor
open Go.RowKit
set_option linter.unusedVariables false

set_option maxHeartbeats 1600000 in
set_option maxRecDepth 100000 in
theorem glookAt1_any (g : Nat) (n : Bool) (a : Option Addr) (ca : Nat) (xs : List Int) (b : Option Addr) (cb : Nat) (ys : List Int) (m : Bool) (c : Option Addr) (cc : Nat) (us : List Int) (d : Option Addr) (cd : Nat) (vs : List Int) (w : World) (hg : Box w g 29 #[.bool n, .slice a xs.length ca, .slice b ys.length cb, .bool m, .slice c us.length cc, .slice d vs.length cd]) (sx : Sl w (.slice a xs.length ca) xs) (sy : Sl w (.slice b ys.length cb) ys) (su : Sl w (.slice c us.length cc) us) (sv : Sl w (.slice d vs.length cd) vs) :
    Calls Tryz.prog 40 #[.slice (some ⟨g, 0, none⟩) 1 1] w fun e w' => ∃ p, e = .returned (.pointer (some ⟨p, 0, none⟩)) ∧ w.heap.size ≤ p ∧ Box w' p 100 #[.int .i64 (gchk n xs ys m us vs)] ∧ Below w.heap.size w w' := by
  have HS := hid (Box.made w 100 #[.int .i64 0])
  have HW := hid (alloc_later w (.cells #[.int .i64 0] 100))
  have HL : Hid (∀ (V : World) (E : Int), Below w.heap.size w V → Box V w.heap.size 100 #[.int .i64 E] → Calls Tryz.prog 58 #[.pointer (some ⟨w.heap.size, 0, none⟩), .agg #[.bool n, .slice a xs.length ca, .slice b ys.length cb, .bool m, .slice c us.length cc, .slice d vs.length cd]] V fun e w' => e = .returned (.tuple #[]) ∧ Box w' w.heap.size 100 #[.int .i64 (fstE E (gchk n xs ys m us vs))] ∧ V.grownBy w' (some w.heap.size)) := fun V E hv hb => glook_any w.heap.size E n a ca xs b cb ys m c cc us d cd vs V hb (sx.later hv) (sy.later hv) (su.later hv) (sv.later hv)
  generalize gchk n xs ys m us vs = E1 at *
  have HG := hid hg
  have hgl : g < w.heap.size := hg.lt
  clear hg sx sy su sv
  go_enter Tryz.func40, Tryz.ntmps40
  go_wp2_with fail
  generalize w.alloc (.cells #[.int .i64 0] 100) = X at *
  refine wp_loop_rounds 2 ?_
  rw [rounds_succ]
  have k0 : X.cell? ⟨g, 0, none⟩ = some (.bool n) := (HG.out.later (HW.out) hgl).cell 0
  have k1 : X.cell? ⟨g, 1, none⟩ = some (.slice a xs.length ca) := (HG.out.later (HW.out) hgl).cell 1
  have k2 : X.cell? ⟨g, 2, none⟩ = some (.slice b ys.length cb) := (HG.out.later (HW.out) hgl).cell 2
  have k3 : X.cell? ⟨g, 3, none⟩ = some (.bool m) := (HG.out.later (HW.out) hgl).cell 3
  have k4 : X.cell? ⟨g, 4, none⟩ = some (.slice c us.length cc) := (HG.out.later (HW.out) hgl).cell 4
  have k5 : X.cell? ⟨g, 5, none⟩ = some (.slice d vs.length cd) := (HG.out.later (HW.out) hgl).cell 5
  have HA0 := hid (alloc_later X (.cells #[.bool n, .slice a xs.length ca, .slice b ys.length cb, .bool m, .slice c us.length cc, .slice d vs.length cd] 29))
  go_wp2_with fail
  generalize X.alloc (.cells #[.bool n, .slice a xs.length ca, .slice b ys.length cb, .bool m, .slice c us.length cc, .slice d vs.length cd] 29) = Y0 at *
  refine Calls.mono (HL.out Y0 0 (bt (HW.out) HA0.out) ((HS.out).later HA0.out (HS.out).lt)) ?_
  rintro e z0 ⟨rfl, hz0, hgz0⟩
  have HZ0 := hid hz0
  have HB0 : Hid (Below w.heap.size w z0) := (bt (HW.out) HA0.out).grown hgz0 (bt (HW.out) HA0.out).size (fun q hq => by have e := Option.some.inj hq; omega)
  clear hz0 hgz0 k0 k1 k2 k3 k4 k5
  go_wp2_with fail
  rw [rounds_succ]
  go_wp2_with fail
  go_ret
  refine ⟨_, rfl, Nat.le_refl _, ?_, HB0.out⟩
  have e := HZ0.out
  rw [fstE_zero] at e
  exact e

set_option maxHeartbeats 1600000 in
set_option maxRecDepth 100000 in
theorem glookAt2_any (g : Nat) (n : Bool) (a : Option Addr) (ca : Nat) (xs : List Int) (b : Option Addr) (cb : Nat) (ys : List Int) (m : Bool) (c : Option Addr) (cc : Nat) (us : List Int) (d : Option Addr) (cd : Nat) (vs : List Int) (n2 : Bool) (a2 : Option Addr) (ca2 : Nat) (xs2 : List Int) (b2' : Option Addr) (cb2 : Nat) (ys2 : List Int) (m2 : Bool) (c2 : Option Addr) (cc2 : Nat) (us2 : List Int) (d2 : Option Addr) (cd2 : Nat) (vs2 : List Int) (w : World) (hg : Box w g 29 #[.bool n, .slice a xs.length ca, .slice b ys.length cb, .bool m, .slice c us.length cc, .slice d vs.length cd, .bool n2, .slice a2 xs2.length ca2, .slice b2' ys2.length cb2, .bool m2, .slice c2 us2.length cc2, .slice d2 vs2.length cd2]) (sx : Sl w (.slice a xs.length ca) xs) (sy : Sl w (.slice b ys.length cb) ys) (su : Sl w (.slice c us.length cc) us) (sv : Sl w (.slice d vs.length cd) vs) (sx2 : Sl w (.slice a2 xs2.length ca2) xs2) (sy2 : Sl w (.slice b2' ys2.length cb2) ys2) (su2 : Sl w (.slice c2 us2.length cc2) us2) (sv2 : Sl w (.slice d2 vs2.length cd2) vs2) :
    Calls Tryz.prog 40 #[.slice (some ⟨g, 0, none⟩) 2 2] w fun e w' => ∃ p, e = .returned (.pointer (some ⟨p, 0, none⟩)) ∧ w.heap.size ≤ p ∧ Box w' p 100 #[.int .i64 (fstE (gchk n xs ys m us vs) (gchk n2 xs2 ys2 m2 us2 vs2))] ∧ Below w.heap.size w w' := by
  have HS := hid (Box.made w 100 #[.int .i64 0])
  have HW := hid (alloc_later w (.cells #[.int .i64 0] 100))
  have HL : Hid (∀ (V : World) (E : Int), Below w.heap.size w V → Box V w.heap.size 100 #[.int .i64 E] → Calls Tryz.prog 58 #[.pointer (some ⟨w.heap.size, 0, none⟩), .agg #[.bool n, .slice a xs.length ca, .slice b ys.length cb, .bool m, .slice c us.length cc, .slice d vs.length cd]] V fun e w' => e = .returned (.tuple #[]) ∧ Box w' w.heap.size 100 #[.int .i64 (fstE E (gchk n xs ys m us vs))] ∧ V.grownBy w' (some w.heap.size)) := fun V E hv hb => glook_any w.heap.size E n a ca xs b cb ys m c cc us d cd vs V hb (sx.later hv) (sy.later hv) (su.later hv) (sv.later hv)
  have HL2 : Hid (∀ (V : World) (E : Int), Below w.heap.size w V → Box V w.heap.size 100 #[.int .i64 E] → Calls Tryz.prog 58 #[.pointer (some ⟨w.heap.size, 0, none⟩), .agg #[.bool n2, .slice a2 xs2.length ca2, .slice b2' ys2.length cb2, .bool m2, .slice c2 us2.length cc2, .slice d2 vs2.length cd2]] V fun e w' => e = .returned (.tuple #[]) ∧ Box w' w.heap.size 100 #[.int .i64 (fstE E (gchk n2 xs2 ys2 m2 us2 vs2))] ∧ V.grownBy w' (some w.heap.size)) := fun V E hv hb => glook_any w.heap.size E n2 a2 ca2 xs2 b2' cb2 ys2 m2 c2 cc2 us2 d2 cd2 vs2 V hb (sx2.later hv) (sy2.later hv) (su2.later hv) (sv2.later hv)
  generalize gchk n xs ys m us vs = E1 at *
  generalize gchk n2 xs2 ys2 m2 us2 vs2 = E2 at *
  have HG := hid hg
  have hgl : g < w.heap.size := hg.lt
  clear hg sx sy su sv sx2 sy2 su2 sv2
  go_enter Tryz.func40, Tryz.ntmps40
  go_wp2_with fail
  generalize w.alloc (.cells #[.int .i64 0] 100) = X at *
  refine wp_loop_rounds 3 ?_
  rw [rounds_succ]
  have k0 : X.cell? ⟨g, 0, none⟩ = some (.bool n) := (HG.out.later (HW.out) hgl).cell 0
  have k1 : X.cell? ⟨g, 1, none⟩ = some (.slice a xs.length ca) := (HG.out.later (HW.out) hgl).cell 1
  have k2 : X.cell? ⟨g, 2, none⟩ = some (.slice b ys.length cb) := (HG.out.later (HW.out) hgl).cell 2
  have k3 : X.cell? ⟨g, 3, none⟩ = some (.bool m) := (HG.out.later (HW.out) hgl).cell 3
  have k4 : X.cell? ⟨g, 4, none⟩ = some (.slice c us.length cc) := (HG.out.later (HW.out) hgl).cell 4
  have k5 : X.cell? ⟨g, 5, none⟩ = some (.slice d vs.length cd) := (HG.out.later (HW.out) hgl).cell 5
  have HA0 := hid (alloc_later X (.cells #[.bool n, .slice a xs.length ca, .slice b ys.length cb, .bool m, .slice c us.length cc, .slice d vs.length cd] 29))
  go_wp2_with fail
  generalize X.alloc (.cells #[.bool n, .slice a xs.length ca, .slice b ys.length cb, .bool m, .slice c us.length cc, .slice d vs.length cd] 29) = Y0 at *
  refine Calls.mono (HL.out Y0 0 (bt (HW.out) HA0.out) ((HS.out).later HA0.out (HS.out).lt)) ?_
  rintro e z0 ⟨rfl, hz0, hgz0⟩
  have HZ0 := hid hz0
  have HB0 : Hid (Below w.heap.size w z0) := (bt (HW.out) HA0.out).grown hgz0 (bt (HW.out) HA0.out).size (fun q hq => by have e := Option.some.inj hq; omega)
  clear hz0 hgz0 k0 k1 k2 k3 k4 k5
  go_wp2_with fail
  rw [rounds_succ]
  have k0 : z0.cell? ⟨g, 6, none⟩ = some (.bool n2) := (HG.out.later (HB0.out) hgl).cell 6
  have k1 : z0.cell? ⟨g, 7, none⟩ = some (.slice a2 xs2.length ca2) := (HG.out.later (HB0.out) hgl).cell 7
  have k2 : z0.cell? ⟨g, 8, none⟩ = some (.slice b2' ys2.length cb2) := (HG.out.later (HB0.out) hgl).cell 8
  have k3 : z0.cell? ⟨g, 9, none⟩ = some (.bool m2) := (HG.out.later (HB0.out) hgl).cell 9
  have k4 : z0.cell? ⟨g, 10, none⟩ = some (.slice c2 us2.length cc2) := (HG.out.later (HB0.out) hgl).cell 10
  have k5 : z0.cell? ⟨g, 11, none⟩ = some (.slice d2 vs2.length cd2) := (HG.out.later (HB0.out) hgl).cell 11
  have HA1 := hid (alloc_later z0 (.cells #[.bool n2, .slice a2 xs2.length ca2, .slice b2' ys2.length cb2, .bool m2, .slice c2 us2.length cc2, .slice d2 vs2.length cd2] 29))
  go_wp2_with fail
  generalize z0.alloc (.cells #[.bool n2, .slice a2 xs2.length ca2, .slice b2' ys2.length cb2, .bool m2, .slice c2 us2.length cc2, .slice d2 vs2.length cd2] 29) = Y1 at *
  refine Calls.mono (HL2.out Y1 (fstE 0 E1) (bt (HB0.out) HA1.out) ((HZ0.out).later HA1.out (HZ0.out).lt)) ?_
  rintro e z1 ⟨rfl, hz1, hgz1⟩
  have HZ1 := hid hz1
  have HB1 : Hid (Below w.heap.size w z1) := (bt (HB0.out) HA1.out).grown hgz1 (bt (HB0.out) HA1.out).size (fun q hq => by have e := Option.some.inj hq; omega)
  clear hz1 hgz1 k0 k1 k2 k3 k4 k5
  go_wp2_with fail
  rw [rounds_succ]
  go_wp2_with fail
  go_ret
  refine ⟨_, rfl, Nat.le_refl _, ?_, HB1.out⟩
  have e := HZ1.out
  rw [fstE_zero] at e
  exact e

end Go.Proofs.YtmgjkdijnjeljaaGreatDoor

/- Complex fractions, the steps' own: told. -/
namespace Go.Proofs.YtmgjkdijnjeljaaGreatDoor
open Go.RowKit
set_option linter.unusedVariables false

theorem box_put6 {U : World} {b t : Nat} {u0 u1 u2 u3 u4 u5 : Value} (h : Box U b t #[u0, u1, u2, u3, u4, u5]) (v0 v1 v2 v3 v4 v5 : Value) : Box ((((((U.setCell ⟨b, 0, none⟩ v0).setCell ⟨b, 1, none⟩ v1).setCell ⟨b, 2, none⟩ v2).setCell ⟨b, 3, none⟩ v3).setCell ⟨b, 4, none⟩ v4).setCell ⟨b, 5, none⟩ v5) b t #[v0, v1, v2, v3, v4, v5] := (((((h.set 0 v0).set 1 v1).set 2 v2).set 3 v3).set 4 v4).set 5 v5
theorem below_put6 {B : Nat} {x U : World} (h : Below B x U) (b : Nat) (hb : B ≤ b) (v0 v1 v2 v3 v4 v5 : Value) : Below B x ((((((U.setCell ⟨b, 0, none⟩ v0).setCell ⟨b, 1, none⟩ v1).setCell ⟨b, 2, none⟩ v2).setCell ⟨b, 3, none⟩ v3).setCell ⟨b, 4, none⟩ v4).setCell ⟨b, 5, none⟩ v5) :=
  (((((h.setCell (p := ⟨b, 0, none⟩) hb _).setCell (p := ⟨b, 1, none⟩) hb _).setCell (p := ⟨b, 2, none⟩) hb _).setCell (p := ⟨b, 3, none⟩) hb _).setCell (p := ⟨b, 4, none⟩) hb _).setCell (p := ⟨b, 5, none⟩) hb _
/-- What told tells is read out of a box and a slot. -/
theorem told_run {W : World} {b : Nat} {cs : Array Value} (hb : Box W b 29 cs) (tmps : Array Value) (h4 : tmps.getD 4 undef = .pointer (some ⟨b, 0, none⟩)) (hi : (Tryz.prog.info? 29).map (·.size) = some cs.size := by kernel_rfl) : (results Tryz.f43 tmps).run Tryz.prog W = .ok (.tuple #[.agg cs, tmps.getD 5 undef]) W := by
  have h := run_loadVar_row (P := Tryz.prog) W b 29 29 cs (0, 0) _ hb Tryz.underlying29 rfl hi
  rw [results_cell_tmp (by rfl), h4]
  simp [asAddr, h]

set_option maxHeartbeats 800000 in
set_option maxRecDepth 100000 in
theorem gtold_any (p : Nat) (E : Int) (n : Bool) (a : Option Addr) (ka ca : Nat) (b : Option Addr) (kb cb : Nat) (m : Bool) (c : Option Addr) (kc cc : Nat) (d : Option Addr) (kd cd : Nat) (w : World) (hp : Box w p 100 #[.int .i64 E]) :
    Calls Tryz.prog 43 #[.pointer (some ⟨p, 0, none⟩), .agg #[.bool n, .slice a ka ca, .slice b kb cb, .bool m, .slice c kc cc, .slice d kd cd]] w fun e w' => e = .returned (.tuple #[.agg (if E = 0 then #[.bool n, .slice a ka ca, .slice b kb cb, .bool m, .slice c kc cc, .slice d kd cd] else #[.bool false, .slice none 0 0, .slice none 0 0, .bool false, .slice none 0 0, .slice none 0 0]), .int .i64 E]) ∧ Below w.heap.size w w' := by
  have HX := hid (boxes2r w 29 #[.bool n, .slice a ka ca, .slice b kb cb, .bool m, .slice c kc cc, .slice d kd cd] #[.bool false, .slice none 0 0, .slice none 0 0, .bool false, .slice none 0 0, .slice none 0 0])
  obtain ⟨X, hX⟩ : ∃ X, (w.alloc (.cells #[.bool n, .slice a ka ca, .slice b kb cb, .bool m, .slice c kc cc, .slice d kd cd] 29)).alloc (.cells #[.bool false, .slice none 0 0, .slice none 0 0, .bool false, .slice none 0 0, .slice none 0 0] 29) = X := ⟨_, rfl⟩
  rw [hX] at HX
  have HP := hid (hp.later HX.out.2.2 hp.lt)
  have kp : X.cell? ⟨p, 0, none⟩ = some (.int .i64 E) := HP.out.cell 0
  have m0 : X.cell? ⟨w.heap.size + 1, 0, none⟩ = some (.bool false) := HX.out.2.1.cell 0
  have m1 : X.cell? ⟨w.heap.size + 1, 1, none⟩ = some (.slice none 0 0) := HX.out.2.1.cell 1
  have m2 : X.cell? ⟨w.heap.size + 1, 2, none⟩ = some (.slice none 0 0) := HX.out.2.1.cell 2
  have m3 : X.cell? ⟨w.heap.size + 1, 3, none⟩ = some (.bool false) := HX.out.2.1.cell 3
  have m4 : X.cell? ⟨w.heap.size + 1, 4, none⟩ = some (.slice none 0 0) := HX.out.2.1.cell 4
  have m5 : X.cell? ⟨w.heap.size + 1, 5, none⟩ = some (.slice none 0 0) := HX.out.2.1.cell 5
  have n0 := HX.out.2.1.free 0
  have n1 := HX.out.2.1.free 1
  have n2 := HX.out.2.1.free 2
  have n3 := HX.out.2.1.free 3
  have n4 := HX.out.2.1.free 4
  have n5 := HX.out.2.1.free 5
  have hpw : p < w.heap.size := hp.lt
  clear hp
  by_cases hE : E = 0
  · subst hE
    rw [if_pos rfl]
    have c0 : X.cell? ⟨w.heap.size, 0, none⟩ = some (.bool n) := HX.out.1.cell 0
    have c1 : X.cell? ⟨w.heap.size, 1, none⟩ = some (.slice a ka ca) := HX.out.1.cell 1
    have c2 : X.cell? ⟨w.heap.size, 2, none⟩ = some (.slice b kb cb) := HX.out.1.cell 2
    have c3 : X.cell? ⟨w.heap.size, 3, none⟩ = some (.bool m) := HX.out.1.cell 3
    have c4 : X.cell? ⟨w.heap.size, 4, none⟩ = some (.slice c kc cc) := HX.out.1.cell 4
    have c5 : X.cell? ⟨w.heap.size, 5, none⟩ = some (.slice d kd cd) := HX.out.1.cell 5
    go_enter Tryz.func43, Tryz.ntmps43
    go_wp2_with fail
    have B1 := box_put6 HX.out.2.1 (.bool n) (.slice a ka ca) (.slice b kb cb) (.bool m) (.slice c kc cc) (.slice d kd cd)
    have G1 := below_put6 HX.out.2.2 (w.heap.size + 1) (by omega) (.bool n) (.slice a ka ca) (.slice b kb cb) (.bool m) (.slice c kc cc) (.slice d kd cd)
    clear m0 m1 m2 m3 m4 m5 n0 n1 n2 n3 n4 n5 c0 c1 c2 c3 c4 c5 kp
    generalize (((((X.setCell ⟨w.heap.size + 1, 0, none⟩ (.bool n)).setCell ⟨w.heap.size + 1, 1, none⟩ (.slice a ka ca)).setCell ⟨w.heap.size + 1, 2, none⟩ (.slice b kb cb)).setCell ⟨w.heap.size + 1, 3, none⟩ (.bool m)).setCell ⟨w.heap.size + 1, 4, none⟩ (.slice c kc cc)).setCell ⟨w.heap.size + 1, 5, none⟩ (.slice d kd cd) = W at *
    exact bodyPost_ret (told_run B1 _ rfl) rfl ⟨rfl, G1⟩
  · have hE' : (E == 0) = false := by simp [hE]
    rw [if_neg hE]
    have hne : p ≠ w.heap.size + 1 := by omega
    go_enter Tryz.func43, Tryz.ntmps43
    go_wp2_with fail
    go_region
    all_goals
      go_wp2_with fail
      have B1 := box_put6 HX.out.2.1 (.bool false) (.slice none 0 0) (.slice none 0 0) (.bool false) (.slice none 0 0) (.slice none 0 0)
      have G1 := below_put6 HX.out.2.2 (w.heap.size + 1) (by omega) (.bool false) (.slice none 0 0) (.slice none 0 0) (.bool false) (.slice none 0 0) (.slice none 0 0)
      clear m0 m1 m2 m3 m4 m5 n0 n1 n2 n3 n4 n5 kp
      generalize (((((X.setCell ⟨w.heap.size + 1, 0, none⟩ (.bool false)).setCell ⟨w.heap.size + 1, 1, none⟩ (.slice none 0 0)).setCell ⟨w.heap.size + 1, 2, none⟩ (.slice none 0 0)).setCell ⟨w.heap.size + 1, 3, none⟩ (.bool false)).setCell ⟨w.heap.size + 1, 4, none⟩ (.slice none 0 0)).setCell ⟨w.heap.size + 1, 5, none⟩ (.slice none 0 0) = W at *
      have B2 : Box W.drew (w.heap.size + 1) 29 #[.bool false, .slice none 0 0, .slice none 0 0, .bool false, .slice none 0 0, .slice none 0 0] := B1
      exact bodyPost_ret (told_run B2 _ rfl) rfl ⟨rfl, G1.drew⟩
end Go.Proofs.YtmgjkdijnjeljaaGreatDoor

/- Complex fractions: gauss.Add, Sub: of any two, good or refused. -/
namespace Go.Proofs.YtmgjkdijnjeljaaGreatDoor
open Go.RowKit
set_option linter.unusedVariables false

/-- What a call tells that tells a complex fraction: E what was refused ahead, L whether something on the way is too long. -/
structure GTells (E : Int) (L : Prop) (q1 q2 : Rat) (n : Bool) (xs ys : List Int) (m : Bool) (us vs : List Int) (code : Int) : Prop where
  wd : Wd xs ∧ Wd ys ∧ Wd us ∧ Wd vs
  bad : E ≠ 0 → (n = false ∧ xs = [] ∧ ys = [] ∧ m = false ∧ us = [] ∧ vs = []) ∧ code = E
  long : E = 0 → L → (n = false ∧ xs = [] ∧ ys = [] ∧ m = false ∧ us = [] ∧ vs = []) ∧ code = 3
  good : E = 0 → ¬ L → code = 0 ∧ (rchk n xs ys = 0 ∧ rq n xs ys = q1) ∧ rchk m us vs = 0 ∧ rq m us vs = q2
def GTold (w : World) (E : Int) (L : Prop) (q1 q2 : Rat) (x : Ending) (w' : World) : Prop :=
  ∃ n a ca xs b cb ys m c cc us d cd vs code, x = .returned (.tuple #[.agg #[.bool n, .slice a (List.length xs) ca, .slice b (List.length ys) cb, .bool m, .slice c (List.length us) cc, .slice d (List.length vs) cd], .int .i64 code]) ∧ (w'.ownsRow w.heap.size 85 1 (.slice a xs.length ca) xs.length (xs.map (Value.int .u32)) ∧ w'.ownsRow w.heap.size 85 1 (.slice b ys.length cb) ys.length (ys.map (Value.int .u32)) ∧ w'.ownsRow w.heap.size 85 1 (.slice c us.length cc) us.length (us.map (Value.int .u32)) ∧ w'.ownsRow w.heap.size 85 1 (.slice d vs.length cd) vs.length (vs.map (Value.int .u32))) ∧ GTells E L q1 q2 n xs ys m us vs code ∧ Below w.heap.size w w'

theorem gchk_ok {n m : Bool} {xs ys us vs : List Int} (h : gchk n xs ys m us vs = 0) : rchk n xs ys = 0 ∧ rchk m us vs = 0 := by
  unfold gchk fstE at h
  by_cases e : rchk n xs ys = 0
  · rw [if_pos e] at h; exact ⟨e, h⟩
  · rw [if_neg e] at h; exact absurd h e
theorem fstE_ok {E e : Int} (h : fstE E e = 0) : E = 0 ∧ e = 0 := by
  unfold fstE at h
  by_cases c : E = 0
  · rw [if_pos c] at h; exact ⟨c, h⟩
  · rw [if_neg c] at h; exact absurd h c

theorem own_put6 {w : World} {base e n : Nat} {v : Value} {xs : List Value} (h : w.ownsRow base e 1 v n xs) (b : Nat) (hb : ∀ g, v.ownBlock = some g → g ≠ b) (u0 u1 u2 u3 u4 u5 : Value) : ((((((w.setCell ⟨b, 0, none⟩ u0).setCell ⟨b, 1, none⟩ u1).setCell ⟨b, 2, none⟩ u2).setCell ⟨b, 3, none⟩ u3).setCell ⟨b, 4, none⟩ u4).setCell ⟨b, 5, none⟩ u5).ownsRow base e 1 v n xs :=
  own_put1 (own_put1 (own_put1 (own_put3' h b hb u0 u1 u2) b hb 3 u3) b hb 4 u4) b hb 5 u5
/-- A complex fraction is read out of a box, its error out of a slot. -/
theorem gres_run {fn : Func} {W : World} {b q u : Nat} {cs : Array Value} (hr : fn.results = #[.cell q 29, .tmp u]) (hb : Box W b 29 cs) (tmps : Array Value) (h4 : tmps.getD q undef = .pointer (some ⟨b, 0, none⟩)) (hi : (Tryz.prog.info? 29).map (·.size) = some cs.size := by kernel_rfl) : (results fn tmps).run Tryz.prog W = .ok (.tuple #[.agg cs, tmps.getD u undef]) W := by
  have h := run_loadVar_row (P := Tryz.prog) W b 29 29 cs (0, 0) _ hb Tryz.underlying29 rfl hi
  rw [results_cell_tmp hr, h4]
  simp [asAddr, h]

/-- Two steps, and what is told of them. -/
theorem gtwo {E e1 e2 : Int} {q1 q2 : Rat} {n m : Bool} {xs ys us vs : List Int} {c1 c2 : Int} (h1 : RTells (fstE E e1) q1 n xs ys c1) (h2 : RTells (fstE c1 e2) q2 m us vs c2) (z1 : E = 0 → e1 = 0) (z2 : E = 0 → e2 = 0) :
    (c2 = 0 → GTells E (rlong q1 ∨ rlong q2) q1 q2 n xs ys m us vs c2) ∧ (c2 ≠ 0 → GTells E (rlong q1 ∨ rlong q2) q1 q2 false [] [] false [] [] c2) := by
  have w4 : Wd [] := Wd.nil
  by_cases hE : E = 0
  · subst hE
    rw [fstE_zero, z1 rfl] at h1
    rw [z2 rfl] at h2
    by_cases l1 : rlong q1
    · obtain ⟨_, _, _, hc⟩ := h1.long rfl l1
      subst hc
      rw [fstE_err 0 (by decide)] at h2
      obtain ⟨_, _, _, hc2⟩ := h2.bad (by decide)
      subst hc2
      exact ⟨fun h => absurd h (by decide), fun _ => ⟨⟨w4, w4, w4, w4⟩, fun h => absurd rfl h, fun _ _ => ⟨⟨rfl, rfl, rfl, rfl, rfl, rfl⟩, rfl⟩, fun _ h => absurd (.inl l1) h⟩⟩
    · obtain ⟨hc, hk1, hv1⟩ := h1.good rfl l1
      subst hc
      rw [fstE_zero] at h2
      by_cases l2 : rlong q2
      · obtain ⟨_, _, _, hc2⟩ := h2.long rfl l2
        subst hc2
        exact ⟨fun h => absurd h (by decide), fun _ => ⟨⟨w4, w4, w4, w4⟩, fun h => absurd rfl h, fun _ _ => ⟨⟨rfl, rfl, rfl, rfl, rfl, rfl⟩, rfl⟩, fun _ h => absurd (.inr l2) h⟩⟩
      · obtain ⟨hc2, hk2, hv2⟩ := h2.good rfl l2
        subst hc2
        exact ⟨fun _ => ⟨⟨h1.wx, h1.wy, h2.wx, h2.wy⟩, fun h => absurd rfl h, fun _ h => absurd h (by rintro (h | h); exact l1 h; exact l2 h), fun _ _ => ⟨rfl, ⟨hk1, hv1⟩, hk2, hv2⟩⟩, fun h => absurd rfl h⟩
  · rw [fstE_err _ hE] at h1
    obtain ⟨_, _, _, hc⟩ := h1.bad hE
    subst hc
    rw [fstE_err _ hE] at h2
    obtain ⟨_, _, _, hc2⟩ := h2.bad hE
    subst hc2
    exact ⟨fun h => absurd h hE, fun _ => ⟨⟨w4, w4, w4, w4⟩, fun _ => ⟨⟨rfl, rfl, rfl, rfl, rfl, rfl⟩, rfl⟩, fun h => absurd h hE, fun h => absurd h hE⟩⟩
theorem rboth0 {n m : Bool} {xs ys us vs : List Int} (h : rchk n xs ys = 0) (g : rchk m us vs = 0) : rboth n xs ys m us vs = 0 := rboth_good h g

end Go.Proofs.YtmgjkdijnjeljaaGreatDoor

/- Complex fractions: gauss.Parse: of any text. -/
namespace Go.Proofs.YtmgjkdijnjeljaaGreatDoor
open Go.RowKit Go.Lib
set_option linter.unusedVariables false

/-- A complex fraction told in new memory, all four rows apart. -/
def GToldC (w : World) (E : Int) (L : Prop) (q1 q2 : Rat) (x : Ending) (w' : World) : Prop :=
  ∃ n a ca xs b cb ys m c cc us d cd vs code, x = .returned (.tuple #[.agg #[.bool n, .slice a (List.length xs) ca, .slice b (List.length ys) cb, .bool m, .slice c (List.length us) cc, .slice d (List.length vs) cd], .int .i64 code]) ∧ (w'.ownsRow w.heap.size 85 1 (.slice a xs.length ca) xs.length (xs.map (Value.int .u32)) ∧ w'.ownsRow w.heap.size 85 1 (.slice b ys.length cb) ys.length (ys.map (Value.int .u32)) ∧ w'.ownsRow w.heap.size 85 1 (.slice c us.length cc) us.length (us.map (Value.int .u32)) ∧ w'.ownsRow w.heap.size 85 1 (.slice d vs.length cd) vs.length (vs.map (Value.int .u32))) ∧ GTells E L q1 q2 n xs ys m us vs code ∧ Below w.heap.size w w' ∧ ∃ W1, Cut w (.slice a xs.length ca) (.slice b ys.length cb) W1 ∧ Cut W1 (.slice c us.length cc) (.slice d vs.length cd) w'
theorem GToldC.told {w w' : World} {E : Int} {L : Prop} {q1 q2 : Rat} {x : Ending} (h : GToldC w E L q1 q2 x w') : GTold w E L q1 q2 x w' := by
  obtain ⟨n, a, ca, xs, b, cb, ys, m, c, cc, us, d, cd, vs, code, e, o, t, hb, _⟩ := h
  exact ⟨n, a, ca, xs, b, cb, ys, m, c, cc, us, d, cd, vs, code, e, o, t, hb⟩
theorem cut_nil (w w' : World) (h : w.heap.size ≤ w'.heap.size) : Cut w (.slice none 0 0) (.slice none 0 0) w' := ⟨w.heap.size, Nat.le_refl _, h, fun g hg => by simp [Value.ownBlock] at hg, fun g hg => by simp [Value.ownBlock] at hg⟩
theorem gtoldc_zero {w W : World} {E : Int} {L : Prop} {q1 q2 : Rat} {code : Int} (h : E ≠ 0 ∧ code = E ∨ E = 0 ∧ L ∧ code = 3) (hb : Below w.heap.size w W) : GToldC w E L q1 q2 (.returned (.tuple #[.agg #[.bool false, .slice none 0 0, .slice none 0 0, .bool false, .slice none 0 0, .slice none 0 0], .int .i64 code])) W := by
  refine ⟨false, none, 0, [], none, 0, [], false, none, 0, [], none, 0, [], code, rfl, ⟨World.ownsRow_nil _ _ _ _, World.ownsRow_nil _ _ _ _, World.ownsRow_nil _ _ _ _, World.ownsRow_nil _ _ _ _⟩, ⟨⟨Wd.nil, Wd.nil, Wd.nil, Wd.nil⟩, fun he => ⟨⟨rfl, rfl, rfl, rfl, rfl, rfl⟩, ?_⟩, fun he hl => ⟨⟨rfl, rfl, rfl, rfl, rfl, rfl⟩, ?_⟩, fun he hl => ?_⟩, hb, W, cut_nil _ _ hb.size, cut_nil _ _ (Nat.le_refl _)⟩
  · rcases h with h | h
    · exact h.2
    · exact absurd h.1 he
  · rcases h with h | h
    · exact absurd he h.1
    · exact h.2.2
  · rcases h with h | h
    · exact absurd he h.1
    · exact absurd h.2.1 hl

/-- The two pieces of a text. -/
def gp1 (l : List UInt8) : List UInt8 := (Lib.cut l [32]).1
def gp2 (l : List UInt8) : List UInt8 := (Lib.cut l [32]).2.1
def ggood (l : List UInt8) : Prop := rgood (gp1 l) ∧ rgood (gp2 l)
def gplong (l : List UInt8) : Prop := rlong (rpq (gp1 l)) ∨ rlong (rpq (gp2 l))
open Classical in
/-- What is refused of a text, but for numbers that are too long. -/
noncomputable def gpE (s : ByteArray) : Int := if 65536 < s.size then 3 else if ggood s.data.toList then 0 else 140
theorem gpE_long {s : ByteArray} (h : 65536 < s.size) : gpE s = 3 := by unfold gpE; rw [if_pos h]
theorem gpE_good {s : ByteArray} (hs : s.size ≤ 65536) (h : ggood s.data.toList) : gpE s = 0 := by unfold gpE; rw [if_neg (by omega), if_pos h]
theorem gpE_bad {s : ByteArray} (hs : s.size ≤ 65536) (h : ¬ ggood s.data.toList) : gpE s = 140 := by unfold gpE; rw [if_neg (by omega), if_neg h]
/-- The codes of both pieces, and what is told of them. -/
theorem gpar_codes {l1 l2 : List UInt8} (z1 : l1.length ≤ 65536) (z2 : l2.length ≤ 65536) {n m : Bool} {xs ys us vs : List Int} {c1 c2 : Int} (h1 : RTells (prErr ⟨l1.toArray⟩) (rpq l1) n xs ys c1) (h2 : RTells (prErr ⟨l2.toArray⟩) (rpq l2) m us vs c2) :
    (c1 = 130 ∧ ¬ (rgood l1 ∧ rgood l2)) ∨ (c1 ≠ 130 ∧ c2 = 130 ∧ ¬ (rgood l1 ∧ rgood l2)) ∨ ((rgood l1 ∧ rgood l2) ∧ c1 = 3 ∧ c2 ≠ 130 ∧ (rlong (rpq l1) ∨ rlong (rpq l2))) ∨ ((rgood l1 ∧ rgood l2) ∧ c1 = 0 ∧ c2 = 3 ∧ (rlong (rpq l1) ∨ rlong (rpq l2))) ∨ ((rgood l1 ∧ rgood l2) ∧ c1 = 0 ∧ c2 = 0 ∧ ¬ (rlong (rpq l1) ∨ rlong (rpq l2)) ∧ (rchk n xs ys = 0 ∧ rq n xs ys = rpq l1) ∧ rchk m us vs = 0 ∧ rq m us vs = rpq l2) := by
  have s1 : (⟨l1.toArray⟩ : ByteArray).size ≤ 65536 := by show l1.toArray.size ≤ 65536; simpa using z1
  have s2 : (⟨l2.toArray⟩ : ByteArray).size ≤ 65536 := by show l2.toArray.size ≤ 65536; simpa using z2
  have g1 : (⟨l1.toArray⟩ : ByteArray).data.toList = l1 := by simp
  have g2 : (⟨l2.toArray⟩ : ByteArray).data.toList = l2 := by simp
  have c2f : ¬ rgood l2 → c2 = 130 := fun h => by
    have e := prErr_bad s2 (by rw [g2]; exact h)
    rw [e] at h2
    exact (h2.bad (by decide)).2.2.2
  have c2t : rgood l2 → (c2 = 3 ∧ rlong (rpq l2)) ∨ (c2 = 0 ∧ ¬ rlong (rpq l2) ∧ rchk m us vs = 0 ∧ rq m us vs = rpq l2) := fun h => by
    have e := prErr_good s2 (by rw [g2]; exact h)
    rw [e] at h2
    by_cases hl : rlong (rpq l2)
    · exact .inl ⟨(h2.long rfl hl).2.2.2, hl⟩
    · exact .inr ⟨(h2.good rfl hl).1, hl, (h2.good rfl hl).2⟩
  by_cases k1 : rgood l1
  · have e := prErr_good s1 (by rw [g1]; exact k1)
    rw [e] at h1
    by_cases k2 : rgood l2
    · rcases c2t k2 with ⟨d, hl2⟩ | ⟨d, hl2, hk⟩
      · by_cases hl : rlong (rpq l1)
        · exact .inr (.inr (.inl ⟨⟨k1, k2⟩, (h1.long rfl hl).2.2.2, by omega, .inl hl⟩))
        · exact .inr (.inr (.inr (.inl ⟨⟨k1, k2⟩, (h1.good rfl hl).1, d, .inr hl2⟩)))
      · by_cases hl : rlong (rpq l1)
        · exact .inr (.inr (.inl ⟨⟨k1, k2⟩, (h1.long rfl hl).2.2.2, by omega, .inl hl⟩))
        · exact .inr (.inr (.inr (.inr ⟨⟨k1, k2⟩, (h1.good rfl hl).1, d, fun h => h.elim hl hl2, (h1.good rfl hl).2, hk⟩)))
    · refine .inr (.inl ⟨?_, c2f k2, fun h => k2 h.2⟩)
      by_cases hl : rlong (rpq l1)
      · have := (h1.long rfl hl).2.2.2; omega
      · have := (h1.good rfl hl).1; omega
  · have e := prErr_bad s1 (by rw [g1]; exact k1)
    rw [e] at h1
    exact .inl ⟨(h1.bad (by decide)).2.2.2, fun h => k1 h.1⟩

set_option maxHeartbeats 1600000 in
set_option maxRecDepth 100000 in
theorem gParse_long (s : ByteArray) (w : World) (hs : 65536 < s.size) (hm : s.size ≤ 281474976710656) (L : Prop) (q1 q2 : Rat) : Calls Tryz.prog 22 #[.string s] w (GToldC w 3 L q1 q2) := by
  have HX := hid (Box.made w 29 #[.bool false, .slice none 0 0, .slice none 0 0, .bool false, .slice none 0 0, .slice none 0 0])
  have HB := hid (alloc_later w (.cells #[.bool false, .slice none 0 0, .slice none 0 0, .bool false, .slice none 0 0, .slice none 0 0] 29))
  obtain ⟨X, hX⟩ : ∃ X, w.alloc (.cells #[.bool false, .slice none 0 0, .slice none 0 0, .bool false, .slice none 0 0, .slice none 0 0] 29) = X := ⟨_, rfl⟩
  rw [hX] at HX HB
  have m0 : X.cell? ⟨w.heap.size, 0, none⟩ = some (.bool false) := HX.out.cell 0
  have m1 : X.cell? ⟨w.heap.size, 1, none⟩ = some (.slice none 0 0) := HX.out.cell 1
  have m2 : X.cell? ⟨w.heap.size, 2, none⟩ = some (.slice none 0 0) := HX.out.cell 2
  have m3 : X.cell? ⟨w.heap.size, 3, none⟩ = some (.bool false) := HX.out.cell 3
  have m4 : X.cell? ⟨w.heap.size, 4, none⟩ = some (.slice none 0 0) := HX.out.cell 4
  have m5 : X.cell? ⟨w.heap.size, 5, none⟩ = some (.slice none 0 0) := HX.out.cell 5
  have f0 := HX.out.free 0
  have f1 := HX.out.free 1
  have f2 := HX.out.free 2
  have f3 := HX.out.free 3
  have f4 := HX.out.free 4
  have f5 := HX.out.free 5
  have hs' : (65536 : Int) < (s.size : Int) := by omega
  clear hs
  go_enter Tryz.func22, Tryz.ntmps22
  go_wp2_with fail
  have B1 := box_put6 HX.out (.bool false) (.slice none 0 0) (.slice none 0 0) (.bool false) (.slice none 0 0) (.slice none 0 0)
  have G1 := below_put6 HB.out w.heap.size (Nat.le_refl _) (.bool false) (.slice none 0 0) (.slice none 0 0) (.bool false) (.slice none 0 0) (.slice none 0 0)
  clear m0 m1 m2 m3 m4 m5 f0 f1 f2 f3 f4 f5
  exact bodyPost_ret (gres_run (by rfl) B1 _ rfl) rfl (gtoldc_zero (E := 3) (.inl ⟨by decide, rfl⟩) G1)

set_option maxHeartbeats 3200000 in
set_option maxRecDepth 100000 in
theorem gParse_any (s : ByteArray) (w : World) (hm : s.size ≤ 281474976710656) : Calls Tryz.prog 22 #[.string s] w (GToldC w (gpE s) (gplong s.data.toList) (rpq (gp1 s.data.toList)) (rpq (gp2 s.data.toList))) := by
  by_cases hs : 65536 < s.size
  · rw [gpE_long hs]
    exact gParse_long s w hs hm _ _ _
  have HX := hid (Box.made w 29 #[.bool false, .slice none 0 0, .slice none 0 0, .bool false, .slice none 0 0, .slice none 0 0])
  have HB := hid (alloc_later w (.cells #[.bool false, .slice none 0 0, .slice none 0 0, .bool false, .slice none 0 0, .slice none 0 0] 29))
  obtain ⟨X, hX⟩ : ∃ X, w.alloc (.cells #[.bool false, .slice none 0 0, .slice none 0 0, .bool false, .slice none 0 0, .slice none 0 0] 29) = X := ⟨_, rfl⟩
  rw [hX] at HX HB
  have hs' : ¬ (65536 : Int) < (s.size : Int) := by omega
  have HC := hid (zcut_any s 32 X hm)
  have hl : s.data.toList.length = s.size := Array.length_toList
  have hz1 : (Lib.cut s.data.toList [32]).1.length ≤ 65536 := by have := (zcut_len s.data.toList 32).1; omega
  have hz2 : (Lib.cut s.data.toList [32]).2.1.length ≤ 65536 := by have := (zcut_len s.data.toList 32).2; omega
  have HEG : Hid (ggood s.data.toList → gpE s = 0) := gpE_good (by omega)
  have HEB : Hid (¬ ggood s.data.toList → gpE s = 140) := gpE_bad (by omega)
  have HGG : Hid (ggood s.data.toList ↔ (rgood (gp1 s.data.toList) ∧ rgood (gp2 s.data.toList))) := Iff.rfl
  have HLL : Hid (gplong s.data.toList ↔ (rlong (rpq (gp1 s.data.toList)) ∨ rlong (rpq (gp2 s.data.toList)))) := Iff.rfl
  have e1 : gp1 s.data.toList = (Lib.cut s.data.toList [32]).1 := rfl
  have e2 : gp2 s.data.toList = (Lib.cut s.data.toList [32]).2.1 := rfl
  rw [← e1] at hz1 HC
  rw [← e2] at hz2 HC
  clear e1 e2 hl hs
  generalize gp1 s.data.toList = l1 at *
  generalize gp2 s.data.toList = l2 at *
  generalize ggood s.data.toList = GG at *
  generalize gplong s.data.toList = GL at *
  generalize gpE s = E at *
  have H1 : Hid (∀ V, Calls Tryz.prog 38 #[.string ⟨l1.toArray⟩] V (RToldA V (prErr ⟨l1.toArray⟩) (rpq l1))) := fun V => rparse_any ⟨l1.toArray⟩ V (by show l1.toArray.size ≤ 65536; simpa using hz1)
  have H2 : Hid (∀ V, Calls Tryz.prog 38 #[.string ⟨l2.toArray⟩] V (RToldA V (prErr ⟨l2.toArray⟩) (rpq l2))) := fun V => rparse_any ⟨l2.toArray⟩ V (by show l2.toArray.size ≤ 65536; simpa using hz2)
  have HP : Hid (∀ {n m : Bool} {xs ys us vs : List Int} {c1 c2 : Int}, RTells (prErr ⟨l1.toArray⟩) (rpq l1) n xs ys c1 → RTells (prErr ⟨l2.toArray⟩) (rpq l2) m us vs c2 → _) := fun h1 h2 => gpar_codes hz1 hz2 h1 h2
  generalize prErr ⟨l1.toArray⟩ = p1 at *
  generalize prErr ⟨l2.toArray⟩ = p2 at *
  generalize rpq l1 = q1 at *
  generalize rpq l2 = q2 at *
  generalize (rgood l1 ∧ rgood l2) = GD at *
  generalize (Lib.cut s.data.toList [32]).2.2 = fnd at *
  generalize l1.toArray = A1 at *
  generalize l2.toArray = A2 at *
  clear hz1 hz2
  go_enter Tryz.func22, Tryz.ntmps22
  go_wp2_with fail
  refine Calls.mono HC.out ?_
  rintro e w1 ⟨rfl, hb1⟩
  have HW1 := hid (bt HB.out hb1)
  have HR1 := hid (HX.out.later hb1 HX.out.lt)
  clear hb1 HC
  go_wp2_with fail
  refine Calls.mono (H1.out _) ?_
  rintro x w2 ⟨n, v, xs, u, ys, code1, rfl, ov1, ou1, ht1, hb2, hcut1⟩
  obtain ⟨av1, cv1, rfl⟩ := own_slice' ov1
  obtain ⟨au1, cu1, rfl⟩ := own_slice' ou1
  have HW2 := hid (bt HW1.out hb2)
  have HR2 := hid (HR1.out.later hb2 HR1.out.lt)
  have HN := hid (Box.made w2 27 #[.bool n, .slice av1 xs.length cv1, .slice au1 ys.length cu1])
  have HNB := hid (alloc_later w2 (.cells #[.bool n, .slice av1 xs.length cv1, .slice au1 ys.length cu1] 27))
  obtain ⟨Z, hZ⟩ : ∃ Z, w2.alloc (.cells #[.bool n, .slice av1 xs.length cv1, .slice au1 ys.length cu1] 27) = Z := ⟨_, rfl⟩
  rw [hZ] at HN HNB
  have HV1 := hid ov1
  have HU1 := hid ou1
  have HT1 := hid ht1
  have HC1 := hid hcut1
  have h12 : w1.heap.size ≤ w2.heap.size := hb2.size
  clear ov1 ou1 ht1 hcut1 hb2 H1
  go_wp2_with fail
  refine Calls.mono (H2.out _) ?_
  rintro x w3 ⟨m, v, us, u, vs, code2, rfl, ov2, ou2, ht2, hb3, hcut2⟩
  obtain ⟨av2, cv2, rfl⟩ := own_slice' ov2
  obtain ⟨au2, cu2, rfl⟩ := own_slice' ou2
  have HM := hid (Box.made w3 27 #[.bool m, .slice av2 us.length cv2, .slice au2 vs.length cu2])
  have HMB := hid (alloc_later w3 (.cells #[.bool m, .slice av2 us.length cv2, .slice au2 vs.length cu2] 27))
  obtain ⟨Q, hQ⟩ : ∃ Q, w3.alloc (.cells #[.bool m, .slice av2 us.length cv2, .slice au2 vs.length cu2] 27) = Q := ⟨_, rfl⟩
  rw [hQ] at HM HMB
  have hb2Q : Below w2.heap.size w2 Q := bt HNB.out (bt hb3 HMB.out)
  have HW3 := hid (bt HW2.out hb2Q)
  have HR3 := hid (HR2.out.later hb2Q HR2.out.lt)
  have HN3 := hid (HN.out.later (bt hb3 HMB.out) HN.out.lt)
  have HOO := hid (And.intro (owns_later HV1.out hb2Q) (And.intro (owns_later HU1.out hb2Q) (And.intro (owns_later ov2 HMB.out) (owns_later ou2 HMB.out))))
  have HC2 : Hid (Cut w2 (.slice av2 us.length cv2) (.slice au2 vs.length cu2) Q) := hcut2.up HNB.out.size HMB.out.size
  have HTT := hid (HP.out HT1.out ht2)
  have HWD := hid (And.intro HT1.out.wx (And.intro HT1.out.wy (And.intro ht2.wx ht2.wy)))
  have hsz1 : w.heap.size ≤ w1.heap.size := HW1.out.size
  have hszZ : w2.heap.size ≤ Z.heap.size := HNB.out.size
  clear ov2 ou2 ht2 hcut2 H2 HP hb2Q hb3 HT1
  have m0 : Q.cell? ⟨w.heap.size, 0, none⟩ = some (.bool false) := HR3.out.cell 0
  have m1 : Q.cell? ⟨w.heap.size, 1, none⟩ = some (.slice none 0 0) := HR3.out.cell 1
  have m2 : Q.cell? ⟨w.heap.size, 2, none⟩ = some (.slice none 0 0) := HR3.out.cell 2
  have m3 : Q.cell? ⟨w.heap.size, 3, none⟩ = some (.bool false) := HR3.out.cell 3
  have m4 : Q.cell? ⟨w.heap.size, 4, none⟩ = some (.slice none 0 0) := HR3.out.cell 4
  have m5 : Q.cell? ⟨w.heap.size, 5, none⟩ = some (.slice none 0 0) := HR3.out.cell 5
  have f0 := HR3.out.free 0
  have f1 := HR3.out.free 1
  have f2 := HR3.out.free 2
  have f3 := HR3.out.free 3
  have f4 := HR3.out.free 4
  have f5 := HR3.out.free 5
  rcases HTT.out with ⟨rfl, hg⟩ | ⟨d1, rfl, hg⟩ | ⟨hg, rfl, d2, hL⟩ | ⟨hg, rfl, rfl, hL⟩ | ⟨hg, rfl, rfl, hL, hk⟩
  · have HE := hid (HEB.out (fun h => hg (HGG.out.1 h)))
    clear HTT
    go_wp2_with fail
    have B1 := box_put6 HR3.out (.bool false) (.slice none 0 0) (.slice none 0 0) (.bool false) (.slice none 0 0) (.slice none 0 0)
    have G1 := below_put6 HW3.out w.heap.size (Nat.le_refl _) (.bool false) (.slice none 0 0) (.slice none 0 0) (.bool false) (.slice none 0 0) (.slice none 0 0)
    clear m0 m1 m2 m3 m4 m5 f0 f1 f2 f3 f4 f5
    exact bodyPost_ret (gres_run (by rfl) B1 _ rfl) rfl (gtoldc_zero (E := E) (.inl ⟨by rw [HE.out]; decide, HE.out.symm⟩) G1)
  · have HE := hid (HEB.out (fun h => hg (HGG.out.1 h)))
    have d1' : (code1 == 130) = false := by simp [d1]
    clear d1
    clear HTT
    go_wp2_with fail
    have B1 := box_put6 HR3.out (.bool false) (.slice none 0 0) (.slice none 0 0) (.bool false) (.slice none 0 0) (.slice none 0 0)
    have G1 := below_put6 HW3.out w.heap.size (Nat.le_refl _) (.bool false) (.slice none 0 0) (.slice none 0 0) (.bool false) (.slice none 0 0) (.slice none 0 0)
    clear m0 m1 m2 m3 m4 m5 f0 f1 f2 f3 f4 f5
    exact bodyPost_ret (gres_run (by rfl) B1 _ rfl) rfl (gtoldc_zero (E := E) (.inl ⟨by rw [HE.out]; decide, HE.out.symm⟩) G1)
  · have HE := hid (HEG.out (HGG.out.2 hg))
    have d2' : (code2 == 130) = false := by simp [d2]
    have HLo := hid (HLL.out.2 hL)
    clear d2 hL hg
    clear HTT
    go_wp2_with fail
    have B1 := box_put6 HR3.out (.bool false) (.slice none 0 0) (.slice none 0 0) (.bool false) (.slice none 0 0) (.slice none 0 0)
    have G1 := below_put6 HW3.out w.heap.size (Nat.le_refl _) (.bool false) (.slice none 0 0) (.slice none 0 0) (.bool false) (.slice none 0 0) (.slice none 0 0)
    clear m0 m1 m2 m3 m4 m5 f0 f1 f2 f3 f4 f5
    exact bodyPost_ret (gres_run (by rfl) B1 _ rfl) rfl (gtoldc_zero (E := E) (.inr ⟨HE.out, HLo.out, rfl⟩) G1)
  · have HE := hid (HEG.out (HGG.out.2 hg))
    have HLo := hid (HLL.out.2 hL)
    clear hL hg
    clear HTT
    go_wp2_with fail
    have B1 := box_put6 HR3.out (.bool false) (.slice none 0 0) (.slice none 0 0) (.bool false) (.slice none 0 0) (.slice none 0 0)
    have G1 := below_put6 HW3.out w.heap.size (Nat.le_refl _) (.bool false) (.slice none 0 0) (.slice none 0 0) (.bool false) (.slice none 0 0) (.slice none 0 0)
    clear m0 m1 m2 m3 m4 m5 f0 f1 f2 f3 f4 f5
    exact bodyPost_ret (gres_run (by rfl) B1 _ rfl) rfl (gtoldc_zero (E := E) (.inr ⟨HE.out, HLo.out, rfl⟩) G1)
  · have HE := hid (HEG.out (HGG.out.2 hg))
    have HLo := hid (fun h => hL (HLL.out.1 h))
    have HKK := hid hk
    have ka0 : Q.cell? ⟨w2.heap.size, 0, none⟩ = some (.bool n) := HN3.out.cell 0
    have ka1 : Q.cell? ⟨w2.heap.size, 1, none⟩ = some (.slice av1 xs.length cv1) := HN3.out.cell 1
    have ka2 : Q.cell? ⟨w2.heap.size, 2, none⟩ = some (.slice au1 ys.length cu1) := HN3.out.cell 2
    have kb0 : Q.cell? ⟨w3.heap.size, 0, none⟩ = some (.bool m) := HM.out.cell 0
    have kb1 : Q.cell? ⟨w3.heap.size, 1, none⟩ = some (.slice av2 us.length cv2) := HM.out.cell 1
    have kb2 : Q.cell? ⟨w3.heap.size, 2, none⟩ = some (.slice au2 vs.length cu2) := HM.out.cell 2
    clear HTT hL hk hg
    go_wp2_with fail
    have B1 := box_put6 HR3.out (.bool n) (.slice av1 xs.length cv1) (.slice au1 ys.length cu1) (.bool m) (.slice av2 us.length cv2) (.slice au2 vs.length cu2)
    have G1 := below_put6 HW3.out w.heap.size (Nat.le_refl _) (.bool n) (.slice av1 xs.length cv1) (.slice au1 ys.length cu1) (.bool m) (.slice av2 us.length cv2) (.slice au2 vs.length cu2)
    have hwX : w.heap.size < X.heap.size := HX.out.lt
    have hX1 : w.heap.size < w1.heap.size := HR1.out.lt
    have hput : ∀ {base k : Nat} {v : Value} {l : List Value}, Q.ownsRow base 85 1 v k l → (∀ g, v.ownBlock = some g → w1.heap.size ≤ g) → ((((((Q.setCell ⟨w.heap.size, 0, none⟩ (.bool n)).setCell ⟨w.heap.size, 1, none⟩ (.slice av1 xs.length cv1)).setCell ⟨w.heap.size, 2, none⟩ (.slice au1 ys.length cu1)).setCell ⟨w.heap.size, 3, none⟩ (.bool m)).setCell ⟨w.heap.size, 4, none⟩ (.slice av2 us.length cv2)).setCell ⟨w.heap.size, 5, none⟩ (.slice au2 vs.length cu2)).ownsRow base 85 1 v k l := fun h hb => own_put6 h _ (fun g hg => by have := hb g hg; omega) _ _ _ _ _ _
    clear m0 m1 m2 m3 m4 m5 f0 f1 f2 f3 f4 f5
    refine bodyPost_ret (gres_run (by rfl) B1 _ rfl) rfl ?_
    have hszQ : w.heap.size ≤ Z.heap.size := by omega
    refine ⟨n, av1, cv1, xs, au1, cu1, ys, m, av2, cv2, us, au2, cu2, vs, 0, rfl, ⟨owns_base (hput HOO.out.1 (fun g hg => (HOO.out.1.lt g hg).1)) hsz1, owns_base (hput HOO.out.2.1 (fun g hg => (HOO.out.2.1.lt g hg).1)) hsz1, owns_base (hput HOO.out.2.2.1 (fun g hg => by have := (HOO.out.2.2.1.lt g hg).1; omega)) hszQ, owns_base (hput HOO.out.2.2.2 (fun g hg => by have := (HOO.out.2.2.2.lt g hg).1; omega)) hszQ⟩, ⟨HWD.out, fun h => absurd HE.out h, fun _ h => absurd h HLo.out, fun _ _ => ⟨rfl, HKK.out⟩⟩, G1, w2, HC1.out.up hsz1 (Nat.le_refl _), HC2.out.up (Nat.le_refl _) (by simp [World.setCell])⟩
end Go.Proofs.YtmgjkdijnjeljaaGreatDoor

/- package tide: letter, digit, Name. -/
namespace Go.Proofs.YtmgjkdijnjeljaaGreatDoor
open Go.RowKit
set_option linter.unusedVariables false
set_option linter.unusedSimpArgs false

def tlet (c : Int) : Bool := decide (65 ≤ c) && decide (c ≤ 90) || decide (97 ≤ c) && decide (c ≤ 122)
def tdig (c : Int) : Bool := decide (48 ≤ c) && decide (c ≤ 57)
set_option maxHeartbeats 800000 in
set_option maxRecDepth 100000 in
theorem tletter_any (c : Int) (w : World) : Calls Tryz.prog 16 #[.int .u8 c] w fun e w' => e = .returned (.bool (tlet c)) ∧ w = w' := by
  by_cases a : 65 ≤ c <;> by_cases b : c ≤ 90 <;> by_cases d : 97 ≤ c <;> by_cases f : c ≤ 122
  all_goals
    have HR : Hid (tlet c = (decide (65 ≤ c) && decide (c ≤ 90) || decide (97 ≤ c) && decide (c ≤ 122))) := rfl
    go_enter Tryz.func16, Tryz.ntmps16
    go_wp2_with fail
    go_ret
    exact ⟨by rw [HR.out]; simp [a, b, d, f], rfl⟩
set_option maxHeartbeats 800000 in
set_option maxRecDepth 100000 in
theorem tdigit_any (c : Int) (w : World) : Calls Tryz.prog 17 #[.int .u8 c] w fun e w' => e = .returned (.bool (tdig c)) ∧ w = w' := by
  by_cases a : 48 ≤ c <;> by_cases b : c ≤ 57
  all_goals
    have HR : Hid (tdig c = (decide (48 ≤ c) && decide (c ≤ 57))) := rfl
    go_enter Tryz.func17, Tryz.ntmps17
    go_wp2_with fail
    go_ret
    exact ⟨by rw [HR.out]; simp [a, b], rfl⟩

/-- Is a text a name? -/
def tname (l : List UInt8) : Bool := decide (1 ≤ l.length) && decide (l.length ≤ 20) && tlet ((l[0]?.getD 0).toNat : Int) && l.all (fun c => tlet (c.toNat : Int) || tdig (c.toNat : Int))
theorem tbyte_at (s : ByteArray) (k : Nat) (h : k < s.size) : s.data.toList[k]? = some s[k] := by
  rw [List.getElem?_eq_getElem (by show k < s.data.toList.length; rw [Array.length_toList]; exact h)]
  rfl
theorem tsize_list (s : ByteArray) : s.data.toList.length = s.size := Array.length_toList
theorem tname_size {l : List UInt8} (h : l.length < 1 ∨ 20 < l.length) : tname l = false := by
  unfold tname
  rcases h with h | h
  · rw [decide_eq_false (by omega)]; rfl
  · rw [decide_eq_false (p := l.length ≤ 20) (by omega)]; simp
theorem tname_first {l : List UInt8} (h : tlet ((l[0]?.getD 0).toNat : Int) = false) : tname l = false := by
  unfold tname
  rw [h]; simp
theorem tname_all {l : List UInt8} (h1 : 1 ≤ l.length) (h2 : l.length ≤ 20) (h3 : tlet ((l[0]?.getD 0).toNat : Int) = true) (h : ∀ j, j < l.length → (tlet ((l[j]?.getD 0).toNat : Int) || tdig ((l[j]?.getD 0).toNat : Int)) = true) : tname l = true := by
  unfold tname
  rw [decide_eq_true h1, decide_eq_true h2, h3]
  simp only [Bool.and_true, Bool.true_and, Bool.and_self]
  rw [List.all_eq_true]
  intro c hc
  obtain ⟨j, hj, e⟩ := List.getElem_of_mem hc
  have := h j hj
  rw [List.getElem?_eq_getElem hj, e] at this
  exact this
theorem tname_bad {l : List UInt8} {k : Nat} {c : UInt8} (hk : l[k]? = some c) (h1 : tlet (c.toNat : Int) = false) (h2 : tdig (c.toNat : Int) = false) : tname l = false := by
  unfold tname
  have : l.all (fun c => tlet (c.toNat : Int) || tdig (c.toNat : Int)) = false := by
    rw [List.all_eq_false]
    exact ⟨c, List.mem_of_getElem? hk, by simp [h1, h2]⟩
  rw [this]; simp
set_option maxHeartbeats 1600000 in
set_option maxRecDepth 100000 in
theorem tName_any (s : ByteArray) (w : World) (hm : s.size ≤ 9223372036854775807) : Calls Tryz.prog 7 #[.string s] w fun e w' => e = .returned (.bool (tname s.data.toList)) ∧ w = w' := by
  have hl := tsize_list s
  by_cases h1 : (s.size : Int) < 1
  · have HF := hid (tname_size (l := s.data.toList) (.inl (by omega)))
    clear hl
    go_enter Tryz.func7, Tryz.ntmps7
    go_wp2_with fail
    go_ret
    exact ⟨ret_bool HF.out.symm, rfl⟩
  by_cases h2 : 20 < (s.size : Int)
  · have HF := hid (tname_size (l := s.data.toList) (.inr (by omega)))
    clear hl
    go_enter Tryz.func7, Tryz.ntmps7
    go_wp2_with fail
    go_ret
    exact ⟨ret_bool HF.out.symm, rfl⟩
  have hp : 0 < s.size := by omega
  have b0 := tbyte_at s 0 hp
  have HL := hid (fun c V => tletter_any c V)
  have HD := hid (fun c V => tdigit_any c V)
  have hS := hid (And.intro hl b0)
  have hz : (s.size : Int) ≤ 20 := by omega
  by_cases h3 : tlet (s[0].toNat : Int) = false
  · have HF := hid (tname_first (l := s.data.toList) (by rw [b0]; exact h3))
    clear hl b0
    go_enter Tryz.func7, Tryz.ntmps7
    go_wp2_with fail
    refine Calls.mono (HL.out _ _) ?_
    rintro e w' ⟨rfl, rfl⟩
    rw [h3]
    go_wp2_with fail
    go_ret
    exact ⟨ret_bool HF.out.symm, rfl⟩
  · have h3' : tlet (s[0].toNat : Int) = true := by simpa using h3
    have HALL : Hid ((∀ j, j < s.size → (tlet ((s.data.toList[j]?.getD 0).toNat : Int) || tdig ((s.data.toList[j]?.getD 0).toNat : Int)) = true) → tname s.data.toList = true) := fun h => tname_all (by omega) (by omega) (by rw [b0]; exact h3') (by rw [hl]; exact h)
    clear hl b0 h3
    go_enter Tryz.func7, Tryz.ntmps7
    go_wp2_with fail
    refine Calls.mono (HL.out _ _) ?_
    rintro e w' ⟨rfl, rfl⟩
    rw [h3']
    go_wp2_with fail
    go_loop [20] (fun t => ∃ k : Nat, k ≤ s.size ∧ t = .int .i64 k ∧ Hid (∀ j : Nat, j < k → (tlet ((s.data.toList[j]?.getD 0).toNat : Int) || tdig ((s.data.toList[j]?.getD 0).toNat : Int)) = true)) (fun t => s.size - (intOf t).toNat)
    case atStart => exact ⟨0, by omega, rfl, fun j hj => by omega⟩
    case round =>
      obtain ⟨k, hk, rfl, HJ⟩ := hrel
      by_cases hlt : k < s.size
      · have bk := tbyte_at s k hlt
        by_cases d1 : tlet (s[k].toNat : Int) = true
        · have HJ' : Hid (∀ j : Nat, j < k + 1 → (tlet ((s.data.toList[j]?.getD 0).toNat : Int) || tdig ((s.data.toList[j]?.getD 0).toNat : Int)) = true) := fun j hj => by
            by_cases e : j = k
            · rw [e, bk]; show (tlet (s[k].toNat : Int) || _) = true; rw [d1]; rfl
            · exact HJ.out j (by omega)
          clear bk
          go_wp2_with fail
          refine Calls.mono (HL.out _ _) ?_
          rintro e w1 ⟨rfl, rfl⟩
          rw [d1]
          go_wp2_with fail
          go_round
          case rel => exact ⟨k + 1, by omega, by go_num, HJ'⟩
          case measure => simp [intOf]; omega
        · have d1' : tlet (s[k].toNat : Int) = false := by simpa using d1
          by_cases d2 : tdig (s[k].toNat : Int) = true
          · have HJ' : Hid (∀ j : Nat, j < k + 1 → (tlet ((s.data.toList[j]?.getD 0).toNat : Int) || tdig ((s.data.toList[j]?.getD 0).toNat : Int)) = true) := fun j hj => by
              by_cases e : j = k
              · rw [e, bk]; show (_ || tdig (s[k].toNat : Int)) = true; rw [d2]; simp
              · exact HJ.out j (by omega)
            clear bk d1
            go_wp2_with fail
            refine Calls.mono (HL.out _ _) ?_
            rintro e w1 ⟨rfl, rfl⟩
            rw [d1']
            go_wp2_with fail
            refine Calls.mono (HD.out _ _) ?_
            rintro e w1 ⟨rfl, rfl⟩
            rw [d2]
            go_wp2_with fail
            go_round
            case rel => exact ⟨k + 1, by omega, by go_num, HJ'⟩
            case measure => simp [intOf]; omega
          · have d2' : tdig (s[k].toNat : Int) = false := by simpa using d2
            have HF := hid (tname_bad bk d1' d2')
            clear bk d1 d2
            go_wp2_with fail
            refine Calls.mono (HL.out _ _) ?_
            rintro e w1 ⟨rfl, rfl⟩
            rw [d1']
            go_wp2_with fail
            refine Calls.mono (HD.out _ _) ?_
            rintro e w1 ⟨rfl, rfl⟩
            rw [d2']
            go_wp2_with fail
            go_ret
            exact ⟨ret_bool HF.out.symm, rfl⟩
      · have HF := hid (HALL.out (fun j hj => HJ.out j (by omega)))
        go_wp2_with fail
        go_ret
        exact ⟨ret_bool HF.out.symm, rfl⟩
end Go.Proofs.YtmgjkdijnjeljaaGreatDoor

/- package rotor: size, commonDivisor, Check, Conj, half, of every rotor. -/
namespace Go.Proofs.YtmgjkdijnjeljaaGreatDoor
open Go.RowKit
set_option linter.unusedVariables false

/-- A rotor may be. -/
def rOK (f n : Int) : Prop := 1 ≤ f ∧ f ≤ 1000 ∧ 1 ≤ n.natAbs ∧ n.natAbs ≤ 1000 ∧ f ≠ (n.natAbs : Int) ∧ Nat.gcd f.toNat n.natAbs = 1
instance (f n : Int) : Decidable (rOK f n) := by unfold rOK; infer_instance
def ochk (f n : Int) : Int := if rOK f n then 0 else 150
def in32 (f n : Int) : Prop := (-2147483648 ≤ f ∧ f ≤ 2147483647) ∧ (-2147483648 ≤ n ∧ n ≤ 2147483647)
theorem ochk_or (f n : Int) : ochk f n = 0 ∧ rOK f n ∨ ochk f n = 150 ∧ ¬ rOK f n := by
  unfold ochk
  by_cases h : rOK f n
  · rw [if_pos h]; exact .inl ⟨rfl, h⟩
  · rw [if_neg h]; exact .inr ⟨rfl, h⟩

set_option maxHeartbeats 800000 in
set_option maxRecDepth 100000 in
theorem osize_any (n : Int) (w : World) (h0 : -9223372036854775808 < n) (h1 : n ≤ 9223372036854775807) :
    Calls Tryz.prog 33 #[.int .i64 n] w fun e w' => e = .returned (.int .i64 (n.natAbs : Int)) ∧ w' = w := by
  by_cases h : n < 0
  · go_enter Tryz.func33, Tryz.ntmps33
    go_wp2_with fail
    go_ret
    exact ⟨ret_int (by omega), rfl⟩
  · go_enter Tryz.func33, Tryz.ntmps33
    go_wp2_with fail
    go_ret
    exact ⟨ret_int (by omega), rfl⟩

set_option maxHeartbeats 800000 in
set_option maxRecDepth 100000 in
theorem ocommon_any (a b : Nat) (w : World) (ha : a < 9223372036854775808) (hb : b < 9223372036854775808) :
    Calls Tryz.prog 34 #[.int .i64 (a : Int), .int .i64 (b : Int)] w fun e w' => e = .returned (.int .i64 (Nat.gcd a b : Nat)) ∧ Below w.heap.size w w' := by
  go_enter Tryz.func34, Tryz.ntmps34
  go_wp2_with fail
  go_loopw [0, 1] (fun x y wr => ∃ c d : Nat, x = .int .i64 (c : Int) ∧ y = .int .i64 (d : Int) ∧ c < 9223372036854775808 ∧ d < 9223372036854775808 ∧ Hid (Nat.gcd c d = Nat.gcd a b) ∧ Below w.heap.size w wr) (fun _ y _ => (intOf y).toNat)
  case atStart => exact ⟨a, b, rfl, rfl, ha, hb, (rfl : Nat.gcd a b = Nat.gcd a b), Below.refl _ _⟩
  case round =>
    obtain ⟨c, d, rfl, rfl, hc, hd, hg, hX⟩ := hrel
    by_cases h0 : d = 0
    · subst h0
      have HG : Hid (c = Nat.gcd a b) := by have := hg.out; rw [Nat.gcd_zero_right] at this; exact this
      clear hg
      go_wp2_with fail
      go_ret
      exact ⟨ret_int (by rw [HG.out]), hX⟩
    · have hm : c % d < d := Nat.mod_lt _ (by omega)
      have HG : Hid (Nat.gcd d (c % d) = Nat.gcd a b) := by show _ = _; rw [← hg.out, Nat.gcd_comm c d, Nat.gcd_rec d c, Nat.gcd_comm]
      have h0' : (d : Int) ≠ 0 := by omega
      have e2 : Int.tmod (c : Int) (d : Int) = ((c % d : Nat) : Int) := by
        rw [Int.tmod_eq_emod_of_nonneg (by omega)]; rfl
      clear hg
      go_wp2_with fail
      go_region
      all_goals
        go_wp2_with fail
        go_roundw
        case rel => exact ⟨d, c % d, rfl, by go_num, by omega, by omega, HG, hX.drew⟩
        case measure => simp [intOf]; omega

set_option maxHeartbeats 1600000 in
set_option maxRecDepth 100000 in
theorem ocheck_any (f n : Int) (w : World) (h : in32 f n) :
    Calls Tryz.prog 18 #[.agg #[.int .i32 f, .int .i32 n]] w fun e w' => e = .returned (.int .i64 (ochk f n)) ∧ Below w.heap.size w w' := by
  obtain ⟨⟨f0, f1⟩, n0, n1⟩ := h
  have hb0 : Below w.heap.size w (w.alloc (.cells #[.int .i32 f, .int .i32 n] 24)) := (Below.refl _ _).alloc (Nat.le_refl _) _
  have HN : Hid (¬ (1 ≤ f ∧ f ≤ 1000 ∧ 1 ≤ (n.natAbs : Int) ∧ (n.natAbs : Int) ≤ 1000 ∧ f ≠ (n.natAbs : Int)) → ochk f n = 150) := fun h => by unfold ochk; rw [if_neg]; unfold rOK; omega
  have HY : Hid ((1 ≤ f ∧ f ≤ 1000 ∧ 1 ≤ (n.natAbs : Int) ∧ (n.natAbs : Int) ≤ 1000 ∧ f ≠ (n.natAbs : Int)) → Nat.gcd f.toNat n.natAbs = 1 → ochk f n = 0) := fun h g => by unfold ochk; rw [if_pos]; unfold rOK; omega
  have HY' : Hid (¬ Nat.gcd f.toNat n.natAbs = 1 → ochk f n = 150) := fun g => by unfold ochk; rw [if_neg]; unfold rOK; omega
  have HD : Hid (1 ≤ f → 1 ≤ Nat.gcd f.toNat n.natAbs) := fun g => Nat.gcd_pos_of_pos_left _ (by omega)
  have HS := hid (fun V => osize_any n V (by omega) (by omega))
  have HC : Hid (∀ V : World, 1 ≤ f → Calls Tryz.prog 34 #[.int .i64 f, .int .i64 (n.natAbs : Int)] V fun e w' => e = .returned (.int .i64 (Nat.gcd f.toNat n.natAbs : Nat)) ∧ Below V.heap.size V w') := fun V h1 => by
    have := ocommon_any f.toNat n.natAbs V (by omega) (by omega)
    rw [show ((f.toNat : Nat) : Int) = f by omega] at this
    exact this
  obtain ⟨d, hD⟩ : ∃ d, Nat.gcd f.toNat n.natAbs = d := ⟨_, rfl⟩
  rw [hD] at HY HY' HC HD
  clear hD
  have m1 : n.natAbs ≤ 2147483648 := by omega
  generalize n.natAbs = N at *
  go_enter Tryz.func18, Tryz.ntmps18
  go_wp2_with fail
  go_quiet ((go_at_call 33; exact Calls.quiet_of_same (HS.out _)))
  clear HS
  have HB0 : Hid (Below w.heap.size w ((w.alloc (.cells #[.int .i32 f, .int .i32 n] 24)).drewN nq)) := bdrewN hb0 nq
  generalize (w.alloc (.cells #[.int .i32 f, .int .i32 n] 24)).drewN nq = X at *
  clear hb0
  go_wp2_with fail
  all_goals try (go_ret; exact ⟨ret_int (HN.out (by omega)).symm, HB0.out⟩)
  refine Calls.mono (HC.out _ (by omega)) ?_
  rintro e w1 ⟨rfl, hb1⟩
  by_cases h1 : d = 1
  · subst h1
    go_wp2_with fail
    go_ret
    exact ⟨ret_int (HY.out (by omega) (by trivial)).symm, b2 HB0.out hb1⟩
  · have h1' : (1 : Int) < (d : Int) := by have := HD.out (by omega); omega
    go_wp2_with fail
    go_ret
    exact ⟨ret_int (HY'.out h1).symm, b2 HB0.out hb1⟩
end Go.Proofs.YtmgjkdijnjeljaaGreatDoor

/- package tide: Check. -/
namespace Go.Proofs.YtmgjkdijnjeljaaGreatDoor
open Go.RowKit
set_option linter.unusedVariables false

/-- What Check tells: of the name, the rotor, the number. -/
def tchk (l : List UInt8) (f n : Int) (g : Int) : Int := if tname l = true then fstE (ochk f n) g else 4
theorem tchk_name {l : List UInt8} (f n g : Int) (h : tname l = false) : tchk l f n g = 4 := by unfold tchk; rw [if_neg (by rw [h]; decide)]
theorem tchk_rest {l : List UInt8} (f n g : Int) (h : tname l = true) : tchk l f n g = fstE (ochk f n) g := by unfold tchk; rw [if_pos h]
set_option maxHeartbeats 1600000 in
set_option maxRecDepth 100000 in
theorem tCheck_any (s : ByteArray) (f r : Int) (n : Bool) (a : Option Addr) (ca : Nat) (xs : List Int) (b : Option Addr) (cb : Nat) (ys : List Int) (m : Bool) (c : Option Addr) (cc : Nat) (us : List Int) (d : Option Addr) (cd : Nat) (vs : List Int) (w : World) (hz : s.size ≤ 9223372036854775807) (hr : in32 f r) (sx : Sl w (.slice a xs.length ca) xs) (sy : Sl w (.slice b ys.length cb) ys) (su : Sl w (.slice c us.length cc) us) (sv : Sl w (.slice d vs.length cd) vs) :
    Calls Tryz.prog 8 #[.agg #[.string s, .int .i32 f, .int .i32 r, .bool n, .slice a xs.length ca, .slice b ys.length cb, .bool m, .slice c us.length cc, .slice d vs.length cd]] w fun e w' => e = .returned (.int .i64 (tchk s.data.toList f r (gchk n xs ys m us vs))) ∧ Below w.heap.size w w' := by
  have HX := hid (Box.made w 31 #[.string s, .int .i32 f, .int .i32 r, .bool n, .slice a xs.length ca, .slice b ys.length cb, .bool m, .slice c us.length cc, .slice d vs.length cd])
  have HB := hid (alloc_later w (.cells #[.string s, .int .i32 f, .int .i32 r, .bool n, .slice a xs.length ca, .slice b ys.length cb, .bool m, .slice c us.length cc, .slice d vs.length cd] 31))
  obtain ⟨X, hX⟩ : ∃ X, w.alloc (.cells #[.string s, .int .i32 f, .int .i32 r, .bool n, .slice a xs.length ca, .slice b ys.length cb, .bool m, .slice c us.length cc, .slice d vs.length cd] 31) = X := ⟨_, rfl⟩
  rw [hX] at HX HB
  have HN := hid (tName_any s X hz)
  have HR := hid (ocheck_any f r X hr)
  have HG : Hid (∀ V, Below w.heap.size w V → Calls Tryz.prog 19 #[.agg #[.bool n, .slice a xs.length ca, .slice b ys.length cb, .bool m, .slice c us.length cc, .slice d vs.length cd]] V fun e w' => e = .returned (.int .i64 (gchk n xs ys m us vs)) ∧ Below V.heap.size V w') := fun V hv => gcheck_any n _ xs _ ys m _ us _ vs V (sx.later hv) (sy.later hv) (su.later hv) (sv.later hv)
  generalize gchk n xs ys m us vs = G at *
  have HK1 := hid (tchk_name (l := s.data.toList) f r G)
  have HK2 := hid (tchk_rest (l := s.data.toList) f r G)
  generalize tchk s.data.toList f r G = T at *
  generalize tname s.data.toList = NM at *
  generalize ochk f r = E at *
  clear sx sy su sv hr
  have k0 : X.cell? ⟨w.heap.size, 0, none⟩ = some (.string s) := HX.out.cell 0
  have k1 : X.cell? ⟨w.heap.size, 1, none⟩ = some (.int .i32 f) := HX.out.cell 1
  have k2 : X.cell? ⟨w.heap.size, 2, none⟩ = some (.int .i32 r) := HX.out.cell 2
  have k3 : X.cell? ⟨w.heap.size, 3, none⟩ = some (.bool n) := HX.out.cell 3
  have k4 : X.cell? ⟨w.heap.size, 4, none⟩ = some (.slice a xs.length ca) := HX.out.cell 4
  have k5 : X.cell? ⟨w.heap.size, 5, none⟩ = some (.slice b ys.length cb) := HX.out.cell 5
  have k6 : X.cell? ⟨w.heap.size, 6, none⟩ = some (.bool m) := HX.out.cell 6
  have k7 : X.cell? ⟨w.heap.size, 7, none⟩ = some (.slice c us.length cc) := HX.out.cell 7
  have k8 : X.cell? ⟨w.heap.size, 8, none⟩ = some (.slice d vs.length cd) := HX.out.cell 8
  cases NM with
  | false =>
    have HT := hid (HK1.out rfl)
    go_enter Tryz.func8, Tryz.ntmps8
    go_wp2_with fail
    refine Calls.mono HN.out ?_
    rintro e w1 ⟨rfl, rfl⟩
    go_wp2_with fail
    go_ret
    exact ⟨ret_int HT.out.symm, HB.out⟩
  | true =>
    have HT := hid (HK2.out rfl)
    by_cases hE : E = 0
    · subst hE
      have HT2 := hid (HT.out.trans (fstE_zero G))
      clear HT
      go_enter Tryz.func8, Tryz.ntmps8
      go_wp2_with fail
      refine Calls.mono HN.out ?_
      rintro e w1 ⟨rfl, rfl⟩
      go_wp2_with fail
      refine Calls.mono HR.out ?_
      rintro e w1 ⟨rfl, hb1⟩
      have HX1 := hid (HX.out.later hb1 HX.out.lt)
      have HB1 := hid (bt HB.out hb1)
      clear k0 k1 k2 k3 k4 k5 k6 k7 k8 hb1
      have k3 : w1.cell? ⟨w.heap.size, 3, none⟩ = some (.bool n) := HX1.out.cell 3
      have k4 : w1.cell? ⟨w.heap.size, 4, none⟩ = some (.slice a xs.length ca) := HX1.out.cell 4
      have k5 : w1.cell? ⟨w.heap.size, 5, none⟩ = some (.slice b ys.length cb) := HX1.out.cell 5
      have k6 : w1.cell? ⟨w.heap.size, 6, none⟩ = some (.bool m) := HX1.out.cell 6
      have k7 : w1.cell? ⟨w.heap.size, 7, none⟩ = some (.slice c us.length cc) := HX1.out.cell 7
      have k8 : w1.cell? ⟨w.heap.size, 8, none⟩ = some (.slice d vs.length cd) := HX1.out.cell 8
      go_wp2_with fail
      refine Calls.mono (HG.out _ HB1.out) ?_
      rintro e w2 ⟨rfl, hb2⟩
      have HB2 := hid (bt HB1.out hb2)
      clear hb2 k3 k4 k5 k6 k7 k8
      go_wp2_with fail
      go_ret
      exact ⟨ret_int HT2.out.symm, HB2.out⟩
    · have HT2 := hid (HT.out.trans (fstE_err G hE))
      have hE' : (E == 0) = false := by simp [hE]
      have hE2 : (E != 0) = true := by simp [hE]
      clear HT
      go_enter Tryz.func8, Tryz.ntmps8
      go_wp2_with fail
      refine Calls.mono HN.out ?_
      rintro e w1 ⟨rfl, rfl⟩
      go_wp2_with fail
      refine Calls.mono HR.out ?_
      rintro e w1 ⟨rfl, hb1⟩
      have HB1 := hid (bt HB.out hb1)
      clear hb1 k0 k1 k2 k3 k4 k5 k6 k7 k8
      go_wp2_with fail
      go_ret
      exact ⟨ret_int HT2.out.symm, HB1.out⟩
end Go.Proofs.YtmgjkdijnjeljaaGreatDoor

/- package tide: decimal, readNumber, readRotor. -/
namespace Go.Proofs.YtmgjkdijnjeljaaGreatDoor
open Go.RowKit Go.Lib
set_option linter.unusedVariables false
set_option linter.unusedSimpArgs false

/-- strconv's two errors are values of their type. -/
def ErrT (w : World) : Prop := (∃ te pe, w.cell? ⟨1, 0, none⟩ = some (.iface te pe)) ∧ (∃ te pe, w.cell? ⟨2, 0, none⟩ = some (.iface te pe))
theorem zcell_lt {w : World} {b j : Nat} {v : Value} (h : w.cell? ⟨b, j, none⟩ = some v) : b < w.heap.size := by
  rcases Nat.lt_or_ge b w.heap.size with h' | h'
  · exact h'
  · unfold World.cell? at h
    rw [Array.getElem?_eq_none h'] at h
    simp at h
theorem ErrT.later {w w' : World} (h : ErrT w) (hb : Below w.heap.size w w') : ErrT w' := by
  obtain ⟨⟨a, b, h1⟩, c, d, h2⟩ := h
  exact ⟨⟨a, b, (hb.cell (p := ⟨_, 0, none⟩) (zcell_lt h1)).trans h1⟩, c, d, (hb.cell (p := ⟨_, 0, none⟩) (zcell_lt h2)).trans h2⟩
theorem zbytes_app (a b : List UInt8) : ((⟨a.toArray⟩ : ByteArray) ++ (⟨b.toArray⟩ : ByteArray)) = ⟨(a ++ b).toArray⟩ := by
  apply ByteArray.ext
  rw [ByteArray.data_append]
  simp
theorem zstr_other {s t : ByteArray} (h : ¬ s = t) : (s.toList == t.toList) = false := by
  apply beq_eq_false_iff_ne.2
  intro e
  rw [Lib.toList_data, Lib.toList_data] at e
  exact h (ByteArray.ext (Array.toList_inj.1 e))
theorem zitoa_len (n : Int) (h0 : -2147483648 ≤ n) (h1 : n ≤ 2147483647) : (itoa n).length ≤ 21 := by
  unfold itoa
  split
  · rw [List.length_cons, decDigits_length]
    have := nDigits_le20 n.natAbs (by omega)
    omega
  · rw [decDigits_length]
    have := nDigits_le20 n.toNat (by omega)
    omega
theorem zitoa_any (n : Int) (w : World) (h0 : -9223372036854775808 ≤ n) (h1 : n ≤ 9223372036854775807) (htab : Tab w) :
    Calls Tryz.prog 51 #[.int .i64 n] w fun e w' => e = .returned (.string ⟨(itoa n).toArray⟩) ∧ Below w.heap.size w w' := by
  refine Calls.mono (Tryz.strconv_Itoa n h0 h1 w htab) ?_
  rintro e w' ⟨rfl, k, os, rfl⟩
  refine ⟨rfl, rfl, rfl, rfl, ?_, fun b hb => ?_⟩
  · show w.heap.size ≤ (w.heap ++ os).size
    rw [Array.size_append]; omega
  · show (w.heap ++ os)[b]? = w.heap[b]?
    rw [Array.getElem?_append_left hb]
set_option maxHeartbeats 800000 in
set_option maxRecDepth 100000 in
theorem tdecimal_any (n : Int) (w : World) (h0 : -2147483648 ≤ n) (h1 : n ≤ 2147483647) (htab : Tab w) :
    Calls Tryz.prog 31 #[.int .i32 n] w fun e w' => e = .returned (.string ⟨(itoa n).toArray⟩) ∧ Below w.heap.size w w' := by
  have HI := hid (zitoa_any n w (by omega) (by omega) htab)
  have hw : IntKind.i64.wrap n = n := by rw [IntKind.wrap_i64]; omega
  clear htab
  go_enter Tryz.func31, Tryz.ntmps31
  go_wp2_with fail
  refine Calls.mono HI.out ?_
  rintro e w1 ⟨rfl, hb⟩
  go_wp2_with fail
  go_ret
  exact ⟨rfl, hb⟩

/-- The number of a text of at most five bytes; is it one? -/
def tnumOk (l : List UInt8) : Bool := decide (l.length ≤ 5) && (match atoiAll l with | .ok v => decide (itoa v = l) | _ => false)
def tnumV (l : List UInt8) : Int := if tnumOk l = true then (match atoiAll l with | .ok v => v | _ => 0) else 0
theorem itoa_small {v : Int} (h : (itoa v).length ≤ 5) : -99999 ≤ v ∧ v ≤ 99999 := by
  unfold itoa at h
  by_cases hv : v < 0
  · rw [if_pos hv, List.length_cons, decDigits_length] at h
    have h1 := lt_pow_nDigits v.natAbs
    have h2 : (10 : Nat) ^ nDigits v.natAbs ≤ 10 ^ 5 := Nat.pow_le_pow_right (by decide) (by omega)
    omega
  · rw [if_neg hv, decDigits_length] at h
    have h1 := lt_pow_nDigits v.toNat
    have h2 : (10 : Nat) ^ nDigits v.toNat ≤ 10 ^ 5 := Nat.pow_le_pow_right (by decide) (by omega)
    omega
theorem tnumV_in (l : List UInt8) : -99999 ≤ tnumV l ∧ tnumV l ≤ 99999 := by
  unfold tnumV
  by_cases h : tnumOk l = true
  · rw [if_pos h]
    unfold tnumOk at h
    cases hp : atoiAll l with
    | ok v =>
      rw [hp] at h
      simp at h
      simp only
      exact itoa_small (by rw [h.2]; exact h.1)
    | «syntax» => simp
    | range => simp
  · rw [if_neg h]; decide
set_option maxHeartbeats 1600000 in
set_option maxRecDepth 100000 in
theorem treadNumber_any (s : ByteArray) (w : World) (hs : s.size ≤ 65536) (htab : Tab w) (herr : ErrT w) :
    Calls Tryz.prog 37 #[.string s] w fun e w' => e = .returned (.tuple #[.int .i32 (tnumV s.data.toList), .bool (tnumOk s.data.toList)]) ∧ Below w.heap.size w w' := by
  have hl : s.data.toList.length = s.size := Array.length_toList
  by_cases h5 : 5 < (s.size : Int)
  · have e1 : tnumOk s.data.toList = false := by unfold tnumOk; rw [decide_eq_false (by omega)]; rfl
    have e2 : tnumV s.data.toList = 0 := by unfold tnumV; rw [if_neg (by rw [e1]; decide)]
    rw [e1, e2]
    clear hl e1 e2
    go_enter Tryz.func37, Tryz.ntmps37
    go_wp2_with fail
    go_ret2
    exact ⟨rfl, Below.refl _ _⟩
  obtain ⟨⟨te, pe, h1⟩, te2, pe2, h2⟩ := herr
  have HT := hid htab
  clear htab
  cases hp : atoiAll s.data.toList with
  | ok v =>
    have HC := hid (Tryz.strconv_Atoi_ok s (by omega) v hp w)
    have hvb := atoiAll_bounds hp
    have HI : Hid (∀ V, Below w.heap.size w V → Calls Tryz.prog 51 #[.int .i64 v] V fun e w' => e = .returned (.string ⟨(itoa v).toArray⟩) ∧ Below V.heap.size V w') := fun V hv => zitoa_any v V hvb.1 hvb.2 (HT.out.later hv)
    by_cases hi : (⟨(itoa v).toArray⟩ : ByteArray) = s
    · have hi2 : itoa v = s.data.toList := by rw [← hi]
      have e1 : tnumOk s.data.toList = true := by unfold tnumOk; rw [decide_eq_true (by omega), hp]; simp [hi2]
      have e2 : tnumV s.data.toList = v := by unfold tnumV; rw [if_pos e1, hp]
      have e3 := tnumV_in s.data.toList
      rw [e1, e2]
      rw [e2] at e3
      have hw : IntKind.i32.wrap v = v := by rw [IntKind.wrap_i32]; omega
      rw [hi] at HI
      clear e1 e2 e3 hi hi2 hp hl h1 h2 hvb
      go_enter Tryz.func37, Tryz.ntmps37
      go_wp2_with fail
      refine Calls.mono HC.out ?_
      rintro e w1 ⟨rfl, hw1⟩
      have HB : Hid (Below w.heap.size w w1) := by
        rcases hw1 with rfl | ⟨t, rfl⟩
        · exact Below.refl _ _
        · exact Lib.bytesWorld_below w _ t
      clear hw1
      go_wp2_with fail
      refine Calls.mono (HI.out _ HB.out) ?_
      rintro e w2 ⟨rfl, hb2⟩
      have HB2 := hid (bt HB.out hb2)
      clear hb2
      go_wp2_with fail
      go_ret2
      exact ⟨rfl, HB2.out⟩
    · have e1 : tnumOk s.data.toList = false := by
        unfold tnumOk
        rw [hp]
        have : ¬ itoa v = s.data.toList := fun e => hi (by rw [e])
        simp [this]
      have e2 : tnumV s.data.toList = 0 := by unfold tnumV; rw [if_neg (by rw [e1]; decide)]
      rw [e1, e2]
      have hne := zstr_other hi
      clear e1 e2 hi hp hl h1 h2 hvb
      generalize (⟨(itoa v).toArray⟩ : ByteArray) = IT at *
      go_enter Tryz.func37, Tryz.ntmps37
      go_wp2_with fail
      refine Calls.mono HC.out ?_
      rintro e w1 ⟨rfl, hw1⟩
      have HB : Hid (Below w.heap.size w w1) := by
        rcases hw1 with rfl | ⟨t, rfl⟩
        · exact Below.refl _ _
        · exact Lib.bytesWorld_below w _ t
      clear hw1
      go_wp2_with fail
      refine Calls.mono (HI.out _ HB.out) ?_
      rintro e w2 ⟨rfl, hb2⟩
      have HB2 := hid (bt HB.out hb2)
      clear hb2
      go_wp2_with fail
      go_ret2
      exact ⟨rfl, HB2.out⟩
  | «syntax» =>
    have e1 : tnumOk s.data.toList = false := by unfold tnumOk; rw [hp]; simp
    have e2 : tnumV s.data.toList = 0 := by unfold tnumV; rw [if_neg (by rw [e1]; decide)]
    rw [e1, e2]
    have HC := hid (Tryz.strconv_Atoi_syntax s (by omega) hp _ w h1 (.inr ⟨te, pe, rfl⟩))
    clear hp hl e1 e2
    go_enter Tryz.func37, Tryz.ntmps37
    go_wp2_with fail
    refine Calls.mono HC.out ?_
    rintro e w1 ⟨N, rfl, hN, _, hb⟩
    go_wp2_with fail
    go_ret2
    exact ⟨rfl, hb⟩
  | range =>
    have e1 : tnumOk s.data.toList = false := by unfold tnumOk; rw [hp]; simp
    have e2 : tnumV s.data.toList = 0 := by unfold tnumV; rw [if_neg (by rw [e1]; decide)]
    rw [e1, e2]
    have HC := hid (Tryz.strconv_Atoi_range s (by omega) hp _ w h2 (.inr ⟨te2, pe2, rfl⟩))
    clear hp hl e1 e2
    go_enter Tryz.func37, Tryz.ntmps37
    go_wp2_with fail
    refine Calls.mono HC.out ?_
    rintro e w1 ⟨N, rfl, hN, _, hb⟩
    go_wp2_with fail
    go_ret2
    exact ⟨rfl, hb⟩
set_option maxHeartbeats 1600000 in
set_option maxRecDepth 100000 in
theorem treadRotor_any (s t : ByteArray) (w : World) (hs : s.size ≤ 65536) (ht : t.size ≤ 65536) (htab : Tab w) (herr : ErrT w) :
    Calls Tryz.prog 21 #[.string s, .string t] w fun e w' => e = .returned (.tuple #[.agg #[.int .i32 (tnumV s.data.toList), .int .i32 (tnumV t.data.toList)], .bool (tnumOk s.data.toList && tnumOk t.data.toList)]) ∧ Below w.heap.size w w' := by
  have HX := hid (boxes1 w 24 #[.int .i32 0, .int .i32 0])
  have H1 := hid (treadNumber_any s (w.alloc (.cells #[.int .i32 0, .int .i32 0] 24)) hs (htab.later HX.out.2) (herr.later HX.out.2))
  have H2 : Hid (∀ V, Below w.heap.size w V → Calls Tryz.prog 37 #[.string t] V fun e w' => e = .returned (.tuple #[.int .i32 (tnumV t.data.toList), .bool (tnumOk t.data.toList)]) ∧ Below V.heap.size V w') := fun V hv => treadNumber_any t V ht (htab.later hv) (herr.later hv)
  generalize tnumV s.data.toList = A at *
  generalize tnumV t.data.toList = B at *
  generalize tnumOk s.data.toList = P at *
  generalize tnumOk t.data.toList = Q at *
  clear htab herr
  cases P <;> cases Q
  all_goals
    go_enter Tryz.func21, Tryz.ntmps21
    go_wp2_with fail
    generalize w.alloc (.cells #[.int .i32 0, .int .i32 0] 24) = X at *
    refine Calls.mono H1.out ?_
    rintro e w1 ⟨rfl, hb1⟩
    have HB1 := hid (bt HX.out.2 hb1)
    have HX1 := hid (HX.out.1.later hb1 HX.out.1.lt)
    clear hb1 H1
    go_wp2_with fail
    refine Calls.mono (H2.out _ HB1.out) ?_
    rintro e w2 ⟨rfl, hb2⟩
    have HB2 := hid (bt HB1.out hb2)
    have HX2 := hid (HX1.out.later hb2 HX1.out.lt)
    clear hb2 H2
    obtain ⟨c0, c1, g0, g1⟩ := fbox_facts HX2.out (Below.refl _ _)
    go_wp2_with fail
    refine bodyPost_ret (v := .tuple #[.agg #[.int .i32 A, .int .i32 B], .bool _]) (by simp [results, Tryz.results21, go_sem, c0, c1]; rfl) rfl ?_
    exact ⟨rfl, fput2 HB2.out _ (by omega) _ _⟩
end Go.Proofs.YtmgjkdijnjeljaaGreatDoor

/- Complex fractions: what stands while steps are made one behind the other (for square, times). -/
namespace Go.Proofs.YtmgjkdijnjeljaaGreatDoor
open Go.RowKit
set_option linter.unusedVariables false

/-- What stands while steps are made: their error, the boxes of the call. -/
structure GInv (w : World) (p : Nat) (E : Int) (l : List (Nat × Nat × Array Value)) (V : World) : Prop where
  err : Box V p 100 #[.int .i64 E]
  grown : w.grownBy V (some p)
  box : ∀ x ∈ l, Box V x.1 x.2.1 x.2.2 ∧ x.1 ≠ p
theorem GInv.drew {w V : World} {p : Nat} {E : Int} {l : List (Nat × Nat × Array Value)} (h : GInv w p E l V) : GInv w p E l V.drew := ⟨h.err, ⟨h.grown.os, h.grown.tape, h.grown.output, h.grown.size, h.grown.block⟩, h.box⟩
theorem GInv.step {w V V' : World} {p : Nat} {E code : Int} {l : List (Nat × Nat × Array Value)} (h : GInv w p E l V) (hp : Box V' p 100 #[.int .i64 code]) (hg : V.grownBy V' (some p)) : GInv w p code l V' :=
  ⟨hp, grow_trans h.grown hg, fun x hx => ⟨(h.box x hx).1.kept' hg (fun e => (h.box x hx).2 (Option.some.inj e)), (h.box x hx).2⟩⟩
theorem GInv.alloc {w V : World} {p : Nat} {E : Int} {l : List (Nat × Nat × Array Value)} (h : GInv w p E l V) (ob : Obj) : GInv w p E l (V.alloc ob) :=
  ⟨h.err.later (alloc_later V ob) h.err.lt, grow_trans h.grown (World.grownBy_alloc V ob (some p)), fun x hx => ⟨(h.box x hx).1.later (alloc_later V ob) (h.box x hx).1.lt, (h.box x hx).2⟩⟩
/-- A fraction that a step told, still there. -/
structure GRow (V : World) (base : Nat) (n : Bool) (v : Value) (xs : List Int) (u : Value) (ys : List Int) : Prop where
  ov : V.ownsRow base 85 1 v xs.length (xs.map (Value.int .u32))
  ou : V.ownsRow base 85 1 u ys.length (ys.map (Value.int .u32))
theorem GRow.step {V V' : World} {base p : Nat} {n : Bool} {v u : Value} {xs ys : List Int} (h : GRow V base n v xs u ys) (hp : p < base) (hg : V.grownBy V' (some p)) : GRow V' base n v xs u ys := by
  have hk : ∀ (x : Value), (∀ g, x.ownBlock = some g → base ≤ g) → x.ownBlock = none ∨ x.ownBlock ≠ some p := fun x h1 => by
    cases e : x.ownBlock with
    | none => exact .inl rfl
    | some g => right; intro h; have e2 := Option.some.inj h; have := h1 g e; omega
  exact ⟨World.ownsRow.kept h.ov hg (hk _ (fun g hg => (h.ov.lt g hg).1)), World.ownsRow.kept h.ou hg (hk _ (fun g hg => (h.ou.lt g hg).1))⟩
theorem GRow.sl {V : World} {base : Nat} {n : Bool} {v u : Value} {xs ys : List Int} (h : GRow V base n v xs u ys) (wx : Wd xs) (wy : Wd ys) : Sl V v xs ∧ Sl V u ys := ⟨Sl.own h.ov wx, Sl.own h.ou wy⟩
theorem Sl.kept {V V' : World} {v : Value} {xs : List Int} {p : Nat} (h : Sl V v xs) (hg : V.grownBy V' (some p)) (hne : ∀ a k c, v = .slice (some a) k c → a.block ≠ p) : Sl V' v xs := by
  obtain ⟨a, cap, hv, h1, h2, h3, h4, h5, h6⟩ := h
  refine ⟨a, cap, hv, h1, h2, ?_, h4, h5, h6⟩
  rcases h3 with h3 | ⟨b, off, ha, hb, hc⟩
  · exact .inl h3
  · have hbp : b ≠ p := by subst ha; exact hne _ _ _ hv
    have hs := hg.size
    exact .inr ⟨b, off, ha, by omega, fun j hj => hg.cell (a := ⟨b, off + j, none⟩) (hc j hj) (fun e => hbp (Option.some.inj e))⟩
end Go.Proofs.YtmgjkdijnjeljaaGreatDoor

/- Complex fractions, the steps' own: square: of any complex fraction that was looked at. -/
namespace Go.Proofs.YtmgjkdijnjeljaaGreatDoor
open Go.RowKit
set_option linter.unusedVariables false

theorem cells6 {W : World} {b t : Nat} {u0 u1 u2 u3 u4 u5 : Value} (h : Box W b t #[u0, u1, u2, u3, u4, u5]) : W.cell? ⟨b, 0, none⟩ = some u0 ∧ W.cell? ⟨b, 1, none⟩ = some u1 ∧ W.cell? ⟨b, 2, none⟩ = some u2 ∧ W.cell? ⟨b, 3, none⟩ = some u3 ∧ W.cell? ⟨b, 4, none⟩ = some u4 ∧ W.cell? ⟨b, 5, none⟩ = some u5 :=
  ⟨h.cell 0, h.cell 1, h.cell 2, h.cell 3, h.cell 4, h.cell 5⟩

end Go.Proofs.YtmgjkdijnjeljaaGreatDoor

/- Complex fractions: gauss.Print: of any, good or refused. -/
namespace Go.Proofs.YtmgjkdijnjeljaaGreatDoor
open Go.RowKit
set_option linter.unusedVariables false

/-- A fraction's text, or its error alone. -/
def RPr (n : Bool) (xs ys : List Int) (w : World) (x : Ending) (w' : World) : Prop := ∃ S : ByteArray, x = .returned (.tuple #[.string S, .int .i64 (rchk n xs ys)]) ∧ (rchk n xs ys = 0 → S.data.toList = rtext n xs ys) ∧ Below w.heap.size w w'
theorem grPrint_any (n : Bool) (a : Option Addr) (ca : Nat) (xs : List Int) (b : Option Addr) (cb : Nat) (ys : List Int) (w : World) (sx : Sl w (.slice a xs.length ca) xs) (sy : Sl w (.slice b ys.length cb) ys) (htab : Tab w) :
    Calls Tryz.prog 50 #[.agg #[.bool n, .slice a xs.length ca, .slice b ys.length cb]] w (RPr n xs ys w) := by
  by_cases h : rchk n xs ys = 0
  · refine Calls.mono (rPrint_ok n a ca xs b cb ys w sx sy h htab) ?_
    rintro e w' ⟨S, rfl, hS, hb⟩
    exact ⟨S, by rw [h], fun _ => hS, hb⟩
  · refine Calls.mono (rPrint_err n a ca xs b cb ys w sx sy h) ?_
    rintro e w' ⟨rfl, hb⟩
    exact ⟨_, rfl, fun h' => absurd h' h, hb⟩
theorem rtext_short {n : Bool} {xs ys : List Int} (wx : Wd xs) (wy : Wd ys) (h : rchk n xs ys = 0) : (rtext n xs ys).length ≤ 40964 := by
  obtain ⟨lx, ly, _⟩ := rchk_ok h
  have hd1 := dec_short wx lx
  have hd2 := dec_short wy ly
  have h1 : (wtext n xs).length ≤ 20482 := by
    unfold wtext
    rw [List.length_append]
    have : (if n then [45] else [] : List UInt8).length ≤ 1 := by cases n <;> simp
    omega
  unfold rtext
  by_cases h2 : ys = [1]
  · rw [if_pos h2]; omega
  · rw [if_neg h2, List.length_append, List.length_cons]; omega
/-- The text of a complex fraction. -/
def gtext (n : Bool) (xs ys : List Int) (m : Bool) (us vs : List Int) : List UInt8 := rtext n xs ys ++ 32 :: rtext m us vs
/-- Print's error. -/
def gpErr (n : Bool) (xs ys : List Int) (m : Bool) (us vs : List Int) : Int := fstE (gchk n xs ys m us vs) (if 65536 < (gtext n xs ys m us vs).length then 3 else 0)

set_option maxHeartbeats 3200000 in
set_option maxRecDepth 100000 in
theorem gPrint_any (n : Bool) (a : Option Addr) (ca : Nat) (xs : List Int) (b : Option Addr) (cb : Nat) (ys : List Int) (m : Bool) (c : Option Addr) (cc : Nat) (us : List Int) (d : Option Addr) (cd : Nat) (vs : List Int) (w : World) (sx : Sl w (.slice a xs.length ca) xs) (sy : Sl w (.slice b ys.length cb) ys) (su : Sl w (.slice c us.length cc) us) (sv : Sl w (.slice d vs.length cd) vs) (htab : Tab w) :
    Calls Tryz.prog 30 #[.agg #[.bool n, .slice a xs.length ca, .slice b ys.length cb, .bool m, .slice c us.length cc, .slice d vs.length cd]] w fun x w' => ∃ S : ByteArray, x = .returned (.tuple #[.string S, .int .i64 (gpErr n xs ys m us vs)]) ∧ (gpErr n xs ys m us vs = 0 → S.data.toList = gtext n xs ys m us vs) ∧ (gpErr n xs ys m us vs ≠ 0 → S = ⟨#[]⟩) ∧ Below w.heap.size w w' := by
  have HX := hid (Box.made w 29 #[.bool n, .slice a xs.length ca, .slice b ys.length cb, .bool m, .slice c us.length cc, .slice d vs.length cd])
  have HB := hid (alloc_later w (.cells #[.bool n, .slice a xs.length ca, .slice b ys.length cb, .bool m, .slice c us.length cc, .slice d vs.length cd] 29))
  have H1 := hid (grPrint_any n a ca xs b cb ys (w.alloc (.cells #[.bool n, .slice a xs.length ca, .slice b ys.length cb, .bool m, .slice c us.length cc, .slice d vs.length cd] 29)) (sx.later HB.out) (sy.later HB.out) (htab.later HB.out))
  have H2 : Hid (∀ V, Below w.heap.size w V → Calls Tryz.prog 50 #[.agg #[.bool m, .slice c us.length cc, .slice d vs.length cd]] V (RPr m us vs V)) := fun V hv => grPrint_any m c cc us d cd vs V (su.later hv) (sv.later hv) (htab.later hv)
  have HG : Hid (∀ e, gchk n xs ys m us vs = e → e ≠ 0 → gpErr n xs ys m us vs = e) := fun e h he => by unfold gpErr; rw [h]; exact fstE_err _ he
  have HG0 : Hid (gchk n xs ys m us vs = 0 → gpErr n xs ys m us vs = if 65536 < (gtext n xs ys m us vs).length then 3 else 0) := fun h => by unfold gpErr; rw [h]; exact fstE_zero _
  have HK1 : Hid (rchk n xs ys ≠ 0 → gchk n xs ys m us vs = rchk n xs ys) := fun h => fstE_err _ h
  have HK2 : Hid (rchk n xs ys = 0 → gchk n xs ys m us vs = rchk m us vs) := fun h => by unfold gchk; rw [h]; exact fstE_zero _
  have HS1 : Hid (rchk n xs ys = 0 → (rtext n xs ys).length ≤ 40964) := fun h => rtext_short sx.wd sy.wd h
  have HS2 : Hid (rchk m us vs = 0 → (rtext m us vs).length ≤ 40964) := fun h => rtext_short su.wd sv.wd h
  have HGT : Hid (gtext n xs ys m us vs = rtext n xs ys ++ 32 :: rtext m us vs) := rfl
  generalize gtext n xs ys m us vs = GT at *
  generalize gpErr n xs ys m us vs = GE at *
  generalize gchk n xs ys m us vs = GC at *
  clear sx sy su sv htab
  obtain ⟨X, hX⟩ : ∃ X, w.alloc (.cells #[.bool n, .slice a xs.length ca, .slice b ys.length cb, .bool m, .slice c us.length cc, .slice d vs.length cd] 29) = X := ⟨_, rfl⟩
  rw [hX] at HX HB H1
  have k0 : X.cell? ⟨w.heap.size, 0, none⟩ = some (.bool n) := HX.out.cell 0
  have k1 : X.cell? ⟨w.heap.size, 1, none⟩ = some (.slice a xs.length ca) := HX.out.cell 1
  have k2 : X.cell? ⟨w.heap.size, 2, none⟩ = some (.slice b ys.length cb) := HX.out.cell 2
  have k3 : X.cell? ⟨w.heap.size, 3, none⟩ = some (.bool m) := HX.out.cell 3
  have k4 : X.cell? ⟨w.heap.size, 4, none⟩ = some (.slice c us.length cc) := HX.out.cell 4
  have k5 : X.cell? ⟨w.heap.size, 5, none⟩ = some (.slice d vs.length cd) := HX.out.cell 5
  have HE1 : Hid (∃ e1, rchk n xs ys = e1) := ⟨_, rfl⟩
  go_enter Tryz.func30, Tryz.ntmps30
  go_wp2_with fail
  refine Calls.mono H1.out ?_
  rintro x w1 ⟨S, rfl, hS, hb1⟩
  have HW1 := hid (bt HB.out hb1)
  have HA1 := hid (HX.out.later hb1 HX.out.lt)
  have HSS := hid hS
  clear hS hb1 H1 k0 k1 k2 k3 k4 k5
  have k0 : w1.cell? ⟨w.heap.size, 0, none⟩ = some (.bool n) := HA1.out.cell 0
  have k1 : w1.cell? ⟨w.heap.size, 1, none⟩ = some (.slice a xs.length ca) := HA1.out.cell 1
  have k2 : w1.cell? ⟨w.heap.size, 2, none⟩ = some (.slice b ys.length cb) := HA1.out.cell 2
  have k3 : w1.cell? ⟨w.heap.size, 3, none⟩ = some (.bool m) := HA1.out.cell 3
  have k4 : w1.cell? ⟨w.heap.size, 4, none⟩ = some (.slice c us.length cc) := HA1.out.cell 4
  have k5 : w1.cell? ⟨w.heap.size, 5, none⟩ = some (.slice d vs.length cd) := HA1.out.cell 5
  by_cases h1 : rchk n xs ys = 0
  · have HZ1 := hid h1
    have hSl : S.size ≤ 40964 := by
      have e1 : S.data.toList.length = S.size := Array.length_toList
      rw [← e1, HSS.out h1]
      exact HS1.out h1
    rw [h1]
    clear h1
    have H3 := hid (H2.out w1 HW1.out)
    go_wp2_with fail
    refine Calls.mono H3.out ?_
    rintro x w2 ⟨U, rfl, hU, hb2⟩
    have HW2 := hid (bt HW1.out hb2)
    have HUU := hid hU
    clear hU hb2 H3 H2 k0 k1 k2 k3 k4 k5
    by_cases h2 : rchk m us vs = 0
    · have hUl : U.size ≤ 40964 := by
        have e1 : U.data.toList.length = U.size := Array.length_toList
        rw [← e1, HUU.out h2]
        exact HS2.out h2
      have HGC := hid ((HK2.out HZ1.out).trans h2)
      have HLL : Hid (GT.length = S.size + 1 + U.size) := by
        show _ = _
        rw [HGT.out, ← HSS.out HZ1.out, ← HUU.out h2, List.length_append, List.length_cons, Array.length_toList, Array.length_toList]
        show S.size + (U.size + 1) = _
        omega
      have HTX : Hid (GT = S.data.toList ++ 32 :: U.data.toList) := by
        show _ = _
        rw [HGT.out, ← HSS.out HZ1.out, ← HUU.out h2]
      rw [h2]
      clear h2
      have hg1 : ¬ (9223372036854775807 : Int) < (S.size : Int) + 1 := by omega
      have hg2 : ¬ (9223372036854775807 : Int) < (S.size : Int) + 1 + (U.size : Int) := by omega
      have hw1 : IntKind.i64.wrap ((S.size : Int) + 1) = (S.size : Int) + 1 := by rw [IntKind.wrap_i64]; omega
      have hw2 : IntKind.i64.wrap ((S.size : Int) + 1 + (U.size : Int)) = (S.size : Int) + 1 + (U.size : Int) := by rw [IntKind.wrap_i64]; omega
      by_cases hl : (65536 : Int) < (S.size : Int) + 1 + (U.size : Int)
      · have HGE : Hid (GE = 3) := by show _ = _; rw [HG0.out HGC.out, if_pos (by have := HLL.out; omega)]
        have hlb : decide ((65536 : Int) < (S.size : Int) + 1 + (U.size : Int)) = true := decide_eq_true hl
        clear hl hSl hUl hg1 hg2
        go_wp2_with fail
        go_ret2
        rw [HGE.out]
        exact ⟨_, rfl, fun h => absurd h (by decide), fun _ => rfl, HW2.out⟩
      · have HGE : Hid (GE = 0) := by show _ = _; rw [HG0.out HGC.out, if_neg (by have := HLL.out; omega)]
        have hlb : decide ((65536 : Int) < (S.size : Int) + 1 + (U.size : Int)) = false := decide_eq_false hl
        clear hl hSl hUl
        go_wp2_with fail
        go_ret2
        rw [HGE.out]
        refine ⟨_, rfl, fun _ => ?_, fun h => absurd rfl h, HW2.out⟩
        rw [HTX.out]
        simp
    · have HGE := hid (HG.out _ (HK2.out HZ1.out) h2)
      have h2' : (rchk m us vs == 0) = false := by simp [h2]
      have h2n : (rchk m us vs != 0) = true := by simp [h2]
      go_wp2_with fail
      go_ret2
      rw [HGE.out]
      exact ⟨_, rfl, fun h => absurd h h2, fun _ => rfl, HW2.out⟩
  · have HGE := hid (HG.out _ (HK1.out h1) h1)
    have h1' : (rchk n xs ys == 0) = false := by simp [h1]
    have h1n : (rchk n xs ys != 0) = true := by simp [h1]
    clear H2
    go_wp2_with fail
    go_ret2
    rw [HGE.out]
    exact ⟨_, rfl, fun h => absurd h h1, fun _ => rfl, HW1.out⟩
end Go.Proofs.YtmgjkdijnjeljaaGreatDoor

/- package tide: Print. -/
namespace Go.Proofs.YtmgjkdijnjeljaaGreatDoor
open Go.RowKit Go.Lib
set_option linter.unusedVariables false
set_option linter.unusedSimpArgs false

/-- A constituent's text. -/
def ttext (l : List UInt8) (f r : Int) (g : List UInt8) : List UInt8 := l ++ 32 :: (itoa f ++ 32 :: (itoa r ++ 32 :: g))
/-- Print's error: E Check's, g the number's text. -/
def tpErr (E : Int) (l : List UInt8) (f r : Int) (G : Int) (g : List UInt8) : Int := if E ≠ 0 then E else if G ≠ 0 then G else if 65536 < (ttext l f r g).length then 3 else 0
theorem tpErr_chk {E : Int} {l : List UInt8} {f r G : Int} {g : List UInt8} (h : E ≠ 0) : tpErr E l f r G g = E := by unfold tpErr; rw [if_pos h]
theorem tpErr_num {E : Int} {l : List UInt8} {f r G : Int} {g : List UInt8} (h : E = 0) (h2 : G ≠ 0) : tpErr E l f r G g = G := by unfold tpErr; rw [if_neg (by simp [h]), if_pos h2]
theorem tpErr_long {E : Int} {l : List UInt8} {f r G : Int} {g : List UInt8} (h : E = 0) (h2 : G = 0) (h3 : 65536 < (ttext l f r g).length) : tpErr E l f r G g = 3 := by unfold tpErr; rw [if_neg (by simp [h]), if_neg (by simp [h2]), if_pos h3]
theorem tpErr_ok {E : Int} {l : List UInt8} {f r G : Int} {g : List UInt8} (h : E = 0) (h2 : G = 0) (h3 : ¬ 65536 < (ttext l f r g).length) : tpErr E l f r G g = 0 := by unfold tpErr; rw [if_neg (by simp [h]), if_neg (by simp [h2]), if_neg h3]
theorem tsum_text (s : ByteArray) (f r : Int) (U : ByteArray) : s ++ (⟨#[32]⟩ : ByteArray) ++ (⟨(itoa f).toArray⟩ : ByteArray) ++ (⟨#[32]⟩ : ByteArray) ++ (⟨(itoa r).toArray⟩ : ByteArray) ++ (⟨#[32]⟩ : ByteArray) ++ U = ⟨(ttext s.data.toList f r U.data.toList).toArray⟩ := by
  have e : ∀ x : ByteArray, x = ⟨x.data.toList.toArray⟩ := fun x => by simp
  rw [e s, e U, show (⟨#[32]⟩ : ByteArray) = ⟨([32] : List UInt8).toArray⟩ from rfl, zbytes_app, zbytes_app, zbytes_app, zbytes_app, zbytes_app, zbytes_app]
  unfold ttext
  simp
theorem tname_ok {l : List UInt8} (h : tname l = true) : 1 ≤ l.length ∧ l.length ≤ 20 := by
  unfold tname at h
  simp at h
  exact ⟨h.1.1.1, h.1.1.2⟩
theorem tchk_ok {l : List UInt8} {f n g : Int} (h : tchk l f n g = 0) : tname l = true ∧ ochk f n = 0 ∧ g = 0 := by
  unfold tchk at h
  by_cases hn : tname l = true
  · rw [if_pos hn] at h
    unfold fstE at h
    by_cases ho : ochk f n = 0
    · rw [if_pos ho] at h; exact ⟨hn, ho, h⟩
    · rw [if_neg ho] at h; exact absurd h ho
  · rw [if_neg hn] at h; exact absurd h (by decide)
set_option maxHeartbeats 3200000 in
set_option maxRecDepth 100000 in
theorem tPrint_any (s : ByteArray) (f r : Int) (n : Bool) (a : Option Addr) (ca : Nat) (xs : List Int) (b : Option Addr) (cb : Nat) (ys : List Int) (m : Bool) (c : Option Addr) (cc : Nat) (us : List Int) (d : Option Addr) (cd : Nat) (vs : List Int) (w : World) (hz : s.size ≤ 9223372036854775807) (hr : in32 f r) (sx : Sl w (.slice a xs.length ca) xs) (sy : Sl w (.slice b ys.length cb) ys) (su : Sl w (.slice c us.length cc) us) (sv : Sl w (.slice d vs.length cd) vs) (htab : Tab w) :
    Calls Tryz.prog 14 #[.agg #[.string s, .int .i32 f, .int .i32 r, .bool n, .slice a xs.length ca, .slice b ys.length cb, .bool m, .slice c us.length cc, .slice d vs.length cd]] w fun x w' => ∃ S : ByteArray, x = .returned (.tuple #[.string S, .int .i64 (tpErr (tchk s.data.toList f r (gchk n xs ys m us vs)) s.data.toList f r (gpErr n xs ys m us vs) (gtext n xs ys m us vs))]) ∧ (tpErr (tchk s.data.toList f r (gchk n xs ys m us vs)) s.data.toList f r (gpErr n xs ys m us vs) (gtext n xs ys m us vs) = 0 → S.data.toList = ttext s.data.toList f r (gtext n xs ys m us vs)) ∧ (tpErr (tchk s.data.toList f r (gchk n xs ys m us vs)) s.data.toList f r (gpErr n xs ys m us vs) (gtext n xs ys m us vs) ≠ 0 → S = ⟨#[]⟩) ∧ Below w.heap.size w w' := by
  have HX := hid (Box.made w 31 #[.string s, .int .i32 f, .int .i32 r, .bool n, .slice a xs.length ca, .slice b ys.length cb, .bool m, .slice c us.length cc, .slice d vs.length cd])
  have HB := hid (alloc_later w (.cells #[.string s, .int .i32 f, .int .i32 r, .bool n, .slice a xs.length ca, .slice b ys.length cb, .bool m, .slice c us.length cc, .slice d vs.length cd] 31))
  obtain ⟨X, hX⟩ : ∃ X, w.alloc (.cells #[.string s, .int .i32 f, .int .i32 r, .bool n, .slice a xs.length ca, .slice b ys.length cb, .bool m, .slice c us.length cc, .slice d vs.length cd] 31) = X := ⟨_, rfl⟩
  rw [hX] at HX HB
  have HC := hid (tCheck_any s f r n a ca xs b cb ys m c cc us d cd vs X hz hr (sx.later HB.out) (sy.later HB.out) (su.later HB.out) (sv.later HB.out))
  have HP : Hid (∀ V, Below w.heap.size w V → Calls Tryz.prog 30 #[.agg #[.bool n, .slice a xs.length ca, .slice b ys.length cb, .bool m, .slice c us.length cc, .slice d vs.length cd]] V fun x w' => ∃ S : ByteArray, x = .returned (.tuple #[.string S, .int .i64 (gpErr n xs ys m us vs)]) ∧ (gpErr n xs ys m us vs = 0 → S.data.toList = gtext n xs ys m us vs) ∧ (gpErr n xs ys m us vs ≠ 0 → S = ⟨#[]⟩) ∧ Below V.heap.size V w') := fun V hv => gPrint_any n a ca xs b cb ys m c cc us d cd vs V (sx.later hv) (sy.later hv) (su.later hv) (sv.later hv) (htab.later hv)
  have HD : Hid (∀ z, -2147483648 ≤ z → z ≤ 2147483647 → ∀ V, Below w.heap.size w V → Calls Tryz.prog 31 #[.int .i32 z] V fun e w' => e = .returned (.string ⟨(itoa z).toArray⟩) ∧ Below V.heap.size V w') := fun z z0 z1 V hv => tdecimal_any z V z0 z1 (htab.later hv)
  have D1 := hid (HD.out f hr.1.1 hr.1.2)
  have D2 := hid (HD.out r hr.2.1 hr.2.2)
  have lf := zitoa_len f hr.1.1 hr.1.2
  have lr := zitoa_len r hr.2.1 hr.2.2
  have hls : s.data.toList.length = s.size := Array.length_toList
  have HTC : Hid (tchk s.data.toList f r (gchk n xs ys m us vs) = 0 → s.size ≤ 20) := fun h => by have := tname_ok (tchk_ok h).1; omega
  have HGL : Hid (gpErr n xs ys m us vs = 0 → (gtext n xs ys m us vs).length ≤ 65536) := fun h => by
    unfold gpErr at h
    by_cases hg : gchk n xs ys m us vs = 0
    · rw [hg, fstE_zero] at h
      by_cases hl : 65536 < (gtext n xs ys m us vs).length
      · rw [if_pos hl] at h; exact absurd h (by decide)
      · omega
    · rw [fstE_err _ hg] at h; exact absurd h hg
  generalize gtext n xs ys m us vs = GT at *
  generalize gpErr n xs ys m us vs = GE at *
  generalize tchk s.data.toList f r (gchk n xs ys m us vs) = TC at *
  have HE1 : Hid (TC ≠ 0 → tpErr TC s.data.toList f r GE GT = TC) := tpErr_chk
  have HE2 : Hid (TC = 0 → GE ≠ 0 → tpErr TC s.data.toList f r GE GT = GE) := tpErr_num
  have HE3 : Hid (TC = 0 → GE = 0 → 65536 < (ttext s.data.toList f r GT).length → tpErr TC s.data.toList f r GE GT = 3) := tpErr_long
  have HE4 : Hid (TC = 0 → GE = 0 → ¬ 65536 < (ttext s.data.toList f r GT).length → tpErr TC s.data.toList f r GE GT = 0) := tpErr_ok
  have HTX : Hid (∀ U : ByteArray, U.data.toList = GT → s ++ (⟨#[32]⟩ : ByteArray) ++ (⟨(itoa f).toArray⟩ : ByteArray) ++ (⟨#[32]⟩ : ByteArray) ++ (⟨(itoa r).toArray⟩ : ByteArray) ++ (⟨#[32]⟩ : ByteArray) ++ U = ⟨(ttext s.data.toList f r GT).toArray⟩) := fun U hU => by rw [tsum_text, hU]
  have HTL : Hid (∀ U : ByteArray, U.data.toList = GT → (ttext s.data.toList f r GT).length = s.size + 1 + (itoa f).length + 1 + (itoa r).length + 1 + U.size) := fun U hU => by
    have hu : U.data.toList.length = U.size := Array.length_toList
    unfold ttext
    rw [← hU]
    simp only [List.length_append, List.length_cons]
    omega
  generalize tpErr TC s.data.toList f r GE GT = TE at *
  generalize ttext s.data.toList f r GT = TT at *
  clear sx sy su sv htab hr HD hls
  have k0 : X.cell? ⟨w.heap.size, 0, none⟩ = some (.string s) := HX.out.cell 0
  have k1 : X.cell? ⟨w.heap.size, 1, none⟩ = some (.int .i32 f) := HX.out.cell 1
  have k2 : X.cell? ⟨w.heap.size, 2, none⟩ = some (.int .i32 r) := HX.out.cell 2
  have k3 : X.cell? ⟨w.heap.size, 3, none⟩ = some (.bool n) := HX.out.cell 3
  have k4 : X.cell? ⟨w.heap.size, 4, none⟩ = some (.slice a xs.length ca) := HX.out.cell 4
  have k5 : X.cell? ⟨w.heap.size, 5, none⟩ = some (.slice b ys.length cb) := HX.out.cell 5
  have k6 : X.cell? ⟨w.heap.size, 6, none⟩ = some (.bool m) := HX.out.cell 6
  have k7 : X.cell? ⟨w.heap.size, 7, none⟩ = some (.slice c us.length cc) := HX.out.cell 7
  have k8 : X.cell? ⟨w.heap.size, 8, none⟩ = some (.slice d vs.length cd) := HX.out.cell 8
  go_enter Tryz.func14, Tryz.ntmps14
  go_wp2_with fail
  refine Calls.mono HC.out ?_
  rintro e w1 ⟨rfl, hb1⟩
  have HW1 := hid (bt HB.out hb1)
  have HX1 := hid (HX.out.later hb1 HX.out.lt)
  clear hb1 HC k0 k1 k2 k3 k4 k5 k6 k7 k8 HX HB hX
  by_cases hTC : TC = 0
  · have hsz := HTC.out hTC
    have HZ1 := hid hTC
    subst hTC
    have k3 : w1.cell? ⟨w.heap.size, 3, none⟩ = some (.bool n) := HX1.out.cell 3
    have k4 : w1.cell? ⟨w.heap.size, 4, none⟩ = some (.slice a xs.length ca) := HX1.out.cell 4
    have k5 : w1.cell? ⟨w.heap.size, 5, none⟩ = some (.slice b ys.length cb) := HX1.out.cell 5
    have k6 : w1.cell? ⟨w.heap.size, 6, none⟩ = some (.bool m) := HX1.out.cell 6
    have k7 : w1.cell? ⟨w.heap.size, 7, none⟩ = some (.slice c us.length cc) := HX1.out.cell 7
    have k8 : w1.cell? ⟨w.heap.size, 8, none⟩ = some (.slice d vs.length cd) := HX1.out.cell 8
    go_wp2_with fail
    refine Calls.mono (HP.out _ HW1.out) ?_
    rintro x w2 ⟨U, rfl, hU, _, hb2⟩
    have HW2 := hid (bt HW1.out hb2)
    have HX2 := hid (HX1.out.later hb2 HX1.out.lt)
    have HU := hid hU
    clear hU hb2 k3 k4 k5 k6 k7 k8
    by_cases hGE : GE = 0
    · have hU2 := HU.out hGE
      have hGL := HGL.out hGE
      have hUl : U.size ≤ 65536 := by
        have e1 : U.data.toList.length = U.size := Array.length_toList
        rw [hU2] at e1; omega
      have HT := hid (HTX.out U hU2)
      have hTL := HTL.out U hU2
      have HGZ := hid hGE
      subst hGE
      clear hU2 hGL HU HTX HTL HGL HTC
      have hm1 : ¬ 9223372036854775807 < s.size + 1 := by omega
      have hm2 : ¬ 9223372036854775807 < s.size + 1 + (itoa f).length := by omega
      have hm3 : ¬ 9223372036854775807 < s.size + 1 + (itoa f).length + 1 := by omega
      have hm4 : ¬ 9223372036854775807 < s.size + 1 + (itoa f).length + 1 + (itoa r).length := by omega
      have hm5 : ¬ 9223372036854775807 < s.size + 1 + (itoa f).length + 1 + (itoa r).length + 1 := by omega
      have hm6 : ¬ 9223372036854775807 < s.size + 1 + (itoa f).length + 1 + (itoa r).length + 1 + U.size := by omega
      have HTL := hid hTL
      clear hTL hsz hUl lf lr
      have HF : Hid (∀ V, Below w2.heap.size w2 V → V.cell? ⟨w.heap.size, 0, none⟩ = some (.string s) ∧ V.cell? ⟨w.heap.size, 1, none⟩ = some (.int .i32 f) ∧ V.cell? ⟨w.heap.size, 2, none⟩ = some (.int .i32 r)) := fun V hv => by
        have h := HX2.out.later hv HX2.out.lt
        exact ⟨h.cell 0, h.cell 1, h.cell 2⟩
      have hs0 := HF.out _ (Below.refl _ w2).drew
      have hd0 := hid (Below.refl w2.heap.size w2).drew
      have H1 : Hid (∀ V, Below w2.heap.size w2 V → Calls Tryz.prog 31 #[.int .i32 f] V fun e w' => e = .returned (.string ⟨(itoa f).toArray⟩) ∧ (w'.cell? ⟨w.heap.size, 0, none⟩ = some (.string s) ∧ w'.cell? ⟨w.heap.size, 1, none⟩ = some (.int .i32 f) ∧ w'.cell? ⟨w.heap.size, 2, none⟩ = some (.int .i32 r)) ∧ Below w2.heap.size w2 w') := fun V hv => by
        refine Calls.mono (D1.out V (bt HW2.out hv)) ?_
        rintro e w' ⟨rfl, h⟩
        exact ⟨rfl, HF.out _ (bt hv h), bt hv h⟩
      have H2 : Hid (∀ V, Below w2.heap.size w2 V → Calls Tryz.prog 31 #[.int .i32 r] V fun e w' => e = .returned (.string ⟨(itoa r).toArray⟩) ∧ (w'.cell? ⟨w.heap.size, 0, none⟩ = some (.string s) ∧ w'.cell? ⟨w.heap.size, 1, none⟩ = some (.int .i32 f) ∧ w'.cell? ⟨w.heap.size, 2, none⟩ = some (.int .i32 r)) ∧ Below w2.heap.size w2 w') := fun V hv => by
        refine Calls.mono (D2.out V (bt HW2.out hv)) ?_
        rintro e w' ⟨rfl, h⟩
        exact ⟨rfl, HF.out _ (bt hv h), bt hv h⟩
      clear HF HX1 HX2 D1 D2 HP
      go_wp2_with fail
      go_region_held3 (fun V : World => V.cell? ⟨w.heap.size, 0, none⟩ = some (.string s) ∧ V.cell? ⟨w.heap.size, 1, none⟩ = some (.int .i32 f) ∧ V.cell? ⟨w.heap.size, 2, none⟩ = some (.int .i32 r)) (first | exact hs2 | exact hs1 | exact hs0)
        (first
          | (go_at_call 31; with_reducible refine Calls.mono (H2.out _ hb2) ?_; rintro e w4 ⟨rfl, hs2, hb3⟩)
          | (go_at_call 31; with_reducible refine Calls.mono (H1.out _ hd0.out) ?_; rintro e w3 ⟨rfl, hs1, hb2⟩))
      all_goals
        have HB3 := hid (bt HW2.out hb3)
        clear hs0 hs1 hs2 hb2 hb3 H1 H2 hd0
        have HSZ : Hid ((⟨TT.toArray⟩ : ByteArray).size = TT.length) := by show TT.toArray.size = TT.length; simp
        have HTB : Hid ((⟨TT.toArray⟩ : ByteArray).data.toList = TT) := by show _ = _; simp
        rw [HT.out]
        clear HT hm1 hm2 hm3 hm4 hm5 hm6
        generalize (⟨TT.toArray⟩ : ByteArray) = TB at *
        by_cases hl : (65536 : Int) < (TB.size : Int)
        · have HTE := hid (HE3.out trivial trivial (by have := HSZ.out; omega))
          go_wp2_with fail
          go_ret2
          rw [HTE.out]
          exact ⟨_, rfl, fun h => absurd h (by decide), fun _ => rfl, HB3.out⟩
        · have HTE := hid (HE4.out trivial trivial (by have := HSZ.out; omega))
          go_wp2_with fail
          go_ret2
          rw [HTE.out]
          exact ⟨_, rfl, fun _ => HTB.out, fun h => absurd rfl h, HB3.out⟩
    · have HTE := hid (HE2.out trivial hGE)
      have h2' : (GE == 0) = false := by simp [hGE]
      have h2n : (GE != 0) = true := by simp [hGE]
      clear HP D1 D2 HTX HTL HGL HTC HE3 HE4 HE1
      go_wp2_with fail
      go_ret2
      rw [HTE.out]
      exact ⟨_, rfl, fun h => absurd h hGE, fun _ => rfl, HW2.out⟩
  · have HTE := hid (HE1.out hTC)
    have h2' : (TC == 0) = false := by simp [hTC]
    have h2n : (TC != 0) = true := by simp [hTC]
    clear HP D1 D2 HTX HTL HGL HTC HE3 HE4 HE2
    go_wp2_with fail
    go_ret2
    rw [HTE.out]
    exact ⟨_, rfl, fun h => absurd h hTC, fun _ => rfl, HW1.out⟩
end Go.Proofs.YtmgjkdijnjeljaaGreatDoor

/- package tide: Parse, of any text. -/
namespace Go.Proofs.YtmgjkdijnjeljaaGreatDoor
open Go.RowKit Go.Lib
set_option linter.unusedVariables false
set_option linter.unusedSimpArgs false

theorem box_put9 {U : World} {b t : Nat} {u0 u1 u2 u3 u4 u5 u6 u7 u8 : Value} (h : Box U b t #[u0, u1, u2, u3, u4, u5, u6, u7, u8]) (v0 v1 v2 v3 v4 v5 v6 v7 v8 : Value) : Box (((((((((U.setCell ⟨b, 0, none⟩ v0).setCell ⟨b, 1, none⟩ v1).setCell ⟨b, 2, none⟩ v2).setCell ⟨b, 3, none⟩ v3).setCell ⟨b, 4, none⟩ v4).setCell ⟨b, 5, none⟩ v5).setCell ⟨b, 6, none⟩ v6).setCell ⟨b, 7, none⟩ v7).setCell ⟨b, 8, none⟩ v8) b t #[v0, v1, v2, v3, v4, v5, v6, v7, v8] := by
  have h0 : Box _ b t #[v0, u1, u2, u3, u4, u5, u6, u7, u8] := h.set 0 v0
  have h1 : Box _ b t #[v0, v1, u2, u3, u4, u5, u6, u7, u8] := h0.set 1 v1
  have h2 : Box _ b t #[v0, v1, v2, u3, u4, u5, u6, u7, u8] := h1.set 2 v2
  have h3 : Box _ b t #[v0, v1, v2, v3, u4, u5, u6, u7, u8] := h2.set 3 v3
  have h4 : Box _ b t #[v0, v1, v2, v3, v4, u5, u6, u7, u8] := h3.set 4 v4
  have h5 : Box _ b t #[v0, v1, v2, v3, v4, v5, u6, u7, u8] := h4.set 5 v5
  have h6 : Box _ b t #[v0, v1, v2, v3, v4, v5, v6, u7, u8] := h5.set 6 v6
  have h7 : Box _ b t #[v0, v1, v2, v3, v4, v5, v6, v7, u8] := h6.set 7 v7
  exact h7.set 8 v8
theorem below_put9 {B : Nat} {x U : World} (h : Below B x U) (b : Nat) (hb : B ≤ b) (v0 v1 v2 v3 v4 v5 v6 v7 v8 : Value) : Below B x (((((((((U.setCell ⟨b, 0, none⟩ v0).setCell ⟨b, 1, none⟩ v1).setCell ⟨b, 2, none⟩ v2).setCell ⟨b, 3, none⟩ v3).setCell ⟨b, 4, none⟩ v4).setCell ⟨b, 5, none⟩ v5).setCell ⟨b, 6, none⟩ v6).setCell ⟨b, 7, none⟩ v7).setCell ⟨b, 8, none⟩ v8) :=
  ((((((((h.setCell (p := ⟨b, 0, none⟩) hb _).setCell (p := ⟨b, 1, none⟩) hb _).setCell (p := ⟨b, 2, none⟩) hb _).setCell (p := ⟨b, 3, none⟩) hb _).setCell (p := ⟨b, 4, none⟩) hb _).setCell (p := ⟨b, 5, none⟩) hb _).setCell (p := ⟨b, 6, none⟩) hb _).setCell (p := ⟨b, 7, none⟩) hb _).setCell (p := ⟨b, 8, none⟩) hb _
theorem own_put9 {w : World} {base e n : Nat} {v : Value} {xs : List Value} (h : w.ownsRow base e 1 v n xs) (b : Nat) (hb : ∀ g, v.ownBlock = some g → g ≠ b) (v0 v1 v2 v3 v4 v5 v6 v7 v8 : Value) : (((((((((w.setCell ⟨b, 0, none⟩ v0).setCell ⟨b, 1, none⟩ v1).setCell ⟨b, 2, none⟩ v2).setCell ⟨b, 3, none⟩ v3).setCell ⟨b, 4, none⟩ v4).setCell ⟨b, 5, none⟩ v5).setCell ⟨b, 6, none⟩ v6).setCell ⟨b, 7, none⟩ v7).setCell ⟨b, 8, none⟩ v8).ownsRow base e 1 v n xs :=
  own_put1 (own_put1 (own_put1 (own_put1 (own_put1 (own_put1 (own_put1 (own_put1 (own_put1 h b hb 0 v0) b hb 1 v1) b hb 2 v2) b hb 3 v3) b hb 4 v4) b hb 5 v5) b hb 6 v6) b hb 7 v7) b hb 8 v8
/-- A constituent is read out of a box, its error out of a slot. -/
theorem tres_run {fn : Func} {W : World} {b q u : Nat} {cs : Array Value} (hr : fn.results = #[.cell q 31, .tmp u]) (hb : Box W b 31 cs) (tmps : Array Value) (h4 : tmps.getD q undef = .pointer (some ⟨b, 0, none⟩)) (hi : (Tryz.prog.info? 31).map (·.size) = some cs.size := by kernel_rfl) : (results fn tmps).run Tryz.prog W = .ok (.tuple #[.agg cs, tmps.getD u undef]) W := by
  have h := run_loadVar_row (P := Tryz.prog) W b 31 31 cs (0, 0) _ hb Tryz.underlying31 rfl hi
  rw [results_cell_tmp hr, h4]
  simp [asAddr, h]
/-- A store of nine cells, cell by cell, each world by its name. -/
theorem tchain9 {W : World} {b t : Nat} {u0 u1 u2 u3 u4 u5 u6 u7 u8 : Value} (h : Box W b t #[u0, u1, u2, u3, u4, u5, u6, u7, u8]) (v0 v1 v2 v3 v4 v5 v6 v7 v8 : Value) : ∃ A0 A1 A2 A3 A4 A5 A6 A7 A8, W.setCell ⟨b, 0, none⟩ v0 = A0 ∧ A0.setCell ⟨b, 1, none⟩ v1 = A1 ∧ A1.setCell ⟨b, 2, none⟩ v2 = A2 ∧ A2.setCell ⟨b, 3, none⟩ v3 = A3 ∧ A3.setCell ⟨b, 4, none⟩ v4 = A4 ∧ A4.setCell ⟨b, 5, none⟩ v5 = A5 ∧ A5.setCell ⟨b, 6, none⟩ v6 = A6 ∧ A6.setCell ⟨b, 7, none⟩ v7 = A7 ∧ A7.setCell ⟨b, 8, none⟩ v8 = A8 ∧ (W.cell? ⟨b, 0, none⟩ = some u0 ∧ A0.cell? ⟨b, 1, none⟩ = some u1 ∧ A1.cell? ⟨b, 2, none⟩ = some u2 ∧ A2.cell? ⟨b, 3, none⟩ = some u3 ∧ A3.cell? ⟨b, 4, none⟩ = some u4 ∧ A4.cell? ⟨b, 5, none⟩ = some u5 ∧ A5.cell? ⟨b, 6, none⟩ = some u6 ∧ A6.cell? ⟨b, 7, none⟩ = some u7 ∧ A7.cell? ⟨b, 8, none⟩ = some u8) ∧ (W.frozen? ⟨b, 0, none⟩ = false ∧ A0.frozen? ⟨b, 1, none⟩ = false ∧ A1.frozen? ⟨b, 2, none⟩ = false ∧ A2.frozen? ⟨b, 3, none⟩ = false ∧ A3.frozen? ⟨b, 4, none⟩ = false ∧ A4.frozen? ⟨b, 5, none⟩ = false ∧ A5.frozen? ⟨b, 6, none⟩ = false ∧ A6.frozen? ⟨b, 7, none⟩ = false ∧ A7.frozen? ⟨b, 8, none⟩ = false) := by
  have h0 : Box _ b t #[v0, u1, u2, u3, u4, u5, u6, u7, u8] := h.set 0 v0
  have h1 : Box _ b t #[v0, v1, u2, u3, u4, u5, u6, u7, u8] := h0.set 1 v1
  have h2 : Box _ b t #[v0, v1, v2, u3, u4, u5, u6, u7, u8] := h1.set 2 v2
  have h3 : Box _ b t #[v0, v1, v2, v3, u4, u5, u6, u7, u8] := h2.set 3 v3
  have h4 : Box _ b t #[v0, v1, v2, v3, v4, u5, u6, u7, u8] := h3.set 4 v4
  have h5 : Box _ b t #[v0, v1, v2, v3, v4, v5, u6, u7, u8] := h4.set 5 v5
  have h6 : Box _ b t #[v0, v1, v2, v3, v4, v5, v6, u7, u8] := h5.set 6 v6
  have h7 : Box _ b t #[v0, v1, v2, v3, v4, v5, v6, v7, u8] := h6.set 7 v7
  exact ⟨_, _, _, _, _, _, _, _, _, rfl, rfl, rfl, rfl, rfl, rfl, rfl, rfl, rfl, ⟨h.cell 0, h0.cell 1, h1.cell 2, h2.cell 3, h3.cell 4, h4.cell 5, h5.cell 6, h6.cell 7, h7.cell 8⟩, h.free 0, h0.free 1, h1.free 2, h2.free 3, h3.free 4, h4.free 5, h5.free 6, h6.free 7, h7.free 8⟩
theorem tchain_far {W A0 A1 A2 A3 A4 A5 A6 A7 A8 : World} {b b' t' : Nat} {cs : Array Value} {v0 v1 v2 v3 v4 v5 v6 v7 v8 : Value} (h : Box W b' t' cs) (hne : b' ≠ b) (hA0 : W.setCell ⟨b, 0, none⟩ v0 = A0) (hA1 : A0.setCell ⟨b, 1, none⟩ v1 = A1) (hA2 : A1.setCell ⟨b, 2, none⟩ v2 = A2) (hA3 : A2.setCell ⟨b, 3, none⟩ v3 = A3) (hA4 : A3.setCell ⟨b, 4, none⟩ v4 = A4) (hA5 : A4.setCell ⟨b, 5, none⟩ v5 = A5) (hA6 : A5.setCell ⟨b, 6, none⟩ v6 = A6) (hA7 : A6.setCell ⟨b, 7, none⟩ v7 = A7) (hA8 : A7.setCell ⟨b, 8, none⟩ v8 = A8) : Box A8 b' t' cs := by
  subst hA0 hA1 hA2 hA3 hA4 hA5 hA6 hA7 hA8
  exact (((((((((h.other ⟨b, 0, none⟩ v0 hne).other ⟨b, 1, none⟩ v1 hne).other ⟨b, 2, none⟩ v2 hne).other ⟨b, 3, none⟩ v3 hne).other ⟨b, 4, none⟩ v4 hne).other ⟨b, 5, none⟩ v5 hne).other ⟨b, 6, none⟩ v6 hne).other ⟨b, 7, none⟩ v7 hne).other ⟨b, 8, none⟩ v8 hne)

/-- What a call tells that tells a constituent: E what was refused, L whether its number is too long; else the name l, the rotor f r, the number q1 q2. -/
structure TTells (E : Int) (L : Prop) (l : List UInt8) (f r : Int) (q1 q2 : Rat) (S : ByteArray) (F R : Int) (n : Bool) (xs ys : List Int) (m : Bool) (us vs : List Int) (code : Int) : Prop where
  num : GTells E L q1 q2 n xs ys m us vs code
  bad : code ≠ 0 → S = ⟨#[]⟩ ∧ F = 0 ∧ R = 0
  good : code = 0 → S.data.toList = l ∧ F = f ∧ R = r
def TToldC (w : World) (E : Int) (L : Prop) (l : List UInt8) (f r : Int) (q1 q2 : Rat) (x : Ending) (w' : World) : Prop :=
  ∃ S F R n a ca xs b cb ys m c cc us d cd vs code, x = .returned (.tuple #[.agg #[.string S, .int .i32 F, .int .i32 R, .bool n, .slice a (List.length xs) ca, .slice b (List.length ys) cb, .bool m, .slice c (List.length us) cc, .slice d (List.length vs) cd], .int .i64 code]) ∧ (w'.ownsRow w.heap.size 85 1 (.slice a xs.length ca) xs.length (xs.map (Value.int .u32)) ∧ w'.ownsRow w.heap.size 85 1 (.slice b ys.length cb) ys.length (ys.map (Value.int .u32)) ∧ w'.ownsRow w.heap.size 85 1 (.slice c us.length cc) us.length (us.map (Value.int .u32)) ∧ w'.ownsRow w.heap.size 85 1 (.slice d vs.length cd) vs.length (vs.map (Value.int .u32))) ∧ TTells E L l f r q1 q2 S F R n xs ys m us vs code ∧ Below w.heap.size w w' ∧ ∃ W1, Cut w (.slice a xs.length ca) (.slice b ys.length cb) W1 ∧ Cut W1 (.slice c us.length cc) (.slice d vs.length cd) w'
theorem ttoldc_zero {w W : World} {E : Int} {L : Prop} {l : List UInt8} {f r : Int} {q1 q2 : Rat} {code : Int} (h : E ≠ 0 ∧ code = E ∨ E = 0 ∧ L ∧ code = 3) (hb : Below w.heap.size w W) : TToldC w E L l f r q1 q2 (.returned (.tuple #[.agg #[.string ⟨#[]⟩, .int .i32 0, .int .i32 0, .bool false, .slice none 0 0, .slice none 0 0, .bool false, .slice none 0 0, .slice none 0 0], .int .i64 code])) W := by
  have hc : code ≠ 0 := by rcases h with h | h <;> omega
  refine ⟨⟨#[]⟩, 0, 0, false, none, 0, [], none, 0, [], false, none, 0, [], none, 0, [], code, rfl, ⟨World.ownsRow_nil _ _ _ _, World.ownsRow_nil _ _ _ _, World.ownsRow_nil _ _ _ _, World.ownsRow_nil _ _ _ _⟩, ⟨⟨⟨Wd.nil, Wd.nil, Wd.nil, Wd.nil⟩, fun he => ⟨⟨rfl, rfl, rfl, rfl, rfl, rfl⟩, ?_⟩, fun he hl => ⟨⟨rfl, rfl, rfl, rfl, rfl, rfl⟩, ?_⟩, fun he hl => ?_⟩, fun _ => ⟨rfl, rfl, rfl⟩, fun e => absurd e hc⟩, hb, W, cut_nil _ _ hb.size, cut_nil _ _ (Nat.le_refl _)⟩
  · rcases h with h | h
    · exact h.2
    · exact absurd h.1 he
  · rcases h with h | h
    · exact absurd he h.1
    · exact h.2.2
  · rcases h with h | h
    · exact absurd he h.1
    · exact absurd h.2.1 hl

/-- A text's words, one behind the other. -/
def trest (l : List UInt8) : List UInt8 := (Lib.cut l [32]).2.1
def tword (l : List UInt8) : List UInt8 := (Lib.cut l [32]).1
def tgood (l : List UInt8) : Prop := tname (tword l) = true ∧ tnumOk (tword (trest l)) = true ∧ tnumOk (tword (trest (trest l))) = true ∧ ggood (trest (trest (trest l)))
open Classical in
/-- What is refused of a text, but for numbers that are too long. -/
noncomputable def tpE (s : ByteArray) : Int := if 65536 < s.size then 3 else if tgood s.data.toList then ochk (tnumV (tword (trest s.data.toList))) (tnumV (tword (trest (trest s.data.toList)))) else 230
theorem tpE_long {s : ByteArray} (h : 65536 < s.size) : tpE s = 3 := by unfold tpE; rw [if_pos h]
theorem tpE_good {s : ByteArray} (hs : s.size ≤ 65536) (h : tgood s.data.toList) : tpE s = ochk (tnumV (tword (trest s.data.toList))) (tnumV (tword (trest (trest s.data.toList)))) := by unfold tpE; rw [if_neg (by omega), if_pos h]
theorem tpE_bad {s : ByteArray} (hs : s.size ≤ 65536) (h : ¬ tgood s.data.toList) : tpE s = 230 := by unfold tpE; rw [if_neg (by omega), if_neg h]
theorem gpar_or {T : ByteArray} (hs : T.size ≤ 65536) {L : Prop} {q1 q2 : Rat} {n m : Bool} {xs ys us vs : List Int} {code : Int} (h : GTells (gpE T) L q1 q2 n xs ys m us vs code) :
    (code = 140 ∧ ¬ ggood T.data.toList) ∨ (ggood T.data.toList ∧ L ∧ code = 3) ∨ (ggood T.data.toList ∧ ¬ L ∧ code = 0 ∧ GTells 0 L q1 q2 n xs ys m us vs 0) := by
  by_cases hg : ggood T.data.toList
  · rw [gpE_good hs hg] at h
    by_cases hL : L
    · exact .inr (.inl ⟨hg, hL, (h.long rfl hL).2⟩)
    · have e := (h.good rfl hL).1
      subst e
      exact .inr (.inr ⟨hg, hL, rfl, h⟩)
  · rw [gpE_bad hs hg] at h
    exact .inl ⟨(h.bad (by decide)).2, hg⟩
theorem tclone_any (s : ByteArray) (w : World) (h : s.size ≤ 281474976710656) : Calls Tryz.prog 23 #[.string s] w fun e w' => e = .returned (.string s) ∧ Below w.heap.size w w' := by
  have HC := hid (Tryz.stringslite_Clone s w h)
  go_enter Tryz.func23, Tryz.ntmps23
  go_wp2_with fail
  refine Calls.mono HC.out ?_
  rintro e w1 ⟨rfl, hb⟩
  go_wp2_with fail
  go_ret
  exact ⟨rfl, hb⟩

set_option maxHeartbeats 1600000 in
set_option maxRecDepth 100000 in
theorem tParse_long (s : ByteArray) (w : World) (hs : 65536 < s.size) (hm : s.size ≤ 281474976710656) (L : Prop) (l : List UInt8) (f r : Int) (q1 q2 : Rat) : Calls Tryz.prog 9 #[.string s] w (TToldC w 3 L l f r q1 q2) := by
  have HX := hid (Box.made w 31 #[.string ⟨#[]⟩, .int .i32 0, .int .i32 0, .bool false, .slice none 0 0, .slice none 0 0, .bool false, .slice none 0 0, .slice none 0 0])
  have HB := hid (alloc_later w (.cells #[.string ⟨#[]⟩, .int .i32 0, .int .i32 0, .bool false, .slice none 0 0, .slice none 0 0, .bool false, .slice none 0 0, .slice none 0 0] 31))
  obtain ⟨X, hX⟩ : ∃ X, w.alloc (.cells #[.string ⟨#[]⟩, .int .i32 0, .int .i32 0, .bool false, .slice none 0 0, .slice none 0 0, .bool false, .slice none 0 0, .slice none 0 0] 31) = X := ⟨_, rfl⟩
  rw [hX] at HX HB
  have m0 : X.cell? ⟨w.heap.size, 0, none⟩ = some (.string ⟨#[]⟩) := HX.out.cell 0
  have m1 : X.cell? ⟨w.heap.size, 1, none⟩ = some (.int .i32 0) := HX.out.cell 1
  have m2 : X.cell? ⟨w.heap.size, 2, none⟩ = some (.int .i32 0) := HX.out.cell 2
  have m3 : X.cell? ⟨w.heap.size, 3, none⟩ = some (.bool false) := HX.out.cell 3
  have m4 : X.cell? ⟨w.heap.size, 4, none⟩ = some (.slice none 0 0) := HX.out.cell 4
  have m5 : X.cell? ⟨w.heap.size, 5, none⟩ = some (.slice none 0 0) := HX.out.cell 5
  have m6 : X.cell? ⟨w.heap.size, 6, none⟩ = some (.bool false) := HX.out.cell 6
  have m7 : X.cell? ⟨w.heap.size, 7, none⟩ = some (.slice none 0 0) := HX.out.cell 7
  have m8 : X.cell? ⟨w.heap.size, 8, none⟩ = some (.slice none 0 0) := HX.out.cell 8
  have f0 := HX.out.free 0
  have f1 := HX.out.free 1
  have f2 := HX.out.free 2
  have f3 := HX.out.free 3
  have f4 := HX.out.free 4
  have f5 := HX.out.free 5
  have f6 := HX.out.free 6
  have f7 := HX.out.free 7
  have f8 := HX.out.free 8
  have hs' : (65536 : Int) < (s.size : Int) := by omega
  clear hs
  go_enter Tryz.func9, Tryz.ntmps9
  go_wp2_with fail
  have B1 := box_put9 HX.out (.string ⟨#[]⟩) (.int .i32 0) (.int .i32 0) (.bool false) (.slice none 0 0) (.slice none 0 0) (.bool false) (.slice none 0 0) (.slice none 0 0)
  have G1 := below_put9 HB.out w.heap.size (Nat.le_refl _) (.string ⟨#[]⟩) (.int .i32 0) (.int .i32 0) (.bool false) (.slice none 0 0) (.slice none 0 0) (.bool false) (.slice none 0 0) (.slice none 0 0)
  clear m0 m1 m2 m3 m4 m5 m6 m7 m8 f0 f1 f2 f3 f4 f5 f6 f7 f8
  exact bodyPost_ret (tres_run (by rfl) B1 _ rfl) rfl (ttoldc_zero (E := 3) (.inl ⟨by decide, rfl⟩) G1)
end Go.Proofs.YtmgjkdijnjeljaaGreatDoor

/- package tide: Parse, of any text. -/
namespace Go.Proofs.YtmgjkdijnjeljaaGreatDoor
open Go.RowKit Go.Lib
set_option linter.unusedVariables false
set_option linter.unusedSimpArgs false

set_option maxHeartbeats 6400000 in
set_option maxRecDepth 100000 in
theorem tParse_any (s : ByteArray) (w : World) (hm : s.size ≤ 281474976710656) (htab : Tab w) (herr : ErrT w) : Calls Tryz.prog 9 #[.string s] w (TToldC w (tpE s) (gplong (trest (trest (trest s.data.toList)))) (tword s.data.toList) (tnumV (tword (trest s.data.toList))) (tnumV (tword (trest (trest s.data.toList)))) (rpq (gp1 (trest (trest (trest s.data.toList))))) (rpq (gp2 (trest (trest (trest s.data.toList)))))) := by
  by_cases hs : 65536 < s.size
  · rw [tpE_long hs]
    exact tParse_long s w hs hm _ _ _ _ _ _
  have HX := hid (Box.made w 31 #[.string ⟨#[]⟩, .int .i32 0, .int .i32 0, .bool false, .slice none 0 0, .slice none 0 0, .bool false, .slice none 0 0, .slice none 0 0])
  have HB := hid (alloc_later w (.cells #[.string ⟨#[]⟩, .int .i32 0, .int .i32 0, .bool false, .slice none 0 0, .slice none 0 0, .bool false, .slice none 0 0, .slice none 0 0] 31))
  obtain ⟨X, hX⟩ : ∃ X, w.alloc (.cells #[.string ⟨#[]⟩, .int .i32 0, .int .i32 0, .bool false, .slice none 0 0, .slice none 0 0, .bool false, .slice none 0 0, .slice none 0 0] 31) = X := ⟨_, rfl⟩
  rw [hX] at HX HB
  have hs' : ¬ (65536 : Int) < (s.size : Int) := by omega
  have HEG : Hid (tgood s.data.toList → tpE s = ochk (tnumV (tword (trest s.data.toList))) (tnumV (tword (trest (trest s.data.toList))))) := tpE_good (by omega)
  have HEB : Hid (¬ tgood s.data.toList → tpE s = 230) := tpE_bad (by omega)
  have HGD : Hid (tgood s.data.toList ↔ tname (tword s.data.toList) = true ∧ tnumOk (tword (trest s.data.toList)) = true ∧ tnumOk (tword (trest (trest s.data.toList))) = true ∧ ggood (trest (trest (trest s.data.toList)))) := Iff.rfl
  have hl : s.data.toList.length = s.size := Array.length_toList
  have e1 : ∀ l, (tword l).length ≤ l.length ∧ (trest l).length ≤ l.length := fun l => zcut_len l 32
  have H1 : Hid (∀ V, Calls Tryz.prog 20 #[.string s, .string ⟨#[32]⟩] V fun e w' => ∃ fd, e = .returned (.tuple #[.string ⟨(tword s.data.toList).toArray⟩, .string ⟨(trest s.data.toList).toArray⟩, .bool fd]) ∧ Below V.heap.size V w') := fun V => Calls.mono (zcut_any s 32 V hm) (by rintro e w' ⟨h1, h2⟩; exact ⟨_, h1, h2⟩)
  have HCU : ∀ l : List UInt8, l.length ≤ 65536 → ∀ V, Calls Tryz.prog 20 #[.string ⟨l.toArray⟩, .string ⟨#[32]⟩] V fun e w' => ∃ fd, e = .returned (.tuple #[.string ⟨(tword l).toArray⟩, .string ⟨(trest l).toArray⟩, .bool fd]) ∧ Below V.heap.size V w' := fun l hl V => by
    have hz : (⟨l.toArray⟩ : ByteArray).size ≤ 281474976710656 := by show l.toArray.size ≤ _; simp; omega
    have h := zcut_any ⟨l.toArray⟩ 32 V hz
    have e : (⟨l.toArray⟩ : ByteArray).data.toList = l := by simp
    rw [e] at h
    exact Calls.mono h (by rintro e w' ⟨h1, h2⟩; exact ⟨_, h1, h2⟩)
  generalize s.data.toList = l0 at *
  have z1 := e1 l0
  have z2 := e1 (trest l0)
  have z3 := e1 (trest (trest l0))
  have H2 := hid (HCU (trest l0) (by omega))
  have H3 := hid (HCU (trest (trest l0)) (by omega))
  have HRR : Hid (∀ V, Below w.heap.size w V → Calls Tryz.prog 21 #[.string ⟨(tword (trest l0)).toArray⟩, .string ⟨(tword (trest (trest l0))).toArray⟩] V fun e w' => e = .returned (.tuple #[.agg #[.int .i32 (tnumV (tword (trest l0))), .int .i32 (tnumV (tword (trest (trest l0))))], .bool (tnumOk (tword (trest l0)) && tnumOk (tword (trest (trest l0))))]) ∧ Below V.heap.size V w') := fun V hv => by
    have h := treadRotor_any ⟨(tword (trest l0)).toArray⟩ ⟨(tword (trest (trest l0))).toArray⟩ V (by show (tword (trest l0)).toArray.size ≤ _; simp; omega) (by show (tword (trest (trest l0))).toArray.size ≤ _; simp; omega) (htab.later hv) (herr.later hv)
    have q1 : (⟨(tword (trest l0)).toArray⟩ : ByteArray).data.toList = tword (trest l0) := by simp
    have q2 : (⟨(tword (trest (trest l0))).toArray⟩ : ByteArray).data.toList = tword (trest (trest l0)) := by simp
    rw [q1, q2] at h
    exact h
  have hsz3 : (⟨(trest (trest (trest l0))).toArray⟩ : ByteArray).size ≤ 65536 := by show (trest (trest (trest l0))).toArray.size ≤ _; simp; omega
  have q3 : (⟨(trest (trest (trest l0))).toArray⟩ : ByteArray).data.toList = trest (trest (trest l0)) := by simp
  have HGP : Hid (∀ V, Calls Tryz.prog 22 #[.string ⟨(trest (trest (trest l0))).toArray⟩] V (GToldC V (gpE ⟨(trest (trest (trest l0))).toArray⟩) (gplong (trest (trest (trest l0)))) (rpq (gp1 (trest (trest (trest l0))))) (rpq (gp2 (trest (trest (trest l0))))))) := fun V => by
    have h := gParse_any ⟨(trest (trest (trest l0))).toArray⟩ V (by omega)
    rw [q3] at h
    exact h
  have HGO : Hid (∀ {n m : Bool} {xs ys us vs : List Int} {code : Int}, GTells (gpE ⟨(trest (trest (trest l0))).toArray⟩) (gplong (trest (trest (trest l0)))) (rpq (gp1 (trest (trest (trest l0))))) (rpq (gp2 (trest (trest (trest l0))))) n xs ys m us vs code → (code = 140 ∧ ¬ ggood (trest (trest (trest l0)))) ∨ (ggood (trest (trest (trest l0))) ∧ gplong (trest (trest (trest l0))) ∧ code = 3) ∨ (ggood (trest (trest (trest l0))) ∧ ¬ gplong (trest (trest (trest l0))) ∧ code = 0 ∧ GTells 0 (gplong (trest (trest (trest l0)))) (rpq (gp1 (trest (trest (trest l0))))) (rpq (gp2 (trest (trest (trest l0))))) n xs ys m us vs 0)) := fun h => by
    have := gpar_or hsz3 h
    rw [q3] at this
    exact this
  have HNM : Hid (∀ V, Calls Tryz.prog 7 #[.string ⟨(tword l0).toArray⟩] V fun e w' => e = .returned (.bool (tname (tword l0))) ∧ V = w') := fun V => by
    have h := tName_any ⟨(tword l0).toArray⟩ V (by show (tword l0).toArray.size ≤ _; simp; omega)
    have q1 : (⟨(tword l0).toArray⟩ : ByteArray).data.toList = tword l0 := by simp
    rw [q1] at h
    exact h
  have HCL : Hid (∀ V, Calls Tryz.prog 23 #[.string ⟨(tword l0).toArray⟩] V fun e w' => e = .returned (.string ⟨(tword l0).toArray⟩) ∧ Below V.heap.size V w') := fun V => tclone_any _ V (by show (tword l0).toArray.size ≤ _; simp; omega)
  have HWD : Hid ((⟨(tword l0).toArray⟩ : ByteArray).data.toList = tword l0) := by show _ = _; simp
  have i1 := tnumV_in (tword (trest l0))
  have i2 := tnumV_in (tword (trest (trest l0)))
  have HOC : Hid (∀ V, Calls Tryz.prog 18 #[.agg #[.int .i32 (tnumV (tword (trest l0))), .int .i32 (tnumV (tword (trest (trest l0))))]] V fun e w' => e = .returned (.int .i64 (ochk (tnumV (tword (trest l0))) (tnumV (tword (trest (trest l0)))))) ∧ Below V.heap.size V w') := fun V => ocheck_any _ _ V ⟨by omega, by omega⟩
  generalize tpE s = E at *
  generalize tgood l0 = TG at *
  generalize gplong (trest (trest (trest l0))) = GL at *
  generalize rpq (gp1 (trest (trest (trest l0)))) = q1 at *
  generalize rpq (gp2 (trest (trest (trest l0)))) = q2 at *
  generalize gpE ⟨(trest (trest (trest l0))).toArray⟩ = GE at *
  generalize ggood (trest (trest (trest l0))) = GG at *
  generalize (⟨(trest (trest (trest l0))).toArray⟩ : ByteArray) = B3 at *
  generalize ochk (tnumV (tword (trest l0))) (tnumV (tword (trest (trest l0)))) = OC at *
  generalize tnumV (tword (trest l0)) = F at *
  generalize tnumV (tword (trest (trest l0))) = R at *
  generalize tnumOk (tword (trest l0)) = N1 at *
  generalize tnumOk (tword (trest (trest l0))) = N2 at *
  generalize tname (tword l0) = NM at *
  generalize (⟨(tword (trest l0)).toArray⟩ : ByteArray) = C1 at *
  generalize (⟨(tword (trest (trest l0))).toArray⟩ : ByteArray) = C2 at *
  generalize (⟨(trest (trest l0)).toArray⟩ : ByteArray) = B2 at *
  generalize (⟨(trest l0).toArray⟩ : ByteArray) = B1 at *
  generalize (tword l0).toArray = A1 at *
  generalize tword l0 = l1 at *
  clear z1 z2 z3 e1 HCU htab herr hs q3 hsz3 hl
  go_enter Tryz.func9, Tryz.ntmps9
  go_wp2_with fail
  refine Calls.mono (H1.out _) ?_
  rintro e w1 ⟨d1, rfl, hb1⟩
  have HW1 := hid (bt HB.out hb1)
  have HR1 := hid (HX.out.later hb1 HX.out.lt)
  clear hb1 H1
  go_wp2_with fail
  refine Calls.mono (H2.out _) ?_
  rintro e w2 ⟨d2, rfl, hb2⟩
  have HW2 := hid (bt HW1.out hb2)
  have HR2 := hid (HR1.out.later hb2 HR1.out.lt)
  clear hb2 H2
  go_wp2_with fail
  refine Calls.mono (H3.out _) ?_
  rintro e w3 ⟨d3, rfl, hb3⟩
  have HW3 := hid (bt HW2.out hb3)
  have HR3 := hid (HR2.out.later hb3 HR2.out.lt)
  clear hb3 H3
  go_wp2_with fail
  refine Calls.mono (HRR.out _ HW3.out) ?_
  rintro e w4 ⟨rfl, hb4⟩
  have HN := hid (Box.made w4 24 #[.int .i32 F, .int .i32 R])
  have HNB := hid (alloc_later w4 (.cells #[.int .i32 F, .int .i32 R] 24))
  obtain ⟨Y4, hY4⟩ : ∃ Y4, w4.alloc (.cells #[.int .i32 F, .int .i32 R] 24) = Y4 := ⟨_, rfl⟩
  rw [hY4] at HN HNB
  have HW4 := hid (bt HW3.out (bt hb4 HNB.out))
  have HR4 := hid (HR3.out.later (bt hb4 HNB.out) HR3.out.lt)
  have h4Y : w4.heap.size < Y4.heap.size := HN.out.lt
  have hlt4 : w.heap.size < w4.heap.size := Nat.lt_of_lt_of_le HR3.out.lt hb4.size
  clear hb4 HRR
  go_wp2_with fail
  refine Calls.mono (HGP.out _) ?_
  rintro e w5 ⟨n, a, ca, xs, b, cb, ys, m, c, cc, us, d, cd, vs, code, rfl, hoo, ht, hb5, W1, hc1, hc2⟩
  have HM := hid (Box.made w5 29 #[.bool n, .slice a xs.length ca, .slice b ys.length cb, .bool m, .slice c us.length cc, .slice d vs.length cd])
  have HMB := hid (alloc_later w5 (.cells #[.bool n, .slice a xs.length ca, .slice b ys.length cb, .bool m, .slice c us.length cc, .slice d vs.length cd] 29))
  obtain ⟨Y5, hY5⟩ : ∃ Y5, w5.alloc (.cells #[.bool n, .slice a xs.length ca, .slice b ys.length cb, .bool m, .slice c us.length cc, .slice d vs.length cd] 29) = Y5 := ⟨_, rfl⟩
  rw [hY5] at HM HMB
  have hb5' : Below Y4.heap.size Y4 Y5 := bt hb5 HMB.out
  have hlt5 : w.heap.size < w5.heap.size := Nat.lt_of_lt_of_le HR4.out.lt hb5.size
  have HW5 := hid (bt HW4.out hb5')
  have HR5 := hid (HR4.out.later hb5' HR4.out.lt)
  have HN5 := hid (HN.out.later hb5' HN.out.lt)
  have HOO := hid (And.intro (owns_later hoo.1 HMB.out) (And.intro (owns_later hoo.2.1 HMB.out) (And.intro (owns_later hoo.2.2.1 HMB.out) (owns_later hoo.2.2.2 HMB.out))))
  have HCC : Hid (∃ W1, Cut Y4 (.slice a xs.length ca) (.slice b ys.length cb) W1 ∧ Cut W1 (.slice c us.length cc) (.slice d vs.length cd) Y5) := ⟨W1, hc1, hc2.up (Nat.le_refl _) HMB.out.size⟩
  have HTO := hid (HGO.out ht)
  clear hoo hc1 hc2 ht hb5 hb5' HGP HGO
  have m0 : Y5.cell? ⟨w.heap.size, 0, none⟩ = some (.string ⟨#[]⟩) := HR5.out.cell 0
  have m1 : Y5.cell? ⟨w.heap.size, 1, none⟩ = some (.int .i32 0) := HR5.out.cell 1
  have m2 : Y5.cell? ⟨w.heap.size, 2, none⟩ = some (.int .i32 0) := HR5.out.cell 2
  have m3 : Y5.cell? ⟨w.heap.size, 3, none⟩ = some (.bool false) := HR5.out.cell 3
  have m4 : Y5.cell? ⟨w.heap.size, 4, none⟩ = some (.slice none 0 0) := HR5.out.cell 4
  have m5 : Y5.cell? ⟨w.heap.size, 5, none⟩ = some (.slice none 0 0) := HR5.out.cell 5
  have m6 : Y5.cell? ⟨w.heap.size, 6, none⟩ = some (.bool false) := HR5.out.cell 6
  have m7 : Y5.cell? ⟨w.heap.size, 7, none⟩ = some (.slice none 0 0) := HR5.out.cell 7
  have m8 : Y5.cell? ⟨w.heap.size, 8, none⟩ = some (.slice none 0 0) := HR5.out.cell 8
  have f0 := HR5.out.free 0
  have f1 := HR5.out.free 1
  have f2 := HR5.out.free 2
  have f3 := HR5.out.free 3
  have f4 := HR5.out.free 4
  have f5 := HR5.out.free 5
  have f6 := HR5.out.free 6
  have f7 := HR5.out.free 7
  have f8 := HR5.out.free 8
  cases NM with
  | false =>
    have HE := hid (HEB.out (fun h => by have := (HGD.out.1 h).1; cases this))
    clear HTO
    go_wp2_with fail
    refine Calls.mono (HNM.out _) ?_
    rintro e w6 ⟨rfl, rfl⟩
    go_wp2_with fail
    have B1 := box_put9 HR5.out (.string ⟨#[]⟩) (.int .i32 0) (.int .i32 0) (.bool false) (.slice none 0 0) (.slice none 0 0) (.bool false) (.slice none 0 0) (.slice none 0 0)
    have G1 := below_put9 HW5.out w.heap.size (Nat.le_refl _) (.string ⟨#[]⟩) (.int .i32 0) (.int .i32 0) (.bool false) (.slice none 0 0) (.slice none 0 0) (.bool false) (.slice none 0 0) (.slice none 0 0)
    clear m0 m1 m2 m3 m4 m5 m6 m7 m8 f0 f1 f2 f3 f4 f5 f6 f7 f8
    exact bodyPost_ret (tres_run (by rfl) B1 _ rfl) rfl (ttoldc_zero (E := E) (.inl ⟨by rw [HE.out]; decide, HE.out.symm⟩) G1)
  | true =>
    by_cases hN : (N1 && N2) = false
    · have HE := hid (HEB.out (fun h => by have h1 := (HGD.out.1 h).2.1; have h2 := (HGD.out.1 h).2.2.1; rw [h1, h2] at hN; cases hN))
      rw [hN]
      clear HTO
      go_wp2_with fail
      refine Calls.mono (HNM.out _) ?_
      rintro e w6 ⟨rfl, rfl⟩
      go_wp2_with fail
      have B1 := box_put9 HR5.out (.string ⟨#[]⟩) (.int .i32 0) (.int .i32 0) (.bool false) (.slice none 0 0) (.slice none 0 0) (.bool false) (.slice none 0 0) (.slice none 0 0)
      have G1 := below_put9 HW5.out w.heap.size (Nat.le_refl _) (.string ⟨#[]⟩) (.int .i32 0) (.int .i32 0) (.bool false) (.slice none 0 0) (.slice none 0 0) (.bool false) (.slice none 0 0) (.slice none 0 0)
      clear m0 m1 m2 m3 m4 m5 m6 m7 m8 f0 f1 f2 f3 f4 f5 f6 f7 f8
      exact bodyPost_ret (tres_run (by rfl) B1 _ rfl) rfl (ttoldc_zero (E := E) (.inl ⟨by rw [HE.out]; decide, HE.out.symm⟩) G1)
    · have hN' : (N1 && N2) = true := by simpa using hN
      rw [hN']
      have HNN : Hid (N1 = true ∧ N2 = true) := by show _ ∧ _; simpa using hN'
      clear hN hN'
      rcases HTO.out with ⟨rfl, hg⟩ | ⟨hg, hL, rfl⟩ | ⟨hg, hL, rfl, ht⟩
      · have HE := hid (HEB.out (fun h => hg (HGD.out.1 h).2.2.2))
        clear HTO hg
        go_wp2_with fail
        refine Calls.mono (HNM.out _) ?_
        rintro e w6 ⟨rfl, rfl⟩
        go_wp2_with fail
        have B1 := box_put9 HR5.out (.string ⟨#[]⟩) (.int .i32 0) (.int .i32 0) (.bool false) (.slice none 0 0) (.slice none 0 0) (.bool false) (.slice none 0 0) (.slice none 0 0)
        have G1 := below_put9 HW5.out w.heap.size (Nat.le_refl _) (.string ⟨#[]⟩) (.int .i32 0) (.int .i32 0) (.bool false) (.slice none 0 0) (.slice none 0 0) (.bool false) (.slice none 0 0) (.slice none 0 0)
        clear m0 m1 m2 m3 m4 m5 m6 m7 m8 f0 f1 f2 f3 f4 f5 f6 f7 f8
        exact bodyPost_ret (tres_run (by rfl) B1 _ rfl) rfl (ttoldc_zero (E := E) (.inl ⟨by rw [HE.out]; decide, HE.out.symm⟩) G1)
      · have HE := hid (HEG.out (HGD.out.2 ⟨rfl, HNN.out.1, HNN.out.2, hg⟩))
        have HL := hid hL
        clear HTO hg hL
        go_wp2_with fail
        refine Calls.mono (HNM.out _) ?_
        rintro e w6 ⟨rfl, rfl⟩
        have r0 : Y5.cell? ⟨w4.heap.size, 0, none⟩ = some (.int .i32 F) := HN5.out.cell 0
        have r1 : Y5.cell? ⟨w4.heap.size, 1, none⟩ = some (.int .i32 R) := HN5.out.cell 1
        go_wp2_with fail
        refine Calls.mono (HOC.out _) ?_
        rintro e w6 ⟨rfl, hb6⟩
        have HW6 := hid (bt HW5.out hb6)
        have HR6 := hid (HR5.out.later hb6 HR5.out.lt)
        clear hb6 r0 r1 HOC m0 m1 m2 m3 m4 m5 m6 m7 m8 f0 f1 f2 f3 f4 f5 f6 f7 f8
        have m0 : w6.cell? ⟨w.heap.size, 0, none⟩ = some (.string ⟨#[]⟩) := HR6.out.cell 0
        have m1 : w6.cell? ⟨w.heap.size, 1, none⟩ = some (.int .i32 0) := HR6.out.cell 1
        have m2 : w6.cell? ⟨w.heap.size, 2, none⟩ = some (.int .i32 0) := HR6.out.cell 2
        have m3 : w6.cell? ⟨w.heap.size, 3, none⟩ = some (.bool false) := HR6.out.cell 3
        have m4 : w6.cell? ⟨w.heap.size, 4, none⟩ = some (.slice none 0 0) := HR6.out.cell 4
        have m5 : w6.cell? ⟨w.heap.size, 5, none⟩ = some (.slice none 0 0) := HR6.out.cell 5
        have m6 : w6.cell? ⟨w.heap.size, 6, none⟩ = some (.bool false) := HR6.out.cell 6
        have m7 : w6.cell? ⟨w.heap.size, 7, none⟩ = some (.slice none 0 0) := HR6.out.cell 7
        have m8 : w6.cell? ⟨w.heap.size, 8, none⟩ = some (.slice none 0 0) := HR6.out.cell 8
        have f0 := HR6.out.free 0
        have f1 := HR6.out.free 1
        have f2 := HR6.out.free 2
        have f3 := HR6.out.free 3
        have f4 := HR6.out.free 4
        have f5 := HR6.out.free 5
        have f6 := HR6.out.free 6
        have f7 := HR6.out.free 7
        have f8 := HR6.out.free 8
        by_cases hO : OC = 0
        · subst hO
          go_wp2_with fail
          have B1 := box_put9 HR6.out (.string ⟨#[]⟩) (.int .i32 0) (.int .i32 0) (.bool false) (.slice none 0 0) (.slice none 0 0) (.bool false) (.slice none 0 0) (.slice none 0 0)
          have G1 := below_put9 HW6.out w.heap.size (Nat.le_refl _) (.string ⟨#[]⟩) (.int .i32 0) (.int .i32 0) (.bool false) (.slice none 0 0) (.slice none 0 0) (.bool false) (.slice none 0 0) (.slice none 0 0)
          clear m0 m1 m2 m3 m4 m5 m6 m7 m8 f0 f1 f2 f3 f4 f5 f6 f7 f8
          exact bodyPost_ret (tres_run (by rfl) B1 _ rfl) rfl (ttoldc_zero (E := E) (.inr ⟨HE.out, HL.out, rfl⟩) G1)
        · have hO' : (OC == 0) = false := by simp [hO]
          have hO2 : (OC != 0) = true := by simp [hO]
          go_wp2_with fail
          have B1 := box_put9 HR6.out (.string ⟨#[]⟩) (.int .i32 0) (.int .i32 0) (.bool false) (.slice none 0 0) (.slice none 0 0) (.bool false) (.slice none 0 0) (.slice none 0 0)
          have G1 := below_put9 HW6.out w.heap.size (Nat.le_refl _) (.string ⟨#[]⟩) (.int .i32 0) (.int .i32 0) (.bool false) (.slice none 0 0) (.slice none 0 0) (.bool false) (.slice none 0 0) (.slice none 0 0)
          clear m0 m1 m2 m3 m4 m5 m6 m7 m8 f0 f1 f2 f3 f4 f5 f6 f7 f8
          exact bodyPost_ret (tres_run (by rfl) B1 _ rfl) rfl (ttoldc_zero (E := E) (.inl ⟨by rw [HE.out]; exact hO, HE.out.symm⟩) G1)
      · have HE := hid (HEG.out (HGD.out.2 ⟨rfl, HNN.out.1, HNN.out.2, hg⟩))
        have HT := hid ht
        have HL := hid hL
        clear HTO hg hL ht
        go_wp2_with fail
        refine Calls.mono (HNM.out _) ?_
        rintro e w6 ⟨rfl, rfl⟩
        have r0 : Y5.cell? ⟨w4.heap.size, 0, none⟩ = some (.int .i32 F) := HN5.out.cell 0
        have r1 : Y5.cell? ⟨w4.heap.size, 1, none⟩ = some (.int .i32 R) := HN5.out.cell 1
        go_wp2_with fail
        refine Calls.mono (HOC.out _) ?_
        rintro e w6 ⟨rfl, hb6⟩
        have HW6 := hid (bt HW5.out hb6)
        have HR6 := hid (HR5.out.later hb6 HR5.out.lt)
        have HN6 := hid (HN5.out.later hb6 HN5.out.lt)
        have HM6 := hid (HM.out.later hb6 HM.out.lt)
        have HO6 := hid (And.intro (owns_later HOO.out.1 hb6) (And.intro (owns_later HOO.out.2.1 hb6) (And.intro (owns_later HOO.out.2.2.1 hb6) (owns_later HOO.out.2.2.2 hb6))))
        have HC6 : Hid (∃ W1, Cut Y4 (.slice a xs.length ca) (.slice b ys.length cb) W1 ∧ Cut W1 (.slice c us.length cc) (.slice d vs.length cd) w6) := by
          obtain ⟨W1, h1, h2⟩ := HCC.out
          exact ⟨W1, h1, h2.up (Nat.le_refl _) hb6.size⟩
        clear hb6 r0 r1 HOC m0 m1 m2 m3 m4 m5 m6 m7 m8 f0 f1 f2 f3 f4 f5 f6 f7 f8
        by_cases hO : OC = 0
        · subst hO
          have HK : Hid (∀ V, Box V w4.heap.size 24 #[.int .i32 F, .int .i32 R] → Box V w5.heap.size 29 #[.bool n, .slice a xs.length ca, .slice b ys.length cb, .bool m, .slice c us.length cc, .slice d vs.length cd] → V.cell? ⟨w4.heap.size, 0, none⟩ = some (.int .i32 F) ∧ V.cell? ⟨w4.heap.size, 1, none⟩ = some (.int .i32 R) ∧ V.cell? ⟨w5.heap.size, 0, none⟩ = some (.bool n) ∧ V.cell? ⟨w5.heap.size, 1, none⟩ = some (.slice a xs.length ca) ∧ V.cell? ⟨w5.heap.size, 2, none⟩ = some (.slice b ys.length cb) ∧ V.cell? ⟨w5.heap.size, 3, none⟩ = some (.bool m) ∧ V.cell? ⟨w5.heap.size, 4, none⟩ = some (.slice c us.length cc) ∧ V.cell? ⟨w5.heap.size, 5, none⟩ = some (.slice d vs.length cd)) := fun V h1 h2 => ⟨h1.cell 0, h1.cell 1, h2.cell 0, h2.cell 1, h2.cell 2, h2.cell 3, h2.cell 4, h2.cell 5⟩
          have hs0 := HK.out w6.drew HN6.out HM6.out
          have hd0 := hid (Below.refl w6.heap.size w6).drew
          have HC7 : Hid (∀ V, Below w6.heap.size w6 V → Calls Tryz.prog 23 #[.string ⟨A1⟩] V fun e w' => e = .returned (.string ⟨A1⟩) ∧ Below w6.heap.size w6 w') := fun V hv => Calls.mono (HCL.out V) (by rintro e w' ⟨h1, h2⟩; exact ⟨h1, bt hv h2⟩)
          go_wp2_with fail
          go_region_held3 (fun V : World => V.cell? ⟨w4.heap.size, 0, none⟩ = some (.int .i32 F) ∧ V.cell? ⟨w4.heap.size, 1, none⟩ = some (.int .i32 R) ∧ V.cell? ⟨w5.heap.size, 0, none⟩ = some (.bool n) ∧ V.cell? ⟨w5.heap.size, 1, none⟩ = some (.slice a xs.length ca) ∧ V.cell? ⟨w5.heap.size, 2, none⟩ = some (.slice b ys.length cb) ∧ V.cell? ⟨w5.heap.size, 3, none⟩ = some (.bool m) ∧ V.cell? ⟨w5.heap.size, 4, none⟩ = some (.slice c us.length cc) ∧ V.cell? ⟨w5.heap.size, 5, none⟩ = some (.slice d vs.length cd)) (first | exact hs9 | exact hs1 | exact hs0)
            ((go_at_call 23; (with_reducible refine Calls.mono (HC7.out _ hd0.out) ?_); rintro e w7 ⟨rfl, hb7⟩; have hs1 := HK.out _ (HN6.out.later hb7 HN6.out.lt) (HM6.out.later hb7 HM6.out.lt); have HQ := hid (HR6.out.later hb7 HR6.out.lt); obtain ⟨A0, A1, A2, A3, A4, A5, A6, A7, A8, hA0, hA1, hA2, hA3, hA4, hA5, hA6, hA7, hA8, ⟨q0_, q1_, q2_, q3_, q4_, q5_, q6_, q7_, q8_⟩, p0_, p1_, p2_, p3_, p4_, p5_, p6_, p7_, p8_⟩ := tchain9 HQ.out (.string ⟨A1⟩) (.int .i32 F) (.int .i32 R) (.bool n) (.slice a xs.length ca) (.slice b ys.length cb) (.bool m) (.slice c us.length cc) (.slice d vs.length cd); have hs9 := HK.out A8 (tchain_far (HN6.out.later hb7 HN6.out.lt) (Nat.ne_of_gt hlt4) hA0 hA1 hA2 hA3 hA4 hA5 hA6 hA7 hA8) (tchain_far (HM6.out.later hb7 HM6.out.lt) (Nat.ne_of_gt hlt5) hA0 hA1 hA2 hA3 hA4 hA5 hA6 hA7 hA8)))
          all_goals
            have HW7 := hid (bt HW6.out hb7)
            have HO7 := hid (And.intro (owns_later HO6.out.1 hb7) (And.intro (owns_later HO6.out.2.1 hb7) (And.intro (owns_later HO6.out.2.2.1 hb7) (owns_later HO6.out.2.2.2 hb7))))
            have HC7' : Hid (∃ W1, Cut Y4 (.slice a xs.length ca) (.slice b ys.length cb) W1 ∧ Cut W1 (.slice c us.length cc) (.slice d vs.length cd) w7) := by
              obtain ⟨W1, h1, h2⟩ := HC6.out
              exact ⟨W1, h1, h2.up (Nat.le_refl _) hb7.size⟩
            clear hs0 hs1 hs9 hb7 HC7 HCL HK q0_ p0_ q1_ p1_ q2_ p2_ q3_ p3_ q4_ p4_ q5_ p5_ q6_ p6_ q7_ p7_ q8_ p8_
            subst hA0 hA1 hA2 hA3 hA4 hA5 hA6 hA7 hA8
            go_wp2_with fail
            have B1 := box_put9 HQ.out (.string ⟨A1⟩) (.int .i32 F) (.int .i32 R) (.bool n) (.slice a xs.length ca) (.slice b ys.length cb) (.bool m) (.slice c us.length cc) (.slice d vs.length cd)
            have G1 := below_put9 HW7.out w.heap.size (Nat.le_refl _) (.string ⟨A1⟩) (.int .i32 F) (.int .i32 R) (.bool n) (.slice a xs.length ca) (.slice b ys.length cb) (.bool m) (.slice c us.length cc) (.slice d vs.length cd)
            have hszY : w.heap.size ≤ Y4.heap.size := by omega
            have hput : ∀ {base k : Nat} {v : Value} {l : List Value}, w7.ownsRow base 85 1 v k l → (∀ g, v.ownBlock = some g → Y4.heap.size ≤ g) → (((((((((w7.setCell ⟨w.heap.size, 0, none⟩ (.string ⟨A1⟩)).setCell ⟨w.heap.size, 1, none⟩ (.int .i32 F)).setCell ⟨w.heap.size, 2, none⟩ (.int .i32 R)).setCell ⟨w.heap.size, 3, none⟩ (.bool n)).setCell ⟨w.heap.size, 4, none⟩ (.slice a xs.length ca)).setCell ⟨w.heap.size, 5, none⟩ (.slice b ys.length cb)).setCell ⟨w.heap.size, 6, none⟩ (.bool m)).setCell ⟨w.heap.size, 7, none⟩ (.slice c us.length cc)).setCell ⟨w.heap.size, 8, none⟩ (.slice d vs.length cd)).ownsRow base 85 1 v k l := fun h hb => own_put9 h _ (fun g hg => by have := hb g hg; omega) _ _ _ _ _ _ _ _ _
            refine bodyPost_ret (tres_run (by rfl) B1 _ rfl) rfl ?_
            obtain ⟨W1, hc1, hc2⟩ := HC7'.out
            refine ⟨⟨A1⟩, F, R, n, a, ca, xs, b, cb, ys, m, c, cc, us, d, cd, vs, 0, rfl, ⟨owns_base (hput HO7.out.1 (fun g hg => (HO7.out.1.lt g hg).1)) hszY, owns_base (hput HO7.out.2.1 (fun g hg => (HO7.out.2.1.lt g hg).1)) hszY, owns_base (hput HO7.out.2.2.1 (fun g hg => (HO7.out.2.2.1.lt g hg).1)) hszY, owns_base (hput HO7.out.2.2.2 (fun g hg => (HO7.out.2.2.2.lt g hg).1)) hszY⟩, ⟨by rw [HE.out]; exact HT.out, fun h => absurd rfl h, fun _ => ⟨HWD.out, rfl, rfl⟩⟩, G1, W1, hc1.up hszY (Nat.le_refl _), hc2.up (Nat.le_refl _) (by simp [World.setCell])⟩
        · have hO' : (OC == 0) = false := by simp [hO]
          have hO2 : (OC != 0) = true := by simp [hO]
          have m0 : w6.cell? ⟨w.heap.size, 0, none⟩ = some (.string ⟨#[]⟩) := HR6.out.cell 0
          have m1 : w6.cell? ⟨w.heap.size, 1, none⟩ = some (.int .i32 0) := HR6.out.cell 1
          have m2 : w6.cell? ⟨w.heap.size, 2, none⟩ = some (.int .i32 0) := HR6.out.cell 2
          have m3 : w6.cell? ⟨w.heap.size, 3, none⟩ = some (.bool false) := HR6.out.cell 3
          have m4 : w6.cell? ⟨w.heap.size, 4, none⟩ = some (.slice none 0 0) := HR6.out.cell 4
          have m5 : w6.cell? ⟨w.heap.size, 5, none⟩ = some (.slice none 0 0) := HR6.out.cell 5
          have m6 : w6.cell? ⟨w.heap.size, 6, none⟩ = some (.bool false) := HR6.out.cell 6
          have m7 : w6.cell? ⟨w.heap.size, 7, none⟩ = some (.slice none 0 0) := HR6.out.cell 7
          have m8 : w6.cell? ⟨w.heap.size, 8, none⟩ = some (.slice none 0 0) := HR6.out.cell 8
          have f0 := HR6.out.free 0
          have f1 := HR6.out.free 1
          have f2 := HR6.out.free 2
          have f3 := HR6.out.free 3
          have f4 := HR6.out.free 4
          have f5 := HR6.out.free 5
          have f6 := HR6.out.free 6
          have f7 := HR6.out.free 7
          have f8 := HR6.out.free 8
          go_wp2_with fail
          have B1 := box_put9 HR6.out (.string ⟨#[]⟩) (.int .i32 0) (.int .i32 0) (.bool false) (.slice none 0 0) (.slice none 0 0) (.bool false) (.slice none 0 0) (.slice none 0 0)
          have G1 := below_put9 HW6.out w.heap.size (Nat.le_refl _) (.string ⟨#[]⟩) (.int .i32 0) (.int .i32 0) (.bool false) (.slice none 0 0) (.slice none 0 0) (.bool false) (.slice none 0 0) (.slice none 0 0)
          clear m0 m1 m2 m3 m4 m5 m6 m7 m8 f0 f1 f2 f3 f4 f5 f6 f7 f8
          exact bodyPost_ret (tres_run (by rfl) B1 _ rfl) rfl (ttoldc_zero (E := E) (.inl ⟨by rw [HE.out]; exact hO, HE.out.symm⟩) G1)
end Go.Proofs.YtmgjkdijnjeljaaGreatDoor

/- package tide: Same, of any two. -/
namespace Go.Proofs.YtmgjkdijnjeljaaGreatDoor
open Go.RowKit
set_option linter.unusedVariables false
set_option linter.unusedSimpArgs false

theorem troEq (a b c d : Int) (w : World) : (Op.equalIn 10000 24 (.agg #[.int .i32 a, .int .i32 b]) (.agg #[.int .i32 c, .int .i32 d])).run Tryz.prog w = .ok (a == c && b == d) w := by
  have u1 := Tryz.underlying21
  have a1 := Tryz.isAgg21
  have z1 := Tryz.sizeOf21
  have hS : Tryz.prog.underlying 24 = some (.struct (Tryz.prog.fieldsOf 24)) := by kernel_rfl
  rw [show (10000 : Nat) = 9999 + 1 from rfl, run_equalIn_agg w 9999 24 _ _ hS (by kernel_rfl)]
  simp only [Program.fieldsOf, Tryz.underlying24]
  go_simp
  by_cases h1 : a = c <;> by_cases h2 : b = d <;> simp [h1, h2]
theorem tstr_other {s t : ByteArray} (h : ¬ s = t) : (s.toList == t.toList) = false := by
  rw [ByteArray.toList_eq, ByteArray.toList_eq]
  exact beq_eq_false_iff_ne.2 (fun e => h (ByteArray.ext (Array.toList_inj.1 e)))
set_option maxHeartbeats 1600000 in
set_option maxRecDepth 100000 in
theorem tnsame_any (n1 : Bool) (a1 : Option Addr) (ca1 : Nat) (xs1 : List Int) (b1 : Option Addr) (cb1 : Nat) (ys1 : List Int) (m1 : Bool) (c1 : Option Addr) (cc1 : Nat) (us1 : List Int) (d1 : Option Addr) (cd1 : Nat) (vs1 : List Int) (n2 : Bool) (a2 : Option Addr) (ca2 : Nat) (xs2 : List Int) (b2 : Option Addr) (cb2 : Nat) (ys2 : List Int) (m2 : Bool) (c2 : Option Addr) (cc2 : Nat) (us2 : List Int) (d2 : Option Addr) (cd2 : Nat) (vs2 : List Int) (w : World) (sx1 : Sl w (.slice a1 xs1.length ca1) xs1) (sy1 : Sl w (.slice b1 ys1.length cb1) ys1) (su1 : Sl w (.slice c1 us1.length cc1) us1) (sv1 : Sl w (.slice d1 vs1.length cd1) vs1) (sx2 : Sl w (.slice a2 xs2.length ca2) xs2) (sy2 : Sl w (.slice b2 ys2.length cb2) ys2) (su2 : Sl w (.slice c2 us2.length cc2) us2) (sv2 : Sl w (.slice d2 vs2.length cd2) vs2) (lxs1 : xs1.length ≤ 281474976710656) (lys1 : ys1.length ≤ 281474976710656) (lus1 : us1.length ≤ 281474976710656) (lvs1 : vs1.length ≤ 281474976710656) (lxs2 : xs2.length ≤ 281474976710656) (lys2 : ys2.length ≤ 281474976710656) (lus2 : us2.length ≤ 281474976710656) (lvs2 : vs2.length ≤ 281474976710656) :
    Calls Tryz.prog 32 #[.agg #[.bool n1, .slice a1 xs1.length ca1, .slice b1 ys1.length cb1, .bool m1, .slice c1 us1.length cc1, .slice d1 vs1.length cd1], .agg #[.bool n2, .slice a2 xs2.length ca2, .slice b2 ys2.length cb2, .bool m2, .slice c2 us2.length cc2, .slice d2 vs2.length cd2]] w fun x w' => x = .returned (.bool (decide (n1 = n2 ∧ xs1 = xs2 ∧ ys1 = ys2) && decide (m1 = m2 ∧ us1 = us2 ∧ vs1 = vs2))) ∧ Below w.heap.size w w' := by
  have HX := hid (boxes2r w 68 #[.bool n1, .slice a1 xs1.length ca1, .slice b1 ys1.length cb1, .bool m1, .slice c1 us1.length cc1, .slice d1 vs1.length cd1] #[.bool n2, .slice a2 xs2.length ca2, .slice b2 ys2.length cb2, .bool m2, .slice c2 us2.length cc2, .slice d2 vs2.length cd2])
  obtain ⟨X, hX⟩ : ∃ X, (w.alloc (.cells #[.bool n1, .slice a1 xs1.length ca1, .slice b1 ys1.length cb1, .bool m1, .slice c1 us1.length cc1, .slice d1 vs1.length cd1] 68)).alloc (.cells #[.bool n2, .slice a2 xs2.length ca2, .slice b2 ys2.length cb2, .bool m2, .slice c2 us2.length cc2, .slice d2 vs2.length cd2] 68) = X := ⟨_, rfl⟩
  rw [hX] at HX
  have H1 : Hid (∀ V, Below w.heap.size w V → Calls Tryz.prog 52 #[.agg #[.bool n1, .slice a1 xs1.length ca1, .slice b1 ys1.length cb1], .agg #[.bool n2, .slice a2 xs2.length ca2, .slice b2 ys2.length cb2]] V fun e w' => e = .returned (.bool (decide (n1 = n2 ∧ xs1 = xs2 ∧ ys1 = ys2))) ∧ Below V.heap.size V w') := hid (fun V hv => rSame_any n1 a1 ca1 xs1 b1 cb1 ys1 n2 a2 ca2 xs2 b2 cb2 ys2 V (sx1.later hv) (sy1.later hv) (sx2.later hv) (sy2.later hv) lxs1 lys1 lxs2 lys2)
  have H2 : Hid (∀ V, Below w.heap.size w V → Calls Tryz.prog 52 #[.agg #[.bool m1, .slice c1 us1.length cc1, .slice d1 vs1.length cd1], .agg #[.bool m2, .slice c2 us2.length cc2, .slice d2 vs2.length cd2]] V fun e w' => e = .returned (.bool (decide (m1 = m2 ∧ us1 = us2 ∧ vs1 = vs2))) ∧ Below V.heap.size V w') := hid (fun V hv => rSame_any m1 c1 cc1 us1 d1 cd1 vs1 m2 c2 cc2 us2 d2 cd2 vs2 V (su1.later hv) (sv1.later hv) (su2.later hv) (sv2.later hv) lus1 lvs1 lus2 lvs2)
  clear sx1 sy1 su1 sv1 sx2 sy2 su2 sv2 lxs1 lys1 lus1 lvs1 lxs2 lys2 lus2 lvs2
  generalize decide (n1 = n2 ∧ xs1 = xs2 ∧ ys1 = ys2) = z1 at *
  generalize decide (m1 = m2 ∧ us1 = us2 ∧ vs1 = vs2) = z2 at *
  have ka0 : X.cell? ⟨w.heap.size, 0, none⟩ = some (.bool n1) := HX.out.1.cell 0
  have ka1 : X.cell? ⟨w.heap.size, 1, none⟩ = some (.slice a1 xs1.length ca1) := HX.out.1.cell 1
  have ka2 : X.cell? ⟨w.heap.size, 2, none⟩ = some (.slice b1 ys1.length cb1) := HX.out.1.cell 2
  have ka3 : X.cell? ⟨w.heap.size, 3, none⟩ = some (.bool m1) := HX.out.1.cell 3
  have ka4 : X.cell? ⟨w.heap.size, 4, none⟩ = some (.slice c1 us1.length cc1) := HX.out.1.cell 4
  have ka5 : X.cell? ⟨w.heap.size, 5, none⟩ = some (.slice d1 vs1.length cd1) := HX.out.1.cell 5
  have kb0 : X.cell? ⟨w.heap.size + 1, 0, none⟩ = some (.bool n2) := HX.out.2.1.cell 0
  have kb1 : X.cell? ⟨w.heap.size + 1, 1, none⟩ = some (.slice a2 xs2.length ca2) := HX.out.2.1.cell 1
  have kb2 : X.cell? ⟨w.heap.size + 1, 2, none⟩ = some (.slice b2 ys2.length cb2) := HX.out.2.1.cell 2
  have kb3 : X.cell? ⟨w.heap.size + 1, 3, none⟩ = some (.bool m2) := HX.out.2.1.cell 3
  have kb4 : X.cell? ⟨w.heap.size + 1, 4, none⟩ = some (.slice c2 us2.length cc2) := HX.out.2.1.cell 4
  have kb5 : X.cell? ⟨w.heap.size + 1, 5, none⟩ = some (.slice d2 vs2.length cd2) := HX.out.2.1.cell 5
  go_enter Tryz.func32, Tryz.ntmps32
  go_wp2_with fail
  refine Calls.mono (H1.out _ HX.out.2.2) ?_
  rintro x w1 ⟨rfl, hb1⟩
  have HW1 := hid (bt HX.out.2.2 hb1)
  have HA1 := hid (HX.out.1.later hb1 HX.out.1.lt)
  have HB1 := hid (HX.out.2.1.later hb1 HX.out.2.1.lt)
  clear ka0 ka1 ka2 ka3 ka4 ka5 kb0 kb1 kb2 kb3 kb4 kb5 hb1 H1
  cases z1 with
  | false =>
    go_wp2_with fail
    go_ret
    exact ⟨rfl, HW1.out⟩
  | true =>
    have ka3 : w1.cell? ⟨w.heap.size, 3, none⟩ = some (.bool m1) := HA1.out.cell 3
    have ka4 : w1.cell? ⟨w.heap.size, 4, none⟩ = some (.slice c1 us1.length cc1) := HA1.out.cell 4
    have ka5 : w1.cell? ⟨w.heap.size, 5, none⟩ = some (.slice d1 vs1.length cd1) := HA1.out.cell 5
    have kb3 : w1.cell? ⟨w.heap.size + 1, 3, none⟩ = some (.bool m2) := HB1.out.cell 3
    have kb4 : w1.cell? ⟨w.heap.size + 1, 4, none⟩ = some (.slice c2 us2.length cc2) := HB1.out.cell 4
    have kb5 : w1.cell? ⟨w.heap.size + 1, 5, none⟩ = some (.slice d2 vs2.length cd2) := HB1.out.cell 5
    go_wp2_with fail
    refine Calls.mono (H2.out _ HW1.out) ?_
    rintro x w2 ⟨rfl, hb2⟩
    have HW2 := hid (bt HW1.out hb2)
    clear ka3 ka4 ka5 kb3 kb4 kb5 hb2 H2
    go_wp2_with fail
    go_ret
    exact ⟨by simp, HW2.out⟩
set_option maxHeartbeats 1600000 in
set_option maxRecDepth 100000 in
theorem tSame_any (s1 : ByteArray) (f1 r1 : Int) (n1 : Bool) (a1 : Option Addr) (ca1 : Nat) (xs1 : List Int) (b1 : Option Addr) (cb1 : Nat) (ys1 : List Int) (m1 : Bool) (c1 : Option Addr) (cc1 : Nat) (us1 : List Int) (d1 : Option Addr) (cd1 : Nat) (vs1 : List Int) (s2 : ByteArray) (f2 r2 : Int) (n2 : Bool) (a2 : Option Addr) (ca2 : Nat) (xs2 : List Int) (b2 : Option Addr) (cb2 : Nat) (ys2 : List Int) (m2 : Bool) (c2 : Option Addr) (cc2 : Nat) (us2 : List Int) (d2 : Option Addr) (cd2 : Nat) (vs2 : List Int) (w : World) (sx1 : Sl w (.slice a1 xs1.length ca1) xs1) (sy1 : Sl w (.slice b1 ys1.length cb1) ys1) (su1 : Sl w (.slice c1 us1.length cc1) us1) (sv1 : Sl w (.slice d1 vs1.length cd1) vs1) (sx2 : Sl w (.slice a2 xs2.length ca2) xs2) (sy2 : Sl w (.slice b2 ys2.length cb2) ys2) (su2 : Sl w (.slice c2 us2.length cc2) us2) (sv2 : Sl w (.slice d2 vs2.length cd2) vs2) (lxs1 : xs1.length ≤ 281474976710656) (lys1 : ys1.length ≤ 281474976710656) (lus1 : us1.length ≤ 281474976710656) (lvs1 : vs1.length ≤ 281474976710656) (lxs2 : xs2.length ≤ 281474976710656) (lys2 : ys2.length ≤ 281474976710656) (lus2 : us2.length ≤ 281474976710656) (lvs2 : vs2.length ≤ 281474976710656) :
    Calls Tryz.prog 15 #[.agg #[.string s1, .int .i32 f1, .int .i32 r1, .bool n1, .slice a1 xs1.length ca1, .slice b1 ys1.length cb1, .bool m1, .slice c1 us1.length cc1, .slice d1 vs1.length cd1], .agg #[.string s2, .int .i32 f2, .int .i32 r2, .bool n2, .slice a2 xs2.length ca2, .slice b2 ys2.length cb2, .bool m2, .slice c2 us2.length cc2, .slice d2 vs2.length cd2]] w fun x w' => x = .returned (.bool (decide (s1 = s2) && (f1 == f2 && r1 == r2) && (decide (n1 = n2 ∧ xs1 = xs2 ∧ ys1 = ys2) && decide (m1 = m2 ∧ us1 = us2 ∧ vs1 = vs2)))) ∧ Below w.heap.size w w' := by
  have HX := hid (boxes2r w 31 #[.string s1, .int .i32 f1, .int .i32 r1, .bool n1, .slice a1 xs1.length ca1, .slice b1 ys1.length cb1, .bool m1, .slice c1 us1.length cc1, .slice d1 vs1.length cd1] #[.string s2, .int .i32 f2, .int .i32 r2, .bool n2, .slice a2 xs2.length ca2, .slice b2 ys2.length cb2, .bool m2, .slice c2 us2.length cc2, .slice d2 vs2.length cd2])
  obtain ⟨X, hX⟩ : ∃ X, (w.alloc (.cells #[.string s1, .int .i32 f1, .int .i32 r1, .bool n1, .slice a1 xs1.length ca1, .slice b1 ys1.length cb1, .bool m1, .slice c1 us1.length cc1, .slice d1 vs1.length cd1] 31)).alloc (.cells #[.string s2, .int .i32 f2, .int .i32 r2, .bool n2, .slice a2 xs2.length ca2, .slice b2 ys2.length cb2, .bool m2, .slice c2 us2.length cc2, .slice d2 vs2.length cd2] 31) = X := ⟨_, rfl⟩
  rw [hX] at HX
  have H1 := hid (tnsame_any n1 a1 ca1 xs1 b1 cb1 ys1 m1 c1 cc1 us1 d1 cd1 vs1 n2 a2 ca2 xs2 b2 cb2 ys2 m2 c2 cc2 us2 d2 cd2 vs2 X (sx1.later HX.out.2.2) (sy1.later HX.out.2.2) (su1.later HX.out.2.2) (sv1.later HX.out.2.2) (sx2.later HX.out.2.2) (sy2.later HX.out.2.2) (su2.later HX.out.2.2) (sv2.later HX.out.2.2) lxs1 lys1 lus1 lvs1 lxs2 lys2 lus2 lvs2)
  clear sx1 sy1 su1 sv1 sx2 sy2 su2 sv2 lxs1 lys1 lus1 lvs1 lxs2 lys2 lus2 lvs2
  generalize (decide (n1 = n2 ∧ xs1 = xs2 ∧ ys1 = ys2) && decide (m1 = m2 ∧ us1 = us2 ∧ vs1 = vs2)) = z at *
  have hEQ := troEq f1 r1 f2 r2
  have ka0 : X.cell? ⟨w.heap.size, 0, none⟩ = some (.string s1) := HX.out.1.cell 0
  have ka1 : X.cell? ⟨w.heap.size, 1, none⟩ = some (.int .i32 f1) := HX.out.1.cell 1
  have ka2 : X.cell? ⟨w.heap.size, 2, none⟩ = some (.int .i32 r1) := HX.out.1.cell 2
  have ka3 : X.cell? ⟨w.heap.size, 3, none⟩ = some (.bool n1) := HX.out.1.cell 3
  have ka4 : X.cell? ⟨w.heap.size, 4, none⟩ = some (.slice a1 xs1.length ca1) := HX.out.1.cell 4
  have ka5 : X.cell? ⟨w.heap.size, 5, none⟩ = some (.slice b1 ys1.length cb1) := HX.out.1.cell 5
  have ka6 : X.cell? ⟨w.heap.size, 6, none⟩ = some (.bool m1) := HX.out.1.cell 6
  have ka7 : X.cell? ⟨w.heap.size, 7, none⟩ = some (.slice c1 us1.length cc1) := HX.out.1.cell 7
  have ka8 : X.cell? ⟨w.heap.size, 8, none⟩ = some (.slice d1 vs1.length cd1) := HX.out.1.cell 8
  have kb0 : X.cell? ⟨w.heap.size + 1, 0, none⟩ = some (.string s2) := HX.out.2.1.cell 0
  have kb1 : X.cell? ⟨w.heap.size + 1, 1, none⟩ = some (.int .i32 f2) := HX.out.2.1.cell 1
  have kb2 : X.cell? ⟨w.heap.size + 1, 2, none⟩ = some (.int .i32 r2) := HX.out.2.1.cell 2
  have kb3 : X.cell? ⟨w.heap.size + 1, 3, none⟩ = some (.bool n2) := HX.out.2.1.cell 3
  have kb4 : X.cell? ⟨w.heap.size + 1, 4, none⟩ = some (.slice a2 xs2.length ca2) := HX.out.2.1.cell 4
  have kb5 : X.cell? ⟨w.heap.size + 1, 5, none⟩ = some (.slice b2 ys2.length cb2) := HX.out.2.1.cell 5
  have kb6 : X.cell? ⟨w.heap.size + 1, 6, none⟩ = some (.bool m2) := HX.out.2.1.cell 6
  have kb7 : X.cell? ⟨w.heap.size + 1, 7, none⟩ = some (.slice c2 us2.length cc2) := HX.out.2.1.cell 7
  have kb8 : X.cell? ⟨w.heap.size + 1, 8, none⟩ = some (.slice d2 vs2.length cd2) := HX.out.2.1.cell 8
  by_cases hs : s1 = s2
  · subst hs
    generalize (f1 == f2 && r1 == r2) = y at *
    cases y with
    | false =>
      go_enter Tryz.func15, Tryz.ntmps15
      go_wp2_with fail
      go_ret
      exact ⟨by simp, HX.out.2.2⟩
    | true =>
      go_enter Tryz.func15, Tryz.ntmps15
      go_wp2_with fail
      refine Calls.mono H1.out ?_
      rintro x w1 ⟨rfl, hb1⟩
      have HW1 := hid (bt HX.out.2.2 hb1)
      clear ka0 ka1 ka2 ka3 ka4 ka5 ka6 ka7 ka8 kb0 kb1 kb2 kb3 kb4 kb5 kb6 kb7 kb8 hb1 H1
      go_wp2_with fail
      go_ret
      exact ⟨by simp, HW1.out⟩
  · have hs' := tstr_other hs
    have HD : Hid (decide (s1 = s2) = false) := decide_eq_false hs
    rw [HD.out]
    clear hs
    go_enter Tryz.func15, Tryz.ntmps15
    go_wp2_with fail
    go_ret
    exact ⟨by simp [HD.out], HX.out.2.2⟩
end Go.Proofs.YtmgjkdijnjeljaaGreatDoor

