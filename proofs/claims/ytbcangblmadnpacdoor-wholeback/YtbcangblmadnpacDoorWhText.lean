/- Whole numbers as texts: whole.Print, strings.CutPrefix by a minus, whole.Parse. -/
import Derived.Test.YtbcangblmadnpacDoorWh10
import Derived.Test.YtbcangblmadnpacDoorBackLaw
import Derived.Test.YtbcangblmadnpacDoorShelf
import Derived.Handy
namespace Go.Proofs.YtbcangblmadnpacDoor
open Go.RowKit Go.Lib
set_option linter.unusedVariables false

theorem dec_len : ∀ (k n : Nat), n < 10 ^ (k + 1) → (decDigits n).length ≤ k + 1
  | 0, n, h => by rw [decDigits_one (by simpa using h)]; simp
  | k + 1, n, h => by
    by_cases c : n < 10
    · rw [decDigits_one c]; simp
    · have ih := dec_len k (n / 10) (by rw [Nat.pow_succ] at h; omega)
      rw [decDigits, dif_neg c, List.length_append, List.length_singleton]
      omega
theorem ten_pow (m : Nat) : (4294967296 : Int) ^ m ≤ 10 ^ (10 * m) := by
  induction m with
  | zero => simp
  | succ m ih =>
    rw [pw_succ, show 10 * (m + 1) = 10 * m + 10 by omega, Int.pow_add]
    have p := pw_pos m
    have e : (10 : Int) ^ 10 = 10000000000 := by decide
    rw [e]
    omega
theorem dec_short' {xs : List Int} (hw : Wd xs) (m : Nat) (hl : xs.length ≤ m) : (decDigits (val xs).toNat).length ≤ 10 * m + 1 := by
  have h1 := val_lt hw
  have h2 : (4294967296 : Int) ^ xs.length ≤ 4294967296 ^ m := pw_le hl
  have h3 := ten_pow m
  have h0 := val_nonneg hw
  have h4 : val xs < 10 ^ (10 * m) := Int.lt_of_lt_of_le h1 (Int.le_trans h2 h3)
  have h6 : (10 : Int) ^ (10 * m + 1) = 10 ^ (10 * m) * 10 := Int.pow_succ _ _
  have h7 : (0 : Int) < 10 ^ (10 * m) := Int.pow_pos (by decide)
  have h5 : (((val xs).toNat : Nat) : Int) < ((10 ^ (10 * m + 1) : Nat) : Int) := by
    rw [Int.toNat_of_nonneg h0, Int.natCast_pow]
    show _ < (10 : Int) ^ (10 * m + 1)
    rw [h6]; omega
  exact dec_len (10 * m) _ (Int.ofNat_lt.1 h5)
theorem dec_short {xs : List Int} (hw : Wd xs) (hl : xs.length ≤ 2048) : (decDigits (val xs).toNat).length ≤ 20481 := by
  have := dec_short' hw 2048 hl
  omega
theorem ten_le (k : Nat) : (10 : Int) ^ k ≤ 4294967296 ^ k := by
  induction k with
  | zero => simp
  | succ k ih =>
    rw [Int.pow_succ, pw_succ]
    have p := pw_pos k
    omega

/-- The text of a whole number. -/
def wtext (n : Bool) (xs : List Int) : List UInt8 := (if n then [45] else []) ++ decDigits (val xs).toNat

set_option maxHeartbeats 1600000 in
set_option maxRecDepth 100000 in
theorem wprint_any (n : Bool) (v : Value) (xs : List Int) (w : World) (h : Sl w v xs) (hx : wchk n xs = 0) (htab : Tab w) :
    Calls Tryd.prog 8 #[.agg #[.bool n, v]] w fun e w' => ∃ T : ByteArray, e = .returned (.tuple #[.string T, .int .i64 0]) ∧ T.data.toList = wtext n xs ∧ Below w.heap.size w w' := by
  obtain ⟨lx, tx, _⟩ := wchk_ok hx
  have wx := h.wd
  have HB := hid (alloc_later w (.cells #[.bool n, v] 24))
  have HX := hid (Box.made w 24 #[.bool n, v])
  have HC := hid (wcheck_any n v xs _ (h.later HB.out) (by omega))
  rw [hx] at HC
  have HP := hid (fun w1 (hb : Below (w.alloc (.cells #[.bool n, v] 24)).heap.size (w.alloc (.cells #[.bool n, v] 24)) w1) => print_any v xs w1 ((h.later HB.out).later hb) (by omega) (htab.later (bt HB.out hb)))
  rw [chk_good (by omega) tx, if_pos rfl] at HP
  obtain ⟨D, hD⟩ : ∃ D : ByteArray, D = ⟨(decDigits (val xs).toNat).toArray⟩ := ⟨_, rfl⟩
  have hds : D.size ≤ 20481 := by
    have e : D.size = (decDigits (val xs).toNat).length := by rw [hD]; exact (size_list _).symm
    rw [e]; exact dec_short wx lx
  have HDL : Hid (D.data.toList = decDigits (val xs).toNat) := by rw [hD]; rfl
  rw [← hD] at HP
  obtain ⟨a, cap, rfl, hr⟩ := h
  clear hr hD hx
  cases n with
  | false =>
    go_enter Tryd.func8, Tryd.ntmps8
    go_wp2_with fail
    refine Calls.mono HC.out ?_
    rintro e w1 ⟨rfl, hb1⟩
    obtain ⟨p0, p1, _, _⟩ := res_box HX.out hb1
    have HP1 := hid (HP.out w1 hb1)
    have HB1 := hid hb1
    clear hb1 HP
    go_wp2_with fail
    refine Calls.mono HP1.out ?_
    rintro e w2 ⟨rfl, hb2⟩
    obtain ⟨q0, q1, _, _⟩ := res_box HX.out (bt HB1.out hb2)
    have hbF := bt HB.out (bt HB1.out hb2)
    clear hb2 p0 p1
    go_wp2_with fail
    go_ret2
    exact ⟨D, rfl, HDL.out, hbF⟩
  | true =>
    go_enter Tryd.func8, Tryd.ntmps8
    go_wp2_with fail
    refine Calls.mono HC.out ?_
    rintro e w1 ⟨rfl, hb1⟩
    obtain ⟨p0, p1, _, _⟩ := res_box HX.out hb1
    have HP1 := hid (HP.out w1 hb1)
    have HB1 := hid hb1
    clear hb1 HP
    go_wp2_with fail
    refine Calls.mono HP1.out ?_
    rintro e w2 ⟨rfl, hb2⟩
    obtain ⟨q0, q1, _, _⟩ := res_box HX.out (bt HB1.out hb2)
    have hbF := bt HB.out (bt HB1.out hb2)
    clear hb2 p0 p1
    go_wp2_with fail
    go_ret2
    refine ⟨_, rfl, ?_, hbF⟩
    show _ = 45 :: decDigits (val xs).toNat
    rw [← HDL.out]
    simp

theorem cut_minus (s : ByteArray) (w : World) (hs : s.size ≤ 65536) :
    Calls Tryd.prog 51 #[.string s, .string ⟨#[45]⟩] w fun e w' => ∃ (T : ByteArray) (b : Bool), e = .returned (.tuple #[.string T, .bool b]) ∧ b = decide (s.data.toList[0]? = some 45) ∧ T.data.toList = (if b then s.data.toList.drop 1 else s.data.toList) ∧ w = w' := by
  have HH := hid (Tryd.stringslite_HasPrefix s ⟨#[45]⟩ w)
  have e0 : Lib.hasPrefix s.data.toList (⟨#[45]⟩ : ByteArray).data.toList = decide (s.data.toList[0]? = some 45) := by
    cases hl : s.data.toList with
    | nil => simp [Lib.hasPrefix]
    | cons c l =>
      by_cases hc : c = 45
      · subst hc; simp [Lib.hasPrefix, List.isPrefixOf]
      · have hc' : ¬ (45 : UInt8) = c := fun e => hc e.symm
        simp [Lib.hasPrefix, List.isPrefixOf, hc, hc']
  rw [e0] at HH
  by_cases c : s.data.toList[0]? = some 45
  · have hd : decide (s.data.toList[0]? = some 45) = true := decide_eq_true c
    rw [hd] at HH ⊢
    have h1 : 1 ≤ s.size := by
      rw [← size_list]
      by_cases z : s.data.toList.length = 0
      · rw [List.getElem?_eq_none (by omega)] at c; cases c
      · omega
    have HX := hid (extract_list s 1 s.size)
    clear c hd e0
    go_enter Tryd.func51, Tryd.ntmps51
    go_wp2_with fail
    refine Calls.mono HH.out ?_
    rintro e w' ⟨rfl, rfl⟩
    go_wp2_with fail
    go_ret2
    refine ⟨_, true, rfl, rfl, ?_, rfl⟩
    rw [if_pos rfl, HX.out, List.take_of_length_le (by rw [List.length_drop, size_list]; omega)]
  · have hd : decide (s.data.toList[0]? = some 45) = false := decide_eq_false c
    rw [hd] at HH ⊢
    clear c hd e0
    go_enter Tryd.func51, Tryd.ntmps51
    go_wp2_with fail
    refine Calls.mono HH.out ?_
    rintro e w' ⟨rfl, rfl⟩
    go_wp2_with fail
    go_ret2
    exact ⟨s, false, rfl, rfl, rfl, rfl⟩

theorem cutPrefix_minus (s : ByteArray) (w : World) (hs : s.size ≤ 65536) :
    Calls Tryd.prog 26 #[.string s, .string ⟨#[45]⟩] w fun e w' => ∃ (T : ByteArray) (b : Bool), e = .returned (.tuple #[.string T, .bool b]) ∧ b = decide (s.data.toList[0]? = some 45) ∧ T.data.toList = (if b then s.data.toList.drop 1 else s.data.toList) ∧ w = w' := by
  have HH := hid (cut_minus s w hs)
  go_enter Tryd.func26, Tryd.ntmps26
  go_wp2_with fail
  refine Calls.mono HH.out ?_
  rintro e w' ⟨T, b, rfl, h1, h2, rfl⟩
  have HR := hid (And.intro h1 h2)
  clear h1 h2
  go_wp2_with fail
  go_ret2
  exact ⟨T, b, rfl, HR.out.1, HR.out.2, rfl⟩
/-- What stands behind a minus. -/
def wdig (b : Bool) (l : List UInt8) : List UInt8 := if b then l.drop 1 else l
def wneg (s : ByteArray) : Bool := decide (s.data.toList[0]? = some 45)
def wnum (s : ByteArray) : Int := numTo (wdig (wneg s) s.data.toList) (wdig (wneg s) s.data.toList).length
open Classical in
/-- Parse's error, of a text. -/
noncomputable def wpErr (s : ByteArray) : Int := if 65536 < s.size then 3 else if IsNum (wdig (wneg s) s.data.toList) ∧ (wneg s = false ∨ 0 < wnum s) then 0 else 120
theorem pErr_ok (s : ByteArray) (hs : s.size ≤ 65536) (h : IsNum s.data.toList) : pErr s = 0 := by unfold pErr; rw [if_neg (by omega), if_pos h]
theorem pErr_not (s : ByteArray) (hs : s.size ≤ 65536) (h : ¬ IsNum s.data.toList) : pErr s = 110 := by unfold pErr; rw [if_neg (by omega), if_neg h]

set_option maxHeartbeats 3200000 in
set_option maxRecDepth 100000 in
theorem wparse_any (s : ByteArray) (w : World) (hs : s.size ≤ 65536) :
    Calls Tryd.prog 10 #[.string s] w (WTold w (wpErr s) (sg (wneg s) (wnum s))) := by
  have HB := hid (alloc_later w (.cells #[.bool false, .slice none 0 0] 24))
  have HXB := hid (Box.made w 24 #[.bool false, .slice none 0 0])
  have HCP := hid (cutPrefix_minus s (w.alloc (.cells #[.bool false, .slice none 0 0] 24)) hs)
  obtain ⟨bw, hbw⟩ : ∃ bw, decide (s.data.toList[0]? = some 45) = bw := ⟨_, rfl⟩
  have hw : wneg s = bw := hbw
  by_cases hN : IsNum (wdig bw s.data.toList)
  · have hn0 : 0 ≤ numTo (wdig bw s.data.toList) (wdig bw s.data.toList).length := (numTo_bounds hN.2.2 _).1
    have HN := hid hN
    have HN0 := hid hn0
    have hnum : wnum s = numTo (wdig bw s.data.toList) (wdig bw s.data.toList).length := by unfold wnum; rw [hw]
    cases bw with
    | false =>
      have HE : Hid (wpErr s = 0) := by show _ = _; unfold wpErr; rw [if_neg (by omega), if_pos ⟨by rw [hw]; exact hN, .inl hw⟩]
      rw [HE.out, hw, hnum]
      clear hN hn0 hw hnum HE
      go_enter Tryd.func10, Tryd.ntmps10
      go_wp2_with fail
      refine Calls.mono HCP.out ?_
      rintro e w' ⟨T, b, rfl, hbb, hTl, rfl⟩
      rw [hbw] at hbb
      subst hbb
      have hTs : T.size ≤ 65536 := by
        rw [← size_list, hTl]
        have := size_list s
        split
        · rw [List.length_drop]; omega
        · omega
      have HP := parse_any T (w.alloc (.cells #[.bool false, .slice none 0 0] 24)) (by unfold maxLen; omega)
      rw [pErr_ok T hTs (by rw [hTl]; exact HN.out)] at HP
      rw [show numTo T.data.toList T.size = numTo (wdig false s.data.toList) (wdig false s.data.toList).length by rw [← size_list, hTl]; rfl] at HP
      have HH := hid HP
      clear HP hTl hTs
      go_wp2_with fail
      refine Calls.mono HH.out ?_
      rintro e w2 ⟨v2, zs, code, rfl, o2, t2, hb2⟩
      obtain ⟨a2, c2, hv2⟩ := own_slice' o2
      subst hv2
      obtain ⟨m3, us, cc, e1, e2, wt⟩ := wtells_of (n := false) t2 HN0.out
      have HTD := hid (wtold_any false a2 zs.length c2 code w2 (tells_code t2))
      rw [e1 a2 c2] at HTD
      have HO2 := hid o2
      have HB1 := hid hb2
      have HWT := hid wt
      have HE2 := hid e2
      have HT2 := hid t2
      clear o2 hb2 e1 e2 wt t2 HH
      by_cases hcw : numTo (wdig false s.data.toList) (wdig false s.data.toList).length < wide
      · obtain rfl := (HT2.out.good rfl hcw).1
        clear hcw
        go_wp2_with fail
        refine Calls.mono HTD.out ?_
        rintro e w3 ⟨rfl, hb3⟩
        obtain ⟨r0, r1, f0, f1⟩ := res_box HXB.out (bt HB1.out hb3)
        have HO3 := hid (wtold_cut HWT.out HE2.out (owns_later HO2.out hb3))
        obtain ⟨a3, k3, c3, e3⟩ := cut_slice cc a2 zs.length c2
        rw [e3] at HO3 ⊢
        have HBC := hid (bt HB.out (bt HB1.out hb3))
        have HGE : Hid (∀ g, (Value.slice a3 k3 c3).ownBlock = some g → g ≠ w.heap.size) := fun g hg => by
          have h1 := (World.ownsRow.lt HO3.out g hg).1
          have h2 := HXB.out.lt
          omega
        clear hb3 e3
        go_wp2_with fail
        refine bodyPost_ret (v := .tuple #[.agg #[.bool m3, .slice a3 k3 c3], .int .i64 cc]) (by simp [results, Tryd.results10, go_sem, r0, r1]) rfl ?_
        exact ⟨m3, _, us, cc, rfl, owns_base (own_put2 HO3.out _ HGE.out _ _) (by have := HXB.out.lt; omega), HWT.out, below_put2 HBC.out _ (Nat.le_refl _) _ _⟩
      · obtain rfl := (HT2.out.long rfl (by omega)).1
        clear hcw
        go_wp2_with fail
        refine Calls.mono HTD.out ?_
        rintro e w3 ⟨rfl, hb3⟩
        obtain ⟨r0, r1, f0, f1⟩ := res_box HXB.out (bt HB1.out hb3)
        have HO3 := hid (wtold_cut HWT.out HE2.out (owns_later HO2.out hb3))
        obtain ⟨a3, k3, c3, e3⟩ := cut_slice cc a2 zs.length c2
        rw [e3] at HO3 ⊢
        have HBC := hid (bt HB.out (bt HB1.out hb3))
        have HGE : Hid (∀ g, (Value.slice a3 k3 c3).ownBlock = some g → g ≠ w.heap.size) := fun g hg => by
          have h1 := (World.ownsRow.lt HO3.out g hg).1
          have h2 := HXB.out.lt
          omega
        clear hb3 e3
        go_wp2_with fail
        refine bodyPost_ret (v := .tuple #[.agg #[.bool m3, .slice a3 k3 c3], .int .i64 cc]) (by simp [results, Tryd.results10, go_sem, r0, r1]) rfl ?_
        exact ⟨m3, _, us, cc, rfl, owns_base (own_put2 HO3.out _ HGE.out _ _) (by have := HXB.out.lt; omega), HWT.out, below_put2 HBC.out _ (Nat.le_refl _) _ _⟩
    | true =>
      by_cases hz : 0 < wnum s
      · have HE : Hid (wpErr s = 0) := by show _ = _; unfold wpErr; rw [if_neg (by omega), if_pos ⟨by rw [hw]; exact hN, .inr hz⟩]
        rw [HE.out, hw, hnum]
        rw [hnum] at hz
        have HZ := hid hz
        clear hN hn0 hw hnum HE hz
        go_enter Tryd.func10, Tryd.ntmps10
        go_wp2_with fail
        refine Calls.mono HCP.out ?_
        rintro e w' ⟨T, b, rfl, hbb, hTl, rfl⟩
        rw [hbw] at hbb
        subst hbb
        have hTs : T.size ≤ 65536 := by
          rw [← size_list, hTl]
          have := size_list s
          split
          · rw [List.length_drop]; omega
          · omega
        have HP := parse_any T (w.alloc (.cells #[.bool false, .slice none 0 0] 24)) (by unfold maxLen; omega)
        rw [pErr_ok T hTs (by rw [hTl]; exact HN.out)] at HP
        rw [show numTo T.data.toList T.size = numTo (wdig true s.data.toList) (wdig true s.data.toList).length by rw [← size_list, hTl]; rfl] at HP
        have HH := hid HP
        clear HP hTl hTs
        go_wp2_with fail
        refine Calls.mono HH.out ?_
        rintro e w2 ⟨v2, zs, code, rfl, o2, t2, hb2⟩
        obtain ⟨a2, c2, hv2⟩ := own_slice' o2
        subst hv2
        obtain ⟨m3, us, cc, e1, e2, wt⟩ := wtells_of (n := true) t2 HN0.out
        have HTD := hid (wtold_any true a2 zs.length c2 code w2 (tells_code t2))
        rw [e1 a2 c2] at HTD
        have HO2 := hid o2
        have HB1 := hid hb2
        have HWT := hid wt
        have HE2 := hid e2
        have HT2 := hid t2
        clear o2 hb2 e1 e2 wt t2 HH
        by_cases hcw : numTo (wdig true s.data.toList) (wdig true s.data.toList).length < wide
        · obtain ⟨rfl, hval⟩ := HT2.out.good rfl hcw
          have hzl : ((zs.length : Int) == 0) = false := by
            simp
            intro e
            rw [e, val_nil] at hval
            have := HZ.out
            omega
          clear hcw hval
          go_wp2_with fail
          refine Calls.mono HTD.out ?_
          rintro e w3 ⟨rfl, hb3⟩
          obtain ⟨r0, r1, f0, f1⟩ := res_box HXB.out (bt HB1.out hb3)
          have HO3 := hid (wtold_cut HWT.out HE2.out (owns_later HO2.out hb3))
          obtain ⟨a3, k3, c3, e3⟩ := cut_slice cc a2 zs.length c2
          rw [e3] at HO3 ⊢
          have HBC := hid (bt HB.out (bt HB1.out hb3))
          have HGE : Hid (∀ g, (Value.slice a3 k3 c3).ownBlock = some g → g ≠ w.heap.size) := fun g hg => by
            have h1 := (World.ownsRow.lt HO3.out g hg).1
            have h2 := HXB.out.lt
            omega
          clear hb3 e3
          go_wp2_with fail
          refine bodyPost_ret (v := .tuple #[.agg #[.bool m3, .slice a3 k3 c3], .int .i64 cc]) (by simp [results, Tryd.results10, go_sem, r0, r1]) rfl ?_
          exact ⟨m3, _, us, cc, rfl, owns_base (own_put2 HO3.out _ HGE.out _ _) (by have := HXB.out.lt; omega), HWT.out, below_put2 HBC.out _ (Nat.le_refl _) _ _⟩
        · obtain rfl := (HT2.out.long rfl (by omega)).1
          clear hcw
          go_wp2_with fail
          refine Calls.mono HTD.out ?_
          rintro e w3 ⟨rfl, hb3⟩
          obtain ⟨r0, r1, f0, f1⟩ := res_box HXB.out (bt HB1.out hb3)
          have HO3 := hid (wtold_cut HWT.out HE2.out (owns_later HO2.out hb3))
          obtain ⟨a3, k3, c3, e3⟩ := cut_slice cc a2 zs.length c2
          rw [e3] at HO3 ⊢
          have HBC := hid (bt HB.out (bt HB1.out hb3))
          have HGE : Hid (∀ g, (Value.slice a3 k3 c3).ownBlock = some g → g ≠ w.heap.size) := fun g hg => by
            have h1 := (World.ownsRow.lt HO3.out g hg).1
            have h2 := HXB.out.lt
            omega
          clear hb3 e3
          go_wp2_with fail
          refine bodyPost_ret (v := .tuple #[.agg #[.bool m3, .slice a3 k3 c3], .int .i64 cc]) (by simp [results, Tryd.results10, go_sem, r0, r1]) rfl ?_
          exact ⟨m3, _, us, cc, rfl, owns_base (own_put2 HO3.out _ HGE.out _ _) (by have := HXB.out.lt; omega), HWT.out, below_put2 HBC.out _ (Nat.le_refl _) _ _⟩
      · have HE : Hid (wpErr s = 120) := by
          show _ = _
          unfold wpErr
          rw [if_neg (by omega), if_neg (fun h => h.2.elim (fun e => by rw [hw] at e; cases e) hz)]
        have HWE : Hid (WTells 120 (sg (wneg s) (wnum s)) false [] 120) := WTells.err (by decide)
        rw [HE.out]
        rw [hnum] at hz
        have HZ : Hid (numTo (wdig true s.data.toList) (wdig true s.data.toList).length = 0) := by show _ = _; omega
        clear hN hn0 hw hnum HE hz
        go_enter Tryd.func10, Tryd.ntmps10
        go_wp2_with fail
        refine Calls.mono HCP.out ?_
        rintro e w' ⟨T, b, rfl, hbb, hTl, rfl⟩
        rw [hbw] at hbb
        subst hbb
        have hTs : T.size ≤ 65536 := by
          rw [← size_list, hTl]
          have := size_list s
          split
          · rw [List.length_drop]; omega
          · omega
        have HP := parse_any T (w.alloc (.cells #[.bool false, .slice none 0 0] 24)) (by unfold maxLen; omega)
        rw [pErr_ok T hTs (by rw [hTl]; exact HN.out)] at HP
        rw [show numTo T.data.toList T.size = 0 by rw [← size_list, hTl]; exact HZ.out] at HP
        have HH := hid HP
        clear HP hTl hTs
        go_wp2_with fail
        refine Calls.mono HH.out ?_
        rintro e w2 ⟨v2, zs, code, rfl, o2, t2, hb2⟩
        obtain ⟨rfl, hval⟩ := t2.good rfl (by have := pw_pos 8192; unfold wide; omega)
        have hzn : zs = [] := trimmed_eq t2.wd Wd.nil t2.trim Trimmed.nil (by rw [hval]; rfl)
        subst hzn
        obtain ⟨a2, c2, hv2⟩ := own_slice' o2
        subst hv2
        have HTD := hid (wtold_any true a2 0 c2 120 w2 (by omega))
        rw [show toldV true a2 0 c2 120 = .tuple #[.agg #[.bool false, .slice none 0 0], .int .i64 120] from rfl] at HTD
        have HB1 := hid hb2
        clear o2 hb2 t2 hval HH
        go_wp2_with fail
        refine Calls.mono HTD.out ?_
        rintro e w3 ⟨rfl, hb3⟩
        obtain ⟨r0, r1, f0, f1⟩ := res_box HXB.out (bt HB1.out hb3)
        have HBC := hid (bt HB.out (bt HB1.out hb3))
        clear hb3
        go_wp2_with fail
        refine bodyPost_ret (v := .tuple #[.agg #[.bool false, .slice none 0 0], .int .i64 120]) (by simp [results, Tryd.results10, go_sem, r0, r1]) rfl ?_
        exact ⟨false, _, [], 120, rfl, World.ownsRow_nil _ _ _ _, HWE.out, below_put2 HBC.out _ (Nat.le_refl _) _ _⟩
  · have HE : Hid (wpErr s = 120) := by show _ = _; unfold wpErr; rw [if_neg (by omega), if_neg (fun h => hN (by rw [← hw]; exact h.1))]
    have HWE : Hid (WTells 120 (sg (wneg s) (wnum s)) false [] 120) := WTells.err (by decide)
    rw [HE.out]
    have HN := hid hN
    clear hN hw HE
    go_enter Tryd.func10, Tryd.ntmps10
    go_wp2_with fail
    refine Calls.mono HCP.out ?_
    rintro e w' ⟨T, b, rfl, hbb, hTl, rfl⟩
    rw [hbw] at hbb
    subst hbb
    have hTs : T.size ≤ 65536 := by
      rw [← size_list, hTl]
      have := size_list s
      split
      · rw [List.length_drop]; omega
      · omega
    have HP := parse_any T (w.alloc (.cells #[.bool false, .slice none 0 0] 24)) (by unfold maxLen; omega)
    rw [pErr_not T hTs (by rw [hTl]; exact HN.out)] at HP
    have HH := hid HP
    clear HP hTl hTs
    go_wp2_with fail
    refine Calls.mono HH.out ?_
    rintro e w2 ⟨v2, zs, code, rfl, o2, t2, hb2⟩
    obtain ⟨rfl, rfl⟩ := t2.bad (by decide)
    obtain ⟨a2, c2, hv2⟩ := own_slice' o2
    subst hv2
    have HTD := hid (wtold_any b a2 0 c2 120 w2 (by omega))
    rw [show toldV b a2 0 c2 120 = .tuple #[.agg #[.bool false, .slice none 0 0], .int .i64 120] from rfl] at HTD
    have HB1 := hid hb2
    clear o2 hb2 t2 HH
    go_wp2_with fail
    refine Calls.mono HTD.out ?_
    rintro e w3 ⟨rfl, hb3⟩
    obtain ⟨r0, r1, f0, f1⟩ := res_box HXB.out (bt HB1.out hb3)
    have HBC := hid (bt HB.out (bt HB1.out hb3))
    clear hb3
    go_wp2_with fail
    refine bodyPost_ret (v := .tuple #[.agg #[.bool false, .slice none 0 0], .int .i64 120]) (by simp [results, Tryd.results10, go_sem, r0, r1]) rfl ?_
    exact ⟨false, _, [], 120, rfl, World.ownsRow_nil _ _ _ _, HWE.out, below_put2 HBC.out _ (Nat.le_refl _) _ _⟩

set_option maxHeartbeats 800000 in
set_option maxRecDepth 100000 in
theorem wprint_err (n : Bool) (v : Value) (xs : List Int) (w : World) (h : Sl w v xs) (hl : xs.length ≤ 2048) (hx : wchk n xs ≠ 0) :
    Calls Tryd.prog 8 #[.agg #[.bool n, v]] w fun e w' => e = .returned (.tuple #[.string ⟨#[]⟩, .int .i64 (wchk n xs)]) ∧ Below w.heap.size w w' := by
  have HB := hid (alloc_later w (.cells #[.bool n, v] 24))
  have HC := hid (wcheck_any n v xs _ (h.later HB.out) (by omega))
  have hne : (wchk n xs != 0) = true := by simp [hx]
  obtain ⟨c, hc⟩ : ∃ c, wchk n xs = c := ⟨_, rfl⟩
  rw [hc] at HC hne ⊢
  obtain ⟨a, cap, rfl, hr⟩ := h
  clear hr hc hx
  go_enter Tryd.func8, Tryd.ntmps8
  go_wp2_with fail
  refine Calls.mono HC.out ?_
  rintro e w1 ⟨rfl, hb1⟩
  have hbF := bt HB.out hb1
  clear hb1
  go_wp2_with fail
  go_ret2
  exact ⟨rfl, hbF⟩

theorem digit_first {l : List UInt8} (h : IsNum l) : ¬ l[0]? = some 45 := fun e => by
  have h1 := h.2.2 45 (List.mem_of_getElem? e)
  have h2 : ((45 : UInt8).toNat : Int) = 45 := rfl
  omega
/-- A whole number's text is read as it. -/
theorem text_parse {n : Bool} {xs : List Int} (wx : Wd xs) (hx : wchk n xs = 0) (T : ByteArray) (hT : T.data.toList = wtext n xs) : T.size ≤ 65536 ∧ wpErr T = 0 ∧ sg (wneg T) (wnum T) = wval n xs := by
  obtain ⟨lx, tx, sx⟩ := wchk_ok hx
  obtain ⟨d1, d2, _⟩ := isNum_dec (val xs).toNat
  have d3 := dec_short wx lx
  have v0 := val_nonneg wx
  have hneg : wneg T = n := by
    unfold wneg
    rw [hT]
    unfold wtext
    cases n with
    | false => exact decide_eq_false (digit_first d1)
    | true => rfl
  have hdig : wdig n T.data.toList = decDigits (val xs).toNat := by
    rw [hT]; unfold wdig wtext
    cases n <;> rfl
  have hnum : wnum T = val xs := by
    unfold wnum
    rw [hneg, hdig, d2]
    omega
  have hsz : T.size ≤ 65536 := by
    rw [← size_list, hT]
    unfold wtext
    rw [List.length_append]
    have : (if n = true then [(45 : UInt8)] else []).length ≤ 1 := by cases n <;> simp
    omega
  refine ⟨hsz, ?_, ?_⟩
  · unfold wpErr
    have hcond : IsNum (wdig (wneg T) T.data.toList) ∧ (wneg T = false ∨ 0 < wnum T) := ⟨by rw [hneg, hdig]; exact d1, by
      rcases sx with e | e
      · left; rw [hneg]; exact e
      · right; rw [hnum]; have := val_pos' wx tx e; omega⟩
    rw [if_neg (by omega), if_pos hcond]
  · rw [hneg, hnum]; rfl
/-- Unlike numbers have unlike texts. -/
theorem text_inj {n m : Bool} {xs ys : List Int} (wx : Wd xs) (wy : Wd ys) (hx : wchk n xs = 0) (hy : wchk m ys = 0) (T U : ByteArray) (hT : T.data.toList = wtext n xs) (hU : U.data.toList = wtext m ys) : T = U ↔ (n = m ∧ xs = ys) := by
  constructor
  · intro e
    have a1 := (text_parse wx hx T hT).2.2
    have a2 := (text_parse wy hy U hU).2.2
    rw [e, a2] at a1
    obtain ⟨_, tx, sx⟩ := wchk_ok hx
    obtain ⟨_, ty, sy⟩ := wchk_ok hy
    exact wsame' wx wy tx ty sx sy a1.symm
  · rintro ⟨rfl, rfl⟩
    have e : T.data.toList = U.data.toList := hT.trans hU.symm
    exact ByteArray.ext (Array.toList_inj.1 e)
/-- What a text is read as has that text. -/
theorem parse_text (s : ByteArray) (he : wpErr s = 0) {n : Bool} {zs : List Int} (wz : Wd zs) (hz : wchk n zs = 0) (hv : wval n zs = sg (wneg s) (wnum s)) : wtext n zs = s.data.toList := by
  unfold wpErr at he
  by_cases h1 : 65536 < s.size
  · rw [if_pos h1] at he; omega
  · rw [if_neg h1] at he
    by_cases h2 : IsNum (wdig (wneg s) s.data.toList) ∧ (wneg s = false ∨ 0 < wnum s)
    · obtain ⟨hN, hs⟩ := h2
      have h0 : 0 ≤ wnum s := (numTo_bounds hN.2.2 _).1
      obtain ⟨_, tz, sz'⟩ := wchk_ok hz
      have v0 := val_nonneg wz
      have hp := val_pos' wz tz
      obtain ⟨hn, hval⟩ : n = wneg s ∧ val zs = wnum s := by
        generalize wneg s = b at *
        cases n <;> cases b <;> simp [wval, sg] at hv hs sz' ⊢
        · exact hv
        · omega
        · have := hp (by omega); omega
        · exact hv
      have hd : decDigits (wnum s).toNat = wdig (wneg s) s.data.toList := by
        obtain ⟨k, hk⟩ : ∃ k, (wdig (wneg s) s.data.toList).length = k + 1 := ⟨_, (Nat.succ_pred_eq_of_pos hN.1).symm⟩
        exact dec_num k _ hk hN
      unfold wtext
      rw [hval, hd, hn]
      unfold wdig
      cases hw : wneg s with
      | false => rfl
      | true =>
        have hc : s.data.toList[0]? = some 45 := of_decide_eq_true hw
        cases hl : s.data.toList with
        | nil => rw [hl] at hc; cases hc
        | cons c l => rw [hl] at hc; simp at hc; simp [hc]
    · rw [if_neg h2] at he; omega
theorem num_small (s : ByteArray) (hs : s.size ≤ 400) (he : wpErr s = 0) : -wlim < sg (wneg s) (wnum s) ∧ sg (wneg s) (wnum s) < wlim := by
  unfold wpErr at he
  rw [if_neg (by omega)] at he
  by_cases h2 : IsNum (wdig (wneg s) s.data.toList) ∧ (wneg s = false ∨ 0 < wnum s)
  · have hb := numTo_bounds h2.1.2.2 (wdig (wneg s) s.data.toList).length
    have hl : (wdig (wneg s) s.data.toList).length ≤ 400 := by
      have := size_list s
      unfold wdig
      split
      · rw [List.length_drop]; omega
      · omega
    have e1 : (10 : Int) ^ (wdig (wneg s) s.data.toList).length ≤ 4294967296 ^ (wdig (wneg s) s.data.toList).length := ten_le _
    have e2 : (4294967296 : Int) ^ (wdig (wneg s) s.data.toList).length ≤ wlim := by unfold wlim; exact pw_le (by omega)
    have e3 : wnum s < wlim := Int.lt_of_lt_of_le hb.2 (Int.le_trans e1 e2)
    have e4 : 0 ≤ wnum s := hb.1
    have e5 := wlim_pos
    cases wneg s <;> simp [sg] <;> omega
  · rw [if_neg h2] at he; omega
end Go.Proofs.YtbcangblmadnpacDoor
