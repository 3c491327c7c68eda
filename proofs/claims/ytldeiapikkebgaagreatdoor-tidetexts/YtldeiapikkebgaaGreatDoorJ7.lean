/- My texts on the way to TideTexts, one behind the other: contracts of the program and of the document's answers. -/
import Derived.Test.YtldeiapikkebgaaGreatDoorJ2
import Derived.Test.YtldeiapikkebgaaGreatDoorJ3
import Derived.Test.YtldeiapikkebgaaGreatDoorJ4
import Derived.Test.YtldeiapikkebgaaGreatDoorJ5
import Derived.Test.YtldeiapikkebgaaGreatDoorJ6
import Derived.Test.YtldeiapikkebgaaGreatDoorShelf
import Derived.Lib.AtoiErrMem
import Derived.Lib.ItoaLen
import Derived.Lib.IndexBytes
import Derived.Lib.CutLaws
import Derived.Shelf.RegionOpenPlain
import Derived.Lib.AtoiAll
import Derived.Lib.AtoiAllCases
import Derived.Laws.IdiomStrings
import Derived.Deep.RegionHeld3
import Derived.Deep.RegionLaw
import Derived.BigQuiet
/- The document's letter, digit, Name, Check of layer 13: what tide's tell. (tools/mkqg1.py) -/
namespace Go.Proofs.YtldeiapikkebgaaGreatDoor
open Go.RowKit
set_option linter.unusedVariables false
set_option linter.unusedSimpArgs false
set_option maxHeartbeats 800000 in
set_option maxRecDepth 100000 in
theorem dletter_any (c : Int) (w : World) : Calls Tryz.prog 58 #[.int .u8 c] w fun e w' => e = .returned (.bool (tlet c)) ∧ w = w' := by
  by_cases a : 65 ≤ c <;> by_cases b : c ≤ 90 <;> by_cases d : 97 ≤ c <;> by_cases f : c ≤ 122
  all_goals
    have HR : Hid (tlet c = (decide (65 ≤ c) && decide (c ≤ 90) || decide (97 ≤ c) && decide (c ≤ 122))) := rfl
    go_enter Tryz.func58, Tryz.ntmps58
    go_wp2_with fail
    go_ret
    exact ⟨by rw [HR.out]; simp [a, b, d, f], rfl⟩
set_option maxHeartbeats 800000 in
set_option maxRecDepth 100000 in
theorem ddigit_any (c : Int) (w : World) : Calls Tryz.prog 55 #[.int .u8 c] w fun e w' => e = .returned (.bool (tdig c)) ∧ w = w' := by
  by_cases a : 48 ≤ c <;> by_cases b : c ≤ 57
  all_goals
    have HR : Hid (tdig c = (decide (48 ≤ c) && decide (c ≤ 57))) := rfl
    go_enter Tryz.func55, Tryz.ntmps55
    go_wp2_with fail
    go_ret
    exact ⟨by rw [HR.out]; simp [a, b], rfl⟩

set_option maxHeartbeats 1600000 in
set_option maxRecDepth 100000 in
theorem dName_any (s : ByteArray) (w : World) (hm : s.size ≤ 9223372036854775807) : Calls Tryz.prog 31 #[.string s] w fun e w' => e = .returned (.bool (tname s.data.toList)) ∧ w = w' := by
  have hl := tsize_list s
  by_cases h1 : (s.size : Int) < 1
  · have HF := hid (tname_size (l := s.data.toList) (.inl (by omega)))
    clear hl
    go_enter Tryz.func31, Tryz.ntmps31
    go_wp2_with fail
    go_ret
    exact ⟨ret_bool HF.out.symm, rfl⟩
  by_cases h2 : 20 < (s.size : Int)
  · have HF := hid (tname_size (l := s.data.toList) (.inr (by omega)))
    clear hl
    go_enter Tryz.func31, Tryz.ntmps31
    go_wp2_with fail
    go_ret
    exact ⟨ret_bool HF.out.symm, rfl⟩
  have hp : 0 < s.size := by omega
  have b0 := tbyte_at s 0 hp
  have HL := hid (fun c V => dletter_any c V)
  have HD := hid (fun c V => ddigit_any c V)
  have hS := hid (And.intro hl b0)
  have hz : (s.size : Int) ≤ 20 := by omega
  by_cases h3 : tlet (s[0].toNat : Int) = false
  · have HF := hid (tname_first (l := s.data.toList) (by rw [b0]; exact h3))
    clear hl b0
    go_enter Tryz.func31, Tryz.ntmps31
    go_wp2_with fail
    refine Calls.mono (HL.out _ _) ?_
    rintro e w' ⟨rfl, rfl⟩
    rw [h3]
    go_wp2_with fail
    go_ret
    exact ⟨ret_bool HF.out.symm, rfl⟩
  · have h3' : tlet (s[0].toNat : Int) = true := by simpa using h3
    have HALL : Hid ((∀ j, j < s.size → (tlet ((s.data.toList[j]?.getD 0).toNat : Int) || tdig ((s.data.toList[j]?.getD 0).toNat : Int)) = true) → tname s.data.toList = true) := fun h => tname_all (by omega) (by omega) (by rw [b0]; exact h3') (by rw [hl]; exact h)
    clear hl b0 h3
    go_enter Tryz.func31, Tryz.ntmps31
    go_wp2_with fail
    refine Calls.mono (HL.out _ _) ?_
    rintro e w' ⟨rfl, rfl⟩
    rw [h3']
    go_wp2_with fail
    go_loop [3] (fun t => ∃ k : Nat, k ≤ s.size ∧ t = .int .i64 k ∧ Hid (∀ j : Nat, j < k → (tlet ((s.data.toList[j]?.getD 0).toNat : Int) || tdig ((s.data.toList[j]?.getD 0).toNat : Int)) = true)) (fun t => s.size - (intOf t).toNat)
    case atStart => exact ⟨0, by omega, rfl, fun j hj => by omega⟩
    case round =>
      obtain ⟨k, hk, rfl, HJ⟩ := hrel
      by_cases hlt : k < s.size
      · have bk := tbyte_at s k hlt
        by_cases d1 : tlet (s[k].toNat : Int) = true
        · have HJ' : Hid (∀ j : Nat, j < k + 1 → (tlet ((s.data.toList[j]?.getD 0).toNat : Int) || tdig ((s.data.toList[j]?.getD 0).toNat : Int)) = true) := fun j hj => by
            by_cases e : j = k
            · rw [e, bk]; show (tlet (s[k].toNat : Int) || _) = true; rw [d1]; rfl
            · exact HJ.out j (by omega)
          clear bk
          go_wp2_with fail
          refine Calls.mono (HL.out _ _) ?_
          rintro e w1 ⟨rfl, rfl⟩
          rw [d1]
          go_wp2_with fail
          go_round
          case rel => exact ⟨k + 1, by omega, by go_num, HJ'⟩
          case measure => simp [intOf]; omega
        · have d1' : tlet (s[k].toNat : Int) = false := by simpa using d1
          by_cases d2 : tdig (s[k].toNat : Int) = true
          · have HJ' : Hid (∀ j : Nat, j < k + 1 → (tlet ((s.data.toList[j]?.getD 0).toNat : Int) || tdig ((s.data.toList[j]?.getD 0).toNat : Int)) = true) := fun j hj => by
              by_cases e : j = k
              · rw [e, bk]; show (_ || tdig (s[k].toNat : Int)) = true; rw [d2]; simp
              · exact HJ.out j (by omega)
            clear bk d1
            go_wp2_with fail
            refine Calls.mono (HL.out _ _) ?_
            rintro e w1 ⟨rfl, rfl⟩
            rw [d1']
            go_wp2_with fail
            refine Calls.mono (HD.out _ _) ?_
            rintro e w1 ⟨rfl, rfl⟩
            rw [d2]
            go_wp2_with fail
            go_round
            case rel => exact ⟨k + 1, by omega, by go_num, HJ'⟩
            case measure => simp [intOf]; omega
          · have d2' : tdig (s[k].toNat : Int) = false := by simpa using d2
            have HF := hid (tname_bad bk d1' d2')
            clear bk d1 d2
            go_wp2_with fail
            refine Calls.mono (HL.out _ _) ?_
            rintro e w1 ⟨rfl, rfl⟩
            rw [d1']
            go_wp2_with fail
            refine Calls.mono (HD.out _ _) ?_
            rintro e w1 ⟨rfl, rfl⟩
            rw [d2']
            go_wp2_with fail
            go_ret
            exact ⟨ret_bool HF.out.symm, rfl⟩
      · have HF := hid (HALL.out (fun j hj => HJ.out j (by omega)))
        go_wp2_with fail
        go_ret
        exact ⟨ret_bool HF.out.symm, rfl⟩
set_option maxHeartbeats 1600000 in
set_option maxRecDepth 100000 in
theorem dtCheck_any (s : ByteArray) (f r : Int) (n : Bool) (a : Option Addr) (ca : Nat) (xs : List Int) (b : Option Addr) (cb : Nat) (ys : List Int) (m : Bool) (c : Option Addr) (cc : Nat) (us : List Int) (d : Option Addr) (cd : Nat) (vs : List Int) (w : World) (hz : s.size ≤ 9223372036854775807) (hr : in32 f r) (sx : Sl w (.slice a xs.length ca) xs) (sy : Sl w (.slice b ys.length cb) ys) (su : Sl w (.slice c us.length cc) us) (sv : Sl w (.slice d vs.length cd) vs) (lx : xs.length ≤ 281474976710656) (ly : ys.length ≤ 281474976710656) (lu : us.length ≤ 281474976710656) (lv : vs.length ≤ 281474976710656) :
    Calls Tryz.prog 19 #[.agg #[.string s, .int .i32 f, .int .i32 r, .bool n, .slice a xs.length ca, .slice b ys.length cb, .bool m, .slice c us.length cc, .slice d vs.length cd]] w fun e w' => e = .returned (.int .i64 (tchk s.data.toList f r (gchk n xs ys m us vs))) ∧ Below w.heap.size w w' := by
  have HX := hid (Box.made w 30 #[.string s, .int .i32 f, .int .i32 r, .bool n, .slice a xs.length ca, .slice b ys.length cb, .bool m, .slice c us.length cc, .slice d vs.length cd])
  have HB := hid (alloc_later w (.cells #[.string s, .int .i32 f, .int .i32 r, .bool n, .slice a xs.length ca, .slice b ys.length cb, .bool m, .slice c us.length cc, .slice d vs.length cd] 30))
  obtain ⟨X, hX⟩ : ∃ X, w.alloc (.cells #[.string s, .int .i32 f, .int .i32 r, .bool n, .slice a xs.length ca, .slice b ys.length cb, .bool m, .slice c us.length cc, .slice d vs.length cd] 30) = X := ⟨_, rfl⟩
  rw [hX] at HX HB
  have HN := hid (dName_any s X hz)
  have HR := hid (pcheck_any f r X hr)
  have HG : Hid (∀ V, Below w.heap.size w V → Calls Tryz.prog 42 #[.agg #[.bool n, .slice a xs.length ca, .slice b ys.length cb, .bool m, .slice c us.length cc, .slice d vs.length cd]] V fun e w' => e = .returned (.int .i64 (gchk n xs ys m us vs)) ∧ Below V.heap.size V w') := fun V hv => kd4check_any n a ca xs b cb ys m c cc us d cd vs V (sx.later hv) (sy.later hv) (su.later hv) (sv.later hv) lx ly lu lv
  generalize gchk n xs ys m us vs = G at *
  have HK1 := hid (tchk_name (l := s.data.toList) f r G)
  have HK2 := hid (tchk_rest (l := s.data.toList) f r G)
  generalize tchk s.data.toList f r G = T at *
  generalize tname s.data.toList = NM at *
  generalize ochk f r = E at *
  clear sx sy su sv hr
  have k0 : X.cell? ⟨w.heap.size, 0, none⟩ = some (.string s) := HX.out.cell 0
  have k1 : X.cell? ⟨w.heap.size, 1, none⟩ = some (.int .i32 f) := HX.out.cell 1
  have k2 : X.cell? ⟨w.heap.size, 2, none⟩ = some (.int .i32 r) := HX.out.cell 2
  have k3 : X.cell? ⟨w.heap.size, 3, none⟩ = some (.bool n) := HX.out.cell 3
  have k4 : X.cell? ⟨w.heap.size, 4, none⟩ = some (.slice a xs.length ca) := HX.out.cell 4
  have k5 : X.cell? ⟨w.heap.size, 5, none⟩ = some (.slice b ys.length cb) := HX.out.cell 5
  have k6 : X.cell? ⟨w.heap.size, 6, none⟩ = some (.bool m) := HX.out.cell 6
  have k7 : X.cell? ⟨w.heap.size, 7, none⟩ = some (.slice c us.length cc) := HX.out.cell 7
  have k8 : X.cell? ⟨w.heap.size, 8, none⟩ = some (.slice d vs.length cd) := HX.out.cell 8
  cases NM with
  | false =>
    have HT := hid (HK1.out rfl)
    go_enter Tryz.func19, Tryz.ntmps19
    go_wp2_with fail
    refine Calls.mono HN.out ?_
    rintro e w1 ⟨rfl, rfl⟩
    go_wp2_with fail
    go_ret
    exact ⟨ret_int HT.out.symm, HB.out⟩
  | true =>
    have HT := hid (HK2.out rfl)
    by_cases hE : E = 0
    · subst hE
      have HT2 := hid (HT.out.trans (fstE_zero G))
      clear HT
      go_enter Tryz.func19, Tryz.ntmps19
      go_wp2_with fail
      refine Calls.mono HN.out ?_
      rintro e w1 ⟨rfl, rfl⟩
      go_wp2_with fail
      refine Calls.mono HR.out ?_
      rintro e w1 ⟨rfl, hb1⟩
      have HX1 := hid (HX.out.later hb1 HX.out.lt)
      have HB1 := hid (bt HB.out hb1)
      clear k0 k1 k2 k3 k4 k5 k6 k7 k8 hb1
      have k3 : w1.cell? ⟨w.heap.size, 3, none⟩ = some (.bool n) := HX1.out.cell 3
      have k4 : w1.cell? ⟨w.heap.size, 4, none⟩ = some (.slice a xs.length ca) := HX1.out.cell 4
      have k5 : w1.cell? ⟨w.heap.size, 5, none⟩ = some (.slice b ys.length cb) := HX1.out.cell 5
      have k6 : w1.cell? ⟨w.heap.size, 6, none⟩ = some (.bool m) := HX1.out.cell 6
      have k7 : w1.cell? ⟨w.heap.size, 7, none⟩ = some (.slice c us.length cc) := HX1.out.cell 7
      have k8 : w1.cell? ⟨w.heap.size, 8, none⟩ = some (.slice d vs.length cd) := HX1.out.cell 8
      go_wp2_with fail
      refine Calls.mono (HG.out _ HB1.out) ?_
      rintro e w2 ⟨rfl, hb2⟩
      have HB2 := hid (bt HB1.out hb2)
      clear hb2 k3 k4 k5 k6 k7 k8
      go_wp2_with fail
      go_ret
      exact ⟨ret_int HT2.out.symm, HB2.out⟩
    · have HT2 := hid (HT.out.trans (fstE_err G hE))
      have hE' : (E == 0) = false := by simp [hE]
      have hE2 : (E != 0) = true := by simp [hE]
      clear HT
      go_enter Tryz.func19, Tryz.ntmps19
      go_wp2_with fail
      refine Calls.mono HN.out ?_
      rintro e w1 ⟨rfl, rfl⟩
      go_wp2_with fail
      refine Calls.mono HR.out ?_
      rintro e w1 ⟨rfl, hb1⟩
      have HB1 := hid (bt HB.out hb1)
      clear hb1 k0 k1 k2 k3 k4 k5 k6 k7 k8
      go_wp2_with fail
      go_ret
      exact ⟨ret_int HT2.out.symm, HB1.out⟩
end Go.Proofs.YtldeiapikkebgaaGreatDoor

/- package tide: decimal, readNumber, readRotor. -/
namespace Go.Proofs.YtldeiapikkebgaaGreatDoor
open Go.RowKit Go.Lib
set_option linter.unusedVariables false
set_option linter.unusedSimpArgs false

def ErrT (w : World) : Prop := (∃ te pe, w.cell? ⟨2, 0, none⟩ = some (.iface te pe)) ∧ (∃ te pe, w.cell? ⟨3, 0, none⟩ = some (.iface te pe))
theorem zcell_lt {w : World} {b j : Nat} {v : Value} (h : w.cell? ⟨b, j, none⟩ = some v) : b < w.heap.size := by
  rcases Nat.lt_or_ge b w.heap.size with h' | h'
  · exact h'
  · unfold World.cell? at h
    rw [Array.getElem?_eq_none h'] at h
    simp at h
theorem ErrT.later {w w' : World} (h : ErrT w) (hb : Below w.heap.size w w') : ErrT w' := by
  obtain ⟨⟨a, b, h1⟩, c, d, h2⟩ := h
  exact ⟨⟨a, b, (hb.cell (p := ⟨_, 0, none⟩) (zcell_lt h1)).trans h1⟩, c, d, (hb.cell (p := ⟨_, 0, none⟩) (zcell_lt h2)).trans h2⟩
theorem zbytes_app (a b : List UInt8) : ((⟨a.toArray⟩ : ByteArray) ++ (⟨b.toArray⟩ : ByteArray)) = ⟨(a ++ b).toArray⟩ := by
  apply ByteArray.ext
  rw [ByteArray.data_append]
  simp
theorem zstr_other {s t : ByteArray} (h : ¬ s = t) : (s.toList == t.toList) = false := by
  apply beq_eq_false_iff_ne.2
  intro e
  rw [Lib.toList_data, Lib.toList_data] at e
  exact h (ByteArray.ext (Array.toList_inj.1 e))
theorem zitoa_len (n : Int) (h0 : -2147483648 ≤ n) (h1 : n ≤ 2147483647) : (itoa n).length ≤ 21 := by
  unfold itoa
  split
  · rw [List.length_cons, decDigits_length]
    have := nDigits_le20 n.natAbs (by omega)
    omega
  · rw [decDigits_length]
    have := nDigits_le20 n.toNat (by omega)
    omega
theorem zitoa_any (n : Int) (w : World) (h0 : -9223372036854775808 ≤ n) (h1 : n ≤ 9223372036854775807) (htab : Tab w) :
    Calls Tryz.prog 41 #[.int .i64 n] w fun e w' => e = .returned (.string ⟨(itoa n).toArray⟩) ∧ Below w.heap.size w w' := by
  refine Calls.mono (Tryz.strconv_Itoa n h0 h1 w htab) ?_
  rintro e w' ⟨rfl, k, os, rfl⟩
  refine ⟨rfl, rfl, rfl, rfl, ?_, fun b hb => ?_⟩
  · show w.heap.size ≤ (w.heap ++ os).size
    rw [Array.size_append]; omega
  · show (w.heap ++ os)[b]? = w.heap[b]?
    rw [Array.getElem?_append_left hb]
set_option maxHeartbeats 800000 in
set_option maxRecDepth 100000 in
theorem tdecimal_any (n : Int) (w : World) (h0 : -2147483648 ≤ n) (h1 : n ≤ 2147483647) (htab : Tab w) :
    Calls Tryz.prog 18 #[.int .i32 n] w fun e w' => e = .returned (.string ⟨(itoa n).toArray⟩) ∧ Below w.heap.size w w' := by
  have HI := hid (zitoa_any n w (by omega) (by omega) htab)
  have hw : IntKind.i64.wrap n = n := by rw [IntKind.wrap_i64]; omega
  clear htab
  go_enter Tryz.func18, Tryz.ntmps18
  go_wp2_with fail
  refine Calls.mono HI.out ?_
  rintro e w1 ⟨rfl, hb⟩
  go_wp2_with fail
  go_ret
  exact ⟨rfl, hb⟩

def tnumOk (l : List UInt8) : Bool := decide (l.length ≤ 5) && (match atoiAll l with | .ok v => decide (itoa v = l) | _ => false)
def tnumV (l : List UInt8) : Int := if tnumOk l = true then (match atoiAll l with | .ok v => v | _ => 0) else 0
theorem itoa_small {v : Int} (h : (itoa v).length ≤ 5) : -99999 ≤ v ∧ v ≤ 99999 := by
  unfold itoa at h
  by_cases hv : v < 0
  · rw [if_pos hv, List.length_cons, decDigits_length] at h
    have h1 := lt_pow_nDigits v.natAbs
    have h2 : (10 : Nat) ^ nDigits v.natAbs ≤ 10 ^ 5 := Nat.pow_le_pow_right (by decide) (by omega)
    omega
  · rw [if_neg hv, decDigits_length] at h
    have h1 := lt_pow_nDigits v.toNat
    have h2 : (10 : Nat) ^ nDigits v.toNat ≤ 10 ^ 5 := Nat.pow_le_pow_right (by decide) (by omega)
    omega
theorem tnumV_in (l : List UInt8) : -99999 ≤ tnumV l ∧ tnumV l ≤ 99999 := by
  unfold tnumV
  by_cases h : tnumOk l = true
  · rw [if_pos h]
    unfold tnumOk at h
    cases hp : atoiAll l with
    | ok v =>
      rw [hp] at h
      simp at h
      simp only
      exact itoa_small (by rw [h.2]; exact h.1)
    | «syntax» => simp
    | range => simp
  · rw [if_neg h]; decide
set_option maxHeartbeats 1600000 in
set_option maxRecDepth 100000 in
theorem treadNumber_any (s : ByteArray) (w : World) (hs : s.size ≤ 65536) (htab : Tab w) (herr : ErrT w) :
    Calls Tryz.prog 48 #[.string s] w fun e w' => e = .returned (.tuple #[.int .i32 (tnumV s.data.toList), .bool (tnumOk s.data.toList)]) ∧ Below w.heap.size w w' := by
  have hl : s.data.toList.length = s.size := Array.length_toList
  by_cases h5 : 5 < (s.size : Int)
  · have e1 : tnumOk s.data.toList = false := by unfold tnumOk; rw [decide_eq_false (by omega)]; rfl
    have e2 : tnumV s.data.toList = 0 := by unfold tnumV; rw [if_neg (by rw [e1]; decide)]
    rw [e1, e2]
    clear hl e1 e2
    go_enter Tryz.func48, Tryz.ntmps48
    go_wp2_with fail
    go_ret2
    exact ⟨rfl, Below.refl _ _⟩
  obtain ⟨⟨te, pe, h1⟩, te2, pe2, h2⟩ := herr
  have HT := hid htab
  clear htab
  cases hp : atoiAll s.data.toList with
  | ok v =>
    have HC := hid (Tryz.strconv_Atoi_ok s (by omega) v hp w)
    have hvb := atoiAll_bounds hp
    have HI : Hid (∀ V, Below w.heap.size w V → Calls Tryz.prog 41 #[.int .i64 v] V fun e w' => e = .returned (.string ⟨(itoa v).toArray⟩) ∧ Below V.heap.size V w') := fun V hv => zitoa_any v V hvb.1 hvb.2 (HT.out.later hv)
    by_cases hi : (⟨(itoa v).toArray⟩ : ByteArray) = s
    · have hi2 : itoa v = s.data.toList := by rw [← hi]
      have e1 : tnumOk s.data.toList = true := by unfold tnumOk; rw [decide_eq_true (by omega), hp]; simp [hi2]
      have e2 : tnumV s.data.toList = v := by unfold tnumV; rw [if_pos e1, hp]
      have e3 := tnumV_in s.data.toList
      rw [e1, e2]
      rw [e2] at e3
      have hw : IntKind.i32.wrap v = v := by rw [IntKind.wrap_i32]; omega
      rw [hi] at HI
      clear e1 e2 e3 hi hi2 hp hl h1 h2 hvb
      go_enter Tryz.func48, Tryz.ntmps48
      go_wp2_with fail
      refine Calls.mono HC.out ?_
      rintro e w1 ⟨rfl, hw1⟩
      have HB : Hid (Below w.heap.size w w1) := by
        rcases hw1 with rfl | ⟨t, rfl⟩
        · exact Below.refl _ _
        · exact Lib.bytesWorld_below w _ t
      clear hw1
      go_wp2_with fail
      refine Calls.mono (HI.out _ HB.out) ?_
      rintro e w2 ⟨rfl, hb2⟩
      have HB2 := hid (bt HB.out hb2)
      clear hb2
      go_wp2_with fail
      go_ret2
      exact ⟨rfl, HB2.out⟩
    · have e1 : tnumOk s.data.toList = false := by
        unfold tnumOk
        rw [hp]
        have : ¬ itoa v = s.data.toList := fun e => hi (by rw [e])
        simp [this]
      have e2 : tnumV s.data.toList = 0 := by unfold tnumV; rw [if_neg (by rw [e1]; decide)]
      rw [e1, e2]
      have hne := zstr_other hi
      clear e1 e2 hi hp hl h1 h2 hvb
      generalize (⟨(itoa v).toArray⟩ : ByteArray) = IT at *
      go_enter Tryz.func48, Tryz.ntmps48
      go_wp2_with fail
      refine Calls.mono HC.out ?_
      rintro e w1 ⟨rfl, hw1⟩
      have HB : Hid (Below w.heap.size w w1) := by
        rcases hw1 with rfl | ⟨t, rfl⟩
        · exact Below.refl _ _
        · exact Lib.bytesWorld_below w _ t
      clear hw1
      go_wp2_with fail
      refine Calls.mono (HI.out _ HB.out) ?_
      rintro e w2 ⟨rfl, hb2⟩
      have HB2 := hid (bt HB.out hb2)
      clear hb2
      go_wp2_with fail
      go_ret2
      exact ⟨rfl, HB2.out⟩
  | «syntax» =>
    have e1 : tnumOk s.data.toList = false := by unfold tnumOk; rw [hp]; simp
    have e2 : tnumV s.data.toList = 0 := by unfold tnumV; rw [if_neg (by rw [e1]; decide)]
    rw [e1, e2]
    have HC := hid (Tryz.strconv_Atoi_syntax s (by omega) hp _ w h1 (.inr ⟨te, pe, rfl⟩))
    clear hp hl e1 e2
    go_enter Tryz.func48, Tryz.ntmps48
    go_wp2_with fail
    refine Calls.mono HC.out ?_
    rintro e w1 ⟨N, rfl, hN, _, hb⟩
    go_wp2_with fail
    go_ret2
    exact ⟨rfl, hb⟩
  | range =>
    have e1 : tnumOk s.data.toList = false := by unfold tnumOk; rw [hp]; simp
    have e2 : tnumV s.data.toList = 0 := by unfold tnumV; rw [if_neg (by rw [e1]; decide)]
    rw [e1, e2]
    have HC := hid (Tryz.strconv_Atoi_range s (by omega) hp _ w h2 (.inr ⟨te2, pe2, rfl⟩))
    clear hp hl e1 e2
    go_enter Tryz.func48, Tryz.ntmps48
    go_wp2_with fail
    refine Calls.mono HC.out ?_
    rintro e w1 ⟨N, rfl, hN, _, hb⟩
    go_wp2_with fail
    go_ret2
    exact ⟨rfl, hb⟩
set_option maxHeartbeats 1600000 in
set_option maxRecDepth 100000 in
theorem treadRotor_any (s t : ByteArray) (w : World) (hs : s.size ≤ 65536) (ht : t.size ≤ 65536) (htab : Tab w) (herr : ErrT w) :
    Calls Tryz.prog 23 #[.string s, .string t] w fun e w' => e = .returned (.tuple #[.agg #[.int .i32 (tnumV s.data.toList), .int .i32 (tnumV t.data.toList)], .bool (tnumOk s.data.toList && tnumOk t.data.toList)]) ∧ Below w.heap.size w w' := by
  have HX := hid (boxes1 w 23 #[.int .i32 0, .int .i32 0])
  have H1 := hid (treadNumber_any s (w.alloc (.cells #[.int .i32 0, .int .i32 0] 23)) hs (htab.later HX.out.2) (herr.later HX.out.2))
  have H2 : Hid (∀ V, Below w.heap.size w V → Calls Tryz.prog 48 #[.string t] V fun e w' => e = .returned (.tuple #[.int .i32 (tnumV t.data.toList), .bool (tnumOk t.data.toList)]) ∧ Below V.heap.size V w') := fun V hv => treadNumber_any t V ht (htab.later hv) (herr.later hv)
  generalize tnumV s.data.toList = A at *
  generalize tnumV t.data.toList = B at *
  generalize tnumOk s.data.toList = P at *
  generalize tnumOk t.data.toList = Q at *
  clear htab herr
  cases P <;> cases Q
  all_goals
    go_enter Tryz.func23, Tryz.ntmps23
    go_wp2_with fail
    generalize w.alloc (.cells #[.int .i32 0, .int .i32 0] 23) = X at *
    refine Calls.mono H1.out ?_
    rintro e w1 ⟨rfl, hb1⟩
    have HB1 := hid (bt HX.out.2 hb1)
    have HX1 := hid (HX.out.1.later hb1 HX.out.1.lt)
    clear hb1 H1
    go_wp2_with fail
    refine Calls.mono (H2.out _ HB1.out) ?_
    rintro e w2 ⟨rfl, hb2⟩
    have HB2 := hid (bt HB1.out hb2)
    have HX2 := hid (HX1.out.later hb2 HX1.out.lt)
    clear hb2 H2
    obtain ⟨c0, c1, g0, g1⟩ := fbox_facts HX2.out (Below.refl _ _)
    go_wp2_with fail
    refine bodyPost_ret (v := .tuple #[.agg #[.int .i32 A, .int .i32 B], .bool _]) (by simp [results, Tryz.results23, go_sem, c0, c1]; rfl) rfl ?_
    exact ⟨rfl, fput2 HB2.out _ (by omega) _ _⟩
end Go.Proofs.YtldeiapikkebgaaGreatDoor

/- strings.Cut at one byte. -/
namespace Go.Proofs.YtldeiapikkebgaaGreatDoor
open Go.RowKit Go.Lib
set_option linter.unusedVariables false
set_option linter.unusedSimpArgs false

set_option maxHeartbeats 1600000 in
set_option maxRecDepth 100000 in
theorem zcut0_any (s : ByteArray) (c : UInt8) (w : World) (hs : s.size ≤ 281474976710656) :
    Calls Tryz.prog 47 #[.string s, .string ⟨#[c]⟩] w fun e w' => e = .returned (.tuple #[.string ⟨(Lib.cut s.data.toList [c]).1.toArray⟩, .string ⟨(Lib.cut s.data.toList [c]).2.1.toArray⟩, .bool (Lib.cut s.data.toList [c]).2.2]) ∧ Below w.heap.size w w' := by
  have HI := hid (Tryz.stringslite_Index_one s c w)
  rw [← Lib.index_one] at HI
  rcases Lib.indexB_cases s ⟨#[c]⟩ with hix | ⟨i, hix, hroom⟩
  · obtain ⟨e1, e2, e3⟩ := Lib.cutB_miss s ⟨#[c]⟩ hix
    have e1' : (⟨(Lib.cut s.data.toList [c]).1.toArray⟩ : ByteArray) = _ := e1
    have e2' : (⟨(Lib.cut s.data.toList [c]).2.1.toArray⟩ : ByteArray) = _ := e2
    have e3' : (Lib.cut s.data.toList [c]).2.2 = _ := e3
    have hix' : Lib.index s.data.toList [c] = -1 := hix
    rw [hix'] at HI
    rw [e1', e2', e3']
    clear e1 e2 e3 e1' e2' e3' hix hix'
    go_enter Tryz.func47, Tryz.ntmps47
    go_wp2_with fail
    refine Calls.mono HI.out ?_
    rintro e w1 ⟨rfl, rfl⟩
    go_wp2_with fail
    go_returns
    exact ⟨rfl, Below.refl _ _⟩
  · obtain ⟨e1, e2, e3⟩ := Lib.cutB_hit s ⟨#[c]⟩ i hix
    have e1' : (⟨(Lib.cut s.data.toList [c]).1.toArray⟩ : ByteArray) = _ := e1
    have e2' : (⟨(Lib.cut s.data.toList [c]).2.1.toArray⟩ : ByteArray) = _ := e2
    have e3' : (Lib.cut s.data.toList [c]).2.2 = _ := e3
    have hix' : Lib.index s.data.toList [c] = (i : Int) := hix
    rw [hix'] at HI
    rw [e1', e2', e3']
    have hr : i + 1 ≤ s.size := hroom
    have c1 : (0 : Int) ≤ ↑i := by omega
    have c2 : (↑i : Int) ≤ ↑s.size := by omega
    have c3 : (0 : Int) ≤ ↑i + 1 := by omega
    have c4 : (↑i + 1 : Int) ≤ ↑s.size := by omega
    have hw : IntKind.i64.wrap ((i : Int) + 1) = (i : Int) + 1 := by rw [IntKind.wrap_i64]; omega
    have ht : ((i : Int) + 1).toNat = i + 1 := by omega
    clear e1 e2 e3 e1' e2' e3' hix hix' hroom
    go_enter Tryz.func47, Tryz.ntmps47
    go_wp2_with fail
    refine Calls.mono HI.out ?_
    rintro e w1 ⟨rfl, rfl⟩
    go_wp2_with fail
    go_region
    go_wp2_with fail
    go_returns
    exact ⟨rfl, (Below.refl _ _).drew⟩
set_option maxHeartbeats 1600000 in
set_option maxRecDepth 100000 in
theorem zcut_any (s : ByteArray) (c : UInt8) (w : World) (hs : s.size ≤ 281474976710656) :
    Calls Tryz.prog 22 #[.string s, .string ⟨#[c]⟩] w fun e w' => e = .returned (.tuple #[.string ⟨(Lib.cut s.data.toList [c]).1.toArray⟩, .string ⟨(Lib.cut s.data.toList [c]).2.1.toArray⟩, .bool (Lib.cut s.data.toList [c]).2.2]) ∧ Below w.heap.size w w' := by
  have HC := hid (zcut0_any s c w hs)
  generalize (Lib.cut s.data.toList [c]).1.toArray = A at *
  generalize (Lib.cut s.data.toList [c]).2.1.toArray = B at *
  generalize (Lib.cut s.data.toList [c]).2.2 = C at *
  go_enter Tryz.func22, Tryz.ntmps22
  go_wp2_with fail
  refine Calls.mono HC.out ?_
  rintro e w1 ⟨rfl, hb⟩
  go_wp2_with fail
  go_returns
  exact ⟨rfl, hb⟩
theorem zcut_len (l : List UInt8) (c : UInt8) : (Lib.cut l [c]).1.length ≤ l.length ∧ (Lib.cut l [c]).2.1.length ≤ l.length := by
  unfold Lib.cut
  split
  · simp
    omega
  · simp
end Go.Proofs.YtldeiapikkebgaaGreatDoor

/- Complex fractions: gauss.Parse: of any text. -/
namespace Go.Proofs.YtldeiapikkebgaaGreatDoor
open Go.RowKit Go.Lib
set_option linter.unusedVariables false

def GToldC (w : World) (E : Int) (L : Prop) (q1 q2 : Rat) (x : Ending) (w' : World) : Prop :=
  ∃ n a ca xs b cb ys m c cc us d cd vs code, x = .returned (.tuple #[.agg #[.bool n, .slice a (List.length xs) ca, .slice b (List.length ys) cb, .bool m, .slice c (List.length us) cc, .slice d (List.length vs) cd], .int .i64 code]) ∧ (w'.ownsRow w.heap.size 94 1 (.slice a xs.length ca) xs.length (xs.map (Value.int .u32)) ∧ w'.ownsRow w.heap.size 94 1 (.slice b ys.length cb) ys.length (ys.map (Value.int .u32)) ∧ w'.ownsRow w.heap.size 94 1 (.slice c us.length cc) us.length (us.map (Value.int .u32)) ∧ w'.ownsRow w.heap.size 94 1 (.slice d vs.length cd) vs.length (vs.map (Value.int .u32))) ∧ GTells E L q1 q2 n xs ys m us vs code ∧ Below w.heap.size w w' ∧ ∃ W1, Cut w (.slice a xs.length ca) (.slice b ys.length cb) W1 ∧ Cut W1 (.slice c us.length cc) (.slice d vs.length cd) w'
theorem GToldC.told {w w' : World} {E : Int} {L : Prop} {q1 q2 : Rat} {x : Ending} (h : GToldC w E L q1 q2 x w') : GTold w E L q1 q2 x w' := by
  obtain ⟨n, a, ca, xs, b, cb, ys, m, c, cc, us, d, cd, vs, code, e, o, t, hb, _⟩ := h
  exact ⟨n, a, ca, xs, b, cb, ys, m, c, cc, us, d, cd, vs, code, e, o, t, hb⟩
theorem cut_nil (w w' : World) (h : w.heap.size ≤ w'.heap.size) : Cut w (.slice none 0 0) (.slice none 0 0) w' := ⟨w.heap.size, Nat.le_refl _, h, fun g hg => by simp [Value.ownBlock] at hg, fun g hg => by simp [Value.ownBlock] at hg⟩
theorem gtoldc_zero {w W : World} {E : Int} {L : Prop} {q1 q2 : Rat} {code : Int} (h : E ≠ 0 ∧ code = E ∨ E = 0 ∧ L ∧ code = 3) (hb : Below w.heap.size w W) : GToldC w E L q1 q2 (.returned (.tuple #[.agg #[.bool false, .slice none 0 0, .slice none 0 0, .bool false, .slice none 0 0, .slice none 0 0], .int .i64 code])) W := by
  refine ⟨false, none, 0, [], none, 0, [], false, none, 0, [], none, 0, [], code, rfl, ⟨World.ownsRow_nil _ _ _ _, World.ownsRow_nil _ _ _ _, World.ownsRow_nil _ _ _ _, World.ownsRow_nil _ _ _ _⟩, ⟨⟨Wd.nil, Wd.nil, Wd.nil, Wd.nil⟩, fun he => ⟨⟨rfl, rfl, rfl, rfl, rfl, rfl⟩, ?_⟩, fun he hl => ⟨⟨rfl, rfl, rfl, rfl, rfl, rfl⟩, ?_⟩, fun he hl => ?_⟩, hb, W, cut_nil _ _ hb.size, cut_nil _ _ (Nat.le_refl _)⟩
  · rcases h with h | h
    · exact h.2
    · exact absurd h.1 he
  · rcases h with h | h
    · exact absurd he h.1
    · exact h.2.2
  · rcases h with h | h
    · exact absurd he h.1
    · exact absurd h.2.1 hl

def gp1 (l : List UInt8) : List UInt8 := (Lib.cut l [32]).1
def gp2 (l : List UInt8) : List UInt8 := (Lib.cut l [32]).2.1
def ggood (l : List UInt8) : Prop := rgood (gp1 l) ∧ rgood (gp2 l)
def gplong (l : List UInt8) : Prop := rlong (rpq (gp1 l)) ∨ rlong (rpq (gp2 l))
open Classical in
noncomputable def gpE (s : ByteArray) : Int := if 65536 < s.size then 3 else if ggood s.data.toList then 0 else 140
theorem gpE_long {s : ByteArray} (h : 65536 < s.size) : gpE s = 3 := by unfold gpE; rw [if_pos h]
theorem gpE_good {s : ByteArray} (hs : s.size ≤ 65536) (h : ggood s.data.toList) : gpE s = 0 := by unfold gpE; rw [if_neg (by omega), if_pos h]
theorem gpE_bad {s : ByteArray} (hs : s.size ≤ 65536) (h : ¬ ggood s.data.toList) : gpE s = 140 := by unfold gpE; rw [if_neg (by omega), if_neg h]
theorem gpar_codes {l1 l2 : List UInt8} (z1 : l1.length ≤ 65536) (z2 : l2.length ≤ 65536) {n m : Bool} {xs ys us vs : List Int} {c1 c2 : Int} (h1 : RTells (prErr ⟨l1.toArray⟩) (rpq l1) n xs ys c1) (h2 : RTells (prErr ⟨l2.toArray⟩) (rpq l2) m us vs c2) :
    (c1 = 130 ∧ ¬ (rgood l1 ∧ rgood l2)) ∨ (c1 ≠ 130 ∧ c2 = 130 ∧ ¬ (rgood l1 ∧ rgood l2)) ∨ ((rgood l1 ∧ rgood l2) ∧ c1 = 3 ∧ c2 ≠ 130 ∧ (rlong (rpq l1) ∨ rlong (rpq l2))) ∨ ((rgood l1 ∧ rgood l2) ∧ c1 = 0 ∧ c2 = 3 ∧ (rlong (rpq l1) ∨ rlong (rpq l2))) ∨ ((rgood l1 ∧ rgood l2) ∧ c1 = 0 ∧ c2 = 0 ∧ ¬ (rlong (rpq l1) ∨ rlong (rpq l2)) ∧ (rchk n xs ys = 0 ∧ rq n xs ys = rpq l1) ∧ rchk m us vs = 0 ∧ rq m us vs = rpq l2) := by
  have s1 : (⟨l1.toArray⟩ : ByteArray).size ≤ 65536 := by show l1.toArray.size ≤ 65536; simpa using z1
  have s2 : (⟨l2.toArray⟩ : ByteArray).size ≤ 65536 := by show l2.toArray.size ≤ 65536; simpa using z2
  have g1 : (⟨l1.toArray⟩ : ByteArray).data.toList = l1 := by simp
  have g2 : (⟨l2.toArray⟩ : ByteArray).data.toList = l2 := by simp
  have c2f : ¬ rgood l2 → c2 = 130 := fun h => by
    have e := prErr_bad s2 (by rw [g2]; exact h)
    rw [e] at h2
    exact (h2.bad (by decide)).2.2.2
  have c2t : rgood l2 → (c2 = 3 ∧ rlong (rpq l2)) ∨ (c2 = 0 ∧ ¬ rlong (rpq l2) ∧ rchk m us vs = 0 ∧ rq m us vs = rpq l2) := fun h => by
    have e := prErr_good s2 (by rw [g2]; exact h)
    rw [e] at h2
    by_cases hl : rlong (rpq l2)
    · exact .inl ⟨(h2.long rfl hl).2.2.2, hl⟩
    · exact .inr ⟨(h2.good rfl hl).1, hl, (h2.good rfl hl).2⟩
  by_cases k1 : rgood l1
  · have e := prErr_good s1 (by rw [g1]; exact k1)
    rw [e] at h1
    by_cases k2 : rgood l2
    · rcases c2t k2 with ⟨d, hl2⟩ | ⟨d, hl2, hk⟩
      · by_cases hl : rlong (rpq l1)
        · exact .inr (.inr (.inl ⟨⟨k1, k2⟩, (h1.long rfl hl).2.2.2, by omega, .inl hl⟩))
        · exact .inr (.inr (.inr (.inl ⟨⟨k1, k2⟩, (h1.good rfl hl).1, d, .inr hl2⟩)))
      · by_cases hl : rlong (rpq l1)
        · exact .inr (.inr (.inl ⟨⟨k1, k2⟩, (h1.long rfl hl).2.2.2, by omega, .inl hl⟩))
        · exact .inr (.inr (.inr (.inr ⟨⟨k1, k2⟩, (h1.good rfl hl).1, d, fun h => h.elim hl hl2, (h1.good rfl hl).2, hk⟩)))
    · refine .inr (.inl ⟨?_, c2f k2, fun h => k2 h.2⟩)
      by_cases hl : rlong (rpq l1)
      · have := (h1.long rfl hl).2.2.2; omega
      · have := (h1.good rfl hl).1; omega
  · have e := prErr_bad s1 (by rw [g1]; exact k1)
    rw [e] at h1
    exact .inl ⟨(h1.bad (by decide)).2.2.2, fun h => k1 h.1⟩

set_option maxHeartbeats 1600000 in
set_option maxRecDepth 100000 in
theorem gParse_long (s : ByteArray) (w : World) (hs : 65536 < s.size) (hm : s.size ≤ 281474976710656) (L : Prop) (q1 q2 : Rat) : Calls Tryz.prog 24 #[.string s] w (GToldC w 3 L q1 q2) := by
  have HX := hid (Box.made w 28 #[.bool false, .slice none 0 0, .slice none 0 0, .bool false, .slice none 0 0, .slice none 0 0])
  have HB := hid (alloc_later w (.cells #[.bool false, .slice none 0 0, .slice none 0 0, .bool false, .slice none 0 0, .slice none 0 0] 28))
  obtain ⟨X, hX⟩ : ∃ X, w.alloc (.cells #[.bool false, .slice none 0 0, .slice none 0 0, .bool false, .slice none 0 0, .slice none 0 0] 28) = X := ⟨_, rfl⟩
  rw [hX] at HX HB
  have m0 : X.cell? ⟨w.heap.size, 0, none⟩ = some (.bool false) := HX.out.cell 0
  have m1 : X.cell? ⟨w.heap.size, 1, none⟩ = some (.slice none 0 0) := HX.out.cell 1
  have m2 : X.cell? ⟨w.heap.size, 2, none⟩ = some (.slice none 0 0) := HX.out.cell 2
  have m3 : X.cell? ⟨w.heap.size, 3, none⟩ = some (.bool false) := HX.out.cell 3
  have m4 : X.cell? ⟨w.heap.size, 4, none⟩ = some (.slice none 0 0) := HX.out.cell 4
  have m5 : X.cell? ⟨w.heap.size, 5, none⟩ = some (.slice none 0 0) := HX.out.cell 5
  have f0 := HX.out.free 0
  have f1 := HX.out.free 1
  have f2 := HX.out.free 2
  have f3 := HX.out.free 3
  have f4 := HX.out.free 4
  have f5 := HX.out.free 5
  have hs' : (65536 : Int) < (s.size : Int) := by omega
  clear hs
  go_enter Tryz.func24, Tryz.ntmps24
  go_wp2_with fail
  have B1 := box_put6 HX.out (.bool false) (.slice none 0 0) (.slice none 0 0) (.bool false) (.slice none 0 0) (.slice none 0 0)
  have G1 := below_put6 HB.out w.heap.size (Nat.le_refl _) (.bool false) (.slice none 0 0) (.slice none 0 0) (.bool false) (.slice none 0 0) (.slice none 0 0)
  clear m0 m1 m2 m3 m4 m5 f0 f1 f2 f3 f4 f5
  exact bodyPost_ret (gres_run (by rfl) B1 _ rfl) rfl (gtoldc_zero (E := 3) (.inl ⟨by decide, rfl⟩) G1)

set_option maxHeartbeats 3200000 in
set_option maxRecDepth 100000 in
theorem gParse_any (s : ByteArray) (w : World) (hm : s.size ≤ 281474976710656) : Calls Tryz.prog 24 #[.string s] w (GToldC w (gpE s) (gplong s.data.toList) (rpq (gp1 s.data.toList)) (rpq (gp2 s.data.toList))) := by
  by_cases hs : 65536 < s.size
  · rw [gpE_long hs]
    exact gParse_long s w hs hm _ _ _
  have HX := hid (Box.made w 28 #[.bool false, .slice none 0 0, .slice none 0 0, .bool false, .slice none 0 0, .slice none 0 0])
  have HB := hid (alloc_later w (.cells #[.bool false, .slice none 0 0, .slice none 0 0, .bool false, .slice none 0 0, .slice none 0 0] 28))
  obtain ⟨X, hX⟩ : ∃ X, w.alloc (.cells #[.bool false, .slice none 0 0, .slice none 0 0, .bool false, .slice none 0 0, .slice none 0 0] 28) = X := ⟨_, rfl⟩
  rw [hX] at HX HB
  have hs' : ¬ (65536 : Int) < (s.size : Int) := by omega
  have HC := hid (zcut_any s 32 X hm)
  have hl : s.data.toList.length = s.size := Array.length_toList
  have hz1 : (Lib.cut s.data.toList [32]).1.length ≤ 65536 := by have := (zcut_len s.data.toList 32).1; omega
  have hz2 : (Lib.cut s.data.toList [32]).2.1.length ≤ 65536 := by have := (zcut_len s.data.toList 32).2; omega
  have HEG : Hid (ggood s.data.toList → gpE s = 0) := gpE_good (by omega)
  have HEB : Hid (¬ ggood s.data.toList → gpE s = 140) := gpE_bad (by omega)
  have HGG : Hid (ggood s.data.toList ↔ (rgood (gp1 s.data.toList) ∧ rgood (gp2 s.data.toList))) := Iff.rfl
  have HLL : Hid (gplong s.data.toList ↔ (rlong (rpq (gp1 s.data.toList)) ∨ rlong (rpq (gp2 s.data.toList)))) := Iff.rfl
  have e1 : gp1 s.data.toList = (Lib.cut s.data.toList [32]).1 := rfl
  have e2 : gp2 s.data.toList = (Lib.cut s.data.toList [32]).2.1 := rfl
  rw [← e1] at hz1 HC
  rw [← e2] at hz2 HC
  clear e1 e2 hl hs
  generalize gp1 s.data.toList = l1 at *
  generalize gp2 s.data.toList = l2 at *
  generalize ggood s.data.toList = GG at *
  generalize gplong s.data.toList = GL at *
  generalize gpE s = E at *
  have H1 : Hid (∀ V, Calls Tryz.prog 49 #[.string ⟨l1.toArray⟩] V (RToldA V (prErr ⟨l1.toArray⟩) (rpq l1))) := fun V => rparse_any ⟨l1.toArray⟩ V (by show l1.toArray.size ≤ 65536; simpa using hz1)
  have H2 : Hid (∀ V, Calls Tryz.prog 49 #[.string ⟨l2.toArray⟩] V (RToldA V (prErr ⟨l2.toArray⟩) (rpq l2))) := fun V => rparse_any ⟨l2.toArray⟩ V (by show l2.toArray.size ≤ 65536; simpa using hz2)
  have HP : Hid (∀ {n m : Bool} {xs ys us vs : List Int} {c1 c2 : Int}, RTells (prErr ⟨l1.toArray⟩) (rpq l1) n xs ys c1 → RTells (prErr ⟨l2.toArray⟩) (rpq l2) m us vs c2 → _) := fun h1 h2 => gpar_codes hz1 hz2 h1 h2
  generalize prErr ⟨l1.toArray⟩ = p1 at *
  generalize prErr ⟨l2.toArray⟩ = p2 at *
  generalize rpq l1 = q1 at *
  generalize rpq l2 = q2 at *
  generalize (rgood l1 ∧ rgood l2) = GD at *
  generalize (Lib.cut s.data.toList [32]).2.2 = fnd at *
  generalize l1.toArray = A1 at *
  generalize l2.toArray = A2 at *
  clear hz1 hz2
  go_enter Tryz.func24, Tryz.ntmps24
  go_wp2_with fail
  refine Calls.mono HC.out ?_
  rintro e w1 ⟨rfl, hb1⟩
  have HW1 := hid (bt HB.out hb1)
  have HR1 := hid (HX.out.later hb1 HX.out.lt)
  clear hb1 HC
  go_wp2_with fail
  refine Calls.mono (H1.out _) ?_
  rintro x w2 ⟨n, v, xs, u, ys, code1, rfl, ov1, ou1, ht1, hb2, hcut1⟩
  obtain ⟨av1, cv1, rfl⟩ := own_slice' ov1
  obtain ⟨au1, cu1, rfl⟩ := own_slice' ou1
  have HW2 := hid (bt HW1.out hb2)
  have HR2 := hid (HR1.out.later hb2 HR1.out.lt)
  have HN := hid (Box.made w2 26 #[.bool n, .slice av1 xs.length cv1, .slice au1 ys.length cu1])
  have HNB := hid (alloc_later w2 (.cells #[.bool n, .slice av1 xs.length cv1, .slice au1 ys.length cu1] 26))
  obtain ⟨Z, hZ⟩ : ∃ Z, w2.alloc (.cells #[.bool n, .slice av1 xs.length cv1, .slice au1 ys.length cu1] 26) = Z := ⟨_, rfl⟩
  rw [hZ] at HN HNB
  have HV1 := hid ov1
  have HU1 := hid ou1
  have HT1 := hid ht1
  have HC1 := hid hcut1
  have h12 : w1.heap.size ≤ w2.heap.size := hb2.size
  clear ov1 ou1 ht1 hcut1 hb2 H1
  go_wp2_with fail
  refine Calls.mono (H2.out _) ?_
  rintro x w3 ⟨m, v, us, u, vs, code2, rfl, ov2, ou2, ht2, hb3, hcut2⟩
  obtain ⟨av2, cv2, rfl⟩ := own_slice' ov2
  obtain ⟨au2, cu2, rfl⟩ := own_slice' ou2
  have HM := hid (Box.made w3 26 #[.bool m, .slice av2 us.length cv2, .slice au2 vs.length cu2])
  have HMB := hid (alloc_later w3 (.cells #[.bool m, .slice av2 us.length cv2, .slice au2 vs.length cu2] 26))
  obtain ⟨Q, hQ⟩ : ∃ Q, w3.alloc (.cells #[.bool m, .slice av2 us.length cv2, .slice au2 vs.length cu2] 26) = Q := ⟨_, rfl⟩
  rw [hQ] at HM HMB
  have hb2Q : Below w2.heap.size w2 Q := bt HNB.out (bt hb3 HMB.out)
  have HW3 := hid (bt HW2.out hb2Q)
  have HR3 := hid (HR2.out.later hb2Q HR2.out.lt)
  have HN3 := hid (HN.out.later (bt hb3 HMB.out) HN.out.lt)
  have HOO := hid (And.intro (owns_later HV1.out hb2Q) (And.intro (owns_later HU1.out hb2Q) (And.intro (owns_later ov2 HMB.out) (owns_later ou2 HMB.out))))
  have HC2 : Hid (Cut w2 (.slice av2 us.length cv2) (.slice au2 vs.length cu2) Q) := hcut2.up HNB.out.size HMB.out.size
  have HTT := hid (HP.out HT1.out ht2)
  have HWD := hid (And.intro HT1.out.wx (And.intro HT1.out.wy (And.intro ht2.wx ht2.wy)))
  have hsz1 : w.heap.size ≤ w1.heap.size := HW1.out.size
  have hszZ : w2.heap.size ≤ Z.heap.size := HNB.out.size
  clear ov2 ou2 ht2 hcut2 H2 HP hb2Q hb3 HT1
  have m0 : Q.cell? ⟨w.heap.size, 0, none⟩ = some (.bool false) := HR3.out.cell 0
  have m1 : Q.cell? ⟨w.heap.size, 1, none⟩ = some (.slice none 0 0) := HR3.out.cell 1
  have m2 : Q.cell? ⟨w.heap.size, 2, none⟩ = some (.slice none 0 0) := HR3.out.cell 2
  have m3 : Q.cell? ⟨w.heap.size, 3, none⟩ = some (.bool false) := HR3.out.cell 3
  have m4 : Q.cell? ⟨w.heap.size, 4, none⟩ = some (.slice none 0 0) := HR3.out.cell 4
  have m5 : Q.cell? ⟨w.heap.size, 5, none⟩ = some (.slice none 0 0) := HR3.out.cell 5
  have f0 := HR3.out.free 0
  have f1 := HR3.out.free 1
  have f2 := HR3.out.free 2
  have f3 := HR3.out.free 3
  have f4 := HR3.out.free 4
  have f5 := HR3.out.free 5
  rcases HTT.out with ⟨rfl, hg⟩ | ⟨d1, rfl, hg⟩ | ⟨hg, rfl, d2, hL⟩ | ⟨hg, rfl, rfl, hL⟩ | ⟨hg, rfl, rfl, hL, hk⟩
  · have HE := hid (HEB.out (fun h => hg (HGG.out.1 h)))
    clear HTT
    go_wp2_with fail
    have B1 := box_put6 HR3.out (.bool false) (.slice none 0 0) (.slice none 0 0) (.bool false) (.slice none 0 0) (.slice none 0 0)
    have G1 := below_put6 HW3.out w.heap.size (Nat.le_refl _) (.bool false) (.slice none 0 0) (.slice none 0 0) (.bool false) (.slice none 0 0) (.slice none 0 0)
    clear m0 m1 m2 m3 m4 m5 f0 f1 f2 f3 f4 f5
    exact bodyPost_ret (gres_run (by rfl) B1 _ rfl) rfl (gtoldc_zero (E := E) (.inl ⟨by rw [HE.out]; decide, HE.out.symm⟩) G1)
  · have HE := hid (HEB.out (fun h => hg (HGG.out.1 h)))
    have d1' : (code1 == 130) = false := by simp [d1]
    clear d1
    clear HTT
    go_wp2_with fail
    have B1 := box_put6 HR3.out (.bool false) (.slice none 0 0) (.slice none 0 0) (.bool false) (.slice none 0 0) (.slice none 0 0)
    have G1 := below_put6 HW3.out w.heap.size (Nat.le_refl _) (.bool false) (.slice none 0 0) (.slice none 0 0) (.bool false) (.slice none 0 0) (.slice none 0 0)
    clear m0 m1 m2 m3 m4 m5 f0 f1 f2 f3 f4 f5
    exact bodyPost_ret (gres_run (by rfl) B1 _ rfl) rfl (gtoldc_zero (E := E) (.inl ⟨by rw [HE.out]; decide, HE.out.symm⟩) G1)
  · have HE := hid (HEG.out (HGG.out.2 hg))
    have d2' : (code2 == 130) = false := by simp [d2]
    have HLo := hid (HLL.out.2 hL)
    clear d2 hL hg
    clear HTT
    go_wp2_with fail
    have B1 := box_put6 HR3.out (.bool false) (.slice none 0 0) (.slice none 0 0) (.bool false) (.slice none 0 0) (.slice none 0 0)
    have G1 := below_put6 HW3.out w.heap.size (Nat.le_refl _) (.bool false) (.slice none 0 0) (.slice none 0 0) (.bool false) (.slice none 0 0) (.slice none 0 0)
    clear m0 m1 m2 m3 m4 m5 f0 f1 f2 f3 f4 f5
    exact bodyPost_ret (gres_run (by rfl) B1 _ rfl) rfl (gtoldc_zero (E := E) (.inr ⟨HE.out, HLo.out, rfl⟩) G1)
  · have HE := hid (HEG.out (HGG.out.2 hg))
    have HLo := hid (HLL.out.2 hL)
    clear hL hg
    clear HTT
    go_wp2_with fail
    have B1 := box_put6 HR3.out (.bool false) (.slice none 0 0) (.slice none 0 0) (.bool false) (.slice none 0 0) (.slice none 0 0)
    have G1 := below_put6 HW3.out w.heap.size (Nat.le_refl _) (.bool false) (.slice none 0 0) (.slice none 0 0) (.bool false) (.slice none 0 0) (.slice none 0 0)
    clear m0 m1 m2 m3 m4 m5 f0 f1 f2 f3 f4 f5
    exact bodyPost_ret (gres_run (by rfl) B1 _ rfl) rfl (gtoldc_zero (E := E) (.inr ⟨HE.out, HLo.out, rfl⟩) G1)
  · have HE := hid (HEG.out (HGG.out.2 hg))
    have HLo := hid (fun h => hL (HLL.out.1 h))
    have HKK := hid hk
    have ka0 : Q.cell? ⟨w2.heap.size, 0, none⟩ = some (.bool n) := HN3.out.cell 0
    have ka1 : Q.cell? ⟨w2.heap.size, 1, none⟩ = some (.slice av1 xs.length cv1) := HN3.out.cell 1
    have ka2 : Q.cell? ⟨w2.heap.size, 2, none⟩ = some (.slice au1 ys.length cu1) := HN3.out.cell 2
    have kb0 : Q.cell? ⟨w3.heap.size, 0, none⟩ = some (.bool m) := HM.out.cell 0
    have kb1 : Q.cell? ⟨w3.heap.size, 1, none⟩ = some (.slice av2 us.length cv2) := HM.out.cell 1
    have kb2 : Q.cell? ⟨w3.heap.size, 2, none⟩ = some (.slice au2 vs.length cu2) := HM.out.cell 2
    clear HTT hL hk hg
    go_wp2_with fail
    have B1 := box_put6 HR3.out (.bool n) (.slice av1 xs.length cv1) (.slice au1 ys.length cu1) (.bool m) (.slice av2 us.length cv2) (.slice au2 vs.length cu2)
    have G1 := below_put6 HW3.out w.heap.size (Nat.le_refl _) (.bool n) (.slice av1 xs.length cv1) (.slice au1 ys.length cu1) (.bool m) (.slice av2 us.length cv2) (.slice au2 vs.length cu2)
    have hwX : w.heap.size < X.heap.size := HX.out.lt
    have hX1 : w.heap.size < w1.heap.size := HR1.out.lt
    have hput : ∀ {base k : Nat} {v : Value} {l : List Value}, Q.ownsRow base 94 1 v k l → (∀ g, v.ownBlock = some g → w1.heap.size ≤ g) → ((((((Q.setCell ⟨w.heap.size, 0, none⟩ (.bool n)).setCell ⟨w.heap.size, 1, none⟩ (.slice av1 xs.length cv1)).setCell ⟨w.heap.size, 2, none⟩ (.slice au1 ys.length cu1)).setCell ⟨w.heap.size, 3, none⟩ (.bool m)).setCell ⟨w.heap.size, 4, none⟩ (.slice av2 us.length cv2)).setCell ⟨w.heap.size, 5, none⟩ (.slice au2 vs.length cu2)).ownsRow base 94 1 v k l := fun h hb => own_put6 h _ (fun g hg => by have := hb g hg; omega) _ _ _ _ _ _
    clear m0 m1 m2 m3 m4 m5 f0 f1 f2 f3 f4 f5
    refine bodyPost_ret (gres_run (by rfl) B1 _ rfl) rfl ?_
    have hszQ : w.heap.size ≤ Z.heap.size := by omega
    refine ⟨n, av1, cv1, xs, au1, cu1, ys, m, av2, cv2, us, au2, cu2, vs, 0, rfl, ⟨owns_base (hput HOO.out.1 (fun g hg => (HOO.out.1.lt g hg).1)) hsz1, owns_base (hput HOO.out.2.1 (fun g hg => (HOO.out.2.1.lt g hg).1)) hsz1, owns_base (hput HOO.out.2.2.1 (fun g hg => by have := (HOO.out.2.2.1.lt g hg).1; omega)) hszQ, owns_base (hput HOO.out.2.2.2 (fun g hg => by have := (HOO.out.2.2.2.lt g hg).1; omega)) hszQ⟩, ⟨HWD.out, fun h => absurd HE.out h, fun _ h => absurd h HLo.out, fun _ _ => ⟨rfl, HKK.out⟩⟩, G1, w2, HC1.out.up hsz1 (Nat.le_refl _), HC2.out.up (Nat.le_refl _) (by simp [World.setCell])⟩
end Go.Proofs.YtldeiapikkebgaaGreatDoor

/- Texts of fractions beside one another: cut at a blank, read back. Nothing here speaks of the program. -/
namespace Go.Proofs.YtldeiapikkebgaaGreatDoor
open Go.RowKit Go.Lib
set_option linter.unusedVariables false
set_option linter.unusedSimpArgs false

theorem zdig_one {u : Nat} (h : u < 10) : decDigits u = [UInt8.ofNat (48 + u)] := by rw [decDigits, dif_pos h]
theorem zdig_more {u : Nat} (h : ¬ u < 10) : decDigits u = decDigits (u / 10) ++ [UInt8.ofNat (48 + u % 10)] := by rw [decDigits, dif_neg h]
theorem zdigit_nat (d : Nat) (h : d < 10) : (UInt8.ofNat (48 + d)).toNat = 48 + d := by rw [UInt8.toNat_ofNat']; omega
theorem zdec_all (n : Nat) : (∀ x ∈ decDigits n, 48 ≤ x.toNat ∧ x.toNat ≤ 57) ∧ decDigits n ≠ [] := by
  by_cases h : n < 10
  · rw [zdig_one h]
    refine ⟨fun x hx => ?_, by simp⟩
    rw [List.mem_singleton] at hx
    rw [hx, zdigit_nat n h]; omega
  · rw [zdig_more h]
    have ih := zdec_all (n / 10)
    refine ⟨fun x hx => ?_, by simp⟩
    rcases List.mem_append.1 hx with hx | hx
    · exact ih.1 x hx
    · rw [List.mem_singleton] at hx
      rw [hx, zdigit_nat (n % 10) (by omega)]; omega
termination_by n
decreasing_by omega
theorem zpum (n : Nat) (r : List UInt8) (hn : n < 9223372036854775808) : parseUint10 0 (decDigits n ++ r) = parseUint10 n r := by
  by_cases h : n < 10
  · rw [zdig_one h]
    show parseUint10 0 (UInt8.ofNat (48 + n) :: r) = _
    rw [parseUint10, zdigit_nat n h, if_pos (by omega), if_neg (by omega), if_neg (by omega)]
    congr 1; omega
  · rw [zdig_more h, List.append_assoc]
    rw [zpum (n / 10) _ (by omega)]
    show parseUint10 (n / 10) (UInt8.ofNat (48 + n % 10) :: r) = _
    rw [parseUint10, zdigit_nat (n % 10) (by omega), if_pos (by omega), if_neg (by omega), if_neg (by omega)]
    congr 1; omega
termination_by n
decreasing_by omega
theorem zdig_short {n k : Nat} (h : n < 10 ^ (k + 1)) : nDigits n ≤ k + 1 := by
  induction k generalizing n with
  | zero => rw [nDigits_small (by simpa using h)]; omega
  | succ k ih =>
    by_cases hn : n < 10
    · rw [nDigits_small hn]; omega
    · rw [nDigits_big hn]
      have : n / 10 < 10 ^ (k + 1) := by
        rw [Nat.div_lt_iff_lt_mul (by decide)]
        rw [Nat.pow_succ] at h
        exact h
      have := ih this
      omega
theorem tcut_eq (l : List UInt8) : cut (32 :: l) [32] = ([], l, true) := by
  unfold cut
  rw [index_one, indexByte]
  simp
theorem tcut_ne (c : UInt8) (l : List UInt8) (h : c ≠ 32) : cut (c :: l) [32] = (c :: (cut l [32]).1, (cut l [32]).2.1, (cut l [32]).2.2) := by
  have hb : (c == 32) = false := by simpa using h
  unfold cut
  rw [index_one, index_one, indexByte, hb]
  by_cases hi : indexByte l 32 = -1
  · rw [hi]
    simp
  · have h0 : 0 ≤ indexByte l 32 := by
      have := index_ge l [32]
      rw [index_one] at this
      omega
    have h1 : (indexByte l 32 == -1) = false := by simpa using hi
    rw [h1]
    simp only [Bool.false_eq_true, if_false]
    rw [if_pos (by omega), if_pos h0]
    have e : (indexByte l 32 + 1).toNat = (indexByte l 32).toNat + 1 := by omega
    rw [e]
    simp
theorem tcut_parts : ∀ l : List UInt8, ((cut l [32]).2.2 = true ∧ l = (cut l [32]).1 ++ 32 :: (cut l [32]).2.1) ∨ ((cut l [32]).2.1 = [])
  | [] => .inr (by decide)
  | c :: l => by
    by_cases h : c = 32
    · subst h; rw [tcut_eq]; exact .inl ⟨rfl, rfl⟩
    · rw [tcut_ne c l h]
      rcases tcut_parts l with ⟨h1, h2⟩ | h2
      · refine .inl ⟨h1, ?_⟩
        show c :: l = c :: ((cut l [32]).1 ++ 32 :: (cut l [32]).2.1)
        rw [← h2]
      · exact .inr h2
theorem rgood_nil : ¬ rgood [] := fun h => by
  have h1 := h.1.1
  have e : rup [] = [] := by decide
  rw [e] at h1
  exact absurd h1 (by decide)
end Go.Proofs.YtldeiapikkebgaaGreatDoor

/- package tide: Print. -/
namespace Go.Proofs.YtldeiapikkebgaaGreatDoor
open Go.RowKit Go.Lib
set_option linter.unusedVariables false
set_option linter.unusedSimpArgs false

def ttext (l : List UInt8) (f r : Int) (g : List UInt8) : List UInt8 := l ++ 32 :: (itoa f ++ 32 :: (itoa r ++ 32 :: g))
def tpErr (E : Int) (l : List UInt8) (f r : Int) (G : Int) (g : List UInt8) : Int := if E ≠ 0 then E else if G ≠ 0 then G else if 65536 < (ttext l f r g).length then 3 else 0
theorem tpErr_chk {E : Int} {l : List UInt8} {f r G : Int} {g : List UInt8} (h : E ≠ 0) : tpErr E l f r G g = E := by unfold tpErr; rw [if_pos h]
theorem tpErr_num {E : Int} {l : List UInt8} {f r G : Int} {g : List UInt8} (h : E = 0) (h2 : G ≠ 0) : tpErr E l f r G g = G := by unfold tpErr; rw [if_neg (by simp [h]), if_pos h2]
theorem tpErr_long {E : Int} {l : List UInt8} {f r G : Int} {g : List UInt8} (h : E = 0) (h2 : G = 0) (h3 : 65536 < (ttext l f r g).length) : tpErr E l f r G g = 3 := by unfold tpErr; rw [if_neg (by simp [h]), if_neg (by simp [h2]), if_pos h3]
theorem tpErr_ok {E : Int} {l : List UInt8} {f r G : Int} {g : List UInt8} (h : E = 0) (h2 : G = 0) (h3 : ¬ 65536 < (ttext l f r g).length) : tpErr E l f r G g = 0 := by unfold tpErr; rw [if_neg (by simp [h]), if_neg (by simp [h2]), if_neg h3]
theorem tsum_text (s : ByteArray) (f r : Int) (U : ByteArray) : s ++ (⟨#[32]⟩ : ByteArray) ++ (⟨(itoa f).toArray⟩ : ByteArray) ++ (⟨#[32]⟩ : ByteArray) ++ (⟨(itoa r).toArray⟩ : ByteArray) ++ (⟨#[32]⟩ : ByteArray) ++ U = ⟨(ttext s.data.toList f r U.data.toList).toArray⟩ := by
  have e : ∀ x : ByteArray, x = ⟨x.data.toList.toArray⟩ := fun x => by simp
  rw [e s, e U, show (⟨#[32]⟩ : ByteArray) = ⟨([32] : List UInt8).toArray⟩ from rfl, zbytes_app, zbytes_app, zbytes_app, zbytes_app, zbytes_app, zbytes_app]
  unfold ttext
  simp
theorem tname_ok {l : List UInt8} (h : tname l = true) : 1 ≤ l.length ∧ l.length ≤ 20 := by
  unfold tname at h
  simp at h
  exact ⟨h.1.1.1, h.1.1.2⟩
theorem tchk_ok {l : List UInt8} {f n g : Int} (h : tchk l f n g = 0) : tname l = true ∧ ochk f n = 0 ∧ g = 0 := by
  unfold tchk at h
  by_cases hn : tname l = true
  · rw [if_pos hn] at h
    unfold fstE at h
    by_cases ho : ochk f n = 0
    · rw [if_pos ho] at h; exact ⟨hn, ho, h⟩
    · rw [if_neg ho] at h; exact absurd h ho
  · rw [if_neg hn] at h; exact absurd h (by decide)
set_option maxHeartbeats 3200000 in
set_option maxRecDepth 100000 in
theorem tPrint_any (s : ByteArray) (f r : Int) (n : Bool) (a : Option Addr) (ca : Nat) (xs : List Int) (b : Option Addr) (cb : Nat) (ys : List Int) (m : Bool) (c : Option Addr) (cc : Nat) (us : List Int) (d : Option Addr) (cd : Nat) (vs : List Int) (w : World) (hz : s.size ≤ 9223372036854775807) (hr : in32 f r) (sx : Sl w (.slice a xs.length ca) xs) (sy : Sl w (.slice b ys.length cb) ys) (su : Sl w (.slice c us.length cc) us) (sv : Sl w (.slice d vs.length cd) vs) (htab : Tab w) :
    Calls Tryz.prog 6 #[.agg #[.string s, .int .i32 f, .int .i32 r, .bool n, .slice a xs.length ca, .slice b ys.length cb, .bool m, .slice c us.length cc, .slice d vs.length cd]] w fun x w' => ∃ S : ByteArray, x = .returned (.tuple #[.string S, .int .i64 (tpErr (tchk s.data.toList f r (gchk n xs ys m us vs)) s.data.toList f r (gpErr n xs ys m us vs) (gtext n xs ys m us vs))]) ∧ (tpErr (tchk s.data.toList f r (gchk n xs ys m us vs)) s.data.toList f r (gpErr n xs ys m us vs) (gtext n xs ys m us vs) = 0 → S.data.toList = ttext s.data.toList f r (gtext n xs ys m us vs)) ∧ (tpErr (tchk s.data.toList f r (gchk n xs ys m us vs)) s.data.toList f r (gpErr n xs ys m us vs) (gtext n xs ys m us vs) ≠ 0 → S = ⟨#[]⟩) ∧ Below w.heap.size w w' := by
  have HX := hid (Box.made w 30 #[.string s, .int .i32 f, .int .i32 r, .bool n, .slice a xs.length ca, .slice b ys.length cb, .bool m, .slice c us.length cc, .slice d vs.length cd])
  have HB := hid (alloc_later w (.cells #[.string s, .int .i32 f, .int .i32 r, .bool n, .slice a xs.length ca, .slice b ys.length cb, .bool m, .slice c us.length cc, .slice d vs.length cd] 30))
  obtain ⟨X, hX⟩ : ∃ X, w.alloc (.cells #[.string s, .int .i32 f, .int .i32 r, .bool n, .slice a xs.length ca, .slice b ys.length cb, .bool m, .slice c us.length cc, .slice d vs.length cd] 30) = X := ⟨_, rfl⟩
  rw [hX] at HX HB
  have HC := hid (tCheck_any s f r n a ca xs b cb ys m c cc us d cd vs X hz hr (sx.later HB.out) (sy.later HB.out) (su.later HB.out) (sv.later HB.out))
  have HP : Hid (∀ V, Below w.heap.size w V → Calls Tryz.prog 17 #[.agg #[.bool n, .slice a xs.length ca, .slice b ys.length cb, .bool m, .slice c us.length cc, .slice d vs.length cd]] V fun x w' => ∃ S : ByteArray, x = .returned (.tuple #[.string S, .int .i64 (gpErr n xs ys m us vs)]) ∧ (gpErr n xs ys m us vs = 0 → S.data.toList = gtext n xs ys m us vs) ∧ (gpErr n xs ys m us vs ≠ 0 → S = ⟨#[]⟩) ∧ Below V.heap.size V w') := fun V hv => gPrint_any n a ca xs b cb ys m c cc us d cd vs V (sx.later hv) (sy.later hv) (su.later hv) (sv.later hv) (htab.later hv)
  have HD : Hid (∀ z, -2147483648 ≤ z → z ≤ 2147483647 → ∀ V, Below w.heap.size w V → Calls Tryz.prog 18 #[.int .i32 z] V fun e w' => e = .returned (.string ⟨(itoa z).toArray⟩) ∧ Below V.heap.size V w') := fun z z0 z1 V hv => tdecimal_any z V z0 z1 (htab.later hv)
  have D1 := hid (HD.out f hr.1.1 hr.1.2)
  have D2 := hid (HD.out r hr.2.1 hr.2.2)
  have lf := zitoa_len f hr.1.1 hr.1.2
  have lr := zitoa_len r hr.2.1 hr.2.2
  have hls : s.data.toList.length = s.size := Array.length_toList
  have HTC : Hid (tchk s.data.toList f r (gchk n xs ys m us vs) = 0 → s.size ≤ 20) := fun h => by have := tname_ok (tchk_ok h).1; omega
  have HGL : Hid (gpErr n xs ys m us vs = 0 → (gtext n xs ys m us vs).length ≤ 65536) := fun h => by
    unfold gpErr at h
    by_cases hg : gchk n xs ys m us vs = 0
    · rw [hg, fstE_zero] at h
      by_cases hl : 65536 < (gtext n xs ys m us vs).length
      · rw [if_pos hl] at h; exact absurd h (by decide)
      · omega
    · rw [fstE_err _ hg] at h; exact absurd h hg
  generalize gtext n xs ys m us vs = GT at *
  generalize gpErr n xs ys m us vs = GE at *
  generalize tchk s.data.toList f r (gchk n xs ys m us vs) = TC at *
  have HE1 : Hid (TC ≠ 0 → tpErr TC s.data.toList f r GE GT = TC) := tpErr_chk
  have HE2 : Hid (TC = 0 → GE ≠ 0 → tpErr TC s.data.toList f r GE GT = GE) := tpErr_num
  have HE3 : Hid (TC = 0 → GE = 0 → 65536 < (ttext s.data.toList f r GT).length → tpErr TC s.data.toList f r GE GT = 3) := tpErr_long
  have HE4 : Hid (TC = 0 → GE = 0 → ¬ 65536 < (ttext s.data.toList f r GT).length → tpErr TC s.data.toList f r GE GT = 0) := tpErr_ok
  have HTX : Hid (∀ U : ByteArray, U.data.toList = GT → s ++ (⟨#[32]⟩ : ByteArray) ++ (⟨(itoa f).toArray⟩ : ByteArray) ++ (⟨#[32]⟩ : ByteArray) ++ (⟨(itoa r).toArray⟩ : ByteArray) ++ (⟨#[32]⟩ : ByteArray) ++ U = ⟨(ttext s.data.toList f r GT).toArray⟩) := fun U hU => by rw [tsum_text, hU]
  have HTL : Hid (∀ U : ByteArray, U.data.toList = GT → (ttext s.data.toList f r GT).length = s.size + 1 + (itoa f).length + 1 + (itoa r).length + 1 + U.size) := fun U hU => by
    have hu : U.data.toList.length = U.size := Array.length_toList
    unfold ttext
    rw [← hU]
    simp only [List.length_append, List.length_cons]
    omega
  generalize tpErr TC s.data.toList f r GE GT = TE at *
  generalize ttext s.data.toList f r GT = TT at *
  clear sx sy su sv htab hr HD hls
  have k0 : X.cell? ⟨w.heap.size, 0, none⟩ = some (.string s) := HX.out.cell 0
  have k1 : X.cell? ⟨w.heap.size, 1, none⟩ = some (.int .i32 f) := HX.out.cell 1
  have k2 : X.cell? ⟨w.heap.size, 2, none⟩ = some (.int .i32 r) := HX.out.cell 2
  have k3 : X.cell? ⟨w.heap.size, 3, none⟩ = some (.bool n) := HX.out.cell 3
  have k4 : X.cell? ⟨w.heap.size, 4, none⟩ = some (.slice a xs.length ca) := HX.out.cell 4
  have k5 : X.cell? ⟨w.heap.size, 5, none⟩ = some (.slice b ys.length cb) := HX.out.cell 5
  have k6 : X.cell? ⟨w.heap.size, 6, none⟩ = some (.bool m) := HX.out.cell 6
  have k7 : X.cell? ⟨w.heap.size, 7, none⟩ = some (.slice c us.length cc) := HX.out.cell 7
  have k8 : X.cell? ⟨w.heap.size, 8, none⟩ = some (.slice d vs.length cd) := HX.out.cell 8
  go_enter Tryz.func6, Tryz.ntmps6
  go_wp2_with fail
  refine Calls.mono HC.out ?_
  rintro e w1 ⟨rfl, hb1⟩
  have HW1 := hid (bt HB.out hb1)
  have HX1 := hid (HX.out.later hb1 HX.out.lt)
  clear hb1 HC k0 k1 k2 k3 k4 k5 k6 k7 k8 HX HB hX
  by_cases hTC : TC = 0
  · have hsz := HTC.out hTC
    have HZ1 := hid hTC
    subst hTC
    have k3 : w1.cell? ⟨w.heap.size, 3, none⟩ = some (.bool n) := HX1.out.cell 3
    have k4 : w1.cell? ⟨w.heap.size, 4, none⟩ = some (.slice a xs.length ca) := HX1.out.cell 4
    have k5 : w1.cell? ⟨w.heap.size, 5, none⟩ = some (.slice b ys.length cb) := HX1.out.cell 5
    have k6 : w1.cell? ⟨w.heap.size, 6, none⟩ = some (.bool m) := HX1.out.cell 6
    have k7 : w1.cell? ⟨w.heap.size, 7, none⟩ = some (.slice c us.length cc) := HX1.out.cell 7
    have k8 : w1.cell? ⟨w.heap.size, 8, none⟩ = some (.slice d vs.length cd) := HX1.out.cell 8
    go_wp2_with fail
    refine Calls.mono (HP.out _ HW1.out) ?_
    rintro x w2 ⟨U, rfl, hU, _, hb2⟩
    have HW2 := hid (bt HW1.out hb2)
    have HX2 := hid (HX1.out.later hb2 HX1.out.lt)
    have HU := hid hU
    clear hU hb2 k3 k4 k5 k6 k7 k8
    by_cases hGE : GE = 0
    · have hU2 := HU.out hGE
      have hGL := HGL.out hGE
      have hUl : U.size ≤ 65536 := by
        have e1 : U.data.toList.length = U.size := Array.length_toList
        rw [hU2] at e1; omega
      have HT := hid (HTX.out U hU2)
      have hTL := HTL.out U hU2
      have HGZ := hid hGE
      subst hGE
      clear hU2 hGL HU HTX HTL HGL HTC
      have hm1 : ¬ 9223372036854775807 < s.size + 1 := by omega
      have hm2 : ¬ 9223372036854775807 < s.size + 1 + (itoa f).length := by omega
      have hm3 : ¬ 9223372036854775807 < s.size + 1 + (itoa f).length + 1 := by omega
      have hm4 : ¬ 9223372036854775807 < s.size + 1 + (itoa f).length + 1 + (itoa r).length := by omega
      have hm5 : ¬ 9223372036854775807 < s.size + 1 + (itoa f).length + 1 + (itoa r).length + 1 := by omega
      have hm6 : ¬ 9223372036854775807 < s.size + 1 + (itoa f).length + 1 + (itoa r).length + 1 + U.size := by omega
      have HTL := hid hTL
      clear hTL hsz hUl lf lr
      have HF : Hid (∀ V, Below w2.heap.size w2 V → V.cell? ⟨w.heap.size, 0, none⟩ = some (.string s) ∧ V.cell? ⟨w.heap.size, 1, none⟩ = some (.int .i32 f) ∧ V.cell? ⟨w.heap.size, 2, none⟩ = some (.int .i32 r)) := fun V hv => by
        have h := HX2.out.later hv HX2.out.lt
        exact ⟨h.cell 0, h.cell 1, h.cell 2⟩
      have hs0 := HF.out _ (Below.refl _ w2).drew
      have hd0 := hid (Below.refl w2.heap.size w2).drew
      have H1 : Hid (∀ V, Below w2.heap.size w2 V → Calls Tryz.prog 18 #[.int .i32 f] V fun e w' => e = .returned (.string ⟨(itoa f).toArray⟩) ∧ (w'.cell? ⟨w.heap.size, 0, none⟩ = some (.string s) ∧ w'.cell? ⟨w.heap.size, 1, none⟩ = some (.int .i32 f) ∧ w'.cell? ⟨w.heap.size, 2, none⟩ = some (.int .i32 r)) ∧ Below w2.heap.size w2 w') := fun V hv => by
        refine Calls.mono (D1.out V (bt HW2.out hv)) ?_
        rintro e w' ⟨rfl, h⟩
        exact ⟨rfl, HF.out _ (bt hv h), bt hv h⟩
      have H2 : Hid (∀ V, Below w2.heap.size w2 V → Calls Tryz.prog 18 #[.int .i32 r] V fun e w' => e = .returned (.string ⟨(itoa r).toArray⟩) ∧ (w'.cell? ⟨w.heap.size, 0, none⟩ = some (.string s) ∧ w'.cell? ⟨w.heap.size, 1, none⟩ = some (.int .i32 f) ∧ w'.cell? ⟨w.heap.size, 2, none⟩ = some (.int .i32 r)) ∧ Below w2.heap.size w2 w') := fun V hv => by
        refine Calls.mono (D2.out V (bt HW2.out hv)) ?_
        rintro e w' ⟨rfl, h⟩
        exact ⟨rfl, HF.out _ (bt hv h), bt hv h⟩
      clear HF HX1 HX2 D1 D2 HP
      go_wp2_with fail
      go_region_held3 (fun V : World => V.cell? ⟨w.heap.size, 0, none⟩ = some (.string s) ∧ V.cell? ⟨w.heap.size, 1, none⟩ = some (.int .i32 f) ∧ V.cell? ⟨w.heap.size, 2, none⟩ = some (.int .i32 r)) (first | exact hs2 | exact hs1 | exact hs0)
        (first
          | (go_at_call 18; with_reducible refine Calls.mono (H2.out _ hb2) ?_; rintro e w4 ⟨rfl, hs2, hb3⟩)
          | (go_at_call 18; with_reducible refine Calls.mono (H1.out _ hd0.out) ?_; rintro e w3 ⟨rfl, hs1, hb2⟩))
      all_goals
        have HB3 := hid (bt HW2.out hb3)
        clear hs0 hs1 hs2 hb2 hb3 H1 H2 hd0
        have HSZ : Hid ((⟨TT.toArray⟩ : ByteArray).size = TT.length) := by show TT.toArray.size = TT.length; simp
        have HTB : Hid ((⟨TT.toArray⟩ : ByteArray).data.toList = TT) := by show _ = _; simp
        rw [HT.out]
        clear HT hm1 hm2 hm3 hm4 hm5 hm6
        generalize (⟨TT.toArray⟩ : ByteArray) = TB at *
        by_cases hl : (65536 : Int) < (TB.size : Int)
        · have HTE := hid (HE3.out trivial trivial (by have := HSZ.out; omega))
          go_wp2_with fail
          go_ret2
          rw [HTE.out]
          exact ⟨_, rfl, fun h => absurd h (by decide), fun _ => rfl, HB3.out⟩
        · have HTE := hid (HE4.out trivial trivial (by have := HSZ.out; omega))
          go_wp2_with fail
          go_ret2
          rw [HTE.out]
          exact ⟨_, rfl, fun _ => HTB.out, fun h => absurd rfl h, HB3.out⟩
    · have HTE := hid (HE2.out trivial hGE)
      have h2' : (GE == 0) = false := by simp [hGE]
      have h2n : (GE != 0) = true := by simp [hGE]
      clear HP D1 D2 HTX HTL HGL HTC HE3 HE4 HE1
      go_wp2_with fail
      go_ret2
      rw [HTE.out]
      exact ⟨_, rfl, fun h => absurd h hGE, fun _ => rfl, HW2.out⟩
  · have HTE := hid (HE1.out hTC)
    have h2' : (TC == 0) = false := by simp [hTC]
    have h2n : (TC != 0) = true := by simp [hTC]
    clear HP D1 D2 HTX HTL HGL HTC HE3 HE4 HE2
    go_wp2_with fail
    go_ret2
    rw [HTE.out]
    exact ⟨_, rfl, fun h => absurd h hTC, fun _ => rfl, HW1.out⟩
end Go.Proofs.YtldeiapikkebgaaGreatDoor

/- package tide: Parse, of any text. -/
namespace Go.Proofs.YtldeiapikkebgaaGreatDoor
open Go.RowKit Go.Lib
set_option linter.unusedVariables false
set_option linter.unusedSimpArgs false

theorem box_put9 {U : World} {b t : Nat} {u0 u1 u2 u3 u4 u5 u6 u7 u8 : Value} (h : Box U b t #[u0, u1, u2, u3, u4, u5, u6, u7, u8]) (v0 v1 v2 v3 v4 v5 v6 v7 v8 : Value) : Box (((((((((U.setCell ⟨b, 0, none⟩ v0).setCell ⟨b, 1, none⟩ v1).setCell ⟨b, 2, none⟩ v2).setCell ⟨b, 3, none⟩ v3).setCell ⟨b, 4, none⟩ v4).setCell ⟨b, 5, none⟩ v5).setCell ⟨b, 6, none⟩ v6).setCell ⟨b, 7, none⟩ v7).setCell ⟨b, 8, none⟩ v8) b t #[v0, v1, v2, v3, v4, v5, v6, v7, v8] := by
  have h0 : Box _ b t #[v0, u1, u2, u3, u4, u5, u6, u7, u8] := h.set 0 v0
  have h1 : Box _ b t #[v0, v1, u2, u3, u4, u5, u6, u7, u8] := h0.set 1 v1
  have h2 : Box _ b t #[v0, v1, v2, u3, u4, u5, u6, u7, u8] := h1.set 2 v2
  have h3 : Box _ b t #[v0, v1, v2, v3, u4, u5, u6, u7, u8] := h2.set 3 v3
  have h4 : Box _ b t #[v0, v1, v2, v3, v4, u5, u6, u7, u8] := h3.set 4 v4
  have h5 : Box _ b t #[v0, v1, v2, v3, v4, v5, u6, u7, u8] := h4.set 5 v5
  have h6 : Box _ b t #[v0, v1, v2, v3, v4, v5, v6, u7, u8] := h5.set 6 v6
  have h7 : Box _ b t #[v0, v1, v2, v3, v4, v5, v6, v7, u8] := h6.set 7 v7
  exact h7.set 8 v8
theorem below_put9 {B : Nat} {x U : World} (h : Below B x U) (b : Nat) (hb : B ≤ b) (v0 v1 v2 v3 v4 v5 v6 v7 v8 : Value) : Below B x (((((((((U.setCell ⟨b, 0, none⟩ v0).setCell ⟨b, 1, none⟩ v1).setCell ⟨b, 2, none⟩ v2).setCell ⟨b, 3, none⟩ v3).setCell ⟨b, 4, none⟩ v4).setCell ⟨b, 5, none⟩ v5).setCell ⟨b, 6, none⟩ v6).setCell ⟨b, 7, none⟩ v7).setCell ⟨b, 8, none⟩ v8) :=
  ((((((((h.setCell (p := ⟨b, 0, none⟩) hb _).setCell (p := ⟨b, 1, none⟩) hb _).setCell (p := ⟨b, 2, none⟩) hb _).setCell (p := ⟨b, 3, none⟩) hb _).setCell (p := ⟨b, 4, none⟩) hb _).setCell (p := ⟨b, 5, none⟩) hb _).setCell (p := ⟨b, 6, none⟩) hb _).setCell (p := ⟨b, 7, none⟩) hb _).setCell (p := ⟨b, 8, none⟩) hb _
theorem own_put9 {w : World} {base e n : Nat} {v : Value} {xs : List Value} (h : w.ownsRow base e 1 v n xs) (b : Nat) (hb : ∀ g, v.ownBlock = some g → g ≠ b) (v0 v1 v2 v3 v4 v5 v6 v7 v8 : Value) : (((((((((w.setCell ⟨b, 0, none⟩ v0).setCell ⟨b, 1, none⟩ v1).setCell ⟨b, 2, none⟩ v2).setCell ⟨b, 3, none⟩ v3).setCell ⟨b, 4, none⟩ v4).setCell ⟨b, 5, none⟩ v5).setCell ⟨b, 6, none⟩ v6).setCell ⟨b, 7, none⟩ v7).setCell ⟨b, 8, none⟩ v8).ownsRow base e 1 v n xs :=
  own_put1 (own_put1 (own_put1 (own_put1 (own_put1 (own_put1 (own_put1 (own_put1 (own_put1 h b hb 0 v0) b hb 1 v1) b hb 2 v2) b hb 3 v3) b hb 4 v4) b hb 5 v5) b hb 6 v6) b hb 7 v7) b hb 8 v8
theorem tres_run {fn : Func} {W : World} {b q u : Nat} {cs : Array Value} (hr : fn.results = #[.cell q 30, .tmp u]) (hb : Box W b 30 cs) (tmps : Array Value) (h4 : tmps.getD q undef = .pointer (some ⟨b, 0, none⟩)) (hi : (Tryz.prog.info? 30).map (·.size) = some cs.size := by kernel_rfl) : (results fn tmps).run Tryz.prog W = .ok (.tuple #[.agg cs, tmps.getD u undef]) W := by
  have h := run_loadVar_row (P := Tryz.prog) W b 30 30 cs (0, 0) _ hb Tryz.underlying30 rfl hi
  rw [results_cell_tmp hr, h4]
  simp [asAddr, h]
theorem tchain9 {W : World} {b t : Nat} {u0 u1 u2 u3 u4 u5 u6 u7 u8 : Value} (h : Box W b t #[u0, u1, u2, u3, u4, u5, u6, u7, u8]) (v0 v1 v2 v3 v4 v5 v6 v7 v8 : Value) : ∃ A0 A1 A2 A3 A4 A5 A6 A7 A8, W.setCell ⟨b, 0, none⟩ v0 = A0 ∧ A0.setCell ⟨b, 1, none⟩ v1 = A1 ∧ A1.setCell ⟨b, 2, none⟩ v2 = A2 ∧ A2.setCell ⟨b, 3, none⟩ v3 = A3 ∧ A3.setCell ⟨b, 4, none⟩ v4 = A4 ∧ A4.setCell ⟨b, 5, none⟩ v5 = A5 ∧ A5.setCell ⟨b, 6, none⟩ v6 = A6 ∧ A6.setCell ⟨b, 7, none⟩ v7 = A7 ∧ A7.setCell ⟨b, 8, none⟩ v8 = A8 ∧ (W.cell? ⟨b, 0, none⟩ = some u0 ∧ A0.cell? ⟨b, 1, none⟩ = some u1 ∧ A1.cell? ⟨b, 2, none⟩ = some u2 ∧ A2.cell? ⟨b, 3, none⟩ = some u3 ∧ A3.cell? ⟨b, 4, none⟩ = some u4 ∧ A4.cell? ⟨b, 5, none⟩ = some u5 ∧ A5.cell? ⟨b, 6, none⟩ = some u6 ∧ A6.cell? ⟨b, 7, none⟩ = some u7 ∧ A7.cell? ⟨b, 8, none⟩ = some u8) ∧ (W.frozen? ⟨b, 0, none⟩ = false ∧ A0.frozen? ⟨b, 1, none⟩ = false ∧ A1.frozen? ⟨b, 2, none⟩ = false ∧ A2.frozen? ⟨b, 3, none⟩ = false ∧ A3.frozen? ⟨b, 4, none⟩ = false ∧ A4.frozen? ⟨b, 5, none⟩ = false ∧ A5.frozen? ⟨b, 6, none⟩ = false ∧ A6.frozen? ⟨b, 7, none⟩ = false ∧ A7.frozen? ⟨b, 8, none⟩ = false) := by
  have h0 : Box _ b t #[v0, u1, u2, u3, u4, u5, u6, u7, u8] := h.set 0 v0
  have h1 : Box _ b t #[v0, v1, u2, u3, u4, u5, u6, u7, u8] := h0.set 1 v1
  have h2 : Box _ b t #[v0, v1, v2, u3, u4, u5, u6, u7, u8] := h1.set 2 v2
  have h3 : Box _ b t #[v0, v1, v2, v3, u4, u5, u6, u7, u8] := h2.set 3 v3
  have h4 : Box _ b t #[v0, v1, v2, v3, v4, u5, u6, u7, u8] := h3.set 4 v4
  have h5 : Box _ b t #[v0, v1, v2, v3, v4, v5, u6, u7, u8] := h4.set 5 v5
  have h6 : Box _ b t #[v0, v1, v2, v3, v4, v5, v6, u7, u8] := h5.set 6 v6
  have h7 : Box _ b t #[v0, v1, v2, v3, v4, v5, v6, v7, u8] := h6.set 7 v7
  exact ⟨_, _, _, _, _, _, _, _, _, rfl, rfl, rfl, rfl, rfl, rfl, rfl, rfl, rfl, ⟨h.cell 0, h0.cell 1, h1.cell 2, h2.cell 3, h3.cell 4, h4.cell 5, h5.cell 6, h6.cell 7, h7.cell 8⟩, h.free 0, h0.free 1, h1.free 2, h2.free 3, h3.free 4, h4.free 5, h5.free 6, h6.free 7, h7.free 8⟩
theorem tchain_far {W A0 A1 A2 A3 A4 A5 A6 A7 A8 : World} {b b' t' : Nat} {cs : Array Value} {v0 v1 v2 v3 v4 v5 v6 v7 v8 : Value} (h : Box W b' t' cs) (hne : b' ≠ b) (hA0 : W.setCell ⟨b, 0, none⟩ v0 = A0) (hA1 : A0.setCell ⟨b, 1, none⟩ v1 = A1) (hA2 : A1.setCell ⟨b, 2, none⟩ v2 = A2) (hA3 : A2.setCell ⟨b, 3, none⟩ v3 = A3) (hA4 : A3.setCell ⟨b, 4, none⟩ v4 = A4) (hA5 : A4.setCell ⟨b, 5, none⟩ v5 = A5) (hA6 : A5.setCell ⟨b, 6, none⟩ v6 = A6) (hA7 : A6.setCell ⟨b, 7, none⟩ v7 = A7) (hA8 : A7.setCell ⟨b, 8, none⟩ v8 = A8) : Box A8 b' t' cs := by
  subst hA0 hA1 hA2 hA3 hA4 hA5 hA6 hA7 hA8
  exact (((((((((h.other ⟨b, 0, none⟩ v0 hne).other ⟨b, 1, none⟩ v1 hne).other ⟨b, 2, none⟩ v2 hne).other ⟨b, 3, none⟩ v3 hne).other ⟨b, 4, none⟩ v4 hne).other ⟨b, 5, none⟩ v5 hne).other ⟨b, 6, none⟩ v6 hne).other ⟨b, 7, none⟩ v7 hne).other ⟨b, 8, none⟩ v8 hne)

structure TTells (E : Int) (L : Prop) (l : List UInt8) (f r : Int) (q1 q2 : Rat) (S : ByteArray) (F R : Int) (n : Bool) (xs ys : List Int) (m : Bool) (us vs : List Int) (code : Int) : Prop where
  num : GTells E L q1 q2 n xs ys m us vs code
  bad : code ≠ 0 → S = ⟨#[]⟩ ∧ F = 0 ∧ R = 0
  good : code = 0 → S.data.toList = l ∧ F = f ∧ R = r
def TToldC (w : World) (E : Int) (L : Prop) (l : List UInt8) (f r : Int) (q1 q2 : Rat) (x : Ending) (w' : World) : Prop :=
  ∃ S F R n a ca xs b cb ys m c cc us d cd vs code, x = .returned (.tuple #[.agg #[.string S, .int .i32 F, .int .i32 R, .bool n, .slice a (List.length xs) ca, .slice b (List.length ys) cb, .bool m, .slice c (List.length us) cc, .slice d (List.length vs) cd], .int .i64 code]) ∧ (w'.ownsRow w.heap.size 94 1 (.slice a xs.length ca) xs.length (xs.map (Value.int .u32)) ∧ w'.ownsRow w.heap.size 94 1 (.slice b ys.length cb) ys.length (ys.map (Value.int .u32)) ∧ w'.ownsRow w.heap.size 94 1 (.slice c us.length cc) us.length (us.map (Value.int .u32)) ∧ w'.ownsRow w.heap.size 94 1 (.slice d vs.length cd) vs.length (vs.map (Value.int .u32))) ∧ TTells E L l f r q1 q2 S F R n xs ys m us vs code ∧ Below w.heap.size w w' ∧ ∃ W1, Cut w (.slice a xs.length ca) (.slice b ys.length cb) W1 ∧ Cut W1 (.slice c us.length cc) (.slice d vs.length cd) w'
theorem ttoldc_zero {w W : World} {E : Int} {L : Prop} {l : List UInt8} {f r : Int} {q1 q2 : Rat} {code : Int} (h : E ≠ 0 ∧ code = E ∨ E = 0 ∧ L ∧ code = 3) (hb : Below w.heap.size w W) : TToldC w E L l f r q1 q2 (.returned (.tuple #[.agg #[.string ⟨#[]⟩, .int .i32 0, .int .i32 0, .bool false, .slice none 0 0, .slice none 0 0, .bool false, .slice none 0 0, .slice none 0 0], .int .i64 code])) W := by
  have hc : code ≠ 0 := by rcases h with h | h <;> omega
  refine ⟨⟨#[]⟩, 0, 0, false, none, 0, [], none, 0, [], false, none, 0, [], none, 0, [], code, rfl, ⟨World.ownsRow_nil _ _ _ _, World.ownsRow_nil _ _ _ _, World.ownsRow_nil _ _ _ _, World.ownsRow_nil _ _ _ _⟩, ⟨⟨⟨Wd.nil, Wd.nil, Wd.nil, Wd.nil⟩, fun he => ⟨⟨rfl, rfl, rfl, rfl, rfl, rfl⟩, ?_⟩, fun he hl => ⟨⟨rfl, rfl, rfl, rfl, rfl, rfl⟩, ?_⟩, fun he hl => ?_⟩, fun _ => ⟨rfl, rfl, rfl⟩, fun e => absurd e hc⟩, hb, W, cut_nil _ _ hb.size, cut_nil _ _ (Nat.le_refl _)⟩
  · rcases h with h | h
    · exact h.2
    · exact absurd h.1 he
  · rcases h with h | h
    · exact absurd he h.1
    · exact h.2.2
  · rcases h with h | h
    · exact absurd he h.1
    · exact absurd h.2.1 hl

def trest (l : List UInt8) : List UInt8 := (Lib.cut l [32]).2.1
def tword (l : List UInt8) : List UInt8 := (Lib.cut l [32]).1
def tgood (l : List UInt8) : Prop := tname (tword l) = true ∧ tnumOk (tword (trest l)) = true ∧ tnumOk (tword (trest (trest l))) = true ∧ ggood (trest (trest (trest l)))
open Classical in
noncomputable def tpE (s : ByteArray) : Int := if 65536 < s.size then 3 else if tgood s.data.toList then ochk (tnumV (tword (trest s.data.toList))) (tnumV (tword (trest (trest s.data.toList)))) else 230
theorem tpE_long {s : ByteArray} (h : 65536 < s.size) : tpE s = 3 := by unfold tpE; rw [if_pos h]
theorem tpE_good {s : ByteArray} (hs : s.size ≤ 65536) (h : tgood s.data.toList) : tpE s = ochk (tnumV (tword (trest s.data.toList))) (tnumV (tword (trest (trest s.data.toList)))) := by unfold tpE; rw [if_neg (by omega), if_pos h]
theorem tpE_bad {s : ByteArray} (hs : s.size ≤ 65536) (h : ¬ tgood s.data.toList) : tpE s = 230 := by unfold tpE; rw [if_neg (by omega), if_neg h]
theorem gpar_or {T : ByteArray} (hs : T.size ≤ 65536) {L : Prop} {q1 q2 : Rat} {n m : Bool} {xs ys us vs : List Int} {code : Int} (h : GTells (gpE T) L q1 q2 n xs ys m us vs code) :
    (code = 140 ∧ ¬ ggood T.data.toList) ∨ (ggood T.data.toList ∧ L ∧ code = 3) ∨ (ggood T.data.toList ∧ ¬ L ∧ code = 0 ∧ GTells 0 L q1 q2 n xs ys m us vs 0) := by
  by_cases hg : ggood T.data.toList
  · rw [gpE_good hs hg] at h
    by_cases hL : L
    · exact .inr (.inl ⟨hg, hL, (h.long rfl hL).2⟩)
    · have e := (h.good rfl hL).1
      subst e
      exact .inr (.inr ⟨hg, hL, rfl, h⟩)
  · rw [gpE_bad hs hg] at h
    exact .inl ⟨(h.bad (by decide)).2, hg⟩
theorem tclone_any (s : ByteArray) (w : World) (h : s.size ≤ 281474976710656) : Calls Tryz.prog 27 #[.string s] w fun e w' => e = .returned (.string s) ∧ Below w.heap.size w w' := by
  have HC := hid (Tryz.stringslite_Clone s w h)
  go_enter Tryz.func27, Tryz.ntmps27
  go_wp2_with fail
  refine Calls.mono HC.out ?_
  rintro e w1 ⟨rfl, hb⟩
  go_wp2_with fail
  go_ret
  exact ⟨rfl, hb⟩

set_option maxHeartbeats 1600000 in
set_option maxRecDepth 100000 in
theorem tParse_long (s : ByteArray) (w : World) (hs : 65536 < s.size) (hm : s.size ≤ 281474976710656) (L : Prop) (l : List UInt8) (f r : Int) (q1 q2 : Rat) : Calls Tryz.prog 8 #[.string s] w (TToldC w 3 L l f r q1 q2) := by
  have HX := hid (Box.made w 30 #[.string ⟨#[]⟩, .int .i32 0, .int .i32 0, .bool false, .slice none 0 0, .slice none 0 0, .bool false, .slice none 0 0, .slice none 0 0])
  have HB := hid (alloc_later w (.cells #[.string ⟨#[]⟩, .int .i32 0, .int .i32 0, .bool false, .slice none 0 0, .slice none 0 0, .bool false, .slice none 0 0, .slice none 0 0] 30))
  obtain ⟨X, hX⟩ : ∃ X, w.alloc (.cells #[.string ⟨#[]⟩, .int .i32 0, .int .i32 0, .bool false, .slice none 0 0, .slice none 0 0, .bool false, .slice none 0 0, .slice none 0 0] 30) = X := ⟨_, rfl⟩
  rw [hX] at HX HB
  have m0 : X.cell? ⟨w.heap.size, 0, none⟩ = some (.string ⟨#[]⟩) := HX.out.cell 0
  have m1 : X.cell? ⟨w.heap.size, 1, none⟩ = some (.int .i32 0) := HX.out.cell 1
  have m2 : X.cell? ⟨w.heap.size, 2, none⟩ = some (.int .i32 0) := HX.out.cell 2
  have m3 : X.cell? ⟨w.heap.size, 3, none⟩ = some (.bool false) := HX.out.cell 3
  have m4 : X.cell? ⟨w.heap.size, 4, none⟩ = some (.slice none 0 0) := HX.out.cell 4
  have m5 : X.cell? ⟨w.heap.size, 5, none⟩ = some (.slice none 0 0) := HX.out.cell 5
  have m6 : X.cell? ⟨w.heap.size, 6, none⟩ = some (.bool false) := HX.out.cell 6
  have m7 : X.cell? ⟨w.heap.size, 7, none⟩ = some (.slice none 0 0) := HX.out.cell 7
  have m8 : X.cell? ⟨w.heap.size, 8, none⟩ = some (.slice none 0 0) := HX.out.cell 8
  have f0 := HX.out.free 0
  have f1 := HX.out.free 1
  have f2 := HX.out.free 2
  have f3 := HX.out.free 3
  have f4 := HX.out.free 4
  have f5 := HX.out.free 5
  have f6 := HX.out.free 6
  have f7 := HX.out.free 7
  have f8 := HX.out.free 8
  have hs' : (65536 : Int) < (s.size : Int) := by omega
  clear hs
  go_enter Tryz.func8, Tryz.ntmps8
  go_wp2_with fail
  have B1 := box_put9 HX.out (.string ⟨#[]⟩) (.int .i32 0) (.int .i32 0) (.bool false) (.slice none 0 0) (.slice none 0 0) (.bool false) (.slice none 0 0) (.slice none 0 0)
  have G1 := below_put9 HB.out w.heap.size (Nat.le_refl _) (.string ⟨#[]⟩) (.int .i32 0) (.int .i32 0) (.bool false) (.slice none 0 0) (.slice none 0 0) (.bool false) (.slice none 0 0) (.slice none 0 0)
  clear m0 m1 m2 m3 m4 m5 m6 m7 m8 f0 f1 f2 f3 f4 f5 f6 f7 f8
  exact bodyPost_ret (tres_run (by rfl) B1 _ rfl) rfl (ttoldc_zero (E := 3) (.inl ⟨by decide, rfl⟩) G1)
end Go.Proofs.YtldeiapikkebgaaGreatDoor

/- Constituents' texts: what is read prints as it was, what is printed is read as it was. Nothing here speaks of the program. -/
namespace Go.Proofs.YtldeiapikkebgaaGreatDoor
open Go.RowKit Go.Lib
set_option linter.unusedVariables false
set_option linter.unusedSimpArgs false

theorem zmag (n : Nat) (hn : n < 9223372036854775808) : parseMag (decDigits n) = .ok n := by
  obtain ⟨ha, hne⟩ := zdec_all n
  have hp := zpum n [] (by omega)
  rw [List.append_nil] at hp
  have hp' : parseUint10 0 (decDigits n) = .ok n := hp
  unfold parseMag
  rw [if_neg (by simpa using hne)]
  exact hp'
theorem zitoa_short (v : Int) (h0 : -1000 ≤ v) (h1 : v ≤ 1000) : (itoa v).length ≤ 5 := by
  unfold itoa
  split
  · rw [List.length_cons, decDigits_length]
    have := zdig_short (n := v.natAbs) (k := 3) (by omega)
    omega
  · rw [decDigits_length]
    have := zdig_short (n := v.toNat) (k := 3) (by omega)
    omega
theorem tnum_text {l : List UInt8} (h : tnumOk l = true) : itoa (tnumV l) = l := by
  have h' := h
  unfold tnumOk at h
  unfold tnumV
  rw [if_pos h']
  cases hp : atoiAll l with
  | ok v => rw [hp] at h; simp at h; exact h.2
  | «syntax» => rw [hp] at h; simp at h
  | range => rw [hp] at h; simp at h
theorem tword_nil : tword [] = [] := by decide
theorem tnum_nil : tnumOk [] = false := by decide
end Go.Proofs.YtldeiapikkebgaaGreatDoor

/- The document's Decimal of layer 13: a number's text. -/
namespace Go.Proofs.YtldeiapikkebgaaGreatDoor
open Go.RowKit Go.Lib
set_option linter.unusedVariables false
set_option linter.unusedSimpArgs false

theorem qbytes_app (a b : List UInt8) : ((⟨a.toArray⟩ : ByteArray) ++ (⟨b.toArray⟩ : ByteArray)) = ⟨(a ++ b).toArray⟩ := by
  apply ByteArray.ext
  simp [ByteArray.data_append]
theorem qcv (V : World) (g n : Nat) (h : n < 10) (hc : V.cell? ⟨g, 0, none⟩ = some (.int .u8 (48 + (n : Int)))) : (convert 75 9 (.slice (some ⟨g, 0, none⟩) 1 1)).run Tryz.prog V = .ok (.string ⟨#[UInt8.ofNat (48 + n)]⟩) V := by
  refine run_convert_bytes_back V 75 9 5 ⟨g, 0, none⟩ 1 [UInt8.ofNat (48 + n)] Tryz.underlying75 Tryz.underlying5 Tryz.underlying9 (fun j hj => ?_)
  obtain rfl : j = 0 := by simp at hj; exact hj
  have e : ((UInt8.ofNat (48 + n)).toNat : Int) = 48 + (n : Int) := by rw [zdigit_nat n h]; omega
  show V.cell? ⟨g, 0, none⟩ = some (Value.int .u8 ((UInt8.ofNat (48 + n)).toNat : Int))
  rw [hc, e]
set_option maxHeartbeats 800000 in
set_option maxRecDepth 100000 in
theorem dDec_small (n : Nat) (w : World) (h : n < 10) :
    Calls Tryz.prog 21 #[.int .i64 (n : Int)] w fun e w' => e = .returned (.string ⟨(decDigits n).toArray⟩) ∧ Below w.heap.size w w' := by
  rw [zdig_one h]
  have h0 : ¬ (n : Int) < 0 := by omega
  have h1 : (n : Int) < 10 := by omega
  have x1 : IntKind.i64.wrap (48 + (n : Int)) = 48 + (n : Int) := by rw [IntKind.wrap_i64]; omega
  have x2 : IntKind.u8.wrap (48 + (n : Int)) = 48 + (n : Int) := by rw [IntKind.wrap_u8]; omega
  have HB : Hid (Below w.heap.size w (w.alloc (.cells #[.int .u8 (48 + (n : Int))] 5))) := alloc_later _ _
  have hcv := qcv (w.alloc (.cells #[.int .u8 (48 + (n : Int))] 5)) w.heap.size n h ((Box.made w 5 #[.int .u8 (48 + (n : Int))]).cell 0)
  obtain ⟨B, hB⟩ : ∃ B, UInt8.ofNat (48 + n) = B := ⟨_, rfl⟩
  rw [hB] at hcv ⊢
  clear hB
  go_enter Tryz.func21, Tryz.ntmps21
  go_wp2_with fail
  go_ret
  exact ⟨rfl, HB.out⟩
set_option maxHeartbeats 1600000 in
set_option maxRecDepth 100000 in
theorem dDec_nat (n : Nat) (w : World) (h : n < 9223372036854775808) :
    Calls Tryz.prog 21 #[.int .i64 (n : Int)] w fun e w' => e = .returned (.string ⟨(decDigits n).toArray⟩) ∧ Below w.heap.size w w' := by
  by_cases h1 : n < 10
  · exact dDec_small n w h1
  · have H1 := hid (fun V => dDec_nat (n / 10) V (by omega))
    have HE := hid (zdig_more h1)
    have h0 : ¬ (n : Int) < 0 := by omega
    have h2 : ¬ (n : Int) < 10 := by omega
    have hb : n % 10 < 10 := by omega
    have e1 : (n : Int) / 10 = ((n / 10 : Nat) : Int) := rfl
    have e2 : (n : Int) % 10 = ((n % 10 : Nat) : Int) := rfl
    have e3 : Int.tdiv (n : Int) 10 = ((n / 10 : Nat) : Int) := rfl
    have e4 : Int.tmod (n : Int) 10 = ((n % 10 : Nat) : Int) := rfl
    have hl1 : (decDigits (n / 10)).length ≤ 20 := by rw [decDigits_length]; exact nDigits_le20 _ (by omega)
    have xa : IntKind.i64.wrap ((n / 10 : Nat) : Int) = ((n / 10 : Nat) : Int) := by rw [IntKind.wrap_i64]; omega
    generalize n / 10 = a at *
    generalize n % 10 = b at *
    have x1 : IntKind.i64.wrap (48 + (b : Int)) = 48 + (b : Int) := by rw [IntKind.wrap_i64]; omega
    have x2 : IntKind.u8.wrap (48 + (b : Int)) = 48 + (b : Int) := by rw [IntKind.wrap_u8]; omega
    have HCV := hid (fun V g => qcv V g b hb)
    have HJ : Hid ((⟨(decDigits a).toArray⟩ : ByteArray) ++ (⟨#[UInt8.ofNat (48 + b)]⟩ : ByteArray) = ⟨(decDigits n).toArray⟩) := by
      show _ = _
      rw [HE.out]
      exact qbytes_app _ [UInt8.ofNat (48 + b)]
    obtain ⟨B, hB⟩ : ∃ B, UInt8.ofNat (48 + b) = B := ⟨_, rfl⟩
    rw [hB] at HCV HJ
    clear hB HE
    have hsm : ¬ 9223372036854775807 < (decDigits a).length + 1 := by omega
    have hbz : (⟨#[B]⟩ : ByteArray).size = 1 := rfl
    have hcz : (⟨(decDigits a).toArray⟩ : ByteArray).size ≤ 20 := by show (decDigits a).toArray.size ≤ 20; simpa using hl1
    have hcv0 := HCV.out (w.alloc (.cells #[.int .u8 (48 + (b : Int))] 5)).drew w.heap.size ((Box.made w 5 #[.int .u8 (48 + (b : Int))]).cell 0)
    have hcv0b := HCV.out (w.drew.alloc (.cells #[.int .u8 (48 + (b : Int))] 5)) w.heap.size ((Box.made w.drew 5 #[.int .u8 (48 + (b : Int))]).cell 0)
    have hcv0c := HCV.out (w.alloc (.cells #[.int .u8 (48 + (b : Int))] 5)) w.heap.size ((Box.made w 5 #[.int .u8 (48 + (b : Int))]).cell 0)
    have hd0 := hid (Below.refl w.heap.size w)
    go_enter Tryz.func21, Tryz.ntmps21
    go_wp2_with fail
    go_region_law (first
      | (go_simp; go_at_call 21; (with_reducible refine Calls.mono (H1.out _) ?_); rintro e w1 ⟨rfl, hb1'⟩; (first | (have hb1 := hid (bt hd0.out.drew hb1')) | (have hb1 := hid (bt (bel_al hd0.out _).drew hb1'); have HC1 := hid ((Box.made w 5 #[.int .u8 (48 + (b : Int))]).drewN 1); have hcv1 := HCV.out w1 w.heap.size ((HC1.out.later hb1' HC1.out.lt).cell 0))); have hcv1a := HCV.out (w1.alloc (.cells #[.int .u8 (48 + (b : Int))] 5)) w1.heap.size ((Box.made w1 5 #[.int .u8 (48 + (b : Int))]).cell 0); have HB1 := hid hb1.out; have HB1a := hid (bel_al hb1.out (.cells #[.int .u8 (48 + (b : Int))] 5)); dsimp only))
    all_goals
      go_wp2_with fail
      go_ret
      rw [HJ.out]
      first | exact ⟨rfl, HB1.out⟩ | exact ⟨rfl, HB1a.out⟩
termination_by n
decreasing_by omega
end Go.Proofs.YtldeiapikkebgaaGreatDoor

/- package tide: Parse, of any text. -/
namespace Go.Proofs.YtldeiapikkebgaaGreatDoor
open Go.RowKit Go.Lib
set_option linter.unusedVariables false
set_option linter.unusedSimpArgs false

set_option maxHeartbeats 6400000 in
set_option maxRecDepth 100000 in
theorem tParse_any (s : ByteArray) (w : World) (hm : s.size ≤ 281474976710656) (htab : Tab w) (herr : ErrT w) : Calls Tryz.prog 8 #[.string s] w (TToldC w (tpE s) (gplong (trest (trest (trest s.data.toList)))) (tword s.data.toList) (tnumV (tword (trest s.data.toList))) (tnumV (tword (trest (trest s.data.toList)))) (rpq (gp1 (trest (trest (trest s.data.toList))))) (rpq (gp2 (trest (trest (trest s.data.toList)))))) := by
  by_cases hs : 65536 < s.size
  · rw [tpE_long hs]
    exact tParse_long s w hs hm _ _ _ _ _ _
  have HX := hid (Box.made w 30 #[.string ⟨#[]⟩, .int .i32 0, .int .i32 0, .bool false, .slice none 0 0, .slice none 0 0, .bool false, .slice none 0 0, .slice none 0 0])
  have HB := hid (alloc_later w (.cells #[.string ⟨#[]⟩, .int .i32 0, .int .i32 0, .bool false, .slice none 0 0, .slice none 0 0, .bool false, .slice none 0 0, .slice none 0 0] 30))
  obtain ⟨X, hX⟩ : ∃ X, w.alloc (.cells #[.string ⟨#[]⟩, .int .i32 0, .int .i32 0, .bool false, .slice none 0 0, .slice none 0 0, .bool false, .slice none 0 0, .slice none 0 0] 30) = X := ⟨_, rfl⟩
  rw [hX] at HX HB
  have hs' : ¬ (65536 : Int) < (s.size : Int) := by omega
  have HEG : Hid (tgood s.data.toList → tpE s = ochk (tnumV (tword (trest s.data.toList))) (tnumV (tword (trest (trest s.data.toList))))) := tpE_good (by omega)
  have HEB : Hid (¬ tgood s.data.toList → tpE s = 230) := tpE_bad (by omega)
  have HGD : Hid (tgood s.data.toList ↔ tname (tword s.data.toList) = true ∧ tnumOk (tword (trest s.data.toList)) = true ∧ tnumOk (tword (trest (trest s.data.toList))) = true ∧ ggood (trest (trest (trest s.data.toList)))) := Iff.rfl
  have hl : s.data.toList.length = s.size := Array.length_toList
  have e1 : ∀ l, (tword l).length ≤ l.length ∧ (trest l).length ≤ l.length := fun l => zcut_len l 32
  have H1 : Hid (∀ V, Calls Tryz.prog 22 #[.string s, .string ⟨#[32]⟩] V fun e w' => ∃ fd, e = .returned (.tuple #[.string ⟨(tword s.data.toList).toArray⟩, .string ⟨(trest s.data.toList).toArray⟩, .bool fd]) ∧ Below V.heap.size V w') := fun V => Calls.mono (zcut_any s 32 V hm) (by rintro e w' ⟨h1, h2⟩; exact ⟨_, h1, h2⟩)
  have HCU : ∀ l : List UInt8, l.length ≤ 65536 → ∀ V, Calls Tryz.prog 22 #[.string ⟨l.toArray⟩, .string ⟨#[32]⟩] V fun e w' => ∃ fd, e = .returned (.tuple #[.string ⟨(tword l).toArray⟩, .string ⟨(trest l).toArray⟩, .bool fd]) ∧ Below V.heap.size V w' := fun l hl V => by
    have hz : (⟨l.toArray⟩ : ByteArray).size ≤ 281474976710656 := by show l.toArray.size ≤ _; simp; omega
    have h := zcut_any ⟨l.toArray⟩ 32 V hz
    have e : (⟨l.toArray⟩ : ByteArray).data.toList = l := by simp
    rw [e] at h
    exact Calls.mono h (by rintro e w' ⟨h1, h2⟩; exact ⟨_, h1, h2⟩)
  generalize s.data.toList = l0 at *
  have z1 := e1 l0
  have z2 := e1 (trest l0)
  have z3 := e1 (trest (trest l0))
  have H2 := hid (HCU (trest l0) (by omega))
  have H3 := hid (HCU (trest (trest l0)) (by omega))
  have HRR : Hid (∀ V, Below w.heap.size w V → Calls Tryz.prog 23 #[.string ⟨(tword (trest l0)).toArray⟩, .string ⟨(tword (trest (trest l0))).toArray⟩] V fun e w' => e = .returned (.tuple #[.agg #[.int .i32 (tnumV (tword (trest l0))), .int .i32 (tnumV (tword (trest (trest l0))))], .bool (tnumOk (tword (trest l0)) && tnumOk (tword (trest (trest l0))))]) ∧ Below V.heap.size V w') := fun V hv => by
    have h := treadRotor_any ⟨(tword (trest l0)).toArray⟩ ⟨(tword (trest (trest l0))).toArray⟩ V (by show (tword (trest l0)).toArray.size ≤ _; simp; omega) (by show (tword (trest (trest l0))).toArray.size ≤ _; simp; omega) (htab.later hv) (herr.later hv)
    have q1 : (⟨(tword (trest l0)).toArray⟩ : ByteArray).data.toList = tword (trest l0) := by simp
    have q2 : (⟨(tword (trest (trest l0))).toArray⟩ : ByteArray).data.toList = tword (trest (trest l0)) := by simp
    rw [q1, q2] at h
    exact h
  have hsz3 : (⟨(trest (trest (trest l0))).toArray⟩ : ByteArray).size ≤ 65536 := by show (trest (trest (trest l0))).toArray.size ≤ _; simp; omega
  have q3 : (⟨(trest (trest (trest l0))).toArray⟩ : ByteArray).data.toList = trest (trest (trest l0)) := by simp
  have HGP : Hid (∀ V, Calls Tryz.prog 24 #[.string ⟨(trest (trest (trest l0))).toArray⟩] V (GToldC V (gpE ⟨(trest (trest (trest l0))).toArray⟩) (gplong (trest (trest (trest l0)))) (rpq (gp1 (trest (trest (trest l0))))) (rpq (gp2 (trest (trest (trest l0))))))) := fun V => by
    have h := gParse_any ⟨(trest (trest (trest l0))).toArray⟩ V (by omega)
    rw [q3] at h
    exact h
  have HGO : Hid (∀ {n m : Bool} {xs ys us vs : List Int} {code : Int}, GTells (gpE ⟨(trest (trest (trest l0))).toArray⟩) (gplong (trest (trest (trest l0)))) (rpq (gp1 (trest (trest (trest l0))))) (rpq (gp2 (trest (trest (trest l0))))) n xs ys m us vs code → (code = 140 ∧ ¬ ggood (trest (trest (trest l0)))) ∨ (ggood (trest (trest (trest l0))) ∧ gplong (trest (trest (trest l0))) ∧ code = 3) ∨ (ggood (trest (trest (trest l0))) ∧ ¬ gplong (trest (trest (trest l0))) ∧ code = 0 ∧ GTells 0 (gplong (trest (trest (trest l0)))) (rpq (gp1 (trest (trest (trest l0))))) (rpq (gp2 (trest (trest (trest l0))))) n xs ys m us vs 0)) := fun h => by
    have := gpar_or hsz3 h
    rw [q3] at this
    exact this
  have HNM : Hid (∀ V, Calls Tryz.prog 25 #[.string ⟨(tword l0).toArray⟩] V fun e w' => e = .returned (.bool (tname (tword l0))) ∧ V = w') := fun V => by
    have h := tName_any ⟨(tword l0).toArray⟩ V (by show (tword l0).toArray.size ≤ _; simp; omega)
    have q1 : (⟨(tword l0).toArray⟩ : ByteArray).data.toList = tword l0 := by simp
    rw [q1] at h
    exact h
  have HCL : Hid (∀ V, Calls Tryz.prog 27 #[.string ⟨(tword l0).toArray⟩] V fun e w' => e = .returned (.string ⟨(tword l0).toArray⟩) ∧ Below V.heap.size V w') := fun V => tclone_any _ V (by show (tword l0).toArray.size ≤ _; simp; omega)
  have HWD : Hid ((⟨(tword l0).toArray⟩ : ByteArray).data.toList = tword l0) := by show _ = _; simp
  have i1 := tnumV_in (tword (trest l0))
  have i2 := tnumV_in (tword (trest (trest l0)))
  have HOC : Hid (∀ V, Calls Tryz.prog 26 #[.agg #[.int .i32 (tnumV (tword (trest l0))), .int .i32 (tnumV (tword (trest (trest l0))))]] V fun e w' => e = .returned (.int .i64 (ochk (tnumV (tword (trest l0))) (tnumV (tword (trest (trest l0)))))) ∧ Below V.heap.size V w') := fun V => ocheck_any _ _ V ⟨by omega, by omega⟩
  generalize tpE s = E at *
  generalize tgood l0 = TG at *
  generalize gplong (trest (trest (trest l0))) = GL at *
  generalize rpq (gp1 (trest (trest (trest l0)))) = q1 at *
  generalize rpq (gp2 (trest (trest (trest l0)))) = q2 at *
  generalize gpE ⟨(trest (trest (trest l0))).toArray⟩ = GE at *
  generalize ggood (trest (trest (trest l0))) = GG at *
  generalize (⟨(trest (trest (trest l0))).toArray⟩ : ByteArray) = B3 at *
  generalize ochk (tnumV (tword (trest l0))) (tnumV (tword (trest (trest l0)))) = OC at *
  generalize tnumV (tword (trest l0)) = F at *
  generalize tnumV (tword (trest (trest l0))) = R at *
  generalize tnumOk (tword (trest l0)) = N1 at *
  generalize tnumOk (tword (trest (trest l0))) = N2 at *
  generalize tname (tword l0) = NM at *
  generalize (⟨(tword (trest l0)).toArray⟩ : ByteArray) = C1 at *
  generalize (⟨(tword (trest (trest l0))).toArray⟩ : ByteArray) = C2 at *
  generalize (⟨(trest (trest l0)).toArray⟩ : ByteArray) = B2 at *
  generalize (⟨(trest l0).toArray⟩ : ByteArray) = B1 at *
  generalize (tword l0).toArray = A1 at *
  generalize tword l0 = l1 at *
  clear z1 z2 z3 e1 HCU htab herr hs q3 hsz3 hl
  go_enter Tryz.func8, Tryz.ntmps8
  go_wp2_with fail
  refine Calls.mono (H1.out _) ?_
  rintro e w1 ⟨d1, rfl, hb1⟩
  have HW1 := hid (bt HB.out hb1)
  have HR1 := hid (HX.out.later hb1 HX.out.lt)
  clear hb1 H1
  go_wp2_with fail
  refine Calls.mono (H2.out _) ?_
  rintro e w2 ⟨d2, rfl, hb2⟩
  have HW2 := hid (bt HW1.out hb2)
  have HR2 := hid (HR1.out.later hb2 HR1.out.lt)
  clear hb2 H2
  go_wp2_with fail
  refine Calls.mono (H3.out _) ?_
  rintro e w3 ⟨d3, rfl, hb3⟩
  have HW3 := hid (bt HW2.out hb3)
  have HR3 := hid (HR2.out.later hb3 HR2.out.lt)
  clear hb3 H3
  go_wp2_with fail
  refine Calls.mono (HRR.out _ HW3.out) ?_
  rintro e w4 ⟨rfl, hb4⟩
  have HN := hid (Box.made w4 23 #[.int .i32 F, .int .i32 R])
  have HNB := hid (alloc_later w4 (.cells #[.int .i32 F, .int .i32 R] 23))
  obtain ⟨Y4, hY4⟩ : ∃ Y4, w4.alloc (.cells #[.int .i32 F, .int .i32 R] 23) = Y4 := ⟨_, rfl⟩
  rw [hY4] at HN HNB
  have HW4 := hid (bt HW3.out (bt hb4 HNB.out))
  have HR4 := hid (HR3.out.later (bt hb4 HNB.out) HR3.out.lt)
  have h4Y : w4.heap.size < Y4.heap.size := HN.out.lt
  have hlt4 : w.heap.size < w4.heap.size := Nat.lt_of_lt_of_le HR3.out.lt hb4.size
  clear hb4 HRR
  go_wp2_with fail
  refine Calls.mono (HGP.out _) ?_
  rintro e w5 ⟨n, a, ca, xs, b, cb, ys, m, c, cc, us, d, cd, vs, code, rfl, hoo, ht, hb5, W1, hc1, hc2⟩
  have HM := hid (Box.made w5 28 #[.bool n, .slice a xs.length ca, .slice b ys.length cb, .bool m, .slice c us.length cc, .slice d vs.length cd])
  have HMB := hid (alloc_later w5 (.cells #[.bool n, .slice a xs.length ca, .slice b ys.length cb, .bool m, .slice c us.length cc, .slice d vs.length cd] 28))
  obtain ⟨Y5, hY5⟩ : ∃ Y5, w5.alloc (.cells #[.bool n, .slice a xs.length ca, .slice b ys.length cb, .bool m, .slice c us.length cc, .slice d vs.length cd] 28) = Y5 := ⟨_, rfl⟩
  rw [hY5] at HM HMB
  have hb5' : Below Y4.heap.size Y4 Y5 := bt hb5 HMB.out
  have hlt5 : w.heap.size < w5.heap.size := Nat.lt_of_lt_of_le HR4.out.lt hb5.size
  have HW5 := hid (bt HW4.out hb5')
  have HR5 := hid (HR4.out.later hb5' HR4.out.lt)
  have HN5 := hid (HN.out.later hb5' HN.out.lt)
  have HOO := hid (And.intro (owns_later hoo.1 HMB.out) (And.intro (owns_later hoo.2.1 HMB.out) (And.intro (owns_later hoo.2.2.1 HMB.out) (owns_later hoo.2.2.2 HMB.out))))
  have HCC : Hid (∃ W1, Cut Y4 (.slice a xs.length ca) (.slice b ys.length cb) W1 ∧ Cut W1 (.slice c us.length cc) (.slice d vs.length cd) Y5) := ⟨W1, hc1, hc2.up (Nat.le_refl _) HMB.out.size⟩
  have HTO := hid (HGO.out ht)
  clear hoo hc1 hc2 ht hb5 hb5' HGP HGO
  have m0 : Y5.cell? ⟨w.heap.size, 0, none⟩ = some (.string ⟨#[]⟩) := HR5.out.cell 0
  have m1 : Y5.cell? ⟨w.heap.size, 1, none⟩ = some (.int .i32 0) := HR5.out.cell 1
  have m2 : Y5.cell? ⟨w.heap.size, 2, none⟩ = some (.int .i32 0) := HR5.out.cell 2
  have m3 : Y5.cell? ⟨w.heap.size, 3, none⟩ = some (.bool false) := HR5.out.cell 3
  have m4 : Y5.cell? ⟨w.heap.size, 4, none⟩ = some (.slice none 0 0) := HR5.out.cell 4
  have m5 : Y5.cell? ⟨w.heap.size, 5, none⟩ = some (.slice none 0 0) := HR5.out.cell 5
  have m6 : Y5.cell? ⟨w.heap.size, 6, none⟩ = some (.bool false) := HR5.out.cell 6
  have m7 : Y5.cell? ⟨w.heap.size, 7, none⟩ = some (.slice none 0 0) := HR5.out.cell 7
  have m8 : Y5.cell? ⟨w.heap.size, 8, none⟩ = some (.slice none 0 0) := HR5.out.cell 8
  have f0 := HR5.out.free 0
  have f1 := HR5.out.free 1
  have f2 := HR5.out.free 2
  have f3 := HR5.out.free 3
  have f4 := HR5.out.free 4
  have f5 := HR5.out.free 5
  have f6 := HR5.out.free 6
  have f7 := HR5.out.free 7
  have f8 := HR5.out.free 8
  cases NM with
  | false =>
    have HE := hid (HEB.out (fun h => by have := (HGD.out.1 h).1; cases this))
    clear HTO
    go_wp2_with fail
    refine Calls.mono (HNM.out _) ?_
    rintro e w6 ⟨rfl, rfl⟩
    go_wp2_with fail
    have B1 := box_put9 HR5.out (.string ⟨#[]⟩) (.int .i32 0) (.int .i32 0) (.bool false) (.slice none 0 0) (.slice none 0 0) (.bool false) (.slice none 0 0) (.slice none 0 0)
    have G1 := below_put9 HW5.out w.heap.size (Nat.le_refl _) (.string ⟨#[]⟩) (.int .i32 0) (.int .i32 0) (.bool false) (.slice none 0 0) (.slice none 0 0) (.bool false) (.slice none 0 0) (.slice none 0 0)
    clear m0 m1 m2 m3 m4 m5 m6 m7 m8 f0 f1 f2 f3 f4 f5 f6 f7 f8
    exact bodyPost_ret (tres_run (by rfl) B1 _ rfl) rfl (ttoldc_zero (E := E) (.inl ⟨by rw [HE.out]; decide, HE.out.symm⟩) G1)
  | true =>
    by_cases hN : (N1 && N2) = false
    · have HE := hid (HEB.out (fun h => by have h1 := (HGD.out.1 h).2.1; have h2 := (HGD.out.1 h).2.2.1; rw [h1, h2] at hN; cases hN))
      rw [hN]
      clear HTO
      go_wp2_with fail
      refine Calls.mono (HNM.out _) ?_
      rintro e w6 ⟨rfl, rfl⟩
      go_wp2_with fail
      have B1 := box_put9 HR5.out (.string ⟨#[]⟩) (.int .i32 0) (.int .i32 0) (.bool false) (.slice none 0 0) (.slice none 0 0) (.bool false) (.slice none 0 0) (.slice none 0 0)
      have G1 := below_put9 HW5.out w.heap.size (Nat.le_refl _) (.string ⟨#[]⟩) (.int .i32 0) (.int .i32 0) (.bool false) (.slice none 0 0) (.slice none 0 0) (.bool false) (.slice none 0 0) (.slice none 0 0)
      clear m0 m1 m2 m3 m4 m5 m6 m7 m8 f0 f1 f2 f3 f4 f5 f6 f7 f8
      exact bodyPost_ret (tres_run (by rfl) B1 _ rfl) rfl (ttoldc_zero (E := E) (.inl ⟨by rw [HE.out]; decide, HE.out.symm⟩) G1)
    · have hN' : (N1 && N2) = true := by simpa using hN
      rw [hN']
      have HNN : Hid (N1 = true ∧ N2 = true) := by show _ ∧ _; simpa using hN'
      clear hN hN'
      rcases HTO.out with ⟨rfl, hg⟩ | ⟨hg, hL, rfl⟩ | ⟨hg, hL, rfl, ht⟩
      · have HE := hid (HEB.out (fun h => hg (HGD.out.1 h).2.2.2))
        clear HTO hg
        go_wp2_with fail
        refine Calls.mono (HNM.out _) ?_
        rintro e w6 ⟨rfl, rfl⟩
        go_wp2_with fail
        have B1 := box_put9 HR5.out (.string ⟨#[]⟩) (.int .i32 0) (.int .i32 0) (.bool false) (.slice none 0 0) (.slice none 0 0) (.bool false) (.slice none 0 0) (.slice none 0 0)
        have G1 := below_put9 HW5.out w.heap.size (Nat.le_refl _) (.string ⟨#[]⟩) (.int .i32 0) (.int .i32 0) (.bool false) (.slice none 0 0) (.slice none 0 0) (.bool false) (.slice none 0 0) (.slice none 0 0)
        clear m0 m1 m2 m3 m4 m5 m6 m7 m8 f0 f1 f2 f3 f4 f5 f6 f7 f8
        exact bodyPost_ret (tres_run (by rfl) B1 _ rfl) rfl (ttoldc_zero (E := E) (.inl ⟨by rw [HE.out]; decide, HE.out.symm⟩) G1)
      · have HE := hid (HEG.out (HGD.out.2 ⟨rfl, HNN.out.1, HNN.out.2, hg⟩))
        have HL := hid hL
        clear HTO hg hL
        go_wp2_with fail
        refine Calls.mono (HNM.out _) ?_
        rintro e w6 ⟨rfl, rfl⟩
        have r0 : Y5.cell? ⟨w4.heap.size, 0, none⟩ = some (.int .i32 F) := HN5.out.cell 0
        have r1 : Y5.cell? ⟨w4.heap.size, 1, none⟩ = some (.int .i32 R) := HN5.out.cell 1
        go_wp2_with fail
        refine Calls.mono (HOC.out _) ?_
        rintro e w6 ⟨rfl, hb6⟩
        have HW6 := hid (bt HW5.out hb6)
        have HR6 := hid (HR5.out.later hb6 HR5.out.lt)
        clear hb6 r0 r1 HOC m0 m1 m2 m3 m4 m5 m6 m7 m8 f0 f1 f2 f3 f4 f5 f6 f7 f8
        have m0 : w6.cell? ⟨w.heap.size, 0, none⟩ = some (.string ⟨#[]⟩) := HR6.out.cell 0
        have m1 : w6.cell? ⟨w.heap.size, 1, none⟩ = some (.int .i32 0) := HR6.out.cell 1
        have m2 : w6.cell? ⟨w.heap.size, 2, none⟩ = some (.int .i32 0) := HR6.out.cell 2
        have m3 : w6.cell? ⟨w.heap.size, 3, none⟩ = some (.bool false) := HR6.out.cell 3
        have m4 : w6.cell? ⟨w.heap.size, 4, none⟩ = some (.slice none 0 0) := HR6.out.cell 4
        have m5 : w6.cell? ⟨w.heap.size, 5, none⟩ = some (.slice none 0 0) := HR6.out.cell 5
        have m6 : w6.cell? ⟨w.heap.size, 6, none⟩ = some (.bool false) := HR6.out.cell 6
        have m7 : w6.cell? ⟨w.heap.size, 7, none⟩ = some (.slice none 0 0) := HR6.out.cell 7
        have m8 : w6.cell? ⟨w.heap.size, 8, none⟩ = some (.slice none 0 0) := HR6.out.cell 8
        have f0 := HR6.out.free 0
        have f1 := HR6.out.free 1
        have f2 := HR6.out.free 2
        have f3 := HR6.out.free 3
        have f4 := HR6.out.free 4
        have f5 := HR6.out.free 5
        have f6 := HR6.out.free 6
        have f7 := HR6.out.free 7
        have f8 := HR6.out.free 8
        by_cases hO : OC = 0
        · subst hO
          go_wp2_with fail
          have B1 := box_put9 HR6.out (.string ⟨#[]⟩) (.int .i32 0) (.int .i32 0) (.bool false) (.slice none 0 0) (.slice none 0 0) (.bool false) (.slice none 0 0) (.slice none 0 0)
          have G1 := below_put9 HW6.out w.heap.size (Nat.le_refl _) (.string ⟨#[]⟩) (.int .i32 0) (.int .i32 0) (.bool false) (.slice none 0 0) (.slice none 0 0) (.bool false) (.slice none 0 0) (.slice none 0 0)
          clear m0 m1 m2 m3 m4 m5 m6 m7 m8 f0 f1 f2 f3 f4 f5 f6 f7 f8
          exact bodyPost_ret (tres_run (by rfl) B1 _ rfl) rfl (ttoldc_zero (E := E) (.inr ⟨HE.out, HL.out, rfl⟩) G1)
        · have hO' : (OC == 0) = false := by simp [hO]
          have hO2 : (OC != 0) = true := by simp [hO]
          go_wp2_with fail
          have B1 := box_put9 HR6.out (.string ⟨#[]⟩) (.int .i32 0) (.int .i32 0) (.bool false) (.slice none 0 0) (.slice none 0 0) (.bool false) (.slice none 0 0) (.slice none 0 0)
          have G1 := below_put9 HW6.out w.heap.size (Nat.le_refl _) (.string ⟨#[]⟩) (.int .i32 0) (.int .i32 0) (.bool false) (.slice none 0 0) (.slice none 0 0) (.bool false) (.slice none 0 0) (.slice none 0 0)
          clear m0 m1 m2 m3 m4 m5 m6 m7 m8 f0 f1 f2 f3 f4 f5 f6 f7 f8
          exact bodyPost_ret (tres_run (by rfl) B1 _ rfl) rfl (ttoldc_zero (E := E) (.inl ⟨by rw [HE.out]; exact hO, HE.out.symm⟩) G1)
      · have HE := hid (HEG.out (HGD.out.2 ⟨rfl, HNN.out.1, HNN.out.2, hg⟩))
        have HT := hid ht
        have HL := hid hL
        clear HTO hg hL ht
        go_wp2_with fail
        refine Calls.mono (HNM.out _) ?_
        rintro e w6 ⟨rfl, rfl⟩
        have r0 : Y5.cell? ⟨w4.heap.size, 0, none⟩ = some (.int .i32 F) := HN5.out.cell 0
        have r1 : Y5.cell? ⟨w4.heap.size, 1, none⟩ = some (.int .i32 R) := HN5.out.cell 1
        go_wp2_with fail
        refine Calls.mono (HOC.out _) ?_
        rintro e w6 ⟨rfl, hb6⟩
        have HW6 := hid (bt HW5.out hb6)
        have HR6 := hid (HR5.out.later hb6 HR5.out.lt)
        have HN6 := hid (HN5.out.later hb6 HN5.out.lt)
        have HM6 := hid (HM.out.later hb6 HM.out.lt)
        have HO6 := hid (And.intro (owns_later HOO.out.1 hb6) (And.intro (owns_later HOO.out.2.1 hb6) (And.intro (owns_later HOO.out.2.2.1 hb6) (owns_later HOO.out.2.2.2 hb6))))
        have HC6 : Hid (∃ W1, Cut Y4 (.slice a xs.length ca) (.slice b ys.length cb) W1 ∧ Cut W1 (.slice c us.length cc) (.slice d vs.length cd) w6) := by
          obtain ⟨W1, h1, h2⟩ := HCC.out
          exact ⟨W1, h1, h2.up (Nat.le_refl _) hb6.size⟩
        clear hb6 r0 r1 HOC m0 m1 m2 m3 m4 m5 m6 m7 m8 f0 f1 f2 f3 f4 f5 f6 f7 f8
        by_cases hO : OC = 0
        · subst hO
          have HK : Hid (∀ V, Box V w4.heap.size 23 #[.int .i32 F, .int .i32 R] → Box V w5.heap.size 28 #[.bool n, .slice a xs.length ca, .slice b ys.length cb, .bool m, .slice c us.length cc, .slice d vs.length cd] → V.cell? ⟨w4.heap.size, 0, none⟩ = some (.int .i32 F) ∧ V.cell? ⟨w4.heap.size, 1, none⟩ = some (.int .i32 R) ∧ V.cell? ⟨w5.heap.size, 0, none⟩ = some (.bool n) ∧ V.cell? ⟨w5.heap.size, 1, none⟩ = some (.slice a xs.length ca) ∧ V.cell? ⟨w5.heap.size, 2, none⟩ = some (.slice b ys.length cb) ∧ V.cell? ⟨w5.heap.size, 3, none⟩ = some (.bool m) ∧ V.cell? ⟨w5.heap.size, 4, none⟩ = some (.slice c us.length cc) ∧ V.cell? ⟨w5.heap.size, 5, none⟩ = some (.slice d vs.length cd)) := fun V h1 h2 => ⟨h1.cell 0, h1.cell 1, h2.cell 0, h2.cell 1, h2.cell 2, h2.cell 3, h2.cell 4, h2.cell 5⟩
          have hs0 := HK.out w6.drew HN6.out HM6.out
          have hd0 := hid (Below.refl w6.heap.size w6).drew
          have HC7 : Hid (∀ V, Below w6.heap.size w6 V → Calls Tryz.prog 27 #[.string ⟨A1⟩] V fun e w' => e = .returned (.string ⟨A1⟩) ∧ Below w6.heap.size w6 w') := fun V hv => Calls.mono (HCL.out V) (by rintro e w' ⟨h1, h2⟩; exact ⟨h1, bt hv h2⟩)
          go_wp2_with fail
          go_region_held3 (fun V : World => V.cell? ⟨w4.heap.size, 0, none⟩ = some (.int .i32 F) ∧ V.cell? ⟨w4.heap.size, 1, none⟩ = some (.int .i32 R) ∧ V.cell? ⟨w5.heap.size, 0, none⟩ = some (.bool n) ∧ V.cell? ⟨w5.heap.size, 1, none⟩ = some (.slice a xs.length ca) ∧ V.cell? ⟨w5.heap.size, 2, none⟩ = some (.slice b ys.length cb) ∧ V.cell? ⟨w5.heap.size, 3, none⟩ = some (.bool m) ∧ V.cell? ⟨w5.heap.size, 4, none⟩ = some (.slice c us.length cc) ∧ V.cell? ⟨w5.heap.size, 5, none⟩ = some (.slice d vs.length cd)) (first | exact hs9 | exact hs1 | exact hs0)
            ((go_at_call 27; (with_reducible refine Calls.mono (HC7.out _ hd0.out) ?_); rintro e w7 ⟨rfl, hb7⟩; have hs1 := HK.out _ (HN6.out.later hb7 HN6.out.lt) (HM6.out.later hb7 HM6.out.lt); have HQ := hid (HR6.out.later hb7 HR6.out.lt); obtain ⟨A0, A1, A2, A3, A4, A5, A6, A7, A8, hA0, hA1, hA2, hA3, hA4, hA5, hA6, hA7, hA8, ⟨q0_, q1_, q2_, q3_, q4_, q5_, q6_, q7_, q8_⟩, p0_, p1_, p2_, p3_, p4_, p5_, p6_, p7_, p8_⟩ := tchain9 HQ.out (.string ⟨A1⟩) (.int .i32 F) (.int .i32 R) (.bool n) (.slice a xs.length ca) (.slice b ys.length cb) (.bool m) (.slice c us.length cc) (.slice d vs.length cd); have hs9 := HK.out A8 (tchain_far (HN6.out.later hb7 HN6.out.lt) (Nat.ne_of_gt hlt4) hA0 hA1 hA2 hA3 hA4 hA5 hA6 hA7 hA8) (tchain_far (HM6.out.later hb7 HM6.out.lt) (Nat.ne_of_gt hlt5) hA0 hA1 hA2 hA3 hA4 hA5 hA6 hA7 hA8)))
          all_goals
            have HW7 := hid (bt HW6.out hb7)
            have HO7 := hid (And.intro (owns_later HO6.out.1 hb7) (And.intro (owns_later HO6.out.2.1 hb7) (And.intro (owns_later HO6.out.2.2.1 hb7) (owns_later HO6.out.2.2.2 hb7))))
            have HC7' : Hid (∃ W1, Cut Y4 (.slice a xs.length ca) (.slice b ys.length cb) W1 ∧ Cut W1 (.slice c us.length cc) (.slice d vs.length cd) w7) := by
              obtain ⟨W1, h1, h2⟩ := HC6.out
              exact ⟨W1, h1, h2.up (Nat.le_refl _) hb7.size⟩
            clear hs0 hs1 hs9 hb7 HC7 HCL HK q0_ p0_ q1_ p1_ q2_ p2_ q3_ p3_ q4_ p4_ q5_ p5_ q6_ p6_ q7_ p7_ q8_ p8_
            subst hA0 hA1 hA2 hA3 hA4 hA5 hA6 hA7 hA8
            go_wp2_with fail
            have B1 := box_put9 HQ.out (.string ⟨A1⟩) (.int .i32 F) (.int .i32 R) (.bool n) (.slice a xs.length ca) (.slice b ys.length cb) (.bool m) (.slice c us.length cc) (.slice d vs.length cd)
            have G1 := below_put9 HW7.out w.heap.size (Nat.le_refl _) (.string ⟨A1⟩) (.int .i32 F) (.int .i32 R) (.bool n) (.slice a xs.length ca) (.slice b ys.length cb) (.bool m) (.slice c us.length cc) (.slice d vs.length cd)
            have hszY : w.heap.size ≤ Y4.heap.size := by omega
            have hput : ∀ {base k : Nat} {v : Value} {l : List Value}, w7.ownsRow base 94 1 v k l → (∀ g, v.ownBlock = some g → Y4.heap.size ≤ g) → (((((((((w7.setCell ⟨w.heap.size, 0, none⟩ (.string ⟨A1⟩)).setCell ⟨w.heap.size, 1, none⟩ (.int .i32 F)).setCell ⟨w.heap.size, 2, none⟩ (.int .i32 R)).setCell ⟨w.heap.size, 3, none⟩ (.bool n)).setCell ⟨w.heap.size, 4, none⟩ (.slice a xs.length ca)).setCell ⟨w.heap.size, 5, none⟩ (.slice b ys.length cb)).setCell ⟨w.heap.size, 6, none⟩ (.bool m)).setCell ⟨w.heap.size, 7, none⟩ (.slice c us.length cc)).setCell ⟨w.heap.size, 8, none⟩ (.slice d vs.length cd)).ownsRow base 94 1 v k l := fun h hb => own_put9 h _ (fun g hg => by have := hb g hg; omega) _ _ _ _ _ _ _ _ _
            refine bodyPost_ret (tres_run (by rfl) B1 _ rfl) rfl ?_
            obtain ⟨W1, hc1, hc2⟩ := HC7'.out
            refine ⟨⟨A1⟩, F, R, n, a, ca, xs, b, cb, ys, m, c, cc, us, d, cd, vs, 0, rfl, ⟨owns_base (hput HO7.out.1 (fun g hg => (HO7.out.1.lt g hg).1)) hszY, owns_base (hput HO7.out.2.1 (fun g hg => (HO7.out.2.1.lt g hg).1)) hszY, owns_base (hput HO7.out.2.2.1 (fun g hg => (HO7.out.2.2.1.lt g hg).1)) hszY, owns_base (hput HO7.out.2.2.2 (fun g hg => (HO7.out.2.2.2.lt g hg).1)) hszY⟩, ⟨by rw [HE.out]; exact HT.out, fun h => absurd rfl h, fun _ => ⟨HWD.out, rfl, rfl⟩⟩, G1, W1, hc1.up hszY (Nat.le_refl _), hc2.up (Nat.le_refl _) (by simp [World.setCell])⟩
        · have hO' : (OC == 0) = false := by simp [hO]
          have hO2 : (OC != 0) = true := by simp [hO]
          have m0 : w6.cell? ⟨w.heap.size, 0, none⟩ = some (.string ⟨#[]⟩) := HR6.out.cell 0
          have m1 : w6.cell? ⟨w.heap.size, 1, none⟩ = some (.int .i32 0) := HR6.out.cell 1
          have m2 : w6.cell? ⟨w.heap.size, 2, none⟩ = some (.int .i32 0) := HR6.out.cell 2
          have m3 : w6.cell? ⟨w.heap.size, 3, none⟩ = some (.bool false) := HR6.out.cell 3
          have m4 : w6.cell? ⟨w.heap.size, 4, none⟩ = some (.slice none 0 0) := HR6.out.cell 4
          have m5 : w6.cell? ⟨w.heap.size, 5, none⟩ = some (.slice none 0 0) := HR6.out.cell 5
          have m6 : w6.cell? ⟨w.heap.size, 6, none⟩ = some (.bool false) := HR6.out.cell 6
          have m7 : w6.cell? ⟨w.heap.size, 7, none⟩ = some (.slice none 0 0) := HR6.out.cell 7
          have m8 : w6.cell? ⟨w.heap.size, 8, none⟩ = some (.slice none 0 0) := HR6.out.cell 8
          have f0 := HR6.out.free 0
          have f1 := HR6.out.free 1
          have f2 := HR6.out.free 2
          have f3 := HR6.out.free 3
          have f4 := HR6.out.free 4
          have f5 := HR6.out.free 5
          have f6 := HR6.out.free 6
          have f7 := HR6.out.free 7
          have f8 := HR6.out.free 8
          go_wp2_with fail
          have B1 := box_put9 HR6.out (.string ⟨#[]⟩) (.int .i32 0) (.int .i32 0) (.bool false) (.slice none 0 0) (.slice none 0 0) (.bool false) (.slice none 0 0) (.slice none 0 0)
          have G1 := below_put9 HW6.out w.heap.size (Nat.le_refl _) (.string ⟨#[]⟩) (.int .i32 0) (.int .i32 0) (.bool false) (.slice none 0 0) (.slice none 0 0) (.bool false) (.slice none 0 0) (.slice none 0 0)
          clear m0 m1 m2 m3 m4 m5 m6 m7 m8 f0 f1 f2 f3 f4 f5 f6 f7 f8
          exact bodyPost_ret (tres_run (by rfl) B1 _ rfl) rfl (ttoldc_zero (E := E) (.inl ⟨by rw [HE.out]; exact hO, HE.out.symm⟩) G1)
end Go.Proofs.YtldeiapikkebgaaGreatDoor

/- Layer 13: the laws' example and awake: what the document's examples say. -/
namespace Go.Proofs.YtldeiapikkebgaaGreatDoor
open Go.RowKit Go.Lib
set_option linter.unusedVariables false
set_option linter.unusedSimpArgs false

end Go.Proofs.YtldeiapikkebgaaGreatDoor

/- Layer 13: the laws' awake: what the document's examples say. -/
namespace Go.Proofs.YtldeiapikkebgaaGreatDoor
open Go.RowKit Go.Lib
set_option linter.unusedVariables false
set_option linter.unusedSimpArgs false

end Go.Proofs.YtldeiapikkebgaaGreatDoor

/- Complex fractions: gauss.Scale: of any fraction and any one, good or refused; all four rows apart. -/
namespace Go.Proofs.YtldeiapikkebgaaGreatDoor
open Go.RowKit
set_option linter.unusedVariables false

end Go.Proofs.YtldeiapikkebgaaGreatDoor

/- Complex fractions that are good: what the calls tell of them, by their fractions. -/
namespace Go.Proofs.YtldeiapikkebgaaGreatDoor
open Go.RowKit
set_option linter.unusedVariables false
set_option linter.unusedSimpArgs false

theorem zdec_few {xs : List Int} (wx : Wd xs) {k : Nat} (h : xs.length ≤ k) : (Lib.decDigits (val xs).toNat).length ≤ 10 * k + 1 := by
  rw [Lib.decDigits_length]
  have h1 := hgt_val wx h
  have h0 := val_nonneg wx
  have h2 : (2 : Nat) ^ (32 * k) ≤ 10 ^ (10 * k) := by
    have e1 : (2 : Nat) ^ (32 * k) = (2 ^ 32) ^ k := by rw [Nat.pow_mul]
    have e2 : (10 : Nat) ^ (10 * k) = (10 ^ 10) ^ k := by rw [Nat.pow_mul]
    rw [e1, e2]
    exact Nat.pow_le_pow_left (by decide) k
  have h3 : (val xs).toNat < 10 ^ (10 * k + 1) := by
    rw [Nat.pow_succ]
    have : 0 < 10 ^ (10 * k) := Nat.pow_pos (by decide)
    omega
  exact zdig_short h3
theorem zrtext_few {n : Bool} {xs ys : List Int} (wx : Wd xs) (wy : Wd ys) {k : Nat} (hx : xs.length ≤ k) (hy : ys.length ≤ k) : (rtext n xs ys).length ≤ 20 * k + 4 := by
  have h1 := zdec_few wx hx
  have h2 := zdec_few wy hy
  rw [rtext_eq]
  have h3 : (if n then [45] else [] : List UInt8).length ≤ 1 := by cases n <;> simp
  have h4 : (if ys = [1] then [] else 47 :: Lib.decDigits (val ys).toNat : List UInt8).length ≤ 10 * k + 2 := by
    by_cases hy1 : ys = [1]
    · rw [if_pos hy1]; simp
    · rw [if_neg hy1, List.length_cons]; omega
  rw [List.length_append, List.length_append]
  omega
end Go.Proofs.YtldeiapikkebgaaGreatDoor

/- Constituents that are good: what the calls tell of them, by their fractions. -/
namespace Go.Proofs.YtldeiapikkebgaaGreatDoor
open Go.RowKit
set_option linter.unusedVariables false
set_option linter.unusedSimpArgs false

theorem trok {f r : Int} (h : ochk f r = 0) : rOK f r := by
  rcases ochk_or f r with g | g
  · exact g.2
  · rw [h] at g; exact absurd g.1 (by decide)
theorem trok_in {f r : Int} (h : rOK f r) : (-1000 ≤ f ∧ f ≤ 1000) ∧ (-1000 ≤ r ∧ r ≤ 1000) := by
  obtain ⟨h1, h2, h3, h4, _⟩ := h
  omega
end Go.Proofs.YtldeiapikkebgaaGreatDoor

/- The document's Decimal of any small number, its Print of a constituent. -/
namespace Go.Proofs.YtldeiapikkebgaaGreatDoor
open Go.RowKit Go.Lib
set_option linter.unusedVariables false
set_option linter.unusedSimpArgs false

theorem dDec_any (v : Int) (w : World) (h0 : -1000000 ≤ v) (h1 : v ≤ 1000000) : Calls Tryz.prog 21 #[.int .i64 v] w fun e w' => ∃ S : ByteArray, e = .returned (.string S) ∧ S.data.toList = itoa v ∧ S.size ≤ 20 ∧ Below w.heap.size w w' := by
  by_cases hv : v < 0
  · obtain ⟨m, rfl⟩ : ∃ m : Nat, v = -(m : Int) := ⟨v.natAbs, by omega⟩
    have HD := hid (dDec_nat m w (by omega))
    have hneg : -(m : Int) < 0 := hv
    have hw : IntKind.i64.wrap (-(-(m : Int))) = (m : Int) := by rw [IntKind.wrap_i64]; omega
    have hw2 : IntKind.i64.wrap (m : Int) = (m : Int) := by rw [IntKind.wrap_i64]; omega
    have e : itoa (-(m : Int)) = 45 :: decDigits m := by
      unfold itoa
      rw [if_pos hv]
      congr 2
      omega
    have hl : (decDigits m).length ≤ 8 := by
      rw [decDigits_length]
      exact zdig_short (k := 7) (by omega)
    have hsm : ¬ 9223372036854775807 < 1 + (decDigits m).length := by omega
    have HJ : Hid (((⟨#[45]⟩ : ByteArray) ++ (⟨(decDigits m).toArray⟩ : ByteArray)).data.toList = itoa (-(m : Int)) ∧ ((⟨#[45]⟩ : ByteArray) ++ (⟨(decDigits m).toArray⟩ : ByteArray)).size ≤ 20) := by
      refine ⟨?_, ?_⟩
      · rw [e, ByteArray.data_append, Array.toList_append]; simp
      · have h2 : (⟨(decDigits m).toArray⟩ : ByteArray).size = (decDigits m).length := by show (decDigits m).toArray.size = _; simp
        have h3 : (⟨#[45]⟩ : ByteArray).size = 1 := rfl
        rw [ByteArray.size_append, h2, h3]
        omega
    clear e hl
    go_enter Tryz.func21, Tryz.ntmps21
    go_wp2_with fail
    refine Calls.mono HD.out ?_
    rintro e w1 ⟨rfl, b1⟩
    have HB := hid b1
    clear b1
    go_wp2_with fail
    go_ret
    exact ⟨_, rfl, HJ.out.1, HJ.out.2, HB.out⟩
  · obtain ⟨m, rfl⟩ : ∃ m : Nat, v = (m : Int) := ⟨v.toNat, by omega⟩
    refine Calls.mono (dDec_nat m w (by omega)) ?_
    rintro e w' ⟨rfl, hb⟩
    have e : itoa (m : Int) = decDigits m := by unfold itoa; rw [if_neg hv]; rfl
    have hl : (decDigits m).length ≤ 8 := by
      rw [decDigits_length]
      exact zdig_short (k := 7) (by omega)
    refine ⟨_, rfl, by rw [e], ?_, hb⟩
    show (decDigits m).toArray.size ≤ 20
    rw [List.size_toArray]
    omega
set_option maxHeartbeats 1600000 in
set_option maxRecDepth 100000 in
theorem dtPrint_err (s : ByteArray) (f r : Int) (n : Bool) (a : Option Addr) (ca : Nat) (xs : List Int) (b : Option Addr) (cb : Nat) (ys : List Int) (m : Bool) (c : Option Addr) (cc : Nat) (us : List Int) (d : Option Addr) (cd : Nat) (vs : List Int) (w : World) (hz : s.size ≤ 9223372036854775807) (hr : in32 f r) (sx : Sl w (.slice a xs.length ca) xs) (sy : Sl w (.slice b ys.length cb) ys) (su : Sl w (.slice c us.length cc) us) (sv : Sl w (.slice d vs.length cd) vs) (lx : xs.length ≤ 281474976710656) (ly : ys.length ≤ 281474976710656) (lu : us.length ≤ 281474976710656) (lv : vs.length ≤ 281474976710656) (hk : tchk s.data.toList f r (gchk n xs ys m us vs) ≠ 0) :
    Calls Tryz.prog 7 #[.agg #[.string s, .int .i32 f, .int .i32 r, .bool n, .slice a xs.length ca, .slice b ys.length cb, .bool m, .slice c us.length cc, .slice d vs.length cd]] w fun e w' => e = .returned (.tuple #[.string ⟨#[]⟩, .int .i64 (tchk s.data.toList f r (gchk n xs ys m us vs))]) ∧ Below w.heap.size w w' := by
  obtain ⟨X, hX⟩ : ∃ X, w.alloc (.cells #[.string s, .int .i32 f, .int .i32 r, .bool n, .slice a xs.length ca, .slice b ys.length cb, .bool m, .slice c us.length cc, .slice d vs.length cd] 30) = X := ⟨_, rfl⟩
  have HX : Hid (Box X w.heap.size 30 #[.string s, .int .i32 f, .int .i32 r, .bool n, .slice a xs.length ca, .slice b ys.length cb, .bool m, .slice c us.length cc, .slice d vs.length cd]) := by
    subst hX
    exact Box.made w _ _
  have HB : Hid (Below w.heap.size w X) := by
    subst hX
    exact alloc_later _ _
  have HC := hid (dtCheck_any s f r n a ca xs b cb ys m c cc us d cd vs X hz hr (sx.later HB.out) (sy.later HB.out) (su.later HB.out) (sv.later HB.out) lx ly lu lv)
  obtain ⟨T, hT⟩ : ∃ T, tchk s.data.toList f r (gchk n xs ys m us vs) = T := ⟨_, rfl⟩
  rw [hT] at HC hk ⊢
  clear hT sx sy su sv lx ly lu lv hr
  have h0' : (T == 0) = false := by simp [hk]
  have h0'' : (T != 0) = true := by simp [hk]
  have k0 : X.cell? ⟨w.heap.size, 0, none⟩ = some (.string s) := HX.out.cell 0
  have k1 : X.cell? ⟨w.heap.size, 1, none⟩ = some (.int .i32 f) := HX.out.cell 1
  have k2 : X.cell? ⟨w.heap.size, 2, none⟩ = some (.int .i32 r) := HX.out.cell 2
  have k3 : X.cell? ⟨w.heap.size, 3, none⟩ = some (.bool n) := HX.out.cell 3
  have k4 : X.cell? ⟨w.heap.size, 4, none⟩ = some (.slice a xs.length ca) := HX.out.cell 4
  have k5 : X.cell? ⟨w.heap.size, 5, none⟩ = some (.slice b ys.length cb) := HX.out.cell 5
  have k6 : X.cell? ⟨w.heap.size, 6, none⟩ = some (.bool m) := HX.out.cell 6
  have k7 : X.cell? ⟨w.heap.size, 7, none⟩ = some (.slice c us.length cc) := HX.out.cell 7
  have k8 : X.cell? ⟨w.heap.size, 8, none⟩ = some (.slice d vs.length cd) := HX.out.cell 8
  go_enter Tryz.func7, Tryz.ntmps7
  go_wp2_with fail
  refine Calls.mono HC.out ?_
  rintro e w1 ⟨rfl, b1⟩
  have HBW := hid (bt HB.out b1)
  clear b1 HC k0 k1 k2 k3 k4 k5 k6 k7 k8
  go_wp2_with fail
  go_ret2
  exact ⟨rfl, HBW.out⟩
set_option maxHeartbeats 6400000 in
set_option maxRecDepth 100000 in
theorem dtPrint_ok (s : ByteArray) (f r : Int) (n : Bool) (a : Option Addr) (ca : Nat) (xs : List Int) (b : Option Addr) (cb : Nat) (ys : List Int) (m : Bool) (c : Option Addr) (cc : Nat) (us : List Int) (d : Option Addr) (cd : Nat) (vs : List Int) (w : World) (hr : in32 f r) (sx : Sl w (.slice a xs.length ca) xs) (sy : Sl w (.slice b ys.length cb) ys) (su : Sl w (.slice c us.length cc) us) (sv : Sl w (.slice d vs.length cd) vs) (hk : tchk s.data.toList f r (gchk n xs ys m us vs) = 0) (hl : (ttext s.data.toList f r (gtext n xs ys m us vs)).length ≤ 65536) :
    Calls Tryz.prog 7 #[.agg #[.string s, .int .i32 f, .int .i32 r, .bool n, .slice a xs.length ca, .slice b ys.length cb, .bool m, .slice c us.length cc, .slice d vs.length cd]] w fun e w' => ∃ S : ByteArray, e = .returned (.tuple #[.string S, .int .i64 0]) ∧ S.data.toList = ttext s.data.toList f r (gtext n xs ys m us vs) ∧ Below w.heap.size w w' := by
  obtain ⟨hn, ho, hg⟩ := tchk_ok hk
  obtain ⟨g1, g2⟩ := gchk_ok hg
  obtain ⟨b1, b2⟩ := trok_in (trok ho)
  have hs20 : s.size ≤ 20 := by
    have h1 := (tname_ok hn).2
    have h2 : s.data.toList.length = s.size := Array.length_toList
    omega
  have lx := (rchk_ok g1).1
  have ly := (rchk_ok g1).2.1
  have lu := (rchk_ok g2).1
  have lv := (rchk_ok g2).2.1
  obtain ⟨X, hX⟩ : ∃ X, w.alloc (.cells #[.string s, .int .i32 f, .int .i32 r, .bool n, .slice a xs.length ca, .slice b ys.length cb, .bool m, .slice c us.length cc, .slice d vs.length cd] 30) = X := ⟨_, rfl⟩
  have HX : Hid (Box X w.heap.size 30 #[.string s, .int .i32 f, .int .i32 r, .bool n, .slice a xs.length ca, .slice b ys.length cb, .bool m, .slice c us.length cc, .slice d vs.length cd]) := by
    subst hX
    exact Box.made w _ _
  have HB : Hid (Below w.heap.size w X) := by
    subst hX
    exact alloc_later _ _
  have HC := hid (dtCheck_any s f r n a ca xs b cb ys m c cc us d cd vs X (by omega) hr (sx.later HB.out) (sy.later HB.out) (su.later HB.out) (sv.later HB.out) (by omega) (by omega) (by omega) (by omega))
  rw [hk] at HC
  have HP1 : Hid (∀ V, Below w.heap.size w V → Calls Tryz.prog 20 #[.agg #[.bool n, .slice a xs.length ca, .slice b ys.length cb]] V fun e w' => ∃ T : ByteArray, e = .returned (.tuple #[.string T, .int .i64 0]) ∧ T.data.toList = rtext n xs ys ∧ Below V.heap.size V w') := fun V hv => dPrint_ok n a ca xs b cb ys V (sx.later hv) (sy.later hv) g1
  have HP2 : Hid (∀ V, Below w.heap.size w V → Calls Tryz.prog 20 #[.agg #[.bool m, .slice c us.length cc, .slice d vs.length cd]] V fun e w' => ∃ T : ByteArray, e = .returned (.tuple #[.string T, .int .i64 0]) ∧ T.data.toList = rtext m us vs ∧ Below V.heap.size V w') := fun V hv => dPrint_ok m c cc us d cd vs V (su.later hv) (sv.later hv) g2
  have HD1 := hid (fun V => dDec_any f V (by omega) (by omega))
  have HD2 := hid (fun V => dDec_any r V (by omega) (by omega))
  have HKK : Hid (∀ V, Box V w.heap.size 30 #[.string s, .int .i32 f, .int .i32 r, .bool n, .slice a xs.length ca, .slice b ys.length cb, .bool m, .slice c us.length cc, .slice d vs.length cd] → V.cell? ⟨w.heap.size, 0, none⟩ = some (.string s) ∧ V.cell? ⟨w.heap.size, 1, none⟩ = some (.int .i32 f) ∧ V.cell? ⟨w.heap.size, 2, none⟩ = some (.int .i32 r)) := fun V h => ⟨h.cell 0, h.cell 1, h.cell 2⟩
  have HL := hid hl
  clear sx sy su sv hk hg g1 g2 hn ho hl
  have k0 : X.cell? ⟨w.heap.size, 0, none⟩ = some (.string s) := HX.out.cell 0
  have k1 : X.cell? ⟨w.heap.size, 1, none⟩ = some (.int .i32 f) := HX.out.cell 1
  have k2 : X.cell? ⟨w.heap.size, 2, none⟩ = some (.int .i32 r) := HX.out.cell 2
  have k3 : X.cell? ⟨w.heap.size, 3, none⟩ = some (.bool n) := HX.out.cell 3
  have k4 : X.cell? ⟨w.heap.size, 4, none⟩ = some (.slice a xs.length ca) := HX.out.cell 4
  have k5 : X.cell? ⟨w.heap.size, 5, none⟩ = some (.slice b ys.length cb) := HX.out.cell 5
  have k6 : X.cell? ⟨w.heap.size, 6, none⟩ = some (.bool m) := HX.out.cell 6
  have k7 : X.cell? ⟨w.heap.size, 7, none⟩ = some (.slice c us.length cc) := HX.out.cell 7
  have k8 : X.cell? ⟨w.heap.size, 8, none⟩ = some (.slice d vs.length cd) := HX.out.cell 8
  go_enter Tryz.func7, Tryz.ntmps7
  go_wp2_with fail
  refine Calls.mono HC.out ?_
  rintro e w1 ⟨rfl, c1⟩
  have HX1 := hid (HX.out.later c1 HX.out.lt)
  have HB1 := hid (bt HB.out c1)
  clear c1 HC k0 k1 k2 k3 k4 k5 k6 k7 k8 HX HB
  have k3 : w1.cell? ⟨w.heap.size, 3, none⟩ = some (.bool n) := HX1.out.cell 3
  have k4 : w1.cell? ⟨w.heap.size, 4, none⟩ = some (.slice a xs.length ca) := HX1.out.cell 4
  have k5 : w1.cell? ⟨w.heap.size, 5, none⟩ = some (.slice b ys.length cb) := HX1.out.cell 5
  go_wp2_with fail
  refine Calls.mono (HP1.out w1 HB1.out) ?_
  rintro e w2 ⟨T1, rfl, t1, c2⟩
  have HT1 := hid t1
  have HX2 := hid (HX1.out.later c2 HX1.out.lt)
  have HB2 := hid (bt HB1.out c2)
  clear c2 t1 k3 k4 k5 HX1 HB1 HP1
  have k6 : w2.cell? ⟨w.heap.size, 6, none⟩ = some (.bool m) := HX2.out.cell 6
  have k7 : w2.cell? ⟨w.heap.size, 7, none⟩ = some (.slice c us.length cc) := HX2.out.cell 7
  have k8 : w2.cell? ⟨w.heap.size, 8, none⟩ = some (.slice d vs.length cd) := HX2.out.cell 8
  go_wp2_with fail
  refine Calls.mono (HP2.out w2 HB2.out) ?_
  rintro e w3 ⟨T2, rfl, t2, c3⟩
  have HT2 := hid t2
  have HX3 := hid (HX2.out.later c3 HX2.out.lt)
  have HB3 := hid (bt HB2.out c3)
  clear c3 t2 k6 k7 k8 HX2 HB2 HP2
  have hd0 := hid (Below.refl w3.heap.size w3)
  have HXL : Hid (∀ V, Below w3.heap.size w3 V → Box V w.heap.size 30 #[.string s, .int .i32 f, .int .i32 r, .bool n, .slice a xs.length ca, .slice b ys.length cb, .bool m, .slice c us.length cc, .slice d vs.length cd]) := fun V hv => HX3.out.later hv HX3.out.lt
  have hs0 := HKK.out _ (HXL.out _ hd0.out.drew)
  have ht12 : s.size + 1 + (itoa f).length + 1 + (itoa r).length + 1 + T1.size + 1 + T2.size ≤ 65536 := by
    have h := HL.out
    unfold ttext gtext at h
    rw [← HT1.out, ← HT2.out] at h
    simp only [List.length_append, List.length_cons] at h
    have e1 : s.data.toList.length = s.size := Array.length_toList
    have e2 : T1.data.toList.length = T1.size := Array.length_toList
    have e3 : T2.data.toList.length = T2.size := Array.length_toList
    omega
  have hwf : IntKind.i64.wrap f = f := by rw [IntKind.wrap_i64]; omega
  have hwr : IntKind.i64.wrap r = r := by rw [IntKind.wrap_i64]; omega
  have a0 : ¬ 9223372036854775807 < s.size + 1 := by omega
  go_wp2_with fail
  obtain ⟨p00, p01, p02⟩ := hs0
  go_region_law (first
      | (go_simp; go_at_call 21; (with_reducible refine Calls.mono (HD1.out _) ?_); rintro e x1 ⟨F1, rfl, f1, z1, d1⟩; have hb1 := hid (bt hd0.out.drew d1); obtain ⟨p10, p11, p12⟩ := HKK.out _ (HXL.out _ hb1.out); have HF1 := hid f1; have y1 : F1.size ≤ (itoa f).length ∧ (itoa f).length ≤ F1.size := (by rw [← f1]; exact ⟨Nat.le_of_eq Array.length_toList.symm, Nat.le_of_eq Array.length_toList⟩); have a1 : ¬ 9223372036854775807 < s.size + 1 + F1.size := (by omega); have a2 : ¬ 9223372036854775807 < s.size + 1 + F1.size + 1 := (by omega); clear d1 f1; dsimp only)
      | (go_simp; go_at_call 21; (with_reducible refine Calls.mono (HD2.out _) ?_); rintro e x2 ⟨F2, rfl, f2, z2, d2⟩; have hb2 := hid (bt hb1.out d2); obtain ⟨p20, p21, p22⟩ := HKK.out _ (HXL.out _ hb2.out); have HF2 := hid f2; have y2 : F2.size ≤ (itoa r).length ∧ (itoa r).length ≤ F2.size := (by rw [← f2]; exact ⟨Nat.le_of_eq Array.length_toList.symm, Nat.le_of_eq Array.length_toList⟩); have a3 : ¬ 9223372036854775807 < s.size + 1 + F1.size + 1 + F2.size := (by omega); have a4 : ¬ 9223372036854775807 < s.size + 1 + F1.size + 1 + F2.size + 1 := (by omega); have a5 : ¬ 9223372036854775807 < s.size + 1 + F1.size + 1 + F2.size + 1 + T1.size := (by omega); have a6 : ¬ 9223372036854775807 < s.size + 1 + F1.size + 1 + F2.size + 1 + T1.size + 1 := (by omega); have a7 : ¬ 9223372036854775807 < s.size + 1 + F1.size + 1 + F2.size + 1 + T1.size + 1 + T2.size := (by omega); clear d2 f2; dsimp only))
  all_goals
    have HBF := hid (bt HB3.out hb2.out)
    have hlast : ¬ (65536 : Int) < (s.size : Int) + 1 + (F1.size : Int) + 1 + (F2.size : Int) + 1 + (T1.size : Int) + 1 + (T2.size : Int) := by omega
    have HTT : Hid ((s ++ (⟨#[32]⟩ : ByteArray) ++ F1 ++ (⟨#[32]⟩ : ByteArray) ++ F2 ++ (⟨#[32]⟩ : ByteArray) ++ T1 ++ (⟨#[32]⟩ : ByteArray) ++ T2).data.toList = ttext s.data.toList f r (gtext n xs ys m us vs)) := by
      show _ = _
      unfold ttext gtext
      rw [← HF1.out, ← HF2.out, ← HT1.out, ← HT2.out]
      simp [ByteArray.data_append]
    clear HKK HXL HD1 HD2 a0 a1 a2 a3 a4 a5 a6 a7 y1 y2
    go_wp2_with fail
    go_ret2
    exact ⟨_, rfl, HTT.out, HBF.out⟩
end Go.Proofs.YtldeiapikkebgaaGreatDoor

/- The document's cut of layer 13: a text at its first blank. -/
namespace Go.Proofs.YtldeiapikkebgaaGreatDoor
open Go.RowKit Go.Lib
set_option linter.unusedVariables false
set_option linter.unusedSimpArgs false

set_option maxHeartbeats 1600000 in
set_option maxRecDepth 100000 in
theorem dcut13_any (s : ByteArray) (w : World) (hs : s.size ≤ 65536) :
    Calls Tryz.prog 28 #[.string s] w fun e w' => e = .returned (.tuple #[.string ⟨(Lib.cut s.data.toList [32]).1.toArray⟩, .string ⟨(Lib.cut s.data.toList [32]).2.1.toArray⟩, .bool (Lib.cut s.data.toList [32]).2.2]) ∧ Below w.heap.size w w' := by
  have HL := hid (size_list s)
  have HMISS : Hid (Lib.index s.data.toList [32] = -1 → (⟨(Lib.cut s.data.toList [32]).1.toArray⟩ : ByteArray) = s ∧ (⟨(Lib.cut s.data.toList [32]).2.1.toArray⟩ : ByteArray) = ⟨#[]⟩ ∧ (Lib.cut s.data.toList [32]).2.2 = false) := fun h => Lib.cutB_miss s ⟨#[32]⟩ h
  have HHIT : Hid (∀ k : Nat, Lib.index s.data.toList [32] = (k : Int) → (⟨(Lib.cut s.data.toList [32]).1.toArray⟩ : ByteArray) = s.extract 0 k ∧ (⟨(Lib.cut s.data.toList [32]).2.1.toArray⟩ : ByteArray) = s.extract (k + 1) s.size ∧ (Lib.cut s.data.toList [32]).2.2 = true) := fun k h => Lib.cutB_hit s ⟨#[32]⟩ k h
  generalize (Lib.cut s.data.toList [32]).1.toArray = A at *
  generalize (Lib.cut s.data.toList [32]).2.1.toArray = B at *
  generalize (Lib.cut s.data.toList [32]).2.2 = C at *
  go_enter Tryz.func28, Tryz.ntmps28
  go_wp2_with fail
  go_loopw [5] (fun t wr => ∃ k : Nat, k ≤ s.size ∧ t = .int .i64 k ∧ wr = w ∧ Hid (∀ j : Nat, j < k → s.data.toList[j]?.getD 0 ≠ 32)) (fun t _ => s.size - (RowKit.intOf t).toNat)
  case atStart => exact ⟨0, by omega, rfl, rfl, (fun j hj => absurd hj (Nat.not_lt_zero j) : ∀ j : Nat, j < 0 → s.data.toList[j]?.getD 0 ≠ 32)⟩
  case round =>
    obtain ⟨k, hk, rfl, hwr, HJ⟩ := hrel
    subst hwr
    by_cases hlt : k < s.size
    · have hlt' : (k : Int) < (s.size : Int) := by omega
      have h0 : (0 : Int) ≤ (k : Int) := by omega
      have bk := byte_at s k hlt
      by_cases hz : (s[k].toNat : Int) = 32
      · have hz' : ((s[k].toNat : Int) == 32) = true := by simp [hz]
        have HZ : Hid (s.data.toList[k]?.getD 0 = 32) := by show _ = _; rw [bk]; exact UInt8.toNat_inj.1 (by show s[k].toNat = 32; omega)
        have HX := hid (HHIT.out k (bl_index (.inr ⟨k, rfl, by have := HL.out; omega, HZ.out, HJ.out⟩)))
        have hw1 : IntKind.i64.wrap ((k : Int) + 1) = (k : Int) + 1 := by rw [IntKind.wrap_i64]; omega
        have hle : (k : Int) ≤ (s.size : Int) := by omega
        have hle1 : (k : Int) + 1 ≤ (s.size : Int) := by omega
        have h01 : (0 : Int) ≤ (k : Int) + 1 := by omega
        clear bk hz HMISS HHIT
        go_wp2_with fail
        go_quiet (fail)
        go_wp2_with fail
        go_returns
        refine ⟨by rw [HX.out.1, HX.out.2.1, HX.out.2.2]; rfl, ?_⟩
        exact bdrewN (Below.refl _ _) _
      · have hz' : ((s[k].toNat : Int) == 32) = false := by simp [hz]
        have HZ : Hid (s.data.toList[k]?.getD 0 ≠ 32) := fun h => by rw [bk] at h; apply hz; have h2 : s[k] = 32 := h; rw [h2]; rfl
        have HJ' : Hid (∀ j : Nat, j < k + 1 → s.data.toList[j]?.getD 0 ≠ 32) := fun j hj => by
          by_cases e : j = k
          · rw [e]; exact HZ.out
          · exact HJ.out j (by omega)
        clear bk hz
        go_wp2_with fail
        go_roundw
        case rel => exact ⟨k + 1, by omega, by go_num, trivial, HJ'⟩
        case measure => simp [RowKit.intOf]; omega
    · have hlt' : ¬ (k : Int) < (s.size : Int) := by omega
      have HZ : Hid (BlT s.data.toList (-1)) := by
        refine .inl ⟨rfl, fun h => ?_⟩
        obtain ⟨j, hj, e⟩ := List.mem_iff_getElem.1 h
        exact HJ.out j (by have := HL.out; omega) (by rw [List.getElem?_eq_getElem hj, e]; rfl)
      obtain ⟨m1, m2, m3⟩ := HMISS.out (bl_index HZ.out)
      have M1 := hid m1
      have M2 := hid m2
      have M3 := hid m3
      clear m1 m2 m3 HMISS HHIT
      go_wp2_with fail
      go_returns
      exact ⟨by rw [M1.out, M2.out, M3.out]; rfl, Below.refl _ _⟩
end Go.Proofs.YtldeiapikkebgaaGreatDoor

/- The document's number of layer 13: of a text of at most five bytes. -/
namespace Go.Proofs.YtldeiapikkebgaaGreatDoor
open Go.RowKit Go.Lib
set_option linter.unusedVariables false
set_option linter.unusedSimpArgs false

def dvA (n : Nat) (l : List UInt8) : Nat := l.foldl (fun n c => 10 * n + (c.toNat - 48)) n
def dvI (l : List UInt8) : Nat := dvA 0 l
theorem dvI_snoc (l : List UInt8) (c : UInt8) : dvI (l ++ [c]) = 10 * dvI l + (c.toNat - 48) := by unfold dvI dvA; rw [List.foldl_append]; rfl
theorem dvI_dec (n : Nat) : dvI (decDigits n) = n := by
  by_cases h : n < 10
  · rw [zdig_one h]
    show 10 * 0 + ((UInt8.ofNat (48 + n)).toNat - 48) = n
    rw [zdigit_nat n h]; omega
  · rw [zdig_more h, dvI_snoc, dvI_dec (n / 10), zdigit_nat (n % 10) (by omega)]
    omega
termination_by n
decreasing_by omega
theorem dvI_take {l : List UInt8} {k : Nat} {c : UInt8} (h : l[k]? = some c) : dvI (l.take (k + 1)) = 10 * dvI (l.take k) + (c.toNat - 48) := by
  rw [List.take_add_one, h]
  exact dvI_snoc _ _
def isDg (l : List UInt8) : Prop := ∀ c ∈ l, tdig (c.toNat : Int) = true
theorem isDg_dec (n : Nat) : isDg (decDigits n) := fun c hc => by
  have h := (zdec_all n).1 c hc
  unfold tdig
  rw [decide_eq_true (by omega), decide_eq_true (by omega)]; rfl
theorem dvA_few : ∀ (l : List UInt8) (n : Nat), isDg l → dvA n l + 1 ≤ (n + 1) * 10 ^ l.length
  | [], n, _ => by show n + 1 ≤ (n + 1) * 10 ^ 0; omega
  | c :: l, n, h => by
    have h1 := dvA_few l (10 * n + (c.toNat - 48)) (fun x hx => h x (List.mem_cons_of_mem _ hx))
    have h2 := h c (List.mem_cons_self ..)
    unfold tdig at h2
    simp at h2
    have e : dvA n (c :: l) = dvA (10 * n + (c.toNat - 48)) l := rfl
    rw [e, List.length_cons, Nat.pow_succ]
    have h3 : (10 * n + (c.toNat - 48) + 1) * 10 ^ l.length ≤ (10 * (n + 1)) * 10 ^ l.length := Nat.mul_le_mul_right _ (by omega)
    have h4 : (n + 1) * (10 ^ l.length * 10) = (10 * (n + 1)) * 10 ^ l.length := by rw [Nat.mul_comm (10 ^ l.length) 10, ← Nat.mul_assoc, Nat.mul_comm (n + 1) 10]
    omega
theorem dvI_few {l : List UInt8} (h : isDg l) : dvI l < 10 ^ l.length := by
  have := dvA_few l 0 h
  unfold dvI
  omega
def nsg (l : List UInt8) : Int := if l.head? = some 45 then -1 else 1
def nbd (l : List UInt8) : List UInt8 := if l.head? = some 45 then l.tail else l
def numB (l : List UInt8) : Prop := l.length ≤ 5 ∧ isDg (nbd l) ∧ nbd l ≠ [] ∧ itoa (nsg l * (dvI (nbd l) : Int)) = l
theorem zatoi_itoa2 (v : Int) (h0 : -1000000 ≤ v) (h1 : v ≤ 1000000) : atoiAll (itoa v) = .ok v := by
  by_cases hv : v < 0
  · have e : itoa v = 45 :: decDigits v.natAbs := by unfold itoa; rw [if_pos hv]
    rw [e, atoiAll_minus, zmag _ (by omega)]
    show (if 9223372036854775808 < v.natAbs then NumEnd.range else .ok (-(v.natAbs : Int))) = .ok v
    rw [if_neg (by omega)]
    congr 1; omega
  · have e : itoa v = decDigits v.toNat := by unfold itoa; rw [if_neg hv]
    obtain ⟨ha, hne⟩ := zdec_all v.toNat
    rw [e]
    cases hl : decDigits v.toNat with
    | nil => exact absurd hl hne
    | cons c r =>
      have hc := ha c (by rw [hl]; simp)
      rw [atoiAll_plain c r (by omega) (by omega), ← hl, zmag _ (by omega)]
      show (if 9223372036854775808 ≤ v.toNat then NumEnd.range else .ok ((v.toNat : Nat) : Int)) = .ok v
      rw [if_neg (by omega)]
      congr 1; omega
theorem numB_val {l : List UInt8} (h : numB l) : tnumOk l = true ∧ tnumV l = nsg l * (dvI (nbd l) : Int) := by
  obtain ⟨h1, h2, h3, h4⟩ := h
  have hb := dvI_few h2
  have hlen : (nbd l).length ≤ 5 := by
    unfold nbd
    split
    · rw [List.length_tail]; omega
    · exact h1
  have hp : 10 ^ (nbd l).length ≤ 10 ^ 5 := Nat.pow_le_pow_right (by decide) hlen
  have hs : nsg l = 1 ∨ nsg l = -1 := by unfold nsg; split <;> simp
  generalize hv : nsg l * (dvI (nbd l) : Int) = v at h4 ⊢
  have hr : -1000000 ≤ v ∧ v ≤ 1000000 := by
    rcases hs with e | e <;> rw [e] at hv <;> omega
  have ha := zatoi_itoa2 v hr.1 hr.2
  rw [h4] at ha
  have e1 : tnumOk l = true := by
    unfold tnumOk
    rw [decide_eq_true h1, ha]
    simp [h4]
  refine ⟨e1, ?_⟩
  unfold tnumV
  rw [if_pos e1, ha]
theorem numB_of {l : List UInt8} (h : tnumOk l = true) : numB l := by
  have e := tnum_text h
  have hl : l.length ≤ 5 := by
    unfold tnumOk at h
    rw [Bool.and_eq_true] at h
    exact of_decide_eq_true h.1
  generalize tnumV l = v at e
  have main : isDg (nbd l) ∧ nbd l ≠ [] ∧ nsg l * (dvI (nbd l) : Int) = v := by
    by_cases hv : v < 0
    · have e2 : l = 45 :: decDigits v.natAbs := by rw [← e]; unfold itoa; rw [if_pos hv]
      have n1 : nbd l = decDigits v.natAbs := by unfold nbd; rw [e2]; rfl
      have n2 : nsg l = -1 := by unfold nsg; rw [e2]; rfl
      rw [n1, n2, dvI_dec]
      exact ⟨isDg_dec _, (zdec_all _).2, by omega⟩
    · have e2 : l = decDigits v.toNat := by rw [← e]; unfold itoa; rw [if_neg hv]
      have hh : l.head? ≠ some 45 := by
        intro h
        have hm : (45 : UInt8) ∈ decDigits v.toNat := by
          rw [← e2]
          cases hl2 : l with
          | nil => rw [hl2] at h; cases h
          | cons c r => rw [hl2] at h; rw [Option.some.inj h]; simp
        have := (zdec_all v.toNat).1 45 hm
        exact absurd this.1 (by decide)
      have n1 : nbd l = decDigits v.toNat := by unfold nbd; rw [if_neg hh]; exact e2
      have n2 : nsg l = 1 := by unfold nsg; rw [if_neg hh]
      rw [n1, n2, dvI_dec]
      exact ⟨isDg_dec _, (zdec_all _).2, by omega⟩
  exact ⟨hl, main.1, main.2.1, by rw [main.2.2]; exact e⟩
theorem numB_no {l : List UInt8} (h : ¬ numB l) : tnumOk l = false ∧ tnumV l = 0 := by
  have e : tnumOk l = false := by
    cases ht : tnumOk l with
    | false => rfl
    | true => exact absurd (numB_of ht) h
  exact ⟨e, by unfold tnumV; rw [if_neg (by rw [e]; decide)]⟩
end Go.Proofs.YtldeiapikkebgaaGreatDoor

/- The document's number of layer 13, of every text. (tools/mkqg6.py) -/
namespace Go.Proofs.YtldeiapikkebgaaGreatDoor
open Go.RowKit Go.Lib
set_option linter.unusedVariables false
set_option linter.unusedSimpArgs false

theorem bEq' {s t : ByteArray} : s.data.toList = t.data.toList ↔ s = t := ⟨fun h => ByteArray.ext (Array.toList_inj.1 h), fun h => by rw [h]⟩
theorem bEq {s t : ByteArray} : (s.toList == t.toList) = true ↔ s = t := by
  constructor
  · intro h
    rw [ByteArray.toList_eq, ByteArray.toList_eq] at h
    exact ByteArray.ext (Array.toList_inj.1 (eq_of_beq h))
  · rintro rfl; simp
set_option maxHeartbeats 6400000 in
set_option maxRecDepth 100000 in
theorem dnum13_any (s : ByteArray) (w : World) (hs : s.size ≤ 65536) :
    Calls Tryz.prog 29 #[.string s] w fun e w' => e = .returned (.tuple #[.int .i32 (tnumV s.data.toList), .bool (tnumOk s.data.toList)]) ∧ Below w.heap.size w w' := by
  by_cases h5 : 5 < s.size
  · have h5' : (5 : Int) < (s.size : Int) := by omega
    have HNO := hid (numB_no (l := s.data.toList) (fun h => by have := h.1; rw [size_list] at this; omega))
    clear h5
    go_enter Tryz.func29, Tryz.ntmps29
    go_wp2_with fail
    go_ret2
    exact ⟨by rw [HNO.out.1, HNO.out.2]; first | done | rfl, Below.refl _ _⟩
  have h5' : ¬ (5 : Int) < (s.size : Int) := by omega
  by_cases h0 : s.size = 0
  · have h0' : (s.size : Int) = 0 := by omega
    have h0'' : ¬ (0 : Int) < (s.size : Int) := by omega
    have hnil : s.data.toList = [] := List.eq_nil_of_length_eq_zero (by rw [size_list]; exact h0)
    have HDL : Hid (s.data.toList = nbd s.data.toList) := by show _ = _; rw [hnil]; rfl
    have HSG : Hid (nsg s.data.toList = 1) := by show _ = _; rw [hnil]; rfl
    have HNO := hid (numB_no (l := s.data.toList) (fun h => h.2.2.1 (by rw [hnil]; rfl)))
    clear h0 hnil
    go_enter Tryz.func29, Tryz.ntmps29
    go_wp2_with fail
    go_loopw [4, 7] (fun nv iv wr => nv = .int .i64 0 ∧ iv = .int .i64 0 ∧ wr = w) (fun _ _ _ => 0)
    case atStart => exact ⟨rfl, rfl, rfl⟩
    case round =>
      obtain ⟨rfl, rfl, hwr⟩ := hrel
      rw [hwr]
      clear hwr
      go_wp2_with fail
      go_ret2
      exact ⟨by rw [HNO.out.1, HNO.out.2]; first | done | rfl, Below.refl _ _⟩
  have hp : 0 < s.size := by omega
  have h0' : (0 : Int) < (s.size : Int) := by omega
  have b0 := byte_at s 0 hp
  have hhd : s.data.toList.head? = some s[0] := by rw [List.head?_eq_getElem?]; exact b0
  by_cases hm : (s[0].toNat : Int) = 45
  · have hm' : ((s[0].toNat : Int) == 45) = true := by simp [hm]
    have e45 : s[0] = 45 := UInt8.toNat_inj.1 (by show s[0].toNat = 45; omega)
    obtain ⟨d, hd⟩ : ∃ d, s.extract 1 s.size = d := ⟨_, rfl⟩
    have HSG : Hid (nsg s.data.toList = -1) := by show _ = _; unfold nsg; rw [hhd, e45]; rfl
    have HDL : Hid (d.data.toList = nbd s.data.toList) := by
      show _ = _
      unfold nbd
      rw [hhd, e45, if_pos rfl, ← hd]
      simp [ByteArray.data_extract]
      exact List.take_of_length_le (by rw [List.length_tail, size_list]; omega)
    have hd5 : d.size ≤ 5 := by
      rw [← size_list, HDL.out]
      unfold nbd
      rw [hhd, e45, if_pos rfl, List.length_tail, size_list]
      omega
    have hle : (1 : Int) ≤ (s.size : Int) := by omega
    clear b0 hhd hm e45
    go_enter Tryz.func29, Tryz.ntmps29
    go_wp2_with fail
    go_loopw [4, 7] (fun nv iv wr => ∃ k : Nat, k ≤ d.size ∧ iv = .int .i64 (k : Int) ∧ nv = .int .i64 (dvI (d.data.toList.take k) : Int) ∧ Hid (isDg (d.data.toList.take k)) ∧ wr = w) (fun _ iv _ => d.size - (RowKit.intOf iv).toNat)
    case atStart => exact ⟨0, Nat.zero_le _, rfl, rfl, (fun c hc => absurd hc (by simp) : isDg (d.data.toList.take 0)), rfl⟩
    case round =>
      obtain ⟨k, hk, rfl, rfl, HJ, hwr⟩ := hrel
      rw [hwr]
      clear hwr
      have HF := hid (dvI_few HJ.out)
      have hlk : (d.data.toList.take k).length ≤ 5 := by rw [List.length_take]; omega
      have hp : 10 ^ (d.data.toList.take k).length ≤ 10 ^ 5 := Nat.pow_le_pow_right (by decide) hlk
      have hn5 : dvI (d.data.toList.take k) < 100000 := by have := HF.out; omega
      clear hp hlk
      by_cases hlt : k < d.size
      · have bk := byte_at d k hlt
        have hk0 : (0 : Int) ≤ (k : Int) := by omega
        have hk1 : (k : Int) < (d.size : Int) := by omega
        have HNX := hid (dvI_take bk)
        have HMM := hid (List.mem_of_getElem? bk)
        have HJN : Hid (tdig (d[k].toNat : Int) = true → isDg (d.data.toList.take (k + 1))) := fun h c hc => by
          rw [List.take_add_one, bk] at hc
          rcases List.mem_append.1 hc with hc | hc
          · exact HJ.out c hc
          · rw [List.mem_singleton.1 hc]; exact h
        have HDG := hid (ddigit_any (d[k].toNat : Int) w)
        generalize dvI (d.data.toList.take k) = N at *
        by_cases hdg : tdig (d[k].toNat : Int) = true
        · have hb : 48 ≤ d[k].toNat ∧ d[k].toNat ≤ 57 := by
            have h2 := hdg
            unfold tdig at h2
            simp at h2
            omega
          have x1 : IntKind.u8.wrap ((d[k].toNat : Int) - 48) = (d[k].toNat : Int) - 48 := by rw [IntKind.wrap_u8]; omega
          have x2 : IntKind.i64.wrap ((d[k].toNat : Int) - 48) = (d[k].toNat : Int) - 48 := by rw [IntKind.wrap_i64]; omega
          have x3 : IntKind.i64.wrap (10 * (N : Int)) = 10 * (N : Int) := by rw [IntKind.wrap_i64]; omega
          have x4 : IntKind.i64.wrap (10 * (N : Int) + ((d[k].toNat : Int) - 48)) = 10 * (N : Int) + ((d[k].toNat : Int) - 48) := by rw [IntKind.wrap_i64]; omega
          have HJ2 := hid (HJN.out hdg)
          have HEQ : Hid (10 * (N : Int) + ((d[k].toNat : Int) - 48) = (dvI (d.data.toList.take (k + 1)) : Int)) := by
            show _ = _
            rw [HNX.out]
            omega
          rw [hdg] at HDG
          clear hdg bk hb HJN
          go_wp2_with fail
          refine Calls.mono HDG.out ?_
          rintro e w1 ⟨rfl, rfl⟩
          go_wp2_with fail
          go_roundw
          case rel => exact ⟨k + 1, by omega, by go_num, by rw [← HEQ.out], HJ2, trivial⟩
          case measure => simp [RowKit.intOf]; omega
        · have hdf : tdig (d[k].toNat : Int) = false := by simpa using hdg
          have HNO := hid (numB_no (l := s.data.toList) (fun h => by
            have h2 := h.2.1 _ (by rw [← HDL.out]; exact HMM.out)
            rw [hdf] at h2; cases h2))
          rw [hdf] at HDG
          clear hdg hdf bk HJN
          go_wp2_with fail
          refine Calls.mono HDG.out ?_
          rintro e w1 ⟨rfl, rfl⟩
          go_wp2_with fail
          go_ret2
          exact ⟨by rw [HNO.out.1, HNO.out.2]; first | done | rfl, Below.refl _ _⟩
      · obtain rfl : k = d.size := by omega
        have hk1 : ¬ ((d.size : Nat) : Int) < ((d.size : Nat) : Int) := by omega
        have hta : d.data.toList.take d.size = d.data.toList := List.take_of_length_le (Nat.le_of_eq (size_list d))
        rw [hta] at HJ hn5 ⊢
        clear hta HF
        by_cases hd0 : d.size = 0
        · have hd0' : (d.size : Int) = 0 := by omega
          have HNO := hid (numB_no (l := s.data.toList) (fun h => h.2.2.1 (by
            rw [← HDL.out]
            exact List.eq_nil_of_length_eq_zero (by rw [size_list]; exact hd0))))
          clear hd0
          go_wp2_with fail
          go_ret2
          exact ⟨by rw [HNO.out.1, HNO.out.2]; first | done | rfl, Below.refl _ _⟩
        · have hd0' : ¬ (d.size : Int) = 0 := by omega
          have hd1' : ((d.size : Int) == 0) = false := beq_eq_false_iff_ne.2 hd0'
          have HNE : Hid (nbd s.data.toList ≠ []) := fun h => hd0 (by
            rw [← size_list, HDL.out, h]; rfl)
          have HVV : Hid (numB s.data.toList ↔ itoa (-(dvI d.data.toList : Int)) = s.data.toList) := by
            have e : nsg s.data.toList * (dvI (nbd s.data.toList) : Int) = -(dvI d.data.toList : Int) := by
              rw [HSG.out, ← HDL.out]; omega
            refine ⟨fun h => by rw [← e]; exact h.2.2.2, fun h => ⟨by rw [size_list]; omega, by rw [← HDL.out]; exact HJ.out, HNE.out, by rw [e]; exact h⟩⟩
          have HVW : Hid (numB s.data.toList → tnumV s.data.toList = -(dvI d.data.toList : Int)) := fun h => by
            have e : nsg s.data.toList * (dvI (nbd s.data.toList) : Int) = -(dvI d.data.toList : Int) := by
              rw [HSG.out, ← HDL.out]; omega
            rw [← e]; exact (numB_val h).2
          generalize dvI d.data.toList = N at *
          have y1 : IntKind.i64.wrap (-(N : Int)) = -(N : Int) := by rw [IntKind.wrap_i64]; omega
          have y2 : IntKind.i32.wrap (-(N : Int)) = -(N : Int) := by rw [IntKind.wrap_i32]; omega
          have HDE := hid (dDec_any (-(N : Int)) w (by omega) (by omega))
          clear hd0
          go_wp2_with fail
          refine Calls.mono HDE.out ?_
          rintro e w1 ⟨S, rfl, hS, _, b1⟩
          have HB1 := hid b1
          clear b1
          by_cases hq : S = s
          · have HN : Hid (numB s.data.toList) := HVV.out.2 (by rw [← hS, hq])
            have HN1 := hid (numB_val HN.out).1
            have HN2 := hid (HVW.out HN.out)
            subst hq
            clear hS
            go_wp2_with fail
            go_ret2
            exact ⟨by rw [HN1.out, HN2.out]; first | done | rfl, HB1.out⟩
          · have HNO := hid (numB_no (l := s.data.toList) (fun h => hq (bEq'.1 (by rw [hS]; exact HVV.out.1 h))))
            have hq2 : (S.toList == s.toList) = false := by
              cases h : (S.toList == s.toList) with
              | false => rfl
              | true => exact absurd (bEq.1 h) hq
            clear hS hq
            go_wp2_with fail
            go_ret2
            exact ⟨by rw [HNO.out.1, HNO.out.2]; first | done | rfl, HB1.out⟩
  · have hm' : ((s[0].toNat : Int) == 45) = false := by simp [hm]
    have e45 : s[0] ≠ 45 := fun h => hm (by rw [h]; rfl)
    have hne : s.data.toList.head? ≠ some 45 := by rw [hhd]; intro h; exact e45 (Option.some.inj h)
    have HSG : Hid (nsg s.data.toList = 1) := by show _ = _; unfold nsg; rw [if_neg hne]
    have HDL : Hid (s.data.toList = nbd s.data.toList) := by show _ = _; unfold nbd; rw [if_neg hne]
    have hd5 : s.size ≤ 5 := by omega
    clear b0 hhd hm e45 hne
    go_enter Tryz.func29, Tryz.ntmps29
    go_wp2_with fail
    go_loopw [4, 7] (fun nv iv wr => ∃ k : Nat, k ≤ s.size ∧ iv = .int .i64 (k : Int) ∧ nv = .int .i64 (dvI (s.data.toList.take k) : Int) ∧ Hid (isDg (s.data.toList.take k)) ∧ wr = w) (fun _ iv _ => s.size - (RowKit.intOf iv).toNat)
    case atStart => exact ⟨0, Nat.zero_le _, rfl, rfl, (fun c hc => absurd hc (by simp) : isDg (s.data.toList.take 0)), rfl⟩
    case round =>
      obtain ⟨k, hk, rfl, rfl, HJ, hwr⟩ := hrel
      rw [hwr]
      clear hwr
      have HF := hid (dvI_few HJ.out)
      have hlk : (s.data.toList.take k).length ≤ 5 := by rw [List.length_take]; omega
      have hp : 10 ^ (s.data.toList.take k).length ≤ 10 ^ 5 := Nat.pow_le_pow_right (by decide) hlk
      have hn5 : dvI (s.data.toList.take k) < 100000 := by have := HF.out; omega
      clear hp hlk
      by_cases hlt : k < s.size
      · have bk := byte_at s k hlt
        have hk0 : (0 : Int) ≤ (k : Int) := by omega
        have hk1 : (k : Int) < (s.size : Int) := by omega
        have HNX := hid (dvI_take bk)
        have HMM := hid (List.mem_of_getElem? bk)
        have HJN : Hid (tdig (s[k].toNat : Int) = true → isDg (s.data.toList.take (k + 1))) := fun h c hc => by
          rw [List.take_add_one, bk] at hc
          rcases List.mem_append.1 hc with hc | hc
          · exact HJ.out c hc
          · rw [List.mem_singleton.1 hc]; exact h
        have HDG := hid (ddigit_any (s[k].toNat : Int) w)
        generalize dvI (s.data.toList.take k) = N at *
        by_cases hdg : tdig (s[k].toNat : Int) = true
        · have hb : 48 ≤ s[k].toNat ∧ s[k].toNat ≤ 57 := by
            have h2 := hdg
            unfold tdig at h2
            simp at h2
            omega
          have x1 : IntKind.u8.wrap ((s[k].toNat : Int) - 48) = (s[k].toNat : Int) - 48 := by rw [IntKind.wrap_u8]; omega
          have x2 : IntKind.i64.wrap ((s[k].toNat : Int) - 48) = (s[k].toNat : Int) - 48 := by rw [IntKind.wrap_i64]; omega
          have x3 : IntKind.i64.wrap (10 * (N : Int)) = 10 * (N : Int) := by rw [IntKind.wrap_i64]; omega
          have x4 : IntKind.i64.wrap (10 * (N : Int) + ((s[k].toNat : Int) - 48)) = 10 * (N : Int) + ((s[k].toNat : Int) - 48) := by rw [IntKind.wrap_i64]; omega
          have HJ2 := hid (HJN.out hdg)
          have HEQ : Hid (10 * (N : Int) + ((s[k].toNat : Int) - 48) = (dvI (s.data.toList.take (k + 1)) : Int)) := by
            show _ = _
            rw [HNX.out]
            omega
          rw [hdg] at HDG
          clear hdg bk hb HJN
          go_wp2_with fail
          refine Calls.mono HDG.out ?_
          rintro e w1 ⟨rfl, rfl⟩
          go_wp2_with fail
          go_roundw
          case rel => exact ⟨k + 1, by omega, by go_num, by rw [← HEQ.out], HJ2, trivial⟩
          case measure => simp [RowKit.intOf]; omega
        · have hdf : tdig (s[k].toNat : Int) = false := by simpa using hdg
          have HNO := hid (numB_no (l := s.data.toList) (fun h => by
            have h2 := h.2.1 _ (by rw [← HDL.out]; exact HMM.out)
            rw [hdf] at h2; cases h2))
          rw [hdf] at HDG
          clear hdg hdf bk HJN
          go_wp2_with fail
          refine Calls.mono HDG.out ?_
          rintro e w1 ⟨rfl, rfl⟩
          go_wp2_with fail
          go_ret2
          exact ⟨by rw [HNO.out.1, HNO.out.2]; first | done | rfl, Below.refl _ _⟩
      · obtain rfl : k = s.size := by omega
        have hk1 : ¬ ((s.size : Nat) : Int) < ((s.size : Nat) : Int) := by omega
        have hta : s.data.toList.take s.size = s.data.toList := List.take_of_length_le (Nat.le_of_eq (size_list s))
        rw [hta] at HJ hn5 ⊢
        clear hta HF
        by_cases hd0 : s.size = 0
        · have hd0' : (s.size : Int) = 0 := by omega
          have HNO := hid (numB_no (l := s.data.toList) (fun h => h.2.2.1 (by
            rw [← HDL.out]
            exact List.eq_nil_of_length_eq_zero (by rw [size_list]; exact hd0))))
          clear hd0
          go_wp2_with fail
          go_ret2
          exact ⟨by rw [HNO.out.1, HNO.out.2]; first | done | rfl, Below.refl _ _⟩
        · have hd0' : ¬ (s.size : Int) = 0 := by omega
          have hd1' : ((s.size : Int) == 0) = false := beq_eq_false_iff_ne.2 hd0'
          have HNE : Hid (nbd s.data.toList ≠ []) := fun h => hd0 (by
            rw [← size_list, HDL.out, h]; rfl)
          have HVV : Hid (numB s.data.toList ↔ itoa ((dvI s.data.toList : Int)) = s.data.toList) := by
            have e : nsg s.data.toList * (dvI (nbd s.data.toList) : Int) = (dvI s.data.toList : Int) := by
              rw [HSG.out, ← HDL.out]; omega
            refine ⟨fun h => by rw [← e]; exact h.2.2.2, fun h => ⟨by rw [size_list]; omega, by rw [← HDL.out]; exact HJ.out, HNE.out, by rw [e]; exact h⟩⟩
          have HVW : Hid (numB s.data.toList → tnumV s.data.toList = (dvI s.data.toList : Int)) := fun h => by
            have e : nsg s.data.toList * (dvI (nbd s.data.toList) : Int) = (dvI s.data.toList : Int) := by
              rw [HSG.out, ← HDL.out]; omega
            rw [← e]; exact (numB_val h).2
          generalize dvI s.data.toList = N at *
          have y1 : IntKind.i64.wrap ((N : Int)) = (N : Int) := by rw [IntKind.wrap_i64]; omega
          have y2 : IntKind.i32.wrap ((N : Int)) = (N : Int) := by rw [IntKind.wrap_i32]; omega
          have HDE := hid (dDec_any ((N : Int)) w (by omega) (by omega))
          clear hd0
          go_wp2_with fail
          refine Calls.mono HDE.out ?_
          rintro e w1 ⟨S, rfl, hS, _, b1⟩
          have HB1 := hid b1
          clear b1
          by_cases hq : S = s
          · have HN : Hid (numB s.data.toList) := HVV.out.2 (by rw [← hS, hq])
            have HN1 := hid (numB_val HN.out).1
            have HN2 := hid (HVW.out HN.out)
            subst hq
            clear hS
            go_wp2_with fail
            go_ret2
            exact ⟨by rw [HN1.out, HN2.out]; first | done | rfl, HB1.out⟩
          · have HNO := hid (numB_no (l := s.data.toList) (fun h => hq (bEq'.1 (by rw [hS]; exact HVV.out.1 h))))
            have hq2 : (S.toList == s.toList) = false := by
              cases h : (S.toList == s.toList) with
              | false => rfl
              | true => exact absurd (bEq.1 h) hq
            clear hS hq
            go_wp2_with fail
            go_ret2
            exact ⟨by rw [HNO.out.1, HNO.out.2]; first | done | rfl, HB1.out⟩
end Go.Proofs.YtldeiapikkebgaaGreatDoor

/- The document's Parse of complex fractions, of any text. (tools/mkgd2.py) -/
namespace Go.Proofs.YtldeiapikkebgaaGreatDoor
open Go.RowKit Go.Lib
set_option linter.unusedVariables false

set_option maxHeartbeats 1600000 in
set_option maxRecDepth 100000 in
theorem d4Parse_long (s : ByteArray) (w : World) (hs : 65536 < s.size) (hm : s.size ≤ 281474976710656) (L : Prop) (q1 q2 : Rat) : Calls Tryz.prog 30 #[.string s] w (GTold w 3 L q1 q2) := by
  have HX := hid (Box.made w 28 #[.bool false, .slice none 0 0, .slice none 0 0, .bool false, .slice none 0 0, .slice none 0 0])
  have HB := hid (alloc_later w (.cells #[.bool false, .slice none 0 0, .slice none 0 0, .bool false, .slice none 0 0, .slice none 0 0] 28))
  obtain ⟨X, hX⟩ : ∃ X, w.alloc (.cells #[.bool false, .slice none 0 0, .slice none 0 0, .bool false, .slice none 0 0, .slice none 0 0] 28) = X := ⟨_, rfl⟩
  rw [hX] at HX HB
  have m0 : X.cell? ⟨w.heap.size, 0, none⟩ = some (.bool false) := HX.out.cell 0
  have m1 : X.cell? ⟨w.heap.size, 1, none⟩ = some (.slice none 0 0) := HX.out.cell 1
  have m2 : X.cell? ⟨w.heap.size, 2, none⟩ = some (.slice none 0 0) := HX.out.cell 2
  have m3 : X.cell? ⟨w.heap.size, 3, none⟩ = some (.bool false) := HX.out.cell 3
  have m4 : X.cell? ⟨w.heap.size, 4, none⟩ = some (.slice none 0 0) := HX.out.cell 4
  have m5 : X.cell? ⟨w.heap.size, 5, none⟩ = some (.slice none 0 0) := HX.out.cell 5
  have f0 := HX.out.free 0
  have f1 := HX.out.free 1
  have f2 := HX.out.free 2
  have f3 := HX.out.free 3
  have f4 := HX.out.free 4
  have f5 := HX.out.free 5
  have hs' : (65536 : Int) < (s.size : Int) := by omega
  clear hs
  go_enter Tryz.func30, Tryz.ntmps30
  go_wp2_with fail
  have B1 := box_put6 HX.out (.bool false) (.slice none 0 0) (.slice none 0 0) (.bool false) (.slice none 0 0) (.slice none 0 0)
  have G1 := below_put6 HB.out w.heap.size (Nat.le_refl _) (.bool false) (.slice none 0 0) (.slice none 0 0) (.bool false) (.slice none 0 0) (.slice none 0 0)
  clear m0 m1 m2 m3 m4 m5 f0 f1 f2 f3 f4 f5
  exact bodyPost_ret (gres_run (by rfl) B1 _ rfl) rfl (gtoldc_zero (E := 3) (.inl ⟨by decide, rfl⟩) G1).told

set_option maxHeartbeats 3200000 in
set_option maxRecDepth 100000 in
theorem d4Parse_any (s : ByteArray) (w : World) (hm : s.size ≤ 281474976710656) : Calls Tryz.prog 30 #[.string s] w (GTold w (gpE s) (gplong s.data.toList) (rpq (gp1 s.data.toList)) (rpq (gp2 s.data.toList))) := by
  by_cases hs : 65536 < s.size
  · rw [gpE_long hs]
    exact d4Parse_long s w hs hm _ _ _
  have HX := hid (Box.made w 28 #[.bool false, .slice none 0 0, .slice none 0 0, .bool false, .slice none 0 0, .slice none 0 0])
  have HB := hid (alloc_later w (.cells #[.bool false, .slice none 0 0, .slice none 0 0, .bool false, .slice none 0 0, .slice none 0 0] 28))
  obtain ⟨X, hX⟩ : ∃ X, w.alloc (.cells #[.bool false, .slice none 0 0, .slice none 0 0, .bool false, .slice none 0 0, .slice none 0 0] 28) = X := ⟨_, rfl⟩
  rw [hX] at HX HB
  have hs' : ¬ (65536 : Int) < (s.size : Int) := by omega
  have HC := hid (d4blank_any s X (by omega))
  have hl : s.data.toList.length = s.size := Array.length_toList
  have HEB : Hid (¬ ggood s.data.toList → gpE s = 140) := gpE_bad (by omega)
  have HEG : Hid (ggood s.data.toList → gpE s = 0) := gpE_good (by omega)
  have HSZ := hid hs
  go_enter Tryz.func30, Tryz.ntmps30
  go_wp2_with fail
  refine Calls.mono HC.out ?_
  rintro e w1 ⟨r, rfl, HBL, hw1⟩
  subst hw1
  have hidx := bl_index HBL.out
  rcases HBL.out with ⟨hr, _⟩ | ⟨k, hr, hk, _, _⟩
  · subst hr
    have HE : Hid (gpE s = 140) := HEB.out (fun h => by
      have e2 : gp2 s.data.toList = [] := by unfold gp2 Lib.cut; rw [hidx, if_neg (by omega)]
      have h2 := h.2
      rw [e2] at h2
      exact absurd h2.1 (fun h3 => absurd h3.1 (by decide)))
    obtain ⟨m0, m1, m2, m3, m4, m5⟩ := Kl6.of HX.out
    have f0 := HX.out.free 0
    have f1 := HX.out.free 1
    have f2 := HX.out.free 2
    have f3 := HX.out.free 3
    have f4 := HX.out.free 4
    have f5 := HX.out.free 5
    clear hidx HC hl hs hX
    go_wp2_with fail
    have B1 := box_put6 HX.out (.bool false) (.slice none 0 0) (.slice none 0 0) (.bool false) (.slice none 0 0) (.slice none 0 0)
    have G1 := below_put6 HB.out w.heap.size (Nat.le_refl _) (.bool false) (.slice none 0 0) (.slice none 0 0) (.bool false) (.slice none 0 0) (.slice none 0 0)
    clear m0 m1 m2 m3 m4 m5 f0 f1 f2 f3 f4 f5
    refine bodyPost_ret (gres_run (by rfl) B1 _ rfl) rfl ?_
    rw [HE.out]
    exact (gtoldc_zero (E := 140) (.inl ⟨by decide, rfl⟩) G1).told
  subst hr
  have hz1 : (gp1 s.data.toList).length ≤ 65536 := by have h1 := (zcut_len s.data.toList 32).1; have h2 := HSZ.out; show (Lib.cut s.data.toList [32]).1.length ≤ _; omega
  have hz2 : (gp2 s.data.toList).length ≤ 65536 := by have h1 := (zcut_len s.data.toList 32).2; have h2 := HSZ.out; show (Lib.cut s.data.toList [32]).2.1.length ≤ _; omega
  have HGG : Hid (ggood s.data.toList ↔ (rgood (gp1 s.data.toList) ∧ rgood (gp2 s.data.toList))) := Iff.rfl
  have HLL : Hid (gplong s.data.toList ↔ (rlong (rpq (gp1 s.data.toList)) ∨ rlong (rpq (gp2 s.data.toList)))) := Iff.rfl
  obtain ⟨x1, x2, _⟩ := Lib.cutB_hit s ⟨#[32]⟩ k hidx
  have x1' : s.extract 0 k = ⟨(gp1 s.data.toList).toArray⟩ := x1.symm
  have x2' : s.extract (k + 1) s.size = ⟨(gp2 s.data.toList).toArray⟩ := x2.symm
  have hks : k < s.size := by omega
  clear x1 x2 hidx HC hl hs hk
  generalize gp1 s.data.toList = l1 at *
  generalize gp2 s.data.toList = l2 at *
  generalize ggood s.data.toList = GG at *
  generalize gplong s.data.toList = GL at *
  generalize gpE s = E at *
  have H1 : Hid (∀ V, Calls Tryz.prog 57 #[.string ⟨l1.toArray⟩] V (RTold V (prErr ⟨l1.toArray⟩) (rpq l1))) := fun V => by
    have hq : l1.toArray.size ≤ 65536 := by simpa using hz1
    have h := dparse_any ⟨l1.toArray⟩ V (by show l1.toArray.size ≤ _; omega)
    rw [show (⟨l1.toArray⟩ : ByteArray).data.toList = l1 by simp] at h
    exact h
  have H2 : Hid (∀ V, Calls Tryz.prog 57 #[.string ⟨l2.toArray⟩] V (RTold V (prErr ⟨l2.toArray⟩) (rpq l2))) := fun V => by
    have hq : l2.toArray.size ≤ 65536 := by simpa using hz2
    have h := dparse_any ⟨l2.toArray⟩ V (by show l2.toArray.size ≤ _; omega)
    rw [show (⟨l2.toArray⟩ : ByteArray).data.toList = l2 by simp] at h
    exact h
  have HP : Hid (∀ {n m : Bool} {xs ys us vs : List Int} {c1 c2 : Int}, RTells (prErr ⟨l1.toArray⟩) (rpq l1) n xs ys c1 → RTells (prErr ⟨l2.toArray⟩) (rpq l2) m us vs c2 → _) := fun h1 h2 => gpar_codes hz1 hz2 h1 h2
  generalize prErr ⟨l1.toArray⟩ = p1 at *
  generalize prErr ⟨l2.toArray⟩ = p2 at *
  generalize rpq l1 = q1 at *
  generalize rpq l2 = q2 at *
  generalize (rgood l1 ∧ rgood l2) = GD at *
  generalize l1.toArray = A1 at *
  generalize l2.toArray = A2 at *
  have hk1 : (k : Int) ≤ (s.size : Int) := by omega
  have hk2 : (k : Int) + 1 ≤ (s.size : Int) := by omega
  have hk0 : (0 : Int) ≤ (k : Int) := by omega
  have hw : IntKind.i64.wrap ((k : Int) + 1) = (k : Int) + 1 := by rw [IntKind.wrap_i64]; have := HSZ.out; omega
  have ht1 : ((k : Int) + 1).toNat = k + 1 := by omega
  have HW1 := hid HB.out
  have HR1 := hid HX.out
  clear hz1 hz2
  go_wp2_with fail
  refine Calls.mono (H1.out _) ?_
  rintro x w2 ⟨n, v, xs, u, ys, code1, rfl, ov1, ou1, ht1, hb2⟩
  obtain ⟨av1, cv1, rfl⟩ := own_slice' ov1
  obtain ⟨au1, cu1, rfl⟩ := own_slice' ou1
  have HW2 := hid (bt HW1.out hb2)
  have HR2 := hid (HR1.out.later hb2 HR1.out.lt)
  have HN := hid (Box.made w2 26 #[.bool n, .slice av1 xs.length cv1, .slice au1 ys.length cu1])
  have HNB := hid (alloc_later w2 (.cells #[.bool n, .slice av1 xs.length cv1, .slice au1 ys.length cu1] 26))
  obtain ⟨Z, hZ⟩ : ∃ Z, w2.alloc (.cells #[.bool n, .slice av1 xs.length cv1, .slice au1 ys.length cu1] 26) = Z := ⟨_, rfl⟩
  rw [hZ] at HN HNB
  have HV1 := hid ov1
  have HU1 := hid ou1
  have HT1 := hid ht1
  have h12 : X.heap.size ≤ w2.heap.size := hb2.size
  clear ov1 ou1 ht1 hb2 H1
  go_wp2_with fail
  refine Calls.mono (H2.out _) ?_
  rintro x w3 ⟨m, v, us, u, vs, code2, rfl, ov2, ou2, ht2, hb3⟩
  obtain ⟨av2, cv2, rfl⟩ := own_slice' ov2
  obtain ⟨au2, cu2, rfl⟩ := own_slice' ou2
  have HM := hid (Box.made w3 26 #[.bool m, .slice av2 us.length cv2, .slice au2 vs.length cu2])
  have HMB := hid (alloc_later w3 (.cells #[.bool m, .slice av2 us.length cv2, .slice au2 vs.length cu2] 26))
  obtain ⟨Q, hQ⟩ : ∃ Q, w3.alloc (.cells #[.bool m, .slice av2 us.length cv2, .slice au2 vs.length cu2] 26) = Q := ⟨_, rfl⟩
  rw [hQ] at HM HMB
  have hb2Q : Below w2.heap.size w2 Q := bt HNB.out (bt hb3 HMB.out)
  have HW3 := hid (bt HW2.out hb2Q)
  have HR3 := hid (HR2.out.later hb2Q HR2.out.lt)
  have HN3 := hid (HN.out.later (bt hb3 HMB.out) HN.out.lt)
  have HOO := hid (And.intro (owns_later HV1.out hb2Q) (And.intro (owns_later HU1.out hb2Q) (And.intro (owns_later ov2 HMB.out) (owns_later ou2 HMB.out))))
  have HTT := hid (HP.out HT1.out ht2)
  have HWD := hid (And.intro HT1.out.wx (And.intro HT1.out.wy (And.intro ht2.wx ht2.wy)))
  have hsz1 : w.heap.size ≤ X.heap.size := HW1.out.size
  have hszZ : w2.heap.size ≤ Z.heap.size := HNB.out.size
  clear ov2 ou2 ht2 H2 HP hb2Q hb3 HT1
  have m0 : Q.cell? ⟨w.heap.size, 0, none⟩ = some (.bool false) := HR3.out.cell 0
  have m1 : Q.cell? ⟨w.heap.size, 1, none⟩ = some (.slice none 0 0) := HR3.out.cell 1
  have m2 : Q.cell? ⟨w.heap.size, 2, none⟩ = some (.slice none 0 0) := HR3.out.cell 2
  have m3 : Q.cell? ⟨w.heap.size, 3, none⟩ = some (.bool false) := HR3.out.cell 3
  have m4 : Q.cell? ⟨w.heap.size, 4, none⟩ = some (.slice none 0 0) := HR3.out.cell 4
  have m5 : Q.cell? ⟨w.heap.size, 5, none⟩ = some (.slice none 0 0) := HR3.out.cell 5
  have f0 := HR3.out.free 0
  have f1 := HR3.out.free 1
  have f2 := HR3.out.free 2
  have f3 := HR3.out.free 3
  have f4 := HR3.out.free 4
  have f5 := HR3.out.free 5
  rcases HTT.out with ⟨rfl, hg⟩ | ⟨d1, rfl, hg⟩ | ⟨hg, rfl, d2, hL⟩ | ⟨hg, rfl, rfl, hL⟩ | ⟨hg, rfl, rfl, hL, hk⟩
  · have HE := hid (HEB.out (fun h => hg (HGG.out.1 h)))
    clear HTT
    go_wp2_with fail
    have B1 := box_put6 HR3.out (.bool false) (.slice none 0 0) (.slice none 0 0) (.bool false) (.slice none 0 0) (.slice none 0 0)
    have G1 := below_put6 HW3.out w.heap.size (Nat.le_refl _) (.bool false) (.slice none 0 0) (.slice none 0 0) (.bool false) (.slice none 0 0) (.slice none 0 0)
    clear m0 m1 m2 m3 m4 m5 f0 f1 f2 f3 f4 f5
    exact bodyPost_ret (gres_run (by rfl) B1 _ rfl) rfl (gtoldc_zero (E := E) (.inl ⟨by rw [HE.out]; decide, HE.out.symm⟩) G1).told
  · have HE := hid (HEB.out (fun h => hg (HGG.out.1 h)))
    have d1' : (code1 == 130) = false := by simp [d1]
    clear d1
    clear HTT
    go_wp2_with fail
    have B1 := box_put6 HR3.out (.bool false) (.slice none 0 0) (.slice none 0 0) (.bool false) (.slice none 0 0) (.slice none 0 0)
    have G1 := below_put6 HW3.out w.heap.size (Nat.le_refl _) (.bool false) (.slice none 0 0) (.slice none 0 0) (.bool false) (.slice none 0 0) (.slice none 0 0)
    clear m0 m1 m2 m3 m4 m5 f0 f1 f2 f3 f4 f5
    exact bodyPost_ret (gres_run (by rfl) B1 _ rfl) rfl (gtoldc_zero (E := E) (.inl ⟨by rw [HE.out]; decide, HE.out.symm⟩) G1).told
  · have HE := hid (HEG.out (HGG.out.2 hg))
    have d2' : (code2 == 130) = false := by simp [d2]
    have HLo := hid (HLL.out.2 hL)
    clear d2 hL hg
    clear HTT
    go_wp2_with fail
    have B1 := box_put6 HR3.out (.bool false) (.slice none 0 0) (.slice none 0 0) (.bool false) (.slice none 0 0) (.slice none 0 0)
    have G1 := below_put6 HW3.out w.heap.size (Nat.le_refl _) (.bool false) (.slice none 0 0) (.slice none 0 0) (.bool false) (.slice none 0 0) (.slice none 0 0)
    clear m0 m1 m2 m3 m4 m5 f0 f1 f2 f3 f4 f5
    exact bodyPost_ret (gres_run (by rfl) B1 _ rfl) rfl (gtoldc_zero (E := E) (.inr ⟨HE.out, HLo.out, rfl⟩) G1).told
  · have HE := hid (HEG.out (HGG.out.2 hg))
    have HLo := hid (HLL.out.2 hL)
    clear hL hg
    clear HTT
    go_wp2_with fail
    have B1 := box_put6 HR3.out (.bool false) (.slice none 0 0) (.slice none 0 0) (.bool false) (.slice none 0 0) (.slice none 0 0)
    have G1 := below_put6 HW3.out w.heap.size (Nat.le_refl _) (.bool false) (.slice none 0 0) (.slice none 0 0) (.bool false) (.slice none 0 0) (.slice none 0 0)
    clear m0 m1 m2 m3 m4 m5 f0 f1 f2 f3 f4 f5
    exact bodyPost_ret (gres_run (by rfl) B1 _ rfl) rfl (gtoldc_zero (E := E) (.inr ⟨HE.out, HLo.out, rfl⟩) G1).told
  · have HE := hid (HEG.out (HGG.out.2 hg))
    have HLo := hid (fun h => hL (HLL.out.1 h))
    have HKK := hid hk
    have ka0 : Q.cell? ⟨w2.heap.size, 0, none⟩ = some (.bool n) := HN3.out.cell 0
    have ka1 : Q.cell? ⟨w2.heap.size, 1, none⟩ = some (.slice av1 xs.length cv1) := HN3.out.cell 1
    have ka2 : Q.cell? ⟨w2.heap.size, 2, none⟩ = some (.slice au1 ys.length cu1) := HN3.out.cell 2
    have kb0 : Q.cell? ⟨w3.heap.size, 0, none⟩ = some (.bool m) := HM.out.cell 0
    have kb1 : Q.cell? ⟨w3.heap.size, 1, none⟩ = some (.slice av2 us.length cv2) := HM.out.cell 1
    have kb2 : Q.cell? ⟨w3.heap.size, 2, none⟩ = some (.slice au2 vs.length cu2) := HM.out.cell 2
    clear HTT hL hk hg
    go_wp2_with fail
    have B1 := box_put6 HR3.out (.bool n) (.slice av1 xs.length cv1) (.slice au1 ys.length cu1) (.bool m) (.slice av2 us.length cv2) (.slice au2 vs.length cu2)
    have G1 := below_put6 HW3.out w.heap.size (Nat.le_refl _) (.bool n) (.slice av1 xs.length cv1) (.slice au1 ys.length cu1) (.bool m) (.slice av2 us.length cv2) (.slice au2 vs.length cu2)
    have hwX : w.heap.size < X.heap.size := HX.out.lt
    have hX1 : w.heap.size < X.heap.size := HR1.out.lt
    have hput : ∀ {base k : Nat} {v : Value} {l : List Value}, Q.ownsRow base 94 1 v k l → (∀ g, v.ownBlock = some g → X.heap.size ≤ g) → ((((((Q.setCell ⟨w.heap.size, 0, none⟩ (.bool n)).setCell ⟨w.heap.size, 1, none⟩ (.slice av1 xs.length cv1)).setCell ⟨w.heap.size, 2, none⟩ (.slice au1 ys.length cu1)).setCell ⟨w.heap.size, 3, none⟩ (.bool m)).setCell ⟨w.heap.size, 4, none⟩ (.slice av2 us.length cv2)).setCell ⟨w.heap.size, 5, none⟩ (.slice au2 vs.length cu2)).ownsRow base 94 1 v k l := fun h hb => own_put6 h _ (fun g hg => by have := hb g hg; omega) _ _ _ _ _ _
    clear m0 m1 m2 m3 m4 m5 f0 f1 f2 f3 f4 f5
    refine bodyPost_ret (gres_run (by rfl) B1 _ rfl) rfl ?_
    have hszQ : w.heap.size ≤ Z.heap.size := by omega
    refine ⟨n, av1, cv1, xs, au1, cu1, ys, m, av2, cv2, us, au2, cu2, vs, 0, rfl, ⟨owns_base (hput HOO.out.1 (fun g hg => (HOO.out.1.lt g hg).1)) hsz1, owns_base (hput HOO.out.2.1 (fun g hg => (HOO.out.2.1.lt g hg).1)) hsz1, owns_base (hput HOO.out.2.2.1 (fun g hg => by have := (HOO.out.2.2.1.lt g hg).1; omega)) hszQ, owns_base (hput HOO.out.2.2.2 (fun g hg => by have := (HOO.out.2.2.2.lt g hg).1; omega)) hszQ⟩, ⟨HWD.out, fun h => absurd HE.out h, fun _ h => absurd h HLo.out, fun _ _ => ⟨rfl, HKK.out⟩⟩, G1⟩
end Go.Proofs.YtldeiapikkebgaaGreatDoor

/- The document's Parse of layer 13, of every text. (tools/mkqg7.py) -/
namespace Go.Proofs.YtldeiapikkebgaaGreatDoor
open Go.RowKit Go.Lib
set_option linter.unusedVariables false
set_option linter.unusedSimpArgs false

def TTS (w : World) (E : Int) (L : Prop) (l : List UInt8) (f r : Int) (q1 q2 : Rat) (x : Ending) (w' : World) : Prop :=
  ∃ S F R n a ca xs b cb ys m c cc us d cd vs code, x = .returned (.tuple #[.agg #[.string S, .int .i32 F, .int .i32 R, .bool n, .slice a (List.length xs) ca, .slice b (List.length ys) cb, .bool m, .slice c (List.length us) cc, .slice d (List.length vs) cd], .int .i64 code]) ∧ Hid (Sl w' (.slice a (List.length xs) ca) xs ∧ Sl w' (.slice b (List.length ys) cb) ys ∧ Sl w' (.slice c (List.length us) cc) us ∧ Sl w' (.slice d (List.length vs) cd) vs) ∧ Hid (TTells E L l f r q1 q2 S F R n xs ys m us vs code) ∧ Hid (Below w.heap.size w w')
theorem tts_zero {w W : World} {E : Int} {L : Prop} {l : List UInt8} {f r : Int} {q1 q2 : Rat} {code : Int} (h : E ≠ 0 ∧ code = E ∨ E = 0 ∧ L ∧ code = 3) (hb : Below w.heap.size w W) : TTS w E L l f r q1 q2 (.returned (.tuple #[.agg #[.string ⟨#[]⟩, .int .i32 0, .int .i32 0, .bool false, .slice none 0 0, .slice none 0 0, .bool false, .slice none 0 0, .slice none 0 0], .int .i64 code])) W := by
  have hc : code ≠ 0 := by rcases h with h | h <;> omega
  refine ⟨⟨#[]⟩, 0, 0, false, none, 0, [], none, 0, [], false, none, 0, [], none, 0, [], code, rfl, ⟨Sl.own (World.ownsRow_nil W W.heap.size 94 1) Wd.nil, Sl.own (World.ownsRow_nil W W.heap.size 94 1) Wd.nil, Sl.own (World.ownsRow_nil W W.heap.size 94 1) Wd.nil, Sl.own (World.ownsRow_nil W W.heap.size 94 1) Wd.nil⟩, ⟨⟨⟨Wd.nil, Wd.nil, Wd.nil, Wd.nil⟩, fun he => ⟨⟨rfl, rfl, rfl, rfl, rfl, rfl⟩, ?_⟩, fun he hl => ⟨⟨rfl, rfl, rfl, rfl, rfl, rfl⟩, ?_⟩, fun he hl => ?_⟩, fun _ => ⟨rfl, rfl, rfl⟩, fun e => absurd e hc⟩, hb⟩
  · rcases h with h | h
    · exact h.2
    · exact absurd h.1 he
  · rcases h with h | h
    · exact absurd he h.1
    · exact h.2.2
  · rcases h with h | h
    · exact absurd he h.1
    · exact absurd h.2.1 hl
theorem qown13 {w6 V : World} {base k : Nat} {v : Value} {l : List Value} (h : w6.ownsRow base 94 1 v k l) (hb : Below w6.heap.size w6 V) : V.ownsRow base 94 1 v k l := owns_later h hb
theorem tres13_run {fn : Func} {W : World} {b q u : Nat} {cs : Array Value} (hr : fn.results = #[.cell q 30, .tmp u]) (hb : Box W b 30 cs) (tmps : Array Value) (h4 : tmps.getD q undef = .pointer (some ⟨b, 0, none⟩)) (hi : (Tryz.prog.info? 30).map (·.size) = some cs.size := by kernel_rfl) : (results fn tmps).run Tryz.prog W = .ok (.tuple #[.agg cs, tmps.getD u undef]) W := by
  have h := run_loadVar_row (P := Tryz.prog) W b 30 30 cs (0, 0) _ hb Tryz.underlying30 rfl hi
  rw [results_cell_tmp hr, h4]
  simp [asAddr, h]
theorem tzero9 {W : World} {b t : Nat} (h : Box W b t #[.string ⟨#[]⟩, .int .i32 0, .int .i32 0, .bool false, .slice none 0 0, .slice none 0 0, .bool false, .slice none 0 0, .slice none 0 0]) : (W.setCell ⟨b, 0, none⟩ (.string ⟨#[]⟩) = W ∧ W.setCell ⟨b, 1, none⟩ (.int .i32 0) = W ∧ W.setCell ⟨b, 2, none⟩ (.int .i32 0) = W ∧ W.setCell ⟨b, 3, none⟩ (.bool false) = W ∧ W.setCell ⟨b, 4, none⟩ (.slice none 0 0) = W ∧ W.setCell ⟨b, 5, none⟩ (.slice none 0 0) = W ∧ W.setCell ⟨b, 6, none⟩ (.bool false) = W ∧ W.setCell ⟨b, 7, none⟩ (.slice none 0 0) = W ∧ W.setCell ⟨b, 8, none⟩ (.slice none 0 0) = W) ∧ (W.cell? ⟨b, 0, none⟩ = some (.string ⟨#[]⟩) ∧ W.cell? ⟨b, 1, none⟩ = some (.int .i32 0) ∧ W.cell? ⟨b, 2, none⟩ = some (.int .i32 0) ∧ W.cell? ⟨b, 3, none⟩ = some (.bool false) ∧ W.cell? ⟨b, 4, none⟩ = some (.slice none 0 0) ∧ W.cell? ⟨b, 5, none⟩ = some (.slice none 0 0) ∧ W.cell? ⟨b, 6, none⟩ = some (.bool false) ∧ W.cell? ⟨b, 7, none⟩ = some (.slice none 0 0) ∧ W.cell? ⟨b, 8, none⟩ = some (.slice none 0 0)) ∧ (W.frozen? ⟨b, 0, none⟩ = false ∧ W.frozen? ⟨b, 1, none⟩ = false ∧ W.frozen? ⟨b, 2, none⟩ = false ∧ W.frozen? ⟨b, 3, none⟩ = false ∧ W.frozen? ⟨b, 4, none⟩ = false ∧ W.frozen? ⟨b, 5, none⟩ = false ∧ W.frozen? ⟨b, 6, none⟩ = false ∧ W.frozen? ⟨b, 7, none⟩ = false ∧ W.frozen? ⟨b, 8, none⟩ = false) :=
  ⟨⟨h.same rfl, h.same rfl, h.same rfl, h.same rfl, h.same rfl, h.same rfl, h.same rfl, h.same rfl, h.same rfl⟩, ⟨h.cell 0, h.cell 1, h.cell 2, h.cell 3, h.cell 4, h.cell 5, h.cell 6, h.cell 7, h.cell 8⟩, h.free 0, h.free 1, h.free 2, h.free 3, h.free 4, h.free 5, h.free 6, h.free 7, h.free 8⟩
theorem dcutT (s : ByteArray) (w : World) (hs : s.size ≤ 65536) : Calls Tryz.prog 28 #[.string s] w fun e w' => ∃ (a r : ByteArray) (b : Bool), e = .returned (.tuple #[.string a, .string r, .bool b]) ∧ a.data.toList = tword s.data.toList ∧ r.data.toList = trest s.data.toList ∧ (b = false → trest s.data.toList = []) ∧ a.size ≤ 65536 ∧ r.size ≤ 65536 ∧ Below w.heap.size w w' := by
  refine Calls.mono (dcut13_any s w hs) ?_
  rintro e w' ⟨rfl, hb⟩
  have h := zcut_len s.data.toList 32
  have hl : s.data.toList.length = s.size := Array.length_toList
  refine ⟨_, _, _, rfl, rfl, rfl, fun hf => ?_, ?_, ?_, hb⟩
  · rcases tcut_parts s.data.toList with ⟨h1, _⟩ | h1
    · rw [hf] at h1; cases h1
    · exact h1
  · show (Lib.cut s.data.toList [32]).1.toArray.size ≤ _
    rw [List.size_toArray]; omega
  · show (Lib.cut s.data.toList [32]).2.1.toArray.size ≤ _
    rw [List.size_toArray]; omega
set_option maxHeartbeats 12800000 in
set_option maxRecDepth 100000 in
theorem dParse13_any (s : ByteArray) (w : World) : Calls Tryz.prog 9 #[.string s] w (TTS w (tpE s) (gplong (trest (trest (trest s.data.toList)))) (tword s.data.toList) (tnumV (tword (trest s.data.toList))) (tnumV (tword (trest (trest s.data.toList)))) (rpq (gp1 (trest (trest (trest s.data.toList))))) (rpq (gp2 (trest (trest (trest s.data.toList)))))) := by
  obtain ⟨X, hX⟩ : ∃ X, w.alloc (.cells #[.string ⟨#[]⟩, .int .i32 0, .int .i32 0, .bool false, .slice none 0 0, .slice none 0 0, .bool false, .slice none 0 0, .slice none 0 0] 30) = X := ⟨_, rfl⟩
  have HX : Hid (Box X w.heap.size 30 #[.string ⟨#[]⟩, .int .i32 0, .int .i32 0, .bool false, .slice none 0 0, .slice none 0 0, .bool false, .slice none 0 0, .slice none 0 0]) := by
    subst hX
    exact Box.made w _ _
  have HB : Hid (Below w.heap.size w X) := by
    subst hX
    exact alloc_later _ _
  by_cases hlong : 65536 < s.size
  · have hl' : (65536 : Int) < (s.size : Int) := by omega
    have HE : Hid (tpE s ≠ 0 ∧ 3 = tpE s) := by
      rw [tpE_long hlong]
      exact ⟨by decide, rfl⟩
    clear hlong
    go_enter Tryz.func9, Tryz.ntmps9
    obtain ⟨⟨s0, s1, s2, s3, s4, s5, s6, s7, s8⟩, ⟨x0, x1, x2, x3, x4, x5, x6, x7, x8⟩, ⟨u0, u1, u2, u3, u4, u5, u6, u7, u8⟩⟩ := tzero9 HX.out
    go_wp2_with fail
    exact bodyPost_ret (tres13_run (by rfl) HX.out _ rfl) rfl (tts_zero (.inl HE.out) HB.out)
  have hl' : ¬ (65536 : Int) < (s.size : Int) := by omega
  have HSZ : Hid (s.size ≤ 65536) := by show _ ≤ _; omega
  have HBAD : Hid (¬ tgood s.data.toList → tpE s = 230) := fun h => tpE_bad HSZ.out h
  have HGOOD : Hid (tgood s.data.toList → tpE s = ochk (tnumV (tword (trest s.data.toList))) (tnumV (tword (trest (trest s.data.toList))))) := fun h => tpE_good HSZ.out h
  have HC1 := hid (dcutT s X HSZ.out)
  clear hlong
  go_enter Tryz.func9, Tryz.ntmps9
  go_wp2_with fail
  refine Calls.mono HC1.out ?_
  rintro e w1 ⟨a1, r1, o1, rfl, h1, h2, h3, z1, z2, b1⟩
  have HC2 := hid (dcutT r1 w1 z2)
  have HA1 := hid h1
  have HR1 := hid h2
  have HO1 := hid h3
  clear h1 h2 h3 HC1
  go_wp2_with fail
  refine Calls.mono HC2.out ?_
  rintro e w2 ⟨a2, r2, o2, rfl, h1, h2, h3, z3, z4, b2⟩
  have HC3 := hid (dcutT r2 w2 z4)
  have HA2 := hid h1
  have HR2 := hid h2
  have HO2 := hid h3
  clear h1 h2 h3 HC2
  go_wp2_with fail
  refine Calls.mono HC3.out ?_
  rintro e w3 ⟨a3, r3, o3, rfl, h1, h2, h3, z5, z6, b3⟩
  have HA3 := hid h1
  have HR3 := hid h2
  have HO3 := hid h3
  have HN4 := hid (dnum13_any a2 w3 z3)
  clear h1 h2 h3 HC3
  obtain ⟨v4, hv4⟩ : ∃ v, tnumV a2.data.toList = v := ⟨_, rfl⟩
  obtain ⟨k4, hk4⟩ : ∃ v, tnumOk a2.data.toList = v := ⟨_, rfl⟩
  obtain ⟨v5, hv5⟩ : ∃ v, tnumV a3.data.toList = v := ⟨_, rfl⟩
  obtain ⟨k5, hk5⟩ : ∃ v, tnumOk a3.data.toList = v := ⟨_, rfl⟩
  have hi4 := tnumV_in a2.data.toList
  have hi5 := tnumV_in a3.data.toList
  rw [hv4] at hi4
  rw [hv5] at hi5
  rw [hv4, hk4] at HN4
  have HV4 := hid hv4
  have HK4 := hid hk4
  have HV5 := hid hv5
  have HK5 := hid hk5
  clear hv4 hk4
  go_wp2_with fail
  refine Calls.mono HN4.out ?_
  rintro e w4 ⟨rfl, b4⟩
  have HN5 := hid (dnum13_any a3 w4 z5)
  rw [hv5, hk5] at HN5
  clear hv5 hk5 HN4
  go_wp2_with fail
  refine Calls.mono HN5.out ?_
  rintro e w5 ⟨rfl, b5⟩
  have HPP := hid (d4Parse_any r3 w5 (by omega))
  clear HN5
  go_wp2_with fail
  refine Calls.mono HPP.out ?_
  rintro e w6 ⟨n, a, ca, xs, b, cb, ys, m, c, cc, us, d, cd, vs, code, rfl, ow, gt, b6⟩
  have HGT := hid (gpar_or z6 gt)
  have HSL : Hid (Sl w6 (.slice a xs.length ca) xs ∧ Sl w6 (.slice b ys.length cb) ys ∧ Sl w6 (.slice c us.length cc) us ∧ Sl w6 (.slice d vs.length cd) vs) := ⟨Sl.own ow.1 gt.wd.1, Sl.own ow.2.1 gt.wd.2.1, Sl.own ow.2.2.1 gt.wd.2.2.1, Sl.own ow.2.2.2 gt.wd.2.2.2⟩
  have HOW := hid ow
  have HWD := hid gt.wd
  have HLB : Hid (w.heap.size < w5.heap.size) := by
    have h1 := HX.out.lt
    have h2 := (bt b1 (bt b2 (bt b3 (bt b4 b5)))).size
    show _ < _
    omega
  have HB6 := hid (bt HB.out (bt b1 (bt b2 (bt b3 (bt b4 (bt b5 b6))))))
  have HX6 := hid (HX.out.later (bt b1 (bt b2 (bt b3 (bt b4 (bt b5 b6))))) HX.out.lt)
  have HR3L : Hid (r3.data.toList = trest (trest (trest s.data.toList))) := by show _ = _; rw [HR3.out, HR2.out, HR1.out]
  have HA2L : Hid (a2.data.toList = tword (trest s.data.toList)) := by show _ = _; rw [HA2.out, HR1.out]
  have HA3L : Hid (a3.data.toList = tword (trest (trest s.data.toList))) := by show _ = _; rw [HA3.out, HR2.out, HR1.out]
  obtain ⟨Y, hY⟩ : ∃ Y, w6.alloc (.cells #[.bool n, .slice a xs.length ca, .slice b ys.length cb, .bool m, .slice c us.length cc, .slice d vs.length cd] 28) = Y := ⟨_, rfl⟩
  have HG : Hid (Box Y w6.heap.size 28 #[.bool n, .slice a xs.length ca, .slice b ys.length cb, .bool m, .slice c us.length cc, .slice d vs.length cd]) := by
    subst hY
    exact Box.made w6 _ _
  have HBY : Hid (Below w6.heap.size w6 Y) := by
    subst hY
    exact alloc_later _ _
  have HXY := hid (HX6.out.later HBY.out HX6.out.lt)
  have HBW := hid (bt HB6.out HBY.out)
  have hw6 : w.heap.size < w6.heap.size := HX6.out.lt
  have HNM := hid (dName_any a1 Y (by omega))
  obtain ⟨kn, hkn⟩ : ∃ v, tname a1.data.toList = v := ⟨_, rfl⟩
  rw [hkn] at HNM
  have HKN := hid hkn
  clear hkn b1 b2 b3 b4 b5 b6 ow gt HX HB HPP HX6 HB6
  have W230 : Hid (¬ tgood s.data.toList → tpE s ≠ 0 ∧ 230 = tpE s) := fun h => by rw [HBAD.out h]; exact ⟨by decide, rfl⟩
  cases o1 with
  | false =>
    have HNG : Hid (¬ tgood s.data.toList) := fun h => by have q := h.2.1; rw [HO1.out rfl, tword_nil, tnum_nil] at q; cases q
    obtain ⟨⟨s0, s1, s2, s3, s4, s5, s6, s7, s8⟩, ⟨x0, x1, x2, x3, x4, x5, x6, x7, x8⟩, ⟨u0, u1, u2, u3, u4, u5, u6, u7, u8⟩⟩ := tzero9 HXY.out
    go_wp2_with fail
    exact bodyPost_ret (tres13_run (by rfl) HXY.out _ rfl) rfl (tts_zero (.inl (W230.out HNG.out)) HBW.out)
  | true =>
    cases o2 with
    | false =>
      have HNG : Hid (¬ tgood s.data.toList) := fun h => by have q := h.2.2.1; have e := HO2.out rfl; rw [HR1.out] at e; rw [e, tword_nil, tnum_nil] at q; cases q
      obtain ⟨⟨s0, s1, s2, s3, s4, s5, s6, s7, s8⟩, ⟨x0, x1, x2, x3, x4, x5, x6, x7, x8⟩, ⟨u0, u1, u2, u3, u4, u5, u6, u7, u8⟩⟩ := tzero9 HXY.out
      go_wp2_with fail
      exact bodyPost_ret (tres13_run (by rfl) HXY.out _ rfl) rfl (tts_zero (.inl (W230.out HNG.out)) HBW.out)
    | true =>
      cases o3 with
      | false =>
        have HNG : Hid (¬ tgood s.data.toList) := fun h => by have q := h.2.2.2.1; have e := HO3.out rfl; rw [HR2.out, HR1.out] at e; rw [e] at q; have e2 : gp1 ([] : List UInt8) = [] := tword_nil; rw [e2] at q; exact rgood_nil q
        obtain ⟨⟨s0, s1, s2, s3, s4, s5, s6, s7, s8⟩, ⟨x0, x1, x2, x3, x4, x5, x6, x7, x8⟩, ⟨u0, u1, u2, u3, u4, u5, u6, u7, u8⟩⟩ := tzero9 HXY.out
        go_wp2_with fail
        exact bodyPost_ret (tres13_run (by rfl) HXY.out _ rfl) rfl (tts_zero (.inl (W230.out HNG.out)) HBW.out)
      | true =>
        cases k4 with
        | false =>
          have HNG : Hid (¬ tgood s.data.toList) := fun h => by have q := h.2.1; rw [← HA2L.out, HK4.out] at q; cases q
          obtain ⟨⟨s0, s1, s2, s3, s4, s5, s6, s7, s8⟩, ⟨x0, x1, x2, x3, x4, x5, x6, x7, x8⟩, ⟨u0, u1, u2, u3, u4, u5, u6, u7, u8⟩⟩ := tzero9 HXY.out
          go_wp2_with fail
          exact bodyPost_ret (tres13_run (by rfl) HXY.out _ rfl) rfl (tts_zero (.inl (W230.out HNG.out)) HBW.out)
        | true =>
          cases k5 with
          | false =>
            have HNG : Hid (¬ tgood s.data.toList) := fun h => by have q := h.2.2.1; rw [← HA3L.out, HK5.out] at q; cases q
            obtain ⟨⟨s0, s1, s2, s3, s4, s5, s6, s7, s8⟩, ⟨x0, x1, x2, x3, x4, x5, x6, x7, x8⟩, ⟨u0, u1, u2, u3, u4, u5, u6, u7, u8⟩⟩ := tzero9 HXY.out
            go_wp2_with fail
            exact bodyPost_ret (tres13_run (by rfl) HXY.out _ rfl) rfl (tts_zero (.inl (W230.out HNG.out)) HBW.out)
          | true =>
            go_wp2_with fail
            refine Calls.mono HNM.out ?_
            rintro e w7 ⟨rfl, rfl⟩
            cases kn with
            | false =>
              have HNG : Hid (¬ tgood s.data.toList) := fun h => by have q := h.1; rw [← HA1.out, HKN.out] at q; cases q
              obtain ⟨⟨s0, s1, s2, s3, s4, s5, s6, s7, s8⟩, ⟨x0, x1, x2, x3, x4, x5, x6, x7, x8⟩, ⟨u0, u1, u2, u3, u4, u5, u6, u7, u8⟩⟩ := tzero9 HXY.out
              go_wp2_with fail
              exact bodyPost_ret (tres13_run (by rfl) HXY.out _ rfl) rfl (tts_zero (.inl (W230.out HNG.out)) HBW.out)
            | true =>
              rcases HGT.out with ⟨hc, hng⟩ | hgg
              · have HNN := hid hng
                subst hc
                have HNG : Hid (¬ tgood s.data.toList) := fun h => HNN.out (by have q := h.2.2.2; rw [← HR3L.out] at q; exact q)
                obtain ⟨⟨s0, s1, s2, s3, s4, s5, s6, s7, s8⟩, ⟨x0, x1, x2, x3, x4, x5, x6, x7, x8⟩, ⟨u0, u1, u2, u3, u4, u5, u6, u7, u8⟩⟩ := tzero9 HXY.out
                go_wp2_with fail
                exact bodyPost_ret (tres13_run (by rfl) HXY.out _ rfl) rfl (tts_zero (.inl (W230.out HNG.out)) HBW.out)
              · have HGD : Hid (tgood s.data.toList) := by
                  refine ⟨by rw [← HA1.out]; exact HKN.out, by rw [← HA2L.out]; exact HK4.out, by rw [← HA3L.out]; exact HK5.out, ?_⟩
                  rw [← HR3L.out]
                  rcases hgg with h | h
                  · exact h.1
                  · exact h.1
                have HGG := hid hgg
                have hc140 : code = 3 ∨ code = 0 := by
                  rcases hgg with h | h
                  · exact .inl h.2.2
                  · exact .inr h.2.2.1
                have hcn : (code == 140) = false := by rcases hc140 with rfl | rfl <;> rfl
                have HE2 := hid (HGOOD.out HGD.out)
                rw [← HA2L.out, ← HA3L.out, HV4.out, HV5.out] at HE2
                obtain ⟨V, hV⟩ : ∃ V, Y.alloc (.cells #[.int .i32 v4, .int .i32 v5] 23) = V := ⟨_, rfl⟩
                have HRB : Hid (Box V Y.heap.size 23 #[.int .i32 v4, .int .i32 v5]) := by
                  subst hV
                  exact Box.made Y _ _
                have HBV : Hid (Below Y.heap.size Y V) := by
                  subst hV
                  exact alloc_later _ _
                have HPC := hid (pcheck_any v4 v5 V ⟨by omega, by omega⟩)
                have HXV := hid (HXY.out.later HBV.out HXY.out.lt)
                have HGV := hid (HG.out.later HBV.out HG.out.lt)
                have HBZ := hid (bt HBW.out HBV.out)
                have y0 : V.cell? ⟨Y.heap.size, 0, none⟩ = some (.int .i32 v4) := HRB.out.cell 0
                have y1 : V.cell? ⟨Y.heap.size, 1, none⟩ = some (.int .i32 v5) := HRB.out.cell 1
                clear hgg hi4 hi5
                go_wp2_with fail
                refine Calls.mono HPC.out ?_
                rintro e w8 ⟨rfl, b8⟩
                have HX8 := hid (HXV.out.later b8 HXV.out.lt)
                have HG8 := hid (HGV.out.later b8 HGV.out.lt)
                have HR8 := hid (HRB.out.later b8 HRB.out.lt)
                have HB8 := hid (bt HBZ.out b8)
                have HBL := hid (bt HBY.out (bt HBV.out b8))
                clear b8 y0 y1 HPC HXV HGV HRB HBZ HXY HG HBW
                obtain ⟨E, hE⟩ : ∃ E, ochk v4 v5 = E := ⟨_, rfl⟩
                rw [hE] at HE2 ⊢
                clear hE
                by_cases h0 : E = 0
                · subst h0
                  rcases hc140 with rfl | rfl
                  · have HLL : Hid (tpE s = 0 ∧ gplong (trest (trest (trest s.data.toList)))) := by
                      refine ⟨HE2.out, ?_⟩
                      rcases HGG.out with h | h
                      · rw [← HR3L.out]; exact h.2.1
                      · exact absurd h.2.2.1 (by decide)
                    obtain ⟨⟨s0, s1, s2, s3, s4, s5, s6, s7, s8⟩, ⟨x0, x1, x2, x3, x4, x5, x6, x7, x8⟩, ⟨u0, u1, u2, u3, u4, u5, u6, u7, u8⟩⟩ := tzero9 HX8.out
                    go_wp2_with fail
                    exact bodyPost_ret (tres13_run (by rfl) HX8.out _ rfl) rfl (tts_zero (.inr ⟨HLL.out.1, HLL.out.2, rfl⟩) HB8.out)
                  · have HTT : Hid (TTells (tpE s) (gplong (trest (trest (trest s.data.toList)))) (tword s.data.toList) (tnumV (tword (trest s.data.toList))) (tnumV (tword (trest (trest s.data.toList)))) (rpq (gp1 (trest (trest (trest s.data.toList))))) (rpq (gp2 (trest (trest (trest s.data.toList))))) a1 v4 v5 n xs ys m us vs 0) := by
                      rcases HGG.out with h | ⟨_, _, _, h⟩
                      · exact absurd h.2.2 (by decide)
                      · have hn := h
                        rw [HR3L.out] at hn
                        show TTells _ _ _ _ _ _ _ _ _ _ _ _ _ _ _ _ _
                        rw [HE2.out]
                        exact ⟨hn, fun h => absurd rfl h, fun _ => ⟨HA1.out, by rw [← HA2L.out, HV4.out], by rw [← HA3L.out, HV5.out]⟩⟩
                    have g0 : w8.cell? ⟨w6.heap.size, 0, none⟩ = some (.bool n) := HG8.out.cell 0
                    have g1 : w8.cell? ⟨w6.heap.size, 1, none⟩ = some (.slice a xs.length ca) := HG8.out.cell 1
                    have g2 : w8.cell? ⟨w6.heap.size, 2, none⟩ = some (.slice b ys.length cb) := HG8.out.cell 2
                    have g3 : w8.cell? ⟨w6.heap.size, 3, none⟩ = some (.bool m) := HG8.out.cell 3
                    have g4 : w8.cell? ⟨w6.heap.size, 4, none⟩ = some (.slice c us.length cc) := HG8.out.cell 4
                    have g5 : w8.cell? ⟨w6.heap.size, 5, none⟩ = some (.slice d vs.length cd) := HG8.out.cell 5
                    have y0 : w8.cell? ⟨Y.heap.size, 0, none⟩ = some (.int .i32 v4) := HR8.out.cell 0
                    have y1 : w8.cell? ⟨Y.heap.size, 1, none⟩ = some (.int .i32 v5) := HR8.out.cell 1
                    obtain ⟨A0, A1, A2, A3, A4, A5, A6, A7, A8, q0, q1, q2, q3, q4, q5, q6, q7, q8, ⟨p0, p1, p2, p3, p4, p5, p6, p7, p8⟩, ⟨f0, f1, f2, f3, f4, f5, f6, f7, f8⟩⟩ := tchain9 HX8.out (.string a1) (.int .i32 v4) (.int .i32 v5) (.bool n) (.slice a xs.length ca) (.slice b ys.length cb) (.bool m) (.slice c us.length cc) (.slice d vs.length cd)
                    have HA : Hid (Box A8 w.heap.size 30 #[.string a1, .int .i32 v4, .int .i32 v5, .bool n, .slice a xs.length ca, .slice b ys.length cb, .bool m, .slice c us.length cc, .slice d vs.length cd]) := by
                      rw [← q8, ← q7, ← q6, ← q5, ← q4, ← q3, ← q2, ← q1, ← q0]
                      exact box_put9 HX8.out _ _ _ _ _ _ _ _ _
                    have HAB : Hid (Below w.heap.size w A8) := by
                      rw [← q8, ← q7, ← q6, ← q5, ← q4, ← q3, ← q2, ← q1, ← q0]
                      exact below_put9 HB8.out _ (Nat.le_refl _) _ _ _ _ _ _ _ _ _
                    have HPT : Hid (∀ {k : Nat} {v : Value} {l : List Value}, w6.ownsRow w5.heap.size 94 1 v k l → A8.ownsRow w5.heap.size 94 1 v k l) := fun {k v l} h => by
                      have h2 := qown13 h HBL.out
                      rw [← q8, ← q7, ← q6, ← q5, ← q4, ← q3, ← q2, ← q1, ← q0]
                      exact own_put9 h2 _ (fun g hg => by have h3 := (h2.lt g hg).1; have h4 := HLB.out; omega) _ _ _ _ _ _ _ _ _
                    have HSA : Hid (Sl A8 (.slice a xs.length ca) xs ∧ Sl A8 (.slice b ys.length cb) ys ∧ Sl A8 (.slice c us.length cc) us ∧ Sl A8 (.slice d vs.length cd) vs) := ⟨Sl.own (HPT.out HOW.out.1) HWD.out.1, Sl.own (HPT.out HOW.out.2.1) HWD.out.2.1, Sl.own (HPT.out HOW.out.2.2.1) HWD.out.2.2.1, Sl.own (HPT.out HOW.out.2.2.2) HWD.out.2.2.2⟩
                    clear HX8 HG8 HR8 HPT
                    go_wp2_with fail
                    exact bodyPost_ret (tres13_run (by rfl) HA.out _ rfl) rfl ⟨a1, v4, v5, n, a, ca, xs, b, cb, ys, m, c, cc, us, d, cd, vs, 0, rfl, HSA.out, HTT.out, HAB.out⟩
                · have HEN : Hid (tpE s ≠ 0 ∧ E = tpE s) := by rw [HE2.out]; exact ⟨h0, rfl⟩
                  have h0' : (E == 0) = false := by simp [h0]
                  have h0'' : (E != 0) = true := by simp [h0]
                  clear h0
                  obtain ⟨⟨s0, s1, s2, s3, s4, s5, s6, s7, s8⟩, ⟨x0, x1, x2, x3, x4, x5, x6, x7, x8⟩, ⟨u0, u1, u2, u3, u4, u5, u6, u7, u8⟩⟩ := tzero9 HX8.out
                  go_wp2_with fail
                  exact bodyPost_ret (tres13_run (by rfl) HX8.out _ rfl) rfl (tts_zero (.inl HEN.out) HB8.out)
end Go.Proofs.YtldeiapikkebgaaGreatDoor

/- What the program's and the document's Print tell of a constituent of few words. -/
namespace Go.Proofs.YtldeiapikkebgaaGreatDoor
open Go.RowKit Go.Lib
set_option linter.unusedVariables false
set_option linter.unusedSimpArgs false

theorem osmall_le {k : Nat} (h : smallL k 60 = true) : k ≤ 3000 := by
  unfold smallL at h
  simp at h
  omega
theorem osmall_few {k : Nat} (h : smallL k 60 = true) (h2 : k ≤ 2048) : k ≤ 60 := by
  rw [smallL_short h2] at h
  have := of_decide_eq_true h
  omega
theorem otext_few {l : List UInt8} {f r : Int} {n m : Bool} {xs ys us vs : List Int} (wx : Wd xs) (wy : Wd ys) (wu : Wd us) (wv : Wd vs) (q1 : smallL xs.length 60 = true) (q2 : smallL ys.length 60 = true) (q3 : smallL us.length 60 = true) (q4 : smallL vs.length 60 = true) (hk : tchk l f r (gchk n xs ys m us vs) = 0) : (gtext n xs ys m us vs).length ≤ 2409 ∧ (ttext l f r (gtext n xs ys m us vs)).length ≤ 65536 := by
  obtain ⟨hn, ho, hg⟩ := tchk_ok hk
  obtain ⟨g1, g2⟩ := gchk_ok hg
  obtain ⟨l1, l2, _⟩ := rchk_ok g1
  obtain ⟨l3, l4, _⟩ := rchk_ok g2
  have e1 := zrtext_few (n := n) wx wy (osmall_few q1 l1) (osmall_few q2 l2)
  have e2 := zrtext_few (n := m) wu wv (osmall_few q3 l3) (osmall_few q4 l4)
  have eg : (gtext n xs ys m us vs).length ≤ 2409 := by
    unfold gtext
    rw [List.length_append, List.length_cons]
    omega
  refine ⟨eg, ?_⟩
  have hb := trok_in (trok ho)
  have z1 := zitoa_short f hb.1.1 hb.1.2
  have z2 := zitoa_short r hb.2.1 hb.2.2
  have z3 := (tname_ok hn).2
  unfold ttext
  simp only [List.length_append, List.length_cons]
  omega
theorem oPrint_any (s : ByteArray) (f r : Int) (n : Bool) (a : Option Addr) (ca : Nat) (xs : List Int) (b : Option Addr) (cb : Nat) (ys : List Int) (m : Bool) (c : Option Addr) (cc : Nat) (us : List Int) (d : Option Addr) (cd : Nat) (vs : List Int) (w : World) (hz : s.size ≤ 9223372036854775807) (hr : in32 f r) (sx : Sl w (.slice a xs.length ca) xs) (sy : Sl w (.slice b ys.length cb) ys) (su : Sl w (.slice c us.length cc) us) (sv : Sl w (.slice d vs.length cd) vs) (htab : Tab w) (q1 : smallL xs.length 60 = true) (q2 : smallL ys.length 60 = true) (q3 : smallL us.length 60 = true) (q4 : smallL vs.length 60 = true) :
    Calls Tryz.prog 6 #[.agg #[.string s, .int .i32 f, .int .i32 r, .bool n, .slice a xs.length ca, .slice b ys.length cb, .bool m, .slice c us.length cc, .slice d vs.length cd]] w fun x w' => ∃ S : ByteArray, x = .returned (.tuple #[.string S, .int .i64 (tchk s.data.toList f r (gchk n xs ys m us vs))]) ∧ (tchk s.data.toList f r (gchk n xs ys m us vs) = 0 → S.data.toList = ttext s.data.toList f r (gtext n xs ys m us vs)) ∧ (tchk s.data.toList f r (gchk n xs ys m us vs) ≠ 0 → S = ⟨#[]⟩) ∧ Below w.heap.size w w' := by
  refine Calls.mono (tPrint_any s f r n a ca xs b cb ys m c cc us d cd vs w hz hr sx sy su sv htab) ?_
  rintro x w' ⟨S, rfl, h1, h2, hb⟩
  have hE : tpErr (tchk s.data.toList f r (gchk n xs ys m us vs)) s.data.toList f r (gpErr n xs ys m us vs) (gtext n xs ys m us vs) = tchk s.data.toList f r (gchk n xs ys m us vs) := by
    by_cases hk : tchk s.data.toList f r (gchk n xs ys m us vs) = 0
    · obtain ⟨e1, e2⟩ := otext_few sx.wd sy.wd su.wd sv.wd q1 q2 q3 q4 hk
      have hg : gpErr n xs ys m us vs = 0 := by unfold gpErr; rw [(tchk_ok hk).2.2, fstE_zero, if_neg (by omega)]
      rw [hk]
      exact tpErr_ok rfl hg (by omega)
    · exact tpErr_chk hk
  rw [hE] at h1 h2 ⊢
  exact ⟨S, rfl, h1, h2, hb⟩
theorem odPrint_any (s : ByteArray) (f r : Int) (n : Bool) (a : Option Addr) (ca : Nat) (xs : List Int) (b : Option Addr) (cb : Nat) (ys : List Int) (m : Bool) (c : Option Addr) (cc : Nat) (us : List Int) (d : Option Addr) (cd : Nat) (vs : List Int) (w : World) (hz : s.size ≤ 9223372036854775807) (hr : in32 f r) (sx : Sl w (.slice a xs.length ca) xs) (sy : Sl w (.slice b ys.length cb) ys) (su : Sl w (.slice c us.length cc) us) (sv : Sl w (.slice d vs.length cd) vs) (q1 : smallL xs.length 60 = true) (q2 : smallL ys.length 60 = true) (q3 : smallL us.length 60 = true) (q4 : smallL vs.length 60 = true) :
    Calls Tryz.prog 7 #[.agg #[.string s, .int .i32 f, .int .i32 r, .bool n, .slice a xs.length ca, .slice b ys.length cb, .bool m, .slice c us.length cc, .slice d vs.length cd]] w fun x w' => ∃ S : ByteArray, x = .returned (.tuple #[.string S, .int .i64 (tchk s.data.toList f r (gchk n xs ys m us vs))]) ∧ (tchk s.data.toList f r (gchk n xs ys m us vs) = 0 → S.data.toList = ttext s.data.toList f r (gtext n xs ys m us vs)) ∧ (tchk s.data.toList f r (gchk n xs ys m us vs) ≠ 0 → S = ⟨#[]⟩) ∧ Below w.heap.size w w' := by
  by_cases hk : tchk s.data.toList f r (gchk n xs ys m us vs) = 0
  · refine Calls.mono (dtPrint_ok s f r n a ca xs b cb ys m c cc us d cd vs w hr sx sy su sv hk (otext_few sx.wd sy.wd su.wd sv.wd q1 q2 q3 q4 hk).2) ?_
    rintro x w' ⟨S, rfl, h1, hb⟩
    exact ⟨S, by rw [hk], fun _ => h1, fun h => absurd hk h, hb⟩
  · have a1 := osmall_le q1
    have a2 := osmall_le q2
    have a3 := osmall_le q3
    have a4 := osmall_le q4
    refine Calls.mono (dtPrint_err s f r n a ca xs b cb ys m c cc us d cd vs w hz hr sx sy su sv (by omega) (by omega) (by omega) (by omega) hk) ?_
    rintro x w' ⟨rfl, hb⟩
    exact ⟨_, rfl, fun h => absurd h hk, fun _ => rfl, hb⟩
end Go.Proofs.YtldeiapikkebgaaGreatDoor

/- Constituents that are lent to a call, kept, alike: slackwaterkit.LentTide, KeptTide, SameTide; what a reading tells, it tells once. (tools/mkqg8.py) -/
namespace Go.Proofs.YtldeiapikkebgaaGreatDoor
open Go.RowKit
set_option linter.unusedVariables false
set_option linter.unusedSimpArgs false

theorem TTells.one {E : Int} {L : Prop} {l : List UInt8} {f r : Int} {q1 q2 : Rat} {S S' : ByteArray} {F R F' R' : Int} {n m n' m' : Bool} {xs ys us vs xs' ys' us' vs' : List Int} {c c' : Int} (h : TTells E L l f r q1 q2 S F R n xs ys m us vs c) (g : TTells E L l f r q1 q2 S' F' R' n' xs' ys' m' us' vs' c') : S = S' ∧ F = F' ∧ R = R' ∧ n = n' ∧ xs = xs' ∧ ys = ys' ∧ m = m' ∧ us = us' ∧ vs = vs' ∧ c = c' := by
  obtain ⟨k1, k2, k3, k4, k5, k6, k7⟩ := h.num.one g.num
  by_cases hc : c = 0
  · obtain ⟨a1, a2, a3⟩ := h.good hc
    obtain ⟨b1, b2, b3⟩ := g.good (k7 ▸ hc)
    exact ⟨ByteArray.ext (Array.ext' (a1.trans b1.symm)), a2.trans b2.symm, a3.trans b3.symm, k1, k2, k3, k4, k5, k6, k7⟩
  · obtain ⟨a1, a2, a3⟩ := h.bad hc
    obtain ⟨b1, b2, b3⟩ := g.bad (fun e => hc (k7.trans e))
    exact ⟨a1.trans b1.symm, a2.trans b2.symm, a3.trans b3.symm, k1, k2, k3, k4, k5, k6, k7⟩

theorem ochain9 {W : World} {b t : Nat} {u0 u1 u2 u3 u4 u5 u6 u7 u8 : Value} (h : Box W b t #[u0, u1, u2, u3, u4, u5, u6, u7, u8]) (v0 v1 v2 v3 v4 v5 v6 v7 v8 : Value) : ∃ A0 A1 A2 A3 A4 A5 A6 A7 A8, W.setCell ⟨b, 0, none⟩ v0 = A0 ∧ A0.setCell ⟨b, 1, none⟩ v1 = A1 ∧ A1.setCell ⟨b, 2, none⟩ v2 = A2 ∧ A2.setCell ⟨b, 3, none⟩ v3 = A3 ∧ A3.setCell ⟨b, 4, none⟩ v4 = A4 ∧ A4.setCell ⟨b, 5, none⟩ v5 = A5 ∧ A5.setCell ⟨b, 6, none⟩ v6 = A6 ∧ A6.setCell ⟨b, 7, none⟩ v7 = A7 ∧ A7.setCell ⟨b, 8, none⟩ v8 = A8 ∧ (W.cell? ⟨b, 0, none⟩ = some u0 ∧ A0.cell? ⟨b, 1, none⟩ = some u1 ∧ A1.cell? ⟨b, 2, none⟩ = some u2 ∧ A2.cell? ⟨b, 3, none⟩ = some u3 ∧ A3.cell? ⟨b, 4, none⟩ = some u4 ∧ A4.cell? ⟨b, 5, none⟩ = some u5 ∧ A5.cell? ⟨b, 6, none⟩ = some u6 ∧ A6.cell? ⟨b, 7, none⟩ = some u7 ∧ A7.cell? ⟨b, 8, none⟩ = some u8) ∧ (W.frozen? ⟨b, 0, none⟩ = false ∧ A0.frozen? ⟨b, 1, none⟩ = false ∧ A1.frozen? ⟨b, 2, none⟩ = false ∧ A2.frozen? ⟨b, 3, none⟩ = false ∧ A3.frozen? ⟨b, 4, none⟩ = false ∧ A4.frozen? ⟨b, 5, none⟩ = false ∧ A5.frozen? ⟨b, 6, none⟩ = false ∧ A6.frozen? ⟨b, 7, none⟩ = false ∧ A7.frozen? ⟨b, 8, none⟩ = false) ∧
    Hid (Box A8 b t #[v0, v1, v2, v3, v4, v5, v6, v7, v8] ∧ (∀ p t' vs, p ≠ b → Box W p t' vs → Box A8 p t' vs) ∧ (∀ base v n xs, b < base → W.ownsRow base 94 1 v n xs → A8.ownsRow base 94 1 v n xs) ∧ (∀ B x, B ≤ b → Below B x W → Below B x A8)) := by
  have h0 : Box _ b t #[v0, u1, u2, u3, u4, u5, u6, u7, u8] := h.set 0 v0
  have h1 : Box _ b t #[v0, v1, u2, u3, u4, u5, u6, u7, u8] := h0.set 1 v1
  have h2 : Box _ b t #[v0, v1, v2, u3, u4, u5, u6, u7, u8] := h1.set 2 v2
  have h3 : Box _ b t #[v0, v1, v2, v3, u4, u5, u6, u7, u8] := h2.set 3 v3
  have h4 : Box _ b t #[v0, v1, v2, v3, v4, u5, u6, u7, u8] := h3.set 4 v4
  have h5 : Box _ b t #[v0, v1, v2, v3, v4, v5, u6, u7, u8] := h4.set 5 v5
  have h6 : Box _ b t #[v0, v1, v2, v3, v4, v5, v6, u7, u8] := h5.set 6 v6
  have h7 : Box _ b t #[v0, v1, v2, v3, v4, v5, v6, v7, u8] := h6.set 7 v7
  have h8 : Box _ b t #[v0, v1, v2, v3, v4, v5, v6, v7, v8] := h7.set 8 v8
  refine ⟨_, _, _, _, _, _, _, _, _, rfl, rfl, rfl, rfl, rfl, rfl, rfl, rfl, rfl, ⟨h.cell 0, h0.cell 1, h1.cell 2, h2.cell 3, h3.cell 4, h4.cell 5, h5.cell 6, h6.cell 7, h7.cell 8⟩, ⟨h.free 0, h0.free 1, h1.free 2, h2.free 3, h3.free 4, h4.free 5, h5.free 6, h6.free 7, h7.free 8⟩, h8, ?_, ?_, ?_⟩
  · intro p t' vs hne hp
    exact (((((((((hp.other ⟨b, 0, none⟩ v0 hne).other ⟨b, 1, none⟩ v1 hne).other ⟨b, 2, none⟩ v2 hne).other ⟨b, 3, none⟩ v3 hne).other ⟨b, 4, none⟩ v4 hne).other ⟨b, 5, none⟩ v5 hne).other ⟨b, 6, none⟩ v6 hne).other ⟨b, 7, none⟩ v7 hne).other ⟨b, 8, none⟩ v8 hne)
  · intro base v n xs hb ho
    have hz : ∀ g, v.ownBlock = some g → g ≠ b := fun g hg => by have := (ho.lt g hg).1; omega
    exact (kown_put1 (kown_put1 (kown_put1 (kown_put1 (kown_put1 (kown_put1 (kown_put1 (kown_put1 (kown_put1 ho hz 0 v0) hz 1 v1) hz 2 v2) hz 3 v3) hz 4 v4) hz 5 v5) hz 6 v6) hz 7 v7) hz 8 v8)
  · intro B x hB hb
    exact below_put9 hb b hB v0 v1 v2 v3 v4 v5 v6 v7 v8
theorem okl9 {V : World} {p t : Nat} {v0 v1 v2 v3 v4 v5 v6 v7 v8 : Value} (h : Box V p t #[v0, v1, v2, v3, v4, v5, v6, v7, v8]) : V.cell? ⟨p, 0, none⟩ = some (v0) ∧ V.cell? ⟨p, 1, none⟩ = some (v1) ∧ V.cell? ⟨p, 2, none⟩ = some (v2) ∧ V.cell? ⟨p, 3, none⟩ = some (v3) ∧ V.cell? ⟨p, 4, none⟩ = some (v4) ∧ V.cell? ⟨p, 5, none⟩ = some (v5) ∧ V.cell? ⟨p, 6, none⟩ = some (v6) ∧ V.cell? ⟨p, 7, none⟩ = some (v7) ∧ V.cell? ⟨p, 8, none⟩ = some (v8) := ⟨h.cell 0, h.cell 1, h.cell 2, h.cell 3, h.cell 4, h.cell 5, h.cell 6, h.cell 7, h.cell 8⟩
set_option maxHeartbeats 1600000 in
set_option maxRecDepth 100000 in
theorem olentTide_any (s : ByteArray) (f r : Int) (n : Bool) (a : Option Addr) (ca : Nat) (xs : List Int) (b : Option Addr) (cb : Nat) (ys : List Int) (m : Bool) (c : Option Addr) (cc : Nat) (us : List Int) (d : Option Addr) (cd : Nat) (vs : List Int) (w : World) (sx : Sl w (.slice a xs.length ca) xs) (sy : Sl w (.slice b ys.length cb) ys) (su : Sl w (.slice c us.length cc) us) (sv : Sl w (.slice d vs.length cd) vs) (lx : xs.length ≤ 549755813888) (ly : ys.length ≤ 549755813888) (lu : us.length ≤ 549755813888) (lv : vs.length ≤ 549755813888) :
    Calls Tryz.prog 5 #[.agg #[.string s, .int .i32 f, .int .i32 r, .bool n, .slice a xs.length ca, .slice b ys.length cb, .bool m, .slice c us.length cc, .slice d vs.length cd]] w fun e w' => ∃ g1 c1 g2 c2 g3 c3 g4 c4, e = .returned (.agg #[.string s, .int .i32 f, .int .i32 r, .bool n, .slice (some ⟨g1, 0, none⟩) xs.length c1, .slice (some ⟨g2, 0, none⟩) ys.length c2, .bool m, .slice (some ⟨g3, 0, none⟩) us.length c3, .slice (some ⟨g4, 0, none⟩) vs.length c4]) ∧ (w'.ownsRow w.heap.size 94 1 (.slice (some ⟨g1, 0, none⟩) (xs.length + 3) c1) (xs.length + 3) ((xs ++ marks 3).map (Value.int .u32)) ∧ w'.ownsRow w.heap.size 94 1 (.slice (some ⟨g2, 0, none⟩) (ys.length + 3) c2) (ys.length + 3) ((ys ++ marks 3).map (Value.int .u32)) ∧ w'.ownsRow w.heap.size 94 1 (.slice (some ⟨g3, 0, none⟩) (us.length + 3) c3) (us.length + 3) ((us ++ marks 3).map (Value.int .u32)) ∧ w'.ownsRow w.heap.size 94 1 (.slice (some ⟨g4, 0, none⟩) (vs.length + 3) c4) (vs.length + 3) ((vs ++ marks 3).map (Value.int .u32))) ∧ (g1 < g2 ∧ g2 < g3 ∧ g3 < g4) ∧ Below w.heap.size w w' := by
  obtain ⟨X, hX⟩ : ∃ X, (w.alloc (.cells #[.string s, .int .i32 f, .int .i32 r, .bool n, .slice a xs.length ca, .slice b ys.length cb, .bool m, .slice c us.length cc, .slice d vs.length cd] 30)).alloc (.cells #[.string ⟨#[]⟩, .int .i32 0, .int .i32 0, .bool false, .slice none 0 0, .slice none 0 0, .bool false, .slice none 0 0, .slice none 0 0] 30) = X := ⟨_, rfl⟩
  have b1 : Below w.heap.size w X := by rw [← hX]; exact bt (alloc_later _ _) (alloc_later _ _)
  have HA : Hid (Box X w.heap.size 30 #[.string s, .int .i32 f, .int .i32 r, .bool n, .slice a xs.length ca, .slice b ys.length cb, .bool m, .slice c us.length cc, .slice d vs.length cd]) := by rw [← hX]; exact (Box.made w _ _).later (alloc_later _ _) (Box.made w _ _).lt
  have HZ : Hid (Box X (w.heap.size + 1) 30 #[.string ⟨#[]⟩, .int .i32 0, .int .i32 0, .bool false, .slice none 0 0, .slice none 0 0, .bool false, .slice none 0 0, .slice none 0 0]) := by
    have h := Box.made (w.alloc (.cells #[.string s, .int .i32 f, .int .i32 r, .bool n, .slice a xs.length ca, .slice b ys.length cb, .bool m, .slice c us.length cc, .slice d vs.length cd] 30)) 30 #[.string ⟨#[]⟩, .int .i32 0, .int .i32 0, .bool false, .slice none 0 0, .slice none 0 0, .bool false, .slice none 0 0, .slice none 0 0]
    rw [show (w.alloc (.cells #[.string s, .int .i32 f, .int .i32 r, .bool n, .slice a xs.length ca, .slice b ys.length cb, .bool m, .slice c us.length cc, .slice d vs.length cd] 30)).heap.size = w.heap.size + 1 by simp, hX] at h
    exact h
  have HK : Hid (∀ V, Below X.heap.size X V → V.cell? ⟨w.heap.size, 0, none⟩ = some (.string s) ∧ V.cell? ⟨w.heap.size, 1, none⟩ = some (.int .i32 f) ∧ V.cell? ⟨w.heap.size, 2, none⟩ = some (.int .i32 r) ∧ V.cell? ⟨w.heap.size, 3, none⟩ = some (.bool n) ∧ V.cell? ⟨w.heap.size, 4, none⟩ = some (.slice a xs.length ca) ∧ V.cell? ⟨w.heap.size, 5, none⟩ = some (.slice b ys.length cb) ∧ V.cell? ⟨w.heap.size, 6, none⟩ = some (.bool m) ∧ V.cell? ⟨w.heap.size, 7, none⟩ = some (.slice c us.length cc) ∧ V.cell? ⟨w.heap.size, 8, none⟩ = some (.slice d vs.length cd)) := fun V hv => by
    have h := HA.out.later hv HA.out.lt
    exact ⟨h.cell 0, h.cell 1, h.cell 2, h.cell 3, h.cell 4, h.cell 5, h.cell 6, h.cell 7, h.cell 8⟩
  have HL1 : Hid (∀ V, Below X.heap.size X V → Calls Tryz.prog 15 #[.agg #[.bool n, .slice a xs.length ca, .slice b ys.length cb, .bool m, .slice c us.length cc, .slice d vs.length cd]] V fun e V' => ∃ g1 c1 g2 c2 g3 c3 g4 c4, e = .returned (.agg #[.bool n, .slice (some ⟨g1, 0, none⟩) xs.length c1, .slice (some ⟨g2, 0, none⟩) ys.length c2, .bool m, .slice (some ⟨g3, 0, none⟩) us.length c3, .slice (some ⟨g4, 0, none⟩) vs.length c4]) ∧ Hid ((V'.ownsRow X.heap.size 94 1 (.slice (some ⟨g1, 0, none⟩) (xs.length + 3) c1) (xs.length + 3) ((xs ++ marks 3).map (Value.int .u32)) ∧ V'.ownsRow X.heap.size 94 1 (.slice (some ⟨g2, 0, none⟩) (ys.length + 3) c2) (ys.length + 3) ((ys ++ marks 3).map (Value.int .u32)) ∧ V'.ownsRow X.heap.size 94 1 (.slice (some ⟨g3, 0, none⟩) (us.length + 3) c3) (us.length + 3) ((us ++ marks 3).map (Value.int .u32)) ∧ V'.ownsRow X.heap.size 94 1 (.slice (some ⟨g4, 0, none⟩) (vs.length + 3) c4) (vs.length + 3) ((vs ++ marks 3).map (Value.int .u32))) ∧ (g1 < g2 ∧ g2 < g3 ∧ g3 < g4) ∧ Below X.heap.size X V') ∧ (V'.cell? ⟨w.heap.size, 0, none⟩ = some (.string s) ∧ V'.cell? ⟨w.heap.size, 1, none⟩ = some (.int .i32 f) ∧ V'.cell? ⟨w.heap.size, 2, none⟩ = some (.int .i32 r) ∧ V'.cell? ⟨w.heap.size, 3, none⟩ = some (.bool n) ∧ V'.cell? ⟨w.heap.size, 4, none⟩ = some (.slice a xs.length ca) ∧ V'.cell? ⟨w.heap.size, 5, none⟩ = some (.slice b ys.length cb) ∧ V'.cell? ⟨w.heap.size, 6, none⟩ = some (.bool m) ∧ V'.cell? ⟨w.heap.size, 7, none⟩ = some (.slice c us.length cc) ∧ V'.cell? ⟨w.heap.size, 8, none⟩ = some (.slice d vs.length cd)) ∧ Hid (Box V' (w.heap.size + 1) 30 #[.string ⟨#[]⟩, .int .i32 0, .int .i32 0, .bool false, .slice none 0 0, .slice none 0 0, .bool false, .slice none 0 0, .slice none 0 0] ∧ Box V' w.heap.size 30 #[.string s, .int .i32 f, .int .i32 r, .bool n, .slice a xs.length ca, .slice b ys.length cb, .bool m, .slice c us.length cc, .slice d vs.length cd])) := fun V hv => by
    refine Calls.mono (klentGauss_any n a ca xs b cb ys m c cc us d cd vs V ((sx.later b1).later hv) ((sy.later b1).later hv) ((su.later b1).later hv) ((sv.later b1).later hv) lx ly lu lv) ?_
    rintro e V' ⟨g1, c1, g2, c2, g3, c3, g4, c4, rfl, ho, hg, hb⟩
    exact ⟨g1, c1, g2, c2, g3, c3, g4, c4, rfl, ⟨⟨owns_base ho.1 hv.size, owns_base ho.2.1 hv.size, owns_base ho.2.2.1 hv.size, owns_base ho.2.2.2 hv.size⟩, hg, bt hv hb⟩, HK.out _ (bt hv hb), HZ.out.later (bt hv hb) HZ.out.lt, HA.out.later (bt hv hb) HA.out.lt⟩
  have HB1 := hid b1
  have HZL := hid HZ.out.lt
  obtain ⟨e0, e1, e2, e3, e4, e5, e6, e7, e8⟩ := HK.out X (Below.refl _ _)
  have hs0 := HK.out _ (Below.refl _ X).drew
  have hd0 := hid (Below.refl X.heap.size X).drew
  clear sx sy su sv b1 lx ly lu lv
  go_enter Tryz.func5, Tryz.ntmps5
  go_wp2_with fail
  clear hX
  go_region_held3 (fun V : World => V.cell? ⟨w.heap.size, 0, none⟩ = some (.string s) ∧ V.cell? ⟨w.heap.size, 1, none⟩ = some (.int .i32 f) ∧ V.cell? ⟨w.heap.size, 2, none⟩ = some (.int .i32 r) ∧ V.cell? ⟨w.heap.size, 3, none⟩ = some (.bool n) ∧ V.cell? ⟨w.heap.size, 4, none⟩ = some (.slice a xs.length ca) ∧ V.cell? ⟨w.heap.size, 5, none⟩ = some (.slice b ys.length cb) ∧ V.cell? ⟨w.heap.size, 6, none⟩ = some (.bool m) ∧ V.cell? ⟨w.heap.size, 7, none⟩ = some (.slice c us.length cc) ∧ V.cell? ⟨w.heap.size, 8, none⟩ = some (.slice d vs.length cd)) (first | exact hs2 | exact hs1 | exact hs0)
    (first | (go_at_call 15; with_reducible refine Calls.mono (HL1.out _ hd0.out) ?_; rintro e w1 ⟨g1, c1, g2, c2, g3, c3, g4, c4, rfl, HE1, hs1, HBZ⟩; obtain ⟨A0, A1, A2, A3, A4, A5, A6, A7, A8, k0, k1, k2, k3, k4, k5, k6, k7, k8, ⟨r0, r1, r2, r3, r4, r5, r6, r7, r8⟩, ⟨f0, f1, f2, f3, f4, f5, f6, f7, f8⟩, HA5⟩ := ochain9 HBZ.out.1 (.string s) (.int .i32 f) (.int .i32 r) (.bool n) (.slice (some ⟨g1, 0, none⟩) xs.length c1) (.slice (some ⟨g2, 0, none⟩) ys.length c2) (.bool m) (.slice (some ⟨g3, 0, none⟩) us.length c3) (.slice (some ⟨g4, 0, none⟩) vs.length c4); have hs2 := okl9 (HA5.out.2.1 _ _ _ (by omega) HBZ.out.2)))
  all_goals
    obtain ⟨p0, p1, p2, p3, p4, p5, p6, p7, p8⟩ : A8.cell? ⟨w.heap.size + 1, 0, none⟩ = some (.string s) ∧ A8.cell? ⟨w.heap.size + 1, 1, none⟩ = some (.int .i32 f) ∧ A8.cell? ⟨w.heap.size + 1, 2, none⟩ = some (.int .i32 r) ∧ A8.cell? ⟨w.heap.size + 1, 3, none⟩ = some (.bool n) ∧ A8.cell? ⟨w.heap.size + 1, 4, none⟩ = some (.slice (some ⟨g1, 0, none⟩) xs.length c1) ∧ A8.cell? ⟨w.heap.size + 1, 5, none⟩ = some (.slice (some ⟨g2, 0, none⟩) ys.length c2) ∧ A8.cell? ⟨w.heap.size + 1, 6, none⟩ = some (.bool m) ∧ A8.cell? ⟨w.heap.size + 1, 7, none⟩ = some (.slice (some ⟨g3, 0, none⟩) us.length c3) ∧ A8.cell? ⟨w.heap.size + 1, 8, none⟩ = some (.slice (some ⟨g4, 0, none⟩) vs.length c4) := ⟨HA5.out.1.cell 0, HA5.out.1.cell 1, HA5.out.1.cell 2, HA5.out.1.cell 3, HA5.out.1.cell 4, HA5.out.1.cell 5, HA5.out.1.cell 6, HA5.out.1.cell 7, HA5.out.1.cell 8⟩
    have HO : Hid (_ ∧ _ ∧ _ ∧ _) := And.intro (owns_base (HA5.out.2.2.1 _ _ _ _ HZL.out HE1.out.1.1) HB1.out.size) (And.intro (owns_base (HA5.out.2.2.1 _ _ _ _ HZL.out HE1.out.1.2.1) HB1.out.size) (And.intro (owns_base (HA5.out.2.2.1 _ _ _ _ HZL.out HE1.out.1.2.2.1) HB1.out.size) (owns_base (HA5.out.2.2.1 _ _ _ _ HZL.out HE1.out.1.2.2.2) HB1.out.size)))
    have HBN := hid (HA5.out.2.2.2 _ _ (by omega) (bt HB1.out HE1.out.2.2))
    have HG := hid HE1.out.2.1
    clear HK HL1 HE1 HZ HZL HB1 HA hs0 hs1 hs2 hd0 HBZ HA5 r0 f0 k0 r1 f1 k1 r2 f2 k2 r3 f3 k3 r4 f4 k4 r5 f5 k5 r6 f6 k6 r7 f7 k7 r8 f8 k8
    go_wp2_with fail
    refine bodyPost_ret (v := .agg #[.string s, .int .i32 f, .int .i32 r, .bool n, .slice (some ⟨g1, 0, none⟩) xs.length c1, .slice (some ⟨g2, 0, none⟩) ys.length c2, .bool m, .slice (some ⟨g3, 0, none⟩) us.length c3, .slice (some ⟨g4, 0, none⟩) vs.length c4]) (by simp [results, Tryz.results5, go_sem, p0, p1, p2, p3, p4, p5, p6, p7, p8]) rfl ?_
    exact ⟨g1, c1, g2, c2, g3, c3, g4, c4, rfl, HO.out, HG.out, HBN.out⟩
set_option maxHeartbeats 1600000 in
set_option maxRecDepth 100000 in
theorem osameTide_eq (s : ByteArray) (f r : Int) (n : Bool) (a : Option Addr) (ca : Nat) (xs : List Int) (b : Option Addr) (cb : Nat) (ys : List Int) (m : Bool) (c : Option Addr) (cc : Nat) (us : List Int) (d : Option Addr) (cd : Nat) (vs : List Int) (a2 : Option Addr) (ca2 : Nat) (b2 : Option Addr) (cb2 : Nat) (c2 : Option Addr) (cc2 : Nat) (d2 : Option Addr) (cd2 : Nat) (w : World) (sx : Sl w (.slice a xs.length ca) xs) (sy : Sl w (.slice b ys.length cb) ys) (su : Sl w (.slice c us.length cc) us) (sv : Sl w (.slice d vs.length cd) vs) (sx2 : Sl w (.slice a2 xs.length ca2) xs) (sy2 : Sl w (.slice b2 ys.length cb2) ys) (su2 : Sl w (.slice c2 us.length cc2) us) (sv2 : Sl w (.slice d2 vs.length cd2) vs) (lx : xs.length ≤ 281474976710656) (ly : ys.length ≤ 281474976710656) (lu : us.length ≤ 281474976710656) (lv : vs.length ≤ 281474976710656) :
    Calls Tryz.prog 33 #[.agg #[.string s, .int .i32 f, .int .i32 r, .bool n, .slice a xs.length ca, .slice b ys.length cb, .bool m, .slice c us.length cc, .slice d vs.length cd], .agg #[.string s, .int .i32 f, .int .i32 r, .bool n, .slice a2 xs.length ca2, .slice b2 ys.length cb2, .bool m, .slice c2 us.length cc2, .slice d2 vs.length cd2]] w fun x w' => x = .returned (.bool true) ∧ Below w.heap.size w w' := by
  have HX := hid (boxes2r w 30 #[.string s, .int .i32 f, .int .i32 r, .bool n, .slice a xs.length ca, .slice b ys.length cb, .bool m, .slice c us.length cc, .slice d vs.length cd] #[.string s, .int .i32 f, .int .i32 r, .bool n, .slice a2 xs.length ca2, .slice b2 ys.length cb2, .bool m, .slice c2 us.length cc2, .slice d2 vs.length cd2])
  obtain ⟨X, hX⟩ : ∃ X, (w.alloc (.cells #[.string s, .int .i32 f, .int .i32 r, .bool n, .slice a xs.length ca, .slice b ys.length cb, .bool m, .slice c us.length cc, .slice d vs.length cd] 30)).alloc (.cells #[.string s, .int .i32 f, .int .i32 r, .bool n, .slice a2 xs.length ca2, .slice b2 ys.length cb2, .bool m, .slice c2 us.length cc2, .slice d2 vs.length cd2] 30) = X := ⟨_, rfl⟩
  rw [hX] at HX
  have H1 := hid (ksameGauss_eq n a ca xs b cb ys m c cc us d cd vs a2 ca2 b2 cb2 c2 cc2 d2 cd2 X (sx.later HX.out.2.2) (sy.later HX.out.2.2) (su.later HX.out.2.2) (sv.later HX.out.2.2) (sx2.later HX.out.2.2) (sy2.later HX.out.2.2) (su2.later HX.out.2.2) (sv2.later HX.out.2.2) lx ly lu lv)
  have hEQ := troEq f r f r
  rw [show ((f == f) && (r == r)) = true by simp] at hEQ
  clear sx sy su sv lx ly lu lv sx2 sy2 su2 sv2
  have ka0 : X.cell? ⟨w.heap.size, 0, none⟩ = some (.string s) := HX.out.1.cell 0
  have ka1 : X.cell? ⟨w.heap.size, 1, none⟩ = some (.int .i32 f) := HX.out.1.cell 1
  have ka2 : X.cell? ⟨w.heap.size, 2, none⟩ = some (.int .i32 r) := HX.out.1.cell 2
  have ka3 : X.cell? ⟨w.heap.size, 3, none⟩ = some (.bool n) := HX.out.1.cell 3
  have ka4 : X.cell? ⟨w.heap.size, 4, none⟩ = some (.slice a xs.length ca) := HX.out.1.cell 4
  have ka5 : X.cell? ⟨w.heap.size, 5, none⟩ = some (.slice b ys.length cb) := HX.out.1.cell 5
  have ka6 : X.cell? ⟨w.heap.size, 6, none⟩ = some (.bool m) := HX.out.1.cell 6
  have ka7 : X.cell? ⟨w.heap.size, 7, none⟩ = some (.slice c us.length cc) := HX.out.1.cell 7
  have ka8 : X.cell? ⟨w.heap.size, 8, none⟩ = some (.slice d vs.length cd) := HX.out.1.cell 8
  have kb0 : X.cell? ⟨w.heap.size + 1, 0, none⟩ = some (.string s) := HX.out.2.1.cell 0
  have kb1 : X.cell? ⟨w.heap.size + 1, 1, none⟩ = some (.int .i32 f) := HX.out.2.1.cell 1
  have kb2 : X.cell? ⟨w.heap.size + 1, 2, none⟩ = some (.int .i32 r) := HX.out.2.1.cell 2
  have kb3 : X.cell? ⟨w.heap.size + 1, 3, none⟩ = some (.bool n) := HX.out.2.1.cell 3
  have kb4 : X.cell? ⟨w.heap.size + 1, 4, none⟩ = some (.slice a2 xs.length ca2) := HX.out.2.1.cell 4
  have kb5 : X.cell? ⟨w.heap.size + 1, 5, none⟩ = some (.slice b2 ys.length cb2) := HX.out.2.1.cell 5
  have kb6 : X.cell? ⟨w.heap.size + 1, 6, none⟩ = some (.bool m) := HX.out.2.1.cell 6
  have kb7 : X.cell? ⟨w.heap.size + 1, 7, none⟩ = some (.slice c2 us.length cc2) := HX.out.2.1.cell 7
  have kb8 : X.cell? ⟨w.heap.size + 1, 8, none⟩ = some (.slice d2 vs.length cd2) := HX.out.2.1.cell 8
  go_enter Tryz.func33, Tryz.ntmps33
  go_wp2_with fail
  refine Calls.mono H1.out ?_
  rintro x w1 ⟨rfl, hb1⟩
  have HW1 := hid (bt HX.out.2.2 hb1)
  clear ka0 kb0 ka1 kb1 ka2 kb2 ka3 kb3 ka4 kb4 ka5 kb5 ka6 kb6 ka7 kb7 ka8 kb8 hb1 H1
  go_wp2_with fail
  go_ret
  exact ⟨rfl, HW1.out⟩
set_option maxHeartbeats 1600000 in
set_option maxRecDepth 100000 in
theorem okeptTide_any (s : ByteArray) (f r : Int) (n : Bool) (a : Option Addr) (ca : Nat) (xs : List Int) (b : Option Addr) (cb : Nat) (ys : List Int) (m : Bool) (c : Option Addr) (cc : Nat) (us : List Int) (d : Option Addr) (cd : Nat) (vs : List Int) (g1 c1 g2 c2 g3 c3 g4 c4 base : Nat) (w : World) (sx : Sl w (.slice a xs.length ca) xs) (sy : Sl w (.slice b ys.length cb) ys) (su : Sl w (.slice c us.length cc) us) (sv : Sl w (.slice d vs.length cd) vs) (lx : xs.length ≤ 274877906944) (ly : ys.length ≤ 274877906944) (lu : us.length ≤ 274877906944) (lv : vs.length ≤ 274877906944)
    (o1 : w.ownsRow base 94 1 (.slice (some ⟨g1, 0, none⟩) (xs.length + 3) c1) (xs.length + 3) ((xs ++ marks 3).map (Value.int .u32))) (o2 : w.ownsRow base 94 1 (.slice (some ⟨g2, 0, none⟩) (ys.length + 3) c2) (ys.length + 3) ((ys ++ marks 3).map (Value.int .u32))) (o3 : w.ownsRow base 94 1 (.slice (some ⟨g3, 0, none⟩) (us.length + 3) c3) (us.length + 3) ((us ++ marks 3).map (Value.int .u32))) (o4 : w.ownsRow base 94 1 (.slice (some ⟨g4, 0, none⟩) (vs.length + 3) c4) (vs.length + 3) ((vs ++ marks 3).map (Value.int .u32))) :
    Calls Tryz.prog 11 #[.agg #[.string s, .int .i32 f, .int .i32 r, .bool n, .slice (some ⟨g1, 0, none⟩) xs.length c1, .slice (some ⟨g2, 0, none⟩) ys.length c2, .bool m, .slice (some ⟨g3, 0, none⟩) us.length c3, .slice (some ⟨g4, 0, none⟩) vs.length c4], .agg #[.string s, .int .i32 f, .int .i32 r, .bool n, .slice a xs.length ca, .slice b ys.length cb, .bool m, .slice c us.length cc, .slice d vs.length cd]] w fun x w' => x = .returned (.bool true) ∧ Below w.heap.size w w' := by
  have HX := hid (boxes2r w 30 #[.string s, .int .i32 f, .int .i32 r, .bool n, .slice (some ⟨g1, 0, none⟩) xs.length c1, .slice (some ⟨g2, 0, none⟩) ys.length c2, .bool m, .slice (some ⟨g3, 0, none⟩) us.length c3, .slice (some ⟨g4, 0, none⟩) vs.length c4] #[.string s, .int .i32 f, .int .i32 r, .bool n, .slice a xs.length ca, .slice b ys.length cb, .bool m, .slice c us.length cc, .slice d vs.length cd])
  obtain ⟨X, hX⟩ : ∃ X, (w.alloc (.cells #[.string s, .int .i32 f, .int .i32 r, .bool n, .slice (some ⟨g1, 0, none⟩) xs.length c1, .slice (some ⟨g2, 0, none⟩) ys.length c2, .bool m, .slice (some ⟨g3, 0, none⟩) us.length c3, .slice (some ⟨g4, 0, none⟩) vs.length c4] 30)).alloc (.cells #[.string s, .int .i32 f, .int .i32 r, .bool n, .slice a xs.length ca, .slice b ys.length cb, .bool m, .slice c us.length cc, .slice d vs.length cd] 30) = X := ⟨_, rfl⟩
  rw [hX] at HX
  have H1 := hid (kkeptGauss_any n a ca xs b cb ys m c cc us d cd vs g1 c1 g2 c2 g3 c3 g4 c4 base X (sx.later HX.out.2.2) (sy.later HX.out.2.2) (su.later HX.out.2.2) (sv.later HX.out.2.2) lx ly lu lv (owns_later o1 HX.out.2.2) (owns_later o2 HX.out.2.2) (owns_later o3 HX.out.2.2) (owns_later o4 HX.out.2.2))
  have hEQ := troEq f r f r
  rw [show ((f == f) && (r == r)) = true by simp] at hEQ
  clear sx sy su sv lx ly lu lv o1 o2 o3 o4
  have ka0 : X.cell? ⟨w.heap.size, 0, none⟩ = some (.string s) := HX.out.1.cell 0
  have ka1 : X.cell? ⟨w.heap.size, 1, none⟩ = some (.int .i32 f) := HX.out.1.cell 1
  have ka2 : X.cell? ⟨w.heap.size, 2, none⟩ = some (.int .i32 r) := HX.out.1.cell 2
  have ka3 : X.cell? ⟨w.heap.size, 3, none⟩ = some (.bool n) := HX.out.1.cell 3
  have ka4 : X.cell? ⟨w.heap.size, 4, none⟩ = some (.slice (some ⟨g1, 0, none⟩) xs.length c1) := HX.out.1.cell 4
  have ka5 : X.cell? ⟨w.heap.size, 5, none⟩ = some (.slice (some ⟨g2, 0, none⟩) ys.length c2) := HX.out.1.cell 5
  have ka6 : X.cell? ⟨w.heap.size, 6, none⟩ = some (.bool m) := HX.out.1.cell 6
  have ka7 : X.cell? ⟨w.heap.size, 7, none⟩ = some (.slice (some ⟨g3, 0, none⟩) us.length c3) := HX.out.1.cell 7
  have ka8 : X.cell? ⟨w.heap.size, 8, none⟩ = some (.slice (some ⟨g4, 0, none⟩) vs.length c4) := HX.out.1.cell 8
  have kb0 : X.cell? ⟨w.heap.size + 1, 0, none⟩ = some (.string s) := HX.out.2.1.cell 0
  have kb1 : X.cell? ⟨w.heap.size + 1, 1, none⟩ = some (.int .i32 f) := HX.out.2.1.cell 1
  have kb2 : X.cell? ⟨w.heap.size + 1, 2, none⟩ = some (.int .i32 r) := HX.out.2.1.cell 2
  have kb3 : X.cell? ⟨w.heap.size + 1, 3, none⟩ = some (.bool n) := HX.out.2.1.cell 3
  have kb4 : X.cell? ⟨w.heap.size + 1, 4, none⟩ = some (.slice a xs.length ca) := HX.out.2.1.cell 4
  have kb5 : X.cell? ⟨w.heap.size + 1, 5, none⟩ = some (.slice b ys.length cb) := HX.out.2.1.cell 5
  have kb6 : X.cell? ⟨w.heap.size + 1, 6, none⟩ = some (.bool m) := HX.out.2.1.cell 6
  have kb7 : X.cell? ⟨w.heap.size + 1, 7, none⟩ = some (.slice c us.length cc) := HX.out.2.1.cell 7
  have kb8 : X.cell? ⟨w.heap.size + 1, 8, none⟩ = some (.slice d vs.length cd) := HX.out.2.1.cell 8
  go_enter Tryz.func11, Tryz.ntmps11
  go_wp2_with fail
  refine Calls.mono H1.out ?_
  rintro x w1 ⟨rfl, hb1⟩
  have HW1 := hid (bt HX.out.2.2 hb1)
  clear ka0 kb0 ka1 kb1 ka2 kb2 ka3 kb3 ka4 kb4 ka5 kb5 ka6 kb6 ka7 kb7 ka8 kb8 hb1 H1
  go_wp2_with fail
  go_ret
  exact ⟨rfl, HW1.out⟩
end Go.Proofs.YtldeiapikkebgaaGreatDoor

/- Layer 13's one: two answers beside the wanted one. (tools/mkqga.py) -/
namespace Go.Proofs.YtldeiapikkebgaaGreatDoor
open Go.RowKit
set_option linter.unusedVariables false
set_option linter.unusedSimpArgs false

set_option maxHeartbeats 1600000 in
set_option maxRecDepth 100000 in
theorem oone_any (s : ByteArray) (f r : Int) (n m : Bool) (xs ys us vs : List Int) (a1 : Option Addr) (ca1 : Nat) (b1 : Option Addr) (cb1 : Nat) (c1 : Option Addr) (cc1 : Nat) (d1 : Option Addr) (cd1 : Nat) (a2 : Option Addr) (ca2 : Nat) (b2 : Option Addr) (cb2 : Nat) (c2 : Option Addr) (cc2 : Nat) (d2 : Option Addr) (cd2 : Nat) (a3 : Option Addr) (ca3 : Nat) (b3 : Option Addr) (cb3 : Nat) (c3 : Option Addr) (cc3 : Nat) (d3 : Option Addr) (cd3 : Nat) (e : Int) (w : World) (s1 : (Sl w (.slice a1 xs.length ca1) xs ∧ Sl w (.slice b1 ys.length cb1) ys ∧ Sl w (.slice c1 us.length cc1) us ∧ Sl w (.slice d1 vs.length cd1) vs)) (s2 : (Sl w (.slice a2 xs.length ca2) xs ∧ Sl w (.slice b2 ys.length cb2) ys ∧ Sl w (.slice c2 us.length cc2) us ∧ Sl w (.slice d2 vs.length cd2) vs)) (s3 : (Sl w (.slice a3 xs.length ca3) xs ∧ Sl w (.slice b3 ys.length cb3) ys ∧ Sl w (.slice c3 us.length cc3) us ∧ Sl w (.slice d3 vs.length cd3) vs)) (lx : xs.length ≤ 281474976710656) (ly : ys.length ≤ 281474976710656) (lu : us.length ≤ 281474976710656) (lv : vs.length ≤ 281474976710656) :
    Calls Tryz.prog 10 #[.agg #[.string s, .int .i32 f, .int .i32 r, .bool n, .slice a1 xs.length ca1, .slice b1 ys.length cb1, .bool m, .slice c1 us.length cc1, .slice d1 vs.length cd1], .agg #[.string s, .int .i32 f, .int .i32 r, .bool n, .slice a2 xs.length ca2, .slice b2 ys.length cb2, .bool m, .slice c2 us.length cc2, .slice d2 vs.length cd2], .agg #[.string s, .int .i32 f, .int .i32 r, .bool n, .slice a3 xs.length ca3, .slice b3 ys.length cb3, .bool m, .slice c3 us.length cc3, .slice d3 vs.length cd3], .int .i64 e, .int .i64 e, .int .i64 e] w fun x w' => x = .returned (.bool true) ∧ Below w.heap.size w w' := by
  obtain ⟨X, hX⟩ : ∃ X, ((w.alloc (.cells #[.string s, .int .i32 f, .int .i32 r, .bool n, .slice a1 xs.length ca1, .slice b1 ys.length cb1, .bool m, .slice c1 us.length cc1, .slice d1 vs.length cd1] 30)).alloc (.cells #[.string s, .int .i32 f, .int .i32 r, .bool n, .slice a2 xs.length ca2, .slice b2 ys.length cb2, .bool m, .slice c2 us.length cc2, .slice d2 vs.length cd2] 30)).alloc (.cells #[.string s, .int .i32 f, .int .i32 r, .bool n, .slice a3 xs.length ca3, .slice b3 ys.length cb3, .bool m, .slice c3 us.length cc3, .slice d3 vs.length cd3] 30) = X := ⟨_, rfl⟩
  have bW : Below w.heap.size w X := by rw [← hX]; exact bt (bt (alloc_later _ _) (alloc_later _ _)) (alloc_later _ _)
  have hz1 : (w.alloc (.cells #[.string s, .int .i32 f, .int .i32 r, .bool n, .slice a1 xs.length ca1, .slice b1 ys.length cb1, .bool m, .slice c1 us.length cc1, .slice d1 vs.length cd1] 30)).heap.size = w.heap.size + 1 := by simp
  have hz2 : ((w.alloc (.cells #[.string s, .int .i32 f, .int .i32 r, .bool n, .slice a1 xs.length ca1, .slice b1 ys.length cb1, .bool m, .slice c1 us.length cc1, .slice d1 vs.length cd1] 30)).alloc (.cells #[.string s, .int .i32 f, .int .i32 r, .bool n, .slice a2 xs.length ca2, .slice b2 ys.length cb2, .bool m, .slice c2 us.length cc2, .slice d2 vs.length cd2] 30)).heap.size = w.heap.size + 2 := by simp
  have HA : Hid (Box X w.heap.size 30 #[.string s, .int .i32 f, .int .i32 r, .bool n, .slice a1 xs.length ca1, .slice b1 ys.length cb1, .bool m, .slice c1 us.length cc1, .slice d1 vs.length cd1]) := by rw [← hX]; exact (Box.made w _ _).later (bt (alloc_later _ _) (alloc_later _ _)) (Box.made w _ _).lt
  have HZ : Hid (Box X (w.heap.size + 1) 30 #[.string s, .int .i32 f, .int .i32 r, .bool n, .slice a2 xs.length ca2, .slice b2 ys.length cb2, .bool m, .slice c2 us.length cc2, .slice d2 vs.length cd2]) := by
    have h := Box.made (w.alloc (.cells #[.string s, .int .i32 f, .int .i32 r, .bool n, .slice a1 xs.length ca1, .slice b1 ys.length cb1, .bool m, .slice c1 us.length cc1, .slice d1 vs.length cd1] 30)) 30 #[.string s, .int .i32 f, .int .i32 r, .bool n, .slice a2 xs.length ca2, .slice b2 ys.length cb2, .bool m, .slice c2 us.length cc2, .slice d2 vs.length cd2]
    have h2 := h.later (alloc_later _ (.cells #[.string s, .int .i32 f, .int .i32 r, .bool n, .slice a3 xs.length ca3, .slice b3 ys.length cb3, .bool m, .slice c3 us.length cc3, .slice d3 vs.length cd3] 30)) h.lt
    rw [hz1, hX] at h2
    exact h2
  have HY : Hid (Box X (w.heap.size + 2) 30 #[.string s, .int .i32 f, .int .i32 r, .bool n, .slice a3 xs.length ca3, .slice b3 ys.length cb3, .bool m, .slice c3 us.length cc3, .slice d3 vs.length cd3]) := by
    have h := Box.made ((w.alloc (.cells #[.string s, .int .i32 f, .int .i32 r, .bool n, .slice a1 xs.length ca1, .slice b1 ys.length cb1, .bool m, .slice c1 us.length cc1, .slice d1 vs.length cd1] 30)).alloc (.cells #[.string s, .int .i32 f, .int .i32 r, .bool n, .slice a2 xs.length ca2, .slice b2 ys.length cb2, .bool m, .slice c2 us.length cc2, .slice d2 vs.length cd2] 30)) 30 #[.string s, .int .i32 f, .int .i32 r, .bool n, .slice a3 xs.length ca3, .slice b3 ys.length cb3, .bool m, .slice c3 us.length cc3, .slice d3 vs.length cd3]
    rw [hz2, hX] at h
    exact h
  have HL1 := hid (osameTide_eq s f r n a1 ca1 xs b1 cb1 ys m c1 cc1 us d1 cd1 vs a3 ca3 b3 cb3 c3 cc3 d3 cd3 X (s1.1.later bW) (s1.2.1.later bW) (s1.2.2.1.later bW) (s1.2.2.2.later bW) (s3.1.later bW) (s3.2.1.later bW) (s3.2.2.1.later bW) (s3.2.2.2.later bW) lx ly lu lv)
  have HL2 := hid (fun V (hv : Below X.heap.size X V) => osameTide_eq s f r n a2 ca2 xs b2 cb2 ys m c2 cc2 us d2 cd2 vs a3 ca3 b3 cb3 c3 cc3 d3 cd3 V ((s2.1.later bW).later hv) ((s2.2.1.later bW).later hv) ((s2.2.2.1.later bW).later hv) ((s2.2.2.2.later bW).later hv) ((s3.1.later bW).later hv) ((s3.2.1.later bW).later hv) ((s3.2.2.1.later bW).later hv) ((s3.2.2.2.later bW).later hv) lx ly lu lv)
  have HB1 := hid bW
  obtain ⟨e0, e1, e2, e3, e4, e5, e6, e7, e8⟩ := okl9 HA.out
  obtain ⟨i0, i1, i2, i3, i4, i5, i6, i7, i8⟩ := okl9 HY.out
  clear s1 s2 s3 bW lx ly lu lv hz1 hz2
  go_enter Tryz.func10, Tryz.ntmps10
  go_wp2_with fail
  clear hX
  refine Calls.mono HL1.out ?_
  rintro x w1 ⟨rfl, hb1⟩
  have HL3 := hid (HL2.out w1 hb1)
  have HB2 := hid (bt HB1.out hb1)
  clear e0 e1 e2 e3 e4 e5 e6 e7 e8 i0 i1 i2 i3 i4 i5 i6 i7 i8 HL1 HL2
  obtain ⟨e0, e1, e2, e3, e4, e5, e6, e7, e8⟩ := okl9 (HZ.out.later hb1 HZ.out.lt)
  obtain ⟨i0, i1, i2, i3, i4, i5, i6, i7, i8⟩ := okl9 (HY.out.later hb1 HY.out.lt)
  clear hb1
  go_wp2_with fail
  refine Calls.mono HL3.out ?_
  rintro x w2 ⟨rfl, hb2⟩
  have HBN := hid (bt HB2.out hb2)
  clear HL3 hb2 e0 e1 e2 e3 e4 e5 e6 e7 e8 i0 i1 i2 i3 i4 i5 i6 i7 i8
  go_wp2_with fail
  go_ret
  exact ⟨rfl, HBN.out⟩
end Go.Proofs.YtldeiapikkebgaaGreatDoor

/- NumbersOf of constituents told as letters, and that what it makes lies apart. (tools/mkqgc.py) -/
namespace Go.Proofs.YtldeiapikkebgaaGreatDoor
open Go.RowKit
set_option linter.unusedVariables false
set_option linter.unusedSimpArgs false

theorem oNumbers (N g cp : Nat) (G : Nat → G6) (w : World) (hN : N ≤ 250) (hN0 : 0 < N) (hk : ∀ V, Below w.heap.size w V → ∀ k, k < N → V.cell? ⟨g, k * 9 + 3, none⟩ = some (.bool (G k).n) ∧ V.cell? ⟨g, k * 9 + 4, none⟩ = some (.slice (G k).a (G k).xs.length (G k).ca) ∧ V.cell? ⟨g, k * 9 + 5, none⟩ = some (.slice (G k).b (G k).ys.length (G k).cb) ∧ V.cell? ⟨g, k * 9 + 6, none⟩ = some (.bool (G k).m) ∧ V.cell? ⟨g, k * 9 + 7, none⟩ = some (.slice (G k).c (G k).us.length (G k).cc) ∧ V.cell? ⟨g, k * 9 + 8, none⟩ = some (.slice (G k).d (G k).vs.length (G k).cd)) (hcp : N ≤ cp) :
    Calls Tryz.prog 13 #[.slice (some ⟨g, 0, none⟩) N cp] w fun e w' => ∃ q d, e = .returned (.slice (some ⟨q, 0, none⟩) N d) ∧ N ≤ d ∧ Below w.heap.size w w' ∧ ∀ V, Below w'.heap.size w' V → ∀ k, k < N → V.cell? ⟨q, k * 6, none⟩ = some (.bool (G k).n) ∧ V.cell? ⟨q, k * 6 + 1, none⟩ = some (.slice (G k).a (G k).xs.length (G k).ca) ∧ V.cell? ⟨q, k * 6 + 2, none⟩ = some (.slice (G k).b (G k).ys.length (G k).cb) ∧ V.cell? ⟨q, k * 6 + 3, none⟩ = some (.bool (G k).m) ∧ V.cell? ⟨q, k * 6 + 4, none⟩ = some (.slice (G k).c (G k).us.length (G k).cc) ∧ V.cell? ⟨q, k * 6 + 5, none⟩ = some (.slice (G k).d (G k).vs.length (G k).cd) := by
  refine Calls.mono (numbersOfN N g cp (fun i => (G (i / 2)).rn (i % 2)) (fun j => (G (j / 4)).ra (j % 4)) (fun j => ((G (j / 4)).rl (j % 4)).length) (fun j => (G (j / 4)).rc (j % 4)) w hN ?_ hcp) ?_
  · intro V hV k hkN
    have q := hk V hV k hkN
    rw [show 2 * k / 2 = k by omega, show 2 * k % 2 = 0 by omega, show (2 * k + 1) / 2 = k by omega, show (2 * k + 1) % 2 = 1 by omega, show 2 * (2 * k) / 4 = k by omega, show 2 * (2 * k) % 4 = 0 by omega, show (2 * (2 * k) + 1) / 4 = k by omega, show (2 * (2 * k) + 1) % 4 = 1 by omega, show 2 * (2 * k + 1) / 4 = k by omega, show 2 * (2 * k + 1) % 4 = 2 by omega, show (2 * (2 * k + 1) + 1) / 4 = k by omega, show (2 * (2 * k + 1) + 1) % 4 = 3 by omega]
    exact q
  · rintro e w' ⟨q, d, rfl, ho, hb⟩
    obtain ⟨g', rfl, hd, hc⟩ := numbers_cells hN0 ho
    refine ⟨g', d, rfl, hd, hb, fun V hV k hkN => ?_⟩
    have q := hc V hV k hkN
    rw [show 2 * k / 2 = k by omega, show 2 * k % 2 = 0 by omega, show (2 * k + 1) / 2 = k by omega, show (2 * k + 1) % 2 = 1 by omega, show 2 * (2 * k) / 4 = k by omega, show 2 * (2 * k) % 4 = 0 by omega, show (2 * (2 * k) + 1) / 4 = k by omega, show (2 * (2 * k) + 1) % 4 = 1 by omega, show 2 * (2 * k + 1) / 4 = k by omega, show 2 * (2 * k + 1) % 4 = 2 by omega, show (2 * (2 * k + 1) + 1) / 4 = k by omega, show (2 * (2 * k + 1) + 1) % 4 = 3 by omega] at q
    exact q
def oThree (p x y : G6) (k : Nat) : G6 := if k = 0 then p else if k = 1 then x else y
theorem oNumbers3 (g : Nat) (p x y : G6) (w : World) (hk : ∀ V, Below w.heap.size w V → ∀ k, k < 3 → V.cell? ⟨g, k * 9 + 3, none⟩ = some (.bool (oThree p x y k).n) ∧ V.cell? ⟨g, k * 9 + 4, none⟩ = some (.slice (oThree p x y k).a (oThree p x y k).xs.length (oThree p x y k).ca) ∧ V.cell? ⟨g, k * 9 + 5, none⟩ = some (.slice (oThree p x y k).b (oThree p x y k).ys.length (oThree p x y k).cb) ∧ V.cell? ⟨g, k * 9 + 6, none⟩ = some (.bool (oThree p x y k).m) ∧ V.cell? ⟨g, k * 9 + 7, none⟩ = some (.slice (oThree p x y k).c (oThree p x y k).us.length (oThree p x y k).cc) ∧ V.cell? ⟨g, k * 9 + 8, none⟩ = some (.slice (oThree p x y k).d (oThree p x y k).vs.length (oThree p x y k).cd)) (base a0 a1 b0 b1 c0 c1 : Nat) (hbs : base ≤ w.heap.size) (hp : p.Wds ∧ (∀ j, j < 4 → (p.rl j).length ≤ 3000) ∧ p.Ow w base ∧ p.In a0 a1) (hx : x.Wds ∧ (∀ j, j < 4 → (x.rl j).length ≤ 3000) ∧ x.Ow w base ∧ x.In b0 b1) (hy : y.Wds ∧ (∀ j, j < 4 → (y.rl j).length ≤ 3000) ∧ y.Ow w base ∧ y.In c0 c1) (ha : a0 ≤ a1 ∧ a1 ≤ b0) (hb' : b0 ≤ b1 ∧ b1 ≤ c0) (hc' : c0 ≤ c1) :
    Calls Tryz.prog 13 #[.slice (some ⟨g, 0, none⟩) 3 3] w fun e w' => ∃ q d, e = .returned (.slice (some ⟨q, 0, none⟩) 3 d) ∧ Below w.heap.size w w' ∧ Hid (Calls Tryz.prog 12 #[.slice (some ⟨q, 0, none⟩) 3 d] w' fun e w'' => e = .returned (.bool true) ∧ Below base w' w'') := by
  refine Calls.mono (oNumbers 3 g 3 (oThree p x y) w (by decide) (by decide) hk (Nat.le_refl _)) ?_
  rintro e w' ⟨q, d, rfl, hd, hb, hc⟩
  have three : ∀ {P : Nat → Prop}, P 0 → P 1 → P 2 → ∀ k, k < 3 → P k := fun h0 h1 h2 k hk => by
    match k, hk with
    | 0, _ => exact h0
    | 1, _ => exact h1
    | 2, _ => exact h2
  refine ⟨q, d, rfl, hb, ?_⟩
  exact gcApart base 3 q d (oThree p x y) w' (by decide) (by decide) hc (Nat.le_trans hbs hb.size) hd (three hp.1 hx.1 hy.1) (three hp.2.1 hx.2.1 hy.2.1) (three (hp.2.2.1.later hb) (hx.2.2.1.later hb) (hy.2.2.1.later hb)) (fun k => if k = 0 then a0 else if k = 1 then b0 else c0) (fun k => if k = 0 then a1 else if k = 1 then b1 else c1) (three hp.2.2.2 hx.2.2.2 hy.2.2.2) (three ha.1 hb'.1 hc') (fun t ht => by
    match t, ht with
    | 0, _ => exact ha.2
    | 1, _ => exact hb'.2)
end Go.Proofs.YtldeiapikkebgaaGreatDoor

